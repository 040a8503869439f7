/-
  Texts of layer 5 and of those below it, put together: contracts and plain mathematics that ScalarSwap needs.
-/
import Derived.WalkKit
import Derived.WalkSpells
import Derived.Below
import Derived.Laws.OwnMore
import Derived.Maps.AppendAt
import Derived.Deep.Draws
import Derived.Lib.Hide
import Derived.Test.YtcimihckhobniaaGreatXM1
import Derived.Handy
import Derived.OrdersHeld
import Derived.Deep.RegionHeld3
import Derived.KernelRfl
import Derived.Tactics
namespace Go.Proofs.YtcimihckhobniaaGreat
namespace Ow
open Go.RowKit
set_option linter.unusedVariables false

/-- From v in w appends have made v' in w': but for v's own row nothing that was there is changed; v' lies in that row, or in a new one. -/
structure Apd (w w' : World) (v v' : Value) : Prop where
  grown : w.grownBy w' v.ownBlock
  at_ : v'.ownBlock = v.ownBlock ∨ ∃ g, v'.ownBlock = some g ∧ w.heap.size ≤ g

theorem Apd.refl (w : World) (v : Value) : Apd w w v v := ⟨World.grownBy.refl _ _, .inl rfl⟩
theorem Apd.trans {a b c : World} {v v1 v2 : Value} (h : Apd a b v v1) (k : Apd b c v1 v2) : Apd a c v v2 := by
  refine ⟨⟨k.grown.os.trans h.grown.os, k.grown.tape.trans h.grown.tape, k.grown.output.trans h.grown.output, Nat.le_trans h.grown.size k.grown.size, fun j hj hne => ?_⟩, ?_⟩
  · have h1 := h.grown.block j hj hne
    refine (k.grown.block j (Nat.lt_of_lt_of_le hj h.grown.size) ?_).trans h1
    rcases h.at_ with e | ⟨g, e, hg⟩
    · rw [e]; exact hne
    · rw [e]; intro he; injection he with he; omega
  · have hs := h.grown.size
    rcases k.at_ with e | ⟨g, e, hg⟩
    · rcases h.at_ with e' | ⟨g, e', hg⟩
      · exact .inl (e.trans e')
      · exact .inr ⟨g, e.trans e', hg⟩
    · exact .inr ⟨g, e, by omega⟩
theorem Apd.alloc (w : World) (o : Obj) (v : Value) : Apd w (w.alloc o) v v := ⟨World.grownBy_alloc w o _, .inl rfl⟩
theorem Apd.below {B : Nat} {w w' : World} {v v' : Value} (h : Apd w w' v v') (hB : B ≤ w.heap.size) (hv : ∀ k, v.ownBlock = some k → B ≤ k) : Below B w w' :=
  (Below.refl _ _).grown h.grown hB hv
theorem Apd.size {w w' : World} {v v' : Value} (h : Apd w w' v v') : w.heap.size ≤ w'.heap.size := h.grown.size
/-- A block that is not v's own reads as it did. -/
theorem Apd.cell {w w' : World} {v v' : Value} (h : Apd w w' v v') {p : Addr} (hp : p.block < w.heap.size) (hne : v.ownBlock ≠ some p.block) : w'.cell? p = w.cell? p :=
  World.cell?_of_block (h.grown.block p.block hp (fun e => hne e.symm))
theorem Apd.frozen {w w' : World} {v v' : Value} (h : Apd w w' v v') {p : Addr} (hp : p.block < w.heap.size) (hne : v.ownBlock ≠ some p.block) : w'.frozen? p = w.frozen? p :=
  World.frozen?_of_block (h.grown.block p.block hp (fun e => hne e.symm))

section
variable {w w' : World} {base : Nat} {e : TypeId} {size n : Nat} {v : Value} {xs : List Value}
end

/-- The slice at A reads as the cells xs; they lie below block B. -/
def Rd (w : World) (B : Nat) (A : Option Addr) (xs : List Value) : Prop :=
  0 < xs.length → ∃ ad, A = some ad ∧ ad.block < B ∧ ∀ j u, xs[j]? = some u → w.cell? (ad.add j) = some u

theorem add_block (a : Addr) (n : Nat) : (a.add n).block = a.block := by unfold Addr.add; split <;> rfl
section
variable {w w' : World} {B B' : Nat} {A : Option Addr} {xs : List Value}
theorem Rd.nil : Rd w B A [] := fun h => absurd h (by simp)
theorem Rd.keep (h : Rd w B A xs) (hk : ∀ p : Addr, p.block < B → w'.cell? p = w.cell? p) : Rd w' B A xs := fun hx => by
  obtain ⟨ad, e, hb, hc⟩ := h hx
  exact ⟨ad, e, hb, fun j u hu => (hk _ (by rw [add_block]; exact hb)).trans (hc j u hu)⟩
theorem Rd.mono (h : Rd w B A xs) (hB : B ≤ B') : Rd w B' A xs := fun hx => by
  obtain ⟨ad, e, hb, hc⟩ := h hx
  exact ⟨ad, e, by omega, hc⟩
theorem Rd.below (h : Rd w B A xs) (hb : Below B w w') : Rd w' B A xs := h.keep fun _ hp => hb.cell hp
theorem Rd.alloc (h : Rd w B A xs) (hB : B ≤ w.heap.size) (o : Obj) : Rd (w.alloc o) B A xs := h.keep fun p hp => World.cell?_alloc_lt w o p (by omega)
theorem Rd.take (h : Rd w B A xs) (n : Nat) : Rd w B A (xs.take n) := fun hx => by
  rw [List.length_take] at hx
  obtain ⟨ad, e, hb, hc⟩ := h (by omega)
  refine ⟨ad, e, hb, fun j u hu => hc j u ?_⟩
  rw [List.getElem?_take] at hu
  split at hu
  · exact hu
  · cases hu
theorem Rd.at_ (h : Rd w B A xs) {k : Nat} (hk : k < xs.length) : ∃ ad, A = some ad ∧ ad.block < B ∧ w.cell? (ad.add k) = some xs[k] := by
  obtain ⟨ad, e, hb, hc⟩ := h (by omega)
  exact ⟨ad, e, hb, hc k _ (List.getElem?_eq_getElem hk)⟩
end
/-- A block that is known whole. -/
def Bk (w : World) (b : Nat) (t : TypeId) (cs : Array Value) : Prop := w.heap[b]? = some (.cells cs t (0, 0))
section
variable {w w' : World} {b : Nat} {t : TypeId} {cs : Array Value}
theorem Bk.lt (h : Bk w b t cs) : b < w.heap.size := lt_of_block h
theorem Bk.new (w : World) (t : TypeId) (cs : Array Value) : Bk (w.alloc (.cells cs t)) w.heap.size t cs := heap_alloc_new w _
theorem Bk.cell (h : Bk w b t cs) (i : Nat) : w.cell? ⟨b, i, none⟩ = cs[i]? := cell_of_row w b i cs t (0, 0) h
theorem Bk.frozen (h : Bk w b t cs) (i : Nat) : w.frozen? ⟨b, i, none⟩ = false := frozen_of_row w b i cs t h
theorem Bk.drew (h : Bk w b t cs) : Bk w.drew b t cs := h
theorem Bk.below {B : Nat} (h : Bk w b t cs) (hb : Below B w w') (hB : b < B) : Bk w' b t cs := (hb.block b hB).trans h
theorem Bk.alloc (h : Bk w b t cs) (o : Obj) : Bk (w.alloc o) b t cs := (Below.heap_alloc w o b h.lt).trans h
theorem Bk.set_ (h : Bk w b t cs) (i : Nat) (u : Value) : Bk (w.setCell ⟨b, i, none⟩ u) b t (cs.setIfInBounds i u) := heap_setCell_same w b i cs t u h
end
end Ow
end Go.Proofs.YtcimihckhobniaaGreat
namespace Go.Proofs.YtcimihckhobniaaGreat.Rg
open Go.RowKit Ow
set_option linter.unusedVariables false
def findR (n : Nat) : Code → Option Code
  | .region id ops d => if id = n then some (.region id ops d) else none
  | .loop c => findR n c
  | .seq a b => (findR n a).or (findR n b)
  | .block _ c => findR n c
  | .scope c => findR n c
  | .cond _ a b => (findR n a).or (findR n b)
  | _ => none
theorem bth {B : Nat} {w w1 w2 : World} (h1 : Below B w w1) (h2 : Below w1.heap.size w1 w2) (hB : B ≤ w.heap.size) : Below B w w2 := h1.trans (h2.mono (by have := h1.size; omega))
theorem bkk {w w1 : World} {r : Nat} {t : TypeId} {cs : Array Value} (h : Bk w r t cs) (qb : Below w.heap.size w w1) : Bk w1 r t cs := h.below qb h.lt
theorem grow1 (z : World) (o : Obj) : Below z.heap.size z (z.alloc o) := (Below.refl _ _).alloc (Nat.le_refl _) o
end Go.Proofs.YtcimihckhobniaaGreat.Rg
namespace Go.Proofs.YtcimihckhobniaaGreat.Gw
open Go.RowKit Ow
set_option linter.unusedVariables false

theorem p0 {a : Act} {d : Tmp} {v : Value} : Act.put a (some d) v = ⟨a.tmps.setIfInBounds d v, a.defers⟩ := rfl
/-- Once so, it stays so whatever memory is made. -/
def Stays (T : World → Prop) : Prop := ∀ w w', T w → Below w.heap.size w w' → T w'

/-! ### What is owned: blocks known whole, each another, made since w0 -/
structure Mem (w0 : World) (L : List (Nat × Obj)) (w : World) : Prop where
  below : Below w0.heap.size w0 w
  nodup : (L.map (·.1)).Nodup
  own : ∀ x ∈ L, w0.heap.size ≤ x.1 ∧ w.heap[x.1]? = some x.2

section
variable {w0 w w' : World} {L : List (Nat × Obj)}
theorem Mem.nil (w : World) : Mem w [] w := ⟨Below.refl _ _, by simp, by simp⟩
theorem Mem.grow (h : Mem w0 L w) (hb : Below w.heap.size w w') : Mem w0 L w' :=
  ⟨h.below.trans (hb.mono h.below.size), h.nodup, fun x hx => ⟨(h.own x hx).1, (hb.block x.1 (lt_of_block (h.own x hx).2)).trans (h.own x hx).2⟩⟩
theorem Mem.stays : Stays (Mem w0 L) := fun _ _ h hb => h.grow hb
theorem Mem.drew (h : Mem w0 L w) : Mem w0 L w.drew := ⟨h.below.drew, h.nodup, h.own⟩
theorem Mem.alloc (h : Mem w0 L w) (o : Obj) : Mem w0 ((w.heap.size, o) :: L) (w.alloc o) := by
  refine ⟨h.below.alloc h.below.size o, ?_, ?_⟩
  · rw [List.map_cons, List.nodup_cons]
    refine ⟨fun hm => ?_, h.nodup⟩
    obtain ⟨x, hx, e⟩ := List.mem_map.1 hm
    have := lt_of_block (h.own x hx).2
    omega
  · intro x hx
    rcases List.mem_cons.1 hx with rfl | hx
    · exact ⟨h.below.size, heap_alloc_new w o⟩
    · exact ⟨(h.own x hx).1, (Below.heap_alloc w o x.1 (lt_of_block (h.own x hx).2)).trans (h.own x hx).2⟩
theorem Mem.tail {x : Nat × Obj} (h : Mem w0 (x :: L) w) : Mem w0 L w :=
  ⟨h.below, (List.nodup_cons.1 h.nodup).2, fun y hy => h.own y (List.mem_cons_of_mem _ hy)⟩
theorem Mem.sub {L' : List (Nat × Obj)} (h : Mem w0 L w) (hs : L'.Sublist L) : Mem w0 L' w :=
  ⟨h.below, h.nodup.sublist (hs.map _), fun y hy => h.own y (hs.subset hy)⟩
theorem Mem.bk (h : Mem w0 L w) (i : Nat) {r : Nat} {t : TypeId} {cs : Array Value} (e : L[i]? = some (r, .cells cs t)) : Bk w r t cs := (h.own _ (List.mem_of_getElem? e)).2
theorem Mem.cell (h : Mem w0 L w) (i j : Nat) {r : Nat} {t : TypeId} {cs : Array Value} {v : Value} (e : L[i]? = some (r, .cells cs t) := by rfl) (hv : cs[j]? = some v := by rfl) : w.cell? ⟨r, j, none⟩ = some v := ((h.bk i e).cell j).trans hv
theorem Mem.frozen (h : Mem w0 L w) (i j : Nat) {r : Nat} {t : TypeId} {cs : Array Value} (e : L[i]? = some (r, .cells cs t) := by rfl) : w.frozen? ⟨r, j, none⟩ = false := (h.bk i e).frozen j
theorem Mem.set (h : Mem w0 L w) (i j : Nat) {r : Nat} {t : TypeId} {cs : Array Value} (u : Value) (e : L[i]? = some (r, .cells cs t) := by rfl) :
    Mem w0 (L.set i (r, .cells (cs.setIfInBounds j u) t)) (w.setCell ⟨r, j, none⟩ u) := by
  have hi : i < L.length := (List.getElem?_eq_some_iff.1 e).1
  have he : L[i] = (r, .cells cs t) := (List.getElem?_eq_some_iff.1 e).2
  have hb := h.own _ (List.mem_of_getElem? e)
  have hn : (L.set i (r, .cells (cs.setIfInBounds j u) t)).map (·.1) = L.map (·.1) := by
    rw [List.map_set]
    refine List.ext_getElem (by simp) ?_
    intro k h1 h2
    rw [List.getElem_set]
    split
    · subst_vars; simp [he]
    · rfl
  refine ⟨h.below.setCell (p := ⟨r, j, none⟩) hb.1 u, by rw [hn]; exact h.nodup, ?_⟩
  intro x hx
  obtain ⟨k, hk, rfl⟩ := List.getElem_of_mem hx
  rw [List.getElem_set]
  by_cases hik : i = k
  · rw [if_pos hik]
    exact ⟨hb.1, heap_setCell_same w r j cs t u hb.2⟩
  · rw [if_neg hik]
    have hk' : k < L.length := by simpa using hk
    have hx2 := h.own L[k] (List.getElem_mem hk')
    refine ⟨hx2.1, (Below.heap_setCell w ⟨r, j, none⟩ u L[k].1 ?_).trans hx2.2⟩
    intro e2
    have hnd := h.nodup
    have h1 : (L.map (·.1))[k]'(by simpa using hk') = (L.map (·.1))[i]'(by simpa using hi) := by
      rw [List.getElem_map, List.getElem_map, he]; exact e2
    have h2 := List.pairwise_iff_getElem.1 hnd
    rcases Nat.lt_or_gt_of_ne hik with h3 | h3
    · exact h2 i k (by simpa using hi) (by simpa using hk') h3 h1.symm
    · exact h2 k i (by simpa using hk') (by simpa using hi) h3 h1
theorem Mem.c2 (h : Mem w0 L w) (i j k : Nat) {r : Nat} {t : TypeId} {cs : Array Value} {v u : Value} (e : L[i]? = some (r, .cells cs t) := by rfl) (hv : cs[j]? = some v := by rfl) (hu : cs[k]? = some u := by rfl) :
    w.cell? ⟨r, j, none⟩ = some v ∧ w.cell? ⟨r, k, none⟩ = some u := ⟨h.cell i j e hv, h.cell i k e hu⟩
theorem Mem.c6 (h : Mem w0 L w) (i : Nat) {r : Nat} {t : TypeId} {cs : Array Value} {v0 v1 v2 v3 v4 v5 : Value} (e : L[i]? = some (r, .cells cs t) := by rfl) (h0 : cs[0]? = some v0 := by rfl) (h1 : cs[1]? = some v1 := by rfl)
    (h2 : cs[2]? = some v2 := by rfl) (h3 : cs[3]? = some v3 := by rfl) (h4 : cs[4]? = some v4 := by rfl) (h5 : cs[5]? = some v5 := by rfl) :
    w.cell? ⟨r, 0, none⟩ = some v0 ∧ w.cell? ⟨r, 1, none⟩ = some v1 ∧ w.cell? ⟨r, 2, none⟩ = some v2 ∧ w.cell? ⟨r, 3, none⟩ = some v3 ∧ w.cell? ⟨r, 4, none⟩ = some v4 ∧ w.cell? ⟨r, 5, none⟩ = some v5 :=
  ⟨h.cell i 0 e h0, h.cell i 1 e h1, h.cell i 2 e h2, h.cell i 3 e h3, h.cell i 4 e h4, h.cell i 5 e h5⟩
theorem Mem.f2 (h : Mem w0 L w) (i j k : Nat) {r : Nat} {t : TypeId} {cs : Array Value} (e : L[i]? = some (r, .cells cs t) := by rfl) : w.frozen? ⟨r, j, none⟩ = false ∧ w.frozen? ⟨r, k, none⟩ = false := ⟨h.frozen i j e, h.frozen i k e⟩
theorem Mem.f6 (h : Mem w0 L w) (i : Nat) {r : Nat} {t : TypeId} {cs : Array Value} (e : L[i]? = some (r, .cells cs t) := by rfl) :
    w.frozen? ⟨r, 0, none⟩ = false ∧ w.frozen? ⟨r, 1, none⟩ = false ∧ w.frozen? ⟨r, 2, none⟩ = false ∧ w.frozen? ⟨r, 3, none⟩ = false ∧ w.frozen? ⟨r, 4, none⟩ = false ∧ w.frozen? ⟨r, 5, none⟩ = false :=
  ⟨h.frozen i 0 e, h.frozen i 1 e, h.frozen i 2 e, h.frozen i 3 e, h.frozen i 4 e, h.frozen i 5 e⟩
/-- What a call leaves, beside what there was. -/
theorem Mem.with {N : List (Nat × Obj)} (h : Mem w0 L w) (k : Mem w N w') : Mem w0 (N ++ L) w' := by
  refine ⟨h.below.trans (k.below.mono h.below.size), ?_, ?_⟩
  · rw [List.map_append, List.nodup_append]
    refine ⟨k.nodup, h.nodup, ?_⟩
    intro x hx y hy e
    obtain ⟨p, hp, rfl⟩ := List.mem_map.1 hx
    obtain ⟨q, hq, rfl⟩ := List.mem_map.1 hy
    have h1 := (k.own p hp).1
    have h2 := lt_of_block (h.own q hq).2
    omega
  · intro x hx
    rcases List.mem_append.1 hx with hx | hx
    · exact ⟨Nat.le_trans h.below.size (k.own x hx).1, (k.own x hx).2⟩
    · exact ⟨(h.own x hx).1, (k.below.block x.1 (lt_of_block (h.own x hx).2)).trans (h.own x hx).2⟩
end
/-- What comes of an operation: v, the world as it was but for new memory. -/
def Res (P : Program) (v : Value) (w : World) : Result Next → Prop
  | .ok (.value u) w' => u = v ∧ w' = w
  | .ok (.enter f args) w' => w' = w ∧ Calls P f args w (fun e w'' => e = .returned v ∧ Below w.heap.size w w'')
  | _ => False

section
variable {P : Program} {ops : Array Oper} {Q : Exit → Act → World → Prop} {md : Region.Mode} {S : World → Prop}

/-- In every world that meets S the operation leaves v, and makes new memory at most; or it is not wanted. -/
def Gives (P : Program) (ops : Array Oper) (S : World → Prop) (o : Oper) (v : Value) (a : Act) : Prop :=
  (Region.wanted o (yielded ops a.tmps) = true ∧ ∀ w, S w → Res P v w ((execOp a.eval o).run P w)) ∨ (Region.wanted o (yielded ops a.tmps) = false ∧ v = undef)

theorem Gives.same {o : Oper} {v : Value} {a b : Act} (h : Gives P ops S o v a) (he : execOp b.eval o = execOp a.eval o)
    (hw : Region.wanted o (yielded ops b.tmps) = Region.wanted o (yielded ops a.tmps)) : Gives P ops S o v b := by
  unfold Gives at h ⊢; rw [he, hw]; exact h
theorem Gives.less {S' : World → Prop} {o : Oper} {v : Value} {a : Act} (h : Gives P ops S o v a) (hs : ∀ z, S' z → S z) : Gives P ops S' o v a := by
  rcases h with ⟨h1, h2⟩ | h
  · exact .inl ⟨h1, fun w hw => h2 w (hs w hw)⟩
  · exact .inr h

/-- Operation j leaves it open whether i was done before. -/
theorem other {j : Nat} {oi oj : Oper} {v : Value} (hj : ops[j]? = some oj) (hap : oi.apart ops oj = true)
    (hsi : ∀ cs b, oi.op ≠ .select cs b) (hsj : ∀ cs b, oj.op ≠ .select cs b)
    (hQ : ∀ c a w, Q (.panic c) (a.put oi.dst v) w → Q (.panic c) a w) {K : Act → World → Prop} {a : Act} {w : World}
    (hy : Gives P ops S oi v a) (h : wpOp P ops Q j K (a.put oi.dst v) w) :
    wpOp P ops Q j (fun b z => Gives P ops S oi v b ∧ K (b.put oi.dst v) z) a w := by
  obtain ⟨p1, p2, p3⟩ := Oper.apart_spec hap
  have stay : ∀ (b : Act), Gives P ops S oi v b → ∀ u, Gives P ops S oi v (b.put oj.dst u) := fun b hb u =>
    hb.same (execOp_put oi hsi b oj.dst u p3) (wanted_put oi b oj.dst u p3)
  have swap : ∀ (b : Act) u, (b.put oi.dst v).put oj.dst u = (b.put oj.dst u).put oi.dst v := fun b u => Act.put_comm b v u p2
  have hd : ∀ d, Gives P ops S oi v { a with defers := d :: a.defers } := fun d => hy.same rfl rfl
  have ex : execOp (a.put oi.dst v).eval oj = execOp a.eval oj := execOp_put oj hsj a oi.dst v p1
  have wa := wanted_put oj a oi.dst v p1
  unfold wpOp at h ⊢
  simp only [hj] at h ⊢
  rw [wa] at h
  by_cases hw : Region.wanted oj (yielded ops a.tmps) = true
  · rw [if_pos hw] at h ⊢
    rcases h with h | ⟨h1, h2⟩
    · left
      unfold Oper.wp at h ⊢
      rw [ex] at h
      revert h
      generalize (execOp a.eval oj).run P w = r
      intro h
      cases r with
      | ok n z =>
        cases n with
        | value u => exact ⟨stay a hy u, by rw [← swap]; exact h⟩
        | skip => exact ⟨stay a hy _, by rw [← swap]; exact h⟩
        | defer d => exact ⟨stay _ (hd d) _, by rw [← swap, ← Act.put_defers]; exact h⟩
        | enter f args =>
          refine Calls.mono h ?_
          intro e z he
          cases e with
          | returned u => exact ⟨stay a hy u, by rw [← swap]; exact he⟩
          | panicked c => exact hQ _ _ _ he
          | outgrown => exact he
        | row n args => exact Rows.mono h fun u z he => ⟨stay a hy u, by rw [← swap]; exact he⟩
        | _ => exact h
      | halt x z => cases x with
        | panic u => exact hQ _ _ _ h
        | _ => exact h
    · right
      exact ⟨by unfold Oper.asks at h1 ⊢; rw [ex] at h1; exact h1, h2⟩
  · rw [if_neg hw] at h ⊢
    exact ⟨stay a hy _, by rw [← swap]; exact h⟩

/-- Whatever order is picked from here on; of the world T alone is known, behind each operation anew: no less than before, but behind those of F. -/
def anyW (P : Program) (md : Region.Mode) (ops : Array Oper) (Q : Exit → Act → World → Prop) (F : List Nat) (G : World → Prop) : Nat → Array Bool → Act → (World → Prop) → Prop
  | 0, l, a, T => Region.ready md ops l = [] ∧ ∀ w, T w → Q .normal a w
  | n + 1, l, a, T => (Region.ready md ops l = [] → ∀ w, T w → Q .normal a w) ∧
      ∀ i ∈ Region.ready md ops l, ∀ w, T w → wpOp P ops Q i (fun a' w' => ∃ T', Stays T' ∧ (F.contains i = false → ∀ z, T' z → T z) ∧ (∀ z, T' z → G z) ∧ T' w' ∧ anyW P md ops Q F G n (l.setIfInBounds i true) a' T') a w

variable {F : List Nat} {G : World → Prop}
theorem anyW.any : ∀ (n : Nat) (l : Array Bool) (a : Act) (T : World → Prop) (w : World), anyW P md ops Q F G n l a T → T w → wpAny P md ops Q n l a w
  | 0, _, _, _, w, h, hT => ⟨h.1, h.2 w hT⟩
  | n + 1, _, _, _, w, h, hT => ⟨fun e => h.1 e w hT, fun i hi => wpOp_mono (fun a' w' ⟨T', _, _, _, h3, h4⟩ => anyW.any n _ a' T' w' h4 h3) (h.2 i hi w hT)⟩

/-- Those of F wait for i. -/
def waits (md : Region.Mode) (ops : Array Oper) (F : List Nat) (l : Array Bool) (i : Nat) : Bool :=
  F.all fun j => l.getD j true || match ops[j]? with | some o => o.after.any (fun e => Region.binds md e && e.on == i) | none => true

theorem waits.more {l : Array Bool} {i k : Nat} (h : waits md ops F l i = true) : waits md ops F (l.setIfInBounds k true) i = true := by
  unfold waits at h ⊢
  rw [List.all_eq_true] at h ⊢
  intro j hj
  have := h j hj
  by_cases hkj : k = j
  · subst hkj
    have : (l.setIfInBounds k true).getD k true = true := by
      rw [Array.getD_eq_getD_getElem?, Array.getElem?_setIfInBounds]
      split
      · split <;> rfl
      · cases l[k]? <;> simp_all
    rw [this]; rfl
  · rw [getD_set_ne true hkj]; exact this

theorem first {i : Nat} {oi : Oper} {v : Value} (hi : ops[i]? = some oi) (hsel : ∀ (j : Nat) (o : Oper) cs b, ops[j]? = some o → o.op ≠ .select cs b)
    (hQ : ∀ c a w, Q (.panic c) (a.put oi.dst v) w → Q (.panic c) a w) :
    ∀ (n : Nat) (l : Array Bool) (a : Act) (T : World → Prop), waits md ops F l i = true ∨ (∀ z, G z → S z) → (∀ z, T z → S z) → (∀ z, T z → G z) →
      (∀ j oj, ops[j]? = some oj → j ≠ i → l.getD j true = false → (∀ e ∈ oj.after, Region.binds md e = true → e.on ≠ i) → oi.apart ops oj = true) →
      i ∈ Region.ready md ops l → Gives P ops S oi v a → Stays T →
      anyW P md ops Q F G n (l.setIfInBounds i true) (a.put oi.dst v) T → anyW P md ops Q F G (n + 1) l a T := by
  have own : ∀ (a : Act) (T : World → Prop) (K : Act → World → Prop) (w : World), (∀ z, T z → S z) → Gives P ops S oi v a → Stays T → T w → (∀ z, T z → K (a.put oi.dst v) z) → wpOp P ops Q i K a w := by
    intro a T K w hS hy hT hw hK
    unfold wpOp
    simp only [hi]
    rcases hy with ⟨h1, h2⟩ | ⟨h1, h2⟩
    · rw [if_pos h1]
      left
      have h3 := h2 w (hS w hw)
      unfold Oper.wp
      revert h3
      generalize (execOp a.eval oi).run P w = r
      intro h3
      cases r with
      | ok n z =>
        cases n with
        | value u => obtain ⟨e1, e2⟩ := h3; rw [e1, e2]; exact hK w hw
        | enter f args =>
          obtain ⟨e1, e2⟩ := h3
          rw [e1]
          refine Calls.mono e2 ?_
          rintro e z ⟨rfl, hb⟩
          exact hK z (hT w z hw hb)
        | _ => exact absurd h3 id
      | halt x z => exact absurd h3 id
    · rw [if_neg (by rw [h1]; decide), ← h2]
      exact hK w hw
  intro n
  induction n with
  | zero =>
    intro l a T _ hS hG _ hr hy hT H
    refine ⟨fun h => (by rw [h] at hr; cases hr), fun j hj w hw => ?_⟩
    by_cases hji : j = i
    · subst hji; exact own a T _ w hS hy hT hw (fun z hz => ⟨T, hT, fun _ _ h => h, hG, hz, H⟩)
    · have := ready_mono hj hji
      rw [H.1] at this
      cases this
  | succ n ih =>
    intro l a T hF hS hG hfree hr hy hT H
    refine ⟨fun h => (by rw [h] at hr; cases hr), fun j hj w hw => ?_⟩
    by_cases hji : j = i
    · subst hji; exact own a T _ w hS hy hT hw (fun z hz => ⟨T, hT, fun _ _ h => h, hG, hz, H⟩)
    · have g1 := H.2 j (ready_mono hj hji) w hw
      obtain ⟨hjun, oj, hoj, hall⟩ := mem_ready.1 hj
      have hnot : ∀ e ∈ oj.after, Region.binds md e = true → e.on ≠ i := by
        intro e he hb heq
        have q1 := hall e he hb
        have q0 := (mem_ready.1 hr).1
        rw [heq] at q1
        rcases Nat.lt_or_ge i l.size with h' | h'
        · simp [h'] at q0 q1; rw [q0] at q1; cases q1
        · simp [Array.getElem?_eq_none h'] at q1
      have hjF : F.contains j = false ∨ ∀ z, G z → S z := by
        rcases hF with hF | hF
        · left
          cases hc : F.contains j with
          | false => rfl
          | true =>
            have h1 := List.all_eq_true.1 hF j (by simpa using hc)
            rw [hjun] at h1
            simp only [hoj, Bool.false_or] at h1
            obtain ⟨e, he, hb⟩ := Array.any_eq_true'.1 h1
            simp only [Bool.and_eq_true, beq_iff_eq] at hb
            exact absurd hb.2 (hnot e he hb.1)
        · exact .inr hF
      have g2 := other hoj (hfree j oj hoj hji hjun hnot) (fun cs b => hsel i oi cs b hi) (fun cs b => hsel j oj cs b hoj) hQ hy g1
      have hfree' : ∀ k ok, ops[k]? = some ok → k ≠ i → (l.setIfInBounds j true).getD k true = false →
          (∀ e ∈ ok.after, Region.binds md e = true → e.on ≠ i) → oi.apart ops ok = true := by
        intro k ok hk hki hun hno
        refine hfree k ok hk hki ?_ hno
        by_cases hjk : j = k
        · subst hjk; exact hjun
        · rw [getD_set_ne true hjk] at hun; exact hun
      refine wpOp_mono ?_ g2
      rintro a' w' ⟨h1, T', h2, h3, h6, h4, h5⟩
      refine ⟨T', h2, h3, h6, h4, ih (l.setIfInBounds j true) a' T' (hF.imp (fun h => waits.more h) id) (fun z hz => ?_) h6 hfree' (ready_mono hr (Ne.symm hji)) h1 h2 ?_⟩
      · rcases hjF with h | h
        · exact hS z (h3 h z hz)
        · exact h z (h6 z hz)
      rw [Array.setIfInBounds_comm _ _ hji]
      exact h5

/-! ### Steps -/
def mayW (md : Region.Mode) (ops : Array Oper) (l : Array Bool) (i : Nat) : Bool :=
  Region.noSelect ops && (Region.free md ops l i && (Region.ready md ops l).contains i)
def may (md : Region.Mode) (ops : Array Oper) (F : List Nat) (l : Array Bool) (i : Nat) : Bool := mayW md ops l i && waits md ops F l i
section
variable {o : Oper} {n : Nat} {l : Array Bool} {a : Act} {T : World → Prop}
theorem take (i : Nat) {v : Value} (hl : ops.toList[i]? = some o) (hb : mayW md ops l i = true) (hF : waits md ops F l i = true ∨ (∀ z, G z → S z)) (hS : ∀ z, T z → S z) (hG : ∀ z, T z → G z) (hQ : ∀ c a w, Q (.panic c) (a.put o.dst v) w → Q (.panic c) a w) (hT : Stays T)
    (hy : Gives P ops S o v a) (h : anyW P md ops Q F G n (l.setIfInBounds i true) (a.put o.dst v) T) : anyW P md ops Q F G (n + 1) l a T := by
  unfold mayW at hb
  simp only [Bool.and_eq_true] at hb
  have hi : ops[i]? = some o := Array.getElem?_toList.symm.trans hl
  exact first hi (Region.noSelect_spec hb.1) hQ n l a T hF hS hG (Region.free_spec hi hb.2.1) (by simpa using hb.2.2) hy hT h
theorem may1 {i : Nat} (h : may md ops F l i = true) : mayW md ops l i = true := by unfold may at h; simp only [Bool.and_eq_true] at h; exact h.1
theorem may2 {i : Nat} (h : may md ops F l i = true) : waits md ops F l i = true := by unfold may at h; simp only [Bool.and_eq_true] at h; exact h.2
/-- One that computes, whatever the world. -/
theorem tw (i : Nat) (v : Value) (h : anyW P md ops Q F G n (l.setIfInBounds i true) (a.put o.dst v) T) (hl : ops.toList[i]? = some o := by rfl) (hy : ∀ w, (execOp a.eval o).run P w = .ok (.value v) w := by intro w; go_simp <;> try with_reducible rfl) (hb : mayW md ops l i = true := by kernel_rfl) (hw : Region.wanted o (yielded ops a.tmps) = true := by rfl) (hQ : ∀ c a d v w, Q (.panic c) (Act.put a d v) w → Q (.panic c) a w := by assumption) (hG : ∀ z, T z → G z := by first | assumption | exact fun _ h => h) (hT : Stays T := by exact Gw.Mem.stays) : anyW P md ops Q F G (n + 1) l a T :=
  take (S := fun _ => True) i hl hb (.inr fun _ _ => trivial) (fun _ _ => trivial) hG (fun c a w => hQ c a _ _ w) hT (.inl ⟨hw, fun w _ => by rw [hy w]; exact ⟨rfl, rfl⟩⟩) h
/-- One that computes, or reads. -/
theorem tq (i : Nat) (v : Value) (hy : ∀ w, T w → (execOp a.eval o).run P w = .ok (.value v) w) (h : anyW P md ops Q F G n (l.setIfInBounds i true) (a.put o.dst v) T) (hl : ops.toList[i]? = some o := by rfl) (hb : may md ops F l i = true := by kernel_rfl) (hw : Region.wanted o (yielded ops a.tmps) = true := by rfl) (hQ : ∀ c a d v w, Q (.panic c) (Act.put a d v) w → Q (.panic c) a w := by assumption) (hG : ∀ z, T z → G z := by first | assumption | exact fun _ h => h) (hT : Stays T := by exact Gw.Mem.stays) : anyW P md ops Q F G (n + 1) l a T :=
  take i hl (may1 hb) (.inl (may2 hb)) (fun _ h => h) hG (fun c a w => hQ c a _ _ w) hT (.inl ⟨hw, fun w hw => by rw [hy w hw]; exact ⟨rfl, rfl⟩⟩) h
/-- A call. -/
theorem tk (i : Nat) (v : Value) (f : FuncId) (args : Array Value) (hc : ∀ w, T w → Calls P f args w (fun e w' => e = .returned v ∧ Below w.heap.size w w')) (h : anyW P md ops Q F G n (l.setIfInBounds i true) (a.put o.dst v) T)
    (hl : ops.toList[i]? = some o := by rfl) (hy : ∀ w, T w → (execOp a.eval o).run P w = .ok (.enter f args) w := by intro w M; go_simp) (hb : may md ops F l i = true := by kernel_rfl) (hw : Region.wanted o (yielded ops a.tmps) = true := by rfl) (hQ : ∀ c a d v w, Q (.panic c) (Act.put a d v) w → Q (.panic c) a w := by assumption) (hG : ∀ z, T z → G z := by first | assumption | exact fun _ h => h) (hT : Stays T := by exact Gw.Mem.stays) : anyW P md ops Q F G (n + 1) l a T :=
  take i hl (may1 hb) (.inl (may2 hb)) (fun _ h => h) hG (fun c a w => hQ c a _ _ w) hT (.inl ⟨hw, fun w hw => by rw [hy w hw]; exact ⟨rfl, hc w hw⟩⟩) h
/-- One that reads what nobody in the region writes. -/
theorem tg (i : Nat) (v : Value) (hy : ∀ w, G w → (execOp a.eval o).run P w = .ok (.value v) w) (h : anyW P md ops Q F G n (l.setIfInBounds i true) (a.put o.dst v) T) (hl : ops.toList[i]? = some o := by rfl) (hb : mayW md ops l i = true := by kernel_rfl) (hw : Region.wanted o (yielded ops a.tmps) = true := by rfl) (hQ : ∀ c a d v w, Q (.panic c) (Act.put a d v) w → Q (.panic c) a w := by assumption) (hG : ∀ z, T z → G z := by first | assumption | exact fun _ h => h) (hT : Stays T := by exact Gw.Mem.stays) : anyW P md ops Q F G (n + 1) l a T :=
  take (S := G) i hl hb (.inr fun _ h => h) hG hG (fun c a w => hQ c a _ _ w) hT (.inl ⟨hw, fun w hw => by rw [hy w hw]; exact ⟨rfl, rfl⟩⟩) h
/-- A call that asks nothing of the world. -/
theorem tkw (i : Nat) (v : Value) (f : FuncId) (args : Array Value) (hc : ∀ w, Calls P f args w (fun e w' => e = .returned v ∧ Below w.heap.size w w')) (h : anyW P md ops Q F G n (l.setIfInBounds i true) (a.put o.dst v) T)
    (hl : ops.toList[i]? = some o := by rfl) (hy : ∀ w, (execOp a.eval o).run P w = .ok (.enter f args) w := by intro w; go_simp) (hb : mayW md ops l i = true := by kernel_rfl) (hw : Region.wanted o (yielded ops a.tmps) = true := by rfl) (hQ : ∀ c a d v w, Q (.panic c) (Act.put a d v) w → Q (.panic c) a w := by assumption) (hG : ∀ z, T z → G z := by first | assumption | exact fun _ h => h) (hT : Stays T := by exact Gw.Mem.stays) : anyW P md ops Q F G (n + 1) l a T :=
  take (S := fun _ => True) i hl hb (.inr fun _ _ => trivial) (fun _ _ => trivial) hG (fun c a w => hQ c a _ _ w) hT (.inl ⟨hw, fun w _ => by rw [hy w]; exact ⟨rfl, hc w⟩⟩) h
/-- One that is not wanted. -/
theorem tu (i : Nat) (h : anyW P md ops Q F G n (l.setIfInBounds i true) (a.put o.dst undef) T) (hl : ops.toList[i]? = some o := by rfl) (hb : mayW md ops l i = true := by kernel_rfl) (hw : Region.wanted o (yielded ops a.tmps) = false := by rfl) (hQ : ∀ c a d v w, Q (.panic c) (Act.put a d v) w → Q (.panic c) a w := by assumption) (hG : ∀ z, T z → G z := by first | assumption | exact fun _ h => h) (hT : Stays T := by exact Gw.Mem.stays) : anyW P md ops Q F G (n + 1) l a T :=
  take (S := fun _ => True) i hl hb (.inr fun _ _ => trivial) (fun _ _ => trivial) hG (fun c a w => hQ c a _ _ w) hT (.inr ⟨hw, rfl⟩) h
/-- The only one that may come up: whatever it does. -/
theorem ts (i : Nat) (hl : ops.toList[i]? = some o) (hr : Region.ready md ops l = [i])
    (h : ∀ w, T w → ∀ K' : Act → World → Prop, Shut (∀ T' a w, Stays T' → (F.contains i = false → ∀ z, T' z → T z) → (∀ z, T' z → G z) → T' w → anyW P md ops Q F G n (l.setIfInBounds i true) a T' → K' a w) →
      if Region.wanted o (yielded ops a.tmps) = true then Oper.wp P o a w K' Q else K' (a.put o.dst undef) w) : anyW P md ops Q F G (n + 1) l a T := by
  have hi : ops[i]? = some o := Array.getElem?_toList.symm.trans hl
  refine ⟨fun e => (by rw [hr] at e; cases e), fun j hj w hw => ?_⟩
  rw [hr] at hj
  obtain rfl : j = i := by simpa using hj
  have := h w hw (fun a' w' => ∃ T', Stays T' ∧ (F.contains j = false → ∀ z, T' z → T z) ∧ (∀ z, T' z → G z) ∧ T' w' ∧ anyW P md ops Q F G n (l.setIfInBounds j true) a' T') (fun T' a w h1 h2 h3 h4 h5 => ⟨T', h1, h2, h3, h4, h5⟩)
  unfold wpOp
  simp only [hi]
  by_cases hw : Region.wanted o (yielded ops a.tmps) = true
  · rw [if_pos hw] at this ⊢; exact .inl this
  · rw [if_neg hw] at this ⊢; exact this
theorem td (hr : Region.ready md ops l = []) (h : ∀ w, T w → Q .normal a w) : ∀ n, anyW P md ops Q F G n l a T
  | 0 => ⟨hr, h⟩
  | _ + 1 => ⟨fun _ => h, by rw [hr]; simp⟩
/-- Each of several may come up. -/
def Each (P : Program) (md : Region.Mode) (ops : Array Oper) (Q : Exit → Act → World → Prop) (F : List Nat) (G : World → Prop) (n : Nat) (l : Array Bool) (a : Act) (T : World → Prop) (rs : List Nat) : Prop :=
  ∀ i ∈ rs, ∀ w, T w → wpOp P ops Q i (fun a' w' => ∃ T', Stays T' ∧ (F.contains i = false → ∀ z, T' z → T z) ∧ (∀ z, T' z → G z) ∧ T' w' ∧ anyW P md ops Q F G n (l.setIfInBounds i true) a' T') a w
theorem en : Each P md ops Q F G n l a T [] := fun _ h => by cases h
theorem ec (i : Nat) {rs : List Nat} (hl : ops.toList[i]? = some o)
    (h : ∀ w, T w → ∀ K' : Act → World → Prop, Shut (∀ T' a w, Stays T' → (F.contains i = false → ∀ z, T' z → T z) → (∀ z, T' z → G z) → T' w → anyW P md ops Q F G n (l.setIfInBounds i true) a T' → K' a w) →
      if Region.wanted o (yielded ops a.tmps) = true then Oper.wp P o a w K' Q else K' (a.put o.dst undef) w) (hs : Each P md ops Q F G n l a T rs) : Each P md ops Q F G n l a T (i :: rs) := by
  intro j hj w hw
  rcases List.mem_cons.1 hj with rfl | hj
  · have hi : ops[j]? = some o := Array.getElem?_toList.symm.trans hl
    have := h w hw (fun a' w' => ∃ T', Stays T' ∧ (F.contains j = false → ∀ z, T' z → T z) ∧ (∀ z, T' z → G z) ∧ T' w' ∧ anyW P md ops Q F G n (l.setIfInBounds j true) a' T') (fun T' a w h1 h2 h3 h4 h5 => ⟨T', h1, h2, h3, h4, h5⟩)
    unfold wpOp
    simp only [hi]
    by_cases hw : Region.wanted o (yielded ops a.tmps) = true
    · rw [if_pos hw] at this ⊢; exact .inl this
    · rw [if_neg hw] at this ⊢; exact this
  · exact hs j hj w hw
theorem tn {rs : List Nat} (hr : Region.ready md ops l = rs) (hne : rs ≠ []) (h : Each P md ops Q F G n l a T rs) : anyW P md ops Q F G (n + 1) l a T :=
  ⟨fun e => absurd (hr.symm.trans e) hne, hr ▸ h⟩
end
/-! ### One behind the other -/
def oneS (P : Program) (ops : Array Oper) (Q : Exit → Act → World → Prop) : List Oper → Act → (World → Prop) → Prop
  | [], a, T => ∀ w, T w → Q .normal a w
  | o :: l, a, T => ∀ w, T w → if Region.wanted o (yielded ops a.tmps) = true then Oper.wp P o a w (fun a' w' => ∃ T', T' w' ∧ oneS P ops Q l a' T') Q else (∃ T', T' w ∧ oneS P ops Q l (a.put o.dst undef) T')
theorem oneS.list : ∀ (l : List Oper) (a : Act) (T : World → Prop) (w : World), oneS P ops Q l a T → T w → wpList P ops Q l a w
  | [], a, T, w, h, hT => h w hT
  | o :: l, a, T, w, h, hT => by
    have := h w hT
    unfold wpList
    by_cases hw : Region.wanted o (yielded ops a.tmps) = true
    · rw [if_pos hw] at this ⊢
      exact .inl (Oper.wp_mono (fun a' w' ⟨T', h1, h2⟩ => oneS.list l a' T' w' h2 h1) this)
    · rw [if_neg hw] at this ⊢
      obtain ⟨T', h1, h2⟩ := this
      exact oneS.list l _ T' w h2 h1
section
variable {o : Oper} {l : List Oper} {a : Act} {T : World → Prop}
theorem sq (v : Value) (hy : ∀ w, T w → (execOp a.eval o).run P w = .ok (.value v) w) (h : oneS P ops Q l (a.put o.dst v) T) (hw : Region.wanted o (yielded ops a.tmps) = true := by rfl) : oneS P ops Q (o :: l) a T := by
  intro w hT
  rw [if_pos hw]
  unfold Oper.wp
  rw [hy w hT]
  exact ⟨T, hT, h⟩
theorem sw (v : Value) (h : oneS P ops Q l (a.put o.dst v) T) (hy : ∀ w, (execOp a.eval o).run P w = .ok (.value v) w := by intro w; go_simp <;> try with_reducible rfl) (hw : Region.wanted o (yielded ops a.tmps) = true := by rfl) : oneS P ops Q (o :: l) a T := sq v (fun w _ => hy w) h hw
theorem sk (v : Value) (f : FuncId) (args : Array Value) (hc : ∀ w, T w → Calls P f args w (fun e w' => e = .returned v ∧ Below w.heap.size w w'))
    (h : oneS P ops Q l (a.put o.dst v) T) (hy : ∀ w, T w → (execOp a.eval o).run P w = .ok (.enter f args) w := by intro w M; go_simp) (hw : Region.wanted o (yielded ops a.tmps) = true := by rfl) (hT : Stays T := by exact Gw.Mem.stays) : oneS P ops Q (o :: l) a T := by
  intro w hw'
  rw [if_pos hw]
  unfold Oper.wp
  rw [hy w hw']
  refine Calls.mono (hc w hw') ?_
  rintro e z ⟨rfl, hb⟩
  exact ⟨T, hT w z hw' hb, h⟩
theorem su (h : oneS P ops Q l (a.put o.dst undef) T) (hw : Region.wanted o (yielded ops a.tmps) = false := by rfl) : oneS P ops Q (o :: l) a T := by
  intro w hT
  rw [if_neg (by rw [hw]; decide)]
  exact ⟨T, hT, h⟩
theorem ss (h : ∀ w, T w → ∀ K' : Act → World → Prop, Shut (∀ T' a w, T' w → oneS P ops Q l a T' → K' a w) →
      if Region.wanted o (yielded ops a.tmps) = true then Oper.wp P o a w K' Q else K' (a.put o.dst undef) w) : oneS P ops Q (o :: l) a T := by
  intro w hT
  exact h w hT (fun a' w' => ∃ T', T' w' ∧ oneS P ops Q l a' T') (fun T' a w h1 h2 => ⟨T', h1, h2⟩)
end
theorem line {id : Nat} {a : Act} {w : World} (T : World → Prop) (hT : T w) (h : oneS P ops Q ops.toList a T) : (Code.region id ops false).wp P Q a w :=
  wp_region_list (oneS.list _ _ _ _ h hT)
/-- The beginning. -/
theorem draw {id : Nat} {a : Act} {w : World} (F : List Nat) (G T : World → Prop) (hm : P.follows .mixedOrders = true) (hT : T w.drew)
    (h : anyW P .any ops Q F G ops.size (Array.replicate ops.size false) a T) : (Code.region id ops true).wp P Q a w :=
  wp_region_any hm (anyW.any _ _ _ _ _ h hT)
end

theorem draw0 {P : Program} {Q : Exit → Act → World → Prop} {ops : Array Oper} {id : Nat} {a : Act} {w : World} (T : World → Prop) (hm : P.follows .mixedOrders = true) (hT : T w.drew)
    (h : anyW P .any ops Q [] T ops.size (Array.replicate ops.size false) a T) : (Code.region id ops true).wp P Q a w := draw [] T T hm hT h
theorem tail {P : Program} {Q : Exit → Act → World → Prop} {c : Code} {a : Act} {w : World} (h : c.wp P (Exit.then (fun a w => Q .normal a w) Q) a w) : c.wp P Q a w :=
  wp_mono h (fun e a w h => by cases e <;> exact h)
theorem cc {α : Type} {a : α} {l m : List α} (h : l.Sublist m) : (a :: l).Sublist (a :: m) := h.cons_cons a
theorem cd {α : Type} {a : α} {l m : List α} (h : l.Sublist m) : l.Sublist (a :: m) := h.cons a
theorem cn {α : Type} : ([] : List α).Sublist [] := List.Sublist.slnil
end Go.Proofs.YtcimihckhobniaaGreat.Gw
