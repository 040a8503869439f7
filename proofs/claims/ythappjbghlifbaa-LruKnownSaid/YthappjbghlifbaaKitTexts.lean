/-
  Lists of lists of bytes that calls make (roles 63 to 66), and what the statements' kit does with them: contracts. No package of the program. Conditions: 1000 lists of 1000 bytes at most.
-/
import Derived.Test.YthappjbghlifbaaRole
import Derived.Test.YthappjbghlifbaaKitBytes
import Derived.Test.YthappjbghlifbaaBrief
import Derived.WalkKit
import Derived.WalkSpells
import Derived.WalkLawsBesides
import Derived.Handy
import Derived.WalkMore
import Derived.IntWalk
import Derived.Deep.LoopGhost
import Derived.Deep.OwnRows
import Derived.Lib.Hide
namespace Go.Proofs.Ythappjbghlifbaa
set_option maxRecDepth 100000
open Go.RowKit Ow Ro K2
set_option linter.unusedVariables false
set_option linter.unusedSimpArgs false
theorem rt_i10 {k : IntKind} {a b : Int} (h : a = b) : Ending.returned (.int k a) = .returned (.int k b) := by rw [h]
theorem info10 {P : Program} {t : TypeId} {z : Value} {a b : Nat} (h : (P.info? t).map (fun i => (i.zero, i.size, i.bytes)) = some (some z, a, b)) : ∃ i, P.info? t = some i ∧ i.zero = some z ∧ i.size = a ∧ i.bytes = b := by
  cases hi : P.info? t with
  | none => rw [hi] at h; cases h
  | some i =>
    rw [hi] at h
    simp only [Option.map_some, Option.some.injEq, Prod.mk.injEq] at h
    exact ⟨i, rfl, h.1, h.2.1, h.2.2⟩
/-- The keys told so far, G: the list's row, and each key's. -/
def KI (w0 : World) (A : Ac) (G : List (List Int)) (v : Value) (z : World) : Prop :=
  ∃ A' vs, Lay w0 A' z ∧ (∀ x : Rl, x.1 ≠ 63 → x.1 ≠ 64 → A' x = A x) ∧ Row A' (63, 0) 27 1 v G.length vs ∧ vs.length = G.length ∧ ∀ j bs, G[j]? = some bs → ∃ u, vs[j]? = some u ∧ Row A' (64, j) 5 1 u bs.length (bv bs)
/-- .. and one more key, which is not in the list yet. -/
def KI1 (w0 : World) (A : Ac) (G : List (List Int)) (v u : Value) (bs : List Int) (z : World) : Prop :=
  ∃ A' vs, Lay w0 A' z ∧ (∀ x : Rl, x.1 ≠ 63 → x.1 ≠ 64 → A' x = A x) ∧ Row A' (63, 0) 27 1 v G.length vs ∧ vs.length = G.length ∧ (∀ j bs, G[j]? = some bs → ∃ u, vs[j]? = some u ∧ Row A' (64, j) 5 1 u bs.length (bv bs)) ∧ Row A' (64, G.length) 5 1 u bs.length (bv bs)
/-- The keys told so far, G: the list's row, and each key's. -/
def KQ (w0 : World) (A : Ac) (G : List (List Int)) (v : Value) (z : World) : Prop :=
  ∃ A' vs, Lay w0 A' z ∧ (∀ x : Rl, x.1 ≠ 65 → x.1 ≠ 66 → A' x = A x) ∧ Row A' (65, 0) 27 1 v G.length vs ∧ vs.length = G.length ∧ ∀ j bs, G[j]? = some bs → ∃ u, vs[j]? = some u ∧ Row A' (66, j) 5 1 u bs.length (bv bs)
/-- .. and one more key, which is not in the list yet. -/
def KQ1 (w0 : World) (A : Ac) (G : List (List Int)) (v u : Value) (bs : List Int) (z : World) : Prop :=
  ∃ A' vs, Lay w0 A' z ∧ (∀ x : Rl, x.1 ≠ 65 → x.1 ≠ 66 → A' x = A x) ∧ Row A' (65, 0) 27 1 v G.length vs ∧ vs.length = G.length ∧ (∀ j bs, G[j]? = some bs → ∃ u, vs[j]? = some u ∧ Row A' (66, j) 5 1 u bs.length (bv bs)) ∧ Row A' (66, G.length) 5 1 u bs.length (bv bs)
theorem own_uniq {w : World} {base s n : Nat} {t : TypeId} {v : Value} {xs ys : List Value} (h : w.ownsRow base t s v n xs) (k : w.ownsRow base t s v n ys) : xs = ys := by
  rcases h.2 with ⟨e1, e2⟩ | ⟨g, cap, cur, e, hb, hg, h1, h2, h3, h4⟩
  · rcases k.2 with ⟨_, e4⟩ | ⟨g, cap, cur, e, _⟩
    · have a1 := h.1
      have a2 := k.1
      rw [e2, Nat.zero_mul] at a1 a2
      rw [List.eq_nil_of_length_eq_zero (l := xs) (by omega), List.eq_nil_of_length_eq_zero (l := ys) (by omega)]
    · rw [e1] at e; cases e
  · rcases k.2 with ⟨e5, _⟩ | ⟨g', cap', cur', e', hb', hg', h1', h2', h3', h4'⟩
    · rw [e] at e5; cases e5
    · rw [e] at e'
      simp only [Value.slice.injEq, Option.some.injEq, Addr.mk.injEq, and_true, true_and] at e'
      obtain ⟨rfl, rfl⟩ := e'
      rw [hg] at hg'
      simp only [Option.some.injEq, Obj.cells.injEq] at hg'
      obtain ⟨rfl, _⟩ := hg'
      rw [← h4, ← h4']
section
variable {w0 z z' : World} {A : Ac} {G : List (List Int)} {v u : Value} {bs : List Int}
theorem KI.grow (h : KI w0 A G v z) (hb : Below z.heap.size z z') : KI w0 A G v z' := by
  obtain ⟨A', vs, h1, h2⟩ := h
  exact ⟨A', vs, h1.grow hb, h2⟩
theorem KI.copied (h : KI w0 A G v z) (q : OwnB z u z' bs) : KI1 w0 A G v u bs z' := by
  obtain ⟨A', vs, h1, h2, h3, h4, h5⟩ := h
  obtain ⟨A2, l2, r2, f2⟩ := h1.newRow (64, G.length) q.below q.own (Nat.le_refl _)
  refine ⟨A2, vs, l2, fun x hx hx2 => (f2 x (fun e => hx2 (by rw [e]))).trans (h2 x hx hx2), h3.keep (f2 _ (by simp)), h4, fun j b hj => ?_, r2⟩
  obtain ⟨u', e1, e2⟩ := h5 j b hj
  have := (List.getElem?_eq_some_iff.1 hj).1
  exact ⟨u', e1, e2.keep (f2 _ (by simp; omega))⟩
theorem KI1.grow (h : KI1 w0 A G v u bs z) (hb : Below z.heap.size z z') : KI1 w0 A G v u bs z' := by
  obtain ⟨A', vs, h1, h2⟩ := h
  exact ⟨A', vs, h1.grow hb, h2⟩
theorem KI1.own (h : KI1 w0 A G v u bs z) : ∃ vs, vs.length = G.length ∧ z.ownsRow w0.heap.size 27 1 v G.length vs ∧ w0.heap.size ≤ z.heap.size := by
  obtain ⟨A', vs, h1, h2, h3, h4, h5⟩ := h
  exact ⟨vs, h4, h3.own h1, h1.below.size⟩
theorem KI1.app {v' : Value} {vs : List Value} (h : KI1 w0 A G v u bs z) (hvs : z.ownsRow w0.heap.size 27 1 v G.length vs) (ho : z'.ownsRow w0.heap.size 27 1 v' (G.length + 1) (vs ++ [u])) (hg : z.grownBy z' v.ownBlock) (hat : v'.ownBlock = v.ownBlock ∨ ∃ g, v'.ownBlock = some g ∧ z.heap.size ≤ g) :
    KI w0 A (G ++ [bs]) v' z' := by
  obtain ⟨A', vs', h1, h2, h3, h4, h5, h6⟩ := h
  have hv : vs' = vs := own_uniq (h3.own h1) hvs
  subst hv
  obtain ⟨A2, l2, r2, f2⟩ := h1.took h3 hg ho hat
  refine ⟨A2, vs' ++ [u], l2, fun x hx hx2 => (f2 x (fun e => hx (by rw [e]))).trans (h2 x hx hx2), ?_, by simp [h4], fun j b hj => ?_⟩
  · rw [List.length_append]; exact r2
  · by_cases e : j < G.length
    · rw [List.getElem?_append_left e] at hj
      obtain ⟨u', e1, e2⟩ := h5 j b hj
      exact ⟨u', by rw [List.getElem?_append_left (by omega)]; exact e1, e2.keep (f2 _ (by simp))⟩
    · rw [List.getElem?_append_right (by omega)] at hj
      have hj0 : j = G.length := by
        have := (List.getElem?_eq_some_iff.1 hj).1
        simp at this
        omega
      subst hj0
      simp at hj
      subst hj
      exact ⟨u, by rw [List.getElem?_append_right (by omega), h4]; simp, h6.keep (f2 _ (by simp))⟩
end
section
variable {w0 z z' : World} {A : Ac} {G : List (List Int)} {v u : Value} {bs : List Int}
theorem KQ.grow (h : KQ w0 A G v z) (hb : Below z.heap.size z z') : KQ w0 A G v z' := by
  obtain ⟨A', vs, h1, h2⟩ := h
  exact ⟨A', vs, h1.grow hb, h2⟩
theorem KQ.copied (h : KQ w0 A G v z) (q : OwnB z u z' bs) : KQ1 w0 A G v u bs z' := by
  obtain ⟨A', vs, h1, h2, h3, h4, h5⟩ := h
  obtain ⟨A2, l2, r2, f2⟩ := h1.newRow (66, G.length) q.below q.own (Nat.le_refl _)
  refine ⟨A2, vs, l2, fun x hx hx2 => (f2 x (fun e => hx2 (by rw [e]))).trans (h2 x hx hx2), h3.keep (f2 _ (by simp)), h4, fun j b hj => ?_, r2⟩
  obtain ⟨u', e1, e2⟩ := h5 j b hj
  have := (List.getElem?_eq_some_iff.1 hj).1
  exact ⟨u', e1, e2.keep (f2 _ (by simp; omega))⟩
theorem KQ1.grow (h : KQ1 w0 A G v u bs z) (hb : Below z.heap.size z z') : KQ1 w0 A G v u bs z' := by
  obtain ⟨A', vs, h1, h2⟩ := h
  exact ⟨A', vs, h1.grow hb, h2⟩
theorem KQ1.own (h : KQ1 w0 A G v u bs z) : ∃ vs, vs.length = G.length ∧ z.ownsRow w0.heap.size 27 1 v G.length vs ∧ w0.heap.size ≤ z.heap.size := by
  obtain ⟨A', vs, h1, h2, h3, h4, h5⟩ := h
  exact ⟨vs, h4, h3.own h1, h1.below.size⟩
theorem KQ1.app {v' : Value} {vs : List Value} (h : KQ1 w0 A G v u bs z) (hvs : z.ownsRow w0.heap.size 27 1 v G.length vs) (ho : z'.ownsRow w0.heap.size 27 1 v' (G.length + 1) (vs ++ [u])) (hg : z.grownBy z' v.ownBlock) (hat : v'.ownBlock = v.ownBlock ∨ ∃ g, v'.ownBlock = some g ∧ z.heap.size ≤ g) :
    KQ w0 A (G ++ [bs]) v' z' := by
  obtain ⟨A', vs', h1, h2, h3, h4, h5, h6⟩ := h
  have hv : vs' = vs := own_uniq (h3.own h1) hvs
  subst hv
  obtain ⟨A2, l2, r2, f2⟩ := h1.took h3 hg ho hat
  refine ⟨A2, vs' ++ [u], l2, fun x hx hx2 => (f2 x (fun e => hx (by rw [e]))).trans (h2 x hx hx2), ?_, by simp [h4], fun j b hj => ?_⟩
  · rw [List.length_append]; exact r2
  · by_cases e : j < G.length
    · rw [List.getElem?_append_left e] at hj
      obtain ⟨u', e1, e2⟩ := h5 j b hj
      exact ⟨u', by rw [List.getElem?_append_left (by omega)]; exact e1, e2.keep (f2 _ (by simp))⟩
    · rw [List.getElem?_append_right (by omega)] at hj
      have hj0 : j = G.length := by
        have := (List.getElem?_eq_some_iff.1 hj).1
        simp at this
        omega
      subst hj0
      simp at hj
      subst hj
      exact ⟨u, by rw [List.getElem?_append_right (by omega), h4]; simp, h6.keep (f2 _ (by simp))⟩
end
theorem txt_info : (Try.prog.info? 27).map (fun i => (i.zero, i.size, i.bytes)) = some (some (.slice none 0 0), 1, 24) := by kernel_rfl
/-- A list of lists of bytes, to be read. -/
def Txt (w : World) (B : Nat) (A : Option Addr) (G : List (List Int)) : Prop :=
  ∃ vs : List Value, Rd w B A vs ∧ vs.length = G.length ∧ ∀ (j : Nat) (bs : List Int), G[j]? = some bs → ∃ (a : Option Addr) (c : Nat), vs[j]? = some (Value.slice a bs.length c) ∧ Rd w B a (bv bs)
theorem Txt.below {w w' : World} {B : Nat} {A : Option Addr} {G : List (List Int)} (h : Txt w B A G) (hb : Below B w w') : Txt w' B A G := by
  obtain ⟨vs, h1, h2, h3⟩ := h
  exact ⟨vs, h1.below hb, h2, fun j bs hj => by obtain ⟨a, c, e, r⟩ := h3 j bs hj; exact ⟨a, c, e, r.below hb⟩⟩
theorem Txt.mono {w : World} {B B' : Nat} {A : Option Addr} {G : List (List Int)} (h : Txt w B A G) (hb : B ≤ B') : Txt w B' A G := by
  obtain ⟨vs, h1, h2, h3⟩ := h
  exact ⟨vs, h1.mono hb, h2, fun j bs hj => by obtain ⟨a, c, e, r⟩ := h3 j bs hj; exact ⟨a, c, e, r.mono hb⟩⟩
theorem Txt.look {w : World} {B : Nat} {A : Option Addr} {G : List (List Int)} (h : Txt w B A G) {j : Nat} {bs : List Int} (hj : G[j]? = some bs) : ∃ ad a c, A = some ad ∧ ad.block < B ∧ w.cell? (ad.add j) = some (.slice a bs.length c) ∧ Rd w B a (bv bs) := by
  obtain ⟨vs, h1, h2, h3⟩ := h
  obtain ⟨a, c, e, r⟩ := h3 j bs hj
  obtain ⟨ad, rfl, hb, hc⟩ := h1 (by have := (List.getElem?_eq_some_iff.1 hj).1; omega)
  exact ⟨ad, a, c, rfl, hb, hc j _ e, r⟩
theorem Txt.of_KI {w0 z : World} {A : Ac} {G : List (List Int)} {a : Option Addr} {n c : Nat} (h : KI w0 A G (.slice a n c) z) : Txt z z.heap.size a G := by
  obtain ⟨A', vs, h1, h2, h3, h4, h5⟩ := h
  obtain ⟨a', cap, e, _⟩ := h3.form2
  simp only [Value.slice.injEq] at e
  obtain ⟨rfl, rfl, rfl⟩ := e
  refine ⟨vs, (h3.reads (w0 := w0)).rd h1, h4, fun j bs hj => ?_⟩
  obtain ⟨u, e1, e2⟩ := h5 j bs hj
  obtain ⟨a2, c2, rfl, _⟩ := e2.form2
  exact ⟨a2, c2, e1, (e2.reads (w0 := w0)).rd h1⟩
theorem Txt.of_KQ {w0 z : World} {A : Ac} {G : List (List Int)} {a : Option Addr} {n c : Nat} (h : KQ w0 A G (.slice a n c) z) : Txt z z.heap.size a G := by
  obtain ⟨A', vs, h1, h2, h3, h4, h5⟩ := h
  obtain ⟨a', cap, e, _⟩ := h3.form2
  simp only [Value.slice.injEq] at e
  obtain ⟨rfl, rfl, rfl⟩ := e
  refine ⟨vs, (h3.reads (w0 := w0)).rd h1, h4, fun j bs hj => ?_⟩
  obtain ⟨u, e1, e2⟩ := h5 j bs hj
  obtain ⟨a2, c2, rfl, _⟩ := e2.form2
  exact ⟨a2, c2, e1, (e2.reads (w0 := w0)).rd h1⟩
set_option maxHeartbeats 1000000 in
theorem sametexts_any (A B : Option Addr) (n c d : Nat) (G : List (List Int)) (hn : G.length = n) (h1 : n ≤ 1000) (hb : ∀ g ∈ G, g.length ≤ 1000) (w : World) (hx : Txt w w.heap.size A G) (hy : Txt w w.heap.size B G) :
    Calls Try.prog 14 #[.slice A n c, .slice B n d] w fun e w' => e = .returned (.bool true) ∧ Below w.heap.size w w' := by
  have HN := Lib.hid hn
  have HX := Lib.hid hx
  have HY := Lib.hid hy
  have HB := Lib.hid hb
  clear hn hx hy hb
  have hne : ((n : Int) != (n : Int)) = false := by simp
  go_enter Try.func14, Try.ntmps14
  go_wp2
  go_loopw [5] (fun i wr => ∃ k : Nat, k ≤ n ∧ i = .int .i64 k ∧ Hid (Below w.heap.size w wr)) (fun i _ => n - (intOf i).toNat)
  case atStart => exact ⟨0, Nat.zero_le _, rfl, Lib.hid (Below.refl _ _)⟩
  case round =>
    obtain ⟨k, hk, rfl, hbl⟩ := hrel
    by_cases hlt : k < n
    · have hkG : G[k]? = some (G[k]'(by rw [HN.out]; exact hlt)) := List.getElem?_eq_getElem _
      have hgl := HB.out _ (List.getElem_mem (by rw [HN.out]; exact hlt))
      generalize G[k]'(by rw [HN.out]; exact hlt) = g at *
      obtain ⟨ad, a1, c1, rfl, hA, hc1, hr1⟩ := (HX.out.below hbl.out).look hkG
      obtain ⟨bd, a2, c2, rfl, hB, hc2, hr2⟩ := (HY.out.below hbl.out).look hkG
      have i1 : (0 : Int) ≤ (k : Int) := by omega
      have i2 : (k : Int) < (n : Int) := by omega
      have HR1 := Lib.hid (hr1.mono hbl.out.size)
      have HR2 := Lib.hid (hr2.mono hbl.out.size)
      obtain ⟨m, hm⟩ : ∃ m, g.length = m := ⟨_, rfl⟩
      have HM := Lib.hid hm
      rw [hm] at hc1 hc2 hgl
      have hA' : (ad.add k).block < wr.heap.size := by rw [add_block]; have := hbl.out.size; omega
      have hB' : (bd.add k).block < wr.heap.size := by rw [add_block]; have := hbl.out.size; omega
      clear hr1 hr2 hkG hm
      go_wp2_with fail
      refine wp_region_held_drew (S := fun w' => w'.cell? (ad.add k) = some (.slice a1 m c1) ∧ w'.cell? (bd.add k) = some (.slice a2 m c2)) (by kernel_rfl) ⟨hc1, hc2⟩ (fun g9 => ?_)
      have HBD : Hid (Below w.heap.size w wr.drew) := Lib.hid hbl.out.drew
      have HSB := Lib.hid (samebytes_any a1 a2 m m c1 c2 g g HM.out HM.out (by omega) (by omega) wr.drew HR1.out HR2.out)
      have hA2 : (ad.add k).block < wr.drew.heap.size := hA'
      have hB2 : (bd.add k).block < wr.drew.heap.size := hB'
      have hd1 : wr.drew.cell? (ad.add k) = some (.slice a1 m c1) := hc1
      have hd2 : wr.drew.cell? (bd.add k) = some (.slice a2 m c2) := hc2
      have hsz : w.heap.size ≤ wr.drew.heap.size := hbl.out.size
      have g := g9
      clear g9 hc1 hc2 hA' hB' hbl HR1 HR2
      generalize wr.drew = z at *
      clear wr
      refine tq 0 ?_ rfl (by kernel_rfl) (fun _ _ _ h => h) (by rfl) g ?_ ?_; rotate_left
      · intro w9 h9; go_simp; try with_reducible rfl
      simp only [Act.put, ptA, ptB, ptC]
      refine tq 1 ?_ rfl (by kernel_rfl) (fun _ _ _ h => h) (by rfl) g ?_ ?_; rotate_left
      · intro w9 h9; go_simp; try with_reducible rfl
      simp only [Act.put, ptA, ptB, ptC]
      refine tq 2 ?_ rfl (by kernel_rfl) (fun _ _ _ h => h) (by rfl) g ?_ ?_; rotate_left
      · intro w9 h9; go_simp; try with_reducible rfl
      simp only [Act.put, ptA, ptB, ptC]
      refine tq 3 ?_ rfl (by kernel_rfl) (fun _ _ _ h => h) (by rfl) g ?_ ?_; rotate_left
      · intro w9 h9; obtain ⟨h91, h92⟩ := h9; go_simp; try with_reducible rfl
      simp only [Act.put, ptA, ptB, ptC]
      refine tq 4 ?_ rfl (by kernel_rfl) (fun _ _ _ h => h) (by rfl) g ?_ ?_; rotate_left
      · intro w9 h9; go_simp; try with_reducible rfl
      simp only [Act.put, ptA, ptB, ptC]
      refine tq 5 ?_ rfl (by kernel_rfl) (fun _ _ _ h => h) (by rfl) g ?_ ?_; rotate_left
      · intro w9 h9; go_simp; try with_reducible rfl
      simp only [Act.put, ptA, ptB, ptC]
      refine tq 6 ?_ rfl (by kernel_rfl) (fun _ _ _ h => h) (by rfl) g ?_ ?_; rotate_left
      · intro w9 h9; go_simp; try with_reducible rfl
      simp only [Act.put, ptA, ptB, ptC]
      refine tq 7 ?_ rfl (by kernel_rfl) (fun _ _ _ h => h) (by rfl) g ?_ ?_; rotate_left
      · intro w9 h9; obtain ⟨h91, h92⟩ := h9; go_simp; try with_reducible rfl
      simp only [Act.put, ptA, ptB, ptC]
      refine tc 8 rfl (by kernel_rfl) (fun K9 hK => ?_)
      go_simp
      with_reducible refine HSB.out.mono ?_
      rintro e z2 ⟨rfl, q⟩
      rw [decide_eq_true rfl]
      have HB3 : Hid (Below w.heap.size w z2) := Lib.hid (HBD.out.trans (q.mono hsz))
      have hd3 := (q.cell hA2).trans hd1
      have hd4 := (q.cell hB2).trans hd2
      clear q
      go_simp
      refine hK.out _ _ ⟨hd3, hd4⟩ (fun g1 => ?_)
      clear hK K9 g hd3 hd4 hd1 hd2
      have g := g1
      clear g1
      refine tq 9 ?_ rfl (by kernel_rfl) (fun _ _ _ h => h) (by rfl) g ?_ ?_; rotate_left
      · intro w9 h9; go_simp; try with_reducible rfl
      simp only [Act.put, ptA, ptB, ptC]
      refine wpAnyH_done (by kernel_rfl) ?_ _
      go_wp2
      go_roundw
      case rel => exact ⟨k + 1, by omega, by go_num, HB3⟩
      case measure => simp [intOf]; omega
    · have i1 : ¬ (k : Int) < (n : Int) := by omega
      go_wp2
      go_ret
      exact ⟨rfl, hbl.out⟩
/-! ### Written over -/
def dn (A : Ac) (r : Rl) : Ac := fun x => if x = r then none else A x
theorem dn_other {A : Ac} {r x : Rl} (h : x ≠ r) : dn A r x = A x := if_neg h
theorem Ro.Lay.lost {w0 w w' : World} {A : Ac} {r : Rl} {t : TypeId} {s n : Nat} {v : Value} {xs : List Value} (hl : Lay w0 A w) (hr : Row A r t s v n xs) (hg : w.grownBy w' v.ownBlock) : Lay w0 (dn A r) w' := by
  refine ⟨?_, fun x b o e => ?_, fun x y b o o' e f => ?_⟩
  · refine hl.below.grown hg hl.below.size (fun k hk => ?_)
    obtain ⟨p, hp⟩ := hr.block k hk
    exact (hl.own _ _ _ hp).1
  · unfold dn at e
    split at e
    · cases e
    · rename_i hx
      have h1 := hl.own x b o e
      refine ⟨h1.1, (hg.block b (lt_of_block h1.2) ?_).trans h1.2⟩
      intro hb
      obtain ⟨p, hp⟩ := hr.block b hb.symm
      exact hx (hl.inj _ _ _ _ _ e hp)
  · unfold dn at e f
    split at e
    · cases e
    · split at f
      · cases f
      · exact hl.inj _ _ _ _ _ e f
def Oth (w0 : World) (A : Ac) (w' : World) : Prop := ∃ A', Lay w0 A' w' ∧ ∀ x : Rl, x.1 ≠ 65 → x.1 ≠ 66 → A' x = A x
def KS (w0 : World) (A : Ac) (G : List (List Int)) (v : Value) (k : Nat) (z : World) : Prop :=
  ∃ A' vs, Lay w0 A' z ∧ (∀ x : Rl, x.1 ≠ 65 → x.1 ≠ 66 → A' x = A x) ∧ Row A' (65, 0) 27 1 v G.length vs ∧ vs.length = G.length ∧ ∀ j bs, k ≤ j → G[j]? = some bs → ∃ u, vs[j]? = some u ∧ Row A' (66, j) 5 1 u bs.length (bv bs)
end Go.Proofs.Ythappjbghlifbaa
