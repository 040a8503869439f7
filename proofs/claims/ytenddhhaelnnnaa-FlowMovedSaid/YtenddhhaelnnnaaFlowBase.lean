/-
  What layer 6's texts take of layer 2: an instruction's cells, its size, a list of instructions that comes in.
-/
import Derived.Test.YtenddhhaelnnnaaRows
import Derived.Test.YtenddhhaelnnnaaInsnBytes
import Derived.Test.YtenddhhaelnnnaaOwn
import Derived.Test.YtenddhhaelnnnaaFlowMath
import Derived.WalkKit
import Derived.WalkSpells
import Derived.WalkLawsBesides
import Derived.Lib.Hide
import Derived.Deep.Light
import Derived.BigQuiet
import Derived.Deep.QuietTactic
import Derived.IntWalk
import Derived.Deep.Slices
import Derived.Deep.Fields
import Derived.Deep.OwnRows
import Derived.OpenShut
import Derived.ProofKit
namespace Go.Proofs.Ytenddhhaelnnnaa
open Go.RowKit Wi Ow Fl
open Go.ChangeShapes Go.WideShapes Go.Deep
set_option linter.unusedVariables false
set_option linter.unusedSimpArgs false

theorem rt_i {k : IntKind} {a b : Int} (h : a = b) : Ending.returned (.int k a) = .returned (.int k b) := by rw [h]
theorem rt_b {a b : Bool} (h : a = b) : Ending.returned (.bool a) = .returned (.bool b) := by rw [h]
theorem bcell {W w1 : World} (hb : Below W.heap.size W w1) : (∀ b o, b < W.heap.size → w1.cell? ⟨b, o, none⟩ = W.cell? ⟨b, o, none⟩) ∧ (∀ b o, b < W.heap.size → w1.frozen? ⟨b, o, none⟩ = W.frozen? ⟨b, o, none⟩) :=
  ⟨fun b o h => hb.cell (p := ⟨b, o, none⟩) h, fun b o h => hb.frozen (p := ⟨b, o, none⟩) h⟩
theorem below_box {w w1 : World} {o : Obj} (hb : Below (w.alloc o).heap.size (w.alloc o) w1) : Below w.heap.size w w1 :=
  ((Below.refl _ _).alloc (Nat.le_refl _) _).trans (hb.mono (by simp))
theorem below_then {B : Nat} {w w1 w2 : World} (h1 : Below B w w1) (h2 : Below w1.heap.size w1 w2) (hB : B ≤ w.heap.size) : Below B w w2 :=
  h1.trans (h2.mono (by have := h1.size; omega))
theorem size_any (op dst src off imm : Int) (w : World) :
    Calls Try.prog 30 #[.agg #[.int .i64 op, .int .i64 dst, .int .i64 src, .int .i64 off, .int .i64 imm]] w fun e w' => e = .returned (.int .i64 (sizeV op)) ∧ Below w.heap.size w w' := by
  go_enter Try.func30, Try.ntmps30
  go_wp2
  all_goals
    go_ret
    refine ⟨rt_i ?_, (Below.refl _ _).alloc (Nat.le_refl _) _⟩
    go_light
    unfold sizeV
    simp_all
theorem box_cells {w : World} {b : Nat} {op dst src off imm : Int} (h : Bk w b 42 #[.int .i64 op, .int .i64 dst, .int .i64 src, .int .i64 off, .int .i64 imm]) :
    w.cell? ⟨b, 0, none⟩ = some (.int .i64 op) ∧ w.cell? ⟨b, 1, none⟩ = some (.int .i64 dst) ∧ w.cell? ⟨b, 2, none⟩ = some (.int .i64 src) ∧ w.cell? ⟨b, 3, none⟩ = some (.int .i64 off) ∧ w.cell? ⟨b, 4, none⟩ = some (.int .i64 imm) :=
  ⟨h.cell 0, h.cell 1, h.cell 2, h.cell 3, h.cell 4⟩
/-- The five cells of the k-th instruction, as a load reads them. -/
theorem ins_cells {w : World} {ad : Addr} {L : List In} {k : Nat} (hc : ∀ j u, (iv L)[j]? = some u → w.cell? (ad.add j) = some u) (hk : k < L.length) :
    w.cell? (ad.add (k * 5)) = some (.int .i64 L[k].op) ∧ w.cell? ⟨(ad.add (k * 5)).block, (ad.add (k * 5)).off + 1, none⟩ = some (.int .i64 L[k].dst) ∧ w.cell? ⟨(ad.add (k * 5)).block, (ad.add (k * 5)).off + 2, none⟩ = some (.int .i64 L[k].src) ∧
      w.cell? ⟨(ad.add (k * 5)).block, (ad.add (k * 5)).off + 3, none⟩ = some (.int .i64 L[k].off) ∧ w.cell? ⟨(ad.add (k * 5)).block, (ad.add (k * 5)).off + 4, none⟩ = some (.int .i64 L[k].imm) := by
  have ha := iv_at L k hk
  rw [add_next _ _ 1 (by omega), add_next _ _ 2 (by omega), add_next _ _ 3 (by omega), add_next _ _ 4 (by omega), Nat.mul_comm k 5]
  exact ⟨hc _ _ ha.1, hc _ _ ha.2.1, hc _ _ ha.2.2.1, hc _ _ ha.2.2.2.1, hc _ _ ha.2.2.2.2⟩
theorem take_eq_succ {α : Type} {xs ys : List α} {k : Nat} (h : xs.take k = ys.take k) (hx : k < xs.length) (hy : k < ys.length) (e : xs[k] = ys[k]) : xs.take (k + 1) = ys.take (k + 1) := by
  rw [List.take_succ_eq_append_getElem hx, List.take_succ_eq_append_getElem hy, h, e]
theorem below_drewN {B : Nat} {w wr : World} (h : Below B w wr) (n : Nat) : Below B w (wr.drewN n) := ⟨h.os, h.tape, h.output, h.size, h.block⟩
theorem insn_info : (Try.prog.info? 42).map (fun i => (i.zero, i.size, i.bytes)) = some (some (.agg #[.int .i64 0, .int .i64 0, .int .i64 0, .int .i64 0, .int .i64 0]), 5, 40) := by kernel_rfl
/-- A row of our own, and that nothing else is changed. -/
structure OwnI (w : World) (v : Value) (wr : World) (l : List In) : Prop where
  own : wr.ownsRow w.heap.size 42 5 v l.length (iv l)
  below : Below w.heap.size w wr
theorem OwnI.step {w wr w1 : World} {v v1 : Value} {l : List In} {x : In} {n : Nat} {o : Obj} (h : OwnI w v wr l) (ho : w1.ownsRow w.heap.size 42 5 v1 n (iv l ++ x.cells)) (hn : n = l.length + 1) (hg : (wr.alloc o).grownBy w1 v.ownBlock) : OwnI w v1 w1 (l ++ [x]) :=
  ⟨own_cast ho (by rw [hn]; simp) (by rw [iv_app]; simp [iv]), (h.below.alloc (by have := h.below.size; omega) o).grown hg (by have := h.below.size; simp; omega) fun k hk => (h.own.lt k hk).1⟩
theorem OwnI.more {w wr w1 : World} {v : Value} {l : List In} (h : OwnI w v wr l) (hb : Below wr.heap.size wr w1) : OwnI w v w1 l := ⟨own_below h.own hb, below_then h.below hb (Nat.le_refl _)⟩
theorem cells_one (x : In) : ∀ u ∈ x.cells, u.oneCell' = true := by
  intro u hu
  simp [In.cells] at hu
  rcases hu with rfl | rfl | rfl | rfl | rfl <;> rfl
/-- Rows that were made one behind the other are not one. -/
theorem own_apart {w w' : World} {b1 B s1 s2 n1 n2 : Nat} {e1 e2 : TypeId} {v1 v2 : Value} {xs1 xs2 : List Value} (h1 : w.ownsRow b1 e1 s1 v1 n1 xs1) (h2 : w'.ownsRow B e2 s2 v2 n2 xs2) (hB : w.heap.size ≤ B) : v2.ownBlock = none ∨ v2.ownBlock ≠ v1.ownBlock := by
  cases h : v2.ownBlock with
  | none => exact .inl rfl
  | some k =>
    refine .inr fun e => ?_
    have g2 := (h2.lt k h).1
    have g1 := (h1.lt k e.symm).2
    omega
theorem own_apart' {w w' : World} {b1 B s1 s2 n1 n2 : Nat} {e1 e2 : TypeId} {v1 v2 : Value} {xs1 xs2 : List Value} (h1 : w.ownsRow b1 e1 s1 v1 n1 xs1) (h2 : w'.ownsRow B e2 s2 v2 n2 xs2) (hB : w.heap.size ≤ B) : v1.ownBlock = none ∨ v1.ownBlock ≠ v2.ownBlock := by
  cases h : v1.ownBlock with
  | none => exact .inl rfl
  | some k =>
    refine .inr fun e => ?_
    have g1 := (h1.lt k h).2
    have g2 := (h2.lt k e.symm).1
    omega
section
variable {H : Type} {enc : TypeId × Value → H} {w : World} {base : Nat} {spare : Nat → Bool} {held : Bool}
/-- The cells of an instruction that comes in. -/
theorem insn_of {fuel : Nat} {cs : List Value} {y : DataW H × List MemPlace} (h : DataW.trod enc Try.prog w base spare held fuel 42 cs = some y) : ∃ x : In, cs = x.cells ∧ x.fits := by
  obtain ⟨xs, n, _, _, hlen, hxl, hf⟩ := DataW.trod_struct Try.underlying42 h
  have h5 : cs.length = 5 := hlen.trans (by kernel_rfl)
  match cs, h5 with
  | [c0, c1, c2, c3, c4], _ =>
    match xs, hxl with
    | [y0, y1, y2, y3, y4], _ =>
      have g1 : Try.prog.cellsOf 3 = 1 := by kernel_rfl
      have k0 := hf 0 _ rfl
      have k1 := hf 1 _ rfl
      have k2 := hf 2 _ rfl
      have k3 := hf 3 _ rfl
      have k4 := hf 4 _ rfl
      simp [g1] at k0 k1 k2 k3 k4
      obtain ⟨n0, e0, _, w0⟩ := DataW.trod_int Try.underlying3 k0
      obtain ⟨n1, e1, _, w1⟩ := DataW.trod_int Try.underlying3 k1
      obtain ⟨n2, e2, _, w2⟩ := DataW.trod_int Try.underlying3 k2
      obtain ⟨n3, e3, _, w3⟩ := DataW.trod_int Try.underlying3 k3
      obtain ⟨n4, e4, _, w4⟩ := DataW.trod_int Try.underlying3 k4
      simp at e0 e1 e2 e3 e4
      subst e0 e1 e2 e3 e4
      exact ⟨⟨n0, n1, n2, n3, n4⟩, rfl, bounds_i64 w0, bounds_i64 w1, bounds_i64 w2, bounds_i64 w3, bounds_i64 w4⟩
theorem open_insn {r : Reach} {b0 : Nat} {v : Value} {d : DataW H} {p : List MemPlace} (hv : Value.okWide Try.prog w r b0 42 v) (h : DataW.Trod enc Try.prog w base spare held 42 v d p) :
    ∃ x : In, v = .agg #[.int .i64 x.op, .int .i64 x.dst, .int .i64 x.src, .int .i64 x.off, .int .i64 x.imm] ∧ x.fits := by
  obtain ⟨cs, rfl, _⟩ := okWide_struct Try.underlying42 hv
  obtain ⟨fuel, hf⟩ := h
  obtain ⟨x, e, hx⟩ := insn_of hf
  refine ⟨x, ?_, hx⟩
  obtain ⟨l⟩ := cs
  simp [Value.cells] at e
  rw [e]; rfl
theorem iv_get (L : List In) (k r : Nat) (hk : k < L.length) (hr : r < 5) : (iv L)[5 * k + r]? = L[k].cells[r]? := by
  have h := iv_at L k hk
  match r, hr with
  | 0, _ => exact h.1
  | 1, _ => exact h.2.1
  | 2, _ => exact h.2.2.1
  | 3, _ => exact h.2.2.2.1
  | 4, _ => exact h.2.2.2.2
/-- A list of instructions that comes in. -/
theorem open_insns {a : Option Addr} {len cap : Nat} {d : DataW H} {p : List MemPlace} (h : DataW.Trod enc Try.prog w base spare held 22 (.slice a len cap) d p) :
    ∃ L : List In, L.length = len ∧ (∀ x ∈ L, x.fits) ∧ len ≤ cap ∧ cap ≤ 9223372036854775807 ∧ Rd w w.heap.size a (iv L) := by
  obtain ⟨fuel, hf⟩ := h
  rcases open_slice Try.underlying22 hf with ⟨hcs, _⟩ | ⟨ad, l, c, m, n, D, Pl, hcs, _, hl, hm, hmm, _, hi⟩
  · simp [Value.cells] at hcs
    obtain ⟨rfl, rfl, rfl⟩ := hcs
    exact ⟨[], rfl, fun _ h => by simp at h, Nat.le_refl _, by omega, Rd.nil⟩
  · simp [Value.cells] at hcs
    obtain ⟨rfl, rfl, rfl⟩ := hcs
    have hlm : len ≤ m := by rw [hmm]; split <;> omega
    have g5 : Try.prog.cellsOf 42 = 5 := by kernel_rfl
    have hx : ∀ i, ∃ x : In, i < len → x.fits ∧ ∀ r, r < 5 → w.cell? (ad.add (5 * i + r)) = x.cells[r]? := fun i => by
      by_cases hlt : i < len
      · obtain ⟨cs', hc, ht⟩ := hi i (by omega)
        rw [g5] at hc
        obtain ⟨_, _, hat⟩ := World.cells?_some hc
        obtain ⟨x, rfl, hfit⟩ := insn_of ht
        refine ⟨x, fun _ => ⟨hfit, fun r hr => ?_⟩⟩
        rw [← hat r hr, add_twice, Nat.mul_comm]
      · exact ⟨⟨0, 0, 0, 0, 0⟩, fun h => absurd h hlt⟩
    refine ⟨(List.range len).map fun i => Classical.choose (hx i), by simp, fun x hxm => ?_, hl, by unfold maxLen at hm; omega, fun hpos => ?_⟩
    · obtain ⟨i, hir, rfl⟩ := List.mem_map.1 hxm
      exact (Classical.choose_spec (hx i) (List.mem_range.1 hir)).1
    · have hcell : ∀ j u, (iv ((List.range len).map fun i => Classical.choose (hx i)))[j]? = some u → w.cell? (ad.add j) = some u := by
        intro j u hu
        have hj : j < 5 * len := by
          have h1 := (List.getElem?_eq_some_iff.1 hu).1
          rw [iv_len] at h1
          simpa using h1
        have hk : j / 5 < len := by omega
        have hsp := (Classical.choose_spec (hx (j / 5)) hk).2 (j % 5) (by omega)
        have hg := iv_get ((List.range len).map fun i => Classical.choose (hx i)) (j / 5) (j % 5) (by simpa using hk) (by omega)
        rw [show 5 * (j / 5) + j % 5 = j by omega] at hsp hg
        rw [hsp, ← hu, hg]
        simp
      refine ⟨ad, rfl, ?_, hcell⟩
      have h0 := List.getElem?_eq_getElem hpos
      have h1 := World.block_lt_of_cell? w _ (hcell 0 _ h0)
      rw [add_block] at h1
      exact h1
end
end Go.Proofs.Ytenddhhaelnnnaa
