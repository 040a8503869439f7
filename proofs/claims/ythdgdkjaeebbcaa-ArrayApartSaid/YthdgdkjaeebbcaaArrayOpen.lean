/-
  How what is asked of an array (its places, its bytes), and a list of such, that comes in is read: for the rows' own steps of layer 9's statements.
-/
import Derived.Test.YthdgdkjaeebbcaaCellsOpen
namespace Go.Proofs.Ythdgdkjaeebbcaa
set_option maxRecDepth 100000
open Go.RowKit Ow Ro K2
open Go.ChangeShapes Go.WideShapes Go.Deep
set_option linter.unusedVariables false
set_option linter.unusedSimpArgs false
structure Qn where
  m : Int
  s : Int
def Qn.cells (x : Qn) : List Value := [.int .i64 x.m, .int .i64 x.s]
structure Qn.fits (x : Qn) : Prop where
  m : i64 x.m
  s : i64 x.s
def qv (L : List Qn) : List Value := L.flatMap Qn.cells
theorem qv_len (L : List Qn) : (qv L).length = 2 * L.length := by
  unfold qv
  rw [List.length_flatMap]
  have : (L.map fun x => x.cells.length) = L.map fun _ => 2 := List.map_congr_left fun x _ => rfl
  rw [this]
  clear this
  induction L with
  | nil => rfl
  | cons x L ih => rw [List.map_cons, List.sum_cons, ih, List.length_cons]; omega
theorem qv_get (L : List Qn) (k r : Nat) (hk : k < L.length) (hr : r < 2) : (qv L)[2 * k + r]? = L[k].cells[r]? := by
  induction L generalizing k with
  | nil => simp at hk
  | cons x L ih =>
    have hl : x.cells.length = 2 := rfl
    have e : qv (x :: L) = x.cells ++ qv L := by unfold qv; rw [List.flatMap_cons]
    rw [e]
    cases k with
    | zero =>
      rw [List.getElem?_append_left (by rw [hl]; omega)]
      simp
    | succ k =>
      rw [List.getElem?_append_right (by rw [hl]; omega), hl, show 2 * (k + 1) + r - 2 = 2 * k + r by omega]
      simpa using ih k (by simpa using hk)
section
variable {H : Type} {enc : TypeId × Value → H} {w : World} {base : Nat} {spare : Nat → Bool} {held : Bool}
theorem ask_of {fuel : Nat} {cs : List Value} {y : DataW H × List MemPlace} (h : DataW.trod enc Try.prog w base spare held fuel 58 cs = some y) : ∃ x : Qn, cs = x.cells ∧ x.fits := by
  obtain ⟨xs, n, _, _, hlen, hxl, hf⟩ := DataW.trod_struct Try.underlying58 h
  have h5 : cs.length = 2 := hlen.trans (by kernel_rfl)
  match cs, h5 with
  | [c0, c1], _ =>
    match xs, hxl with
    | [y0, y1], _ =>
      have g1 : Try.prog.cellsOf 3 = 1 := by kernel_rfl
      have k0 := hf 0 _ rfl
      have k1 := hf 1 _ rfl
      simp [g1] at k0 k1
      obtain ⟨n0, e0, _, w0⟩ := DataW.trod_int Try.underlying3 k0
      obtain ⟨n1, e1, _, w1⟩ := DataW.trod_int Try.underlying3 k1
      simp at e0 e1
      subst e0 e1
      exact ⟨⟨n0, n1⟩, rfl, bounds_i64 w0, bounds_i64 w1⟩
theorem open_ask {r : Reach} {b0 : Nat} {v : Value} {d : DataW H} {p : List MemPlace} (hv : Value.okWide Try.prog w r b0 58 v) (h : DataW.Trod enc Try.prog w base spare held 58 v d p) :
    ∃ x : Qn, v = .agg #[.int .i64 x.m, .int .i64 x.s] ∧ x.fits := by
  obtain ⟨cs, rfl, _⟩ := okWide_struct Try.underlying58 hv
  obtain ⟨fuel, hf⟩ := h
  obtain ⟨x, e, hx⟩ := ask_of hf
  refine ⟨x, ?_, hx⟩
  obtain ⟨l⟩ := cs
  simp [Value.cells] at e
  rw [e]; rfl
theorem open_asks {a : Option Addr} {len cap : Nat} {d : DataW H} {p : List MemPlace} (h : DataW.Trod enc Try.prog w base spare held 54 (.slice a len cap) d p) :
    ∃ L : List Qn, L.length = len ∧ (∀ x ∈ L, x.fits) ∧ len ≤ cap ∧ cap ≤ 9223372036854775807 ∧ Rd w w.heap.size a (qv L) := by
  obtain ⟨fuel, hf⟩ := h
  rcases open_slice Try.underlying54 hf with ⟨hcs, _⟩ | ⟨ad, l, c, m, n, D, Pl, hcs, _, hl, hm, hmm, _, hi⟩
  · simp [Value.cells] at hcs
    obtain ⟨rfl, rfl, rfl⟩ := hcs
    exact ⟨[], rfl, fun _ h => by simp at h, Nat.le_refl _, by omega, Rd.nil⟩
  · simp [Value.cells] at hcs
    obtain ⟨rfl, rfl, rfl⟩ := hcs
    have hlm : len ≤ m := by rw [hmm]; split <;> omega
    have g5 : Try.prog.cellsOf 58 = 2 := by kernel_rfl
    have hx : ∀ i, ∃ x : Qn, i < len → x.fits ∧ ∀ r, r < 2 → w.cell? (ad.add (2 * i + r)) = x.cells[r]? := fun i => by
      by_cases hlt : i < len
      · obtain ⟨cs', hc, ht⟩ := hi i (by omega)
        rw [g5] at hc
        obtain ⟨_, _, hat⟩ := World.cells?_some hc
        obtain ⟨x, rfl, hfit⟩ := ask_of ht
        refine ⟨x, fun _ => ⟨hfit, fun r hr => ?_⟩⟩
        rw [← hat r hr, add_twice, Nat.mul_comm]
      · exact ⟨⟨0, 0⟩, fun h => absurd h hlt⟩
    refine ⟨(List.range len).map fun i => Classical.choose (hx i), by simp, fun x hxm => ?_, hl, by unfold maxLen at hm; omega, fun hpos => ?_⟩
    · obtain ⟨i, hir, rfl⟩ := List.mem_map.1 hxm
      exact (Classical.choose_spec (hx i) (List.mem_range.1 hir)).1
    · have hcell : ∀ j u, (qv ((List.range len).map fun i => Classical.choose (hx i)))[j]? = some u → w.cell? (ad.add j) = some u := by
        intro j u hu
        have hj : j < 2 * len := by
          have h1 := (List.getElem?_eq_some_iff.1 hu).1
          rw [qv_len] at h1
          simpa using h1
        have hk : j / 2 < len := by omega
        have hsp := (Classical.choose_spec (hx (j / 2)) hk).2 (j % 2) (by omega)
        have hg := qv_get ((List.range len).map fun i => Classical.choose (hx i)) (j / 2) (j % 2) (by simpa using hk) (by omega)
        rw [show 2 * (j / 2) + j % 2 = j by omega] at hsp hg
        rw [hsp, ← hu, hg]
        simp
      refine ⟨ad, rfl, ?_, hcell⟩
      have h0 := List.getElem?_eq_getElem hpos
      have h1 := World.block_lt_of_cell? w _ (hcell 0 _ h0)
      rw [add_block] at h1
      exact h1
end
end Go.Proofs.Ythdgdkjaeebbcaa
