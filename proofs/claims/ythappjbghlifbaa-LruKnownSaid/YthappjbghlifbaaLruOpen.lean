/-
  How bytes and acts that come in are read: for the rows' own steps of layer 11's statements.
-/
import Derived.Test.YthappjbghlifbaaLruDoc
import Derived.Deep.Slices
import Derived.Deep.Fields
import Derived.OpenShut
import Derived.ProofKit
namespace Go.Proofs.Ythappjbghlifbaa
set_option maxRecDepth 100000
open Go.RowKit Ow Ro K2
open Go.ChangeShapes Go.WideShapes Go.Deep
set_option linter.unusedVariables false
set_option linter.unusedSimpArgs false
def i64 (n : Int) : Prop := -9223372036854775808 ≤ n ∧ n ≤ 9223372036854775807
section
variable {H : Type} {enc : TypeId × Value → H} {w : World} {base : Nat} {spare : Nat → Bool} {held : Bool}
/-- A list of bytes that comes in. -/
theorem open_bytes {a : Option Addr} {len cap : Nat} {d : DataW H} {p : List MemPlace} (h : DataW.Trod enc Try.prog w base spare held 27 (.slice a len cap) d p) :
    ∃ l : List Int, l.length = len ∧ (∀ b ∈ l, 0 ≤ b ∧ b ≤ 255) ∧ len ≤ cap ∧ cap ≤ 9223372036854775807 ∧ (a = none → len = 0 ∧ cap = 0) ∧ Rd w w.heap.size a (bv l) := by
  obtain ⟨fuel, hf⟩ := h
  rcases open_ints Try.underlying27 Try.underlying5 (by kernel_rfl) hf with ⟨hcs, _⟩ | ⟨x, l, c, zs, hcs, _, hl, hm, hz, _, hcell, hwz⟩
  · simp [Value.cells] at hcs
    obtain ⟨rfl, rfl, rfl⟩ := hcs
    exact ⟨[], rfl, fun _ h => by simp at h, Nat.le_refl _, by omega, fun _ => ⟨rfl, rfl⟩, Rd.nil⟩
  · simp [Value.cells] at hcs
    obtain ⟨rfl, rfl, rfl⟩ := hcs
    have hle : len ≤ zs.length := by rw [hz]; split <;> omega
    refine ⟨zs.take len, by rw [List.length_take]; omega, fun b hb => ?_, hl, by unfold maxLen at hm; omega, (fun e => by cases e), fun hpos => ?_⟩
    · exact bounds_u8 (hwz b (List.mem_of_mem_take hb))
    · have hc2 : ∀ j u, (bv (zs.take len))[j]? = some u → w.cell? (x.add j) = some u := by
        intro j u hu
        have hj : j < len := by
          have h1 := (List.getElem?_eq_some_iff.1 hu).1
          rw [bv_len, List.length_take] at h1
          omega
        rw [hcell j (by omega), ← hu]
        unfold bv
        rw [List.getElem?_map, List.getElem?_take, if_pos hj, List.getElem?_eq_getElem (by omega)]
        simp [List.getD_eq_getElem?_getD, List.getElem?_eq_getElem (show j < zs.length by omega)]
      refine ⟨x, rfl, ?_, hc2⟩
      have h0 := List.getElem?_eq_getElem hpos
      have h1 := World.block_lt_of_cell? w _ (hc2 0 _ h0)
      rw [add_block] at h1
      exact h1
end
/-- A call. -/
structure Opn where
  kind : Int
  cell : Int
  a : Option Addr
  n : Nat
  c : Nat
  bs : List Int
def Opn.cells (x : Opn) : List Value := [.int .i64 x.kind, .int .i64 x.cell, .slice x.a x.n x.c]
def Opn.val (x : Opn) : Value := .agg #[.int .i64 x.kind, .int .i64 x.cell, .slice x.a x.n x.c]
structure Opn.fits (x : Opn) : Prop where
  kind : i64 x.kind
  cell : i64 x.cell
  len : x.bs.length = x.n
  bytes : ∀ b ∈ x.bs, 0 ≤ b ∧ b ≤ 255
  room : x.n ≤ x.c
  most : x.c ≤ 9223372036854775807
  nil : x.a = none → x.n = 0 ∧ x.c = 0
def opv (L : List Opn) : List Value := L.flatMap Opn.cells
theorem opv_len (L : List Opn) : (opv L).length = 3 * L.length := by
  unfold opv
  rw [List.length_flatMap]
  have : (L.map fun x => x.cells.length) = L.map fun _ => 3 := List.map_congr_left fun x _ => rfl
  rw [this]
  clear this
  induction L with
  | nil => rfl
  | cons x L ih => rw [List.map_cons, List.sum_cons, ih, List.length_cons]; omega
theorem opv_get (L : List Opn) (k r : Nat) (hk : k < L.length) (hr : r < 3) : (opv L)[3 * k + r]? = L[k].cells[r]? := by
  induction L generalizing k with
  | nil => simp at hk
  | cons x L ih =>
    have hl : x.cells.length = 3 := rfl
    have e : opv (x :: L) = x.cells ++ opv L := by unfold opv; rw [List.flatMap_cons]
    rw [e]
    cases k with
    | zero =>
      rw [List.getElem?_append_left (by rw [hl]; omega)]
      simp
    | succ k =>
      rw [List.getElem?_append_right (by rw [hl]; omega), hl, show 3 * (k + 1) + r - 3 = 3 * k + r by omega]
      simpa using ih k (by simpa using hk)
/-- The calls lie there, and their bytes. -/
structure OpsAt (w : World) (B : Nat) (a : Option Addr) (L : List Opn) : Prop where
  row : Rd w B a (opv L)
  bytes : ∀ x ∈ L, Rd w B x.a (bv x.bs)
theorem OpsAt.below {w w' : World} {B : Nat} {a : Option Addr} {L : List Opn} (h : OpsAt w B a L) (hb : Below B w w') : OpsAt w' B a L := ⟨h.row.below hb, fun x hx => (h.bytes x hx).below hb⟩
section
variable {H : Type} {enc : TypeId × Value → H} {w : World} {base : Nat} {spare : Nat → Bool} {held : Bool}
theorem bytes_of {fuel : Nat} {cs : List Value} {y : DataW H × List MemPlace} (h : DataW.trod enc Try.prog w base spare held fuel 27 cs = some y) :
    ∃ (a : Option Addr) (len cap : Nat) (l : List Int), cs = [.slice a len cap] ∧ l.length = len ∧ (∀ b ∈ l, 0 ≤ b ∧ b ≤ 255) ∧ len ≤ cap ∧ cap ≤ 9223372036854775807 ∧ (a = none → len = 0 ∧ cap = 0) ∧ Rd w w.heap.size a (bv l) := by
  have h0 := h
  rcases open_ints Try.underlying27 Try.underlying5 (by kernel_rfl) h with ⟨hcs, _⟩ | ⟨x, l, c, zs, hcs, _, hl, hm, hz, _, hcell, hwz⟩
  · subst hcs
    exact ⟨none, 0, 0, [], rfl, rfl, fun _ h => by simp at h, Nat.le_refl _, by omega, fun _ => ⟨rfl, rfl⟩, Rd.nil⟩
  · subst hcs
    obtain ⟨l', h1, h2, h3, h4, h5, h6⟩ := open_bytes (a := some x) (len := l) (cap := c) (d := y.1) (p := y.2) ⟨fuel, h0⟩
    exact ⟨_, _, _, l', rfl, h1, h2, h3, h4, h5, h6⟩
/-- The cells of a call that comes in. -/
theorem op_of {fuel : Nat} {cs : List Value} {y : DataW H × List MemPlace} (h : DataW.trod enc Try.prog w base spare held fuel 29 cs = some y) : ∃ x : Opn, cs = x.cells ∧ x.fits ∧ Rd w w.heap.size x.a (bv x.bs) := by
  obtain ⟨xs, n, _, _, hlen, hxl, hf⟩ := DataW.trod_struct Try.underlying29 h
  have h3 : cs.length = 3 := hlen.trans (by kernel_rfl)
  match cs, h3 with
  | [c0, c1, c2], _ =>
    match xs, hxl with
    | [y0, y1, y2], _ =>
      have g1 : Try.prog.cellsOf 3 = 1 := by kernel_rfl
      have g3 : Try.prog.cellsOf 27 = 1 := by kernel_rfl
      have k0 := hf 0 _ rfl
      have k1 := hf 1 _ rfl
      have k2 := hf 2 _ rfl
      simp [g1, g3] at k0 k1 k2
      obtain ⟨n0, e0, _, w0⟩ := DataW.trod_int Try.underlying3 k0
      obtain ⟨n1, e1, _, w1⟩ := DataW.trod_int Try.underlying3 k1
      obtain ⟨a, len, cap, l, e6, h1, h2, h3, h4, h5, h6⟩ := bytes_of k2
      simp at e0 e1 e6
      subst e0 e1 e6
      exact ⟨⟨n0, n1, a, len, cap, l⟩, rfl, ⟨bounds_i64 w0, bounds_i64 w1, h1, h2, h3, h4, h5⟩, h6⟩
/-- A list of calls that comes in. -/
theorem open_ops {a : Option Addr} {len cap : Nat} {d : DataW H} {p : List MemPlace} (h : DataW.Trod enc Try.prog w base spare held 22 (.slice a len cap) d p) :
    ∃ L : List Opn, L.length = len ∧ (∀ x ∈ L, x.fits) ∧ len ≤ cap ∧ cap ≤ 9223372036854775807 ∧ OpsAt w w.heap.size a L := by
  obtain ⟨fuel, hf⟩ := h
  rcases open_slice Try.underlying22 hf with ⟨hcs, _⟩ | ⟨ad, l, c, m, n, D, Pl, hcs, _, hl, hm, hmm, _, hi⟩
  · simp [Value.cells] at hcs
    obtain ⟨rfl, rfl, rfl⟩ := hcs
    exact ⟨[], rfl, fun _ h => by simp at h, Nat.le_refl _, by omega, Rd.nil, fun _ h => by simp at h⟩
  · simp [Value.cells] at hcs
    obtain ⟨rfl, rfl, rfl⟩ := hcs
    have hlm : len ≤ m := by rw [hmm]; split <;> omega
    have g7 : Try.prog.cellsOf 29 = 3 := by kernel_rfl
    have hx : ∀ i, ∃ x : Opn, i < len → (x.fits ∧ Rd w w.heap.size x.a (bv x.bs)) ∧ ∀ r, r < 3 → w.cell? (ad.add (3 * i + r)) = x.cells[r]? := fun i => by
      by_cases hlt : i < len
      · obtain ⟨cs', hc, ht⟩ := hi i (by omega)
        rw [g7] at hc
        obtain ⟨_, _, hat⟩ := World.cells?_some hc
        obtain ⟨x, rfl, hfit⟩ := op_of ht
        refine ⟨x, fun _ => ⟨hfit, fun r hr => ?_⟩⟩
        rw [← hat r hr, add_twice, Nat.mul_comm]
      · exact ⟨⟨0, 0, none, 0, 0, []⟩, fun h => absurd h hlt⟩
    refine ⟨(List.range len).map fun i => Classical.choose (hx i), by simp, fun x hxm => ?_, hl, by unfold maxLen at hm; omega, fun hpos => ?_, fun x hxm => ?_⟩
    · obtain ⟨i, hir, rfl⟩ := List.mem_map.1 hxm
      exact (Classical.choose_spec (hx i) (List.mem_range.1 hir)).1.1
    · have hcell : ∀ j u, (opv ((List.range len).map fun i => Classical.choose (hx i)))[j]? = some u → w.cell? (ad.add j) = some u := by
        intro j u hu
        have hj : j < 3 * len := by
          have h1 := (List.getElem?_eq_some_iff.1 hu).1
          rw [opv_len] at h1
          simpa using h1
        have hk : j / 3 < len := by omega
        have hsp := (Classical.choose_spec (hx (j / 3)) hk).2 (j % 3) (by omega)
        have hg := opv_get ((List.range len).map fun i => Classical.choose (hx i)) (j / 3) (j % 3) (by simpa using hk) (by omega)
        rw [show 3 * (j / 3) + j % 3 = j by omega] at hsp hg
        rw [hsp, ← hu, hg]
        simp
      refine ⟨ad, rfl, ?_, hcell⟩
      have h0 := List.getElem?_eq_getElem hpos
      have h1 := World.block_lt_of_cell? w _ (hcell 0 _ h0)
      rw [add_block] at h1
      exact h1
    · obtain ⟨i, hir, rfl⟩ := List.mem_map.1 hxm
      exact (Classical.choose_spec (hx i) (List.mem_range.1 hir)).1.2
end
end Go.Proofs.Ythappjbghlifbaa
