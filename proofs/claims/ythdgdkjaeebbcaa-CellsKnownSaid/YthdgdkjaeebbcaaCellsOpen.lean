/-
  How bytes and numbers that come in are read: for the rows' own steps of layer 8's statements.
-/
import Derived.Test.YthdgdkjaeebbcaaCellsWorks
import Derived.Deep.Slices
import Derived.Deep.Fields
import Derived.OpenShut
import Derived.ProofKit
namespace Go.Proofs.Ythdgdkjaeebbcaa
set_option maxRecDepth 100000
open Go.RowKit Ow Ro K2
open Go.ChangeShapes Go.WideShapes Go.Deep
set_option linter.unusedVariables false
set_option linter.unusedSimpArgs false
def iv8 (l : List Int) : List Value := l.map (Value.int .i64)
section
variable {H : Type} {enc : TypeId × Value → H} {w : World} {base : Nat} {spare : Nat → Bool} {held : Bool}
/-- A list of bytes that comes in. -/
theorem open_bytes {a : Option Addr} {len cap : Nat} {d : DataW H} {p : List MemPlace} (h : DataW.Trod enc Try.prog w base spare held 31 (.slice a len cap) d p) :
    ∃ l : List Int, l.length = len ∧ (∀ b ∈ l, 0 ≤ b ∧ b ≤ 255) ∧ len ≤ cap ∧ cap ≤ 9223372036854775807 ∧ (a = none → len = 0 ∧ cap = 0) ∧ Rd w w.heap.size a (bv l) := by
  obtain ⟨fuel, hf⟩ := h
  rcases open_ints Try.underlying31 Try.underlying5 (by kernel_rfl) hf with ⟨hcs, _⟩ | ⟨x, l, c, zs, hcs, _, hl, hm, hz, _, hcell, hwz⟩
  · simp [Value.cells] at hcs
    obtain ⟨rfl, rfl, rfl⟩ := hcs
    exact ⟨[], rfl, fun _ h => by simp at h, Nat.le_refl _, by omega, fun _ => ⟨rfl, rfl⟩, Rd.nil⟩
  · simp [Value.cells] at hcs
    obtain ⟨rfl, rfl, rfl⟩ := hcs
    have hle : len ≤ zs.length := by rw [hz]; split <;> omega
    refine ⟨zs.take len, by rw [List.length_take]; omega, fun b hb => ?_, hl, by unfold maxLen at hm; omega, (fun e => by cases e), fun hpos => ?_⟩
    · exact bounds_u8 (hwz b (List.mem_of_mem_take hb))
    · have hc2 : ∀ j u, (bv (zs.take len))[j]? = some u → w.cell? (x.add j) = some u := by
        intro j u hu
        have hj : j < len := by
          have h1 := (List.getElem?_eq_some_iff.1 hu).1
          rw [bv_len, List.length_take] at h1
          omega
        rw [hcell j (by omega), ← hu]
        unfold bv
        rw [List.getElem?_map, List.getElem?_take, if_pos hj, List.getElem?_eq_getElem (by omega)]
        simp [List.getD_eq_getElem?_getD, List.getElem?_eq_getElem (show j < zs.length by omega)]
      refine ⟨x, rfl, ?_, hc2⟩
      have h0 := List.getElem?_eq_getElem hpos
      have h1 := World.block_lt_of_cell? w _ (hc2 0 _ h0)
      rw [add_block] at h1
      exact h1
/-- A list of numbers that comes in. -/
theorem open_times {a : Option Addr} {len cap : Nat} {d : DataW H} {p : List MemPlace} (h : DataW.Trod enc Try.prog w base spare held 50 (.slice a len cap) d p) :
    ∃ l : List Int, l.length = len ∧ (∀ t ∈ l, i64 t) ∧ len ≤ cap ∧ cap ≤ 9223372036854775807 ∧ Rd w w.heap.size a (iv8 l) := by
  obtain ⟨fuel, hf⟩ := h
  rcases open_ints Try.underlying50 Try.underlying3 (by kernel_rfl) hf with ⟨hcs, _⟩ | ⟨x, l, c, zs, hcs, _, hl, hm, hz, _, hcell, hwz⟩
  · simp [Value.cells] at hcs
    obtain ⟨rfl, rfl, rfl⟩ := hcs
    exact ⟨[], rfl, fun _ h => by simp at h, Nat.le_refl _, by omega, Rd.nil⟩
  · simp [Value.cells] at hcs
    obtain ⟨rfl, rfl, rfl⟩ := hcs
    have hle : len ≤ zs.length := by rw [hz]; split <;> omega
    refine ⟨zs.take len, by rw [List.length_take]; omega, fun b hb => ?_, hl, by unfold maxLen at hm; omega, fun hpos => ?_⟩
    · exact bounds_i64 (hwz b (List.mem_of_mem_take hb))
    · have hc2 : ∀ j u, (iv8 (zs.take len))[j]? = some u → w.cell? (x.add j) = some u := by
        intro j u hu
        have hj : j < len := by
          have h1 := (List.getElem?_eq_some_iff.1 hu).1
          unfold iv8 at h1
          rw [List.length_map, List.length_take] at h1
          omega
        rw [hcell j (by omega), ← hu]
        unfold iv8
        rw [List.getElem?_map, List.getElem?_take, if_pos hj, List.getElem?_eq_getElem (by omega)]
        simp [List.getD_eq_getElem?_getD, List.getElem?_eq_getElem (show j < zs.length by omega)]
      refine ⟨x, rfl, ?_, hc2⟩
      have h0 := List.getElem?_eq_getElem hpos
      have h1 := World.block_lt_of_cell? w _ (hc2 0 _ h0)
      rw [add_block] at h1
      exact h1
end
end Go.Proofs.Ythdgdkjaeebbcaa
