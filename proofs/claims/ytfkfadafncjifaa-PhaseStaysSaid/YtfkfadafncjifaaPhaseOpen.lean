/-
  How a list of numbers that comes in is read: for the rows' own steps of layer 7's statements.
-/
import Derived.Test.YtfkfadafncjifaaPhaseLow2
import Derived.Deep.Slices
import Derived.Deep.Fields
import Derived.OpenShut
import Derived.ProofKit
namespace Go.Proofs.Ytfkfadafncjifaa
open Go.RowKit Ow
open Go.ChangeShapes Go.WideShapes Go.Deep
set_option linter.unusedVariables false
set_option linter.unusedSimpArgs false
section
variable {H : Type} {enc : TypeId × Value → H} {w : World} {base : Nat} {spare : Nat → Bool} {held : Bool}
theorem open_times {a : Option Addr} {len cap : Nat} {d : DataW H} {p : List MemPlace} (h : DataW.Trod enc Try.prog w base spare held 22 (.slice a len cap) d p) :
    ∃ l : List Int, l.length = len ∧ (∀ t ∈ l, i64 t) ∧ len ≤ cap ∧ cap ≤ 9223372036854775807 ∧ Rd w w.heap.size a (zv l) := by
  obtain ⟨fuel, hf⟩ := h
  rcases open_ints Try.underlying22 Try.underlying3 (by kernel_rfl) hf with ⟨hcs, _⟩ | ⟨x, l, c, zs, hcs, _, hl, hm, hz, _, hcell, hwz⟩
  · simp [Value.cells] at hcs
    obtain ⟨rfl, rfl, rfl⟩ := hcs
    exact ⟨[], rfl, fun _ h => by simp at h, Nat.le_refl _, by omega, Rd.nil⟩
  · simp [Value.cells] at hcs
    obtain ⟨rfl, rfl, rfl⟩ := hcs
    have hle : len ≤ zs.length := by rw [hz]; split <;> omega
    refine ⟨zs.take len, by rw [List.length_take]; omega, fun b hb => ?_, hl, by unfold maxLen at hm; omega, fun hpos => ?_⟩
    · exact bounds_i64 (hwz b (List.mem_of_mem_take hb))
    · have hc2 : ∀ j u, (zv (zs.take len))[j]? = some u → w.cell? (x.add j) = some u := by
        intro j u hu
        have hj : j < len := by
          have h1 := (List.getElem?_eq_some_iff.1 hu).1
          rw [zv_len, List.length_take] at h1
          omega
        rw [hcell j (by omega), ← hu]
        unfold zv
        rw [List.getElem?_map, List.getElem?_take, if_pos hj, List.getElem?_eq_getElem (by omega)]
        simp [List.getD_eq_getElem?_getD, List.getElem?_eq_getElem (show j < zs.length by omega)]
      refine ⟨x, rfl, ?_, hc2⟩
      have h0 := List.getElem?_eq_getElem hpos
      have h1 := World.block_lt_of_cell? w _ (hc2 0 _ h0)
      rw [add_block] at h1
      exact h1
end
end Go.Proofs.Ytfkfadafncjifaa
