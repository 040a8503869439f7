/-
  What is known of a number: when it is one alone, and what operations make of it (P5.3): whatever numbers are of the parts, what is made of these is of what is told. Nothing of the program is named here.
-/
import Derived.Test.YtcimihckhobniaaGreatWScalarMath
import Derived.Test.YtcimihckhobniaaGreatWWordMath3
namespace Go.Proofs.YtcimihckhobniaaGreat.Sc
open Tn Sp Wd Go.RowKit
set_option linter.unusedVariables false
set_option linter.unusedSimpArgs false

theorem one_bd {x : C} (hx : mayC x) : 0 ≤ oneC x ∧ oneC x ≤ 18446744073709551615 := by
  have h2 := hx.2.1
  have h3 := hx.2.2
  unfold okU at h2; unfold okS at h3
  unfold oneC
  split
  · omega
  · split
    · exact bi_bd _
    · split
      · exact us_bd _ (by omega) (by omega)
      · omega
/-! ### The parts of an operation -/
section
variable {a b : C} {v w : BitVec 64}
theorem remV_bd (a b : Int) (h0 : 0 ≤ a) (h3 : 0 ≤ b) : 0 ≤ remV a b ∧ remV a b ≤ a := by
  unfold remV; split
  · omega
  · have := Int.emod_nonneg a (show b ≠ 0 by omega)
    refine ⟨this, ?_⟩
    rcases Int.lt_or_le a b with h | h
    · rw [Int.emod_eq_of_lt h0 h]; exact Int.le_refl _
    · have := Int.emod_lt_of_pos a (show 0 < b by omega); omega
end
end Go.Proofs.YtcimihckhobniaaGreat.Sc
