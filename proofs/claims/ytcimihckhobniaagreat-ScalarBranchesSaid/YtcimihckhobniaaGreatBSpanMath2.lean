/-
  Numbers from one to another: whatever numbers are of them, what is made of these is of what is told. Nothing of the program is named here.
-/
import Derived.Test.YtcimihckhobniaaGreatBSpanMath
namespace Go.Proofs.YtcimihckhobniaaGreat.Sp
open Tn
set_option linter.unusedVariables false
set_option linter.unusedSimpArgs false

theorem okU_all : okU uAll := by unfold okU uAll; simp
theorem okS_all : okS sAll := by unfold okS sAll; simp
theorem in_all {v : Int} (h0 : 0 ≤ v) (h1 : v ≤ 18446744073709551615) : inE uAll v = true := by rw [inE_iff]; exact ⟨h0, h1⟩
theorem in_sall {v : Int} (h0 : -9223372036854775808 ≤ v) (h1 : v ≤ 9223372036854775807) : inE sAll v = true := by rw [inE_iff]; exact ⟨h0, h1⟩
section
variable {a b : E} {x y : Int}
theorem sg_bd (v : Int) (h0 : 0 ≤ v) (h1 : v ≤ 18446744073709551615) : -9223372036854775808 ≤ sg v ∧ sg v ≤ 9223372036854775807 := by unfold sg; split <;> omega
theorem us_bd (v : Int) (h0 : -9223372036854775808 ≤ v) (h1 : v ≤ 9223372036854775807) : 0 ≤ us v ∧ us v ≤ 18446744073709551615 := by unfold us; split <;> omega
theorem us_sg (v : Int) (h0 : 0 ≤ v) (h1 : v ≤ 18446744073709551615) : us (sg v) = v := by unfold us sg; split <;> split <;> omega
theorem toS_sound (ha : okU a) (hx : inE a x = true) : inE (toS a) (sg x) = true := by
  rw [inE_iff] at hx
  unfold okU at ha
  unfold toS
  split
  · rw [inE_iff]; dsimp only; unfold sg; split <;> split <;> split <;> omega
  · have := sg_bd x (by omega) (by omega); exact in_sall this.1 this.2
theorem toU_sound (ha : okS a) (hx : inE a x = true) : inE (toU a) (us x) = true := by
  rw [inE_iff] at hx
  unfold okS at ha
  unfold toU
  split
  · have := us_bd x (by omega) (by omega); exact in_all this.1 this.2
  · rw [inE_iff]; dsimp only; unfold us; split <;> split <;> split <;> omega
theorem div_pow_bd (v : Int) (k : Nat) (h0 : -9223372036854775808 ≤ v) (h1 : v ≤ 9223372036854775807) : -9223372036854775808 ≤ v / 2 ^ k ∧ v / 2 ^ k ≤ 9223372036854775807 := by
  have hp := pow_pos' k
  have c := Int.mul_ediv_add_emod v (2 ^ k)
  have m0 := Int.emod_nonneg v (show (2 : Int) ^ k ≠ 0 by omega)
  have m1 := Int.emod_lt_of_pos v hp
  constructor
  · rcases Int.lt_or_le v 0 with h | h
    · have : -9223372036854775808 * 2 ^ k ≤ v := by
        have : (-9223372036854775808 : Int) * 2 ^ k ≤ -9223372036854775808 * 1 := Int.mul_le_mul_of_nonpos_left (by omega) (by omega)
        omega
      exact (Int.le_ediv_iff_mul_le hp).2 this
    · have := Int.ediv_nonneg h (show (0 : Int) ≤ 2 ^ k by omega); omega
  · rcases Int.lt_or_le v 0 with h | h
    · have := Int.ediv_neg_of_neg_of_pos h hp; omega
    · have := Int.ediv_le_self (2 ^ k) h; omega
end
/-! ### Numbers alone -/
theorem okU_of (x : Int) (h0 : 0 ≤ x) (h1 : x ≤ 18446744073709551615) : okU (ofE x) := ⟨h0, Int.le_refl _, h1⟩
theorem okS_of (x : Int) (h0 : -9223372036854775808 ≤ x) (h1 : x ≤ 9223372036854775807) : okS (ofE x) := ⟨h0, Int.le_refl _, h1⟩
end Go.Proofs.YtcimihckhobniaaGreat.Sp
