/-
  What is known of a number: when it is one alone, and what operations make of it (P5.3): whatever numbers are of the parts, what is made of these is of what is told. Nothing of the program is named here.
-/
import Derived.Test.YtcimihckhobniaaGreatBScalarMath
import Derived.Test.YtcimihckhobniaaGreatBWordMath3
namespace Go.Proofs.YtcimihckhobniaaGreat.Sc
open Tn Sp Wd Go.RowKit
set_option linter.unusedVariables false
set_option linter.unusedSimpArgs false

theorem one_is {x : C} (hx : mayC x) {v : BitVec 64} (hv : inC x v = true) (h : aloneC x = true) : oneC x = bi v := by
  rw [inC_iff, inE_iff, inE_iff] at hv
  unfold aloneC at h
  simp only [Bool.or_eq_true, decide_eq_true_eq, beq_iff_eq] at h
  unfold oneC
  by_cases h1 : x.u.lo = x.u.hi
  · rw [if_pos h1]; omega
  · rw [if_neg h1]
    by_cases h2 : x.t.m = 0#64
    · rw [if_pos h2]
      have e : v = x.t.v := by
        refine bt_ext ?_
        intro i hi
        exact (in_iff x.t v).1 hv.1 i hi (by rw [h2]; simp)
      rw [e]
    · rw [if_neg h2]
      have h3 : x.s.lo = x.s.hi := by rcases h with h | h | h; exact absurd h h1; exact absurd h h2; exact h
      rw [if_pos h3, ← us_sg_bi v]
      have : x.s.lo = sg (bi v) := by have := hv.2.2; generalize sg (bi v) = k at *; omega
      rw [this]
theorem one_bd {x : C} (hx : mayC x) : 0 ≤ oneC x ∧ oneC x ≤ 18446744073709551615 := by
  have h2 := hx.2.1
  have h3 := hx.2.2
  unfold okU at h2; unfold okS at h3
  unfold oneC
  split
  · omega
  · split
    · exact bi_bd _
    · split
      · exact us_bd _ (by omega) (by omega)
      · omega
/-! ### The parts of an operation -/
theorem bi_andI (x y : BitVec 64) : andI (bi x) (bi y) = bi (x &&& y) := by unfold andI bi; rw [Int.toNat_natCast, Int.toNat_natCast, BitVec.toNat_and]
section
variable {a b : C} {v w : BitVec 64}
theorem remV_bd (a b : Int) (h0 : 0 ≤ a) (h3 : 0 ≤ b) : 0 ≤ remV a b ∧ remV a b ≤ a := by
  unfold remV; split
  · omega
  · have := Int.emod_nonneg a (show b ≠ 0 by omega)
    refine ⟨this, ?_⟩
    rcases Int.lt_or_le a b with h | h
    · rw [Int.emod_eq_of_lt h0 h]; exact Int.le_refl _
    · have := Int.emod_lt_of_pos a (show 0 < b by omega); omega
end
end Go.Proofs.YtcimihckhobniaaGreat.Sc
