/-
  Ends of known bits, without a sign and with one: what FromT tells. Nothing of the program is named here.
-/
import Derived.Test.YtcimihckhobniaaGreatBSpanMath3
namespace Go.Proofs.YtcimihckhobniaaGreat.Sp
open Tn
set_option linter.unusedVariables false
set_option linter.unusedSimpArgs false
theorem hib_bit (i : Nat) (hi : i < 64) : hib.getLsbD i = decide (i = 63) := by
  unfold hib
  rw [← BitVec.testBit_toNat]
  show (2 ^ 63 : Nat).testBit i = _
  rw [Nat.testBit_two_pow]
  rw [decide_eq_decide]
  omega
theorem top_bit (x : BitVec 64) : x.getLsbD 63 = decide (9223372036854775808 ≤ bi x) := by
  rw [← BitVec.testBit_toNat, Nat.testBit_eq_decide_div_mod_eq]
  have := x.isLt
  unfold bi
  rw [decide_eq_decide]
  simp only [Nat.reducePow] at this ⊢
  omega
theorem bi_le {x y : BitVec 64} (h : le x y) : bi x ≤ bi y := by
  unfold le at h
  have h2 := congrArg BitVec.toNat h
  rw [BitVec.toNat_and] at h2
  have := Nat.and_le_right (n := x.toNat) (m := y.toNat)
  unfold bi
  omega
theorem hib_or (v : BitVec 64) (h : bi v < 9223372036854775808) : bi (v ||| hib) = bi v + 9223372036854775808 := by
  unfold bi at h ⊢
  rw [BitVec.toNat_or]
  have e := Nat.two_pow_add_eq_or_of_lt (i := 63) (b := v.toNat) (by simp only [Nat.reducePow]; omega) 1
  rw [Nat.or_comm]
  show ((2 ^ 63 ||| v.toNat : Nat) : Int) = _
  simp only [Nat.mul_one] at e
  rw [← e]
  simp only [Nat.reducePow]
  omega
theorem hib_off (x : BitVec 64) : bi (x &&& ~~~hib) = bi x % 9223372036854775808 := by
  unfold bi
  rw [BitVec.toNat_and, show (~~~hib).toNat = 2 ^ 63 - 1 from rfl, Nat.and_two_pow_sub_one_eq_mod]
  simp only [Nat.reducePow]
  omega
theorem may_top {t : T} (h : mayT t) (hm : 9223372036854775808 ≤ bi t.m) : bi t.v < 9223372036854775808 := by
  rw [may_iff] at h
  have h2 := h 63 (by decide) (by rw [top_bit]; exact decide_eq_true hm)
  rw [top_bit] at h2
  have := of_decide_eq_false h2
  omega
theorem top_add {t : T} (h : mayT t) : bi (t.v + t.m) = bi t.v + bi t.m := by
  have e := bi_add t.v t.m
  rw [top_sum h] at e ⊢
  have h1 := bi_bd t.v
  have h2 := bi_bd t.m
  have h3 : bi t.v + bi t.m ≤ 18446744073709551615 := by
    have g := BitVec.toNat_add_of_and_eq_zero h
    have := (t.v + t.m).isLt
    unfold bi
    simp only [Nat.reducePow] at this
    omega
  omega
/-- The document's ends with a sign. -/
theorem from_ref {t : T} (h : mayT t) (hm : 9223372036854775808 ≤ bi t.m) :
    bi (t.v ||| hib) = bi t.v + 9223372036854775808 ∧ bi ((t.v + t.m) &&& ~~~hib) = bi t.v + (bi t.m - 9223372036854775808) := by
  have h1 := may_top h hm
  refine ⟨hib_or _ h1, ?_⟩
  rw [hib_off, top_add h]
  have := bi_bd (t.v + t.m)
  rw [top_add h] at this
  have := bi_bd t.v
  omega
/-! ### Whichever bits are taken -/
theorem one_le (t : T) (u : BitVec 64) : le t.v (oneT t u) ∧ le (oneT t u) (t.v ||| t.m) := by
  constructor
  · rw [le_iff]; intro i hi h; unfold oneT; rw [BitVec.getLsbD_or, h]; rfl
  · rw [le_iff]; intro i hi h; unfold oneT at h
    rw [BitVec.getLsbD_or, BitVec.getLsbD_and] at h
    rw [BitVec.getLsbD_or]
    cases hv : t.v.getLsbD i <;> simp_all
theorem taken_u {t : T} (h : mayT t) (u : BitVec 64) : inE (fromU t) (bi (oneT t u)) = true := by
  rw [inE_iff]
  obtain ⟨h1, h2⟩ := one_le t u
  refine ⟨bi_le h1, ?_⟩
  show _ ≤ bi (t.v + t.m)
  rw [top_sum h]
  exact bi_le h2
theorem taken_s {t : T} (h : mayT t) (u : BitVec 64) : inE (fromS t) (sg (bi (oneT t u))) = true := by
  obtain ⟨h1, h2⟩ := one_le t u
  have l1 := bi_le h1
  have l2 := bi_le h2
  have bx := bi_bd (oneT t u)
  have bv := bi_bd t.v
  have bm := bi_bd (t.v ||| t.m)
  unfold fromS
  split
  · rename_i hm
    rw [inE_iff]
    dsimp only
    rw [top_sum h]
    have t1 := top_bit t.v
    have t2 := top_bit (t.v ||| t.m)
    rw [BitVec.getLsbD_or, top_bit t.m, decide_eq_false (show ¬ 9223372036854775808 ≤ bi t.m by omega), Bool.or_false] at t2
    have t3 : (9223372036854775808 ≤ bi t.v) ↔ 9223372036854775808 ≤ bi (t.v ||| t.m) := by
      rw [← decide_eq_decide, ← t1, ← t2]
    unfold sg
    split <;> split <;> split <;> omega
  · rename_i hm
    have f := from_ref h (by omega)
    have hv := may_top h (by omega)
    have ta := top_add h
    have tb := bi_bd (t.v + t.m)
    rw [inE_iff]
    dsimp only
    rw [f.1, f.2]
    have hx : 9223372036854775808 ≤ bi (oneT t u) → bi t.v + 9223372036854775808 ≤ bi (oneT t u) := by
      intro hx
      rw [← f.1]
      refine bi_le ?_
      rw [le_iff]
      intro i hi g
      rw [BitVec.getLsbD_or, hib_bit i hi] at g
      by_cases hi2 : i = 63
      · subst hi2; rw [top_bit]; exact decide_eq_true hx
      · rw [decide_eq_false hi2, Bool.or_false] at g
        exact (le_iff _ _).1 h1 i hi g
    have l3 : bi (oneT t u) ≤ bi t.v + bi t.m := by rw [← ta, top_sum h]; exact l2
    have hy : ¬ 9223372036854775808 ≤ bi (oneT t u) → bi (oneT t u) ≤ bi t.v + (bi t.m - 9223372036854775808) := by
      intro hx
      rw [← f.2]
      refine bi_le ?_
      rw [le_iff]
      intro i hi g
      rw [BitVec.getLsbD_and, BitVec.getLsbD_not, hib_bit i hi, top_sum h]
      have g2 := (le_iff _ _).1 h2 i hi g
      by_cases hi2 : i = 63
      · subst hi2; rw [top_bit] at g; exact absurd (of_decide_eq_true g) hx
      · rw [g2, decide_eq_false hi2]; simp [hi]
    unfold sg
    split <;> split <;> split <;> omega
end Go.Proofs.YtcimihckhobniaaGreat.Sp
