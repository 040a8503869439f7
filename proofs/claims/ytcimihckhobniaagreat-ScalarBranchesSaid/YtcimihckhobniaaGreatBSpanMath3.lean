/-
  Numbers from one to another: shifts, the bits that ends share, ends of known bits. Nothing of the program is named here.
-/
import Derived.Test.YtcimihckhobniaaGreatBSpanMath2
namespace Go.Proofs.YtcimihckhobniaaGreat.Sp
open Tn
set_option linter.unusedVariables false
set_option linter.unusedSimpArgs false

theorem hi_and (x : Int) (h0 : 0 ≤ x) (h1 : x ≤ 18446744073709551615) : (bits .and .u64 x 9223372036854775808 = 0) ↔ x < 9223372036854775808 := by
  rw [bits_and x _ h0 h1 (by decide) (by decide)]
  unfold andI
  have e : x.toNat &&& (9223372036854775808 : Int).toNat = if x.toNat.testBit 63 then 9223372036854775808 else 0 := by
    rw [show (9223372036854775808 : Int).toNat = 2 ^ 63 from rfl]
    apply Nat.eq_of_testBit_eq
    intro i
    rw [Nat.testBit_and, Nat.testBit_two_pow]
    by_cases hi : 63 = i
    · subst hi
      cases x.toNat.testBit 63 <;> rfl
    · rw [decide_eq_false hi, Bool.and_false]
      split
      · exact ((Nat.testBit_two_pow (n := 63) (m := i)).trans (decide_eq_false hi)).symm
      · exact (Nat.zero_testBit i).symm
  rw [e, Nat.testBit_eq_decide_div_mod_eq]
  simp only [Nat.reducePow]
  by_cases h : x < 9223372036854775808
  · rw [if_neg (by simp; omega)]; simp [h]
  · rw [if_pos (by simp; omega)]; simp [h]
theorem hi_xor (x y : Int) (h0 : 0 ≤ x) (h1 : x ≤ 18446744073709551615) (h2 : 0 ≤ y) (h3 : y ≤ 18446744073709551615) :
    (bits .and .u64 (bits .xor .u64 x y) 9223372036854775808 = 0) ↔ (x < 9223372036854775808 ↔ y < 9223372036854775808) := by
  have hb := xorI_bd x y h1 h3
  rw [bits_xor x y h0 h1 h2 h3, hi_and _ hb.1 hb.2]
  have t := Nat.testBit_xor x.toNat y.toNat 63
  rw [Nat.testBit_eq_decide_div_mod_eq, Nat.testBit_eq_decide_div_mod_eq, Nat.testBit_eq_decide_div_mod_eq] at t
  unfold xorI at hb ⊢
  generalize x.toNat ^^^ y.toNat = z at *
  simp only [Nat.reducePow] at t
  by_cases a : x < 9223372036854775808 <;> by_cases b : y < 9223372036854775808
  · rw [decide_eq_false (p := x.toNat / 9223372036854775808 % 2 = 1) (by omega), decide_eq_false (p := y.toNat / 9223372036854775808 % 2 = 1) (by omega)] at t
    have := of_decide_eq_false (show decide (z / 9223372036854775808 % 2 = 1) = false from t)
    omega
  · rw [decide_eq_false (p := x.toNat / 9223372036854775808 % 2 = 1) (by omega), decide_eq_true (p := y.toNat / 9223372036854775808 % 2 = 1) (by omega)] at t
    have := of_decide_eq_true (show decide (z / 9223372036854775808 % 2 = 1) = true from t)
    omega
  · rw [decide_eq_true (p := x.toNat / 9223372036854775808 % 2 = 1) (by omega), decide_eq_false (p := y.toNat / 9223372036854775808 % 2 = 1) (by omega)] at t
    have := of_decide_eq_true (show decide (z / 9223372036854775808 % 2 = 1) = true from t)
    omega
  · rw [decide_eq_true (p := x.toNat / 9223372036854775808 % 2 = 1) (by omega), decide_eq_true (p := y.toNat / 9223372036854775808 % 2 = 1) (by omega)] at t
    have := of_decide_eq_false (show decide (z / 9223372036854775808 % 2 = 1) = false from t)
    omega
/-! ### The bits that both ends share -/
theorem dif_le {u : E} (h : okU u) : dif u ≤ 64 := by
  unfold dif okU at *
  refine ln_64 ?_
  have k : u.lo.toNat ^^^ u.hi.toNat < 2 ^ 64 := Nat.xor_lt_two_pow (by simp only [Nat.reducePow]; omega) (by simp only [Nat.reducePow]; omega)
  exact k
theorem div_xor (x y k : Nat) : x / 2 ^ k = y / 2 ^ k ↔ x ^^^ y < 2 ^ k := by
  have e : (x ^^^ y) / 2 ^ k = x / 2 ^ k ^^^ y / 2 ^ k := Nat.xor_div_two_pow
  constructor
  · intro h
    rw [h, Nat.xor_self] at e
    exact (Nat.div_eq_zero_iff_lt (Nat.two_pow_pos k)).1 e
  · intro h
    rw [Nat.div_eq_of_lt h] at e
    have g : x / 2 ^ k = (x / 2 ^ k ^^^ y / 2 ^ k) ^^^ y / 2 ^ k := by rw [Nat.xor_assoc, Nat.xor_self, Nat.xor_zero]
    rw [← e, Nat.zero_xor] at g
    exact g
theorem dif_iff (u : E) (k : Nat) : u.lo.toNat / 2 ^ k = u.hi.toNat / 2 ^ k ↔ dif u ≤ k := by
  rw [div_xor]
  constructor
  · intro h; exact ln_le h
  · intro h; exact Nat.lt_of_lt_of_le (ln_lt _) (Nat.pow_le_pow_right (by decide) h)
theorem toT_v {u : E} (h : okU u) : bi (toT u).v = u.lo - u.lo % 2 ^ dif u := by
  unfold okU at h
  unfold toT bi
  dsimp only
  have hm := Nat.mod_le u.lo.toNat (2 ^ dif u)
  have hn : u.lo.toNat < 18446744073709551616 := by omega
  rw [BitVec.toNat_ofNat, Nat.mod_eq_of_lt (by simp only [Nat.reducePow]; omega)]
  have e : ((u.lo.toNat % 2 ^ dif u : Nat) : Int) = u.lo % 2 ^ dif u := by
    rw [Int.natCast_emod, pow_cast, Int.toNat_of_nonneg h.1]
  omega
theorem toT_m {u : E} (h : okU u) : bi (toT u).m = 2 ^ dif u - 1 := by
  have hd := dif_le h
  unfold toT bi
  dsimp only
  have h1 := Nat.two_pow_pos (dif u)
  have h2 : (2 : Nat) ^ dif u ≤ 2 ^ 64 := Nat.pow_le_pow_right (by decide) hd
  simp only [Nat.reducePow] at h2
  rw [BitVec.toNat_ofNat, Nat.mod_eq_of_lt (by simp only [Nat.reducePow]; omega), ← pow_cast]
  omega
theorem low_ones (x : BitVec 64) (k : Nat) (hk : k ≤ 64) : (x &&& ~~~(BitVec.ofNat 64 (2 ^ k - 1))).toNat = x.toNat - x.toNat % 2 ^ k := by
  have e : x &&& BitVec.ofNat 64 (2 ^ k - 1) = BitVec.ofNat 64 (x.toNat % 2 ^ k) := by
    apply BitVec.eq_of_toNat_eq
    rw [BitVec.toNat_and, BitVec.toNat_ofNat, BitVec.toNat_ofNat]
    have h1 : (2 : Nat) ^ k ≤ 2 ^ 64 := Nat.pow_le_pow_right (by decide) hk
    have h2 := Nat.two_pow_pos k
    have h3 : x.toNat % 2 ^ k ≤ x.toNat := Nat.mod_le _ _
    have h4 := x.isLt
    rw [Nat.mod_eq_of_lt (show 2 ^ k - 1 < 2 ^ 64 by omega), Nat.mod_eq_of_lt (show x.toNat % 2 ^ k < 2 ^ 64 by omega)]
    exact Nat.and_two_pow_sub_one_eq_mod _ _
  have s : x = (x &&& ~~~(BitVec.ofNat 64 (2 ^ k - 1))) + (x &&& BitVec.ofNat 64 (2 ^ k - 1)) := by
    rw [BitVec.add_eq_or_of_and_eq_zero]
    · refine bt_ext fun i hi => ?_
      simp only [BitVec.getLsbD_or, BitVec.getLsbD_and, BitVec.getLsbD_not, hi, decide_true, Bool.true_and]
      cases x.getLsbD i <;> cases (BitVec.ofNat 64 (2 ^ k - 1)).getLsbD i <;> rfl
    · refine bt_ext fun i hi => ?_
      simp only [BitVec.getLsbD_and, BitVec.getLsbD_not, hi, decide_true, Bool.true_and, BitVec.getLsbD_zero]
      cases x.getLsbD i <;> cases (BitVec.ofNat 64 (2 ^ k - 1)).getLsbD i <;> rfl
  have t : x.toNat = (x &&& ~~~(BitVec.ofNat 64 (2 ^ k - 1))).toNat + x.toNat % 2 ^ k := by
    have h9 : (x &&& BitVec.ofNat 64 (2 ^ k - 1)).toNat = x.toNat % 2 ^ k := by
      rw [e, BitVec.toNat_ofNat]
      have h3 : x.toNat % 2 ^ k ≤ x.toNat := Nat.mod_le _ _
      have h4 := x.isLt
      exact Nat.mod_eq_of_lt (by omega)
    have h10 : (x &&& ~~~(BitVec.ofNat 64 (2 ^ k - 1))).toNat + (x &&& BitVec.ofNat 64 (2 ^ k - 1)).toNat = x.toNat := by
      rw [BitVec.toNat_and, BitVec.toNat_not, BitVec.toNat_and]
      have g := congrArg BitVec.toNat s
      rw [BitVec.toNat_add_of_and_eq_zero] at g
      · rw [BitVec.toNat_and, BitVec.toNat_not, BitVec.toNat_and] at g; exact g.symm
      · refine bt_ext fun i hi => ?_
        simp only [BitVec.getLsbD_and, BitVec.getLsbD_not, hi, decide_true, Bool.true_and, BitVec.getLsbD_zero]
        cases x.getLsbD i <;> cases (BitVec.ofNat 64 (2 ^ k - 1)).getLsbD i <;> rfl
    omega
  omega
theorem bits_low (x : Int) (k : Nat) (hk : k ≤ 64) (h0 : 0 ≤ x) (h1 : x ≤ 18446744073709551615) : bits .andNot .u64 x (2 ^ k - 1) = x - x % 2 ^ k := by
  obtain ⟨p, rfl⟩ := bi_of x h0 h1
  have e : (2 : Int) ^ k - 1 = bi (BitVec.ofNat 64 (2 ^ k - 1)) := by
    unfold bi
    have h2 : (2 : Nat) ^ k ≤ 2 ^ 64 := Nat.pow_le_pow_right (by decide) hk
    have h3 := Nat.two_pow_pos k
    rw [BitVec.toNat_ofNat, Nat.mod_eq_of_lt (by omega), ← pow_cast]
    omega
  rw [e, bi_andNot]
  unfold bi
  rw [low_ones p k hk, ← pow_cast, ← Int.natCast_emod]
  have := Nat.mod_le p.toNat (2 ^ k)
  omega
/-- All numbers between ends have the bits that the ends share. -/
theorem share {u : E} (h : okU u) {x : Int} (hx : inE u x = true) : x - x % 2 ^ dif u = u.lo - u.lo % 2 ^ dif u := by
  rw [inE_iff] at hx
  unfold okU at h
  have hp := pow_pos' (dif u)
  have e := (dif_iff u (dif u)).2 (Nat.le_refl _)
  have e2 : u.lo / 2 ^ dif u = u.hi / 2 ^ dif u := by
    have g := congrArg (fun n : Nat => (n : Int)) e
    rw [Int.natCast_ediv, Int.natCast_ediv, pow_cast, Int.toNat_of_nonneg h.1, Int.toNat_of_nonneg (by omega)] at g
    exact g
  have l1 := Int.ediv_le_ediv hp hx.1
  have l2 := Int.ediv_le_ediv hp hx.2
  have e3 : x / 2 ^ dif u = u.lo / 2 ^ dif u := by omega
  have c1 := Int.mul_ediv_add_emod x (2 ^ dif u)
  have c2 := Int.mul_ediv_add_emod u.lo (2 ^ dif u)
  rw [e3] at c1
  omega
end Go.Proofs.YtcimihckhobniaaGreat.Sp
