/-
  Plain mathematics of layer 1, sixth part: sums and quotients are taken back; or and and are a sum; narrow operations hang on the lowest 32 bits; shifts one by one; orders. Nothing of the program is named here.
-/
import Derived.Test.YtopgjjcljapjoaaWordMath4
namespace Go.Proofs.Ytopgjjcljapjoaa.Wd
open Go.RowKit
set_option linter.unusedVariables false

theorem aluV_bd (op : Int) (wide : Bool) (a b : Int) (h1 : 0 ≤ a) (h2 : a ≤ 18446744073709551615) (h3 : 0 ≤ b) (h4 : b ≤ 18446744073709551615) :
    0 ≤ aluV op wide a b ∧ aluV op wide a b ≤ 18446744073709551615 := by
  cases wide
  · show 0 ≤ aluG 32 op _ _ ∧ aluG 32 op _ _ ≤ _
    rw [← code32]; omega
  · show 0 ≤ aluG 64 op _ _ ∧ aluG 64 op _ _ ≤ _
    rw [← code64 op a b h1 h2 h3 h4]; exact calcV_bd _ _ _ _ _ h1 h2 h3 h4
theorem aluV_thin (op a b : Int) : 0 ≤ aluV op false a b ∧ aluV op false a b < 4294967296 := by
  show 0 ≤ aluG 32 op _ _ ∧ aluG 32 op _ _ < _
  rw [← code32]; omega

/-! ### What is the operation at a width -/
theorem w0 (a b : Int) : aluV 0 true a b = (a + b) % 18446744073709551616 := rfl
theorem n0 (a b : Int) : aluV 0 false a b = (a % 4294967296 + b % 4294967296) % 4294967296 := rfl
theorem w1 (a b : Int) : aluV 1 true a b = (a - b) % 18446744073709551616 := rfl
theorem n1 (a b : Int) : aluV 1 false a b = (a % 4294967296 - b % 4294967296) % 4294967296 := rfl
theorem w2 (a b : Int) : aluV 2 true a b = a * b % 18446744073709551616 := rfl
theorem n2 (a b : Int) : aluV 2 false a b = (a % 4294967296) * (b % 4294967296) % 4294967296 := rfl
theorem w3 (a b : Int) : aluV 3 true a b = quoV a b := rfl
theorem n3 (a b : Int) : aluV 3 false a b = quoV (a % 4294967296) (b % 4294967296) := rfl
theorem w9 (a b : Int) : aluV 9 true a b = remV a b := rfl
theorem n9 (a b : Int) : aluV 9 false a b = remV (a % 4294967296) (b % 4294967296) := rfl
theorem w4 (a b : Int) : aluV 4 true a b = orV a b := rfl
theorem n4 (a b : Int) : aluV 4 false a b = orV (a % 4294967296) (b % 4294967296) := rfl
theorem w5 (a b : Int) : aluV 5 true a b = andV a b := rfl
theorem n5 (a b : Int) : aluV 5 false a b = andV (a % 4294967296) (b % 4294967296) := rfl
theorem w10 (a b : Int) : aluV 10 true a b = xorV a b := rfl
theorem n10 (a b : Int) : aluV 10 false a b = xorV (a % 4294967296) (b % 4294967296) := rfl
theorem w8 (a b : Int) : aluV 8 true a b = (-a) % 18446744073709551616 := rfl
theorem n8 (a b : Int) : aluV 8 false a b = (-(a % 4294967296)) % 4294967296 := rfl
theorem w11 (a b : Int) : aluV 11 true a b = b := rfl
theorem n11 (a b : Int) : aluV 11 false a b = b % 4294967296 := rfl

theorem xor_back (a b : Int) (ha : 0 ≤ a) : xorV (xorV a b) b = a := by
  unfold xorV
  rw [Int.toNat_natCast, Nat.xor_assoc, Nat.xor_self, Nat.xor_zero]; omega
theorem or_and (a b : Int) (ha : 0 ≤ a) (hb : 0 ≤ b) (ha1 : a < 2 ^ 64) (hb1 : b < 2 ^ 64) : orV a b + andV a b = a + b := by
  have g : ∀ k : Nat, orV a b % 2 ^ k + andV a b % 2 ^ k = a % 2 ^ k + b % 2 ^ k := by
    intro k
    induction k with
    | zero => simp [Int.emod_one]
    | succ k ih =>
      rw [mod_succ, mod_succ, mod_succ, mod_succ, bitV_orV a b k ha hb, bitV_andV a b k ha hb]
      have h1 := bitV_bd a k
      have h2 := bitV_bd b k
      have h1' : bitV a k = 0 ∨ bitV a k = 1 := by omega
      have h2' : bitV b k = 0 ∨ bitV b k = 1 := by omega
      rcases h1' with e1 | e1 <;> rcases h2' with e2 | e2 <;> rw [e1, e2] <;> simp <;> omega
  have h := g 64
  rw [Int.emod_eq_of_lt ha ha1, Int.emod_eq_of_lt hb hb1] at h
  have o := orV_bd a b 64 ha hb ha1 hb1
  have n := andV_bd a b 64 hb hb1
  rw [Int.emod_eq_of_lt o.1 o.2, Int.emod_eq_of_lt n.1 n.2] at h
  exact h
theorem quo_rem (a b : Int) (h0 : 0 ≤ a) (h3 : 0 ≤ b) : quoV a b * b + remV a b = a := by
  unfold quoV remV; split
  · rename_i h; rw [h]; omega
  · rw [Int.mul_comm]; exact Int.mul_ediv_add_emod a b
theorem rem_below (a b : Int) (h : 0 < b) : remV a b < b := by
  unfold remV; rw [if_neg (by omega)]; exact Int.emod_lt_of_pos a h

/-! ### P1.4 -/
theorem back_sum (wide : Bool) (a b : Int) (h1 : 0 ≤ a) (h2 : a ≤ 18446744073709551615) : aluV 1 wide (aluV 0 wide a b) b = aluV 11 wide 0 a := by
  cases wide
  · rw [n1, n0, n11]; omega
  · rw [w1, w0, w11]; omega
theorem back_xor (wide : Bool) (a b : Int) (h1 : 0 ≤ a) : aluV 10 wide (aluV 10 wide a b) b = aluV 11 wide 0 a := by
  cases wide
  · have := aluV_thin 10 a b
    rw [n10, n11, small32 _ this.1 this.2, n10]; exact xor_back _ _ (by omega)
  · rw [w10, w10, w11]; exact xor_back _ _ h1
theorem back_neg (wide : Bool) (a : Int) : aluV 0 wide a (aluV 8 wide a 0) = 0 := by
  cases wide
  · rw [n0, n8]; omega
  · rw [w0, w8]; omega
theorem back_quo (wide : Bool) (a b : Int) (h1 : 0 ≤ a) (h2 : a ≤ 18446744073709551615) (h3 : 0 ≤ b) (h4 : b ≤ 18446744073709551615) :
    aluV 0 wide (aluV 2 wide (aluV 3 wide a b) b) (aluV 9 wide a b) = aluV 11 wide 0 a := by
  cases wide
  · have q := aluV_thin 3 a b
    have r := aluV_thin 9 a b
    have e := quo_rem (a % 4294967296) (b % 4294967296) (by omega) (by omega)
    rw [n0, n2, n11, small32 _ q.1 q.2, small32 _ r.1 r.2, n3, n9]
    generalize quoV (a % 4294967296) (b % 4294967296) * (b % 4294967296) = x at *
    omega
  · have e := quo_rem a b h1 h3
    rw [w0, w2, w11, w3, w9]
    generalize quoV a b * b = x at *
    omega
theorem back_left (wide : Bool) (a b : Int) (h3 : 0 ≤ b) (h : 0 < aluV 11 wide 0 b) : aluV 9 wide a b < aluV 11 wide 0 b := by
  cases wide
  · rw [n11] at *; rw [n9]; exact rem_below _ _ h
  · rw [w11] at *; rw [w9]; exact rem_below _ _ h
theorem back_none (wide : Bool) (a b : Int) (h : aluV 11 wide 0 b = 0) : aluV 3 wide a b = 0 ∧ aluV 9 wide a b = aluV 11 wide 0 a := by
  cases wide
  · rw [n11] at h; rw [n3, n9, n11]; exact ⟨if_pos h, if_pos h⟩
  · rw [w11] at h; rw [w3, w9, w11]; exact ⟨if_pos h, if_pos h⟩
theorem back_bits (wide : Bool) (a b : Int) (h1 : 0 ≤ a) (h2 : a ≤ 18446744073709551615) (h3 : 0 ≤ b) (h4 : b ≤ 18446744073709551615) :
    aluV 0 wide (aluV 4 wide a b) (aluV 5 wide a b) = aluV 0 wide a b := by
  cases wide
  · have q := aluV_thin 4 a b
    have r := aluV_thin 5 a b
    rw [n0, small32 _ q.1 q.2, small32 _ r.1 r.2, n0, n4, n5, or_and _ _ (by omega) (by omega) (by rw [pow64]; omega) (by rw [pow64]; omega)]
  · rw [w0, w0, w4, w5, or_and _ _ h1 h3 (lt64 a h2) (lt64 b h4)]

/-! ### Narrow operations -/
theorem mixed (a m : Int) (h0 : 0 ≤ a) : ∃ z : Int, bits .or .u64 (a % 4294967296) (IntKind.u64.wrap (m * 4294967296)) = z ∧ 0 ≤ z ∧ z ≤ 18446744073709551615 ∧ z % 4294967296 = a % 4294967296 := by
  refine ⟨_, rfl, ?_⟩
  rw [IntKind.wrap_u64]
  have e : m * 4294967296 % 18446744073709551616 = 4294967296 * (m % 4294967296) := by omega
  rw [e, u64_or _ _ (by omega) (by omega) (by omega) (by omega)]
  obtain ⟨A, hA⟩ := Int.eq_ofNat_of_zero_le (show 0 ≤ a % 4294967296 by omega)
  obtain ⟨M, hM⟩ := Int.eq_ofNat_of_zero_le (show 0 ≤ m % 4294967296 by omega)
  have lA : A < 2 ^ 32 := by omega
  have lM : M < 4294967296 := by omega
  rw [hA, hM]
  have e2 : ((4294967296 : Int) * (M : Int)).toNat = 2 ^ 32 * M := by omega
  rw [e2, Int.toNat_natCast, Nat.or_comm, ← Nat.two_pow_add_eq_or_of_lt lA]
  omega
theorem aluV_low (op a b x y : Int) (hx : x % 4294967296 = a % 4294967296) (hy : y % 4294967296 = b % 4294967296) : aluV op false x y = aluV op false a b := by
  show aluG 32 op _ _ = aluG 32 op _ _; rw [hx, hy]
theorem jumpV_low (op a b x y : Int) (hx : x % 4294967296 = a % 4294967296) (hy : y % 4294967296 = b % 4294967296) : jumpV op false x y = jumpV op false a b := by
  show cmpV op _ _ _ _ = cmpV op _ _ _ _; rw [hx, hy]
theorem thin_of_wide (op a b : Int) (h : (0 ≤ op ∧ op ≤ 5) ∨ op = 9 ∨ op = 10 ∨ op = 11) : aluV op true (a % 4294967296) (b % 4294967296) % 4294967296 = aluV op false a b := by
  have t := aluV_thin op a b
  have hop : op = 0 ∨ op = 1 ∨ op = 2 ∨ op = 3 ∨ op = 4 ∨ op = 5 ∨ op = 9 ∨ op = 10 ∨ op = 11 := by omega
  rcases hop with rfl | rfl | rfl | rfl | rfl | rfl | rfl | rfl | rfl
  · rw [w0, n0]; omega
  · rw [w1, n1]; omega
  · rw [w2, n2]; omega
  · rw [n3] at *; rw [w3]; exact small32 _ t.1 t.2
  · rw [n4] at *; rw [w4]; exact small32 _ t.1 t.2
  · rw [n5] at *; rw [w5]; exact small32 _ t.1 t.2
  · rw [n9] at *; rw [w9]; exact small32 _ t.1 t.2
  · rw [n10] at *; rw [w10]; exact small32 _ t.1 t.2
  · rw [w11, n11]; omega

/-! ### Shifts, one by one -/
theorem w6 (a b : Int) : aluV 6 true a b = a * 2 ^ (b % 64).toNat % 18446744073709551616 := rfl
theorem n6 (a b : Int) : aluV 6 false a b = (a % 4294967296) * 2 ^ (b % 4294967296 % 32).toNat % 4294967296 := rfl
theorem w7 (a b : Int) : aluV 7 true a b = a / 2 ^ (b % 64).toNat := rfl
theorem n7 (a b : Int) : aluV 7 false a b = (a % 4294967296) / 2 ^ (b % 4294967296 % 32).toNat := rfl
theorem w12 (a b : Int) : aluV 12 true a b = sgnW 64 a / 2 ^ (b % 64).toNat % 18446744073709551616 := rfl
theorem n12 (a b : Int) : aluV 12 false a b = sgnW 32 (a % 4294967296) / 2 ^ (b % 4294967296 % 32).toNat % 4294967296 := rfl
theorem shl_one (a M : Int) (K : Nat) : a * 2 ^ (K + 1) % M = a * 2 ^ K % M * 2 ^ 1 % M := by
  have e : (2 : Int) ^ 1 = 2 := by decide
  rw [e, Int.pow_succ, ← Int.mul_assoc, Int.mul_emod (a * 2 ^ K) 2 M, Int.mul_emod (a * 2 ^ K % M) 2 M, Int.emod_emod_of_dvd _ (Int.dvd_refl M)]
theorem shr_one (a : Int) (K : Nat) : a / 2 ^ (K + 1) = a / 2 ^ K / 2 ^ 1 := by
  rw [Int.pow_succ, Int.ediv_ediv_of_nonneg (Int.le_of_lt (two_pow_pos K))]; rfl
theorem sgn64_eq (a : Int) (h0 : 0 ≤ a) (h1 : a ≤ 18446744073709551615) : sgnW 64 a = wrap64 a := (sgn64 a h0 h1).symm
theorem sgn32_eq (a : Int) (h0 : 0 ≤ a) (h1 : a < 4294967296) : sgnW 32 a = wrap64 (wrap32 a) := by rw [sgn32, small32 a h0 h1]
theorem div_in (X L : Int) (K : Nat) (hL : 0 ≤ L) (h : -L ≤ X ∧ X < L) : -L ≤ X / 2 ^ K ∧ X / 2 ^ K < L := by
  have hp := two_pow_pos K
  by_cases hx : 0 ≤ X
  · have := div_pow_bd X K hx; omega
  · have h1 : X / 2 ^ K < 0 := Int.ediv_neg_of_neg_of_pos (by omega) hp
    refine ⟨?_, by omega⟩
    have : X / 2 ^ K ≥ X := by
      have h2 : -(-X) / 2 ^ K ≥ -(-X) := by
        apply (Int.le_ediv_iff_mul_le hp).2
        have : (-X) * 1 ≤ (-X) * 2 ^ K := Int.mul_le_mul_of_nonneg_left (by omega) (by omega)
        rw [Int.neg_mul]; omega
      simpa using h2
    omega
theorem sgn64_back (X : Int) (h : -9223372036854775808 ≤ X ∧ X < 9223372036854775808) : sgnW 64 (X % 18446744073709551616) = X := by
  rw [sgn64_eq _ (by omega) (by omega)]; unfold wrap64; omega
theorem sgn32_back (X : Int) (h : -2147483648 ≤ X ∧ X < 2147483648) : sgnW 32 (X % 4294967296) = X := by
  rw [sgn32_eq _ (by omega) (by omega)]; unfold wrap64 wrap32; omega
theorem sgn64_in (a : Int) (h0 : 0 ≤ a) (h1 : a ≤ 18446744073709551615) : -9223372036854775808 ≤ sgnW 64 a ∧ sgnW 64 a < 9223372036854775808 := by
  rw [sgn64_eq a h0 h1]; unfold wrap64; omega
theorem sgn32_in (a : Int) (h0 : 0 ≤ a) (h1 : a < 4294967296) : -2147483648 ≤ sgnW 32 a ∧ sgnW 32 a < 2147483648 := by
  rw [sgn32_eq a h0 h1]; unfold wrap64 wrap32; omega
theorem k64 (K : Nat) (h : K ≤ 63) : ((K : Int) % 64).toNat = K := by omega
theorem k32 (K : Nat) (h : K ≤ 31) : ((K : Int) % 4294967296 % 32).toNat = K := by omega
theorem next6w (a : Int) (K : Nat) (h : K ≤ 62) : aluV 6 true a ((K : Int) + 1) = aluV 6 true (aluV 6 true a K) 1 := by
  rw [w6, w6, w6, k64 K (by omega), show ((K : Int) + 1) = ((K + 1 : Nat) : Int) by omega, k64 (K + 1) (by omega)]; exact shl_one _ _ _
theorem next7w (a : Int) (K : Nat) (h : K ≤ 62) : aluV 7 true a ((K : Int) + 1) = aluV 7 true (aluV 7 true a K) 1 := by
  rw [w7, w7, w7, k64 K (by omega), show ((K : Int) + 1) = ((K + 1 : Nat) : Int) by omega, k64 (K + 1) (by omega)]; exact shr_one _ _
theorem next12w (a : Int) (K : Nat) (h : K ≤ 62) (h1 : 0 ≤ a) (h2 : a ≤ 18446744073709551615) : aluV 12 true a ((K : Int) + 1) = aluV 12 true (aluV 12 true a K) 1 := by
  rw [w12, w12, w12, k64 K (by omega), show ((K : Int) + 1) = ((K + 1 : Nat) : Int) by omega, k64 (K + 1) (by omega)]
  rw [sgn64_back _ (div_in _ 9223372036854775808 K (by omega) (sgn64_in a h1 h2)), shr_one]; rfl
theorem next6n (a : Int) (K : Nat) (h : K ≤ 30) : aluV 6 false a ((K : Int) + 1) = aluV 6 false (aluV 6 false a K) 1 := by
  have t := aluV_thin 6 a K
  rw [n6 (aluV 6 false a K), small32 _ t.1 t.2, n6, n6, k32 K (by omega), show ((K : Int) + 1) = ((K + 1 : Nat) : Int) by omega, k32 (K + 1) (by omega)]; exact shl_one _ _ _
theorem next7n (a : Int) (K : Nat) (h : K ≤ 30) : aluV 7 false a ((K : Int) + 1) = aluV 7 false (aluV 7 false a K) 1 := by
  have t := aluV_thin 7 a K
  rw [n7 (aluV 7 false a K), small32 _ t.1 t.2, n7, n7, k32 K (by omega), show ((K : Int) + 1) = ((K + 1 : Nat) : Int) by omega, k32 (K + 1) (by omega)]; exact shr_one _ _
theorem next12n (a : Int) (K : Nat) (h : K ≤ 30) : aluV 12 false a ((K : Int) + 1) = aluV 12 false (aluV 12 false a K) 1 := by
  have t := aluV_thin 12 a K
  rw [n12 (aluV 12 false a K), small32 _ t.1 t.2, n12, n12, k32 K (by omega), show ((K : Int) + 1) = ((K + 1 : Nat) : Int) by omega, k32 (K + 1) (by omega)]
  rw [sgn32_back _ (div_in _ 2147483648 K (by omega) (sgn32_in _ (by omega) (by omega))), shr_one]; rfl
theorem round64 (op a b : Int) (h : op = 6 ∨ op = 7 ∨ op = 12) : aluV op true a (b + 64) = aluV op true a b := by
  have e : (b + 64) % 64 = b % 64 := by omega
  rcases h with rfl | rfl | rfl
  · rw [w6, w6, e]
  · rw [w7, w7, e]
  · rw [w12, w12, e]
theorem round32 (op a b : Int) (h0 : 0 ≤ b) (h1 : b ≤ 4294967200) (h : op = 6 ∨ op = 7 ∨ op = 12) : aluV op false a (b + 32) = aluV op false a b := by
  have e : (b + 32) % 4294967296 % 32 = b % 4294967296 % 32 := by omega
  rcases h with rfl | rfl | rfl
  · rw [n6, n6, e]
  · rw [n7, n7, e]
  · rw [n12, n12, e]
theorem mulw (a : Int) (K : Nat) (h : K ≤ 63) : aluV 6 true a K = aluV 2 true a (2 ^ K) := by rw [w6, w2, k64 K h]
theorem pow30 (K : Nat) (h : K ≤ 31) : (2 : Int) ^ K % 4294967296 = 2 ^ K := by
  have := two_pow_pos K; have := two_pow_le K 31 h
  have e : (2 : Int) ^ 31 = 2147483648 := by decide
  omega
theorem muln (a : Int) (K : Nat) (h : K ≤ 31) : aluV 6 false a K = aluV 2 false a (2 ^ K) := by rw [n6, n2, k32 K h, pow30 K h]
theorem quow (a : Int) (K : Nat) (h : K ≤ 63) : aluV 7 true a K = aluV 3 true a (2 ^ K) := by
  have := two_pow_pos K
  rw [w7, w3, k64 K h]; unfold quoV; rw [if_neg (by omega)]
theorem quon (a : Int) (K : Nat) (h : K ≤ 31) : aluV 7 false a K = aluV 3 false a (2 ^ K) := by
  have := two_pow_pos K
  rw [n7, n3, k32 K h, pow30 K h]; unfold quoV; rw [if_neg (by omega)]

/-! ### Orders -/
def ua (wide : Bool) (a : Int) : Int := if wide then a else a % 4294967296
def sa (wide : Bool) (a : Int) : Int := if wide then sgnW 64 a else sgnW 32 (a % 4294967296)
theorem jv (op : Int) (wide : Bool) (a b : Int) : jumpV op wide a b = cmpV op (ua wide a) (ua wide b) (sa wide a) (sa wide b) := by cases wide <;> rfl
theorem j1 (wide : Bool) (a b : Int) : jumpV 1 wide a b = (ua wide a == ua wide b) := by rw [jv]; rfl
theorem j5 (wide : Bool) (a b : Int) : jumpV 5 wide a b = (ua wide a != ua wide b) := by rw [jv]; rfl
theorem j2 (wide : Bool) (a b : Int) : jumpV 2 wide a b = decide (ua wide b < ua wide a) := by rw [jv]; rfl
theorem j3 (wide : Bool) (a b : Int) : jumpV 3 wide a b = decide (ua wide b ≤ ua wide a) := by rw [jv]; rfl
theorem j10 (wide : Bool) (a b : Int) : jumpV 10 wide a b = decide (ua wide a < ua wide b) := by rw [jv]; rfl
theorem j11 (wide : Bool) (a b : Int) : jumpV 11 wide a b = decide (ua wide a ≤ ua wide b) := by rw [jv]; rfl
theorem j6 (wide : Bool) (a b : Int) : jumpV 6 wide a b = decide (sa wide b < sa wide a) := by rw [jv]; rfl
theorem j7 (wide : Bool) (a b : Int) : jumpV 7 wide a b = decide (sa wide b ≤ sa wide a) := by rw [jv]; rfl
theorem j12 (wide : Bool) (a b : Int) : jumpV 12 wide a b = decide (sa wide a < sa wide b) := by rw [jv]; rfl
theorem j13 (wide : Bool) (a b : Int) : jumpV 13 wide a b = decide (sa wide a ≤ sa wide b) := by rw [jv]; rfl
theorem j4 (wide : Bool) (a b : Int) : jumpV 4 wide a b = (aluV 5 wide a b != 0) := by cases wide <;> rfl
theorem sa_same (wide : Bool) (a b : Int) (ha : 0 ≤ a) (ha1 : a ≤ 18446744073709551615) (hb : 0 ≤ b) (hb1 : b ≤ 18446744073709551615) : sa wide a = sa wide b ↔ ua wide a = ua wide b := by
  cases wide
  · show sgnW 32 _ = sgnW 32 _ ↔ a % 4294967296 = b % 4294967296
    rw [sgn32_eq _ (by omega) (by omega), sgn32_eq _ (by omega) (by omega)]; unfold wrap64 wrap32; omega
  · show sgnW 64 _ = sgnW 64 _ ↔ a = b
    rw [sgn64_eq _ ha ha1, sgn64_eq _ hb hb1]; unfold wrap64; omega
theorem half64 (a b : Int) (ha : 0 ≤ a) (ha1 : a ≤ 18446744073709551615) (hb : 0 ≤ b) (hb1 : b ≤ 18446744073709551615) :
    jumpV 12 true a b = jumpV 10 true (IntKind.u64.wrap (a + 9223372036854775808)) (IntKind.u64.wrap (b + 9223372036854775808)) := by
  rw [j12, j10]
  show decide (sgnW 64 a < sgnW 64 b) = decide (IntKind.u64.wrap _ < IntKind.u64.wrap _)
  rw [sgn64_eq _ ha ha1, sgn64_eq _ hb hb1, IntKind.wrap_u64, IntKind.wrap_u64]; unfold wrap64
  congr 1; apply propext; omega
theorem half32 (a b : Int) :
    jumpV 12 false a b = jumpV 10 false (IntKind.u64.wrap (a + 2147483648)) (IntKind.u64.wrap (b + 2147483648)) := by
  rw [j12, j10]
  show decide (sgnW 32 _ < sgnW 32 _) = decide (IntKind.u64.wrap _ % 4294967296 < IntKind.u64.wrap _ % 4294967296)
  rw [sgn32_eq _ (by omega) (by omega), sgn32_eq _ (by omega) (by omega), IntKind.wrap_u64, IntKind.wrap_u64]; unfold wrap64 wrap32
  congr 1; apply propext; omega
end Go.Proofs.Ytopgjjcljapjoaa.Wd
