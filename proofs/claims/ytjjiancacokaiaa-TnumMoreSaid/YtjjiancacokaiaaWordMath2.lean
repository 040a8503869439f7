/-
  Plain mathematics of layer 1, second part: shifts down, numbers bit by bit, orders, and what the document says of Alu and Jump (aluV, jumpV). Nothing of the program is named here.
-/
import Derived.Test.YtjjiancacokaiaaWordMath
namespace Go.Proofs.Ytjjiancacokaiaa.Wd
open Go.RowKit

/-! ### 5. Shifted down, a bit coming in -/
def downX (a : Int) (n w : Nat) (inn : Int) (j : Nat) : Int := if j + n < w then bitV a (j + n) else inn
def downO (a : Int) (n w : Nat) (inn : Int) : Nat → Int
  | 0 => 0
  | k + 1 => downO a n w inn k + downX a n w inn k * 2 ^ k
theorem downX_bd (a : Int) (n w : Nat) (inn : Int) (j : Nat) (h0 : 0 ≤ inn) (h1 : inn ≤ 1) : 0 ≤ downX a n w inn j ∧ downX a n w inn j ≤ 1 := by
  unfold downX; have := bitV_bd a (j + n); split <;> omega
theorem downO_bd (a : Int) (n w : Nat) (inn : Int) (k : Nat) (h0 : 0 ≤ inn) (h1 : inn ≤ 1) : 0 ≤ downO a n w inn k ∧ downO a n w inn k < 2 ^ k := by
  induction k with
  | zero => simp [downO]
  | succ k ih =>
    have hx := downX_bd a n w inn k h0 h1
    have hp := two_pow_pos k
    have hx' : downX a n w inn k = 0 ∨ downX a n w inn k = 1 := by omega
    simp only [downO]; rw [Int.pow_succ]
    rcases hx' with h | h <;> rw [h] <;> omega
theorem downO_le (a : Int) (n w : Nat) (inn : Int) (k : Nat) (hk : k ≤ 64) (h0 : 0 ≤ inn) (h1 : inn ≤ 1) : 0 ≤ downO a n w inn k ∧ downO a n w inn k ≤ 18446744073709551615 := by
  have := downO_bd a n w inn k h0 h1; have := pow_lt64 k hk; omega
/-- What has the right bits is the quotient's remainder. -/
theorem downO_eq (a X : Int) (n w : Nat) (inn : Int) (h : ∀ j, downX a n w inn j = bitV (X / 2 ^ n) j) (k : Nat) : downO a n w inn k = X / 2 ^ n % 2 ^ k := by
  induction k with
  | zero => simp [downO, Int.emod_one]
  | succ k ih => simp only [downO]; rw [mod_succ, ih, h]
theorem bitV_div (X : Int) (n j : Nat) : bitV (X / 2 ^ n) j = bitV X (j + n) := by
  unfold bitV
  rw [Int.ediv_ediv_of_nonneg (Int.le_of_lt (two_pow_pos n)), ← Int.pow_add, Nat.add_comm]
theorem bitV_high (a : Int) (w j : Nat) (h0 : 0 ≤ a) (h1 : a < 2 ^ w) (hj : w ≤ j) : bitV a j = 0 := by
  unfold bitV
  have := two_pow_le w j hj
  rw [Int.ediv_eq_zero_of_lt h0 (by omega)]; decide
def sgnW (w : Nat) (a : Int) : Int := a - bitV a (w - 1) * 2 ^ w
theorem bitV_sub_mul (a c : Int) (w j : Nat) (h : j < w) : bitV (a - c * 2 ^ w) j = bitV a j := by
  unfold bitV
  have e : a - c * 2 ^ w = a + 2 ^ j * (-(c * 2 ^ (w - j - 1)) * 2) := by
    have : (2 : Int) ^ w = 2 ^ j * 2 ^ (w - j - 1) * 2 := by rw [← Int.pow_add, ← Int.pow_succ]; congr 1; omega
    rw [this]; grind
  rw [e, Int.add_mul_ediv_left _ _ (Int.ne_of_gt (two_pow_pos j)), Int.add_mul_emod_self_right]
theorem bitV_sgn_high (a : Int) (w j : Nat) (h0 : 0 ≤ a) (h1 : a < 2 ^ w) (hj : w ≤ j) : bitV (sgnW w a) j = bitV a (w - 1) := by
  have hb := bitV_bd a (w - 1)
  have hp := two_pow_le w j hj
  have hb' : bitV a (w - 1) = 0 ∨ bitV a (w - 1) = 1 := by omega
  unfold sgnW
  rcases hb' with h | h
  · rw [h, Int.zero_mul, Int.sub_zero]; exact bitV_high a w j h0 h1 hj
  · rw [h, Int.one_mul]
    unfold bitV
    have : (a - 2 ^ w) / 2 ^ j = -1 := by
      have e : a - 2 ^ w = (a - 2 ^ w + 2 ^ j) + 2 ^ j * (-1) := by omega
      rw [e, Int.add_mul_ediv_left _ _ (Int.ne_of_gt (two_pow_pos j)), Int.ediv_eq_zero_of_lt (by omega) (by omega)]; omega
    rw [this]; decide
theorem down_plain (a : Int) (n w : Nat) (h0 : 0 ≤ a) (h1 : a < 2 ^ w) (k : Nat) : downO a n w 0 k = a / 2 ^ n % 2 ^ k := by
  refine downO_eq a a n w 0 (fun j => ?_) k
  rw [bitV_div]; unfold downX
  split
  · rfl
  · rw [bitV_high a w _ h0 h1 (by omega)]
theorem down_sign (a : Int) (n w : Nat) (h0 : 0 ≤ a) (h1 : a < 2 ^ w) (k : Nat) : downO a n w (bitV a (w - 1)) k = sgnW w a / 2 ^ n % 2 ^ k := by
  refine downO_eq a (sgnW w a) n w _ (fun j => ?_) k
  rw [bitV_div]; unfold downX
  split
  · rename_i h; exact (bitV_sub_mul a _ w _ h).symm
  · rw [bitV_sgn_high a w _ h0 h1 (by omega)]

/-! ### 6. Bit by bit -/
def orV (a b : Int) : Int := ((a.toNat ||| b.toNat : Nat) : Int)
def andV (a b : Int) : Int := ((a.toNat &&& b.toNat : Nat) : Int)
def xorV (a b : Int) : Int := ((a.toNat ^^^ b.toNat : Nat) : Int)
theorem bitV_nat (n k : Nat) : bitV (n : Int) k = if n.testBit k then 1 else 0 := by
  have e : bitV (n : Int) k = ((n / 2 ^ k % 2 : Nat) : Int) := by unfold bitV; push_cast; rfl
  rw [e, Nat.testBit_eq_decide_div_mod_eq]
  by_cases h : n / 2 ^ k % 2 = 1
  · simp [h]
  · have h0 : n / 2 ^ k % 2 = 0 := by omega
    simp [h0]
theorem bitV_orV (a b : Int) (k : Nat) (ha : 0 ≤ a) (hb : 0 ≤ b) : bitV (orV a b) k = if 0 < bitV a k + bitV b k then 1 else 0 := by
  obtain ⟨A, rfl⟩ := Int.eq_ofNat_of_zero_le ha
  obtain ⟨B, rfl⟩ := Int.eq_ofNat_of_zero_le hb
  unfold orV; simp only [Int.toNat_natCast, bitV_nat, Nat.testBit_or]
  cases A.testBit k <;> cases B.testBit k <;> decide
theorem bitV_andV (a b : Int) (k : Nat) (ha : 0 ≤ a) (hb : 0 ≤ b) : bitV (andV a b) k = if bitV a k + bitV b k = 2 then 1 else 0 := by
  obtain ⟨A, rfl⟩ := Int.eq_ofNat_of_zero_le ha
  obtain ⟨B, rfl⟩ := Int.eq_ofNat_of_zero_le hb
  unfold andV; simp only [Int.toNat_natCast, bitV_nat, Nat.testBit_and]
  cases A.testBit k <;> cases B.testBit k <;> decide
theorem bitV_xorV (a b : Int) (k : Nat) (ha : 0 ≤ a) (hb : 0 ≤ b) : bitV (xorV a b) k = if bitV a k + bitV b k = 1 then 1 else 0 := by
  obtain ⟨A, rfl⟩ := Int.eq_ofNat_of_zero_le ha
  obtain ⟨B, rfl⟩ := Int.eq_ofNat_of_zero_le hb
  unfold xorV; simp only [Int.toNat_natCast, bitV_nat, Nat.testBit_xor]
  cases A.testBit k <;> cases B.testBit k <;> decide
theorem natlt (a : Int) (n : Nat) (h0 : 0 ≤ a) (h : a < 2 ^ n) : a.toNat < 2 ^ n := by
  obtain ⟨A, rfl⟩ := Int.eq_ofNat_of_zero_le h0
  rw [Int.toNat_natCast]; exact_mod_cast h
theorem orV_bd (a b : Int) (n : Nat) (ha : 0 ≤ a) (hb : 0 ≤ b) (ha1 : a < 2 ^ n) (hb1 : b < 2 ^ n) : 0 ≤ orV a b ∧ orV a b < 2 ^ n := by
  refine ⟨Int.natCast_nonneg _, ?_⟩
  have := Nat.or_lt_two_pow (natlt a n ha ha1) (natlt b n hb hb1)
  unfold orV; exact_mod_cast this
theorem xorV_bd (a b : Int) (n : Nat) (ha : 0 ≤ a) (hb : 0 ≤ b) (ha1 : a < 2 ^ n) (hb1 : b < 2 ^ n) : 0 ≤ xorV a b ∧ xorV a b < 2 ^ n := by
  refine ⟨Int.natCast_nonneg _, ?_⟩
  have := Nat.xor_lt_two_pow (natlt a n ha ha1) (natlt b n hb hb1)
  unfold xorV; exact_mod_cast this
theorem andV_bd (a b : Int) (n : Nat) (hb : 0 ≤ b) (hb1 : b < 2 ^ n) : 0 ≤ andV a b ∧ andV a b < 2 ^ n := by
  refine ⟨Int.natCast_nonneg _, ?_⟩
  have := Nat.and_lt_two_pow a.toNat (natlt b n hb hb1)
  unfold andV; exact_mod_cast this
/-- A number's lowest bits, one more. -/
def lowO (x : Int) (k : Nat) : Int := x % 2 ^ k
theorem lowO_le (x : Int) (k : Nat) (hk : k ≤ 64) : 0 ≤ lowO x k ∧ lowO x k ≤ 18446744073709551615 := by
  have := mod_bd x k; have := pow_lt64 k hk; unfold lowO; omega
theorem lowO_yes (x : Int) (k : Nat) (hk : k ≤ 63) (h : bitV x k = 1) : bits .or .u64 (lowO x k) (2 ^ k) = lowO x (k + 1) := by
  have hb := mod_bd x k; have hp := two_pow_pos k; have hp63 := pow_lt63 k hk
  have := or_put (lowO x k) 1 k hk hb.1 hb.2 (by omega) (by omega)
  rw [Int.one_mul, IntWalk.u64_in _ (by omega)] at this
  rw [this]; unfold lowO; rw [mod_succ, h]; omega
theorem lowO_no (x : Int) (k : Nat) (h : bitV x k = 0) : lowO x k = lowO x (k + 1) := by
  unfold lowO; rw [mod_succ, h]; omega
theorem lowO_all (x : Int) (h0 : 0 ≤ x) (h1 : x < 2 ^ 64) : lowO x 64 = x := Int.emod_eq_of_lt h0 h1

/-! ### 7. Orders -/
def ordV (x y : Int) : Int := if x < y then -1 else if x = y then 0 else 1
theorem ord_above (a b : Int) (j : Nat) (h : b / 2 ^ j < a / 2 ^ j) : b < a := by
  by_cases hle : a ≤ b
  · have := Int.ediv_le_ediv (two_pow_pos j) hle; omega
  · omega
theorem ord_bits (a b : Int) (j : Nat) (h : a / 2 ^ (j + 1) = b / 2 ^ (j + 1)) (hb : bitV b j < bitV a j) : b < a := by
  refine ord_above a b j ?_
  rw [div_succ a, div_succ b, h]; omega
theorem ord_same (a b : Int) (j : Nat) (h : a / 2 ^ (j + 1) = b / 2 ^ (j + 1)) (hb : bitV a j = bitV b j) : a / 2 ^ j = b / 2 ^ j := by
  rw [div_succ a, div_succ b, h, hb]
theorem bit_same (a b : Int) (j i : Nat) (hj : j ≤ i) (h : a / 2 ^ j = b / 2 ^ j) : bitV a i = bitV b i := by
  have e : i = (i - j) + j := by omega
  rw [e, ← bitV_div, ← bitV_div, h]
end Go.Proofs.Ytjjiancacokaiaa.Wd
