/-
  Plain mathematics of layer 1 (numbers of 64 bits as integers from 0 to 2^64 - 1): what arithmetic, byte order and comparisons are, and that sums, products and quotients made bit by bit are these. Nothing of the program is named here.
-/
import Derived.WalkKit
namespace Go.Proofs.Ytjjiancacokaiaa.Wd
open Go.RowKit

/-! ### 1. Bits of an integer -/
def bitV (a : Int) (k : Nat) : Int := a / 2 ^ k % 2
theorem bitV_bd (a : Int) (k : Nat) : 0 ≤ bitV a k ∧ bitV a k ≤ 1 := by unfold bitV; omega
theorem two_pow_pos (k : Nat) : (0 : Int) < 2 ^ k := Int.pow_pos (by decide)
theorem two_pow_le (k n : Nat) (h : k ≤ n) : (2 : Int) ^ k ≤ 2 ^ n := by
  have := Nat.pow_le_pow_right (n := 2) (by decide) h
  exact_mod_cast this
theorem pow64 : (2 : Int) ^ 64 = 18446744073709551616 := by decide
theorem pow_lt63 (k : Nat) (h : k ≤ 63) : (2 : Int) ^ k ≤ 9223372036854775808 := by
  have := two_pow_le k 63 h; simpa using this
theorem pow_lt64 (k : Nat) (h : k ≤ 64) : (2 : Int) ^ k ≤ 18446744073709551616 := by
  have := two_pow_le k 64 h; simpa using this
theorem mod_succ (a : Int) (k : Nat) : a % 2 ^ (k + 1) = a % 2 ^ k + bitV a k * 2 ^ k := by
  unfold bitV
  have hp := two_pow_pos k
  have h1 := Int.mul_ediv_add_emod a (2 ^ k)
  have h2 := Int.mul_ediv_add_emod (a / 2 ^ k) 2
  have h3 := Int.emod_nonneg a (Int.ne_of_gt hp)
  have h4 := Int.emod_lt_of_pos a hp
  rw [Int.pow_succ]
  generalize (2 : Int) ^ k = P at *
  generalize hq : a / P = q at *
  generalize hr : a % P = r at *
  generalize hq2 : q / 2 = q2 at *
  have hb : q % 2 = 0 ∨ q % 2 = 1 := by omega
  generalize q % 2 = b at *
  have e : a = (P * 2) * q2 + (r + b * P) := by rw [← h1, ← h2, Int.mul_add]; rw [← Int.mul_assoc]; rw [Int.mul_comm b P]; omega
  have hlt : 0 ≤ r + b * P ∧ r + b * P < P * 2 := by rcases hb with h | h <;> subst h <;> omega
  rw [e, Int.add_comm, Int.add_mul_emod_self_left]
  exact Int.emod_eq_of_lt hlt.1 hlt.2
theorem div_succ (a : Int) (k : Nat) : a / 2 ^ k = 2 * (a / 2 ^ (k + 1)) + bitV a k := by
  unfold bitV
  rw [Int.pow_succ, ← Int.ediv_ediv_of_nonneg (Int.le_of_lt (two_pow_pos k))]
  omega
theorem mod_bd (a : Int) (k : Nat) : 0 ≤ a % 2 ^ k ∧ a % 2 ^ k < 2 ^ k :=
  ⟨Int.emod_nonneg _ (Int.ne_of_gt (two_pow_pos k)), Int.emod_lt_of_pos _ (two_pow_pos k)⟩
theorem mod64 (a : Int) (h0 : 0 ≤ a) (h1 : a ≤ 18446744073709551615) : a % 2 ^ 64 = a := by
  rw [pow64]; omega
theorem toNat_two_pow (k : Nat) : ((2 : Int) ^ k).toNat = 2 ^ k := by
  have : ((2 : Int) ^ k) = ((2 ^ k : Nat) : Int) := by simp
  rw [this]; exact Int.toNat_natCast _

/-- A bit put where none is: one or of both is their sum. -/
theorem or_put (x y : Int) (k : Nat) (hk : k ≤ 63) (hx : 0 ≤ x) (hx2 : x < 2 ^ k) (hy : 0 ≤ y) (hy1 : y ≤ 1) :
    bits .or .u64 x (IntKind.u64.wrap (y * 2 ^ k)) = x + y * 2 ^ k := by
  have hp := two_pow_pos k
  have hp63 := pow_lt63 k hk
  have hy' : y = 0 ∨ y = 1 := by omega
  have hyp : 0 ≤ y * 2 ^ k ∧ y * 2 ^ k ≤ 9223372036854775808 := by rcases hy' with h | h <;> subst h <;> omega
  rw [IntWalk.u64_in _ (by omega), u64_or _ _ hx (by omega) hyp.1 (by omega)]
  obtain ⟨X, rfl⟩ := Int.eq_ofNat_of_zero_le hx
  obtain ⟨Y, rfl⟩ := Int.eq_ofNat_of_zero_le hy
  have hX : X < 2 ^ k := by exact_mod_cast hx2
  have e1 : ((Y : Int) * 2 ^ k) = ((2 ^ k * Y : Nat) : Int) := by push_cast; rw [Int.mul_comm]
  rw [e1, Int.toNat_natCast, Int.toNat_natCast, Nat.or_comm, ← Nat.two_pow_add_eq_or_of_lt hX]
  push_cast; omega
/-- The same, where the bit stands above: the sum's lower part is nought. -/
theorem or_put_low (x : Int) (k : Nat) (hk : k ≤ 63) (q : Int) (hq : 0 ≤ q) (hx : x = q * 2 ^ (k + 1)) (hx2 : x ≤ 18446744073709551615) :
    bits .or .u64 x (2 ^ k) = x + 2 ^ k := by
  have hp := two_pow_pos k
  have hp63 := pow_lt63 k hk
  have hx0 : 0 ≤ x := by rw [hx]; exact Int.mul_nonneg hq (Int.le_of_lt (two_pow_pos _))
  rw [u64_or _ _ hx0 (by omega) (by omega) (by omega)]
  obtain ⟨Q, rfl⟩ := Int.eq_ofNat_of_zero_le hq
  have e1 : x = ((2 ^ (k + 1) * Q : Nat) : Int) := by rw [hx]; push_cast; rw [Int.mul_comm]
  rw [e1, toNat_two_pow, Int.toNat_natCast, ← Nat.two_pow_add_eq_or_of_lt (Nat.pow_lt_pow_right (by decide) (by omega))]
  push_cast; rfl

/-! ### 2. Sums, and all bits turned, bit by bit -/
def addO (a b c : Int) (k : Nat) : Int := (a % 2 ^ k + b % 2 ^ k + c) % 2 ^ k
def addC (a b c : Int) (k : Nat) : Int := (a % 2 ^ k + b % 2 ^ k + c) / 2 ^ k
theorem addO_bd (a b c : Int) (k : Nat) : 0 ≤ addO a b c k ∧ addO a b c k < 2 ^ k := mod_bd _ k
theorem addO_le (a b c : Int) (k : Nat) (hk : k ≤ 64) : 0 ≤ addO a b c k ∧ addO a b c k ≤ 18446744073709551615 := by
  have := addO_bd a b c k; have := pow_lt64 k hk; omega
theorem addC_bd (a b c : Int) (k : Nat) (hc : 0 ≤ c) (hc1 : c ≤ 1) : 0 ≤ addC a b c k ∧ addC a b c k ≤ 1 := by
  unfold addC
  have ha := mod_bd a k; have hb := mod_bd b k; have hp := two_pow_pos k
  refine ⟨Int.ediv_nonneg (by omega) (by omega), ?_⟩
  have : (a % 2 ^ k + b % 2 ^ k + c) / 2 ^ k < 2 := Int.ediv_lt_of_lt_mul hp (by omega)
  omega
theorem add_zero (a b c : Int) : addO a b c 0 = 0 ∧ addC a b c 0 = c := by
  unfold addO addC; simp [Int.emod_one]
theorem add_step (a b c : Int) (k : Nat) :
    addO a b c (k + 1) = addO a b c k + (bitV a k + bitV b k + addC a b c k) % 2 * 2 ^ k ∧
    addC a b c (k + 1) = (bitV a k + bitV b k + addC a b c k) / 2 := by
  have hO := addO_bd a b c k
  have ha := bitV_bd a k; have hb := bitV_bd b k; have hp := two_pow_pos k
  have e0 : 2 ^ k * addC a b c k + addO a b c k = a % 2 ^ k + b % 2 ^ k + c := Int.mul_ediv_add_emod _ _
  have e1 : a % 2 ^ (k + 1) + b % 2 ^ (k + 1) + c = (bitV a k + bitV b k + addC a b c k) * 2 ^ k + addO a b c k := by
    rw [mod_succ, mod_succ]
    have : (bitV a k + bitV b k + addC a b c k) * 2 ^ k = bitV a k * 2 ^ k + bitV b k * 2 ^ k + 2 ^ k * addC a b c k := by rw [Int.add_mul, Int.add_mul, Int.mul_comm (addC a b c k)]
    omega
  generalize hs : bitV a k + bitV b k + addC a b c k = s at *
  have e2 : s = 2 * (s / 2) + s % 2 := by omega
  have hm : s % 2 = 0 ∨ s % 2 = 1 := by omega
  have e3 : a % 2 ^ (k + 1) + b % 2 ^ (k + 1) + c = (2 ^ (k + 1)) * (s / 2) + (addO a b c k + s % 2 * 2 ^ k) := by
    rw [e1, Int.pow_succ]
    generalize hP : (2 : Int) ^ k = P at *
    generalize s / 2 = t at *
    generalize s % 2 = u at *
    rw [e2, Int.add_mul, Int.mul_assoc P 2 t, Int.mul_comm P (2 * t)]; omega
  have hlt : 0 ≤ addO a b c k + s % 2 * 2 ^ k ∧ addO a b c k + s % 2 * 2 ^ k < 2 ^ (k + 1) := by
    rw [Int.pow_succ]; rcases hm with h | h <;> rw [h] <;> omega
  constructor
  · show (a % 2 ^ (k + 1) + b % 2 ^ (k + 1) + c) % 2 ^ (k + 1) = _
    rw [e3, Int.add_comm, Int.add_mul_emod_self_left]
    exact Int.emod_eq_of_lt hlt.1 hlt.2
  · show (a % 2 ^ (k + 1) + b % 2 ^ (k + 1) + c) / 2 ^ (k + 1) = _
    rw [e3, Int.add_comm, Int.add_mul_ediv_left _ _ (Int.ne_of_gt (two_pow_pos _)), Int.ediv_eq_zero_of_lt hlt.1 hlt.2]; omega
/-- Two numbers and a carry, modulo 2^64. -/
def addV (a b c : Int) : Int := (a + b + c) % 18446744073709551616
theorem addV_bd (a b c : Int) : 0 ≤ addV a b c ∧ addV a b c ≤ 18446744073709551615 := by unfold addV; omega
theorem add_all (a b c : Int) (ha : 0 ≤ a) (ha1 : a ≤ 18446744073709551615) (hb : 0 ≤ b) (hb1 : b ≤ 18446744073709551615) : addO a b c 64 = addV a b c := by
  unfold addO addV; rw [mod64 a ha ha1, mod64 b hb hb1, pow64]
def notO (a : Int) (k : Nat) : Int := 2 ^ k - 1 - a % 2 ^ k
theorem notO_bd (a : Int) (k : Nat) : 0 ≤ notO a k ∧ notO a k < 2 ^ k := by unfold notO; have := mod_bd a k; omega
theorem notO_le (a : Int) (k : Nat) (hk : k ≤ 64) : 0 ≤ notO a k ∧ notO a k ≤ 18446744073709551615 := by
  have := notO_bd a k; have := pow_lt64 k hk; omega
theorem not_step (a : Int) (k : Nat) : notO a (k + 1) = notO a k + (1 - bitV a k) * 2 ^ k := by
  unfold notO; rw [mod_succ, Int.pow_succ, Int.sub_mul]; omega
def notV (a : Int) : Int := 18446744073709551615 - a
theorem not_all (a : Int) (ha : 0 ≤ a) (ha1 : a ≤ 18446744073709551615) : notO a 64 = notV a := by
  unfold notO notV; rw [mod64 a ha ha1, pow64]; omega

/-! ### 3. Products -/
def mulO (a b : Int) (k : Nat) : Int := (a % 2 ^ k * b) % 18446744073709551616
theorem mulO_bd (a b : Int) (k : Nat) : 0 ≤ mulO a b k ∧ mulO a b k ≤ 18446744073709551615 := by unfold mulO; omega
theorem mul_step (a b : Int) (k : Nat) :
    mulO a b (k + 1) = if bitV a k = 1 then addV (mulO a b k) (IntKind.u64.wrap (b * 2 ^ k)) 0 else mulO a b k := by
  have hb := bitV_bd a k
  unfold mulO addV
  rw [mod_succ, IntKind.wrap_u64]
  split
  · rename_i h
    rw [h, Int.one_mul, Int.add_mul, Int.mul_comm (2 ^ k) b, Int.add_zero, ← Int.add_emod]
  · have : bitV a k = 0 := by omega
    rw [this, Int.zero_mul, Int.add_zero]

/-! ### 4. Quotients -/
def quoO (a b : Int) (k : Nat) : Int := a / 2 ^ k / b * 2 ^ k
def remO (a b : Int) (k : Nat) : Int := a / 2 ^ k % b
theorem remO_bd (a b : Int) (k : Nat) (hb : 1 ≤ b) : 0 ≤ remO a b k ∧ remO a b k < b :=
  ⟨Int.emod_nonneg _ (by omega), Int.emod_lt_of_pos _ (by omega)⟩
theorem quoO_bd (a b : Int) (k : Nat) (ha : 0 ≤ a) (hb : 1 ≤ b) : 0 ≤ quoO a b k ∧ quoO a b k ≤ a := by
  have hp := two_pow_pos k
  have h1 : 0 ≤ a / 2 ^ k := Int.ediv_nonneg ha (by omega)
  have h2 : a / 2 ^ k / b ≤ a / 2 ^ k := Int.ediv_le_self _ h1
  refine ⟨Int.mul_nonneg (Int.ediv_nonneg h1 (by omega)) (by omega), ?_⟩
  have h3 : a / 2 ^ k / b * 2 ^ k ≤ a / 2 ^ k * 2 ^ k := Int.mul_le_mul_of_nonneg_right h2 (by omega)
  have h4 := Int.ediv_mul_le a (Int.ne_of_gt hp)
  exact Int.le_trans h3 h4
theorem div_pieces (A b t : Int) (hb : 1 ≤ b) (ht : t = 0 ∨ t = 1) :
    (2 * A + t) / b = 2 * (A / b) + (if b ≤ 2 * (A % b) + t then 1 else 0) ∧
    (2 * A + t) % b = 2 * (A % b) + t - (if b ≤ 2 * (A % b) + t then b else 0) := by
  have h1 := Int.mul_ediv_add_emod A b
  have h2 := Int.emod_nonneg A (show b ≠ 0 by omega)
  have h3 := Int.emod_lt_of_pos A (show 0 < b by omega)
  generalize A / b = q at *
  generalize A % b = r at *
  have e : ∀ x y : Int, 2 * A + t = b * x + y → 0 ≤ y → y < b → (2 * A + t) / b = x ∧ (2 * A + t) % b = y := by
    intro x y h hy hy2
    rw [h, Int.add_comm]
    exact ⟨by rw [Int.add_mul_ediv_left _ _ (by omega), Int.ediv_eq_zero_of_lt hy hy2]; omega, by rw [Int.add_mul_emod_self_left]; exact Int.emod_eq_of_lt hy hy2⟩
  split
  · refine e _ _ ?_ (by omega) (by rcases ht with h | h <;> omega)
    rw [← h1, Int.mul_add, Int.mul_add, Int.mul_one, ← Int.mul_assoc, ← Int.mul_assoc, Int.mul_comm 2 b]; omega
  · refine e _ _ ?_ (by rcases ht with h | h <;> omega) (by omega)
    rw [← h1, Int.mul_add, Int.add_zero, ← Int.mul_assoc, ← Int.mul_assoc, Int.mul_comm 2 b]; omega
/-- One round of the division: whether the bit of the quotient is set, and what is left. -/
theorem div_step_yes (a b : Int) (k : Nat) (hb : 1 ≤ b) (h : b ≤ 2 * remO a b (k + 1) + bitV a k) :
    remO a b k = 2 * remO a b (k + 1) + bitV a k - b ∧ quoO a b k = quoO a b (k + 1) + 2 ^ k := by
  have ht := bitV_bd a k
  have hd := div_pieces (a / 2 ^ (k + 1)) b (bitV a k) hb (by omega)
  have e := div_succ a k
  unfold remO quoO at *
  rw [e, hd.1, hd.2, if_pos h, if_pos h]
  refine ⟨rfl, ?_⟩
  rw [Int.pow_succ, Int.add_mul, Int.one_mul, Int.mul_comm (2 ^ k) 2, ← Int.mul_assoc, Int.mul_comm _ 2]
theorem div_step_no (a b : Int) (k : Nat) (hb : 1 ≤ b) (h : ¬ b ≤ 2 * remO a b (k + 1) + bitV a k) :
    remO a b k = 2 * remO a b (k + 1) + bitV a k ∧ quoO a b k = quoO a b (k + 1) := by
  have ht := bitV_bd a k
  have hd := div_pieces (a / 2 ^ (k + 1)) b (bitV a k) hb (by omega)
  have e := div_succ a k
  unfold remO quoO at *
  rw [e, hd.1, hd.2, if_neg h, if_neg h]
  refine ⟨by omega, ?_⟩
  rw [Int.pow_succ, Int.add_zero, Int.mul_comm (2 ^ k) 2, ← Int.mul_assoc, Int.mul_comm _ 2]
theorem div_start (a b : Int) (ha : 0 ≤ a) (ha1 : a ≤ 18446744073709551615) : remO a b 64 = 0 ∧ quoO a b 64 = 0 := by
  have : a / 2 ^ 64 = 0 := by rw [pow64]; omega
  unfold remO quoO; rw [this]; simp
theorem div_end (a b : Int) : remO a b 0 = a % b ∧ quoO a b 0 = a / b := by
  unfold remO quoO; simp
theorem quo_mult (a b : Int) (k : Nat) : quoO a b k = a / 2 ^ k / b * 2 ^ k := rfl
end Go.Proofs.Ytjjiancacokaiaa.Wd
