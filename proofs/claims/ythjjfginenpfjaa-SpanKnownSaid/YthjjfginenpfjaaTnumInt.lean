/-
  Integers from 0 to 2^64 - 1 as rows of 64 bits: how the program's arithmetic reads on bits. Nothing of the program is named here.
-/
import Derived.Test.YthjjfginenpfjaaTnumMath
import Derived.Laws.BitsAllLaws
import Derived.Below
namespace Go.Proofs.Ythjjfginenpfjaa.Tn
open Go.RowKit
set_option linter.unusedVariables false
set_option linter.unusedSimpArgs false

def bi (x : BitVec 64) : Int := (x.toNat : Int)
theorem bi_bd (x : BitVec 64) : 0 ≤ bi x ∧ bi x ≤ 18446744073709551615 := by unfold bi; have := x.isLt; omega
theorem bi_of (n : Int) (h0 : 0 ≤ n) (h1 : n ≤ 18446744073709551615) : ∃ x, n = bi x := by
  refine ⟨BitVec.ofNat 64 n.toNat, ?_⟩
  unfold bi
  rw [BitVec.toNat_ofNat]
  omega
theorem bi_inj {x y : BitVec 64} : bi x = bi y ↔ x = y := by
  unfold bi
  rw [← BitVec.toNat_inj]
  omega
theorem bi_eq (x y : BitVec 64) : (bi x == bi y) = (x == y) := by
  rw [Bool.eq_iff_iff, beq_iff_eq, beq_iff_eq, bi_inj]
theorem bi_zero : bi 0#64 = 0 := rfl
theorem bi_ones : bi (BitVec.allOnes 64) = 18446744073709551615 := by unfold bi; rw [BitVec.toNat_allOnes]; rfl
theorem bi_eq0 (x : BitVec 64) : (bi x == 0) = (x == 0#64) := by rw [← bi_zero, bi_eq]
theorem bi_ofInt (x : BitVec 64) : BitVec.ofInt IntKind.u64.bits (bi x) = x := by
  apply BitVec.eq_of_toNat_eq
  rw [BitVec.toNat_ofInt]
  show (((x.toNat : Nat) : Int) % 18446744073709551616).toNat = x.toNat
  have h : x.toNat < 18446744073709551616 := x.isLt
  generalize x.toNat = n at h ⊢
  omega
theorem bi_wrap (x : BitVec 64) : IntKind.u64.wrap (x.toNat : Int) = bi x := by
  rw [IntKind.wrap_u64]
  unfold bi
  have := x.isLt
  omega
theorem bi_and (x y : BitVec 64) : bits .and .u64 (bi x) (bi y) = bi (x &&& y) := by
  unfold bits
  rw [bi_ofInt, bi_ofInt]
  exact bi_wrap _
theorem bi_or (x y : BitVec 64) : bits .or .u64 (bi x) (bi y) = bi (x ||| y) := by
  unfold bits
  rw [bi_ofInt, bi_ofInt]
  exact bi_wrap _
theorem bi_xor (x y : BitVec 64) : bits .xor .u64 (bi x) (bi y) = bi (x ^^^ y) := by
  unfold bits
  rw [bi_ofInt, bi_ofInt]
  exact bi_wrap _
theorem bi_andNot (x y : BitVec 64) : bits .andNot .u64 (bi x) (bi y) = bi (x &&& ~~~y) := by
  unfold bits
  rw [bi_ofInt, bi_ofInt]
  exact bi_wrap _
theorem bi_add (x y : BitVec 64) : (bi x + bi y) % 18446744073709551616 = bi (x + y) := by
  unfold bi
  rw [BitVec.toNat_add]
  omega
theorem bi_sub (x y : BitVec 64) : (bi x - bi y) % 18446744073709551616 = bi (x - y) := by
  unfold bi
  rw [BitVec.toNat_sub]
  have := x.isLt
  have := y.isLt
  omega
theorem bi_mul (x y : BitVec 64) : (bi x * bi y) % 18446744073709551616 = bi (x * y) := by
  unfold bi
  rw [BitVec.toNat_mul, show (2 : Nat) ^ 64 = 18446744073709551616 from rfl, Int.natCast_emod, Int.natCast_mul]
  rfl
theorem bi_not (x : BitVec 64) : 18446744073709551615 - bi x = bi (~~~x) := by
  unfold bi
  rw [BitVec.toNat_not]
  have := x.isLt
  omega
theorem bi_shl (x : BitVec 64) (k : Nat) : bi x * 2 ^ k % 18446744073709551616 = bi (x <<< k) := by
  unfold bi
  rw [BitVec.toNat_shiftLeft, Nat.shiftLeft_eq, show (2 : Nat) ^ 64 = 18446744073709551616 from rfl, Int.natCast_emod, Int.natCast_mul, Int.natCast_pow]
  rfl
theorem bi_shr (x : BitVec 64) (k : Nat) : bi x / 2 ^ k = bi (x >>> k) := by
  unfold bi
  rw [BitVec.toNat_ushiftRight, Nat.shiftRight_eq_div_pow]
  push_cast
  rfl
theorem bi_bit (x : BitVec 64) (k : Nat) : bi x / 2 ^ k % 2 = if x.getLsbD k then 1 else 0 := by
  unfold bi
  rw [← BitVec.testBit_toNat, Nat.testBit_eq_decide_div_mod_eq]
  have e : ((x.toNat : Int) / 2 ^ k % 2) = ((x.toNat / 2 ^ k % 2 : Nat) : Int) := by push_cast; rfl
  rw [e]
  by_cases h : x.toNat / 2 ^ k % 2 = 1
  · simp [h]
  · have h0 : x.toNat / 2 ^ k % 2 = 0 := by omega
    simp [h0]
theorem bi_toInt (x : BitVec 64) : x.toInt = wrap64 (bi x) := by
  rw [BitVec.toInt_eq_toNat_bmod]
  unfold wrap64 bi Int.bmod
  have := x.isLt
  simp only [Nat.reducePow]
  omega
theorem bi_sar (x : BitVec 64) (k : Nat) : wrap64 (bi x) / 2 ^ k % 18446744073709551616 = bi (x.sshiftRight k) := by
  unfold BitVec.sshiftRight bi
  rw [BitVec.toNat_ofInt, ← bi, ← bi_toInt, Int.shiftRight_eq_div_pow, show ((2 ^ 64 : Nat) : Int) = 18446744073709551616 from rfl, show ((2 ^ k : Nat) : Int) = 2 ^ k from by push_cast; rfl]
  have h : (0 : Int) ≤ x.toInt / 2 ^ k % 18446744073709551616 := Int.emod_nonneg _ (by decide)
  exact (Int.toNat_of_nonneg h).symm
theorem to32 (x : BitVec 64) : (x.setWidth 32).toInt = wrap32 (bi x) := by
  rw [BitVec.toInt_eq_toNat_bmod, BitVec.toNat_setWidth]
  unfold wrap32 bi Int.bmod
  have := x.isLt
  simp only [Nat.reducePow]
  omega
theorem bi_sar32 (x : BitVec 64) (k : Nat) : wrap32 (bi x) / 2 ^ k % 4294967296 = bi (dn32 x k) := by
  unfold dn32 BitVec.sshiftRight bi
  rw [BitVec.toNat_setWidth, BitVec.toNat_ofInt, ← bi, to32, Int.shiftRight_eq_div_pow, show ((2 ^ 32 : Nat) : Int) = 4294967296 from rfl, show ((2 ^ k : Nat) : Int) = 2 ^ k from by push_cast; rfl, show (2 : Nat) ^ 64 = 18446744073709551616 from rfl]
  generalize wrap32 (bi x) / 2 ^ k = z
  omega
theorem biw_add (x y : BitVec 64) : IntKind.u64.wrap (bi x + bi y) = bi (x + y) := by rw [IntKind.wrap_u64]; exact bi_add x y
theorem biw_sub (x y : BitVec 64) : IntKind.u64.wrap (bi x - bi y) = bi (x - y) := by rw [IntKind.wrap_u64]; exact bi_sub x y
theorem biw_mul (x y : BitVec 64) : IntKind.u64.wrap (bi x * bi y) = bi (x * y) := by rw [IntKind.wrap_u64]; exact bi_mul x y
theorem biw_shl (x : BitVec 64) (k : Nat) : IntKind.u64.wrap (bi x * 2 ^ k) = bi (x <<< k) := by rw [IntKind.wrap_u64]; exact bi_shl x k
/-! ### A number made bit by bit -/
def mk (f : Nat → Bool) : Nat → BitVec 64
  | 0 => 0#64
  | k + 1 => mk f k ||| (if f k then 1#64 <<< k else 0#64)
theorem mk_bit (f : Nat → Bool) (k i : Nat) (hk : k ≤ 64) (hi : i < 64) : (mk f k).getLsbD i = (decide (i < k) && f i) := by
  induction k with
  | zero => unfold mk; simp
  | succ k ih =>
    unfold mk
    rw [BitVec.getLsbD_or, ih (by omega)]
    have e : (if f k then 1#64 <<< k else 0#64).getLsbD i = (decide (i = k) && f k) := by
      cases f k
      · simp
      · simp only [if_true, Bool.and_true]
        rw [BitVec.getLsbD_shiftLeft]
        by_cases h : i = k
        · subst h; simp [hi]
        · have : i - k = 0 ↔ i ≤ k := by omega
          simp [hi, h]
          intro h2
          omega
    rw [e]
    by_cases h : i = k
    · subst h
      cases f i <;> simp
    · have h2 : decide (i < k + 1) = decide (i < k) := by rw [decide_eq_decide]; omega
      rw [h2]
      simp [h]
theorem mk_all {f : Nat → Bool} {x : BitVec 64} (h : ∀ i, i < 64 → f i = x.getLsbD i) : mk f 64 = x :=
  bt_ext fun i hi => by rw [mk_bit f 64 i (Nat.le_refl _) hi, h i hi]; simp [hi]
theorem put_one (f : Nat → Bool) (k : Nat) (hk : k < 64) (h : f k = true) : bits .or .u64 (bi (mk f k)) (2 ^ k) = bi (mk f (k + 1)) := by
  have e : (2 : Int) ^ k = bi (1#64 <<< k) := by
    rw [← bi_shl]
    have h1 : (2 : Nat) ^ k < 18446744073709551616 := Nat.pow_lt_pow_right (a := 2) (n := 64) (by decide) hk
    have h2 : (2 : Int) ^ k < 18446744073709551616 := by have h9 := Int.ofNat_lt.2 h1; rw [Int.natCast_pow] at h9; exact h9
    have h3 : (0 : Int) < 2 ^ k := Int.pow_pos (by decide)
    show _ = 1 * 2 ^ k % 18446744073709551616
    omega
  rw [e, bi_or]
  show _ = bi (mk f k ||| (if f k then 1#64 <<< k else 0#64))
  rw [h]
  rfl
theorem put_none (f : Nat → Bool) (k : Nat) (h : f k = false) : mk f (k + 1) = mk f k := by
  show mk f k ||| (if f k then 1#64 <<< k else 0#64) = _
  rw [h]
  simp
theorem put_bit (f : Nat → Bool) (x : BitVec 64) (k j : Nat) (hk : k < 64) (h : f k = x.getLsbD j) :
    bits .or .u64 (bi (mk f k)) (bi x / 2 ^ j % 2 * 2 ^ k % 18446744073709551616) = bi (mk f (k + 1)) := by
  rw [bi_bit, ← h]
  cases h2 : f k
  · simp only [Bool.false_eq_true, if_false, Int.zero_mul, Int.zero_emod]
    rw [put_none f k h2]
    rw [← bi_zero, bi_or]
    simp
  · simp only [if_true, Int.one_mul]
    have h1 : (2 : Nat) ^ k < 18446744073709551616 := Nat.pow_lt_pow_right (a := 2) (n := 64) (by decide) hk
    have h3 : (2 : Int) ^ k < 18446744073709551616 := by have h9 := Int.ofNat_lt.2 h1; rw [Int.natCast_pow] at h9; exact h9
    have h4 : (0 : Int) < 2 ^ k := Int.pow_pos (by decide)
    rw [show (2 : Int) ^ k % 18446744073709551616 = 2 ^ k by omega]
    exact put_one f k hk h2
end Go.Proofs.Ythjjfginenpfjaa.Tn
