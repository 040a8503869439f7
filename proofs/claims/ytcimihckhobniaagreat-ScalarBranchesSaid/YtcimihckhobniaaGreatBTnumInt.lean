/-
  Integers from 0 to 2^64 - 1 as rows of 64 bits: how the program's arithmetic reads on bits. Nothing of the program is named here.
-/
import Derived.Test.YtcimihckhobniaaGreatBTnumMath
import Derived.Laws.BitsAllLaws
import Derived.Below
namespace Go.Proofs.YtcimihckhobniaaGreat.Tn
open Go.RowKit
set_option linter.unusedVariables false
set_option linter.unusedSimpArgs false

def bi (x : BitVec 64) : Int := (x.toNat : Int)
theorem bi_bd (x : BitVec 64) : 0 ≤ bi x ∧ bi x ≤ 18446744073709551615 := by unfold bi; have := x.isLt; omega
theorem bi_of (n : Int) (h0 : 0 ≤ n) (h1 : n ≤ 18446744073709551615) : ∃ x, n = bi x := by
  refine ⟨BitVec.ofNat 64 n.toNat, ?_⟩
  unfold bi
  rw [BitVec.toNat_ofNat]
  omega
theorem bi_inj {x y : BitVec 64} : bi x = bi y ↔ x = y := by
  unfold bi
  rw [← BitVec.toNat_inj]
  omega
theorem bi_eq (x y : BitVec 64) : (bi x == bi y) = (x == y) := by
  rw [Bool.eq_iff_iff, beq_iff_eq, beq_iff_eq, bi_inj]
theorem bi_zero : bi 0#64 = 0 := rfl
theorem bi_ones : bi (BitVec.allOnes 64) = 18446744073709551615 := by unfold bi; rw [BitVec.toNat_allOnes]; rfl
theorem bi_eq0 (x : BitVec 64) : (bi x == 0) = (x == 0#64) := by rw [← bi_zero, bi_eq]
theorem bi_ofInt (x : BitVec 64) : BitVec.ofInt IntKind.u64.bits (bi x) = x := by
  apply BitVec.eq_of_toNat_eq
  rw [BitVec.toNat_ofInt]
  show (((x.toNat : Nat) : Int) % 18446744073709551616).toNat = x.toNat
  have h : x.toNat < 18446744073709551616 := x.isLt
  generalize x.toNat = n at h ⊢
  omega
theorem bi_wrap (x : BitVec 64) : IntKind.u64.wrap (x.toNat : Int) = bi x := by
  rw [IntKind.wrap_u64]
  unfold bi
  have := x.isLt
  omega
theorem bi_and (x y : BitVec 64) : bits .and .u64 (bi x) (bi y) = bi (x &&& y) := by
  unfold bits
  rw [bi_ofInt, bi_ofInt]
  exact bi_wrap _
theorem bi_or (x y : BitVec 64) : bits .or .u64 (bi x) (bi y) = bi (x ||| y) := by
  unfold bits
  rw [bi_ofInt, bi_ofInt]
  exact bi_wrap _
theorem bi_xor (x y : BitVec 64) : bits .xor .u64 (bi x) (bi y) = bi (x ^^^ y) := by
  unfold bits
  rw [bi_ofInt, bi_ofInt]
  exact bi_wrap _
theorem bi_andNot (x y : BitVec 64) : bits .andNot .u64 (bi x) (bi y) = bi (x &&& ~~~y) := by
  unfold bits
  rw [bi_ofInt, bi_ofInt]
  exact bi_wrap _
theorem bi_add (x y : BitVec 64) : (bi x + bi y) % 18446744073709551616 = bi (x + y) := by
  unfold bi
  rw [BitVec.toNat_add]
  omega
theorem bi_sub (x y : BitVec 64) : (bi x - bi y) % 18446744073709551616 = bi (x - y) := by
  unfold bi
  rw [BitVec.toNat_sub]
  have := x.isLt
  have := y.isLt
  omega
theorem bi_mul (x y : BitVec 64) : (bi x * bi y) % 18446744073709551616 = bi (x * y) := by
  unfold bi
  rw [BitVec.toNat_mul, show (2 : Nat) ^ 64 = 18446744073709551616 from rfl, Int.natCast_emod, Int.natCast_mul]
  rfl
theorem biw_add (x y : BitVec 64) : IntKind.u64.wrap (bi x + bi y) = bi (x + y) := by rw [IntKind.wrap_u64]; exact bi_add x y
theorem biw_sub (x y : BitVec 64) : IntKind.u64.wrap (bi x - bi y) = bi (x - y) := by rw [IntKind.wrap_u64]; exact bi_sub x y
theorem biw_mul (x y : BitVec 64) : IntKind.u64.wrap (bi x * bi y) = bi (x * y) := by rw [IntKind.wrap_u64]; exact bi_mul x y
/-! ### A number made bit by bit -/
end Go.Proofs.YtcimihckhobniaaGreat.Tn
