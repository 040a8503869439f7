/-
  Layer 10's sum, and the way of a key: mathematics. Nothing of the program is named here.
-/
import Derived.Laws.BitsAllLaws
import Derived.Below
namespace Go.Proofs.Ytkaapphlnolelaa.Hm
open Go.RowKit
set_option linter.unusedVariables false
set_option linter.unusedSimpArgs false
theorem of64 (a : Nat) (ha : a < 18446744073709551616) : (BitVec.ofInt IntKind.u64.bits (a : Int)).toNat = a := by
  rw [BitVec.toNat_ofInt]
  show (((a : Nat) : Int) % 18446744073709551616).toNat = a
  omega
theorem xor64 (a b : Nat) (ha : a < 18446744073709551616) (hb : b < 18446744073709551616) : bits .xor .u64 (a : Int) (b : Int) = ((a ^^^ b : Nat) : Int) := by
  have hx : a ^^^ b < 2 ^ 64 := Nat.xor_lt_two_pow (n := 64) (by simpa using ha) (by simpa using hb)
  unfold bits
  show IntKind.u64.wrap (((BitVec.ofInt IntKind.u64.bits (a : Int) ^^^ BitVec.ofInt IntKind.u64.bits (b : Int)).toNat : Nat) : Int) = _
  rw [BitVec.toNat_xor, of64 a ha, of64 b hb, IntKind.wrap_u64]
  have : a ^^^ b < 18446744073709551616 := by simpa using hx
  omega
theorem of32 (a : Nat) (ha : a < 4294967296) : (BitVec.ofInt IntKind.u32.bits (a : Int)).toNat = a := by
  rw [BitVec.toNat_ofInt]
  show (((a : Nat) : Int) % 4294967296).toNat = a
  omega
theorem xor32 (a b : Nat) (ha : a < 4294967296) (hb : b < 4294967296) : bits .xor .u32 (a : Int) (b : Int) = ((a ^^^ b : Nat) : Int) := by
  have hx : a ^^^ b < 2 ^ 32 := Nat.xor_lt_two_pow (n := 32) (by simpa using ha) (by simpa using hb)
  unfold bits
  show IntKind.u32.wrap (((BitVec.ofInt IntKind.u32.bits (a : Int) ^^^ BitVec.ofInt IntKind.u32.bits (b : Int)).toNat : Nat) : Int) = _
  rw [BitVec.toNat_xor, of32 a ha, of32 b hb, IntKind.wrap_u32]
  have : a ^^^ b < 4294967296 := by simpa using hx
  omega
/-- The lowest byte alone is turned. -/
theorem xor_low (s k : Nat) (hk : k < 256) : s - s % 256 + ((s % 256) ^^^ k) = s ^^^ k := by
  have h1 : (s % 256) ^^^ k < 256 := Nat.xor_lt_two_pow (n := 8) (Nat.mod_lt _ (by decide)) hk
  have h2 : (s ^^^ k) % 256 = (s % 256) ^^^ k := by
    have := Nat.xor_mod_two_pow (a := s) (b := k) (n := 8)
    rw [show (2 : Nat) ^ 8 = 256 from rfl] at this
    rw [this, Nat.mod_eq_of_lt hk]
  have h3 : (s ^^^ k) / 256 = s / 256 := by
    have := Nat.xor_div_two_pow (a := s) (b := k) (n := 8)
    rw [show (2 : Nat) ^ 8 = 256 from rfl] at this
    rw [this, Nat.div_eq_of_lt hk, Nat.xor_zero]
  omega
/-- One step of the sum. -/
def stp (s : Nat) (k : Int) : Nat := ((s ^^^ k.toNat) * 16777619) % 4294967296
def fnv (xs : List Int) : Nat := xs.foldl stp 2166136261
theorem stp_lt (s : Nat) (k : Int) : stp s k < 4294967296 := by unfold stp; exact Nat.mod_lt _ (by decide)
theorem fnv_lt (xs : List Int) : fnv xs < 4294967296 := by
  unfold fnv
  rcases xs.eq_nil_or_concat with rfl | ⟨l, b, rfl⟩
  · rw [List.foldl_nil]; decide
  · rw [List.concat_eq_append, List.foldl_append, List.foldl_cons, List.foldl_nil]
    exact stp_lt _ _
theorem fnv_nil : fnv [] = 2166136261 := by unfold fnv; rw [List.foldl_nil]
theorem fnv_succ (xs : List Int) (j : Nat) (h : j < xs.length) : fnv (xs.take (j + 1)) = stp (fnv (xs.take j)) xs[j] := by
  unfold fnv
  rw [List.take_add_one, List.getElem?_eq_getElem h, Option.toList_some, List.foldl_append, List.foldl_cons, List.foldl_nil]
end Go.Proofs.Ytkaapphlnolelaa.Hm
