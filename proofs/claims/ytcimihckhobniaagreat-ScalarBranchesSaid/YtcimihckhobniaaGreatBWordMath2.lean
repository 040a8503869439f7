/-
  Plain mathematics of layer 1, second part: shifts down, numbers bit by bit, orders, and what the document says of Alu and Jump (aluV, jumpV). Nothing of the program is named here.
-/
import Derived.Test.YtcimihckhobniaaGreatBWordMath
namespace Go.Proofs.YtcimihckhobniaaGreat.Wd
open Go.RowKit

/-! ### 5. Shifted down, a bit coming in -/
def sgnW (w : Nat) (a : Int) : Int := a - bitV a (w - 1) * 2 ^ w
/-! ### 6. Bit by bit -/
def orV (a b : Int) : Int := ((a.toNat ||| b.toNat : Nat) : Int)
def andV (a b : Int) : Int := ((a.toNat &&& b.toNat : Nat) : Int)
def xorV (a b : Int) : Int := ((a.toNat ^^^ b.toNat : Nat) : Int)
theorem natlt (a : Int) (n : Nat) (h0 : 0 ≤ a) (h : a < 2 ^ n) : a.toNat < 2 ^ n := by
  obtain ⟨A, rfl⟩ := Int.eq_ofNat_of_zero_le h0
  rw [Int.toNat_natCast]; exact_mod_cast h
theorem orV_bd (a b : Int) (n : Nat) (ha : 0 ≤ a) (hb : 0 ≤ b) (ha1 : a < 2 ^ n) (hb1 : b < 2 ^ n) : 0 ≤ orV a b ∧ orV a b < 2 ^ n := by
  refine ⟨Int.natCast_nonneg _, ?_⟩
  have := Nat.or_lt_two_pow (natlt a n ha ha1) (natlt b n hb hb1)
  unfold orV; exact_mod_cast this
theorem xorV_bd (a b : Int) (n : Nat) (ha : 0 ≤ a) (hb : 0 ≤ b) (ha1 : a < 2 ^ n) (hb1 : b < 2 ^ n) : 0 ≤ xorV a b ∧ xorV a b < 2 ^ n := by
  refine ⟨Int.natCast_nonneg _, ?_⟩
  have := Nat.xor_lt_two_pow (natlt a n ha ha1) (natlt b n hb hb1)
  unfold xorV; exact_mod_cast this
theorem andV_bd (a b : Int) (n : Nat) (hb : 0 ≤ b) (hb1 : b < 2 ^ n) : 0 ≤ andV a b ∧ andV a b < 2 ^ n := by
  refine ⟨Int.natCast_nonneg _, ?_⟩
  have := Nat.and_lt_two_pow a.toNat (natlt b n hb hb1)
  unfold andV; exact_mod_cast this
/-! ### 7. Orders -/
end Go.Proofs.YtcimihckhobniaaGreat.Wd
