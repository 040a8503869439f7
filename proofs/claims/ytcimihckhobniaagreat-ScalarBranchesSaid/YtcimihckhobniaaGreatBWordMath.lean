/-
  Plain mathematics of layer 1 (numbers of 64 bits as integers from 0 to 2^64 - 1): what arithmetic, byte order and comparisons are, and that sums, products and quotients made bit by bit are these. Nothing of the program is named here.
-/
import Derived.WalkKit
namespace Go.Proofs.YtcimihckhobniaaGreat.Wd
open Go.RowKit

/-! ### 1. Bits of an integer -/
def bitV (a : Int) (k : Nat) : Int := a / 2 ^ k % 2
theorem two_pow_pos (k : Nat) : (0 : Int) < 2 ^ k := Int.pow_pos (by decide)
theorem pow64 : (2 : Int) ^ 64 = 18446744073709551616 := by decide
/-! ### 2. Sums, and all bits turned, bit by bit -/
/-! ### 3. Products -/
/-! ### 4. Quotients -/
end Go.Proofs.YtcimihckhobniaaGreat.Wd
