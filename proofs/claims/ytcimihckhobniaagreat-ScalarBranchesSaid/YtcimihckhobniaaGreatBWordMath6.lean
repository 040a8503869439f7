/-
  Plain mathematics of layer 1, sixth part: sums and quotients are taken back; or and and are a sum; narrow operations hang on the lowest 32 bits; shifts one by one; orders. Nothing of the program is named here.
-/
import Derived.Test.YtcimihckhobniaaGreatBWordMath4
namespace Go.Proofs.YtcimihckhobniaaGreat.Wd
open Go.RowKit
set_option linter.unusedVariables false

/-! ### What is the operation at a width -/
theorem w0 (a b : Int) : aluV 0 true a b = (a + b) % 18446744073709551616 := rfl
theorem n0 (a b : Int) : aluV 0 false a b = (a % 4294967296 + b % 4294967296) % 4294967296 := rfl
theorem w1 (a b : Int) : aluV 1 true a b = (a - b) % 18446744073709551616 := rfl
theorem n1 (a b : Int) : aluV 1 false a b = (a % 4294967296 - b % 4294967296) % 4294967296 := rfl
theorem w2 (a b : Int) : aluV 2 true a b = a * b % 18446744073709551616 := rfl
theorem n2 (a b : Int) : aluV 2 false a b = (a % 4294967296) * (b % 4294967296) % 4294967296 := rfl
theorem w3 (a b : Int) : aluV 3 true a b = quoV a b := rfl
theorem n3 (a b : Int) : aluV 3 false a b = quoV (a % 4294967296) (b % 4294967296) := rfl
theorem n9 (a b : Int) : aluV 9 false a b = remV (a % 4294967296) (b % 4294967296) := rfl
theorem w4 (a b : Int) : aluV 4 true a b = orV a b := rfl
theorem n4 (a b : Int) : aluV 4 false a b = orV (a % 4294967296) (b % 4294967296) := rfl
theorem w5 (a b : Int) : aluV 5 true a b = andV a b := rfl
theorem n5 (a b : Int) : aluV 5 false a b = andV (a % 4294967296) (b % 4294967296) := rfl
theorem n10 (a b : Int) : aluV 10 false a b = xorV (a % 4294967296) (b % 4294967296) := rfl
theorem n8 (a b : Int) : aluV 8 false a b = (-(a % 4294967296)) % 4294967296 := rfl
theorem n11 (a b : Int) : aluV 11 false a b = b % 4294967296 := rfl

/-! ### P1.4 -/
/-! ### Narrow operations -/
/-! ### Shifts, one by one -/
theorem n6 (a b : Int) : aluV 6 false a b = (a % 4294967296) * 2 ^ (b % 4294967296 % 32).toNat % 4294967296 := rfl
theorem n7 (a b : Int) : aluV 7 false a b = (a % 4294967296) / 2 ^ (b % 4294967296 % 32).toNat := rfl
theorem n12 (a b : Int) : aluV 12 false a b = sgnW 32 (a % 4294967296) / 2 ^ (b % 4294967296 % 32).toNat % 4294967296 := rfl
/-! ### Orders -/
end Go.Proofs.YtcimihckhobniaaGreat.Wd
