/-
  Byte order in layer 1: the program's Swap and the document's answer are swapV: contracts. Conditions: the numbers are of 64 bits.
-/
import Derived.Test.YtcimihckhobniaaGreatBWordRefA
import Derived.Test.YtcimihckhobniaaGreatBWordMath5
namespace Go.Proofs.YtcimihckhobniaaGreat.L1
open Go.RowKit Wd
set_option linter.unusedVariables false

def cutN (v k : Nat) : Nat := v % 2 ^ (8 * k)
end Go.Proofs.YtcimihckhobniaaGreat.L1
