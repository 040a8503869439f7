/-
  What the document's answer of layer 1 computes bit by bit (bit, the lowest bits, sum, all bits turned, product, quotient): contracts of its functions. Conditions: the numbers are of 64 bits; places from 0 to 63; a divisor is not 0.
-/
import Derived.Test.YtcimihckhobniaaGreatRows
import Derived.Test.YtcimihckhobniaaGreatBWordMath2
import Derived.WalkKit
import Derived.WalkSpells
import Derived.WalkLawsBesides
import Derived.Lib.Hide
namespace Go.Proofs.YtcimihckhobniaaGreat.L1
open Go.RowKit Wd
set_option linter.unusedVariables false

theorem ret_ib {k : IntKind} {a b : Int} {c d : Bool} (h : a = b) (g : c = d) : Ending.returned (.tuple #[.int k a, .bool c]) = .returned (.tuple #[.int k b, .bool d]) := by rw [h, g]
theorem ret_bb {a b c d : Bool} (h : a = b) (g : c = d) : Ending.returned (.tuple #[.bool a, .bool c]) = .returned (.tuple #[.bool b, .bool d]) := by rw [h, g]
end Go.Proofs.YtcimihckhobniaaGreat.L1
