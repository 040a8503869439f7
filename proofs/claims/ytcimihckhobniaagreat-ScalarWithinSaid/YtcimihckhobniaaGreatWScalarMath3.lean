/-
  What is known of a number: what any operation makes of two is of what is told (P5.3, P5.6), and that may be (P5.7). Nothing of the program is named here.
-/
import Derived.Test.YtcimihckhobniaaGreatWScalarMath2
import Derived.Test.YtcimihckhobniaaGreatWWordMath6
namespace Go.Proofs.YtcimihckhobniaaGreat.Sc
open Tn Sp Wd Go.RowKit
set_option linter.unusedVariables false
set_option linter.unusedSimpArgs false

section
variable {a b : C} {v w : BitVec 64}
/-! ### What may be -/
/-! ### P5.3 is sound -/
end
end Go.Proofs.YtcimihckhobniaaGreat.Sc
