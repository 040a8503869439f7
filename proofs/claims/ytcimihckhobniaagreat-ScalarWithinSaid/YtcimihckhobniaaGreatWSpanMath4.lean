/-
  Ends of known bits, without a sign and with one: what FromT tells. Nothing of the program is named here.
-/
import Derived.Test.YtcimihckhobniaaGreatWSpanMath3
namespace Go.Proofs.YtcimihckhobniaaGreat.Sp
open Tn
set_option linter.unusedVariables false
set_option linter.unusedSimpArgs false
/-! ### Whichever bits are taken -/
end Go.Proofs.YtcimihckhobniaaGreat.Sp
