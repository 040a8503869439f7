/-
  Regions of a function, one by one: where they lie, and what is kept. No conditions.
-/
import Derived.Test.YtcimihckhobniaaGreatBBrief
import Derived.Test.YtcimihckhobniaaGreatBOwn
import Derived.Below
import Derived.Handy
namespace Go.Proofs.YtcimihckhobniaaGreat.Rg
open Go.RowKit Ow
set_option linter.unusedVariables false
def findR (n : Nat) : Code → Option Code
  | .region id ops d => if id = n then some (.region id ops d) else none
  | .loop c => findR n c
  | .seq a b => (findR n a).or (findR n b)
  | .block _ c => findR n c
  | .scope c => findR n c
  | .cond _ a b => (findR n a).or (findR n b)
  | _ => none
end Go.Proofs.YtcimihckhobniaaGreat.Rg
