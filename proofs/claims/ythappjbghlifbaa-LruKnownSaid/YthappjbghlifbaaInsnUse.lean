/-
  What the program's package insn tells of an operation and of an instruction (Check, Size, Width and what they call): contracts. Conditions: the numbers are of 64 bits.
-/
import Derived.Test.YthappjbghlifbaaRows
import Derived.Test.YthappjbghlifbaaInsnMath
import Derived.WalkKit
import Derived.WalkSpells
import Derived.WalkLawsBesides
import Derived.Lib.Hide
import Derived.Deep.Light
namespace Go.Proofs.Ythappjbghlifbaa.K2
set_option maxRecDepth 100000
open Go.RowKit Wi
set_option linter.unusedVariables false

theorem rt_i {k : IntKind} {a b : Int} (h : a = b) : Ending.returned (.int k a) = .returned (.int k b) := by rw [h]
theorem rt_b {a b : Bool} (h : a = b) : Ending.returned (.bool a) = .returned (.bool b) := by rw [h]

theorem useV_in (op : Int) (h1 : 0 ≤ op) (h2 : op ≤ 255) : useV op = 
  (if op % 8 = 0 then (if op = 24 then 59 else 0)
  else if op % 8 = 1 then (if op / 32 = 3 then 55 else 0)
  else if op % 8 = 2 then (if op / 32 = 3 then 45 else 0)
  else if op % 8 = 3 then (if op / 32 = 3 then 39 else 0)
  else if op % 8 = 4 then (if op / 16 = 13 then 57 else arV op)
  else if op % 8 = 7 then arV op
  else if op % 8 = 5 then (if pjV op = 0 then jcV op else pjV op)
  else jcV op) := if_neg (by omega)
end Go.Proofs.Ythappjbghlifbaa.K2
