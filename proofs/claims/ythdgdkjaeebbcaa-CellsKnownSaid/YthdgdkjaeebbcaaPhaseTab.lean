/-
  Tables of small whole numbers as floats. No program.
-/
import Derived.Laws.ComplexArith
import Derived.Lib.Hide
namespace Go.Proofs.Ythdgdkjaeebbcaa
set_option maxRecDepth 100000
namespace Ph
set_option linter.unusedVariables false
def fr (n : Int) : Nat := FloatKind.f64.nearest n
def dat (n : Nat) : Ieee.Datum := if n = 0 then .number false 0 (-1074) else .number false (n <<< (52 - n.log2)) ((n.log2 : Int) - 52)
set_option maxRecDepth 100000 in
theorem t_read : ∀ k : Fin 304, FloatKind.f64.format.read (fr (k.val : Int)) = dat k.val := by decide +kernel
set_option maxRecDepth 100000 in
theorem t_log : ∀ k : Fin 304, k.val.log2 ≤ 8 := by decide +kernel
set_option maxRecDepth 100000 in
theorem t_write : ∀ k : Fin 304, ∀ j : Fin 9, FloatKind.f64.format.write (.number false (k.val <<< (52 - j.val)) (-(52 - j.val : Nat) : Int)) = fr (k.val : Int) := by decide +kernel
set_option maxRecDepth 100000 in
theorem t_write0 : ∀ k : Fin 304, FloatKind.f64.format.write (.number false (k.val <<< 1074) (-1074)) = fr (k.val : Int) := by decide +kernel
set_option maxRecDepth 100000 in
theorem t_step : ∀ k : Fin 607, ∀ d : Fin 3, FloatKind.f64.format.add (fr ((k.val : Int) - 303)) (fr ((d.val : Int) - 1)) = some (fr ((k.val : Int) - 303 + ((d.val : Int) - 1))) := by decide +kernel
set_option maxRecDepth 100000 in
theorem t_int : ∀ k : Fin 304, floatToIntVal .f64 (fr (k.val : Int)) .i64 = some (k.val : Int) := by decide +kernel
set_option maxRecDepth 100000 in
theorem t_abs : ∀ k : Fin 609, bits .andNot .u64 ((fr ((k.val : Int) - 304) : Nat) : Int) 9223372036854775808 = ((fr ((((k.val : Int) - 304).natAbs : Nat) : Int) : Nat) : Int) := by decide +kernel
end Ph
end Go.Proofs.Ythdgdkjaeebbcaa
