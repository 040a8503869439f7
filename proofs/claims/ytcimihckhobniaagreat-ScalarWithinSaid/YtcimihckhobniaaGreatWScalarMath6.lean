/-
  What is known of a number: what a jump teaches (P5.5), as a whole: it has the numbers with which the jump goes so (P5.6), may be, and is within what was known (P5.7). Nothing of the program is named here.
-/
import Derived.Test.YtcimihckhobniaaGreatWScalarMath5
namespace Go.Proofs.YtcimihckhobniaaGreat.Sc
open Tn Sp Wd Go.RowKit
set_option linter.unusedVariables false
set_option linter.unusedSimpArgs false

def counterI (op : Int) : Int :=
  if op = 1 then 5 else if op = 5 then 1 else if op = 2 then 11 else if op = 11 then 2 else if op = 3 then 10 else if op = 10 then 3 else if op = 6 then 13 else if op = 13 then 6 else if op = 7 then 12 else if op = 12 then 7 else 0
def learnC (op : Int) (set : Bool) (a b : C) : Option (C × C) :=
  if set then setC a b else if op = 1 then bothC a b else if op = 5 then offC a b
  else if op = 10 then lessU 1 a b else if op = 11 then lessU 0 a b else if op = 2 then swp2 (lessU 1 b a) else if op = 3 then swp2 (lessU 0 b a)
  else if op = 12 then lessS 1 a b else if op = 13 then lessS 0 a b else if op = 6 then swp2 (lessS 1 b a) else if op = 7 then swp2 (lessS 0 b a) else some (a, b)
def signedJ (op : Int) : Bool := decide (op = 6 ∨ op = 7 ∨ op = 12 ∨ op = 13)
def wideJ (op : Int) (a b : C) : Bool := !withC a (uptoC 4) || (!withC b (uptoC 4) || (signedJ op && (decide (2147483648 ≤ a.u.hi) || decide (2147483648 ≤ b.u.hi))))
def normP (p : C × C) : Option (C × C) := match normC p.1, normC p.2 with
  | some x, some y => some (x, y)
  | _, _ => none
def branchC (op : Int) (wide taken : Bool) (a b : C) : Option (C × C) :=
  if jumpOk op = false then some (a, b)
  else if aloneC a && aloneC b then (if jumpV op wide (oneC a) (oneC b) == taken then some (a, b) else none)
  else if !wide && wideJ op a b then some (a, b)
  else (learnC (if taken then op else counterI op) (decide (op = 4) && !taken) a b).bind normP
section
variable {a b : C} {v w : BitVec 64}
theorem same_ok (ha : mayC a) (hb : mayC b) : lessOk a b (some (a, b)) := by
  intro p q e
  injection e with e
  injection e with e1 e2
  subst e1 e2
  exact And.intro (And.intro ha (withC_refl ha)) (And.intro hb (withC_refl hb))
theorem learn_ok (op : Int) (set : Bool) (ha : mayC a) (hb : mayC b) : lessOk a b (learnC op set a b) := by
  unfold learnC
  split
  · exact set_ok ha hb
  · split
    · exact both_ok ha hb
    · split
      · exact off_ok ha hb
      · split
        · exact lessU_ok 1 ha hb
        · split
          · exact lessU_ok 0 ha hb
          · split
            · exact ok_swp (lessU_ok 1 hb ha)
            · split
              · exact ok_swp (lessU_ok 0 hb ha)
              · split
                · exact lessS_ok 1 ha hb
                · split
                  · exact lessS_ok 0 ha hb
                  · split
                    · exact ok_swp (lessS_ok 1 hb ha)
                    · split
                      · exact ok_swp (lessS_ok 0 hb ha)
                      · exact same_ok ha hb
theorem jump_cases {op : Int} (h : jumpOk op = true) : op = 1 ∨ op = 2 ∨ op = 3 ∨ op = 4 ∨ op = 5 ∨ op = 6 ∨ op = 7 ∨ op = 10 ∨ op = 11 ∨ op = 12 ∨ op = 13 := by
  have := of_decide_eq_true h; omega
end
end Go.Proofs.YtcimihckhobniaaGreat.Sc
