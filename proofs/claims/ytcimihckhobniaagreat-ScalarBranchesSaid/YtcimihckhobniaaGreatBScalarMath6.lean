/-
  What is known of a number: what a jump teaches (P5.5), as a whole: it has the numbers with which the jump goes so (P5.6), may be, and is within what was known (P5.7). Nothing of the program is named here.
-/
import Derived.Test.YtcimihckhobniaaGreatBScalarMath5
namespace Go.Proofs.YtcimihckhobniaaGreat.Sc
open Tn Sp Wd Go.RowKit
set_option linter.unusedVariables false
set_option linter.unusedSimpArgs false

def counterI (op : Int) : Int :=
  if op = 1 then 5 else if op = 5 then 1 else if op = 2 then 11 else if op = 11 then 2 else if op = 3 then 10 else if op = 10 then 3 else if op = 6 then 13 else if op = 13 then 6 else if op = 7 then 12 else if op = 12 then 7 else 0
def learnC (op : Int) (set : Bool) (a b : C) : Option (C × C) :=
  if set then setC a b else if op = 1 then bothC a b else if op = 5 then offC a b
  else if op = 10 then lessU 1 a b else if op = 11 then lessU 0 a b else if op = 2 then swp2 (lessU 1 b a) else if op = 3 then swp2 (lessU 0 b a)
  else if op = 12 then lessS 1 a b else if op = 13 then lessS 0 a b else if op = 6 then swp2 (lessS 1 b a) else if op = 7 then swp2 (lessS 0 b a) else some (a, b)
def signedJ (op : Int) : Bool := decide (op = 6 ∨ op = 7 ∨ op = 12 ∨ op = 13)
def wideJ (op : Int) (a b : C) : Bool := !withC a (uptoC 4) || (!withC b (uptoC 4) || (signedJ op && (decide (2147483648 ≤ a.u.hi) || decide (2147483648 ≤ b.u.hi))))
def normP (p : C × C) : Option (C × C) := match normC p.1, normC p.2 with
  | some x, some y => some (x, y)
  | _, _ => none
def branchC (op : Int) (wide taken : Bool) (a b : C) : Option (C × C) :=
  if jumpOk op = false then some (a, b)
  else if aloneC a && aloneC b then (if jumpV op wide (oneC a) (oneC b) == taken then some (a, b) else none)
  else if !wide && wideJ op a b then some (a, b)
  else (learnC (if taken then op else counterI op) (decide (op = 4) && !taken) a b).bind normP
section
variable {a b : C} {v w : BitVec 64}
theorem same_ok (ha : mayC a) (hb : mayC b) : lessOk a b (some (a, b)) := by
  intro p q e
  injection e with e
  injection e with e1 e2
  subst e1 e2
  exact And.intro (And.intro ha (withC_refl ha)) (And.intro hb (withC_refl hb))
theorem learn_ok (op : Int) (set : Bool) (ha : mayC a) (hb : mayC b) : lessOk a b (learnC op set a b) := by
  unfold learnC
  split
  · exact set_ok ha hb
  · split
    · exact both_ok ha hb
    · split
      · exact off_ok ha hb
      · split
        · exact lessU_ok 1 ha hb
        · split
          · exact lessU_ok 0 ha hb
          · split
            · exact ok_swp (lessU_ok 1 hb ha)
            · split
              · exact ok_swp (lessU_ok 0 hb ha)
              · split
                · exact lessS_ok 1 ha hb
                · split
                  · exact lessS_ok 0 ha hb
                  · split
                    · exact ok_swp (lessS_ok 1 hb ha)
                    · split
                      · exact ok_swp (lessS_ok 0 hb ha)
                      · exact same_ok ha hb
theorem normP_ok (ha : mayC a) (hb : mayC b) {o : Option (C × C)} (h : lessOk a b o) : lessOk a b (o.bind normP) := by
  intro x y e
  cases o with
  | none => cases e
  | some z =>
    obtain ⟨p, q⟩ := z
    obtain ⟨⟨mp, wp⟩, mq, wq⟩ := h p q rfl
    have e : normP (p, q) = some (x, y) := e
    unfold normP at e
    split at e
    · rename_i x' y' g1 g2
      injection e with e
      injection e with e1 e2
      subst e1 e2
      have n1 := norm_less mp g1
      have n2 := norm_less mq g2
      exact And.intro (And.intro n1.1 (withC_trans mp ha n1.2 wp)) (And.intro n2.1 (withC_trans mq hb n2.2 wq))
    · cases e
theorem branch_ok (op : Int) (wide taken : Bool) (ha : mayC a) (hb : mayC b) : lessOk a b (branchC op wide taken a b) := by
  unfold branchC
  split
  · exact same_ok ha hb
  · split
    · split
      · exact same_ok ha hb
      · intro p q e; cases e
    · split
      · exact same_ok ha hb
      · exact normP_ok ha hb (learn_ok _ _ ha hb)
theorem normP_has (ha : mayC a) (hb : mayC b) {o : Option (C × C)} (k : lessOk a b o) (h : lessHas v w o) : lessHas v w (o.bind normP) := by
  obtain ⟨p, q, e, h1, h2⟩ := h
  have ok := k p q e
  obtain ⟨x, e1, i1⟩ := norm_has ok.1.1 h1
  obtain ⟨y, e2, i2⟩ := norm_has ok.2.1 h2
  exact ⟨x, y, by rw [e]; show normP (p, q) = _; unfold normP; rw [e1, e2], i1, i2⟩
theorem same_has (hv : inC a v = true) (hw : inC b w = true) : lessHas v w (some (a, b)) := ⟨a, b, rfl, hv, hw⟩
theorem jump_cases {op : Int} (h : jumpOk op = true) : op = 1 ∨ op = 2 ∨ op = 3 ∨ op = 4 ∨ op = 5 ∨ op = 6 ∨ op = 7 ∨ op = 10 ∨ op = 11 ∨ op = 12 ∨ op = 13 := by
  have := of_decide_eq_true h; omega
theorem learn_has (op : Int) (hop : jumpOk op = true) (taken : Bool) (ha : mayC a) (hb : mayC b) (hv : inC a v = true) (hw : inC b w = true)
    (h : cmpV op (bi v) (bi w) (sg (bi v)) (sg (bi w)) = taken) : lessHas v w (learnC (if taken then op else counterI op) (decide (op = 4) && !taken) a b) := by
  have U1 : bi v < bi w → lessHas v w (lessU 1 a b) := fun g => lessU_has (by decide) ha hb hv hw (by omega)
  have U0 : bi v ≤ bi w → lessHas v w (lessU 0 a b) := fun g => lessU_has (by decide) ha hb hv hw (by omega)
  have V1 : bi w < bi v → lessHas v w (swp2 (lessU 1 b a)) := fun g => has_swp (lessU_has (by decide) hb ha hw hv (by omega))
  have V0 : bi w ≤ bi v → lessHas v w (swp2 (lessU 0 b a)) := fun g => has_swp (lessU_has (by decide) hb ha hw hv (by omega))
  have S1 : sg (bi v) < sg (bi w) → lessHas v w (lessS 1 a b) := fun g => lessS_has (by decide) ha hb hv hw (by omega)
  have S0 : sg (bi v) ≤ sg (bi w) → lessHas v w (lessS 0 a b) := fun g => lessS_has (by decide) ha hb hv hw (by omega)
  have T1 : sg (bi w) < sg (bi v) → lessHas v w (swp2 (lessS 1 b a)) := fun g => has_swp (lessS_has (by decide) hb ha hw hv (by omega))
  have T0 : sg (bi w) ≤ sg (bi v) → lessHas v w (swp2 (lessS 0 b a)) := fun g => has_swp (lessS_has (by decide) hb ha hw hv (by omega))
  have EQ : bi v = bi w → lessHas v w (bothC a b) := by
    intro g
    have g := bi_inj.1 g
    subst g
    exact both_has ha hb hv hw
  have NE : bi v ≠ bi w → lessHas v w (offC a b) := fun g => off_has ha hb hv hw g
  have ST : andV (bi v) (bi w) = 0 → lessHas v w (setC a b) := by
    intro g
    refine set_has ha hb hv hw ?_
    have e : andV (bi v) (bi w) = bi (v &&& w) := bi_andI v w
    rw [e, ← bi_zero, bi_inj] at g
    exact g
  have ID : lessHas v w (some (a, b)) := same_has hv hw
  generalize sg (bi v) = s at *
  generalize sg (bi w) = t at *
  generalize bi v = x at *
  generalize bi w = y at *
  rcases jump_cases hop with rfl | rfl | rfl | rfl | rfl | rfl | rfl | rfl | rfl | rfl | rfl <;> cases taken <;> simp [cmpV] at h <;> simp [learnC, counterI] <;>
    first | exact EQ (by omega) | exact NE (by omega) | exact U1 (by omega) | exact U0 (by omega) | exact V1 (by omega) | exact V0 (by omega) | exact S1 (by omega) | exact S0 (by omega) | exact T1 (by omega) | exact T0 (by omega) | exact ST h | exact ID
theorem cmp_uns {op : Int} (hok : jumpOk op = true) (g : ¬ (op = 6 ∨ op = 7 ∨ op = 12 ∨ op = 13)) (x y s t s' t' : Int) : cmpV op x y s t = cmpV op x y s' t' := by
  unfold cmpV
  rcases jump_cases hok with rfl | rfl | rfl | rfl | rfl | rfl | rfl | rfl | rfl | rfl | rfl <;> simp at g ⊢
theorem sgnW64 (v : BitVec 64) : sgnW 64 (bi v) = sg (bi v) := by rw [← sgn64 _ (bi_bd v).1 (bi_bd v).2, wrap_sg]
theorem sgnW32 {x : Int} (h0 : 0 ≤ x) (h : x < 2147483648) : sgnW 32 x = x := by
  have := sgn32 x
  rw [show x % 4294967296 = x by omega, wr3264] at this
  rw [← this]; unfold wrap32; omega
theorem branch_has (op : Int) (wide taken : Bool) (ha : mayC a) (hb : mayC b) (hv : inC a v = true) (hw : inC b w = true) (h : jumpOk op = true → jumpV op wide (bi v) (bi w) = taken) :
    lessHas v w (branchC op wide taken a b) := by
  unfold branchC
  split
  · exact same_has hv hw
  · rename_i hok
    have hok : jumpOk op = true := by cases e : jumpOk op; exact absurd e hok; rfl
    have h := h hok
    split
    · rename_i h2
      simp only [Bool.and_eq_true] at h2
      rw [one_is ha hv h2.1, one_is hb hw h2.2, h, if_pos (by simp)]
      exact same_has hv hw
    · split
      · exact same_has hv hw
      · rename_i h3
        refine normP_has ha hb (learn_ok _ _ ha hb) (learn_has op hok taken ha hb hv hw ?_)
        rw [← h]
        unfold jumpV
        cases wide
        · simp only [Bool.false_eq_true, if_false]
          simp only [Bool.not_false, Bool.true_and, Bool.not_eq_true] at h3
          unfold wideJ at h3
          simp only [Bool.or_eq_false_iff, Bool.not_eq_false'] at h3
          obtain ⟨w1, w2, w3⟩ := h3
          have l1 := withC_in (may_upto 4) w1 hv
          have l2 := withC_in (may_upto 4) w2 hw
          rw [in_upto (by decide) (by decide)] at l1 l2
          have l1 := of_decide_eq_true l1
          have l2 := of_decide_eq_true l2
          have e4 : (2 : Int) ^ (8 * (4 : Int).toNat) = 4294967296 := by decide
          rw [e4] at l1 l2
          have b1 := bi_bd v
          have b2 := bi_bd w
          have m1 : bi v % 4294967296 = bi v := by omega
          have m2 : bi w % 4294967296 = bi w := by omega
          rw [m1, m2]
          cases g : signedJ op
          · have g := of_decide_eq_false g
            exact cmp_uns hok g _ _ _ _ _ _
          · rw [g] at w3
            simp only [Bool.true_and, Bool.or_eq_false_iff, decide_eq_false_iff_not] at w3
            have u1 := (inE_iff _ _).1 ((inC_iff a v).1 hv).2.1
            have u2 := (inE_iff _ _).1 ((inC_iff b w).1 hw).2.1
            have k1 : bi v < 2147483648 := by omega
            have k2 : bi w < 2147483648 := by omega
            have q1 : sg (bi v) = bi v := by unfold sg; rw [if_pos (by omega)]
            have q2 : sg (bi w) = bi w := by unfold sg; rw [if_pos (by omega)]
            rw [sgnW32 b1.1 k1, sgnW32 b2.1 k2, q1, q2]
        · simp only [if_true]
          rw [sgnW64, sgnW64]
end
end Go.Proofs.YtcimihckhobniaaGreat.Sc
