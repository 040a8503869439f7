/-
  What is known of a number: what a jump teaches (P5.5): whatever numbers are of the parts, the edge that a jump takes with them can be, and they are of what it teaches (P5.6); that may be, and is within what was known (P5.7). Nothing of the program is named here.
-/
import Derived.Test.YtcimihckhobniaaGreatBScalarMath4
namespace Go.Proofs.YtcimihckhobniaaGreat.Sc
open Tn Sp Wd Go.RowKit
set_option linter.unusedVariables false
set_option linter.unusedSimpArgs false

/-! ### One below another -/
def lowE (d : Int) (a b : E) : E := ⟨a.lo, min a.hi (b.hi - d)⟩
def highE (d : Int) (a b : E) : E := ⟨max b.lo (a.lo + d), b.hi⟩
def belowE (lo hi d : Int) (a b : E) : Bool := decide (lo + d ≤ b.hi ∧ a.lo ≤ hi - d ∧ a.lo ≤ min a.hi (b.hi - d) ∧ max b.lo (a.lo + d) ≤ b.hi)
theorem below_has {lo hi d x y : Int} {a b : E} (hd : 0 ≤ d) (la : lo ≤ a.lo) (hb : b.hi ≤ hi) (hx : inE a x = true) (hy : inE b y = true) (h : x + d ≤ y) :
    belowE lo hi d a b = true ∧ inE (lowE d a b) x = true ∧ inE (highE d a b) y = true := by
  rw [inE_iff] at hx hy
  refine ⟨decide_eq_true ?_, ?_, ?_⟩
  · omega
  · rw [inE_iff]; unfold lowE; dsimp only; omega
  · rw [inE_iff]; unfold highE; dsimp only; omega
theorem low_with (d : Int) (a b : E) : withE (lowE d a b) a = true := by rw [withE_iff]; unfold lowE; dsimp only; omega
theorem high_with (d : Int) (a b : E) : withE (highE d a b) b = true := by rw [withE_iff]; unfold highE; dsimp only; omega
theorem lowU_ok {lo hi d : Int} {a b : E} (ha : okU a) (h : belowE lo hi d a b = true) : okU (lowE d a b) := by
  have h := of_decide_eq_true h; unfold okU at *; unfold lowE; dsimp only; omega
theorem highU_ok {lo hi d : Int} {a b : E} (hb : okU b) (h : belowE lo hi d a b = true) : okU (highE d a b) := by
  have h := of_decide_eq_true h; unfold okU at *; unfold highE; dsimp only; omega
theorem lowS_ok {lo hi d : Int} {a b : E} (ha : okS a) (h : belowE lo hi d a b = true) : okS (lowE d a b) := by
  have h := of_decide_eq_true h; unfold okS at *; unfold lowE; dsimp only; omega
theorem highS_ok {lo hi d : Int} {a b : E} (hb : okS b) (h : belowE lo hi d a b = true) : okS (highE d a b) := by
  have h := of_decide_eq_true h; unfold okS at *; unfold highE; dsimp only; omega
def lessU (d : Int) (a b : C) : Option (C × C) :=
  if belowE 0 18446744073709551615 d a.u b.u then some (⟨a.t, lowE d a.u b.u, a.s⟩, ⟨b.t, highE d a.u b.u, b.s⟩) else none
def lessS (d : Int) (a b : C) : Option (C × C) :=
  if belowE (-9223372036854775808) 9223372036854775807 d a.s b.s then some (⟨a.t, a.u, lowE d a.s b.s⟩, ⟨b.t, b.u, highE d a.s b.s⟩) else none
def swp2 (x : Option (C × C)) : Option (C × C) := x.map fun p => (p.2, p.1)
/-- What is taught may be and is within what was known. -/
def lessOk (a b : C) (o : Option (C × C)) : Prop := ∀ p q, o = some (p, q) → (mayC p ∧ withC p a = true) ∧ mayC q ∧ withC q b = true
theorem ok_swp {a b : C} {o : Option (C × C)} (h : lessOk a b o) : lessOk b a (swp2 o) := by
  intro p q e
  unfold swp2 at e
  cases o with
  | none => cases e
  | some z =>
    obtain ⟨x, y⟩ := z
    injection e with e
    injection e with e1 e2
    subst e1 e2
    exact And.symm (h _ _ rfl)
/-- What is taught has two numbers. -/
def lessHas (v w : BitVec 64) (o : Option (C × C)) : Prop := ∃ p q, o = some (p, q) ∧ inC p v = true ∧ inC q w = true
theorem has_swp {v w : BitVec 64} {o : Option (C × C)} (h : lessHas v w o) : lessHas w v (swp2 o) := by
  obtain ⟨p, q, e, h1, h2⟩ := h
  exact ⟨q, p, by rw [e]; rfl, h2, h1⟩
section
variable {a b : C} {v w : BitVec 64}
theorem lessU_ok (d : Int) (ha : mayC a) (hb : mayC b) : lessOk a b (lessU d a b) := by
  intro p q e
  unfold lessU at e
  split at e
  · rename_i h
    injection e with e
    injection e with e1 e2
    subst e1 e2
    exact And.intro (And.intro (mk_may ha.1 (lowU_ok ha.2.1 h) ha.2.2) ((withC_iff _ _).2 (And.intro (with_self ha.1) (And.intro (low_with _ _ _) (withE_refl _)))))
      (And.intro (mk_may hb.1 (highU_ok hb.2.1 h) hb.2.2) ((withC_iff _ _).2 (And.intro (with_self hb.1) (And.intro (high_with _ _ _) (withE_refl _)))))
  · cases e
theorem lessS_ok (d : Int) (ha : mayC a) (hb : mayC b) : lessOk a b (lessS d a b) := by
  intro p q e
  unfold lessS at e
  split at e
  · rename_i h
    injection e with e
    injection e with e1 e2
    subst e1 e2
    exact And.intro (And.intro (mk_may ha.1 ha.2.1 (lowS_ok ha.2.2 h)) ((withC_iff _ _).2 (And.intro (with_self ha.1) (And.intro (withE_refl _) (low_with _ _ _)))))
      (And.intro (mk_may hb.1 hb.2.1 (highS_ok hb.2.2 h)) ((withC_iff _ _).2 (And.intro (with_self hb.1) (And.intro (withE_refl _) (high_with _ _ _)))))
  · cases e
theorem lessU_has {d : Int} (hd : 0 ≤ d) (ha : mayC a) (hb : mayC b) (hv : inC a v = true) (hw : inC b w = true) (h : bi v + d ≤ bi w) : lessHas v w (lessU d a b) := by
  have h1 := (inC_iff a v).1 hv
  have h2 := (inC_iff b w).1 hw
  obtain ⟨g1, g2, g3⟩ := below_has (lo := 0) (hi := 18446744073709551615) hd ha.2.1.1 hb.2.1.2.2 h1.2.1 h2.2.1 h
  exact ⟨_, _, by unfold lessU; rw [if_pos g1], mk_in h1.1 g2 h1.2.2, mk_in h2.1 g3 h2.2.2⟩
theorem lessS_has {d : Int} (hd : 0 ≤ d) (ha : mayC a) (hb : mayC b) (hv : inC a v = true) (hw : inC b w = true) (h : sg (bi v) + d ≤ sg (bi w)) : lessHas v w (lessS d a b) := by
  have h1 := (inC_iff a v).1 hv
  have h2 := (inC_iff b w).1 hw
  obtain ⟨g1, g2, g3⟩ := below_has (lo := -9223372036854775808) (hi := 9223372036854775807) hd ha.2.2.1 hb.2.2.2.2 h1.2.2 h2.2.2 h
  exact ⟨_, _, by unfold lessS; rw [if_pos g1], mk_in h1.1 h1.2.1 g2, mk_in h2.1 h2.2.1 g3⟩

/-! ### Both are one number; they are not -/
def meetC (a b : C) : Option C :=
  if meetOk a.t b.t && (metE a.u b.u && metE a.s b.s) then some ⟨meetT a.t b.t, meetE a.u b.u, meetE a.s b.s⟩ else none
def bothC (a b : C) : Option (C × C) := (meetC a b).map fun p => (p, p)
theorem both_ok (ha : mayC a) (hb : mayC b) : lessOk a b (bothC a b) := by
  intro p q e
  unfold bothC meetC at e
  split at e
  · rename_i h
    simp only [Bool.and_eq_true] at h
    injection e with e
    injection e with e1 e2
    subst e1 e2
    have m := mk_may (may_meet a.t b.t) (meetU_ok ha.2.1 h.2.1) (meetS_ok ha.2.2 h.2.2)
    exact And.intro (And.intro m ((withC_iff _ _).2 (And.intro (meet_left ha.1 hb.1 h.1) (And.intro (meetE_left h.2.1) (meetE_left h.2.2)))))
      (And.intro m ((withC_iff _ _).2 (And.intro (meet_right ha.1 hb.1 h.1) (And.intro (meetE_right h.2.1) (meetE_right h.2.2)))))
  · cases e
theorem both_has (ha : mayC a) (hb : mayC b) (hv : inC a v = true) (hw : inC b v = true) : lessHas v v (bothC a b) := by
  have h1 := (inC_iff a v).1 hv
  have h2 := (inC_iff b v).1 hw
  have m := mk_in (meetT_in ha.1 hb.1 h1.1 h2.1) (meetE_in h1.2.1 h2.2.1) (meetE_in h1.2.2 h2.2.2)
  refine ⟨_, _, ?_, m, m⟩
  unfold bothC meetC
  rw [if_pos (by rw [meetT_ok h1.1 h2.1, met_of h1.2.1 h2.2.1, met_of h1.2.2 h2.2.2]; rfl)]
  rfl
def woE (a : E) (v : Int) : E := if a.lo = v then ⟨v + 1, a.hi⟩ else if a.hi = v then ⟨a.lo, v - 1⟩ else a
def woC (a : C) (v : Int) : Option C :=
  if (a.u.lo = a.u.hi ∧ a.u.lo = v) ∨ (a.s.lo = a.s.hi ∧ a.s.lo = sg v) then none else some ⟨a.t, woE a.u v, woE a.s (sg v)⟩
theorem wo_with {a : E} {v : Int} : withE (woE a v) a = true := by
  rw [withE_iff]; unfold woE; split
  · dsimp only; omega
  · split
    · dsimp only; omega
    · omega
theorem wo_lo {a : E} {v : Int} (h : a.lo ≤ a.hi) (n : ¬ (a.lo = a.hi ∧ a.lo = v)) : (woE a v).lo ≤ (woE a v).hi := by
  unfold woE; split
  · dsimp only; omega
  · split
    · dsimp only; omega
    · omega
theorem wo_in {a : E} {v x : Int} (h : inE a x = true) (n : x ≠ v) : inE (woE a v) x = true := by
  rw [inE_iff] at *; unfold woE; split
  · dsimp only; omega
  · split
    · dsimp only; omega
    · omega
theorem wo_less {p : C} {v : Int} (ha : mayC a) (e : woC a v = some p) : mayC p ∧ withC p a = true := by
  unfold woC at e
  split at e
  · cases e
  · rename_i h
    injection e with e
    subst e
    have w1 := (withE_iff _ _).1 (wo_with (a := a.u) (v := v))
    have w2 := (withE_iff _ _).1 (wo_with (a := a.s) (v := sg v))
    have l1 := wo_lo ha.2.1.2.1 (fun g => h (Or.inl g))
    have l2 := wo_lo ha.2.2.2.1 (fun g => h (Or.inr g))
    refine And.intro (mk_may ha.1 ?_ ?_) ((withC_iff _ _).2 (And.intro (with_self ha.1) (And.intro wo_with wo_with)))
    · have := ha.2.1; unfold okU at *; omega
    · have := ha.2.2; unfold okS at *; omega
theorem wo_has {x : Int} (hv : inC a v = true) (h : bi v ≠ x) (g : sg (bi v) ≠ sg x) : ∃ p, woC a x = some p ∧ inC p v = true := by
  have h1 := (inC_iff a v).1 hv
  have u1 := (inE_iff _ _).1 h1.2.1
  have s1 := (inE_iff _ _).1 h1.2.2
  refine ⟨_, ?_, mk_in h1.1 (wo_in h1.2.1 h) (wo_in h1.2.2 g)⟩
  unfold woC
  rw [if_neg]
  generalize sg (bi v) = k at *
  generalize sg x = l at *
  omega
/-- Not one number: what is left of a, if b is a number alone, and of b, if a is. -/
def offC (a b : C) : Option (C × C) :=
  match (if aloneC b then woC a (oneC b) else some a), (if aloneC a then woC b (oneC a) else some b) with
  | some p, some q => some (p, q)
  | _, _ => none
theorem off_ok (ha : mayC a) (hb : mayC b) : lessOk a b (offC a b) := by
  intro p q e
  unfold offC at e
  have h1 : ∀ p, (if aloneC b then woC a (oneC b) else some a) = some p → mayC p ∧ withC p a = true := by
    intro p g
    split at g
    · exact wo_less ha g
    · injection g with g; subst g; exact And.intro ha (withC_refl ha)
  have h2 : ∀ q, (if aloneC a then woC b (oneC a) else some b) = some q → mayC q ∧ withC q b = true := by
    intro p g
    split at g
    · exact wo_less hb g
    · injection g with g; subst g; exact And.intro hb (withC_refl hb)
  split at e
  · rename_i x y g1 g2
    injection e with e
    injection e with e1 e2
    subst e1 e2
    exact And.intro (h1 _ g1) (h2 _ g2)
  · cases e
theorem sg_inj {v w : BitVec 64} (h : bi v ≠ bi w) : sg (bi v) ≠ sg (bi w) := by
  intro e
  apply h
  rw [← us_sg_bi v, ← us_sg_bi w, e]
theorem off_has (ha : mayC a) (hb : mayC b) (hv : inC a v = true) (hw : inC b w = true) (h : bi v ≠ bi w) : lessHas v w (offC a b) := by
  have h1 : ∃ p, (if aloneC b then woC a (oneC b) else some a) = some p ∧ inC p v = true := by
    split
    · rename_i g
      rw [one_is hb hw g]
      exact wo_has hv h (sg_inj h)
    · exact ⟨a, rfl, hv⟩
  have h2 : ∃ q, (if aloneC a then woC b (oneC a) else some b) = some q ∧ inC q w = true := by
    split
    · rename_i g
      rw [one_is ha hv g]
      exact wo_has hw (Ne.symm h) (sg_inj (Ne.symm h))
    · exact ⟨b, rfl, hw⟩
  obtain ⟨p, e1, i1⟩ := h1
  obtain ⟨q, e2, i2⟩ := h2
  exact ⟨p, q, by unfold offC; rw [e1, e2], i1, i2⟩

/-! ### No bit of both -/
def noT (a : C) (m : Int) : Option C := if meetOk a.t ⟨0#64, ~~~(BitVec.ofInt 64 m)⟩ then some ⟨meetT a.t ⟨0#64, ~~~(BitVec.ofInt 64 m)⟩, a.u, a.s⟩ else none
def setC (a b : C) : Option (C × C) :=
  match (if aloneC b then noT a (oneC b) else some a), (if aloneC a then noT b (oneC a) else some b) with
  | some p, some q => some (p, q)
  | _, _ => none
theorem no_less {p : C} {m : Int} (ha : mayC a) (e : noT a m = some p) : mayC p ∧ withC p a = true := by
  unfold noT at e
  split at e
  · rename_i h
    injection e with e
    subst e
    exact And.intro (mk_may (may_meet _ _) ha.2.1 ha.2.2) ((withC_iff _ _).2 (And.intro (meet_left ha.1 (may_mask _) h) (And.intro (withE_refl _) (withE_refl _))))
  · cases e
theorem no_has (ha : mayC a) (hv : inC a v = true) (h : v &&& w = 0#64) : ∃ p, noT a (bi w) = some p ∧ inC p v = true := by
  have h1 := (inC_iff a v).1 hv
  have i2 : inT ⟨0#64, ~~~w⟩ v = true := by
    rw [in_iff]
    intro i hi hm
    have g := (zero_iff _).1 h i hi
    simp only [BitVec.getLsbD_not, hi, decide_true, Bool.true_and, Bool.not_eq_false'] at hm
    simp only [BitVec.getLsbD_and, hm, Bool.and_true] at g
    simpa using g
  refine ⟨_, ?_, mk_in (meetT_in ha.1 (may_mask _) h1.1 i2) h1.2.1 h1.2.2⟩
  unfold noT
  rw [ofInt_bi, if_pos (meetT_ok h1.1 i2)]
theorem set_ok (ha : mayC a) (hb : mayC b) : lessOk a b (setC a b) := by
  intro p q e
  unfold setC at e
  have h1 : ∀ p, (if aloneC b then noT a (oneC b) else some a) = some p → mayC p ∧ withC p a = true := by
    intro p g
    split at g
    · exact no_less ha g
    · injection g with g; subst g; exact And.intro ha (withC_refl ha)
  have h2 : ∀ q, (if aloneC a then noT b (oneC a) else some b) = some q → mayC q ∧ withC q b = true := by
    intro p g
    split at g
    · exact no_less hb g
    · injection g with g; subst g; exact And.intro hb (withC_refl hb)
  split at e
  · rename_i x y g1 g2
    injection e with e
    injection e with e1 e2
    subst e1 e2
    exact And.intro (h1 _ g1) (h2 _ g2)
  · cases e
theorem set_has (ha : mayC a) (hb : mayC b) (hv : inC a v = true) (hw : inC b w = true) (h : v &&& w = 0#64) : lessHas v w (setC a b) := by
  have h' : w &&& v = 0#64 := by rw [BitVec.and_comm]; exact h
  have h1 : ∃ p, (if aloneC b then noT a (oneC b) else some a) = some p ∧ inC p v = true := by
    split
    · rename_i g
      rw [one_is hb hw g]
      exact no_has ha hv h
    · exact ⟨a, rfl, hv⟩
  have h2 : ∃ q, (if aloneC a then noT b (oneC a) else some b) = some q ∧ inC q w = true := by
    split
    · rename_i g
      rw [one_is ha hv g]
      exact no_has hb hw h'
    · exact ⟨b, rfl, hw⟩
  obtain ⟨p, e1, i1⟩ := h1
  obtain ⟨q, e2, i2⟩ := h2
  exact ⟨p, q, by unfold setC; rw [e1, e2], i1, i2⟩
end
end Go.Proofs.YtcimihckhobniaaGreat.Sc
