/-
  Plain mathematics of layer 3: numbers of which some bits are known, as pairs of 64 bits: what sums, differences, products, bit by bit operations and shifts tell is sound, lattice laws, monotony. Nothing of the program is named here.
-/
import Derived.WalkKit
namespace Go.Proofs.YtcimihckhobniaaGreat.Tn
set_option linter.unusedVariables false
set_option linter.unusedSimpArgs false

/-- A tnum: the bits that are not in the mask are the value's. -/
structure T where
  v : BitVec 64
  m : BitVec 64
theorem T.eq {a b : T} (h1 : a.v = b.v) (h2 : a.m = b.m) : a = b := by cases a; cases b; simp at h1 h2; subst h1 h2; rfl

theorem bt_ext {x y : BitVec 64} (h : ∀ i, i < 64 → x.getLsbD i = y.getLsbD i) : x = y := BitVec.eq_of_getLsbD_eq (fun i hi => h i hi)
theorem zero_iff (x : BitVec 64) : x = 0#64 ↔ ∀ i, i < 64 → x.getLsbD i = false :=
  ⟨fun h i hi => by subst h; simp, fun h => bt_ext fun i hi => by rw [h i hi]; simp⟩

def exc (v m : BitVec 64) : T := ⟨v &&& ~~~m, m⟩
def mayT (t : T) : Prop := t.v &&& t.m = 0#64
theorem may_iff (t : T) : mayT t ↔ ∀ i, i < 64 → t.m.getLsbD i = true → t.v.getLsbD i = false := by
  unfold mayT
  rw [zero_iff]
  refine forall_congr' fun i => forall_congr' fun hi => ?_
  rw [BitVec.getLsbD_and]
  cases t.v.getLsbD i <;> cases t.m.getLsbD i <;> simp
theorem may_exc (v m : BitVec 64) : mayT (exc v m) := by
  rw [may_iff]
  intro i hi h
  unfold exc at h ⊢
  simp at h ⊢
  simp [h]
def ofT (v : BitVec 64) : T := ⟨v, 0#64⟩
def anyT : T := ⟨0#64, BitVec.allOnes 64⟩
theorem may_of (v : BitVec 64) : mayT (ofT v) := by unfold mayT ofT; simp
theorem may_any : mayT anyT := by unfold mayT anyT; simp
def inT (t : T) (x : BitVec 64) : Bool := ((x ^^^ t.v) &&& ~~~t.m) == 0#64
theorem in_iff (t : T) (x : BitVec 64) : inT t x = true ↔ ∀ i, i < 64 → t.m.getLsbD i = false → x.getLsbD i = t.v.getLsbD i := by
  unfold inT
  rw [beq_iff_eq, zero_iff]
  refine forall_congr' fun i => forall_congr' fun hi => ?_
  rw [BitVec.getLsbD_and, BitVec.getLsbD_xor, BitVec.getLsbD_not]
  simp only [hi, decide_true, Bool.true_and]
  cases t.v.getLsbD i <;> cases t.m.getLsbD i <;> cases x.getLsbD i <;> simp
def joinT (a b : T) : T := exc a.v (a.m ||| b.m ||| (a.v ^^^ b.v))
def sameT (a b : T) : Bool := a.v == b.v && a.m == b.m
theorem same_iff (a b : T) : sameT a b = true ↔ a = b := by
  unfold sameT
  rw [Bool.and_eq_true, beq_iff_eq, beq_iff_eq]
  exact ⟨fun h => T.eq h.1 h.2, fun h => by subst h; exact ⟨rfl, rfl⟩⟩
def withT (a b : T) : Bool := sameT (joinT a b) b
theorem with_iff (a b : T) (hb : mayT b) : withT a b = true ↔ ∀ i, i < 64 → b.m.getLsbD i = false → a.m.getLsbD i = false ∧ a.v.getLsbD i = b.v.getLsbD i := by
  rw [may_iff] at hb
  unfold withT
  rw [same_iff]
  constructor
  · intro h i hi h1
    have e1 := congrArg (fun t : T => t.m.getLsbD i) h
    unfold joinT exc at e1
    simp [h1] at e1
    exact e1
  · intro h
    refine T.eq (bt_ext fun i hi => ?_) (bt_ext fun i hi => ?_)
    · have h1 := h i hi
      have h2 := hb i hi
      unfold joinT exc
      simp only [BitVec.getLsbD_and, BitVec.getLsbD_or, BitVec.getLsbD_xor, BitVec.getLsbD_not, hi, decide_true, Bool.true_and]
      revert h1 h2
      cases a.v.getLsbD i <;> cases a.m.getLsbD i <;> cases b.v.getLsbD i <;> cases b.m.getLsbD i <;> simp
    · have h1 := h i hi
      unfold joinT exc
      simp only [BitVec.getLsbD_and, BitVec.getLsbD_or, BitVec.getLsbD_xor, BitVec.getLsbD_not, hi, decide_true, Bool.true_and]
      revert h1
      cases a.v.getLsbD i <;> cases a.m.getLsbD i <;> cases b.v.getLsbD i <;> cases b.m.getLsbD i <;> simp
def meetOk (a b : T) : Bool := ((a.v ^^^ b.v) &&& ~~~(a.m ||| b.m)) == 0#64
theorem meet_iff (a b : T) : meetOk a b = true ↔ ∀ i, i < 64 → a.m.getLsbD i = false → b.m.getLsbD i = false → a.v.getLsbD i = b.v.getLsbD i := by
  unfold meetOk
  rw [beq_iff_eq, zero_iff]
  refine forall_congr' fun i => forall_congr' fun hi => ?_
  rw [BitVec.getLsbD_and, BitVec.getLsbD_xor, BitVec.getLsbD_not, BitVec.getLsbD_or]
  simp only [hi, decide_true, Bool.true_and]
  cases a.v.getLsbD i <;> cases a.m.getLsbD i <;> cases b.v.getLsbD i <;> cases b.m.getLsbD i <;> simp
def meetT (a b : T) : T := if meetOk a b then exc (a.v ||| b.v) (a.m &&& b.m) else ⟨0#64, 0#64⟩

/-! ### Sums -/
/-- All bits of the one are bits of the other. -/
def le (x y : BitVec 64) : Prop := x &&& y = x
theorem le_iff (x y : BitVec 64) : le x y ↔ ∀ i, i < 64 → x.getLsbD i = true → y.getLsbD i = true := by
  unfold le
  constructor
  · intro h i hi hx
    have := congrArg (fun z : BitVec 64 => z.getLsbD i) h
    simp [hx] at this
    exact this
  · intro h
    refine bt_ext fun i hi => ?_
    have := h i hi
    rw [BitVec.getLsbD_and]
    revert this
    cases x.getLsbD i <;> cases y.getLsbD i <;> simp
theorem top_sum {t : T} (ht : mayT t) : t.v + t.m = t.v ||| t.m := BitVec.add_eq_or_of_and_eq_zero _ _ ht
/-! ### Differences: a number turned, and a sum -/
/-! ### Products -/
theorem may_mask (m : BitVec 64) : mayT ⟨0#64, m⟩ := by unfold mayT; simp
/-! ### Bit by bit -/
/-! ### Shifts and cuts: what moves bits -/
def cutT (a : T) (c : BitVec 64) : T := ⟨a.v &&& c, a.m &&& c⟩
/-! ### What holds of lattices -/
/-- A number of a tnum, by some bits. -/
def oneT (t : T) (v : BitVec 64) : BitVec 64 := t.v ||| (v &&& t.m)
theorem within_yes {a b : T} (hb : mayT b) (h : withT a b = true) {x : BitVec 64} (hx : inT a x = true) : inT b x = true := by
  rw [with_iff _ _ hb] at h
  rw [in_iff] at hx ⊢
  intro i hi h1
  rw [← (h i hi h1).2]
  exact hx i hi (h i hi h1).1
theorem meet_yes {a b : T} (h : meetOk a b = true) : meetT a b = exc (a.v ||| b.v) (a.m &&& b.m) := by unfold meetT; rw [h]; rfl
theorem meet_no {a b : T} (h : meetOk a b = false) : meetT a b = ⟨0#64, 0#64⟩ := by unfold meetT; rw [h]; rfl
theorem may_meet (a b : T) : mayT (meetT a b) := by unfold meetT; split; exact may_exc _ _; exact may_mask _
theorem meet_bits {a b : T} (ha : mayT a) (hb : mayT b) (h : meetOk a b = true) (i : Nat) (hi : i < 64) :
    (a.m.getLsbD i = false → (meetT a b).m.getLsbD i = false ∧ (meetT a b).v.getLsbD i = a.v.getLsbD i) ∧ (b.m.getLsbD i = false → (meetT a b).m.getLsbD i = false ∧ (meetT a b).v.getLsbD i = b.v.getLsbD i) ∧ ((meetT a b).m.getLsbD i = false → a.m.getLsbD i = false ∨ b.m.getLsbD i = false) := by
  have h1 := (meet_iff a b).1 h i hi
  have h2 := (may_iff a).1 ha i hi
  have h3 := (may_iff b).1 hb i hi
  rw [meet_yes h]
  unfold exc
  simp only [BitVec.getLsbD_or, BitVec.getLsbD_and, BitVec.getLsbD_not, hi, decide_true, Bool.true_and]
  revert h1 h2 h3
  cases a.v.getLsbD i <;> cases a.m.getLsbD i <;> cases b.v.getLsbD i <;> cases b.m.getLsbD i <;> simp
theorem meet_left {a b : T} (ha : mayT a) (hb : mayT b) (h : meetOk a b = true) : withT (meetT a b) a = true := by
  rw [with_iff _ _ ha]
  intro i hi h1
  exact (meet_bits ha hb h i hi).1 h1
theorem meet_right {a b : T} (ha : mayT a) (hb : mayT b) (h : meetOk a b = true) : withT (meetT a b) b = true := by
  rw [with_iff _ _ hb]
  intro i hi h1
  exact (meet_bits ha hb h i hi).2.1 h1
theorem meet_in {a b : T} (ha : mayT a) (hb : mayT b) (h : meetOk a b = true) (x : BitVec 64) : inT (meetT a b) x = (inT a x && inT b x) := by
  rw [Bool.eq_iff_iff, Bool.and_eq_true, in_iff, in_iff, in_iff]
  constructor
  · intro g
    refine ⟨fun i hi h1 => ?_, fun i hi h1 => ?_⟩
    · obtain ⟨k1, k2⟩ := (meet_bits ha hb h i hi).1 h1
      rw [g i hi k1, k2]
    · obtain ⟨k1, k2⟩ := (meet_bits ha hb h i hi).2.1 h1
      rw [g i hi k1, k2]
  · rintro ⟨g1, g2⟩ i hi h1
    rcases (meet_bits ha hb h i hi).2.2 h1 with h2 | h2
    · rw [g1 i hi h2, ((meet_bits ha hb h i hi).1 h2).2]
    · rw [g2 i hi h2, ((meet_bits ha hb h i hi).2.1 h2).2]
theorem meet_none {a b : T} (h : meetOk a b = false) (x : BitVec 64) (hx : inT a x = true) : inT b x = false := by
  cases h1 : inT b x with
  | false => rfl
  | true =>
    exfalso
    have : meetOk a b = true := by
      rw [meet_iff]
      rw [in_iff] at hx h1
      intro i hi g1 g2
      rw [← hx i hi g1, h1 i hi g2]
    rw [h] at this
    cases this
/-! ### Who knows more is told more -/
theorem with_self {a : T} (ha : mayT a) : withT a a = true := by
  rw [with_iff _ _ ha]; intro i hi h; exact ⟨h, rfl⟩
end Go.Proofs.YtcimihckhobniaaGreat.Tn
