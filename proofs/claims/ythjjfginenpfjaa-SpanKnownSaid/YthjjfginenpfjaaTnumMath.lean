/-
  Plain mathematics of layer 3: numbers of which some bits are known, as pairs of 64 bits: what sums, differences, products, bit by bit operations and shifts tell is sound, lattice laws, monotony. Nothing of the program is named here.
-/
import Derived.WalkKit
namespace Go.Proofs.Ythjjfginenpfjaa.Tn
set_option linter.unusedVariables false
set_option linter.unusedSimpArgs false

/-- A tnum: the bits that are not in the mask are the value's. -/
structure T where
  v : BitVec 64
  m : BitVec 64
theorem T.eq {a b : T} (h1 : a.v = b.v) (h2 : a.m = b.m) : a = b := by cases a; cases b; simp at h1 h2; subst h1 h2; rfl

abbrev bt (x : BitVec 64) (i : Nat) : Bool := x.getLsbD i
theorem bt_ext {x y : BitVec 64} (h : ∀ i, i < 64 → x.getLsbD i = y.getLsbD i) : x = y := BitVec.eq_of_getLsbD_eq (fun i hi => h i hi)
theorem zero_iff (x : BitVec 64) : x = 0#64 ↔ ∀ i, i < 64 → x.getLsbD i = false :=
  ⟨fun h i hi => by subst h; simp, fun h => bt_ext fun i hi => by rw [h i hi]; simp⟩

def exc (v m : BitVec 64) : T := ⟨v &&& ~~~m, m⟩
def mayT (t : T) : Prop := t.v &&& t.m = 0#64
theorem may_iff (t : T) : mayT t ↔ ∀ i, i < 64 → t.m.getLsbD i = true → t.v.getLsbD i = false := by
  unfold mayT
  rw [zero_iff]
  refine forall_congr' fun i => forall_congr' fun hi => ?_
  rw [BitVec.getLsbD_and]
  cases t.v.getLsbD i <;> cases t.m.getLsbD i <;> simp
theorem may_exc (v m : BitVec 64) : mayT (exc v m) := by
  rw [may_iff]
  intro i hi h
  unfold exc at h ⊢
  simp at h ⊢
  simp [h]
def ofT (v : BitVec 64) : T := ⟨v, 0#64⟩
def anyT : T := ⟨0#64, BitVec.allOnes 64⟩
theorem may_of (v : BitVec 64) : mayT (ofT v) := by unfold mayT ofT; simp
theorem may_any : mayT anyT := by unfold mayT anyT; simp
def inT (t : T) (x : BitVec 64) : Bool := ((x ^^^ t.v) &&& ~~~t.m) == 0#64
theorem in_iff (t : T) (x : BitVec 64) : inT t x = true ↔ ∀ i, i < 64 → t.m.getLsbD i = false → x.getLsbD i = t.v.getLsbD i := by
  unfold inT
  rw [beq_iff_eq, zero_iff]
  refine forall_congr' fun i => forall_congr' fun hi => ?_
  rw [BitVec.getLsbD_and, BitVec.getLsbD_xor, BitVec.getLsbD_not]
  simp only [hi, decide_true, Bool.true_and]
  cases t.v.getLsbD i <;> cases t.m.getLsbD i <;> cases x.getLsbD i <;> simp
def joinT (a b : T) : T := exc a.v (a.m ||| b.m ||| (a.v ^^^ b.v))
def sameT (a b : T) : Bool := a.v == b.v && a.m == b.m
theorem same_iff (a b : T) : sameT a b = true ↔ a = b := by
  unfold sameT
  rw [Bool.and_eq_true, beq_iff_eq, beq_iff_eq]
  exact ⟨fun h => T.eq h.1 h.2, fun h => by subst h; exact ⟨rfl, rfl⟩⟩
def withT (a b : T) : Bool := sameT (joinT a b) b
theorem with_iff (a b : T) (hb : mayT b) : withT a b = true ↔ ∀ i, i < 64 → b.m.getLsbD i = false → a.m.getLsbD i = false ∧ a.v.getLsbD i = b.v.getLsbD i := by
  rw [may_iff] at hb
  unfold withT
  rw [same_iff]
  constructor
  · intro h i hi h1
    have e1 := congrArg (fun t : T => t.m.getLsbD i) h
    unfold joinT exc at e1
    simp [h1] at e1
    exact e1
  · intro h
    refine T.eq (bt_ext fun i hi => ?_) (bt_ext fun i hi => ?_)
    · have h1 := h i hi
      have h2 := hb i hi
      unfold joinT exc
      simp only [BitVec.getLsbD_and, BitVec.getLsbD_or, BitVec.getLsbD_xor, BitVec.getLsbD_not, hi, decide_true, Bool.true_and]
      revert h1 h2
      cases a.v.getLsbD i <;> cases a.m.getLsbD i <;> cases b.v.getLsbD i <;> cases b.m.getLsbD i <;> simp
    · have h1 := h i hi
      unfold joinT exc
      simp only [BitVec.getLsbD_and, BitVec.getLsbD_or, BitVec.getLsbD_xor, BitVec.getLsbD_not, hi, decide_true, Bool.true_and]
      revert h1
      cases a.v.getLsbD i <;> cases a.m.getLsbD i <;> cases b.v.getLsbD i <;> cases b.m.getLsbD i <;> simp
def meetOk (a b : T) : Bool := ((a.v ^^^ b.v) &&& ~~~(a.m ||| b.m)) == 0#64
theorem meet_iff (a b : T) : meetOk a b = true ↔ ∀ i, i < 64 → a.m.getLsbD i = false → b.m.getLsbD i = false → a.v.getLsbD i = b.v.getLsbD i := by
  unfold meetOk
  rw [beq_iff_eq, zero_iff]
  refine forall_congr' fun i => forall_congr' fun hi => ?_
  rw [BitVec.getLsbD_and, BitVec.getLsbD_xor, BitVec.getLsbD_not, BitVec.getLsbD_or]
  simp only [hi, decide_true, Bool.true_and]
  cases a.v.getLsbD i <;> cases a.m.getLsbD i <;> cases b.v.getLsbD i <;> cases b.m.getLsbD i <;> simp
def meetT (a b : T) : T := if meetOk a b then exc (a.v ||| b.v) (a.m &&& b.m) else ⟨0#64, 0#64⟩

/-! ### Sums -/
def addT (a b : T) : T := exc (a.v + b.v) ((((a.v + b.v) + (a.m + b.m)) ^^^ (a.v + b.v)) ||| a.m ||| b.m)
def subT (a b : T) : T := exc (a.v - b.v) ((((a.v - b.v) + a.m) ^^^ ((a.v - b.v) - b.m)) ||| a.m ||| b.m)
/-- All bits of the one are bits of the other. -/
def le (x y : BitVec 64) : Prop := x &&& y = x
theorem le_iff (x y : BitVec 64) : le x y ↔ ∀ i, i < 64 → x.getLsbD i = true → y.getLsbD i = true := by
  unfold le
  constructor
  · intro h i hi hx
    have := congrArg (fun z : BitVec 64 => z.getLsbD i) h
    simp [hx] at this
    exact this
  · intro h
    refine bt_ext fun i hi => ?_
    have := h i hi
    rw [BitVec.getLsbD_and]
    revert this
    cases x.getLsbD i <;> cases y.getLsbD i <;> simp
theorem le_low {x y : BitVec 64} (h : le x y) (i : Nat) : x.toNat % 2 ^ i ≤ y.toNat % 2 ^ i := by
  have e : x.toNat % 2 ^ i = (x.toNat % 2 ^ i) &&& (y.toNat % 2 ^ i) := by
    rw [← Nat.and_mod_two_pow, ← BitVec.toNat_and]
    unfold le at h
    rw [h]
  rw [e]
  exact Nat.and_le_right
theorem carry_le {x y x' y' : BitVec 64} (h1 : le x x') (h2 : le y y') (i : Nat) (h : BitVec.carry i x y false = true) : BitVec.carry i x' y' false = true := by
  unfold BitVec.carry at h ⊢
  have a1 := le_low h1 i
  have a2 := le_low h2 i
  simp only [decide_eq_true_eq] at h ⊢
  omega
theorem in_le {t : T} {x : BitVec 64} (h : inT t x = true) (ht : mayT t) : le t.v x ∧ le x (t.v ||| t.m) := by
  rw [in_iff] at h
  rw [may_iff] at ht
  rw [le_iff, le_iff]
  refine ⟨fun i hi => ?_, fun i hi => ?_⟩
  · have h1 := h i hi
    have h2 := ht i hi
    revert h1 h2
    cases t.v.getLsbD i <;> cases t.m.getLsbD i <;> cases x.getLsbD i <;> simp
  · have h1 := h i hi
    have h2 := ht i hi
    rw [BitVec.getLsbD_or]
    revert h1 h2
    cases t.v.getLsbD i <;> cases t.m.getLsbD i <;> cases x.getLsbD i <;> simp
theorem in_low (t : T) : inT t t.v = true := by rw [in_iff]; intro i hi _; rfl
theorem in_top (t : T) : inT t (t.v ||| t.m) = true := by
  rw [in_iff]
  intro i hi h
  simp [h]
theorem top_sum {t : T} (ht : mayT t) : t.v + t.m = t.v ||| t.m := BitVec.add_eq_or_of_and_eq_zero _ _ ht
theorem sum_shape {a b : T} (ha : mayT a) (hb : mayT b) : (a.v + b.v) + (a.m + b.m) = (a.v ||| a.m) + (b.v ||| b.m) := by
  rw [← top_sum ha, ← top_sum hb]
  ac_rfl
/-- Where the mask of the sum has no bit, all sums of numbers have the bit of the least. -/
theorem sum_bit {a b : T} (ha : mayT a) (hb : mayT b) {x y : BitVec 64} (hx : inT a x = true) (hy : inT b y = true) (i : Nat) (hi : i < 64)
    (h : (addT a b).m.getLsbD i = false) : (x + y).getLsbD i = (a.v + b.v).getLsbD i := by
  have h0 : (((a.v + b.v) + (a.m + b.m)) ^^^ (a.v + b.v)).getLsbD i = false ∧ a.m.getLsbD i = false ∧ b.m.getLsbD i = false := by
    unfold addT exc at h
    simp only [BitVec.getLsbD_or, Bool.or_eq_false_iff] at h
    exact ⟨h.1.1, h.1.2, h.2⟩
  obtain ⟨h1, h2, h3⟩ := h0
  rw [sum_shape ha hb, BitVec.getLsbD_xor, BitVec.getLsbD_add hi, BitVec.getLsbD_add hi, BitVec.getLsbD_or, BitVec.getLsbD_or, h2, h3] at h1
  obtain ⟨l1, l2⟩ := in_le hx ha
  obtain ⟨l3, l4⟩ := in_le hy hb
  have c1 := carry_le l1 l3 i
  have c2 := carry_le l2 l4 i
  have ex := (in_iff a x).1 hx i hi h2
  have ey := (in_iff b y).1 hy i hi h3
  rw [BitVec.getLsbD_add hi, BitVec.getLsbD_add hi, ex, ey]
  revert h1 c1 c2
  generalize BitVec.carry i a.v b.v false = p
  generalize BitVec.carry i x y false = q
  generalize BitVec.carry i (a.v ||| a.m) (b.v ||| b.m) false = r
  generalize a.v.getLsbD i = s
  generalize b.v.getLsbD i = t
  revert p q r s t
  decide
theorem in_exc {v m x : BitVec 64} (h : ∀ i, i < 64 → m.getLsbD i = false → x.getLsbD i = v.getLsbD i) : inT (exc v m) x = true := by
  rw [in_iff]
  intro i hi h1
  have h1' : m.getLsbD i = false := h1
  unfold exc
  simp only [BitVec.getLsbD_and, BitVec.getLsbD_not, hi, h1', decide_true, Bool.true_and, Bool.not_false, Bool.and_true]
  exact h i hi h1'
theorem add_sound {a b : T} (ha : mayT a) (hb : mayT b) {x y : BitVec 64} (hx : inT a x = true) (hy : inT b y = true) : inT (addT a b) (x + y) = true :=
  in_exc fun i hi h => sum_bit ha hb hx hy i hi h
/-! ### Differences: a number turned, and a sum -/
def notT (a : T) : T := ⟨~~~(a.v ||| a.m), a.m⟩
theorem may_not (a : T) : mayT (notT a) := by
  rw [may_iff]
  intro i hi h
  have h' : a.m.getLsbD i = true := h
  unfold notT
  simp [h']
theorem in_not {a : T} {x : BitVec 64} (h : inT a x = true) : inT (notT a) (~~~x) = true := by
  rw [in_iff] at h ⊢
  intro i hi h1
  have h1' : a.m.getLsbD i = false := h1
  have := h i hi h1'
  unfold notT
  simp [h1', this]
theorem not_add (x y : BitVec 64) : ~~~x + y = ~~~(x - y) := by
  apply BitVec.eq_of_toNat_eq
  simp only [BitVec.toNat_add, BitVec.toNat_not, BitVec.toNat_sub]
  have := x.isLt
  have := y.isLt
  omega
theorem sub_mask {a b : T} (ha : mayT a) : (addT (notT a) b).m = (subT a b).m := by
  have e1 : (notT a).v + b.v = ~~~((a.v - b.v) + a.m) := by
    unfold notT
    rw [← top_sum ha, not_add]
    congr 1
    apply BitVec.eq_of_toNat_eq
    simp only [BitVec.toNat_add, BitVec.toNat_sub]
    have := a.v.isLt
    have := a.m.isLt
    have := b.v.isLt
    omega
  have e2 : ((notT a).v + b.v) + (a.m + b.m) = ~~~((a.v - b.v) - b.m) := by
    rw [e1]
    apply BitVec.eq_of_toNat_eq
    simp only [BitVec.toNat_add, BitVec.toNat_not, BitVec.toNat_sub]
    have := a.v.isLt
    have := a.m.isLt
    have := b.v.isLt
    have := b.m.isLt
    omega
  show (((notT a).v + b.v) + (a.m + b.m)) ^^^ ((notT a).v + b.v) ||| a.m ||| b.m = ((a.v - b.v) + a.m) ^^^ ((a.v - b.v) - b.m) ||| a.m ||| b.m
  rw [e2, e1]
  refine bt_ext fun i hi => ?_
  simp only [BitVec.getLsbD_or, BitVec.getLsbD_xor, BitVec.getLsbD_not, hi, decide_true, Bool.true_and]
  generalize (a.v - b.v + a.m).getLsbD i = s
  generalize (a.v - b.v - b.m).getLsbD i = t
  cases s <;> cases t <;> rfl
theorem dif_bit {a b : T} (ha : mayT a) (hb : mayT b) {x y : BitVec 64} (hx : inT a x = true) (hy : inT b y = true) (i : Nat) (hi : i < 64)
    (h : (subT a b).m.getLsbD i = false) : (x - y).getLsbD i = (a.v - b.v).getLsbD i := by
  rw [← sub_mask ha] at h
  have h1 := sum_bit (may_not a) hb (in_not hx) hy i hi h
  have h2 := sum_bit (may_not a) hb (in_not (in_low a)) (in_low b) i hi h
  rw [← h2, not_add, not_add, BitVec.getLsbD_not, BitVec.getLsbD_not] at h1
  simp only [hi, decide_true, Bool.true_and] at h1
  revert h1
  generalize (x - y).getLsbD i = s
  generalize (a.v - b.v).getLsbD i = t
  cases s <;> cases t <;> simp
theorem sub_sound {a b : T} (ha : mayT a) (hb : mayT b) {x y : BitVec 64} (hx : inT a x = true) (hy : inT b y = true) : inT (subT a b) (x - y) = true :=
  in_exc fun i hi h => dif_bit ha hb hx hy i hi h
/-! ### Products -/
def mulS (a b : T) : Nat → T
  | 0 => ⟨0#64, 0#64⟩
  | k + 1 => if a.v.getLsbD k then addT (mulS a b k) ⟨0#64, b.m <<< k⟩ else if a.m.getLsbD k then addT (mulS a b k) ⟨0#64, (b.v ||| b.m) <<< k⟩ else mulS a b k
def mulT (a b : T) : T := addT (ofT (a.v * b.v)) (mulS a b 64)
theorem may_add (a b : T) : mayT (addT a b) := may_exc _ _
theorem may_sub (a b : T) : mayT (subT a b) := may_exc _ _
theorem may_mask (m : BitVec 64) : mayT ⟨0#64, m⟩ := by unfold mayT; simp
theorem may_mulS (a b : T) (k : Nat) : mayT (mulS a b k) := by
  induction k with
  | zero => exact may_mask _
  | succ k ih =>
    unfold mulS
    split
    · exact may_add _ _
    · split
      · exact may_add _ _
      · exact ih
def ms (y x : BitVec 64) : Nat → BitVec 64
  | 0 => 0#64
  | k + 1 => ms y x k + if x.getLsbD k then y <<< k else 0#64
theorem ms_rec (y x : BitVec 64) (k : Nat) : ms y x (k + 1) = y.mulRec x k := by
  induction k with
  | zero => unfold ms ms; rw [BitVec.mulRec_zero_eq]; simp
  | succ k ih => rw [BitVec.mulRec_succ_eq, ← ih]; rfl
theorem ms_all (y x : BitVec 64) : ms y x 64 = x * y := by
  have h : ms y x 65 = ms y x 64 := by
    show ms y x 64 + (if x.getLsbD 64 then y <<< 64 else 0#64) = _
    simp
  rw [← h, ms_rec, ← BitVec.mul_eq_mulRec, BitVec.mul_comm]
theorem in_mask {m x : BitVec 64} (h : le x m) : inT ⟨0#64, m⟩ x = true := by
  rw [le_iff] at h
  rw [in_iff]
  intro i hi h1
  have := h i hi
  have h1' : m.getLsbD i = false := h1
  simp only [h1'] at this
  simpa using this
theorem le_shl {x y : BitVec 64} (h : le x y) (k : Nat) : le (x <<< k) (y <<< k) := by
  rw [le_iff] at h ⊢
  intro i hi
  simp only [BitVec.getLsbD_shiftLeft, hi, decide_true, Bool.true_and, Bool.and_eq_true]
  rintro ⟨h1, h2⟩
  exact ⟨h1, h _ (by omega) h2⟩
theorem le_zero (x : BitVec 64) : le 0#64 x := by unfold le; simp
/-- What is left of a number of a tnum when the value is taken away. -/
theorem rest_of {t : T} {x : BitVec 64} (hx : inT t x = true) (ht : mayT t) : ∃ p, le p t.m ∧ t.v &&& p = 0#64 ∧ x = t.v + p := by
  refine ⟨x &&& t.m, ?_, ?_, ?_⟩
  · unfold le; rw [BitVec.and_assoc, BitVec.and_self]
  · unfold mayT at ht
    rw [BitVec.and_comm x, ← BitVec.and_assoc, ht]; simp
  · have h0 : t.v &&& (x &&& t.m) = 0#64 := by
      unfold mayT at ht
      rw [BitVec.and_comm x, ← BitVec.and_assoc, ht]; simp
    rw [BitVec.add_eq_or_of_and_eq_zero _ _ h0]
    rw [in_iff] at hx
    rw [may_iff] at ht
    refine bt_ext fun i hi => ?_
    have h1 := hx i hi
    have h2 := ht i hi
    simp only [BitVec.getLsbD_or, BitVec.getLsbD_and]
    revert h1 h2
    cases t.v.getLsbD i <;> cases t.m.getLsbD i <;> cases x.getLsbD i <;> simp
theorem mul_acc {a b : T} (ha : mayT a) (hb : mayT b) {p q y : BitVec 64} (hp : le p a.m) (hap : a.v &&& p = 0#64) (hq : le q b.m) (hy : le y (b.v ||| b.m)) (k : Nat) (hk : k ≤ 64) :
    inT (mulS a b k) (ms q a.v k + ms y p k) = true := by
  induction k with
  | zero => exact in_mask (by unfold le ms; simp)
  | succ k ih =>
    have ih := ih (by omega)
    have hpk := (le_iff p a.m).1 hp k (by omega)
    have hak := (zero_iff (a.v &&& p)).1 hap k (by omega)
    rw [BitVec.getLsbD_and] at hak
    unfold mulS ms
    cases h1 : a.v.getLsbD k
    · simp only [Bool.false_eq_true, if_false, BitVec.add_zero]
      cases h2 : a.m.getLsbD k
      · have h3 : p.getLsbD k = false := by
          cases h : p.getLsbD k
          · rfl
          · rw [h2] at hpk; exact absurd (hpk h) (by decide)
        simp only [h3, Bool.false_eq_true, if_false, BitVec.add_zero]
        exact ih
      · simp only [if_true]
        rw [← BitVec.add_assoc]
        refine add_sound (may_mulS _ _ _) (may_mask _) ih (in_mask ?_)
        cases p.getLsbD k
        · simp only [Bool.false_eq_true, if_false]; exact le_zero _
        · simp only [if_true]; exact le_shl hy k
    · have h3 : p.getLsbD k = false := by
        rw [h1] at hak
        simpa using hak
      simp only [h3, Bool.false_eq_true, if_false, BitVec.add_zero, if_true]
      rw [show ms q a.v k + q <<< k + ms y p k = (ms q a.v k + ms y p k) + q <<< k by ac_rfl]
      exact add_sound (may_mulS _ _ _) (may_mask _) ih (in_mask (le_shl hq k))
theorem mul_sound {a b : T} (ha : mayT a) (hb : mayT b) {x y : BitVec 64} (hx : inT a x = true) (hy : inT b y = true) : inT (mulT a b) (x * y) = true := by
  obtain ⟨p, hp, hap, ex⟩ := rest_of hx ha
  obtain ⟨q, hq, hbq, ey⟩ := rest_of hy hb
  have hle := (in_le hy hb).2
  have h := mul_acc ha hb hp hap hq hle 64 (Nat.le_refl _)
  rw [ms_all, ms_all] at h
  have e : x * y = a.v * b.v + (a.v * q + p * y) := by
    rw [ex, ← BitVec.add_assoc, ← BitVec.mul_add, ← ey, BitVec.add_mul]
  rw [e]
  exact add_sound (may_of _) (may_mulS _ _ _) (in_low _) h
theorem mulS_alone (v w : BitVec 64) (k : Nat) : mulS (ofT v) (ofT w) k = ⟨0#64, 0#64⟩ := by
  induction k with
  | zero => rfl
  | succ k ih =>
    unfold mulS
    rw [ih]
    have e : addT ⟨0#64, 0#64⟩ ⟨0#64, (ofT w).m <<< k⟩ = ⟨0#64, 0#64⟩ := by unfold addT exc ofT; simp
    have e2 : (ofT v).m.getLsbD k = false := by unfold ofT; simp
    rw [e, e2]
    simp
/-- From the place on where nothing is set, the sum stays. -/
theorem mulS_stays (a b : T) (k : Nat) (h : ∀ j, k ≤ j → a.v.getLsbD j = false ∧ a.m.getLsbD j = false) (n : Nat) : mulS a b (k + n) = mulS a b k := by
  induction n with
  | zero => rfl
  | succ n ih =>
    obtain ⟨h1, h2⟩ := h (k + n) (by omega)
    rw [← ih]
    show (if a.v.getLsbD (k + n) then addT (mulS a b (k + n)) ⟨0#64, b.m <<< (k + n)⟩ else if a.m.getLsbD (k + n) then addT (mulS a b (k + n)) ⟨0#64, (b.v ||| b.m) <<< (k + n)⟩ else mulS a b (k + n)) = _
    rw [h1, h2]
    rfl
theorem and_ones (x : BitVec 64) : x &&& 18446744073709551615#64 = x := BitVec.and_allOnes
theorem add_alone (v w : BitVec 64) : addT (ofT v) (ofT w) = ofT (v + w) := by unfold addT exc ofT; simp [and_ones]
theorem sub_alone (v w : BitVec 64) : subT (ofT v) (ofT w) = ofT (v - w) := by unfold subT exc ofT; simp [and_ones]
theorem mul_alone (v w : BitVec 64) : mulT (ofT v) (ofT w) = ofT (v * w) := by
  unfold mulT
  rw [mulS_alone]
  exact (add_alone _ _).trans (by simp [ofT])
/-! ### Bit by bit -/
def andT (a b : T) : T := ⟨a.v &&& b.v, (a.v ||| a.m) &&& (b.v ||| b.m) &&& ~~~(a.v &&& b.v)⟩
def orT (a b : T) : T := ⟨a.v ||| b.v, (a.m ||| b.m) &&& ~~~(a.v ||| b.v)⟩
def xorT (a b : T) : T := exc (a.v ^^^ b.v) (a.m ||| b.m)
theorem may_and (a b : T) : mayT (andT a b) := by
  rw [may_iff]; intro i hi; unfold andT
  simp only [BitVec.getLsbD_or, BitVec.getLsbD_and, BitVec.getLsbD_not, hi, decide_true, Bool.true_and]
  cases a.v.getLsbD i <;> cases b.v.getLsbD i <;> simp
theorem may_or (a b : T) : mayT (orT a b) := by
  rw [may_iff]; intro i hi; unfold orT
  simp only [BitVec.getLsbD_or, BitVec.getLsbD_and, BitVec.getLsbD_not, hi, decide_true, Bool.true_and]
  cases a.v.getLsbD i <;> cases b.v.getLsbD i <;> simp
theorem may_xor (a b : T) : mayT (xorT a b) := may_exc _ _
theorem and_sound {a b : T} {x y : BitVec 64} (ha : mayT a) (hb : mayT b) (hx : inT a x = true) (hy : inT b y = true) : inT (andT a b) (x &&& y) = true := by
  rw [in_iff] at hx hy ⊢
  rw [may_iff] at ha hb
  intro i hi
  have h1 := hx i hi; have h2 := hy i hi; have h3 := ha i hi; have h4 := hb i hi
  unfold andT
  simp only [BitVec.getLsbD_or, BitVec.getLsbD_and, BitVec.getLsbD_not, hi, decide_true, Bool.true_and]
  revert h1 h2 h3 h4
  cases a.v.getLsbD i <;> cases b.v.getLsbD i <;> cases a.m.getLsbD i <;> cases b.m.getLsbD i <;> cases x.getLsbD i <;> cases y.getLsbD i <;> decide
theorem or_sound {a b : T} {x y : BitVec 64} (ha : mayT a) (hb : mayT b) (hx : inT a x = true) (hy : inT b y = true) : inT (orT a b) (x ||| y) = true := by
  rw [in_iff] at hx hy ⊢
  rw [may_iff] at ha hb
  intro i hi
  have h1 := hx i hi; have h2 := hy i hi; have h3 := ha i hi; have h4 := hb i hi
  unfold orT
  simp only [BitVec.getLsbD_or, BitVec.getLsbD_and, BitVec.getLsbD_not, hi, decide_true, Bool.true_and]
  revert h1 h2 h3 h4
  cases a.v.getLsbD i <;> cases b.v.getLsbD i <;> cases a.m.getLsbD i <;> cases b.m.getLsbD i <;> cases x.getLsbD i <;> cases y.getLsbD i <;> decide
theorem xor_sound {a b : T} {x y : BitVec 64} (hx : inT a x = true) (hy : inT b y = true) : inT (xorT a b) (x ^^^ y) = true := by
  refine in_exc fun i hi h => ?_
  rw [in_iff] at hx hy
  rw [BitVec.getLsbD_or, Bool.or_eq_false_iff] at h
  rw [BitVec.getLsbD_xor, BitVec.getLsbD_xor, hx i hi h.1, hy i hi h.2]
/-! ### Shifts and cuts: what moves bits -/
def lshT (a : T) (k : Nat) : T := ⟨a.v <<< k, a.m <<< k⟩
def rshT (a : T) (k : Nat) : T := ⟨a.v >>> k, a.m >>> k⟩
def arT (a : T) (k : Nat) : T := ⟨a.v.sshiftRight k, a.m.sshiftRight k⟩
def dn32 (x : BitVec 64) (k : Nat) : BitVec 64 := ((x.setWidth 32).sshiftRight k).setWidth 64
def ar32T (a : T) (k : Nat) : T := ⟨dn32 a.v k, dn32 a.m k⟩
def cutT (a : T) (c : BitVec 64) : T := ⟨a.v &&& c, a.m &&& c⟩
/-- Bits that are moved, each from one place, or are nought. -/
theorem may_moved {t u : T} (f : Nat → Option Nat) (ht : mayT t) (hf : ∀ i j, i < 64 → f i = some j → j < 64)
    (hv : ∀ i, i < 64 → u.v.getLsbD i = match f i with | some j => t.v.getLsbD j | none => false)
    (hm : ∀ i, i < 64 → u.m.getLsbD i = match f i with | some j => t.m.getLsbD j | none => false) : mayT u := by
  rw [may_iff] at ht ⊢
  intro i hi
  rw [hv i hi, hm i hi]
  cases h : f i with
  | none => simp
  | some j => exact ht j (hf i j hi h)
theorem in_moved {t u : T} {x y : BitVec 64} (f : Nat → Option Nat) (hf : ∀ i j, i < 64 → f i = some j → j < 64)
    (hv : ∀ i, i < 64 → u.v.getLsbD i = match f i with | some j => t.v.getLsbD j | none => false)
    (hm : ∀ i, i < 64 → u.m.getLsbD i = match f i with | some j => t.m.getLsbD j | none => false)
    (hy : ∀ i, i < 64 → y.getLsbD i = match f i with | some j => x.getLsbD j | none => false) (hx : inT t x = true) : inT u y = true := by
  rw [in_iff] at hx ⊢
  intro i hi
  rw [hv i hi, hm i hi, hy i hi]
  cases h : f i with
  | none => simp
  | some j => exact hx j (hf i j hi h)
theorem with_moved {t t' u u' : T} (f : Nat → Option Nat) (hf : ∀ i j, i < 64 → f i = some j → j < 64)
    (hv : ∀ i, i < 64 → u.v.getLsbD i = match f i with | some j => t.v.getLsbD j | none => false)
    (hm : ∀ i, i < 64 → u.m.getLsbD i = match f i with | some j => t.m.getLsbD j | none => false)
    (hv' : ∀ i, i < 64 → u'.v.getLsbD i = match f i with | some j => t'.v.getLsbD j | none => false)
    (hm' : ∀ i, i < 64 → u'.m.getLsbD i = match f i with | some j => t'.m.getLsbD j | none => false)
    (hu : mayT u') (ht : mayT t') (hw : withT t t' = true) : withT u u' = true := by
  rw [with_iff _ _ ht] at hw
  rw [with_iff _ _ hu]
  intro i hi
  rw [hv i hi, hm i hi, hv' i hi, hm' i hi]
  cases h : f i with
  | none => simp
  | some j => exact hw j (hf i j hi h)
def fL (k i : Nat) : Option Nat := if k ≤ i then some (i - k) else none
def fR (k i : Nat) : Option Nat := if k + i < 64 then some (k + i) else none
def fA (k i : Nat) : Option Nat := if k + i < 64 then some (k + i) else some 63
def fA32 (k i : Nat) : Option Nat := if i < 32 then (if k + i < 32 then some (k + i) else some 31) else none
theorem fL_lt (k i j : Nat) (hi : i < 64) (h : fL k i = some j) : j < 64 := by
  unfold fL at h; split at h
  · injection h; omega
  · cases h
theorem fR_lt (k i j : Nat) (hi : i < 64) (h : fR k i = some j) : j < 64 := by
  unfold fR at h; split at h
  · injection h; omega
  · cases h
theorem fA_lt (k i j : Nat) (hi : i < 64) (h : fA k i = some j) : j < 64 := by
  unfold fA at h; split at h <;> (injection h; omega)
theorem fA32_lt (k i j : Nat) (hi : i < 64) (h : fA32 k i = some j) : j < 64 := by
  unfold fA32 at h; split at h
  · split at h <;> (injection h; omega)
  · cases h
theorem bL (x : BitVec 64) (k i : Nat) (hi : i < 64) : (x <<< k).getLsbD i = match fL k i with | some j => x.getLsbD j | none => false := by
  unfold fL
  rw [BitVec.getLsbD_shiftLeft]
  by_cases h : k ≤ i
  · rw [if_pos h]; simp [hi]; omega
  · rw [if_neg h]; simp [hi]; intro h2; omega
theorem bR (x : BitVec 64) (k i : Nat) (hi : i < 64) : (x >>> k).getLsbD i = match fR k i with | some j => x.getLsbD j | none => false := by
  unfold fR
  rw [BitVec.getLsbD_ushiftRight]
  by_cases h : k + i < 64
  · rw [if_pos h]
  · rw [if_neg h]; exact BitVec.getLsbD_of_ge _ _ (by omega)
theorem bA (x : BitVec 64) (k i : Nat) (hi : i < 64) : (x.sshiftRight k).getLsbD i = match fA k i with | some j => x.getLsbD j | none => false := by
  unfold fA
  rw [BitVec.getLsbD_sshiftRight]
  by_cases h : k + i < 64
  · rw [if_pos h]; simp [h]; omega
  · rw [if_neg h]; simp [h, BitVec.msb_eq_getLsbD_last]; omega
theorem bA32 (x : BitVec 64) (k i : Nat) (hi : i < 64) : (dn32 x k).getLsbD i = match fA32 k i with | some j => x.getLsbD j | none => false := by
  unfold fA32 dn32
  rw [BitVec.getLsbD_setWidth]
  by_cases h0 : i < 32
  · rw [if_pos h0, BitVec.getLsbD_sshiftRight]
    by_cases h : k + i < 32
    · rw [if_pos h]; simp [h, hi, BitVec.getLsbD_setWidth]; omega
    · rw [if_neg h]; simp [h, hi, BitVec.msb_eq_getLsbD_last, BitVec.getLsbD_setWidth]; omega
  · rw [if_neg h0]
    simp only [hi, decide_true, Bool.true_and]
    exact BitVec.getLsbD_of_ge _ _ (by omega)
theorem may_lsh {a : T} (ha : mayT a) (k : Nat) : mayT (lshT a k) := may_moved (fL k) ha (fL_lt k) (fun i hi => bL _ _ i hi) (fun i hi => bL _ _ i hi)
theorem may_rsh {a : T} (ha : mayT a) (k : Nat) : mayT (rshT a k) := may_moved (fR k) ha (fR_lt k) (fun i hi => bR _ _ i hi) (fun i hi => bR _ _ i hi)
theorem may_ar {a : T} (ha : mayT a) (k : Nat) : mayT (arT a k) := may_moved (fA k) ha (fA_lt k) (fun i hi => bA _ _ i hi) (fun i hi => bA _ _ i hi)
theorem may_ar32 {a : T} (ha : mayT a) (k : Nat) : mayT (ar32T a k) := may_moved (fA32 k) ha (fA32_lt k) (fun i hi => bA32 _ _ i hi) (fun i hi => bA32 _ _ i hi)
theorem lsh_sound {a : T} {x : BitVec 64} (k : Nat) (hx : inT a x = true) : inT (lshT a k) (x <<< k) = true := in_moved (fL k) (fL_lt k) (fun i hi => bL _ _ i hi) (fun i hi => bL _ _ i hi) (fun i hi => bL _ _ i hi) hx
theorem rsh_sound {a : T} {x : BitVec 64} (k : Nat) (hx : inT a x = true) : inT (rshT a k) (x >>> k) = true := in_moved (fR k) (fR_lt k) (fun i hi => bR _ _ i hi) (fun i hi => bR _ _ i hi) (fun i hi => bR _ _ i hi) hx
theorem ar_sound {a : T} {x : BitVec 64} (k : Nat) (hx : inT a x = true) : inT (arT a k) (x.sshiftRight k) = true := in_moved (fA k) (fA_lt k) (fun i hi => bA _ _ i hi) (fun i hi => bA _ _ i hi) (fun i hi => bA _ _ i hi) hx
theorem ar32_sound {a : T} {x : BitVec 64} (k : Nat) (hx : inT a x = true) : inT (ar32T a k) (dn32 x k) = true := in_moved (fA32 k) (fA32_lt k) (fun i hi => bA32 _ _ i hi) (fun i hi => bA32 _ _ i hi) (fun i hi => bA32 _ _ i hi) hx
theorem with_lsh {a b : T} (k : Nat) (hb : mayT b) (h : withT a b = true) : withT (lshT a k) (lshT b k) = true := with_moved (fL k) (fL_lt k) (fun i hi => bL _ _ i hi) (fun i hi => bL _ _ i hi) (fun i hi => bL _ _ i hi) (fun i hi => bL _ _ i hi) (may_lsh hb k) hb h
theorem with_ar {a b : T} (k : Nat) (hb : mayT b) (h : withT a b = true) : withT (arT a k) (arT b k) = true := with_moved (fA k) (fA_lt k) (fun i hi => bA _ _ i hi) (fun i hi => bA _ _ i hi) (fun i hi => bA _ _ i hi) (fun i hi => bA _ _ i hi) (may_ar hb k) hb h
theorem may_cut {a : T} (ha : mayT a) (c : BitVec 64) : mayT (cutT a c) := by
  rw [may_iff] at ha ⊢
  intro i hi
  have := ha i hi
  unfold cutT
  simp only [BitVec.getLsbD_and]
  revert this
  cases a.v.getLsbD i <;> cases a.m.getLsbD i <;> cases c.getLsbD i <;> simp
theorem cut_sound {a : T} {x : BitVec 64} (c : BitVec 64) (hx : inT a x = true) : inT (cutT a c) (x &&& c) = true := by
  rw [in_iff] at hx ⊢
  intro i hi
  have := hx i hi
  unfold cutT
  simp only [BitVec.getLsbD_and]
  revert this
  cases a.v.getLsbD i <;> cases a.m.getLsbD i <;> cases c.getLsbD i <;> simp
/-! ### What holds of lattices -/
/-- A number of a tnum, by some bits. -/
def oneT (t : T) (v : BitVec 64) : BitVec 64 := t.v ||| (v &&& t.m)
theorem in_one (t : T) (v : BitVec 64) : inT t (oneT t v) = true := by
  rw [in_iff]
  intro i hi h
  unfold oneT
  simp [h]
theorem within_yes {a b : T} (hb : mayT b) (h : withT a b = true) {x : BitVec 64} (hx : inT a x = true) : inT b x = true := by
  rw [with_iff _ _ hb] at h
  rw [in_iff] at hx ⊢
  intro i hi h1
  rw [← (h i hi h1).2]
  exact hx i hi (h i hi h1).1
theorem within_no {a b : T} (ha : mayT a) (hb : mayT b) (h : withT a b = false) : inT b a.v = false ∨ inT b (oneT a (~~~b.m)) = false := by
  cases h1 : inT b a.v with
  | false => exact .inl rfl
  | true =>
    refine .inr ?_
    cases h2 : inT b (oneT a (~~~b.m)) with
    | false => rfl
    | true =>
      exfalso
      rw [in_iff] at h1 h2
      rw [may_iff] at ha
      have : withT a b = true := by
        rw [with_iff _ _ hb]
        intro i hi h3
        have g1 := h1 i hi h3
        have g2 := h2 i hi h3
        have g3 := ha i hi
        unfold oneT at g2
        simp only [BitVec.getLsbD_or, BitVec.getLsbD_and, BitVec.getLsbD_not, hi, decide_true, Bool.true_and, h3] at g2
        revert g1 g2 g3
        cases a.v.getLsbD i <;> cases a.m.getLsbD i <;> cases b.v.getLsbD i <;> simp
      rw [h] at this
      cases this
theorem may_join (a b : T) : mayT (joinT a b) := may_exc _ _
theorem join_bits (a b : T) (i : Nat) (hi : i < 64) : (joinT a b).m.getLsbD i = false → a.m.getLsbD i = false ∧ b.m.getLsbD i = false ∧ a.v.getLsbD i = b.v.getLsbD i ∧ (joinT a b).v.getLsbD i = a.v.getLsbD i := by
  unfold joinT exc
  simp only [BitVec.getLsbD_or, BitVec.getLsbD_xor, BitVec.getLsbD_and, BitVec.getLsbD_not, hi, decide_true, Bool.true_and]
  cases a.v.getLsbD i <;> cases a.m.getLsbD i <;> cases b.v.getLsbD i <;> cases b.m.getLsbD i <;> simp
theorem join_bits' (a b : T) (i : Nat) (hi : i < 64) : a.m.getLsbD i = false → b.m.getLsbD i = false → a.v.getLsbD i = b.v.getLsbD i → (joinT a b).m.getLsbD i = false ∧ (joinT a b).v.getLsbD i = a.v.getLsbD i := by
  unfold joinT exc
  simp only [BitVec.getLsbD_or, BitVec.getLsbD_xor, BitVec.getLsbD_and, BitVec.getLsbD_not, hi, decide_true, Bool.true_and]
  cases a.v.getLsbD i <;> cases a.m.getLsbD i <;> cases b.v.getLsbD i <;> cases b.m.getLsbD i <;> simp
theorem join_left (a b : T) : withT a (joinT a b) = true := by
  rw [with_iff _ _ (may_join _ _)]
  intro i hi h
  obtain ⟨h1, h2, h3, h4⟩ := join_bits a b i hi h
  exact ⟨h1, h4.symm⟩
theorem join_right (a b : T) : withT b (joinT a b) = true := by
  rw [with_iff _ _ (may_join _ _)]
  intro i hi h
  obtain ⟨h1, h2, h3, h4⟩ := join_bits a b i hi h
  exact ⟨h2, by rw [h4, h3]⟩
theorem join_least {a b c : T} (hc : mayT c) (h1 : withT a c = true) (h2 : withT b c = true) : withT (joinT a b) c = true := by
  rw [with_iff _ _ hc] at h1 h2 ⊢
  intro i hi h
  obtain ⟨g1, g2⟩ := h1 i hi h
  obtain ⟨g3, g4⟩ := h2 i hi h
  obtain ⟨g5, g6⟩ := join_bits' a b i hi g1 g3 (g2.trans g4.symm)
  exact ⟨g5, g6.trans g2⟩
theorem meet_yes {a b : T} (h : meetOk a b = true) : meetT a b = exc (a.v ||| b.v) (a.m &&& b.m) := by unfold meetT; rw [h]; rfl
theorem meet_no {a b : T} (h : meetOk a b = false) : meetT a b = ⟨0#64, 0#64⟩ := by unfold meetT; rw [h]; rfl
theorem may_meet (a b : T) : mayT (meetT a b) := by unfold meetT; split; exact may_exc _ _; exact may_mask _
theorem meet_bits {a b : T} (ha : mayT a) (hb : mayT b) (h : meetOk a b = true) (i : Nat) (hi : i < 64) :
    (a.m.getLsbD i = false → (meetT a b).m.getLsbD i = false ∧ (meetT a b).v.getLsbD i = a.v.getLsbD i) ∧ (b.m.getLsbD i = false → (meetT a b).m.getLsbD i = false ∧ (meetT a b).v.getLsbD i = b.v.getLsbD i) ∧ ((meetT a b).m.getLsbD i = false → a.m.getLsbD i = false ∨ b.m.getLsbD i = false) := by
  have h1 := (meet_iff a b).1 h i hi
  have h2 := (may_iff a).1 ha i hi
  have h3 := (may_iff b).1 hb i hi
  rw [meet_yes h]
  unfold exc
  simp only [BitVec.getLsbD_or, BitVec.getLsbD_and, BitVec.getLsbD_not, hi, decide_true, Bool.true_and]
  revert h1 h2 h3
  cases a.v.getLsbD i <;> cases a.m.getLsbD i <;> cases b.v.getLsbD i <;> cases b.m.getLsbD i <;> simp
theorem meet_left {a b : T} (ha : mayT a) (hb : mayT b) (h : meetOk a b = true) : withT (meetT a b) a = true := by
  rw [with_iff _ _ ha]
  intro i hi h1
  exact (meet_bits ha hb h i hi).1 h1
theorem meet_right {a b : T} (ha : mayT a) (hb : mayT b) (h : meetOk a b = true) : withT (meetT a b) b = true := by
  rw [with_iff _ _ hb]
  intro i hi h1
  exact (meet_bits ha hb h i hi).2.1 h1
theorem meet_in {a b : T} (ha : mayT a) (hb : mayT b) (h : meetOk a b = true) (x : BitVec 64) : inT (meetT a b) x = (inT a x && inT b x) := by
  rw [Bool.eq_iff_iff, Bool.and_eq_true, in_iff, in_iff, in_iff]
  constructor
  · intro g
    refine ⟨fun i hi h1 => ?_, fun i hi h1 => ?_⟩
    · obtain ⟨k1, k2⟩ := (meet_bits ha hb h i hi).1 h1
      rw [g i hi k1, k2]
    · obtain ⟨k1, k2⟩ := (meet_bits ha hb h i hi).2.1 h1
      rw [g i hi k1, k2]
  · rintro ⟨g1, g2⟩ i hi h1
    rcases (meet_bits ha hb h i hi).2.2 h1 with h2 | h2
    · rw [g1 i hi h2, ((meet_bits ha hb h i hi).1 h2).2]
    · rw [g2 i hi h2, ((meet_bits ha hb h i hi).2.1 h2).2]
theorem meet_none {a b : T} (h : meetOk a b = false) (x : BitVec 64) (hx : inT a x = true) : inT b x = false := by
  cases h1 : inT b x with
  | false => rfl
  | true =>
    exfalso
    have : meetOk a b = true := by
      rw [meet_iff]
      rw [in_iff] at hx h1
      intro i hi g1 g2
      rw [← hx i hi g1, h1 i hi g2]
    rw [h] at this
    cases this
/-! ### Who knows more is told more -/
theorem with_add {a b c : T} (ha : mayT a) (hb : mayT b) (hc : mayT c) (h : withT a b = true) : withT (addT a c) (addT b c) = true := by
  rw [with_iff _ _ (may_add _ _)]
  intro i hi h1
  have e1 := sum_bit hb hc (within_yes hb h (in_low a)) (in_low c) i hi h1
  have e2 := sum_bit hb hc (within_yes hb h (in_top a)) (in_top c) i hi h1
  have h2 : b.m.getLsbD i = false ∧ c.m.getLsbD i = false := by
    unfold addT exc at h1
    simp only [BitVec.getLsbD_or, Bool.or_eq_false_iff] at h1
    exact ⟨h1.1.2, h1.2⟩
  have h3 := ((with_iff _ _ hb).1 h i hi h2.1).1
  have h4 : (addT a c).m.getLsbD i = false := by
    unfold addT exc
    simp only [BitVec.getLsbD_or, Bool.or_eq_false_iff]
    refine ⟨⟨?_, h3⟩, h2.2⟩
    rw [sum_shape ha hc, BitVec.getLsbD_xor, e1, e2]
    cases (b.v + c.v).getLsbD i <;> rfl
  refine ⟨h4, ?_⟩
  have f1 := (in_iff _ _).1 (add_sound ha hc (in_low a) (in_low c)) i hi h4
  have f2 := (in_iff _ _).1 (add_sound hb hc (in_low b) (in_low c)) i hi h1
  rw [← f1, ← f2, e1]
theorem with_not {a b : T} (hb : mayT b) (h : withT a b = true) : withT (notT a) (notT b) = true := by
  rw [with_iff _ _ hb] at h
  rw [with_iff _ _ (may_not _)]
  intro i hi h1
  have h1' : b.m.getLsbD i = false := h1
  obtain ⟨g1, g2⟩ := h i hi h1'
  refine ⟨g1, ?_⟩
  unfold notT
  simp [g1, g2, h1']
theorem with_sub {a b c d : T} (ha : mayT a) (hb : mayT b) (hc : mayT c) (hd : mayT d) (h : withT a b = true) (h' : withT c d = true) : withT (subT a c) (subT b d) = true := by
  rw [with_iff _ _ (may_sub _ _)]
  intro i hi h1
  have e1 := dif_bit hb hd (within_yes hb h (in_top a)) (within_yes hd h' (in_low c)) i hi h1
  have e2 := dif_bit hb hd (within_yes hb h (in_low a)) (within_yes hd h' (in_top c)) i hi h1
  have e3 := dif_bit hb hd (within_yes hb h (in_low a)) (within_yes hd h' (in_low c)) i hi h1
  have h2 : b.m.getLsbD i = false ∧ d.m.getLsbD i = false := by
    unfold subT exc at h1
    simp only [BitVec.getLsbD_or, Bool.or_eq_false_iff] at h1
    exact ⟨h1.1.2, h1.2⟩
  have h3 := ((with_iff _ _ hb).1 h i hi h2.1).1
  have h3' := ((with_iff _ _ hd).1 h' i hi h2.2).1
  have s1 : (a.v - c.v) + a.m = (a.v ||| a.m) - c.v := by
    rw [← top_sum ha]
    apply BitVec.eq_of_toNat_eq
    simp only [BitVec.toNat_add, BitVec.toNat_sub]
    have := a.v.isLt; have := a.m.isLt; have := c.v.isLt
    omega
  have s2 : (a.v - c.v) - c.m = a.v - (c.v ||| c.m) := by
    rw [← top_sum hc]
    apply BitVec.eq_of_toNat_eq
    simp only [BitVec.toNat_add, BitVec.toNat_sub]
    have := a.v.isLt; have := c.m.isLt; have := c.v.isLt
    omega
  have h4 : (subT a c).m.getLsbD i = false := by
    unfold subT exc
    simp only [BitVec.getLsbD_or, Bool.or_eq_false_iff]
    refine ⟨⟨?_, h3⟩, h3'⟩
    rw [s1, s2, BitVec.getLsbD_xor, e1, e2]
    cases (b.v - d.v).getLsbD i <;> rfl
  refine ⟨h4, ?_⟩
  have f1 := (in_iff _ _).1 (sub_sound ha hc (in_low a) (in_low c)) i hi h4
  have f2 := (in_iff _ _).1 (sub_sound hb hd (in_low b) (in_low d)) i hi h1
  rw [← f1, ← f2, e3]
theorem with_self {a : T} (ha : mayT a) : withT a a = true := by
  rw [with_iff _ _ ha]; intro i hi h; exact ⟨h, rfl⟩
theorem with_and {a b c : T} (ha : mayT a) (hb : mayT b) (hc : mayT c) (h : withT a b = true) : withT (andT a c) (andT b c) = true := by
  rw [with_iff _ _ hb] at h
  rw [with_iff _ _ (may_and _ _)]
  rw [may_iff] at ha hb hc
  intro i hi
  have h1 := h i hi; have h2 := ha i hi; have h3 := hb i hi; have h4 := hc i hi
  unfold andT
  simp only [BitVec.getLsbD_or, BitVec.getLsbD_and, BitVec.getLsbD_not, hi, decide_true, Bool.true_and]
  revert h1 h2 h3 h4
  cases a.v.getLsbD i <;> cases a.m.getLsbD i <;> cases b.v.getLsbD i <;> cases b.m.getLsbD i <;> cases c.v.getLsbD i <;> cases c.m.getLsbD i <;> decide
theorem with_or {a b c : T} (ha : mayT a) (hb : mayT b) (hc : mayT c) (h : withT a b = true) : withT (orT a c) (orT b c) = true := by
  rw [with_iff _ _ hb] at h
  rw [with_iff _ _ (may_or _ _)]
  rw [may_iff] at ha hb hc
  intro i hi
  have h1 := h i hi; have h2 := ha i hi; have h3 := hb i hi; have h4 := hc i hi
  unfold orT
  simp only [BitVec.getLsbD_or, BitVec.getLsbD_and, BitVec.getLsbD_not, hi, decide_true, Bool.true_and]
  revert h1 h2 h3 h4
  cases a.v.getLsbD i <;> cases a.m.getLsbD i <;> cases b.v.getLsbD i <;> cases b.m.getLsbD i <;> cases c.v.getLsbD i <;> cases c.m.getLsbD i <;> decide
theorem with_xor {a b c : T} (ha : mayT a) (hb : mayT b) (hc : mayT c) (h : withT a b = true) : withT (xorT a c) (xorT b c) = true := by
  rw [with_iff _ _ hb] at h
  rw [with_iff _ _ (may_xor _ _)]
  rw [may_iff] at ha hb hc
  intro i hi
  have h1 := h i hi; have h2 := ha i hi; have h3 := hb i hi; have h4 := hc i hi
  unfold xorT exc
  simp only [BitVec.getLsbD_or, BitVec.getLsbD_and, BitVec.getLsbD_xor, BitVec.getLsbD_not, hi, decide_true, Bool.true_and]
  revert h1 h2 h3 h4
  cases a.v.getLsbD i <;> cases a.m.getLsbD i <;> cases b.v.getLsbD i <;> cases b.m.getLsbD i <;> cases c.v.getLsbD i <;> cases c.m.getLsbD i <;> decide
/-- The smaller tnum of TnumMore. -/
def lessT (b : T) (v keep : BitVec 64) : T := exc (oneT b v) (b.m &&& keep)
theorem less_with {b : T} (hb : mayT b) (v keep : BitVec 64) : withT (lessT b v keep) b = true := by
  rw [with_iff _ _ hb]
  intro i hi h
  unfold lessT exc oneT
  simp only [BitVec.getLsbD_or, BitVec.getLsbD_and, BitVec.getLsbD_not, hi, decide_true, Bool.true_and, h]
  cases b.v.getLsbD i <;> simp
end Go.Proofs.Ythjjfginenpfjaa.Tn
