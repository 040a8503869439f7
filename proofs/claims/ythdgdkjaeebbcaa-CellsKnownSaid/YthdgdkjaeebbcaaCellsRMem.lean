/-
  Layer 8's cells as the document has them in memory: a list of all. No conditions.
-/
import Derived.Test.YthdgdkjaeebbcaaCellsMem2
import Derived.Test.YthdgdkjaeebbcaaPhaseRef3
namespace Go.Proofs.Ythdgdkjaeebbcaa
set_option maxRecDepth 100000
open Go.RowKit Ow Ph Ro K2
set_option linter.unusedVariables false
set_option linter.unusedSimpArgs false
abbrev R3 := Value × Value × Cl
def rcells (t : R3) : List Value := [t.1, .int .i64 (t.2.2.ts.length : Nat), t.2.1, .bool t.2.2.gone, .bool t.2.2.swept]
def rflat (l : List R3) : List Value := l.flatMap rcells
theorem rcells_len (t : R3) : (rcells t).length = 5 := rfl
theorem rflat_cons (t : R3) (l : List R3) : rflat (t :: l) = rcells t ++ rflat l := by unfold rflat; rw [List.flatMap_cons]
theorem rflat_len (l : List R3) : (rflat l).length = l.length * 5 := by
  induction l with
  | nil => rfl
  | cons t l ih => rw [rflat_cons, List.length_append, ih, rcells_len, List.length_cons]; omega
theorem rflat_app (l : List R3) (t : R3) : rflat (l ++ [t]) = rflat l ++ rcells t := by unfold rflat; rw [List.flatMap_append]; simp
theorem rflat_get (l : List R3) (k r : Nat) (hk : k < l.length) (hr : r < 5) : (rflat l)[k * 5 + r]? = (rcells l[k])[r]? := by
  induction l generalizing k with
  | nil => simp at hk
  | cons t l ih =>
    rw [rflat_cons]
    cases k with
    | zero => rw [List.getElem?_append_left (by rw [rcells_len]; omega)]; simp
    | succ k =>
      rw [List.getElem?_append_right (by rw [rcells_len]; omega), rcells_len, show (k + 1) * 5 + r - 5 = k * 5 + r by omega]
      simpa using ih k (by simpa using hk)
theorem rflat_set (l : List R3) (k r : Nat) (hk : k < l.length) (hr : r < 5) (v : Value) (t' : R3) (ht : (rcells l[k]).set r v = rcells t') : (rflat l).set (k * 5 + r) v = rflat (l.set k t') := by
  induction l generalizing k with
  | nil => simp at hk
  | cons t l ih =>
    rw [rflat_cons]
    cases k with
    | zero =>
      rw [List.set_append, if_pos (by rw [rcells_len]; omega), List.set_cons_zero, rflat_cons]
      simp only [Nat.zero_mul, Nat.zero_add]
      congr 1
    | succ k =>
      rw [List.set_append, if_neg (by rw [rcells_len]; omega), rcells_len, show (k + 1) * 5 + r - 5 = k * 5 + r by omega, List.set_cons_succ, rflat_cons]
      congr 1
      exact ih k (by simpa using hk) (by simpa using ht)
/-- A cell's bytes, and its times. -/
structure RAt (w0 : World) (A : Ac) (k : Nat) (t : R3) : Prop where
  row : Row A (12, k) 5 1 t.1 t.2.2.bs.length (bv t.2.2.bs)
  beat : ∃ a m, t.2.1 = .slice a t.2.2.ts.length m ∧ Reads w0 A (13, k) a (zv t.2.2.ts) ∧ (t.2.2.ts = [] → a = none ∧ m = 0)
structure RSx (w0 : World) (A : Ac) (X : Nat) (v : Value) (l : List R3) (L : List Cl) : Prop where
  head : A (10, 0) = some (X, .cells #[v] 38)
  row : Row A (11, 0) 74 5 v l.length (rflat l)
  are : l.map (fun t => t.2.2) = L
  at_ : ∀ k t, l[k]? = some t → RAt w0 A (k + 1) t
def RS (w0 : World) (A : Ac) (X : Nat) (L : List Cl) : Prop := ∃ v l, RSx w0 A X v l L
/-- What is not the document's is as it was. -/
def Fr2 (A A' : Ac) : Prop := ∀ x : Rl, ¬ (10 ≤ x.1 ∧ x.1 < 20) → A' x = A x
theorem Fr2.refl (A : Ac) : Fr2 A A := fun _ _ => rfl
def RDid (w0 : World) (A : Ac) (X : Nat) (L : List Cl) (w : World) : Prop := ∃ A', Lay w0 A' w ∧ RS w0 A' X L ∧ Fr2 A A'
theorem rg {w0 w : World} {A : Ac} {v : Value} {l : List R3} (hl : Lay w0 A w) (hrow : Row A (11, 0) 74 5 v l.length (rflat l)) (k : Nat) (hk : k < l.length) :
    ∃ ad cap, v = .slice (some ad) l.length cap ∧ l.length ≤ cap ∧ cap ≤ maxLen ∧ ∀ r, r < 5 → w.cell? (ad.add (k * 5 + r)) = (rcells l[k])[r]? ∧ w.frozen? (ad.add (k * 5 + r)) = false := by
  obtain ⟨a, cap, rfl, h1, h2, h3⟩ := hrow.form2
  cases a with
  | none => have := (h3 rfl).1; omega
  | some ad =>
    refine ⟨ad, cap, rfl, h1, h2, fun r hr => ?_⟩
    have ho := hrow.own hl
    rcases ho.2 with ⟨e, _⟩ | ⟨g, cap', cur, e, _⟩
    · cases e
    · simp only [Value.slice.injEq, Option.some.injEq] at e
      obtain ⟨rfl, _⟩ := e
      rw [add_zero_at, ← rflat_get l k r hk hr]
      exact ⟨ho.cellAt _ (by omega), ho.frozenAt _⟩
theorem rp {w0 w : World} {A : Ac} {v : Value} {l : List R3} (hl : Lay w0 A w) (hrow : Row A (11, 0) 74 5 v l.length (rflat l)) {k r : Nat} (hk : k < l.length) (hr : r < 5) {ad : Addr} {cap : Nat} (hv : v = .slice (some ad) l.length cap) (u : Value) (t' : R3) (ht : (rcells l[k]).set r u = rcells t') :
    ∃ A', Lay w0 A' (w.setCell (ad.add (k * 5 + r)) u) ∧ Row A' (11, 0) 74 5 v (l.set k t').length (rflat (l.set k t')) ∧ ∀ x, x ≠ (11, 0) → A' x = A x := by
  subst hv
  have ho := hrow.own hl
  rcases ho.2 with ⟨e, _⟩ | ⟨g, cap', cur, e, _⟩
  · cases e
  · simp only [Value.slice.injEq, Option.some.injEq] at e
    obtain ⟨rfl, _⟩ := e
    obtain ⟨h1, h2⟩ := ho.stored (k * 5 + r) u
    rw [rflat_set l k r hk hr u t' ht] at h1
    rw [add_zero_at]
    obtain ⟨A', h3, h4, h5⟩ := hl.took hrow h2 h1 (.inl rfl)
    exact ⟨A', h3, by rw [List.length_set]; exact h4, h5⟩
section
variable {w0 w : World} {A A' : Ac} {X : Nat} {v : Value} {l : List R3} {L : List Cl}
theorem RAt.keep {k : Nat} {t : R3} (h : RAt w0 A k t) (h1 : A' (12, k) = A (12, k)) (h2 : A' (13, k) = A (13, k)) : RAt w0 A' k t :=
  ⟨h.row.keep h1, by obtain ⟨a, m, e, hr, hz⟩ := h.beat; exact ⟨a, m, e, hr.keep h2, hz⟩⟩
theorem RSx.keep (h : RSx w0 A X v l L) (he : ∀ x : Rl, 10 ≤ x.1 → x.1 < 20 → A' x = A x) : RSx w0 A' X v l L :=
  ⟨(he _ (by simp) (by simp)).trans h.head, h.row.keep (he _ (by simp) (by simp)), h.are, fun k t hk => (h.at_ k t hk).keep (he _ (by simp) (by simp)) (he _ (by simp) (by simp))⟩
theorem RS.keep (h : RS w0 A X L) (he : ∀ x : Rl, 10 ≤ x.1 → x.1 < 20 → A' x = A x) : RS w0 A' X L := by
  obtain ⟨v, l, hx⟩ := h
  exact ⟨v, l, hx.keep he⟩
theorem RSx.len (h : RSx w0 A X v l L) : l.length = L.length := by rw [← h.are, List.length_map]
theorem RSx.nth (h : RSx w0 A X v l L) (k : Nat) (hk : k < l.length) : L[k]? = some l[k].2.2 := by
  rw [← h.are, List.getElem?_map, List.getElem?_eq_getElem hk]; rfl
theorem RSx.get (h : RSx w0 A X v l L) (hl : Lay w0 A w) (k : Nat) (hk : k < l.length) :
    ∃ ad cap, v = .slice (some ad) l.length cap ∧ l.length ≤ cap ∧ cap ≤ maxLen ∧ ∀ r, r < 5 → w.cell? (ad.add (k * 5 + r)) = (rcells l[k])[r]? ∧ w.frozen? (ad.add (k * 5 + r)) = false := by
  obtain ⟨a, cap, rfl, h1, h2, h3⟩ := h.row.form2
  cases a with
  | none => have := (h3 rfl).1; omega
  | some ad =>
    refine ⟨ad, cap, rfl, h1, h2, fun r hr => ?_⟩
    have ho := h.row.own hl
    rcases ho.2 with ⟨e, _⟩ | ⟨g, cap', cur, e, _⟩
    · cases e
    · simp only [Value.slice.injEq, Option.some.injEq] at e
      obtain ⟨rfl, _⟩ := e
      rw [add_zero_at, ← rflat_get l k r hk hr]
      exact ⟨ho.cellAt _ (by omega), ho.frozenAt _⟩
/-- A cell's field is another one. -/
theorem RSx.put (h : RSx w0 A X v l L) (hl : Lay w0 A w) {k r : Nat} (hk : k < l.length) (hr : r < 5) {ad : Addr} {cap : Nat} (hv : v = .slice (some ad) l.length cap) (u : Value) (t' : R3) (ht : (rcells l[k]).set r u = rcells t') :
    ∃ A', Lay w0 A' (w.setCell (ad.add (k * 5 + r)) u) ∧ A' (10, 0) = some (X, .cells #[v] 38) ∧ Row A' (11, 0) 74 5 v (l.set k t').length (rflat (l.set k t')) ∧ ∀ x, x ≠ (11, 0) → A' x = A x := by
  subst hv
  have ho := h.row.own hl
  rcases ho.2 with ⟨e, _⟩ | ⟨g, cap', cur, e, _⟩
  · cases e
  · simp only [Value.slice.injEq, Option.some.injEq] at e
    obtain ⟨rfl, _⟩ := e
    obtain ⟨h1, h2⟩ := ho.stored (k * 5 + r) u
    rw [rflat_set l k r hk hr u t' ht] at h1
    rw [add_zero_at]
    obtain ⟨A', h3, h4, h5⟩ := hl.took h.row h2 h1 (.inl rfl)
    exact ⟨A', h3, (h5 _ (by simp)).trans h.head, by rw [List.length_set]; exact h4, h5⟩
end
end Go.Proofs.Ythdgdkjaeebbcaa
