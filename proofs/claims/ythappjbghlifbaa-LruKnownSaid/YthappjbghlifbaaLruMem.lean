/-
  Layer 11's document in memory: the rows (roles 100, 101, 102). No conditions.
-/
import Derived.Test.YthappjbghlifbaaRole
import Derived.Test.YthappjbghlifbaaKitBytes
import Derived.Test.YthappjbghlifbaaKitTexts
namespace Go.Proofs.Ythappjbghlifbaa
set_option maxRecDepth 100000
open Go.RowKit Ow Ro K2
set_option linter.unusedVariables false
set_option linter.unusedSimpArgs false
/-- A row: the key's slice, the key, the cell, when it was used last; id: the key's role. -/
structure Rw where
  v : Value
  k : List Int
  c : Int
  u : Int
  id : Nat
def rcells (t : Rw) : List Value := [t.v, .int .i64 t.c, .int .i64 t.u]
def rflat (l : List Rw) : List Value := l.flatMap rcells
theorem rcells_len (t : Rw) : (rcells t).length = 3 := rfl
theorem rflat_cons (t : Rw) (l : List Rw) : rflat (t :: l) = rcells t ++ rflat l := by unfold rflat; rw [List.flatMap_cons]
theorem rflat_len (l : List Rw) : (rflat l).length = l.length * 3 := by
  induction l with
  | nil => rfl
  | cons t l ih => rw [rflat_cons, List.length_append, ih, rcells_len, List.length_cons]; omega
theorem rflat_get (l : List Rw) (k r : Nat) (hk : k < l.length) (hr : r < 3) : (rflat l)[k * 3 + r]? = (rcells l[k])[r]? := by
  induction l generalizing k with
  | nil => simp at hk
  | cons t l ih =>
    rw [rflat_cons]
    cases k with
    | zero => rw [List.getElem?_append_left (by rw [rcells_len]; omega)]; simp
    | succ k =>
      rw [List.getElem?_append_right (by rw [rcells_len]; omega), rcells_len, show (k + 1) * 3 + r - 3 = k * 3 + r by omega]
      simpa using ih k (by simpa using hk)
theorem rflat_set (l : List Rw) (k r : Nat) (hk : k < l.length) (hr : r < 3) (v : Value) (t' : Rw) (ht : (rcells l[k]).set r v = rcells t') : (rflat l).set (k * 3 + r) v = rflat (l.set k t') := by
  induction l generalizing k with
  | nil => simp at hk
  | cons t l ih =>
    cases k with
    | zero =>
      rw [List.set_cons_zero, rflat_cons, rflat_cons, List.set_append_left _ _ (by rw [rcells_len]; omega), Nat.zero_mul, Nat.zero_add]
      simp only [List.getElem_cons_zero] at ht
      rw [ht]
    | succ k =>
      rw [List.set_cons_succ, rflat_cons, rflat_cons, List.set_append_right _ _ (by rw [rcells_len]; omega), rcells_len, show (k + 1) * 3 + r - 3 = k * 3 + r by omega, ih k (by simpa using hk) (by simpa using ht)]
theorem rflat_app (l m : List Rw) : rflat (l ++ m) = rflat l ++ rflat m := by unfold rflat; rw [List.flatMap_append]
/-- A key's row. -/
def LK (A : Ac) (t : Nat) (e : Rw) : Prop := e.id < t ∧ e.k.length ≤ 1000 ∧ (∀ b ∈ e.k, 0 ≤ b ∧ b ≤ 255) ∧ Row A (102, e.id) 5 1 e.v e.k.length (bv e.k)
structure LS (A : Ac) (X : Nat) (K M U : Int) (v : Value) (l : List Rw) (t : Nat) : Prop where
  head : A (100, 0) = some (X, .cells #[.int .i64 K, .int .i64 M, .int .i64 U, v] 54)
  row : Row A (101, 0) 60 3 v l.length (rflat l)
  keys : ∀ e ∈ l, LK A t e
section
variable {w0 w w' : World} {A A' : Ac} {X : Nat} {K M U : Int} {v : Value} {l : List Rw} {t : Nat}
theorem LK.keep {e : Rw} (h : LK A t e) (he : A' (102, e.id) = A (102, e.id)) : LK A' t e := ⟨h.1, h.2.1, h.2.2.1, h.2.2.2.keep he⟩
theorem LS.keep (h : LS A X K M U v l t) (he : ∀ x : Rl, 100 ≤ x.1 → x.1 ≤ 102 → A' x = A x) : LS A' X K M U v l t :=
  ⟨(he _ (by simp) (by simp)).trans h.head, h.row.keep (he _ (by simp) (by simp)), fun e hm => (h.keys e hm).keep (he _ (by simp) (by simp))⟩
theorem LS.form (h : LS A X K M U v l t) : ∃ a cap, v = .slice a l.length cap ∧ l.length ≤ cap ∧ cap ≤ maxLen := by
  obtain ⟨a, cap, e, h1, h2, _⟩ := h.row.form2
  exact ⟨a, cap, e, h1, h2⟩
/-- The head's cells. -/
structure LHd (w : World) (X : Nat) (K M U : Int) (v : Value) : Prop where
  c0 : w.cell? ⟨X, 0, none⟩ = some (.int .i64 K)
  c1 : w.cell? ⟨X, 1, none⟩ = some (.int .i64 M)
  c2 : w.cell? ⟨X, 2, none⟩ = some (.int .i64 U)
  c3 : w.cell? ⟨X, 3, none⟩ = some v
  f2 : w.frozen? ⟨X, 2, none⟩ = false
  f3 : w.frozen? ⟨X, 3, none⟩ = false
  lt : X < w.heap.size
theorem LS.hd (h : LS A X K M U v l t) (hl : Lay w0 A w) : LHd w X K M U v :=
  ⟨(hl.bk h.head).cell 0, (hl.bk h.head).cell 1, (hl.bk h.head).cell 2, (hl.bk h.head).cell 3, (hl.bk h.head).frozen 2, (hl.bk h.head).frozen 3, (hl.bk h.head).lt⟩
/-- What there is to be read of a row. -/
theorem LS.look (h : LS A X K M U v l t) (hl : Lay w0 A w) {j : Nat} {e : Rw} (hj : l[j]? = some e) :
    ∃ (ad : Addr) (cap : Nat) (a : Option Addr) (c : Nat), v = .slice (some ad) l.length cap ∧ e.v = .slice a e.k.length c ∧ ad.block < w.heap.size ∧ (ad.add (j * 3)).block ≠ X ∧
      w.cell? (ad.add (j * 3)) = some (.slice a e.k.length c) ∧ w.cell? ⟨(ad.add (j * 3)).block, (ad.add (j * 3)).off + 1, none⟩ = some (.int .i64 e.c) ∧ w.cell? ⟨(ad.add (j * 3)).block, (ad.add (j * 3)).off + 2, none⟩ = some (.int .i64 e.u) ∧ w.frozen? ⟨(ad.add (j * 3)).block, (ad.add (j * 3)).off + 2, none⟩ = false ∧ Rd w w.heap.size a (bv e.k) := by
  have hjl := (List.getElem?_eq_some_iff.1 hj).1
  have hje := (List.getElem?_eq_some_iff.1 hj).2
  obtain ⟨k1, k2, k3, k4⟩ := h.keys e (List.mem_of_getElem? hj)
  obtain ⟨a, c, hv, _⟩ := k4.form2
  have hr := k4
  rw [hv] at hr
  have ho := h.row.own hl
  rcases h.row.2 with ⟨_, h0⟩ | ⟨g, cap, cur, rfl, hA, _⟩
  · omega
  · have hgX : g ≠ X := hl.far hA h.head (by simp)
    refine ⟨⟨g, 0, none⟩, cap, a, c, rfl, hv, lt_of_block (hl.obj hA), by rw [add_zero_at]; exact hgX, ?_⟩
    have g0 := rflat_get l j 0 hjl (by omega)
    have g1 := rflat_get l j 1 hjl (by omega)
    have g2 := rflat_get l j 2 hjl (by omega)
    rw [hje] at g0 g1 g2
    have c0 := ho.cellAt (j * 3 + 0) (by omega)
    have c1 := ho.cellAt (j * 3 + 1) (by omega)
    have c2 := ho.cellAt (j * 3 + 2) (by omega)
    rw [g0] at c0
    rw [g1] at c1
    rw [g2] at c2
    rw [add_zero_at]
    refine ⟨?_, c1, c2, ho.frozenAt _, (hr.reads (w0 := w0)).rd hl⟩
    rw [← hv]
    exact c0
/-- A store to the head. -/
theorem LS.used (h : LS A X K M U v l t) (hl : Lay w0 A w) (U2 : Int) : ∃ A', Lay w0 A' (w.setCell ⟨X, 2, none⟩ (.int .i64 U2)) ∧ LS A' X K M U2 v l t ∧ ∀ x, x ≠ (100, 0) → A' x = A x :=
  ⟨_, hl.set_ h.head 2 (.int .i64 U2), ⟨by rw [up_same]; rfl, h.row.keep (up_other _ _ _ (by simp)), fun e he => (h.keys e he).keep (up_other _ _ _ (by simp))⟩, fun x hx => up_other _ _ _ hx⟩
/-- A store to a row's use. -/
theorem LS.put (h : LS A X K M U v l t) (hl : Lay w0 A w) {ad : Addr} {cap j : Nat} {e : Rw} (hv : v = .slice (some ad) l.length cap) (hj : l[j]? = some e) (u : Int) :
    ∃ A', Lay w0 A' (w.setCell ⟨(ad.add (j * 3)).block, (ad.add (j * 3)).off + 2, none⟩ (.int .i64 u)) ∧ LS A' X K M U v (l.set j ⟨e.v, e.k, e.c, u, e.id⟩) t ∧ ∀ x, x ≠ (101, 0) → A' x = A x := by
  have hjl := (List.getElem?_eq_some_iff.1 hj).1
  have hje := (List.getElem?_eq_some_iff.1 hj).2
  subst hv
  have ho := h.row.own hl
  rcases ho.2 with ⟨e', _⟩ | ⟨g, cap', cur, e', _⟩
  · cases e'
  · simp only [Value.slice.injEq, Option.some.injEq] at e'
    obtain ⟨rfl, _⟩ := e'
    obtain ⟨h1, h2⟩ := ho.stored (j * 3 + 2) (.int .i64 u)
    rw [rflat_set l j 2 hjl (by omega) (.int .i64 u) ⟨e.v, e.k, e.c, u, e.id⟩ (by rw [hje]; rfl)] at h1
    rw [add_zero_at]
    obtain ⟨A', h3, h4, h5⟩ := hl.took h.row h2 h1 (.inl rfl)
    refine ⟨A', h3, ⟨(h5 _ (by simp)).trans h.head, by rw [List.length_set]; exact h4, fun x hx => ?_⟩, h5⟩
    rcases List.mem_or_eq_of_mem_set hx with h6 | h6
    · exact (h.keys x h6).keep (h5 _ (by simp))
    · subst h6
      exact (h.keys e (List.mem_of_getElem? hj)).keep (h5 _ (by simp))
end
/-- A list of rows that a call has made: new memory alone. -/
structure OwnR (w : World) (v : Value) (wr : World) (l : List Rw) : Prop where
  own : wr.ownsRow w.heap.size 60 3 v l.length (rflat l)
  below : Below w.heap.size w wr
theorem OwnR.nil (w : World) : OwnR w (.slice none 0 0) w [] := ⟨World.ownsRow_nil _ _ _ _, Below.refl _ _⟩
theorem OwnR.step {w wr w1 : World} {v v1 : Value} {l : List Rw} {e : Rw} {o : Obj} (h : OwnR w v wr l) (ho : w1.ownsRow w.heap.size 60 3 v1 (l.length + 1) (rflat l ++ rcells e)) (hg : (wr.alloc o).grownBy w1 v.ownBlock) : OwnR w v1 w1 (l ++ [e]) := by
  refine ⟨?_, ?_⟩
  · rw [rflat_app, List.length_append]
    exact ho
  · refine (h.below.alloc h.below.size o).grown hg ?_ fun k hk => ?_
    · have := h.below.size; simp; omega
    · rcases h.own.2 with ⟨e', _⟩ | ⟨g, cap, cur, e', hb, _⟩
      · rw [e'] at hk; simp [Value.ownBlock] at hk
      · rw [e'] at hk; simp [Value.ownBlock] at hk; omega
section
variable {w0 w w' : World} {A A' : Ac} {X : Nat} {K M U : Int} {v v2 : Value} {l l2 : List Rw} {t : Nat}
/-- The rows are other ones, that a call has made. -/
theorem LS.swap (h : LS A X K M U v l t) (hl : Lay w0 A w) (q : OwnR w v2 w' l2) (hm : ∀ e ∈ l2, e ∈ l) :
    ∃ A', Lay w0 A' (w'.setCell ⟨X, 3, none⟩ v2) ∧ LS A' X K M U v2 l2 t ∧ ∀ x, x ≠ (100, 0) → x ≠ (101, 0) → A' x = A x := by
  obtain ⟨A2, l2', r2, f2⟩ := hl.newRow (101, 0) q.below q.own (Nat.le_refl _)
  have a2 := (f2 (100, 0) (by simp)).trans h.head
  refine ⟨_, l2'.set_ a2 3 v2, ⟨by rw [up_same]; rfl, r2.keep (up_other _ _ _ (by simp)), fun e he => (h.keys e (hm e he)).keep ((up_other _ _ _ (by simp)).trans (f2 _ (by simp)))⟩, fun x hx hx2 => (up_other _ _ _ hx).trans (f2 x hx2)⟩
end
/-! ### The place of a key -/
def lix (l : List Rw) (ks : List Int) : Option Nat := l.findIdx? fun e => e.k == ks
def lixV : Option Nat → Int
  | none => -1
  | some p => (p : Nat)
theorem lix_none {l : List Rw} {ks : List Int} (h : ∀ (i : Nat) (e : Rw), l[i]? = some e → e.k ≠ ks) : lix l ks = none := by
  unfold lix
  rw [List.findIdx?_eq_none_iff]
  intro x hx
  obtain ⟨i, hi, rfl⟩ := List.getElem_of_mem hx
  simpa using h i _ (List.getElem?_eq_getElem hi)
theorem lix_some {l : List Rw} {ks : List Int} {j : Nat} {x : Rw} (hj : l[j]? = some x) (hx : x.k = ks) (h : ∀ (i : Nat) (e : Rw), i < j → l[i]? = some e → e.k ≠ ks) : lix l ks = some j := by
  unfold lix
  rw [List.findIdx?_eq_some_iff_getElem]
  have hjl := (List.getElem?_eq_some_iff.1 hj).1
  have hje := (List.getElem?_eq_some_iff.1 hj).2
  refine ⟨hjl, by rw [hje]; simpa using hx, fun i hi => ?_⟩
  simpa using h i _ hi (List.getElem?_eq_getElem (by omega))
theorem lix_get {l : List Rw} {ks : List Int} {j : Nat} (h : lix l ks = some j) : ∃ x, l[j]? = some x ∧ x.k = ks := by
  unfold lix at h
  rw [List.findIdx?_eq_some_iff_getElem] at h
  obtain ⟨hj, h1, _⟩ := h
  exact ⟨_, List.getElem?_eq_getElem hj, by simpa using h1⟩
end Go.Proofs.Ythappjbghlifbaa
