/-
  Layer 10's document in memory: the places, one behind the other (roles 50, 51, 52). No conditions.
-/
import Derived.Test.YtkaapphlnolelaaHashRef1
namespace Go.Proofs.Ytkaapphlnolelaa
open Go.RowKit Ow Ro K2 Hm
set_option linter.unusedVariables false
set_option linter.unusedSimpArgs false
/-- A place: 0 empty, 1 with a key and a cell, 2 marked. -/
structure Pl where
  is : Nat
  bs : List Int
  cell : Int
abbrev P3 := Value × Pl
def pcells (t : P3) : List Value := [.int .i64 (t.2.is : Nat), t.1, .int .i64 t.2.cell]
def pflat (l : List P3) : List Value := l.flatMap pcells
theorem pcells_len (t : P3) : (pcells t).length = 3 := rfl
theorem pflat_cons (t : P3) (l : List P3) : pflat (t :: l) = pcells t ++ pflat l := by unfold pflat; rw [List.flatMap_cons]
theorem pflat_len (l : List P3) : (pflat l).length = l.length * 3 := by
  induction l with
  | nil => rfl
  | cons t l ih => rw [pflat_cons, List.length_append, ih, pcells_len, List.length_cons]; omega
theorem pflat_get (l : List P3) (k r : Nat) (hk : k < l.length) (hr : r < 3) : (pflat l)[k * 3 + r]? = (pcells l[k])[r]? := by
  induction l generalizing k with
  | nil => simp at hk
  | cons t l ih =>
    rw [pflat_cons]
    cases k with
    | zero => rw [List.getElem?_append_left (by rw [pcells_len]; omega)]; simp
    | succ k =>
      rw [List.getElem?_append_right (by rw [pcells_len]; omega), pcells_len, show (k + 1) * 3 + r - 3 = k * 3 + r by omega]
      simpa using ih k (by simpa using hk)
theorem pflat_set (l : List P3) (k r : Nat) (hk : k < l.length) (hr : r < 3) (v : Value) (t' : P3) (ht : (pcells l[k]).set r v = pcells t') : (pflat l).set (k * 3 + r) v = pflat (l.set k t') := by
  induction l generalizing k with
  | nil => simp at hk
  | cons t l ih =>
    cases k with
    | zero =>
      rw [List.set_cons_zero, pflat_cons, pflat_cons, List.set_append_left _ _ (by rw [pcells_len]; omega), Nat.zero_mul, Nat.zero_add]
      simp only [List.getElem_cons_zero] at ht
      rw [ht]
    | succ k =>
      rw [List.set_cons_succ, pflat_cons, pflat_cons, List.set_append_right _ _ (by rw [pcells_len]; omega), pcells_len, show (k + 1) * 3 + r - 3 = k * 3 + r by omega, ih k (by simpa using hk) (by simpa using ht)]
structure HSx (A : Ac) (X : Nat) (K M : Int) (v : Value) (l : List P3) (T : List Pl) : Prop where
  head : A (50, 0) = some (X, .cells #[v, .int .i64 K, .int .i64 M] 65)
  row : Row A (51, 0) 70 3 v l.length (pflat l)
  are : l.map (fun t => t.2) = T
  at_ : ∀ k t, l[k]? = some t → Row A (52, k) 5 1 t.1 t.2.bs.length (bv t.2.bs)
def HS (A : Ac) (X : Nat) (K M : Int) (T : List Pl) : Prop := ∃ v l, HSx A X K M v l T
section
variable {w0 w : World} {A A' : Ac} {X : Nat} {K M : Int} {v : Value} {l : List P3} {T : List Pl}
theorem HSx.keep (h : HSx A X K M v l T) (he : ∀ x : Rl, 50 ≤ x.1 → x.1 < 60 → A' x = A x) : HSx A' X K M v l T :=
  ⟨(he _ (by simp) (by simp)).trans h.head, h.row.keep (he _ (by simp) (by simp)), h.are, fun k t hk => (h.at_ k t hk).keep (he _ (by simp) (by simp))⟩
theorem HS.keep (h : HS A X K M T) (he : ∀ x : Rl, 50 ≤ x.1 → x.1 < 60 → A' x = A x) : HS A' X K M T := by
  obtain ⟨v, l, hx⟩ := h
  exact ⟨v, l, hx.keep he⟩
theorem HSx.len (h : HSx A X K M v l T) : l.length = T.length := by rw [← h.are, List.length_map]
theorem HSx.nth (h : HSx A X K M v l T) (k : Nat) (hk : k < l.length) : T[k]? = some l[k].2 := by
  rw [← h.are, List.getElem?_map, List.getElem?_eq_getElem hk]; rfl
theorem HSx.get (h : HSx A X K M v l T) (hl : Lay w0 A w) (k : Nat) (hk : k < l.length) :
    ∃ ad cap, v = .slice (some ad) l.length cap ∧ l.length ≤ cap ∧ cap ≤ maxLen ∧ ∀ r, r < 3 → w.cell? (ad.add (k * 3 + r)) = (pcells l[k])[r]? ∧ w.frozen? (ad.add (k * 3 + r)) = false := by
  obtain ⟨a, cap, rfl, h1, h2, h3⟩ := h.row.form2
  cases a with
  | none => have := (h3 rfl).1; omega
  | some ad =>
    refine ⟨ad, cap, rfl, h1, h2, fun r hr => ?_⟩
    have ho := h.row.own hl
    rcases ho.2 with ⟨e, _⟩ | ⟨g, cap', cur, e, _⟩
    · cases e
    · simp only [Value.slice.injEq, Option.some.injEq] at e
      obtain ⟨rfl, _⟩ := e
      rw [add_zero_at, ← pflat_get l k r hk hr]
      exact ⟨ho.cellAt _ (by omega), ho.frozenAt _⟩
/-- What there is to be read of a place. -/
theorem HS.look (h : HS A X K M T) (hl : Lay w0 A w) {k : Nat} {t : Pl} (hk : T[k]? = some t) :
    ∃ (ad : Addr) (cap : Nat) (ak : Option Addr) (ck : Nat), T.length ≤ cap ∧ cap ≤ maxLen ∧ w.cell? ⟨X, 0, none⟩ = some (.slice (some ad) T.length cap) ∧ w.cell? ⟨X, 1, none⟩ = some (.int .i64 K) ∧ w.cell? ⟨X, 2, none⟩ = some (.int .i64 M) ∧
      w.cell? (ad.add (k * 3)) = some (.int .i64 (t.is : Nat)) ∧ w.cell? ⟨(ad.add (k * 3)).block, (ad.add (k * 3)).off + 1, none⟩ = some (.slice ak t.bs.length ck) ∧ w.cell? ⟨(ad.add (k * 3)).block, (ad.add (k * 3)).off + 2, none⟩ = some (.int .i64 t.cell) ∧
      t.bs.length ≤ ck ∧ ck ≤ maxLen ∧ Rd w w.heap.size ak (bv t.bs) := by
  obtain ⟨v, l, hx⟩ := h
  have hll := hx.len
  have hkT := (List.getElem?_eq_some_iff.1 hk).1
  have hkl : k < l.length := by omega
  have hnth := hx.nth k hkl
  rw [hk] at hnth
  injection hnth with hnth
  obtain ⟨ad, cap, rfl, c1, c2, hc⟩ := hx.get hl k hkl
  have hat := hx.at_ k _ (List.getElem?_eq_getElem hkl)
  rcases hr : l[k] with ⟨s, t'⟩
  rw [hr] at hat hc hnth
  dsimp only at hnth
  subst hnth
  obtain ⟨ak, ck, e, d1, d2, _⟩ := hat.form2
  dsimp only at e d1
  subst e
  have q0 := (hc 0 (by omega)).1
  have q1 := (hc 1 (by omega)).1
  have q2 := (hc 2 (by omega)).1
  rw [← add_next _ _ _ (by omega)] at q1 q2
  rw [hll] at c1
  have hh := hx.head
  rw [hll] at hh
  exact ⟨ad, cap, ak, ck, c1, c2, (hl.bk hh).cell 0, (hl.bk hh).cell 1, (hl.bk hh).cell 2, q0, q1, q2, d1, d2, (hat.reads (w0 := w0)).rd hl⟩
theorem HS.head (h : HS A X K M T) (hl : Lay w0 A w) : ∃ (a : Option Addr) (cap : Nat), T.length ≤ cap ∧ cap ≤ maxLen ∧ w.cell? ⟨X, 0, none⟩ = some (.slice a T.length cap) ∧ w.cell? ⟨X, 1, none⟩ = some (.int .i64 K) ∧ w.cell? ⟨X, 2, none⟩ = some (.int .i64 M) := by
  obtain ⟨v, l, hx⟩ := h
  have hll := hx.len
  obtain ⟨a, cap, rfl, c1, c2, _⟩ := hx.row.form2
  have hh := hx.head
  rw [hll] at hh c1
  exact ⟨a, cap, c1, c2, (hl.bk hh).cell 0, (hl.bk hh).cell 1, (hl.bk hh).cell 2⟩
end
/-! ### The way of a key -/
def wrap1 (n p : Nat) : Nat := if p + 1 = n then 0 else p + 1
theorem wrap1_lt {n p : Nat} (h : p < n) : wrap1 n p < n := by unfold wrap1; split <;> omega
def fnd (T : List Pl) (k : List Int) : Nat → Nat → Option Nat
  | 0, _ => none
  | f + 1, p => match T[p]? with
    | none => none
    | some t => if t.is = 0 then none else if t.is = 1 ∧ t.bs = k then some p else fnd T k f (wrap1 T.length p)
def plc (T : List Pl) (K : Int) (k : List Int) : Option Nat := if (k.length : Int) = K then fnd T k T.length (fnv k % T.length) else none
def plcV : Option Nat → Int
  | none => -1
  | some p => (p : Nat)
theorem fnd_lt {T : List Pl} {k : List Int} : ∀ (f p q : Nat), fnd T k f p = some q → q < T.length ∧ ∃ t, T[q]? = some t ∧ t.is = 1 ∧ t.bs = k
  | 0, _, _, h => by cases h
  | f + 1, p, q, h => by
    unfold fnd at h
    cases hp : T[p]? with
    | none => rw [hp] at h; cases h
    | some t =>
      rw [hp] at h
      dsimp only at h
      split at h
      · cases h
      · split at h
        · rename_i h2
          injection h with h
          subst h
          exact ⟨(List.getElem?_eq_some_iff.1 hp).1, t, hp, h2.1, h2.2⟩
        · exact fnd_lt f _ q h
end Go.Proofs.Ytkaapphlnolelaa
