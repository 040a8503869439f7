/-
  Memory by roles: which block has which part, and what lies in it. No program, no conditions.
-/
import Derived.Test.YthappjbghlifbaaOwn
import Derived.ChangeMaps4
namespace Go.Proofs.Ythappjbghlifbaa.Ro
set_option maxRecDepth 100000
open Go.RowKit Ow Go.MapKept
set_option linter.unusedVariables false
abbrev Rl := Nat × Nat
abbrev Ac := Rl → Option (Nat × Obj)
def Ac.up (A : Ac) (r : Rl) (b : Nat) (o : Obj) : Ac := fun x => if x = r then some (b, o) else A x
theorem up_same (A : Ac) (r : Rl) (b : Nat) (o : Obj) : A.up r b o r = some (b, o) := if_pos rfl
theorem up_other (A : Ac) {r x : Rl} (b : Nat) (o : Obj) (h : x ≠ r) : A.up r b o x = A x := if_neg h
/-- What has a part lies there as it is told; no block has two parts; nothing of w0 is changed. -/
structure Lay (w0 : World) (A : Ac) (w : World) : Prop where
  below : Below w0.heap.size w0 w
  own : ∀ r b o, A r = some (b, o) → w0.heap.size ≤ b ∧ w.heap[b]? = some o
  inj : ∀ r r' b o o', A r = some (b, o) → A r' = some (b, o') → r = r'
section
variable {w0 w w' : World} {A : Ac} {r : Rl} {b : Nat} {o o' : Obj}
theorem Lay.start (w : World) : Lay w (fun _ => none) w := ⟨Below.refl _ _, (fun _ _ _ h => by cases h), (fun _ _ _ _ _ h => by cases h)⟩
theorem Lay.grow (h : Lay w0 A w) (hb : Below w.heap.size w w') : Lay w0 A w' :=
  ⟨h.below.trans (hb.mono h.below.size), fun r b o e => ⟨(h.own r b o e).1, (hb.block b (lt_of_block (h.own r b o e).2)).trans (h.own r b o e).2⟩, h.inj⟩
theorem Lay.drew (h : Lay w0 A w) : Lay w0 A w.drew := ⟨h.below.drew, h.own, h.inj⟩
theorem Lay.alloc_ (h : Lay w0 A w) (o : Obj) : Lay w0 A (w.alloc o) := h.grow ((Below.refl _ _).alloc (Nat.le_refl _) o)
theorem Lay.put (h : Lay w0 A w) (hr : A r = some (b, o)) (hg : w.grownBy w' (some b)) (ho : w'.heap[b]? = some o') : Lay w0 (A.up r b o') w' := by
  have h0 := (h.own r b o hr).1
  refine ⟨h.below.grown hg h.below.size (fun k hk => by injection hk with hk; omega), fun x c p e => ?_, fun x y c p q e f => ?_⟩
  · by_cases hx : x = r
    · subst hx
      rw [up_same] at e
      injection e with e
      injection e with e1 e2
      subst e1 e2
      exact ⟨h0, ho⟩
    · rw [up_other _ _ _ hx] at e
      have h1 := h.own x c p e
      refine ⟨h1.1, (hg.block c (lt_of_block h1.2) ?_).trans h1.2⟩
      intro hc
      injection hc with hc
      subst hc
      exact hx (h.inj _ _ _ _ _ e hr)
  · by_cases hx : x = r <;> by_cases hy : y = r
    · rw [hx, hy]
    · subst hx
      rw [up_same] at e
      rw [up_other _ _ _ hy] at f
      injection e with e
      injection e with e1 e2
      subst e1
      exact (h.inj _ _ _ _ _ f hr).symm
    · subst hy
      rw [up_same] at f
      rw [up_other _ _ _ hx] at e
      injection f with f
      injection f with e1 e2
      subst e1
      exact h.inj _ _ _ _ _ e hr
    · rw [up_other _ _ _ hx] at e
      rw [up_other _ _ _ hy] at f
      exact h.inj _ _ _ _ _ e f
theorem Lay.new (h : Lay w0 A w) (r : Rl) (hb : Below w.heap.size w w') (hn : w.heap.size ≤ b) (ho : w'.heap[b]? = some o) : Lay w0 (A.up r b o) w' := by
  refine ⟨h.below.trans (hb.mono h.below.size), fun x c p e => ?_, fun x y c p q e f => ?_⟩
  · by_cases hx : x = r
    · subst hx
      rw [up_same] at e
      injection e with e
      injection e with e1 e2
      subst e1 e2
      exact ⟨Nat.le_trans h.below.size hn, ho⟩
    · rw [up_other _ _ _ hx] at e
      have h1 := h.own x c p e
      exact ⟨h1.1, (hb.block c (lt_of_block h1.2)).trans h1.2⟩
  · by_cases hx : x = r <;> by_cases hy : y = r
    · rw [hx, hy]
    · subst hx
      rw [up_same] at e
      rw [up_other _ _ _ hy] at f
      injection e with e
      injection e with e1 e2
      subst e1
      have := lt_of_block (h.own _ _ _ f).2
      omega
    · subst hy
      rw [up_same] at f
      rw [up_other _ _ _ hx] at e
      injection f with f
      injection f with e1 e2
      subst e1
      have := lt_of_block (h.own _ _ _ e).2
      omega
    · rw [up_other _ _ _ hx] at e
      rw [up_other _ _ _ hy] at f
      exact h.inj _ _ _ _ _ e f
/-- A part is given to another block, that is new; the old one is nobody's. -/
theorem Lay.moved (h : Lay w0 A w) {v : Option Nat} (hv : ∀ k, v = some k → ∃ p, A r = some (k, p)) (hg : w.grownBy w' v) (hn : w.heap.size ≤ b) (ho : w'.heap[b]? = some o) : Lay w0 (A.up r b o) w' := by
  refine ⟨h.below.grown hg h.below.size (fun k hk => by obtain ⟨p, hp⟩ := hv k hk; exact (h.own _ _ _ hp).1), fun x c p e => ?_, fun x y c p q e f => ?_⟩
  · by_cases hx : x = r
    · subst hx
      rw [up_same] at e
      injection e with e
      injection e with e1 e2
      subst e1 e2
      exact ⟨Nat.le_trans h.below.size hn, ho⟩
    · rw [up_other _ _ _ hx] at e
      have h1 := h.own x c p e
      refine ⟨h1.1, (hg.block c (lt_of_block h1.2) ?_).trans h1.2⟩
      intro hc
      obtain ⟨p', hp'⟩ := hv c hc.symm
      exact hx (h.inj _ _ _ _ _ e hp')
  · by_cases hx : x = r <;> by_cases hy : y = r
    · rw [hx, hy]
    · subst hx
      rw [up_same] at e
      rw [up_other _ _ _ hy] at f
      injection e with e
      injection e with e1 e2
      subst e1
      have := lt_of_block (h.own _ _ _ f).2
      omega
    · subst hy
      rw [up_same] at f
      rw [up_other _ _ _ hx] at e
      injection f with f
      injection f with e1 e2
      subst e1
      have := lt_of_block (h.own _ _ _ e).2
      omega
    · rw [up_other _ _ _ hx] at e
      rw [up_other _ _ _ hy] at f
      exact h.inj _ _ _ _ _ e f
theorem Lay.obj (h : Lay w0 A w) (hr : A r = some (b, o)) : w.heap[b]? = some o := (h.own r b o hr).2
theorem Lay.base (h : Lay w0 A w) (hr : A r = some (b, o)) : w0.heap.size ≤ b := (h.own r b o hr).1
theorem Lay.bk {t : TypeId} {cs : Array Value} (h : Lay w0 A w) (hr : A r = some (b, .cells cs t)) : Bk w b t cs := (h.own r b _ hr).2
theorem grownBy_set (w : World) (g i : Nat) (u : Value) : w.grownBy (w.setCell ⟨g, i, none⟩ u) (some g) :=
  ⟨rfl, rfl, rfl, by simp [World.setCell], fun j hj hne => Below.heap_setCell w ⟨g, i, none⟩ u j (fun e => hne (congrArg some (show j = g from e)))⟩
theorem Lay.set_ {t : TypeId} {cs : Array Value} (h : Lay w0 A w) (hr : A r = some (b, .cells cs t)) (i : Nat) (u : Value) : Lay w0 (A.up r b (.cells (cs.setIfInBounds i u) t)) (w.setCell ⟨b, i, none⟩ u) :=
  h.put hr (grownBy_set w b i u) ((h.bk hr).set_ i u)
theorem Lay.far (h : Lay w0 A w) {r' : Rl} {b' : Nat} {o' : Obj} (hr : A r = some (b, o)) (hr' : A r' = some (b', o')) (hne : r ≠ r') : b ≠ b' := fun e => by subst e; exact hne (h.inj _ _ _ _ _ hr hr')
def putO (w : World) (b : Nat) (o : Obj) : World := { w with heap := w.heap.setIfInBounds b o }
theorem grownBy_putO (w : World) (b : Nat) (o : Obj) : w.grownBy (putO w b o) (some b) :=
  ⟨rfl, rfl, rfl, by simp [putO], fun j hj hne => by
    have : j ≠ b := fun e => hne (congrArg some e)
    simp [putO, Ne.symm this]⟩
theorem Lay.putO_ (h : Lay w0 A w) (hr : A r = some (b, o)) (o' : Obj) : Lay w0 (A.up r b o') (putO w b o') :=
  h.put hr (grownBy_putO w b o') (heap_set (o' := o') (h.obj hr)).1
end
/-- A slice that is our own: a part has its row. -/
def Row (A : Ac) (r : Rl) (t : TypeId) (s : Nat) (v : Value) (n : Nat) (xs : List Value) : Prop :=
  xs.length = n * s ∧ ((v = .slice none 0 0 ∧ n = 0) ∨ ∃ g cap cur, v = .slice (some ⟨g, 0, none⟩) n cap ∧ A r = some (g, .cells cur t) ∧ n ≤ cap ∧ cap ≤ maxLen ∧ cur.size = cap * s ∧ cur.toList.take (n * s) = xs)
section
variable {w0 w w' : World} {A A' : Ac} {r : Rl} {t : TypeId} {s n n' : Nat} {v v' : Value} {xs xs' : List Value}
theorem Row.own (h : Row A r t s v n xs) (hl : Lay w0 A w) : w.ownsRow w0.heap.size t s v n xs := by
  refine ⟨h.1, ?_⟩
  rcases h.2 with h0 | ⟨g, cap, cur, e, hr, h1, h2, h3, h4⟩
  · exact .inl h0
  · exact .inr ⟨g, cap, cur, e, hl.base hr, hl.obj hr, h1, h2, h3, h4⟩
theorem Row.keep (h : Row A r t s v n xs) (hk : A' r = A r) : Row A' r t s v n xs := by
  refine ⟨h.1, ?_⟩
  rcases h.2 with h0 | ⟨g, cap, cur, e, hr, h1, h2, h3, h4⟩
  · exact .inl h0
  · exact .inr ⟨g, cap, cur, e, hk.trans hr, h1, h2, h3, h4⟩
theorem Row.nil (A : Ac) (r : Rl) (t : TypeId) (s : Nat) : Row A r t s (.slice none 0 0) 0 [] := ⟨by simp, .inl ⟨rfl, rfl⟩⟩
theorem Row.form (h : Row A r t s v n xs) : ∃ a cap, v = .slice a n cap ∧ n ≤ cap ∧ cap ≤ maxLen ∧ (∀ ad, a = some ad → ad = ⟨ad.block, 0, none⟩ ∧ ∃ cur, A r = some (ad.block, .cells cur t) ∧ cur.size = cap * s ∧ cur.toList.take (n * s) = xs) ∧ (a = none → n = 0) := by
  rcases h.2 with ⟨rfl, rfl⟩ | ⟨g, cap, cur, rfl, hr, h1, h2, h3, h4⟩
  · exact ⟨none, 0, rfl, Nat.le_refl _, Nat.zero_le _, (fun _ e => by cases e), fun _ => rfl⟩
  · refine ⟨some ⟨g, 0, none⟩, cap, rfl, h1, h2, (fun ad e => ?_), (fun e => by cases e)⟩
    injection e with e
    subst e
    exact ⟨rfl, cur, hr, h3, h4⟩
theorem Row.form2 (h : Row A r t s v n xs) : ∃ a cap, v = .slice a n cap ∧ n ≤ cap ∧ cap ≤ maxLen ∧ (a = none → n = 0 ∧ cap = 0) := by
  rcases h.2 with ⟨rfl, rfl⟩ | ⟨g, cap, cur, rfl, hr, h1, h2, h3, h4⟩
  · exact ⟨none, 0, rfl, Nat.le_refl _, Nat.zero_le _, fun _ => ⟨rfl, rfl⟩⟩
  · exact ⟨some ⟨g, 0, none⟩, cap, rfl, h1, h2, fun e => by cases e⟩
theorem Row.block (h : Row A r t s v n xs) : ∀ k, v.ownBlock = some k → ∃ p, A r = some (k, p) := by
  intro k hk
  rcases h.2 with ⟨rfl, rfl⟩ | ⟨g, cap, cur, rfl, hr, h1, h2, h3, h4⟩
  · cases hk
  · simp only [Value.ownBlock] at hk; injection hk with hk; subst hk; exact ⟨_, hr⟩
theorem Row.len_le (h : Row A r t s v n xs) : n ≤ maxLen := by
  obtain ⟨_, cap, _, h1, h2, _⟩ := h.form
  omega
/-- Behind an append, or a store into it. -/
theorem Lay.took {base : Nat} (h : Lay w0 A w) (hR : Row A r t s v n xs) (hg : w.grownBy w' v.ownBlock) (ho : w'.ownsRow base t s v' n' xs') (hat : v'.ownBlock = v.ownBlock ∨ ∃ g, v'.ownBlock = some g ∧ w.heap.size ≤ g) :
    ∃ A', Lay w0 A' w' ∧ Row A' r t s v' n' xs' ∧ ∀ x, x ≠ r → A' x = A x := by
  rcases ho.2 with ⟨rfl, rfl⟩ | ⟨g, cap, cur, rfl, hb, ho1, h1, h2, h3, h4⟩
  · rcases hat with e | ⟨g, e, _⟩
    · refine ⟨A, ?_, ⟨ho.1, .inl ⟨rfl, rfl⟩⟩, fun _ _ => rfl⟩
      rw [← e] at hg
      exact h.grow ⟨hg.os, hg.tape, hg.output, hg.size, fun k hk => hg.block k hk (by simp [Value.ownBlock])⟩
    · cases e
  · refine ⟨A.up r g (.cells cur t), ?_, ⟨ho.1, .inr ⟨g, cap, cur, rfl, up_same _ _ _ _, h1, h2, h3, h4⟩⟩, fun x hx => up_other _ _ _ hx⟩
    by_cases hv : v.ownBlock = some g
    · obtain ⟨p, hp⟩ := hR.block g hv
      rw [hv] at hg
      exact h.put hp hg ho1
    · rcases hat with e | ⟨g', e, hg'⟩
      · exact absurd e.symm hv
      · simp only [Value.ownBlock] at e
        injection e with e
        subst e
        exact h.moved hR.block hg hg' ho1
/-- A row that is new. -/
theorem Lay.newRow {base : Nat} (h : Lay w0 A w) (r : Rl) (hb : Below w.heap.size w w') (ho : w'.ownsRow base t s v' n' xs') (hbase : w.heap.size ≤ base) :
    ∃ A', Lay w0 A' w' ∧ Row A' r t s v' n' xs' ∧ ∀ x, x ≠ r → A' x = A x := by
  rcases ho.2 with ⟨rfl, rfl⟩ | ⟨g, cap, cur, rfl, hg, ho1, h1, h2, h3, h4⟩
  · exact ⟨A, h.grow hb, ⟨ho.1, .inl ⟨rfl, rfl⟩⟩, fun _ _ => rfl⟩
  · exact ⟨A.up r g (.cells cur t), h.new r hb (by omega) ho1, ⟨ho.1, .inr ⟨g, cap, cur, rfl, up_same _ _ _ _, h1, h2, h3, h4⟩⟩, fun x hx => up_other _ _ _ hx⟩
/-- A slice that reads as xs, whoever has it: it lies in w0, or has a part. -/
def Reads (w0 : World) (A : Ac) (r : Rl) (a : Option Addr) (xs : List Value) : Prop :=
  0 < xs.length → ∃ ad, a = some ad ∧ ((ad.block < w0.heap.size ∧ ∀ j u, xs[j]? = some u → w0.cell? (ad.add j) = some u) ∨
    ∃ o, A r = some (ad.block, o) ∧ ∀ w' : World, w'.heap[ad.block]? = some o → ∀ j u, xs[j]? = some u → w'.cell? (ad.add j) = some u)
theorem Reads.rd {a : Option Addr} (h : Reads w0 A r a xs) (hl : Lay w0 A w) : Rd w w.heap.size a xs := fun hx => by
  obtain ⟨ad, e, ⟨h1, h2⟩ | ⟨o, h1, h2⟩⟩ := h hx
  · have := hl.below.size
    exact ⟨ad, e, by omega, fun j u hu => (hl.below.cell (by rw [add_block]; exact h1)).trans (h2 j u hu)⟩
  · exact ⟨ad, e, lt_of_block (hl.obj h1), h2 w (hl.obj h1)⟩
theorem Reads.keep {a : Option Addr} (h : Reads w0 A r a xs) (hk : A' r = A r) : Reads w0 A' r a xs := fun hx => by
  obtain ⟨ad, e, h1 | ⟨o, h1, h2⟩⟩ := h hx
  · exact ⟨ad, e, .inl h1⟩
  · exact ⟨ad, e, .inr ⟨o, hk.trans h1, h2⟩⟩
theorem Reads.old {a : Option Addr} (h : Rd w0 w0.heap.size a xs) (A : Ac) (r : Rl) : Reads w0 A r a xs := fun hx => by
  obtain ⟨ad, e, h1, h2⟩ := h hx
  exact ⟨ad, e, .inl ⟨h1, h2⟩⟩
theorem Row.reads {a : Option Addr} {cap : Nat} (h : Row A r t s (.slice a n cap) n xs) : Reads w0 A r a xs := fun hx => by
  rcases h.2 with ⟨e, rfl⟩ | ⟨g, cap', cur, e, hr, h1, h2, h3, h4⟩
  · have := h.1; omega
  · injection e with e1 e2 e3
    subst e1
    refine ⟨_, rfl, .inr ⟨_, hr, fun w' hw j u hu => ?_⟩⟩
    have hb : Bk w' g t cur := hw
    have e0 : (⟨g, 0, none⟩ : Addr).add j = ⟨g, j, none⟩ := by unfold Addr.add; split <;> simp_all
    rw [e0, hb.cell, ← Array.getElem?_toList, ← hu, ← h4, List.getElem?_take, if_pos]
    have := (List.getElem?_eq_some_iff.1 hu).1
    have := h.1
    omega
theorem Reads.take {a : Option Addr} (h : Reads w0 A r a xs) (n : Nat) : Reads w0 A r a (xs.take n) := fun hx => by
  rw [List.length_take] at hx
  have key : ∀ {j : Nat} {u : Value}, (xs.take n)[j]? = some u → xs[j]? = some u := by
    intro j u hu
    rw [List.getElem?_take] at hu
    split at hu
    · exact hu
    · cases hu
  obtain ⟨ad, e, ⟨h1, h2⟩ | ⟨o, h1, h2⟩⟩ := h (by omega)
  · exact ⟨ad, e, .inl ⟨h1, fun j u hu => h2 j u (key hu)⟩⟩
  · exact ⟨ad, e, .inr ⟨o, h1, fun w' hw j u hu => h2 w' hw j u (key hu)⟩⟩
end
theorem add_zero_at (g j : Nat) : (⟨g, 0, none⟩ : Addr).add j = ⟨g, j, none⟩ := by unfold Addr.add; split <;> simp_all
/-- A row of our own, one cell an element: what is at a place; a store there. -/
theorem own_ad {w : World} {base : Nat} {e : TypeId} {n cap : Nat} {xs : List Value} {ad : Addr} (h : w.ownsRow base e 1 (.slice (some ad) n cap) n xs) : ∃ g, ad = ⟨g, 0, none⟩ := by
  rcases h.2 with ⟨h', _⟩ | ⟨g', cap', cur, h', _⟩
  · simp at h'
  · simp only [Value.slice.injEq, Option.some.injEq] at h'
    exact ⟨g', h'.1⟩
theorem own_at {w : World} {base : Nat} {e : TypeId} {n cap : Nat} {xs : List Value} {ad : Addr} (h : w.ownsRow base e 1 (.slice (some ad) n cap) n xs) (j : Nat) (hj : j < n) : w.cell? (ad.add j) = xs[j]? ∧ w.frozen? (ad.add j) = false := by
  obtain ⟨g, rfl⟩ := own_ad h
  rw [add_zero_at]
  exact ⟨h.cellAt j (by omega), h.frozenAt j⟩
theorem own_put {w : World} {base : Nat} {e : TypeId} {n cap : Nat} {xs : List Value} {ad : Addr} (h : w.ownsRow base e 1 (.slice (some ad) n cap) n xs) (j : Nat) (u : Value) : (w.setCell (ad.add j) u).ownsRow base e 1 (.slice (some ad) n cap) n (xs.set j u) ∧ w.grownBy (w.setCell (ad.add j) u) (some ad.block) := by
  obtain ⟨g, rfl⟩ := own_ad h
  rw [add_zero_at]
  exact h.stored j u
/-- A store into a row that is our own. -/
theorem Row.put {w0 w : World} {A : Ac} {r : Rl} {t : TypeId} {n cap : Nat} {ad : Addr} {xs : List Value} (h : Row A r t 1 (.slice (some ad) n cap) n xs) (hl : Lay w0 A w) (j : Nat) (u : Value) :
    ∃ A', Lay w0 A' (w.setCell (ad.add j) u) ∧ Row A' r t 1 (.slice (some ad) n cap) n (xs.set j u) ∧ ∀ x, x ≠ r → A' x = A x := by
  obtain ⟨h1, h2⟩ := own_put (h.own hl) j u
  exact hl.took h h2 h1 (.inl rfl)
/-! ### Maps from numbers to pointers -/
abbrev En := Nat × Nat
def kv (e : En) : Value × Value := (.int .i64 e.1, .pointer (some ⟨e.2, 0, none⟩))
structure Ents (es : Array MapEntry) (E : List En) : Prop where
  are : es.toList.map (fun x => (x.key, x.val)) = E.map kv
  nodup : (E.map (·.1)).Nodup
theorem find_none (n : Int) : ∀ (l : List MapEntry) (E : List En) (i : Nat), l.map (fun x => (x.key, x.val)) = E.map kv → (∀ e ∈ E, (e.1 : Int) ≠ n) → Instr.findNow (.int .i64) (.int .i64 n) l i = some none
  | [], _, _, _, _ => rfl
  | x :: l, [], _, h, _ => by simp at h
  | x :: l, e :: E, i, h, hn => by
    simp only [List.map_cons, List.cons.injEq, kv, Prod.mk.injEq] at h
    obtain ⟨⟨h1, h2⟩, h3⟩ := h
    have h0 : (n == (e.1 : Int)) = false := beq_eq_false_iff_ne.2 (hn e (by simp)).symm
    unfold Instr.findNow
    rw [h1]
    simp only [Instr.sameNow, if_true, h0]
    exact find_none n l E (i + 1) h3 (fun e he => hn e (by simp [he]))
theorem find_some (k q : Nat) : ∀ (l : List MapEntry) (E : List En) (i : Nat), l.map (fun x => (x.key, x.val)) = E.map kv → (E.map (·.1)).Nodup → (k, q) ∈ E →
    ∃ j, Instr.findNow (.int .i64) (.int .i64 (k : Int)) l i = some (some (i + j, .pointer (some ⟨q, 0, none⟩))) ∧ E[j]? = some (k, q)
  | _, [], _, _, _, hm => by simp at hm
  | [], e :: E, _, h, _, _ => by simp at h
  | x :: l, e :: E, i, h, hd, hm => by
    simp only [List.map_cons, List.cons.injEq, kv, Prod.mk.injEq] at h
    obtain ⟨⟨h1, h2⟩, h3⟩ := h
    rw [List.map_cons, List.nodup_cons] at hd
    unfold Instr.findNow
    rw [h1, h2]
    by_cases he : e.1 = k
    · have e2 : e = (k, q) := by
        rcases List.mem_cons.1 hm with h | h
        · exact h.symm
        · exact absurd (List.mem_map.2 ⟨_, h, he.symm⟩) hd.1
      subst e2
      refine ⟨0, ?_, rfl⟩
      simp [Instr.sameNow]
    · have h0 : ((k : Int) == (e.1 : Int)) = false := beq_eq_false_iff_ne.2 (by omega)
      simp only [Instr.sameNow, if_true, h0]
      have hm2 : (k, q) ∈ E := by
        rcases List.mem_cons.1 hm with h | h
        · exact absurd (by rw [← h]) he
        · exact h
      obtain ⟨j, h4, h5⟩ := find_some k q l E (i + 1) h3 hd.2 hm2
      exact ⟨j + 1, by rw [h4, show i + 1 + j = i + (j + 1) by omega], by simpa using h5⟩
section
variable {es : Array MapEntry} {E : List En}
theorem Ents.none_ (h : Ents es E) (n : Int) (hn : ∀ e ∈ E, (e.1 : Int) ≠ n) : Instr.findNow (.int .i64) (.int .i64 n) es.toList 0 = some none := find_none n _ _ _ h.are hn
theorem Ents.some_ (h : Ents es E) {k q : Nat} (hm : (k, q) ∈ E) : ∃ j, Instr.findNow (.int .i64) (.int .i64 (k : Int)) es.toList 0 = some (some (j, .pointer (some ⟨q, 0, none⟩))) ∧ E[j]? = some (k, q) := by
  obtain ⟨j, h1, h2⟩ := find_some k q _ _ 0 h.are h.nodup hm
  exact ⟨j, by rw [h1, Nat.zero_add], h2⟩
theorem Ents.size (h : Ents es E) : es.size = E.length := by
  have := congrArg List.length h.are
  simpa using this
theorem Ents.nil : Ents #[] [] := ⟨rfl, List.nodup_nil⟩
theorem Ents.push (h : Ents es E) (k q c : Nat) (hk : ∀ e ∈ E, e.1 ≠ k) : Ents (es.push ⟨.int .i64 (k : Int), .pointer (some ⟨q, 0, none⟩), c⟩) (E ++ [(k, q)]) := by
  refine ⟨?_, ?_⟩
  · rw [Array.toList_push, List.map_append, List.map_append, h.are]; rfl
  · rw [List.map_append, List.map_cons, List.map_nil, List.nodup_append]
    refine ⟨h.nodup, by simp, ?_⟩
    intro a ha b hb
    simp only [List.mem_singleton] at hb
    subst hb
    obtain ⟨x, hx, rfl⟩ := List.mem_map.1 ha
    exact hk x hx
theorem Ents.erase (h : Ents es E) (j : Nat) : Ents (es.eraseIdxIfInBounds j) (E.eraseIdx j) := by
  have e1 : (es.eraseIdxIfInBounds j).toList = es.toList.eraseIdx j := by
    unfold Array.eraseIdxIfInBounds
    split
    · simp
    · rename_i hj; rw [List.eraseIdx_of_length_le (by simpa using Nat.le_of_not_lt hj)]
  refine ⟨?_, ?_⟩
  · rw [e1, Go.ChangeMaps.map_eraseIdx, Go.ChangeMaps.map_eraseIdx, h.are]
  · rw [Go.ChangeMaps.map_eraseIdx]; exact h.nodup.sublist (List.eraseIdx_sublist _ _)
theorem mem_erase {k q j : Nat} (hd : (E.map (·.1)).Nodup) (hj : E[j]? = some (k, q)) (e : En) : e ∈ E.eraseIdx j ↔ e ∈ E ∧ e.1 ≠ k := by
  induction E generalizing j with
  | nil => simp at hj
  | cons x E ih =>
    rw [List.map_cons, List.nodup_cons] at hd
    cases j with
    | zero =>
      simp only [List.getElem?_cons_zero, Option.some.injEq] at hj
      subst hj
      rw [List.eraseIdx_cons_zero, List.mem_cons]
      constructor
      · intro h
        exact ⟨.inr h, fun e' => hd.1 (List.mem_map.2 ⟨e, h, e'⟩)⟩
      · rintro ⟨rfl | h, h2⟩
        · exact absurd rfl h2
        · exact h
    | succ j =>
      rw [List.getElem?_cons_succ] at hj
      rw [List.eraseIdx_cons_succ, List.mem_cons, ih hd.2 hj, List.mem_cons]
      have hx : x.1 ≠ k := fun e' => hd.1 (List.mem_map.2 ⟨(k, q), List.mem_of_getElem? hj, e'.symm⟩)
      constructor
      · rintro (rfl | ⟨h1, h2⟩)
        · exact ⟨.inl rfl, hx⟩
        · exact ⟨.inr h1, h2⟩
      · rintro ⟨rfl | h1, h2⟩
        · exact .inl rfl
        · exact .inr ⟨h1, h2⟩
end
section
variable {P : Program} {w : World} {t k e : TypeId} {r c : Nat} {es : Array MapEntry} {E : List En} {n : Int} {v : Value}
theorem run_ins (ht : P.underlying t = some (.map k e)) (hk : P.underlying k = some (.int .i64)) (hb : w.heap[r]? = some (.map es c)) (hf : Instr.findNow (.int .i64) (.int .i64 n) es.toList 0 = some none) :
    (Instr.mapUpdate t (.map (some r)) (.int .i64 n) v).run P w = .ok () (putO w r (.map (es.push ⟨.int .i64 n, v, c⟩) (c + 1))) := by
  simp [Instr.mapUpdate, run_underlying ht, Go.MapKept.run_getObj_map hb, run_checkKey (k := .int .i64 n) hk rfl, run_findKey hk hf, Go.MapKept.run_setObj_map _ hb, Result.andThen, putO]
theorem run_look (ht : P.underlying t = some (.map k e)) (hk : P.underlying k = some (.int .i64)) (hb : w.heap[r]? = some (.map es c)) {i : Nat} (hf : Instr.findNow (.int .i64) (.int .i64 n) es.toList 0 = some (some (i, v))) :
    (Instr.lookup t (.map (some r)) (.int .i64 n) true).run P w = .ok (.tuple #[v, .bool true]) w := by
  simp [Instr.lookup, run_underlying ht, Go.MapKept.run_getObj_map hb, run_checkKey (k := .int .i64 n) hk rfl, run_findKey hk hf, Result.andThen]
theorem run_none (ht : P.underlying t = some (.map k e)) (hk : P.underlying k = some (.int .i64)) (hb : w.heap[r]? = some (.map es c)) (hz : (zeroValue e).run P w = .ok v w) (hf : Instr.findNow (.int .i64) (.int .i64 n) es.toList 0 = some none) :
    (Instr.lookup t (.map (some r)) (.int .i64 n) true).run P w = .ok (.tuple #[v, .bool false]) w := by
  simp [Instr.lookup, run_underlying ht, Go.MapKept.run_getObj_map hb, run_checkKey (k := .int .i64 n) hk rfl, run_findKey hk hf, Result.andThen, hz]
theorem run_del (ht : P.underlying t = some (.map k e)) (hk : P.underlying k = some (.int .i64)) (hb : w.heap[r]? = some (.map es c)) {i : Nat} (hf : Instr.findNow (.int .i64) (.int .i64 n) es.toList 0 = some (some (i, v))) (t2 y : TypeId) :
    (Builtin.delete_ #[t, t2] y #[.map (some r), .int .i64 n]).run P w = .ok (.tuple #[]) (putO w r (.map (es.eraseIdxIfInBounds i) c)) := by
  simp [Builtin.delete_, run_underlying ht, Go.MapKept.run_getObj_map hb, run_checkKey (k := .int .i64 n) hk rfl, run_findKey hk hf, Go.MapKept.run_setObj_map _ hb, Result.andThen, putO]
theorem run_lenm (ht : P.underlying t = some (.map k e)) (hb : w.heap[r]? = some (.map es c)) (ty : TypeId) : (Builtin.len_ #[t] ty #[.map (some r)]).run P w = .ok (.int .i64 es.size) w := by
  simp [Builtin.len_, run_underlying ht, Go.MapKept.run_getObj_map hb, goInt, Result.andThen]
end
end Go.Proofs.Ythappjbghlifbaa.Ro
