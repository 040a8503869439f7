/-
  Layer 8's cells: what becomes of the program's memory where one is made, written, dropped, swept away. No conditions.
-/
import Derived.Test.YthdgdkjaeebbcaaCellsMem
namespace Go.Proofs.Ythdgdkjaeebbcaa
set_option maxRecDepth 100000
open Go.RowKit Ow Ph Ro K2
set_option linter.unusedVariables false
set_option linter.unusedSimpArgs false
/-- Behind a call. -/
def Did (w0 : World) (A : Ac) (P : Nat) (L : List Cl) (w : World) : Prop := ∃ A', Lay w0 A' w ∧ PS A' P L ∧ Fr A A'
theorem gt_set {L : List Cl} {j : Nat} {c : Cl} (hj : j < L.length) (hs : c.swept = false) (id : Int) : gt (L.set j c) id = if id = (j : Int) + 1 then some c else gt L id := by
  by_cases h : id = (j : Int) + 1
  · rw [if_pos h, h]
    exact gt_mk (by simp [hj]) hs
  · rw [if_neg h]
    unfold gt
    split
    · rw [List.getElem?_set_ne (by omega)]
    · rfl
theorem gt_app {L : List Cl} {c : Cl} (hs : c.swept = false) (id : Int) : gt (L ++ [c]) id = if id = (L.length : Int) + 1 then some c else gt L id := by
  by_cases h : id = (L.length : Int) + 1
  · rw [if_pos h, h]
    exact gt_mk (by simp) hs
  · rw [if_neg h]
    unfold gt
    split
    · rename_i h1
      by_cases h2 : (id - 1).toNat < L.length
      · rw [List.getElem?_append_left h2]
      · rw [List.getElem?_eq_none (by simp; omega), List.getElem?_eq_none (by omega)]
    · rfl
theorem gt_none_out {L : List Cl} {k : Nat} (h : k = 0 ∨ L.length < k) : gt L (k : Int) = none := by
  unfold gt
  split
  · rw [List.getElem?_eq_none (by omega)]; rfl
  · rfl
theorem CellAt.keep {A A' : Ac} {k q : Nat} {s : Value} {c : Cl} (h : CellAt A k q s c) (h3 : A' (3, k) = A (3, k)) (h4 : A' (4, k) = A (4, k)) : CellAt A' k q s c := ⟨h3.trans h.blk, h.row.keep h4⟩
section
variable {A A' : Ac} {P : Nat} {L : List Cl} {m : Nat} {es : Array MapEntry} {c : Nat} {D : Value} {E : List En} {ds : List Nat}
theorem PSx.keep (h : PSx A P L m es c D E ds) (hk : Fr A' A → False ∨ True) (he : ∀ x : Rl, x.1 < 10 → A' x = A x) : PSx A' P L m es c D E ds :=
  ⟨(he _ (by simp)).trans h.head, (he _ (by simp)).trans h.map_, h.drop.keep (he _ (by simp)), h.ents, fun k q hq => by
    obtain ⟨c, s, h1, h2⟩ := h.cells k q hq
    exact ⟨c, s, h1, h2.keep (he _ (by simp)) (he _ (by simp))⟩, h.all, h.dnd, h.dmem⟩
/-- What is not the program's may be anything else. -/
theorem PS.keep (h : PS A P L) (he : ∀ x : Rl, x.1 < 10 → A' x = A x) : PS A' P L := by
  obtain ⟨m, es, c, D, E, ds, hx⟩ := h
  exact ⟨m, es, c, D, E, ds, hx.keep (fun _ => .inr trivial) he⟩
/-- A cell is written. -/
theorem PSx.wrote (h : PSx A P L m es c D E ds) {k q : Nat} {s : Value} {cl cl' : Cl} (hq : (k, q) ∈ E) (hg : gt L (k : Int) = some cl) (hs : cl'.swept = false) (hgone : cl'.gone = cl.gone) (hc : CellAt A' k q s cl') (he : ∀ x : Rl, x ≠ (3, k) → x ≠ (4, k) → A' x = A x) :
    PSx A' P (L.set (k - 1) cl') m es c D E ds := by
  obtain ⟨h1, h2, h3, h4⟩ := gt_some hg
  have hj : k - 1 < L.length := by omega
  have hk : ((k - 1 : Nat) : Int) + 1 = (k : Int) := by omega
  have hgs : ∀ id, gt (L.set (k - 1) cl') id = if id = (k : Int) then some cl' else gt L id := by
    intro id; rw [gt_set hj hs id, hk]
  refine ⟨?_, ?_, ?_, h.ents, ?_, ?_, h.dnd, ?_⟩
  · rw [List.length_set, he _ (by simp) (by simp)]; exact h.head
  · rw [he _ (by simp) (by simp)]; exact h.map_
  · exact h.drop.keep (he _ (by simp) (by simp))
  · intro k' q' hq'
    rw [hgs]
    by_cases hkk : k' = k
    · subst hkk
      have hqq : q' = q := by
        have hd := h.ents.nodup
        by_cases hne : q' = q
        · exact hne
        · exfalso
          obtain ⟨j, _, hj2⟩ := h.ents.some_ hq
          have := (mem_erase hd hj2 (k', q')).1
          have h5 : (k', q') ∈ E.eraseIdx j := by
            rw [List.mem_eraseIdx_iff_getElem?]
            obtain ⟨i, hi⟩ := List.mem_iff_getElem?.1 hq'
            refine ⟨i, ?_, hi⟩
            intro e
            subst e
            rw [hi] at hj2
            injection hj2 with hj2
            injection hj2 with _ hj2
            exact hne hj2
          exact (this h5).2 rfl
      subst hqq
      exact ⟨cl', s, if_pos rfl, hc⟩
    · obtain ⟨c', s', h5, h6⟩ := h.cells k' q' hq'
      refine ⟨c', s', ?_, h6.keep (he _ (by simp; omega) (by simp)) (he _ (by simp) (by simp; omega))⟩
      rw [if_neg (by omega)]; exact h5
  · intro k' c' hc'
    rw [hgs] at hc'
    by_cases hkk : (k' : Int) = (k : Int)
    · have : k' = k := by omega
      subst this
      exact ⟨q, hq⟩
    · rw [if_neg hkk] at hc'
      exact h.all k' c' hc'
  · intro k'
    rw [h.dmem, hgs]
    by_cases hkk : (k' : Int) = (k : Int)
    · rw [if_pos hkk]
      have : k' = k := by omega
      subst this
      rw [hg]
      simp [hgone]
    · rw [if_neg hkk]
/-- One is made. -/
theorem PSx.made (h : PSx A P L m es c D E ds) {q : Nat} {s : Value} {cl : Cl} (hs : cl.swept = false) (hgone : cl.gone = false) (h0 : A' (0, 0) = some (P, .cells #[.map (some m), D, .int .i64 ((L.length : Int) + 1)] 68))
    (h1 : A' (1, 0) = some (m, .map (es.push ⟨.int .i64 ((L.length : Int) + 1), .pointer (some ⟨q, 0, none⟩), c⟩) (c + 1))) (hc : CellAt A' (L.length + 1) q s cl)
    (he : ∀ x : Rl, x.1 < 10 → x ≠ (0, 0) → x ≠ (1, 0) → x ≠ (3, L.length + 1) → x ≠ (4, L.length + 1) → A' x = A x) :
    PSx A' P (L ++ [cl]) m (es.push ⟨.int .i64 ((L.length : Int) + 1), .pointer (some ⟨q, 0, none⟩), c⟩) (c + 1) D (E ++ [(L.length + 1, q)]) ds := by
  have hk : ∀ e ∈ E, e.1 ≠ L.length + 1 := by
    intro e he' hk
    obtain ⟨c', _, h2, _⟩ := h.cells e.1 e.2 he'
    rw [gt_none_out (.inr (by omega))] at h2
    cases h2
  refine ⟨?_, h1, h.drop.keep (he _ (by simp) (by simp) (by simp) (by simp) (by simp)), ?_, ?_, ?_, h.dnd, ?_⟩
  · rw [h0, List.length_append, List.length_singleton]; push_cast; rfl
  · have := h.ents.push (L.length + 1) q c hk
    push_cast at this
    exact this
  · intro k' q' hq'
    rw [gt_app hs]
    rcases List.mem_append.1 hq' with hq' | hq'
    · have hne := hk _ hq'
      obtain ⟨c', s', h5, h6⟩ := h.cells k' q' hq'
      dsimp only at hne
      refine ⟨c', s', ?_, h6.keep (he _ (by simp) (by simp) (by simp) (by simp; omega) (by simp)) (he _ (by simp) (by simp) (by simp) (by simp) (by simp; omega))⟩
      rw [if_neg (by omega)]; exact h5
    · simp only [List.mem_singleton, Prod.mk.injEq] at hq'
      obtain ⟨rfl, rfl⟩ := hq'
      exact ⟨cl, s, if_pos (by push_cast; rfl), hc⟩
  · intro k' c' hc'
    rw [gt_app hs] at hc'
    by_cases hkk : (k' : Int) = (L.length : Int) + 1
    · have : k' = L.length + 1 := by omega
      subst this
      exact ⟨q, by simp⟩
    · rw [if_neg hkk] at hc'
      obtain ⟨q', hq'⟩ := h.all k' c' hc'
      exact ⟨q', by simp [hq']⟩
  · intro k'
    rw [h.dmem, gt_app hs]
    by_cases hkk : (k' : Int) = (L.length : Int) + 1
    · rw [if_pos hkk, gt_none_out (.inr (by omega))]
      simp [hgone]
    · rw [if_neg hkk]
/-- One is dropped. -/
theorem PSx.dropped (h : PSx A P L m es c D E ds) {k q : Nat} {s D' : Value} {cl cl' : Cl} (hq : (k, q) ∈ E) (hg : gt L (k : Int) = some cl) (hs : cl'.swept = false) (hgone : cl.gone = false) (hgone' : cl'.gone = true)
    (h0 : A' (0, 0) = some (P, .cells #[.map (some m), D', .int .i64 (L.length : Int)] 68)) (hD : Row A' (2, 0) 3 1 D' (ds.length + 1) (dv (ds ++ [k])))
    (hc : CellAt A' k q s cl') (he : ∀ x : Rl, x.1 < 10 → x ≠ (0, 0) → x ≠ (2, 0) → x ≠ (3, k) → x ≠ (4, k) → A' x = A x) :
    PSx A' P (L.set (k - 1) cl') m es c D' E (ds ++ [k]) := by
  obtain ⟨h1, h2, h3, h4⟩ := gt_some hg
  have hj : k - 1 < L.length := by omega
  have hk : ((k - 1 : Nat) : Int) + 1 = (k : Int) := by omega
  have hgs : ∀ id, gt (L.set (k - 1) cl') id = if id = (k : Int) then some cl' else gt L id := by
    intro id; rw [gt_set hj hs id, hk]
  have hkn : k ∉ ds := by
    intro hm
    obtain ⟨c', h5, h6⟩ := (h.dmem k).1 hm
    rw [hg] at h5
    injection h5 with h5
    subst h5
    rw [hgone] at h6
    cases h6
  refine ⟨?_, ?_, ?_, h.ents, ?_, ?_, ?_, ?_⟩
  · rw [List.length_set]; exact h0
  · rw [he _ (by simp) (by simp) (by simp) (by simp) (by simp)]; exact h.map_
  · rw [List.length_append, List.length_singleton]; exact hD
  · intro k' q' hq'
    rw [hgs]
    by_cases hkk : k' = k
    · subst hkk
      have hqq : q' = q := by
        have hd := h.ents.nodup
        by_cases hne : q' = q
        · exact hne
        · exfalso
          obtain ⟨j, _, hj2⟩ := h.ents.some_ hq
          have := (mem_erase hd hj2 (k', q')).1
          have h5 : (k', q') ∈ E.eraseIdx j := by
            rw [List.mem_eraseIdx_iff_getElem?]
            obtain ⟨i, hi⟩ := List.mem_iff_getElem?.1 hq'
            refine ⟨i, ?_, hi⟩
            intro e
            subst e
            rw [hi] at hj2
            injection hj2 with hj2
            injection hj2 with _ hj2
            exact hne hj2
          exact (this h5).2 rfl
      subst hqq
      exact ⟨cl', s, if_pos rfl, hc⟩
    · obtain ⟨c', s', h5, h6⟩ := h.cells k' q' hq'
      refine ⟨c', s', ?_, h6.keep (he _ (by simp) (by simp) (by simp) (by simp; omega) (by simp)) (he _ (by simp) (by simp) (by simp) (by simp) (by simp; omega))⟩
      rw [if_neg (by omega)]; exact h5
  · intro k' c' hc'
    rw [hgs] at hc'
    by_cases hkk : (k' : Int) = (k : Int)
    · have : k' = k := by omega
      subst this
      exact ⟨q, hq⟩
    · rw [if_neg hkk] at hc'
      exact h.all k' c' hc'
  · rw [List.nodup_append]
    exact ⟨h.dnd, by simp, by intro a ha b hb; simp only [List.mem_singleton] at hb; subst hb; intro e; subst e; exact hkn ha⟩
  · intro k'
    rw [List.mem_append, h.dmem, hgs]
    by_cases hkk : (k' : Int) = (k : Int)
    · rw [if_pos hkk]
      have : k' = k := by omega
      subst this
      simp [hgone']
    · rw [if_neg hkk]
      have : k' ≠ k := by omega
      simp [this]
def swL (L : List Cl) : List Cl := L.map fun c => if c.gone then { c with swept := true } else c
theorem gt_swL (L : List Cl) (id : Int) : gt (swL L) id = (gt L id).filter fun c => !c.gone := by
  unfold gt swL
  split
  · rw [List.getElem?_map]
    cases L[(id - 1).toNat]? with
    | none => rfl
    | some c =>
      cases hg : c.gone <;> cases hs : c.swept <;> simp [Option.filter, hg, hs]
  · rfl
/-- All that were dropped are swept away. -/
theorem PSx.swept (h : PSx A P L m es c D E ds) {es' : Array MapEntry} {E' : List En} {c' : Nat} {D' : Value} (h0 : A' (0, 0) = some (P, .cells #[.map (some m), D', .int .i64 (L.length : Int)] 68)) (hD : D' = .slice none 0 0)
    (h1 : A' (1, 0) = some (m, .map es' c')) (hE : Ents es' E') (hE' : ∀ e, e ∈ E' ↔ e ∈ E ∧ e.1 ∉ ds) (he : ∀ x : Rl, x.1 < 10 → x ≠ (0, 0) → x ≠ (1, 0) → A' x = A x) :
    PSx A' P (swL L) m es' c' D' E' [] := by
  refine ⟨?_, h1, ?_, hE, ?_, ?_, List.nodup_nil, ?_⟩
  · rw [h0]; unfold swL; rw [List.length_map]
  · subst hD; exact Row.nil _ _ _ _
  · intro k q hq
    obtain ⟨h2, h3⟩ := (hE' _).1 hq
    obtain ⟨c', s', h5, h6⟩ := h.cells k q h2
    refine ⟨c', s', ?_, h6.keep (he _ (by simp) (by simp) (by simp)) (he _ (by simp) (by simp) (by simp))⟩
    rw [gt_swL, h5]
    have : c'.gone = false := by
      cases hc : c'.gone with
      | false => rfl
      | true => exact absurd ((h.dmem k).2 ⟨c', h5, hc⟩) h3
    simp [Option.filter, this]
  · intro k cl hcl
    rw [gt_swL] at hcl
    cases hg : gt L (k : Int) with
    | none => rw [hg] at hcl; cases hcl
    | some c0 =>
      rw [hg] at hcl
      rw [Option.filter_eq_some_iff] at hcl
      obtain ⟨e, hgn⟩ := hcl
      injection e with e
      subst e
      obtain ⟨q, hq⟩ := h.all k c0 hg
      refine ⟨q, (hE' _).2 ⟨hq, ?_⟩⟩
      intro hm
      obtain ⟨c1, h7, h8⟩ := (h.dmem k).1 hm
      rw [hg] at h7
      injection h7 with h7
      subst h7
      rw [h8] at hgn
      cases hgn
  · intro k
    constructor
    · intro h; simp at h
    · rintro ⟨c1, h7, h8⟩
      rw [gt_swL, Option.filter_eq_some_iff] at h7
      rw [h8] at h7
      simp at h7
theorem PSx.empty (h0 : A (0, 0) = some (P, .cells #[.map (some m), .slice none 0 0, .int .i64 0] 68)) (h1 : A (1, 0) = some (m, .map #[] c)) : PSx A P [] m #[] c (.slice none 0 0) [] [] :=
  ⟨h0, h1, Row.nil _ _ _ _, Ents.nil, fun _ _ h => by simp at h, fun k c h => by have := (gt_some h).2.1; simp at this, List.nodup_nil, fun k => ⟨fun h => by simp at h, fun ⟨c, h, _⟩ => by have := (gt_some h).2.1; simp at this⟩⟩
end
end Go.Proofs.Ythdgdkjaeebbcaa
