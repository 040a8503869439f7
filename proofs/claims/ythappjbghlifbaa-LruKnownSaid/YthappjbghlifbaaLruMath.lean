/-
  Layer 11's document: its rows in the order in which they were used. Mathematics; no program.
-/
import Derived.Test.YthappjbghlifbaaLruKeys
namespace Go.Proofs.Ythappjbghlifbaa
set_option maxRecDepth 100000
open Go.RowKit Ow Ro K2
set_option linter.unusedVariables false
set_option linter.unusedSimpArgs false
def atU (u : Int) (e : Rw) : Bool := e.u == u
/-- The rows, the one that was used last first. -/
def ordR (l : List Rw) : Nat → List Rw
  | 0 => []
  | u + 1 => l.filter (atU ((u + 1 : Nat) : Int)) ++ ordR l u
def OD (l : List Rw) (n : Nat) : List (List Int × Int) := (ordR l n).map fun e => (e.k, e.c)
theorem keysD_ord (l : List Rw) (n : Nat) : keysD l n = (OD l n).map (·.1) := by
  unfold OD
  rw [List.map_map]
  induction n with
  | zero => rfl
  | succ n ih =>
    unfold keysD ordR
    rw [List.map_append, ih]
    unfold kin
    rw [List.take_length]
    rfl
structure LG (K M : Int) (n : Nat) (l : List Rw) : Prop where
  uses : ∀ e ∈ l, 1 ≤ e.u ∧ e.u ≤ (n : Nat)
  du : l.Pairwise fun a b => a.u ≠ b.u
  dk : l.Pairwise fun a b => a.k ≠ b.k
  len : ∀ e ∈ l, (e.k.length : Int) = K
  small : (l.length : Int) ≤ M
theorem ordR_mem {l : List Rw} {n : Nat} {e : Rw} : e ∈ ordR l n ↔ e ∈ l ∧ 1 ≤ e.u ∧ e.u ≤ (n : Nat) := by
  induction n with
  | zero => simp only [ordR, List.not_mem_nil, false_iff]; omega
  | succ n ih =>
    unfold ordR
    rw [List.mem_append, ih, List.mem_filter]
    unfold atU
    rw [beq_iff_eq]
    constructor
    · rintro (⟨h, e⟩ | ⟨h, h1, h2⟩)
      · exact ⟨h, by omega, by omega⟩
      · exact ⟨h, h1, by omega⟩
    · rintro ⟨h, h1, h2⟩
      by_cases e' : e.u = ((n + 1 : Nat) : Int)
      · exact .inl ⟨h, e'⟩
      · exact .inr ⟨h, h1, by omega⟩
theorem ordR_congr {l m : List Rw} {n : Nat} (h : ∀ u : Nat, 1 ≤ u → u ≤ n → l.filter (atU (u : Nat)) = m.filter (atU (u : Nat))) : ordR l n = ordR m n := by
  induction n with
  | zero => rfl
  | succ n ih =>
    unfold ordR
    rw [h (n + 1) (by omega) (Nat.le_refl _), ih (fun u h1 h2 => h u h1 (by omega))]
theorem ordR_nil {l : List Rw} {n : Nat} (h : ∀ e ∈ l, (n : Int) < e.u) : ordR l n = [] := by
  rw [List.eq_nil_iff_forall_not_mem]
  intro e he
  have := ordR_mem.1 he
  have := h e this.1
  omega
theorem ordR_filter (P : Rw → Bool) (l : List Rw) (n : Nat) : ordR (l.filter P) n = (ordR l n).filter P := by
  induction n with
  | zero => rfl
  | succ n ih =>
    unfold ordR
    rw [List.filter_append, ih, List.filter_filter, List.filter_filter]
    congr 1
    apply List.filter_congr
    intro x _
    rw [Bool.and_comm]
theorem filter_set {Q : Rw → Bool} {x : Rw} (hx : Q x = false) : ∀ (l : List Rw) (p : Nat), (l.set p x).filter Q = (l.eraseIdx p).filter Q
  | [], p => by simp
  | y :: l, 0 => by simp [hx]
  | y :: l, p + 1 => by
    rw [List.set_cons_succ, List.eraseIdx_cons_succ, List.filter_cons, List.filter_cons, filter_set hx l p]
theorem filter_set_one {Q : Rw → Bool} {x : Rw} (hx : Q x = true) : ∀ (l : List Rw) (p : Nat), p < l.length → (∀ e ∈ l, Q e = false) → (l.set p x).filter Q = [x]
  | [], p, h, _ => by simp at h
  | y :: l, 0, _, h => by
    rw [List.set_cons_zero, List.filter_cons, if_pos hx, List.filter_eq_nil_iff.2 (fun e he => by rw [h e (List.mem_cons_of_mem _ he)]; simp)]
  | y :: l, p + 1, h1, h => by
    rw [List.set_cons_succ, List.filter_cons, if_neg (by rw [h y (List.mem_cons_self ..)]; simp), filter_set_one hx l p (by simpa using h1) (fun e he => h e (List.mem_cons_of_mem _ he))]
theorem filter_erase {Q : Rw → Bool} : ∀ (l : List Rw) (p : Nat) (x : Rw), l[p]? = some x → Q x = false → l.filter Q = (l.eraseIdx p).filter Q
  | [], p, x, h, _ => by simp at h
  | y :: l, 0, x, h, hx => by
    simp only [List.getElem?_cons_zero, Option.some.injEq] at h
    subst h
    simp [hx]
  | y :: l, p + 1, x, h, hx => by
    rw [List.eraseIdx_cons_succ, List.filter_cons, List.filter_cons, filter_erase l p x (by simpa using h) hx]
theorem filter_keep {α : Type} {R : α → α → Prop} {Q : α → Bool} : ∀ (l : List α) (p : Nat) (x : α), l.Pairwise R → l[p]? = some x → Q x = false → (∀ y ∈ l, (R x y ∨ R y x) → Q y = true) → l.eraseIdx p = l.filter Q
  | [], p, x, _, h, _, _ => by simp at h
  | y :: l, 0, x, hp, h, hx, hq => by
    simp only [List.getElem?_cons_zero, Option.some.injEq] at h
    subst h
    rw [List.filter_cons, if_neg (by rw [hx]; simp), List.eraseIdx_cons_zero, List.filter_eq_self.2]
    intro z hz
    exact hq z (List.mem_cons_of_mem _ hz) (.inl ((List.pairwise_cons.1 hp).1 z hz))
  | y :: l, p + 1, x, hp, h, hx, hq => by
    rw [List.getElem?_cons_succ] at h
    have hp2 := List.pairwise_cons.1 hp
    rw [List.eraseIdx_cons_succ, List.filter_cons, if_pos (hq y (List.mem_cons_self ..) (.inr (hp2.1 x (List.mem_of_getElem? h)))), filter_keep l p x hp2.2 h hx (fun z hz => hq z (List.mem_cons_of_mem _ hz))]
section
variable {K M : Int} {n : Nat} {l : List Rw}
/-- A row that is put. -/
theorem ordR_put (h : ∀ e ∈ l, e.u ≤ (n : Nat)) (x : Rw) (hx : x.u = ((n + 1 : Nat) : Int)) : ordR (l ++ [x]) (n + 1) = x :: ordR l n := by
  show (l ++ [x]).filter (atU ((n + 1 : Nat) : Int)) ++ ordR (l ++ [x]) n = _
  have e1 : (l ++ [x]).filter (atU ((n + 1 : Nat) : Int)) = [x] := by
    rw [List.filter_append, List.filter_eq_nil_iff.2 (fun e he => by unfold atU; have := h e he; simp; omega)]
    simp [atU, hx]
  have e2 : ordR (l ++ [x]) n = ordR l n := ordR_congr fun u h1 h2 => by
    rw [List.filter_append]
    have : [x].filter (atU (u : Nat)) = [] := by rw [List.filter_eq_nil_iff]; intro e he; rw [List.mem_singleton] at he; subst he; unfold atU; simp; omega
    rw [this, List.append_nil]
  rw [e1, e2]
  rfl
/-- A row that is used. -/
theorem ordR_used (h : ∀ e ∈ l, e.u ≤ (n : Nat)) (p : Nat) (hp : p < l.length) (x : Rw) (hx : x.u = ((n + 1 : Nat) : Int)) : ordR (l.set p x) (n + 1) = x :: ordR (l.eraseIdx p) n := by
  show (l.set p x).filter (atU ((n + 1 : Nat) : Int)) ++ ordR (l.set p x) n = _
  have e1 : (l.set p x).filter (atU ((n + 1 : Nat) : Int)) = [x] := filter_set_one (by simp [atU, hx]) l p hp (fun e he => by have := h e he; simp [atU]; omega)
  have e2 : ordR (l.set p x) n = ordR (l.eraseIdx p) n := ordR_congr fun u h1 h2 => filter_set (by simp [atU]; omega) l p
  rw [e1, e2]
  rfl
/-- A row that goes. -/
theorem OD_erase (h : LG K M n l) {p : Nat} {x : Rw} (hx : l[p]? = some x) : OD (l.eraseIdx p) n = (OD l n).filter fun e => e.1 != x.k := by
  have e1 : l.eraseIdx p = l.filter fun e => e.k != x.k := filter_keep l p x h.dk hx (by simp) (fun y hy hR => by
    rw [bne_iff_ne]
    rcases hR with h1 | h1
    · exact fun e => h1 e.symm
    · exact h1)
  unfold OD
  rw [e1, ordR_filter, List.filter_map]
  rfl
theorem OD_put (h : LG K M n l) (u : Value) (ks : List Int) (c : Int) (t : Nat) : OD (l ++ [⟨u, ks, c, ((n + 1 : Nat) : Int), t⟩]) (n + 1) = (ks, c) :: OD l n := by
  unfold OD
  rw [ordR_put (fun e he => (h.uses e he).2) _ rfl]
  rfl
theorem OD_used (h : LG K M n l) {p : Nat} {x : Rw} (hx : l[p]? = some x) : OD (l.set p (usd x ((n + 1 : Nat) : Int))) (n + 1) = (x.k, x.c) :: (OD l n).filter fun e => e.1 != x.k := by
  have hp := (List.getElem?_eq_some_iff.1 hx).1
  rw [← OD_erase h hx]
  unfold OD
  rw [ordR_used (fun e he => (h.uses e he).2) p hp (usd x ((n + 1 : Nat) : Int)) rfl]
  rfl
/-- Who goes is the last one. -/
theorem ordR_last {q : Nat} {x : Rw} (hx : l[q]? = some x) (hu : 1 ≤ x.u ∧ x.u ≤ (n : Nat)) (hl : ∀ e ∈ l, x.u ≤ e.u) (hd : l.Pairwise fun a b => a.u ≠ b.u) : ordR l n = ordR (l.eraseIdx q) n ++ [x] := by
  have e1 : l.eraseIdx q = l.filter fun e => e.u != x.u := filter_keep l q x hd hx (by simp) (fun y hy hR => by
    rw [bne_iff_ne]
    rcases hR with h1 | h1
    · exact fun e => h1 e.symm
    · exact h1)
  obtain ⟨u, hu2⟩ : ∃ u : Nat, x.u = ((u + 1 : Nat) : Int) := ⟨x.u.toNat - 1, by omega⟩
  have main : ∀ m, u + 1 ≤ m → ordR l m = ordR (l.eraseIdx q) m ++ [x] := by
    intro m hm
    induction m with
    | zero => omega
    | succ m ih =>
      by_cases e : m = u
      · subst e
        have a1 : ordR l m = [] := ordR_nil fun e he => by have := hl e he; omega
        have a2 : ordR (l.eraseIdx q) m = [] := ordR_nil fun e he => by have := hl e (List.mem_of_mem_eraseIdx he); omega
        have a3 : (l.eraseIdx q).filter (atU ((m + 1 : Nat) : Int)) = [] := by
          rw [List.filter_eq_nil_iff]
          intro e he
          rw [e1, List.mem_filter, bne_iff_ne] at he
          unfold atU
          rw [beq_iff_eq, ← hu2]
          exact he.2
        have a4 : l.filter (atU ((m + 1 : Nat) : Int)) = [x] := by
          have b1 : l.set q x = l := by
            apply List.ext_getElem?
            intro i
            by_cases e : q = i
            · subst e
              rw [List.getElem?_set_self (List.getElem?_eq_some_iff.1 hx).1, hx]
            · rw [List.getElem?_set_ne e]
          have b2 : ∀ (l : List Rw) (q : Nat), l[q]? = some x → (l.eraseIdx q).filter (atU ((m + 1 : Nat) : Int)) = [] → l.filter (atU ((m + 1 : Nat) : Int)) = [x] := by
            intro l
            induction l with
            | nil => intro q h; simp at h
            | cons y l ih2 =>
              intro q h h2
              cases q with
              | zero =>
                simp only [List.getElem?_cons_zero, Option.some.injEq] at h
                subst h
                rw [List.eraseIdx_cons_zero] at h2
                rw [List.filter_cons, if_pos (by simp [atU, hu2]), h2]
              | succ q =>
                rw [List.eraseIdx_cons_succ, List.filter_cons] at h2
                rw [List.getElem?_cons_succ] at h
                by_cases hy : atU ((m + 1 : Nat) : Int) y = true
                · rw [if_pos hy] at h2; cases h2
                · rw [if_neg hy] at h2
                  rw [List.filter_cons, if_neg hy, ih2 q h h2]
          exact b2 l q hx a3
        show l.filter _ ++ ordR l m = ((l.eraseIdx q).filter _ ++ ordR (l.eraseIdx q) m) ++ [x]
        rw [a1, a2, a3, a4]
        rfl
      · show l.filter _ ++ ordR l m = ((l.eraseIdx q).filter _ ++ ordR (l.eraseIdx q) m) ++ [x]
        rw [ih (by omega), filter_erase l q x hx (by unfold atU; rw [beq_eq_false_iff_ne, hu2]; omega), List.append_assoc]
  exact main n (by omega)
theorem OD_last (h : LG K M n l) {x : Rw} (hx : l[mnt l l.length]? = some x) : OD l n = OD (l.eraseIdx (mnt l l.length)) n ++ [(x.k, x.c)] := by
  have hm := h.uses x (List.mem_of_getElem? hx)
  have hl : ∀ e ∈ l, x.u ≤ e.u := fun e he => by
    obtain ⟨j, hj, rfl⟩ := List.getElem_of_mem he
    have h1 := mnt_least l l.length j hj
    rw [List.getD_eq_getElem?_getD, List.getD_eq_getElem?_getD, hx, List.getElem?_eq_getElem hj] at h1
    exact h1
  unfold OD
  rw [ordR_last hx hm hl h.du, List.map_append]
  rfl
end
end Go.Proofs.Ythappjbghlifbaa
