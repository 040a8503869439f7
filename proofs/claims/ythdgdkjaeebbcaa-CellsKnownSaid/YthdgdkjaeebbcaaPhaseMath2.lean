/-
  Beats out of lists of times: how far they sway. No program's run.
-/
import Derived.Test.YthdgdkjaeebbcaaPhaseProg2
namespace Go.Proofs.Ythdgdkjaeebbcaa
set_option maxRecDepth 100000
open Go.RowKit Ow Ph
set_option linter.unusedVariables false
def bts (l : List Int) : Bt := l.foldl wrB newB
theorem bts_app (l : List Int) (t : Int) : bts (l ++ [t]) = wrB (bts l) t := by unfold bts; rw [List.foldl_append]; rfl
theorem bts_ind {P : List Int → Bt → Prop} (h0 : P [] newB) (hs : ∀ l t b, P l b → P (l ++ [t]) (wrB b t)) (l : List Int) : P l (bts l) := by
  have key : ∀ n (l : List Int), l.length = n → P l (bts l) := by
    intro n
    induction n with
    | zero => intro l hl; obtain rfl : l = [] := List.length_eq_zero_iff.1 hl; exact h0
    | succ n ih =>
      intro l hl
      have hne : l ≠ [] := by intro e; subst e; simp at hl
      rw [← List.dropLast_concat_getLast hne, bts_app]
      exact hs _ _ _ (ih _ (by rw [List.length_dropLast]; omega))
  exact key _ l rfl
structure OkB (b : Bt) (n : Nat) : Prop where
  len : b.n = n
  sw : b.x.natAbs + b.y.natAbs ≤ n
  par : (n - (b.x.natAbs + b.y.natAbs)) % 2 = 0
theorem OkB.wr {b : Bt} {n : Nat} (h : OkB b n) (t : Int) : OkB (wrB b t) (n + 1) := by
  obtain ⟨h1, h2, h3⟩ := h
  have ha : (ar t = 0 ∧ (ai t = 1 ∨ ai t = -1)) ∨ (ai t = 0 ∧ (ar t = 1 ∨ ar t = -1)) := by
    unfold ar ai
    rcases (by omega : t % 4 = 0 ∨ t % 4 = 1 ∨ t % 4 = 2 ∨ t % 4 = 3) with h | h | h | h <;> simp [h]
  unfold wrB
  refine ⟨by dsimp only; omega, ?_, ?_⟩
  · dsimp only; rcases ha with ⟨a, b | b⟩ | ⟨a, b | b⟩ <;> rw [a, b] <;> omega
  · dsimp only; rcases ha with ⟨a, b | b⟩ | ⟨a, b | b⟩ <;> rw [a, b] <;> omega
theorem bts_ok (l : List Int) : OkB (bts l) l.length := by
  refine bts_ind (P := fun l b => OkB b l.length) ⟨rfl, by decide, by decide⟩ ?_ l
  intro l t b h
  rw [List.length_append]
  exact h.wr t
theorem bts_last (l : List Int) (h : l ≠ []) : (bts l).t = l.getLast h := by
  have e : bts l = bts (l.dropLast ++ [l.getLast h]) := by rw [List.dropLast_concat_getLast]
  rw [e, bts_app]; rfl
theorem bts_t_i64 (l : List Int) (h : ∀ t ∈ l, i64 t) : i64 (bts l).t := by
  cases l with
  | nil => exact ⟨by decide, by decide⟩
  | cons a l => rw [bts_last _ (by simp)]; exact h _ (List.getLast_mem _)
/-- The parts hang on the counts of each kind alone. -/
def cnt (l : List Int) (k : Int) : Nat := (l.filter fun t => t % 4 == k).length
theorem cnt_app (l : List Int) (t k : Int) : (cnt (l ++ [t]) k : Int) = cnt l k + (if t % 4 = k then 1 else 0) := by
  unfold cnt
  rw [List.filter_append, List.length_append]
  by_cases h : t % 4 = k <;> simp [h]
theorem bts_cnt (l : List Int) : (bts l).x = cnt l 0 - cnt l 2 ∧ (bts l).y = cnt l 1 - cnt l 3 := by
  refine bts_ind (P := fun l b => b.x = cnt l 0 - cnt l 2 ∧ b.y = cnt l 1 - cnt l 3) ⟨rfl, rfl⟩ ?_ l
  rintro l t b ⟨h1, h2⟩
  rw [cnt_app, cnt_app, cnt_app, cnt_app]
  unfold wrB ar ai
  dsimp only
  rcases (by omega : t % 4 = 0 ∨ t % 4 = 1 ∨ t % 4 = 2 ∨ t % 4 = 3) with h | h | h | h <;> simp [h] <;> omega
theorem cnt_rev (l : List Int) (k : Int) : cnt l.reverse k = cnt l k := by
  unfold cnt; rw [List.filter_reverse, List.length_reverse]
theorem sw_rev (l : List Int) : swB (bts l.reverse) = swB (bts l) := by
  unfold swB; rw [(bts_cnt l).1, (bts_cnt l).2, (bts_cnt l.reverse).1, (bts_cnt l.reverse).2]; simp only [cnt_rev]
/-- Where the count of times begins. -/
theorem cnt_mv (l : List Int) (f : Int → Int) (d : Int) (hf : ∀ t ∈ l, f t % 4 = (t + d) % 4) (k : Int) (hk : 0 ≤ k ∧ k < 4) : cnt (l.map f) k = cnt l ((k - d) % 4) := by
  unfold cnt
  rw [List.filter_map, List.length_map]
  congr 1
  refine List.filter_congr ?_
  intro t ht
  have := hf t ht
  simp only [Function.comp]
  have h4 : (f t % 4 == k) = (t % 4 == (k - d) % 4) := by
    by_cases h : f t % 4 = k
    · rw [beq_iff_eq.2 h]; symm; rw [beq_iff_eq]; omega
    · have h' : ¬ t % 4 = (k - d) % 4 := by omega
      rw [beq_eq_false_iff_ne.2 h, beq_eq_false_iff_ne.2 h']
  exact h4
theorem sw_mv (l : List Int) (f : Int → Int) (d : Int) (hf : ∀ t ∈ l, f t % 4 = (t + d) % 4) : swB (bts (l.map f)) = swB (bts l) := by
  unfold swB
  rw [(bts_cnt l).1, (bts_cnt l).2, (bts_cnt (l.map f)).1, (bts_cnt (l.map f)).2]
  rw [cnt_mv l f d hf 0 (by decide), cnt_mv l f d hf 1 (by decide), cnt_mv l f d hf 2 (by decide), cnt_mv l f d hf 3 (by decide)]
  rcases (by omega : d % 4 = 0 ∨ d % 4 = 1 ∨ d % 4 = 2 ∨ d % 4 = 3) with h | h | h | h
  · rw [show (0 - d) % 4 = 0 by omega, show (1 - d) % 4 = 1 by omega, show (2 - d) % 4 = 2 by omega, show (3 - d) % 4 = 3 by omega]
  · rw [show (0 - d) % 4 = 3 by omega, show (1 - d) % 4 = 0 by omega, show (2 - d) % 4 = 1 by omega, show (3 - d) % 4 = 2 by omega]; omega
  · rw [show (0 - d) % 4 = 2 by omega, show (1 - d) % 4 = 3 by omega, show (2 - d) % 4 = 0 by omega, show (3 - d) % 4 = 1 by omega]; omega
  · rw [show (0 - d) % 4 = 1 by omega, show (1 - d) % 4 = 2 by omega, show (2 - d) % 4 = 3 by omega, show (3 - d) % 4 = 0 by omega]; omega
theorem sw_two (b : Bt) (k : Int) : swB (wrB (wrB b k) (k + 2)) = swB b := by
  unfold swB wrB ar ai
  dsimp only
  rcases (by omega : k % 4 = 0 ∨ k % 4 = 1 ∨ k % 4 = 2 ∨ k % 4 = 3) with h | h | h | h
  · rw [show (k + 2) % 4 = 2 by omega, h]; simp; omega
  · rw [show (k + 2) % 4 = 3 by omega, h]; simp; omega
  · rw [show (k + 2) % 4 = 0 by omega, h]; simp; omega
  · rw [show (k + 2) % 4 = 1 by omega, h]; simp; omega
/-- Written in step. -/
theorem sw_step (l : List Int) (r : Int) (h : ∀ t ∈ l, t % 4 = r) : swB (bts l) = l.length := by
  have hc : ∀ k, cnt l k = if k = r then l.length else 0 := by
    intro k
    unfold cnt
    by_cases hk : k = r
    · rw [if_pos hk, List.filter_eq_self.2]; intro t ht; simp [h t ht, hk]
    · rw [if_neg hk, List.length_eq_zero_iff, List.filter_eq_nil_iff]; intro t ht; simp [h t ht]; omega
  by_cases hl : l = []
  · subst hl; rfl
  · obtain ⟨t, ht⟩ := List.exists_mem_of_ne_nil l hl
    have hr := h t ht
    unfold swB
    rw [(bts_cnt l).1, (bts_cnt l).2, hc, hc, hc, hc]
    rcases (by omega : r = 0 ∨ r = 1 ∨ r = 2 ∨ r = 3) with e | e | e | e <;> subst e <;> simp
end Go.Proofs.Ythdgdkjaeebbcaa
