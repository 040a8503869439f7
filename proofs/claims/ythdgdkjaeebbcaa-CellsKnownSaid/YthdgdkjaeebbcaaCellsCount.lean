/-
  How many cells there are, dropped, not dropped. No program's run.
-/
import Derived.Test.YthdgdkjaeebbcaaCellsMath2
namespace Go.Proofs.Ythdgdkjaeebbcaa
set_option maxRecDepth 100000
open Go.RowKit Ow Ph Ro K2
set_option linter.unusedVariables false
theorem gt_app2 (L : List Cl) (c : Cl) (id : Int) : gt (L ++ [c]) id = if id = (L.length : Int) + 1 then (if c.swept then none else some c) else gt L id := by
  by_cases h : id = (L.length : Int) + 1
  · rw [if_pos h, h]
    cases hs : c.swept with
    | false => simpa using gt_mk (L := L ++ [c]) (k := L.length) (by simp) hs
    | true =>
      unfold gt
      rw [if_pos (by omega), show ((L.length : Int) + 1 - 1).toNat = L.length by omega]
      simp [Option.filter, hs]
  · rw [if_neg h]
    unfold gt
    split
    · rename_i h1
      by_cases h2 : (id - 1).toNat < L.length
      · rw [List.getElem?_append_left h2]
      · rw [List.getElem?_eq_none (by simp; omega), List.getElem?_eq_none (by omega)]
    · rfl
theorem nG_app (L : List Cl) (c : Cl) : nG (L ++ [c]) = nG L + if c.gone && !c.swept then 1 else 0 := by
  unfold nG
  rw [List.length_append, List.length_singleton, List.range_succ, List.filter_append, List.length_append]
  congr 1
  · congr 1
    refine List.filter_congr fun k hk => ?_
    rw [List.mem_range] at hk
    unfold isG
    rw [gt_app2, if_neg (by omega)]
  · have e : isG (L ++ [c]) (L.length + 1) = (c.gone && !c.swept) := by
      unfold isG
      rw [gt_app2, if_pos (by push_cast; rfl)]
      cases hs : c.swept <;> simp
    rw [List.filter_cons, List.filter_nil, e]
    cases (c.gone && !c.swept) <;> rfl
theorem nL_app (L : List Cl) (c : Cl) : nL (L ++ [c]) = nL L + if !c.swept then 1 else 0 := by
  unfold nL
  rw [List.length_append, List.length_singleton, List.range_succ, List.filter_append, List.length_append]
  congr 1
  · congr 1
    refine List.filter_congr fun k hk => ?_
    rw [List.mem_range] at hk
    unfold isL
    rw [gt_app2, if_neg (by omega)]
  · have e : isL (L ++ [c]) (L.length + 1) = !c.swept := by
      unfold isL
      rw [gt_app2, if_pos (by push_cast; rfl)]
      cases hs : c.swept <;> simp
    rw [List.filter_cons, List.filter_nil, e]
    cases (!c.swept) <;> rfl
theorem nG_eq (L : List Cl) : nG L = L.countP (fun c => c.gone && !c.swept) := by
  have key : ∀ n (L : List Cl), L.length = n → nG L = L.countP (fun c => c.gone && !c.swept) := by
    intro n
    induction n with
    | zero => intro L hL; obtain rfl := List.length_eq_zero_iff.1 hL; rfl
    | succ n ih =>
      intro L hL
      have hne : L ≠ [] := by intro e; subst e; simp at hL
      rw [← List.dropLast_concat_getLast hne, nG_app, ih _ (by rw [List.length_dropLast]; omega), List.countP_append, List.countP_singleton]
  exact key _ L rfl
theorem nL_eq (L : List Cl) : nL L = L.countP (fun c => !c.swept) := by
  have key : ∀ n (L : List Cl), L.length = n → nL L = L.countP (fun c => !c.swept) := by
    intro n
    induction n with
    | zero => intro L hL; obtain rfl := List.length_eq_zero_iff.1 hL; rfl
    | succ n ih =>
      intro L hL
      have hne : L ≠ [] := by intro e; subst e; simp at hL
      rw [← List.dropLast_concat_getLast hne, nL_app, ih _ (by rw [List.length_dropLast]; omega), List.countP_append, List.countP_singleton]
  exact key _ L rfl
/-- How many are not dropped. -/
def lv (L : List Cl) : Nat := L.countP (fun c => !c.gone)
theorem lv_eq {n : Nat} {L : List Cl} (h : OkL n L) : nL L = lv L + nG L := by
  rw [nL_eq, nG_eq]
  unfold lv
  have h2 := h.all
  clear h
  induction L with
  | nil => rfl
  | cons c L ih =>
    have ho := (h2 c (by simp)).order
    have := ih fun c hc => h2 c (by simp [hc])
    rw [List.countP_cons, List.countP_cons, List.countP_cons, this]
    cases hs : c.swept <;> cases hg : c.gone <;> simp_all <;> omega
theorem live_is {n : Nat} {L : List Cl} (h : OkL n L) : (nL L : Int) - nG L = lv L := by rw [lv_eq h]; push_cast; omega
theorem lv_app (L : List Cl) (c : Cl) : lv (L ++ [c]) = lv L + if c.gone then 0 else 1 := by
  unfold lv
  rw [List.countP_append, List.countP_singleton]
  cases c.gone <;> simp
theorem lv_sw (L : List Cl) : lv (swL L) = lv L := by
  unfold lv swL
  rw [List.countP_map]
  refine List.countP_congr fun c _ => ?_
  simp only [Function.comp]
  cases hg : c.gone <;> simp [hg]
theorem nG_sw (L : List Cl) : nG (swL L) = 0 := by
  rw [nG_eq]
  unfold swL
  rw [List.countP_map, List.countP_eq_zero]
  intro c _
  simp only [Function.comp]
  cases hg : c.gone <;> simp [hg]
/-- What Drop does to the counts. -/
theorem dr_cases (L : List Cl) (id : Int) : (drC L id = (false, L) ∧ (gt L id = none ∨ ∃ c, gt L id = some c ∧ c.gone = true)) ∨
    ∃ c, gt L id = some c ∧ c.gone = false ∧ drC L id = (true, L.set (id.toNat - 1) { c with gone := true }) := by
  unfold drC
  cases hg : gt L id with
  | none => exact .inl ⟨rfl, .inl rfl⟩
  | some c =>
    cases hgn : c.gone with
    | true => exact .inl ⟨by simp [hgn], .inr ⟨c, rfl, hgn⟩⟩
    | false => exact .inr ⟨c, rfl, hgn, by simp [hgn]⟩
theorem lv_dr {L : List Cl} {id : Int} {c : Cl} (hg : gt L id = some c) (hgn : c.gone = false) : lv (L.set (id.toNat - 1) { c with gone := true }) + 1 = lv L := by
  obtain ⟨h1, h2, h3, h4⟩ := gt_some hg
  have e : id.toNat - 1 = (id - 1).toNat := by omega
  rw [e]
  have hc : L[(id - 1).toNat] = c := by rw [List.getElem?_eq_getElem h2] at h3; injection h3
  unfold lv
  rw [List.countP_set h2, hc, hgn]
  have : 0 < L.countP (fun c => !c.gone) := List.countP_pos_iff.2 ⟨c, by rw [← hc]; exact List.getElem_mem h2, by simp [hgn]⟩
  simp
  omega
theorem gt_dr {L : List Cl} {id : Int} {c : Cl} (hg : gt L id = some c) : gt (L.set (id.toNat - 1) { c with gone := true }) id = some { c with gone := true } := by
  obtain ⟨h1, h2, h3, h4⟩ := gt_some hg
  rw [gt_set (by omega) (by simpa using h4), if_pos (by omega)]
theorem okl_set {n : Nat} {L : List Cl} {j : Nat} {c : Cl} (h : OkL n L) (hc : OkC n c) : OkL n (L.set j c) :=
  ⟨by rw [List.length_set]; exact h.len, fun d hd => by
    rcases List.mem_or_eq_of_mem_set hd with hd | rfl
    · exact h.all d hd
    · exact hc⟩
theorem okl_app {n : Nat} {L : List Cl} {c : Cl} (h : OkL n L) (hc : OkC (n + 1) c) : OkL (n + 1) (L ++ [c]) :=
  ⟨by rw [List.length_append]; have := h.len; simp; omega, fun d hd => by
    rcases List.mem_append.1 hd with hd | hd
    · exact (h.all d hd).more (by omega)
    · simp only [List.mem_singleton] at hd; subst hd; exact hc⟩
theorem okl_sw {n : Nat} {L : List Cl} (h : OkL n L) : OkL n (swL L) :=
  ⟨by unfold swL; rw [List.length_map]; exact h.len, fun d hd => by
    obtain ⟨c, hc, rfl⟩ := List.mem_map.1 hd
    have := h.all c hc
    split
    · rename_i hg
      exact ⟨this.bytes, this.len, this.often, this.times, fun _ => hg⟩
    · exact this⟩
end Go.Proofs.Ythdgdkjaeebbcaa
