/-
  Layer 11: keys in the order of use beside a list of keys of one byte. Mathematics; no program.
-/
import Derived.Test.YthappjbghlifbaaLruLists
namespace Go.Proofs.Ythappjbghlifbaa
set_option maxRecDepth 100000
open Go.RowKit Ow Ro K2
set_option linter.unusedVariables false
set_option linter.unusedSimpArgs false
theorem aget_nil (ks : List Int) : aget [] ks = none := rfl
theorem aget_cons (e : List Int × Int) (o : KO) (ks : List Int) : aget (e :: o) ks = if e.1 = ks then some e.2 else aget o ks := by
  unfold aget
  rw [List.find?_cons]
  by_cases h : e.1 = ks
  · rw [if_pos h]; simp [h]
  · rw [if_neg h]
    have : (e.1 == ks) = false := by rw [beq_eq_false_iff_ne]; exact h
    rw [this]
theorem aget_awo (o : KO) (ks kt : List Int) (h : ks ≠ kt) : aget (awo o kt) ks = aget o ks := by
  induction o with
  | nil => rfl
  | cons e o ih =>
    unfold awo at ih ⊢
    rw [aget_cons, List.filter_cons]
    by_cases h1 : e.1 = kt
    · rw [if_neg (by simp [h1]), if_neg (by rw [h1]; exact fun e => h e.symm)]
      exact ih
    · rw [if_pos (by simpa using h1), aget_cons, ih]
theorem aget_find (o : KO) (ks kt : List Int) : aget (afind o kt) ks = aget o ks := by
  unfold afind
  cases h : aget o kt with
  | none => rfl
  | some c =>
    dsimp only
    rw [aget_cons]
    by_cases e : kt = ks
    · subst e; rw [if_pos rfl, h]
    · rw [if_neg e, aget_awo o ks kt (fun h => e h.symm)]
theorem aget_mem {o : KO} {ks : List Int} : (aget o ks).isSome = true ↔ ks ∈ o.map (·.1) := by
  induction o with
  | nil => simp [aget_nil]
  | cons e o ih =>
    rw [aget_cons, List.map_cons, List.mem_cons]
    by_cases h : e.1 = ks
    · rw [if_pos h]; simp [h]
    · rw [if_neg h, ih]
      constructor
      · exact fun h => .inr h
      · rintro (h1 | h1)
        · exact absurd h1.symm h
        · exact h1
/-- The keys are those of the list, in its order. -/
structure Beside (o : KO) (xs : List Int) : Prop where
  keys : o.map (·.1) = xs.map fun b => [b]
  nd : xs.Nodup
section
variable {o : KO} {xs : List Int} {k c : Int}
theorem Beside.len (h : Beside o xs) : o.length = xs.length := by
  have := congrArg List.length h.keys
  simpa using this
theorem Beside.has (h : Beside o xs) : (aget o [k]).isSome = true ↔ k ∈ xs := by
  rw [aget_mem, h.keys, List.mem_map]
  constructor
  · rintro ⟨a, ha, e⟩
    injection e with e
    rw [← e]
    exact ha
  · exact fun h => ⟨k, h, rfl⟩
theorem ahead_new (h : ¬ k ∈ xs) : aheadL xs k = k :: xs := by
  unfold aheadL
  rw [List.filter_eq_self.2]
  intro x hx
  rw [bne_iff_ne]
  exact fun e => h (by rw [← e]; exact hx)
theorem ahead_nodup (h : xs.Nodup) : (aheadL xs k).Nodup := by
  unfold aheadL
  rw [List.nodup_cons]
  exact ⟨fun h2 => by rw [List.mem_filter] at h2; simp at h2, h.filter _⟩
theorem awo_keys (h : o.map (·.1) = xs.map fun b => [b]) : (awo o [k]).map (·.1) = (xs.filter fun x => x != k).map fun b => [b] := by
  induction o generalizing xs with
  | nil =>
    cases xs with
    | nil => rfl
    | cons x xs => cases h
  | cons e o ih =>
    cases xs with
    | nil => cases h
    | cons x xs =>
      rw [List.map_cons, List.map_cons] at h
      injection h with h1 h2
      have ih := ih h2
      unfold awo at ih ⊢
      rw [List.filter_cons, List.filter_cons]
      by_cases hx : x = k
      · rw [if_neg (by simp [h1, hx]), if_neg (by simp [hx])]
        exact ih
      · rw [if_pos (by simp [h1, hx]), if_pos (by simp [hx]), List.map_cons, List.map_cons, ih, h1]
theorem Beside.find (h : Beside o xs) (hk : k ∈ xs) : Beside (afind o [k]) (aheadL xs k) := by
  refine ⟨?_, ahead_nodup h.nd⟩
  have hs := h.has.2 hk
  unfold afind
  cases hg : aget o [k] with
  | none => rw [hg] at hs; cases hs
  | some c =>
    dsimp only
    rw [List.map_cons, awo_keys h.keys]
    rfl
theorem Beside.free (h : Beside o xs) (hk : ¬ k ∈ xs) (c : Int) : Beside (([k], c) :: o) (aheadL xs k) := by
  refine ⟨?_, ahead_nodup h.nd⟩
  rw [ahead_new hk, List.map_cons, List.map_cons, h.keys]
theorem Beside.full (h : Beside o xs) (hk : ¬ k ∈ xs) (c : Int) : Beside (([k], c) :: o.dropLast) (aheadL xs.dropLast k) := by
  have hk2 : ¬ k ∈ xs.dropLast := fun h2 => hk ((List.dropLast_sublist xs).subset h2)
  refine ⟨?_, ahead_nodup (h.nd.sublist (List.dropLast_sublist xs))⟩
  rw [ahead_new hk2, List.map_cons, List.map_cons]
  congr 1
  have e1 : (o.map (·.1)).dropLast = o.dropLast.map (·.1) := by rw [List.map_dropLast]
  have e2 : (xs.map fun b => [b]).dropLast = xs.dropLast.map fun b => [b] := by rw [List.map_dropLast]
  rw [← e1, h.keys, e2]
/-- Who goes. -/
theorem Beside.last (h : Beside o xs) (hx : 0 < xs.length) : (o.getLast?.getD ([], 0)).1 = [xs.getD (xs.length - 1) 0] := by
  have hol := h.len
  have e1 : (o.map (·.1))[o.length - 1]? = (xs.map fun b => [b])[o.length - 1]? := by rw [h.keys]
  rw [List.getElem?_map, List.getElem?_map] at e1
  rw [List.getLast?_eq_getElem?, List.getD_eq_getElem?_getD]
  rw [← hol]
  rw [List.getElem?_eq_getElem (by omega), List.getElem?_eq_getElem (by omega)] at e1
  simp only [Option.map_some, Option.some.injEq] at e1
  rw [List.getElem?_eq_getElem (by omega), List.getElem?_eq_getElem (by omega)]
  exact e1
/-- The key that is used ahead of a Put stays, where there are two or more. -/
theorem stays {e : List Int × Int} {o : KO} (h : 2 ≤ (e :: o).length) (x : List Int × Int) (hx : x.1 ≠ e.1) : aget (x :: (e :: o).dropLast) e.1 = some e.2 := by
  cases o with
  | nil => simp at h
  | cons y o => rw [List.dropLast_cons_cons, aget_cons, if_neg hx, aget_cons, if_pos rfl]
end
end Go.Proofs.Ythappjbghlifbaa
