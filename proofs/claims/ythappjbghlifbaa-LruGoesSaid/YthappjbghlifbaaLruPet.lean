/-
  Layer 11: a key that is used ahead of each Put stays. Mathematics; no program.
-/
import Derived.Test.YthappjbghlifbaaLruOrd
namespace Go.Proofs.Ythappjbghlifbaa
set_option maxRecDepth 100000
open Go.RowKit Ow Ro K2
set_option linter.unusedVariables false
set_option linter.unusedSimpArgs false
/-- The map beside the list of keys; pet: the key that stays, where there may be two or more. -/
structure GI (M pet : Int) (o : KO) (xs : List Int) : Prop where
  bes : Beside o xs
  ne : 0 < xs.length
  le : (o.length : Int) ≤ M
  pet : 1 < M → aget o [pet] = some 1000
section
variable {M pet k c : Int} {o : KO} {xs : List Int}
theorem ahead_len (h : xs.Nodup) (hk : k ∈ xs) : (aheadL xs k).length = xs.length := by
  unfold aheadL
  rw [← h.erase_eq_filter, List.length_cons, List.length_erase_of_mem hk]
  have : 0 < xs.length := List.length_pos_of_mem hk
  omega
theorem GI.start (hM : 1 ≤ M) (pet : Int) : GI M pet [([pet], 1000)] [pet] :=
  ⟨⟨rfl, by simp⟩, by simp, by simpa using hM, fun _ => by rw [aget_cons, if_pos rfl]⟩
theorem GI.find (h : GI M pet o xs) (hk : k ∈ xs) : GI M pet (afind o [k]) (aheadL xs k) := by
  have hb := h.bes.find hk
  have hl := ahead_len h.bes.nd hk
  refine ⟨hb, by rw [hl]; exact h.ne, by rw [hb.len, hl, ← h.bes.len]; exact h.le, fun hM => by rw [aget_find]; exact h.pet hM⟩
theorem GI.petin (h : GI M pet o xs) (hM : 1 < M) : pet ∈ xs := h.bes.has.1 (by rw [h.pet hM]; rfl)
/-- The pet is used. -/
theorem GI.ahead (h : GI M pet o xs) (hM : 1 < M) : GI M pet (afind o [pet]) (aheadL xs pet) ∧ afind o [pet] = ([pet], 1000) :: awo o [pet] :=
  ⟨h.find (h.petin hM), by unfold afind; rw [h.pet hM]⟩
theorem GI.free (h : GI M pet o xs) (hk : ¬ k ∈ xs) (hl : (o.length : Int) < M) (c : Int) : GI M pet (([k], c) :: o) (aheadL xs k) := by
  refine ⟨h.bes.free hk c, by unfold aheadL; simp, by rw [List.length_cons]; omega, fun hM => ?_⟩
  have hp := h.petin hM
  rw [aget_cons, if_neg (fun e => by injection e with e; exact hk (by rw [e]; exact hp))]
  exact h.pet hM
theorem GI.full (h : GI M pet o xs) (hk : ¬ k ∈ xs) (hl : (o.length : Int) = M) (hd : 1 < M → ∃ o1, o = ([pet], 1000) :: o1) (c : Int) : GI M pet (([k], c) :: o.dropLast) (aheadL xs.dropLast k) := by
  have hol := h.bes.len
  have hne := h.ne
  refine ⟨h.bes.full hk c, by unfold aheadL; simp, by rw [List.length_cons, List.length_dropLast]; omega, fun hM => ?_⟩
  have hp := h.petin hM
  obtain ⟨o1, rfl⟩ := hd hM
  exact stays (e := ([pet], 1000)) (by omega) ([k], c) (fun e => by injection e with e; exact hk (by rw [e]; exact hp))
/-- What Put answers, where the key is not there. -/
theorem GI.put_free (h : GI M pet o xs) (hk : ¬ k ∈ xs) (hl : ¬ (o.length : Int) = M) (c : Int) : aput 1 M o [k] c = (([], 0), 0, ([k], c) :: o) := by
  have hg : ¬ (aget o [k]).isSome = true := fun e => hk (h.bes.has.1 e)
  unfold aput
  rw [if_pos (show (([k] : List Int).length : Int) = 1 from rfl), if_neg hg, if_neg hl]
theorem GI.put_full (h : GI M pet o xs) (hk : ¬ k ∈ xs) (hl : (o.length : Int) = M) (c : Int) : (aput 1 M o [k] c).2 = (0, ([k], c) :: o.dropLast) ∧ (aput 1 M o [k] c).1.1 = [xs.getD (xs.length - 1) 0] := by
  have hg : ¬ (aget o [k]).isSome = true := fun e => hk (h.bes.has.1 e)
  unfold aput
  rw [if_pos (show (([k] : List Int).length : Int) = 1 from rfl), if_neg hg, if_pos hl]
  exact ⟨rfl, h.bes.last h.ne⟩
end
end Go.Proofs.Ythappjbghlifbaa
