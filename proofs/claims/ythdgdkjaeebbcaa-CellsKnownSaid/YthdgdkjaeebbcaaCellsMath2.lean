/-
  Bytes that are put, and read again. No program's run.
-/
import Derived.Test.YthdgdkjaeebbcaaCellsHas
namespace Go.Proofs.Ythdgdkjaeebbcaa
set_option maxRecDepth 100000
open Go.RowKit Ow Ph Ro K2
set_option linter.unusedVariables false
theorem putL_get (bs : List Int) (o : Nat) (v : Int) (k i : Nat) (hk : o + k ≤ bs.length) : (putL bs o v k)[i]? = if o ≤ i ∧ i < o + k then some (v / 256 ^ (i - o) % 256) else bs[i]? := by
  induction k with
  | zero => rw [if_neg (by omega)]; rfl
  | succ k ih =>
    unfold putL
    rw [List.getElem?_set]
    by_cases h : o + k = i
    · subst h
      rw [if_pos rfl, if_pos (by rw [putL_len]; omega), if_pos (by omega), show o + k - o = k by omega]
    · rw [if_neg h, ih (by omega)]
      by_cases h2 : o ≤ i ∧ i < o + k
      · rw [if_pos h2, if_pos (by omega)]
      · rw [if_neg h2, if_neg (by omega)]
theorem leV_low (v : Int) (hv : 0 ≤ v) (k : Nat) : leV ((List.range k).map fun i => v / 256 ^ i % 256) = v % 256 ^ k := by
  induction k with
  | zero => simp [leV]
  | succ k ih =>
    rw [List.range_succ, List.map_append, List.map_singleton, leV_snoc, ih, List.length_map, List.length_range]
    obtain ⟨n, rfl⟩ := Int.eq_ofNat_of_zero_le hv
    have h := Nat.mod_mul (a := 256 ^ k) (b := 256) (x := n)
    rw [Int.pow_succ]
    have h2 : ((n % (256 ^ k * 256) : Nat) : Int) = ((n % 256 ^ k + 256 ^ k * (n / 256 ^ k % 256) : Nat) : Int) := by rw [h]
    have e1 : ((n % (256 ^ k * 256) : Nat) : Int) = (n : Int) % (256 ^ k * 256) := by rw [Int.natCast_emod, Int.natCast_mul, Int.natCast_pow]; rfl
    have e2 : ((n % 256 ^ k + 256 ^ k * (n / 256 ^ k % 256) : Nat) : Int) = (n : Int) % 256 ^ k + 256 ^ k * ((n : Int) / 256 ^ k % 256) := by rw [Int.natCast_add, Int.natCast_mul, Int.natCast_emod, Int.natCast_emod, Int.natCast_ediv, Int.natCast_pow]; rfl
    exact e2.symm.trans (h2.symm.trans e1)
theorem leV_put (bs : List Int) (o : Nat) (v : Int) (hv : 0 ≤ v) (k : Nat) (hk : o + k ≤ bs.length) : leV (((putL bs o v k).drop o).take k) = v % 256 ^ k := by
  rw [← leV_low v hv k]
  congr 1
  refine List.ext_getElem? fun i => ?_
  rw [List.getElem?_take, List.getElem?_drop, putL_get bs o v k _ hk, List.getElem?_map]
  by_cases h : i < k
  · rw [if_pos h, if_pos (by omega), List.getElem?_range h, show o + i - o = i by omega]; rfl
  · rw [if_neg h, List.getElem?_eq_none (by simp; omega)]; rfl
theorem leV_one (bs : List Int) (i : Nat) (b : Int) (h : bs[i]? = some b) : leV ((bs.drop i).take 1) = b := by
  have h1 : (bs.drop i).take 1 = [b] := by
    refine List.ext_getElem? fun j => ?_
    rw [List.getElem?_take]
    cases j with
    | zero => rw [if_pos (by omega), List.getElem?_drop]; simpa using h
    | succ j => rw [if_neg (by omega)]; simp
  rw [h1]; simp [leV]
theorem putL_ok (bs : List Int) (o : Nat) (v : Int) (k : Nat) (h : ∀ b ∈ bs, 0 ≤ b ∧ b ≤ 255) : ∀ b ∈ putL bs o v k, 0 ≤ b ∧ b ≤ 255 := by
  induction k with
  | zero => exact h
  | succ k ih =>
    intro b hb
    unfold putL at hb
    rcases List.mem_or_eq_of_mem_set hb with hb | hb
    · exact ih b hb
    · omega
theorem gt_one (c : Cl) (hs : c.swept = false) : gt [c] 1 = some c := gt_mk (L := [c]) (k := 0) rfl hs
end Go.Proofs.Ythdgdkjaeebbcaa
