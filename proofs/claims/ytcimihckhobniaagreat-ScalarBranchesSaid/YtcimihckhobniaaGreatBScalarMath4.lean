/-
  What is known of a number: byte orders (P5.4) and what a jump teaches (P5.5): whatever numbers are of the parts, the edge that a jump takes with them can be, and they are of what it teaches (P5.6); that may be, and is within what was known (P5.7). Nothing of the program is named here.
-/
import Derived.Test.YtcimihckhobniaaGreatBScalarMath3
import Derived.Test.YtcimihckhobniaaGreatBWordMath5
namespace Go.Proofs.YtcimihckhobniaaGreat.Sc
open Tn Sp Wd Go.RowKit
set_option linter.unusedVariables false
set_option linter.unusedSimpArgs false

/-! ### Numbers of so many bytes -/
theorem ones_bi (n : Nat) (h : n ≤ 7) : bi (onesC n) = 2 ^ (8 * n) - 1 := by
  have h1 : 2 ^ (8 * n) ≤ 2 ^ 56 := Nat.pow_le_pow_right (by decide) (by omega)
  have h2 : 0 < 2 ^ (8 * n) := Nat.pow_pos (by decide)
  have h3 : (onesC n).toNat = 2 ^ (8 * n) - 1 := by
    unfold onesC; rw [BitVec.toNat_ofNat]; exact Nat.mod_eq_of_lt (by omega)
  unfold bi
  rw [h3, ← pow_cast]
  omega
theorem in_upto {n : Int} (h0 : 1 ≤ n) (h1 : n ≤ 7) (v : BitVec 64) : inC (uptoC n) v = decide (bi v < 2 ^ (8 * n.toNat)) := by
  have e : uptoC n = ⟨⟨0#64, onesC n.toNat⟩, ⟨0, bi (onesC n.toNat)⟩, ⟨0, bi (onesC n.toNat)⟩⟩ := by unfold uptoC; rw [if_neg (by omega), if_neg (by omega)]
  have hn : n.toNat ≤ 7 := by omega
  have eb := ones_bi n.toNat hn
  have hp : (2 : Int) ^ (8 * n.toNat) ≤ 72057594037927936 := by
    have h2 : 2 ^ (8 * n.toNat) ≤ 2 ^ 56 := Nat.pow_le_pow_right (by decide) (by omega)
    rw [← pow_cast]
    exact Int.ofNat_le.2 h2
  rw [e, eb]
  have hb := bi_bd v
  by_cases h : bi v < 2 ^ (8 * n.toNat)
  · rw [decide_eq_true h]
    refine mk_in ?_ ?_ ?_
    · have hk : v.toNat < 2 ^ (8 * n.toNat) := by unfold bi at h; rw [← pow_cast] at h; exact Int.ofNat_lt.1 h
      have h3 := low_ones v (8 * n.toNat) (by omega)
      rw [Nat.mod_eq_of_lt hk, Nat.sub_self] at h3
      have h4 : v &&& ~~~(BitVec.ofNat 64 (2 ^ (8 * n.toNat) - 1)) = 0#64 := BitVec.eq_of_toNat_eq (by rw [h3]; rfl)
      rw [in_iff]
      intro i hi hm
      have h5 := congrArg (fun x => x.getLsbD i) h4
      have h6 : (BitVec.ofNat 64 (2 ^ (8 * n.toNat) - 1)).getLsbD i = false := hm
      simp only [BitVec.getLsbD_and, BitVec.getLsbD_not, h6, hi] at h5
      simpa using h5
    · rw [inE_iff]; dsimp only; omega
    · rw [inE_iff]; dsimp only
      have : sg (bi v) = bi v := by unfold sg; rw [if_pos (by omega)]
      rw [this]; omega
  · rw [decide_eq_false h]
    cases g : inC ⟨⟨0#64, onesC n.toNat⟩, ⟨0, 2 ^ (8 * n.toNat) - 1⟩, ⟨0, 2 ^ (8 * n.toNat) - 1⟩⟩ v
    · rfl
    · rw [inC_iff, inE_iff] at g
      have := g.2.1
      dsimp only at this
      omega
/-! ### P5.4 -/
end Go.Proofs.YtcimihckhobniaaGreat.Sc
