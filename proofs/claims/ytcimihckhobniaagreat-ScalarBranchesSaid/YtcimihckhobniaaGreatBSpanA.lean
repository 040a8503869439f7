/-
  What package span's inner functions over numbers tell, and the library's Len64 and Mul64: contracts. Conditions: the numbers are of 64 bits.
-/
import Derived.Test.YtcimihckhobniaaGreatBSpanMath2
import Derived.Test.YtcimihckhobniaaGreatRows
import Derived.WalkKit
import Derived.WalkSpells
import Derived.WalkLawsBesides
import Derived.Below
import Derived.Handy
import Derived.Lib.Hide
import Derived.Deep.Light
import Derived.Laws.StructEq
import Derived.Deep.RegionHeld3
import Derived.BigQuiet
import Derived.BigRegion
import Derived.Deep.QuietTactic
import Derived.StillTailTactics
import Derived.Test.YtcimihckhobniaaGreatBOwn
namespace Go.Proofs.YtcimihckhobniaaGreat
open Go.RowKit Tn Ow Sp
set_option linter.unusedVariables false
set_option linter.unusedSimpArgs false
theorem rt_i {k : IntKind} {a b : Int} (h : a = b) : Ending.returned (.int k a) = .returned (.int k b) := by rw [h]
theorem rt_b {x y : Bool} (h3 : x = y) : Ending.returned (.bool x) = .returned (.bool y) := by rw [h3]
theorem rt_u {k : IntKind} {a b c d : Int} (h1 : a = b) (h2 : c = d) : Ending.returned (.agg #[.int k a, .int k c]) = .returned (.agg #[.int k b, .int k d]) := by rw [h1, h2]
theorem rt_ub {k : IntKind} {a b c d : Int} {x y : Bool} (h1 : a = b) (h2 : c = d) (h3 : x = y) : Ending.returned (.tuple #[.agg #[.int k a, .int k c], .bool x]) = .returned (.tuple #[.agg #[.int k b, .int k d], .bool y]) := by rw [h1, h2, h3]
theorem wr64 (n : Int) (h0 : -9223372036854775808 ≤ n) (h1 : n ≤ 9223372036854775807) : wrap64 n = n := by unfold wrap64; omega
theorem pow_bd (k : Nat) (hk : k ≤ 63) : (1 : Int) ≤ 2 ^ k ∧ (2 : Int) ^ k ≤ 9223372036854775808 := by
  have h1 := pow_pos' k
  have h2 : (2 : Nat) ^ k ≤ 2 ^ 63 := Nat.pow_le_pow_right (by decide) hk
  have h3 := Int.ofNat_le.2 h2
  rw [pow_cast] at h3
  simp only [Nat.reducePow] at h3
  omega
theorem ones_any (k : Nat) (hk : k ≤ 64) (w : World) :
    Calls Tryz.prog 169 #[.int .i64 k] w fun e w' => e = .returned (.int .u64 (2 ^ k - 1)) ∧ w = w' := by
  go_enter Tryz.func169, Tryz.ntmps169
  go_wp2
  go_returns
  refine ⟨rt_i ?_, rfl⟩
  rw [IntKind.wrap_u64, IntKind.wrap_u64]
  by_cases h : k = 64
  · subst h; rfl
  · have := pow_bd k (by omega)
    omega
def lenTab : ByteArray := { data := #[0, 1, 2, 2, 3, 3, 3, 3, 4, 4, 4, 4, 4, 4, 4, 4, 5, 5, 5, 5, 5, 5, 5, 5, 5, 5, 5, 5, 5, 5, 5, 5, 6, 6, 6, 6, 6, 6, 6, 6, 6, 6, 6, 6, 6, 6, 6, 6, 6, 6, 6, 6, 6, 6, 6, 6, 6, 6, 6, 6, 6, 6, 6, 6, 7, 7, 7, 7, 7, 7, 7, 7, 7, 7, 7, 7, 7, 7, 7, 7, 7, 7, 7, 7, 7, 7, 7, 7, 7, 7, 7, 7, 7, 7, 7, 7, 7, 7, 7, 7, 7, 7, 7, 7, 7, 7, 7, 7, 7, 7, 7, 7, 7, 7, 7, 7, 7, 7, 7, 7, 7, 7, 7, 7, 7, 7, 7, 7, 8, 8, 8, 8, 8, 8, 8, 8, 8, 8, 8, 8, 8, 8, 8, 8, 8, 8, 8, 8, 8, 8, 8, 8, 8, 8, 8, 8, 8, 8, 8, 8, 8, 8, 8, 8, 8, 8, 8, 8, 8, 8, 8, 8, 8, 8, 8, 8, 8, 8, 8, 8, 8, 8, 8, 8, 8, 8, 8, 8, 8, 8, 8, 8, 8, 8, 8, 8, 8, 8, 8, 8, 8, 8, 8, 8, 8, 8, 8, 8, 8, 8, 8, 8, 8, 8, 8, 8, 8, 8, 8, 8, 8, 8, 8, 8, 8, 8, 8, 8, 8, 8, 8, 8, 8, 8, 8, 8, 8, 8, 8, 8, 8, 8, 8, 8, 8, 8, 8, 8, 8, 8, 8, 8, 8, 8, 8, 8] }
theorem tab_size : lenTab.size = 256 := by decide +kernel
theorem tab_all : ∀ i : Fin 256, (lenTab[i.val]'(by rw [tab_size]; exact i.isLt)).toNat = ln i.val := by decide +kernel
theorem tab_at (i : Nat) (h : i < lenTab.size) : lenTab[i].toNat = ln i := tab_all ⟨i, by rw [tab_size] at h; exact h⟩
theorem len_end (n j : Nat) (x i : Int) (hi : i.toNat = n / 2 ^ j) (hx : x.toNat = n) (h : n / 2 ^ j < 256) (h2 : j = 0 ∨ n / 2 ^ j ≠ 0) (hj : j ≤ 56) : wrap64 ((j : Int) + wrap64 ((ln i.toNat : Nat) : Int)) = ((ln x.toNat : Nat) : Int) := by
  have h3 : ln (n / 2 ^ j) ≤ 8 := ln_le h
  rw [hi, hx, wr64 ((ln (n / 2 ^ j) : Nat) : Int) (by omega) (by omega), wr64 _ (by omega) (by omega)]
  rcases h2 with rfl | h2
  · rw [Nat.pow_zero, Nat.div_one]; omega
  · rw [ln_add j h2]; omega
set_option maxRecDepth 100000 in
theorem len_any (x : Int) (h0 : 0 ≤ x) (h1 : x ≤ 18446744073709551615) (w : World) :
    Calls Tryz.prog 170 #[.int .u64 x] w fun e w' => e = .returned (.int .i64 (ln x.toNat)) ∧ w = w' := by
  by_cases a1 : 4294967296 ≤ x
  · by_cases a2 : 65536 ≤ x / 4294967296
    · by_cases a3 : 256 ≤ x / 4294967296 / 65536
      · go_enter Tryz.func170, Tryz.ntmps170
        go_wp2_with fail
        go_returns
        refine ⟨rt_i ?_, rfl⟩
        refine (congrArg (fun (n : Nat) => wrap64 (((56 : Nat) : Int) + wrap64 (n : Int))) (tab_at (x / 4294967296 / 65536 / 256).toNat (by rw [tab_size]; omega))).trans ?_
        exact len_end x.toNat 56 x (x / 4294967296 / 65536 / 256) (by simp only [Nat.reducePow]; omega) rfl (by simp only [Nat.reducePow]; omega) (Or.inr (by simp only [Nat.reducePow]; omega)) (by decide)
      · go_enter Tryz.func170, Tryz.ntmps170
        go_wp2_with fail
        go_returns
        refine ⟨rt_i ?_, rfl⟩
        refine (congrArg (fun (n : Nat) => wrap64 (((48 : Nat) : Int) + wrap64 (n : Int))) (tab_at (x / 4294967296 / 65536).toNat (by rw [tab_size]; omega))).trans ?_
        exact len_end x.toNat 48 x (x / 4294967296 / 65536) (by simp only [Nat.reducePow]; omega) rfl (by simp only [Nat.reducePow]; omega) (Or.inr (by simp only [Nat.reducePow]; omega)) (by decide)
    · by_cases a3 : 256 ≤ x / 4294967296
      · go_enter Tryz.func170, Tryz.ntmps170
        go_wp2_with fail
        go_returns
        refine ⟨rt_i ?_, rfl⟩
        refine (congrArg (fun (n : Nat) => wrap64 (((40 : Nat) : Int) + wrap64 (n : Int))) (tab_at (x / 4294967296 / 256).toNat (by rw [tab_size]; omega))).trans ?_
        exact len_end x.toNat 40 x (x / 4294967296 / 256) (by simp only [Nat.reducePow]; omega) rfl (by simp only [Nat.reducePow]; omega) (Or.inr (by simp only [Nat.reducePow]; omega)) (by decide)
      · go_enter Tryz.func170, Tryz.ntmps170
        go_wp2_with fail
        go_returns
        refine ⟨rt_i ?_, rfl⟩
        refine (congrArg (fun (n : Nat) => wrap64 (((32 : Nat) : Int) + wrap64 (n : Int))) (tab_at (x / 4294967296).toNat (by rw [tab_size]; omega))).trans ?_
        exact len_end x.toNat 32 x (x / 4294967296) (by simp only [Nat.reducePow]; omega) rfl (by simp only [Nat.reducePow]; omega) (Or.inr (by simp only [Nat.reducePow]; omega)) (by decide)
  · by_cases a2 : 65536 ≤ x
    · by_cases a3 : 256 ≤ x / 65536
      · go_enter Tryz.func170, Tryz.ntmps170
        go_wp2_with fail
        go_returns
        refine ⟨rt_i ?_, rfl⟩
        refine (congrArg (fun (n : Nat) => wrap64 (((24 : Nat) : Int) + wrap64 (n : Int))) (tab_at (x / 65536 / 256).toNat (by rw [tab_size]; omega))).trans ?_
        exact len_end x.toNat 24 x (x / 65536 / 256) (by simp only [Nat.reducePow]; omega) rfl (by simp only [Nat.reducePow]; omega) (Or.inr (by simp only [Nat.reducePow]; omega)) (by decide)
      · go_enter Tryz.func170, Tryz.ntmps170
        go_wp2_with fail
        go_returns
        refine ⟨rt_i ?_, rfl⟩
        refine (congrArg (fun (n : Nat) => wrap64 (((16 : Nat) : Int) + wrap64 (n : Int))) (tab_at (x / 65536).toNat (by rw [tab_size]; omega))).trans ?_
        exact len_end x.toNat 16 x (x / 65536) (by simp only [Nat.reducePow]; omega) rfl (by simp only [Nat.reducePow]; omega) (Or.inr (by simp only [Nat.reducePow]; omega)) (by decide)
    · by_cases a3 : 256 ≤ x
      · go_enter Tryz.func170, Tryz.ntmps170
        go_wp2_with fail
        go_returns
        refine ⟨rt_i ?_, rfl⟩
        refine (congrArg (fun (n : Nat) => wrap64 (((8 : Nat) : Int) + wrap64 (n : Int))) (tab_at (x / 256).toNat (by rw [tab_size]; omega))).trans ?_
        exact len_end x.toNat 8 x (x / 256) (by simp only [Nat.reducePow]; omega) rfl (by simp only [Nat.reducePow]; omega) (Or.inr (by simp only [Nat.reducePow]; omega)) (by decide)
      · go_enter Tryz.func170, Tryz.ntmps170
        go_wp2_with fail
        go_returns
        refine ⟨rt_i ?_, rfl⟩
        refine (congrArg (fun (n : Nat) => wrap64 (wrap64 (n : Int))) (tab_at (x).toNat (by rw [tab_size]; omega))).trans ?_
        refine (congrArg wrap64 (Int.zero_add _)).symm.trans ?_
        exact len_end x.toNat 0 x (x) (by simp only [Nat.reducePow]; omega) rfl (by simp only [Nat.reducePow]; omega) (Or.inl rfl) (by decide)
end Go.Proofs.YtcimihckhobniaaGreat
