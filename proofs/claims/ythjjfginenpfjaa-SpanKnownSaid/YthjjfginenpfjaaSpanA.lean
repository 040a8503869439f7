/-
  What package span's inner functions over numbers tell, and the library's Len64 and Mul64: contracts. Conditions: the numbers are of 64 bits.
-/
import Derived.Test.YthjjfginenpfjaaSpanMath2
import Derived.Test.YthjjfginenpfjaaRows
import Derived.WalkKit
import Derived.WalkSpells
import Derived.WalkLawsBesides
import Derived.Below
import Derived.Handy
import Derived.Lib.Hide
import Derived.Deep.Light
import Derived.Laws.StructEq
import Derived.Deep.RegionHeld3
import Derived.BigQuiet
import Derived.BigRegion
import Derived.Deep.QuietTactic
import Derived.StillTailTactics
import Derived.Test.YthjjfginenpfjaaOwn
namespace Go.Proofs.Ythjjfginenpfjaa
open Go.RowKit Tn Ow Sp
set_option linter.unusedVariables false
set_option linter.unusedSimpArgs false
theorem rt_i {k : IntKind} {a b : Int} (h : a = b) : Ending.returned (.int k a) = .returned (.int k b) := by rw [h]
theorem rt_b {x y : Bool} (h3 : x = y) : Ending.returned (.bool x) = .returned (.bool y) := by rw [h3]
theorem rt_ib {k : IntKind} {a b : Int} {x y : Bool} (h : a = b) (g : x = y) : Ending.returned (.tuple #[.int k a, .bool x]) = .returned (.tuple #[.int k b, .bool y]) := by rw [h, g]
theorem rt_ii {k l : IntKind} {a b c d : Int} (h : a = b) (g : c = d) : Ending.returned (.tuple #[.int k a, .int l c]) = .returned (.tuple #[.int k b, .int l d]) := by rw [h, g]
theorem rt_u {k : IntKind} {a b c d : Int} (h1 : a = b) (h2 : c = d) : Ending.returned (.agg #[.int k a, .int k c]) = .returned (.agg #[.int k b, .int k d]) := by rw [h1, h2]
theorem rt_ub {k : IntKind} {a b c d : Int} {x y : Bool} (h1 : a = b) (h2 : c = d) (h3 : x = y) : Ending.returned (.tuple #[.agg #[.int k a, .int k c], .bool x]) = .returned (.tuple #[.agg #[.int k b, .int k d], .bool y]) := by rw [h1, h2, h3]
theorem wr64 (n : Int) (h0 : -9223372036854775808 ≤ n) (h1 : n ≤ 9223372036854775807) : wrap64 n = n := by unfold wrap64; omega
theorem wru (n : Int) (h0 : 0 ≤ n) (h1 : n ≤ 18446744073709551615) : IntKind.u64.wrap n = n := by rw [IntKind.wrap_u64]; omega
theorem usum_any (x y : Int) (h0 : 0 ≤ x) (h1 : x ≤ 18446744073709551615) (h2 : 0 ≤ y) (h3 : y ≤ 18446744073709551615) (w : World) :
    Calls Try.prog 100 #[.int .u64 x, .int .u64 y] w fun e w' => e = .returned (.tuple #[.int .u64 ((x + y) % 18446744073709551616), .bool (decide (18446744073709551615 < x + y))]) ∧ w = w' := by
  go_enter Try.func100, Try.ntmps100
  go_wp2
  go_returns
  refine ⟨rt_ib (IntKind.wrap_u64 _) ?_, rfl⟩
  rw [IntKind.wrap_u64]
  by_cases g : 18446744073709551615 < x + y
  · rw [decide_eq_true g, decide_eq_true (show (x + y) % 18446744073709551616 < x by omega), decide_eq_false (show ¬ y < 0 by omega)]; rfl
  · rw [decide_eq_false g, decide_eq_false (show ¬ (x + y) % 18446744073709551616 < x by omega), decide_eq_false (show ¬ y < 0 by omega)]; rfl
theorem udiff_any (x y : Int) (h0 : 0 ≤ x) (h1 : x ≤ 18446744073709551615) (h2 : 0 ≤ y) (h3 : y ≤ 18446744073709551615) (w : World) :
    Calls Try.prog 101 #[.int .u64 x, .int .u64 y] w fun e w' => e = .returned (.tuple #[.int .u64 ((x - y) % 18446744073709551616), .bool (decide (x < y))]) ∧ w = w' := by
  go_enter Try.func101, Try.ntmps101
  go_wp2
  go_returns
  refine ⟨rt_ib (IntKind.wrap_u64 _) ?_, rfl⟩
  rw [IntKind.wrap_u64]
  by_cases g : x < y
  · rw [decide_eq_true g, decide_eq_true (show x < (x - y) % 18446744073709551616 by omega), decide_eq_false (show ¬ y < 0 by omega)]; rfl
  · rw [decide_eq_false g, decide_eq_false (show ¬ x < (x - y) % 18446744073709551616 by omega), decide_eq_false (show ¬ y < 0 by omega)]; rfl
def outS (v : Int) : Bool := decide (9223372036854775807 < v ∨ v < -9223372036854775808)
theorem ssum_any (x y : Int) (h0 : -9223372036854775808 ≤ x) (h1 : x ≤ 9223372036854775807) (h2 : -9223372036854775808 ≤ y) (h3 : y ≤ 9223372036854775807) (w : World) :
    Calls Try.prog 102 #[.int .i64 x, .int .i64 y] w fun e w' => e = .returned (.tuple #[.int .i64 (wrap64 (x + y)), .bool (outS (x + y))]) ∧ w = w' := by
  go_enter Try.func102, Try.ntmps102
  go_wp2
  go_returns
  refine ⟨rt_ib rfl ?_, rfl⟩
  unfold outS wrap64
  by_cases g : y < 0
  · by_cases k : x + y < -9223372036854775808
    · rw [decide_eq_true g, decide_eq_true (Or.inr k), decide_eq_false (by omega)]; rfl
    · rw [decide_eq_true g, decide_eq_false (show ¬ (9223372036854775807 < x + y ∨ x + y < -9223372036854775808) by omega), decide_eq_true (by omega)]; rfl
  · by_cases k : 9223372036854775807 < x + y
    · rw [decide_eq_false g, decide_eq_true (Or.inl k), decide_eq_true (by omega)]; rfl
    · rw [decide_eq_false g, decide_eq_false (show ¬ (9223372036854775807 < x + y ∨ x + y < -9223372036854775808) by omega), decide_eq_false (by omega)]; rfl
theorem sdiff_any (x y : Int) (h0 : -9223372036854775808 ≤ x) (h1 : x ≤ 9223372036854775807) (h2 : -9223372036854775808 ≤ y) (h3 : y ≤ 9223372036854775807) (w : World) :
    Calls Try.prog 103 #[.int .i64 x, .int .i64 y] w fun e w' => e = .returned (.tuple #[.int .i64 (wrap64 (x - y)), .bool (outS (x - y))]) ∧ w = w' := by
  go_enter Try.func103, Try.ntmps103
  go_wp2
  go_returns
  refine ⟨rt_ib rfl ?_, rfl⟩
  unfold outS wrap64
  by_cases g : y < 0
  · by_cases k : 9223372036854775807 < x - y
    · rw [decide_eq_true g, decide_eq_true (Or.inl k), decide_eq_false (by omega)]; rfl
    · rw [decide_eq_true g, decide_eq_false (show ¬ (9223372036854775807 < x - y ∨ x - y < -9223372036854775808) by omega), decide_eq_true (by omega)]; rfl
  · by_cases k : x - y < -9223372036854775808
    · rw [decide_eq_false g, decide_eq_true (Or.inr k), decide_eq_true (by omega)]; rfl
    · rw [decide_eq_false g, decide_eq_false (show ¬ (9223372036854775807 < x - y ∨ x - y < -9223372036854775808) by omega), decide_eq_false (by omega)]; rfl
theorem dist_any (n : Int) (k : Nat) (hk : n % 64 = (k : Int)) (w : World) :
    Calls Try.prog 87 #[.int .i64 n] w fun e w' => e = .returned (.int .u64 k) ∧ w = w' := by
  have HK := Lib.hid hk
  clear hk
  go_enter Try.func87, Try.ntmps87
  go_wp2
  go_returns
  refine ⟨rt_i ?_, rfl⟩
  rw [IntKind.wrap_u64, ← HK.out]
  have : 0 ≤ n % 18446744073709551616 := by omega
  rw [Int.tmod_eq_emod_of_nonneg this]
  omega
theorem pow_bd (k : Nat) (hk : k ≤ 63) : (1 : Int) ≤ 2 ^ k ∧ (2 : Int) ^ k ≤ 9223372036854775808 := by
  have h1 := pow_pos' k
  have h2 : (2 : Nat) ^ k ≤ 2 ^ 63 := Nat.pow_le_pow_right (by decide) hk
  have h3 := Int.ofNat_le.2 h2
  rw [pow_cast] at h3
  simp only [Nat.reducePow] at h3
  omega
theorem ones_any (k : Nat) (hk : k ≤ 64) (w : World) :
    Calls Try.prog 84 #[.int .i64 k] w fun e w' => e = .returned (.int .u64 (2 ^ k - 1)) ∧ w = w' := by
  go_enter Try.func84, Try.ntmps84
  go_wp2
  go_returns
  refine ⟨rt_i ?_, rfl⟩
  rw [IntKind.wrap_u64, IntKind.wrap_u64]
  by_cases h : k = 64
  · subst h; rfl
  · have := pow_bd k (by omega)
    omega
theorem and32 (x : Int) (h0 : 0 ≤ x) (h1 : x ≤ 18446744073709551615) : bits .and .u64 x 4294967295 = x % 4294967296 := by
  rw [bits_and x _ h0 h1 (by decide) (by decide)]
  unfold andI
  have e := Nat.and_two_pow_sub_one_eq_mod x.toNat 32
  simp only [Nat.reducePow, Nat.reduceSub] at e
  rw [show (4294967295 : Int).toNat = 4294967295 from rfl, e]
  omega
theorem mul_hi (p q r s : Int) (h0 : 0 ≤ p) (h1 : p ≤ 18446744065119617025) (h2 : 0 ≤ q) (h3 : q ≤ 18446744065119617025) (h4 : 0 ≤ r) (h5 : r ≤ 18446744065119617025) (h6 : 0 ≤ s) (h7 : s ≤ 18446744065119617025) :
    (((p % 18446744073709551616 + (q % 18446744073709551616 + s % 18446744073709551616 / 4294967296) % 18446744073709551616 / 4294967296) % 18446744073709551616 + ((q % 18446744073709551616 + s % 18446744073709551616 / 4294967296) % 18446744073709551616 % 4294967296 + r % 18446744073709551616) % 18446744073709551616 / 4294967296) % 18446744073709551616)
      = (p * 18446744073709551616 + (q + r) * 4294967296 + s) / 18446744073709551616 := by omega
theorem mul_bd {x y m : Int} (h0 : 0 ≤ x) (h1 : x ≤ m) (h2 : 0 ≤ y) (h3 : y ≤ m) : 0 ≤ x * y ∧ x * y ≤ m * m := ⟨Int.mul_nonneg h0 h2, Int.mul_le_mul h1 h3 h2 (Int.le_trans h0 h1)⟩
theorem mul_parts (x y : Int) : x * y = x / 4294967296 * (y / 4294967296) * 18446744073709551616 + (x / 4294967296 * (y % 4294967296) + x % 4294967296 * (y / 4294967296)) * 4294967296 + x % 4294967296 * (y % 4294967296) := by
  have e1 := Int.mul_ediv_add_emod x 4294967296
  have e2 := Int.mul_ediv_add_emod y 4294967296
  generalize x / 4294967296 = a at *
  generalize x % 4294967296 = b at *
  generalize y / 4294967296 = c at *
  generalize y % 4294967296 = d at *
  subst e1 e2
  simp only [Int.add_mul, Int.mul_add]
  have q1 : 4294967296 * a * (4294967296 * c) = a * c * 18446744073709551616 := by rw [Int.mul_assoc, Int.mul_left_comm a]; omega
  have q2 : 4294967296 * a * d = a * d * 4294967296 := by rw [Int.mul_assoc, Int.mul_comm]
  have q3 : b * (4294967296 * c) = b * c * 4294967296 := by rw [Int.mul_left_comm, Int.mul_comm]
  omega
theorem mul_any (x y : Int) (h0 : 0 ≤ x) (h1 : x ≤ 18446744073709551615) (h2 : 0 ≤ y) (h3 : y ≤ 18446744073709551615) (w : World) :
    Calls Try.prog 80 #[.int .u64 x, .int .u64 y] w fun e w' => e = .returned (.tuple #[.int .u64 (x * y / 18446744073709551616), .int .u64 (x * y % 18446744073709551616)]) ∧ w = w' := by
  go_enter Try.func80, Try.ntmps80
  go_wp2
  go_returns
  refine ⟨rt_ii ?_ (IntKind.wrap_u64 _), rfl⟩
  have a1 : 0 ≤ x / 4294967296 ∧ x / 4294967296 ≤ 4294967295 := by omega
  have a2 : 0 ≤ y / 4294967296 ∧ y / 4294967296 ≤ 4294967295 := by omega
  have a3 : 0 ≤ x % 4294967296 ∧ x % 4294967296 ≤ 4294967295 := by omega
  have a4 : 0 ≤ y % 4294967296 ∧ y % 4294967296 ≤ 4294967295 := by omega
  have b1 := mul_bd a1.1 a1.2 a2.1 a2.2
  have b2 := mul_bd a1.1 a1.2 a4.1 a4.2
  have b3 := mul_bd a3.1 a3.2 a2.1 a2.2
  have b4 := mul_bd a3.1 a3.2 a4.1 a4.2
  rw [and32 x h0 h1, and32 y h2 h3, and32 _ (by rw [IntKind.wrap_u64]; omega) (by rw [IntKind.wrap_u64]; omega)]
  simp only [IntKind.wrap_u64]
  rw [mul_hi _ _ _ _ b1.1 b1.2 b2.1 b2.2 b3.1 b3.2 b4.1 b4.2, ← mul_parts]
def lenTab : ByteArray := { data := #[0, 1, 2, 2, 3, 3, 3, 3, 4, 4, 4, 4, 4, 4, 4, 4, 5, 5, 5, 5, 5, 5, 5, 5, 5, 5, 5, 5, 5, 5, 5, 5, 6, 6, 6, 6, 6, 6, 6, 6, 6, 6, 6, 6, 6, 6, 6, 6, 6, 6, 6, 6, 6, 6, 6, 6, 6, 6, 6, 6, 6, 6, 6, 6, 7, 7, 7, 7, 7, 7, 7, 7, 7, 7, 7, 7, 7, 7, 7, 7, 7, 7, 7, 7, 7, 7, 7, 7, 7, 7, 7, 7, 7, 7, 7, 7, 7, 7, 7, 7, 7, 7, 7, 7, 7, 7, 7, 7, 7, 7, 7, 7, 7, 7, 7, 7, 7, 7, 7, 7, 7, 7, 7, 7, 7, 7, 7, 7, 8, 8, 8, 8, 8, 8, 8, 8, 8, 8, 8, 8, 8, 8, 8, 8, 8, 8, 8, 8, 8, 8, 8, 8, 8, 8, 8, 8, 8, 8, 8, 8, 8, 8, 8, 8, 8, 8, 8, 8, 8, 8, 8, 8, 8, 8, 8, 8, 8, 8, 8, 8, 8, 8, 8, 8, 8, 8, 8, 8, 8, 8, 8, 8, 8, 8, 8, 8, 8, 8, 8, 8, 8, 8, 8, 8, 8, 8, 8, 8, 8, 8, 8, 8, 8, 8, 8, 8, 8, 8, 8, 8, 8, 8, 8, 8, 8, 8, 8, 8, 8, 8, 8, 8, 8, 8, 8, 8, 8, 8, 8, 8, 8, 8, 8, 8, 8, 8, 8, 8, 8, 8, 8, 8, 8, 8, 8, 8] }
theorem tab_size : lenTab.size = 256 := by decide +kernel
theorem tab_all : ∀ i : Fin 256, (lenTab[i.val]'(by rw [tab_size]; exact i.isLt)).toNat = ln i.val := by decide +kernel
theorem tab_at (i : Nat) (h : i < lenTab.size) : lenTab[i].toNat = ln i := tab_all ⟨i, by rw [tab_size] at h; exact h⟩
theorem len_end (n j : Nat) (x i : Int) (hi : i.toNat = n / 2 ^ j) (hx : x.toNat = n) (h : n / 2 ^ j < 256) (h2 : j = 0 ∨ n / 2 ^ j ≠ 0) (hj : j ≤ 56) : wrap64 ((j : Int) + wrap64 ((ln i.toNat : Nat) : Int)) = ((ln x.toNat : Nat) : Int) := by
  have h3 : ln (n / 2 ^ j) ≤ 8 := ln_le h
  rw [hi, hx, wr64 ((ln (n / 2 ^ j) : Nat) : Int) (by omega) (by omega), wr64 _ (by omega) (by omega)]
  rcases h2 with rfl | h2
  · rw [Nat.pow_zero, Nat.div_one]; omega
  · rw [ln_add j h2]; omega
set_option maxRecDepth 100000 in
theorem len_any (x : Int) (h0 : 0 ≤ x) (h1 : x ≤ 18446744073709551615) (w : World) :
    Calls Try.prog 85 #[.int .u64 x] w fun e w' => e = .returned (.int .i64 (ln x.toNat)) ∧ w = w' := by
  by_cases a1 : 4294967296 ≤ x
  · by_cases a2 : 65536 ≤ x / 4294967296
    · by_cases a3 : 256 ≤ x / 4294967296 / 65536
      · go_enter Try.func85, Try.ntmps85
        go_wp2_with fail
        go_returns
        refine ⟨rt_i ?_, rfl⟩
        refine (congrArg (fun (n : Nat) => wrap64 (((56 : Nat) : Int) + wrap64 (n : Int))) (tab_at (x / 4294967296 / 65536 / 256).toNat (by rw [tab_size]; omega))).trans ?_
        exact len_end x.toNat 56 x (x / 4294967296 / 65536 / 256) (by simp only [Nat.reducePow]; omega) rfl (by simp only [Nat.reducePow]; omega) (Or.inr (by simp only [Nat.reducePow]; omega)) (by decide)
      · go_enter Try.func85, Try.ntmps85
        go_wp2_with fail
        go_returns
        refine ⟨rt_i ?_, rfl⟩
        refine (congrArg (fun (n : Nat) => wrap64 (((48 : Nat) : Int) + wrap64 (n : Int))) (tab_at (x / 4294967296 / 65536).toNat (by rw [tab_size]; omega))).trans ?_
        exact len_end x.toNat 48 x (x / 4294967296 / 65536) (by simp only [Nat.reducePow]; omega) rfl (by simp only [Nat.reducePow]; omega) (Or.inr (by simp only [Nat.reducePow]; omega)) (by decide)
    · by_cases a3 : 256 ≤ x / 4294967296
      · go_enter Try.func85, Try.ntmps85
        go_wp2_with fail
        go_returns
        refine ⟨rt_i ?_, rfl⟩
        refine (congrArg (fun (n : Nat) => wrap64 (((40 : Nat) : Int) + wrap64 (n : Int))) (tab_at (x / 4294967296 / 256).toNat (by rw [tab_size]; omega))).trans ?_
        exact len_end x.toNat 40 x (x / 4294967296 / 256) (by simp only [Nat.reducePow]; omega) rfl (by simp only [Nat.reducePow]; omega) (Or.inr (by simp only [Nat.reducePow]; omega)) (by decide)
      · go_enter Try.func85, Try.ntmps85
        go_wp2_with fail
        go_returns
        refine ⟨rt_i ?_, rfl⟩
        refine (congrArg (fun (n : Nat) => wrap64 (((32 : Nat) : Int) + wrap64 (n : Int))) (tab_at (x / 4294967296).toNat (by rw [tab_size]; omega))).trans ?_
        exact len_end x.toNat 32 x (x / 4294967296) (by simp only [Nat.reducePow]; omega) rfl (by simp only [Nat.reducePow]; omega) (Or.inr (by simp only [Nat.reducePow]; omega)) (by decide)
  · by_cases a2 : 65536 ≤ x
    · by_cases a3 : 256 ≤ x / 65536
      · go_enter Try.func85, Try.ntmps85
        go_wp2_with fail
        go_returns
        refine ⟨rt_i ?_, rfl⟩
        refine (congrArg (fun (n : Nat) => wrap64 (((24 : Nat) : Int) + wrap64 (n : Int))) (tab_at (x / 65536 / 256).toNat (by rw [tab_size]; omega))).trans ?_
        exact len_end x.toNat 24 x (x / 65536 / 256) (by simp only [Nat.reducePow]; omega) rfl (by simp only [Nat.reducePow]; omega) (Or.inr (by simp only [Nat.reducePow]; omega)) (by decide)
      · go_enter Try.func85, Try.ntmps85
        go_wp2_with fail
        go_returns
        refine ⟨rt_i ?_, rfl⟩
        refine (congrArg (fun (n : Nat) => wrap64 (((16 : Nat) : Int) + wrap64 (n : Int))) (tab_at (x / 65536).toNat (by rw [tab_size]; omega))).trans ?_
        exact len_end x.toNat 16 x (x / 65536) (by simp only [Nat.reducePow]; omega) rfl (by simp only [Nat.reducePow]; omega) (Or.inr (by simp only [Nat.reducePow]; omega)) (by decide)
    · by_cases a3 : 256 ≤ x
      · go_enter Try.func85, Try.ntmps85
        go_wp2_with fail
        go_returns
        refine ⟨rt_i ?_, rfl⟩
        refine (congrArg (fun (n : Nat) => wrap64 (((8 : Nat) : Int) + wrap64 (n : Int))) (tab_at (x / 256).toNat (by rw [tab_size]; omega))).trans ?_
        exact len_end x.toNat 8 x (x / 256) (by simp only [Nat.reducePow]; omega) rfl (by simp only [Nat.reducePow]; omega) (Or.inr (by simp only [Nat.reducePow]; omega)) (by decide)
      · go_enter Try.func85, Try.ntmps85
        go_wp2_with fail
        go_returns
        refine ⟨rt_i ?_, rfl⟩
        refine (congrArg (fun (n : Nat) => wrap64 (wrap64 (n : Int))) (tab_at (x).toNat (by rw [tab_size]; omega))).trans ?_
        refine (congrArg wrap64 (Int.zero_add _)).symm.trans ?_
        exact len_end x.toNat 0 x (x) (by simp only [Nat.reducePow]; omega) rfl (by simp only [Nat.reducePow]; omega) (Or.inl rfl) (by decide)
end Go.Proofs.Ythjjfginenpfjaa
