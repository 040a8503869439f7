/-
  Texts of layer 5 and of those below it, put together: contracts and plain mathematics that ScalarSets needs.
-/
import Derived.Test.YtcimihckhobniaaGreatZM0
import Derived.Test.YtcimihckhobniaaGreatRows
import Derived.WalkKit
import Derived.WalkSpells
import Derived.WalkLawsBesides
import Derived.Below
import Derived.Handy
import Derived.Lib.Hide
import Derived.Deep.Light
import Derived.Laws.StructEq
import Derived.Deep.RegionHeld3
import Derived.BigQuiet
import Derived.BigRegion
import Derived.Deep.QuietTactic
import Derived.StillTailTactics
import Derived.Test.YtcimihckhobniaaGreatZM1
namespace Go.Proofs.YtcimihckhobniaaGreat
open Go.RowKit Tn Ow Sp
set_option linter.unusedVariables false
set_option linter.unusedSimpArgs false
theorem rt_i {k : IntKind} {a b : Int} (h : a = b) : Ending.returned (.int k a) = .returned (.int k b) := by rw [h]
theorem rt_b {x y : Bool} (h3 : x = y) : Ending.returned (.bool x) = .returned (.bool y) := by rw [h3]
theorem rt_u {k : IntKind} {a b c d : Int} (h1 : a = b) (h2 : c = d) : Ending.returned (.agg #[.int k a, .int k c]) = .returned (.agg #[.int k b, .int k d]) := by rw [h1, h2]
theorem rt_ub {k : IntKind} {a b c d : Int} {x y : Bool} (h1 : a = b) (h2 : c = d) (h3 : x = y) : Ending.returned (.tuple #[.agg #[.int k a, .int k c], .bool x]) = .returned (.tuple #[.agg #[.int k b, .int k d], .bool y]) := by rw [h1, h2, h3]
theorem wr64 (n : Int) (h0 : -9223372036854775808 ≤ n) (h1 : n ≤ 9223372036854775807) : wrap64 n = n := by unfold wrap64; omega
theorem wru (n : Int) (h0 : 0 ≤ n) (h1 : n ≤ 18446744073709551615) : IntKind.u64.wrap n = n := by rw [IntKind.wrap_u64]; omega
theorem pow_bd (k : Nat) (hk : k ≤ 63) : (1 : Int) ≤ 2 ^ k ∧ (2 : Int) ^ k ≤ 9223372036854775808 := by
  have h1 := pow_pos' k
  have h2 : (2 : Nat) ^ k ≤ 2 ^ 63 := Nat.pow_le_pow_right (by decide) hk
  have h3 := Int.ofNat_le.2 h2
  rw [pow_cast] at h3
  simp only [Nat.reducePow] at h3
  omega
theorem ones_any (k : Nat) (hk : k ≤ 64) (w : World) :
    Calls Tryz.prog 169 #[.int .i64 k] w fun e w' => e = .returned (.int .u64 (2 ^ k - 1)) ∧ w = w' := by
  go_enter Tryz.func169, Tryz.ntmps169
  go_wp2
  go_returns
  refine ⟨rt_i ?_, rfl⟩
  rw [IntKind.wrap_u64, IntKind.wrap_u64]
  by_cases h : k = 64
  · subst h; rfl
  · have := pow_bd k (by omega)
    omega
def lenTab : ByteArray := { data := #[0, 1, 2, 2, 3, 3, 3, 3, 4, 4, 4, 4, 4, 4, 4, 4, 5, 5, 5, 5, 5, 5, 5, 5, 5, 5, 5, 5, 5, 5, 5, 5, 6, 6, 6, 6, 6, 6, 6, 6, 6, 6, 6, 6, 6, 6, 6, 6, 6, 6, 6, 6, 6, 6, 6, 6, 6, 6, 6, 6, 6, 6, 6, 6, 7, 7, 7, 7, 7, 7, 7, 7, 7, 7, 7, 7, 7, 7, 7, 7, 7, 7, 7, 7, 7, 7, 7, 7, 7, 7, 7, 7, 7, 7, 7, 7, 7, 7, 7, 7, 7, 7, 7, 7, 7, 7, 7, 7, 7, 7, 7, 7, 7, 7, 7, 7, 7, 7, 7, 7, 7, 7, 7, 7, 7, 7, 7, 7, 8, 8, 8, 8, 8, 8, 8, 8, 8, 8, 8, 8, 8, 8, 8, 8, 8, 8, 8, 8, 8, 8, 8, 8, 8, 8, 8, 8, 8, 8, 8, 8, 8, 8, 8, 8, 8, 8, 8, 8, 8, 8, 8, 8, 8, 8, 8, 8, 8, 8, 8, 8, 8, 8, 8, 8, 8, 8, 8, 8, 8, 8, 8, 8, 8, 8, 8, 8, 8, 8, 8, 8, 8, 8, 8, 8, 8, 8, 8, 8, 8, 8, 8, 8, 8, 8, 8, 8, 8, 8, 8, 8, 8, 8, 8, 8, 8, 8, 8, 8, 8, 8, 8, 8, 8, 8, 8, 8, 8, 8, 8, 8, 8, 8, 8, 8, 8, 8, 8, 8, 8, 8, 8, 8, 8, 8, 8, 8] }
theorem tab_size : lenTab.size = 256 := by decide +kernel
theorem tab_all : ∀ i : Fin 256, (lenTab[i.val]'(by rw [tab_size]; exact i.isLt)).toNat = ln i.val := by decide +kernel
theorem tab_at (i : Nat) (h : i < lenTab.size) : lenTab[i].toNat = ln i := tab_all ⟨i, by rw [tab_size] at h; exact h⟩
theorem len_end (n j : Nat) (x i : Int) (hi : i.toNat = n / 2 ^ j) (hx : x.toNat = n) (h : n / 2 ^ j < 256) (h2 : j = 0 ∨ n / 2 ^ j ≠ 0) (hj : j ≤ 56) : wrap64 ((j : Int) + wrap64 ((ln i.toNat : Nat) : Int)) = ((ln x.toNat : Nat) : Int) := by
  have h3 : ln (n / 2 ^ j) ≤ 8 := ln_le h
  rw [hi, hx, wr64 ((ln (n / 2 ^ j) : Nat) : Int) (by omega) (by omega), wr64 _ (by omega) (by omega)]
  rcases h2 with rfl | h2
  · rw [Nat.pow_zero, Nat.div_one]; omega
  · rw [ln_add j h2]; omega
set_option maxRecDepth 100000 in
theorem len_any (x : Int) (h0 : 0 ≤ x) (h1 : x ≤ 18446744073709551615) (w : World) :
    Calls Tryz.prog 170 #[.int .u64 x] w fun e w' => e = .returned (.int .i64 (ln x.toNat)) ∧ w = w' := by
  by_cases a1 : 4294967296 ≤ x
  · by_cases a2 : 65536 ≤ x / 4294967296
    · by_cases a3 : 256 ≤ x / 4294967296 / 65536
      · go_enter Tryz.func170, Tryz.ntmps170
        go_wp2_with fail
        go_returns
        refine ⟨rt_i ?_, rfl⟩
        refine (congrArg (fun (n : Nat) => wrap64 (((56 : Nat) : Int) + wrap64 (n : Int))) (tab_at (x / 4294967296 / 65536 / 256).toNat (by rw [tab_size]; omega))).trans ?_
        exact len_end x.toNat 56 x (x / 4294967296 / 65536 / 256) (by simp only [Nat.reducePow]; omega) rfl (by simp only [Nat.reducePow]; omega) (Or.inr (by simp only [Nat.reducePow]; omega)) (by decide)
      · go_enter Tryz.func170, Tryz.ntmps170
        go_wp2_with fail
        go_returns
        refine ⟨rt_i ?_, rfl⟩
        refine (congrArg (fun (n : Nat) => wrap64 (((48 : Nat) : Int) + wrap64 (n : Int))) (tab_at (x / 4294967296 / 65536).toNat (by rw [tab_size]; omega))).trans ?_
        exact len_end x.toNat 48 x (x / 4294967296 / 65536) (by simp only [Nat.reducePow]; omega) rfl (by simp only [Nat.reducePow]; omega) (Or.inr (by simp only [Nat.reducePow]; omega)) (by decide)
    · by_cases a3 : 256 ≤ x / 4294967296
      · go_enter Tryz.func170, Tryz.ntmps170
        go_wp2_with fail
        go_returns
        refine ⟨rt_i ?_, rfl⟩
        refine (congrArg (fun (n : Nat) => wrap64 (((40 : Nat) : Int) + wrap64 (n : Int))) (tab_at (x / 4294967296 / 256).toNat (by rw [tab_size]; omega))).trans ?_
        exact len_end x.toNat 40 x (x / 4294967296 / 256) (by simp only [Nat.reducePow]; omega) rfl (by simp only [Nat.reducePow]; omega) (Or.inr (by simp only [Nat.reducePow]; omega)) (by decide)
      · go_enter Tryz.func170, Tryz.ntmps170
        go_wp2_with fail
        go_returns
        refine ⟨rt_i ?_, rfl⟩
        refine (congrArg (fun (n : Nat) => wrap64 (((32 : Nat) : Int) + wrap64 (n : Int))) (tab_at (x / 4294967296).toNat (by rw [tab_size]; omega))).trans ?_
        exact len_end x.toNat 32 x (x / 4294967296) (by simp only [Nat.reducePow]; omega) rfl (by simp only [Nat.reducePow]; omega) (Or.inr (by simp only [Nat.reducePow]; omega)) (by decide)
  · by_cases a2 : 65536 ≤ x
    · by_cases a3 : 256 ≤ x / 65536
      · go_enter Tryz.func170, Tryz.ntmps170
        go_wp2_with fail
        go_returns
        refine ⟨rt_i ?_, rfl⟩
        refine (congrArg (fun (n : Nat) => wrap64 (((24 : Nat) : Int) + wrap64 (n : Int))) (tab_at (x / 65536 / 256).toNat (by rw [tab_size]; omega))).trans ?_
        exact len_end x.toNat 24 x (x / 65536 / 256) (by simp only [Nat.reducePow]; omega) rfl (by simp only [Nat.reducePow]; omega) (Or.inr (by simp only [Nat.reducePow]; omega)) (by decide)
      · go_enter Tryz.func170, Tryz.ntmps170
        go_wp2_with fail
        go_returns
        refine ⟨rt_i ?_, rfl⟩
        refine (congrArg (fun (n : Nat) => wrap64 (((16 : Nat) : Int) + wrap64 (n : Int))) (tab_at (x / 65536).toNat (by rw [tab_size]; omega))).trans ?_
        exact len_end x.toNat 16 x (x / 65536) (by simp only [Nat.reducePow]; omega) rfl (by simp only [Nat.reducePow]; omega) (Or.inr (by simp only [Nat.reducePow]; omega)) (by decide)
    · by_cases a3 : 256 ≤ x
      · go_enter Tryz.func170, Tryz.ntmps170
        go_wp2_with fail
        go_returns
        refine ⟨rt_i ?_, rfl⟩
        refine (congrArg (fun (n : Nat) => wrap64 (((8 : Nat) : Int) + wrap64 (n : Int))) (tab_at (x / 256).toNat (by rw [tab_size]; omega))).trans ?_
        exact len_end x.toNat 8 x (x / 256) (by simp only [Nat.reducePow]; omega) rfl (by simp only [Nat.reducePow]; omega) (Or.inr (by simp only [Nat.reducePow]; omega)) (by decide)
      · go_enter Tryz.func170, Tryz.ntmps170
        go_wp2_with fail
        go_returns
        refine ⟨rt_i ?_, rfl⟩
        refine (congrArg (fun (n : Nat) => wrap64 (wrap64 (n : Int))) (tab_at (x).toNat (by rw [tab_size]; omega))).trans ?_
        refine (congrArg wrap64 (Int.zero_add _)).symm.trans ?_
        exact len_end x.toNat 0 x (x) (by simp only [Nat.reducePow]; omega) rfl (by simp only [Nat.reducePow]; omega) (Or.inl rfl) (by decide)
end Go.Proofs.YtcimihckhobniaaGreat
namespace Go.Proofs.YtcimihckhobniaaGreat
open Go.RowKit Tn Ow Sp
set_option linter.unusedVariables false
set_option linter.unusedSimpArgs false
theorem below_then {B : Nat} {w w1 w2 : World} (h1 : Below B w w1) (h2 : Below w1.heap.size w1 w2) (hB : B ≤ w.heap.size) : Below B w w2 :=
  h1.trans (h2.mono (by have := h1.size; omega))
theorem keep1 {w0 w1 : World} {p : Addr} {v : Value} (q1 : Below w0.heap.size w0 w1) (h : w0.cell? p = some v) : w1.cell? p = some v :=
  (q1.cell (World.block_lt_of_cell? w0 _ h)).trans h
theorem keepf {w0 w1 : World} {p : Addr} (q1 : Below w0.heap.size w0 w1) (h : p.block < w0.heap.size) {b : Bool} (hf : w0.frozen? p = b) : w1.frozen? p = b :=
  (q1.frozen h).trans hf
/-- Whatever a cell holds. -/
def cv (w : World) (r i : Nat) : Value := (w.cell? ⟨r, i, none⟩).getD (.bool false)
theorem cv_some {w : World} {r i : Nat} {v : Value} (h : w.cell? ⟨r, i, none⟩ = some v) : w.cell? ⟨r, i, none⟩ = some (cv w r i) := by unfold cv; rw [h]; rfl
theorem uall_any (w : World) :
    Calls Tryz.prog 50 #[] w fun e w' => e = .returned (.agg #[.int .u64 uAll.lo, .int .u64 uAll.hi]) ∧ Below w.heap.size w w' := by
  go_enter Tryz.func50, Tryz.ntmps50
  go_wp2
  go_returns
  exact ⟨rfl, by go_grown⟩
theorem sall_any (w : World) :
    Calls Tryz.prog 51 #[] w fun e w' => e = .returned (.agg #[.int .i64 sAll.lo, .int .i64 sAll.hi]) ∧ Below w.heap.size w w' := by
  go_enter Tryz.func51, Tryz.ntmps51
  go_wp2
  go_returns
  exact ⟨rfl, by go_grown⟩
theorem uof_any (v : Int) (w : World) :
    Calls Tryz.prog 44 #[.int .u64 v] w fun e w' => e = .returned (.agg #[.int .u64 (ofE v).lo, .int .u64 (ofE v).hi]) ∧ Below w.heap.size w w' := by
  go_enter Tryz.func44, Tryz.ntmps44
  go_wp2
  go_returns
  exact ⟨rfl, by go_grown⟩
theorem sg_wrap (v : Int) (h0 : 0 ≤ v) (h1 : v ≤ 18446744073709551615) : wrap64 v = sg v := by unfold sg wrap64; split <;> omega
theorem us_wrap (v : Int) (h0 : -9223372036854775808 ≤ v) (h1 : v ≤ 9223372036854775807) : IntKind.u64.wrap v = us v := by rw [IntKind.wrap_u64]; unfold us; split <;> omega
theorem sof_any (v : Int) (h0 : 0 ≤ v) (h1 : v ≤ 18446744073709551615) (w : World) :
    Calls Tryz.prog 45 #[.int .u64 v] w fun e w' => e = .returned (.agg #[.int .i64 (ofE (sg v)).lo, .int .i64 (ofE (sg v)).hi]) ∧ Below w.heap.size w w' := by
  go_enter Tryz.func45, Tryz.ntmps45
  go_wp2
  go_returns
  exact ⟨rt_u (sg_wrap v h0 h1) (sg_wrap v h0 h1), by go_grown⟩
theorem uwithin_any (a b : E) (w : World) :
    Calls Tryz.prog 115 #[.agg #[.int .u64 a.lo, .int .u64 a.hi], .agg #[.int .u64 b.lo, .int .u64 b.hi]] w fun e w' => e = .returned (.bool (withE a b)) ∧ Below w.heap.size w w' := by
  by_cases h1 : b.lo ≤ a.lo
  · go_enter Tryz.func115, Tryz.ntmps115
    go_wp2
    go_returns
    refine ⟨rt_b ?_, by go_grown⟩
    unfold withE
    rw [decide_eq_decide]
    exact ⟨fun h => ⟨h1, h⟩, fun h => h.2⟩
  · go_enter Tryz.func115, Tryz.ntmps115
    go_wp2
    go_returns
    refine ⟨rt_b ?_, by go_grown⟩
    unfold withE
    exact (decide_eq_false (by omega)).symm
theorem ujoin_any (a b : E) (w : World) :
    Calls Tryz.prog 118 #[.agg #[.int .u64 a.lo, .int .u64 a.hi], .agg #[.int .u64 b.lo, .int .u64 b.hi]] w fun e w' => e = .returned (.agg #[.int .u64 (joinE a b).lo, .int .u64 (joinE a b).hi]) ∧ Below w.heap.size w w' := by
  go_enter Tryz.func118, Tryz.ntmps118
  go_wp2
  all_goals go_returns
  all_goals exact ⟨rt_u (by show _ = min _ _; omega) (by show _ = max _ _; omega), by go_grown⟩
set_option maxHeartbeats 4000000 in
theorem umeet_any (a b : E) (w : World) :
    Calls Tryz.prog 167 #[.agg #[.int .u64 a.lo, .int .u64 a.hi], .agg #[.int .u64 b.lo, .int .u64 b.hi]] w fun e w' => e = .returned (.tuple #[.agg #[.int .u64 (meetE a b).lo, .int .u64 (meetE a b).hi], .bool (metE a b)]) ∧ Below w.heap.size w w' := by
  by_cases p : a.lo < b.lo
  · by_cases q : b.hi < a.hi
    · by_cases h : b.lo ≤ b.hi
      · have e1 := Lib.hid (show meetE a b = ⟨b.lo, b.hi⟩ by unfold meetE; rw [if_pos (by omega)]; exact E.eq (show max a.lo b.lo = b.lo by omega) (show min a.hi b.hi = b.hi by omega))
        have e2 := Lib.hid (show metE a b = true by unfold metE; rw [decide_eq_true (by omega)])
        rw [e1.out, e2.out]
        go_enter Tryz.func167, Tryz.ntmps167
        go_wp2
        go_returns
        exact ⟨rt_ub rfl rfl rfl, by go_grown⟩
      · have e1 := Lib.hid (show meetE a b = ⟨0, 0⟩ by unfold meetE; rw [if_neg (by omega)])
        have e2 := Lib.hid (show metE a b = false by unfold metE; rw [decide_eq_false (by omega)])
        rw [e1.out, e2.out]
        go_enter Tryz.func167, Tryz.ntmps167
        go_wp2
        go_returns
        exact ⟨rt_ub rfl rfl rfl, by go_grown⟩
    · by_cases h : b.lo ≤ a.hi
      · have e1 := Lib.hid (show meetE a b = ⟨b.lo, a.hi⟩ by unfold meetE; rw [if_pos (by omega)]; exact E.eq (show max a.lo b.lo = b.lo by omega) (show min a.hi b.hi = a.hi by omega))
        have e2 := Lib.hid (show metE a b = true by unfold metE; rw [decide_eq_true (by omega)])
        rw [e1.out, e2.out]
        go_enter Tryz.func167, Tryz.ntmps167
        go_wp2
        go_returns
        exact ⟨rt_ub rfl rfl rfl, by go_grown⟩
      · have e1 := Lib.hid (show meetE a b = ⟨0, 0⟩ by unfold meetE; rw [if_neg (by omega)])
        have e2 := Lib.hid (show metE a b = false by unfold metE; rw [decide_eq_false (by omega)])
        rw [e1.out, e2.out]
        go_enter Tryz.func167, Tryz.ntmps167
        go_wp2
        go_returns
        exact ⟨rt_ub rfl rfl rfl, by go_grown⟩
  · by_cases q : b.hi < a.hi
    · by_cases h : a.lo ≤ b.hi
      · have e1 := Lib.hid (show meetE a b = ⟨a.lo, b.hi⟩ by unfold meetE; rw [if_pos (by omega)]; exact E.eq (show max a.lo b.lo = a.lo by omega) (show min a.hi b.hi = b.hi by omega))
        have e2 := Lib.hid (show metE a b = true by unfold metE; rw [decide_eq_true (by omega)])
        rw [e1.out, e2.out]
        go_enter Tryz.func167, Tryz.ntmps167
        go_wp2
        go_returns
        exact ⟨rt_ub rfl rfl rfl, by go_grown⟩
      · have e1 := Lib.hid (show meetE a b = ⟨0, 0⟩ by unfold meetE; rw [if_neg (by omega)])
        have e2 := Lib.hid (show metE a b = false by unfold metE; rw [decide_eq_false (by omega)])
        rw [e1.out, e2.out]
        go_enter Tryz.func167, Tryz.ntmps167
        go_wp2
        go_returns
        exact ⟨rt_ub rfl rfl rfl, by go_grown⟩
    · by_cases h : a.lo ≤ a.hi
      · have e1 := Lib.hid (show meetE a b = ⟨a.lo, a.hi⟩ by unfold meetE; rw [if_pos (by omega)]; exact E.eq (show max a.lo b.lo = a.lo by omega) (show min a.hi b.hi = a.hi by omega))
        have e2 := Lib.hid (show metE a b = true by unfold metE; rw [decide_eq_true (by omega)])
        rw [e1.out, e2.out]
        go_enter Tryz.func167, Tryz.ntmps167
        go_wp2
        go_returns
        exact ⟨rt_ub rfl rfl rfl, by go_grown⟩
      · have e1 := Lib.hid (show meetE a b = ⟨0, 0⟩ by unfold meetE; rw [if_neg (by omega)])
        have e2 := Lib.hid (show metE a b = false by unfold metE; rw [decide_eq_false (by omega)])
        rw [e1.out, e2.out]
        go_enter Tryz.func167, Tryz.ntmps167
        go_wp2
        go_returns
        exact ⟨rt_ub rfl rfl rfl, by go_grown⟩
theorem swithin_any (a b : E) (w : World) :
    Calls Tryz.prog 116 #[.agg #[.int .i64 a.lo, .int .i64 a.hi], .agg #[.int .i64 b.lo, .int .i64 b.hi]] w fun e w' => e = .returned (.bool (withE a b)) ∧ Below w.heap.size w w' := by
  by_cases h1 : b.lo ≤ a.lo
  · go_enter Tryz.func116, Tryz.ntmps116
    go_wp2
    go_returns
    refine ⟨rt_b ?_, by go_grown⟩
    unfold withE
    rw [decide_eq_decide]
    exact ⟨fun h => ⟨h1, h⟩, fun h => h.2⟩
  · go_enter Tryz.func116, Tryz.ntmps116
    go_wp2
    go_returns
    refine ⟨rt_b ?_, by go_grown⟩
    unfold withE
    exact (decide_eq_false (by omega)).symm
theorem sjoin_any (a b : E) (w : World) :
    Calls Tryz.prog 119 #[.agg #[.int .i64 a.lo, .int .i64 a.hi], .agg #[.int .i64 b.lo, .int .i64 b.hi]] w fun e w' => e = .returned (.agg #[.int .i64 (joinE a b).lo, .int .i64 (joinE a b).hi]) ∧ Below w.heap.size w w' := by
  go_enter Tryz.func119, Tryz.ntmps119
  go_wp2
  all_goals go_returns
  all_goals exact ⟨rt_u (by show _ = min _ _; omega) (by show _ = max _ _; omega), by go_grown⟩
set_option maxHeartbeats 4000000 in
theorem smeet_any (a b : E) (w : World) :
    Calls Tryz.prog 168 #[.agg #[.int .i64 a.lo, .int .i64 a.hi], .agg #[.int .i64 b.lo, .int .i64 b.hi]] w fun e w' => e = .returned (.tuple #[.agg #[.int .i64 (meetE a b).lo, .int .i64 (meetE a b).hi], .bool (metE a b)]) ∧ Below w.heap.size w w' := by
  by_cases p : a.lo < b.lo
  · by_cases q : b.hi < a.hi
    · by_cases h : b.lo ≤ b.hi
      · have e1 := Lib.hid (show meetE a b = ⟨b.lo, b.hi⟩ by unfold meetE; rw [if_pos (by omega)]; exact E.eq (show max a.lo b.lo = b.lo by omega) (show min a.hi b.hi = b.hi by omega))
        have e2 := Lib.hid (show metE a b = true by unfold metE; rw [decide_eq_true (by omega)])
        rw [e1.out, e2.out]
        go_enter Tryz.func168, Tryz.ntmps168
        go_wp2
        go_returns
        exact ⟨rt_ub rfl rfl rfl, by go_grown⟩
      · have e1 := Lib.hid (show meetE a b = ⟨0, 0⟩ by unfold meetE; rw [if_neg (by omega)])
        have e2 := Lib.hid (show metE a b = false by unfold metE; rw [decide_eq_false (by omega)])
        rw [e1.out, e2.out]
        go_enter Tryz.func168, Tryz.ntmps168
        go_wp2
        go_returns
        exact ⟨rt_ub rfl rfl rfl, by go_grown⟩
    · by_cases h : b.lo ≤ a.hi
      · have e1 := Lib.hid (show meetE a b = ⟨b.lo, a.hi⟩ by unfold meetE; rw [if_pos (by omega)]; exact E.eq (show max a.lo b.lo = b.lo by omega) (show min a.hi b.hi = a.hi by omega))
        have e2 := Lib.hid (show metE a b = true by unfold metE; rw [decide_eq_true (by omega)])
        rw [e1.out, e2.out]
        go_enter Tryz.func168, Tryz.ntmps168
        go_wp2
        go_returns
        exact ⟨rt_ub rfl rfl rfl, by go_grown⟩
      · have e1 := Lib.hid (show meetE a b = ⟨0, 0⟩ by unfold meetE; rw [if_neg (by omega)])
        have e2 := Lib.hid (show metE a b = false by unfold metE; rw [decide_eq_false (by omega)])
        rw [e1.out, e2.out]
        go_enter Tryz.func168, Tryz.ntmps168
        go_wp2
        go_returns
        exact ⟨rt_ub rfl rfl rfl, by go_grown⟩
  · by_cases q : b.hi < a.hi
    · by_cases h : a.lo ≤ b.hi
      · have e1 := Lib.hid (show meetE a b = ⟨a.lo, b.hi⟩ by unfold meetE; rw [if_pos (by omega)]; exact E.eq (show max a.lo b.lo = a.lo by omega) (show min a.hi b.hi = b.hi by omega))
        have e2 := Lib.hid (show metE a b = true by unfold metE; rw [decide_eq_true (by omega)])
        rw [e1.out, e2.out]
        go_enter Tryz.func168, Tryz.ntmps168
        go_wp2
        go_returns
        exact ⟨rt_ub rfl rfl rfl, by go_grown⟩
      · have e1 := Lib.hid (show meetE a b = ⟨0, 0⟩ by unfold meetE; rw [if_neg (by omega)])
        have e2 := Lib.hid (show metE a b = false by unfold metE; rw [decide_eq_false (by omega)])
        rw [e1.out, e2.out]
        go_enter Tryz.func168, Tryz.ntmps168
        go_wp2
        go_returns
        exact ⟨rt_ub rfl rfl rfl, by go_grown⟩
    · by_cases h : a.lo ≤ a.hi
      · have e1 := Lib.hid (show meetE a b = ⟨a.lo, a.hi⟩ by unfold meetE; rw [if_pos (by omega)]; exact E.eq (show max a.lo b.lo = a.lo by omega) (show min a.hi b.hi = a.hi by omega))
        have e2 := Lib.hid (show metE a b = true by unfold metE; rw [decide_eq_true (by omega)])
        rw [e1.out, e2.out]
        go_enter Tryz.func168, Tryz.ntmps168
        go_wp2
        go_returns
        exact ⟨rt_ub rfl rfl rfl, by go_grown⟩
      · have e1 := Lib.hid (show meetE a b = ⟨0, 0⟩ by unfold meetE; rw [if_neg (by omega)])
        have e2 := Lib.hid (show metE a b = false by unfold metE; rw [decide_eq_false (by omega)])
        rw [e1.out, e2.out]
        go_enter Tryz.func168, Tryz.ntmps168
        go_wp2
        go_returns
        exact ⟨rt_ub rfl rfl rfl, by go_grown⟩
end Go.Proofs.YtcimihckhobniaaGreat
namespace Go.Proofs.YtcimihckhobniaaGreat
open Go.RowKit Tn Ow Sp
set_option linter.unusedVariables false
set_option linter.unusedSimpArgs false
theorem tcells {w : World} {b : Nat} {t : TypeId} {x y : Value} (h : Bk w b t #[x, y]) : w.cell? ⟨b, 0, none⟩ = some x ∧ w.cell? ⟨b, 1, none⟩ = some y := ⟨h.cell 0, h.cell 1⟩
theorem cell_set2 {W : World} {r b i : Nat} {u v : Value} (h : b ≠ r) : ((W.setCell ⟨r, 0, none⟩ u).setCell ⟨r, 1, none⟩ v).cell? ⟨b, i, none⟩ = W.cell? ⟨b, i, none⟩ := by
  rw [World.cell?_setCell_other _ _ _ _ (fun e => h (congrArg Addr.block e).symm), World.cell?_setCell_other _ _ _ _ (fun e => h (congrArg Addr.block e).symm)]
theorem set_fst {W : World} {r : Nat} {u v x : Value} (h : W.cell? ⟨r, 0, none⟩ = some x) : ((W.setCell ⟨r, 0, none⟩ u).setCell ⟨r, 1, none⟩ v).cell? ⟨r, 0, none⟩ = some u := by
  rw [World.cell?_setCell_other _ _ _ _ (fun e => by injection e with _ e2 _; omega)]
  exact World.cell?_setCell_same _ _ _ h
theorem set_snd {W : World} {r : Nat} {u v x : Value} (h : W.cell? ⟨r, 1, none⟩ = some x) : ((W.setCell ⟨r, 0, none⟩ u).setCell ⟨r, 1, none⟩ v).cell? ⟨r, 1, none⟩ = some v := by
  have e1 : (W.setCell ⟨r, 0, none⟩ u).cell? ⟨r, 1, none⟩ = W.cell? ⟨r, 1, none⟩ := World.cell?_setCell_other _ _ _ _ (fun e => by injection e with _ e2 _; omega)
  exact World.cell?_setCell_same _ _ _ (e1.trans h)
theorem keep2 {w W w2 : World} {p0 p1 : Addr} {y0 y1 : Value} (hb : Below W.heap.size W w2) (hh : W.cell? p0 = some y0 ∧ W.cell? p1 = some y1 ∧ Below w.heap.size w W) :
    w2.cell? p0 = some y0 ∧ w2.cell? p1 = some y1 ∧ Below w.heap.size w w2 := by
  obtain ⟨a0, a1, B⟩ := hh
  exact ⟨keep1 hb a0, keep1 hb a1, below_then B hb (Nat.le_refl _)⟩
theorem keepr2 {w W w2 : World} {g0 r : Nat} {y0 y1 : Value} (hb : Below W.heap.size W w2) (hh : W.cell? ⟨g0, 0, none⟩ = some y0 ∧ W.cell? ⟨g0, 1, none⟩ = some y1 ∧ W.cell? ⟨r, 0, none⟩ = some (cv W r 0) ∧ W.cell? ⟨r, 1, none⟩ = some (cv W r 1) ∧ W.frozen? ⟨r, 0, none⟩ = false ∧ W.frozen? ⟨r, 1, none⟩ = false ∧ Below w.heap.size w W) :
    w2.cell? ⟨g0, 0, none⟩ = some y0 ∧ w2.cell? ⟨g0, 1, none⟩ = some y1 ∧ w2.cell? ⟨r, 0, none⟩ = some (cv w2 r 0) ∧ w2.cell? ⟨r, 1, none⟩ = some (cv w2 r 1) ∧ w2.frozen? ⟨r, 0, none⟩ = false ∧ w2.frozen? ⟨r, 1, none⟩ = false ∧ Below w.heap.size w w2 := by
  obtain ⟨a0, a1, k0, k1, e0, e1, B⟩ := hh
  have hr : r < W.heap.size := World.block_lt_of_cell? W _ k0
  exact ⟨keep1 hb a0, keep1 hb a1, cv_some (keep1 hb k0), cv_some (keep1 hb k1), keepf hb hr e0, keepf hb hr e1, below_then B hb (Nat.le_refl _)⟩
set_option maxHeartbeats 1000000 in
theorem uin_any (a : E) (v : Int) (w : World) :
    Calls Tryz.prog 58 #[.agg #[.int .u64 a.lo, .int .u64 a.hi], .int .u64 v] w fun e w' => e = .returned (.bool (inE a (v))) ∧ Below w.heap.size w w' := by
  go_enter Tryz.func58, Tryz.ntmps58
  go_wp2_with fail
  have K0 := (Bk.new w 26 #[.int .u64 a.lo, .int .u64 a.hi])
  have B0 : Below w.heap.size w (w.alloc (.cells #[.int .u64 a.lo, .int .u64 a.hi] 26)) := by go_grown
  generalize (w.alloc (.cells #[.int .u64 a.lo, .int .u64 a.hi] 26)) = w0 at *
  have H0 := Lib.hid K0
  obtain ⟨c00, c01⟩ := tcells K0
  have HB := Lib.hid B0
  clear K0 B0
  go_region_held3 (fun w' => w'.cell? ⟨w.heap.size, 0, none⟩ = some (.int .u64 a.lo) ∧ w'.cell? ⟨w.heap.size, 1, none⟩ = some (.int .u64 a.hi) ∧ Below w.heap.size w w')
    (first | exact ⟨c00, c01, HB.out.drew⟩ | exact keep2 qb (by assumption) | exact keep2 qb ⟨by assumption, by assumption, by assumption⟩ | exact keep2 qb ⟨c00, c01, HB.out.drew⟩)
    (first | (go_at_call 44; with_reducible refine (uof_any v _).mono ?_; rintro e w2 ⟨rfl, qb⟩) | (go_at_call 115; with_reducible refine (uwithin_any (ofE (v)) a _).mono ?_; rintro e w2 ⟨rfl, qb⟩))
  rename_i hH
  have BB := Lib.hid hH.2.2
  clear qb hH
  go_wp2
  go_returns
  exact ⟨rfl, BB.out⟩
set_option maxHeartbeats 1000000 in
theorem sin_any (a : E) (v : Int) (h0 : 0 ≤ v) (h1 : v ≤ 18446744073709551615) (w : World) :
    Calls Tryz.prog 59 #[.agg #[.int .i64 a.lo, .int .i64 a.hi], .int .u64 v] w fun e w' => e = .returned (.bool (inE a (sg v))) ∧ Below w.heap.size w w' := by
  go_enter Tryz.func59, Tryz.ntmps59
  go_wp2_with fail
  have K0 := (Bk.new w 28 #[.int .i64 a.lo, .int .i64 a.hi])
  have B0 : Below w.heap.size w (w.alloc (.cells #[.int .i64 a.lo, .int .i64 a.hi] 28)) := by go_grown
  generalize (w.alloc (.cells #[.int .i64 a.lo, .int .i64 a.hi] 28)) = w0 at *
  have H0 := Lib.hid K0
  obtain ⟨c00, c01⟩ := tcells K0
  have HB := Lib.hid B0
  clear K0 B0
  go_region_held3 (fun w' => w'.cell? ⟨w.heap.size, 0, none⟩ = some (.int .i64 a.lo) ∧ w'.cell? ⟨w.heap.size, 1, none⟩ = some (.int .i64 a.hi) ∧ Below w.heap.size w w')
    (first | exact ⟨c00, c01, HB.out.drew⟩ | exact keep2 qb (by assumption) | exact keep2 qb ⟨by assumption, by assumption, by assumption⟩ | exact keep2 qb ⟨c00, c01, HB.out.drew⟩)
    (first | (go_at_call 45; with_reducible refine (sof_any v h0 h1 _).mono ?_; rintro e w2 ⟨rfl, qb⟩) | (go_at_call 116; with_reducible refine (swithin_any (ofE (sg v)) a _).mono ?_; rintro e w2 ⟨rfl, qb⟩))
  rename_i hH
  have BB := Lib.hid hH.2.2
  clear qb hH
  go_wp2
  go_returns
  exact ⟨rfl, BB.out⟩
end Go.Proofs.YtcimihckhobniaaGreat
