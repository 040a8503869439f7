/-
  Texts of layer 5 and of those below it, put together: contracts and plain mathematics that ScalarSets needs.
-/
import Derived.Test.YtcimihckhobniaaGreatZM4
import Derived.Test.YtcimihckhobniaaGreatZM1
namespace Go.Proofs.YtcimihckhobniaaGreat
open Go.RowKit Tn Ow Sp
set_option linter.unusedVariables false
set_option linter.unusedSimpArgs false
theorem rtop_any (w : World) : Calls Tryz.prog 114 #[] w fun e w' => e = .returned (.int .u64 9223372036854775808) ∧ w = w' := by
  go_enter Tryz.func114, Tryz.ntmps114
  go_wp2
  go_returns
  exact ⟨rfl, rfl⟩
theorem ruall_any (w : World) :
    Calls Tryz.prog 53 #[] w fun e w' => e = .returned (.agg #[.int .u64 uAll.lo, .int .u64 uAll.hi]) ∧ Below w.heap.size w w' := by
  go_enter Tryz.func53, Tryz.ntmps53
  go_wp2_with (go_at_call 114; refine (rtop_any _).mono ?_; rintro e w' ⟨rfl, rfl⟩)
  go_returns
  exact ⟨rfl, by go_grown⟩
theorem rsall_any (w : World) :
    Calls Tryz.prog 54 #[] w fun e w' => e = .returned (.agg #[.int .i64 sAll.lo, .int .i64 sAll.hi]) ∧ Below w.heap.size w w' := by
  go_enter Tryz.func54, Tryz.ntmps54
  go_wp2
  go_returns
  exact ⟨rfl, by go_grown⟩
theorem ruof_any (v : Int) (w : World) :
    Calls Tryz.prog 47 #[.int .u64 v] w fun e w' => e = .returned (.agg #[.int .u64 (ofE v).lo, .int .u64 (ofE v).hi]) ∧ Below w.heap.size w w' := by
  go_enter Tryz.func47, Tryz.ntmps47
  go_wp2
  go_returns
  exact ⟨rfl, by go_grown⟩
theorem rsof_any (v : Int) (h0 : 0 ≤ v) (h1 : v ≤ 18446744073709551615) (w : World) :
    Calls Tryz.prog 48 #[.int .u64 v] w fun e w' => e = .returned (.agg #[.int .i64 (ofE (sg v)).lo, .int .i64 (ofE (sg v)).hi]) ∧ Below w.heap.size w w' := by
  go_enter Tryz.func48, Tryz.ntmps48
  go_wp2
  go_returns
  exact ⟨rt_u (sg_wrap v h0 h1) (sg_wrap v h0 h1), by go_grown⟩
theorem ruin_any (a : E) (v : Int) (w : World) :
    Calls Tryz.prog 61 #[.agg #[.int .u64 a.lo, .int .u64 a.hi], .int .u64 v] w fun e w' => e = .returned (.bool (inE a v)) ∧ Below w.heap.size w w' := by
  by_cases h1 : a.lo ≤ v
  · go_enter Tryz.func61, Tryz.ntmps61
    go_wp2
    go_returns
    refine ⟨rt_b ?_, by go_grown⟩
    unfold inE
    rw [decide_eq_decide]
    exact ⟨fun h => ⟨h1, h⟩, fun h => h.2⟩
  · go_enter Tryz.func61, Tryz.ntmps61
    go_wp2
    go_returns
    refine ⟨rt_b ?_, by go_grown⟩
    unfold inE
    exact (decide_eq_false (by omega)).symm
theorem rsin_any (a : E) (v : Int) (h0 : 0 ≤ v) (h9 : v ≤ 18446744073709551615) (w : World) :
    Calls Tryz.prog 62 #[.agg #[.int .i64 a.lo, .int .i64 a.hi], .int .u64 v] w fun e w' => e = .returned (.bool (inE a (sg v))) ∧ Below w.heap.size w w' := by
  have q := sg_wrap v h0 h9
  rw [← q]
  clear q
  by_cases h1 : a.lo ≤ wrap64 v
  · go_enter Tryz.func62, Tryz.ntmps62
    go_wp2
    go_returns
    refine ⟨rt_b ?_, by go_grown⟩
    unfold inE
    rw [decide_eq_decide]
    exact ⟨fun h => ⟨h1, h⟩, fun h => h.2⟩
  · go_enter Tryz.func62, Tryz.ntmps62
    go_wp2
    go_returns
    refine ⟨rt_b ?_, by go_grown⟩
    unfold inE
    exact (decide_eq_false (by omega)).symm
theorem rswith_any (a b : E) (w : World) :
    Calls Tryz.prog 68 #[.agg #[.int .i64 a.lo, .int .i64 a.hi], .agg #[.int .i64 b.lo, .int .i64 b.hi]] w fun e w' => e = .returned (.bool (withE a b)) ∧ Below w.heap.size w w' := by
  by_cases h1 : b.lo ≤ a.lo
  · go_enter Tryz.func68, Tryz.ntmps68
    go_wp2
    go_returns
    refine ⟨rt_b ?_, by go_grown⟩
    unfold withE
    rw [decide_eq_decide]
    exact ⟨fun h => ⟨h1, h⟩, fun h => h.2⟩
  · go_enter Tryz.func68, Tryz.ntmps68
    go_wp2
    go_returns
    refine ⟨rt_b ?_, by go_grown⟩
    unfold withE
    exact (decide_eq_false (by omega)).symm
theorem ruin_to (a : E) (v : Int) (r : Bool) (h : inE a v = r) (w : World) :
    Calls Tryz.prog 61 #[.agg #[.int .u64 a.lo, .int .u64 a.hi], .int .u64 v] w fun e w' => e = .returned (.bool r) ∧ Below w.heap.size w w' := by subst h; exact ruin_any a v w
theorem ruwith_any (a b : E) (ha : okU a) (w : World) :
    Calls Tryz.prog 67 #[.agg #[.int .u64 a.lo, .int .u64 a.hi], .agg #[.int .u64 b.lo, .int .u64 b.hi]] w fun e w' => e = .returned (.bool (withE a b)) ∧ Below w.heap.size w w' := by
  obtain ⟨a0, a1, a2⟩ := ha
  cases h1 : inE b a.lo
  · have e1 := Lib.hid (show withE a b = false by unfold withE; unfold inE at h1; have := of_decide_eq_false h1; exact decide_eq_false (by omega))
    rw [e1.out]
    have J1 := Lib.hid h1
    clear h1
    go_enter Tryz.func67, Tryz.ntmps67
    go_wp2_with fail
    have K0 := ((Bk.new w 26 #[.int .u64 a.lo, .int .u64 a.hi]).alloc (.cells #[.int .u64 b.lo, .int .u64 b.hi] 26))
    have K1 := (Bk.new (w.alloc (.cells #[.int .u64 a.lo, .int .u64 a.hi] 26)) 26 #[.int .u64 b.lo, .int .u64 b.hi])
    rw [World.size_alloc] at K1
    have B0 : Below w.heap.size w ((w.alloc (.cells #[.int .u64 a.lo, .int .u64 a.hi] 26)).alloc (.cells #[.int .u64 b.lo, .int .u64 b.hi] 26)) := by go_grown
    generalize ((w.alloc (.cells #[.int .u64 a.lo, .int .u64 a.hi] 26)).alloc (.cells #[.int .u64 b.lo, .int .u64 b.hi] 26)) = w0 at *
    have H0 := Lib.hid K0
    obtain ⟨c00, c01⟩ := tcells K0
    have H1 := Lib.hid K1
    obtain ⟨c10, c11⟩ := tcells K1
    have HB := Lib.hid B0
    clear K0 K1 B0
    with_reducible refine (ruin_to b a.lo false J1.out _).mono ?_
    rintro e w1 ⟨rfl, qb⟩
    replace c00 := keep1 qb c00
    replace c01 := keep1 qb c01
    replace c10 := keep1 qb c10
    replace c11 := keep1 qb c11
    replace H0 := Lib.hid (H0.out.below qb H0.out.lt)
    replace H1 := Lib.hid (H1.out.below qb H1.out.lt)
    replace HB := Lib.hid (below_then HB.out qb (Nat.le_refl _))
    clear qb
    go_wp2_with fail
    go_returns
    exact ⟨rfl, HB.out⟩
  · have e1 := Lib.hid (show withE a b = inE b a.hi by unfold withE; unfold inE at h1 ⊢; have := of_decide_eq_true h1; rw [decide_eq_decide]; omega)
    rw [e1.out]
    have J1 := Lib.hid h1
    clear h1
    go_enter Tryz.func67, Tryz.ntmps67
    go_wp2_with fail
    have K0 := ((Bk.new w 26 #[.int .u64 a.lo, .int .u64 a.hi]).alloc (.cells #[.int .u64 b.lo, .int .u64 b.hi] 26))
    have K1 := (Bk.new (w.alloc (.cells #[.int .u64 a.lo, .int .u64 a.hi] 26)) 26 #[.int .u64 b.lo, .int .u64 b.hi])
    rw [World.size_alloc] at K1
    have B0 : Below w.heap.size w ((w.alloc (.cells #[.int .u64 a.lo, .int .u64 a.hi] 26)).alloc (.cells #[.int .u64 b.lo, .int .u64 b.hi] 26)) := by go_grown
    generalize ((w.alloc (.cells #[.int .u64 a.lo, .int .u64 a.hi] 26)).alloc (.cells #[.int .u64 b.lo, .int .u64 b.hi] 26)) = w0 at *
    have H0 := Lib.hid K0
    obtain ⟨c00, c01⟩ := tcells K0
    have H1 := Lib.hid K1
    obtain ⟨c10, c11⟩ := tcells K1
    have HB := Lib.hid B0
    clear K0 K1 B0
    with_reducible refine (ruin_to b a.lo true J1.out _).mono ?_
    rintro e w1 ⟨rfl, qb⟩
    replace c00 := keep1 qb c00
    replace c01 := keep1 qb c01
    replace c10 := keep1 qb c10
    replace c11 := keep1 qb c11
    replace H0 := Lib.hid (H0.out.below qb H0.out.lt)
    replace H1 := Lib.hid (H1.out.below qb H1.out.lt)
    replace HB := Lib.hid (below_then HB.out qb (Nat.le_refl _))
    clear qb
    go_wp2_with fail
    with_reducible refine (ruin_any b a.hi _).mono ?_
    rintro e w2 ⟨rfl, qb⟩
    replace c00 := keep1 qb c00
    replace c01 := keep1 qb c01
    replace c10 := keep1 qb c10
    replace c11 := keep1 qb c11
    replace H0 := Lib.hid (H0.out.below qb H0.out.lt)
    replace H1 := Lib.hid (H1.out.below qb H1.out.lt)
    replace HB := Lib.hid (below_then HB.out qb (Nat.le_refl _))
    clear qb
    go_wp2_with fail
    go_returns
    exact ⟨rfl, HB.out⟩
set_option maxHeartbeats 1000000 in
theorem rujoin_any (a b : E) (w : World) :
    Calls Tryz.prog 73 #[.agg #[.int .u64 a.lo, .int .u64 a.hi], .agg #[.int .u64 b.lo, .int .u64 b.hi]] w fun e w' => e = .returned (.agg #[.int .u64 (joinE a b).lo, .int .u64 (joinE a b).hi]) ∧ Below w.heap.size w w' := by
  by_cases p : b.lo < a.lo
  · by_cases q : b.hi > a.hi
    · go_enter Tryz.func73, Tryz.ntmps73
      go_wp2
      go_returns
      exact ⟨rt_u (by show _ = min _ _; omega) (by show _ = max _ _; omega), by go_grown⟩
    · go_enter Tryz.func73, Tryz.ntmps73
      go_wp2
      go_returns
      exact ⟨rt_u (by show _ = min _ _; omega) (by show _ = max _ _; omega), by go_grown⟩
  · by_cases q : b.hi > a.hi
    · go_enter Tryz.func73, Tryz.ntmps73
      go_wp2
      go_returns
      exact ⟨rt_u (by show _ = min _ _; omega) (by show _ = max _ _; omega), by go_grown⟩
    · go_enter Tryz.func73, Tryz.ntmps73
      go_wp2
      go_returns
      exact ⟨rt_u (by show _ = min _ _; omega) (by show _ = max _ _; omega), by go_grown⟩
set_option maxHeartbeats 4000000 in
theorem rumeet_any (a b : E) (w : World) :
    Calls Tryz.prog 107 #[.agg #[.int .u64 a.lo, .int .u64 a.hi], .agg #[.int .u64 b.lo, .int .u64 b.hi]] w fun e w' => e = .returned (.tuple #[.agg #[.int .u64 (meetE a b).lo, .int .u64 (meetE a b).hi], .bool (metE a b)]) ∧ Below w.heap.size w w' := by
  by_cases p : a.lo < b.lo
  · by_cases q : b.hi < a.hi
    · by_cases h : b.lo ≤ b.hi
      · have e1 := Lib.hid (show meetE a b = ⟨b.lo, b.hi⟩ by unfold meetE; rw [if_pos (by omega)]; exact E.eq (show max a.lo b.lo = b.lo by omega) (show min a.hi b.hi = b.hi by omega))
        have e2 := Lib.hid (show metE a b = true by unfold metE; rw [decide_eq_true (by omega)])
        rw [e1.out, e2.out]
        go_enter Tryz.func107, Tryz.ntmps107
        go_wp2
        go_returns
        exact ⟨rt_ub rfl rfl rfl, by go_grown⟩
      · have e1 := Lib.hid (show meetE a b = ⟨0, 0⟩ by unfold meetE; rw [if_neg (by omega)])
        have e2 := Lib.hid (show metE a b = false by unfold metE; rw [decide_eq_false (by omega)])
        rw [e1.out, e2.out]
        go_enter Tryz.func107, Tryz.ntmps107
        go_wp2
        go_returns
        exact ⟨rt_ub rfl rfl rfl, by go_grown⟩
    · by_cases h : b.lo ≤ a.hi
      · have e1 := Lib.hid (show meetE a b = ⟨b.lo, a.hi⟩ by unfold meetE; rw [if_pos (by omega)]; exact E.eq (show max a.lo b.lo = b.lo by omega) (show min a.hi b.hi = a.hi by omega))
        have e2 := Lib.hid (show metE a b = true by unfold metE; rw [decide_eq_true (by omega)])
        rw [e1.out, e2.out]
        go_enter Tryz.func107, Tryz.ntmps107
        go_wp2
        go_returns
        exact ⟨rt_ub rfl rfl rfl, by go_grown⟩
      · have e1 := Lib.hid (show meetE a b = ⟨0, 0⟩ by unfold meetE; rw [if_neg (by omega)])
        have e2 := Lib.hid (show metE a b = false by unfold metE; rw [decide_eq_false (by omega)])
        rw [e1.out, e2.out]
        go_enter Tryz.func107, Tryz.ntmps107
        go_wp2
        go_returns
        exact ⟨rt_ub rfl rfl rfl, by go_grown⟩
  · by_cases q : b.hi < a.hi
    · by_cases h : a.lo ≤ b.hi
      · have e1 := Lib.hid (show meetE a b = ⟨a.lo, b.hi⟩ by unfold meetE; rw [if_pos (by omega)]; exact E.eq (show max a.lo b.lo = a.lo by omega) (show min a.hi b.hi = b.hi by omega))
        have e2 := Lib.hid (show metE a b = true by unfold metE; rw [decide_eq_true (by omega)])
        rw [e1.out, e2.out]
        go_enter Tryz.func107, Tryz.ntmps107
        go_wp2
        go_returns
        exact ⟨rt_ub rfl rfl rfl, by go_grown⟩
      · have e1 := Lib.hid (show meetE a b = ⟨0, 0⟩ by unfold meetE; rw [if_neg (by omega)])
        have e2 := Lib.hid (show metE a b = false by unfold metE; rw [decide_eq_false (by omega)])
        rw [e1.out, e2.out]
        go_enter Tryz.func107, Tryz.ntmps107
        go_wp2
        go_returns
        exact ⟨rt_ub rfl rfl rfl, by go_grown⟩
    · by_cases h : a.lo ≤ a.hi
      · have e1 := Lib.hid (show meetE a b = ⟨a.lo, a.hi⟩ by unfold meetE; rw [if_pos (by omega)]; exact E.eq (show max a.lo b.lo = a.lo by omega) (show min a.hi b.hi = a.hi by omega))
        have e2 := Lib.hid (show metE a b = true by unfold metE; rw [decide_eq_true (by omega)])
        rw [e1.out, e2.out]
        go_enter Tryz.func107, Tryz.ntmps107
        go_wp2
        go_returns
        exact ⟨rt_ub rfl rfl rfl, by go_grown⟩
      · have e1 := Lib.hid (show meetE a b = ⟨0, 0⟩ by unfold meetE; rw [if_neg (by omega)])
        have e2 := Lib.hid (show metE a b = false by unfold metE; rw [decide_eq_false (by omega)])
        rw [e1.out, e2.out]
        go_enter Tryz.func107, Tryz.ntmps107
        go_wp2
        go_returns
        exact ⟨rt_ub rfl rfl rfl, by go_grown⟩
set_option maxHeartbeats 1000000 in
theorem rsjoin_any (a b : E) (w : World) :
    Calls Tryz.prog 74 #[.agg #[.int .i64 a.lo, .int .i64 a.hi], .agg #[.int .i64 b.lo, .int .i64 b.hi]] w fun e w' => e = .returned (.agg #[.int .i64 (joinE a b).lo, .int .i64 (joinE a b).hi]) ∧ Below w.heap.size w w' := by
  by_cases p : b.lo < a.lo
  · by_cases q : b.hi > a.hi
    · go_enter Tryz.func74, Tryz.ntmps74
      go_wp2
      go_returns
      exact ⟨rt_u (by show _ = min _ _; omega) (by show _ = max _ _; omega), by go_grown⟩
    · go_enter Tryz.func74, Tryz.ntmps74
      go_wp2
      go_returns
      exact ⟨rt_u (by show _ = min _ _; omega) (by show _ = max _ _; omega), by go_grown⟩
  · by_cases q : b.hi > a.hi
    · go_enter Tryz.func74, Tryz.ntmps74
      go_wp2
      go_returns
      exact ⟨rt_u (by show _ = min _ _; omega) (by show _ = max _ _; omega), by go_grown⟩
    · go_enter Tryz.func74, Tryz.ntmps74
      go_wp2
      go_returns
      exact ⟨rt_u (by show _ = min _ _; omega) (by show _ = max _ _; omega), by go_grown⟩
set_option maxHeartbeats 4000000 in
theorem rsmeet_any (a b : E) (w : World) :
    Calls Tryz.prog 110 #[.agg #[.int .i64 a.lo, .int .i64 a.hi], .agg #[.int .i64 b.lo, .int .i64 b.hi]] w fun e w' => e = .returned (.tuple #[.agg #[.int .i64 (meetE a b).lo, .int .i64 (meetE a b).hi], .bool (metE a b)]) ∧ Below w.heap.size w w' := by
  by_cases p : a.lo < b.lo
  · by_cases q : b.hi < a.hi
    · by_cases h : b.lo ≤ b.hi
      · have e1 := Lib.hid (show meetE a b = ⟨b.lo, b.hi⟩ by unfold meetE; rw [if_pos (by omega)]; exact E.eq (show max a.lo b.lo = b.lo by omega) (show min a.hi b.hi = b.hi by omega))
        have e2 := Lib.hid (show metE a b = true by unfold metE; rw [decide_eq_true (by omega)])
        rw [e1.out, e2.out]
        go_enter Tryz.func110, Tryz.ntmps110
        go_wp2
        go_returns
        exact ⟨rt_ub rfl rfl rfl, by go_grown⟩
      · have e1 := Lib.hid (show meetE a b = ⟨0, 0⟩ by unfold meetE; rw [if_neg (by omega)])
        have e2 := Lib.hid (show metE a b = false by unfold metE; rw [decide_eq_false (by omega)])
        rw [e1.out, e2.out]
        go_enter Tryz.func110, Tryz.ntmps110
        go_wp2
        go_returns
        exact ⟨rt_ub rfl rfl rfl, by go_grown⟩
    · by_cases h : b.lo ≤ a.hi
      · have e1 := Lib.hid (show meetE a b = ⟨b.lo, a.hi⟩ by unfold meetE; rw [if_pos (by omega)]; exact E.eq (show max a.lo b.lo = b.lo by omega) (show min a.hi b.hi = a.hi by omega))
        have e2 := Lib.hid (show metE a b = true by unfold metE; rw [decide_eq_true (by omega)])
        rw [e1.out, e2.out]
        go_enter Tryz.func110, Tryz.ntmps110
        go_wp2
        go_returns
        exact ⟨rt_ub rfl rfl rfl, by go_grown⟩
      · have e1 := Lib.hid (show meetE a b = ⟨0, 0⟩ by unfold meetE; rw [if_neg (by omega)])
        have e2 := Lib.hid (show metE a b = false by unfold metE; rw [decide_eq_false (by omega)])
        rw [e1.out, e2.out]
        go_enter Tryz.func110, Tryz.ntmps110
        go_wp2
        go_returns
        exact ⟨rt_ub rfl rfl rfl, by go_grown⟩
  · by_cases q : b.hi < a.hi
    · by_cases h : a.lo ≤ b.hi
      · have e1 := Lib.hid (show meetE a b = ⟨a.lo, b.hi⟩ by unfold meetE; rw [if_pos (by omega)]; exact E.eq (show max a.lo b.lo = a.lo by omega) (show min a.hi b.hi = b.hi by omega))
        have e2 := Lib.hid (show metE a b = true by unfold metE; rw [decide_eq_true (by omega)])
        rw [e1.out, e2.out]
        go_enter Tryz.func110, Tryz.ntmps110
        go_wp2
        go_returns
        exact ⟨rt_ub rfl rfl rfl, by go_grown⟩
      · have e1 := Lib.hid (show meetE a b = ⟨0, 0⟩ by unfold meetE; rw [if_neg (by omega)])
        have e2 := Lib.hid (show metE a b = false by unfold metE; rw [decide_eq_false (by omega)])
        rw [e1.out, e2.out]
        go_enter Tryz.func110, Tryz.ntmps110
        go_wp2
        go_returns
        exact ⟨rt_ub rfl rfl rfl, by go_grown⟩
    · by_cases h : a.lo ≤ a.hi
      · have e1 := Lib.hid (show meetE a b = ⟨a.lo, a.hi⟩ by unfold meetE; rw [if_pos (by omega)]; exact E.eq (show max a.lo b.lo = a.lo by omega) (show min a.hi b.hi = a.hi by omega))
        have e2 := Lib.hid (show metE a b = true by unfold metE; rw [decide_eq_true (by omega)])
        rw [e1.out, e2.out]
        go_enter Tryz.func110, Tryz.ntmps110
        go_wp2
        go_returns
        exact ⟨rt_ub rfl rfl rfl, by go_grown⟩
      · have e1 := Lib.hid (show meetE a b = ⟨0, 0⟩ by unfold meetE; rw [if_neg (by omega)])
        have e2 := Lib.hid (show metE a b = false by unfold metE; rw [decide_eq_false (by omega)])
        rw [e1.out, e2.out]
        go_enter Tryz.func110, Tryz.ntmps110
        go_wp2
        go_returns
        exact ⟨rt_ub rfl rfl rfl, by go_grown⟩
end Go.Proofs.YtcimihckhobniaaGreat
namespace Go.Proofs.YtcimihckhobniaaGreat
open Go.RowKit Tn Ow Sp
set_option linter.unusedVariables false
set_option linter.unusedSimpArgs false
theorem fldU1 (x y : Value) (w : World) : (Instr.field 26 (.agg #[x, y]) 1).run Tryz.prog w = .ok y w := by kernel_rfl
end Go.Proofs.YtcimihckhobniaaGreat
namespace Go.Proofs.YtcimihckhobniaaGreat
open Go.RowKit Tn Ow Sp
set_option linter.unusedVariables false
set_option linter.unusedSimpArgs false
theorem ruall_lit (w : World) :
    Calls Tryz.prog 53 #[] w fun e w' => e = .returned (.agg #[.int .u64 0, .int .u64 18446744073709551615]) ∧ Below w.heap.size w w' := ruall_any w
theorem rtop_to (w : World) : Calls Tryz.prog 114 #[] w fun e w' => e = .returned (.int .u64 9223372036854775808) ∧ Below w.heap.size w w' :=
  (rtop_any w).mono fun e w' h => ⟨h.1, by rw [← h.2]; exact Below.refl _ _⟩
set_option maxHeartbeats 1000000 in
theorem rtos_any (a : E) (ha : okU a) (w : World) :
    Calls Tryz.prog 111 #[.agg #[.int .u64 a.lo, .int .u64 a.hi]] w fun e w' => e = .returned (.agg #[.int .i64 (toS a).lo, .int .i64 (toS a).hi]) ∧ Below w.heap.size w w' := by
  obtain ⟨a0, a1, a2⟩ := ha
  by_cases h : (a.lo < 9223372036854775808 ↔ a.hi < 9223372036854775808)
  · have e1 := Lib.hid (show toS a = ⟨sg a.lo, sg a.hi⟩ by unfold toS; rw [if_pos h])
    rw [e1.out]
    have A1 := Lib.hid (sg_wrap a.lo a0 (by omega))
    have A2 := Lib.hid (sg_wrap a.hi (by omega) a2)
    by_cases g : a.hi < 9223372036854775808
    · have p1 : decide (a.lo < 9223372036854775808) = true := decide_eq_true (by omega)
      have p2 : decide (a.hi < 9223372036854775808) = true := decide_eq_true (by omega)
      clear h
      go_enter Tryz.func111, Tryz.ntmps111
      go_wp2_with fail
      have K0 := ((Bk.new w 26 #[.int .u64 a.lo, .int .u64 a.hi]).alloc (.cells #[.int .i64 0, .int .i64 0] 28))
      have K1 := (Bk.new (w.alloc (.cells #[.int .u64 a.lo, .int .u64 a.hi] 26)) 28 #[.int .i64 0, .int .i64 0])
      rw [World.size_alloc] at K1
      have B0 : Below w.heap.size w ((w.alloc (.cells #[.int .u64 a.lo, .int .u64 a.hi] 26)).alloc (.cells #[.int .i64 0, .int .i64 0] 28)) := by go_grown
      generalize ((w.alloc (.cells #[.int .u64 a.lo, .int .u64 a.hi] 26)).alloc (.cells #[.int .i64 0, .int .i64 0] 28)) = w0 at *
      have H0 := Lib.hid K0
      obtain ⟨c00, c01⟩ := tcells K0
      have H1 := Lib.hid K1
      obtain ⟨c10, c11⟩ := tcells K1
      have f0 := K1.frozen 0
      have f1 := K1.frozen 1
      have HB := Lib.hid B0
      clear K0 K1 B0
      refine wp_region_held_drew (S := fun w' => w'.cell? ⟨w.heap.size, 0, none⟩ = some (.int .u64 a.lo) ∧ w'.cell? ⟨w.heap.size, 1, none⟩ = some (.int .u64 a.hi) ∧ w'.cell? ⟨w.heap.size + 1, 0, none⟩ = some (cv w' (w.heap.size + 1) 0) ∧ w'.cell? ⟨w.heap.size + 1, 1, none⟩ = some (cv w' (w.heap.size + 1) 1) ∧ w'.frozen? ⟨w.heap.size + 1, 0, none⟩ = false ∧ w'.frozen? ⟨w.heap.size + 1, 1, none⟩ = false ∧ Below w.heap.size w w') (by kernel_rfl) ?_ (fun hHeld => ?_)
      · exact ⟨c00, c01, cv_some c10, cv_some c11, f0, f1, HB.out.drew⟩
      generalize w0.drew = z0 at *
      refine tq 0 ?_ rfl (by kernel_rfl) (fun _ _ _ h => h) (by rfl) hHeld ?_ ?_; rotate_left
      · intro w9 hSw; (try dsimp only at hSw); go_simp; try with_reducible rfl
      try simp only [Act.put, ptA, ptB, ptC]
      refine tq 1 ?_ rfl (by kernel_rfl) (fun _ _ _ h => h) (by rfl) hHeld ?_ ?_; rotate_left
      · intro w9 hSw; (try dsimp only at hSw); go_simp; try with_reducible rfl
      try simp only [Act.put, ptA, ptB, ptC]
      refine tq 4 ?_ rfl (by kernel_rfl) (fun _ _ _ h => h) (by rfl) hHeld ?_ ?_; rotate_left
      · intro w9 hSw; (try dsimp only at hSw); go_simp; try with_reducible rfl
      try simp only [Act.put, ptA, ptB, ptC]
      refine tq 5 ?_ rfl (by kernel_rfl) (fun _ _ _ h => h) (by rfl) hHeld ?_ ?_; rotate_left
      · intro w9 hSw; (try dsimp only at hSw); go_simp; try with_reducible rfl
      try simp only [Act.put, ptA, ptB, ptC]
      refine tc 2 rfl (by kernel_rfl) (fun K hK => ?_)
      go_simp
      (go_at_call 114; with_reducible refine (rtop_to _).mono ?_; rintro e z1 ⟨rfl, qb⟩)
      refine hK.out _ _ ?_ (fun g1 => ?_)
      · exact keepr2 qb hHeld
      clear hK K qb
      skip
      try simp only [Act.put, ptA, ptB, ptC]
      refine tq 3 ?_ rfl (by kernel_rfl) (fun _ _ _ h => h) (by rfl) g1 ?_ ?_; rotate_left
      · intro w9 hSw; (try dsimp only at hSw); go_simp; try with_reducible rfl
      try simp only [Act.put, ptA, ptB, ptC]
      refine tc 6 rfl (by kernel_rfl) (fun K hK => ?_)
      go_simp
      (go_at_call 114; with_reducible refine (rtop_to _).mono ?_; rintro e z2 ⟨rfl, qb⟩)
      refine hK.out _ _ ?_ (fun g2 => ?_)
      · exact keepr2 qb g1
      clear hK K qb
      clear g1
      try simp only [Act.put, ptA, ptB, ptC]
      refine tq 7 ?_ rfl (by kernel_rfl) (fun _ _ _ h => h) (by rfl) g2 ?_ ?_; rotate_left
      · intro w9 hSw; (try dsimp only at hSw); go_simp; try with_reducible rfl
      try simp only [Act.put, ptA, ptB, ptC]
      refine tq 8 ?_ rfl (by kernel_rfl) (fun _ _ _ h => h) (by rfl) g2 ?_ ?_; rotate_left
      · intro w9 hSw; (try dsimp only at hSw); go_simp; try with_reducible rfl
      try simp only [Act.put, ptA, ptB, ptC]
      refine wpAnyH_done (by kernel_rfl) ?_ _
      have KA := Lib.hid g2
      clear c00 c01 c10 c11 f0 f1 HB H0 H1 g2
      obtain ⟨c00, c01, c10, c11, f0, f1, HB0⟩ := KA.out
      have HB := Lib.hid HB0
      clear HB0 KA
      generalize z2 = y1 at *
      go_wp2_with fail
      have r0 : ∀ u v, ((y1.setCell ⟨w.heap.size + 1, 0, none⟩ u).setCell ⟨w.heap.size + 1, 1, none⟩ v).cell? ⟨w.heap.size + 1, 0, none⟩ = some u := fun u v => set_fst c10
      have r1 : ∀ u v, ((y1.setCell ⟨w.heap.size + 1, 0, none⟩ u).setCell ⟨w.heap.size + 1, 1, none⟩ v).cell? ⟨w.heap.size + 1, 1, none⟩ = some v := fun u v => set_snd c11
      refine bodyPost_ret (by simp [results, Tryz.results111, r0, r1, go_sem]; try rfl) rfl ?_
      exact ⟨rt_u (by first | exact A1.out | (show _ = sg a.lo; unfold sg; split <;> omega)) (by first | exact A2.out | (show _ = sg a.hi; unfold sg; split <;> omega)), (below_st2 HB.out (by omega))⟩
    · have p1 : decide (a.lo < 9223372036854775808) = false := decide_eq_false (by omega)
      have p2 : decide (a.hi < 9223372036854775808) = false := decide_eq_false (by omega)
      clear h
      go_enter Tryz.func111, Tryz.ntmps111
      go_wp2_with fail
      have K0 := ((Bk.new w 26 #[.int .u64 a.lo, .int .u64 a.hi]).alloc (.cells #[.int .i64 0, .int .i64 0] 28))
      have K1 := (Bk.new (w.alloc (.cells #[.int .u64 a.lo, .int .u64 a.hi] 26)) 28 #[.int .i64 0, .int .i64 0])
      rw [World.size_alloc] at K1
      have B0 : Below w.heap.size w ((w.alloc (.cells #[.int .u64 a.lo, .int .u64 a.hi] 26)).alloc (.cells #[.int .i64 0, .int .i64 0] 28)) := by go_grown
      generalize ((w.alloc (.cells #[.int .u64 a.lo, .int .u64 a.hi] 26)).alloc (.cells #[.int .i64 0, .int .i64 0] 28)) = w0 at *
      have H0 := Lib.hid K0
      obtain ⟨c00, c01⟩ := tcells K0
      have H1 := Lib.hid K1
      obtain ⟨c10, c11⟩ := tcells K1
      have f0 := K1.frozen 0
      have f1 := K1.frozen 1
      have HB := Lib.hid B0
      clear K0 K1 B0
      refine wp_region_held_drew (S := fun w' => w'.cell? ⟨w.heap.size, 0, none⟩ = some (.int .u64 a.lo) ∧ w'.cell? ⟨w.heap.size, 1, none⟩ = some (.int .u64 a.hi) ∧ w'.cell? ⟨w.heap.size + 1, 0, none⟩ = some (cv w' (w.heap.size + 1) 0) ∧ w'.cell? ⟨w.heap.size + 1, 1, none⟩ = some (cv w' (w.heap.size + 1) 1) ∧ w'.frozen? ⟨w.heap.size + 1, 0, none⟩ = false ∧ w'.frozen? ⟨w.heap.size + 1, 1, none⟩ = false ∧ Below w.heap.size w w') (by kernel_rfl) ?_ (fun hHeld => ?_)
      · exact ⟨c00, c01, cv_some c10, cv_some c11, f0, f1, HB.out.drew⟩
      generalize w0.drew = z0 at *
      refine tq 0 ?_ rfl (by kernel_rfl) (fun _ _ _ h => h) (by rfl) hHeld ?_ ?_; rotate_left
      · intro w9 hSw; (try dsimp only at hSw); go_simp; try with_reducible rfl
      try simp only [Act.put, ptA, ptB, ptC]
      refine tq 1 ?_ rfl (by kernel_rfl) (fun _ _ _ h => h) (by rfl) hHeld ?_ ?_; rotate_left
      · intro w9 hSw; (try dsimp only at hSw); go_simp; try with_reducible rfl
      try simp only [Act.put, ptA, ptB, ptC]
      refine tq 4 ?_ rfl (by kernel_rfl) (fun _ _ _ h => h) (by rfl) hHeld ?_ ?_; rotate_left
      · intro w9 hSw; (try dsimp only at hSw); go_simp; try with_reducible rfl
      try simp only [Act.put, ptA, ptB, ptC]
      refine tq 5 ?_ rfl (by kernel_rfl) (fun _ _ _ h => h) (by rfl) hHeld ?_ ?_; rotate_left
      · intro w9 hSw; (try dsimp only at hSw); go_simp; try with_reducible rfl
      try simp only [Act.put, ptA, ptB, ptC]
      refine tc 2 rfl (by kernel_rfl) (fun K hK => ?_)
      go_simp
      (go_at_call 114; with_reducible refine (rtop_to _).mono ?_; rintro e z1 ⟨rfl, qb⟩)
      refine hK.out _ _ ?_ (fun g1 => ?_)
      · exact keepr2 qb hHeld
      clear hK K qb
      skip
      try simp only [Act.put, ptA, ptB, ptC]
      refine tq 3 ?_ rfl (by kernel_rfl) (fun _ _ _ h => h) (by rfl) g1 ?_ ?_; rotate_left
      · intro w9 hSw; (try dsimp only at hSw); go_simp; try with_reducible rfl
      try simp only [Act.put, ptA, ptB, ptC]
      refine tc 6 rfl (by kernel_rfl) (fun K hK => ?_)
      go_simp
      (go_at_call 114; with_reducible refine (rtop_to _).mono ?_; rintro e z2 ⟨rfl, qb⟩)
      refine hK.out _ _ ?_ (fun g2 => ?_)
      · exact keepr2 qb g1
      clear hK K qb
      clear g1
      try simp only [Act.put, ptA, ptB, ptC]
      refine tq 7 ?_ rfl (by kernel_rfl) (fun _ _ _ h => h) (by rfl) g2 ?_ ?_; rotate_left
      · intro w9 hSw; (try dsimp only at hSw); go_simp; try with_reducible rfl
      try simp only [Act.put, ptA, ptB, ptC]
      refine tq 8 ?_ rfl (by kernel_rfl) (fun _ _ _ h => h) (by rfl) g2 ?_ ?_; rotate_left
      · intro w9 hSw; (try dsimp only at hSw); go_simp; try with_reducible rfl
      try simp only [Act.put, ptA, ptB, ptC]
      refine wpAnyH_done (by kernel_rfl) ?_ _
      have KA := Lib.hid g2
      clear c00 c01 c10 c11 f0 f1 HB H0 H1 g2
      obtain ⟨c00, c01, c10, c11, f0, f1, HB0⟩ := KA.out
      have HB := Lib.hid HB0
      clear HB0 KA
      generalize z2 = y1 at *
      go_wp2_with fail
      have r0 : ∀ u v, ((y1.setCell ⟨w.heap.size + 1, 0, none⟩ u).setCell ⟨w.heap.size + 1, 1, none⟩ v).cell? ⟨w.heap.size + 1, 0, none⟩ = some u := fun u v => set_fst c10
      have r1 : ∀ u v, ((y1.setCell ⟨w.heap.size + 1, 0, none⟩ u).setCell ⟨w.heap.size + 1, 1, none⟩ v).cell? ⟨w.heap.size + 1, 1, none⟩ = some v := fun u v => set_snd c11
      refine bodyPost_ret (by simp [results, Tryz.results111, r0, r1, go_sem]; try rfl) rfl ?_
      exact ⟨rt_u (by first | exact A1.out | (show _ = sg a.lo; unfold sg; split <;> omega)) (by first | exact A2.out | (show _ = sg a.hi; unfold sg; split <;> omega)), (below_st2 HB.out (by omega))⟩
  · have e1 := Lib.hid (show toS a = sAll by unfold toS; rw [if_neg h])
    rw [e1.out]
    have p1 : decide (a.lo < 9223372036854775808) = true := decide_eq_true (by omega)
    have p2 : decide (a.hi < 9223372036854775808) = false := decide_eq_false (by omega)
    clear h
    go_enter Tryz.func111, Tryz.ntmps111
    go_wp2_with fail
    have K0 := ((Bk.new w 26 #[.int .u64 a.lo, .int .u64 a.hi]).alloc (.cells #[.int .i64 0, .int .i64 0] 28))
    have K1 := (Bk.new (w.alloc (.cells #[.int .u64 a.lo, .int .u64 a.hi] 26)) 28 #[.int .i64 0, .int .i64 0])
    rw [World.size_alloc] at K1
    have B0 : Below w.heap.size w ((w.alloc (.cells #[.int .u64 a.lo, .int .u64 a.hi] 26)).alloc (.cells #[.int .i64 0, .int .i64 0] 28)) := by go_grown
    generalize ((w.alloc (.cells #[.int .u64 a.lo, .int .u64 a.hi] 26)).alloc (.cells #[.int .i64 0, .int .i64 0] 28)) = w0 at *
    have H0 := Lib.hid K0
    obtain ⟨c00, c01⟩ := tcells K0
    have H1 := Lib.hid K1
    obtain ⟨c10, c11⟩ := tcells K1
    have f0 := K1.frozen 0
    have f1 := K1.frozen 1
    have HB := Lib.hid B0
    clear K0 K1 B0
    refine wp_region_held_drew (S := fun w' => w'.cell? ⟨w.heap.size, 0, none⟩ = some (.int .u64 a.lo) ∧ w'.cell? ⟨w.heap.size, 1, none⟩ = some (.int .u64 a.hi) ∧ w'.cell? ⟨w.heap.size + 1, 0, none⟩ = some (cv w' (w.heap.size + 1) 0) ∧ w'.cell? ⟨w.heap.size + 1, 1, none⟩ = some (cv w' (w.heap.size + 1) 1) ∧ w'.frozen? ⟨w.heap.size + 1, 0, none⟩ = false ∧ w'.frozen? ⟨w.heap.size + 1, 1, none⟩ = false ∧ Below w.heap.size w w') (by kernel_rfl) ?_ (fun hHeld => ?_)
    · exact ⟨c00, c01, cv_some c10, cv_some c11, f0, f1, HB.out.drew⟩
    generalize w0.drew = z0 at *
    refine tq 0 ?_ rfl (by kernel_rfl) (fun _ _ _ h => h) (by rfl) hHeld ?_ ?_; rotate_left
    · intro w9 hSw; (try dsimp only at hSw); go_simp; try with_reducible rfl
    try simp only [Act.put, ptA, ptB, ptC]
    refine tq 1 ?_ rfl (by kernel_rfl) (fun _ _ _ h => h) (by rfl) hHeld ?_ ?_; rotate_left
    · intro w9 hSw; (try dsimp only at hSw); go_simp; try with_reducible rfl
    try simp only [Act.put, ptA, ptB, ptC]
    refine tq 4 ?_ rfl (by kernel_rfl) (fun _ _ _ h => h) (by rfl) hHeld ?_ ?_; rotate_left
    · intro w9 hSw; (try dsimp only at hSw); go_simp; try with_reducible rfl
    try simp only [Act.put, ptA, ptB, ptC]
    refine tq 5 ?_ rfl (by kernel_rfl) (fun _ _ _ h => h) (by rfl) hHeld ?_ ?_; rotate_left
    · intro w9 hSw; (try dsimp only at hSw); go_simp; try with_reducible rfl
    try simp only [Act.put, ptA, ptB, ptC]
    refine tc 2 rfl (by kernel_rfl) (fun K hK => ?_)
    go_simp
    (go_at_call 114; with_reducible refine (rtop_to _).mono ?_; rintro e z1 ⟨rfl, qb⟩)
    refine hK.out _ _ ?_ (fun g1 => ?_)
    · exact keepr2 qb hHeld
    clear hK K qb
    skip
    try simp only [Act.put, ptA, ptB, ptC]
    refine tq 3 ?_ rfl (by kernel_rfl) (fun _ _ _ h => h) (by rfl) g1 ?_ ?_; rotate_left
    · intro w9 hSw; (try dsimp only at hSw); go_simp; try with_reducible rfl
    try simp only [Act.put, ptA, ptB, ptC]
    refine tc 6 rfl (by kernel_rfl) (fun K hK => ?_)
    go_simp
    (go_at_call 114; with_reducible refine (rtop_to _).mono ?_; rintro e z2 ⟨rfl, qb⟩)
    refine hK.out _ _ ?_ (fun g2 => ?_)
    · exact keepr2 qb g1
    clear hK K qb
    clear g1
    try simp only [Act.put, ptA, ptB, ptC]
    refine tq 7 ?_ rfl (by kernel_rfl) (fun _ _ _ h => h) (by rfl) g2 ?_ ?_; rotate_left
    · intro w9 hSw; (try dsimp only at hSw); go_simp; try with_reducible rfl
    try simp only [Act.put, ptA, ptB, ptC]
    refine tq 8 ?_ rfl (by kernel_rfl) (fun _ _ _ h => h) (by rfl) g2 ?_ ?_; rotate_left
    · intro w9 hSw; (try dsimp only at hSw); go_simp; try with_reducible rfl
    try simp only [Act.put, ptA, ptB, ptC]
    refine wpAnyH_done (by kernel_rfl) ?_ _
    have KA := Lib.hid g2
    clear c00 c01 c10 c11 f0 f1 HB H0 H1 g2
    obtain ⟨c00, c01, c10, c11, f0, f1, HB0⟩ := KA.out
    have HB := Lib.hid HB0
    clear HB0 KA
    generalize z2 = y1 at *
    go_wp2_with fail
    with_reducible refine (rsall_any _).mono ?_
    rintro e w1 ⟨rfl, qb⟩
    replace f0 := keepf qb (World.block_lt_of_cell? _ _ c10) f0
    replace f1 := keepf qb (World.block_lt_of_cell? _ _ c11) f1
    replace c00 := keep1 qb c00
    replace c01 := keep1 qb c01
    replace c10 := keep1 qb c10
    replace c11 := keep1 qb c11
    replace HB := Lib.hid (below_then HB.out qb (Nat.le_refl _))
    clear qb
    go_wp2_with fail
    have r0 : ∀ u v, ((w1.setCell ⟨w.heap.size + 1, 0, none⟩ u).setCell ⟨w.heap.size + 1, 1, none⟩ v).cell? ⟨w.heap.size + 1, 0, none⟩ = some u := fun u v => set_fst c10
    have r1 : ∀ u v, ((w1.setCell ⟨w.heap.size + 1, 0, none⟩ u).setCell ⟨w.heap.size + 1, 1, none⟩ v).cell? ⟨w.heap.size + 1, 1, none⟩ = some v := fun u v => set_snd c11
    refine bodyPost_ret (by simp [results, Tryz.results111, r0, r1, go_sem]; try rfl) rfl ?_
    exact ⟨rt_u rfl rfl, (below_st2 HB.out (by omega))⟩
theorem rtou_any (a : E) (ha : okS a) (w : World) :
    Calls Tryz.prog 108 #[.agg #[.int .i64 a.lo, .int .i64 a.hi]] w fun e w' => e = .returned (.agg #[.int .u64 (toU a).lo, .int .u64 (toU a).hi]) ∧ Below w.heap.size w w' := by
  obtain ⟨a0, a1, a2⟩ := ha
  by_cases h : a.lo < 0 ∧ 0 ≤ a.hi
  · have e1 := Lib.hid (show toU a = uAll by unfold toU; rw [if_pos h])
    rw [e1.out]
    have p1 : decide (a.lo < 0) = true := decide_eq_true h.1
    have p2 : decide (0 ≤ a.hi) = true := decide_eq_true h.2
    clear h
    go_enter Tryz.func108, Tryz.ntmps108
    go_wp2_with fail
    have K0 := ((Bk.new w 28 #[.int .i64 a.lo, .int .i64 a.hi]).alloc (.cells #[.int .u64 0, .int .u64 0] 26))
    have K1 := (Bk.new (w.alloc (.cells #[.int .i64 a.lo, .int .i64 a.hi] 28)) 26 #[.int .u64 0, .int .u64 0])
    rw [World.size_alloc] at K1
    have B0 : Below w.heap.size w ((w.alloc (.cells #[.int .i64 a.lo, .int .i64 a.hi] 28)).alloc (.cells #[.int .u64 0, .int .u64 0] 26)) := by go_grown
    generalize ((w.alloc (.cells #[.int .i64 a.lo, .int .i64 a.hi] 28)).alloc (.cells #[.int .u64 0, .int .u64 0] 26)) = w0 at *
    have H0 := Lib.hid K0
    obtain ⟨c00, c01⟩ := tcells K0
    have H1 := Lib.hid K1
    obtain ⟨c10, c11⟩ := tcells K1
    have f0 := K1.frozen 0
    have f1 := K1.frozen 1
    have HB := Lib.hid B0
    clear K0 K1 B0
    with_reducible refine (ruall_any _).mono ?_
    rintro e w1 ⟨rfl, qb⟩
    replace f0 := keepf qb (World.block_lt_of_cell? _ _ c10) f0
    replace f1 := keepf qb (World.block_lt_of_cell? _ _ c11) f1
    replace c00 := keep1 qb c00
    replace c01 := keep1 qb c01
    replace c10 := keep1 qb c10
    replace c11 := keep1 qb c11
    replace H0 := Lib.hid (H0.out.below qb H0.out.lt)
    replace H1 := Lib.hid (H1.out.below qb H1.out.lt)
    replace HB := Lib.hid (below_then HB.out qb (Nat.le_refl _))
    clear qb
    go_wp2_with fail
    have r0 : ∀ u v, ((w1.setCell ⟨w.heap.size + 1, 0, none⟩ u).setCell ⟨w.heap.size + 1, 1, none⟩ v).cell? ⟨w.heap.size + 1, 0, none⟩ = some u := fun u v => set_fst c10
    have r1 : ∀ u v, ((w1.setCell ⟨w.heap.size + 1, 0, none⟩ u).setCell ⟨w.heap.size + 1, 1, none⟩ v).cell? ⟨w.heap.size + 1, 1, none⟩ = some v := fun u v => set_snd c11
    refine bodyPost_ret (by simp [results, Tryz.results108, r0, r1, go_sem]; try rfl) rfl ?_
    exact ⟨rt_u rfl rfl, (below_st2 HB.out (by omega))⟩
  · have e1 := Lib.hid (show toU a = ⟨us a.lo, us a.hi⟩ by unfold toU; rw [if_neg h])
    rw [e1.out]
    have A1 := Lib.hid (us_wrap a.lo a0 (by omega))
    have A2 := Lib.hid (us_wrap a.hi (by omega) a2)
    by_cases g : a.lo < 0
    · have p1 : decide (a.lo < 0) = true := decide_eq_true g
      have p2 : decide (0 ≤ a.hi) = false := decide_eq_false (by omega)
      clear h
      go_enter Tryz.func108, Tryz.ntmps108
      go_wp2
      go_returns
      exact ⟨rt_u (by first | exact A1.out | (show _ = us a.lo; unfold us; split <;> omega)) (by first | exact A2.out | (show _ = us a.hi; unfold us; split <;> omega)), by go_grown⟩
    · have p1 : decide (a.lo < 0) = false := decide_eq_false g
      clear h
      go_enter Tryz.func108, Tryz.ntmps108
      go_wp2
      go_returns
      exact ⟨rt_u (by first | exact A1.out | (show _ = us a.lo; unfold us; split <;> omega)) (by first | exact A2.out | (show _ = us a.hi; unfold us; split <;> omega)), by go_grown⟩
end Go.Proofs.YtcimihckhobniaaGreat
namespace Go.Proofs.YtcimihckhobniaaGreat
open Go.RowKit Tn Ow Sp
set_option linter.unusedVariables false
set_option linter.unusedSimpArgs false
theorem bk_as {w : World} {b : Nat} {t : TypeId} {x y u v : Value} (h : Bk w b t #[x, y]) (h1 : x = u) (h2 : y = v) : Bk w b t #[u, v] := by subst h1 h2; exact h
theorem int_eq {k : IntKind} {a b : Int} (h : a = b) : Value.int k a = Value.int k b := by rw [h]
end Go.Proofs.YtcimihckhobniaaGreat
namespace Go.Proofs.YtcimihckhobniaaGreat
open Go.RowKit Tn Ow Sp
set_option linter.unusedVariables false
set_option linter.unusedSimpArgs false
theorem bks_keep {w W w2 : World} {b c : Nat} {s t : TypeId} {xs ys : Array Value} (hb : Below W.heap.size W w2) (hh : Bk W b s xs ∧ Bk W c t ys ∧ Below w.heap.size w W) : Bk w2 b s xs ∧ Bk w2 c t ys ∧ Below w.heap.size w w2 :=
  ⟨hh.1.below hb hh.1.lt, hh.2.1.below hb hh.2.1.lt, below_then hh.2.2 hb (Nat.le_refl _)⟩
end Go.Proofs.YtcimihckhobniaaGreat
