/-
  What the document's small functions of layer 4 tell: contracts. Conditions: the ends are numbers of 64 bits, Lo at most Hi where it is asked.
-/
import Derived.Test.YthjjfginenpfjaaSpanD
namespace Go.Proofs.Ythjjfginenpfjaa
open Go.RowKit Tn Ow Sp
set_option linter.unusedVariables false
set_option linter.unusedSimpArgs false
theorem rtop_any (w : World) : Calls Try.prog 89 #[] w fun e w' => e = .returned (.int .u64 9223372036854775808) ∧ w = w' := by
  go_enter Try.func89, Try.ntmps89
  go_wp2
  go_returns
  exact ⟨rfl, rfl⟩
theorem ruall_any (w : World) :
    Calls Try.prog 46 #[] w fun e w' => e = .returned (.agg #[.int .u64 uAll.lo, .int .u64 uAll.hi]) ∧ Below w.heap.size w w' := by
  go_enter Try.func46, Try.ntmps46
  go_wp2_with (go_at_call 89; refine (rtop_any _).mono ?_; rintro e w' ⟨rfl, rfl⟩)
  go_returns
  exact ⟨rfl, by go_grown⟩
theorem rsall_any (w : World) :
    Calls Try.prog 68 #[] w fun e w' => e = .returned (.agg #[.int .i64 sAll.lo, .int .i64 sAll.hi]) ∧ Below w.heap.size w w' := by
  go_enter Try.func68, Try.ntmps68
  go_wp2
  go_returns
  exact ⟨rfl, by go_grown⟩
theorem ruof_any (v : Int) (w : World) :
    Calls Try.prog 48 #[.int .u64 v] w fun e w' => e = .returned (.agg #[.int .u64 (ofE v).lo, .int .u64 (ofE v).hi]) ∧ Below w.heap.size w w' := by
  go_enter Try.func48, Try.ntmps48
  go_wp2
  go_returns
  exact ⟨rfl, by go_grown⟩
theorem rsof_any (v : Int) (h0 : 0 ≤ v) (h1 : v ≤ 18446744073709551615) (w : World) :
    Calls Try.prog 70 #[.int .u64 v] w fun e w' => e = .returned (.agg #[.int .i64 (ofE (sg v)).lo, .int .i64 (ofE (sg v)).hi]) ∧ Below w.heap.size w w' := by
  go_enter Try.func70, Try.ntmps70
  go_wp2
  go_returns
  exact ⟨rt_u (sg_wrap v h0 h1) (sg_wrap v h0 h1), by go_grown⟩
theorem ralone_any (a : E) (w : World) :
    Calls Try.prog 82 #[.agg #[.int .u64 a.lo, .int .u64 a.hi]] w fun e w' => e = .returned (.bool (a.lo == a.hi)) ∧ Below w.heap.size w w' := by
  go_enter Try.func82, Try.ntmps82
  go_wp2
  go_returns
  exact ⟨rfl, by go_grown⟩
theorem ralone_to (a : E) (r : Bool) (h : (a.lo == a.hi) = r) (w : World) :
    Calls Try.prog 82 #[.agg #[.int .u64 a.lo, .int .u64 a.hi]] w fun e w' => e = .returned (.bool r) ∧ Below w.heap.size w w' := by subst h; exact ralone_any a w
theorem ruin_any (a : E) (v : Int) (w : World) :
    Calls Try.prog 16 #[.agg #[.int .u64 a.lo, .int .u64 a.hi], .int .u64 v] w fun e w' => e = .returned (.bool (inE a v)) ∧ Below w.heap.size w w' := by
  by_cases h1 : a.lo ≤ v
  · go_enter Try.func16, Try.ntmps16
    go_wp2
    go_returns
    refine ⟨rt_b ?_, by go_grown⟩
    unfold inE
    rw [decide_eq_decide]
    exact ⟨fun h => ⟨h1, h⟩, fun h => h.2⟩
  · go_enter Try.func16, Try.ntmps16
    go_wp2
    go_returns
    refine ⟨rt_b ?_, by go_grown⟩
    unfold inE
    exact (decide_eq_false (by omega)).symm
theorem rsin_any (a : E) (v : Int) (h0 : 0 ≤ v) (h9 : v ≤ 18446744073709551615) (w : World) :
    Calls Try.prog 54 #[.agg #[.int .i64 a.lo, .int .i64 a.hi], .int .u64 v] w fun e w' => e = .returned (.bool (inE a (sg v))) ∧ Below w.heap.size w w' := by
  have q := sg_wrap v h0 h9
  rw [← q]
  clear q
  by_cases h1 : a.lo ≤ wrap64 v
  · go_enter Try.func54, Try.ntmps54
    go_wp2
    go_returns
    refine ⟨rt_b ?_, by go_grown⟩
    unfold inE
    rw [decide_eq_decide]
    exact ⟨fun h => ⟨h1, h⟩, fun h => h.2⟩
  · go_enter Try.func54, Try.ntmps54
    go_wp2
    go_returns
    refine ⟨rt_b ?_, by go_grown⟩
    unfold inE
    exact (decide_eq_false (by omega)).symm
theorem rswith_any (a b : E) (w : World) :
    Calls Try.prog 56 #[.agg #[.int .i64 a.lo, .int .i64 a.hi], .agg #[.int .i64 b.lo, .int .i64 b.hi]] w fun e w' => e = .returned (.bool (withE a b)) ∧ Below w.heap.size w w' := by
  by_cases h1 : b.lo ≤ a.lo
  · go_enter Try.func56, Try.ntmps56
    go_wp2
    go_returns
    refine ⟨rt_b ?_, by go_grown⟩
    unfold withE
    rw [decide_eq_decide]
    exact ⟨fun h => ⟨h1, h⟩, fun h => h.2⟩
  · go_enter Try.func56, Try.ntmps56
    go_wp2
    go_returns
    refine ⟨rt_b ?_, by go_grown⟩
    unfold withE
    exact (decide_eq_false (by omega)).symm
theorem ruin_to (a : E) (v : Int) (r : Bool) (h : inE a v = r) (w : World) :
    Calls Try.prog 16 #[.agg #[.int .u64 a.lo, .int .u64 a.hi], .int .u64 v] w fun e w' => e = .returned (.bool r) ∧ Below w.heap.size w w' := by subst h; exact ruin_any a v w
theorem ruwith_any (a b : E) (ha : okU a) (w : World) :
    Calls Try.prog 18 #[.agg #[.int .u64 a.lo, .int .u64 a.hi], .agg #[.int .u64 b.lo, .int .u64 b.hi]] w fun e w' => e = .returned (.bool (withE a b)) ∧ Below w.heap.size w w' := by
  obtain ⟨a0, a1, a2⟩ := ha
  cases h1 : inE b a.lo
  · have e1 := Lib.hid (show withE a b = false by unfold withE; unfold inE at h1; have := of_decide_eq_false h1; exact decide_eq_false (by omega))
    rw [e1.out]
    have J1 := Lib.hid h1
    clear h1
    go_enter Try.func18, Try.ntmps18
    go_wp2_with fail
    have K0 := ((Bk.new w 24 #[.int .u64 a.lo, .int .u64 a.hi]).alloc (.cells #[.int .u64 b.lo, .int .u64 b.hi] 24))
    have K1 := (Bk.new (w.alloc (.cells #[.int .u64 a.lo, .int .u64 a.hi] 24)) 24 #[.int .u64 b.lo, .int .u64 b.hi])
    rw [World.size_alloc] at K1
    have B0 : Below w.heap.size w ((w.alloc (.cells #[.int .u64 a.lo, .int .u64 a.hi] 24)).alloc (.cells #[.int .u64 b.lo, .int .u64 b.hi] 24)) := by go_grown
    generalize ((w.alloc (.cells #[.int .u64 a.lo, .int .u64 a.hi] 24)).alloc (.cells #[.int .u64 b.lo, .int .u64 b.hi] 24)) = w0 at *
    have H0 := Lib.hid K0
    obtain ⟨c00, c01⟩ := tcells K0
    have H1 := Lib.hid K1
    obtain ⟨c10, c11⟩ := tcells K1
    have HB := Lib.hid B0
    clear K0 K1 B0
    with_reducible refine (ruin_to b a.lo false J1.out _).mono ?_
    rintro e w1 ⟨rfl, qb⟩
    replace c00 := keep1 qb c00
    replace c01 := keep1 qb c01
    replace c10 := keep1 qb c10
    replace c11 := keep1 qb c11
    replace H0 := Lib.hid (H0.out.below qb H0.out.lt)
    replace H1 := Lib.hid (H1.out.below qb H1.out.lt)
    replace HB := Lib.hid (below_then HB.out qb (Nat.le_refl _))
    clear qb
    go_wp2_with fail
    go_returns
    exact ⟨rfl, HB.out⟩
  · have e1 := Lib.hid (show withE a b = inE b a.hi by unfold withE; unfold inE at h1 ⊢; have := of_decide_eq_true h1; rw [decide_eq_decide]; omega)
    rw [e1.out]
    have J1 := Lib.hid h1
    clear h1
    go_enter Try.func18, Try.ntmps18
    go_wp2_with fail
    have K0 := ((Bk.new w 24 #[.int .u64 a.lo, .int .u64 a.hi]).alloc (.cells #[.int .u64 b.lo, .int .u64 b.hi] 24))
    have K1 := (Bk.new (w.alloc (.cells #[.int .u64 a.lo, .int .u64 a.hi] 24)) 24 #[.int .u64 b.lo, .int .u64 b.hi])
    rw [World.size_alloc] at K1
    have B0 : Below w.heap.size w ((w.alloc (.cells #[.int .u64 a.lo, .int .u64 a.hi] 24)).alloc (.cells #[.int .u64 b.lo, .int .u64 b.hi] 24)) := by go_grown
    generalize ((w.alloc (.cells #[.int .u64 a.lo, .int .u64 a.hi] 24)).alloc (.cells #[.int .u64 b.lo, .int .u64 b.hi] 24)) = w0 at *
    have H0 := Lib.hid K0
    obtain ⟨c00, c01⟩ := tcells K0
    have H1 := Lib.hid K1
    obtain ⟨c10, c11⟩ := tcells K1
    have HB := Lib.hid B0
    clear K0 K1 B0
    with_reducible refine (ruin_to b a.lo true J1.out _).mono ?_
    rintro e w1 ⟨rfl, qb⟩
    replace c00 := keep1 qb c00
    replace c01 := keep1 qb c01
    replace c10 := keep1 qb c10
    replace c11 := keep1 qb c11
    replace H0 := Lib.hid (H0.out.below qb H0.out.lt)
    replace H1 := Lib.hid (H1.out.below qb H1.out.lt)
    replace HB := Lib.hid (below_then HB.out qb (Nat.le_refl _))
    clear qb
    go_wp2_with fail
    with_reducible refine (ruin_any b a.hi _).mono ?_
    rintro e w2 ⟨rfl, qb⟩
    replace c00 := keep1 qb c00
    replace c01 := keep1 qb c01
    replace c10 := keep1 qb c10
    replace c11 := keep1 qb c11
    replace H0 := Lib.hid (H0.out.below qb H0.out.lt)
    replace H1 := Lib.hid (H1.out.below qb H1.out.lt)
    replace HB := Lib.hid (below_then HB.out qb (Nat.le_refl _))
    clear qb
    go_wp2_with fail
    go_returns
    exact ⟨rfl, HB.out⟩
set_option maxHeartbeats 1000000 in
theorem rujoin_any (a b : E) (w : World) :
    Calls Try.prog 20 #[.agg #[.int .u64 a.lo, .int .u64 a.hi], .agg #[.int .u64 b.lo, .int .u64 b.hi]] w fun e w' => e = .returned (.agg #[.int .u64 (joinE a b).lo, .int .u64 (joinE a b).hi]) ∧ Below w.heap.size w w' := by
  by_cases p : b.lo < a.lo
  · by_cases q : b.hi > a.hi
    · go_enter Try.func20, Try.ntmps20
      go_wp2
      go_returns
      exact ⟨rt_u (by show _ = min _ _; omega) (by show _ = max _ _; omega), by go_grown⟩
    · go_enter Try.func20, Try.ntmps20
      go_wp2
      go_returns
      exact ⟨rt_u (by show _ = min _ _; omega) (by show _ = max _ _; omega), by go_grown⟩
  · by_cases q : b.hi > a.hi
    · go_enter Try.func20, Try.ntmps20
      go_wp2
      go_returns
      exact ⟨rt_u (by show _ = min _ _; omega) (by show _ = max _ _; omega), by go_grown⟩
    · go_enter Try.func20, Try.ntmps20
      go_wp2
      go_returns
      exact ⟨rt_u (by show _ = min _ _; omega) (by show _ = max _ _; omega), by go_grown⟩
set_option maxHeartbeats 4000000 in
theorem rumeet_any (a b : E) (w : World) :
    Calls Try.prog 14 #[.agg #[.int .u64 a.lo, .int .u64 a.hi], .agg #[.int .u64 b.lo, .int .u64 b.hi]] w fun e w' => e = .returned (.tuple #[.agg #[.int .u64 (meetE a b).lo, .int .u64 (meetE a b).hi], .bool (metE a b)]) ∧ Below w.heap.size w w' := by
  by_cases p : a.lo < b.lo
  · by_cases q : b.hi < a.hi
    · by_cases h : b.lo ≤ b.hi
      · have e1 := Lib.hid (show meetE a b = ⟨b.lo, b.hi⟩ by unfold meetE; rw [if_pos (by omega)]; exact E.eq (show max a.lo b.lo = b.lo by omega) (show min a.hi b.hi = b.hi by omega))
        have e2 := Lib.hid (show metE a b = true by unfold metE; rw [decide_eq_true (by omega)])
        rw [e1.out, e2.out]
        go_enter Try.func14, Try.ntmps14
        go_wp2
        go_returns
        exact ⟨rt_ub rfl rfl rfl, by go_grown⟩
      · have e1 := Lib.hid (show meetE a b = ⟨0, 0⟩ by unfold meetE; rw [if_neg (by omega)])
        have e2 := Lib.hid (show metE a b = false by unfold metE; rw [decide_eq_false (by omega)])
        rw [e1.out, e2.out]
        go_enter Try.func14, Try.ntmps14
        go_wp2
        go_returns
        exact ⟨rt_ub rfl rfl rfl, by go_grown⟩
    · by_cases h : b.lo ≤ a.hi
      · have e1 := Lib.hid (show meetE a b = ⟨b.lo, a.hi⟩ by unfold meetE; rw [if_pos (by omega)]; exact E.eq (show max a.lo b.lo = b.lo by omega) (show min a.hi b.hi = a.hi by omega))
        have e2 := Lib.hid (show metE a b = true by unfold metE; rw [decide_eq_true (by omega)])
        rw [e1.out, e2.out]
        go_enter Try.func14, Try.ntmps14
        go_wp2
        go_returns
        exact ⟨rt_ub rfl rfl rfl, by go_grown⟩
      · have e1 := Lib.hid (show meetE a b = ⟨0, 0⟩ by unfold meetE; rw [if_neg (by omega)])
        have e2 := Lib.hid (show metE a b = false by unfold metE; rw [decide_eq_false (by omega)])
        rw [e1.out, e2.out]
        go_enter Try.func14, Try.ntmps14
        go_wp2
        go_returns
        exact ⟨rt_ub rfl rfl rfl, by go_grown⟩
  · by_cases q : b.hi < a.hi
    · by_cases h : a.lo ≤ b.hi
      · have e1 := Lib.hid (show meetE a b = ⟨a.lo, b.hi⟩ by unfold meetE; rw [if_pos (by omega)]; exact E.eq (show max a.lo b.lo = a.lo by omega) (show min a.hi b.hi = b.hi by omega))
        have e2 := Lib.hid (show metE a b = true by unfold metE; rw [decide_eq_true (by omega)])
        rw [e1.out, e2.out]
        go_enter Try.func14, Try.ntmps14
        go_wp2
        go_returns
        exact ⟨rt_ub rfl rfl rfl, by go_grown⟩
      · have e1 := Lib.hid (show meetE a b = ⟨0, 0⟩ by unfold meetE; rw [if_neg (by omega)])
        have e2 := Lib.hid (show metE a b = false by unfold metE; rw [decide_eq_false (by omega)])
        rw [e1.out, e2.out]
        go_enter Try.func14, Try.ntmps14
        go_wp2
        go_returns
        exact ⟨rt_ub rfl rfl rfl, by go_grown⟩
    · by_cases h : a.lo ≤ a.hi
      · have e1 := Lib.hid (show meetE a b = ⟨a.lo, a.hi⟩ by unfold meetE; rw [if_pos (by omega)]; exact E.eq (show max a.lo b.lo = a.lo by omega) (show min a.hi b.hi = a.hi by omega))
        have e2 := Lib.hid (show metE a b = true by unfold metE; rw [decide_eq_true (by omega)])
        rw [e1.out, e2.out]
        go_enter Try.func14, Try.ntmps14
        go_wp2
        go_returns
        exact ⟨rt_ub rfl rfl rfl, by go_grown⟩
      · have e1 := Lib.hid (show meetE a b = ⟨0, 0⟩ by unfold meetE; rw [if_neg (by omega)])
        have e2 := Lib.hid (show metE a b = false by unfold metE; rw [decide_eq_false (by omega)])
        rw [e1.out, e2.out]
        go_enter Try.func14, Try.ntmps14
        go_wp2
        go_returns
        exact ⟨rt_ub rfl rfl rfl, by go_grown⟩
set_option maxHeartbeats 1000000 in
theorem rsjoin_any (a b : E) (w : World) :
    Calls Try.prog 58 #[.agg #[.int .i64 a.lo, .int .i64 a.hi], .agg #[.int .i64 b.lo, .int .i64 b.hi]] w fun e w' => e = .returned (.agg #[.int .i64 (joinE a b).lo, .int .i64 (joinE a b).hi]) ∧ Below w.heap.size w w' := by
  by_cases p : b.lo < a.lo
  · by_cases q : b.hi > a.hi
    · go_enter Try.func58, Try.ntmps58
      go_wp2
      go_returns
      exact ⟨rt_u (by show _ = min _ _; omega) (by show _ = max _ _; omega), by go_grown⟩
    · go_enter Try.func58, Try.ntmps58
      go_wp2
      go_returns
      exact ⟨rt_u (by show _ = min _ _; omega) (by show _ = max _ _; omega), by go_grown⟩
  · by_cases q : b.hi > a.hi
    · go_enter Try.func58, Try.ntmps58
      go_wp2
      go_returns
      exact ⟨rt_u (by show _ = min _ _; omega) (by show _ = max _ _; omega), by go_grown⟩
    · go_enter Try.func58, Try.ntmps58
      go_wp2
      go_returns
      exact ⟨rt_u (by show _ = min _ _; omega) (by show _ = max _ _; omega), by go_grown⟩
set_option maxHeartbeats 4000000 in
theorem rsmeet_any (a b : E) (w : World) :
    Calls Try.prog 52 #[.agg #[.int .i64 a.lo, .int .i64 a.hi], .agg #[.int .i64 b.lo, .int .i64 b.hi]] w fun e w' => e = .returned (.tuple #[.agg #[.int .i64 (meetE a b).lo, .int .i64 (meetE a b).hi], .bool (metE a b)]) ∧ Below w.heap.size w w' := by
  by_cases p : a.lo < b.lo
  · by_cases q : b.hi < a.hi
    · by_cases h : b.lo ≤ b.hi
      · have e1 := Lib.hid (show meetE a b = ⟨b.lo, b.hi⟩ by unfold meetE; rw [if_pos (by omega)]; exact E.eq (show max a.lo b.lo = b.lo by omega) (show min a.hi b.hi = b.hi by omega))
        have e2 := Lib.hid (show metE a b = true by unfold metE; rw [decide_eq_true (by omega)])
        rw [e1.out, e2.out]
        go_enter Try.func52, Try.ntmps52
        go_wp2
        go_returns
        exact ⟨rt_ub rfl rfl rfl, by go_grown⟩
      · have e1 := Lib.hid (show meetE a b = ⟨0, 0⟩ by unfold meetE; rw [if_neg (by omega)])
        have e2 := Lib.hid (show metE a b = false by unfold metE; rw [decide_eq_false (by omega)])
        rw [e1.out, e2.out]
        go_enter Try.func52, Try.ntmps52
        go_wp2
        go_returns
        exact ⟨rt_ub rfl rfl rfl, by go_grown⟩
    · by_cases h : b.lo ≤ a.hi
      · have e1 := Lib.hid (show meetE a b = ⟨b.lo, a.hi⟩ by unfold meetE; rw [if_pos (by omega)]; exact E.eq (show max a.lo b.lo = b.lo by omega) (show min a.hi b.hi = a.hi by omega))
        have e2 := Lib.hid (show metE a b = true by unfold metE; rw [decide_eq_true (by omega)])
        rw [e1.out, e2.out]
        go_enter Try.func52, Try.ntmps52
        go_wp2
        go_returns
        exact ⟨rt_ub rfl rfl rfl, by go_grown⟩
      · have e1 := Lib.hid (show meetE a b = ⟨0, 0⟩ by unfold meetE; rw [if_neg (by omega)])
        have e2 := Lib.hid (show metE a b = false by unfold metE; rw [decide_eq_false (by omega)])
        rw [e1.out, e2.out]
        go_enter Try.func52, Try.ntmps52
        go_wp2
        go_returns
        exact ⟨rt_ub rfl rfl rfl, by go_grown⟩
  · by_cases q : b.hi < a.hi
    · by_cases h : a.lo ≤ b.hi
      · have e1 := Lib.hid (show meetE a b = ⟨a.lo, b.hi⟩ by unfold meetE; rw [if_pos (by omega)]; exact E.eq (show max a.lo b.lo = a.lo by omega) (show min a.hi b.hi = b.hi by omega))
        have e2 := Lib.hid (show metE a b = true by unfold metE; rw [decide_eq_true (by omega)])
        rw [e1.out, e2.out]
        go_enter Try.func52, Try.ntmps52
        go_wp2
        go_returns
        exact ⟨rt_ub rfl rfl rfl, by go_grown⟩
      · have e1 := Lib.hid (show meetE a b = ⟨0, 0⟩ by unfold meetE; rw [if_neg (by omega)])
        have e2 := Lib.hid (show metE a b = false by unfold metE; rw [decide_eq_false (by omega)])
        rw [e1.out, e2.out]
        go_enter Try.func52, Try.ntmps52
        go_wp2
        go_returns
        exact ⟨rt_ub rfl rfl rfl, by go_grown⟩
    · by_cases h : a.lo ≤ a.hi
      · have e1 := Lib.hid (show meetE a b = ⟨a.lo, a.hi⟩ by unfold meetE; rw [if_pos (by omega)]; exact E.eq (show max a.lo b.lo = a.lo by omega) (show min a.hi b.hi = a.hi by omega))
        have e2 := Lib.hid (show metE a b = true by unfold metE; rw [decide_eq_true (by omega)])
        rw [e1.out, e2.out]
        go_enter Try.func52, Try.ntmps52
        go_wp2
        go_returns
        exact ⟨rt_ub rfl rfl rfl, by go_grown⟩
      · have e1 := Lib.hid (show meetE a b = ⟨0, 0⟩ by unfold meetE; rw [if_neg (by omega)])
        have e2 := Lib.hid (show metE a b = false by unfold metE; rw [decide_eq_false (by omega)])
        rw [e1.out, e2.out]
        go_enter Try.func52, Try.ntmps52
        go_wp2
        go_returns
        exact ⟨rt_ub rfl rfl rfl, by go_grown⟩
end Go.Proofs.Ythjjfginenpfjaa
