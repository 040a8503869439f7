/-
  What package span's functions that both signs share tell: contracts. Conditions: the ends are numbers of 64 bits, Lo at most Hi where sums are told.
-/
import Derived.Test.YthjjfginenpfjaaSpanA
namespace Go.Proofs.Ythjjfginenpfjaa
open Go.RowKit Tn Ow Sp
set_option linter.unusedVariables false
set_option linter.unusedSimpArgs false
theorem bcell {W w1 : World} (hb : Below W.heap.size W w1) : (∀ b o, b < W.heap.size → w1.cell? ⟨b, o, none⟩ = W.cell? ⟨b, o, none⟩) ∧ (∀ b o, b < W.heap.size → w1.frozen? ⟨b, o, none⟩ = W.frozen? ⟨b, o, none⟩) :=
  ⟨fun b o h => hb.cell (p := ⟨b, o, none⟩) h, fun b o h => hb.frozen (p := ⟨b, o, none⟩) h⟩
theorem below_then {B : Nat} {w w1 w2 : World} (h1 : Below B w w1) (h2 : Below w1.heap.size w1 w2) (hB : B ≤ w.heap.size) : Below B w w2 :=
  h1.trans (h2.mono (by have := h1.size; omega))
theorem below_drewN {B : Nat} {w wr : World} (h : Below B w wr) (n : Nat) : Below B w (wr.drewN n) := ⟨h.os, h.tape, h.output, h.size, h.block⟩
theorem keep1 {w0 w1 : World} {p : Addr} {v : Value} (q1 : Below w0.heap.size w0 w1) (h : w0.cell? p = some v) : w1.cell? p = some v :=
  (q1.cell (World.block_lt_of_cell? w0 _ h)).trans h
theorem keepf {w0 w1 : World} {p : Addr} (q1 : Below w0.heap.size w0 w1) (h : p.block < w0.heap.size) {b : Bool} (hf : w0.frozen? p = b) : w1.frozen? p = b :=
  (q1.frozen h).trans hf
/-- Whatever a cell holds. -/
def cv (w : World) (r i : Nat) : Value := (w.cell? ⟨r, i, none⟩).getD (.bool false)
theorem cv_some {w : World} {r i : Nat} {v : Value} (h : w.cell? ⟨r, i, none⟩ = some v) : w.cell? ⟨r, i, none⟩ = some (cv w r i) := by unfold cv; rw [h]; rfl
theorem uall_any (w : World) :
    Calls Try.prog 45 #[] w fun e w' => e = .returned (.agg #[.int .u64 uAll.lo, .int .u64 uAll.hi]) ∧ Below w.heap.size w w' := by
  go_enter Try.func45, Try.ntmps45
  go_wp2
  go_returns
  exact ⟨rfl, by go_grown⟩
theorem sall_any (w : World) :
    Calls Try.prog 67 #[] w fun e w' => e = .returned (.agg #[.int .i64 sAll.lo, .int .i64 sAll.hi]) ∧ Below w.heap.size w w' := by
  go_enter Try.func67, Try.ntmps67
  go_wp2
  go_returns
  exact ⟨rfl, by go_grown⟩
theorem uof_any (v : Int) (w : World) :
    Calls Try.prog 47 #[.int .u64 v] w fun e w' => e = .returned (.agg #[.int .u64 (ofE v).lo, .int .u64 (ofE v).hi]) ∧ Below w.heap.size w w' := by
  go_enter Try.func47, Try.ntmps47
  go_wp2
  go_returns
  exact ⟨rfl, by go_grown⟩
theorem sg_wrap (v : Int) (h0 : 0 ≤ v) (h1 : v ≤ 18446744073709551615) : wrap64 v = sg v := by unfold sg wrap64; split <;> omega
theorem us_wrap (v : Int) (h0 : -9223372036854775808 ≤ v) (h1 : v ≤ 9223372036854775807) : IntKind.u64.wrap v = us v := by rw [IntKind.wrap_u64]; unfold us; split <;> omega
theorem sof_any (v : Int) (h0 : 0 ≤ v) (h1 : v ≤ 18446744073709551615) (w : World) :
    Calls Try.prog 69 #[.int .u64 v] w fun e w' => e = .returned (.agg #[.int .i64 (ofE (sg v)).lo, .int .i64 (ofE (sg v)).hi]) ∧ Below w.heap.size w w' := by
  go_enter Try.func69, Try.ntmps69
  go_wp2
  go_returns
  exact ⟨rt_u (sg_wrap v h0 h1) (sg_wrap v h0 h1), by go_grown⟩
theorem ualone_any (a : E) (w : World) :
    Calls Try.prog 83 #[.agg #[.int .u64 a.lo, .int .u64 a.hi]] w fun e w' => e = .returned (.bool (a.lo == a.hi)) ∧ Below w.heap.size w w' := by
  go_enter Try.func83, Try.ntmps83
  go_wp2
  go_returns
  exact ⟨rfl, by go_grown⟩
theorem ualone_to (a : E) (r : Bool) (h : (a.lo == a.hi) = r) (w : World) :
    Calls Try.prog 83 #[.agg #[.int .u64 a.lo, .int .u64 a.hi]] w fun e w' => e = .returned (.bool r) ∧ Below w.heap.size w w' := by subst h; exact ualone_any a w
theorem uwithin_any (a b : E) (w : World) :
    Calls Try.prog 76 #[.agg #[.int .u64 a.lo, .int .u64 a.hi], .agg #[.int .u64 b.lo, .int .u64 b.hi]] w fun e w' => e = .returned (.bool (withE a b)) ∧ Below w.heap.size w w' := by
  by_cases h1 : b.lo ≤ a.lo
  · go_enter Try.func76, Try.ntmps76
    go_wp2
    go_returns
    refine ⟨rt_b ?_, by go_grown⟩
    unfold withE
    rw [decide_eq_decide]
    exact ⟨fun h => ⟨h1, h⟩, fun h => h.2⟩
  · go_enter Try.func76, Try.ntmps76
    go_wp2
    go_returns
    refine ⟨rt_b ?_, by go_grown⟩
    unfold withE
    exact (decide_eq_false (by omega)).symm
theorem ujoin_any (a b : E) (w : World) :
    Calls Try.prog 77 #[.agg #[.int .u64 a.lo, .int .u64 a.hi], .agg #[.int .u64 b.lo, .int .u64 b.hi]] w fun e w' => e = .returned (.agg #[.int .u64 (joinE a b).lo, .int .u64 (joinE a b).hi]) ∧ Below w.heap.size w w' := by
  go_enter Try.func77, Try.ntmps77
  go_wp2
  all_goals go_returns
  all_goals exact ⟨rt_u (by show _ = min _ _; omega) (by show _ = max _ _; omega), by go_grown⟩
set_option maxHeartbeats 4000000 in
theorem umeet_any (a b : E) (w : World) :
    Calls Try.prog 75 #[.agg #[.int .u64 a.lo, .int .u64 a.hi], .agg #[.int .u64 b.lo, .int .u64 b.hi]] w fun e w' => e = .returned (.tuple #[.agg #[.int .u64 (meetE a b).lo, .int .u64 (meetE a b).hi], .bool (metE a b)]) ∧ Below w.heap.size w w' := by
  by_cases p : a.lo < b.lo
  · by_cases q : b.hi < a.hi
    · by_cases h : b.lo ≤ b.hi
      · have e1 := Lib.hid (show meetE a b = ⟨b.lo, b.hi⟩ by unfold meetE; rw [if_pos (by omega)]; exact E.eq (show max a.lo b.lo = b.lo by omega) (show min a.hi b.hi = b.hi by omega))
        have e2 := Lib.hid (show metE a b = true by unfold metE; rw [decide_eq_true (by omega)])
        rw [e1.out, e2.out]
        go_enter Try.func75, Try.ntmps75
        go_wp2
        go_returns
        exact ⟨rt_ub rfl rfl rfl, by go_grown⟩
      · have e1 := Lib.hid (show meetE a b = ⟨0, 0⟩ by unfold meetE; rw [if_neg (by omega)])
        have e2 := Lib.hid (show metE a b = false by unfold metE; rw [decide_eq_false (by omega)])
        rw [e1.out, e2.out]
        go_enter Try.func75, Try.ntmps75
        go_wp2
        go_returns
        exact ⟨rt_ub rfl rfl rfl, by go_grown⟩
    · by_cases h : b.lo ≤ a.hi
      · have e1 := Lib.hid (show meetE a b = ⟨b.lo, a.hi⟩ by unfold meetE; rw [if_pos (by omega)]; exact E.eq (show max a.lo b.lo = b.lo by omega) (show min a.hi b.hi = a.hi by omega))
        have e2 := Lib.hid (show metE a b = true by unfold metE; rw [decide_eq_true (by omega)])
        rw [e1.out, e2.out]
        go_enter Try.func75, Try.ntmps75
        go_wp2
        go_returns
        exact ⟨rt_ub rfl rfl rfl, by go_grown⟩
      · have e1 := Lib.hid (show meetE a b = ⟨0, 0⟩ by unfold meetE; rw [if_neg (by omega)])
        have e2 := Lib.hid (show metE a b = false by unfold metE; rw [decide_eq_false (by omega)])
        rw [e1.out, e2.out]
        go_enter Try.func75, Try.ntmps75
        go_wp2
        go_returns
        exact ⟨rt_ub rfl rfl rfl, by go_grown⟩
  · by_cases q : b.hi < a.hi
    · by_cases h : a.lo ≤ b.hi
      · have e1 := Lib.hid (show meetE a b = ⟨a.lo, b.hi⟩ by unfold meetE; rw [if_pos (by omega)]; exact E.eq (show max a.lo b.lo = a.lo by omega) (show min a.hi b.hi = b.hi by omega))
        have e2 := Lib.hid (show metE a b = true by unfold metE; rw [decide_eq_true (by omega)])
        rw [e1.out, e2.out]
        go_enter Try.func75, Try.ntmps75
        go_wp2
        go_returns
        exact ⟨rt_ub rfl rfl rfl, by go_grown⟩
      · have e1 := Lib.hid (show meetE a b = ⟨0, 0⟩ by unfold meetE; rw [if_neg (by omega)])
        have e2 := Lib.hid (show metE a b = false by unfold metE; rw [decide_eq_false (by omega)])
        rw [e1.out, e2.out]
        go_enter Try.func75, Try.ntmps75
        go_wp2
        go_returns
        exact ⟨rt_ub rfl rfl rfl, by go_grown⟩
    · by_cases h : a.lo ≤ a.hi
      · have e1 := Lib.hid (show meetE a b = ⟨a.lo, a.hi⟩ by unfold meetE; rw [if_pos (by omega)]; exact E.eq (show max a.lo b.lo = a.lo by omega) (show min a.hi b.hi = a.hi by omega))
        have e2 := Lib.hid (show metE a b = true by unfold metE; rw [decide_eq_true (by omega)])
        rw [e1.out, e2.out]
        go_enter Try.func75, Try.ntmps75
        go_wp2
        go_returns
        exact ⟨rt_ub rfl rfl rfl, by go_grown⟩
      · have e1 := Lib.hid (show meetE a b = ⟨0, 0⟩ by unfold meetE; rw [if_neg (by omega)])
        have e2 := Lib.hid (show metE a b = false by unfold metE; rw [decide_eq_false (by omega)])
        rw [e1.out, e2.out]
        go_enter Try.func75, Try.ntmps75
        go_wp2
        go_returns
        exact ⟨rt_ub rfl rfl rfl, by go_grown⟩
theorem swithin_any (a b : E) (w : World) :
    Calls Try.prog 92 #[.agg #[.int .i64 a.lo, .int .i64 a.hi], .agg #[.int .i64 b.lo, .int .i64 b.hi]] w fun e w' => e = .returned (.bool (withE a b)) ∧ Below w.heap.size w w' := by
  by_cases h1 : b.lo ≤ a.lo
  · go_enter Try.func92, Try.ntmps92
    go_wp2
    go_returns
    refine ⟨rt_b ?_, by go_grown⟩
    unfold withE
    rw [decide_eq_decide]
    exact ⟨fun h => ⟨h1, h⟩, fun h => h.2⟩
  · go_enter Try.func92, Try.ntmps92
    go_wp2
    go_returns
    refine ⟨rt_b ?_, by go_grown⟩
    unfold withE
    exact (decide_eq_false (by omega)).symm
theorem sjoin_any (a b : E) (w : World) :
    Calls Try.prog 93 #[.agg #[.int .i64 a.lo, .int .i64 a.hi], .agg #[.int .i64 b.lo, .int .i64 b.hi]] w fun e w' => e = .returned (.agg #[.int .i64 (joinE a b).lo, .int .i64 (joinE a b).hi]) ∧ Below w.heap.size w w' := by
  go_enter Try.func93, Try.ntmps93
  go_wp2
  all_goals go_returns
  all_goals exact ⟨rt_u (by show _ = min _ _; omega) (by show _ = max _ _; omega), by go_grown⟩
set_option maxHeartbeats 4000000 in
theorem smeet_any (a b : E) (w : World) :
    Calls Try.prog 91 #[.agg #[.int .i64 a.lo, .int .i64 a.hi], .agg #[.int .i64 b.lo, .int .i64 b.hi]] w fun e w' => e = .returned (.tuple #[.agg #[.int .i64 (meetE a b).lo, .int .i64 (meetE a b).hi], .bool (metE a b)]) ∧ Below w.heap.size w w' := by
  by_cases p : a.lo < b.lo
  · by_cases q : b.hi < a.hi
    · by_cases h : b.lo ≤ b.hi
      · have e1 := Lib.hid (show meetE a b = ⟨b.lo, b.hi⟩ by unfold meetE; rw [if_pos (by omega)]; exact E.eq (show max a.lo b.lo = b.lo by omega) (show min a.hi b.hi = b.hi by omega))
        have e2 := Lib.hid (show metE a b = true by unfold metE; rw [decide_eq_true (by omega)])
        rw [e1.out, e2.out]
        go_enter Try.func91, Try.ntmps91
        go_wp2
        go_returns
        exact ⟨rt_ub rfl rfl rfl, by go_grown⟩
      · have e1 := Lib.hid (show meetE a b = ⟨0, 0⟩ by unfold meetE; rw [if_neg (by omega)])
        have e2 := Lib.hid (show metE a b = false by unfold metE; rw [decide_eq_false (by omega)])
        rw [e1.out, e2.out]
        go_enter Try.func91, Try.ntmps91
        go_wp2
        go_returns
        exact ⟨rt_ub rfl rfl rfl, by go_grown⟩
    · by_cases h : b.lo ≤ a.hi
      · have e1 := Lib.hid (show meetE a b = ⟨b.lo, a.hi⟩ by unfold meetE; rw [if_pos (by omega)]; exact E.eq (show max a.lo b.lo = b.lo by omega) (show min a.hi b.hi = a.hi by omega))
        have e2 := Lib.hid (show metE a b = true by unfold metE; rw [decide_eq_true (by omega)])
        rw [e1.out, e2.out]
        go_enter Try.func91, Try.ntmps91
        go_wp2
        go_returns
        exact ⟨rt_ub rfl rfl rfl, by go_grown⟩
      · have e1 := Lib.hid (show meetE a b = ⟨0, 0⟩ by unfold meetE; rw [if_neg (by omega)])
        have e2 := Lib.hid (show metE a b = false by unfold metE; rw [decide_eq_false (by omega)])
        rw [e1.out, e2.out]
        go_enter Try.func91, Try.ntmps91
        go_wp2
        go_returns
        exact ⟨rt_ub rfl rfl rfl, by go_grown⟩
  · by_cases q : b.hi < a.hi
    · by_cases h : a.lo ≤ b.hi
      · have e1 := Lib.hid (show meetE a b = ⟨a.lo, b.hi⟩ by unfold meetE; rw [if_pos (by omega)]; exact E.eq (show max a.lo b.lo = a.lo by omega) (show min a.hi b.hi = b.hi by omega))
        have e2 := Lib.hid (show metE a b = true by unfold metE; rw [decide_eq_true (by omega)])
        rw [e1.out, e2.out]
        go_enter Try.func91, Try.ntmps91
        go_wp2
        go_returns
        exact ⟨rt_ub rfl rfl rfl, by go_grown⟩
      · have e1 := Lib.hid (show meetE a b = ⟨0, 0⟩ by unfold meetE; rw [if_neg (by omega)])
        have e2 := Lib.hid (show metE a b = false by unfold metE; rw [decide_eq_false (by omega)])
        rw [e1.out, e2.out]
        go_enter Try.func91, Try.ntmps91
        go_wp2
        go_returns
        exact ⟨rt_ub rfl rfl rfl, by go_grown⟩
    · by_cases h : a.lo ≤ a.hi
      · have e1 := Lib.hid (show meetE a b = ⟨a.lo, a.hi⟩ by unfold meetE; rw [if_pos (by omega)]; exact E.eq (show max a.lo b.lo = a.lo by omega) (show min a.hi b.hi = a.hi by omega))
        have e2 := Lib.hid (show metE a b = true by unfold metE; rw [decide_eq_true (by omega)])
        rw [e1.out, e2.out]
        go_enter Try.func91, Try.ntmps91
        go_wp2
        go_returns
        exact ⟨rt_ub rfl rfl rfl, by go_grown⟩
      · have e1 := Lib.hid (show meetE a b = ⟨0, 0⟩ by unfold meetE; rw [if_neg (by omega)])
        have e2 := Lib.hid (show metE a b = false by unfold metE; rw [decide_eq_false (by omega)])
        rw [e1.out, e2.out]
        go_enter Try.func91, Try.ntmps91
        go_wp2
        go_returns
        exact ⟨rt_ub rfl rfl rfl, by go_grown⟩
theorem uadd3_any (a b : E) (ha : okU a) (hb : okU b) (w : World) :
    Calls Try.prog 78 #[.agg #[.int .u64 a.lo, .int .u64 a.hi], .agg #[.int .u64 b.lo, .int .u64 b.hi], .agg #[.int .u64 uAll.lo, .int .u64 uAll.hi]] w fun e w' => e = .returned (.agg #[.int .u64 (uAdd a b).lo, .int .u64 (uAdd a b).hi]) ∧ Below w.heap.size w w' := by
  unfold okU at ha hb
  obtain ⟨a0, a1, a2⟩ := ha
  obtain ⟨b0, b1, b2⟩ := hb
  by_cases h : a.hi + b.hi ≤ 18446744073709551615
  · have e1 := Lib.hid (show uAdd a b = ⟨a.lo + b.lo, a.hi + b.hi⟩ by unfold uAdd; rw [if_pos h])
    rw [e1.out]
    have d1 : decide (18446744073709551615 < a.lo + b.lo) = false := decide_eq_false (by omega)
    have d2 : decide (18446744073709551615 < a.hi + b.hi) = false := decide_eq_false (by omega)
    go_enter Try.func78, Try.ntmps78
    go_wp2_with (go_at_call 100; refine (usum_any _ _ (by omega) (by omega) (by omega) (by omega) _).mono ?_; rintro e w' ⟨rfl, rfl⟩)
    go_returns
    exact ⟨rt_u (by omega) (by omega), by go_grown⟩
  · have e1 := Lib.hid (show uAdd a b = uAll by unfold uAdd; rw [if_neg h])
    rw [e1.out]
    have d2 : decide (18446744073709551615 < a.hi + b.hi) = true := decide_eq_true (by omega)
    go_enter Try.func78, Try.ntmps78
    go_wp2_with (go_at_call 100; refine (usum_any _ _ (by omega) (by omega) (by omega) (by omega) _).mono ?_; rintro e w' ⟨rfl, rfl⟩)
    all_goals go_returns
    all_goals exact ⟨rt_u rfl rfl, by go_grown⟩
theorem usub3_any (a b : E) (ha : okU a) (hb : okU b) (w : World) :
    Calls Try.prog 79 #[.agg #[.int .u64 a.lo, .int .u64 a.hi], .agg #[.int .u64 b.lo, .int .u64 b.hi], .agg #[.int .u64 uAll.lo, .int .u64 uAll.hi]] w fun e w' => e = .returned (.agg #[.int .u64 (uSub a b).lo, .int .u64 (uSub a b).hi]) ∧ Below w.heap.size w w' := by
  unfold okU at ha hb
  obtain ⟨a0, a1, a2⟩ := ha
  obtain ⟨b0, b1, b2⟩ := hb
  by_cases h : b.hi ≤ a.lo
  · have e1 := Lib.hid (show uSub a b = ⟨a.lo - b.hi, a.hi - b.lo⟩ by unfold uSub; rw [if_pos h])
    rw [e1.out]
    have d1 : decide (a.lo < b.hi) = false := decide_eq_false (by omega)
    have d2 : decide (a.hi < b.lo) = false := decide_eq_false (by omega)
    go_enter Try.func79, Try.ntmps79
    go_wp2_with (go_at_call 101; refine (udiff_any _ _ (by omega) (by omega) (by omega) (by omega) _).mono ?_; rintro e w' ⟨rfl, rfl⟩)
    go_returns
    exact ⟨rt_u (by omega) (by omega), by go_grown⟩
  · have e1 := Lib.hid (show uSub a b = uAll by unfold uSub; rw [if_neg h])
    rw [e1.out]
    have d1 : decide (a.lo < b.hi) = true := decide_eq_true (by omega)
    go_enter Try.func79, Try.ntmps79
    go_wp2_with (go_at_call 101; refine (udiff_any _ _ (by omega) (by omega) (by omega) (by omega) _).mono ?_; rintro e w' ⟨rfl, rfl⟩)
    all_goals go_returns
    all_goals exact ⟨rt_u rfl rfl, by go_grown⟩
theorem sadd3_any (a b : E) (ha : okS a) (hb : okS b) (w : World) :
    Calls Try.prog 94 #[.agg #[.int .i64 a.lo, .int .i64 a.hi], .agg #[.int .i64 b.lo, .int .i64 b.hi], .agg #[.int .i64 sAll.lo, .int .i64 sAll.hi]] w fun e w' => e = .returned (.agg #[.int .i64 (sAdd a b).lo, .int .i64 (sAdd a b).hi]) ∧ Below w.heap.size w w' := by
  unfold okS at ha hb
  obtain ⟨a0, a1, a2⟩ := ha
  obtain ⟨b0, b1, b2⟩ := hb
  by_cases h1 : -9223372036854775808 ≤ a.lo + b.lo ∧ a.lo + b.lo ≤ 9223372036854775807
  · by_cases h2 : -9223372036854775808 ≤ a.hi + b.hi ∧ a.hi + b.hi ≤ 9223372036854775807
    · have e1 := Lib.hid (show sAdd a b = ⟨a.lo + b.lo, a.hi + b.hi⟩ by unfold sAdd; rw [if_pos ⟨h1.1, h1.2, h2.1, h2.2⟩])
      rw [e1.out]
      have d1 : outS (a.lo + b.lo) = false := decide_eq_false (by omega)
      have d2 : outS (a.hi + b.hi) = false := decide_eq_false (by omega)
      go_enter Try.func94, Try.ntmps94
      go_wp2_with (go_at_call 102; refine (ssum_any _ _ (by omega) (by omega) (by omega) (by omega) _).mono ?_; rintro e w' ⟨rfl, rfl⟩)
      go_returns
      exact ⟨rt_u (by first | rfl | exact wr64 _ h1.1 h1.2) (by first | rfl | exact wr64 _ h2.1 h2.2), by go_grown⟩
    · have e1 := Lib.hid (show sAdd a b = sAll by unfold sAdd; rw [if_neg (by omega)])
      rw [e1.out]
      have d1 : outS (a.lo + b.lo) = false := decide_eq_false (by omega)
      have d2 : outS (a.hi + b.hi) = true := decide_eq_true (by omega)
      go_enter Try.func94, Try.ntmps94
      go_wp2_with (go_at_call 102; refine (ssum_any _ _ (by omega) (by omega) (by omega) (by omega) _).mono ?_; rintro e w' ⟨rfl, rfl⟩)
      all_goals go_returns
      all_goals exact ⟨rt_u rfl rfl, by go_grown⟩
  · have e1 := Lib.hid (show sAdd a b = sAll by unfold sAdd; rw [if_neg (by omega)])
    rw [e1.out]
    have d1 : outS (a.lo + b.lo) = true := decide_eq_true (by omega)
    go_enter Try.func94, Try.ntmps94
    go_wp2_with (go_at_call 102; refine (ssum_any _ _ (by omega) (by omega) (by omega) (by omega) _).mono ?_; rintro e w' ⟨rfl, rfl⟩)
    all_goals go_returns
    all_goals exact ⟨rt_u rfl rfl, by go_grown⟩
theorem ssub3_any (a b : E) (ha : okS a) (hb : okS b) (w : World) :
    Calls Try.prog 96 #[.agg #[.int .i64 a.lo, .int .i64 a.hi], .agg #[.int .i64 b.lo, .int .i64 b.hi], .agg #[.int .i64 sAll.lo, .int .i64 sAll.hi]] w fun e w' => e = .returned (.agg #[.int .i64 (sSub a b).lo, .int .i64 (sSub a b).hi]) ∧ Below w.heap.size w w' := by
  unfold okS at ha hb
  obtain ⟨a0, a1, a2⟩ := ha
  obtain ⟨b0, b1, b2⟩ := hb
  by_cases h1 : -9223372036854775808 ≤ a.lo - b.hi ∧ a.lo - b.hi ≤ 9223372036854775807
  · by_cases h2 : -9223372036854775808 ≤ a.hi - b.lo ∧ a.hi - b.lo ≤ 9223372036854775807
    · have e1 := Lib.hid (show sSub a b = ⟨a.lo - b.hi, a.hi - b.lo⟩ by unfold sSub; rw [if_pos ⟨h1.1, h1.2, h2.1, h2.2⟩])
      rw [e1.out]
      have d1 : outS (a.lo - b.hi) = false := decide_eq_false (by omega)
      have d2 : outS (a.hi - b.lo) = false := decide_eq_false (by omega)
      go_enter Try.func96, Try.ntmps96
      go_wp2_with (go_at_call 103; refine (sdiff_any _ _ (by omega) (by omega) (by omega) (by omega) _).mono ?_; rintro e w' ⟨rfl, rfl⟩)
      go_returns
      exact ⟨rt_u (by first | rfl | exact wr64 _ h1.1 h1.2) (by first | rfl | exact wr64 _ h2.1 h2.2), by go_grown⟩
    · have e1 := Lib.hid (show sSub a b = sAll by unfold sSub; rw [if_neg (by omega)])
      rw [e1.out]
      have d1 : outS (a.lo - b.hi) = false := decide_eq_false (by omega)
      have d2 : outS (a.hi - b.lo) = true := decide_eq_true (by omega)
      go_enter Try.func96, Try.ntmps96
      go_wp2_with (go_at_call 103; refine (sdiff_any _ _ (by omega) (by omega) (by omega) (by omega) _).mono ?_; rintro e w' ⟨rfl, rfl⟩)
      all_goals go_returns
      all_goals exact ⟨rt_u rfl rfl, by go_grown⟩
  · have e1 := Lib.hid (show sSub a b = sAll by unfold sSub; rw [if_neg (by omega)])
    rw [e1.out]
    have d1 : outS (a.lo - b.hi) = true := decide_eq_true (by omega)
    go_enter Try.func96, Try.ntmps96
    go_wp2_with (go_at_call 103; refine (sdiff_any _ _ (by omega) (by omega) (by omega) (by omega) _).mono ?_; rintro e w' ⟨rfl, rfl⟩)
    all_goals go_returns
    all_goals exact ⟨rt_u rfl rfl, by go_grown⟩
theorem udown_any (a : E) (n : Int) (k : Nat) (hk : n % 64 = (k : Int)) (h0 : okU a) (w : World) :
    Calls Try.prog 90 #[.agg #[.int .u64 a.lo, .int .u64 a.hi], .int .i64 n] w fun e w' => e = .returned (.agg #[.int .u64 (rsh a k).lo, .int .u64 (rsh a k).hi]) ∧ Below w.heap.size w w' := by
  have HK := Lib.hid hk
  have kb : k ≤ 63 := by omega
  clear hk
  obtain ⟨a0, a1, a2⟩ := h0
  go_enter Try.func90, Try.ntmps90
  go_wp2_with (go_at_call 87; refine (dist_any _ k HK.out _).mono ?_; rintro e w' ⟨rfl, rfl⟩)
  go_returns
  trace_state
  exact ⟨rt_u rfl rfl, by go_grown⟩
theorem sdown_any (a : E) (n : Int) (k : Nat) (hk : n % 64 = (k : Int)) (h0 : okS a) (w : World) :
    Calls Try.prog 98 #[.agg #[.int .i64 a.lo, .int .i64 a.hi], .int .i64 n] w fun e w' => e = .returned (.agg #[.int .i64 (rsh a k).lo, .int .i64 (rsh a k).hi]) ∧ Below w.heap.size w w' := by
  have HK := Lib.hid hk
  have kb : k ≤ 63 := by omega
  clear hk
  obtain ⟨a0, a1, a2⟩ := h0
  go_enter Try.func98, Try.ntmps98
  go_wp2_with (go_at_call 87; refine (dist_any _ k HK.out _).mono ?_; rintro e w' ⟨rfl, rfl⟩)
  go_returns
  trace_state
  exact ⟨rt_u rfl rfl, by go_grown⟩
end Go.Proofs.Ythjjfginenpfjaa
