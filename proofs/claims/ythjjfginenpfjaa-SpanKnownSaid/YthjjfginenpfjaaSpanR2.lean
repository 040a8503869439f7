/-
  What more of the document's functions of layer 4 tell: contracts. Conditions: the ends are numbers of 64 bits, Lo at most Hi.
-/
import Derived.Test.YthjjfginenpfjaaSpanR
namespace Go.Proofs.Ythjjfginenpfjaa
open Go.RowKit Tn Ow Sp
set_option linter.unusedVariables false
set_option linter.unusedSimpArgs false
theorem fldS0 (x y : Value) (w : World) : (Instr.field 35 (.agg #[x, y]) 0).run Try.prog w = .ok x w := by kernel_rfl
theorem fldS1 (x y : Value) (w : World) : (Instr.field 35 (.agg #[x, y]) 1).run Try.prog w = .ok y w := by kernel_rfl
theorem fldU0 (x y : Value) (w : World) : (Instr.field 24 (.agg #[x, y]) 0).run Try.prog w = .ok x w := by kernel_rfl
theorem fldU1 (x y : Value) (w : World) : (Instr.field 24 (.agg #[x, y]) 1).run Try.prog w = .ok y w := by kernel_rfl
theorem rsall_lit (w : World) :
    Calls Try.prog 68 #[] w fun e w' => e = .returned (.agg #[.int .i64 (-9223372036854775808), .int .i64 9223372036854775807]) ∧ Below w.heap.size w w' := rsall_any w
theorem rusub_any (a b : E) (ha : okU a) (hb : okU b) (w : World) :
    Calls Try.prog 24 #[.agg #[.int .u64 a.lo, .int .u64 a.hi], .agg #[.int .u64 b.lo, .int .u64 b.hi]] w fun e w' => e = .returned (.agg #[.int .u64 (uSub a b).lo, .int .u64 (uSub a b).hi]) ∧ Below w.heap.size w w' := by
  obtain ⟨a0, a1, a2⟩ := ha
  obtain ⟨b0, b1, b2⟩ := hb
  by_cases h : b.hi ≤ a.lo
  · have e1 := Lib.hid (show uSub a b = ⟨a.lo - b.hi, a.hi - b.lo⟩ by unfold uSub; rw [if_pos h])
    rw [e1.out]
    go_enter Try.func24, Try.ntmps24
    go_wp2
    go_returns
    exact ⟨rt_u (by first | rfl | (rw [IntKind.wrap_u64]; omega)) (by first | rfl | (rw [IntKind.wrap_u64]; omega)), by go_grown⟩
  · have e1 := Lib.hid (show uSub a b = uAll by unfold uSub; rw [if_neg h])
    rw [e1.out]
    go_enter Try.func24, Try.ntmps24
    go_wp2_with fail
    have K0 := (((Bk.new w 24 #[.int .u64 a.lo, .int .u64 a.hi]).alloc (.cells #[.int .u64 b.lo, .int .u64 b.hi] 24)).alloc (.cells #[.int .u64 0, .int .u64 0] 24))
    have K1 := ((Bk.new (w.alloc (.cells #[.int .u64 a.lo, .int .u64 a.hi] 24)) 24 #[.int .u64 b.lo, .int .u64 b.hi]).alloc (.cells #[.int .u64 0, .int .u64 0] 24))
    rw [World.size_alloc] at K1
    have K2 := (Bk.new ((w.alloc (.cells #[.int .u64 a.lo, .int .u64 a.hi] 24)).alloc (.cells #[.int .u64 b.lo, .int .u64 b.hi] 24)) 24 #[.int .u64 0, .int .u64 0])
    rw [World.size_alloc, World.size_alloc] at K2
    have B0 : Below w.heap.size w (((w.alloc (.cells #[.int .u64 a.lo, .int .u64 a.hi] 24)).alloc (.cells #[.int .u64 b.lo, .int .u64 b.hi] 24)).alloc (.cells #[.int .u64 0, .int .u64 0] 24)) := by go_grown
    generalize (((w.alloc (.cells #[.int .u64 a.lo, .int .u64 a.hi] 24)).alloc (.cells #[.int .u64 b.lo, .int .u64 b.hi] 24)).alloc (.cells #[.int .u64 0, .int .u64 0] 24)) = w0 at *
    have H0 := Lib.hid K0
    obtain ⟨c00, c01⟩ := tcells K0
    have H1 := Lib.hid K1
    obtain ⟨c10, c11⟩ := tcells K1
    have H2 := Lib.hid K2
    obtain ⟨c20, c21⟩ := tcells K2
    have f0 := K2.frozen 0
    have f1 := K2.frozen 1
    have HB := Lib.hid B0
    clear K0 K1 K2 B0
    with_reducible refine (ruall_any _).mono ?_
    rintro e w1 ⟨rfl, qb⟩
    replace f0 := keepf qb (World.block_lt_of_cell? _ _ c20) f0
    replace f1 := keepf qb (World.block_lt_of_cell? _ _ c21) f1
    replace c00 := keep1 qb c00
    replace c01 := keep1 qb c01
    replace c10 := keep1 qb c10
    replace c11 := keep1 qb c11
    replace c20 := keep1 qb c20
    replace c21 := keep1 qb c21
    replace H0 := Lib.hid (H0.out.below qb H0.out.lt)
    replace H1 := Lib.hid (H1.out.below qb H1.out.lt)
    replace H2 := Lib.hid (H2.out.below qb H2.out.lt)
    replace HB := Lib.hid (below_then HB.out qb (Nat.le_refl _))
    clear qb
    go_wp2_with fail
    have r0 : ∀ u v, ((w1.setCell ⟨w.heap.size + 1 + 1, 0, none⟩ u).setCell ⟨w.heap.size + 1 + 1, 1, none⟩ v).cell? ⟨w.heap.size + 1 + 1, 0, none⟩ = some u := fun u v => set_fst c20
    have r1 : ∀ u v, ((w1.setCell ⟨w.heap.size + 1 + 1, 0, none⟩ u).setCell ⟨w.heap.size + 1 + 1, 1, none⟩ v).cell? ⟨w.heap.size + 1 + 1, 1, none⟩ = some v := fun u v => set_snd c21
    refine bodyPost_ret (by simp [results, Try.results24, r0, r1, go_sem]; try rfl) rfl ?_
    exact ⟨rt_u rfl rfl, (below_st2 HB.out (by omega))⟩
set_option maxRecDepth 100000 in
theorem rover_any (x y : Int) (h0 : -9223372036854775808 ≤ x) (h1 : x ≤ 9223372036854775807) (h2 : -9223372036854775808 ≤ y) (h3 : y ≤ 9223372036854775807) (w : World) :
    Calls Try.prog 95 #[.int .i64 x, .int .i64 y] w fun e w' => e = .returned (.bool (outS (x + y))) ∧ Below w.heap.size w w' := by
  rcases Int.lt_trichotomy y 0 with g | g | g
  · have g2 : ¬ 0 < y := by omega
    have g3 := decide_eq_false g2
    have i0 := fldS0
    have i1 := fldS1
    go_enter Try.func95, Try.ntmps95
    go_wp2_with (go_at_call 68; refine (rsall_lit _).mono ?_; rintro e w1 ⟨rfl, qb⟩)
    all_goals go_returns
    all_goals refine ⟨rt_b ?_, by first | exact qb | go_grown⟩
    all_goals unfold outS
    all_goals first | (rw [decide_eq_decide]; omega) | exact (decide_eq_true (by omega)).symm | exact (decide_eq_false (by omega)).symm
  · have H := Lib.hid (show outS (x + y) = false by subst g; unfold outS; exact decide_eq_false (by omega))
    rw [H.out]
    subst g
    go_enter Try.func95, Try.ntmps95
    go_wp2_with (go_at_call 68; refine (rsall_lit _).mono ?_; rintro e w1 ⟨rfl, qb⟩)
    all_goals go_returns
    all_goals exact ⟨rfl, by go_grown⟩
  · have g2 : ¬ y < 0 := by omega
    have g3 := decide_eq_false g2
    have i0 := fldS0
    have i1 := fldS1
    go_enter Try.func95, Try.ntmps95
    go_wp2_with (go_at_call 68; refine (rsall_lit _).mono ?_; rintro e w1 ⟨rfl, qb⟩)
    all_goals go_returns
    all_goals refine ⟨rt_b ?_, by first | exact qb | go_grown⟩
    all_goals unfold outS
    all_goals first | (rw [decide_eq_decide]; omega) | exact (decide_eq_true (by omega)).symm | exact (decide_eq_false (by omega)).symm
theorem rover_to (x y : Int) (r : Bool) (h : outS (x + y) = r) (h0 : -9223372036854775808 ≤ x) (h1 : x ≤ 9223372036854775807) (h2 : -9223372036854775808 ≤ y) (h3 : y ≤ 9223372036854775807) (w : World) :
    Calls Try.prog 95 #[.int .i64 x, .int .i64 y] w fun e w' => e = .returned (.bool r) ∧ Below w.heap.size w w' := by subst h; exact rover_any x y h0 h1 h2 h3 w
set_option maxRecDepth 100000 in
theorem runder_any (x y : Int) (h0 : -9223372036854775808 ≤ x) (h1 : x ≤ 9223372036854775807) (h2 : -9223372036854775808 ≤ y) (h3 : y ≤ 9223372036854775807) (w : World) :
    Calls Try.prog 97 #[.int .i64 x, .int .i64 y] w fun e w' => e = .returned (.bool (outS (x - y))) ∧ Below w.heap.size w w' := by
  rcases Int.lt_trichotomy y 0 with g | g | g
  · have g2 : ¬ 0 < y := by omega
    have g3 := decide_eq_false g2
    have i0 := fldS0
    have i1 := fldS1
    go_enter Try.func97, Try.ntmps97
    go_wp2_with (go_at_call 68; refine (rsall_lit _).mono ?_; rintro e w1 ⟨rfl, qb⟩)
    all_goals go_returns
    all_goals refine ⟨rt_b ?_, by first | exact qb | go_grown⟩
    all_goals unfold outS
    all_goals first | (rw [decide_eq_decide]; omega) | exact (decide_eq_true (by omega)).symm | exact (decide_eq_false (by omega)).symm
  · have H := Lib.hid (show outS (x - y) = false by subst g; unfold outS; exact decide_eq_false (by omega))
    rw [H.out]
    subst g
    go_enter Try.func97, Try.ntmps97
    go_wp2_with (go_at_call 68; refine (rsall_lit _).mono ?_; rintro e w1 ⟨rfl, qb⟩)
    all_goals go_returns
    all_goals exact ⟨rfl, by go_grown⟩
  · have g2 : ¬ y < 0 := by omega
    have g3 := decide_eq_false g2
    have i0 := fldS0
    have i1 := fldS1
    go_enter Try.func97, Try.ntmps97
    go_wp2_with (go_at_call 68; refine (rsall_lit _).mono ?_; rintro e w1 ⟨rfl, qb⟩)
    all_goals go_returns
    all_goals refine ⟨rt_b ?_, by first | exact qb | go_grown⟩
    all_goals unfold outS
    all_goals first | (rw [decide_eq_decide]; omega) | exact (decide_eq_true (by omega)).symm | exact (decide_eq_false (by omega)).symm
theorem runder_to (x y : Int) (r : Bool) (h : outS (x - y) = r) (h0 : -9223372036854775808 ≤ x) (h1 : x ≤ 9223372036854775807) (h2 : -9223372036854775808 ≤ y) (h3 : y ≤ 9223372036854775807) (w : World) :
    Calls Try.prog 97 #[.int .i64 x, .int .i64 y] w fun e w' => e = .returned (.bool r) ∧ Below w.heap.size w w' := by subst h; exact runder_any x y h0 h1 h2 h3 w
theorem rsadd_any (a b : E) (ha : okS a) (hb : okS b) (w : World) :
    Calls Try.prog 60 #[.agg #[.int .i64 a.lo, .int .i64 a.hi], .agg #[.int .i64 b.lo, .int .i64 b.hi]] w fun e w' => e = .returned (.agg #[.int .i64 (sAdd a b).lo, .int .i64 (sAdd a b).hi]) ∧ Below w.heap.size w w' := by
  obtain ⟨a0, a1, a2⟩ := ha
  obtain ⟨b0, b1, b2⟩ := hb
  by_cases h1 : -9223372036854775808 ≤ a.lo + b.lo ∧ a.lo + b.lo ≤ 9223372036854775807
  · have D1 := Lib.hid (show outS (a.lo + b.lo) = false from decide_eq_false (by omega))
    by_cases h2 : -9223372036854775808 ≤ a.hi + b.hi ∧ a.hi + b.hi ≤ 9223372036854775807
    · have e1 := Lib.hid (show sAdd a b = ⟨a.lo + b.lo, a.hi + b.hi⟩ by unfold sAdd; rw [if_pos ⟨h1.1, h1.2, h2.1, h2.2⟩])
      have D2 := Lib.hid (show outS (a.hi + b.hi) = false from decide_eq_false (by omega))
      rw [e1.out]
      go_enter Try.func60, Try.ntmps60
      go_wp2_with fail
      have K0 := (((Bk.new w 35 #[.int .i64 a.lo, .int .i64 a.hi]).alloc (.cells #[.int .i64 b.lo, .int .i64 b.hi] 35)).alloc (.cells #[.int .i64 0, .int .i64 0] 35))
      have K1 := ((Bk.new (w.alloc (.cells #[.int .i64 a.lo, .int .i64 a.hi] 35)) 35 #[.int .i64 b.lo, .int .i64 b.hi]).alloc (.cells #[.int .i64 0, .int .i64 0] 35))
      rw [World.size_alloc] at K1
      have K2 := (Bk.new ((w.alloc (.cells #[.int .i64 a.lo, .int .i64 a.hi] 35)).alloc (.cells #[.int .i64 b.lo, .int .i64 b.hi] 35)) 35 #[.int .i64 0, .int .i64 0])
      rw [World.size_alloc, World.size_alloc] at K2
      have B0 : Below w.heap.size w (((w.alloc (.cells #[.int .i64 a.lo, .int .i64 a.hi] 35)).alloc (.cells #[.int .i64 b.lo, .int .i64 b.hi] 35)).alloc (.cells #[.int .i64 0, .int .i64 0] 35)) := by go_grown
      generalize (((w.alloc (.cells #[.int .i64 a.lo, .int .i64 a.hi] 35)).alloc (.cells #[.int .i64 b.lo, .int .i64 b.hi] 35)).alloc (.cells #[.int .i64 0, .int .i64 0] 35)) = w0 at *
      have H0 := Lib.hid K0
      obtain ⟨c00, c01⟩ := tcells K0
      have H1 := Lib.hid K1
      obtain ⟨c10, c11⟩ := tcells K1
      have H2 := Lib.hid K2
      obtain ⟨c20, c21⟩ := tcells K2
      have f0 := K2.frozen 0
      have f1 := K2.frozen 1
      have HB := Lib.hid B0
      clear K0 K1 K2 B0
      with_reducible refine (rover_to a.lo b.lo false D1.out (by omega) (by omega) (by omega) (by omega) _).mono ?_
      rintro e w1 ⟨rfl, qb⟩
      replace f0 := keepf qb (World.block_lt_of_cell? _ _ c20) f0
      replace f1 := keepf qb (World.block_lt_of_cell? _ _ c21) f1
      replace c00 := keep1 qb c00
      replace c01 := keep1 qb c01
      replace c10 := keep1 qb c10
      replace c11 := keep1 qb c11
      replace c20 := keep1 qb c20
      replace c21 := keep1 qb c21
      replace H0 := Lib.hid (H0.out.below qb H0.out.lt)
      replace H1 := Lib.hid (H1.out.below qb H1.out.lt)
      replace H2 := Lib.hid (H2.out.below qb H2.out.lt)
      replace HB := Lib.hid (below_then HB.out qb (Nat.le_refl _))
      clear qb
      go_wp2_with fail
      with_reducible refine (rover_to a.hi b.hi false D2.out (by omega) (by omega) (by omega) (by omega) _).mono ?_
      rintro e w2 ⟨rfl, qb⟩
      replace f0 := keepf qb (World.block_lt_of_cell? _ _ c20) f0
      replace f1 := keepf qb (World.block_lt_of_cell? _ _ c21) f1
      replace c00 := keep1 qb c00
      replace c01 := keep1 qb c01
      replace c10 := keep1 qb c10
      replace c11 := keep1 qb c11
      replace c20 := keep1 qb c20
      replace c21 := keep1 qb c21
      replace H0 := Lib.hid (H0.out.below qb H0.out.lt)
      replace H1 := Lib.hid (H1.out.below qb H1.out.lt)
      replace H2 := Lib.hid (H2.out.below qb H2.out.lt)
      replace HB := Lib.hid (below_then HB.out qb (Nat.le_refl _))
      clear qb
      go_wp2_with fail
      have r0 : ∀ u v, ((w2.setCell ⟨w.heap.size + 1 + 1, 0, none⟩ u).setCell ⟨w.heap.size + 1 + 1, 1, none⟩ v).cell? ⟨w.heap.size + 1 + 1, 0, none⟩ = some u := fun u v => set_fst c20
      have r1 : ∀ u v, ((w2.setCell ⟨w.heap.size + 1 + 1, 0, none⟩ u).setCell ⟨w.heap.size + 1 + 1, 1, none⟩ v).cell? ⟨w.heap.size + 1 + 1, 1, none⟩ = some v := fun u v => set_snd c21
      refine bodyPost_ret (by simp [results, Try.results60, r0, r1, go_sem]; try rfl) rfl ?_
      exact ⟨rt_u (by first | rfl | exact wr64 _ h1.1 h1.2) (by first | rfl | exact wr64 _ h2.1 h2.2), (below_st2 HB.out (by omega))⟩
    · have e1 := Lib.hid (show sAdd a b = sAll by unfold sAdd; rw [if_neg (by omega)])
      have D2 := Lib.hid (show outS (a.hi + b.hi) = true from decide_eq_true (by omega))
      rw [e1.out]
      go_enter Try.func60, Try.ntmps60
      go_wp2_with fail
      have K0 := (((Bk.new w 35 #[.int .i64 a.lo, .int .i64 a.hi]).alloc (.cells #[.int .i64 b.lo, .int .i64 b.hi] 35)).alloc (.cells #[.int .i64 0, .int .i64 0] 35))
      have K1 := ((Bk.new (w.alloc (.cells #[.int .i64 a.lo, .int .i64 a.hi] 35)) 35 #[.int .i64 b.lo, .int .i64 b.hi]).alloc (.cells #[.int .i64 0, .int .i64 0] 35))
      rw [World.size_alloc] at K1
      have K2 := (Bk.new ((w.alloc (.cells #[.int .i64 a.lo, .int .i64 a.hi] 35)).alloc (.cells #[.int .i64 b.lo, .int .i64 b.hi] 35)) 35 #[.int .i64 0, .int .i64 0])
      rw [World.size_alloc, World.size_alloc] at K2
      have B0 : Below w.heap.size w (((w.alloc (.cells #[.int .i64 a.lo, .int .i64 a.hi] 35)).alloc (.cells #[.int .i64 b.lo, .int .i64 b.hi] 35)).alloc (.cells #[.int .i64 0, .int .i64 0] 35)) := by go_grown
      generalize (((w.alloc (.cells #[.int .i64 a.lo, .int .i64 a.hi] 35)).alloc (.cells #[.int .i64 b.lo, .int .i64 b.hi] 35)).alloc (.cells #[.int .i64 0, .int .i64 0] 35)) = w0 at *
      have H0 := Lib.hid K0
      obtain ⟨c00, c01⟩ := tcells K0
      have H1 := Lib.hid K1
      obtain ⟨c10, c11⟩ := tcells K1
      have H2 := Lib.hid K2
      obtain ⟨c20, c21⟩ := tcells K2
      have f0 := K2.frozen 0
      have f1 := K2.frozen 1
      have HB := Lib.hid B0
      clear K0 K1 K2 B0
      with_reducible refine (rover_to a.lo b.lo false D1.out (by omega) (by omega) (by omega) (by omega) _).mono ?_
      rintro e w1 ⟨rfl, qb⟩
      replace f0 := keepf qb (World.block_lt_of_cell? _ _ c20) f0
      replace f1 := keepf qb (World.block_lt_of_cell? _ _ c21) f1
      replace c00 := keep1 qb c00
      replace c01 := keep1 qb c01
      replace c10 := keep1 qb c10
      replace c11 := keep1 qb c11
      replace c20 := keep1 qb c20
      replace c21 := keep1 qb c21
      replace H0 := Lib.hid (H0.out.below qb H0.out.lt)
      replace H1 := Lib.hid (H1.out.below qb H1.out.lt)
      replace H2 := Lib.hid (H2.out.below qb H2.out.lt)
      replace HB := Lib.hid (below_then HB.out qb (Nat.le_refl _))
      clear qb
      go_wp2_with fail
      with_reducible refine (rover_to a.hi b.hi true D2.out (by omega) (by omega) (by omega) (by omega) _).mono ?_
      rintro e w2 ⟨rfl, qb⟩
      replace f0 := keepf qb (World.block_lt_of_cell? _ _ c20) f0
      replace f1 := keepf qb (World.block_lt_of_cell? _ _ c21) f1
      replace c00 := keep1 qb c00
      replace c01 := keep1 qb c01
      replace c10 := keep1 qb c10
      replace c11 := keep1 qb c11
      replace c20 := keep1 qb c20
      replace c21 := keep1 qb c21
      replace H0 := Lib.hid (H0.out.below qb H0.out.lt)
      replace H1 := Lib.hid (H1.out.below qb H1.out.lt)
      replace H2 := Lib.hid (H2.out.below qb H2.out.lt)
      replace HB := Lib.hid (below_then HB.out qb (Nat.le_refl _))
      clear qb
      go_wp2_with fail
      with_reducible refine (rsall_any _).mono ?_
      rintro e w3 ⟨rfl, qb⟩
      replace f0 := keepf qb (World.block_lt_of_cell? _ _ c20) f0
      replace f1 := keepf qb (World.block_lt_of_cell? _ _ c21) f1
      replace c00 := keep1 qb c00
      replace c01 := keep1 qb c01
      replace c10 := keep1 qb c10
      replace c11 := keep1 qb c11
      replace c20 := keep1 qb c20
      replace c21 := keep1 qb c21
      replace H0 := Lib.hid (H0.out.below qb H0.out.lt)
      replace H1 := Lib.hid (H1.out.below qb H1.out.lt)
      replace H2 := Lib.hid (H2.out.below qb H2.out.lt)
      replace HB := Lib.hid (below_then HB.out qb (Nat.le_refl _))
      clear qb
      go_wp2_with fail
      have r0 : ∀ u v, ((w3.setCell ⟨w.heap.size + 1 + 1, 0, none⟩ u).setCell ⟨w.heap.size + 1 + 1, 1, none⟩ v).cell? ⟨w.heap.size + 1 + 1, 0, none⟩ = some u := fun u v => set_fst c20
      have r1 : ∀ u v, ((w3.setCell ⟨w.heap.size + 1 + 1, 0, none⟩ u).setCell ⟨w.heap.size + 1 + 1, 1, none⟩ v).cell? ⟨w.heap.size + 1 + 1, 1, none⟩ = some v := fun u v => set_snd c21
      refine bodyPost_ret (by simp [results, Try.results60, r0, r1, go_sem]; try rfl) rfl ?_
      exact ⟨rt_u rfl rfl, (below_st2 HB.out (by omega))⟩
  · have e1 := Lib.hid (show sAdd a b = sAll by unfold sAdd; rw [if_neg (by omega)])
    have D1 := Lib.hid (show outS (a.lo + b.lo) = true from decide_eq_true (by omega))
    rw [e1.out]
    go_enter Try.func60, Try.ntmps60
    go_wp2_with fail
    have K0 := (((Bk.new w 35 #[.int .i64 a.lo, .int .i64 a.hi]).alloc (.cells #[.int .i64 b.lo, .int .i64 b.hi] 35)).alloc (.cells #[.int .i64 0, .int .i64 0] 35))
    have K1 := ((Bk.new (w.alloc (.cells #[.int .i64 a.lo, .int .i64 a.hi] 35)) 35 #[.int .i64 b.lo, .int .i64 b.hi]).alloc (.cells #[.int .i64 0, .int .i64 0] 35))
    rw [World.size_alloc] at K1
    have K2 := (Bk.new ((w.alloc (.cells #[.int .i64 a.lo, .int .i64 a.hi] 35)).alloc (.cells #[.int .i64 b.lo, .int .i64 b.hi] 35)) 35 #[.int .i64 0, .int .i64 0])
    rw [World.size_alloc, World.size_alloc] at K2
    have B0 : Below w.heap.size w (((w.alloc (.cells #[.int .i64 a.lo, .int .i64 a.hi] 35)).alloc (.cells #[.int .i64 b.lo, .int .i64 b.hi] 35)).alloc (.cells #[.int .i64 0, .int .i64 0] 35)) := by go_grown
    generalize (((w.alloc (.cells #[.int .i64 a.lo, .int .i64 a.hi] 35)).alloc (.cells #[.int .i64 b.lo, .int .i64 b.hi] 35)).alloc (.cells #[.int .i64 0, .int .i64 0] 35)) = w0 at *
    have H0 := Lib.hid K0
    obtain ⟨c00, c01⟩ := tcells K0
    have H1 := Lib.hid K1
    obtain ⟨c10, c11⟩ := tcells K1
    have H2 := Lib.hid K2
    obtain ⟨c20, c21⟩ := tcells K2
    have f0 := K2.frozen 0
    have f1 := K2.frozen 1
    have HB := Lib.hid B0
    clear K0 K1 K2 B0
    with_reducible refine (rover_to a.lo b.lo true D1.out (by omega) (by omega) (by omega) (by omega) _).mono ?_
    rintro e w1 ⟨rfl, qb⟩
    replace f0 := keepf qb (World.block_lt_of_cell? _ _ c20) f0
    replace f1 := keepf qb (World.block_lt_of_cell? _ _ c21) f1
    replace c00 := keep1 qb c00
    replace c01 := keep1 qb c01
    replace c10 := keep1 qb c10
    replace c11 := keep1 qb c11
    replace c20 := keep1 qb c20
    replace c21 := keep1 qb c21
    replace H0 := Lib.hid (H0.out.below qb H0.out.lt)
    replace H1 := Lib.hid (H1.out.below qb H1.out.lt)
    replace H2 := Lib.hid (H2.out.below qb H2.out.lt)
    replace HB := Lib.hid (below_then HB.out qb (Nat.le_refl _))
    clear qb
    go_wp2_with fail
    with_reducible refine (rsall_any _).mono ?_
    rintro e w2 ⟨rfl, qb⟩
    replace f0 := keepf qb (World.block_lt_of_cell? _ _ c20) f0
    replace f1 := keepf qb (World.block_lt_of_cell? _ _ c21) f1
    replace c00 := keep1 qb c00
    replace c01 := keep1 qb c01
    replace c10 := keep1 qb c10
    replace c11 := keep1 qb c11
    replace c20 := keep1 qb c20
    replace c21 := keep1 qb c21
    replace H0 := Lib.hid (H0.out.below qb H0.out.lt)
    replace H1 := Lib.hid (H1.out.below qb H1.out.lt)
    replace H2 := Lib.hid (H2.out.below qb H2.out.lt)
    replace HB := Lib.hid (below_then HB.out qb (Nat.le_refl _))
    clear qb
    go_wp2_with fail
    have r0 : ∀ u v, ((w2.setCell ⟨w.heap.size + 1 + 1, 0, none⟩ u).setCell ⟨w.heap.size + 1 + 1, 1, none⟩ v).cell? ⟨w.heap.size + 1 + 1, 0, none⟩ = some u := fun u v => set_fst c20
    have r1 : ∀ u v, ((w2.setCell ⟨w.heap.size + 1 + 1, 0, none⟩ u).setCell ⟨w.heap.size + 1 + 1, 1, none⟩ v).cell? ⟨w.heap.size + 1 + 1, 1, none⟩ = some v := fun u v => set_snd c21
    refine bodyPost_ret (by simp [results, Try.results60, r0, r1, go_sem]; try rfl) rfl ?_
    exact ⟨rt_u rfl rfl, (below_st2 HB.out (by omega))⟩
theorem rssub_any (a b : E) (ha : okS a) (hb : okS b) (w : World) :
    Calls Try.prog 62 #[.agg #[.int .i64 a.lo, .int .i64 a.hi], .agg #[.int .i64 b.lo, .int .i64 b.hi]] w fun e w' => e = .returned (.agg #[.int .i64 (sSub a b).lo, .int .i64 (sSub a b).hi]) ∧ Below w.heap.size w w' := by
  obtain ⟨a0, a1, a2⟩ := ha
  obtain ⟨b0, b1, b2⟩ := hb
  by_cases h1 : -9223372036854775808 ≤ a.lo - b.hi ∧ a.lo - b.hi ≤ 9223372036854775807
  · have D1 := Lib.hid (show outS (a.lo - b.hi) = false from decide_eq_false (by omega))
    by_cases h2 : -9223372036854775808 ≤ a.hi - b.lo ∧ a.hi - b.lo ≤ 9223372036854775807
    · have e1 := Lib.hid (show sSub a b = ⟨a.lo - b.hi, a.hi - b.lo⟩ by unfold sSub; rw [if_pos ⟨h1.1, h1.2, h2.1, h2.2⟩])
      have D2 := Lib.hid (show outS (a.hi - b.lo) = false from decide_eq_false (by omega))
      rw [e1.out]
      go_enter Try.func62, Try.ntmps62
      go_wp2_with fail
      have K0 := (((Bk.new w 35 #[.int .i64 a.lo, .int .i64 a.hi]).alloc (.cells #[.int .i64 b.lo, .int .i64 b.hi] 35)).alloc (.cells #[.int .i64 0, .int .i64 0] 35))
      have K1 := ((Bk.new (w.alloc (.cells #[.int .i64 a.lo, .int .i64 a.hi] 35)) 35 #[.int .i64 b.lo, .int .i64 b.hi]).alloc (.cells #[.int .i64 0, .int .i64 0] 35))
      rw [World.size_alloc] at K1
      have K2 := (Bk.new ((w.alloc (.cells #[.int .i64 a.lo, .int .i64 a.hi] 35)).alloc (.cells #[.int .i64 b.lo, .int .i64 b.hi] 35)) 35 #[.int .i64 0, .int .i64 0])
      rw [World.size_alloc, World.size_alloc] at K2
      have B0 : Below w.heap.size w (((w.alloc (.cells #[.int .i64 a.lo, .int .i64 a.hi] 35)).alloc (.cells #[.int .i64 b.lo, .int .i64 b.hi] 35)).alloc (.cells #[.int .i64 0, .int .i64 0] 35)) := by go_grown
      generalize (((w.alloc (.cells #[.int .i64 a.lo, .int .i64 a.hi] 35)).alloc (.cells #[.int .i64 b.lo, .int .i64 b.hi] 35)).alloc (.cells #[.int .i64 0, .int .i64 0] 35)) = w0 at *
      have H0 := Lib.hid K0
      obtain ⟨c00, c01⟩ := tcells K0
      have H1 := Lib.hid K1
      obtain ⟨c10, c11⟩ := tcells K1
      have H2 := Lib.hid K2
      obtain ⟨c20, c21⟩ := tcells K2
      have f0 := K2.frozen 0
      have f1 := K2.frozen 1
      have HB := Lib.hid B0
      clear K0 K1 K2 B0
      with_reducible refine (runder_to a.lo b.hi false D1.out (by omega) (by omega) (by omega) (by omega) _).mono ?_
      rintro e w1 ⟨rfl, qb⟩
      replace f0 := keepf qb (World.block_lt_of_cell? _ _ c20) f0
      replace f1 := keepf qb (World.block_lt_of_cell? _ _ c21) f1
      replace c00 := keep1 qb c00
      replace c01 := keep1 qb c01
      replace c10 := keep1 qb c10
      replace c11 := keep1 qb c11
      replace c20 := keep1 qb c20
      replace c21 := keep1 qb c21
      replace H0 := Lib.hid (H0.out.below qb H0.out.lt)
      replace H1 := Lib.hid (H1.out.below qb H1.out.lt)
      replace H2 := Lib.hid (H2.out.below qb H2.out.lt)
      replace HB := Lib.hid (below_then HB.out qb (Nat.le_refl _))
      clear qb
      go_wp2_with fail
      with_reducible refine (runder_to a.hi b.lo false D2.out (by omega) (by omega) (by omega) (by omega) _).mono ?_
      rintro e w2 ⟨rfl, qb⟩
      replace f0 := keepf qb (World.block_lt_of_cell? _ _ c20) f0
      replace f1 := keepf qb (World.block_lt_of_cell? _ _ c21) f1
      replace c00 := keep1 qb c00
      replace c01 := keep1 qb c01
      replace c10 := keep1 qb c10
      replace c11 := keep1 qb c11
      replace c20 := keep1 qb c20
      replace c21 := keep1 qb c21
      replace H0 := Lib.hid (H0.out.below qb H0.out.lt)
      replace H1 := Lib.hid (H1.out.below qb H1.out.lt)
      replace H2 := Lib.hid (H2.out.below qb H2.out.lt)
      replace HB := Lib.hid (below_then HB.out qb (Nat.le_refl _))
      clear qb
      go_wp2_with fail
      have r0 : ∀ u v, ((w2.setCell ⟨w.heap.size + 1 + 1, 0, none⟩ u).setCell ⟨w.heap.size + 1 + 1, 1, none⟩ v).cell? ⟨w.heap.size + 1 + 1, 0, none⟩ = some u := fun u v => set_fst c20
      have r1 : ∀ u v, ((w2.setCell ⟨w.heap.size + 1 + 1, 0, none⟩ u).setCell ⟨w.heap.size + 1 + 1, 1, none⟩ v).cell? ⟨w.heap.size + 1 + 1, 1, none⟩ = some v := fun u v => set_snd c21
      refine bodyPost_ret (by simp [results, Try.results62, r0, r1, go_sem]; try rfl) rfl ?_
      exact ⟨rt_u (by first | rfl | exact wr64 _ h1.1 h1.2) (by first | rfl | exact wr64 _ h2.1 h2.2), (below_st2 HB.out (by omega))⟩
    · have e1 := Lib.hid (show sSub a b = sAll by unfold sSub; rw [if_neg (by omega)])
      have D2 := Lib.hid (show outS (a.hi - b.lo) = true from decide_eq_true (by omega))
      rw [e1.out]
      go_enter Try.func62, Try.ntmps62
      go_wp2_with fail
      have K0 := (((Bk.new w 35 #[.int .i64 a.lo, .int .i64 a.hi]).alloc (.cells #[.int .i64 b.lo, .int .i64 b.hi] 35)).alloc (.cells #[.int .i64 0, .int .i64 0] 35))
      have K1 := ((Bk.new (w.alloc (.cells #[.int .i64 a.lo, .int .i64 a.hi] 35)) 35 #[.int .i64 b.lo, .int .i64 b.hi]).alloc (.cells #[.int .i64 0, .int .i64 0] 35))
      rw [World.size_alloc] at K1
      have K2 := (Bk.new ((w.alloc (.cells #[.int .i64 a.lo, .int .i64 a.hi] 35)).alloc (.cells #[.int .i64 b.lo, .int .i64 b.hi] 35)) 35 #[.int .i64 0, .int .i64 0])
      rw [World.size_alloc, World.size_alloc] at K2
      have B0 : Below w.heap.size w (((w.alloc (.cells #[.int .i64 a.lo, .int .i64 a.hi] 35)).alloc (.cells #[.int .i64 b.lo, .int .i64 b.hi] 35)).alloc (.cells #[.int .i64 0, .int .i64 0] 35)) := by go_grown
      generalize (((w.alloc (.cells #[.int .i64 a.lo, .int .i64 a.hi] 35)).alloc (.cells #[.int .i64 b.lo, .int .i64 b.hi] 35)).alloc (.cells #[.int .i64 0, .int .i64 0] 35)) = w0 at *
      have H0 := Lib.hid K0
      obtain ⟨c00, c01⟩ := tcells K0
      have H1 := Lib.hid K1
      obtain ⟨c10, c11⟩ := tcells K1
      have H2 := Lib.hid K2
      obtain ⟨c20, c21⟩ := tcells K2
      have f0 := K2.frozen 0
      have f1 := K2.frozen 1
      have HB := Lib.hid B0
      clear K0 K1 K2 B0
      with_reducible refine (runder_to a.lo b.hi false D1.out (by omega) (by omega) (by omega) (by omega) _).mono ?_
      rintro e w1 ⟨rfl, qb⟩
      replace f0 := keepf qb (World.block_lt_of_cell? _ _ c20) f0
      replace f1 := keepf qb (World.block_lt_of_cell? _ _ c21) f1
      replace c00 := keep1 qb c00
      replace c01 := keep1 qb c01
      replace c10 := keep1 qb c10
      replace c11 := keep1 qb c11
      replace c20 := keep1 qb c20
      replace c21 := keep1 qb c21
      replace H0 := Lib.hid (H0.out.below qb H0.out.lt)
      replace H1 := Lib.hid (H1.out.below qb H1.out.lt)
      replace H2 := Lib.hid (H2.out.below qb H2.out.lt)
      replace HB := Lib.hid (below_then HB.out qb (Nat.le_refl _))
      clear qb
      go_wp2_with fail
      with_reducible refine (runder_to a.hi b.lo true D2.out (by omega) (by omega) (by omega) (by omega) _).mono ?_
      rintro e w2 ⟨rfl, qb⟩
      replace f0 := keepf qb (World.block_lt_of_cell? _ _ c20) f0
      replace f1 := keepf qb (World.block_lt_of_cell? _ _ c21) f1
      replace c00 := keep1 qb c00
      replace c01 := keep1 qb c01
      replace c10 := keep1 qb c10
      replace c11 := keep1 qb c11
      replace c20 := keep1 qb c20
      replace c21 := keep1 qb c21
      replace H0 := Lib.hid (H0.out.below qb H0.out.lt)
      replace H1 := Lib.hid (H1.out.below qb H1.out.lt)
      replace H2 := Lib.hid (H2.out.below qb H2.out.lt)
      replace HB := Lib.hid (below_then HB.out qb (Nat.le_refl _))
      clear qb
      go_wp2_with fail
      with_reducible refine (rsall_any _).mono ?_
      rintro e w3 ⟨rfl, qb⟩
      replace f0 := keepf qb (World.block_lt_of_cell? _ _ c20) f0
      replace f1 := keepf qb (World.block_lt_of_cell? _ _ c21) f1
      replace c00 := keep1 qb c00
      replace c01 := keep1 qb c01
      replace c10 := keep1 qb c10
      replace c11 := keep1 qb c11
      replace c20 := keep1 qb c20
      replace c21 := keep1 qb c21
      replace H0 := Lib.hid (H0.out.below qb H0.out.lt)
      replace H1 := Lib.hid (H1.out.below qb H1.out.lt)
      replace H2 := Lib.hid (H2.out.below qb H2.out.lt)
      replace HB := Lib.hid (below_then HB.out qb (Nat.le_refl _))
      clear qb
      go_wp2_with fail
      have r0 : ∀ u v, ((w3.setCell ⟨w.heap.size + 1 + 1, 0, none⟩ u).setCell ⟨w.heap.size + 1 + 1, 1, none⟩ v).cell? ⟨w.heap.size + 1 + 1, 0, none⟩ = some u := fun u v => set_fst c20
      have r1 : ∀ u v, ((w3.setCell ⟨w.heap.size + 1 + 1, 0, none⟩ u).setCell ⟨w.heap.size + 1 + 1, 1, none⟩ v).cell? ⟨w.heap.size + 1 + 1, 1, none⟩ = some v := fun u v => set_snd c21
      refine bodyPost_ret (by simp [results, Try.results62, r0, r1, go_sem]; try rfl) rfl ?_
      exact ⟨rt_u rfl rfl, (below_st2 HB.out (by omega))⟩
  · have e1 := Lib.hid (show sSub a b = sAll by unfold sSub; rw [if_neg (by omega)])
    have D1 := Lib.hid (show outS (a.lo - b.hi) = true from decide_eq_true (by omega))
    rw [e1.out]
    go_enter Try.func62, Try.ntmps62
    go_wp2_with fail
    have K0 := (((Bk.new w 35 #[.int .i64 a.lo, .int .i64 a.hi]).alloc (.cells #[.int .i64 b.lo, .int .i64 b.hi] 35)).alloc (.cells #[.int .i64 0, .int .i64 0] 35))
    have K1 := ((Bk.new (w.alloc (.cells #[.int .i64 a.lo, .int .i64 a.hi] 35)) 35 #[.int .i64 b.lo, .int .i64 b.hi]).alloc (.cells #[.int .i64 0, .int .i64 0] 35))
    rw [World.size_alloc] at K1
    have K2 := (Bk.new ((w.alloc (.cells #[.int .i64 a.lo, .int .i64 a.hi] 35)).alloc (.cells #[.int .i64 b.lo, .int .i64 b.hi] 35)) 35 #[.int .i64 0, .int .i64 0])
    rw [World.size_alloc, World.size_alloc] at K2
    have B0 : Below w.heap.size w (((w.alloc (.cells #[.int .i64 a.lo, .int .i64 a.hi] 35)).alloc (.cells #[.int .i64 b.lo, .int .i64 b.hi] 35)).alloc (.cells #[.int .i64 0, .int .i64 0] 35)) := by go_grown
    generalize (((w.alloc (.cells #[.int .i64 a.lo, .int .i64 a.hi] 35)).alloc (.cells #[.int .i64 b.lo, .int .i64 b.hi] 35)).alloc (.cells #[.int .i64 0, .int .i64 0] 35)) = w0 at *
    have H0 := Lib.hid K0
    obtain ⟨c00, c01⟩ := tcells K0
    have H1 := Lib.hid K1
    obtain ⟨c10, c11⟩ := tcells K1
    have H2 := Lib.hid K2
    obtain ⟨c20, c21⟩ := tcells K2
    have f0 := K2.frozen 0
    have f1 := K2.frozen 1
    have HB := Lib.hid B0
    clear K0 K1 K2 B0
    with_reducible refine (runder_to a.lo b.hi true D1.out (by omega) (by omega) (by omega) (by omega) _).mono ?_
    rintro e w1 ⟨rfl, qb⟩
    replace f0 := keepf qb (World.block_lt_of_cell? _ _ c20) f0
    replace f1 := keepf qb (World.block_lt_of_cell? _ _ c21) f1
    replace c00 := keep1 qb c00
    replace c01 := keep1 qb c01
    replace c10 := keep1 qb c10
    replace c11 := keep1 qb c11
    replace c20 := keep1 qb c20
    replace c21 := keep1 qb c21
    replace H0 := Lib.hid (H0.out.below qb H0.out.lt)
    replace H1 := Lib.hid (H1.out.below qb H1.out.lt)
    replace H2 := Lib.hid (H2.out.below qb H2.out.lt)
    replace HB := Lib.hid (below_then HB.out qb (Nat.le_refl _))
    clear qb
    go_wp2_with fail
    with_reducible refine (rsall_any _).mono ?_
    rintro e w2 ⟨rfl, qb⟩
    replace f0 := keepf qb (World.block_lt_of_cell? _ _ c20) f0
    replace f1 := keepf qb (World.block_lt_of_cell? _ _ c21) f1
    replace c00 := keep1 qb c00
    replace c01 := keep1 qb c01
    replace c10 := keep1 qb c10
    replace c11 := keep1 qb c11
    replace c20 := keep1 qb c20
    replace c21 := keep1 qb c21
    replace H0 := Lib.hid (H0.out.below qb H0.out.lt)
    replace H1 := Lib.hid (H1.out.below qb H1.out.lt)
    replace H2 := Lib.hid (H2.out.below qb H2.out.lt)
    replace HB := Lib.hid (below_then HB.out qb (Nat.le_refl _))
    clear qb
    go_wp2_with fail
    have r0 : ∀ u v, ((w2.setCell ⟨w.heap.size + 1 + 1, 0, none⟩ u).setCell ⟨w.heap.size + 1 + 1, 1, none⟩ v).cell? ⟨w.heap.size + 1 + 1, 0, none⟩ = some u := fun u v => set_fst c20
    have r1 : ∀ u v, ((w2.setCell ⟨w.heap.size + 1 + 1, 0, none⟩ u).setCell ⟨w.heap.size + 1 + 1, 1, none⟩ v).cell? ⟨w.heap.size + 1 + 1, 1, none⟩ = some v := fun u v => set_snd c21
    refine bodyPost_ret (by simp [results, Try.results62, r0, r1, go_sem]; try rfl) rfl ?_
    exact ⟨rt_u rfl rfl, (below_st2 HB.out (by omega))⟩
theorem rhalf_any (v : Int) (h0 : -9223372036854775808 ≤ v) (h1 : v ≤ 9223372036854775807) (w : World) :
    Calls Try.prog 99 #[.int .i64 v] w fun e w' => e = .returned (.int .i64 (v / 2)) ∧ w = w' := by
  rcases Int.lt_or_le v 0 with g | g
  · have e1 : v.tdiv 2 = -((-v) / 2) := by have := Int.tdiv_eq_ediv_of_nonneg (a := -v) (b := 2) (by omega); rw [Int.neg_tdiv] at this; omega
    have e2 : v.tmod 2 = -((-v) % 2) := by have := Int.tmod_eq_emod_of_nonneg (a := -v) (b := 2) (by omega); rw [Int.neg_tmod] at this; omega
    go_enter Try.func99, Try.ntmps99
    go_wp2
    all_goals go_returns
    all_goals refine ⟨rt_i ?_, rfl⟩
    all_goals first | omega | (unfold wrap64; omega)
  · go_enter Try.func99, Try.ntmps99
    go_wp2
    all_goals go_returns
    all_goals refine ⟨rt_i ?_, rfl⟩
    all_goals first | omega | (unfold wrap64; omega)
theorem rround_any (n : Int) (k : Nat) (hk : n % 64 = (k : Int)) (hn : -9223372036854775808 ≤ n ∧ n ≤ 9223372036854775807) (w : World) :
    Calls Try.prog 88 #[.int .i64 n] w fun e w' => e = .returned (.int .i64 (k : Int)) ∧ w = w' := by
  rcases Int.lt_or_le n 0 with g | g
  · have e2 : n.tmod 64 = -((-n) % 64) := by have := Int.tmod_eq_emod_of_nonneg (a := -n) (b := 64) (by omega); rw [Int.neg_tmod] at this; omega
    have HK := Lib.hid hk
    clear hk
    go_enter Try.func88, Try.ntmps88
    go_wp2
    all_goals go_returns
    all_goals refine ⟨rt_i ?_, rfl⟩
    all_goals have := HK.out
    all_goals first | omega | (unfold wrap64; omega)
  · have HK := Lib.hid hk
    clear hk
    go_enter Try.func88, Try.ntmps88
    go_wp2
    all_goals go_returns
    all_goals refine ⟨rt_i ?_, rfl⟩
    all_goals have := HK.out
    all_goals first | omega | (unfold wrap64; omega)
end Go.Proofs.Ythjjfginenpfjaa
