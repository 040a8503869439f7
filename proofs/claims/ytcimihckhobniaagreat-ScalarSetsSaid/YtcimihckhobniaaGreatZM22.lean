/-
  Texts of layer 5 and of those below it, put together: contracts and plain mathematics that ScalarSets needs.
-/
import Derived.Test.YtcimihckhobniaaGreatZM1
import Derived.Test.YtcimihckhobniaaGreatZM20
import Derived.Test.YtcimihckhobniaaGreatZM4
import Derived.Test.YtcimihckhobniaaGreatZM21
import Derived.Test.YtcimihckhobniaaGreatZM0
namespace Go.Proofs.YtcimihckhobniaaGreat
open Go.RowKit Tn Ow Sp
set_option linter.unusedVariables false
set_option linter.unusedSimpArgs false
theorem two_keep {w W w2 : World} {g h r s : Nat} {y0 y1 y2 y3 : Value} (hb : Below W.heap.size W w2) (hh : W.cell? ⟨g, 0, none⟩ = some y0 ∧ W.cell? ⟨g, 1, none⟩ = some y1 ∧ W.cell? ⟨h, 0, none⟩ = some y2 ∧ W.cell? ⟨h, 1, none⟩ = some y3 ∧ W.cell? ⟨r, 0, none⟩ = some (cv W r 0) ∧ W.cell? ⟨r, 1, none⟩ = some (cv W r 1) ∧ W.frozen? ⟨r, 0, none⟩ = false ∧ W.frozen? ⟨r, 1, none⟩ = false ∧ W.cell? ⟨s, 0, none⟩ = some (cv W s 0) ∧ W.cell? ⟨s, 1, none⟩ = some (cv W s 1) ∧ W.frozen? ⟨s, 0, none⟩ = false ∧ W.frozen? ⟨s, 1, none⟩ = false ∧ Below w.heap.size w W) :
    w2.cell? ⟨g, 0, none⟩ = some y0 ∧ w2.cell? ⟨g, 1, none⟩ = some y1 ∧ w2.cell? ⟨h, 0, none⟩ = some y2 ∧ w2.cell? ⟨h, 1, none⟩ = some y3 ∧ w2.cell? ⟨r, 0, none⟩ = some (cv w2 r 0) ∧ w2.cell? ⟨r, 1, none⟩ = some (cv w2 r 1) ∧ w2.frozen? ⟨r, 0, none⟩ = false ∧ w2.frozen? ⟨r, 1, none⟩ = false ∧ w2.cell? ⟨s, 0, none⟩ = some (cv w2 s 0) ∧ w2.cell? ⟨s, 1, none⟩ = some (cv w2 s 1) ∧ w2.frozen? ⟨s, 0, none⟩ = false ∧ w2.frozen? ⟨s, 1, none⟩ = false ∧ Below w.heap.size w w2 := by
  obtain ⟨a0, a1, a2, a3, a4, a5, a6, a7, a8, a9, b0, b1, B⟩ := hh
  have hr : r < W.heap.size := World.block_lt_of_cell? W _ a4
  have hs : s < W.heap.size := World.block_lt_of_cell? W _ a8
  exact ⟨keep1 hb a0, keep1 hb a1, keep1 hb a2, keep1 hb a3, cv_some (keep1 hb a4), cv_some (keep1 hb a5), keepf hb hr a6, keepf hb hr a7, cv_some (keep1 hb a8), cv_some (keep1 hb a9), keepf hb hs b0, keepf hb hs b1, below_then B hb (Nat.le_refl _)⟩
set_option maxHeartbeats 4000000 in
set_option maxRecDepth 100000 in
theorem rfromt_any (t : T) (ht : mayT t) (w : World) :
    Calls Tryz.prog 109 #[.agg #[.int .u64 (bi t.v), .int .u64 (bi t.m)]] w fun e w' => e = .returned (.tuple #[.agg #[.int .u64 (fromU t).lo, .int .u64 (fromU t).hi], .agg #[.int .i64 (fromS t).lo, .int .i64 (fromS t).hi]]) ∧ Below w.heap.size w w' := by
  have h0 := bi_bd t.v
  have h1 := bi_bd t.m
  have h2 := bi_bd (t.v + t.m)
  have q0 : IntKind.u64.wrap (bi t.v + bi t.m) = bi (t.v + t.m) := biw_add _ _
  by_cases h : bi t.m < 9223372036854775808
  · have e1 := Lib.hid (show fromS t = ⟨sg (bi t.v), sg (bi (t.v + t.m))⟩ by unfold fromS; rw [if_pos h])
    rw [e1.out]
    have d1 : decide (bi t.m < 9223372036854775808) = true := decide_eq_true h
    go_enter Tryz.func109, Tryz.ntmps109
    go_wp2_with fail
    have K0 := ((((Bk.new w 24 #[.int .u64 (bi t.v), .int .u64 (bi t.m)]).alloc (.cells #[.int .u64 0, .int .u64 0] 26)).alloc (.cells #[.int .i64 0, .int .i64 0] 28)).alloc (.cells #[.int .u64 (bi t.v), .int .u64 (bi (t.v + t.m))] 26))
    have K1 := (((Bk.new (w.alloc (.cells #[.int .u64 (bi t.v), .int .u64 (bi t.m)] 24)) 26 #[.int .u64 0, .int .u64 0]).alloc (.cells #[.int .i64 0, .int .i64 0] 28)).alloc (.cells #[.int .u64 (bi t.v), .int .u64 (bi (t.v + t.m))] 26))
    rw [World.size_alloc] at K1
    have K2 := ((Bk.new ((w.alloc (.cells #[.int .u64 (bi t.v), .int .u64 (bi t.m)] 24)).alloc (.cells #[.int .u64 0, .int .u64 0] 26)) 28 #[.int .i64 0, .int .i64 0]).alloc (.cells #[.int .u64 (bi t.v), .int .u64 (bi (t.v + t.m))] 26))
    rw [World.size_alloc, World.size_alloc] at K2
    have K3 := (Bk.new (((w.alloc (.cells #[.int .u64 (bi t.v), .int .u64 (bi t.m)] 24)).alloc (.cells #[.int .u64 0, .int .u64 0] 26)).alloc (.cells #[.int .i64 0, .int .i64 0] 28)) 26 #[.int .u64 (bi t.v), .int .u64 (bi (t.v + t.m))])
    rw [World.size_alloc, World.size_alloc, World.size_alloc] at K3
    have B0 : Below w.heap.size w ((((w.alloc (.cells #[.int .u64 (bi t.v), .int .u64 (bi t.m)] 24)).alloc (.cells #[.int .u64 0, .int .u64 0] 26)).alloc (.cells #[.int .i64 0, .int .i64 0] 28)).alloc (.cells #[.int .u64 (bi t.v), .int .u64 (bi (t.v + t.m))] 26)) := by go_grown
    generalize ((((w.alloc (.cells #[.int .u64 (bi t.v), .int .u64 (bi t.m)] 24)).alloc (.cells #[.int .u64 0, .int .u64 0] 26)).alloc (.cells #[.int .i64 0, .int .i64 0] 28)).alloc (.cells #[.int .u64 (bi t.v), .int .u64 (bi (t.v + t.m))] 26)) = w0 at *
    have H0 := Lib.hid K0
    obtain ⟨c00, c01⟩ := tcells K0
    have H1 := Lib.hid K1
    obtain ⟨c10, c11⟩ := tcells K1
    have H2 := Lib.hid K2
    obtain ⟨c20, c21⟩ := tcells K2
    have H3 := Lib.hid K3
    obtain ⟨c30, c31⟩ := tcells K3
    have HB := Lib.hid B0
    clear K0 K1 K2 K3 B0
    have f0 := H1.out.frozen 0
    have f1 := H1.out.frozen 1
    have f2 := H2.out.frozen 0
    have f3 := H2.out.frozen 1
    refine wp_region_held_drew (S := fun w' => w'.cell? ⟨w.heap.size, 0, none⟩ = some (.int .u64 (bi t.v)) ∧ w'.cell? ⟨w.heap.size, 1, none⟩ = some (.int .u64 (bi t.m)) ∧ w'.cell? ⟨w.heap.size + 1 + 1 + 1, 0, none⟩ = some (.int .u64 (bi t.v)) ∧ w'.cell? ⟨w.heap.size + 1 + 1 + 1, 1, none⟩ = some (.int .u64 (bi (t.v + t.m))) ∧ w'.cell? ⟨w.heap.size + 1, 0, none⟩ = some (cv w' (w.heap.size + 1) 0) ∧ w'.cell? ⟨w.heap.size + 1, 1, none⟩ = some (cv w' (w.heap.size + 1) 1) ∧ w'.frozen? ⟨w.heap.size + 1, 0, none⟩ = false ∧ w'.frozen? ⟨w.heap.size + 1, 1, none⟩ = false ∧ w'.cell? ⟨w.heap.size + 1 + 1, 0, none⟩ = some (cv w' (w.heap.size + 1 + 1) 0) ∧ w'.cell? ⟨w.heap.size + 1 + 1, 1, none⟩ = some (cv w' (w.heap.size + 1 + 1) 1) ∧ w'.frozen? ⟨w.heap.size + 1 + 1, 0, none⟩ = false ∧ w'.frozen? ⟨w.heap.size + 1 + 1, 1, none⟩ = false ∧ Below w.heap.size w w') (by kernel_rfl) ?_ (fun hHeld => ?_)
    · exact ⟨c00, c01, c30, c31, cv_some c10, cv_some c11, f0, f1, cv_some c20, cv_some c21, f2, f3, HB.out.drew⟩
    refine tq 0 ?_ rfl (by kernel_rfl) (fun _ _ _ h => h) (by rfl) hHeld ?_ ?_; rotate_left
    · intro w9 hSw; (try dsimp only at hSw); go_simp; try with_reducible rfl
    try simp only [Act.put, ptA, ptB, ptC]
    refine tq 1 ?_ rfl (by kernel_rfl) (fun _ _ _ h => h) (by rfl) hHeld ?_ ?_; rotate_left
    · intro w9 hSw; (try dsimp only at hSw); go_simp; try with_reducible rfl
    try simp only [Act.put, ptA, ptB, ptC]
    refine tc 2 rfl (by kernel_rfl) (fun K hK => ?_)
    go_simp
    (go_at_call 114; with_reducible refine (rtop_to _).mono ?_; rintro e z1 ⟨rfl, qb⟩)
    refine hK.out _ _ ?_ (fun g1 => ?_)
    · exact two_keep qb hHeld
    clear hK K qb
    skip
    try simp only [Act.put, ptA, ptB, ptC]
    refine tq 3 ?_ rfl (by kernel_rfl) (fun _ _ _ h => h) (by rfl) g1 ?_ ?_; rotate_left
    · intro w9 hSw; (try dsimp only at hSw); go_simp; try with_reducible rfl
    try simp only [Act.put, ptA, ptB, ptC]
    refine wpAnyH_done (by kernel_rfl) ?_ _
    have KA := Lib.hid g1
    clear g1 c00 c01 c30 c31 c10 c11 c20 c21 f0 f1 f2 f3 HB H0 H1 H2 H3
    obtain ⟨c00, c01, c30, c31, c10, c11, f0, f1, c20, c21, f2, f3, HB0⟩ := KA.out
    have HB := Lib.hid HB0
    clear HB0 KA
    generalize z1 = y1 at *
    go_wp2_with fail
    go_region
    go_wp2_with fail
    have r0 : ∀ u v p x, ((((y1.setCell ⟨w.heap.size + 1, 0, none⟩ u).setCell ⟨w.heap.size + 1, 1, none⟩ v).setCell ⟨w.heap.size + 1 + 1, 0, none⟩ p).setCell ⟨w.heap.size + 1 + 1, 1, none⟩ x).drew.cell? ⟨w.heap.size + 1, 0, none⟩ = some u := fun u v p x => (cell_set2 (by omega)).trans (set_fst c10)
    have r1 : ∀ u v p x, ((((y1.setCell ⟨w.heap.size + 1, 0, none⟩ u).setCell ⟨w.heap.size + 1, 1, none⟩ v).setCell ⟨w.heap.size + 1 + 1, 0, none⟩ p).setCell ⟨w.heap.size + 1 + 1, 1, none⟩ x).drew.cell? ⟨w.heap.size + 1, 1, none⟩ = some v := fun u v p x => (cell_set2 (by omega)).trans (set_snd c11)
    have r2 : ∀ u v p x, ((((y1.setCell ⟨w.heap.size + 1, 0, none⟩ u).setCell ⟨w.heap.size + 1, 1, none⟩ v).setCell ⟨w.heap.size + 1 + 1, 0, none⟩ p).setCell ⟨w.heap.size + 1 + 1, 1, none⟩ x).drew.cell? ⟨w.heap.size + 1 + 1, 0, none⟩ = some p := fun u v p x => set_fst ((cell_set2 (by omega)).trans c20)
    have r3 : ∀ u v p x, ((((y1.setCell ⟨w.heap.size + 1, 0, none⟩ u).setCell ⟨w.heap.size + 1, 1, none⟩ v).setCell ⟨w.heap.size + 1 + 1, 0, none⟩ p).setCell ⟨w.heap.size + 1 + 1, 1, none⟩ x).drew.cell? ⟨w.heap.size + 1 + 1, 1, none⟩ = some x := fun u v p x => set_snd ((cell_set2 (by omega)).trans c21)
    refine bodyPost_ret (by simp [results, Tryz.results109, r0, r1, r2, r3, go_sem]; try rfl) rfl ?_
    exact ⟨rt_us rfl rfl (sg_wrap _ h0.1 h0.2) (sg_wrap _ h2.1 h2.2), (below_st2 (below_st2 HB.out (by omega)) (by omega)).drew⟩
  · have e1 := Lib.hid (show fromS t = ⟨sg (bi (t.v ||| hib)), sg (bi ((t.v + t.m) &&& ~~~hib))⟩ by unfold fromS; rw [if_neg h])
    rw [e1.out]
    have d1 : decide (bi t.m < 9223372036854775808) = false := decide_eq_false h
    have F := from_ref ht (by omega)
    have V := may_top ht (by omega)
    have A := top_add ht
    have S1 := Lib.hid (show wrap64 (bi t.v + 9223372036854775808) = sg (bi (t.v ||| hib)) by rw [F.1]; exact sg_wrap _ (by omega) (by omega))
    have S2 := Lib.hid (show wrap64 (bi t.v + (bi t.m - 9223372036854775808)) = sg (bi ((t.v + t.m) &&& ~~~hib)) by rw [F.2]; exact sg_wrap _ (by omega) (by omega))
    have s1 : IntKind.u64.wrap (bi t.v + 9223372036854775808) = bi t.v + 9223372036854775808 := wru _ (by omega) (by omega)
    have s2 : IntKind.u64.wrap (bi t.m - 9223372036854775808) = bi t.m - 9223372036854775808 := wru _ (by omega) (by omega)
    have s3 : IntKind.u64.wrap (bi t.v + (bi t.m - 9223372036854775808)) = bi t.v + (bi t.m - 9223372036854775808) := wru _ (by omega) (by omega)
    have s4 : IntKind.i64.wrap (bi t.v + 9223372036854775808) = wrap64 (bi t.v + 9223372036854775808) := IntWalk.i64_left _
    have s5 : IntKind.i64.wrap (bi t.v + (bi t.m - 9223372036854775808)) = wrap64 (bi t.v + (bi t.m - 9223372036854775808)) := IntWalk.i64_left _
    clear F V A
    go_enter Tryz.func109, Tryz.ntmps109
    go_wp2_with fail
    have K0 := ((((Bk.new w 24 #[.int .u64 (bi t.v), .int .u64 (bi t.m)]).alloc (.cells #[.int .u64 0, .int .u64 0] 26)).alloc (.cells #[.int .i64 0, .int .i64 0] 28)).alloc (.cells #[.int .u64 (bi t.v), .int .u64 (bi (t.v + t.m))] 26))
    have K1 := (((Bk.new (w.alloc (.cells #[.int .u64 (bi t.v), .int .u64 (bi t.m)] 24)) 26 #[.int .u64 0, .int .u64 0]).alloc (.cells #[.int .i64 0, .int .i64 0] 28)).alloc (.cells #[.int .u64 (bi t.v), .int .u64 (bi (t.v + t.m))] 26))
    rw [World.size_alloc] at K1
    have K2 := ((Bk.new ((w.alloc (.cells #[.int .u64 (bi t.v), .int .u64 (bi t.m)] 24)).alloc (.cells #[.int .u64 0, .int .u64 0] 26)) 28 #[.int .i64 0, .int .i64 0]).alloc (.cells #[.int .u64 (bi t.v), .int .u64 (bi (t.v + t.m))] 26))
    rw [World.size_alloc, World.size_alloc] at K2
    have K3 := (Bk.new (((w.alloc (.cells #[.int .u64 (bi t.v), .int .u64 (bi t.m)] 24)).alloc (.cells #[.int .u64 0, .int .u64 0] 26)).alloc (.cells #[.int .i64 0, .int .i64 0] 28)) 26 #[.int .u64 (bi t.v), .int .u64 (bi (t.v + t.m))])
    rw [World.size_alloc, World.size_alloc, World.size_alloc] at K3
    have B0 : Below w.heap.size w ((((w.alloc (.cells #[.int .u64 (bi t.v), .int .u64 (bi t.m)] 24)).alloc (.cells #[.int .u64 0, .int .u64 0] 26)).alloc (.cells #[.int .i64 0, .int .i64 0] 28)).alloc (.cells #[.int .u64 (bi t.v), .int .u64 (bi (t.v + t.m))] 26)) := by go_grown
    generalize ((((w.alloc (.cells #[.int .u64 (bi t.v), .int .u64 (bi t.m)] 24)).alloc (.cells #[.int .u64 0, .int .u64 0] 26)).alloc (.cells #[.int .i64 0, .int .i64 0] 28)).alloc (.cells #[.int .u64 (bi t.v), .int .u64 (bi (t.v + t.m))] 26)) = w0 at *
    have H0 := Lib.hid K0
    obtain ⟨c00, c01⟩ := tcells K0
    have H1 := Lib.hid K1
    obtain ⟨c10, c11⟩ := tcells K1
    have H2 := Lib.hid K2
    obtain ⟨c20, c21⟩ := tcells K2
    have H3 := Lib.hid K3
    obtain ⟨c30, c31⟩ := tcells K3
    have HB := Lib.hid B0
    clear K0 K1 K2 K3 B0
    have f0 := H1.out.frozen 0
    have f1 := H1.out.frozen 1
    have f2 := H2.out.frozen 0
    have f3 := H2.out.frozen 1
    refine wp_region_held_drew (S := fun w' => w'.cell? ⟨w.heap.size, 0, none⟩ = some (.int .u64 (bi t.v)) ∧ w'.cell? ⟨w.heap.size, 1, none⟩ = some (.int .u64 (bi t.m)) ∧ w'.cell? ⟨w.heap.size + 1 + 1 + 1, 0, none⟩ = some (.int .u64 (bi t.v)) ∧ w'.cell? ⟨w.heap.size + 1 + 1 + 1, 1, none⟩ = some (.int .u64 (bi (t.v + t.m))) ∧ w'.cell? ⟨w.heap.size + 1, 0, none⟩ = some (cv w' (w.heap.size + 1) 0) ∧ w'.cell? ⟨w.heap.size + 1, 1, none⟩ = some (cv w' (w.heap.size + 1) 1) ∧ w'.frozen? ⟨w.heap.size + 1, 0, none⟩ = false ∧ w'.frozen? ⟨w.heap.size + 1, 1, none⟩ = false ∧ w'.cell? ⟨w.heap.size + 1 + 1, 0, none⟩ = some (cv w' (w.heap.size + 1 + 1) 0) ∧ w'.cell? ⟨w.heap.size + 1 + 1, 1, none⟩ = some (cv w' (w.heap.size + 1 + 1) 1) ∧ w'.frozen? ⟨w.heap.size + 1 + 1, 0, none⟩ = false ∧ w'.frozen? ⟨w.heap.size + 1 + 1, 1, none⟩ = false ∧ Below w.heap.size w w') (by kernel_rfl) ?_ (fun hHeld => ?_)
    · exact ⟨c00, c01, c30, c31, cv_some c10, cv_some c11, f0, f1, cv_some c20, cv_some c21, f2, f3, HB.out.drew⟩
    refine tq 0 ?_ rfl (by kernel_rfl) (fun _ _ _ h => h) (by rfl) hHeld ?_ ?_; rotate_left
    · intro w9 hSw; (try dsimp only at hSw); go_simp; try with_reducible rfl
    try simp only [Act.put, ptA, ptB, ptC]
    refine tq 1 ?_ rfl (by kernel_rfl) (fun _ _ _ h => h) (by rfl) hHeld ?_ ?_; rotate_left
    · intro w9 hSw; (try dsimp only at hSw); go_simp; try with_reducible rfl
    try simp only [Act.put, ptA, ptB, ptC]
    refine tc 2 rfl (by kernel_rfl) (fun K hK => ?_)
    go_simp
    (go_at_call 114; with_reducible refine (rtop_to _).mono ?_; rintro e z1 ⟨rfl, qb⟩)
    refine hK.out _ _ ?_ (fun g1 => ?_)
    · exact two_keep qb hHeld
    clear hK K qb
    skip
    try simp only [Act.put, ptA, ptB, ptC]
    refine tq 3 ?_ rfl (by kernel_rfl) (fun _ _ _ h => h) (by rfl) g1 ?_ ?_; rotate_left
    · intro w9 hSw; (try dsimp only at hSw); go_simp; try with_reducible rfl
    try simp only [Act.put, ptA, ptB, ptC]
    refine wpAnyH_done (by kernel_rfl) ?_ _
    have KA := Lib.hid g1
    clear g1 c00 c01 c30 c31 c10 c11 c20 c21 f0 f1 f2 f3 HB H0 H1 H2 H3
    obtain ⟨c00, c01, c30, c31, c10, c11, f0, f1, c20, c21, f2, f3, HB0⟩ := KA.out
    have HB := Lib.hid HB0
    clear HB0 KA
    generalize z1 = y1 at *
    go_wp2_with fail
    refine wp_region_held_drew (S := fun w' => w'.cell? ⟨w.heap.size, 0, none⟩ = some (.int .u64 (bi t.v)) ∧ w'.cell? ⟨w.heap.size, 1, none⟩ = some (.int .u64 (bi t.m)) ∧ w'.cell? ⟨w.heap.size + 1 + 1 + 1, 0, none⟩ = some (.int .u64 (bi t.v)) ∧ w'.cell? ⟨w.heap.size + 1 + 1 + 1, 1, none⟩ = some (.int .u64 (bi (t.v + t.m))) ∧ w'.cell? ⟨w.heap.size + 1, 0, none⟩ = some (cv w' (w.heap.size + 1) 0) ∧ w'.cell? ⟨w.heap.size + 1, 1, none⟩ = some (cv w' (w.heap.size + 1) 1) ∧ w'.frozen? ⟨w.heap.size + 1, 0, none⟩ = false ∧ w'.frozen? ⟨w.heap.size + 1, 1, none⟩ = false ∧ w'.cell? ⟨w.heap.size + 1 + 1, 0, none⟩ = some (cv w' (w.heap.size + 1 + 1) 0) ∧ w'.cell? ⟨w.heap.size + 1 + 1, 1, none⟩ = some (cv w' (w.heap.size + 1 + 1) 1) ∧ w'.frozen? ⟨w.heap.size + 1 + 1, 0, none⟩ = false ∧ w'.frozen? ⟨w.heap.size + 1 + 1, 1, none⟩ = false ∧ Below w.heap.size w w') (by kernel_rfl) ?_ (fun hHeld => ?_)
    · exact ⟨c00, c01, c30, c31, cv_some c10, cv_some c11, f0, f1, cv_some c20, cv_some c21, f2, f3, HB.out.drew⟩
    refine tq 0 ?_ rfl (by kernel_rfl) (fun _ _ _ h => h) (by rfl) hHeld ?_ ?_; rotate_left
    · intro w9 hSw; (try dsimp only at hSw); go_simp; try with_reducible rfl
    try simp only [Act.put, ptA, ptB, ptC]
    refine tq 1 ?_ rfl (by kernel_rfl) (fun _ _ _ h => h) (by rfl) hHeld ?_ ?_; rotate_left
    · intro w9 hSw; (try dsimp only at hSw); go_simp; try with_reducible rfl
    try simp only [Act.put, ptA, ptB, ptC]
    refine tq 2 ?_ rfl (by kernel_rfl) (fun _ _ _ h => h) (by rfl) hHeld ?_ ?_; rotate_left
    · intro w9 hSw; (try dsimp only at hSw); go_simp; try with_reducible rfl
    try simp only [Act.put, ptA, ptB, ptC]
    refine tq 6 ?_ rfl (by kernel_rfl) (fun _ _ _ h => h) (by rfl) hHeld ?_ ?_; rotate_left
    · intro w9 hSw; (try dsimp only at hSw); go_simp; try with_reducible rfl
    try simp only [Act.put, ptA, ptB, ptC]
    refine tq 7 ?_ rfl (by kernel_rfl) (fun _ _ _ h => h) (by rfl) hHeld ?_ ?_; rotate_left
    · intro w9 hSw; (try dsimp only at hSw); go_simp; try with_reducible rfl
    try simp only [Act.put, ptA, ptB, ptC]
    refine tq 8 ?_ rfl (by kernel_rfl) (fun _ _ _ h => h) (by rfl) hHeld ?_ ?_; rotate_left
    · intro w9 hSw; (try dsimp only at hSw); go_simp; try with_reducible rfl
    try simp only [Act.put, ptA, ptB, ptC]
    refine tq 9 ?_ rfl (by kernel_rfl) (fun _ _ _ h => h) (by rfl) hHeld ?_ ?_; rotate_left
    · intro w9 hSw; (try dsimp only at hSw); go_simp; try with_reducible rfl
    try simp only [Act.put, ptA, ptB, ptC]
    refine tc 3 rfl (by kernel_rfl) (fun K hK => ?_)
    go_simp
    (go_at_call 114; with_reducible refine (rtop_to _).mono ?_; rintro e z1 ⟨rfl, qb⟩)
    refine hK.out _ _ ?_ (fun g1 => ?_)
    · exact two_keep qb hHeld
    clear hK K qb
    skip
    try simp only [Act.put, ptA, ptB, ptC]
    refine tq 4 ?_ rfl (by kernel_rfl) (fun _ _ _ h => h) (by rfl) g1 ?_ ?_; rotate_left
    · intro w9 hSw; (try dsimp only at hSw); go_simp; try with_reducible rfl
    try simp only [Act.put, ptA, ptB, ptC]
    refine tq 5 ?_ rfl (by kernel_rfl) (fun _ _ _ h => h) (by rfl) g1 ?_ ?_; rotate_left
    · intro w9 hSw; (try dsimp only at hSw); go_simp; try with_reducible rfl
    try simp only [Act.put, ptA, ptB, ptC]
    refine tc 10 rfl (by kernel_rfl) (fun K hK => ?_)
    go_simp
    (go_at_call 114; with_reducible refine (rtop_to _).mono ?_; rintro e z2 ⟨rfl, qb⟩)
    refine hK.out _ _ ?_ (fun g2 => ?_)
    · exact two_keep qb g1
    clear hK K qb
    clear g1
    try simp only [Act.put, ptA, ptB, ptC]
    refine tq 11 ?_ rfl (by kernel_rfl) (fun _ _ _ h => h) (by rfl) g2 ?_ ?_; rotate_left
    · intro w9 hSw; (try dsimp only at hSw); go_simp; try with_reducible rfl
    try simp only [Act.put, ptA, ptB, ptC]
    refine tq 12 ?_ rfl (by kernel_rfl) (fun _ _ _ h => h) (by rfl) g2 ?_ ?_; rotate_left
    · intro w9 hSw; (try dsimp only at hSw); go_simp; try with_reducible rfl
    try simp only [Act.put, ptA, ptB, ptC]
    refine tq 13 ?_ rfl (by kernel_rfl) (fun _ _ _ h => h) (by rfl) g2 ?_ ?_; rotate_left
    · intro w9 hSw; (try dsimp only at hSw); go_simp; try with_reducible rfl
    try simp only [Act.put, ptA, ptB, ptC]
    refine tq 14 ?_ rfl (by kernel_rfl) (fun _ _ _ h => h) (by rfl) g2 ?_ ?_; rotate_left
    · intro w9 hSw; (try dsimp only at hSw); go_simp; try with_reducible rfl
    try simp only [Act.put, ptA, ptB, ptC]
    refine tc 15 rfl (by kernel_rfl) (fun K hK => ?_)
    have HK := Lib.hid g2
    have hcp := g2
    obtain ⟨e0, e2, e3, e4, e5, e6, e7, e8, e9, d2, d3, d4, BB⟩ := hcp
    go_simp
    refine hK.out _ _ ?_ (fun g3 => ?_)
    · exact two_r (by omega) (by omega) (by omega) (by omega) g2
    clear hK K e0 e2 e3 e4 e5 e6 e7 e8 e9 d2 d3 d4 BB
    clear g2
    try simp only [Act.put, ptA, ptB, ptC]
    refine tc 16 rfl (by kernel_rfl) (fun K hK => ?_)
    have hcp := g3
    obtain ⟨e0, e2, e3, e4, e5, e6, e7, e8, e9, d2, d3, d4, BB⟩ := hcp
    go_simp
    refine hK.out _ _ ?_ (fun g4 => ?_)
    · exact two_s (by omega) (by omega) (by omega) (by omega) g3
    clear hK K e0 e2 e3 e4 e5 e6 e7 e8 e9 d2 d3 d4 BB
    clear g3
    try simp only [Act.put, ptA, ptB, ptC]
    refine wpAnyH_done (by kernel_rfl) ?_ _
    clear g4 c00 c01 c30 c31 c10 c11 c20 c21 f0 f1 f2 f3 HB
    obtain ⟨-, -, -, -, c10, c11, -, -, c20, c21, -, -, HB0⟩ := HK.out
    have HB := Lib.hid HB0
    clear HB0 HK
    go_wp2_with fail
    have r0 : ∀ u v p x, ((((z2.setCell ⟨w.heap.size + 1, 0, none⟩ u).setCell ⟨w.heap.size + 1, 1, none⟩ v).setCell ⟨w.heap.size + 1 + 1, 0, none⟩ p).setCell ⟨w.heap.size + 1 + 1, 1, none⟩ x).cell? ⟨w.heap.size + 1, 0, none⟩ = some u := fun u v p x => (cell_set2 (by omega)).trans (set_fst c10)
    have r1 : ∀ u v p x, ((((z2.setCell ⟨w.heap.size + 1, 0, none⟩ u).setCell ⟨w.heap.size + 1, 1, none⟩ v).setCell ⟨w.heap.size + 1 + 1, 0, none⟩ p).setCell ⟨w.heap.size + 1 + 1, 1, none⟩ x).cell? ⟨w.heap.size + 1, 1, none⟩ = some v := fun u v p x => (cell_set2 (by omega)).trans (set_snd c11)
    have r2 : ∀ u v p x, ((((z2.setCell ⟨w.heap.size + 1, 0, none⟩ u).setCell ⟨w.heap.size + 1, 1, none⟩ v).setCell ⟨w.heap.size + 1 + 1, 0, none⟩ p).setCell ⟨w.heap.size + 1 + 1, 1, none⟩ x).cell? ⟨w.heap.size + 1 + 1, 0, none⟩ = some p := fun u v p x => set_fst ((cell_set2 (by omega)).trans c20)
    have r3 : ∀ u v p x, ((((z2.setCell ⟨w.heap.size + 1, 0, none⟩ u).setCell ⟨w.heap.size + 1, 1, none⟩ v).setCell ⟨w.heap.size + 1 + 1, 0, none⟩ p).setCell ⟨w.heap.size + 1 + 1, 1, none⟩ x).cell? ⟨w.heap.size + 1 + 1, 1, none⟩ = some x := fun u v p x => set_snd ((cell_set2 (by omega)).trans c21)
    refine bodyPost_ret (by simp [results, Tryz.results109, r0, r1, r2, r3, go_sem]; try rfl) rfl ?_
    exact ⟨rt_us rfl rfl S1.out S2.out, (below_st2 (below_st2 HB.out (by omega)) (by omega))⟩
end Go.Proofs.YtcimihckhobniaaGreat
namespace Go.Proofs.YtcimihckhobniaaGreat
open Go.RowKit Tn Ow Sp
set_option linter.unusedVariables false
set_option linter.unusedSimpArgs false
end Go.Proofs.YtcimihckhobniaaGreat
namespace Go.Proofs.YtcimihckhobniaaGreat
open Go.RowKit Tn Ow Sp
set_option linter.unusedVariables false
set_option linter.unusedSimpArgs false
end Go.Proofs.YtcimihckhobniaaGreat
