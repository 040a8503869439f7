/-
  What the document's FromT of layer 4 tells: a contract. Conditions: no bit of the value is in the mask.
-/
import Derived.Test.YthjjfginenpfjaaSpanR3
import Derived.Test.YthjjfginenpfjaaSpanG
import Derived.Test.YthjjfginenpfjaaSpanW
import Derived.Test.YthjjfginenpfjaaSpanMath4
namespace Go.Proofs.Ythjjfginenpfjaa
open Go.RowKit Tn Ow Sp
set_option linter.unusedVariables false
set_option linter.unusedSimpArgs false
theorem two_keep {w W w2 : World} {g h r s : Nat} {y0 y1 y2 y3 : Value} (hb : Below W.heap.size W w2) (hh : W.cell? ⟨g, 0, none⟩ = some y0 ∧ W.cell? ⟨g, 1, none⟩ = some y1 ∧ W.cell? ⟨h, 0, none⟩ = some y2 ∧ W.cell? ⟨h, 1, none⟩ = some y3 ∧ W.cell? ⟨r, 0, none⟩ = some (cv W r 0) ∧ W.cell? ⟨r, 1, none⟩ = some (cv W r 1) ∧ W.frozen? ⟨r, 0, none⟩ = false ∧ W.frozen? ⟨r, 1, none⟩ = false ∧ W.cell? ⟨s, 0, none⟩ = some (cv W s 0) ∧ W.cell? ⟨s, 1, none⟩ = some (cv W s 1) ∧ W.frozen? ⟨s, 0, none⟩ = false ∧ W.frozen? ⟨s, 1, none⟩ = false ∧ Below w.heap.size w W) :
    w2.cell? ⟨g, 0, none⟩ = some y0 ∧ w2.cell? ⟨g, 1, none⟩ = some y1 ∧ w2.cell? ⟨h, 0, none⟩ = some y2 ∧ w2.cell? ⟨h, 1, none⟩ = some y3 ∧ w2.cell? ⟨r, 0, none⟩ = some (cv w2 r 0) ∧ w2.cell? ⟨r, 1, none⟩ = some (cv w2 r 1) ∧ w2.frozen? ⟨r, 0, none⟩ = false ∧ w2.frozen? ⟨r, 1, none⟩ = false ∧ w2.cell? ⟨s, 0, none⟩ = some (cv w2 s 0) ∧ w2.cell? ⟨s, 1, none⟩ = some (cv w2 s 1) ∧ w2.frozen? ⟨s, 0, none⟩ = false ∧ w2.frozen? ⟨s, 1, none⟩ = false ∧ Below w.heap.size w w2 := by
  obtain ⟨a0, a1, a2, a3, a4, a5, a6, a7, a8, a9, b0, b1, B⟩ := hh
  have hr : r < W.heap.size := World.block_lt_of_cell? W _ a4
  have hs : s < W.heap.size := World.block_lt_of_cell? W _ a8
  exact ⟨keep1 hb a0, keep1 hb a1, keep1 hb a2, keep1 hb a3, cv_some (keep1 hb a4), cv_some (keep1 hb a5), keepf hb hr a6, keepf hb hr a7, cv_some (keep1 hb a8), cv_some (keep1 hb a9), keepf hb hs b0, keepf hb hs b1, below_then B hb (Nat.le_refl _)⟩
set_option maxHeartbeats 4000000 in
set_option maxRecDepth 100000 in
theorem rfromt_any (t : T) (ht : mayT t) (w : World) :
    Calls Try.prog 72 #[.agg #[.int .u64 (bi t.v), .int .u64 (bi t.m)]] w fun e w' => e = .returned (.tuple #[.agg #[.int .u64 (fromU t).lo, .int .u64 (fromU t).hi], .agg #[.int .i64 (fromS t).lo, .int .i64 (fromS t).hi]]) ∧ Below w.heap.size w w' := by
  have h0 := bi_bd t.v
  have h1 := bi_bd t.m
  have h2 := bi_bd (t.v + t.m)
  have q0 : IntKind.u64.wrap (bi t.v + bi t.m) = bi (t.v + t.m) := biw_add _ _
  by_cases h : bi t.m < 9223372036854775808
  · have e1 := Lib.hid (show fromS t = ⟨sg (bi t.v), sg (bi (t.v + t.m))⟩ by unfold fromS; rw [if_pos h])
    rw [e1.out]
    have d1 : decide (bi t.m < 9223372036854775808) = true := decide_eq_true h
    go_enter Try.func72, Try.ntmps72
    go_wp2_with fail
    have K0 := ((((Bk.new w 38 #[.int .u64 (bi t.v), .int .u64 (bi t.m)]).alloc (.cells #[.int .u64 0, .int .u64 0] 24)).alloc (.cells #[.int .i64 0, .int .i64 0] 35)).alloc (.cells #[.int .u64 (bi t.v), .int .u64 (bi (t.v + t.m))] 24))
    have K1 := (((Bk.new (w.alloc (.cells #[.int .u64 (bi t.v), .int .u64 (bi t.m)] 38)) 24 #[.int .u64 0, .int .u64 0]).alloc (.cells #[.int .i64 0, .int .i64 0] 35)).alloc (.cells #[.int .u64 (bi t.v), .int .u64 (bi (t.v + t.m))] 24))
    rw [World.size_alloc] at K1
    have K2 := ((Bk.new ((w.alloc (.cells #[.int .u64 (bi t.v), .int .u64 (bi t.m)] 38)).alloc (.cells #[.int .u64 0, .int .u64 0] 24)) 35 #[.int .i64 0, .int .i64 0]).alloc (.cells #[.int .u64 (bi t.v), .int .u64 (bi (t.v + t.m))] 24))
    rw [World.size_alloc, World.size_alloc] at K2
    have K3 := (Bk.new (((w.alloc (.cells #[.int .u64 (bi t.v), .int .u64 (bi t.m)] 38)).alloc (.cells #[.int .u64 0, .int .u64 0] 24)).alloc (.cells #[.int .i64 0, .int .i64 0] 35)) 24 #[.int .u64 (bi t.v), .int .u64 (bi (t.v + t.m))])
    rw [World.size_alloc, World.size_alloc, World.size_alloc] at K3
    have B0 : Below w.heap.size w ((((w.alloc (.cells #[.int .u64 (bi t.v), .int .u64 (bi t.m)] 38)).alloc (.cells #[.int .u64 0, .int .u64 0] 24)).alloc (.cells #[.int .i64 0, .int .i64 0] 35)).alloc (.cells #[.int .u64 (bi t.v), .int .u64 (bi (t.v + t.m))] 24)) := by go_grown
    generalize ((((w.alloc (.cells #[.int .u64 (bi t.v), .int .u64 (bi t.m)] 38)).alloc (.cells #[.int .u64 0, .int .u64 0] 24)).alloc (.cells #[.int .i64 0, .int .i64 0] 35)).alloc (.cells #[.int .u64 (bi t.v), .int .u64 (bi (t.v + t.m))] 24)) = w0 at *
    have H0 := Lib.hid K0
    obtain ⟨c00, c01⟩ := tcells K0
    have H1 := Lib.hid K1
    obtain ⟨c10, c11⟩ := tcells K1
    have H2 := Lib.hid K2
    obtain ⟨c20, c21⟩ := tcells K2
    have H3 := Lib.hid K3
    obtain ⟨c30, c31⟩ := tcells K3
    have HB := Lib.hid B0
    clear K0 K1 K2 K3 B0
    have f0 := H1.out.frozen 0
    have f1 := H1.out.frozen 1
    have f2 := H2.out.frozen 0
    have f3 := H2.out.frozen 1
    refine wp_region_held_drew (S := fun w' => w'.cell? ⟨w.heap.size, 0, none⟩ = some (.int .u64 (bi t.v)) ∧ w'.cell? ⟨w.heap.size, 1, none⟩ = some (.int .u64 (bi t.m)) ∧ w'.cell? ⟨w.heap.size + 1 + 1 + 1, 0, none⟩ = some (.int .u64 (bi t.v)) ∧ w'.cell? ⟨w.heap.size + 1 + 1 + 1, 1, none⟩ = some (.int .u64 (bi (t.v + t.m))) ∧ w'.cell? ⟨w.heap.size + 1, 0, none⟩ = some (cv w' (w.heap.size + 1) 0) ∧ w'.cell? ⟨w.heap.size + 1, 1, none⟩ = some (cv w' (w.heap.size + 1) 1) ∧ w'.frozen? ⟨w.heap.size + 1, 0, none⟩ = false ∧ w'.frozen? ⟨w.heap.size + 1, 1, none⟩ = false ∧ w'.cell? ⟨w.heap.size + 1 + 1, 0, none⟩ = some (cv w' (w.heap.size + 1 + 1) 0) ∧ w'.cell? ⟨w.heap.size + 1 + 1, 1, none⟩ = some (cv w' (w.heap.size + 1 + 1) 1) ∧ w'.frozen? ⟨w.heap.size + 1 + 1, 0, none⟩ = false ∧ w'.frozen? ⟨w.heap.size + 1 + 1, 1, none⟩ = false ∧ Below w.heap.size w w') (by kernel_rfl) ?_ (fun hHeld => ?_)
    · exact ⟨c00, c01, c30, c31, cv_some c10, cv_some c11, f0, f1, cv_some c20, cv_some c21, f2, f3, HB.out.drew⟩
    refine wpAnyH_take (i := 0) (oi := { dst := some 13, op := Op.fieldAddr 38 (Operand.tmp 1) 1, type := 0, pos := "ref.go:265", after := #[], guard := none }) (v := ?_) rfl (by kernel_rfl) (by kernel_rfl) (by kernel_rfl) (fun _ _ _ h => h) (Or.inl ⟨by rfl, ?_⟩) hHeld ?_
    rotate_left
    · intro w9 hSw
      try dsimp only at hSw
      go_simp
      try with_reducible rfl
    try simp only [Act.put, List.setIfInBounds_toArray, List.set_cons_zero, List.set_cons_succ]
    refine wpAnyH_take (i := 1) (oi := { dst := some 14, op := Op.load 22 (Operand.tmp 13), type := 22, pos := "ref.go:265", after := #[{ on := 0, ground := Ground.data }], guard := none }) (v := ?_) rfl (by kernel_rfl) (by kernel_rfl) (by kernel_rfl) (fun _ _ _ h => h) (Or.inl ⟨by rfl, ?_⟩) hHeld ?_
    rotate_left
    · intro w9 hSw
      try dsimp only at hSw
      go_simp
      try with_reducible rfl
    try simp only [Act.put, List.setIfInBounds_toArray, List.set_cons_zero, List.set_cons_succ]
    refine wpAnyH_ready (rs := [2]) (by kernel_rfl) (by simp) ?_
    refine AllReadyH.cons (o := { dst := some 15, op := Op.call { callee := Callee.value (Operand.func 89), args := #[], argTypes := #[] }, type := 22, pos := "ref.go:265", after := #[], guard := none }) rfl (fun K hK => ?_) AllReadyH.nil
    go_simp
    (go_at_call 89; with_reducible refine (rtop_to _).mono ?_; rintro e z1 ⟨rfl, qb⟩)
    refine hK.out _ _ ?_ (fun g1 => ?_)
    · exact two_keep qb hHeld
    clear hK K qb
    skip
    try simp only [Act.put, List.setIfInBounds_toArray, List.set_cons_zero, List.set_cons_succ]
    refine wpAnyH_take (i := 3) (oi := { dst := some 16, op := Op.binOp BinOp.lss 22 (Operand.tmp 14) (Operand.tmp 15) 22, type := 4, pos := "ref.go:265", after := #[{ on := 1, ground := Ground.data }, { on := 2, ground := Ground.data }], guard := none }) (v := ?_) rfl (by kernel_rfl) (by kernel_rfl) (by kernel_rfl) (fun _ _ _ h => h) (Or.inl ⟨by rfl, ?_⟩) g1 ?_
    rotate_left
    · intro w9 hSw
      try dsimp only at hSw
      go_simp
      try with_reducible rfl
    try simp only [Act.put, List.setIfInBounds_toArray, List.set_cons_zero, List.set_cons_succ]
    refine wpAnyH_done (by kernel_rfl) ?_ _
    have KA := Lib.hid g1
    clear g1 c00 c01 c30 c31 c10 c11 c20 c21 f0 f1 f2 f3 HB H0 H1 H2 H3
    obtain ⟨c00, c01, c30, c31, c10, c11, f0, f1, c20, c21, f2, f3, HB0⟩ := KA.out
    have HB := Lib.hid HB0
    clear HB0 KA
    generalize z1 = y1 at *
    go_wp2_with fail
    go_region
    go_wp2_with fail
    have r0 : ∀ u v p x, ((((y1.setCell ⟨w.heap.size + 1, 0, none⟩ u).setCell ⟨w.heap.size + 1, 1, none⟩ v).setCell ⟨w.heap.size + 1 + 1, 0, none⟩ p).setCell ⟨w.heap.size + 1 + 1, 1, none⟩ x).drew.cell? ⟨w.heap.size + 1, 0, none⟩ = some u := fun u v p x => (cell_set2 (by omega)).trans (set_fst c10)
    have r1 : ∀ u v p x, ((((y1.setCell ⟨w.heap.size + 1, 0, none⟩ u).setCell ⟨w.heap.size + 1, 1, none⟩ v).setCell ⟨w.heap.size + 1 + 1, 0, none⟩ p).setCell ⟨w.heap.size + 1 + 1, 1, none⟩ x).drew.cell? ⟨w.heap.size + 1, 1, none⟩ = some v := fun u v p x => (cell_set2 (by omega)).trans (set_snd c11)
    have r2 : ∀ u v p x, ((((y1.setCell ⟨w.heap.size + 1, 0, none⟩ u).setCell ⟨w.heap.size + 1, 1, none⟩ v).setCell ⟨w.heap.size + 1 + 1, 0, none⟩ p).setCell ⟨w.heap.size + 1 + 1, 1, none⟩ x).drew.cell? ⟨w.heap.size + 1 + 1, 0, none⟩ = some p := fun u v p x => set_fst ((cell_set2 (by omega)).trans c20)
    have r3 : ∀ u v p x, ((((y1.setCell ⟨w.heap.size + 1, 0, none⟩ u).setCell ⟨w.heap.size + 1, 1, none⟩ v).setCell ⟨w.heap.size + 1 + 1, 0, none⟩ p).setCell ⟨w.heap.size + 1 + 1, 1, none⟩ x).drew.cell? ⟨w.heap.size + 1 + 1, 1, none⟩ = some x := fun u v p x => set_snd ((cell_set2 (by omega)).trans c21)
    refine bodyPost_ret (by simp [results, Try.results72, r0, r1, r2, r3, go_sem]; try rfl) rfl ?_
    exact ⟨rt_us rfl rfl (sg_wrap _ h0.1 h0.2) (sg_wrap _ h2.1 h2.2), (below_st2 (below_st2 HB.out (by omega)) (by omega)).drew⟩
  · have e1 := Lib.hid (show fromS t = ⟨sg (bi (t.v ||| hib)), sg (bi ((t.v + t.m) &&& ~~~hib))⟩ by unfold fromS; rw [if_neg h])
    rw [e1.out]
    have d1 : decide (bi t.m < 9223372036854775808) = false := decide_eq_false h
    have F := from_ref ht (by omega)
    have V := may_top ht (by omega)
    have A := top_add ht
    have S1 := Lib.hid (show wrap64 (bi t.v + 9223372036854775808) = sg (bi (t.v ||| hib)) by rw [F.1]; exact sg_wrap _ (by omega) (by omega))
    have S2 := Lib.hid (show wrap64 (bi t.v + (bi t.m - 9223372036854775808)) = sg (bi ((t.v + t.m) &&& ~~~hib)) by rw [F.2]; exact sg_wrap _ (by omega) (by omega))
    have s1 : IntKind.u64.wrap (bi t.v + 9223372036854775808) = bi t.v + 9223372036854775808 := wru _ (by omega) (by omega)
    have s2 : IntKind.u64.wrap (bi t.m - 9223372036854775808) = bi t.m - 9223372036854775808 := wru _ (by omega) (by omega)
    have s3 : IntKind.u64.wrap (bi t.v + (bi t.m - 9223372036854775808)) = bi t.v + (bi t.m - 9223372036854775808) := wru _ (by omega) (by omega)
    have s4 : IntKind.i64.wrap (bi t.v + 9223372036854775808) = wrap64 (bi t.v + 9223372036854775808) := IntWalk.i64_left _
    have s5 : IntKind.i64.wrap (bi t.v + (bi t.m - 9223372036854775808)) = wrap64 (bi t.v + (bi t.m - 9223372036854775808)) := IntWalk.i64_left _
    clear F V A
    go_enter Try.func72, Try.ntmps72
    go_wp2_with fail
    have K0 := ((((Bk.new w 38 #[.int .u64 (bi t.v), .int .u64 (bi t.m)]).alloc (.cells #[.int .u64 0, .int .u64 0] 24)).alloc (.cells #[.int .i64 0, .int .i64 0] 35)).alloc (.cells #[.int .u64 (bi t.v), .int .u64 (bi (t.v + t.m))] 24))
    have K1 := (((Bk.new (w.alloc (.cells #[.int .u64 (bi t.v), .int .u64 (bi t.m)] 38)) 24 #[.int .u64 0, .int .u64 0]).alloc (.cells #[.int .i64 0, .int .i64 0] 35)).alloc (.cells #[.int .u64 (bi t.v), .int .u64 (bi (t.v + t.m))] 24))
    rw [World.size_alloc] at K1
    have K2 := ((Bk.new ((w.alloc (.cells #[.int .u64 (bi t.v), .int .u64 (bi t.m)] 38)).alloc (.cells #[.int .u64 0, .int .u64 0] 24)) 35 #[.int .i64 0, .int .i64 0]).alloc (.cells #[.int .u64 (bi t.v), .int .u64 (bi (t.v + t.m))] 24))
    rw [World.size_alloc, World.size_alloc] at K2
    have K3 := (Bk.new (((w.alloc (.cells #[.int .u64 (bi t.v), .int .u64 (bi t.m)] 38)).alloc (.cells #[.int .u64 0, .int .u64 0] 24)).alloc (.cells #[.int .i64 0, .int .i64 0] 35)) 24 #[.int .u64 (bi t.v), .int .u64 (bi (t.v + t.m))])
    rw [World.size_alloc, World.size_alloc, World.size_alloc] at K3
    have B0 : Below w.heap.size w ((((w.alloc (.cells #[.int .u64 (bi t.v), .int .u64 (bi t.m)] 38)).alloc (.cells #[.int .u64 0, .int .u64 0] 24)).alloc (.cells #[.int .i64 0, .int .i64 0] 35)).alloc (.cells #[.int .u64 (bi t.v), .int .u64 (bi (t.v + t.m))] 24)) := by go_grown
    generalize ((((w.alloc (.cells #[.int .u64 (bi t.v), .int .u64 (bi t.m)] 38)).alloc (.cells #[.int .u64 0, .int .u64 0] 24)).alloc (.cells #[.int .i64 0, .int .i64 0] 35)).alloc (.cells #[.int .u64 (bi t.v), .int .u64 (bi (t.v + t.m))] 24)) = w0 at *
    have H0 := Lib.hid K0
    obtain ⟨c00, c01⟩ := tcells K0
    have H1 := Lib.hid K1
    obtain ⟨c10, c11⟩ := tcells K1
    have H2 := Lib.hid K2
    obtain ⟨c20, c21⟩ := tcells K2
    have H3 := Lib.hid K3
    obtain ⟨c30, c31⟩ := tcells K3
    have HB := Lib.hid B0
    clear K0 K1 K2 K3 B0
    have f0 := H1.out.frozen 0
    have f1 := H1.out.frozen 1
    have f2 := H2.out.frozen 0
    have f3 := H2.out.frozen 1
    refine wp_region_held_drew (S := fun w' => w'.cell? ⟨w.heap.size, 0, none⟩ = some (.int .u64 (bi t.v)) ∧ w'.cell? ⟨w.heap.size, 1, none⟩ = some (.int .u64 (bi t.m)) ∧ w'.cell? ⟨w.heap.size + 1 + 1 + 1, 0, none⟩ = some (.int .u64 (bi t.v)) ∧ w'.cell? ⟨w.heap.size + 1 + 1 + 1, 1, none⟩ = some (.int .u64 (bi (t.v + t.m))) ∧ w'.cell? ⟨w.heap.size + 1, 0, none⟩ = some (cv w' (w.heap.size + 1) 0) ∧ w'.cell? ⟨w.heap.size + 1, 1, none⟩ = some (cv w' (w.heap.size + 1) 1) ∧ w'.frozen? ⟨w.heap.size + 1, 0, none⟩ = false ∧ w'.frozen? ⟨w.heap.size + 1, 1, none⟩ = false ∧ w'.cell? ⟨w.heap.size + 1 + 1, 0, none⟩ = some (cv w' (w.heap.size + 1 + 1) 0) ∧ w'.cell? ⟨w.heap.size + 1 + 1, 1, none⟩ = some (cv w' (w.heap.size + 1 + 1) 1) ∧ w'.frozen? ⟨w.heap.size + 1 + 1, 0, none⟩ = false ∧ w'.frozen? ⟨w.heap.size + 1 + 1, 1, none⟩ = false ∧ Below w.heap.size w w') (by kernel_rfl) ?_ (fun hHeld => ?_)
    · exact ⟨c00, c01, c30, c31, cv_some c10, cv_some c11, f0, f1, cv_some c20, cv_some c21, f2, f3, HB.out.drew⟩
    refine wpAnyH_take (i := 0) (oi := { dst := some 13, op := Op.fieldAddr 38 (Operand.tmp 1) 1, type := 0, pos := "ref.go:265", after := #[], guard := none }) (v := ?_) rfl (by kernel_rfl) (by kernel_rfl) (by kernel_rfl) (fun _ _ _ h => h) (Or.inl ⟨by rfl, ?_⟩) hHeld ?_
    rotate_left
    · intro w9 hSw
      try dsimp only at hSw
      go_simp
      try with_reducible rfl
    try simp only [Act.put, List.setIfInBounds_toArray, List.set_cons_zero, List.set_cons_succ]
    refine wpAnyH_take (i := 1) (oi := { dst := some 14, op := Op.load 22 (Operand.tmp 13), type := 22, pos := "ref.go:265", after := #[{ on := 0, ground := Ground.data }], guard := none }) (v := ?_) rfl (by kernel_rfl) (by kernel_rfl) (by kernel_rfl) (fun _ _ _ h => h) (Or.inl ⟨by rfl, ?_⟩) hHeld ?_
    rotate_left
    · intro w9 hSw
      try dsimp only at hSw
      go_simp
      try with_reducible rfl
    try simp only [Act.put, List.setIfInBounds_toArray, List.set_cons_zero, List.set_cons_succ]
    refine wpAnyH_ready (rs := [2]) (by kernel_rfl) (by simp) ?_
    refine AllReadyH.cons (o := { dst := some 15, op := Op.call { callee := Callee.value (Operand.func 89), args := #[], argTypes := #[] }, type := 22, pos := "ref.go:265", after := #[], guard := none }) rfl (fun K hK => ?_) AllReadyH.nil
    go_simp
    (go_at_call 89; with_reducible refine (rtop_to _).mono ?_; rintro e z1 ⟨rfl, qb⟩)
    refine hK.out _ _ ?_ (fun g1 => ?_)
    · exact two_keep qb hHeld
    clear hK K qb
    skip
    try simp only [Act.put, List.setIfInBounds_toArray, List.set_cons_zero, List.set_cons_succ]
    refine wpAnyH_take (i := 3) (oi := { dst := some 16, op := Op.binOp BinOp.lss 22 (Operand.tmp 14) (Operand.tmp 15) 22, type := 4, pos := "ref.go:265", after := #[{ on := 1, ground := Ground.data }, { on := 2, ground := Ground.data }], guard := none }) (v := ?_) rfl (by kernel_rfl) (by kernel_rfl) (by kernel_rfl) (fun _ _ _ h => h) (Or.inl ⟨by rfl, ?_⟩) g1 ?_
    rotate_left
    · intro w9 hSw
      try dsimp only at hSw
      go_simp
      try with_reducible rfl
    try simp only [Act.put, List.setIfInBounds_toArray, List.set_cons_zero, List.set_cons_succ]
    refine wpAnyH_done (by kernel_rfl) ?_ _
    have KA := Lib.hid g1
    clear g1 c00 c01 c30 c31 c10 c11 c20 c21 f0 f1 f2 f3 HB H0 H1 H2 H3
    obtain ⟨c00, c01, c30, c31, c10, c11, f0, f1, c20, c21, f2, f3, HB0⟩ := KA.out
    have HB := Lib.hid HB0
    clear HB0 KA
    generalize z1 = y1 at *
    go_wp2_with fail
    refine wp_region_held_drew (S := fun w' => w'.cell? ⟨w.heap.size, 0, none⟩ = some (.int .u64 (bi t.v)) ∧ w'.cell? ⟨w.heap.size, 1, none⟩ = some (.int .u64 (bi t.m)) ∧ w'.cell? ⟨w.heap.size + 1 + 1 + 1, 0, none⟩ = some (.int .u64 (bi t.v)) ∧ w'.cell? ⟨w.heap.size + 1 + 1 + 1, 1, none⟩ = some (.int .u64 (bi (t.v + t.m))) ∧ w'.cell? ⟨w.heap.size + 1, 0, none⟩ = some (cv w' (w.heap.size + 1) 0) ∧ w'.cell? ⟨w.heap.size + 1, 1, none⟩ = some (cv w' (w.heap.size + 1) 1) ∧ w'.frozen? ⟨w.heap.size + 1, 0, none⟩ = false ∧ w'.frozen? ⟨w.heap.size + 1, 1, none⟩ = false ∧ w'.cell? ⟨w.heap.size + 1 + 1, 0, none⟩ = some (cv w' (w.heap.size + 1 + 1) 0) ∧ w'.cell? ⟨w.heap.size + 1 + 1, 1, none⟩ = some (cv w' (w.heap.size + 1 + 1) 1) ∧ w'.frozen? ⟨w.heap.size + 1 + 1, 0, none⟩ = false ∧ w'.frozen? ⟨w.heap.size + 1 + 1, 1, none⟩ = false ∧ Below w.heap.size w w') (by kernel_rfl) ?_ (fun hHeld => ?_)
    · exact ⟨c00, c01, c30, c31, cv_some c10, cv_some c11, f0, f1, cv_some c20, cv_some c21, f2, f3, HB.out.drew⟩
    refine wpAnyH_take (i := 0) (oi := { dst := some 25, op := Op.load 24 (Operand.tmp 4), type := 24, pos := "ref.go:268", after := #[], guard := none }) (v := ?_) rfl (by kernel_rfl) (by kernel_rfl) (by kernel_rfl) (fun _ _ _ h => h) (Or.inl ⟨by rfl, ?_⟩) hHeld ?_
    rotate_left
    · intro w9 hSw
      try dsimp only at hSw
      go_simp
      try with_reducible rfl
    try simp only [Act.put, List.setIfInBounds_toArray, List.set_cons_zero, List.set_cons_succ]
    refine wpAnyH_take (i := 1) (oi := { dst := some 26, op := Op.fieldAddr 38 (Operand.tmp 1) 0, type := 0, pos := "ref.go:268", after := #[{ on := 15, ground := Ground.gcOnly Departure.lateStores }], guard := none }) (v := ?_) rfl (by kernel_rfl) (by kernel_rfl) (by kernel_rfl) (fun _ _ _ h => h) (Or.inl ⟨by rfl, ?_⟩) hHeld ?_
    rotate_left
    · intro w9 hSw
      try dsimp only at hSw
      go_simp
      try with_reducible rfl
    try simp only [Act.put, List.setIfInBounds_toArray, List.set_cons_zero, List.set_cons_succ]
    refine wpAnyH_take (i := 2) (oi := { dst := some 27, op := Op.load 22 (Operand.tmp 26), type := 22, pos := "ref.go:268", after := #[{ on := 1, ground := Ground.data }, { on := 15, ground := Ground.gcOnly Departure.lateStores }], guard := none }) (v := ?_) rfl (by kernel_rfl) (by kernel_rfl) (by kernel_rfl) (fun _ _ _ h => h) (Or.inl ⟨by rfl, ?_⟩) hHeld ?_
    rotate_left
    · intro w9 hSw
      try dsimp only at hSw
      go_simp
      try with_reducible rfl
    try simp only [Act.put, List.setIfInBounds_toArray, List.set_cons_zero, List.set_cons_succ]
    refine wpAnyH_take (i := 6) (oi := { dst := some 31, op := Op.fieldAddr 38 (Operand.tmp 1) 0, type := 0, pos := "ref.go:268", after := #[{ on := 15, ground := Ground.gcOnly Departure.lateStores }], guard := none }) (v := ?_) rfl (by kernel_rfl) (by kernel_rfl) (by kernel_rfl) (fun _ _ _ h => h) (Or.inl ⟨by rfl, ?_⟩) hHeld ?_
    rotate_left
    · intro w9 hSw
      try dsimp only at hSw
      go_simp
      try with_reducible rfl
    try simp only [Act.put, List.setIfInBounds_toArray, List.set_cons_zero, List.set_cons_succ]
    refine wpAnyH_take (i := 7) (oi := { dst := some 32, op := Op.load 22 (Operand.tmp 31), type := 22, pos := "ref.go:268", after := #[{ on := 6, ground := Ground.data }, { on := 15, ground := Ground.gcOnly Departure.lateStores }], guard := none }) (v := ?_) rfl (by kernel_rfl) (by kernel_rfl) (by kernel_rfl) (fun _ _ _ h => h) (Or.inl ⟨by rfl, ?_⟩) hHeld ?_
    rotate_left
    · intro w9 hSw
      try dsimp only at hSw
      go_simp
      try with_reducible rfl
    try simp only [Act.put, List.setIfInBounds_toArray, List.set_cons_zero, List.set_cons_succ]
    refine wpAnyH_take (i := 8) (oi := { dst := some 33, op := Op.fieldAddr 38 (Operand.tmp 1) 1, type := 0, pos := "ref.go:268", after := #[{ on := 15, ground := Ground.gcOnly Departure.lateStores }], guard := none }) (v := ?_) rfl (by kernel_rfl) (by kernel_rfl) (by kernel_rfl) (fun _ _ _ h => h) (Or.inl ⟨by rfl, ?_⟩) hHeld ?_
    rotate_left
    · intro w9 hSw
      try dsimp only at hSw
      go_simp
      try with_reducible rfl
    try simp only [Act.put, List.setIfInBounds_toArray, List.set_cons_zero, List.set_cons_succ]
    refine wpAnyH_take (i := 9) (oi := { dst := some 34, op := Op.load 22 (Operand.tmp 33), type := 22, pos := "ref.go:268", after := #[{ on := 8, ground := Ground.data }, { on := 15, ground := Ground.gcOnly Departure.lateStores }], guard := none }) (v := ?_) rfl (by kernel_rfl) (by kernel_rfl) (by kernel_rfl) (fun _ _ _ h => h) (Or.inl ⟨by rfl, ?_⟩) hHeld ?_
    rotate_left
    · intro w9 hSw
      try dsimp only at hSw
      go_simp
      try with_reducible rfl
    try simp only [Act.put, List.setIfInBounds_toArray, List.set_cons_zero, List.set_cons_succ]
    refine wpAnyH_ready (rs := [3]) (by kernel_rfl) (by simp) ?_
    refine AllReadyH.cons (o := { dst := some 28, op := Op.call { callee := Callee.value (Operand.func 89), args := #[], argTypes := #[] }, type := 22, pos := "ref.go:268", after := #[], guard := none }) rfl (fun K hK => ?_) AllReadyH.nil
    go_simp
    (go_at_call 89; with_reducible refine (rtop_to _).mono ?_; rintro e z1 ⟨rfl, qb⟩)
    refine hK.out _ _ ?_ (fun g1 => ?_)
    · exact two_keep qb hHeld
    clear hK K qb
    skip
    try simp only [Act.put, List.setIfInBounds_toArray, List.set_cons_zero, List.set_cons_succ]
    refine wpAnyH_take (i := 4) (oi := { dst := some 29, op := Op.binOp BinOp.add 22 (Operand.tmp 27) (Operand.tmp 28) 22, type := 22, pos := "ref.go:268", after := #[{ on := 2, ground := Ground.data }, { on := 3, ground := Ground.data }, { on := 15, ground := Ground.gcOnly Departure.lateStores }], guard := none }) (v := ?_) rfl (by kernel_rfl) (by kernel_rfl) (by kernel_rfl) (fun _ _ _ h => h) (Or.inl ⟨by rfl, ?_⟩) g1 ?_
    rotate_left
    · intro w9 hSw
      try dsimp only at hSw
      go_simp
      try with_reducible rfl
    try simp only [Act.put, List.setIfInBounds_toArray, List.set_cons_zero, List.set_cons_succ]
    refine wpAnyH_take (i := 5) (oi := { dst := some 30, op := Op.convert 22 2 (Operand.tmp 29), type := 2, pos := "ref.go:268", after := #[{ on := 4, ground := Ground.data }, { on := 15, ground := Ground.gcOnly Departure.lateStores }], guard := none }) (v := ?_) rfl (by kernel_rfl) (by kernel_rfl) (by kernel_rfl) (fun _ _ _ h => h) (Or.inl ⟨by rfl, ?_⟩) g1 ?_
    rotate_left
    · intro w9 hSw
      try dsimp only at hSw
      go_simp
      try with_reducible rfl
    try simp only [Act.put, List.setIfInBounds_toArray, List.set_cons_zero, List.set_cons_succ]
    refine wpAnyH_ready (rs := [10]) (by kernel_rfl) (by simp) ?_
    refine AllReadyH.cons (o := { dst := some 35, op := Op.call { callee := Callee.value (Operand.func 89), args := #[], argTypes := #[] }, type := 22, pos := "ref.go:268", after := #[{ on := 3, ground := Ground.chain }], guard := none }) rfl (fun K hK => ?_) AllReadyH.nil
    go_simp
    (go_at_call 89; with_reducible refine (rtop_to _).mono ?_; rintro e z2 ⟨rfl, qb⟩)
    refine hK.out _ _ ?_ (fun g2 => ?_)
    · exact two_keep qb g1
    clear hK K qb
    clear g1
    try simp only [Act.put, List.setIfInBounds_toArray, List.set_cons_zero, List.set_cons_succ]
    refine wpAnyH_take (i := 11) (oi := { dst := some 36, op := Op.binOp BinOp.sub 22 (Operand.tmp 34) (Operand.tmp 35) 22, type := 22, pos := "ref.go:268", after := #[{ on := 9, ground := Ground.data }, { on := 10, ground := Ground.data }, { on := 15, ground := Ground.gcOnly Departure.lateStores }], guard := none }) (v := ?_) rfl (by kernel_rfl) (by kernel_rfl) (by kernel_rfl) (fun _ _ _ h => h) (Or.inl ⟨by rfl, ?_⟩) g2 ?_
    rotate_left
    · intro w9 hSw
      try dsimp only at hSw
      go_simp
      try with_reducible rfl
    try simp only [Act.put, List.setIfInBounds_toArray, List.set_cons_zero, List.set_cons_succ]
    refine wpAnyH_take (i := 12) (oi := { dst := some 37, op := Op.binOp BinOp.add 22 (Operand.tmp 32) (Operand.tmp 36) 22, type := 22, pos := "ref.go:268", after := #[{ on := 7, ground := Ground.data }, { on := 11, ground := Ground.data }, { on := 15, ground := Ground.gcOnly Departure.lateStores }], guard := none }) (v := ?_) rfl (by kernel_rfl) (by kernel_rfl) (by kernel_rfl) (fun _ _ _ h => h) (Or.inl ⟨by rfl, ?_⟩) g2 ?_
    rotate_left
    · intro w9 hSw
      try dsimp only at hSw
      go_simp
      try with_reducible rfl
    try simp only [Act.put, List.setIfInBounds_toArray, List.set_cons_zero, List.set_cons_succ]
    refine wpAnyH_take (i := 13) (oi := { dst := some 38, op := Op.convert 22 2 (Operand.tmp 37), type := 2, pos := "ref.go:268", after := #[{ on := 12, ground := Ground.data }, { on := 15, ground := Ground.gcOnly Departure.lateStores }], guard := none }) (v := ?_) rfl (by kernel_rfl) (by kernel_rfl) (by kernel_rfl) (fun _ _ _ h => h) (Or.inl ⟨by rfl, ?_⟩) g2 ?_
    rotate_left
    · intro w9 hSw
      try dsimp only at hSw
      go_simp
      try with_reducible rfl
    try simp only [Act.put, List.setIfInBounds_toArray, List.set_cons_zero, List.set_cons_succ]
    refine wpAnyH_take (i := 14) (oi := { dst := some 39, op := Op.build 35 #[(0, Operand.tmp 30), (1, Operand.tmp 38)], type := 35, pos := "ref.go:268", after := #[{ on := 5, ground := Ground.data }, { on := 13, ground := Ground.data }, { on := 15, ground := Ground.gcOnly Departure.lateStores }], guard := none }) (v := ?_) rfl (by kernel_rfl) (by kernel_rfl) (by kernel_rfl) (fun _ _ _ h => h) (Or.inl ⟨by rfl, ?_⟩) g2 ?_
    rotate_left
    · intro w9 hSw
      try dsimp only at hSw
      go_simp
      try with_reducible rfl
    try simp only [Act.put, List.setIfInBounds_toArray, List.set_cons_zero, List.set_cons_succ]
    refine wpAnyH_ready (rs := [15]) (by kernel_rfl) (by simp) ?_
    refine AllReadyH.cons (o := { dst := none, op := Op.store 24 (Operand.tmp 2) (Operand.tmp 25), type := 0, pos := "ref.go:268", after := #[{ on := 0, ground := Ground.data }, { on := 10, ground := Ground.chain }, { on := 0, ground := Ground.phase }, { on := 1, ground := Ground.textOnly Departure.lateStores }, { on := 2, ground := Ground.textOnly Departure.lateStores }, { on := 3, ground := Ground.textOnly Departure.lateStoresUnsure }, { on := 4, ground := Ground.textOnly Departure.lateStores }, { on := 5, ground := Ground.textOnly Departure.lateStores }, { on := 6, ground := Ground.textOnly Departure.lateStores }, { on := 7, ground := Ground.textOnly Departure.lateStores }, { on := 8, ground := Ground.textOnly Departure.lateStores }, { on := 9, ground := Ground.textOnly Departure.lateStores }, { on := 10, ground := Ground.textOnly Departure.lateStoresUnsure }, { on := 11, ground := Ground.textOnly Departure.lateStores }, { on := 12, ground := Ground.textOnly Departure.lateStores }, { on := 13, ground := Ground.textOnly Departure.lateStores }, { on := 14, ground := Ground.textOnly Departure.lateStores }], guard := none }) rfl (fun K hK => ?_) AllReadyH.nil
    have HK := Lib.hid g2
    have hcp := g2
    obtain ⟨e0, e2, e3, e4, e5, e6, e7, e8, e9, d2, d3, d4, BB⟩ := hcp
    go_simp
    refine hK.out _ _ ?_ (fun g3 => ?_)
    · exact two_r (by omega) (by omega) (by omega) (by omega) g2
    clear hK K e0 e2 e3 e4 e5 e6 e7 e8 e9 d2 d3 d4 BB
    clear g2
    try simp only [Act.put, List.setIfInBounds_toArray, List.set_cons_zero, List.set_cons_succ]
    refine wpAnyH_ready (rs := [16]) (by kernel_rfl) (by simp) ?_
    refine AllReadyH.cons (o := { dst := none, op := Op.store 35 (Operand.tmp 3) (Operand.tmp 39), type := 0, pos := "ref.go:268", after := #[{ on := 14, ground := Ground.data }, { on := 15, ground := Ground.chain }, { on := 0, ground := Ground.phase }, { on := 1, ground := Ground.phase }, { on := 2, ground := Ground.phase }, { on := 3, ground := Ground.phase }, { on := 4, ground := Ground.phase }, { on := 5, ground := Ground.phase }, { on := 6, ground := Ground.phase }, { on := 7, ground := Ground.phase }, { on := 8, ground := Ground.phase }, { on := 9, ground := Ground.phase }, { on := 10, ground := Ground.phase }, { on := 11, ground := Ground.phase }, { on := 12, ground := Ground.phase }, { on := 13, ground := Ground.phase }, { on := 14, ground := Ground.phase }, { on := 15, ground := Ground.phase }], guard := none }) rfl (fun K hK => ?_) AllReadyH.nil
    have hcp := g3
    obtain ⟨e0, e2, e3, e4, e5, e6, e7, e8, e9, d2, d3, d4, BB⟩ := hcp
    go_simp
    refine hK.out _ _ ?_ (fun g4 => ?_)
    · exact two_s (by omega) (by omega) (by omega) (by omega) g3
    clear hK K e0 e2 e3 e4 e5 e6 e7 e8 e9 d2 d3 d4 BB
    clear g3
    try simp only [Act.put, List.setIfInBounds_toArray, List.set_cons_zero, List.set_cons_succ]
    refine wpAnyH_done (by kernel_rfl) ?_ _
    clear g4 c00 c01 c30 c31 c10 c11 c20 c21 f0 f1 f2 f3 HB
    obtain ⟨-, -, -, -, c10, c11, -, -, c20, c21, -, -, HB0⟩ := HK.out
    have HB := Lib.hid HB0
    clear HB0 HK
    go_wp2_with fail
    have r0 : ∀ u v p x, ((((z2.setCell ⟨w.heap.size + 1, 0, none⟩ u).setCell ⟨w.heap.size + 1, 1, none⟩ v).setCell ⟨w.heap.size + 1 + 1, 0, none⟩ p).setCell ⟨w.heap.size + 1 + 1, 1, none⟩ x).cell? ⟨w.heap.size + 1, 0, none⟩ = some u := fun u v p x => (cell_set2 (by omega)).trans (set_fst c10)
    have r1 : ∀ u v p x, ((((z2.setCell ⟨w.heap.size + 1, 0, none⟩ u).setCell ⟨w.heap.size + 1, 1, none⟩ v).setCell ⟨w.heap.size + 1 + 1, 0, none⟩ p).setCell ⟨w.heap.size + 1 + 1, 1, none⟩ x).cell? ⟨w.heap.size + 1, 1, none⟩ = some v := fun u v p x => (cell_set2 (by omega)).trans (set_snd c11)
    have r2 : ∀ u v p x, ((((z2.setCell ⟨w.heap.size + 1, 0, none⟩ u).setCell ⟨w.heap.size + 1, 1, none⟩ v).setCell ⟨w.heap.size + 1 + 1, 0, none⟩ p).setCell ⟨w.heap.size + 1 + 1, 1, none⟩ x).cell? ⟨w.heap.size + 1 + 1, 0, none⟩ = some p := fun u v p x => set_fst ((cell_set2 (by omega)).trans c20)
    have r3 : ∀ u v p x, ((((z2.setCell ⟨w.heap.size + 1, 0, none⟩ u).setCell ⟨w.heap.size + 1, 1, none⟩ v).setCell ⟨w.heap.size + 1 + 1, 0, none⟩ p).setCell ⟨w.heap.size + 1 + 1, 1, none⟩ x).cell? ⟨w.heap.size + 1 + 1, 1, none⟩ = some x := fun u v p x => set_snd ((cell_set2 (by omega)).trans c21)
    refine bodyPost_ret (by simp [results, Try.results72, r0, r1, r2, r3, go_sem]; try rfl) rfl ?_
    exact ⟨rt_us rfl rfl S1.out S2.out, (below_st2 (below_st2 HB.out (by omega)) (by omega))⟩
end Go.Proofs.Ythjjfginenpfjaa
