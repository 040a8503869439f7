/-
  Proved: the statement TnumWithin: within is inclusion: where a tnum is within another, each number of it is of the other; where it is not, one that the statement names is not. No conditions.
-/
import Derived.Test.YtjjiancacokaiaaRows
import Derived.Test.YtjjiancacokaiaaTnumTo2
import Derived.Deep.RegionHeld3
import Derived.WalkKit
import Derived.ProofKit
import Derived.OpenShut
import Derived.ChangeOld
import Derived.Below
import Derived.Handy
namespace Go.Proofs.Ytjjiancacokaiaa.tnumWithin
open Go.ChangeShapes Go.WideShapes Go.ChangeAt Go.RowKit Tn Ow
set_option linter.unusedVariables false
set_option linter.unusedSimpArgs false

theorem own : ownKnob Try.prog.godebug = none := by kernel_rfl
theorem laidOut : laidOutB Try.prog = true := by kernel_rfl

theorem bi_turn (x : BitVec 64) : bits .xor .u64 18446744073709551615 (bi x) = bi (~~~x) := by
  rw [← bi_ones, bi_xor]
  congr 1

set_option maxRecDepth 100000 in
set_option maxHeartbeats 4000000 in
theorem walk (x0 : T) (x1 : T) (u2 : BitVec 64) (w : World) :
    Calls Try.prog 8 #[.agg #[.int .u64 (bi x0.v), .int .u64 (bi x0.m)], .agg #[.int .u64 (bi x1.v), .int .u64 (bi x1.m)], .int .u64 (bi u2)] w fun e w' => e = .returned (.bool true) ∧ Below w.heap.size w w' := by
  obtain ⟨a, ea⟩ : ∃ a : T, exc x0.v x0.m = a := ⟨_, rfl⟩
  have EA := Lib.hid ea
  have MA := Lib.hid (show mayT a by rw [← ea]; exact may_exc _ _)
  clear ea
  obtain ⟨b, eb⟩ : ∃ a : T, exc x1.v x1.m = a := ⟨_, rfl⟩
  have EB := Lib.hid eb
  have MB := Lib.hid (show mayT b by rw [← eb]; exact may_exc _ _)
  clear eb
  obtain ⟨x, ex⟩ : ∃ x, oneT a u2 = x := ⟨_, rfl⟩
  have EX := Lib.hid ex
  have IX := Lib.hid (show inT a x = true by rw [← ex]; exact in_one a u2)
  clear ex
  obtain ⟨y, ey⟩ : ∃ y, oneT a (~~~b.m) = y := ⟨_, rfl⟩
  have EY := Lib.hid ey
  have h0 := bi_bd x
  have h1 := bi_bd y
  have h2 := bi_bd u2
  have h3 := bi_bd a.v
  have h4 := bi_bd b.m
  go_enter Try.func8, Try.ntmps8
  go_wp2_with fail
  have K0 := ((Bk.new w 24 #[.int .u64 (bi x0.v), .int .u64 (bi x0.m)]).alloc (.cells #[.int .u64 (bi x1.v), .int .u64 (bi x1.m)] 24))
  have K1 := (Bk.new (w.alloc (.cells #[.int .u64 (bi x0.v), .int .u64 (bi x0.m)] 24)) 24 #[.int .u64 (bi x1.v), .int .u64 (bi x1.m)])
  rw [World.size_alloc] at K1
  have B0 : Below w.heap.size w ((w.alloc (.cells #[.int .u64 (bi x0.v), .int .u64 (bi x0.m)] 24)).alloc (.cells #[.int .u64 (bi x1.v), .int .u64 (bi x1.m)] 24)) := by go_grown
  generalize ((w.alloc (.cells #[.int .u64 (bi x0.v), .int .u64 (bi x0.m)] 24)).alloc (.cells #[.int .u64 (bi x1.v), .int .u64 (bi x1.m)] 24)) = w0 at *
  have H0 := Lib.hid K0
  have H1 := Lib.hid K1
  have HB := Lib.hid B0
  clear K0 K1 B0
  have A := H0
  clear H0
  have B := H1
  clear H1
  obtain ⟨cA0, cA1⟩ := tcells A.out
  obtain ⟨cB0, cB1⟩ := tcells B.out
  with_reducible refine (may_to x0 a EA.out _).mono ?_
  rintro e w1 ⟨rfl, qb⟩
  replace A := Lib.hid (bk_keep A.out qb)
  replace B := Lib.hid (bk_keep B.out qb)
  replace HB := Lib.hid (below_then HB.out qb (Nat.le_refl _))
  clear qb cA0 cA1 cB0 cB1
  obtain ⟨cA0, cA1⟩ := tcells A.out
  obtain ⟨cB0, cB1⟩ := tcells B.out
  have fA0 := A.out.frozen 0
  have fA1 := A.out.frozen 1
  go_wp2_with fail
  replace A := Lib.hid (bk_st A.out a)
  replace B := Lib.hid (bk_fr (r := w.heap.size) B.out (by omega) a)
  replace HB := Lib.hid (below_st (r := w.heap.size) HB.out (by omega) a)
  clear fA0 fA1 cA0 cA1 cB0 cB1
  generalize World.setCell (World.setCell w1 ⟨w.heap.size, 0, none⟩ (.int .u64 (bi a.v))) ⟨w.heap.size, 1, none⟩ (.int .u64 (bi a.m)) = v1 at *
  obtain ⟨cA0, cA1⟩ := tcells A.out
  obtain ⟨cB0, cB1⟩ := tcells B.out
  with_reducible refine (may_to x1 b EB.out _).mono ?_
  rintro e w2 ⟨rfl, qb⟩
  replace A := Lib.hid (bk_keep A.out qb)
  replace B := Lib.hid (bk_keep B.out qb)
  replace HB := Lib.hid (below_then HB.out qb (Nat.le_refl _))
  clear qb cA0 cA1 cB0 cB1
  obtain ⟨cA0, cA1⟩ := tcells A.out
  obtain ⟨cB0, cB1⟩ := tcells B.out
  have fB0 := B.out.frozen 0
  have fB1 := B.out.frozen 1
  go_wp2_with fail
  replace A := Lib.hid (bk_fr (r := (w.heap.size + 1)) A.out (by omega) b)
  replace B := Lib.hid (bk_st B.out b)
  replace HB := Lib.hid (below_st (r := (w.heap.size + 1)) HB.out (by omega) b)
  clear fB0 fB1 cA0 cA1 cB0 cB1
  generalize World.setCell (World.setCell w2 ⟨(w.heap.size + 1), 0, none⟩ (.int .u64 (bi b.v))) ⟨(w.heap.size + 1), 1, none⟩ (.int .u64 (bi b.m)) = v2 at *
  obtain ⟨cA0, cA1⟩ := tcells A.out
  obtain ⟨cB0, cB1⟩ := tcells B.out
  cases hw : withT a b
  · have HW := Lib.hid (within_no MA.out MB.out hw)
    with_reducible refine (within_to a b false hw _).mono ?_
    rintro e w3 ⟨rfl, qb⟩
    replace A := Lib.hid (bk_keep A.out qb)
    replace B := Lib.hid (bk_keep B.out qb)
    replace HB := Lib.hid (below_then HB.out qb (Nat.le_refl _))
    clear qb cA0 cA1 cB0 cB1
    obtain ⟨cA0, cA1⟩ := tcells A.out
    obtain ⟨cB0, cB1⟩ := tcells B.out
    clear hw
    have EN := Lib.hid (bi_turn b.m)
    go_wp2_with fail
    cases hp : inT b a.v
    · have HP := Lib.hid hp
      clear hp
      refine wp_region_held_drew (S := fun w' => w'.cell? ⟨w.heap.size, 0, none⟩ = some (.int .u64 (bi a.v)) ∧ w'.cell? ⟨w.heap.size, 1, none⟩ = some (.int .u64 (bi a.m)) ∧ w'.cell? ⟨w.heap.size + 1, 0, none⟩ = some (.int .u64 (bi b.v)) ∧ w'.cell? ⟨w.heap.size + 1, 1, none⟩ = some (.int .u64 (bi b.m)) ∧ Below w.heap.size w w') (by kernel_rfl) ?_ (fun hHeld => ?_)
      · exact ⟨cA0, cA1, cB0, cB1, HB.out.drew⟩
      refine wpAnyH_take (i := 0) (oi := { dst := some 28, op := Op.load 24 (Operand.tmp 4), type := 24, pos := "outright.go:69", after := #[], guard := none }) (v := ?_) rfl (by kernel_rfl) (by kernel_rfl) (by kernel_rfl) (fun _ _ _ h => h) (Or.inl ⟨by rfl, ?_⟩) hHeld ?_
      rotate_left
      · intro w9 hSw
        try dsimp only at hSw
        go_simp
        try with_reducible rfl
      try simp only [Act.put, List.setIfInBounds_toArray, List.set_cons_zero, List.set_cons_succ]
      refine wpAnyH_take (i := 1) (oi := { dst := some 29, op := Op.fieldAddr 24 (Operand.tmp 3) 0, type := 0, pos := "outright.go:69", after := #[], guard := none }) (v := ?_) rfl (by kernel_rfl) (by kernel_rfl) (by kernel_rfl) (fun _ _ _ h => h) (Or.inl ⟨by rfl, ?_⟩) hHeld ?_
      rotate_left
      · intro w9 hSw
        try dsimp only at hSw
        go_simp
        try with_reducible rfl
      try simp only [Act.put, List.setIfInBounds_toArray, List.set_cons_zero, List.set_cons_succ]
      refine wpAnyH_take (i := 2) (oi := { dst := some 30, op := Op.load 22 (Operand.tmp 29), type := 22, pos := "outright.go:69", after := #[{ on := 1, ground := Ground.data }], guard := none }) (v := ?_) rfl (by kernel_rfl) (by kernel_rfl) (by kernel_rfl) (fun _ _ _ h => h) (Or.inl ⟨by rfl, ?_⟩) hHeld ?_
      rotate_left
      · intro w9 hSw
        try dsimp only at hSw
        go_simp
        try with_reducible rfl
      try simp only [Act.put, List.setIfInBounds_toArray, List.set_cons_zero, List.set_cons_succ]
      refine wpAnyH_ready (rs := [3]) (by kernel_rfl) (by simp) ?_
      refine AllReadyH.cons (o := { dst := some 31, op := Op.call { callee := Callee.value (Operand.func 19), args := #[Operand.tmp 28, Operand.tmp 30], argTypes := #[24, 22] }, type := 4, pos := "outright.go:69", after := #[{ on := 0, ground := Ground.data }, { on := 2, ground := Ground.data }], guard := none }) rfl (fun K hK => ?_) AllReadyH.nil
      go_simp
      (go_at_call 19; with_reducible refine (in_to b a.v false HP.out _).mono ?_; rintro e z1 ⟨rfl, qb⟩)
      refine hK.out _ _ ?_ (fun g1 => ?_)
      · exact four_keep qb hHeld
      clear hK K qb
      skip
      try simp only [Act.put, List.setIfInBounds_toArray, List.set_cons_zero, List.set_cons_succ]
      refine wpAnyH_take (i := 4) (oi := { dst := some 32, op := Op.unOp UnOp.not 4 (Operand.tmp 31), type := 4, pos := "outright.go:69", after := #[{ on := 3, ground := Ground.data }], guard := none }) (v := ?_) rfl (by kernel_rfl) (by kernel_rfl) (by kernel_rfl) (fun _ _ _ h => h) (Or.inl ⟨by rfl, ?_⟩) g1 ?_
      rotate_left
      · intro w9 hSw
        try dsimp only at hSw
        go_simp
        try with_reducible rfl
      try simp only [Act.put, List.setIfInBounds_toArray, List.set_cons_zero, List.set_cons_succ]
      refine wpAnyH_take (i := 5) (oi := { dst := some 33, op := Op.move (Operand.tmp 32), type := 4, pos := "outright.go:69", after := #[{ on := 4, ground := Ground.data }, { on := 3, ground := Ground.chain }], guard := none }) (v := ?_) rfl (by kernel_rfl) (by kernel_rfl) (by kernel_rfl) (fun _ _ _ h => h) (Or.inl ⟨by rfl, ?_⟩) g1 ?_
      rotate_left
      · intro w9 hSw
        try dsimp only at hSw
        go_simp
        try with_reducible rfl
      try simp only [Act.put, List.setIfInBounds_toArray, List.set_cons_zero, List.set_cons_succ]
      refine wpAnyH_take (i := 6) (oi := { dst := some 34, op := Op.load 24 (Operand.tmp 4), type := 24, pos := "outright.go:69", after := #[{ on := 5, ground := Ground.guard }], guard := some (5, false) }) (v := undef) rfl (by kernel_rfl) (by kernel_rfl) (by kernel_rfl) (fun _ _ _ h => h) (Or.inr ⟨by rfl, rfl⟩) g1 ?_
      try simp only [Act.put, List.setIfInBounds_toArray, List.set_cons_zero, List.set_cons_succ]
      refine wpAnyH_take (i := 7) (oi := { dst := some 35, op := Op.load 24 (Operand.tmp 3), type := 24, pos := "outright.go:69", after := #[{ on := 5, ground := Ground.guard }], guard := some (5, false) }) (v := undef) rfl (by kernel_rfl) (by kernel_rfl) (by kernel_rfl) (fun _ _ _ h => h) (Or.inr ⟨by rfl, rfl⟩) g1 ?_
      try simp only [Act.put, List.setIfInBounds_toArray, List.set_cons_zero, List.set_cons_succ]
      refine wpAnyH_take (i := 8) (oi := { dst := some 36, op := Op.fieldAddr 24 (Operand.tmp 4) 1, type := 0, pos := "outright.go:69", after := #[{ on := 5, ground := Ground.guard }], guard := some (5, false) }) (v := undef) rfl (by kernel_rfl) (by kernel_rfl) (by kernel_rfl) (fun _ _ _ h => h) (Or.inr ⟨by rfl, rfl⟩) g1 ?_
      try simp only [Act.put, List.setIfInBounds_toArray, List.set_cons_zero, List.set_cons_succ]
      refine wpAnyH_take (i := 9) (oi := { dst := some 37, op := Op.load 22 (Operand.tmp 36), type := 22, pos := "outright.go:69", after := #[{ on := 8, ground := Ground.data }, { on := 5, ground := Ground.guard }], guard := some (5, false) }) (v := undef) rfl (by kernel_rfl) (by kernel_rfl) (by kernel_rfl) (fun _ _ _ h => h) (Or.inr ⟨by rfl, rfl⟩) g1 ?_
      try simp only [Act.put, List.setIfInBounds_toArray, List.set_cons_zero, List.set_cons_succ]
      refine wpAnyH_take (i := 10) (oi := { dst := some 38, op := Op.unOp UnOp.xor 22 (Operand.tmp 37), type := 22, pos := "outright.go:69", after := #[{ on := 9, ground := Ground.data }, { on := 5, ground := Ground.guard }], guard := some (5, false) }) (v := undef) rfl (by kernel_rfl) (by kernel_rfl) (by kernel_rfl) (fun _ _ _ h => h) (Or.inr ⟨by rfl, rfl⟩) g1 ?_
      try simp only [Act.put, List.setIfInBounds_toArray, List.set_cons_zero, List.set_cons_succ]
      refine wpAnyH_take (i := 11) (oi := { dst := some 39, op := Op.call { callee := Callee.value (Operand.func 46), args := #[Operand.tmp 35, Operand.tmp 38], argTypes := #[24, 22] }, type := 22, pos := "outright.go:69", after := #[{ on := 7, ground := Ground.data }, { on := 10, ground := Ground.data }, { on := 5, ground := Ground.chain }, { on := 5, ground := Ground.guard }], guard := some (5, false) }) (v := undef) rfl (by kernel_rfl) (by kernel_rfl) (by kernel_rfl) (fun _ _ _ h => h) (Or.inr ⟨by rfl, rfl⟩) g1 ?_
      try simp only [Act.put, List.setIfInBounds_toArray, List.set_cons_zero, List.set_cons_succ]
      refine wpAnyH_take (i := 12) (oi := { dst := some 40, op := Op.call { callee := Callee.value (Operand.func 19), args := #[Operand.tmp 34, Operand.tmp 39], argTypes := #[24, 22] }, type := 4, pos := "outright.go:69", after := #[{ on := 6, ground := Ground.data }, { on := 11, ground := Ground.data }, { on := 11, ground := Ground.chain }, { on := 5, ground := Ground.guard }], guard := some (5, false) }) (v := undef) rfl (by kernel_rfl) (by kernel_rfl) (by kernel_rfl) (fun _ _ _ h => h) (Or.inr ⟨by rfl, rfl⟩) g1 ?_
      try simp only [Act.put, List.setIfInBounds_toArray, List.set_cons_zero, List.set_cons_succ]
      refine wpAnyH_take (i := 13) (oi := { dst := some 41, op := Op.unOp UnOp.not 4 (Operand.tmp 40), type := 4, pos := "outright.go:69", after := #[{ on := 12, ground := Ground.data }, { on := 5, ground := Ground.guard }], guard := some (5, false) }) (v := undef) rfl (by kernel_rfl) (by kernel_rfl) (by kernel_rfl) (fun _ _ _ h => h) (Or.inr ⟨by rfl, rfl⟩) g1 ?_
      try simp only [Act.put, List.setIfInBounds_toArray, List.set_cons_zero, List.set_cons_succ]
      refine wpAnyH_take (i := 14) (oi := { dst := some 42, op := Op.pick (Operand.tmp 33) (Operand.const (Value.bool true)) (Operand.tmp 41), type := 4, pos := "outright.go:69", after := #[{ on := 5, ground := Ground.data }, { on := 13, ground := Ground.data }], guard := none }) (v := ?_) rfl (by kernel_rfl) (by kernel_rfl) (by kernel_rfl) (fun _ _ _ h => h) (Or.inl ⟨by rfl, ?_⟩) g1 ?_
      rotate_left
      · intro w9 hSw
        try dsimp only at hSw
        go_simp
        try with_reducible rfl
      try simp only [Act.put, List.setIfInBounds_toArray, List.set_cons_zero, List.set_cons_succ]
      refine wpAnyH_take (i := 15) (oi := { dst := some 43, op := Op.move (Operand.tmp 42), type := 4, pos := "outright.go:69", after := #[{ on := 14, ground := Ground.data }, { on := 12, ground := Ground.chain }], guard := none }) (v := ?_) rfl (by kernel_rfl) (by kernel_rfl) (by kernel_rfl) (fun _ _ _ h => h) (Or.inl ⟨by rfl, ?_⟩) g1 ?_
      rotate_left
      · intro w9 hSw
        try dsimp only at hSw
        go_simp
        try with_reducible rfl
      try simp only [Act.put, List.setIfInBounds_toArray, List.set_cons_zero, List.set_cons_succ]
      refine wpAnyH_ready (rs := [16]) (by kernel_rfl) (by simp) ?_
      refine AllReadyH.cons (o := { dst := some 44, op := Op.call { callee := Callee.value (Operand.func 25), args := #[], argTypes := #[] }, type := 4, pos := "outright.go:69", after := #[{ on := 15, ground := Ground.chain }, { on := 15, ground := Ground.guard }], guard := some (15, true) }) rfl (fun K hK => ?_) AllReadyH.nil
      go_simp
      (go_at_call 25; with_reducible refine (known_any _).mono ?_; rintro e z2 ⟨rfl, qb⟩)
      refine hK.out _ _ ?_ (fun g2 => ?_)
      · exact four_keep qb g1
      clear hK K qb
      clear g1
      try simp only [Act.put, List.setIfInBounds_toArray, List.set_cons_zero, List.set_cons_succ]
      refine wpAnyH_take (i := 17) (oi := { dst := some 45, op := Op.pick (Operand.tmp 43) (Operand.tmp 44) (Operand.const (Value.bool false)), type := 4, pos := "outright.go:69", after := #[{ on := 15, ground := Ground.data }, { on := 16, ground := Ground.data }], guard := none }) (v := ?_) rfl (by kernel_rfl) (by kernel_rfl) (by kernel_rfl) (fun _ _ _ h => h) (Or.inl ⟨by rfl, ?_⟩) g2 ?_
      rotate_left
      · intro w9 hSw
        try dsimp only at hSw
        go_simp
        try with_reducible rfl
      try simp only [Act.put, List.setIfInBounds_toArray, List.set_cons_zero, List.set_cons_succ]
      refine wpAnyH_take (i := 18) (oi := { dst := some 6, op := Op.assign (Operand.tmp 45), type := 4, pos := "outright.go:69", after := #[{ on := 17, ground := Ground.data }, { on := 16, ground := Ground.chain }, { on := 0, ground := Ground.phase }, { on := 1, ground := Ground.phase }, { on := 2, ground := Ground.phase }, { on := 3, ground := Ground.phase }, { on := 4, ground := Ground.phase }, { on := 5, ground := Ground.phase }, { on := 6, ground := Ground.phase }, { on := 7, ground := Ground.phase }, { on := 8, ground := Ground.phase }, { on := 9, ground := Ground.phase }, { on := 10, ground := Ground.phase }, { on := 11, ground := Ground.phase }, { on := 12, ground := Ground.phase }, { on := 13, ground := Ground.phase }, { on := 14, ground := Ground.phase }, { on := 15, ground := Ground.phase }, { on := 16, ground := Ground.phase }, { on := 17, ground := Ground.phase }], guard := none }) (v := ?_) rfl (by kernel_rfl) (by kernel_rfl) (by kernel_rfl) (fun _ _ _ h => h) (Or.inl ⟨by rfl, ?_⟩) g2 ?_
      rotate_left
      · intro w9 hSw
        try dsimp only at hSw
        go_simp
        try with_reducible rfl
      try simp only [Act.put, List.setIfInBounds_toArray, List.set_cons_zero, List.set_cons_succ]
      refine wpAnyH_done (by kernel_rfl) ?_ _
      have BB := Lib.hid g2.2.2.2.2
      go_wp2
      go_returns
      exact ⟨rfl, BB.out⟩
    · have HQ := Lib.hid (show inT b y = false by rcases HW.out with h9 | h9; exact absurd (hp.symm.trans h9) (by decide); rw [ey] at h9; exact h9)
      have HP := Lib.hid hp
      clear hp ey
      go_region_held3 (fun w' => w'.cell? ⟨w.heap.size, 0, none⟩ = some (.int .u64 (bi a.v)) ∧ w'.cell? ⟨w.heap.size, 1, none⟩ = some (.int .u64 (bi a.m)) ∧ w'.cell? ⟨w.heap.size + 1, 0, none⟩ = some (.int .u64 (bi b.v)) ∧ w'.cell? ⟨w.heap.size + 1, 1, none⟩ = some (.int .u64 (bi b.m)) ∧ Below w.heap.size w w')
        (first | exact ⟨cA0, cA1, cB0, cB1, HB.out.drew⟩ | exact four_keep qb (by assumption) | exact four_keep qb ⟨by assumption, by assumption, by assumption, by assumption, by assumption⟩ | exact four_keep qb ⟨cA0, cA1, cB0, cB1, HB.out.drew⟩)
        (first | (go_at_call 19; with_reducible refine (in_to b a.v true HP.out _).mono ?_; rintro e w2 ⟨rfl, qb⟩) | (go_at_call 46; refine (one_at a (~~~b.m) y _ (by first | exact EN.out | (show bits .xor .u64 18446744073709551615 (bi b.m) = bi (~~~b.m); exact EN.out)) EY.out _).mono ?_; rintro e w2 ⟨rfl, qb⟩) | (go_at_call 19; with_reducible refine (in_to b y false HQ.out _).mono ?_; rintro e w2 ⟨rfl, qb⟩) | (go_at_call 25; with_reducible refine (known_any _).mono ?_; rintro e w2 ⟨rfl, qb⟩))
      have BB : Hid (Below w.heap.size w w2) := by
        rename_i hH
        exact Lib.hid hH.2.2.2.2
      clear qb
      go_wp2
      go_returns
      exact ⟨rfl, BB.out⟩
  · have HX := Lib.hid (within_yes MB.out hw IX.out)
    have HV := Lib.hid (within_yes MB.out hw (in_low a))
    clear ey
    with_reducible refine (within_to a b true hw _).mono ?_
    rintro e w4 ⟨rfl, qb⟩
    replace A := Lib.hid (bk_keep A.out qb)
    replace B := Lib.hid (bk_keep B.out qb)
    replace HB := Lib.hid (below_then HB.out qb (Nat.le_refl _))
    clear qb cA0 cA1 cB0 cB1
    obtain ⟨cA0, cA1⟩ := tcells A.out
    obtain ⟨cB0, cB1⟩ := tcells B.out
    clear hw
    go_wp2_with fail
    go_region_held3 (fun w' => w'.cell? ⟨w.heap.size, 0, none⟩ = some (.int .u64 (bi a.v)) ∧ w'.cell? ⟨w.heap.size, 1, none⟩ = some (.int .u64 (bi a.m)) ∧ w'.cell? ⟨w.heap.size + 1, 0, none⟩ = some (.int .u64 (bi b.v)) ∧ w'.cell? ⟨w.heap.size + 1, 1, none⟩ = some (.int .u64 (bi b.m)) ∧ Below w.heap.size w w')
      (first | exact ⟨cA0, cA1, cB0, cB1, HB.out.drew⟩ | exact four_keep qb (by assumption) | exact four_keep qb ⟨by assumption, by assumption, by assumption, by assumption, by assumption⟩ | exact four_keep qb ⟨cA0, cA1, cB0, cB1, HB.out.drew⟩)
      (first | (go_at_call 46; with_reducible refine (one_to a u2 x EX.out _).mono ?_; rintro e w2 ⟨rfl, qb⟩) | (go_at_call 19; with_reducible refine (in_to b x true HX.out _).mono ?_; rintro e w2 ⟨rfl, qb⟩) | (go_at_call 19; with_reducible refine (in_to b a.v true HV.out _).mono ?_; rintro e w2 ⟨rfl, qb⟩) | (go_at_call 25; with_reducible refine (known_any _).mono ?_; rintro e w2 ⟨rfl, qb⟩))
    have BB : Hid (Below w.heap.size w w2) := by
      rename_i hH
      exact Lib.hid hH.2.2.2.2
    clear qb
    go_wp2
    go_returns
    exact ⟨rfl, BB.out⟩

set_option maxRecDepth 100000 in
theorem lifted (os : Os) (started : os.Started) (H : Type) (enc : TypeId × Value → H) :
    ReturnsInHanded {} Try.checked os 8 .any (Rows.tnumWithinSpec.pre6 enc Try.prog Try.f8 Rows.tnumWithinRow.domain false) (Rows.tnumWithinSpec.post enc Try.prog Try.f8 false true false false) := by
  refine returnsInHanded_of_change (C := Try.checked) own started (by kernel_rfl) Try.func8
    (ChangeSpec.witness6 (enc := enc) (C := Try.checked) false ⟨#[], #[.agg #[.int .u64 0, .int .u64 0], .agg #[.int .u64 0, .int .u64 0], .int .u64 0], []⟩ 8 (by kernel_rfl) (by kernel_rfl) (by kernel_rfl) (by kernel_rfl)) ?_
  intro W base args ds gs before hval0 hW hcnd _
  have hval : ∀ (j : Nat) t v, Try.f8.params[j]? = some t → args[j]? = some v → Value.okWide Try.prog W .any base t v := hval0
  have hW' := hW
  obtain ⟨p, q, hA0, hV, rfl, hfz, hnd⟩ := hW
  have hA : DataW.TrodAll enc Try.prog W 0 (fun _ => true) true Try.f8.params.toList args.toList ds p := hA0
  rw [Try.params8] at hA hval
  obtain ⟨v0, vs0, d0, ds0, p0, q0, hargs, rfl, rfl, h0, r0⟩ := trodAll_cons hA
  obtain ⟨v1, vs1, d1, ds1, p1, q1, rfl, rfl, rfl, h1, r1⟩ := trodAll_cons r0
  obtain ⟨v2, vs2, d2, ds2, p2, q2, rfl, rfl, rfl, h2, r2⟩ := trodAll_cons r1
  obtain ⟨rfl, rfl, rfl⟩ := trodAll_nil r2
  obtain rfl : args = #[v0, v1, v2] := by cases args; simp_all
  obtain ⟨rfl, rfl⟩ := trodVars_none hV
  have k0 := h0
  have lt0 : ∀ x ∈ p0, x.block < W.heap.size := by obtain ⟨m, hm⟩ := k0; exact DataW.trod_lt m _ _ _ hm
  obtain ⟨x0, rfl⟩ := open_tn (hval 0 24 v0 rfl rfl) h0
  have k1 := h1
  have lt1 : ∀ x ∈ p1, x.block < W.heap.size := by obtain ⟨m, hm⟩ := k1; exact DataW.trod_lt m _ _ _ hm
  obtain ⟨x1, rfl⟩ := open_tn (hval 1 24 v1 rfl rfl) h1
  obtain ⟨n2, rfl, rfl, rfl, w2⟩ := open_int Try.underlying22 (hval 2 22 v2 rfl rfl) h2
  have ww2 := w2
  obtain ⟨u2, rfl⟩ := u64_bi w2
  clear hA0 hval0
  refine (walk x0 x1 u2 W   ).mono fun e W' ⟨he, bel⟩ => ?_
  subst he
  exact ⟨_, rfl, _, _, _, [], _, [], hW', trodAll_mk1 (shut_bool Try.underlying4 _), (trodAll_cons_mk (Below.trod laidOut (by kernel_rfl) (of_decide_eq_true (by kernel_rfl)) k0 bel lt0) (trodAll_cons_mk (Below.trod laidOut (by kernel_rfl) (of_decide_eq_true (by kernel_rfl)) k1 bel lt1) (trodAll_cons_mk (shut_int Try.underlying22 ww2) trodAll_mk0))), rfl, bel.frame _, fun h => by cases h⟩

theorem over : Rows.tnumWithinRow.holds Try.pinned (OpenSpec.ofChange Rows.tnumWithinSpec) :=
  OpenClaim.holds_of_wide 8 Try.f8 rfl rfl rfl rfl rfl rfl rfl ⟨rfl, rfl, rfl, rfl, rfl⟩ rfl rfl rfl rfl rfl (by kernel_rfl) Try.func8 (by kernel_rfl)
    (of_decide_eq_true (by kernel_rfl)) (by unfold Func.isWrapper; first | (rw [if_pos (by decide +kernel)]; kernel_rfl) | (rw [if_neg (by decide +kernel)]; exact ⟨rfl, rfl⟩))
    (fun os started H enc _ => lifted os started H enc)

theorem proved : Rows.TnumWithinSaid := over
#print axioms proved
end Go.Proofs.Ytjjiancacokaiaa.tnumWithin
