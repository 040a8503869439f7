/-
  Proved: the statement TnumMore: who knows more is told more, or as much, by sums, differences, what is done bit by bit and shifts. No conditions.
-/
import Derived.Test.YtjjiancacokaiaaRows
import Derived.Test.YtjjiancacokaiaaTnumTo2
import Derived.Deep.RegionHeld3
import Derived.Deep.DeepCutAuto
import Derived.WalkKit
import Derived.ProofKit
import Derived.OpenShut
import Derived.ChangeOld
import Derived.Below
import Derived.Handy
namespace Go.Proofs.Ytjjiancacokaiaa.tnumMore
open Go.ChangeShapes Go.WideShapes Go.ChangeAt Go.RowKit Tn Ow
set_option linter.unusedVariables false
set_option linter.unusedSimpArgs false

theorem own : ownKnob Try.prog.godebug = none := by kernel_rfl
theorem laidOut : laidOutB Try.prog = true := by kernel_rfl

theorem sixk {w W w2 : World} {p0 p1 p2 p3 p4 p5 : Addr} {y0 y1 y2 y3 y4 y5 : Value} (hb : Below W.heap.size W w2) (hh : W.cell? p0 = some y0 ∧ W.cell? p1 = some y1 ∧ W.cell? p2 = some y2 ∧ W.cell? p3 = some y3 ∧ W.cell? p4 = some y4 ∧ W.cell? p5 = some y5 ∧ Below w.heap.size w W) :
    w2.cell? p0 = some y0 ∧ w2.cell? p1 = some y1 ∧ w2.cell? p2 = some y2 ∧ w2.cell? p3 = some y3 ∧ w2.cell? p4 = some y4 ∧ w2.cell? p5 = some y5 ∧ Below w.heap.size w w2 := by
  obtain ⟨a0, a1, a2, a3, a4, a5, B⟩ := hh
  exact ⟨keep1 hb a0, keep1 hb a1, keep1 hb a2, keep1 hb a3, keep1 hb a4, keep1 hb a5, below_then B hb (Nat.le_refl _)⟩
theorem may_at (t r : T) (x y : Int) (hx : x = bi t.v) (hy : y = bi t.m) (h : exc t.v t.m = r) (w : World) :
    Calls Try.prog 12 #[.agg #[.int .u64 x, .int .u64 y]] w fun e w' => e = .returned (.agg #[.int .u64 (bi r.v), .int .u64 (bi r.m)]) ∧ Below w.heap.size w w' := by subst hx hy h; exact may_any t w
theorem two_al {w W : World} {g : Nat} {v0 v1 : Value} (hh : W.cell? ⟨g, 0, none⟩ = some v0 ∧ W.cell? ⟨g, 1, none⟩ = some v1 ∧ Below w.heap.size w W) (o : Obj) :
    (W.alloc o).cell? ⟨g, 0, none⟩ = some v0 ∧ (W.alloc o).cell? ⟨g, 1, none⟩ = some v1 ∧ Below w.heap.size w (W.alloc o) :=
  ⟨(World.cell?_alloc_lt W o _ (World.block_lt_of_cell? W _ hh.1)).trans hh.1, (World.cell?_alloc_lt W o _ (World.block_lt_of_cell? W _ hh.2.1)).trans hh.2.1, hh.2.2.alloc hh.2.2.size o⟩
theorem two_st {w W : World} {g r : Nat} {v0 v1 u v : Value} (h1 : g ≠ r) (h3 : w.heap.size ≤ r) (hh : W.cell? ⟨g, 0, none⟩ = some v0 ∧ W.cell? ⟨g, 1, none⟩ = some v1 ∧ Below w.heap.size w W) :
    ((W.setCell ⟨r, 0, none⟩ u).setCell ⟨r, 1, none⟩ v).cell? ⟨g, 0, none⟩ = some v0 ∧ ((W.setCell ⟨r, 0, none⟩ u).setCell ⟨r, 1, none⟩ v).cell? ⟨g, 1, none⟩ = some v1 ∧ Below w.heap.size w ((W.setCell ⟨r, 0, none⟩ u).setCell ⟨r, 1, none⟩ v) :=
  ⟨(cell_set2 h1).trans hh.1, (cell_set2 h1).trans hh.2.1, below_set (below_set hh.2.2 h3) h3⟩

set_option maxRecDepth 100000 in
set_option maxHeartbeats 4000000 in
theorem walk (x0 : T) (x1 : T) (u2 : BitVec 64) (u3 : BitVec 64) (n4 : Int) (w : World) (w4 : (Lit.int .i64 n4).wf = true) :
    Calls Try.prog 10 #[.agg #[.int .u64 (bi x0.v), .int .u64 (bi x0.m)], .agg #[.int .u64 (bi x1.v), .int .u64 (bi x1.m)], .int .u64 (bi u2), .int .u64 (bi u3), .int .i64 n4] w fun e w' => e = .returned (.bool true) ∧ Below w.heap.size w w' := by
  have hn := bounds_i64 w4
  have HN := Lib.hid hn
  obtain ⟨k, hk⟩ : ∃ k : Nat, n4 % 64 = (k : Int) := ⟨(n4 % 64).toNat, by omega⟩
  have HK := Lib.hid hk
  clear hk w4 hn
  obtain ⟨b, eb⟩ : ∃ a : T, exc x0.v x0.m = a := ⟨_, rfl⟩
  have EB := Lib.hid eb
  have MB := Lib.hid (show mayT b by rw [← eb]; exact may_exc _ _)
  clear eb
  obtain ⟨c, ec⟩ : ∃ a : T, exc x1.v x1.m = a := ⟨_, rfl⟩
  have EC := Lib.hid ec
  have MC := Lib.hid (show mayT c by rw [← ec]; exact may_exc _ _)
  clear ec
  obtain ⟨y, ey⟩ : ∃ y, oneT b u2 = y := ⟨_, rfl⟩
  have EY := Lib.hid ey
  obtain ⟨a, ea⟩ : ∃ a : T, exc y (b.m &&& u3) = a := ⟨_, rfl⟩
  have EA := Lib.hid ea
  have MA := Lib.hid (show mayT a by rw [← ea]; exact may_exc _ _)
  have WW := Lib.hid (show withT a b = true by rw [← ea, ← ey]; exact less_with MB.out u2 u3)
  clear ea ey
  have h0 := bi_bd u2
  have h1 := bi_bd u3
  have h2 := bi_bd b.m
  have h3 := bi_bd y
  go_enter Try.func10, Try.ntmps10
  go_wp2_with fail
  have K0 := ((Bk.new w 24 #[.int .u64 (bi x0.v), .int .u64 (bi x0.m)]).alloc (.cells #[.int .u64 (bi x1.v), .int .u64 (bi x1.m)] 24))
  have K1 := (Bk.new (w.alloc (.cells #[.int .u64 (bi x0.v), .int .u64 (bi x0.m)] 24)) 24 #[.int .u64 (bi x1.v), .int .u64 (bi x1.m)])
  rw [World.size_alloc] at K1
  have B0 : Below w.heap.size w ((w.alloc (.cells #[.int .u64 (bi x0.v), .int .u64 (bi x0.m)] 24)).alloc (.cells #[.int .u64 (bi x1.v), .int .u64 (bi x1.m)] 24)) := by go_grown
  generalize ((w.alloc (.cells #[.int .u64 (bi x0.v), .int .u64 (bi x0.m)] 24)).alloc (.cells #[.int .u64 (bi x1.v), .int .u64 (bi x1.m)] 24)) = w0 at *
  have H0 := Lib.hid K0
  have H1 := Lib.hid K1
  have HB := Lib.hid B0
  clear K0 K1 B0
  have A := H0
  clear H0
  have B := H1
  clear H1
  obtain ⟨cA0, cA1⟩ := tcells A.out
  obtain ⟨cB0, cB1⟩ := tcells B.out
  with_reducible refine (may_to x0 b EB.out _).mono ?_
  rintro e w1 ⟨rfl, qb⟩
  replace A := Lib.hid (bk_keep A.out qb)
  replace B := Lib.hid (bk_keep B.out qb)
  replace HB := Lib.hid (below_then HB.out qb (Nat.le_refl _))
  clear qb cA0 cA1 cB0 cB1
  obtain ⟨cA0, cA1⟩ := tcells A.out
  obtain ⟨cB0, cB1⟩ := tcells B.out
  have fA0 := A.out.frozen 0
  have fA1 := A.out.frozen 1
  go_wp2_with fail
  replace A := Lib.hid (bk_st A.out b)
  replace B := Lib.hid (bk_fr (r := w.heap.size) B.out (by omega) b)
  replace HB := Lib.hid (below_st (r := w.heap.size) HB.out (by omega) b)
  clear fA0 fA1 cA0 cA1 cB0 cB1
  generalize World.setCell (World.setCell w1 ⟨w.heap.size, 0, none⟩ (.int .u64 (bi b.v))) ⟨w.heap.size, 1, none⟩ (.int .u64 (bi b.m)) = v1 at *
  obtain ⟨cA0, cA1⟩ := tcells A.out
  obtain ⟨cB0, cB1⟩ := tcells B.out
  with_reducible refine (may_to x1 c EC.out _).mono ?_
  rintro e w2 ⟨rfl, qb⟩
  replace A := Lib.hid (bk_keep A.out qb)
  replace B := Lib.hid (bk_keep B.out qb)
  replace HB := Lib.hid (below_then HB.out qb (Nat.le_refl _))
  clear qb cA0 cA1 cB0 cB1
  obtain ⟨cA0, cA1⟩ := tcells A.out
  obtain ⟨cB0, cB1⟩ := tcells B.out
  have fB0 := B.out.frozen 0
  have fB1 := B.out.frozen 1
  go_upto_region 3 with (fail)
  replace B := Lib.hid (bk_st B.out c)
  replace A := Lib.hid (bk_fr (r := (w.heap.size + 1)) A.out (by omega) c)
  replace HB := Lib.hid (below_st (r := (w.heap.size + 1)) HB.out (by omega) c)
  clear fB0 fB1 cA0 cA1 cB0 cB1
  generalize World.setCell (World.setCell w2 ⟨(w.heap.size + 1), 0, none⟩ (.int .u64 (bi c.v))) ⟨(w.heap.size + 1), 1, none⟩ (.int .u64 (bi c.m)) = v2 at *
  go_cut [11] (fun s11 wx => ∃ g : Nat, s11 = .pointer (some ⟨g, 0, none⟩) ∧ Hid (Bk wx g 24 #[.int .u64 (bi a.v), .int .u64 (bi a.m)]) ∧ Hid (Bk wx w.heap.size 24 #[.int .u64 (bi b.v), .int .u64 (bi b.m)]) ∧ Hid (Bk wx (w.heap.size + 1) 24 #[.int .u64 (bi c.v), .int .u64 (bi c.m)]) ∧ Hid (Below w.heap.size w wx))
  case first =>
    obtain ⟨cA0, cA1⟩ := tcells A.out
    refine wp_region_held_drew (S := fun w' => w'.cell? ⟨w.heap.size, 0, none⟩ = some (.int .u64 (bi b.v)) ∧ w'.cell? ⟨w.heap.size, 1, none⟩ = some (.int .u64 (bi b.m)) ∧ Below w.heap.size w w') (by kernel_rfl) ?_ (fun s0 => ?_)
    · exact ⟨cA0, cA1, HB.out.drew⟩
    clear cA0 cA1
    refine wpAnyH_take (i := 0) (oi := { dst := some 16, op := Op.load 24 (Operand.tmp 5), type := 24, pos := "outright.go:93", after := #[], guard := none }) (v := ?_) rfl (by kernel_rfl) (by kernel_rfl) (by kernel_rfl) (fun _ _ _ h => h) (Or.inl ⟨by rfl, ?_⟩) s0 ?_
    rotate_left
    · intro w9 hSw
      try dsimp only at hSw
      go_simp
      try with_reducible rfl
    try simp only [Act.put, List.setIfInBounds_toArray, List.set_cons_zero, List.set_cons_succ]
    refine wpAnyH_take (i := 1) (oi := { dst := some 17, op := Op.move (Operand.tmp 2), type := 22, pos := "outright.go:93", after := #[], guard := none }) (v := ?_) rfl (by kernel_rfl) (by kernel_rfl) (by kernel_rfl) (fun _ _ _ h => h) (Or.inl ⟨by rfl, ?_⟩) s0 ?_
    rotate_left
    · intro w9 hSw
      try dsimp only at hSw
      go_simp
      try with_reducible rfl
    try simp only [Act.put, List.setIfInBounds_toArray, List.set_cons_zero, List.set_cons_succ]
    refine wpAnyH_take (i := 3) (oi := { dst := some 19, op := Op.fieldAddr 24 (Operand.tmp 5) 1, type := 0, pos := "outright.go:93", after := #[], guard := none }) (v := ?_) rfl (by kernel_rfl) (by kernel_rfl) (by kernel_rfl) (fun _ _ _ h => h) (Or.inl ⟨by rfl, ?_⟩) s0 ?_
    rotate_left
    · intro w9 hSw
      try dsimp only at hSw
      go_simp
      try with_reducible rfl
    try simp only [Act.put, List.setIfInBounds_toArray, List.set_cons_zero, List.set_cons_succ]
    refine wpAnyH_take (i := 4) (oi := { dst := some 20, op := Op.load 22 (Operand.tmp 19), type := 22, pos := "outright.go:93", after := #[{ on := 3, ground := Ground.data }], guard := none }) (v := ?_) rfl (by kernel_rfl) (by kernel_rfl) (by kernel_rfl) (fun _ _ _ h => h) (Or.inl ⟨by rfl, ?_⟩) s0 ?_
    rotate_left
    · intro w9 hSw
      try dsimp only at hSw
      go_simp
      try with_reducible rfl
    try simp only [Act.put, List.setIfInBounds_toArray, List.set_cons_zero, List.set_cons_succ]
    refine wpAnyH_take (i := 5) (oi := { dst := some 21, op := Op.move (Operand.tmp 3), type := 22, pos := "outright.go:93", after := #[], guard := none }) (v := ?_) rfl (by kernel_rfl) (by kernel_rfl) (by kernel_rfl) (fun _ _ _ h => h) (Or.inl ⟨by rfl, ?_⟩) s0 ?_
    rotate_left
    · intro w9 hSw
      try dsimp only at hSw
      go_simp
      try with_reducible rfl
    try simp only [Act.put, List.setIfInBounds_toArray, List.set_cons_zero, List.set_cons_succ]
    refine wpAnyH_take (i := 6) (oi := { dst := some 22, op := Op.binOp BinOp.and 22 (Operand.tmp 20) (Operand.tmp 21) 22, type := 22, pos := "outright.go:93", after := #[{ on := 4, ground := Ground.data }, { on := 5, ground := Ground.data }], guard := none }) (v := ?_) rfl (by kernel_rfl) (by kernel_rfl) (by kernel_rfl) (fun _ _ _ h => h) (Or.inl ⟨by rfl, ?_⟩) s0 ?_
    rotate_left
    · intro w9 hSw
      try dsimp only at hSw
      go_simp
      try with_reducible rfl
    try simp only [Act.put, List.setIfInBounds_toArray, List.set_cons_zero, List.set_cons_succ]
    refine wpAnyH_ready (rs := [2, 9]) (by kernel_rfl) (by simp) ?_
    refine AllReadyH.cons (o := { dst := some 18, op := Op.call { callee := Callee.value (Operand.func 46), args := #[Operand.tmp 16, Operand.tmp 17], argTypes := #[24, 22] }, type := 22, pos := "outright.go:93", after := #[{ on := 0, ground := Ground.data }, { on := 1, ground := Ground.data }], guard := none }) rfl (fun K hK => ?_) (AllReadyH.cons (o := { dst := some 11, op := Op.alloc 24, type := 0, pos := "outright.go:93", after := #[], guard := none }) rfl (fun K hK => ?_) AllReadyH.nil)
    · go_simp
      (go_at_call 46; with_reducible refine (one_to b u2 y EY.out _).mono ?_; rintro e z1 ⟨rfl, qb⟩)
      have A1 := Lib.hid (bk_keep (w := v2.drew) A.out qb)
      have B1 := Lib.hid (bk_keep (w := v2.drew) B.out qb)
      have HB1 := Lib.hid (below_then (w1 := v2.drew) HB.out.drew qb (Nat.le_refl _))
      refine hK.out _ _ ?_ (fun s1 => ?_)
      · exact two_keep qb s0
      clear hK K qb
      try simp only [Act.put, List.setIfInBounds_toArray, List.set_cons_zero, List.set_cons_succ]
      refine wpAnyH_take (i := 7) (oi := { dst := some 23, op := Op.build 24 #[(0, Operand.tmp 18), (1, Operand.tmp 22)], type := 24, pos := "outright.go:93", after := #[{ on := 2, ground := Ground.data }, { on := 6, ground := Ground.data }], guard := none }) (v := ?_) rfl (by kernel_rfl) (by kernel_rfl) (by kernel_rfl) (fun _ _ _ h => h) (Or.inl ⟨by rfl, ?_⟩) s1 ?_
      rotate_left
      · intro w9 hSw
        try dsimp only at hSw
        go_simp
        try with_reducible rfl
      try simp only [Act.put, List.setIfInBounds_toArray, List.set_cons_zero, List.set_cons_succ]
      refine wpAnyH_ready (rs := [8, 9]) (by kernel_rfl) (by simp) ?_
      refine AllReadyH.cons (o := { dst := some 24, op := Op.call { callee := Callee.value (Operand.func 12), args := #[Operand.tmp 23], argTypes := #[24] }, type := 24, pos := "outright.go:93", after := #[{ on := 7, ground := Ground.data }, { on := 2, ground := Ground.chain }], guard := none }) rfl (fun K hK => ?_) (AllReadyH.cons (o := { dst := some 11, op := Op.alloc 24, type := 0, pos := "outright.go:93", after := #[], guard := none }) rfl (fun K hK => ?_) AllReadyH.nil)
      · go_simp
        (go_at_call 12; refine (may_at ⟨y, b.m &&& u3⟩ a _ _ rfl (bi_and _ _) EA.out _).mono ?_; rintro e z2 ⟨rfl, qb⟩)
        have A2 := Lib.hid (bk_keep (w := z1) A1.out qb)
        have B2 := Lib.hid (bk_keep (w := z1) B1.out qb)
        have HB2 := Lib.hid (below_then (w1 := z1) HB1.out qb (Nat.le_refl _))
        refine hK.out _ _ ?_ (fun s2 => ?_)
        · exact two_keep qb s1
        clear hK K qb
        try simp only [Act.put, List.setIfInBounds_toArray, List.set_cons_zero, List.set_cons_succ]
        refine wpAnyH_ready (rs := [9]) (by kernel_rfl) (by simp) ?_
        refine AllReadyH.cons (o := { dst := some 11, op := Op.alloc 24, type := 0, pos := "outright.go:93", after := #[], guard := none }) rfl (fun K hK => ?_) AllReadyH.nil
        go_simp
        refine hK.out _ _ ?_ (fun s3 => ?_)
        · exact two_al s2 (.cells #[.int .u64 0, .int .u64 0] 24)
        clear hK K
        try simp only [Act.put, List.setIfInBounds_toArray, List.set_cons_zero, List.set_cons_succ]
        have N3 := Lib.hid (Bk.new z2 24 #[.int .u64 0, .int .u64 0])
        have A3 := Lib.hid (bk_al A2.out (.cells #[.int .u64 0, .int .u64 0] 24))
        have B3 := Lib.hid (bk_al B2.out (.cells #[.int .u64 0, .int .u64 0] 24))
        have HB3 := Lib.hid ((HB2.out).alloc (HB2.out).size (.cells #[.int .u64 0, .int .u64 0] 24))
        have k1 := A2.out.lt
        have k2 := B2.out.lt
        have kz := HB2.out.size
        generalize hW : World.alloc z2 (.cells #[.int .u64 0, .int .u64 0] 24) = W3 at *
        clear hW
        obtain ⟨n0, n1⟩ := tcells N3.out
        have f0 := N3.out.frozen 0
        have f1 := N3.out.frozen 1
        refine wpAnyH_ready (rs := [10]) (by kernel_rfl) (by simp) ?_
        refine AllReadyH.cons (o := { dst := none, op := Op.store 24 (Operand.tmp 11) (Operand.tmp 24), type := 0, pos := "outright.go:93", after := #[{ on := 9, ground := Ground.data }, { on := 8, ground := Ground.data }, { on := 8, ground := Ground.chain }, { on := 0, ground := Ground.phase }, { on := 1, ground := Ground.phase }, { on := 2, ground := Ground.phase }, { on := 3, ground := Ground.phase }, { on := 4, ground := Ground.phase }, { on := 5, ground := Ground.phase }, { on := 6, ground := Ground.phase }, { on := 7, ground := Ground.phase }, { on := 8, ground := Ground.phase }, { on := 9, ground := Ground.phase }], guard := none }) rfl (fun K hK => ?_) AllReadyH.nil
        go_simp
        refine hK.out _ _ ?_ (fun s9 => ?_)
        · exact two_st (by omega) (by omega) s3
        clear hK K
        try simp only [Act.put, List.setIfInBounds_toArray, List.set_cons_zero, List.set_cons_succ]
        refine wpAnyH_done (by kernel_rfl) ?_ _
        go_wp2_with fail
        go_meet
        exact ⟨z2.heap.size, rfl, Lib.hid (bk_st N3.out a), Lib.hid (bk_fr (r := z2.heap.size) A3.out (by omega) a), Lib.hid (bk_fr (r := z2.heap.size) B3.out (by omega) a), Lib.hid (below_st (r := z2.heap.size) HB3.out (by omega) a)⟩
      · go_simp
        refine hK.out _ _ ?_ (fun s2 => ?_)
        · exact two_al s1 (.cells #[.int .u64 0, .int .u64 0] 24)
        clear hK K
        try simp only [Act.put, List.setIfInBounds_toArray, List.set_cons_zero, List.set_cons_succ]
        have N3 := Lib.hid (Bk.new z1 24 #[.int .u64 0, .int .u64 0])
        have A3 := Lib.hid (bk_al A1.out (.cells #[.int .u64 0, .int .u64 0] 24))
        have B3 := Lib.hid (bk_al B1.out (.cells #[.int .u64 0, .int .u64 0] 24))
        have HB3 := Lib.hid ((HB1.out).alloc (HB1.out).size (.cells #[.int .u64 0, .int .u64 0] 24))
        have k1 := A1.out.lt
        have k2 := B1.out.lt
        have kz := HB1.out.size
        generalize hW : World.alloc z1 (.cells #[.int .u64 0, .int .u64 0] 24) = W3 at *
        clear hW
        refine wpAnyH_ready (rs := [8]) (by kernel_rfl) (by simp) ?_
        refine AllReadyH.cons (o := { dst := some 24, op := Op.call { callee := Callee.value (Operand.func 12), args := #[Operand.tmp 23], argTypes := #[24] }, type := 24, pos := "outright.go:93", after := #[{ on := 7, ground := Ground.data }, { on := 2, ground := Ground.chain }], guard := none }) rfl (fun K hK => ?_) AllReadyH.nil
        go_simp
        (go_at_call 12; refine (may_at ⟨y, b.m &&& u3⟩ a _ _ rfl (bi_and _ _) EA.out _).mono ?_; rintro e z4 ⟨rfl, qb⟩)
        have N4 := Lib.hid (bk_keep (w := W3) N3.out qb)
        have A4 := Lib.hid (bk_keep (w := W3) A3.out qb)
        have B4 := Lib.hid (bk_keep (w := W3) B3.out qb)
        have HB4 := Lib.hid (below_then (w1 := W3) HB3.out qb (Nat.le_refl _))
        refine hK.out _ _ ?_ (fun s4 => ?_)
        · exact two_keep qb s2
        clear hK K qb
        try simp only [Act.put, List.setIfInBounds_toArray, List.set_cons_zero, List.set_cons_succ]
        obtain ⟨n0, n1⟩ := tcells N4.out
        have f0 := N4.out.frozen 0
        have f1 := N4.out.frozen 1
        refine wpAnyH_ready (rs := [10]) (by kernel_rfl) (by simp) ?_
        refine AllReadyH.cons (o := { dst := none, op := Op.store 24 (Operand.tmp 11) (Operand.tmp 24), type := 0, pos := "outright.go:93", after := #[{ on := 9, ground := Ground.data }, { on := 8, ground := Ground.data }, { on := 8, ground := Ground.chain }, { on := 0, ground := Ground.phase }, { on := 1, ground := Ground.phase }, { on := 2, ground := Ground.phase }, { on := 3, ground := Ground.phase }, { on := 4, ground := Ground.phase }, { on := 5, ground := Ground.phase }, { on := 6, ground := Ground.phase }, { on := 7, ground := Ground.phase }, { on := 8, ground := Ground.phase }, { on := 9, ground := Ground.phase }], guard := none }) rfl (fun K hK => ?_) AllReadyH.nil
        go_simp
        refine hK.out _ _ ?_ (fun s9 => ?_)
        · exact two_st (by omega) (by omega) s4
        clear hK K
        try simp only [Act.put, List.setIfInBounds_toArray, List.set_cons_zero, List.set_cons_succ]
        refine wpAnyH_done (by kernel_rfl) ?_ _
        go_wp2_with fail
        go_meet
        exact ⟨z1.heap.size, rfl, Lib.hid (bk_st N4.out a), Lib.hid (bk_fr (r := z1.heap.size) A4.out (by omega) a), Lib.hid (bk_fr (r := z1.heap.size) B4.out (by omega) a), Lib.hid (below_st (r := z1.heap.size) HB4.out (by omega) a)⟩
    · go_simp
      refine hK.out _ _ ?_ (fun s1 => ?_)
      · exact two_al s0 (.cells #[.int .u64 0, .int .u64 0] 24)
      clear hK K
      try simp only [Act.put, List.setIfInBounds_toArray, List.set_cons_zero, List.set_cons_succ]
      have N3 := Lib.hid (Bk.new v2 24 #[.int .u64 0, .int .u64 0]).drew
      have A3 := Lib.hid (bk_al A.out (.cells #[.int .u64 0, .int .u64 0] 24)).drew
      have B3 := Lib.hid (bk_al B.out (.cells #[.int .u64 0, .int .u64 0] 24)).drew
      have HB3 := Lib.hid (HB.out.alloc HB.out.size (.cells #[.int .u64 0, .int .u64 0] 24)).drew
      have k1 := A.out.lt
      have k2 := B.out.lt
      have kz := HB.out.size
      generalize hW : World.drew (World.alloc v2 (.cells #[.int .u64 0, .int .u64 0] 24)) = W3 at *
      clear hW
      refine wpAnyH_ready (rs := [2]) (by kernel_rfl) (by simp) ?_
      refine AllReadyH.cons (o := { dst := some 18, op := Op.call { callee := Callee.value (Operand.func 46), args := #[Operand.tmp 16, Operand.tmp 17], argTypes := #[24, 22] }, type := 22, pos := "outright.go:93", after := #[{ on := 0, ground := Ground.data }, { on := 1, ground := Ground.data }], guard := none }) rfl (fun K hK => ?_) AllReadyH.nil
      go_simp
      (go_at_call 46; with_reducible refine (one_to b u2 y EY.out _).mono ?_; rintro e z4 ⟨rfl, qb⟩)
      have N4 := Lib.hid (bk_keep (w := W3) N3.out qb)
      have A4 := Lib.hid (bk_keep (w := W3) A3.out qb)
      have B4 := Lib.hid (bk_keep (w := W3) B3.out qb)
      have HB4 := Lib.hid (below_then (w1 := W3) HB3.out qb (Nat.le_refl _))
      refine hK.out _ _ ?_ (fun s4 => ?_)
      · exact two_keep qb s1
      clear hK K qb
      try simp only [Act.put, List.setIfInBounds_toArray, List.set_cons_zero, List.set_cons_succ]
      refine wpAnyH_take (i := 7) (oi := { dst := some 23, op := Op.build 24 #[(0, Operand.tmp 18), (1, Operand.tmp 22)], type := 24, pos := "outright.go:93", after := #[{ on := 2, ground := Ground.data }, { on := 6, ground := Ground.data }], guard := none }) (v := ?_) rfl (by kernel_rfl) (by kernel_rfl) (by kernel_rfl) (fun _ _ _ h => h) (Or.inl ⟨by rfl, ?_⟩) s4 ?_
      rotate_left
      · intro w9 hSw
        try dsimp only at hSw
        go_simp
        try with_reducible rfl
      try simp only [Act.put, List.setIfInBounds_toArray, List.set_cons_zero, List.set_cons_succ]
      refine wpAnyH_ready (rs := [8]) (by kernel_rfl) (by simp) ?_
      refine AllReadyH.cons (o := { dst := some 24, op := Op.call { callee := Callee.value (Operand.func 12), args := #[Operand.tmp 23], argTypes := #[24] }, type := 24, pos := "outright.go:93", after := #[{ on := 7, ground := Ground.data }, { on := 2, ground := Ground.chain }], guard := none }) rfl (fun K hK => ?_) AllReadyH.nil
      go_simp
      (go_at_call 12; refine (may_at ⟨y, b.m &&& u3⟩ a _ _ rfl (bi_and _ _) EA.out _).mono ?_; rintro e z5 ⟨rfl, qb⟩)
      have N5 := Lib.hid (bk_keep (w := z4) N4.out qb)
      have A5 := Lib.hid (bk_keep (w := z4) A4.out qb)
      have B5 := Lib.hid (bk_keep (w := z4) B4.out qb)
      have HB5 := Lib.hid (below_then (w1 := z4) HB4.out qb (Nat.le_refl _))
      refine hK.out _ _ ?_ (fun s5 => ?_)
      · exact two_keep qb s4
      clear hK K qb
      try simp only [Act.put, List.setIfInBounds_toArray, List.set_cons_zero, List.set_cons_succ]
      obtain ⟨n0, n1⟩ := tcells N5.out
      have f0 := N5.out.frozen 0
      have f1 := N5.out.frozen 1
      refine wpAnyH_ready (rs := [10]) (by kernel_rfl) (by simp) ?_
      refine AllReadyH.cons (o := { dst := none, op := Op.store 24 (Operand.tmp 11) (Operand.tmp 24), type := 0, pos := "outright.go:93", after := #[{ on := 9, ground := Ground.data }, { on := 8, ground := Ground.data }, { on := 8, ground := Ground.chain }, { on := 0, ground := Ground.phase }, { on := 1, ground := Ground.phase }, { on := 2, ground := Ground.phase }, { on := 3, ground := Ground.phase }, { on := 4, ground := Ground.phase }, { on := 5, ground := Ground.phase }, { on := 6, ground := Ground.phase }, { on := 7, ground := Ground.phase }, { on := 8, ground := Ground.phase }, { on := 9, ground := Ground.phase }], guard := none }) rfl (fun K hK => ?_) AllReadyH.nil
      go_simp
      refine hK.out _ _ ?_ (fun s9 => ?_)
      · exact two_st (by omega) (by omega) s5
      clear hK K
      try simp only [Act.put, List.setIfInBounds_toArray, List.set_cons_zero, List.set_cons_succ]
      refine wpAnyH_done (by kernel_rfl) ?_ _
      go_wp2_with fail
      go_meet
      exact ⟨v2.heap.size, rfl, Lib.hid (bk_st N5.out a), Lib.hid (bk_fr (r := v2.heap.size) A5.out (by omega) a), Lib.hid (bk_fr (r := v2.heap.size) B5.out (by omega) a), Lib.hid (below_st (r := v2.heap.size) HB5.out (by omega) a)⟩
  case rest =>
    clear A B HB
    obtain ⟨g, rfl, G, A, B, HB⟩ := hcut
    obtain ⟨cG0, cG1⟩ := tcells G.out
    obtain ⟨cA0, cA1⟩ := tcells A.out
    obtain ⟨cB0, cB1⟩ := tcells B.out
    go_wp2_with fail
    with_reducible refine (within_to a b true WW.out _).mono ?_
    rintro e w21 ⟨rfl, qb⟩
    replace G := Lib.hid (bk_keep G.out qb)
    replace A := Lib.hid (bk_keep A.out qb)
    replace B := Lib.hid (bk_keep B.out qb)
    replace HB := Lib.hid (below_then HB.out qb (Nat.le_refl _))
    clear qb cG0 cG1 cA0 cA1 cB0 cB1
    obtain ⟨cG0, cG1⟩ := tcells G.out
    obtain ⟨cA0, cA1⟩ := tcells A.out
    obtain ⟨cB0, cB1⟩ := tcells B.out
    go_wp2_with fail
    simp only [List.append_eq, List.cons_append, List.nil_append]
    go_region_held3 (fun w' => w'.cell? ⟨g, 0, none⟩ = some (.int .u64 (bi a.v)) ∧ w'.cell? ⟨g, 1, none⟩ = some (.int .u64 (bi a.m)) ∧ w'.cell? ⟨w.heap.size, 0, none⟩ = some (.int .u64 (bi b.v)) ∧ w'.cell? ⟨w.heap.size, 1, none⟩ = some (.int .u64 (bi b.m)) ∧ w'.cell? ⟨w.heap.size + 1, 0, none⟩ = some (.int .u64 (bi c.v)) ∧ w'.cell? ⟨w.heap.size + 1, 1, none⟩ = some (.int .u64 (bi c.m)) ∧ Below w.heap.size w w')
      (first | exact ⟨cG0, cG1, cA0, cA1, cB0, cB1, HB.out.drew⟩ | exact sixk qb (by assumption) | exact sixk qb ⟨by assumption, by assumption, by assumption, by assumption, by assumption, by assumption, by assumption⟩ | exact sixk qb ⟨cG0, cG1, cA0, cA1, cB0, cB1, HB.out.drew⟩)
      (first | (go_at_call 26; with_reducible refine (add_any a c _).mono ?_; rintro e w2 ⟨rfl, qb⟩) | (go_at_call 26; with_reducible refine (add_any b c _).mono ?_; rintro e w2 ⟨rfl, qb⟩) | (go_at_call 21; with_reducible refine (within_to (addT a c) (addT b c) true (with_add MA.out MB.out MC.out WW.out) _).mono ?_; rintro e w2 ⟨rfl, qb⟩) | (go_at_call 28; with_reducible refine (sub_any a c _).mono ?_; rintro e w2 ⟨rfl, qb⟩) | (go_at_call 28; with_reducible refine (sub_any b c _).mono ?_; rintro e w2 ⟨rfl, qb⟩) | (go_at_call 21; with_reducible refine (within_to (subT a c) (subT b c) true (with_sub MA.out MB.out MC.out MC.out WW.out (with_self MC.out)) _).mono ?_; rintro e w2 ⟨rfl, qb⟩) | (go_at_call 28; with_reducible refine (sub_any c a _).mono ?_; rintro e w2 ⟨rfl, qb⟩) | (go_at_call 28; with_reducible refine (sub_any c b _).mono ?_; rintro e w2 ⟨rfl, qb⟩) | (go_at_call 21; with_reducible refine (within_to (subT c a) (subT c b) true (with_sub MC.out MC.out MA.out MB.out (with_self MC.out) WW.out) _).mono ?_; rintro e w2 ⟨rfl, qb⟩) | (go_at_call 32; with_reducible refine (and_any a c _).mono ?_; rintro e w2 ⟨rfl, qb⟩) | (go_at_call 32; with_reducible refine (and_any b c _).mono ?_; rintro e w2 ⟨rfl, qb⟩) | (go_at_call 21; with_reducible refine (within_to (andT a c) (andT b c) true (with_and MA.out MB.out MC.out WW.out) _).mono ?_; rintro e w2 ⟨rfl, qb⟩) | (go_at_call 34; with_reducible refine (or_any a c _).mono ?_; rintro e w2 ⟨rfl, qb⟩) | (go_at_call 34; with_reducible refine (or_any b c _).mono ?_; rintro e w2 ⟨rfl, qb⟩) | (go_at_call 21; with_reducible refine (within_to (orT a c) (orT b c) true (with_or MA.out MB.out MC.out WW.out) _).mono ?_; rintro e w2 ⟨rfl, qb⟩) | (go_at_call 36; with_reducible refine (xor_any a c _).mono ?_; rintro e w2 ⟨rfl, qb⟩) | (go_at_call 36; with_reducible refine (xor_any b c _).mono ?_; rintro e w2 ⟨rfl, qb⟩) | (go_at_call 21; with_reducible refine (within_to (xorT a c) (xorT b c) true (with_xor MA.out MB.out MC.out WW.out) _).mono ?_; rintro e w2 ⟨rfl, qb⟩) | (go_at_call 38; with_reducible refine (lsh_any a n4 k HK.out HN.out _).mono ?_; rintro e w2 ⟨rfl, qb⟩) | (go_at_call 38; with_reducible refine (lsh_any b n4 k HK.out HN.out _).mono ?_; rintro e w2 ⟨rfl, qb⟩) | (go_at_call 21; with_reducible refine (within_to (lshT a k) (lshT b k) true (with_lsh k MB.out WW.out) _).mono ?_; rintro e w2 ⟨rfl, qb⟩) | (go_at_call 42; with_reducible refine (ar_any a n4 k HK.out HN.out _).mono ?_; rintro e w2 ⟨rfl, qb⟩) | (go_at_call 42; with_reducible refine (ar_any b n4 k HK.out HN.out _).mono ?_; rintro e w2 ⟨rfl, qb⟩) | (go_at_call 21; with_reducible refine (within_to (arT a k) (arT b k) true (with_ar k MB.out WW.out) _).mono ?_; rintro e w2 ⟨rfl, qb⟩) | (go_at_call 25; with_reducible refine (known_any _).mono ?_; rintro e w2 ⟨rfl, qb⟩))
    have BB : Hid (Below w.heap.size w w2) := by
      rename_i hH
      exact Lib.hid hH.2.2.2.2.2.2
    clear qb
    go_wp2
    go_returns
    exact ⟨rfl, BB.out⟩

set_option maxRecDepth 100000 in
theorem lifted (os : Os) (started : os.Started) (H : Type) (enc : TypeId × Value → H) :
    ReturnsInHanded {} Try.checked os 10 .any (Rows.tnumMoreSpec.pre6 enc Try.prog Try.f10 Rows.tnumMoreRow.domain false) (Rows.tnumMoreSpec.post enc Try.prog Try.f10 false true false false) := by
  refine returnsInHanded_of_change (C := Try.checked) own started (by kernel_rfl) Try.func10
    (ChangeSpec.witness6 (enc := enc) (C := Try.checked) false ⟨#[], #[.agg #[.int .u64 0, .int .u64 0], .agg #[.int .u64 0, .int .u64 0], .int .u64 0, .int .u64 0, .int .i64 0], []⟩ 8 (by kernel_rfl) (by kernel_rfl) (by kernel_rfl) (by kernel_rfl)) ?_
  intro W base args ds gs before hval0 hW hcnd _
  have hval : ∀ (j : Nat) t v, Try.f10.params[j]? = some t → args[j]? = some v → Value.okWide Try.prog W .any base t v := hval0
  have hW' := hW
  obtain ⟨p, q, hA0, hV, rfl, hfz, hnd⟩ := hW
  have hA : DataW.TrodAll enc Try.prog W 0 (fun _ => true) true Try.f10.params.toList args.toList ds p := hA0
  rw [Try.params10] at hA hval
  obtain ⟨v0, vs0, d0, ds0, p0, q0, hargs, rfl, rfl, h0, r0⟩ := trodAll_cons hA
  obtain ⟨v1, vs1, d1, ds1, p1, q1, rfl, rfl, rfl, h1, r1⟩ := trodAll_cons r0
  obtain ⟨v2, vs2, d2, ds2, p2, q2, rfl, rfl, rfl, h2, r2⟩ := trodAll_cons r1
  obtain ⟨v3, vs3, d3, ds3, p3, q3, rfl, rfl, rfl, h3, r3⟩ := trodAll_cons r2
  obtain ⟨v4, vs4, d4, ds4, p4, q4, rfl, rfl, rfl, h4, r4⟩ := trodAll_cons r3
  obtain ⟨rfl, rfl, rfl⟩ := trodAll_nil r4
  obtain rfl : args = #[v0, v1, v2, v3, v4] := by cases args; simp_all
  obtain ⟨rfl, rfl⟩ := trodVars_none hV
  have k0 := h0
  have lt0 : ∀ x ∈ p0, x.block < W.heap.size := by obtain ⟨m, hm⟩ := k0; exact DataW.trod_lt m _ _ _ hm
  obtain ⟨x0, rfl⟩ := open_tn (hval 0 24 v0 rfl rfl) h0
  have k1 := h1
  have lt1 : ∀ x ∈ p1, x.block < W.heap.size := by obtain ⟨m, hm⟩ := k1; exact DataW.trod_lt m _ _ _ hm
  obtain ⟨x1, rfl⟩ := open_tn (hval 1 24 v1 rfl rfl) h1
  obtain ⟨n2, rfl, rfl, rfl, w2⟩ := open_int Try.underlying22 (hval 2 22 v2 rfl rfl) h2
  have ww2 := w2
  obtain ⟨u2, rfl⟩ := u64_bi w2
  obtain ⟨n3, rfl, rfl, rfl, w3⟩ := open_int Try.underlying22 (hval 3 22 v3 rfl rfl) h3
  have ww3 := w3
  obtain ⟨u3, rfl⟩ := u64_bi w3
  obtain ⟨n4, rfl, rfl, rfl, w4⟩ := open_int Try.underlying3 (hval 4 3 v4 rfl rfl) h4
  clear hA0 hval0
  refine (walk x0 x1 u2 u3 n4 W     w4).mono fun e W' ⟨he, bel⟩ => ?_
  subst he
  exact ⟨_, rfl, _, _, _, [], _, [], hW', trodAll_mk1 (shut_bool Try.underlying4 _), (trodAll_cons_mk (Below.trod laidOut (by kernel_rfl) (of_decide_eq_true (by kernel_rfl)) k0 bel lt0) (trodAll_cons_mk (Below.trod laidOut (by kernel_rfl) (of_decide_eq_true (by kernel_rfl)) k1 bel lt1) (trodAll_cons_mk (shut_int Try.underlying22 ww2) (trodAll_cons_mk (shut_int Try.underlying22 ww3) (trodAll_cons_mk (shut_int Try.underlying3 w4) trodAll_mk0))))), rfl, bel.frame _, fun h => by cases h⟩

theorem over : Rows.tnumMoreRow.holds Try.pinned (OpenSpec.ofChange Rows.tnumMoreSpec) :=
  OpenClaim.holds_of_wide 10 Try.f10 rfl rfl rfl rfl rfl rfl rfl ⟨rfl, rfl, rfl, rfl, rfl⟩ rfl rfl rfl rfl rfl (by kernel_rfl) Try.func10 (by kernel_rfl)
    (of_decide_eq_true (by kernel_rfl)) (by unfold Func.isWrapper; first | (rw [if_pos (by decide +kernel)]; kernel_rfl) | (rw [if_neg (by decide +kernel)]; exact ⟨rfl, rfl⟩))
    (fun os started H enc _ => lifted os started H enc)

theorem proved : Rows.TnumMoreSaid := over
#print axioms proved
end Go.Proofs.Ytjjiancacokaiaa.tnumMore
