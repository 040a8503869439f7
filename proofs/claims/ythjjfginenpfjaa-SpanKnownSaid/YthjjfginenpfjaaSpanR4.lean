/-
  What more of the document's functions of layer 4 tell (statements that draw their order): contracts. Conditions: the ends are numbers of 64 bits, Lo at most Hi.
-/
import Derived.Test.YthjjfginenpfjaaSpanR3
namespace Go.Proofs.Ythjjfginenpfjaa
open Go.RowKit Tn Ow Sp
set_option linter.unusedVariables false
set_option linter.unusedSimpArgs false
theorem big_div (y : Int) (h : 0 ≤ y) : IntKind.u64.wrap (Int.tdiv 18446744073709551615 y) = 18446744073709551615 / y := by
  rw [Int.tdiv_eq_ediv_of_nonneg (by decide)]
  exact wru _ (Int.ediv_nonneg (by decide) h) (Int.ediv_le_self y (by decide))
set_option maxHeartbeats 1000000 in
theorem rumul_any (a b : E) (ha : okU a) (hb : okU b) (w : World) :
    Calls Try.prog 26 #[.agg #[.int .u64 a.lo, .int .u64 a.hi], .agg #[.int .u64 b.lo, .int .u64 b.hi]] w fun e w' => e = .returned (.agg #[.int .u64 (uMul a b).lo, .int .u64 (uMul a b).hi]) ∧ Below w.heap.size w w' := by
  obtain ⟨a0, a1, a2⟩ := ha
  obtain ⟨b0, b1, b2⟩ := hb
  have p0 : 0 ≤ a.hi * b.hi := Int.mul_nonneg (by omega) (by omega)
  have p2 : a.lo * b.lo ≤ a.hi * b.hi := Int.mul_le_mul a1 b1 b0 (by omega)
  have p3 : 0 ≤ a.lo * b.lo := Int.mul_nonneg (by omega) (by omega)
  by_cases hz : b.hi = 0
  · have h : a.hi * b.hi ≤ 18446744073709551615 := by rw [hz, Int.mul_zero]; decide
    have e1 := Lib.hid (show uMul a b = ⟨a.lo * b.lo, a.hi * b.hi⟩ by unfold uMul; rw [if_pos h])
    rw [e1.out]
    have g1 : (b.hi != 0) = false := by simp [hz]
    have P0 := Lib.hid p0
    have P2 := Lib.hid p2
    have P3 := Lib.hid p3
    have HH := Lib.hid h
    clear p0 p2 p3 h hz
    go_enter Try.func26, Try.ntmps26
    go_wp2_with fail
    have K0 := (((Bk.new w 24 #[.int .u64 a.lo, .int .u64 a.hi]).alloc (.cells #[.int .u64 b.lo, .int .u64 b.hi] 24)).alloc (.cells #[.int .u64 0, .int .u64 0] 24))
    have K1 := ((Bk.new (w.alloc (.cells #[.int .u64 a.lo, .int .u64 a.hi] 24)) 24 #[.int .u64 b.lo, .int .u64 b.hi]).alloc (.cells #[.int .u64 0, .int .u64 0] 24))
    rw [World.size_alloc] at K1
    have K2 := (Bk.new ((w.alloc (.cells #[.int .u64 a.lo, .int .u64 a.hi] 24)).alloc (.cells #[.int .u64 b.lo, .int .u64 b.hi] 24)) 24 #[.int .u64 0, .int .u64 0])
    rw [World.size_alloc, World.size_alloc] at K2
    have B0 : Below w.heap.size w (((w.alloc (.cells #[.int .u64 a.lo, .int .u64 a.hi] 24)).alloc (.cells #[.int .u64 b.lo, .int .u64 b.hi] 24)).alloc (.cells #[.int .u64 0, .int .u64 0] 24)) := by go_grown
    generalize (((w.alloc (.cells #[.int .u64 a.lo, .int .u64 a.hi] 24)).alloc (.cells #[.int .u64 b.lo, .int .u64 b.hi] 24)).alloc (.cells #[.int .u64 0, .int .u64 0] 24)) = w0 at *
    have H0 := Lib.hid K0
    obtain ⟨c00, c01⟩ := tcells K0
    have H1 := Lib.hid K1
    obtain ⟨c10, c11⟩ := tcells K1
    have H2 := Lib.hid K2
    obtain ⟨c20, c21⟩ := tcells K2
    have f0 := K2.frozen 0
    have f1 := K2.frozen 1
    have HB := Lib.hid B0
    clear K0 K1 K2 B0
    refine wp_region_held_drew (S := fun w' => w'.cell? ⟨w.heap.size, 0, none⟩ = some (.int .u64 a.lo) ∧ w'.cell? ⟨w.heap.size, 1, none⟩ = some (.int .u64 a.hi) ∧ w'.cell? ⟨w.heap.size + 1, 0, none⟩ = some (.int .u64 b.lo) ∧ w'.cell? ⟨w.heap.size + 1, 1, none⟩ = some (.int .u64 b.hi) ∧ w'.cell? ⟨w.heap.size + 1 + 1, 0, none⟩ = some (cv w' (w.heap.size + 1 + 1) 0) ∧ w'.cell? ⟨w.heap.size + 1 + 1, 1, none⟩ = some (cv w' (w.heap.size + 1 + 1) 1) ∧ w'.frozen? ⟨w.heap.size + 1 + 1, 0, none⟩ = false ∧ w'.frozen? ⟨w.heap.size + 1 + 1, 1, none⟩ = false ∧ Below w.heap.size w w') (by kernel_rfl) ?_ (fun hHeld => ?_)
    · exact ⟨c00, c01, c10, c11, cv_some c20, cv_some c21, f0, f1, HB.out.drew⟩
    generalize w0.drew = z0 at *
    refine wpAnyH_take (i := 0) (oi := { dst := some 5, op := Op.fieldAddr 24 (Operand.tmp 3) 1, type := 0, pos := "ref.go:64", after := #[], guard := none }) (v := ?_) rfl (by kernel_rfl) (by kernel_rfl) (by kernel_rfl) (fun _ _ _ h => h) (Or.inl ⟨by rfl, ?_⟩) hHeld ?_
    rotate_left
    · intro w9 hSw
      try dsimp only at hSw
      go_simp
      try with_reducible rfl
    try simp only [Act.put, List.setIfInBounds_toArray, List.set_cons_zero, List.set_cons_succ]
    refine wpAnyH_take (i := 1) (oi := { dst := some 6, op := Op.load 22 (Operand.tmp 5), type := 22, pos := "ref.go:64", after := #[{ on := 0, ground := Ground.data }], guard := none }) (v := ?_) rfl (by kernel_rfl) (by kernel_rfl) (by kernel_rfl) (fun _ _ _ h => h) (Or.inl ⟨by rfl, ?_⟩) hHeld ?_
    rotate_left
    · intro w9 hSw
      try dsimp only at hSw
      go_simp
      try with_reducible rfl
    try simp only [Act.put, List.setIfInBounds_toArray, List.set_cons_zero, List.set_cons_succ]
    refine wpAnyH_take (i := 2) (oi := { dst := some 7, op := Op.binOp BinOp.neq 22 (Operand.tmp 6) (Operand.const (Value.int IntKind.u64 0)) 22, type := 4, pos := "ref.go:64", after := #[{ on := 1, ground := Ground.data }], guard := none }) (v := ?_) rfl (by kernel_rfl) (by kernel_rfl) (by kernel_rfl) (fun _ _ _ h => h) (Or.inl ⟨by rfl, ?_⟩) hHeld ?_
    rotate_left
    · intro w9 hSw
      try dsimp only at hSw
      go_simp
      try with_reducible rfl
    try simp only [Act.put, List.setIfInBounds_toArray, List.set_cons_zero, List.set_cons_succ]
    refine wpAnyH_take (i := 3) (oi := { dst := some 8, op := Op.move (Operand.tmp 7), type := 4, pos := "ref.go:64", after := #[{ on := 2, ground := Ground.data }], guard := none }) (v := ?_) rfl (by kernel_rfl) (by kernel_rfl) (by kernel_rfl) (fun _ _ _ h => h) (Or.inl ⟨by rfl, ?_⟩) hHeld ?_
    rotate_left
    · intro w9 hSw
      try dsimp only at hSw
      go_simp
      try with_reducible rfl
    try simp only [Act.put, List.setIfInBounds_toArray, List.set_cons_zero, List.set_cons_succ]
    refine wpAnyH_take (i := 4) (oi := { dst := some 9, op := Op.fieldAddr 24 (Operand.tmp 2) 1, type := 0, pos := "ref.go:64", after := #[{ on := 3, ground := Ground.guard }], guard := some (3, true) }) (v := undef) rfl (by kernel_rfl) (by kernel_rfl) (by kernel_rfl) (fun _ _ _ h => h) (Or.inr ⟨by rfl, rfl⟩) hHeld ?_
    try simp only [Act.put, List.setIfInBounds_toArray, List.set_cons_zero, List.set_cons_succ]
    refine wpAnyH_take (i := 5) (oi := { dst := some 10, op := Op.load 22 (Operand.tmp 9), type := 22, pos := "ref.go:64", after := #[{ on := 4, ground := Ground.data }, { on := 3, ground := Ground.guard }], guard := some (3, true) }) (v := undef) rfl (by kernel_rfl) (by kernel_rfl) (by kernel_rfl) (fun _ _ _ h => h) (Or.inr ⟨by rfl, rfl⟩) hHeld ?_
    try simp only [Act.put, List.setIfInBounds_toArray, List.set_cons_zero, List.set_cons_succ]
    refine wpAnyH_take (i := 6) (oi := { dst := some 11, op := Op.call { callee := Callee.value (Operand.func 46), args := #[], argTypes := #[] }, type := 24, pos := "ref.go:64", after := #[{ on := 3, ground := Ground.chain }, { on := 3, ground := Ground.guard }], guard := some (3, true) }) (v := undef) rfl (by kernel_rfl) (by kernel_rfl) (by kernel_rfl) (fun _ _ _ h => h) (Or.inr ⟨by rfl, rfl⟩) hHeld ?_
    try simp only [Act.put, List.setIfInBounds_toArray, List.set_cons_zero, List.set_cons_succ]
    refine wpAnyH_take (i := 7) (oi := { dst := some 12, op := Op.field 24 (Operand.tmp 11) 1, type := 22, pos := "ref.go:64", after := #[{ on := 6, ground := Ground.data }, { on := 3, ground := Ground.guard }], guard := some (3, true) }) (v := undef) rfl (by kernel_rfl) (by kernel_rfl) (by kernel_rfl) (fun _ _ _ h => h) (Or.inr ⟨by rfl, rfl⟩) hHeld ?_
    try simp only [Act.put, List.setIfInBounds_toArray, List.set_cons_zero, List.set_cons_succ]
    refine wpAnyH_take (i := 8) (oi := { dst := some 13, op := Op.fieldAddr 24 (Operand.tmp 3) 1, type := 0, pos := "ref.go:64", after := #[{ on := 3, ground := Ground.guard }], guard := some (3, true) }) (v := undef) rfl (by kernel_rfl) (by kernel_rfl) (by kernel_rfl) (fun _ _ _ h => h) (Or.inr ⟨by rfl, rfl⟩) hHeld ?_
    try simp only [Act.put, List.setIfInBounds_toArray, List.set_cons_zero, List.set_cons_succ]
    refine wpAnyH_take (i := 9) (oi := { dst := some 14, op := Op.load 22 (Operand.tmp 13), type := 22, pos := "ref.go:64", after := #[{ on := 8, ground := Ground.data }, { on := 3, ground := Ground.guard }], guard := some (3, true) }) (v := undef) rfl (by kernel_rfl) (by kernel_rfl) (by kernel_rfl) (fun _ _ _ h => h) (Or.inr ⟨by rfl, rfl⟩) hHeld ?_
    try simp only [Act.put, List.setIfInBounds_toArray, List.set_cons_zero, List.set_cons_succ]
    refine wpAnyH_take (i := 10) (oi := { dst := some 15, op := Op.binOp BinOp.quo 22 (Operand.tmp 12) (Operand.tmp 14) 22, type := 22, pos := "ref.go:64", after := #[{ on := 7, ground := Ground.data }, { on := 9, ground := Ground.data }, { on := 3, ground := Ground.guard }], guard := some (3, true) }) (v := undef) rfl (by kernel_rfl) (by kernel_rfl) (by kernel_rfl) (fun _ _ _ h => h) (Or.inr ⟨by rfl, rfl⟩) hHeld ?_
    try simp only [Act.put, List.setIfInBounds_toArray, List.set_cons_zero, List.set_cons_succ]
    refine wpAnyH_take (i := 11) (oi := { dst := some 16, op := Op.binOp BinOp.gtr 22 (Operand.tmp 10) (Operand.tmp 15) 22, type := 4, pos := "ref.go:64", after := #[{ on := 5, ground := Ground.data }, { on := 10, ground := Ground.data }, { on := 3, ground := Ground.guard }], guard := some (3, true) }) (v := undef) rfl (by kernel_rfl) (by kernel_rfl) (by kernel_rfl) (fun _ _ _ h => h) (Or.inr ⟨by rfl, rfl⟩) hHeld ?_
    try simp only [Act.put, List.setIfInBounds_toArray, List.set_cons_zero, List.set_cons_succ]
    refine wpAnyH_take (i := 12) (oi := { dst := some 17, op := Op.pick (Operand.tmp 8) (Operand.tmp 16) (Operand.const (Value.bool false)), type := 4, pos := "ref.go:64", after := #[{ on := 3, ground := Ground.data }, { on := 11, ground := Ground.data }], guard := none }) (v := ?_) rfl (by kernel_rfl) (by kernel_rfl) (by kernel_rfl) (fun _ _ _ h => h) (Or.inl ⟨by rfl, ?_⟩) hHeld ?_
    rotate_left
    · intro w9 hSw
      try dsimp only at hSw
      go_simp
      try with_reducible rfl
    try simp only [Act.put, List.setIfInBounds_toArray, List.set_cons_zero, List.set_cons_succ]
    refine wpAnyH_done (by kernel_rfl) ?_ _
    have KA := Lib.hid hHeld
    clear c00 c01 c10 c11 c20 c21 f0 f1 HB H0 H1 H2 hHeld
    obtain ⟨c00, c01, c10, c11, c20, c21, f0, f1, HB0⟩ := KA.out
    have HB := Lib.hid HB0
    clear HB0 KA
    generalize z0 = y1 at *
    go_wp2_with fail
    have r0 : ∀ u v, ((y1.setCell ⟨w.heap.size + 1 + 1, 0, none⟩ u).setCell ⟨w.heap.size + 1 + 1, 1, none⟩ v).cell? ⟨w.heap.size + 1 + 1, 0, none⟩ = some u := fun u v => set_fst c20
    have r1 : ∀ u v, ((y1.setCell ⟨w.heap.size + 1 + 1, 0, none⟩ u).setCell ⟨w.heap.size + 1 + 1, 1, none⟩ v).cell? ⟨w.heap.size + 1 + 1, 1, none⟩ = some v := fun u v => set_snd c21
    refine bodyPost_ret (by simp [results, Try.results26, r0, r1, go_sem]; try rfl) rfl ?_
    exact ⟨rt_u (show _ = a.lo * b.lo by have g1 := P2.out; have g2 := P3.out; have g3 := HH.out; first | rfl | (rw [IntKind.wrap_u64]; omega)) (show _ = a.hi * b.hi by have g1 := P0.out; have g3 := HH.out; first | rfl | (rw [IntKind.wrap_u64]; omega)), (below_st2 HB.out (by omega))⟩
  · by_cases h : a.hi * b.hi ≤ 18446744073709551615
    · have e1 := Lib.hid (show uMul a b = ⟨a.lo * b.lo, a.hi * b.hi⟩ by unfold uMul; rw [if_pos h])
      rw [e1.out]
      have i1 := fldU1
      have g1 : (b.hi != 0) = true := by simp [hz]
      have g2 : 0 < b.hi := by omega
      have g3 : (b.hi == 0) = false := by simp [hz]
      have d0 : a.hi ≤ 18446744073709551615 / b.hi := (Int.le_ediv_iff_mul_le g2).2 h
      have s1 : IntKind.u64.wrap (Int.tdiv 18446744073709551615 b.hi) = 18446744073709551615 / b.hi := big_div b.hi (by omega)
      have d1 : decide (18446744073709551615 / b.hi < a.hi) = false := decide_eq_false (by omega)
      have P0 := Lib.hid p0
      have P2 := Lib.hid p2
      have P3 := Lib.hid p3
      have HH := Lib.hid h
      clear p0 p2 p3 h d0
      go_enter Try.func26, Try.ntmps26
      go_wp2_with fail
      have K0 := (((Bk.new w 24 #[.int .u64 a.lo, .int .u64 a.hi]).alloc (.cells #[.int .u64 b.lo, .int .u64 b.hi] 24)).alloc (.cells #[.int .u64 0, .int .u64 0] 24))
      have K1 := ((Bk.new (w.alloc (.cells #[.int .u64 a.lo, .int .u64 a.hi] 24)) 24 #[.int .u64 b.lo, .int .u64 b.hi]).alloc (.cells #[.int .u64 0, .int .u64 0] 24))
      rw [World.size_alloc] at K1
      have K2 := (Bk.new ((w.alloc (.cells #[.int .u64 a.lo, .int .u64 a.hi] 24)).alloc (.cells #[.int .u64 b.lo, .int .u64 b.hi] 24)) 24 #[.int .u64 0, .int .u64 0])
      rw [World.size_alloc, World.size_alloc] at K2
      have B0 : Below w.heap.size w (((w.alloc (.cells #[.int .u64 a.lo, .int .u64 a.hi] 24)).alloc (.cells #[.int .u64 b.lo, .int .u64 b.hi] 24)).alloc (.cells #[.int .u64 0, .int .u64 0] 24)) := by go_grown
      generalize (((w.alloc (.cells #[.int .u64 a.lo, .int .u64 a.hi] 24)).alloc (.cells #[.int .u64 b.lo, .int .u64 b.hi] 24)).alloc (.cells #[.int .u64 0, .int .u64 0] 24)) = w0 at *
      have H0 := Lib.hid K0
      obtain ⟨c00, c01⟩ := tcells K0
      have H1 := Lib.hid K1
      obtain ⟨c10, c11⟩ := tcells K1
      have H2 := Lib.hid K2
      obtain ⟨c20, c21⟩ := tcells K2
      have f0 := K2.frozen 0
      have f1 := K2.frozen 1
      have HB := Lib.hid B0
      clear K0 K1 K2 B0
      refine wp_region_held_drew (S := fun w' => w'.cell? ⟨w.heap.size, 0, none⟩ = some (.int .u64 a.lo) ∧ w'.cell? ⟨w.heap.size, 1, none⟩ = some (.int .u64 a.hi) ∧ w'.cell? ⟨w.heap.size + 1, 0, none⟩ = some (.int .u64 b.lo) ∧ w'.cell? ⟨w.heap.size + 1, 1, none⟩ = some (.int .u64 b.hi) ∧ w'.cell? ⟨w.heap.size + 1 + 1, 0, none⟩ = some (cv w' (w.heap.size + 1 + 1) 0) ∧ w'.cell? ⟨w.heap.size + 1 + 1, 1, none⟩ = some (cv w' (w.heap.size + 1 + 1) 1) ∧ w'.frozen? ⟨w.heap.size + 1 + 1, 0, none⟩ = false ∧ w'.frozen? ⟨w.heap.size + 1 + 1, 1, none⟩ = false ∧ Below w.heap.size w w') (by kernel_rfl) ?_ (fun hHeld => ?_)
      · exact ⟨c00, c01, c10, c11, cv_some c20, cv_some c21, f0, f1, HB.out.drew⟩
      generalize w0.drew = z0 at *
      refine wpAnyH_take (i := 0) (oi := { dst := some 5, op := Op.fieldAddr 24 (Operand.tmp 3) 1, type := 0, pos := "ref.go:64", after := #[], guard := none }) (v := ?_) rfl (by kernel_rfl) (by kernel_rfl) (by kernel_rfl) (fun _ _ _ h => h) (Or.inl ⟨by rfl, ?_⟩) hHeld ?_
      rotate_left
      · intro w9 hSw
        try dsimp only at hSw
        go_simp
        try with_reducible rfl
      try simp only [Act.put, List.setIfInBounds_toArray, List.set_cons_zero, List.set_cons_succ]
      refine wpAnyH_take (i := 1) (oi := { dst := some 6, op := Op.load 22 (Operand.tmp 5), type := 22, pos := "ref.go:64", after := #[{ on := 0, ground := Ground.data }], guard := none }) (v := ?_) rfl (by kernel_rfl) (by kernel_rfl) (by kernel_rfl) (fun _ _ _ h => h) (Or.inl ⟨by rfl, ?_⟩) hHeld ?_
      rotate_left
      · intro w9 hSw
        try dsimp only at hSw
        go_simp
        try with_reducible rfl
      try simp only [Act.put, List.setIfInBounds_toArray, List.set_cons_zero, List.set_cons_succ]
      refine wpAnyH_take (i := 2) (oi := { dst := some 7, op := Op.binOp BinOp.neq 22 (Operand.tmp 6) (Operand.const (Value.int IntKind.u64 0)) 22, type := 4, pos := "ref.go:64", after := #[{ on := 1, ground := Ground.data }], guard := none }) (v := ?_) rfl (by kernel_rfl) (by kernel_rfl) (by kernel_rfl) (fun _ _ _ h => h) (Or.inl ⟨by rfl, ?_⟩) hHeld ?_
      rotate_left
      · intro w9 hSw
        try dsimp only at hSw
        go_simp
        try with_reducible rfl
      try simp only [Act.put, List.setIfInBounds_toArray, List.set_cons_zero, List.set_cons_succ]
      refine wpAnyH_take (i := 3) (oi := { dst := some 8, op := Op.move (Operand.tmp 7), type := 4, pos := "ref.go:64", after := #[{ on := 2, ground := Ground.data }], guard := none }) (v := ?_) rfl (by kernel_rfl) (by kernel_rfl) (by kernel_rfl) (fun _ _ _ h => h) (Or.inl ⟨by rfl, ?_⟩) hHeld ?_
      rotate_left
      · intro w9 hSw
        try dsimp only at hSw
        go_simp
        try with_reducible rfl
      try simp only [Act.put, List.setIfInBounds_toArray, List.set_cons_zero, List.set_cons_succ]
      refine wpAnyH_take (i := 4) (oi := { dst := some 9, op := Op.fieldAddr 24 (Operand.tmp 2) 1, type := 0, pos := "ref.go:64", after := #[{ on := 3, ground := Ground.guard }], guard := some (3, true) }) (v := ?_) rfl (by kernel_rfl) (by kernel_rfl) (by kernel_rfl) (fun _ _ _ h => h) (Or.inl ⟨by rfl, ?_⟩) hHeld ?_
      rotate_left
      · intro w9 hSw
        try dsimp only at hSw
        go_simp
        try with_reducible rfl
      try simp only [Act.put, List.setIfInBounds_toArray, List.set_cons_zero, List.set_cons_succ]
      refine wpAnyH_take (i := 5) (oi := { dst := some 10, op := Op.load 22 (Operand.tmp 9), type := 22, pos := "ref.go:64", after := #[{ on := 4, ground := Ground.data }, { on := 3, ground := Ground.guard }], guard := some (3, true) }) (v := ?_) rfl (by kernel_rfl) (by kernel_rfl) (by kernel_rfl) (fun _ _ _ h => h) (Or.inl ⟨by rfl, ?_⟩) hHeld ?_
      rotate_left
      · intro w9 hSw
        try dsimp only at hSw
        go_simp
        try with_reducible rfl
      try simp only [Act.put, List.setIfInBounds_toArray, List.set_cons_zero, List.set_cons_succ]
      refine wpAnyH_take (i := 8) (oi := { dst := some 13, op := Op.fieldAddr 24 (Operand.tmp 3) 1, type := 0, pos := "ref.go:64", after := #[{ on := 3, ground := Ground.guard }], guard := some (3, true) }) (v := ?_) rfl (by kernel_rfl) (by kernel_rfl) (by kernel_rfl) (fun _ _ _ h => h) (Or.inl ⟨by rfl, ?_⟩) hHeld ?_
      rotate_left
      · intro w9 hSw
        try dsimp only at hSw
        go_simp
        try with_reducible rfl
      try simp only [Act.put, List.setIfInBounds_toArray, List.set_cons_zero, List.set_cons_succ]
      refine wpAnyH_take (i := 9) (oi := { dst := some 14, op := Op.load 22 (Operand.tmp 13), type := 22, pos := "ref.go:64", after := #[{ on := 8, ground := Ground.data }, { on := 3, ground := Ground.guard }], guard := some (3, true) }) (v := ?_) rfl (by kernel_rfl) (by kernel_rfl) (by kernel_rfl) (fun _ _ _ h => h) (Or.inl ⟨by rfl, ?_⟩) hHeld ?_
      rotate_left
      · intro w9 hSw
        try dsimp only at hSw
        go_simp
        try with_reducible rfl
      try simp only [Act.put, List.setIfInBounds_toArray, List.set_cons_zero, List.set_cons_succ]
      refine wpAnyH_ready (rs := [6]) (by kernel_rfl) (by simp) ?_
      refine AllReadyH.cons (o := { dst := some 11, op := Op.call { callee := Callee.value (Operand.func 46), args := #[], argTypes := #[] }, type := 24, pos := "ref.go:64", after := #[{ on := 3, ground := Ground.chain }, { on := 3, ground := Ground.guard }], guard := some (3, true) }) rfl (fun K hK => ?_) AllReadyH.nil
      go_simp
      (go_at_call 46; with_reducible refine (ruall_lit _).mono ?_; rintro e z1 ⟨rfl, qb⟩)
      refine hK.out _ _ ?_ (fun g1 => ?_)
      · exact keepr4 qb hHeld
      clear hK K qb
      skip
      try simp only [Act.put, List.setIfInBounds_toArray, List.set_cons_zero, List.set_cons_succ]
      refine wpAnyH_take (i := 7) (oi := { dst := some 12, op := Op.field 24 (Operand.tmp 11) 1, type := 22, pos := "ref.go:64", after := #[{ on := 6, ground := Ground.data }, { on := 3, ground := Ground.guard }], guard := some (3, true) }) (v := ?_) rfl (by kernel_rfl) (by kernel_rfl) (by kernel_rfl) (fun _ _ _ h => h) (Or.inl ⟨by rfl, ?_⟩) g1 ?_
      rotate_left
      · intro w9 hSw
        try dsimp only at hSw
        go_simp
        try with_reducible rfl
      try simp only [Act.put, List.setIfInBounds_toArray, List.set_cons_zero, List.set_cons_succ]
      refine wpAnyH_take (i := 10) (oi := { dst := some 15, op := Op.binOp BinOp.quo 22 (Operand.tmp 12) (Operand.tmp 14) 22, type := 22, pos := "ref.go:64", after := #[{ on := 7, ground := Ground.data }, { on := 9, ground := Ground.data }, { on := 3, ground := Ground.guard }], guard := some (3, true) }) (v := ?_) rfl (by kernel_rfl) (by kernel_rfl) (by kernel_rfl) (fun _ _ _ h => h) (Or.inl ⟨by rfl, ?_⟩) g1 ?_
      rotate_left
      · intro w9 hSw
        try dsimp only at hSw
        go_simp
        try with_reducible rfl
      try simp only [Act.put, List.setIfInBounds_toArray, List.set_cons_zero, List.set_cons_succ]
      refine wpAnyH_take (i := 11) (oi := { dst := some 16, op := Op.binOp BinOp.gtr 22 (Operand.tmp 10) (Operand.tmp 15) 22, type := 4, pos := "ref.go:64", after := #[{ on := 5, ground := Ground.data }, { on := 10, ground := Ground.data }, { on := 3, ground := Ground.guard }], guard := some (3, true) }) (v := ?_) rfl (by kernel_rfl) (by kernel_rfl) (by kernel_rfl) (fun _ _ _ h => h) (Or.inl ⟨by rfl, ?_⟩) g1 ?_
      rotate_left
      · intro w9 hSw
        try dsimp only at hSw
        go_simp
        try with_reducible rfl
      try simp only [Act.put, List.setIfInBounds_toArray, List.set_cons_zero, List.set_cons_succ]
      refine wpAnyH_take (i := 12) (oi := { dst := some 17, op := Op.pick (Operand.tmp 8) (Operand.tmp 16) (Operand.const (Value.bool false)), type := 4, pos := "ref.go:64", after := #[{ on := 3, ground := Ground.data }, { on := 11, ground := Ground.data }], guard := none }) (v := ?_) rfl (by kernel_rfl) (by kernel_rfl) (by kernel_rfl) (fun _ _ _ h => h) (Or.inl ⟨by rfl, ?_⟩) g1 ?_
      rotate_left
      · intro w9 hSw
        try dsimp only at hSw
        go_simp
        try with_reducible rfl
      try simp only [Act.put, List.setIfInBounds_toArray, List.set_cons_zero, List.set_cons_succ]
      refine wpAnyH_done (by kernel_rfl) ?_ _
      have KA := Lib.hid g1
      clear c00 c01 c10 c11 c20 c21 f0 f1 HB H0 H1 H2 g1
      obtain ⟨c00, c01, c10, c11, c20, c21, f0, f1, HB0⟩ := KA.out
      have HB := Lib.hid HB0
      clear HB0 KA
      generalize z1 = y1 at *
      go_wp2_with fail
      have r0 : ∀ u v, ((y1.setCell ⟨w.heap.size + 1 + 1, 0, none⟩ u).setCell ⟨w.heap.size + 1 + 1, 1, none⟩ v).cell? ⟨w.heap.size + 1 + 1, 0, none⟩ = some u := fun u v => set_fst c20
      have r1 : ∀ u v, ((y1.setCell ⟨w.heap.size + 1 + 1, 0, none⟩ u).setCell ⟨w.heap.size + 1 + 1, 1, none⟩ v).cell? ⟨w.heap.size + 1 + 1, 1, none⟩ = some v := fun u v => set_snd c21
      refine bodyPost_ret (by simp [results, Try.results26, r0, r1, go_sem]; try rfl) rfl ?_
      exact ⟨rt_u (show _ = a.lo * b.lo by have g1 := P2.out; have g2 := P3.out; have g3 := HH.out; first | rfl | (rw [IntKind.wrap_u64]; omega)) (show _ = a.hi * b.hi by have g1 := P0.out; have g3 := HH.out; first | rfl | (rw [IntKind.wrap_u64]; omega)), (below_st2 HB.out (by omega))⟩
    · have e1 := Lib.hid (show uMul a b = uAll by unfold uMul; rw [if_neg h])
      rw [e1.out]
      have i1 := fldU1
      have g1 : (b.hi != 0) = true := by simp [hz]
      have g2 : 0 < b.hi := by omega
      have g3 : (b.hi == 0) = false := by simp [hz]
      have d0 : ¬ a.hi ≤ 18446744073709551615 / b.hi := fun g => h ((Int.le_ediv_iff_mul_le g2).1 g)
      have s1 : IntKind.u64.wrap (Int.tdiv 18446744073709551615 b.hi) = 18446744073709551615 / b.hi := big_div b.hi (by omega)
      have d1 : decide (18446744073709551615 / b.hi < a.hi) = true := decide_eq_true (by omega)
      clear p0 p2 p3 h d0
      go_enter Try.func26, Try.ntmps26
      go_wp2_with fail
      have K0 := (((Bk.new w 24 #[.int .u64 a.lo, .int .u64 a.hi]).alloc (.cells #[.int .u64 b.lo, .int .u64 b.hi] 24)).alloc (.cells #[.int .u64 0, .int .u64 0] 24))
      have K1 := ((Bk.new (w.alloc (.cells #[.int .u64 a.lo, .int .u64 a.hi] 24)) 24 #[.int .u64 b.lo, .int .u64 b.hi]).alloc (.cells #[.int .u64 0, .int .u64 0] 24))
      rw [World.size_alloc] at K1
      have K2 := (Bk.new ((w.alloc (.cells #[.int .u64 a.lo, .int .u64 a.hi] 24)).alloc (.cells #[.int .u64 b.lo, .int .u64 b.hi] 24)) 24 #[.int .u64 0, .int .u64 0])
      rw [World.size_alloc, World.size_alloc] at K2
      have B0 : Below w.heap.size w (((w.alloc (.cells #[.int .u64 a.lo, .int .u64 a.hi] 24)).alloc (.cells #[.int .u64 b.lo, .int .u64 b.hi] 24)).alloc (.cells #[.int .u64 0, .int .u64 0] 24)) := by go_grown
      generalize (((w.alloc (.cells #[.int .u64 a.lo, .int .u64 a.hi] 24)).alloc (.cells #[.int .u64 b.lo, .int .u64 b.hi] 24)).alloc (.cells #[.int .u64 0, .int .u64 0] 24)) = w0 at *
      have H0 := Lib.hid K0
      obtain ⟨c00, c01⟩ := tcells K0
      have H1 := Lib.hid K1
      obtain ⟨c10, c11⟩ := tcells K1
      have H2 := Lib.hid K2
      obtain ⟨c20, c21⟩ := tcells K2
      have f0 := K2.frozen 0
      have f1 := K2.frozen 1
      have HB := Lib.hid B0
      clear K0 K1 K2 B0
      refine wp_region_held_drew (S := fun w' => w'.cell? ⟨w.heap.size, 0, none⟩ = some (.int .u64 a.lo) ∧ w'.cell? ⟨w.heap.size, 1, none⟩ = some (.int .u64 a.hi) ∧ w'.cell? ⟨w.heap.size + 1, 0, none⟩ = some (.int .u64 b.lo) ∧ w'.cell? ⟨w.heap.size + 1, 1, none⟩ = some (.int .u64 b.hi) ∧ w'.cell? ⟨w.heap.size + 1 + 1, 0, none⟩ = some (cv w' (w.heap.size + 1 + 1) 0) ∧ w'.cell? ⟨w.heap.size + 1 + 1, 1, none⟩ = some (cv w' (w.heap.size + 1 + 1) 1) ∧ w'.frozen? ⟨w.heap.size + 1 + 1, 0, none⟩ = false ∧ w'.frozen? ⟨w.heap.size + 1 + 1, 1, none⟩ = false ∧ Below w.heap.size w w') (by kernel_rfl) ?_ (fun hHeld => ?_)
      · exact ⟨c00, c01, c10, c11, cv_some c20, cv_some c21, f0, f1, HB.out.drew⟩
      generalize w0.drew = z0 at *
      refine wpAnyH_take (i := 0) (oi := { dst := some 5, op := Op.fieldAddr 24 (Operand.tmp 3) 1, type := 0, pos := "ref.go:64", after := #[], guard := none }) (v := ?_) rfl (by kernel_rfl) (by kernel_rfl) (by kernel_rfl) (fun _ _ _ h => h) (Or.inl ⟨by rfl, ?_⟩) hHeld ?_
      rotate_left
      · intro w9 hSw
        try dsimp only at hSw
        go_simp
        try with_reducible rfl
      try simp only [Act.put, List.setIfInBounds_toArray, List.set_cons_zero, List.set_cons_succ]
      refine wpAnyH_take (i := 1) (oi := { dst := some 6, op := Op.load 22 (Operand.tmp 5), type := 22, pos := "ref.go:64", after := #[{ on := 0, ground := Ground.data }], guard := none }) (v := ?_) rfl (by kernel_rfl) (by kernel_rfl) (by kernel_rfl) (fun _ _ _ h => h) (Or.inl ⟨by rfl, ?_⟩) hHeld ?_
      rotate_left
      · intro w9 hSw
        try dsimp only at hSw
        go_simp
        try with_reducible rfl
      try simp only [Act.put, List.setIfInBounds_toArray, List.set_cons_zero, List.set_cons_succ]
      refine wpAnyH_take (i := 2) (oi := { dst := some 7, op := Op.binOp BinOp.neq 22 (Operand.tmp 6) (Operand.const (Value.int IntKind.u64 0)) 22, type := 4, pos := "ref.go:64", after := #[{ on := 1, ground := Ground.data }], guard := none }) (v := ?_) rfl (by kernel_rfl) (by kernel_rfl) (by kernel_rfl) (fun _ _ _ h => h) (Or.inl ⟨by rfl, ?_⟩) hHeld ?_
      rotate_left
      · intro w9 hSw
        try dsimp only at hSw
        go_simp
        try with_reducible rfl
      try simp only [Act.put, List.setIfInBounds_toArray, List.set_cons_zero, List.set_cons_succ]
      refine wpAnyH_take (i := 3) (oi := { dst := some 8, op := Op.move (Operand.tmp 7), type := 4, pos := "ref.go:64", after := #[{ on := 2, ground := Ground.data }], guard := none }) (v := ?_) rfl (by kernel_rfl) (by kernel_rfl) (by kernel_rfl) (fun _ _ _ h => h) (Or.inl ⟨by rfl, ?_⟩) hHeld ?_
      rotate_left
      · intro w9 hSw
        try dsimp only at hSw
        go_simp
        try with_reducible rfl
      try simp only [Act.put, List.setIfInBounds_toArray, List.set_cons_zero, List.set_cons_succ]
      refine wpAnyH_take (i := 4) (oi := { dst := some 9, op := Op.fieldAddr 24 (Operand.tmp 2) 1, type := 0, pos := "ref.go:64", after := #[{ on := 3, ground := Ground.guard }], guard := some (3, true) }) (v := ?_) rfl (by kernel_rfl) (by kernel_rfl) (by kernel_rfl) (fun _ _ _ h => h) (Or.inl ⟨by rfl, ?_⟩) hHeld ?_
      rotate_left
      · intro w9 hSw
        try dsimp only at hSw
        go_simp
        try with_reducible rfl
      try simp only [Act.put, List.setIfInBounds_toArray, List.set_cons_zero, List.set_cons_succ]
      refine wpAnyH_take (i := 5) (oi := { dst := some 10, op := Op.load 22 (Operand.tmp 9), type := 22, pos := "ref.go:64", after := #[{ on := 4, ground := Ground.data }, { on := 3, ground := Ground.guard }], guard := some (3, true) }) (v := ?_) rfl (by kernel_rfl) (by kernel_rfl) (by kernel_rfl) (fun _ _ _ h => h) (Or.inl ⟨by rfl, ?_⟩) hHeld ?_
      rotate_left
      · intro w9 hSw
        try dsimp only at hSw
        go_simp
        try with_reducible rfl
      try simp only [Act.put, List.setIfInBounds_toArray, List.set_cons_zero, List.set_cons_succ]
      refine wpAnyH_take (i := 8) (oi := { dst := some 13, op := Op.fieldAddr 24 (Operand.tmp 3) 1, type := 0, pos := "ref.go:64", after := #[{ on := 3, ground := Ground.guard }], guard := some (3, true) }) (v := ?_) rfl (by kernel_rfl) (by kernel_rfl) (by kernel_rfl) (fun _ _ _ h => h) (Or.inl ⟨by rfl, ?_⟩) hHeld ?_
      rotate_left
      · intro w9 hSw
        try dsimp only at hSw
        go_simp
        try with_reducible rfl
      try simp only [Act.put, List.setIfInBounds_toArray, List.set_cons_zero, List.set_cons_succ]
      refine wpAnyH_take (i := 9) (oi := { dst := some 14, op := Op.load 22 (Operand.tmp 13), type := 22, pos := "ref.go:64", after := #[{ on := 8, ground := Ground.data }, { on := 3, ground := Ground.guard }], guard := some (3, true) }) (v := ?_) rfl (by kernel_rfl) (by kernel_rfl) (by kernel_rfl) (fun _ _ _ h => h) (Or.inl ⟨by rfl, ?_⟩) hHeld ?_
      rotate_left
      · intro w9 hSw
        try dsimp only at hSw
        go_simp
        try with_reducible rfl
      try simp only [Act.put, List.setIfInBounds_toArray, List.set_cons_zero, List.set_cons_succ]
      refine wpAnyH_ready (rs := [6]) (by kernel_rfl) (by simp) ?_
      refine AllReadyH.cons (o := { dst := some 11, op := Op.call { callee := Callee.value (Operand.func 46), args := #[], argTypes := #[] }, type := 24, pos := "ref.go:64", after := #[{ on := 3, ground := Ground.chain }, { on := 3, ground := Ground.guard }], guard := some (3, true) }) rfl (fun K hK => ?_) AllReadyH.nil
      go_simp
      (go_at_call 46; with_reducible refine (ruall_lit _).mono ?_; rintro e z1 ⟨rfl, qb⟩)
      refine hK.out _ _ ?_ (fun g1 => ?_)
      · exact keepr4 qb hHeld
      clear hK K qb
      skip
      try simp only [Act.put, List.setIfInBounds_toArray, List.set_cons_zero, List.set_cons_succ]
      refine wpAnyH_take (i := 7) (oi := { dst := some 12, op := Op.field 24 (Operand.tmp 11) 1, type := 22, pos := "ref.go:64", after := #[{ on := 6, ground := Ground.data }, { on := 3, ground := Ground.guard }], guard := some (3, true) }) (v := ?_) rfl (by kernel_rfl) (by kernel_rfl) (by kernel_rfl) (fun _ _ _ h => h) (Or.inl ⟨by rfl, ?_⟩) g1 ?_
      rotate_left
      · intro w9 hSw
        try dsimp only at hSw
        go_simp
        try with_reducible rfl
      try simp only [Act.put, List.setIfInBounds_toArray, List.set_cons_zero, List.set_cons_succ]
      refine wpAnyH_take (i := 10) (oi := { dst := some 15, op := Op.binOp BinOp.quo 22 (Operand.tmp 12) (Operand.tmp 14) 22, type := 22, pos := "ref.go:64", after := #[{ on := 7, ground := Ground.data }, { on := 9, ground := Ground.data }, { on := 3, ground := Ground.guard }], guard := some (3, true) }) (v := ?_) rfl (by kernel_rfl) (by kernel_rfl) (by kernel_rfl) (fun _ _ _ h => h) (Or.inl ⟨by rfl, ?_⟩) g1 ?_
      rotate_left
      · intro w9 hSw
        try dsimp only at hSw
        go_simp
        try with_reducible rfl
      try simp only [Act.put, List.setIfInBounds_toArray, List.set_cons_zero, List.set_cons_succ]
      refine wpAnyH_take (i := 11) (oi := { dst := some 16, op := Op.binOp BinOp.gtr 22 (Operand.tmp 10) (Operand.tmp 15) 22, type := 4, pos := "ref.go:64", after := #[{ on := 5, ground := Ground.data }, { on := 10, ground := Ground.data }, { on := 3, ground := Ground.guard }], guard := some (3, true) }) (v := ?_) rfl (by kernel_rfl) (by kernel_rfl) (by kernel_rfl) (fun _ _ _ h => h) (Or.inl ⟨by rfl, ?_⟩) g1 ?_
      rotate_left
      · intro w9 hSw
        try dsimp only at hSw
        go_simp
        try with_reducible rfl
      try simp only [Act.put, List.setIfInBounds_toArray, List.set_cons_zero, List.set_cons_succ]
      refine wpAnyH_take (i := 12) (oi := { dst := some 17, op := Op.pick (Operand.tmp 8) (Operand.tmp 16) (Operand.const (Value.bool false)), type := 4, pos := "ref.go:64", after := #[{ on := 3, ground := Ground.data }, { on := 11, ground := Ground.data }], guard := none }) (v := ?_) rfl (by kernel_rfl) (by kernel_rfl) (by kernel_rfl) (fun _ _ _ h => h) (Or.inl ⟨by rfl, ?_⟩) g1 ?_
      rotate_left
      · intro w9 hSw
        try dsimp only at hSw
        go_simp
        try with_reducible rfl
      try simp only [Act.put, List.setIfInBounds_toArray, List.set_cons_zero, List.set_cons_succ]
      refine wpAnyH_done (by kernel_rfl) ?_ _
      have KA := Lib.hid g1
      clear c00 c01 c10 c11 c20 c21 f0 f1 HB H0 H1 H2 g1
      obtain ⟨c00, c01, c10, c11, c20, c21, f0, f1, HB0⟩ := KA.out
      have HB := Lib.hid HB0
      clear HB0 KA
      generalize z1 = y1 at *
      go_wp2_with fail
      with_reducible refine (ruall_any _).mono ?_
      rintro e w1 ⟨rfl, qb⟩
      replace f0 := keepf qb (World.block_lt_of_cell? _ _ c20) f0
      replace f1 := keepf qb (World.block_lt_of_cell? _ _ c21) f1
      replace c00 := keep1 qb c00
      replace c01 := keep1 qb c01
      replace c10 := keep1 qb c10
      replace c11 := keep1 qb c11
      replace c20 := keep1 qb c20
      replace c21 := keep1 qb c21
      replace HB := Lib.hid (below_then HB.out qb (Nat.le_refl _))
      clear qb
      go_wp2_with fail
      have r0 : ∀ u v, ((w1.setCell ⟨w.heap.size + 1 + 1, 0, none⟩ u).setCell ⟨w.heap.size + 1 + 1, 1, none⟩ v).cell? ⟨w.heap.size + 1 + 1, 0, none⟩ = some u := fun u v => set_fst c20
      have r1 : ∀ u v, ((w1.setCell ⟨w.heap.size + 1 + 1, 0, none⟩ u).setCell ⟨w.heap.size + 1 + 1, 1, none⟩ v).cell? ⟨w.heap.size + 1 + 1, 1, none⟩ = some v := fun u v => set_snd c21
      refine bodyPost_ret (by simp [results, Try.results26, r0, r1, go_sem]; try rfl) rfl ?_
      exact ⟨rt_u rfl rfl, (below_st2 HB.out (by omega))⟩
theorem rudiv_any (a b : E) (ha : okU a) (hb : okU b) (w : World) :
    Calls Try.prog 28 #[.agg #[.int .u64 a.lo, .int .u64 a.hi], .agg #[.int .u64 b.lo, .int .u64 b.hi]] w fun e w' => e = .returned (.agg #[.int .u64 (uDiv a b).lo, .int .u64 (uDiv a b).hi]) ∧ Below w.heap.size w w' := by
  obtain ⟨a0, a1, a2⟩ := ha
  obtain ⟨b0, b1, b2⟩ := hb
  by_cases h : b.lo = b.hi ∧ b.lo ≠ 0
  · have e1 := Lib.hid (show uDiv a b = ⟨a.lo / b.lo, a.hi / b.lo⟩ by unfold uDiv; rw [if_pos h])
    rw [e1.out]
    have L := Lib.hid (show (b.lo == b.hi) = true by simp [h.1])
    have g : 0 < b.lo := by omega
    have g0 : (b.lo == 0) = false := by simp [h.2]
    clear h
    go_enter Try.func28, Try.ntmps28
    go_wp2_with fail
    have K0 := (((Bk.new w 24 #[.int .u64 a.lo, .int .u64 a.hi]).alloc (.cells #[.int .u64 b.lo, .int .u64 b.hi] 24)).alloc (.cells #[.int .u64 0, .int .u64 0] 24))
    have K1 := ((Bk.new (w.alloc (.cells #[.int .u64 a.lo, .int .u64 a.hi] 24)) 24 #[.int .u64 b.lo, .int .u64 b.hi]).alloc (.cells #[.int .u64 0, .int .u64 0] 24))
    rw [World.size_alloc] at K1
    have K2 := (Bk.new ((w.alloc (.cells #[.int .u64 a.lo, .int .u64 a.hi] 24)).alloc (.cells #[.int .u64 b.lo, .int .u64 b.hi] 24)) 24 #[.int .u64 0, .int .u64 0])
    rw [World.size_alloc, World.size_alloc] at K2
    have B0 : Below w.heap.size w (((w.alloc (.cells #[.int .u64 a.lo, .int .u64 a.hi] 24)).alloc (.cells #[.int .u64 b.lo, .int .u64 b.hi] 24)).alloc (.cells #[.int .u64 0, .int .u64 0] 24)) := by go_grown
    generalize (((w.alloc (.cells #[.int .u64 a.lo, .int .u64 a.hi] 24)).alloc (.cells #[.int .u64 b.lo, .int .u64 b.hi] 24)).alloc (.cells #[.int .u64 0, .int .u64 0] 24)) = w0 at *
    have H0 := Lib.hid K0
    obtain ⟨c00, c01⟩ := tcells K0
    have H1 := Lib.hid K1
    obtain ⟨c10, c11⟩ := tcells K1
    have H2 := Lib.hid K2
    obtain ⟨c20, c21⟩ := tcells K2
    have f0 := K2.frozen 0
    have f1 := K2.frozen 1
    have HB := Lib.hid B0
    clear K0 K1 K2 B0
    with_reducible refine (ralone_to b _ L.out _).mono ?_
    rintro e w1 ⟨rfl, qb⟩
    replace f0 := keepf qb (World.block_lt_of_cell? _ _ c20) f0
    replace f1 := keepf qb (World.block_lt_of_cell? _ _ c21) f1
    replace c00 := keep1 qb c00
    replace c01 := keep1 qb c01
    replace c10 := keep1 qb c10
    replace c11 := keep1 qb c11
    replace c20 := keep1 qb c20
    replace c21 := keep1 qb c21
    replace H0 := Lib.hid (H0.out.below qb H0.out.lt)
    replace H1 := Lib.hid (H1.out.below qb H1.out.lt)
    replace H2 := Lib.hid (H2.out.below qb H2.out.lt)
    replace HB := Lib.hid (below_then HB.out qb (Nat.le_refl _))
    clear qb
    go_wp2_with fail
    go_region
    go_wp2_with fail
    have r0 : ∀ u v, ((w1.setCell ⟨w.heap.size + 1 + 1, 0, none⟩ u).setCell ⟨w.heap.size + 1 + 1, 1, none⟩ v).drew.cell? ⟨w.heap.size + 1 + 1, 0, none⟩ = some u := fun u v => set_fst c20
    have r1 : ∀ u v, ((w1.setCell ⟨w.heap.size + 1 + 1, 0, none⟩ u).setCell ⟨w.heap.size + 1 + 1, 1, none⟩ v).drew.cell? ⟨w.heap.size + 1 + 1, 1, none⟩ = some v := fun u v => set_snd c21
    refine bodyPost_ret (by simp [results, Try.results28, r0, r1, go_sem]; try rfl) rfl ?_
    exact ⟨rt_u rfl rfl, (below_st2 HB.out (by omega)).drew⟩
  · have e1 := Lib.hid (show uDiv a b = ⟨0, a.hi⟩ by unfold uDiv; rw [if_neg h])
    by_cases hl : b.lo = b.hi
    · have hq : b.lo = 0 := Decidable.byContradiction fun g => h ⟨hl, g⟩
      rw [e1.out]
      have L := Lib.hid (show (b.lo == b.hi) = true by simp [hl])
      have g0 : (b.lo == 0) = true := by simp [hq]
      clear h hl hq
      go_enter Try.func28, Try.ntmps28
      go_wp2_with fail
      have K0 := (((Bk.new w 24 #[.int .u64 a.lo, .int .u64 a.hi]).alloc (.cells #[.int .u64 b.lo, .int .u64 b.hi] 24)).alloc (.cells #[.int .u64 0, .int .u64 0] 24))
      have K1 := ((Bk.new (w.alloc (.cells #[.int .u64 a.lo, .int .u64 a.hi] 24)) 24 #[.int .u64 b.lo, .int .u64 b.hi]).alloc (.cells #[.int .u64 0, .int .u64 0] 24))
      rw [World.size_alloc] at K1
      have K2 := (Bk.new ((w.alloc (.cells #[.int .u64 a.lo, .int .u64 a.hi] 24)).alloc (.cells #[.int .u64 b.lo, .int .u64 b.hi] 24)) 24 #[.int .u64 0, .int .u64 0])
      rw [World.size_alloc, World.size_alloc] at K2
      have B0 : Below w.heap.size w (((w.alloc (.cells #[.int .u64 a.lo, .int .u64 a.hi] 24)).alloc (.cells #[.int .u64 b.lo, .int .u64 b.hi] 24)).alloc (.cells #[.int .u64 0, .int .u64 0] 24)) := by go_grown
      generalize (((w.alloc (.cells #[.int .u64 a.lo, .int .u64 a.hi] 24)).alloc (.cells #[.int .u64 b.lo, .int .u64 b.hi] 24)).alloc (.cells #[.int .u64 0, .int .u64 0] 24)) = w0 at *
      have H0 := Lib.hid K0
      obtain ⟨c00, c01⟩ := tcells K0
      have H1 := Lib.hid K1
      obtain ⟨c10, c11⟩ := tcells K1
      have H2 := Lib.hid K2
      obtain ⟨c20, c21⟩ := tcells K2
      have f0 := K2.frozen 0
      have f1 := K2.frozen 1
      have HB := Lib.hid B0
      clear K0 K1 K2 B0
      with_reducible refine (ralone_to b _ L.out _).mono ?_
      rintro e w1 ⟨rfl, qb⟩
      replace f0 := keepf qb (World.block_lt_of_cell? _ _ c20) f0
      replace f1 := keepf qb (World.block_lt_of_cell? _ _ c21) f1
      replace c00 := keep1 qb c00
      replace c01 := keep1 qb c01
      replace c10 := keep1 qb c10
      replace c11 := keep1 qb c11
      replace c20 := keep1 qb c20
      replace c21 := keep1 qb c21
      replace H0 := Lib.hid (H0.out.below qb H0.out.lt)
      replace H1 := Lib.hid (H1.out.below qb H1.out.lt)
      replace H2 := Lib.hid (H2.out.below qb H2.out.lt)
      replace HB := Lib.hid (below_then HB.out qb (Nat.le_refl _))
      clear qb
      go_wp2_with fail
      have r0 : ∀ u v, ((w1.setCell ⟨w.heap.size + 1 + 1, 0, none⟩ u).setCell ⟨w.heap.size + 1 + 1, 1, none⟩ v).cell? ⟨w.heap.size + 1 + 1, 0, none⟩ = some u := fun u v => set_fst c20
      have r1 : ∀ u v, ((w1.setCell ⟨w.heap.size + 1 + 1, 0, none⟩ u).setCell ⟨w.heap.size + 1 + 1, 1, none⟩ v).cell? ⟨w.heap.size + 1 + 1, 1, none⟩ = some v := fun u v => set_snd c21
      refine bodyPost_ret (by simp [results, Try.results28, r0, r1, go_sem]; try rfl) rfl ?_
      exact ⟨rt_u rfl rfl, (below_st2 HB.out (by omega))⟩
    · skip
      rw [e1.out]
      have L := Lib.hid (show (b.lo == b.hi) = false by simp [hl])
      clear h hl
      go_enter Try.func28, Try.ntmps28
      go_wp2_with fail
      have K0 := (((Bk.new w 24 #[.int .u64 a.lo, .int .u64 a.hi]).alloc (.cells #[.int .u64 b.lo, .int .u64 b.hi] 24)).alloc (.cells #[.int .u64 0, .int .u64 0] 24))
      have K1 := ((Bk.new (w.alloc (.cells #[.int .u64 a.lo, .int .u64 a.hi] 24)) 24 #[.int .u64 b.lo, .int .u64 b.hi]).alloc (.cells #[.int .u64 0, .int .u64 0] 24))
      rw [World.size_alloc] at K1
      have K2 := (Bk.new ((w.alloc (.cells #[.int .u64 a.lo, .int .u64 a.hi] 24)).alloc (.cells #[.int .u64 b.lo, .int .u64 b.hi] 24)) 24 #[.int .u64 0, .int .u64 0])
      rw [World.size_alloc, World.size_alloc] at K2
      have B0 : Below w.heap.size w (((w.alloc (.cells #[.int .u64 a.lo, .int .u64 a.hi] 24)).alloc (.cells #[.int .u64 b.lo, .int .u64 b.hi] 24)).alloc (.cells #[.int .u64 0, .int .u64 0] 24)) := by go_grown
      generalize (((w.alloc (.cells #[.int .u64 a.lo, .int .u64 a.hi] 24)).alloc (.cells #[.int .u64 b.lo, .int .u64 b.hi] 24)).alloc (.cells #[.int .u64 0, .int .u64 0] 24)) = w0 at *
      have H0 := Lib.hid K0
      obtain ⟨c00, c01⟩ := tcells K0
      have H1 := Lib.hid K1
      obtain ⟨c10, c11⟩ := tcells K1
      have H2 := Lib.hid K2
      obtain ⟨c20, c21⟩ := tcells K2
      have f0 := K2.frozen 0
      have f1 := K2.frozen 1
      have HB := Lib.hid B0
      clear K0 K1 K2 B0
      with_reducible refine (ralone_to b _ L.out _).mono ?_
      rintro e w1 ⟨rfl, qb⟩
      replace f0 := keepf qb (World.block_lt_of_cell? _ _ c20) f0
      replace f1 := keepf qb (World.block_lt_of_cell? _ _ c21) f1
      replace c00 := keep1 qb c00
      replace c01 := keep1 qb c01
      replace c10 := keep1 qb c10
      replace c11 := keep1 qb c11
      replace c20 := keep1 qb c20
      replace c21 := keep1 qb c21
      replace H0 := Lib.hid (H0.out.below qb H0.out.lt)
      replace H1 := Lib.hid (H1.out.below qb H1.out.lt)
      replace H2 := Lib.hid (H2.out.below qb H2.out.lt)
      replace HB := Lib.hid (below_then HB.out qb (Nat.le_refl _))
      clear qb
      go_wp2_with fail
      have r0 : ∀ u v, ((w1.setCell ⟨w.heap.size + 1 + 1, 0, none⟩ u).setCell ⟨w.heap.size + 1 + 1, 1, none⟩ v).cell? ⟨w.heap.size + 1 + 1, 0, none⟩ = some u := fun u v => set_fst c20
      have r1 : ∀ u v, ((w1.setCell ⟨w.heap.size + 1 + 1, 0, none⟩ u).setCell ⟨w.heap.size + 1 + 1, 1, none⟩ v).cell? ⟨w.heap.size + 1 + 1, 1, none⟩ = some v := fun u v => set_snd c21
      refine bodyPost_ret (by simp [results, Try.results28, r0, r1, go_sem]; try rfl) rfl ?_
      exact ⟨rt_u rfl rfl, (below_st2 HB.out (by omega))⟩
theorem ruof_to (v : Int) (r : E) (h : ofE v = r) (w : World) :
    Calls Try.prog 48 #[.int .u64 v] w fun e w' => e = .returned (.agg #[.int .u64 r.lo, .int .u64 r.hi]) ∧ Below w.heap.size w w' := by subst h; exact ruof_any v w
theorem mod_val (x y : Int) (hx : 0 ≤ x) (h9 : x ≤ 18446744073709551615) (hy : 0 < y) : ofE (IntKind.u64.wrap (x - IntKind.u64.wrap (IntKind.u64.wrap (x.tdiv y) * y))) = ofE (x % y) := by
  have d := Int.ediv_nonneg hx (Int.le_of_lt hy)
  have d1 := Int.ediv_le_self y hx
  have c := Int.mul_ediv_add_emod x y
  have m := Int.emod_nonneg x (show y ≠ 0 by omega)
  have q := Int.mul_nonneg d (Int.le_of_lt hy)
  have cm : y * (x / y) = x / y * y := Int.mul_comm _ _
  rw [Int.tdiv_eq_ediv_of_nonneg hx, wru (x / y) d (by omega), wru (x / y * y) q (by omega), wru _ (by omega) (by omega)]
  congr 1
  omega
set_option maxHeartbeats 4000000 in
set_option maxRecDepth 100000 in
theorem rumod_any (a b : E) (ha : okU a) (hb : okU b) (w : World) :
    Calls Try.prog 30 #[.agg #[.int .u64 a.lo, .int .u64 a.hi], .agg #[.int .u64 b.lo, .int .u64 b.hi]] w fun e w' => e = .returned (.agg #[.int .u64 (uMod a b).lo, .int .u64 (uMod a b).hi]) ∧ Below w.heap.size w w' := by
  obtain ⟨a0, a1, a2⟩ := ha
  obtain ⟨b0, b1, b2⟩ := hb
  by_cases h : b.lo = b.hi ∧ b.lo ≠ 0
  · have L := Lib.hid (show (b.lo == b.hi) = true by simp [h.1])
    have g0 : (b.lo == 0) = false := by simp [h.2]
    have g : 0 < b.lo := by omega
    by_cases h1 : a.hi < b.lo
    · have e1 := Lib.hid (show uMod a b = a by unfold uMod; rw [if_pos h, if_pos h1])
      rw [e1.out]
      clear h
      go_enter Try.func30, Try.ntmps30
      go_wp2_with fail
      have K0 := (((Bk.new w 24 #[.int .u64 a.lo, .int .u64 a.hi]).alloc (.cells #[.int .u64 b.lo, .int .u64 b.hi] 24)).alloc (.cells #[.int .u64 0, .int .u64 0] 24))
      have K1 := ((Bk.new (w.alloc (.cells #[.int .u64 a.lo, .int .u64 a.hi] 24)) 24 #[.int .u64 b.lo, .int .u64 b.hi]).alloc (.cells #[.int .u64 0, .int .u64 0] 24))
      rw [World.size_alloc] at K1
      have K2 := (Bk.new ((w.alloc (.cells #[.int .u64 a.lo, .int .u64 a.hi] 24)).alloc (.cells #[.int .u64 b.lo, .int .u64 b.hi] 24)) 24 #[.int .u64 0, .int .u64 0])
      rw [World.size_alloc, World.size_alloc] at K2
      have B0 : Below w.heap.size w (((w.alloc (.cells #[.int .u64 a.lo, .int .u64 a.hi] 24)).alloc (.cells #[.int .u64 b.lo, .int .u64 b.hi] 24)).alloc (.cells #[.int .u64 0, .int .u64 0] 24)) := by go_grown
      generalize (((w.alloc (.cells #[.int .u64 a.lo, .int .u64 a.hi] 24)).alloc (.cells #[.int .u64 b.lo, .int .u64 b.hi] 24)).alloc (.cells #[.int .u64 0, .int .u64 0] 24)) = w0 at *
      have H0 := Lib.hid K0
      obtain ⟨c00, c01⟩ := tcells K0
      have H1 := Lib.hid K1
      obtain ⟨c10, c11⟩ := tcells K1
      have H2 := Lib.hid K2
      obtain ⟨c20, c21⟩ := tcells K2
      have f0 := K2.frozen 0
      have f1 := K2.frozen 1
      have HB := Lib.hid B0
      clear K0 K1 K2 B0
      with_reducible refine (ralone_to b _ L.out _).mono ?_
      rintro e w1 ⟨rfl, qb⟩
      replace f0 := keepf qb (World.block_lt_of_cell? _ _ c20) f0
      replace f1 := keepf qb (World.block_lt_of_cell? _ _ c21) f1
      replace c00 := keep1 qb c00
      replace c01 := keep1 qb c01
      replace c10 := keep1 qb c10
      replace c11 := keep1 qb c11
      replace c20 := keep1 qb c20
      replace c21 := keep1 qb c21
      replace H0 := Lib.hid (H0.out.below qb H0.out.lt)
      replace H1 := Lib.hid (H1.out.below qb H1.out.lt)
      replace H2 := Lib.hid (H2.out.below qb H2.out.lt)
      replace HB := Lib.hid (below_then HB.out qb (Nat.le_refl _))
      clear qb
      go_wp2_with fail
      have r0 : ∀ u v, ((w1.setCell ⟨w.heap.size + 1 + 1, 0, none⟩ u).setCell ⟨w.heap.size + 1 + 1, 1, none⟩ v).cell? ⟨w.heap.size + 1 + 1, 0, none⟩ = some u := fun u v => set_fst c20
      have r1 : ∀ u v, ((w1.setCell ⟨w.heap.size + 1 + 1, 0, none⟩ u).setCell ⟨w.heap.size + 1 + 1, 1, none⟩ v).cell? ⟨w.heap.size + 1 + 1, 1, none⟩ = some v := fun u v => set_snd c21
      refine bodyPost_ret (by simp [results, Try.results30, r0, r1, go_sem]; try rfl) rfl ?_
      exact ⟨rt_u rfl rfl, (below_st2 HB.out (by omega))⟩
    · by_cases h2 : a.lo = a.hi
      · have e1 := Lib.hid (show uMod a b = ofE (a.lo % b.lo) by unfold uMod; rw [if_pos h, if_neg h1, if_pos h2])
        rw [e1.out]
        have g9 : ¬ b.lo = 0 := by omega
        have HL := Lib.hid (show (a.lo == a.hi) = true by simp [h2])
        have V := Lib.hid (mod_val a.lo b.lo a0 (by omega) g)
        have m0 := Int.ediv_nonneg a0 (Int.le_of_lt g)
        have m1 := Int.ediv_mul_le a.lo (show b.lo ≠ 0 by omega)
        have m2 := Int.mul_nonneg m0 (Int.le_of_lt g)
        have M := Lib.hid (show 0 ≤ a.lo / b.lo * b.lo ∧ a.lo / b.lo * b.lo ≤ a.lo from ⟨m2, m1⟩)
        clear h h2 m0 m1 m2
        go_enter Try.func30, Try.ntmps30
        go_wp2_with fail
        have K0 := (((Bk.new w 24 #[.int .u64 a.lo, .int .u64 a.hi]).alloc (.cells #[.int .u64 b.lo, .int .u64 b.hi] 24)).alloc (.cells #[.int .u64 0, .int .u64 0] 24))
        have K1 := ((Bk.new (w.alloc (.cells #[.int .u64 a.lo, .int .u64 a.hi] 24)) 24 #[.int .u64 b.lo, .int .u64 b.hi]).alloc (.cells #[.int .u64 0, .int .u64 0] 24))
        rw [World.size_alloc] at K1
        have K2 := (Bk.new ((w.alloc (.cells #[.int .u64 a.lo, .int .u64 a.hi] 24)).alloc (.cells #[.int .u64 b.lo, .int .u64 b.hi] 24)) 24 #[.int .u64 0, .int .u64 0])
        rw [World.size_alloc, World.size_alloc] at K2
        have B0 : Below w.heap.size w (((w.alloc (.cells #[.int .u64 a.lo, .int .u64 a.hi] 24)).alloc (.cells #[.int .u64 b.lo, .int .u64 b.hi] 24)).alloc (.cells #[.int .u64 0, .int .u64 0] 24)) := by go_grown
        generalize (((w.alloc (.cells #[.int .u64 a.lo, .int .u64 a.hi] 24)).alloc (.cells #[.int .u64 b.lo, .int .u64 b.hi] 24)).alloc (.cells #[.int .u64 0, .int .u64 0] 24)) = w0 at *
        have H0 := Lib.hid K0
        obtain ⟨c00, c01⟩ := tcells K0
        have H1 := Lib.hid K1
        obtain ⟨c10, c11⟩ := tcells K1
        have H2 := Lib.hid K2
        obtain ⟨c20, c21⟩ := tcells K2
        have f0 := K2.frozen 0
        have f1 := K2.frozen 1
        have HB := Lib.hid B0
        clear K0 K1 K2 B0
        with_reducible refine (ralone_to b _ L.out _).mono ?_
        rintro e w1 ⟨rfl, qb⟩
        replace f0 := keepf qb (World.block_lt_of_cell? _ _ c20) f0
        replace f1 := keepf qb (World.block_lt_of_cell? _ _ c21) f1
        replace c00 := keep1 qb c00
        replace c01 := keep1 qb c01
        replace c10 := keep1 qb c10
        replace c11 := keep1 qb c11
        replace c20 := keep1 qb c20
        replace c21 := keep1 qb c21
        replace H0 := Lib.hid (H0.out.below qb H0.out.lt)
        replace H1 := Lib.hid (H1.out.below qb H1.out.lt)
        replace H2 := Lib.hid (H2.out.below qb H2.out.lt)
        replace HB := Lib.hid (below_then HB.out qb (Nat.le_refl _))
        clear qb
        go_wp2_with fail
        with_reducible refine (ralone_to a _ HL.out _).mono ?_
        rintro e w2 ⟨rfl, qb⟩
        replace f0 := keepf qb (World.block_lt_of_cell? _ _ c20) f0
        replace f1 := keepf qb (World.block_lt_of_cell? _ _ c21) f1
        replace c00 := keep1 qb c00
        replace c01 := keep1 qb c01
        replace c10 := keep1 qb c10
        replace c11 := keep1 qb c11
        replace c20 := keep1 qb c20
        replace c21 := keep1 qb c21
        replace H0 := Lib.hid (H0.out.below qb H0.out.lt)
        replace H1 := Lib.hid (H1.out.below qb H1.out.lt)
        replace H2 := Lib.hid (H2.out.below qb H2.out.lt)
        replace HB := Lib.hid (below_then HB.out qb (Nat.le_refl _))
        clear qb
        go_wp2_with fail
        refine wp_region_held_drew (S := fun w' => w'.cell? ⟨w.heap.size, 0, none⟩ = some (.int .u64 a.lo) ∧ w'.cell? ⟨w.heap.size, 1, none⟩ = some (.int .u64 a.hi) ∧ w'.cell? ⟨w.heap.size + 1, 0, none⟩ = some (.int .u64 b.lo) ∧ w'.cell? ⟨w.heap.size + 1, 1, none⟩ = some (.int .u64 b.hi) ∧ w'.cell? ⟨w.heap.size + 1 + 1, 0, none⟩ = some (cv w' (w.heap.size + 1 + 1) 0) ∧ w'.cell? ⟨w.heap.size + 1 + 1, 1, none⟩ = some (cv w' (w.heap.size + 1 + 1) 1) ∧ w'.frozen? ⟨w.heap.size + 1 + 1, 0, none⟩ = false ∧ w'.frozen? ⟨w.heap.size + 1 + 1, 1, none⟩ = false ∧ Below w.heap.size w w') (by kernel_rfl) ?_ (fun hHeld => ?_)
        · exact ⟨c00, c01, c10, c11, cv_some c20, cv_some c21, f0, f1, HB.out.drew⟩
        generalize w2.drew = z0 at *
        refine wpAnyH_take (i := 0) (oi := { dst := some 24, op := Op.fieldAddr 24 (Operand.tmp 2) 0, type := 0, pos := "ref.go:90", after := #[], guard := none }) (v := ?_) rfl (by kernel_rfl) (by kernel_rfl) (by kernel_rfl) (fun _ _ _ h => h) (Or.inl ⟨by rfl, ?_⟩) hHeld ?_
        rotate_left
        · intro w9 hSw
          try dsimp only at hSw
          go_simp
          try with_reducible rfl
        try simp only [Act.put, List.setIfInBounds_toArray, List.set_cons_zero, List.set_cons_succ]
        refine wpAnyH_take (i := 1) (oi := { dst := some 25, op := Op.load 22 (Operand.tmp 24), type := 22, pos := "ref.go:90", after := #[{ on := 0, ground := Ground.data }], guard := none }) (v := ?_) rfl (by kernel_rfl) (by kernel_rfl) (by kernel_rfl) (fun _ _ _ h => h) (Or.inl ⟨by rfl, ?_⟩) hHeld ?_
        rotate_left
        · intro w9 hSw
          try dsimp only at hSw
          go_simp
          try with_reducible rfl
        try simp only [Act.put, List.setIfInBounds_toArray, List.set_cons_zero, List.set_cons_succ]
        refine wpAnyH_take (i := 2) (oi := { dst := some 26, op := Op.fieldAddr 24 (Operand.tmp 2) 0, type := 0, pos := "ref.go:90", after := #[], guard := none }) (v := ?_) rfl (by kernel_rfl) (by kernel_rfl) (by kernel_rfl) (fun _ _ _ h => h) (Or.inl ⟨by rfl, ?_⟩) hHeld ?_
        rotate_left
        · intro w9 hSw
          try dsimp only at hSw
          go_simp
          try with_reducible rfl
        try simp only [Act.put, List.setIfInBounds_toArray, List.set_cons_zero, List.set_cons_succ]
        refine wpAnyH_take (i := 3) (oi := { dst := some 27, op := Op.load 22 (Operand.tmp 26), type := 22, pos := "ref.go:90", after := #[{ on := 2, ground := Ground.data }], guard := none }) (v := ?_) rfl (by kernel_rfl) (by kernel_rfl) (by kernel_rfl) (fun _ _ _ h => h) (Or.inl ⟨by rfl, ?_⟩) hHeld ?_
        rotate_left
        · intro w9 hSw
          try dsimp only at hSw
          go_simp
          try with_reducible rfl
        try simp only [Act.put, List.setIfInBounds_toArray, List.set_cons_zero, List.set_cons_succ]
        refine wpAnyH_take (i := 4) (oi := { dst := some 28, op := Op.fieldAddr 24 (Operand.tmp 3) 0, type := 0, pos := "ref.go:90", after := #[], guard := none }) (v := ?_) rfl (by kernel_rfl) (by kernel_rfl) (by kernel_rfl) (fun _ _ _ h => h) (Or.inl ⟨by rfl, ?_⟩) hHeld ?_
        rotate_left
        · intro w9 hSw
          try dsimp only at hSw
          go_simp
          try with_reducible rfl
        try simp only [Act.put, List.setIfInBounds_toArray, List.set_cons_zero, List.set_cons_succ]
        refine wpAnyH_take (i := 5) (oi := { dst := some 29, op := Op.load 22 (Operand.tmp 28), type := 22, pos := "ref.go:90", after := #[{ on := 4, ground := Ground.data }], guard := none }) (v := ?_) rfl (by kernel_rfl) (by kernel_rfl) (by kernel_rfl) (fun _ _ _ h => h) (Or.inl ⟨by rfl, ?_⟩) hHeld ?_
        rotate_left
        · intro w9 hSw
          try dsimp only at hSw
          go_simp
          try with_reducible rfl
        try simp only [Act.put, List.setIfInBounds_toArray, List.set_cons_zero, List.set_cons_succ]
        refine wpAnyH_take (i := 6) (oi := { dst := some 30, op := Op.binOp BinOp.quo 22 (Operand.tmp 27) (Operand.tmp 29) 22, type := 22, pos := "ref.go:90", after := #[{ on := 3, ground := Ground.data }, { on := 5, ground := Ground.data }], guard := none }) (v := ?_) rfl (by kernel_rfl) (by kernel_rfl) (by kernel_rfl) (fun _ _ _ h => h) (Or.inl ⟨by rfl, ?_⟩) hHeld ?_
        rotate_left
        · intro w9 hSw
          try dsimp only at hSw
          go_simp
          try with_reducible rfl
        try simp only [Act.put, List.setIfInBounds_toArray, List.set_cons_zero, List.set_cons_succ]
        refine wpAnyH_take (i := 7) (oi := { dst := some 31, op := Op.fieldAddr 24 (Operand.tmp 3) 0, type := 0, pos := "ref.go:90", after := #[], guard := none }) (v := ?_) rfl (by kernel_rfl) (by kernel_rfl) (by kernel_rfl) (fun _ _ _ h => h) (Or.inl ⟨by rfl, ?_⟩) hHeld ?_
        rotate_left
        · intro w9 hSw
          try dsimp only at hSw
          go_simp
          try with_reducible rfl
        try simp only [Act.put, List.setIfInBounds_toArray, List.set_cons_zero, List.set_cons_succ]
        refine wpAnyH_take (i := 8) (oi := { dst := some 32, op := Op.load 22 (Operand.tmp 31), type := 22, pos := "ref.go:90", after := #[{ on := 7, ground := Ground.data }], guard := none }) (v := ?_) rfl (by kernel_rfl) (by kernel_rfl) (by kernel_rfl) (fun _ _ _ h => h) (Or.inl ⟨by rfl, ?_⟩) hHeld ?_
        rotate_left
        · intro w9 hSw
          try dsimp only at hSw
          go_simp
          try with_reducible rfl
        try simp only [Act.put, List.setIfInBounds_toArray, List.set_cons_zero, List.set_cons_succ]
        refine wpAnyH_take (i := 9) (oi := { dst := some 33, op := Op.binOp BinOp.mul 22 (Operand.tmp 30) (Operand.tmp 32) 22, type := 22, pos := "ref.go:90", after := #[{ on := 6, ground := Ground.data }, { on := 8, ground := Ground.data }], guard := none }) (v := ?_) rfl (by kernel_rfl) (by kernel_rfl) (by kernel_rfl) (fun _ _ _ h => h) (Or.inl ⟨by rfl, ?_⟩) hHeld ?_
        rotate_left
        · intro w9 hSw
          try dsimp only at hSw
          go_simp
          try with_reducible rfl
        try simp only [Act.put, List.setIfInBounds_toArray, List.set_cons_zero, List.set_cons_succ]
        refine wpAnyH_take (i := 10) (oi := { dst := some 34, op := Op.binOp BinOp.sub 22 (Operand.tmp 25) (Operand.tmp 33) 22, type := 22, pos := "ref.go:90", after := #[{ on := 1, ground := Ground.data }, { on := 9, ground := Ground.data }], guard := none }) (v := ?_) rfl (by kernel_rfl) (by kernel_rfl) (by kernel_rfl) (fun _ _ _ h => h) (Or.inl ⟨by rfl, ?_⟩) hHeld ?_
        rotate_left
        · intro w9 hSw
          try dsimp only at hSw
          go_simp
          try with_reducible rfl
        try simp only [Act.put, List.setIfInBounds_toArray, List.set_cons_zero, List.set_cons_succ]
        refine wpAnyH_ready (rs := [11]) (by kernel_rfl) (by simp) ?_
        refine AllReadyH.cons (o := { dst := some 35, op := Op.call { callee := Callee.value (Operand.func 48), args := #[Operand.tmp 34], argTypes := #[22] }, type := 24, pos := "ref.go:90", after := #[{ on := 10, ground := Ground.data }], guard := none }) rfl (fun K hK => ?_) AllReadyH.nil
        go_simp
        (go_at_call 48; with_reducible refine (ruof_to _ (ofE (a.lo % b.lo)) V.out _).mono ?_; rintro e z1 ⟨rfl, qb⟩)
        refine hK.out _ _ ?_ (fun g1 => ?_)
        · exact keepr4 qb hHeld
        clear hK K qb
        skip
        try simp only [Act.put, List.setIfInBounds_toArray, List.set_cons_zero, List.set_cons_succ]
        refine wpAnyH_ready (rs := [12]) (by kernel_rfl) (by simp) ?_
        refine AllReadyH.cons (o := { dst := none, op := Op.store 24 (Operand.tmp 4) (Operand.tmp 35), type := 0, pos := "ref.go:90", after := #[{ on := 11, ground := Ground.data }, { on := 11, ground := Ground.chain }, { on := 0, ground := Ground.phase }, { on := 1, ground := Ground.phase }, { on := 2, ground := Ground.phase }, { on := 3, ground := Ground.phase }, { on := 4, ground := Ground.phase }, { on := 5, ground := Ground.phase }, { on := 6, ground := Ground.phase }, { on := 7, ground := Ground.phase }, { on := 8, ground := Ground.phase }, { on := 9, ground := Ground.phase }, { on := 10, ground := Ground.phase }, { on := 11, ground := Ground.phase }], guard := none }) rfl (fun K hK => ?_) AllReadyH.nil
        have HK := Lib.hid g1
        have hcp := g1
        obtain ⟨k0, k1, k2, k3, k4, k5, k6, k7, k8⟩ := hcp
        go_simp
        refine hK.out _ _ ?_ (fun g2 => ?_)
        · exact store4 (by omega) (by omega) (by omega) g1
        clear hK K k0 k1 k2 k3 k4 k5 k6 k7 k8
        clear g1
        try simp only [Act.put, List.setIfInBounds_toArray, List.set_cons_zero, List.set_cons_succ]
        refine wpAnyH_done (by kernel_rfl) ?_ _
        have HB9 := Lib.hid g2.2.2.2.2.2.2.2.2
        clear c00 c01 c10 c11 c20 c21 f0 f1 HB H0 H1 H2 g2
        obtain ⟨-, -, -, -, c20, c21, -, -, HB0⟩ := HK.out
        have HB := Lib.hid HB0
        clear HB0 HK HB9
        go_wp2_with fail
        have r0 : ∀ u v, ((z1.setCell ⟨w.heap.size + 1 + 1, 0, none⟩ u).setCell ⟨w.heap.size + 1 + 1, 1, none⟩ v).cell? ⟨w.heap.size + 1 + 1, 0, none⟩ = some u := fun u v => set_fst c20
        have r1 : ∀ u v, ((z1.setCell ⟨w.heap.size + 1 + 1, 0, none⟩ u).setCell ⟨w.heap.size + 1 + 1, 1, none⟩ v).cell? ⟨w.heap.size + 1 + 1, 1, none⟩ = some v := fun u v => set_snd c21
        refine bodyPost_ret (by simp [results, Try.results30, r0, r1, go_sem]; try rfl) rfl ?_
        exact ⟨rt_u rfl rfl, (below_st2 HB.out (by omega))⟩
      · have e1 := Lib.hid (show uMod a b = ⟨0, b.lo - 1⟩ by unfold uMod; rw [if_pos h, if_neg h1, if_neg h2])
        rw [e1.out]
        have HL := Lib.hid (show (a.lo == a.hi) = false by simp [h2])
        clear h h2
        go_enter Try.func30, Try.ntmps30
        go_wp2_with fail
        have K0 := (((Bk.new w 24 #[.int .u64 a.lo, .int .u64 a.hi]).alloc (.cells #[.int .u64 b.lo, .int .u64 b.hi] 24)).alloc (.cells #[.int .u64 0, .int .u64 0] 24))
        have K1 := ((Bk.new (w.alloc (.cells #[.int .u64 a.lo, .int .u64 a.hi] 24)) 24 #[.int .u64 b.lo, .int .u64 b.hi]).alloc (.cells #[.int .u64 0, .int .u64 0] 24))
        rw [World.size_alloc] at K1
        have K2 := (Bk.new ((w.alloc (.cells #[.int .u64 a.lo, .int .u64 a.hi] 24)).alloc (.cells #[.int .u64 b.lo, .int .u64 b.hi] 24)) 24 #[.int .u64 0, .int .u64 0])
        rw [World.size_alloc, World.size_alloc] at K2
        have B0 : Below w.heap.size w (((w.alloc (.cells #[.int .u64 a.lo, .int .u64 a.hi] 24)).alloc (.cells #[.int .u64 b.lo, .int .u64 b.hi] 24)).alloc (.cells #[.int .u64 0, .int .u64 0] 24)) := by go_grown
        generalize (((w.alloc (.cells #[.int .u64 a.lo, .int .u64 a.hi] 24)).alloc (.cells #[.int .u64 b.lo, .int .u64 b.hi] 24)).alloc (.cells #[.int .u64 0, .int .u64 0] 24)) = w0 at *
        have H0 := Lib.hid K0
        obtain ⟨c00, c01⟩ := tcells K0
        have H1 := Lib.hid K1
        obtain ⟨c10, c11⟩ := tcells K1
        have H2 := Lib.hid K2
        obtain ⟨c20, c21⟩ := tcells K2
        have f0 := K2.frozen 0
        have f1 := K2.frozen 1
        have HB := Lib.hid B0
        clear K0 K1 K2 B0
        with_reducible refine (ralone_to b _ L.out _).mono ?_
        rintro e w1 ⟨rfl, qb⟩
        replace f0 := keepf qb (World.block_lt_of_cell? _ _ c20) f0
        replace f1 := keepf qb (World.block_lt_of_cell? _ _ c21) f1
        replace c00 := keep1 qb c00
        replace c01 := keep1 qb c01
        replace c10 := keep1 qb c10
        replace c11 := keep1 qb c11
        replace c20 := keep1 qb c20
        replace c21 := keep1 qb c21
        replace H0 := Lib.hid (H0.out.below qb H0.out.lt)
        replace H1 := Lib.hid (H1.out.below qb H1.out.lt)
        replace H2 := Lib.hid (H2.out.below qb H2.out.lt)
        replace HB := Lib.hid (below_then HB.out qb (Nat.le_refl _))
        clear qb
        go_wp2_with fail
        with_reducible refine (ralone_to a _ HL.out _).mono ?_
        rintro e w2 ⟨rfl, qb⟩
        replace f0 := keepf qb (World.block_lt_of_cell? _ _ c20) f0
        replace f1 := keepf qb (World.block_lt_of_cell? _ _ c21) f1
        replace c00 := keep1 qb c00
        replace c01 := keep1 qb c01
        replace c10 := keep1 qb c10
        replace c11 := keep1 qb c11
        replace c20 := keep1 qb c20
        replace c21 := keep1 qb c21
        replace H0 := Lib.hid (H0.out.below qb H0.out.lt)
        replace H1 := Lib.hid (H1.out.below qb H1.out.lt)
        replace H2 := Lib.hid (H2.out.below qb H2.out.lt)
        replace HB := Lib.hid (below_then HB.out qb (Nat.le_refl _))
        clear qb
        go_wp2_with fail
        have r0 : ∀ u v, ((w2.setCell ⟨w.heap.size + 1 + 1, 0, none⟩ u).setCell ⟨w.heap.size + 1 + 1, 1, none⟩ v).cell? ⟨w.heap.size + 1 + 1, 0, none⟩ = some u := fun u v => set_fst c20
        have r1 : ∀ u v, ((w2.setCell ⟨w.heap.size + 1 + 1, 0, none⟩ u).setCell ⟨w.heap.size + 1 + 1, 1, none⟩ v).cell? ⟨w.heap.size + 1 + 1, 1, none⟩ = some v := fun u v => set_snd c21
        refine bodyPost_ret (by simp [results, Try.results30, r0, r1, go_sem]; try rfl) rfl ?_
        exact ⟨rt_u rfl rfl, (below_st2 HB.out (by omega))⟩
  · have e1 := Lib.hid (show uMod a b = ⟨0, a.hi⟩ by unfold uMod; rw [if_neg h])
    by_cases hl : b.lo = b.hi
    · have hq : b.lo = 0 := Decidable.byContradiction fun g => h ⟨hl, g⟩
      rw [e1.out]
      have L := Lib.hid (show (b.lo == b.hi) = true by simp [hl])
      have g0 : (b.lo == 0) = true := by simp [hq]
      clear h hl hq
      go_enter Try.func30, Try.ntmps30
      go_wp2_with fail
      have K0 := (((Bk.new w 24 #[.int .u64 a.lo, .int .u64 a.hi]).alloc (.cells #[.int .u64 b.lo, .int .u64 b.hi] 24)).alloc (.cells #[.int .u64 0, .int .u64 0] 24))
      have K1 := ((Bk.new (w.alloc (.cells #[.int .u64 a.lo, .int .u64 a.hi] 24)) 24 #[.int .u64 b.lo, .int .u64 b.hi]).alloc (.cells #[.int .u64 0, .int .u64 0] 24))
      rw [World.size_alloc] at K1
      have K2 := (Bk.new ((w.alloc (.cells #[.int .u64 a.lo, .int .u64 a.hi] 24)).alloc (.cells #[.int .u64 b.lo, .int .u64 b.hi] 24)) 24 #[.int .u64 0, .int .u64 0])
      rw [World.size_alloc, World.size_alloc] at K2
      have B0 : Below w.heap.size w (((w.alloc (.cells #[.int .u64 a.lo, .int .u64 a.hi] 24)).alloc (.cells #[.int .u64 b.lo, .int .u64 b.hi] 24)).alloc (.cells #[.int .u64 0, .int .u64 0] 24)) := by go_grown
      generalize (((w.alloc (.cells #[.int .u64 a.lo, .int .u64 a.hi] 24)).alloc (.cells #[.int .u64 b.lo, .int .u64 b.hi] 24)).alloc (.cells #[.int .u64 0, .int .u64 0] 24)) = w0 at *
      have H0 := Lib.hid K0
      obtain ⟨c00, c01⟩ := tcells K0
      have H1 := Lib.hid K1
      obtain ⟨c10, c11⟩ := tcells K1
      have H2 := Lib.hid K2
      obtain ⟨c20, c21⟩ := tcells K2
      have f0 := K2.frozen 0
      have f1 := K2.frozen 1
      have HB := Lib.hid B0
      clear K0 K1 K2 B0
      with_reducible refine (ralone_to b _ L.out _).mono ?_
      rintro e w1 ⟨rfl, qb⟩
      replace f0 := keepf qb (World.block_lt_of_cell? _ _ c20) f0
      replace f1 := keepf qb (World.block_lt_of_cell? _ _ c21) f1
      replace c00 := keep1 qb c00
      replace c01 := keep1 qb c01
      replace c10 := keep1 qb c10
      replace c11 := keep1 qb c11
      replace c20 := keep1 qb c20
      replace c21 := keep1 qb c21
      replace H0 := Lib.hid (H0.out.below qb H0.out.lt)
      replace H1 := Lib.hid (H1.out.below qb H1.out.lt)
      replace H2 := Lib.hid (H2.out.below qb H2.out.lt)
      replace HB := Lib.hid (below_then HB.out qb (Nat.le_refl _))
      clear qb
      go_wp2_with fail
      have r0 : ∀ u v, ((w1.setCell ⟨w.heap.size + 1 + 1, 0, none⟩ u).setCell ⟨w.heap.size + 1 + 1, 1, none⟩ v).cell? ⟨w.heap.size + 1 + 1, 0, none⟩ = some u := fun u v => set_fst c20
      have r1 : ∀ u v, ((w1.setCell ⟨w.heap.size + 1 + 1, 0, none⟩ u).setCell ⟨w.heap.size + 1 + 1, 1, none⟩ v).cell? ⟨w.heap.size + 1 + 1, 1, none⟩ = some v := fun u v => set_snd c21
      refine bodyPost_ret (by simp [results, Try.results30, r0, r1, go_sem]; try rfl) rfl ?_
      exact ⟨rt_u rfl rfl, (below_st2 HB.out (by omega))⟩
    · skip
      rw [e1.out]
      have L := Lib.hid (show (b.lo == b.hi) = false by simp [hl])
      clear h hl
      go_enter Try.func30, Try.ntmps30
      go_wp2_with fail
      have K0 := (((Bk.new w 24 #[.int .u64 a.lo, .int .u64 a.hi]).alloc (.cells #[.int .u64 b.lo, .int .u64 b.hi] 24)).alloc (.cells #[.int .u64 0, .int .u64 0] 24))
      have K1 := ((Bk.new (w.alloc (.cells #[.int .u64 a.lo, .int .u64 a.hi] 24)) 24 #[.int .u64 b.lo, .int .u64 b.hi]).alloc (.cells #[.int .u64 0, .int .u64 0] 24))
      rw [World.size_alloc] at K1
      have K2 := (Bk.new ((w.alloc (.cells #[.int .u64 a.lo, .int .u64 a.hi] 24)).alloc (.cells #[.int .u64 b.lo, .int .u64 b.hi] 24)) 24 #[.int .u64 0, .int .u64 0])
      rw [World.size_alloc, World.size_alloc] at K2
      have B0 : Below w.heap.size w (((w.alloc (.cells #[.int .u64 a.lo, .int .u64 a.hi] 24)).alloc (.cells #[.int .u64 b.lo, .int .u64 b.hi] 24)).alloc (.cells #[.int .u64 0, .int .u64 0] 24)) := by go_grown
      generalize (((w.alloc (.cells #[.int .u64 a.lo, .int .u64 a.hi] 24)).alloc (.cells #[.int .u64 b.lo, .int .u64 b.hi] 24)).alloc (.cells #[.int .u64 0, .int .u64 0] 24)) = w0 at *
      have H0 := Lib.hid K0
      obtain ⟨c00, c01⟩ := tcells K0
      have H1 := Lib.hid K1
      obtain ⟨c10, c11⟩ := tcells K1
      have H2 := Lib.hid K2
      obtain ⟨c20, c21⟩ := tcells K2
      have f0 := K2.frozen 0
      have f1 := K2.frozen 1
      have HB := Lib.hid B0
      clear K0 K1 K2 B0
      with_reducible refine (ralone_to b _ L.out _).mono ?_
      rintro e w1 ⟨rfl, qb⟩
      replace f0 := keepf qb (World.block_lt_of_cell? _ _ c20) f0
      replace f1 := keepf qb (World.block_lt_of_cell? _ _ c21) f1
      replace c00 := keep1 qb c00
      replace c01 := keep1 qb c01
      replace c10 := keep1 qb c10
      replace c11 := keep1 qb c11
      replace c20 := keep1 qb c20
      replace c21 := keep1 qb c21
      replace H0 := Lib.hid (H0.out.below qb H0.out.lt)
      replace H1 := Lib.hid (H1.out.below qb H1.out.lt)
      replace H2 := Lib.hid (H2.out.below qb H2.out.lt)
      replace HB := Lib.hid (below_then HB.out qb (Nat.le_refl _))
      clear qb
      go_wp2_with fail
      have r0 : ∀ u v, ((w1.setCell ⟨w.heap.size + 1 + 1, 0, none⟩ u).setCell ⟨w.heap.size + 1 + 1, 1, none⟩ v).cell? ⟨w.heap.size + 1 + 1, 0, none⟩ = some u := fun u v => set_fst c20
      have r1 : ∀ u v, ((w1.setCell ⟨w.heap.size + 1 + 1, 0, none⟩ u).setCell ⟨w.heap.size + 1 + 1, 1, none⟩ v).cell? ⟨w.heap.size + 1 + 1, 1, none⟩ = some v := fun u v => set_snd c21
      refine bodyPost_ret (by simp [results, Try.results30, r0, r1, go_sem]; try rfl) rfl ?_
      exact ⟨rt_u rfl rfl, (below_st2 HB.out (by omega))⟩
set_option maxHeartbeats 1000000 in
theorem ruand_any (a b : E) (ha : okU a) (hb : okU b) (w : World) :
    Calls Try.prog 32 #[.agg #[.int .u64 a.lo, .int .u64 a.hi], .agg #[.int .u64 b.lo, .int .u64 b.hi]] w fun e w' => e = .returned (.agg #[.int .u64 (uAnd a b).lo, .int .u64 (uAnd a b).hi]) ∧ Below w.heap.size w w' := by
  obtain ⟨a0, a1, a2⟩ := ha
  obtain ⟨b0, b1, b2⟩ := hb
  by_cases h1 : a.lo = a.hi
  · have L1 := Lib.hid (show (a.lo == a.hi) = true by simp [h1])
    by_cases h2 : b.lo = b.hi
    · have e1 := Lib.hid (show uAnd a b = ofE (andI a.lo b.lo) by unfold uAnd; rw [if_pos ⟨h1, h2⟩])
      rw [e1.out]
      have L2 := Lib.hid (show (b.lo == b.hi) = true by simp [h2])
      clear h1 h2
      go_enter Try.func32, Try.ntmps32
      go_wp2_with fail
      have K0 := (((Bk.new w 24 #[.int .u64 a.lo, .int .u64 a.hi]).alloc (.cells #[.int .u64 b.lo, .int .u64 b.hi] 24)).alloc (.cells #[.int .u64 0, .int .u64 0] 24))
      have K1 := ((Bk.new (w.alloc (.cells #[.int .u64 a.lo, .int .u64 a.hi] 24)) 24 #[.int .u64 b.lo, .int .u64 b.hi]).alloc (.cells #[.int .u64 0, .int .u64 0] 24))
      rw [World.size_alloc] at K1
      have K2 := (Bk.new ((w.alloc (.cells #[.int .u64 a.lo, .int .u64 a.hi] 24)).alloc (.cells #[.int .u64 b.lo, .int .u64 b.hi] 24)) 24 #[.int .u64 0, .int .u64 0])
      rw [World.size_alloc, World.size_alloc] at K2
      have B0 : Below w.heap.size w (((w.alloc (.cells #[.int .u64 a.lo, .int .u64 a.hi] 24)).alloc (.cells #[.int .u64 b.lo, .int .u64 b.hi] 24)).alloc (.cells #[.int .u64 0, .int .u64 0] 24)) := by go_grown
      generalize (((w.alloc (.cells #[.int .u64 a.lo, .int .u64 a.hi] 24)).alloc (.cells #[.int .u64 b.lo, .int .u64 b.hi] 24)).alloc (.cells #[.int .u64 0, .int .u64 0] 24)) = w0 at *
      have H0 := Lib.hid K0
      obtain ⟨c00, c01⟩ := tcells K0
      have H1 := Lib.hid K1
      obtain ⟨c10, c11⟩ := tcells K1
      have H2 := Lib.hid K2
      obtain ⟨c20, c21⟩ := tcells K2
      have f0 := K2.frozen 0
      have f1 := K2.frozen 1
      have HB := Lib.hid B0
      clear K0 K1 K2 B0
      with_reducible refine (ralone_to a _ L1.out _).mono ?_
      rintro e w1 ⟨rfl, qb⟩
      replace f0 := keepf qb (World.block_lt_of_cell? _ _ c20) f0
      replace f1 := keepf qb (World.block_lt_of_cell? _ _ c21) f1
      replace c00 := keep1 qb c00
      replace c01 := keep1 qb c01
      replace c10 := keep1 qb c10
      replace c11 := keep1 qb c11
      replace c20 := keep1 qb c20
      replace c21 := keep1 qb c21
      replace H0 := Lib.hid (H0.out.below qb H0.out.lt)
      replace H1 := Lib.hid (H1.out.below qb H1.out.lt)
      replace H2 := Lib.hid (H2.out.below qb H2.out.lt)
      replace HB := Lib.hid (below_then HB.out qb (Nat.le_refl _))
      clear qb
      go_wp2_with fail
      with_reducible refine (ralone_to b _ L2.out _).mono ?_
      rintro e w2 ⟨rfl, qb⟩
      replace f0 := keepf qb (World.block_lt_of_cell? _ _ c20) f0
      replace f1 := keepf qb (World.block_lt_of_cell? _ _ c21) f1
      replace c00 := keep1 qb c00
      replace c01 := keep1 qb c01
      replace c10 := keep1 qb c10
      replace c11 := keep1 qb c11
      replace c20 := keep1 qb c20
      replace c21 := keep1 qb c21
      replace H0 := Lib.hid (H0.out.below qb H0.out.lt)
      replace H1 := Lib.hid (H1.out.below qb H1.out.lt)
      replace H2 := Lib.hid (H2.out.below qb H2.out.lt)
      replace HB := Lib.hid (below_then HB.out qb (Nat.le_refl _))
      clear qb
      go_wp2_with fail
      have EB := bits_and a.lo b.lo (by omega) (by omega) (by omega) (by omega)
      with_reducible refine (ruof_any _ _).mono ?_
      rintro e w3 ⟨rfl, qb⟩
      replace f0 := keepf qb (World.block_lt_of_cell? _ _ c20) f0
      replace f1 := keepf qb (World.block_lt_of_cell? _ _ c21) f1
      replace c00 := keep1 qb c00
      replace c01 := keep1 qb c01
      replace c10 := keep1 qb c10
      replace c11 := keep1 qb c11
      replace c20 := keep1 qb c20
      replace c21 := keep1 qb c21
      replace H0 := Lib.hid (H0.out.below qb H0.out.lt)
      replace H1 := Lib.hid (H1.out.below qb H1.out.lt)
      replace H2 := Lib.hid (H2.out.below qb H2.out.lt)
      replace HB := Lib.hid (below_then HB.out qb (Nat.le_refl _))
      clear qb
      go_wp2_with fail
      have r0 : ∀ u v, ((w3.setCell ⟨w.heap.size + 1 + 1, 0, none⟩ u).setCell ⟨w.heap.size + 1 + 1, 1, none⟩ v).cell? ⟨w.heap.size + 1 + 1, 0, none⟩ = some u := fun u v => set_fst c20
      have r1 : ∀ u v, ((w3.setCell ⟨w.heap.size + 1 + 1, 0, none⟩ u).setCell ⟨w.heap.size + 1 + 1, 1, none⟩ v).cell? ⟨w.heap.size + 1 + 1, 1, none⟩ = some v := fun u v => set_snd c21
      refine bodyPost_ret (by simp [results, Try.results32, r0, r1, go_sem]; try rfl) rfl ?_
      exact ⟨rt_u rfl rfl, (below_st2 HB.out (by omega))⟩
    · skip
      have L2 := Lib.hid (show (b.lo == b.hi) = false by simp [h2])
      have e1 := Lib.hid (show uAnd a b = ⟨0, min a.hi b.hi⟩ by unfold uAnd; rw [if_neg (by omega)])
      rw [e1.out]
      clear h1 h2
      go_enter Try.func32, Try.ntmps32
      go_wp2_with fail
      have K0 := (((Bk.new w 24 #[.int .u64 a.lo, .int .u64 a.hi]).alloc (.cells #[.int .u64 b.lo, .int .u64 b.hi] 24)).alloc (.cells #[.int .u64 0, .int .u64 0] 24))
      have K1 := ((Bk.new (w.alloc (.cells #[.int .u64 a.lo, .int .u64 a.hi] 24)) 24 #[.int .u64 b.lo, .int .u64 b.hi]).alloc (.cells #[.int .u64 0, .int .u64 0] 24))
      rw [World.size_alloc] at K1
      have K2 := (Bk.new ((w.alloc (.cells #[.int .u64 a.lo, .int .u64 a.hi] 24)).alloc (.cells #[.int .u64 b.lo, .int .u64 b.hi] 24)) 24 #[.int .u64 0, .int .u64 0])
      rw [World.size_alloc, World.size_alloc] at K2
      have B0 : Below w.heap.size w (((w.alloc (.cells #[.int .u64 a.lo, .int .u64 a.hi] 24)).alloc (.cells #[.int .u64 b.lo, .int .u64 b.hi] 24)).alloc (.cells #[.int .u64 0, .int .u64 0] 24)) := by go_grown
      generalize (((w.alloc (.cells #[.int .u64 a.lo, .int .u64 a.hi] 24)).alloc (.cells #[.int .u64 b.lo, .int .u64 b.hi] 24)).alloc (.cells #[.int .u64 0, .int .u64 0] 24)) = w0 at *
      have H0 := Lib.hid K0
      obtain ⟨c00, c01⟩ := tcells K0
      have H1 := Lib.hid K1
      obtain ⟨c10, c11⟩ := tcells K1
      have H2 := Lib.hid K2
      obtain ⟨c20, c21⟩ := tcells K2
      have f0 := K2.frozen 0
      have f1 := K2.frozen 1
      have HB := Lib.hid B0
      clear K0 K1 K2 B0
      with_reducible refine (ralone_to a _ L1.out _).mono ?_
      rintro e w1 ⟨rfl, qb⟩
      replace f0 := keepf qb (World.block_lt_of_cell? _ _ c20) f0
      replace f1 := keepf qb (World.block_lt_of_cell? _ _ c21) f1
      replace c00 := keep1 qb c00
      replace c01 := keep1 qb c01
      replace c10 := keep1 qb c10
      replace c11 := keep1 qb c11
      replace c20 := keep1 qb c20
      replace c21 := keep1 qb c21
      replace H0 := Lib.hid (H0.out.below qb H0.out.lt)
      replace H1 := Lib.hid (H1.out.below qb H1.out.lt)
      replace H2 := Lib.hid (H2.out.below qb H2.out.lt)
      replace HB := Lib.hid (below_then HB.out qb (Nat.le_refl _))
      clear qb
      go_wp2_with fail
      with_reducible refine (ralone_to b _ L2.out _).mono ?_
      rintro e w2 ⟨rfl, qb⟩
      replace f0 := keepf qb (World.block_lt_of_cell? _ _ c20) f0
      replace f1 := keepf qb (World.block_lt_of_cell? _ _ c21) f1
      replace c00 := keep1 qb c00
      replace c01 := keep1 qb c01
      replace c10 := keep1 qb c10
      replace c11 := keep1 qb c11
      replace c20 := keep1 qb c20
      replace c21 := keep1 qb c21
      replace H0 := Lib.hid (H0.out.below qb H0.out.lt)
      replace H1 := Lib.hid (H1.out.below qb H1.out.lt)
      replace H2 := Lib.hid (H2.out.below qb H2.out.lt)
      replace HB := Lib.hid (below_then HB.out qb (Nat.le_refl _))
      clear qb
      go_wp2_with fail
      all_goals
        have r0 : ∀ u v, ((w2.setCell ⟨w.heap.size + 1 + 1, 0, none⟩ u).setCell ⟨w.heap.size + 1 + 1, 1, none⟩ v).cell? ⟨w.heap.size + 1 + 1, 0, none⟩ = some u := fun u v => set_fst c20
        have r1 : ∀ u v, ((w2.setCell ⟨w.heap.size + 1 + 1, 0, none⟩ u).setCell ⟨w.heap.size + 1 + 1, 1, none⟩ v).cell? ⟨w.heap.size + 1 + 1, 1, none⟩ = some v := fun u v => set_snd c21
        refine bodyPost_ret (by simp [results, Try.results32, r0, r1, go_sem]; try rfl) rfl ?_
        exact ⟨rt_u rfl (show _ = min a.hi b.hi by omega), (below_st2 HB.out (by omega))⟩
  · skip
    have L1 := Lib.hid (show (a.lo == a.hi) = false by simp [h1])
    have e1 := Lib.hid (show uAnd a b = ⟨0, min a.hi b.hi⟩ by unfold uAnd; rw [if_neg (by omega)])
    rw [e1.out]
    clear h1
    go_enter Try.func32, Try.ntmps32
    go_wp2_with fail
    have K0 := (((Bk.new w 24 #[.int .u64 a.lo, .int .u64 a.hi]).alloc (.cells #[.int .u64 b.lo, .int .u64 b.hi] 24)).alloc (.cells #[.int .u64 0, .int .u64 0] 24))
    have K1 := ((Bk.new (w.alloc (.cells #[.int .u64 a.lo, .int .u64 a.hi] 24)) 24 #[.int .u64 b.lo, .int .u64 b.hi]).alloc (.cells #[.int .u64 0, .int .u64 0] 24))
    rw [World.size_alloc] at K1
    have K2 := (Bk.new ((w.alloc (.cells #[.int .u64 a.lo, .int .u64 a.hi] 24)).alloc (.cells #[.int .u64 b.lo, .int .u64 b.hi] 24)) 24 #[.int .u64 0, .int .u64 0])
    rw [World.size_alloc, World.size_alloc] at K2
    have B0 : Below w.heap.size w (((w.alloc (.cells #[.int .u64 a.lo, .int .u64 a.hi] 24)).alloc (.cells #[.int .u64 b.lo, .int .u64 b.hi] 24)).alloc (.cells #[.int .u64 0, .int .u64 0] 24)) := by go_grown
    generalize (((w.alloc (.cells #[.int .u64 a.lo, .int .u64 a.hi] 24)).alloc (.cells #[.int .u64 b.lo, .int .u64 b.hi] 24)).alloc (.cells #[.int .u64 0, .int .u64 0] 24)) = w0 at *
    have H0 := Lib.hid K0
    obtain ⟨c00, c01⟩ := tcells K0
    have H1 := Lib.hid K1
    obtain ⟨c10, c11⟩ := tcells K1
    have H2 := Lib.hid K2
    obtain ⟨c20, c21⟩ := tcells K2
    have f0 := K2.frozen 0
    have f1 := K2.frozen 1
    have HB := Lib.hid B0
    clear K0 K1 K2 B0
    with_reducible refine (ralone_to a _ L1.out _).mono ?_
    rintro e w1 ⟨rfl, qb⟩
    replace f0 := keepf qb (World.block_lt_of_cell? _ _ c20) f0
    replace f1 := keepf qb (World.block_lt_of_cell? _ _ c21) f1
    replace c00 := keep1 qb c00
    replace c01 := keep1 qb c01
    replace c10 := keep1 qb c10
    replace c11 := keep1 qb c11
    replace c20 := keep1 qb c20
    replace c21 := keep1 qb c21
    replace H0 := Lib.hid (H0.out.below qb H0.out.lt)
    replace H1 := Lib.hid (H1.out.below qb H1.out.lt)
    replace H2 := Lib.hid (H2.out.below qb H2.out.lt)
    replace HB := Lib.hid (below_then HB.out qb (Nat.le_refl _))
    clear qb
    go_wp2_with fail
    all_goals
      have r0 : ∀ u v, ((w1.setCell ⟨w.heap.size + 1 + 1, 0, none⟩ u).setCell ⟨w.heap.size + 1 + 1, 1, none⟩ v).cell? ⟨w.heap.size + 1 + 1, 0, none⟩ = some u := fun u v => set_fst c20
      have r1 : ∀ u v, ((w1.setCell ⟨w.heap.size + 1 + 1, 0, none⟩ u).setCell ⟨w.heap.size + 1 + 1, 1, none⟩ v).cell? ⟨w.heap.size + 1 + 1, 1, none⟩ = some v := fun u v => set_snd c21
      refine bodyPost_ret (by simp [results, Try.results32, r0, r1, go_sem]; try rfl) rfl ?_
      exact ⟨rt_u rfl (show _ = min a.hi b.hi by omega), (below_st2 HB.out (by omega))⟩
theorem rucut_any (a : E) (ha : okU a) (w : World) :
    Calls Try.prog 40 #[.agg #[.int .u64 a.lo, .int .u64 a.hi]] w fun e w' => e = .returned (.agg #[.int .u64 (uCut a).lo, .int .u64 (uCut a).hi]) ∧ Below w.heap.size w w' := by
  obtain ⟨a0, a1, a2⟩ := ha
  by_cases h : a.lo / 4294967296 = a.hi / 4294967296
  · have e1 := Lib.hid (show uCut a = ⟨a.lo % 4294967296, a.hi % 4294967296⟩ by unfold uCut; rw [if_pos h])
    rw [e1.out]
    have d1 : (a.lo / 4294967296 != a.hi / 4294967296) = false := by rw [h]; simp
    have d2 : (a.lo / 4294967296 == a.hi / 4294967296) = true := by rw [h]; simp
    have t1 : IntKind.u64.wrap (a.lo.tdiv 4294967296) = a.lo / 4294967296 := by rw [Int.tdiv_eq_ediv_of_nonneg a0]; exact wru _ (by omega) (by omega)
    have t2 : IntKind.u64.wrap (a.hi.tdiv 4294967296) = a.hi / 4294967296 := by rw [Int.tdiv_eq_ediv_of_nonneg (by omega)]; exact wru _ (by omega) (by omega)
    have V1 := Lib.hid (Int.tmod_eq_emod_of_nonneg (b := 4294967296) a0)
    have V2 := Lib.hid (Int.tmod_eq_emod_of_nonneg (b := 4294967296) (show 0 ≤ a.hi by omega))
    clear h
    go_enter Try.func40, Try.ntmps40
    go_wp2_with fail
    have K0 := ((Bk.new w 24 #[.int .u64 a.lo, .int .u64 a.hi]).alloc (.cells #[.int .u64 0, .int .u64 0] 24))
    have K1 := (Bk.new (w.alloc (.cells #[.int .u64 a.lo, .int .u64 a.hi] 24)) 24 #[.int .u64 0, .int .u64 0])
    rw [World.size_alloc] at K1
    have B0 : Below w.heap.size w ((w.alloc (.cells #[.int .u64 a.lo, .int .u64 a.hi] 24)).alloc (.cells #[.int .u64 0, .int .u64 0] 24)) := by go_grown
    generalize ((w.alloc (.cells #[.int .u64 a.lo, .int .u64 a.hi] 24)).alloc (.cells #[.int .u64 0, .int .u64 0] 24)) = w0 at *
    have H0 := Lib.hid K0
    obtain ⟨c00, c01⟩ := tcells K0
    have H1 := Lib.hid K1
    obtain ⟨c10, c11⟩ := tcells K1
    have f0 := K1.frozen 0
    have f1 := K1.frozen 1
    have HB := Lib.hid B0
    clear K0 K1 B0
    go_region
    go_wp2_with fail
    go_region
    go_wp2_with fail
    have r0 : ∀ u v, ((w0.setCell ⟨w.heap.size + 1, 0, none⟩ u).setCell ⟨w.heap.size + 1, 1, none⟩ v).drew.drew.cell? ⟨w.heap.size + 1, 0, none⟩ = some u := fun u v => set_fst c10
    have r1 : ∀ u v, ((w0.setCell ⟨w.heap.size + 1, 0, none⟩ u).setCell ⟨w.heap.size + 1, 1, none⟩ v).drew.drew.cell? ⟨w.heap.size + 1, 1, none⟩ = some v := fun u v => set_snd c11
    refine bodyPost_ret (by simp [results, Try.results40, r0, r1, go_sem]; try rfl) rfl ?_
    exact ⟨rt_u (by first | rfl | exact V1.out) (by first | rfl | exact V2.out), (below_st2 HB.out (by omega)).drew.drew⟩
  · have e1 := Lib.hid (show uCut a = ⟨0, 4294967295⟩ by unfold uCut; rw [if_neg h])
    rw [e1.out]
    have d1 : (a.lo / 4294967296 != a.hi / 4294967296) = true := by simp [h]
    have d2 : (a.lo / 4294967296 == a.hi / 4294967296) = false := by simp [h]
    have t1 : IntKind.u64.wrap (a.lo.tdiv 4294967296) = a.lo / 4294967296 := by rw [Int.tdiv_eq_ediv_of_nonneg a0]; exact wru _ (by omega) (by omega)
    have t2 : IntKind.u64.wrap (a.hi.tdiv 4294967296) = a.hi / 4294967296 := by rw [Int.tdiv_eq_ediv_of_nonneg (by omega)]; exact wru _ (by omega) (by omega)
    clear h
    go_enter Try.func40, Try.ntmps40
    go_wp2_with fail
    have K0 := ((Bk.new w 24 #[.int .u64 a.lo, .int .u64 a.hi]).alloc (.cells #[.int .u64 0, .int .u64 0] 24))
    have K1 := (Bk.new (w.alloc (.cells #[.int .u64 a.lo, .int .u64 a.hi] 24)) 24 #[.int .u64 0, .int .u64 0])
    rw [World.size_alloc] at K1
    have B0 : Below w.heap.size w ((w.alloc (.cells #[.int .u64 a.lo, .int .u64 a.hi] 24)).alloc (.cells #[.int .u64 0, .int .u64 0] 24)) := by go_grown
    generalize ((w.alloc (.cells #[.int .u64 a.lo, .int .u64 a.hi] 24)).alloc (.cells #[.int .u64 0, .int .u64 0] 24)) = w0 at *
    have H0 := Lib.hid K0
    obtain ⟨c00, c01⟩ := tcells K0
    have H1 := Lib.hid K1
    obtain ⟨c10, c11⟩ := tcells K1
    have f0 := K1.frozen 0
    have f1 := K1.frozen 1
    have HB := Lib.hid B0
    clear K0 K1 B0
    go_region
    go_wp2_with fail
    have r0 : ∀ u v, ((w0.setCell ⟨w.heap.size + 1, 0, none⟩ u).setCell ⟨w.heap.size + 1, 1, none⟩ v).drew.cell? ⟨w.heap.size + 1, 0, none⟩ = some u := fun u v => set_fst c10
    have r1 : ∀ u v, ((w0.setCell ⟨w.heap.size + 1, 0, none⟩ u).setCell ⟨w.heap.size + 1, 1, none⟩ v).drew.cell? ⟨w.heap.size + 1, 1, none⟩ = some v := fun u v => set_snd c11
    refine bodyPost_ret (by simp [results, Try.results40, r0, r1, go_sem]; try rfl) rfl ?_
    exact ⟨rt_u rfl rfl, (below_st2 HB.out (by omega)).drew⟩
end Go.Proofs.Ythjjfginenpfjaa
