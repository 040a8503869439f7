/-
  What package span's other functions tell: contracts. Conditions: the ends are numbers of 64 bits, Lo at most Hi.
-/
import Derived.Test.YthjjfginenpfjaaSpanD
namespace Go.Proofs.Ythjjfginenpfjaa
open Go.RowKit Tn Ow Sp
set_option linter.unusedVariables false
set_option linter.unusedSimpArgs false
theorem divisor_any (b : E) (w : World) :
    Calls Try.prog 81 #[.agg #[.int .u64 b.lo, .int .u64 b.hi]] w fun e w' => e = .returned (.tuple #[.int .u64 b.lo, .bool (decide (b.lo = b.hi ∧ b.lo ≠ 0))]) ∧ Below w.heap.size w w' := by
  by_cases h : b.lo = b.hi
  · have hh : (b.lo == b.hi) = true := by simp [h]
    have HH := Lib.hid hh
    have HE := Lib.hid h
    clear h hh
    go_enter Try.func81, Try.ntmps81
    go_wp2_with fail
    have K0 := (Bk.new w 24 #[.int .u64 b.lo, .int .u64 b.hi])
    have B0 : Below w.heap.size w (w.alloc (.cells #[.int .u64 b.lo, .int .u64 b.hi] 24)) := by go_grown
    generalize (w.alloc (.cells #[.int .u64 b.lo, .int .u64 b.hi] 24)) = w0 at *
    have H0 := Lib.hid K0
    obtain ⟨c00, c01⟩ := tcells K0
    have HB := Lib.hid B0
    clear K0 B0
    go_region_held3 (fun w' => w'.cell? ⟨w.heap.size, 0, none⟩ = some (.int .u64 b.lo) ∧ w'.cell? ⟨w.heap.size, 1, none⟩ = some (.int .u64 b.hi) ∧ Below w.heap.size w w')
      (first | exact ⟨c00, c01, HB.out.drew⟩ | exact keep2 qb (by assumption) | exact keep2 qb ⟨by assumption, by assumption, by assumption⟩ | exact keep2 qb ⟨c00, c01, HB.out.drew⟩)
      (first | (go_at_call 83; with_reducible refine (ualone_to b true HH.out _).mono ?_; rintro e w2 ⟨rfl, qb⟩))
    rename_i hH
    have BB := Lib.hid hH.2.2
    clear qb hH
    go_wp2
    go_returns
    refine ⟨rt_ib rfl ?_, BB.out⟩
    by_cases g : b.lo = 0
    · rw [decide_eq_false (by omega)]; simp [g]
    · rw [decide_eq_true ⟨HE.out, g⟩]; simp [g]
  · have hh : (b.lo == b.hi) = false := by simp [h]
    have HH := Lib.hid hh
    have HE := Lib.hid h
    clear h hh
    go_enter Try.func81, Try.ntmps81
    go_wp2_with fail
    have K0 := (Bk.new w 24 #[.int .u64 b.lo, .int .u64 b.hi])
    have B0 : Below w.heap.size w (w.alloc (.cells #[.int .u64 b.lo, .int .u64 b.hi] 24)) := by go_grown
    generalize (w.alloc (.cells #[.int .u64 b.lo, .int .u64 b.hi] 24)) = w0 at *
    have H0 := Lib.hid K0
    obtain ⟨c00, c01⟩ := tcells K0
    have HB := Lib.hid B0
    clear K0 B0
    refine wp_region_held_drew (S := fun w' => w'.cell? ⟨w.heap.size, 0, none⟩ = some (.int .u64 b.lo) ∧ w'.cell? ⟨w.heap.size, 1, none⟩ = some (.int .u64 b.hi) ∧ Below w.heap.size w w') (by kernel_rfl) ?_ (fun hHeld => ?_)
    · exact ⟨c00, c01, HB.out.drew⟩
    refine wpAnyH_take (i := 0) (oi := { dst := some 4, op := Op.fieldAddr 24 (Operand.tmp 1) 0, type := 0, pos := "span.go:204", after := #[], guard := none }) (v := ?_) rfl (by kernel_rfl) (by kernel_rfl) (by kernel_rfl) (fun _ _ _ h => h) (Or.inl ⟨by rfl, ?_⟩) hHeld ?_
    rotate_left
    · intro w9 hSw
      try dsimp only at hSw
      go_simp
      try with_reducible rfl
    try simp only [Act.put, List.setIfInBounds_toArray, List.set_cons_zero, List.set_cons_succ]
    refine wpAnyH_take (i := 1) (oi := { dst := some 5, op := Op.load 22 (Operand.tmp 4), type := 22, pos := "span.go:204", after := #[{ on := 0, ground := Ground.data }], guard := none }) (v := ?_) rfl (by kernel_rfl) (by kernel_rfl) (by kernel_rfl) (fun _ _ _ h => h) (Or.inl ⟨by rfl, ?_⟩) hHeld ?_
    rotate_left
    · intro w9 hSw
      try dsimp only at hSw
      go_simp
      try with_reducible rfl
    try simp only [Act.put, List.setIfInBounds_toArray, List.set_cons_zero, List.set_cons_succ]
    refine wpAnyH_take (i := 2) (oi := { dst := some 6, op := Op.load 24 (Operand.tmp 1), type := 24, pos := "span.go:204", after := #[], guard := none }) (v := ?_) rfl (by kernel_rfl) (by kernel_rfl) (by kernel_rfl) (fun _ _ _ h => h) (Or.inl ⟨by rfl, ?_⟩) hHeld ?_
    rotate_left
    · intro w9 hSw
      try dsimp only at hSw
      go_simp
      try with_reducible rfl
    try simp only [Act.put, List.setIfInBounds_toArray, List.set_cons_zero, List.set_cons_succ]
    refine wpAnyH_ready (rs := [3]) (by kernel_rfl) (by simp) ?_
    refine AllReadyH.cons (o := { dst := some 7, op := Op.call { callee := Callee.value (Operand.func 83), args := #[Operand.tmp 6], argTypes := #[68] }, type := 4, pos := "span.go:204", after := #[{ on := 2, ground := Ground.data }], guard := none }) rfl (fun K hK => ?_) AllReadyH.nil
    go_simp
    (go_at_call 83; with_reducible refine (ualone_to b false HH.out _).mono ?_; rintro e z1 ⟨rfl, qb⟩)
    refine hK.out _ _ ?_ (fun g1 => ?_)
    · exact keep2 qb hHeld
    clear hK K qb
    skip
    try simp only [Act.put, List.setIfInBounds_toArray, List.set_cons_zero, List.set_cons_succ]
    refine wpAnyH_take (i := 4) (oi := { dst := some 8, op := Op.move (Operand.tmp 7), type := 4, pos := "span.go:204", after := #[{ on := 3, ground := Ground.data }, { on := 3, ground := Ground.chain }], guard := none }) (v := ?_) rfl (by kernel_rfl) (by kernel_rfl) (by kernel_rfl) (fun _ _ _ h => h) (Or.inl ⟨by rfl, ?_⟩) g1 ?_
    rotate_left
    · intro w9 hSw
      try dsimp only at hSw
      go_simp
      try with_reducible rfl
    try simp only [Act.put, List.setIfInBounds_toArray, List.set_cons_zero, List.set_cons_succ]
    refine wpAnyH_take (i := 5) (oi := { dst := some 9, op := Op.fieldAddr 24 (Operand.tmp 1) 0, type := 0, pos := "span.go:204", after := #[{ on := 4, ground := Ground.guard }, { on := 9, ground := Ground.gcOnly Departure.lateStores }], guard := some (4, true) }) (v := undef) rfl (by kernel_rfl) (by kernel_rfl) (by kernel_rfl) (fun _ _ _ h => h) (Or.inr ⟨by rfl, rfl⟩) g1 ?_
    try simp only [Act.put, List.setIfInBounds_toArray, List.set_cons_zero, List.set_cons_succ]
    refine wpAnyH_take (i := 6) (oi := { dst := some 10, op := Op.load 22 (Operand.tmp 9), type := 22, pos := "span.go:204", after := #[{ on := 5, ground := Ground.data }, { on := 4, ground := Ground.guard }, { on := 9, ground := Ground.gcOnly Departure.lateStores }], guard := some (4, true) }) (v := undef) rfl (by kernel_rfl) (by kernel_rfl) (by kernel_rfl) (fun _ _ _ h => h) (Or.inr ⟨by rfl, rfl⟩) g1 ?_
    try simp only [Act.put, List.setIfInBounds_toArray, List.set_cons_zero, List.set_cons_succ]
    refine wpAnyH_take (i := 7) (oi := { dst := some 11, op := Op.binOp BinOp.neq 22 (Operand.tmp 10) (Operand.const (Value.int IntKind.u64 0)) 22, type := 4, pos := "span.go:204", after := #[{ on := 6, ground := Ground.data }, { on := 4, ground := Ground.guard }, { on := 9, ground := Ground.gcOnly Departure.lateStores }], guard := some (4, true) }) (v := undef) rfl (by kernel_rfl) (by kernel_rfl) (by kernel_rfl) (fun _ _ _ h => h) (Or.inr ⟨by rfl, rfl⟩) g1 ?_
    try simp only [Act.put, List.setIfInBounds_toArray, List.set_cons_zero, List.set_cons_succ]
    refine wpAnyH_take (i := 8) (oi := { dst := some 12, op := Op.pick (Operand.tmp 8) (Operand.tmp 11) (Operand.const (Value.bool false)), type := 4, pos := "span.go:204", after := #[{ on := 4, ground := Ground.data }, { on := 7, ground := Ground.data }, { on := 9, ground := Ground.gcOnly Departure.lateStores }], guard := none }) (v := ?_) rfl (by kernel_rfl) (by kernel_rfl) (by kernel_rfl) (fun _ _ _ h => h) (Or.inl ⟨by rfl, ?_⟩) g1 ?_
    rotate_left
    · intro w9 hSw
      try dsimp only at hSw
      go_simp
      try with_reducible rfl
    try simp only [Act.put, List.setIfInBounds_toArray, List.set_cons_zero, List.set_cons_succ]
    refine wpAnyH_take (i := 9) (oi := { dst := some 2, op := Op.assign (Operand.tmp 5), type := 22, pos := "span.go:204", after := #[{ on := 1, ground := Ground.data }, { on := 4, ground := Ground.chain }, { on := 0, ground := Ground.phase }, { on := 1, ground := Ground.phase }, { on := 2, ground := Ground.textOnly Departure.lateStores }, { on := 3, ground := Ground.textOnly Departure.lateStoresUnsure }, { on := 4, ground := Ground.textOnly Departure.lateStores }, { on := 5, ground := Ground.textOnly Departure.lateStores }, { on := 6, ground := Ground.textOnly Departure.lateStores }, { on := 7, ground := Ground.textOnly Departure.lateStores }, { on := 8, ground := Ground.textOnly Departure.lateStores }], guard := none }) (v := ?_) rfl (by kernel_rfl) (by kernel_rfl) (by kernel_rfl) (fun _ _ _ h => h) (Or.inl ⟨by rfl, ?_⟩) g1 ?_
    rotate_left
    · intro w9 hSw
      try dsimp only at hSw
      go_simp
      try with_reducible rfl
    try simp only [Act.put, List.setIfInBounds_toArray, List.set_cons_zero, List.set_cons_succ]
    refine wpAnyH_take (i := 10) (oi := { dst := some 3, op := Op.assign (Operand.tmp 12), type := 4, pos := "span.go:204", after := #[{ on := 8, ground := Ground.data }, { on := 9, ground := Ground.chain }, { on := 0, ground := Ground.phase }, { on := 1, ground := Ground.phase }, { on := 2, ground := Ground.phase }, { on := 3, ground := Ground.phase }, { on := 4, ground := Ground.phase }, { on := 5, ground := Ground.phase }, { on := 6, ground := Ground.phase }, { on := 7, ground := Ground.phase }, { on := 8, ground := Ground.phase }, { on := 9, ground := Ground.phase }], guard := none }) (v := ?_) rfl (by kernel_rfl) (by kernel_rfl) (by kernel_rfl) (fun _ _ _ h => h) (Or.inl ⟨by rfl, ?_⟩) g1 ?_
    rotate_left
    · intro w9 hSw
      try dsimp only at hSw
      go_simp
      try with_reducible rfl
    try simp only [Act.put, List.setIfInBounds_toArray, List.set_cons_zero, List.set_cons_succ]
    refine wpAnyH_done (by kernel_rfl) ?_ _
    have BB := Lib.hid g1.2.2
    go_wp2
    go_returns
    refine ⟨rt_ib rfl ?_, BB.out⟩
    rw [decide_eq_false (fun g => HE.out g.1)]
theorem divisor_to (b : E) (r : Bool) (h : decide (b.lo = b.hi ∧ b.lo ≠ 0) = r) (w : World) :
    Calls Try.prog 81 #[.agg #[.int .u64 b.lo, .int .u64 b.hi]] w fun e w' => e = .returned (.tuple #[.int .u64 b.lo, .bool r]) ∧ Below w.heap.size w w' := by subst h; exact divisor_any b w
theorem udiv_any (a b : E) (ha : okU a) (hb : okU b) (w : World) :
    Calls Try.prog 27 #[.agg #[.int .u64 a.lo, .int .u64 a.hi], .agg #[.int .u64 b.lo, .int .u64 b.hi]] w fun e w' => e = .returned (.agg #[.int .u64 (uDiv a b).lo, .int .u64 (uDiv a b).hi]) ∧ Below w.heap.size w w' := by
  obtain ⟨a0, a1, a2⟩ := ha
  obtain ⟨b0, b1, b2⟩ := hb
  by_cases h : b.lo = b.hi ∧ b.lo ≠ 0
  · have e1 := Lib.hid (show uDiv a b = ⟨a.lo / b.lo, a.hi / b.lo⟩ by unfold uDiv; rw [if_pos h])
    rw [e1.out]
    have HD := Lib.hid (show decide (b.lo = b.hi ∧ b.lo ≠ 0) = true from decide_eq_true h)
    have g : 0 < b.lo := by omega
    clear h
    go_enter Try.func27, Try.ntmps27
    go_wp2_with fail
    have K0 := (((Bk.new w 24 #[.int .u64 a.lo, .int .u64 a.hi]).alloc (.cells #[.int .u64 b.lo, .int .u64 b.hi] 24)).alloc (.cells #[.int .u64 0, .int .u64 0] 24))
    have K1 := ((Bk.new (w.alloc (.cells #[.int .u64 a.lo, .int .u64 a.hi] 24)) 24 #[.int .u64 b.lo, .int .u64 b.hi]).alloc (.cells #[.int .u64 0, .int .u64 0] 24))
    rw [World.size_alloc] at K1
    have K2 := (Bk.new ((w.alloc (.cells #[.int .u64 a.lo, .int .u64 a.hi] 24)).alloc (.cells #[.int .u64 b.lo, .int .u64 b.hi] 24)) 24 #[.int .u64 0, .int .u64 0])
    rw [World.size_alloc, World.size_alloc] at K2
    have B0 : Below w.heap.size w (((w.alloc (.cells #[.int .u64 a.lo, .int .u64 a.hi] 24)).alloc (.cells #[.int .u64 b.lo, .int .u64 b.hi] 24)).alloc (.cells #[.int .u64 0, .int .u64 0] 24)) := by go_grown
    generalize (((w.alloc (.cells #[.int .u64 a.lo, .int .u64 a.hi] 24)).alloc (.cells #[.int .u64 b.lo, .int .u64 b.hi] 24)).alloc (.cells #[.int .u64 0, .int .u64 0] 24)) = w0 at *
    have H0 := Lib.hid K0
    obtain ⟨c00, c01⟩ := tcells K0
    have H1 := Lib.hid K1
    obtain ⟨c10, c11⟩ := tcells K1
    have H2 := Lib.hid K2
    obtain ⟨c20, c21⟩ := tcells K2
    have f0 := K2.frozen 0
    have f1 := K2.frozen 1
    have HB := Lib.hid B0
    clear K0 K1 K2 B0
    with_reducible refine (divisor_to b _ HD.out _).mono ?_
    rintro e w1 ⟨rfl, qb⟩
    replace f0 := keepf qb (World.block_lt_of_cell? _ _ c20) f0
    replace f1 := keepf qb (World.block_lt_of_cell? _ _ c21) f1
    replace c00 := keep1 qb c00
    replace c01 := keep1 qb c01
    replace c10 := keep1 qb c10
    replace c11 := keep1 qb c11
    replace c20 := keep1 qb c20
    replace c21 := keep1 qb c21
    replace H0 := Lib.hid (H0.out.below qb H0.out.lt)
    replace H1 := Lib.hid (H1.out.below qb H1.out.lt)
    replace H2 := Lib.hid (H2.out.below qb H2.out.lt)
    replace HB := Lib.hid (below_then HB.out qb (Nat.le_refl _))
    clear qb
    go_wp2_with fail
    go_region
    go_wp2_with fail
    have r0 : ∀ u v, ((w1.setCell ⟨w.heap.size + 1 + 1, 0, none⟩ u).setCell ⟨w.heap.size + 1 + 1, 1, none⟩ v).drew.cell? ⟨w.heap.size + 1 + 1, 0, none⟩ = some u := fun u v => set_fst c20
    have r1 : ∀ u v, ((w1.setCell ⟨w.heap.size + 1 + 1, 0, none⟩ u).setCell ⟨w.heap.size + 1 + 1, 1, none⟩ v).drew.cell? ⟨w.heap.size + 1 + 1, 1, none⟩ = some v := fun u v => set_snd c21
    refine bodyPost_ret (by simp [results, Try.results27, r0, r1, go_sem]; try rfl) rfl ?_
    exact ⟨rt_u rfl rfl, (below_st2 HB.out (by omega)).drew⟩
  · have e1 := Lib.hid (show uDiv a b = ⟨0, a.hi⟩ by unfold uDiv; rw [if_neg h])
    rw [e1.out]
    have HD := Lib.hid (show decide (b.lo = b.hi ∧ b.lo ≠ 0) = false from decide_eq_false h)
    clear h
    go_enter Try.func27, Try.ntmps27
    go_wp2_with fail
    have K0 := (((Bk.new w 24 #[.int .u64 a.lo, .int .u64 a.hi]).alloc (.cells #[.int .u64 b.lo, .int .u64 b.hi] 24)).alloc (.cells #[.int .u64 0, .int .u64 0] 24))
    have K1 := ((Bk.new (w.alloc (.cells #[.int .u64 a.lo, .int .u64 a.hi] 24)) 24 #[.int .u64 b.lo, .int .u64 b.hi]).alloc (.cells #[.int .u64 0, .int .u64 0] 24))
    rw [World.size_alloc] at K1
    have K2 := (Bk.new ((w.alloc (.cells #[.int .u64 a.lo, .int .u64 a.hi] 24)).alloc (.cells #[.int .u64 b.lo, .int .u64 b.hi] 24)) 24 #[.int .u64 0, .int .u64 0])
    rw [World.size_alloc, World.size_alloc] at K2
    have B0 : Below w.heap.size w (((w.alloc (.cells #[.int .u64 a.lo, .int .u64 a.hi] 24)).alloc (.cells #[.int .u64 b.lo, .int .u64 b.hi] 24)).alloc (.cells #[.int .u64 0, .int .u64 0] 24)) := by go_grown
    generalize (((w.alloc (.cells #[.int .u64 a.lo, .int .u64 a.hi] 24)).alloc (.cells #[.int .u64 b.lo, .int .u64 b.hi] 24)).alloc (.cells #[.int .u64 0, .int .u64 0] 24)) = w0 at *
    have H0 := Lib.hid K0
    obtain ⟨c00, c01⟩ := tcells K0
    have H1 := Lib.hid K1
    obtain ⟨c10, c11⟩ := tcells K1
    have H2 := Lib.hid K2
    obtain ⟨c20, c21⟩ := tcells K2
    have f0 := K2.frozen 0
    have f1 := K2.frozen 1
    have HB := Lib.hid B0
    clear K0 K1 K2 B0
    with_reducible refine (divisor_to b _ HD.out _).mono ?_
    rintro e w1 ⟨rfl, qb⟩
    replace f0 := keepf qb (World.block_lt_of_cell? _ _ c20) f0
    replace f1 := keepf qb (World.block_lt_of_cell? _ _ c21) f1
    replace c00 := keep1 qb c00
    replace c01 := keep1 qb c01
    replace c10 := keep1 qb c10
    replace c11 := keep1 qb c11
    replace c20 := keep1 qb c20
    replace c21 := keep1 qb c21
    replace H0 := Lib.hid (H0.out.below qb H0.out.lt)
    replace H1 := Lib.hid (H1.out.below qb H1.out.lt)
    replace H2 := Lib.hid (H2.out.below qb H2.out.lt)
    replace HB := Lib.hid (below_then HB.out qb (Nat.le_refl _))
    clear qb
    go_wp2_with fail
    have r0 : ∀ u v, ((w1.setCell ⟨w.heap.size + 1 + 1, 0, none⟩ u).setCell ⟨w.heap.size + 1 + 1, 1, none⟩ v).cell? ⟨w.heap.size + 1 + 1, 0, none⟩ = some u := fun u v => set_fst c20
    have r1 : ∀ u v, ((w1.setCell ⟨w.heap.size + 1 + 1, 0, none⟩ u).setCell ⟨w.heap.size + 1 + 1, 1, none⟩ v).cell? ⟨w.heap.size + 1 + 1, 1, none⟩ = some v := fun u v => set_snd c21
    refine bodyPost_ret (by simp [results, Try.results27, r0, r1, go_sem]; try rfl) rfl ?_
    exact ⟨rt_u rfl rfl, (below_st2 HB.out (by omega))⟩
theorem umod_any (a b : E) (ha : okU a) (hb : okU b) (w : World) :
    Calls Try.prog 29 #[.agg #[.int .u64 a.lo, .int .u64 a.hi], .agg #[.int .u64 b.lo, .int .u64 b.hi]] w fun e w' => e = .returned (.agg #[.int .u64 (uMod a b).lo, .int .u64 (uMod a b).hi]) ∧ Below w.heap.size w w' := by
  obtain ⟨a0, a1, a2⟩ := ha
  obtain ⟨b0, b1, b2⟩ := hb
  by_cases h : b.lo = b.hi ∧ b.lo ≠ 0
  · have HD := Lib.hid (show decide (b.lo = b.hi ∧ b.lo ≠ 0) = true from decide_eq_true h)
    have g : 0 < b.lo := by omega
    by_cases h1 : a.hi < b.lo
    · have e1 := Lib.hid (show uMod a b = a by unfold uMod; rw [if_pos h, if_pos h1])
      rw [e1.out]
      clear h
      go_enter Try.func29, Try.ntmps29
      go_wp2_with fail
      have K0 := (((Bk.new w 24 #[.int .u64 a.lo, .int .u64 a.hi]).alloc (.cells #[.int .u64 b.lo, .int .u64 b.hi] 24)).alloc (.cells #[.int .u64 0, .int .u64 0] 24))
      have K1 := ((Bk.new (w.alloc (.cells #[.int .u64 a.lo, .int .u64 a.hi] 24)) 24 #[.int .u64 b.lo, .int .u64 b.hi]).alloc (.cells #[.int .u64 0, .int .u64 0] 24))
      rw [World.size_alloc] at K1
      have K2 := (Bk.new ((w.alloc (.cells #[.int .u64 a.lo, .int .u64 a.hi] 24)).alloc (.cells #[.int .u64 b.lo, .int .u64 b.hi] 24)) 24 #[.int .u64 0, .int .u64 0])
      rw [World.size_alloc, World.size_alloc] at K2
      have B0 : Below w.heap.size w (((w.alloc (.cells #[.int .u64 a.lo, .int .u64 a.hi] 24)).alloc (.cells #[.int .u64 b.lo, .int .u64 b.hi] 24)).alloc (.cells #[.int .u64 0, .int .u64 0] 24)) := by go_grown
      generalize (((w.alloc (.cells #[.int .u64 a.lo, .int .u64 a.hi] 24)).alloc (.cells #[.int .u64 b.lo, .int .u64 b.hi] 24)).alloc (.cells #[.int .u64 0, .int .u64 0] 24)) = w0 at *
      have H0 := Lib.hid K0
      obtain ⟨c00, c01⟩ := tcells K0
      have H1 := Lib.hid K1
      obtain ⟨c10, c11⟩ := tcells K1
      have H2 := Lib.hid K2
      obtain ⟨c20, c21⟩ := tcells K2
      have f0 := K2.frozen 0
      have f1 := K2.frozen 1
      have HB := Lib.hid B0
      clear K0 K1 K2 B0
      with_reducible refine (divisor_to b _ HD.out _).mono ?_
      rintro e w1 ⟨rfl, qb⟩
      replace f0 := keepf qb (World.block_lt_of_cell? _ _ c20) f0
      replace f1 := keepf qb (World.block_lt_of_cell? _ _ c21) f1
      replace c00 := keep1 qb c00
      replace c01 := keep1 qb c01
      replace c10 := keep1 qb c10
      replace c11 := keep1 qb c11
      replace c20 := keep1 qb c20
      replace c21 := keep1 qb c21
      replace H0 := Lib.hid (H0.out.below qb H0.out.lt)
      replace H1 := Lib.hid (H1.out.below qb H1.out.lt)
      replace H2 := Lib.hid (H2.out.below qb H2.out.lt)
      replace HB := Lib.hid (below_then HB.out qb (Nat.le_refl _))
      clear qb
      go_wp2_with fail
      have r0 : ∀ u v, ((w1.setCell ⟨w.heap.size + 1 + 1, 0, none⟩ u).setCell ⟨w.heap.size + 1 + 1, 1, none⟩ v).cell? ⟨w.heap.size + 1 + 1, 0, none⟩ = some u := fun u v => set_fst c20
      have r1 : ∀ u v, ((w1.setCell ⟨w.heap.size + 1 + 1, 0, none⟩ u).setCell ⟨w.heap.size + 1 + 1, 1, none⟩ v).cell? ⟨w.heap.size + 1 + 1, 1, none⟩ = some v := fun u v => set_snd c21
      refine bodyPost_ret (by simp [results, Try.results29, r0, r1, go_sem]; try rfl) rfl ?_
      exact ⟨rt_u rfl rfl, (below_st2 HB.out (by omega))⟩
    · by_cases h2 : a.lo = a.hi
      · have e1 := Lib.hid (show uMod a b = ofE (a.lo % b.lo) by unfold uMod; rw [if_pos h, if_neg h1, if_pos h2])
        rw [e1.out]
        have HL := Lib.hid (show (a.lo == a.hi) = true by simp [h2])
        clear h h2
        go_enter Try.func29, Try.ntmps29
        go_wp2_with fail
        have K0 := (((Bk.new w 24 #[.int .u64 a.lo, .int .u64 a.hi]).alloc (.cells #[.int .u64 b.lo, .int .u64 b.hi] 24)).alloc (.cells #[.int .u64 0, .int .u64 0] 24))
        have K1 := ((Bk.new (w.alloc (.cells #[.int .u64 a.lo, .int .u64 a.hi] 24)) 24 #[.int .u64 b.lo, .int .u64 b.hi]).alloc (.cells #[.int .u64 0, .int .u64 0] 24))
        rw [World.size_alloc] at K1
        have K2 := (Bk.new ((w.alloc (.cells #[.int .u64 a.lo, .int .u64 a.hi] 24)).alloc (.cells #[.int .u64 b.lo, .int .u64 b.hi] 24)) 24 #[.int .u64 0, .int .u64 0])
        rw [World.size_alloc, World.size_alloc] at K2
        have B0 : Below w.heap.size w (((w.alloc (.cells #[.int .u64 a.lo, .int .u64 a.hi] 24)).alloc (.cells #[.int .u64 b.lo, .int .u64 b.hi] 24)).alloc (.cells #[.int .u64 0, .int .u64 0] 24)) := by go_grown
        generalize (((w.alloc (.cells #[.int .u64 a.lo, .int .u64 a.hi] 24)).alloc (.cells #[.int .u64 b.lo, .int .u64 b.hi] 24)).alloc (.cells #[.int .u64 0, .int .u64 0] 24)) = w0 at *
        have H0 := Lib.hid K0
        obtain ⟨c00, c01⟩ := tcells K0
        have H1 := Lib.hid K1
        obtain ⟨c10, c11⟩ := tcells K1
        have H2 := Lib.hid K2
        obtain ⟨c20, c21⟩ := tcells K2
        have f0 := K2.frozen 0
        have f1 := K2.frozen 1
        have HB := Lib.hid B0
        clear K0 K1 K2 B0
        with_reducible refine (divisor_to b _ HD.out _).mono ?_
        rintro e w1 ⟨rfl, qb⟩
        replace f0 := keepf qb (World.block_lt_of_cell? _ _ c20) f0
        replace f1 := keepf qb (World.block_lt_of_cell? _ _ c21) f1
        replace c00 := keep1 qb c00
        replace c01 := keep1 qb c01
        replace c10 := keep1 qb c10
        replace c11 := keep1 qb c11
        replace c20 := keep1 qb c20
        replace c21 := keep1 qb c21
        replace H0 := Lib.hid (H0.out.below qb H0.out.lt)
        replace H1 := Lib.hid (H1.out.below qb H1.out.lt)
        replace H2 := Lib.hid (H2.out.below qb H2.out.lt)
        replace HB := Lib.hid (below_then HB.out qb (Nat.le_refl _))
        clear qb
        go_wp2_with fail
        with_reducible refine (ualone_to a _ HL.out _).mono ?_
        rintro e w2 ⟨rfl, qb⟩
        replace f0 := keepf qb (World.block_lt_of_cell? _ _ c20) f0
        replace f1 := keepf qb (World.block_lt_of_cell? _ _ c21) f1
        replace c00 := keep1 qb c00
        replace c01 := keep1 qb c01
        replace c10 := keep1 qb c10
        replace c11 := keep1 qb c11
        replace c20 := keep1 qb c20
        replace c21 := keep1 qb c21
        replace H0 := Lib.hid (H0.out.below qb H0.out.lt)
        replace H1 := Lib.hid (H1.out.below qb H1.out.lt)
        replace H2 := Lib.hid (H2.out.below qb H2.out.lt)
        replace HB := Lib.hid (below_then HB.out qb (Nat.le_refl _))
        clear qb
        go_wp2_with fail
        with_reducible refine (uof_any _ _).mono ?_
        rintro e w3 ⟨rfl, qb⟩
        replace f0 := keepf qb (World.block_lt_of_cell? _ _ c20) f0
        replace f1 := keepf qb (World.block_lt_of_cell? _ _ c21) f1
        replace c00 := keep1 qb c00
        replace c01 := keep1 qb c01
        replace c10 := keep1 qb c10
        replace c11 := keep1 qb c11
        replace c20 := keep1 qb c20
        replace c21 := keep1 qb c21
        replace H0 := Lib.hid (H0.out.below qb H0.out.lt)
        replace H1 := Lib.hid (H1.out.below qb H1.out.lt)
        replace H2 := Lib.hid (H2.out.below qb H2.out.lt)
        replace HB := Lib.hid (below_then HB.out qb (Nat.le_refl _))
        clear qb
        go_wp2_with fail
        have r0 : ∀ u v, ((w3.setCell ⟨w.heap.size + 1 + 1, 0, none⟩ u).setCell ⟨w.heap.size + 1 + 1, 1, none⟩ v).cell? ⟨w.heap.size + 1 + 1, 0, none⟩ = some u := fun u v => set_fst c20
        have r1 : ∀ u v, ((w3.setCell ⟨w.heap.size + 1 + 1, 0, none⟩ u).setCell ⟨w.heap.size + 1 + 1, 1, none⟩ v).cell? ⟨w.heap.size + 1 + 1, 1, none⟩ = some v := fun u v => set_snd c21
        refine bodyPost_ret (by simp [results, Try.results29, r0, r1, go_sem]; try rfl) rfl ?_
        exact ⟨rt_u rfl rfl, (below_st2 HB.out (by omega))⟩
      · have e1 := Lib.hid (show uMod a b = ⟨0, b.lo - 1⟩ by unfold uMod; rw [if_pos h, if_neg h1, if_neg h2])
        rw [e1.out]
        have HL := Lib.hid (show (a.lo == a.hi) = false by simp [h2])
        clear h h2
        go_enter Try.func29, Try.ntmps29
        go_wp2_with fail
        have K0 := (((Bk.new w 24 #[.int .u64 a.lo, .int .u64 a.hi]).alloc (.cells #[.int .u64 b.lo, .int .u64 b.hi] 24)).alloc (.cells #[.int .u64 0, .int .u64 0] 24))
        have K1 := ((Bk.new (w.alloc (.cells #[.int .u64 a.lo, .int .u64 a.hi] 24)) 24 #[.int .u64 b.lo, .int .u64 b.hi]).alloc (.cells #[.int .u64 0, .int .u64 0] 24))
        rw [World.size_alloc] at K1
        have K2 := (Bk.new ((w.alloc (.cells #[.int .u64 a.lo, .int .u64 a.hi] 24)).alloc (.cells #[.int .u64 b.lo, .int .u64 b.hi] 24)) 24 #[.int .u64 0, .int .u64 0])
        rw [World.size_alloc, World.size_alloc] at K2
        have B0 : Below w.heap.size w (((w.alloc (.cells #[.int .u64 a.lo, .int .u64 a.hi] 24)).alloc (.cells #[.int .u64 b.lo, .int .u64 b.hi] 24)).alloc (.cells #[.int .u64 0, .int .u64 0] 24)) := by go_grown
        generalize (((w.alloc (.cells #[.int .u64 a.lo, .int .u64 a.hi] 24)).alloc (.cells #[.int .u64 b.lo, .int .u64 b.hi] 24)).alloc (.cells #[.int .u64 0, .int .u64 0] 24)) = w0 at *
        have H0 := Lib.hid K0
        obtain ⟨c00, c01⟩ := tcells K0
        have H1 := Lib.hid K1
        obtain ⟨c10, c11⟩ := tcells K1
        have H2 := Lib.hid K2
        obtain ⟨c20, c21⟩ := tcells K2
        have f0 := K2.frozen 0
        have f1 := K2.frozen 1
        have HB := Lib.hid B0
        clear K0 K1 K2 B0
        with_reducible refine (divisor_to b _ HD.out _).mono ?_
        rintro e w1 ⟨rfl, qb⟩
        replace f0 := keepf qb (World.block_lt_of_cell? _ _ c20) f0
        replace f1 := keepf qb (World.block_lt_of_cell? _ _ c21) f1
        replace c00 := keep1 qb c00
        replace c01 := keep1 qb c01
        replace c10 := keep1 qb c10
        replace c11 := keep1 qb c11
        replace c20 := keep1 qb c20
        replace c21 := keep1 qb c21
        replace H0 := Lib.hid (H0.out.below qb H0.out.lt)
        replace H1 := Lib.hid (H1.out.below qb H1.out.lt)
        replace H2 := Lib.hid (H2.out.below qb H2.out.lt)
        replace HB := Lib.hid (below_then HB.out qb (Nat.le_refl _))
        clear qb
        go_wp2_with fail
        with_reducible refine (ualone_to a _ HL.out _).mono ?_
        rintro e w2 ⟨rfl, qb⟩
        replace f0 := keepf qb (World.block_lt_of_cell? _ _ c20) f0
        replace f1 := keepf qb (World.block_lt_of_cell? _ _ c21) f1
        replace c00 := keep1 qb c00
        replace c01 := keep1 qb c01
        replace c10 := keep1 qb c10
        replace c11 := keep1 qb c11
        replace c20 := keep1 qb c20
        replace c21 := keep1 qb c21
        replace H0 := Lib.hid (H0.out.below qb H0.out.lt)
        replace H1 := Lib.hid (H1.out.below qb H1.out.lt)
        replace H2 := Lib.hid (H2.out.below qb H2.out.lt)
        replace HB := Lib.hid (below_then HB.out qb (Nat.le_refl _))
        clear qb
        go_wp2_with fail
        have r0 : ∀ u v, ((w2.setCell ⟨w.heap.size + 1 + 1, 0, none⟩ u).setCell ⟨w.heap.size + 1 + 1, 1, none⟩ v).cell? ⟨w.heap.size + 1 + 1, 0, none⟩ = some u := fun u v => set_fst c20
        have r1 : ∀ u v, ((w2.setCell ⟨w.heap.size + 1 + 1, 0, none⟩ u).setCell ⟨w.heap.size + 1 + 1, 1, none⟩ v).cell? ⟨w.heap.size + 1 + 1, 1, none⟩ = some v := fun u v => set_snd c21
        refine bodyPost_ret (by simp [results, Try.results29, r0, r1, go_sem]; try rfl) rfl ?_
        exact ⟨rt_u rfl rfl, (below_st2 HB.out (by omega))⟩
  · have e1 := Lib.hid (show uMod a b = ⟨0, a.hi⟩ by unfold uMod; rw [if_neg h])
    rw [e1.out]
    have HD := Lib.hid (show decide (b.lo = b.hi ∧ b.lo ≠ 0) = false from decide_eq_false h)
    clear h
    go_enter Try.func29, Try.ntmps29
    go_wp2_with fail
    have K0 := (((Bk.new w 24 #[.int .u64 a.lo, .int .u64 a.hi]).alloc (.cells #[.int .u64 b.lo, .int .u64 b.hi] 24)).alloc (.cells #[.int .u64 0, .int .u64 0] 24))
    have K1 := ((Bk.new (w.alloc (.cells #[.int .u64 a.lo, .int .u64 a.hi] 24)) 24 #[.int .u64 b.lo, .int .u64 b.hi]).alloc (.cells #[.int .u64 0, .int .u64 0] 24))
    rw [World.size_alloc] at K1
    have K2 := (Bk.new ((w.alloc (.cells #[.int .u64 a.lo, .int .u64 a.hi] 24)).alloc (.cells #[.int .u64 b.lo, .int .u64 b.hi] 24)) 24 #[.int .u64 0, .int .u64 0])
    rw [World.size_alloc, World.size_alloc] at K2
    have B0 : Below w.heap.size w (((w.alloc (.cells #[.int .u64 a.lo, .int .u64 a.hi] 24)).alloc (.cells #[.int .u64 b.lo, .int .u64 b.hi] 24)).alloc (.cells #[.int .u64 0, .int .u64 0] 24)) := by go_grown
    generalize (((w.alloc (.cells #[.int .u64 a.lo, .int .u64 a.hi] 24)).alloc (.cells #[.int .u64 b.lo, .int .u64 b.hi] 24)).alloc (.cells #[.int .u64 0, .int .u64 0] 24)) = w0 at *
    have H0 := Lib.hid K0
    obtain ⟨c00, c01⟩ := tcells K0
    have H1 := Lib.hid K1
    obtain ⟨c10, c11⟩ := tcells K1
    have H2 := Lib.hid K2
    obtain ⟨c20, c21⟩ := tcells K2
    have f0 := K2.frozen 0
    have f1 := K2.frozen 1
    have HB := Lib.hid B0
    clear K0 K1 K2 B0
    with_reducible refine (divisor_to b _ HD.out _).mono ?_
    rintro e w1 ⟨rfl, qb⟩
    replace f0 := keepf qb (World.block_lt_of_cell? _ _ c20) f0
    replace f1 := keepf qb (World.block_lt_of_cell? _ _ c21) f1
    replace c00 := keep1 qb c00
    replace c01 := keep1 qb c01
    replace c10 := keep1 qb c10
    replace c11 := keep1 qb c11
    replace c20 := keep1 qb c20
    replace c21 := keep1 qb c21
    replace H0 := Lib.hid (H0.out.below qb H0.out.lt)
    replace H1 := Lib.hid (H1.out.below qb H1.out.lt)
    replace H2 := Lib.hid (H2.out.below qb H2.out.lt)
    replace HB := Lib.hid (below_then HB.out qb (Nat.le_refl _))
    clear qb
    go_wp2_with fail
    have r0 : ∀ u v, ((w1.setCell ⟨w.heap.size + 1 + 1, 0, none⟩ u).setCell ⟨w.heap.size + 1 + 1, 1, none⟩ v).cell? ⟨w.heap.size + 1 + 1, 0, none⟩ = some u := fun u v => set_fst c20
    have r1 : ∀ u v, ((w1.setCell ⟨w.heap.size + 1 + 1, 0, none⟩ u).setCell ⟨w.heap.size + 1 + 1, 1, none⟩ v).cell? ⟨w.heap.size + 1 + 1, 1, none⟩ = some v := fun u v => set_snd c21
    refine bodyPost_ret (by simp [results, Try.results29, r0, r1, go_sem]; try rfl) rfl ?_
    exact ⟨rt_u rfl rfl, (below_st2 HB.out (by omega))⟩
end Go.Proofs.Ythjjfginenpfjaa
