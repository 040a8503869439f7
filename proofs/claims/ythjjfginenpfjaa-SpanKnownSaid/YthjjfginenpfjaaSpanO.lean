/-
  What package span tells of one or both bits (UOr): a contract. Conditions: the ends are numbers of 64 bits, Lo at most Hi.
-/
import Derived.Test.YthjjfginenpfjaaSpanD
namespace Go.Proofs.Ythjjfginenpfjaa
open Go.RowKit Tn Ow Sp
set_option linter.unusedVariables false
set_option linter.unusedSimpArgs false
theorem len_to (x r : Int) (h0 : 0 ≤ x) (h1 : x ≤ 18446744073709551615) (n : Nat) (hn : ln x.toNat = n) (w : World) :
    Calls Try.prog 85 #[.int .u64 x] w fun e w' => e = .returned (.int .i64 (n : Int)) ∧ Below w.heap.size w w' := by
  subst hn
  exact (len_any x h0 h1 w).mono fun e w' h => ⟨h.1, by rw [← h.2]; exact Below.refl _ _⟩
theorem ones_to (k : Nat) (r : Int) (hk : k ≤ 64) (h : 2 ^ k - 1 = r) (w : World) :
    Calls Try.prog 84 #[.int .i64 (k : Int)] w fun e w' => e = .returned (.int .u64 r) ∧ Below w.heap.size w w' := by
  subst h
  exact (ones_any k hk w).mono fun e w' h => ⟨h.1, by rw [← h.2]; exact Below.refl _ _⟩
set_option maxHeartbeats 16000000 in
theorem uor_any (a b : E) (ha : okU a) (hb : okU b) (w : World) :
    Calls Try.prog 33 #[.agg #[.int .u64 a.lo, .int .u64 a.hi], .agg #[.int .u64 b.lo, .int .u64 b.hi]] w fun e w' => e = .returned (.agg #[.int .u64 (uOr a b).lo, .int .u64 (uOr a b).hi]) ∧ Below w.heap.size w w' := by
  obtain ⟨a0, a1, a2⟩ := ha
  obtain ⟨b0, b1, b2⟩ := hb
  by_cases h1 : a.lo = a.hi
  · have L1 := Lib.hid (show (a.lo == a.hi) = true by simp [h1])
    by_cases h2 : b.lo = b.hi
    · have e1 := Lib.hid (show uOr a b = ofE (orI a.lo b.lo) by unfold uOr; rw [if_pos ⟨h1, h2⟩])
      rw [e1.out]
      have L2 := Lib.hid (show (b.lo == b.hi) = true by simp [h2])
      clear h1 h2
      go_enter Try.func33, Try.ntmps33
      go_wp2_with fail
      have K0 := (((Bk.new w 24 #[.int .u64 a.lo, .int .u64 a.hi]).alloc (.cells #[.int .u64 b.lo, .int .u64 b.hi] 24)).alloc (.cells #[.int .u64 0, .int .u64 0] 24))
      have K1 := ((Bk.new (w.alloc (.cells #[.int .u64 a.lo, .int .u64 a.hi] 24)) 24 #[.int .u64 b.lo, .int .u64 b.hi]).alloc (.cells #[.int .u64 0, .int .u64 0] 24))
      rw [World.size_alloc] at K1
      have K2 := (Bk.new ((w.alloc (.cells #[.int .u64 a.lo, .int .u64 a.hi] 24)).alloc (.cells #[.int .u64 b.lo, .int .u64 b.hi] 24)) 24 #[.int .u64 0, .int .u64 0])
      rw [World.size_alloc, World.size_alloc] at K2
      have B0 : Below w.heap.size w (((w.alloc (.cells #[.int .u64 a.lo, .int .u64 a.hi] 24)).alloc (.cells #[.int .u64 b.lo, .int .u64 b.hi] 24)).alloc (.cells #[.int .u64 0, .int .u64 0] 24)) := by go_grown
      generalize (((w.alloc (.cells #[.int .u64 a.lo, .int .u64 a.hi] 24)).alloc (.cells #[.int .u64 b.lo, .int .u64 b.hi] 24)).alloc (.cells #[.int .u64 0, .int .u64 0] 24)) = w0 at *
      have H0 := Lib.hid K0
      obtain ⟨c00, c01⟩ := tcells K0
      have H1 := Lib.hid K1
      obtain ⟨c10, c11⟩ := tcells K1
      have H2 := Lib.hid K2
      obtain ⟨c20, c21⟩ := tcells K2
      have f0 := K2.frozen 0
      have f1 := K2.frozen 1
      have HB := Lib.hid B0
      clear K0 K1 K2 B0
      with_reducible refine (ualone_to a _ L1.out _).mono ?_
      rintro e w1 ⟨rfl, qb⟩
      replace f0 := keepf qb (World.block_lt_of_cell? _ _ c20) f0
      replace f1 := keepf qb (World.block_lt_of_cell? _ _ c21) f1
      replace c00 := keep1 qb c00
      replace c01 := keep1 qb c01
      replace c10 := keep1 qb c10
      replace c11 := keep1 qb c11
      replace c20 := keep1 qb c20
      replace c21 := keep1 qb c21
      replace H0 := Lib.hid (H0.out.below qb H0.out.lt)
      replace H1 := Lib.hid (H1.out.below qb H1.out.lt)
      replace H2 := Lib.hid (H2.out.below qb H2.out.lt)
      replace HB := Lib.hid (below_then HB.out qb (Nat.le_refl _))
      clear qb
      go_wp2_with fail
      with_reducible refine (ualone_to b _ L2.out _).mono ?_
      rintro e w2 ⟨rfl, qb⟩
      replace f0 := keepf qb (World.block_lt_of_cell? _ _ c20) f0
      replace f1 := keepf qb (World.block_lt_of_cell? _ _ c21) f1
      replace c00 := keep1 qb c00
      replace c01 := keep1 qb c01
      replace c10 := keep1 qb c10
      replace c11 := keep1 qb c11
      replace c20 := keep1 qb c20
      replace c21 := keep1 qb c21
      replace H0 := Lib.hid (H0.out.below qb H0.out.lt)
      replace H1 := Lib.hid (H1.out.below qb H1.out.lt)
      replace H2 := Lib.hid (H2.out.below qb H2.out.lt)
      replace HB := Lib.hid (below_then HB.out qb (Nat.le_refl _))
      clear qb
      go_wp2_with fail
      have EB := bits_or a.lo b.lo (by omega) (by omega) (by omega) (by omega)
      with_reducible refine (uof_any _ _).mono ?_
      rintro e w3 ⟨rfl, qb⟩
      replace f0 := keepf qb (World.block_lt_of_cell? _ _ c20) f0
      replace f1 := keepf qb (World.block_lt_of_cell? _ _ c21) f1
      replace c00 := keep1 qb c00
      replace c01 := keep1 qb c01
      replace c10 := keep1 qb c10
      replace c11 := keep1 qb c11
      replace c20 := keep1 qb c20
      replace c21 := keep1 qb c21
      replace H0 := Lib.hid (H0.out.below qb H0.out.lt)
      replace H1 := Lib.hid (H1.out.below qb H1.out.lt)
      replace H2 := Lib.hid (H2.out.below qb H2.out.lt)
      replace HB := Lib.hid (below_then HB.out qb (Nat.le_refl _))
      clear qb
      go_wp2_with fail
      have r0 : ∀ u v, ((w3.setCell ⟨w.heap.size + 1 + 1, 0, none⟩ u).setCell ⟨w.heap.size + 1 + 1, 1, none⟩ v).cell? ⟨w.heap.size + 1 + 1, 0, none⟩ = some u := fun u v => set_fst c20
      have r1 : ∀ u v, ((w3.setCell ⟨w.heap.size + 1 + 1, 0, none⟩ u).setCell ⟨w.heap.size + 1 + 1, 1, none⟩ v).cell? ⟨w.heap.size + 1 + 1, 1, none⟩ = some v := fun u v => set_snd c21
      refine bodyPost_ret (by simp [results, Try.results33, r0, r1, go_sem]; try rfl) rfl ?_
      exact ⟨rt_u rfl rfl, (below_st2 HB.out (by omega))⟩
    · skip
      have L2 := Lib.hid (show (b.lo == b.hi) = false by simp [h2])
      have e1 := Lib.hid (show uOr a b = ⟨max a.lo b.lo, fl (max a.hi b.hi)⟩ by unfold uOr; rw [if_neg (by omega)])
      rw [e1.out]
      have q0 : bits .or .u64 a.hi b.hi = orI a.hi b.hi := bits_or _ _ (by omega) (by omega) (by omega) (by omega)
      have q1 := orI_bd a.hi b.hi a2 b2
      obtain ⟨n, hn⟩ : ∃ n, ln (orI a.hi b.hi).toNat = n := ⟨_, rfl⟩
      obtain ⟨r, hr⟩ : ∃ r, fl (max a.hi b.hi) = r := ⟨_, rfl⟩
      have HN := Lib.hid hn
      have HL := Lib.hid (show n ≤ 64 by rw [← hn]; exact ln_64 (by omega))
      have HP := Lib.hid (show (2 : Int) ^ n - 1 = r by rw [← hr, ← hn]; exact fl_or a.hi b.hi (by omega) (by omega))
      rw [hr]
      clear hn hr
      obtain ⟨m, hm⟩ : ∃ m, max a.lo b.lo = m := ⟨_, rfl⟩
      have HM := Lib.hid hm
      rw [hm]
      clear hm
      clear h1 h2
      go_enter Try.func33, Try.ntmps33
      go_wp2_with fail
      have K0 := (((Bk.new w 24 #[.int .u64 a.lo, .int .u64 a.hi]).alloc (.cells #[.int .u64 b.lo, .int .u64 b.hi] 24)).alloc (.cells #[.int .u64 0, .int .u64 0] 24))
      have K1 := ((Bk.new (w.alloc (.cells #[.int .u64 a.lo, .int .u64 a.hi] 24)) 24 #[.int .u64 b.lo, .int .u64 b.hi]).alloc (.cells #[.int .u64 0, .int .u64 0] 24))
      rw [World.size_alloc] at K1
      have K2 := (Bk.new ((w.alloc (.cells #[.int .u64 a.lo, .int .u64 a.hi] 24)).alloc (.cells #[.int .u64 b.lo, .int .u64 b.hi] 24)) 24 #[.int .u64 0, .int .u64 0])
      rw [World.size_alloc, World.size_alloc] at K2
      have B0 : Below w.heap.size w (((w.alloc (.cells #[.int .u64 a.lo, .int .u64 a.hi] 24)).alloc (.cells #[.int .u64 b.lo, .int .u64 b.hi] 24)).alloc (.cells #[.int .u64 0, .int .u64 0] 24)) := by go_grown
      generalize (((w.alloc (.cells #[.int .u64 a.lo, .int .u64 a.hi] 24)).alloc (.cells #[.int .u64 b.lo, .int .u64 b.hi] 24)).alloc (.cells #[.int .u64 0, .int .u64 0] 24)) = w0 at *
      have H0 := Lib.hid K0
      obtain ⟨c00, c01⟩ := tcells K0
      have H1 := Lib.hid K1
      obtain ⟨c10, c11⟩ := tcells K1
      have H2 := Lib.hid K2
      obtain ⟨c20, c21⟩ := tcells K2
      have f0 := K2.frozen 0
      have f1 := K2.frozen 1
      have HB := Lib.hid B0
      clear K0 K1 K2 B0
      with_reducible refine (ualone_to a _ L1.out _).mono ?_
      rintro e w1 ⟨rfl, qb⟩
      replace f0 := keepf qb (World.block_lt_of_cell? _ _ c20) f0
      replace f1 := keepf qb (World.block_lt_of_cell? _ _ c21) f1
      replace c00 := keep1 qb c00
      replace c01 := keep1 qb c01
      replace c10 := keep1 qb c10
      replace c11 := keep1 qb c11
      replace c20 := keep1 qb c20
      replace c21 := keep1 qb c21
      replace H0 := Lib.hid (H0.out.below qb H0.out.lt)
      replace H1 := Lib.hid (H1.out.below qb H1.out.lt)
      replace H2 := Lib.hid (H2.out.below qb H2.out.lt)
      replace HB := Lib.hid (below_then HB.out qb (Nat.le_refl _))
      clear qb
      go_wp2_with fail
      with_reducible refine (ualone_to b _ L2.out _).mono ?_
      rintro e w2 ⟨rfl, qb⟩
      replace f0 := keepf qb (World.block_lt_of_cell? _ _ c20) f0
      replace f1 := keepf qb (World.block_lt_of_cell? _ _ c21) f1
      replace c00 := keep1 qb c00
      replace c01 := keep1 qb c01
      replace c10 := keep1 qb c10
      replace c11 := keep1 qb c11
      replace c20 := keep1 qb c20
      replace c21 := keep1 qb c21
      replace H0 := Lib.hid (H0.out.below qb H0.out.lt)
      replace H1 := Lib.hid (H1.out.below qb H1.out.lt)
      replace H2 := Lib.hid (H2.out.below qb H2.out.lt)
      replace HB := Lib.hid (below_then HB.out qb (Nat.le_refl _))
      clear qb
      go_wp2_with fail
      refine wp_region_held_drew (S := fun w' => w'.cell? ⟨w.heap.size, 0, none⟩ = some (.int .u64 a.lo) ∧ w'.cell? ⟨w.heap.size, 1, none⟩ = some (.int .u64 a.hi) ∧ w'.cell? ⟨w.heap.size + 1, 0, none⟩ = some (.int .u64 b.lo) ∧ w'.cell? ⟨w.heap.size + 1, 1, none⟩ = some (.int .u64 b.hi) ∧ w'.cell? ⟨w.heap.size + 1 + 1, 0, none⟩ = some (cv w' (w.heap.size + 1 + 1) 0) ∧ w'.cell? ⟨w.heap.size + 1 + 1, 1, none⟩ = some (cv w' (w.heap.size + 1 + 1) 1) ∧ w'.frozen? ⟨w.heap.size + 1 + 1, 0, none⟩ = false ∧ w'.frozen? ⟨w.heap.size + 1 + 1, 1, none⟩ = false ∧ Below w.heap.size w w') (by kernel_rfl) ?_ (fun hHeld => ?_)
      · exact ⟨c00, c01, c10, c11, cv_some c20, cv_some c21, f0, f1, HB.out.drew⟩
      generalize w2.drew = z0 at *
      refine wpAnyH_take (i := 0) (oi := { dst := some 17, op := Op.fieldAddr 24 (Operand.tmp 2) 0, type := 0, pos := "span.go:99", after := #[], guard := none }) (v := ?_) rfl (by kernel_rfl) (by kernel_rfl) (by kernel_rfl) (fun _ _ _ h => h) (Or.inl ⟨by rfl, ?_⟩) hHeld ?_
      rotate_left
      · intro w9 hSw
        try dsimp only at hSw
        go_simp
        try with_reducible rfl
      try simp only [Act.put, List.setIfInBounds_toArray, List.set_cons_zero, List.set_cons_succ]
      refine wpAnyH_take (i := 1) (oi := { dst := some 18, op := Op.load 22 (Operand.tmp 17), type := 22, pos := "span.go:99", after := #[{ on := 0, ground := Ground.data }], guard := none }) (v := ?_) rfl (by kernel_rfl) (by kernel_rfl) (by kernel_rfl) (fun _ _ _ h => h) (Or.inl ⟨by rfl, ?_⟩) hHeld ?_
      rotate_left
      · intro w9 hSw
        try dsimp only at hSw
        go_simp
        try with_reducible rfl
      try simp only [Act.put, List.setIfInBounds_toArray, List.set_cons_zero, List.set_cons_succ]
      refine wpAnyH_take (i := 2) (oi := { dst := some 19, op := Op.fieldAddr 24 (Operand.tmp 3) 0, type := 0, pos := "span.go:99", after := #[], guard := none }) (v := ?_) rfl (by kernel_rfl) (by kernel_rfl) (by kernel_rfl) (fun _ _ _ h => h) (Or.inl ⟨by rfl, ?_⟩) hHeld ?_
      rotate_left
      · intro w9 hSw
        try dsimp only at hSw
        go_simp
        try with_reducible rfl
      try simp only [Act.put, List.setIfInBounds_toArray, List.set_cons_zero, List.set_cons_succ]
      refine wpAnyH_take (i := 3) (oi := { dst := some 20, op := Op.load 22 (Operand.tmp 19), type := 22, pos := "span.go:99", after := #[{ on := 2, ground := Ground.data }], guard := none }) (v := ?_) rfl (by kernel_rfl) (by kernel_rfl) (by kernel_rfl) (fun _ _ _ h => h) (Or.inl ⟨by rfl, ?_⟩) hHeld ?_
      rotate_left
      · intro w9 hSw
        try dsimp only at hSw
        go_simp
        try with_reducible rfl
      try simp only [Act.put, List.setIfInBounds_toArray, List.set_cons_zero, List.set_cons_succ]
      refine wpAnyH_take (i := 4) (oi := { dst := some 21, op := Op.call { callee := Callee.builtin Builtin.max, args := #[Operand.tmp 18, Operand.tmp 20], argTypes := #[22, 22] }, type := 22, pos := "span.go:99", after := #[{ on := 1, ground := Ground.data }, { on := 3, ground := Ground.data }], guard := none }) (v := ?_) rfl (by kernel_rfl) (by kernel_rfl) (by kernel_rfl) (fun _ _ _ h => h) (Or.inl ⟨by rfl, ?_⟩) hHeld ?_
      rotate_left
      · intro w9 hSw
        try dsimp only at hSw
        go_simp
        try with_reducible rfl
      try simp only [Act.put, List.setIfInBounds_toArray, List.set_cons_zero, List.set_cons_succ]
      refine wpAnyH_take (i := 5) (oi := { dst := some 22, op := Op.fieldAddr 24 (Operand.tmp 2) 1, type := 0, pos := "span.go:99", after := #[], guard := none }) (v := ?_) rfl (by kernel_rfl) (by kernel_rfl) (by kernel_rfl) (fun _ _ _ h => h) (Or.inl ⟨by rfl, ?_⟩) hHeld ?_
      rotate_left
      · intro w9 hSw
        try dsimp only at hSw
        go_simp
        try with_reducible rfl
      try simp only [Act.put, List.setIfInBounds_toArray, List.set_cons_zero, List.set_cons_succ]
      refine wpAnyH_take (i := 6) (oi := { dst := some 23, op := Op.load 22 (Operand.tmp 22), type := 22, pos := "span.go:99", after := #[{ on := 5, ground := Ground.data }], guard := none }) (v := ?_) rfl (by kernel_rfl) (by kernel_rfl) (by kernel_rfl) (fun _ _ _ h => h) (Or.inl ⟨by rfl, ?_⟩) hHeld ?_
      rotate_left
      · intro w9 hSw
        try dsimp only at hSw
        go_simp
        try with_reducible rfl
      try simp only [Act.put, List.setIfInBounds_toArray, List.set_cons_zero, List.set_cons_succ]
      refine wpAnyH_take (i := 7) (oi := { dst := some 24, op := Op.fieldAddr 24 (Operand.tmp 3) 1, type := 0, pos := "span.go:99", after := #[], guard := none }) (v := ?_) rfl (by kernel_rfl) (by kernel_rfl) (by kernel_rfl) (fun _ _ _ h => h) (Or.inl ⟨by rfl, ?_⟩) hHeld ?_
      rotate_left
      · intro w9 hSw
        try dsimp only at hSw
        go_simp
        try with_reducible rfl
      try simp only [Act.put, List.setIfInBounds_toArray, List.set_cons_zero, List.set_cons_succ]
      refine wpAnyH_take (i := 8) (oi := { dst := some 25, op := Op.load 22 (Operand.tmp 24), type := 22, pos := "span.go:99", after := #[{ on := 7, ground := Ground.data }], guard := none }) (v := ?_) rfl (by kernel_rfl) (by kernel_rfl) (by kernel_rfl) (fun _ _ _ h => h) (Or.inl ⟨by rfl, ?_⟩) hHeld ?_
      rotate_left
      · intro w9 hSw
        try dsimp only at hSw
        go_simp
        try with_reducible rfl
      try simp only [Act.put, List.setIfInBounds_toArray, List.set_cons_zero, List.set_cons_succ]
      refine wpAnyH_take (i := 9) (oi := { dst := some 26, op := Op.binOp BinOp.or 22 (Operand.tmp 23) (Operand.tmp 25) 22, type := 22, pos := "span.go:99", after := #[{ on := 6, ground := Ground.data }, { on := 8, ground := Ground.data }], guard := none }) (v := ?_) rfl (by kernel_rfl) (by kernel_rfl) (by kernel_rfl) (fun _ _ _ h => h) (Or.inl ⟨by rfl, ?_⟩) hHeld ?_
      rotate_left
      · intro w9 hSw
        try dsimp only at hSw
        go_simp
        try with_reducible rfl
      try simp only [Act.put, List.setIfInBounds_toArray, List.set_cons_zero, List.set_cons_succ]
      refine wpAnyH_ready (rs := [10]) (by kernel_rfl) (by simp) ?_
      refine AllReadyH.cons (o := { dst := some 27, op := Op.call { callee := Callee.value (Operand.func 85), args := #[Operand.tmp 26], argTypes := #[22] }, type := 3, pos := "span.go:99", after := #[{ on := 9, ground := Ground.data }], guard := none }) rfl (fun K hK => ?_) AllReadyH.nil
      go_simp
      (go_at_call 85; with_reducible refine (len_to _ 0 q1.1 q1.2 n HN.out _).mono ?_; rintro e z1 ⟨rfl, qb⟩)
      refine hK.out _ _ ?_ (fun g1 => ?_)
      · exact keepr4 qb hHeld
      clear hK K qb
      skip
      try simp only [Act.put, List.setIfInBounds_toArray, List.set_cons_zero, List.set_cons_succ]
      refine wpAnyH_ready (rs := [11]) (by kernel_rfl) (by simp) ?_
      refine AllReadyH.cons (o := { dst := some 28, op := Op.call { callee := Callee.value (Operand.func 84), args := #[Operand.tmp 27], argTypes := #[3] }, type := 22, pos := "span.go:99", after := #[{ on := 10, ground := Ground.data }, { on := 10, ground := Ground.chain }], guard := none }) rfl (fun K hK => ?_) AllReadyH.nil
      go_simp
      (go_at_call 84; with_reducible refine (ones_to n r HL.out HP.out _).mono ?_; rintro e z2 ⟨rfl, qb⟩)
      refine hK.out _ _ ?_ (fun g2 => ?_)
      · exact keepr4 qb g1
      clear hK K qb
      clear g1
      try simp only [Act.put, List.setIfInBounds_toArray, List.set_cons_zero, List.set_cons_succ]
      refine wpAnyH_take (i := 12) (oi := { dst := some 29, op := Op.build 24 #[(0, Operand.tmp 21), (1, Operand.tmp 28)], type := 24, pos := "span.go:99", after := #[{ on := 4, ground := Ground.data }, { on := 11, ground := Ground.data }], guard := none }) (v := ?_) rfl (by kernel_rfl) (by kernel_rfl) (by kernel_rfl) (fun _ _ _ h => h) (Or.inl ⟨by rfl, ?_⟩) g2 ?_
      rotate_left
      · intro w9 hSw
        try dsimp only at hSw
        go_simp
        try with_reducible rfl
      try simp only [Act.put, List.setIfInBounds_toArray, List.set_cons_zero, List.set_cons_succ]
      refine wpAnyH_ready (rs := [13]) (by kernel_rfl) (by simp) ?_
      refine AllReadyH.cons (o := { dst := none, op := Op.store 24 (Operand.tmp 4) (Operand.tmp 29), type := 0, pos := "span.go:99", after := #[{ on := 12, ground := Ground.data }, { on := 11, ground := Ground.chain }, { on := 0, ground := Ground.phase }, { on := 1, ground := Ground.phase }, { on := 2, ground := Ground.phase }, { on := 3, ground := Ground.phase }, { on := 4, ground := Ground.phase }, { on := 5, ground := Ground.phase }, { on := 6, ground := Ground.phase }, { on := 7, ground := Ground.phase }, { on := 8, ground := Ground.phase }, { on := 9, ground := Ground.phase }, { on := 10, ground := Ground.phase }, { on := 11, ground := Ground.phase }, { on := 12, ground := Ground.phase }], guard := none }) rfl (fun K hK => ?_) AllReadyH.nil
      have HK := Lib.hid g2
      have hcp := g2
      obtain ⟨e0, e2, e3, e4, e5, e6, e7, e8, BB⟩ := hcp
      go_simp
      refine hK.out _ _ ?_ (fun g3 => ?_)
      · exact store4 (by omega) (by omega) (by omega) g2
      clear hK K e0 e2 e3 e4 e5 e6 e7 e8 BB
      clear g2
      try simp only [Act.put, List.setIfInBounds_toArray, List.set_cons_zero, List.set_cons_succ]
      refine wpAnyH_done (by kernel_rfl) ?_ _
      have BB := Lib.hid g3.2.2.2.2.2.2.2.2
      obtain ⟨-, -, -, -, d20, d21, -, -, -⟩ := HK.out
      clear g3 HK
      generalize q9 : (if a.lo < b.lo then b.lo else a.lo) = m9 at *
      have Q9 := Lib.hid q9
      clear q9
      go_wp2_with fail
      have r0 : ∀ u v, ((z2.setCell ⟨w.heap.size + 1 + 1, 0, none⟩ u).setCell ⟨w.heap.size + 1 + 1, 1, none⟩ v).cell? ⟨w.heap.size + 1 + 1, 0, none⟩ = some u := fun u v => set_fst d20
      have r1 : ∀ u v, ((z2.setCell ⟨w.heap.size + 1 + 1, 0, none⟩ u).setCell ⟨w.heap.size + 1 + 1, 1, none⟩ v).cell? ⟨w.heap.size + 1 + 1, 1, none⟩ = some v := fun u v => set_snd d21
      refine bodyPost_ret (by simp [results, Try.results33, r0, r1, go_sem]; try rfl) rfl ?_
      refine ⟨rt_u ?_ rfl, BB.out⟩
      rw [← HM.out, ← Q9.out]
      split <;> omega
  · skip
    have L1 := Lib.hid (show (a.lo == a.hi) = false by simp [h1])
    have e1 := Lib.hid (show uOr a b = ⟨max a.lo b.lo, fl (max a.hi b.hi)⟩ by unfold uOr; rw [if_neg (by omega)])
    rw [e1.out]
    have q0 : bits .or .u64 a.hi b.hi = orI a.hi b.hi := bits_or _ _ (by omega) (by omega) (by omega) (by omega)
    have q1 := orI_bd a.hi b.hi a2 b2
    obtain ⟨n, hn⟩ : ∃ n, ln (orI a.hi b.hi).toNat = n := ⟨_, rfl⟩
    obtain ⟨r, hr⟩ : ∃ r, fl (max a.hi b.hi) = r := ⟨_, rfl⟩
    have HN := Lib.hid hn
    have HL := Lib.hid (show n ≤ 64 by rw [← hn]; exact ln_64 (by omega))
    have HP := Lib.hid (show (2 : Int) ^ n - 1 = r by rw [← hr, ← hn]; exact fl_or a.hi b.hi (by omega) (by omega))
    rw [hr]
    clear hn hr
    obtain ⟨m, hm⟩ : ∃ m, max a.lo b.lo = m := ⟨_, rfl⟩
    have HM := Lib.hid hm
    rw [hm]
    clear hm
    clear h1
    go_enter Try.func33, Try.ntmps33
    go_wp2_with fail
    have K0 := (((Bk.new w 24 #[.int .u64 a.lo, .int .u64 a.hi]).alloc (.cells #[.int .u64 b.lo, .int .u64 b.hi] 24)).alloc (.cells #[.int .u64 0, .int .u64 0] 24))
    have K1 := ((Bk.new (w.alloc (.cells #[.int .u64 a.lo, .int .u64 a.hi] 24)) 24 #[.int .u64 b.lo, .int .u64 b.hi]).alloc (.cells #[.int .u64 0, .int .u64 0] 24))
    rw [World.size_alloc] at K1
    have K2 := (Bk.new ((w.alloc (.cells #[.int .u64 a.lo, .int .u64 a.hi] 24)).alloc (.cells #[.int .u64 b.lo, .int .u64 b.hi] 24)) 24 #[.int .u64 0, .int .u64 0])
    rw [World.size_alloc, World.size_alloc] at K2
    have B0 : Below w.heap.size w (((w.alloc (.cells #[.int .u64 a.lo, .int .u64 a.hi] 24)).alloc (.cells #[.int .u64 b.lo, .int .u64 b.hi] 24)).alloc (.cells #[.int .u64 0, .int .u64 0] 24)) := by go_grown
    generalize (((w.alloc (.cells #[.int .u64 a.lo, .int .u64 a.hi] 24)).alloc (.cells #[.int .u64 b.lo, .int .u64 b.hi] 24)).alloc (.cells #[.int .u64 0, .int .u64 0] 24)) = w0 at *
    have H0 := Lib.hid K0
    obtain ⟨c00, c01⟩ := tcells K0
    have H1 := Lib.hid K1
    obtain ⟨c10, c11⟩ := tcells K1
    have H2 := Lib.hid K2
    obtain ⟨c20, c21⟩ := tcells K2
    have f0 := K2.frozen 0
    have f1 := K2.frozen 1
    have HB := Lib.hid B0
    clear K0 K1 K2 B0
    with_reducible refine (ualone_to a _ L1.out _).mono ?_
    rintro e w1 ⟨rfl, qb⟩
    replace f0 := keepf qb (World.block_lt_of_cell? _ _ c20) f0
    replace f1 := keepf qb (World.block_lt_of_cell? _ _ c21) f1
    replace c00 := keep1 qb c00
    replace c01 := keep1 qb c01
    replace c10 := keep1 qb c10
    replace c11 := keep1 qb c11
    replace c20 := keep1 qb c20
    replace c21 := keep1 qb c21
    replace H0 := Lib.hid (H0.out.below qb H0.out.lt)
    replace H1 := Lib.hid (H1.out.below qb H1.out.lt)
    replace H2 := Lib.hid (H2.out.below qb H2.out.lt)
    replace HB := Lib.hid (below_then HB.out qb (Nat.le_refl _))
    clear qb
    go_wp2_with fail
    refine wp_region_held_drew (S := fun w' => w'.cell? ⟨w.heap.size, 0, none⟩ = some (.int .u64 a.lo) ∧ w'.cell? ⟨w.heap.size, 1, none⟩ = some (.int .u64 a.hi) ∧ w'.cell? ⟨w.heap.size + 1, 0, none⟩ = some (.int .u64 b.lo) ∧ w'.cell? ⟨w.heap.size + 1, 1, none⟩ = some (.int .u64 b.hi) ∧ w'.cell? ⟨w.heap.size + 1 + 1, 0, none⟩ = some (cv w' (w.heap.size + 1 + 1) 0) ∧ w'.cell? ⟨w.heap.size + 1 + 1, 1, none⟩ = some (cv w' (w.heap.size + 1 + 1) 1) ∧ w'.frozen? ⟨w.heap.size + 1 + 1, 0, none⟩ = false ∧ w'.frozen? ⟨w.heap.size + 1 + 1, 1, none⟩ = false ∧ Below w.heap.size w w') (by kernel_rfl) ?_ (fun hHeld => ?_)
    · exact ⟨c00, c01, c10, c11, cv_some c20, cv_some c21, f0, f1, HB.out.drew⟩
    generalize w1.drew = z0 at *
    refine wpAnyH_take (i := 0) (oi := { dst := some 17, op := Op.fieldAddr 24 (Operand.tmp 2) 0, type := 0, pos := "span.go:99", after := #[], guard := none }) (v := ?_) rfl (by kernel_rfl) (by kernel_rfl) (by kernel_rfl) (fun _ _ _ h => h) (Or.inl ⟨by rfl, ?_⟩) hHeld ?_
    rotate_left
    · intro w9 hSw
      try dsimp only at hSw
      go_simp
      try with_reducible rfl
    try simp only [Act.put, List.setIfInBounds_toArray, List.set_cons_zero, List.set_cons_succ]
    refine wpAnyH_take (i := 1) (oi := { dst := some 18, op := Op.load 22 (Operand.tmp 17), type := 22, pos := "span.go:99", after := #[{ on := 0, ground := Ground.data }], guard := none }) (v := ?_) rfl (by kernel_rfl) (by kernel_rfl) (by kernel_rfl) (fun _ _ _ h => h) (Or.inl ⟨by rfl, ?_⟩) hHeld ?_
    rotate_left
    · intro w9 hSw
      try dsimp only at hSw
      go_simp
      try with_reducible rfl
    try simp only [Act.put, List.setIfInBounds_toArray, List.set_cons_zero, List.set_cons_succ]
    refine wpAnyH_take (i := 2) (oi := { dst := some 19, op := Op.fieldAddr 24 (Operand.tmp 3) 0, type := 0, pos := "span.go:99", after := #[], guard := none }) (v := ?_) rfl (by kernel_rfl) (by kernel_rfl) (by kernel_rfl) (fun _ _ _ h => h) (Or.inl ⟨by rfl, ?_⟩) hHeld ?_
    rotate_left
    · intro w9 hSw
      try dsimp only at hSw
      go_simp
      try with_reducible rfl
    try simp only [Act.put, List.setIfInBounds_toArray, List.set_cons_zero, List.set_cons_succ]
    refine wpAnyH_take (i := 3) (oi := { dst := some 20, op := Op.load 22 (Operand.tmp 19), type := 22, pos := "span.go:99", after := #[{ on := 2, ground := Ground.data }], guard := none }) (v := ?_) rfl (by kernel_rfl) (by kernel_rfl) (by kernel_rfl) (fun _ _ _ h => h) (Or.inl ⟨by rfl, ?_⟩) hHeld ?_
    rotate_left
    · intro w9 hSw
      try dsimp only at hSw
      go_simp
      try with_reducible rfl
    try simp only [Act.put, List.setIfInBounds_toArray, List.set_cons_zero, List.set_cons_succ]
    refine wpAnyH_take (i := 4) (oi := { dst := some 21, op := Op.call { callee := Callee.builtin Builtin.max, args := #[Operand.tmp 18, Operand.tmp 20], argTypes := #[22, 22] }, type := 22, pos := "span.go:99", after := #[{ on := 1, ground := Ground.data }, { on := 3, ground := Ground.data }], guard := none }) (v := ?_) rfl (by kernel_rfl) (by kernel_rfl) (by kernel_rfl) (fun _ _ _ h => h) (Or.inl ⟨by rfl, ?_⟩) hHeld ?_
    rotate_left
    · intro w9 hSw
      try dsimp only at hSw
      go_simp
      try with_reducible rfl
    try simp only [Act.put, List.setIfInBounds_toArray, List.set_cons_zero, List.set_cons_succ]
    refine wpAnyH_take (i := 5) (oi := { dst := some 22, op := Op.fieldAddr 24 (Operand.tmp 2) 1, type := 0, pos := "span.go:99", after := #[], guard := none }) (v := ?_) rfl (by kernel_rfl) (by kernel_rfl) (by kernel_rfl) (fun _ _ _ h => h) (Or.inl ⟨by rfl, ?_⟩) hHeld ?_
    rotate_left
    · intro w9 hSw
      try dsimp only at hSw
      go_simp
      try with_reducible rfl
    try simp only [Act.put, List.setIfInBounds_toArray, List.set_cons_zero, List.set_cons_succ]
    refine wpAnyH_take (i := 6) (oi := { dst := some 23, op := Op.load 22 (Operand.tmp 22), type := 22, pos := "span.go:99", after := #[{ on := 5, ground := Ground.data }], guard := none }) (v := ?_) rfl (by kernel_rfl) (by kernel_rfl) (by kernel_rfl) (fun _ _ _ h => h) (Or.inl ⟨by rfl, ?_⟩) hHeld ?_
    rotate_left
    · intro w9 hSw
      try dsimp only at hSw
      go_simp
      try with_reducible rfl
    try simp only [Act.put, List.setIfInBounds_toArray, List.set_cons_zero, List.set_cons_succ]
    refine wpAnyH_take (i := 7) (oi := { dst := some 24, op := Op.fieldAddr 24 (Operand.tmp 3) 1, type := 0, pos := "span.go:99", after := #[], guard := none }) (v := ?_) rfl (by kernel_rfl) (by kernel_rfl) (by kernel_rfl) (fun _ _ _ h => h) (Or.inl ⟨by rfl, ?_⟩) hHeld ?_
    rotate_left
    · intro w9 hSw
      try dsimp only at hSw
      go_simp
      try with_reducible rfl
    try simp only [Act.put, List.setIfInBounds_toArray, List.set_cons_zero, List.set_cons_succ]
    refine wpAnyH_take (i := 8) (oi := { dst := some 25, op := Op.load 22 (Operand.tmp 24), type := 22, pos := "span.go:99", after := #[{ on := 7, ground := Ground.data }], guard := none }) (v := ?_) rfl (by kernel_rfl) (by kernel_rfl) (by kernel_rfl) (fun _ _ _ h => h) (Or.inl ⟨by rfl, ?_⟩) hHeld ?_
    rotate_left
    · intro w9 hSw
      try dsimp only at hSw
      go_simp
      try with_reducible rfl
    try simp only [Act.put, List.setIfInBounds_toArray, List.set_cons_zero, List.set_cons_succ]
    refine wpAnyH_take (i := 9) (oi := { dst := some 26, op := Op.binOp BinOp.or 22 (Operand.tmp 23) (Operand.tmp 25) 22, type := 22, pos := "span.go:99", after := #[{ on := 6, ground := Ground.data }, { on := 8, ground := Ground.data }], guard := none }) (v := ?_) rfl (by kernel_rfl) (by kernel_rfl) (by kernel_rfl) (fun _ _ _ h => h) (Or.inl ⟨by rfl, ?_⟩) hHeld ?_
    rotate_left
    · intro w9 hSw
      try dsimp only at hSw
      go_simp
      try with_reducible rfl
    try simp only [Act.put, List.setIfInBounds_toArray, List.set_cons_zero, List.set_cons_succ]
    refine wpAnyH_ready (rs := [10]) (by kernel_rfl) (by simp) ?_
    refine AllReadyH.cons (o := { dst := some 27, op := Op.call { callee := Callee.value (Operand.func 85), args := #[Operand.tmp 26], argTypes := #[22] }, type := 3, pos := "span.go:99", after := #[{ on := 9, ground := Ground.data }], guard := none }) rfl (fun K hK => ?_) AllReadyH.nil
    go_simp
    (go_at_call 85; with_reducible refine (len_to _ 0 q1.1 q1.2 n HN.out _).mono ?_; rintro e z1 ⟨rfl, qb⟩)
    refine hK.out _ _ ?_ (fun g1 => ?_)
    · exact keepr4 qb hHeld
    clear hK K qb
    skip
    try simp only [Act.put, List.setIfInBounds_toArray, List.set_cons_zero, List.set_cons_succ]
    refine wpAnyH_ready (rs := [11]) (by kernel_rfl) (by simp) ?_
    refine AllReadyH.cons (o := { dst := some 28, op := Op.call { callee := Callee.value (Operand.func 84), args := #[Operand.tmp 27], argTypes := #[3] }, type := 22, pos := "span.go:99", after := #[{ on := 10, ground := Ground.data }, { on := 10, ground := Ground.chain }], guard := none }) rfl (fun K hK => ?_) AllReadyH.nil
    go_simp
    (go_at_call 84; with_reducible refine (ones_to n r HL.out HP.out _).mono ?_; rintro e z2 ⟨rfl, qb⟩)
    refine hK.out _ _ ?_ (fun g2 => ?_)
    · exact keepr4 qb g1
    clear hK K qb
    clear g1
    try simp only [Act.put, List.setIfInBounds_toArray, List.set_cons_zero, List.set_cons_succ]
    refine wpAnyH_take (i := 12) (oi := { dst := some 29, op := Op.build 24 #[(0, Operand.tmp 21), (1, Operand.tmp 28)], type := 24, pos := "span.go:99", after := #[{ on := 4, ground := Ground.data }, { on := 11, ground := Ground.data }], guard := none }) (v := ?_) rfl (by kernel_rfl) (by kernel_rfl) (by kernel_rfl) (fun _ _ _ h => h) (Or.inl ⟨by rfl, ?_⟩) g2 ?_
    rotate_left
    · intro w9 hSw
      try dsimp only at hSw
      go_simp
      try with_reducible rfl
    try simp only [Act.put, List.setIfInBounds_toArray, List.set_cons_zero, List.set_cons_succ]
    refine wpAnyH_ready (rs := [13]) (by kernel_rfl) (by simp) ?_
    refine AllReadyH.cons (o := { dst := none, op := Op.store 24 (Operand.tmp 4) (Operand.tmp 29), type := 0, pos := "span.go:99", after := #[{ on := 12, ground := Ground.data }, { on := 11, ground := Ground.chain }, { on := 0, ground := Ground.phase }, { on := 1, ground := Ground.phase }, { on := 2, ground := Ground.phase }, { on := 3, ground := Ground.phase }, { on := 4, ground := Ground.phase }, { on := 5, ground := Ground.phase }, { on := 6, ground := Ground.phase }, { on := 7, ground := Ground.phase }, { on := 8, ground := Ground.phase }, { on := 9, ground := Ground.phase }, { on := 10, ground := Ground.phase }, { on := 11, ground := Ground.phase }, { on := 12, ground := Ground.phase }], guard := none }) rfl (fun K hK => ?_) AllReadyH.nil
    have HK := Lib.hid g2
    have hcp := g2
    obtain ⟨e0, e2, e3, e4, e5, e6, e7, e8, BB⟩ := hcp
    go_simp
    refine hK.out _ _ ?_ (fun g3 => ?_)
    · exact store4 (by omega) (by omega) (by omega) g2
    clear hK K e0 e2 e3 e4 e5 e6 e7 e8 BB
    clear g2
    try simp only [Act.put, List.setIfInBounds_toArray, List.set_cons_zero, List.set_cons_succ]
    refine wpAnyH_done (by kernel_rfl) ?_ _
    have BB := Lib.hid g3.2.2.2.2.2.2.2.2
    obtain ⟨-, -, -, -, d20, d21, -, -, -⟩ := HK.out
    clear g3 HK
    generalize q9 : (if a.lo < b.lo then b.lo else a.lo) = m9 at *
    have Q9 := Lib.hid q9
    clear q9
    go_wp2_with fail
    have r0 : ∀ u v, ((z2.setCell ⟨w.heap.size + 1 + 1, 0, none⟩ u).setCell ⟨w.heap.size + 1 + 1, 1, none⟩ v).cell? ⟨w.heap.size + 1 + 1, 0, none⟩ = some u := fun u v => set_fst d20
    have r1 : ∀ u v, ((z2.setCell ⟨w.heap.size + 1 + 1, 0, none⟩ u).setCell ⟨w.heap.size + 1 + 1, 1, none⟩ v).cell? ⟨w.heap.size + 1 + 1, 1, none⟩ = some v := fun u v => set_snd d21
    refine bodyPost_ret (by simp [results, Try.results33, r0, r1, go_sem]; try rfl) rfl ?_
    refine ⟨rt_u ?_ rfl, BB.out⟩
    rw [← HM.out, ← Q9.out]
    split <;> omega
end Go.Proofs.Ythjjfginenpfjaa
