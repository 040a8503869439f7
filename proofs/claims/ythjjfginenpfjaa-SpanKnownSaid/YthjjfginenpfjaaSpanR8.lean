/-
  What the document's UOr of layer 4 tells: a contract. Conditions: the ends are numbers of 64 bits, Lo at most Hi.
-/
import Derived.Test.YthjjfginenpfjaaSpanR5
import Derived.Test.YthjjfginenpfjaaSpanR6
namespace Go.Proofs.Ythjjfginenpfjaa
open Go.RowKit Tn Ow Sp
set_option linter.unusedVariables false
set_option linter.unusedSimpArgs false
theorem rfull_b (v r : Int) (h0 : 0 ≤ v) (h1 : v ≤ 18446744073709551615) (h : fl v = r) (w : World) :
    Calls Try.prog 86 #[.int .u64 v] w fun e w' => e = .returned (.int .u64 r) ∧ Below w.heap.size w w' := by
  subst h; exact (rfull_any v h0 h1 w).mono fun e w' g => ⟨g.1, by rw [← g.2]; exact Below.refl _ _⟩
theorem rfull_to (v r : Int) (h0 : 0 ≤ v) (h1 : v ≤ 18446744073709551615) (h : fl v = r) (w : World) :
    Calls Try.prog 86 #[.int .u64 v] w fun e w' => e = .returned (.int .u64 r) ∧ w = w' := by subst h; exact rfull_any v h0 h1 w
theorem fl_max (x y : Int) : fl (max x y) = max (fl x) (fl y) := by
  unfold fl
  rcases Int.le_total x y with h | h
  · rw [Int.max_eq_right h]
    have := Nat.pow_le_pow_right (show 0 < 2 by decide) (ln_mono (show x.toNat ≤ y.toNat by omega))
    have h3 := Int.ofNat_le.2 this
    rw [pow_cast, pow_cast] at h3
    omega
  · rw [Int.max_eq_left h]
    have := Nat.pow_le_pow_right (show 0 < 2 by decide) (ln_mono (show y.toNat ≤ x.toNat by omega))
    have h3 := Int.ofNat_le.2 this
    rw [pow_cast, pow_cast] at h3
    omega
theorem alB (W : World) (o : Obj) : Below W.heap.size W (W.alloc o) := (Below.refl _ _).alloc (Nat.le_refl _) o
theorem farr4 {w W : World} {g0 g1 r d : Nat} {y0 y1 y2 y3 u v : Value} (n0 : g0 ≠ d) (n1 : g1 ≠ d) (n2 : r ≠ d) (h3 : w.heap.size ≤ d) (hh : W.cell? ⟨g0, 0, none⟩ = some y0 ∧ W.cell? ⟨g0, 1, none⟩ = some y1 ∧ W.cell? ⟨g1, 0, none⟩ = some y2 ∧ W.cell? ⟨g1, 1, none⟩ = some y3 ∧ W.cell? ⟨r, 0, none⟩ = some (cv W r 0) ∧ W.cell? ⟨r, 1, none⟩ = some (cv W r 1) ∧ W.frozen? ⟨r, 0, none⟩ = false ∧ W.frozen? ⟨r, 1, none⟩ = false ∧ Below w.heap.size w W) :
    ((W.setCell ⟨d, 0, none⟩ u).setCell ⟨d, 1, none⟩ v).cell? ⟨g0, 0, none⟩ = some y0 ∧ ((W.setCell ⟨d, 0, none⟩ u).setCell ⟨d, 1, none⟩ v).cell? ⟨g0, 1, none⟩ = some y1 ∧ ((W.setCell ⟨d, 0, none⟩ u).setCell ⟨d, 1, none⟩ v).cell? ⟨g1, 0, none⟩ = some y2 ∧ ((W.setCell ⟨d, 0, none⟩ u).setCell ⟨d, 1, none⟩ v).cell? ⟨g1, 1, none⟩ = some y3 ∧ ((W.setCell ⟨d, 0, none⟩ u).setCell ⟨d, 1, none⟩ v).cell? ⟨r, 0, none⟩ = some (cv ((W.setCell ⟨d, 0, none⟩ u).setCell ⟨d, 1, none⟩ v) r 0) ∧ ((W.setCell ⟨d, 0, none⟩ u).setCell ⟨d, 1, none⟩ v).cell? ⟨r, 1, none⟩ = some (cv ((W.setCell ⟨d, 0, none⟩ u).setCell ⟨d, 1, none⟩ v) r 1) ∧ ((W.setCell ⟨d, 0, none⟩ u).setCell ⟨d, 1, none⟩ v).frozen? ⟨r, 0, none⟩ = false ∧ ((W.setCell ⟨d, 0, none⟩ u).setCell ⟨d, 1, none⟩ v).frozen? ⟨r, 1, none⟩ = false ∧ Below w.heap.size w ((W.setCell ⟨d, 0, none⟩ u).setCell ⟨d, 1, none⟩ v) := by
  obtain ⟨a0, a1, a2, a3, k0, k1, e0, e1, B⟩ := hh
  exact ⟨(cell_set2 n0).trans a0, (cell_set2 n0).trans a1, (cell_set2 n1).trans a2, (cell_set2 n1).trans a3, cv_some ((cell_set2 n2).trans k0), cv_some ((cell_set2 n2).trans k1), (fz2 _ _ _ _).trans e0, (fz2 _ _ _ _).trans e1, below_st2 B h3⟩
theorem new_two {w : World} {t : TypeId} {x y : Value} : (w.alloc (.cells #[x, y] t)).cell? ⟨w.heap.size, 0, none⟩ = some x ∧ (w.alloc (.cells #[x, y] t)).cell? ⟨w.heap.size, 1, none⟩ = some y ∧ (w.alloc (.cells #[x, y] t)).frozen? ⟨w.heap.size, 0, none⟩ = false ∧ (w.alloc (.cells #[x, y] t)).frozen? ⟨w.heap.size, 1, none⟩ = false :=
  ⟨(Bk.new w t #[x, y]).cell 0, (Bk.new w t #[x, y]).cell 1, (Bk.new w t #[x, y]).frozen 0, (Bk.new w t #[x, y]).frozen 1⟩
set_option maxHeartbeats 16000000 in
set_option maxRecDepth 100000 in
theorem ruor_any (a b : E) (ha : okU a) (hb : okU b) (w : World) :
    Calls Try.prog 34 #[.agg #[.int .u64 a.lo, .int .u64 a.hi], .agg #[.int .u64 b.lo, .int .u64 b.hi]] w fun e w' => e = .returned (.agg #[.int .u64 (uOr a b).lo, .int .u64 (uOr a b).hi]) ∧ Below w.heap.size w w' := by
  obtain ⟨a0, a1, a2⟩ := ha
  obtain ⟨b0, b1, b2⟩ := hb
  by_cases h1 : a.lo = a.hi
  · have L1 := Lib.hid (show (a.lo == a.hi) = true by simp [h1])
    by_cases h2 : b.lo = b.hi
    · have e1 := Lib.hid (show uOr a b = ofE (orI a.lo b.lo) by unfold uOr; rw [if_pos ⟨h1, h2⟩])
      rw [e1.out]
      have L2 := Lib.hid (show (b.lo == b.hi) = true by simp [h2])
      clear h1 h2
      go_enter Try.func34, Try.ntmps34
      go_wp2_with fail
      have K0 := (((Bk.new w 24 #[.int .u64 a.lo, .int .u64 a.hi]).alloc (.cells #[.int .u64 b.lo, .int .u64 b.hi] 24)).alloc (.cells #[.int .u64 0, .int .u64 0] 24))
      have K1 := ((Bk.new (w.alloc (.cells #[.int .u64 a.lo, .int .u64 a.hi] 24)) 24 #[.int .u64 b.lo, .int .u64 b.hi]).alloc (.cells #[.int .u64 0, .int .u64 0] 24))
      rw [World.size_alloc] at K1
      have K2 := (Bk.new ((w.alloc (.cells #[.int .u64 a.lo, .int .u64 a.hi] 24)).alloc (.cells #[.int .u64 b.lo, .int .u64 b.hi] 24)) 24 #[.int .u64 0, .int .u64 0])
      rw [World.size_alloc, World.size_alloc] at K2
      have B0 : Below w.heap.size w (((w.alloc (.cells #[.int .u64 a.lo, .int .u64 a.hi] 24)).alloc (.cells #[.int .u64 b.lo, .int .u64 b.hi] 24)).alloc (.cells #[.int .u64 0, .int .u64 0] 24)) := by go_grown
      generalize (((w.alloc (.cells #[.int .u64 a.lo, .int .u64 a.hi] 24)).alloc (.cells #[.int .u64 b.lo, .int .u64 b.hi] 24)).alloc (.cells #[.int .u64 0, .int .u64 0] 24)) = w0 at *
      have H0 := Lib.hid K0
      obtain ⟨c00, c01⟩ := tcells K0
      have H1 := Lib.hid K1
      obtain ⟨c10, c11⟩ := tcells K1
      have H2 := Lib.hid K2
      obtain ⟨c20, c21⟩ := tcells K2
      have f0 := K2.frozen 0
      have f1 := K2.frozen 1
      have HB := Lib.hid B0
      clear K0 K1 K2 B0
      with_reducible refine (ralone_to a _ L1.out _).mono ?_
      rintro e w1 ⟨rfl, qb⟩
      replace f0 := keepf qb (World.block_lt_of_cell? _ _ c20) f0
      replace f1 := keepf qb (World.block_lt_of_cell? _ _ c21) f1
      replace c00 := keep1 qb c00
      replace c01 := keep1 qb c01
      replace c10 := keep1 qb c10
      replace c11 := keep1 qb c11
      replace c20 := keep1 qb c20
      replace c21 := keep1 qb c21
      replace H0 := Lib.hid (H0.out.below qb H0.out.lt)
      replace H1 := Lib.hid (H1.out.below qb H1.out.lt)
      replace H2 := Lib.hid (H2.out.below qb H2.out.lt)
      replace HB := Lib.hid (below_then HB.out qb (Nat.le_refl _))
      clear qb
      go_wp2_with fail
      with_reducible refine (ralone_to b _ L2.out _).mono ?_
      rintro e w2 ⟨rfl, qb⟩
      replace f0 := keepf qb (World.block_lt_of_cell? _ _ c20) f0
      replace f1 := keepf qb (World.block_lt_of_cell? _ _ c21) f1
      replace c00 := keep1 qb c00
      replace c01 := keep1 qb c01
      replace c10 := keep1 qb c10
      replace c11 := keep1 qb c11
      replace c20 := keep1 qb c20
      replace c21 := keep1 qb c21
      replace H0 := Lib.hid (H0.out.below qb H0.out.lt)
      replace H1 := Lib.hid (H1.out.below qb H1.out.lt)
      replace H2 := Lib.hid (H2.out.below qb H2.out.lt)
      replace HB := Lib.hid (below_then HB.out qb (Nat.le_refl _))
      clear qb
      go_wp2_with fail
      have EB := bits_or a.lo b.lo (by omega) (by omega) (by omega) (by omega)
      with_reducible refine (ruof_any _ _).mono ?_
      rintro e w3 ⟨rfl, qb⟩
      replace f0 := keepf qb (World.block_lt_of_cell? _ _ c20) f0
      replace f1 := keepf qb (World.block_lt_of_cell? _ _ c21) f1
      replace c00 := keep1 qb c00
      replace c01 := keep1 qb c01
      replace c10 := keep1 qb c10
      replace c11 := keep1 qb c11
      replace c20 := keep1 qb c20
      replace c21 := keep1 qb c21
      replace H0 := Lib.hid (H0.out.below qb H0.out.lt)
      replace H1 := Lib.hid (H1.out.below qb H1.out.lt)
      replace H2 := Lib.hid (H2.out.below qb H2.out.lt)
      replace HB := Lib.hid (below_then HB.out qb (Nat.le_refl _))
      clear qb
      go_wp2_with fail
      have r0 : ∀ u v, ((w3.setCell ⟨w.heap.size + 1 + 1, 0, none⟩ u).setCell ⟨w.heap.size + 1 + 1, 1, none⟩ v).cell? ⟨w.heap.size + 1 + 1, 0, none⟩ = some u := fun u v => set_fst c20
      have r1 : ∀ u v, ((w3.setCell ⟨w.heap.size + 1 + 1, 0, none⟩ u).setCell ⟨w.heap.size + 1 + 1, 1, none⟩ v).cell? ⟨w.heap.size + 1 + 1, 1, none⟩ = some v := fun u v => set_snd c21
      refine bodyPost_ret (by simp [results, Try.results34, r0, r1, go_sem]; try rfl) rfl ?_
      exact ⟨rt_u rfl rfl, (below_st2 HB.out (by omega))⟩
    · skip
      have L2 := Lib.hid (show (b.lo == b.hi) = false by simp [h2])
      have e1 := Lib.hid (show uOr a b = ⟨max a.lo b.lo, fl (max a.hi b.hi)⟩ by unfold uOr; rw [if_neg (by omega)])
      rw [e1.out]
      obtain ⟨p, hp⟩ : ∃ p, fl a.hi = p := ⟨_, rfl⟩
      obtain ⟨q, hq⟩ : ∃ q, fl b.hi = q := ⟨_, rfl⟩
      have HP := Lib.hid hp
      have HQ := Lib.hid hq
      have HM := Lib.hid (show fl (max a.hi b.hi) = max p q by rw [fl_max, hp, hq])
      rw [HM.out]
      clear hp hq
      clear h1 h2
      go_enter Try.func34, Try.ntmps34
      go_wp2_with fail
      have K0 := (((Bk.new w 24 #[.int .u64 a.lo, .int .u64 a.hi]).alloc (.cells #[.int .u64 b.lo, .int .u64 b.hi] 24)).alloc (.cells #[.int .u64 0, .int .u64 0] 24))
      have K1 := ((Bk.new (w.alloc (.cells #[.int .u64 a.lo, .int .u64 a.hi] 24)) 24 #[.int .u64 b.lo, .int .u64 b.hi]).alloc (.cells #[.int .u64 0, .int .u64 0] 24))
      rw [World.size_alloc] at K1
      have K2 := (Bk.new ((w.alloc (.cells #[.int .u64 a.lo, .int .u64 a.hi] 24)).alloc (.cells #[.int .u64 b.lo, .int .u64 b.hi] 24)) 24 #[.int .u64 0, .int .u64 0])
      rw [World.size_alloc, World.size_alloc] at K2
      have B0 : Below w.heap.size w (((w.alloc (.cells #[.int .u64 a.lo, .int .u64 a.hi] 24)).alloc (.cells #[.int .u64 b.lo, .int .u64 b.hi] 24)).alloc (.cells #[.int .u64 0, .int .u64 0] 24)) := by go_grown
      generalize (((w.alloc (.cells #[.int .u64 a.lo, .int .u64 a.hi] 24)).alloc (.cells #[.int .u64 b.lo, .int .u64 b.hi] 24)).alloc (.cells #[.int .u64 0, .int .u64 0] 24)) = w0 at *
      have H0 := Lib.hid K0
      obtain ⟨c00, c01⟩ := tcells K0
      have H1 := Lib.hid K1
      obtain ⟨c10, c11⟩ := tcells K1
      have H2 := Lib.hid K2
      obtain ⟨c20, c21⟩ := tcells K2
      have f0 := K2.frozen 0
      have f1 := K2.frozen 1
      have HB := Lib.hid B0
      clear K0 K1 K2 B0
      with_reducible refine (ralone_to a _ L1.out _).mono ?_
      rintro e w1 ⟨rfl, qb⟩
      replace f0 := keepf qb (World.block_lt_of_cell? _ _ c20) f0
      replace f1 := keepf qb (World.block_lt_of_cell? _ _ c21) f1
      replace c00 := keep1 qb c00
      replace c01 := keep1 qb c01
      replace c10 := keep1 qb c10
      replace c11 := keep1 qb c11
      replace c20 := keep1 qb c20
      replace c21 := keep1 qb c21
      replace H0 := Lib.hid (H0.out.below qb H0.out.lt)
      replace H1 := Lib.hid (H1.out.below qb H1.out.lt)
      replace H2 := Lib.hid (H2.out.below qb H2.out.lt)
      replace HB := Lib.hid (below_then HB.out qb (Nat.le_refl _))
      clear qb
      go_wp2_with fail
      with_reducible refine (ralone_to b _ L2.out _).mono ?_
      rintro e w2 ⟨rfl, qb⟩
      replace f0 := keepf qb (World.block_lt_of_cell? _ _ c20) f0
      replace f1 := keepf qb (World.block_lt_of_cell? _ _ c21) f1
      replace c00 := keep1 qb c00
      replace c01 := keep1 qb c01
      replace c10 := keep1 qb c10
      replace c11 := keep1 qb c11
      replace c20 := keep1 qb c20
      replace c21 := keep1 qb c21
      replace H0 := Lib.hid (H0.out.below qb H0.out.lt)
      replace H1 := Lib.hid (H1.out.below qb H1.out.lt)
      replace H2 := Lib.hid (H2.out.below qb H2.out.lt)
      replace HB := Lib.hid (below_then HB.out qb (Nat.le_refl _))
      clear qb
      go_wp2_with fail
      clear H0 H1 H2
      by_cases hl : a.lo < b.lo
      · by_cases hq : p < q
        · skip
          refine wp_region_held_drew (S := fun w' => w'.cell? ⟨w.heap.size, 0, none⟩ = some (.int .u64 a.lo) ∧ w'.cell? ⟨w.heap.size, 1, none⟩ = some (.int .u64 a.hi) ∧ w'.cell? ⟨w.heap.size + 1, 0, none⟩ = some (.int .u64 b.lo) ∧ w'.cell? ⟨w.heap.size + 1, 1, none⟩ = some (.int .u64 b.hi) ∧ w'.cell? ⟨w.heap.size + 1 + 1, 0, none⟩ = some (cv w' (w.heap.size + 1 + 1) 0) ∧ w'.cell? ⟨w.heap.size + 1 + 1, 1, none⟩ = some (cv w' (w.heap.size + 1 + 1) 1) ∧ w'.frozen? ⟨w.heap.size + 1 + 1, 0, none⟩ = false ∧ w'.frozen? ⟨w.heap.size + 1 + 1, 1, none⟩ = false ∧ Below w.heap.size w w') (by kernel_rfl) ?_ (fun hHeld => ?_)
          · exact ⟨c00, c01, c10, c11, cv_some c20, cv_some c21, f0, f1, HB.out.drew⟩
          generalize w2.drew = z0 at *
          refine wpAnyH_take (i := 0) (oi := { dst := some 18, op := Op.fieldAddr 24 (Operand.tmp 2) 0, type := 0, pos := "ref.go:120", after := #[], guard := none }) (v := ?_) rfl (by kernel_rfl) (by kernel_rfl) (by kernel_rfl) (fun _ _ _ h => h) (Or.inl ⟨by rfl, ?_⟩) hHeld ?_
          rotate_left
          · intro w9 hSw
            try dsimp only at hSw
            go_simp
            try with_reducible rfl
          try simp only [Act.put, List.setIfInBounds_toArray, List.set_cons_zero, List.set_cons_succ]
          refine wpAnyH_take (i := 1) (oi := { dst := some 19, op := Op.load 22 (Operand.tmp 18), type := 22, pos := "ref.go:120", after := #[{ on := 0, ground := Ground.data }], guard := none }) (v := ?_) rfl (by kernel_rfl) (by kernel_rfl) (by kernel_rfl) (fun _ _ _ h => h) (Or.inl ⟨by rfl, ?_⟩) hHeld ?_
          rotate_left
          · intro w9 hSw
            try dsimp only at hSw
            go_simp
            try with_reducible rfl
          try simp only [Act.put, List.setIfInBounds_toArray, List.set_cons_zero, List.set_cons_succ]
          refine wpAnyH_take (i := 2) (oi := { dst := some 20, op := Op.fieldAddr 24 (Operand.tmp 2) 1, type := 0, pos := "ref.go:120", after := #[], guard := none }) (v := ?_) rfl (by kernel_rfl) (by kernel_rfl) (by kernel_rfl) (fun _ _ _ h => h) (Or.inl ⟨by rfl, ?_⟩) hHeld ?_
          rotate_left
          · intro w9 hSw
            try dsimp only at hSw
            go_simp
            try with_reducible rfl
          try simp only [Act.put, List.setIfInBounds_toArray, List.set_cons_zero, List.set_cons_succ]
          refine wpAnyH_take (i := 3) (oi := { dst := some 21, op := Op.load 22 (Operand.tmp 20), type := 22, pos := "ref.go:120", after := #[{ on := 2, ground := Ground.data }], guard := none }) (v := ?_) rfl (by kernel_rfl) (by kernel_rfl) (by kernel_rfl) (fun _ _ _ h => h) (Or.inl ⟨by rfl, ?_⟩) hHeld ?_
          rotate_left
          · intro w9 hSw
            try dsimp only at hSw
            go_simp
            try with_reducible rfl
          try simp only [Act.put, List.setIfInBounds_toArray, List.set_cons_zero, List.set_cons_succ]
          clear c00 c01 c10 c11 c20 c21 f0 f1 HB
          have hsz := World.block_lt_of_cell? _ _ hHeld.1
          have hsz1 := World.block_lt_of_cell? _ _ hHeld.2.2.1
          have hsz2 := World.block_lt_of_cell? _ _ hHeld.2.2.2.2.1
          dsimp only at hsz hsz1 hsz2
          refine wpAnyH_ready (rs := [4, 6]) (by kernel_rfl) (by simp) ?_
          refine AllReadyH.cons (o := { dst := some 22, op := Op.call { callee := Callee.value (Operand.func 86), args := #[Operand.tmp 21], argTypes := #[22] }, type := 22, pos := "ref.go:120", after := #[{ on := 3, ground := Ground.data }], guard := none }) rfl (fun K hK => ?_) (AllReadyH.cons (o := { dst := some 5, op := Op.alloc 24, type := 0, pos := "ref.go:120", after := #[], guard := none }) rfl (fun K hK => ?_) AllReadyH.nil)
          · go_simp
            (go_at_call 86; with_reducible refine (rfull_b a.hi p (by omega) (by omega) HP.out _).mono ?_; rintro e t1 ⟨rfl, qb⟩)
            have hs1 := qb.size
            refine hK.out _ _ ?_ (fun g1 => ?_)
            · exact keepr4 qb hHeld
            clear hK K qb hHeld
            try simp only [Act.put, List.setIfInBounds_toArray, List.set_cons_zero, List.set_cons_succ]
            refine wpAnyH_take (i := 5) (oi := { dst := some 23, op := Op.build 24 #[(0, Operand.tmp 19), (1, Operand.tmp 22)], type := 24, pos := "ref.go:120", after := #[{ on := 1, ground := Ground.data }, { on := 4, ground := Ground.data }], guard := none }) (v := ?_) rfl (by kernel_rfl) (by kernel_rfl) (by kernel_rfl) (fun _ _ _ h => h) (Or.inl ⟨by rfl, ?_⟩) g1 ?_
            rotate_left
            · intro w9 hSw
              try dsimp only at hSw
              go_simp
              try with_reducible rfl
            try simp only [Act.put, List.setIfInBounds_toArray, List.set_cons_zero, List.set_cons_succ]
            refine wpAnyH_ready (rs := [6]) (by kernel_rfl) (by simp) ?_
            refine AllReadyH.cons (o := { dst := some 5, op := Op.alloc 24, type := 0, pos := "ref.go:120", after := #[], guard := none }) rfl (fun K hK => ?_) AllReadyH.nil
            go_simp
            refine hK.out _ _ ?_ (fun g2 => ?_)
            · exact keepr4 (alB _ _) g1
            clear hK K g2
            try simp only [Act.put, List.setIfInBounds_toArray, List.set_cons_zero, List.set_cons_succ]
            refine wpAnyH_ready (rs := [7]) (by kernel_rfl) (by simp) ?_
            refine AllReadyH.cons (o := { dst := none, op := Op.store 24 (Operand.tmp 5) (Operand.tmp 23), type := 0, pos := "ref.go:120", after := #[{ on := 6, ground := Ground.data }, { on := 5, ground := Ground.data }, { on := 4, ground := Ground.chain }, { on := 0, ground := Ground.phase }, { on := 1, ground := Ground.phase }, { on := 2, ground := Ground.phase }, { on := 3, ground := Ground.phase }, { on := 4, ground := Ground.phase }, { on := 5, ground := Ground.phase }, { on := 6, ground := Ground.phase }], guard := none }) rfl (fun K hK => ?_) AllReadyH.nil
            go_simp
            refine hK.out _ _ ?_ (fun g9 => ?_)
            · exact keepr4 (alB _ _) g1
            clear hK K
            try simp only [Act.put, List.setIfInBounds_toArray, List.set_cons_zero, List.set_cons_succ]
            refine wpAnyH_done (by kernel_rfl) ?_ _
            obtain ⟨n0, n1, n2, n3⟩ := new_two (w := t1) (t := 24) (x := .int .u64 a.lo) (y := .int .u64 p)
            have D0 := Lib.hid n0
            have D1 := Lib.hid n1
            have D2 := Lib.hid n2
            have D3 := Lib.hid n3
            have KA := Lib.hid g9
            clear g9 g1 n0 n1 n2 n3
            generalize (t1.alloc (.cells #[.int .u64 a.lo, .int .u64 p] 24)) = y1 at *
            obtain ⟨-, -, c10, c11, c20, c21, f0, f1, HB0⟩ := KA.out
            have HB := Lib.hid HB0
            clear HB0 KA
            have d0 := D0.out
            have d1 := D1.out
            have f2 := D2.out
            have f3 := D3.out
            clear D0 D1 D2 D3
            go_wp2_with fail
            have k0 := World.cell?_setCell_same y1 ⟨t1.heap.size, 0, none⟩ (.int .u64 b.lo) d0
            have k1 := (World.cell?_setCell_other y1 ⟨t1.heap.size, 0, none⟩ ⟨t1.heap.size, 1, none⟩ (.int .u64 b.lo) (fun e => by injection e with _ e2 _; omega)).trans d1
            replace c10 := (World.cell?_setCell_other y1 ⟨t1.heap.size, 0, none⟩ ⟨w.heap.size + 1, 0, none⟩ (.int .u64 b.lo) (fun e => by injection e with e1 _ _; omega)).trans c10
            replace c11 := (World.cell?_setCell_other y1 ⟨t1.heap.size, 0, none⟩ ⟨w.heap.size + 1, 1, none⟩ (.int .u64 b.lo) (fun e => by injection e with e1 _ _; omega)).trans c11
            replace c20 := (World.cell?_setCell_other y1 ⟨t1.heap.size, 0, none⟩ ⟨w.heap.size + 1 + 1, 0, none⟩ (.int .u64 b.lo) (fun e => by injection e with e1 _ _; omega)).trans c20
            replace c21 := (World.cell?_setCell_other y1 ⟨t1.heap.size, 0, none⟩ ⟨w.heap.size + 1 + 1, 1, none⟩ (.int .u64 b.lo) (fun e => by injection e with e1 _ _; omega)).trans c21
            replace f0 : (y1.setCell ⟨t1.heap.size, 0, none⟩ (.int .u64 b.lo)).frozen? ⟨w.heap.size + 1 + 1, 0, none⟩ = false := by rw [World.frozen?_setCell]; exact f0
            replace f1 : (y1.setCell ⟨t1.heap.size, 0, none⟩ (.int .u64 b.lo)).frozen? ⟨w.heap.size + 1 + 1, 1, none⟩ = false := by rw [World.frozen?_setCell]; exact f1
            replace f2 : (y1.setCell ⟨t1.heap.size, 0, none⟩ (.int .u64 b.lo)).frozen? ⟨t1.heap.size, 0, none⟩ = false := by rw [World.frozen?_setCell]; exact f2
            replace f3 : (y1.setCell ⟨t1.heap.size, 0, none⟩ (.int .u64 b.lo)).frozen? ⟨t1.heap.size, 1, none⟩ = false := by rw [World.frozen?_setCell]; exact f3
            replace HB := Lib.hid (HB.out.setCell (p := ⟨t1.heap.size, 0, none⟩) (show w.heap.size ≤ t1.heap.size by omega) (.int .u64 b.lo))
            clear d0 d1
            have d0 := k0
            have d1 := k1
            clear k0 k1
            generalize (y1.setCell ⟨t1.heap.size, 0, none⟩ (.int .u64 b.lo)) = y2 at *
            refine wp_region_held_drew (S := fun w' => w'.cell? ⟨w.heap.size + 1, 0, none⟩ = some (.int .u64 b.lo) ∧ w'.cell? ⟨w.heap.size + 1, 1, none⟩ = some (.int .u64 b.hi) ∧ w'.cell? ⟨t1.heap.size, 0, none⟩ = some (.int .u64 b.lo) ∧ w'.cell? ⟨t1.heap.size, 1, none⟩ = some (.int .u64 p) ∧ w'.cell? ⟨w.heap.size + 1 + 1, 0, none⟩ = some (cv w' (w.heap.size + 1 + 1) 0) ∧ w'.cell? ⟨w.heap.size + 1 + 1, 1, none⟩ = some (cv w' (w.heap.size + 1 + 1) 1) ∧ w'.frozen? ⟨w.heap.size + 1 + 1, 0, none⟩ = false ∧ w'.frozen? ⟨w.heap.size + 1 + 1, 1, none⟩ = false ∧ w'.cell? ⟨t1.heap.size, 0, none⟩ = some (cv w' (t1.heap.size) 0) ∧ w'.cell? ⟨t1.heap.size, 1, none⟩ = some (cv w' (t1.heap.size) 1) ∧ w'.frozen? ⟨t1.heap.size, 0, none⟩ = false ∧ w'.frozen? ⟨t1.heap.size, 1, none⟩ = false ∧ Below w.heap.size w w') (by kernel_rfl) ?_ (fun hHeld => ?_)
            · exact ⟨c10, c11, d0, d1, cv_some c20, cv_some c21, f0, f1, cv_some d0, cv_some d1, f2, f3, HB.out.drew⟩
            refine wpAnyH_take (i := 0) (oi := { dst := some 32, op := Op.fieldAddr 24 (Operand.tmp 3) 1, type := 0, pos := "ref.go:124", after := #[], guard := none }) (v := ?_) rfl (by kernel_rfl) (by kernel_rfl) (by kernel_rfl) (fun _ _ _ h => h) (Or.inl ⟨by rfl, ?_⟩) hHeld ?_
            rotate_left
            · intro w9 hSw
              try dsimp only at hSw
              go_simp
              try with_reducible rfl
            try simp only [Act.put, List.setIfInBounds_toArray, List.set_cons_zero, List.set_cons_succ]
            refine wpAnyH_take (i := 1) (oi := { dst := some 33, op := Op.load 22 (Operand.tmp 32), type := 22, pos := "ref.go:124", after := #[{ on := 0, ground := Ground.data }], guard := none }) (v := ?_) rfl (by kernel_rfl) (by kernel_rfl) (by kernel_rfl) (fun _ _ _ h => h) (Or.inl ⟨by rfl, ?_⟩) hHeld ?_
            rotate_left
            · intro w9 hSw
              try dsimp only at hSw
              go_simp
              try with_reducible rfl
            try simp only [Act.put, List.setIfInBounds_toArray, List.set_cons_zero, List.set_cons_succ]
            refine wpAnyH_take (i := 3) (oi := { dst := some 35, op := Op.fieldAddr 24 (Operand.tmp 5) 1, type := 0, pos := "ref.go:124", after := #[], guard := none }) (v := ?_) rfl (by kernel_rfl) (by kernel_rfl) (by kernel_rfl) (fun _ _ _ h => h) (Or.inl ⟨by rfl, ?_⟩) hHeld ?_
            rotate_left
            · intro w9 hSw
              try dsimp only at hSw
              go_simp
              try with_reducible rfl
            try simp only [Act.put, List.setIfInBounds_toArray, List.set_cons_zero, List.set_cons_succ]
            refine wpAnyH_take (i := 4) (oi := { dst := some 36, op := Op.load 22 (Operand.tmp 35), type := 22, pos := "ref.go:124", after := #[{ on := 3, ground := Ground.data }], guard := none }) (v := ?_) rfl (by kernel_rfl) (by kernel_rfl) (by kernel_rfl) (fun _ _ _ h => h) (Or.inl ⟨by rfl, ?_⟩) hHeld ?_
            rotate_left
            · intro w9 hSw
              try dsimp only at hSw
              go_simp
              try with_reducible rfl
            try simp only [Act.put, List.setIfInBounds_toArray, List.set_cons_zero, List.set_cons_succ]
            refine wpAnyH_ready (rs := [2]) (by kernel_rfl) (by simp) ?_
            refine AllReadyH.cons (o := { dst := some 34, op := Op.call { callee := Callee.value (Operand.func 86), args := #[Operand.tmp 33], argTypes := #[22] }, type := 22, pos := "ref.go:124", after := #[{ on := 1, ground := Ground.data }], guard := none }) rfl (fun K hK => ?_) AllReadyH.nil
            go_simp
            (go_at_call 86; with_reducible refine (rfull_b b.hi q (by omega) (by omega) HQ.out _).mono ?_; rintro e z1 ⟨rfl, qb⟩)
            refine hK.out _ _ ?_ (fun g1 => ?_)
            · exact two_keep qb hHeld
            clear hK K qb
            skip
            try simp only [Act.put, List.setIfInBounds_toArray, List.set_cons_zero, List.set_cons_succ]
            refine wpAnyH_take (i := 5) (oi := { dst := some 37, op := Op.binOp BinOp.gtr 22 (Operand.tmp 34) (Operand.tmp 36) 22, type := 4, pos := "ref.go:124", after := #[{ on := 2, ground := Ground.data }, { on := 4, ground := Ground.data }], guard := none }) (v := ?_) rfl (by kernel_rfl) (by kernel_rfl) (by kernel_rfl) (fun _ _ _ h => h) (Or.inl ⟨by rfl, ?_⟩) g1 ?_
            rotate_left
            · intro w9 hSw
              try dsimp only at hSw
              go_simp
              try with_reducible rfl
            try simp only [Act.put, List.setIfInBounds_toArray, List.set_cons_zero, List.set_cons_succ]
            refine wpAnyH_done (by kernel_rfl) ?_ _
            have KA := Lib.hid g1
            clear g1 c10 c11 d0 d1 c20 c21 f0 f1 f2 f3 HB
            obtain ⟨c10, c11, d0, d1, c20, c21, f0, f1, -, -, f2, f3, HB0⟩ := KA.out
            have HB := Lib.hid HB0
            clear HB0 KA
            generalize z1 = y3 at *
            go_wp2_with fail
            refine (rfull_to b.hi q (by omega) (by omega) HQ.out _).mono ?_
            rintro e w' ⟨rfl, rfl⟩
            go_wp2_with fail
            replace c20 := (World.cell?_setCell_other y3 ⟨t1.heap.size, 1, none⟩ ⟨w.heap.size + 1 + 1, 0, none⟩ (.int .u64 q) (fun e => by injection e with e1 _ _; omega)).trans c20
            replace c21 := (World.cell?_setCell_other y3 ⟨t1.heap.size, 1, none⟩ ⟨w.heap.size + 1 + 1, 1, none⟩ (.int .u64 q) (fun e => by injection e with e1 _ _; omega)).trans c21
            replace HB := Lib.hid (HB.out.setCell (p := ⟨t1.heap.size, 1, none⟩) (show w.heap.size ≤ t1.heap.size by omega) (.int .u64 q))
            have r0 : ∀ u v, (((y3.setCell ⟨t1.heap.size, 1, none⟩ (.int .u64 q)).setCell ⟨w.heap.size + 1 + 1, 0, none⟩ u).setCell ⟨w.heap.size + 1 + 1, 1, none⟩ v).cell? ⟨w.heap.size + 1 + 1, 0, none⟩ = some u := fun u v => set_fst c20
            have r1 : ∀ u v, (((y3.setCell ⟨t1.heap.size, 1, none⟩ (.int .u64 q)).setCell ⟨w.heap.size + 1 + 1, 0, none⟩ u).setCell ⟨w.heap.size + 1 + 1, 1, none⟩ v).cell? ⟨w.heap.size + 1 + 1, 1, none⟩ = some v := fun u v => set_snd c21
            refine bodyPost_ret (by simp [results, Try.results34, r0, r1, go_sem]; try rfl) rfl ?_
            exact ⟨rt_u (by omega) (by omega), below_st2 HB.out (by omega)⟩
          · go_simp
            refine hK.out _ _ ?_ (fun g1 => ?_)
            · exact keepr4 (alB _ _) hHeld
            clear hK K hHeld
            try simp only [Act.put, List.setIfInBounds_toArray, List.set_cons_zero, List.set_cons_succ]
            obtain ⟨n0, n1, n2, n3⟩ := new_two (w := z0) (t := 24) (x := .int .u64 0) (y := .int .u64 0)
            refine wpAnyH_ready (rs := [4]) (by kernel_rfl) (by simp) ?_
            refine AllReadyH.cons (o := { dst := some 22, op := Op.call { callee := Callee.value (Operand.func 86), args := #[Operand.tmp 21], argTypes := #[22] }, type := 22, pos := "ref.go:120", after := #[{ on := 3, ground := Ground.data }], guard := none }) rfl (fun K hK => ?_) AllReadyH.nil
            go_simp
            (go_at_call 86; with_reducible refine (rfull_b a.hi p (by omega) (by omega) HP.out _).mono ?_; rintro e t1 ⟨rfl, qb⟩)
            refine hK.out _ _ ?_ (fun g2 => ?_)
            · exact keepr4 qb g1
            replace n2 := keepf qb (World.block_lt_of_cell? _ _ n0) n2
            replace n3 := keepf qb (World.block_lt_of_cell? _ _ n1) n3
            replace n0 := keep1 qb n0
            replace n1 := keep1 qb n1
            clear hK K qb g1
            try simp only [Act.put, List.setIfInBounds_toArray, List.set_cons_zero, List.set_cons_succ]
            refine wpAnyH_take (i := 5) (oi := { dst := some 23, op := Op.build 24 #[(0, Operand.tmp 19), (1, Operand.tmp 22)], type := 24, pos := "ref.go:120", after := #[{ on := 1, ground := Ground.data }, { on := 4, ground := Ground.data }], guard := none }) (v := ?_) rfl (by kernel_rfl) (by kernel_rfl) (by kernel_rfl) (fun _ _ _ h => h) (Or.inl ⟨by rfl, ?_⟩) g2 ?_
            rotate_left
            · intro w9 hSw
              try dsimp only at hSw
              go_simp
              try with_reducible rfl
            try simp only [Act.put, List.setIfInBounds_toArray, List.set_cons_zero, List.set_cons_succ]
            refine wpAnyH_ready (rs := [7]) (by kernel_rfl) (by simp) ?_
            refine AllReadyH.cons (o := { dst := none, op := Op.store 24 (Operand.tmp 5) (Operand.tmp 23), type := 0, pos := "ref.go:120", after := #[{ on := 6, ground := Ground.data }, { on := 5, ground := Ground.data }, { on := 4, ground := Ground.chain }, { on := 0, ground := Ground.phase }, { on := 1, ground := Ground.phase }, { on := 2, ground := Ground.phase }, { on := 3, ground := Ground.phase }, { on := 4, ground := Ground.phase }, { on := 5, ground := Ground.phase }, { on := 6, ground := Ground.phase }], guard := none }) rfl (fun K hK => ?_) AllReadyH.nil
            go_simp
            refine hK.out _ _ ?_ (fun g9 => ?_)
            · exact farr4 (by omega) (by omega) (by omega) (by omega) g2
            clear hK K
            try simp only [Act.put, List.setIfInBounds_toArray, List.set_cons_zero, List.set_cons_succ]
            refine wpAnyH_done (by kernel_rfl) ?_ _
            have D0 := Lib.hid (set_fst (u := .int .u64 a.lo) (v := .int .u64 p) n0)
            have D1 := Lib.hid (set_snd (u := .int .u64 a.lo) (v := .int .u64 p) n1)
            have D2 := Lib.hid ((fz2 t1 (z0.heap.size) (.int .u64 a.lo) (.int .u64 p)).trans n2)
            have D3 := Lib.hid ((fz2 t1 (z0.heap.size) (.int .u64 a.lo) (.int .u64 p)).trans n3)
            have KA := Lib.hid g9
            clear g9 g2 n0 n1 n2 n3
            generalize ((t1.setCell ⟨z0.heap.size, 0, none⟩ (.int .u64 a.lo)).setCell ⟨z0.heap.size, 1, none⟩ (.int .u64 p)) = y1 at *
            obtain ⟨-, -, c10, c11, c20, c21, f0, f1, HB0⟩ := KA.out
            have HB := Lib.hid HB0
            clear HB0 KA
            have d0 := D0.out
            have d1 := D1.out
            have f2 := D2.out
            have f3 := D3.out
            clear D0 D1 D2 D3
            go_wp2_with fail
            have k0 := World.cell?_setCell_same y1 ⟨z0.heap.size, 0, none⟩ (.int .u64 b.lo) d0
            have k1 := (World.cell?_setCell_other y1 ⟨z0.heap.size, 0, none⟩ ⟨z0.heap.size, 1, none⟩ (.int .u64 b.lo) (fun e => by injection e with _ e2 _; omega)).trans d1
            replace c10 := (World.cell?_setCell_other y1 ⟨z0.heap.size, 0, none⟩ ⟨w.heap.size + 1, 0, none⟩ (.int .u64 b.lo) (fun e => by injection e with e1 _ _; omega)).trans c10
            replace c11 := (World.cell?_setCell_other y1 ⟨z0.heap.size, 0, none⟩ ⟨w.heap.size + 1, 1, none⟩ (.int .u64 b.lo) (fun e => by injection e with e1 _ _; omega)).trans c11
            replace c20 := (World.cell?_setCell_other y1 ⟨z0.heap.size, 0, none⟩ ⟨w.heap.size + 1 + 1, 0, none⟩ (.int .u64 b.lo) (fun e => by injection e with e1 _ _; omega)).trans c20
            replace c21 := (World.cell?_setCell_other y1 ⟨z0.heap.size, 0, none⟩ ⟨w.heap.size + 1 + 1, 1, none⟩ (.int .u64 b.lo) (fun e => by injection e with e1 _ _; omega)).trans c21
            replace f0 : (y1.setCell ⟨z0.heap.size, 0, none⟩ (.int .u64 b.lo)).frozen? ⟨w.heap.size + 1 + 1, 0, none⟩ = false := by rw [World.frozen?_setCell]; exact f0
            replace f1 : (y1.setCell ⟨z0.heap.size, 0, none⟩ (.int .u64 b.lo)).frozen? ⟨w.heap.size + 1 + 1, 1, none⟩ = false := by rw [World.frozen?_setCell]; exact f1
            replace f2 : (y1.setCell ⟨z0.heap.size, 0, none⟩ (.int .u64 b.lo)).frozen? ⟨z0.heap.size, 0, none⟩ = false := by rw [World.frozen?_setCell]; exact f2
            replace f3 : (y1.setCell ⟨z0.heap.size, 0, none⟩ (.int .u64 b.lo)).frozen? ⟨z0.heap.size, 1, none⟩ = false := by rw [World.frozen?_setCell]; exact f3
            replace HB := Lib.hid (HB.out.setCell (p := ⟨z0.heap.size, 0, none⟩) (show w.heap.size ≤ z0.heap.size by omega) (.int .u64 b.lo))
            clear d0 d1
            have d0 := k0
            have d1 := k1
            clear k0 k1
            generalize (y1.setCell ⟨z0.heap.size, 0, none⟩ (.int .u64 b.lo)) = y2 at *
            refine wp_region_held_drew (S := fun w' => w'.cell? ⟨w.heap.size + 1, 0, none⟩ = some (.int .u64 b.lo) ∧ w'.cell? ⟨w.heap.size + 1, 1, none⟩ = some (.int .u64 b.hi) ∧ w'.cell? ⟨z0.heap.size, 0, none⟩ = some (.int .u64 b.lo) ∧ w'.cell? ⟨z0.heap.size, 1, none⟩ = some (.int .u64 p) ∧ w'.cell? ⟨w.heap.size + 1 + 1, 0, none⟩ = some (cv w' (w.heap.size + 1 + 1) 0) ∧ w'.cell? ⟨w.heap.size + 1 + 1, 1, none⟩ = some (cv w' (w.heap.size + 1 + 1) 1) ∧ w'.frozen? ⟨w.heap.size + 1 + 1, 0, none⟩ = false ∧ w'.frozen? ⟨w.heap.size + 1 + 1, 1, none⟩ = false ∧ w'.cell? ⟨z0.heap.size, 0, none⟩ = some (cv w' (z0.heap.size) 0) ∧ w'.cell? ⟨z0.heap.size, 1, none⟩ = some (cv w' (z0.heap.size) 1) ∧ w'.frozen? ⟨z0.heap.size, 0, none⟩ = false ∧ w'.frozen? ⟨z0.heap.size, 1, none⟩ = false ∧ Below w.heap.size w w') (by kernel_rfl) ?_ (fun hHeld => ?_)
            · exact ⟨c10, c11, d0, d1, cv_some c20, cv_some c21, f0, f1, cv_some d0, cv_some d1, f2, f3, HB.out.drew⟩
            refine wpAnyH_take (i := 0) (oi := { dst := some 32, op := Op.fieldAddr 24 (Operand.tmp 3) 1, type := 0, pos := "ref.go:124", after := #[], guard := none }) (v := ?_) rfl (by kernel_rfl) (by kernel_rfl) (by kernel_rfl) (fun _ _ _ h => h) (Or.inl ⟨by rfl, ?_⟩) hHeld ?_
            rotate_left
            · intro w9 hSw
              try dsimp only at hSw
              go_simp
              try with_reducible rfl
            try simp only [Act.put, List.setIfInBounds_toArray, List.set_cons_zero, List.set_cons_succ]
            refine wpAnyH_take (i := 1) (oi := { dst := some 33, op := Op.load 22 (Operand.tmp 32), type := 22, pos := "ref.go:124", after := #[{ on := 0, ground := Ground.data }], guard := none }) (v := ?_) rfl (by kernel_rfl) (by kernel_rfl) (by kernel_rfl) (fun _ _ _ h => h) (Or.inl ⟨by rfl, ?_⟩) hHeld ?_
            rotate_left
            · intro w9 hSw
              try dsimp only at hSw
              go_simp
              try with_reducible rfl
            try simp only [Act.put, List.setIfInBounds_toArray, List.set_cons_zero, List.set_cons_succ]
            refine wpAnyH_take (i := 3) (oi := { dst := some 35, op := Op.fieldAddr 24 (Operand.tmp 5) 1, type := 0, pos := "ref.go:124", after := #[], guard := none }) (v := ?_) rfl (by kernel_rfl) (by kernel_rfl) (by kernel_rfl) (fun _ _ _ h => h) (Or.inl ⟨by rfl, ?_⟩) hHeld ?_
            rotate_left
            · intro w9 hSw
              try dsimp only at hSw
              go_simp
              try with_reducible rfl
            try simp only [Act.put, List.setIfInBounds_toArray, List.set_cons_zero, List.set_cons_succ]
            refine wpAnyH_take (i := 4) (oi := { dst := some 36, op := Op.load 22 (Operand.tmp 35), type := 22, pos := "ref.go:124", after := #[{ on := 3, ground := Ground.data }], guard := none }) (v := ?_) rfl (by kernel_rfl) (by kernel_rfl) (by kernel_rfl) (fun _ _ _ h => h) (Or.inl ⟨by rfl, ?_⟩) hHeld ?_
            rotate_left
            · intro w9 hSw
              try dsimp only at hSw
              go_simp
              try with_reducible rfl
            try simp only [Act.put, List.setIfInBounds_toArray, List.set_cons_zero, List.set_cons_succ]
            refine wpAnyH_ready (rs := [2]) (by kernel_rfl) (by simp) ?_
            refine AllReadyH.cons (o := { dst := some 34, op := Op.call { callee := Callee.value (Operand.func 86), args := #[Operand.tmp 33], argTypes := #[22] }, type := 22, pos := "ref.go:124", after := #[{ on := 1, ground := Ground.data }], guard := none }) rfl (fun K hK => ?_) AllReadyH.nil
            go_simp
            (go_at_call 86; with_reducible refine (rfull_b b.hi q (by omega) (by omega) HQ.out _).mono ?_; rintro e z1 ⟨rfl, qb⟩)
            refine hK.out _ _ ?_ (fun g1 => ?_)
            · exact two_keep qb hHeld
            clear hK K qb
            skip
            try simp only [Act.put, List.setIfInBounds_toArray, List.set_cons_zero, List.set_cons_succ]
            refine wpAnyH_take (i := 5) (oi := { dst := some 37, op := Op.binOp BinOp.gtr 22 (Operand.tmp 34) (Operand.tmp 36) 22, type := 4, pos := "ref.go:124", after := #[{ on := 2, ground := Ground.data }, { on := 4, ground := Ground.data }], guard := none }) (v := ?_) rfl (by kernel_rfl) (by kernel_rfl) (by kernel_rfl) (fun _ _ _ h => h) (Or.inl ⟨by rfl, ?_⟩) g1 ?_
            rotate_left
            · intro w9 hSw
              try dsimp only at hSw
              go_simp
              try with_reducible rfl
            try simp only [Act.put, List.setIfInBounds_toArray, List.set_cons_zero, List.set_cons_succ]
            refine wpAnyH_done (by kernel_rfl) ?_ _
            have KA := Lib.hid g1
            clear g1 c10 c11 d0 d1 c20 c21 f0 f1 f2 f3 HB
            obtain ⟨c10, c11, d0, d1, c20, c21, f0, f1, -, -, f2, f3, HB0⟩ := KA.out
            have HB := Lib.hid HB0
            clear HB0 KA
            generalize z1 = y3 at *
            go_wp2_with fail
            refine (rfull_to b.hi q (by omega) (by omega) HQ.out _).mono ?_
            rintro e w' ⟨rfl, rfl⟩
            go_wp2_with fail
            replace c20 := (World.cell?_setCell_other y3 ⟨z0.heap.size, 1, none⟩ ⟨w.heap.size + 1 + 1, 0, none⟩ (.int .u64 q) (fun e => by injection e with e1 _ _; omega)).trans c20
            replace c21 := (World.cell?_setCell_other y3 ⟨z0.heap.size, 1, none⟩ ⟨w.heap.size + 1 + 1, 1, none⟩ (.int .u64 q) (fun e => by injection e with e1 _ _; omega)).trans c21
            replace HB := Lib.hid (HB.out.setCell (p := ⟨z0.heap.size, 1, none⟩) (show w.heap.size ≤ z0.heap.size by omega) (.int .u64 q))
            have r0 : ∀ u v, (((y3.setCell ⟨z0.heap.size, 1, none⟩ (.int .u64 q)).setCell ⟨w.heap.size + 1 + 1, 0, none⟩ u).setCell ⟨w.heap.size + 1 + 1, 1, none⟩ v).cell? ⟨w.heap.size + 1 + 1, 0, none⟩ = some u := fun u v => set_fst c20
            have r1 : ∀ u v, (((y3.setCell ⟨z0.heap.size, 1, none⟩ (.int .u64 q)).setCell ⟨w.heap.size + 1 + 1, 0, none⟩ u).setCell ⟨w.heap.size + 1 + 1, 1, none⟩ v).cell? ⟨w.heap.size + 1 + 1, 1, none⟩ = some v := fun u v => set_snd c21
            refine bodyPost_ret (by simp [results, Try.results34, r0, r1, go_sem]; try rfl) rfl ?_
            exact ⟨rt_u (by omega) (by omega), below_st2 HB.out (by omega)⟩
        · skip
          refine wp_region_held_drew (S := fun w' => w'.cell? ⟨w.heap.size, 0, none⟩ = some (.int .u64 a.lo) ∧ w'.cell? ⟨w.heap.size, 1, none⟩ = some (.int .u64 a.hi) ∧ w'.cell? ⟨w.heap.size + 1, 0, none⟩ = some (.int .u64 b.lo) ∧ w'.cell? ⟨w.heap.size + 1, 1, none⟩ = some (.int .u64 b.hi) ∧ w'.cell? ⟨w.heap.size + 1 + 1, 0, none⟩ = some (cv w' (w.heap.size + 1 + 1) 0) ∧ w'.cell? ⟨w.heap.size + 1 + 1, 1, none⟩ = some (cv w' (w.heap.size + 1 + 1) 1) ∧ w'.frozen? ⟨w.heap.size + 1 + 1, 0, none⟩ = false ∧ w'.frozen? ⟨w.heap.size + 1 + 1, 1, none⟩ = false ∧ Below w.heap.size w w') (by kernel_rfl) ?_ (fun hHeld => ?_)
          · exact ⟨c00, c01, c10, c11, cv_some c20, cv_some c21, f0, f1, HB.out.drew⟩
          generalize w2.drew = z0 at *
          refine wpAnyH_take (i := 0) (oi := { dst := some 18, op := Op.fieldAddr 24 (Operand.tmp 2) 0, type := 0, pos := "ref.go:120", after := #[], guard := none }) (v := ?_) rfl (by kernel_rfl) (by kernel_rfl) (by kernel_rfl) (fun _ _ _ h => h) (Or.inl ⟨by rfl, ?_⟩) hHeld ?_
          rotate_left
          · intro w9 hSw
            try dsimp only at hSw
            go_simp
            try with_reducible rfl
          try simp only [Act.put, List.setIfInBounds_toArray, List.set_cons_zero, List.set_cons_succ]
          refine wpAnyH_take (i := 1) (oi := { dst := some 19, op := Op.load 22 (Operand.tmp 18), type := 22, pos := "ref.go:120", after := #[{ on := 0, ground := Ground.data }], guard := none }) (v := ?_) rfl (by kernel_rfl) (by kernel_rfl) (by kernel_rfl) (fun _ _ _ h => h) (Or.inl ⟨by rfl, ?_⟩) hHeld ?_
          rotate_left
          · intro w9 hSw
            try dsimp only at hSw
            go_simp
            try with_reducible rfl
          try simp only [Act.put, List.setIfInBounds_toArray, List.set_cons_zero, List.set_cons_succ]
          refine wpAnyH_take (i := 2) (oi := { dst := some 20, op := Op.fieldAddr 24 (Operand.tmp 2) 1, type := 0, pos := "ref.go:120", after := #[], guard := none }) (v := ?_) rfl (by kernel_rfl) (by kernel_rfl) (by kernel_rfl) (fun _ _ _ h => h) (Or.inl ⟨by rfl, ?_⟩) hHeld ?_
          rotate_left
          · intro w9 hSw
            try dsimp only at hSw
            go_simp
            try with_reducible rfl
          try simp only [Act.put, List.setIfInBounds_toArray, List.set_cons_zero, List.set_cons_succ]
          refine wpAnyH_take (i := 3) (oi := { dst := some 21, op := Op.load 22 (Operand.tmp 20), type := 22, pos := "ref.go:120", after := #[{ on := 2, ground := Ground.data }], guard := none }) (v := ?_) rfl (by kernel_rfl) (by kernel_rfl) (by kernel_rfl) (fun _ _ _ h => h) (Or.inl ⟨by rfl, ?_⟩) hHeld ?_
          rotate_left
          · intro w9 hSw
            try dsimp only at hSw
            go_simp
            try with_reducible rfl
          try simp only [Act.put, List.setIfInBounds_toArray, List.set_cons_zero, List.set_cons_succ]
          clear c00 c01 c10 c11 c20 c21 f0 f1 HB
          have hsz := World.block_lt_of_cell? _ _ hHeld.1
          have hsz1 := World.block_lt_of_cell? _ _ hHeld.2.2.1
          have hsz2 := World.block_lt_of_cell? _ _ hHeld.2.2.2.2.1
          dsimp only at hsz hsz1 hsz2
          refine wpAnyH_ready (rs := [4, 6]) (by kernel_rfl) (by simp) ?_
          refine AllReadyH.cons (o := { dst := some 22, op := Op.call { callee := Callee.value (Operand.func 86), args := #[Operand.tmp 21], argTypes := #[22] }, type := 22, pos := "ref.go:120", after := #[{ on := 3, ground := Ground.data }], guard := none }) rfl (fun K hK => ?_) (AllReadyH.cons (o := { dst := some 5, op := Op.alloc 24, type := 0, pos := "ref.go:120", after := #[], guard := none }) rfl (fun K hK => ?_) AllReadyH.nil)
          · go_simp
            (go_at_call 86; with_reducible refine (rfull_b a.hi p (by omega) (by omega) HP.out _).mono ?_; rintro e t1 ⟨rfl, qb⟩)
            have hs1 := qb.size
            refine hK.out _ _ ?_ (fun g1 => ?_)
            · exact keepr4 qb hHeld
            clear hK K qb hHeld
            try simp only [Act.put, List.setIfInBounds_toArray, List.set_cons_zero, List.set_cons_succ]
            refine wpAnyH_take (i := 5) (oi := { dst := some 23, op := Op.build 24 #[(0, Operand.tmp 19), (1, Operand.tmp 22)], type := 24, pos := "ref.go:120", after := #[{ on := 1, ground := Ground.data }, { on := 4, ground := Ground.data }], guard := none }) (v := ?_) rfl (by kernel_rfl) (by kernel_rfl) (by kernel_rfl) (fun _ _ _ h => h) (Or.inl ⟨by rfl, ?_⟩) g1 ?_
            rotate_left
            · intro w9 hSw
              try dsimp only at hSw
              go_simp
              try with_reducible rfl
            try simp only [Act.put, List.setIfInBounds_toArray, List.set_cons_zero, List.set_cons_succ]
            refine wpAnyH_ready (rs := [6]) (by kernel_rfl) (by simp) ?_
            refine AllReadyH.cons (o := { dst := some 5, op := Op.alloc 24, type := 0, pos := "ref.go:120", after := #[], guard := none }) rfl (fun K hK => ?_) AllReadyH.nil
            go_simp
            refine hK.out _ _ ?_ (fun g2 => ?_)
            · exact keepr4 (alB _ _) g1
            clear hK K g2
            try simp only [Act.put, List.setIfInBounds_toArray, List.set_cons_zero, List.set_cons_succ]
            refine wpAnyH_ready (rs := [7]) (by kernel_rfl) (by simp) ?_
            refine AllReadyH.cons (o := { dst := none, op := Op.store 24 (Operand.tmp 5) (Operand.tmp 23), type := 0, pos := "ref.go:120", after := #[{ on := 6, ground := Ground.data }, { on := 5, ground := Ground.data }, { on := 4, ground := Ground.chain }, { on := 0, ground := Ground.phase }, { on := 1, ground := Ground.phase }, { on := 2, ground := Ground.phase }, { on := 3, ground := Ground.phase }, { on := 4, ground := Ground.phase }, { on := 5, ground := Ground.phase }, { on := 6, ground := Ground.phase }], guard := none }) rfl (fun K hK => ?_) AllReadyH.nil
            go_simp
            refine hK.out _ _ ?_ (fun g9 => ?_)
            · exact keepr4 (alB _ _) g1
            clear hK K
            try simp only [Act.put, List.setIfInBounds_toArray, List.set_cons_zero, List.set_cons_succ]
            refine wpAnyH_done (by kernel_rfl) ?_ _
            obtain ⟨n0, n1, n2, n3⟩ := new_two (w := t1) (t := 24) (x := .int .u64 a.lo) (y := .int .u64 p)
            have D0 := Lib.hid n0
            have D1 := Lib.hid n1
            have D2 := Lib.hid n2
            have D3 := Lib.hid n3
            have KA := Lib.hid g9
            clear g9 g1 n0 n1 n2 n3
            generalize (t1.alloc (.cells #[.int .u64 a.lo, .int .u64 p] 24)) = y1 at *
            obtain ⟨-, -, c10, c11, c20, c21, f0, f1, HB0⟩ := KA.out
            have HB := Lib.hid HB0
            clear HB0 KA
            have d0 := D0.out
            have d1 := D1.out
            have f2 := D2.out
            have f3 := D3.out
            clear D0 D1 D2 D3
            go_wp2_with fail
            have k0 := World.cell?_setCell_same y1 ⟨t1.heap.size, 0, none⟩ (.int .u64 b.lo) d0
            have k1 := (World.cell?_setCell_other y1 ⟨t1.heap.size, 0, none⟩ ⟨t1.heap.size, 1, none⟩ (.int .u64 b.lo) (fun e => by injection e with _ e2 _; omega)).trans d1
            replace c10 := (World.cell?_setCell_other y1 ⟨t1.heap.size, 0, none⟩ ⟨w.heap.size + 1, 0, none⟩ (.int .u64 b.lo) (fun e => by injection e with e1 _ _; omega)).trans c10
            replace c11 := (World.cell?_setCell_other y1 ⟨t1.heap.size, 0, none⟩ ⟨w.heap.size + 1, 1, none⟩ (.int .u64 b.lo) (fun e => by injection e with e1 _ _; omega)).trans c11
            replace c20 := (World.cell?_setCell_other y1 ⟨t1.heap.size, 0, none⟩ ⟨w.heap.size + 1 + 1, 0, none⟩ (.int .u64 b.lo) (fun e => by injection e with e1 _ _; omega)).trans c20
            replace c21 := (World.cell?_setCell_other y1 ⟨t1.heap.size, 0, none⟩ ⟨w.heap.size + 1 + 1, 1, none⟩ (.int .u64 b.lo) (fun e => by injection e with e1 _ _; omega)).trans c21
            replace f0 : (y1.setCell ⟨t1.heap.size, 0, none⟩ (.int .u64 b.lo)).frozen? ⟨w.heap.size + 1 + 1, 0, none⟩ = false := by rw [World.frozen?_setCell]; exact f0
            replace f1 : (y1.setCell ⟨t1.heap.size, 0, none⟩ (.int .u64 b.lo)).frozen? ⟨w.heap.size + 1 + 1, 1, none⟩ = false := by rw [World.frozen?_setCell]; exact f1
            replace f2 : (y1.setCell ⟨t1.heap.size, 0, none⟩ (.int .u64 b.lo)).frozen? ⟨t1.heap.size, 0, none⟩ = false := by rw [World.frozen?_setCell]; exact f2
            replace f3 : (y1.setCell ⟨t1.heap.size, 0, none⟩ (.int .u64 b.lo)).frozen? ⟨t1.heap.size, 1, none⟩ = false := by rw [World.frozen?_setCell]; exact f3
            replace HB := Lib.hid (HB.out.setCell (p := ⟨t1.heap.size, 0, none⟩) (show w.heap.size ≤ t1.heap.size by omega) (.int .u64 b.lo))
            clear d0 d1
            have d0 := k0
            have d1 := k1
            clear k0 k1
            generalize (y1.setCell ⟨t1.heap.size, 0, none⟩ (.int .u64 b.lo)) = y2 at *
            refine wp_region_held_drew (S := fun w' => w'.cell? ⟨w.heap.size + 1, 0, none⟩ = some (.int .u64 b.lo) ∧ w'.cell? ⟨w.heap.size + 1, 1, none⟩ = some (.int .u64 b.hi) ∧ w'.cell? ⟨t1.heap.size, 0, none⟩ = some (.int .u64 b.lo) ∧ w'.cell? ⟨t1.heap.size, 1, none⟩ = some (.int .u64 p) ∧ w'.cell? ⟨w.heap.size + 1 + 1, 0, none⟩ = some (cv w' (w.heap.size + 1 + 1) 0) ∧ w'.cell? ⟨w.heap.size + 1 + 1, 1, none⟩ = some (cv w' (w.heap.size + 1 + 1) 1) ∧ w'.frozen? ⟨w.heap.size + 1 + 1, 0, none⟩ = false ∧ w'.frozen? ⟨w.heap.size + 1 + 1, 1, none⟩ = false ∧ w'.cell? ⟨t1.heap.size, 0, none⟩ = some (cv w' (t1.heap.size) 0) ∧ w'.cell? ⟨t1.heap.size, 1, none⟩ = some (cv w' (t1.heap.size) 1) ∧ w'.frozen? ⟨t1.heap.size, 0, none⟩ = false ∧ w'.frozen? ⟨t1.heap.size, 1, none⟩ = false ∧ Below w.heap.size w w') (by kernel_rfl) ?_ (fun hHeld => ?_)
            · exact ⟨c10, c11, d0, d1, cv_some c20, cv_some c21, f0, f1, cv_some d0, cv_some d1, f2, f3, HB.out.drew⟩
            refine wpAnyH_take (i := 0) (oi := { dst := some 32, op := Op.fieldAddr 24 (Operand.tmp 3) 1, type := 0, pos := "ref.go:124", after := #[], guard := none }) (v := ?_) rfl (by kernel_rfl) (by kernel_rfl) (by kernel_rfl) (fun _ _ _ h => h) (Or.inl ⟨by rfl, ?_⟩) hHeld ?_
            rotate_left
            · intro w9 hSw
              try dsimp only at hSw
              go_simp
              try with_reducible rfl
            try simp only [Act.put, List.setIfInBounds_toArray, List.set_cons_zero, List.set_cons_succ]
            refine wpAnyH_take (i := 1) (oi := { dst := some 33, op := Op.load 22 (Operand.tmp 32), type := 22, pos := "ref.go:124", after := #[{ on := 0, ground := Ground.data }], guard := none }) (v := ?_) rfl (by kernel_rfl) (by kernel_rfl) (by kernel_rfl) (fun _ _ _ h => h) (Or.inl ⟨by rfl, ?_⟩) hHeld ?_
            rotate_left
            · intro w9 hSw
              try dsimp only at hSw
              go_simp
              try with_reducible rfl
            try simp only [Act.put, List.setIfInBounds_toArray, List.set_cons_zero, List.set_cons_succ]
            refine wpAnyH_take (i := 3) (oi := { dst := some 35, op := Op.fieldAddr 24 (Operand.tmp 5) 1, type := 0, pos := "ref.go:124", after := #[], guard := none }) (v := ?_) rfl (by kernel_rfl) (by kernel_rfl) (by kernel_rfl) (fun _ _ _ h => h) (Or.inl ⟨by rfl, ?_⟩) hHeld ?_
            rotate_left
            · intro w9 hSw
              try dsimp only at hSw
              go_simp
              try with_reducible rfl
            try simp only [Act.put, List.setIfInBounds_toArray, List.set_cons_zero, List.set_cons_succ]
            refine wpAnyH_take (i := 4) (oi := { dst := some 36, op := Op.load 22 (Operand.tmp 35), type := 22, pos := "ref.go:124", after := #[{ on := 3, ground := Ground.data }], guard := none }) (v := ?_) rfl (by kernel_rfl) (by kernel_rfl) (by kernel_rfl) (fun _ _ _ h => h) (Or.inl ⟨by rfl, ?_⟩) hHeld ?_
            rotate_left
            · intro w9 hSw
              try dsimp only at hSw
              go_simp
              try with_reducible rfl
            try simp only [Act.put, List.setIfInBounds_toArray, List.set_cons_zero, List.set_cons_succ]
            refine wpAnyH_ready (rs := [2]) (by kernel_rfl) (by simp) ?_
            refine AllReadyH.cons (o := { dst := some 34, op := Op.call { callee := Callee.value (Operand.func 86), args := #[Operand.tmp 33], argTypes := #[22] }, type := 22, pos := "ref.go:124", after := #[{ on := 1, ground := Ground.data }], guard := none }) rfl (fun K hK => ?_) AllReadyH.nil
            go_simp
            (go_at_call 86; with_reducible refine (rfull_b b.hi q (by omega) (by omega) HQ.out _).mono ?_; rintro e z1 ⟨rfl, qb⟩)
            refine hK.out _ _ ?_ (fun g1 => ?_)
            · exact two_keep qb hHeld
            clear hK K qb
            skip
            try simp only [Act.put, List.setIfInBounds_toArray, List.set_cons_zero, List.set_cons_succ]
            refine wpAnyH_take (i := 5) (oi := { dst := some 37, op := Op.binOp BinOp.gtr 22 (Operand.tmp 34) (Operand.tmp 36) 22, type := 4, pos := "ref.go:124", after := #[{ on := 2, ground := Ground.data }, { on := 4, ground := Ground.data }], guard := none }) (v := ?_) rfl (by kernel_rfl) (by kernel_rfl) (by kernel_rfl) (fun _ _ _ h => h) (Or.inl ⟨by rfl, ?_⟩) g1 ?_
            rotate_left
            · intro w9 hSw
              try dsimp only at hSw
              go_simp
              try with_reducible rfl
            try simp only [Act.put, List.setIfInBounds_toArray, List.set_cons_zero, List.set_cons_succ]
            refine wpAnyH_done (by kernel_rfl) ?_ _
            have KA := Lib.hid g1
            clear g1 c10 c11 d0 d1 c20 c21 f0 f1 f2 f3 HB
            obtain ⟨c10, c11, d0, d1, c20, c21, f0, f1, -, -, f2, f3, HB0⟩ := KA.out
            have HB := Lib.hid HB0
            clear HB0 KA
            generalize z1 = y3 at *
            go_wp2_with fail
            have r0 : ∀ u v, ((y3.setCell ⟨w.heap.size + 1 + 1, 0, none⟩ u).setCell ⟨w.heap.size + 1 + 1, 1, none⟩ v).cell? ⟨w.heap.size + 1 + 1, 0, none⟩ = some u := fun u v => set_fst c20
            have r1 : ∀ u v, ((y3.setCell ⟨w.heap.size + 1 + 1, 0, none⟩ u).setCell ⟨w.heap.size + 1 + 1, 1, none⟩ v).cell? ⟨w.heap.size + 1 + 1, 1, none⟩ = some v := fun u v => set_snd c21
            refine bodyPost_ret (by simp [results, Try.results34, r0, r1, go_sem]; try rfl) rfl ?_
            exact ⟨rt_u (by omega) (by omega), below_st2 HB.out (by omega)⟩
          · go_simp
            refine hK.out _ _ ?_ (fun g1 => ?_)
            · exact keepr4 (alB _ _) hHeld
            clear hK K hHeld
            try simp only [Act.put, List.setIfInBounds_toArray, List.set_cons_zero, List.set_cons_succ]
            obtain ⟨n0, n1, n2, n3⟩ := new_two (w := z0) (t := 24) (x := .int .u64 0) (y := .int .u64 0)
            refine wpAnyH_ready (rs := [4]) (by kernel_rfl) (by simp) ?_
            refine AllReadyH.cons (o := { dst := some 22, op := Op.call { callee := Callee.value (Operand.func 86), args := #[Operand.tmp 21], argTypes := #[22] }, type := 22, pos := "ref.go:120", after := #[{ on := 3, ground := Ground.data }], guard := none }) rfl (fun K hK => ?_) AllReadyH.nil
            go_simp
            (go_at_call 86; with_reducible refine (rfull_b a.hi p (by omega) (by omega) HP.out _).mono ?_; rintro e t1 ⟨rfl, qb⟩)
            refine hK.out _ _ ?_ (fun g2 => ?_)
            · exact keepr4 qb g1
            replace n2 := keepf qb (World.block_lt_of_cell? _ _ n0) n2
            replace n3 := keepf qb (World.block_lt_of_cell? _ _ n1) n3
            replace n0 := keep1 qb n0
            replace n1 := keep1 qb n1
            clear hK K qb g1
            try simp only [Act.put, List.setIfInBounds_toArray, List.set_cons_zero, List.set_cons_succ]
            refine wpAnyH_take (i := 5) (oi := { dst := some 23, op := Op.build 24 #[(0, Operand.tmp 19), (1, Operand.tmp 22)], type := 24, pos := "ref.go:120", after := #[{ on := 1, ground := Ground.data }, { on := 4, ground := Ground.data }], guard := none }) (v := ?_) rfl (by kernel_rfl) (by kernel_rfl) (by kernel_rfl) (fun _ _ _ h => h) (Or.inl ⟨by rfl, ?_⟩) g2 ?_
            rotate_left
            · intro w9 hSw
              try dsimp only at hSw
              go_simp
              try with_reducible rfl
            try simp only [Act.put, List.setIfInBounds_toArray, List.set_cons_zero, List.set_cons_succ]
            refine wpAnyH_ready (rs := [7]) (by kernel_rfl) (by simp) ?_
            refine AllReadyH.cons (o := { dst := none, op := Op.store 24 (Operand.tmp 5) (Operand.tmp 23), type := 0, pos := "ref.go:120", after := #[{ on := 6, ground := Ground.data }, { on := 5, ground := Ground.data }, { on := 4, ground := Ground.chain }, { on := 0, ground := Ground.phase }, { on := 1, ground := Ground.phase }, { on := 2, ground := Ground.phase }, { on := 3, ground := Ground.phase }, { on := 4, ground := Ground.phase }, { on := 5, ground := Ground.phase }, { on := 6, ground := Ground.phase }], guard := none }) rfl (fun K hK => ?_) AllReadyH.nil
            go_simp
            refine hK.out _ _ ?_ (fun g9 => ?_)
            · exact farr4 (by omega) (by omega) (by omega) (by omega) g2
            clear hK K
            try simp only [Act.put, List.setIfInBounds_toArray, List.set_cons_zero, List.set_cons_succ]
            refine wpAnyH_done (by kernel_rfl) ?_ _
            have D0 := Lib.hid (set_fst (u := .int .u64 a.lo) (v := .int .u64 p) n0)
            have D1 := Lib.hid (set_snd (u := .int .u64 a.lo) (v := .int .u64 p) n1)
            have D2 := Lib.hid ((fz2 t1 (z0.heap.size) (.int .u64 a.lo) (.int .u64 p)).trans n2)
            have D3 := Lib.hid ((fz2 t1 (z0.heap.size) (.int .u64 a.lo) (.int .u64 p)).trans n3)
            have KA := Lib.hid g9
            clear g9 g2 n0 n1 n2 n3
            generalize ((t1.setCell ⟨z0.heap.size, 0, none⟩ (.int .u64 a.lo)).setCell ⟨z0.heap.size, 1, none⟩ (.int .u64 p)) = y1 at *
            obtain ⟨-, -, c10, c11, c20, c21, f0, f1, HB0⟩ := KA.out
            have HB := Lib.hid HB0
            clear HB0 KA
            have d0 := D0.out
            have d1 := D1.out
            have f2 := D2.out
            have f3 := D3.out
            clear D0 D1 D2 D3
            go_wp2_with fail
            have k0 := World.cell?_setCell_same y1 ⟨z0.heap.size, 0, none⟩ (.int .u64 b.lo) d0
            have k1 := (World.cell?_setCell_other y1 ⟨z0.heap.size, 0, none⟩ ⟨z0.heap.size, 1, none⟩ (.int .u64 b.lo) (fun e => by injection e with _ e2 _; omega)).trans d1
            replace c10 := (World.cell?_setCell_other y1 ⟨z0.heap.size, 0, none⟩ ⟨w.heap.size + 1, 0, none⟩ (.int .u64 b.lo) (fun e => by injection e with e1 _ _; omega)).trans c10
            replace c11 := (World.cell?_setCell_other y1 ⟨z0.heap.size, 0, none⟩ ⟨w.heap.size + 1, 1, none⟩ (.int .u64 b.lo) (fun e => by injection e with e1 _ _; omega)).trans c11
            replace c20 := (World.cell?_setCell_other y1 ⟨z0.heap.size, 0, none⟩ ⟨w.heap.size + 1 + 1, 0, none⟩ (.int .u64 b.lo) (fun e => by injection e with e1 _ _; omega)).trans c20
            replace c21 := (World.cell?_setCell_other y1 ⟨z0.heap.size, 0, none⟩ ⟨w.heap.size + 1 + 1, 1, none⟩ (.int .u64 b.lo) (fun e => by injection e with e1 _ _; omega)).trans c21
            replace f0 : (y1.setCell ⟨z0.heap.size, 0, none⟩ (.int .u64 b.lo)).frozen? ⟨w.heap.size + 1 + 1, 0, none⟩ = false := by rw [World.frozen?_setCell]; exact f0
            replace f1 : (y1.setCell ⟨z0.heap.size, 0, none⟩ (.int .u64 b.lo)).frozen? ⟨w.heap.size + 1 + 1, 1, none⟩ = false := by rw [World.frozen?_setCell]; exact f1
            replace f2 : (y1.setCell ⟨z0.heap.size, 0, none⟩ (.int .u64 b.lo)).frozen? ⟨z0.heap.size, 0, none⟩ = false := by rw [World.frozen?_setCell]; exact f2
            replace f3 : (y1.setCell ⟨z0.heap.size, 0, none⟩ (.int .u64 b.lo)).frozen? ⟨z0.heap.size, 1, none⟩ = false := by rw [World.frozen?_setCell]; exact f3
            replace HB := Lib.hid (HB.out.setCell (p := ⟨z0.heap.size, 0, none⟩) (show w.heap.size ≤ z0.heap.size by omega) (.int .u64 b.lo))
            clear d0 d1
            have d0 := k0
            have d1 := k1
            clear k0 k1
            generalize (y1.setCell ⟨z0.heap.size, 0, none⟩ (.int .u64 b.lo)) = y2 at *
            refine wp_region_held_drew (S := fun w' => w'.cell? ⟨w.heap.size + 1, 0, none⟩ = some (.int .u64 b.lo) ∧ w'.cell? ⟨w.heap.size + 1, 1, none⟩ = some (.int .u64 b.hi) ∧ w'.cell? ⟨z0.heap.size, 0, none⟩ = some (.int .u64 b.lo) ∧ w'.cell? ⟨z0.heap.size, 1, none⟩ = some (.int .u64 p) ∧ w'.cell? ⟨w.heap.size + 1 + 1, 0, none⟩ = some (cv w' (w.heap.size + 1 + 1) 0) ∧ w'.cell? ⟨w.heap.size + 1 + 1, 1, none⟩ = some (cv w' (w.heap.size + 1 + 1) 1) ∧ w'.frozen? ⟨w.heap.size + 1 + 1, 0, none⟩ = false ∧ w'.frozen? ⟨w.heap.size + 1 + 1, 1, none⟩ = false ∧ w'.cell? ⟨z0.heap.size, 0, none⟩ = some (cv w' (z0.heap.size) 0) ∧ w'.cell? ⟨z0.heap.size, 1, none⟩ = some (cv w' (z0.heap.size) 1) ∧ w'.frozen? ⟨z0.heap.size, 0, none⟩ = false ∧ w'.frozen? ⟨z0.heap.size, 1, none⟩ = false ∧ Below w.heap.size w w') (by kernel_rfl) ?_ (fun hHeld => ?_)
            · exact ⟨c10, c11, d0, d1, cv_some c20, cv_some c21, f0, f1, cv_some d0, cv_some d1, f2, f3, HB.out.drew⟩
            refine wpAnyH_take (i := 0) (oi := { dst := some 32, op := Op.fieldAddr 24 (Operand.tmp 3) 1, type := 0, pos := "ref.go:124", after := #[], guard := none }) (v := ?_) rfl (by kernel_rfl) (by kernel_rfl) (by kernel_rfl) (fun _ _ _ h => h) (Or.inl ⟨by rfl, ?_⟩) hHeld ?_
            rotate_left
            · intro w9 hSw
              try dsimp only at hSw
              go_simp
              try with_reducible rfl
            try simp only [Act.put, List.setIfInBounds_toArray, List.set_cons_zero, List.set_cons_succ]
            refine wpAnyH_take (i := 1) (oi := { dst := some 33, op := Op.load 22 (Operand.tmp 32), type := 22, pos := "ref.go:124", after := #[{ on := 0, ground := Ground.data }], guard := none }) (v := ?_) rfl (by kernel_rfl) (by kernel_rfl) (by kernel_rfl) (fun _ _ _ h => h) (Or.inl ⟨by rfl, ?_⟩) hHeld ?_
            rotate_left
            · intro w9 hSw
              try dsimp only at hSw
              go_simp
              try with_reducible rfl
            try simp only [Act.put, List.setIfInBounds_toArray, List.set_cons_zero, List.set_cons_succ]
            refine wpAnyH_take (i := 3) (oi := { dst := some 35, op := Op.fieldAddr 24 (Operand.tmp 5) 1, type := 0, pos := "ref.go:124", after := #[], guard := none }) (v := ?_) rfl (by kernel_rfl) (by kernel_rfl) (by kernel_rfl) (fun _ _ _ h => h) (Or.inl ⟨by rfl, ?_⟩) hHeld ?_
            rotate_left
            · intro w9 hSw
              try dsimp only at hSw
              go_simp
              try with_reducible rfl
            try simp only [Act.put, List.setIfInBounds_toArray, List.set_cons_zero, List.set_cons_succ]
            refine wpAnyH_take (i := 4) (oi := { dst := some 36, op := Op.load 22 (Operand.tmp 35), type := 22, pos := "ref.go:124", after := #[{ on := 3, ground := Ground.data }], guard := none }) (v := ?_) rfl (by kernel_rfl) (by kernel_rfl) (by kernel_rfl) (fun _ _ _ h => h) (Or.inl ⟨by rfl, ?_⟩) hHeld ?_
            rotate_left
            · intro w9 hSw
              try dsimp only at hSw
              go_simp
              try with_reducible rfl
            try simp only [Act.put, List.setIfInBounds_toArray, List.set_cons_zero, List.set_cons_succ]
            refine wpAnyH_ready (rs := [2]) (by kernel_rfl) (by simp) ?_
            refine AllReadyH.cons (o := { dst := some 34, op := Op.call { callee := Callee.value (Operand.func 86), args := #[Operand.tmp 33], argTypes := #[22] }, type := 22, pos := "ref.go:124", after := #[{ on := 1, ground := Ground.data }], guard := none }) rfl (fun K hK => ?_) AllReadyH.nil
            go_simp
            (go_at_call 86; with_reducible refine (rfull_b b.hi q (by omega) (by omega) HQ.out _).mono ?_; rintro e z1 ⟨rfl, qb⟩)
            refine hK.out _ _ ?_ (fun g1 => ?_)
            · exact two_keep qb hHeld
            clear hK K qb
            skip
            try simp only [Act.put, List.setIfInBounds_toArray, List.set_cons_zero, List.set_cons_succ]
            refine wpAnyH_take (i := 5) (oi := { dst := some 37, op := Op.binOp BinOp.gtr 22 (Operand.tmp 34) (Operand.tmp 36) 22, type := 4, pos := "ref.go:124", after := #[{ on := 2, ground := Ground.data }, { on := 4, ground := Ground.data }], guard := none }) (v := ?_) rfl (by kernel_rfl) (by kernel_rfl) (by kernel_rfl) (fun _ _ _ h => h) (Or.inl ⟨by rfl, ?_⟩) g1 ?_
            rotate_left
            · intro w9 hSw
              try dsimp only at hSw
              go_simp
              try with_reducible rfl
            try simp only [Act.put, List.setIfInBounds_toArray, List.set_cons_zero, List.set_cons_succ]
            refine wpAnyH_done (by kernel_rfl) ?_ _
            have KA := Lib.hid g1
            clear g1 c10 c11 d0 d1 c20 c21 f0 f1 f2 f3 HB
            obtain ⟨c10, c11, d0, d1, c20, c21, f0, f1, -, -, f2, f3, HB0⟩ := KA.out
            have HB := Lib.hid HB0
            clear HB0 KA
            generalize z1 = y3 at *
            go_wp2_with fail
            have r0 : ∀ u v, ((y3.setCell ⟨w.heap.size + 1 + 1, 0, none⟩ u).setCell ⟨w.heap.size + 1 + 1, 1, none⟩ v).cell? ⟨w.heap.size + 1 + 1, 0, none⟩ = some u := fun u v => set_fst c20
            have r1 : ∀ u v, ((y3.setCell ⟨w.heap.size + 1 + 1, 0, none⟩ u).setCell ⟨w.heap.size + 1 + 1, 1, none⟩ v).cell? ⟨w.heap.size + 1 + 1, 1, none⟩ = some v := fun u v => set_snd c21
            refine bodyPost_ret (by simp [results, Try.results34, r0, r1, go_sem]; try rfl) rfl ?_
            exact ⟨rt_u (by omega) (by omega), below_st2 HB.out (by omega)⟩
      · by_cases hq : p < q
        · skip
          refine wp_region_held_drew (S := fun w' => w'.cell? ⟨w.heap.size, 0, none⟩ = some (.int .u64 a.lo) ∧ w'.cell? ⟨w.heap.size, 1, none⟩ = some (.int .u64 a.hi) ∧ w'.cell? ⟨w.heap.size + 1, 0, none⟩ = some (.int .u64 b.lo) ∧ w'.cell? ⟨w.heap.size + 1, 1, none⟩ = some (.int .u64 b.hi) ∧ w'.cell? ⟨w.heap.size + 1 + 1, 0, none⟩ = some (cv w' (w.heap.size + 1 + 1) 0) ∧ w'.cell? ⟨w.heap.size + 1 + 1, 1, none⟩ = some (cv w' (w.heap.size + 1 + 1) 1) ∧ w'.frozen? ⟨w.heap.size + 1 + 1, 0, none⟩ = false ∧ w'.frozen? ⟨w.heap.size + 1 + 1, 1, none⟩ = false ∧ Below w.heap.size w w') (by kernel_rfl) ?_ (fun hHeld => ?_)
          · exact ⟨c00, c01, c10, c11, cv_some c20, cv_some c21, f0, f1, HB.out.drew⟩
          generalize w2.drew = z0 at *
          refine wpAnyH_take (i := 0) (oi := { dst := some 18, op := Op.fieldAddr 24 (Operand.tmp 2) 0, type := 0, pos := "ref.go:120", after := #[], guard := none }) (v := ?_) rfl (by kernel_rfl) (by kernel_rfl) (by kernel_rfl) (fun _ _ _ h => h) (Or.inl ⟨by rfl, ?_⟩) hHeld ?_
          rotate_left
          · intro w9 hSw
            try dsimp only at hSw
            go_simp
            try with_reducible rfl
          try simp only [Act.put, List.setIfInBounds_toArray, List.set_cons_zero, List.set_cons_succ]
          refine wpAnyH_take (i := 1) (oi := { dst := some 19, op := Op.load 22 (Operand.tmp 18), type := 22, pos := "ref.go:120", after := #[{ on := 0, ground := Ground.data }], guard := none }) (v := ?_) rfl (by kernel_rfl) (by kernel_rfl) (by kernel_rfl) (fun _ _ _ h => h) (Or.inl ⟨by rfl, ?_⟩) hHeld ?_
          rotate_left
          · intro w9 hSw
            try dsimp only at hSw
            go_simp
            try with_reducible rfl
          try simp only [Act.put, List.setIfInBounds_toArray, List.set_cons_zero, List.set_cons_succ]
          refine wpAnyH_take (i := 2) (oi := { dst := some 20, op := Op.fieldAddr 24 (Operand.tmp 2) 1, type := 0, pos := "ref.go:120", after := #[], guard := none }) (v := ?_) rfl (by kernel_rfl) (by kernel_rfl) (by kernel_rfl) (fun _ _ _ h => h) (Or.inl ⟨by rfl, ?_⟩) hHeld ?_
          rotate_left
          · intro w9 hSw
            try dsimp only at hSw
            go_simp
            try with_reducible rfl
          try simp only [Act.put, List.setIfInBounds_toArray, List.set_cons_zero, List.set_cons_succ]
          refine wpAnyH_take (i := 3) (oi := { dst := some 21, op := Op.load 22 (Operand.tmp 20), type := 22, pos := "ref.go:120", after := #[{ on := 2, ground := Ground.data }], guard := none }) (v := ?_) rfl (by kernel_rfl) (by kernel_rfl) (by kernel_rfl) (fun _ _ _ h => h) (Or.inl ⟨by rfl, ?_⟩) hHeld ?_
          rotate_left
          · intro w9 hSw
            try dsimp only at hSw
            go_simp
            try with_reducible rfl
          try simp only [Act.put, List.setIfInBounds_toArray, List.set_cons_zero, List.set_cons_succ]
          clear c00 c01 c10 c11 c20 c21 f0 f1 HB
          have hsz := World.block_lt_of_cell? _ _ hHeld.1
          have hsz1 := World.block_lt_of_cell? _ _ hHeld.2.2.1
          have hsz2 := World.block_lt_of_cell? _ _ hHeld.2.2.2.2.1
          dsimp only at hsz hsz1 hsz2
          refine wpAnyH_ready (rs := [4, 6]) (by kernel_rfl) (by simp) ?_
          refine AllReadyH.cons (o := { dst := some 22, op := Op.call { callee := Callee.value (Operand.func 86), args := #[Operand.tmp 21], argTypes := #[22] }, type := 22, pos := "ref.go:120", after := #[{ on := 3, ground := Ground.data }], guard := none }) rfl (fun K hK => ?_) (AllReadyH.cons (o := { dst := some 5, op := Op.alloc 24, type := 0, pos := "ref.go:120", after := #[], guard := none }) rfl (fun K hK => ?_) AllReadyH.nil)
          · go_simp
            (go_at_call 86; with_reducible refine (rfull_b a.hi p (by omega) (by omega) HP.out _).mono ?_; rintro e t1 ⟨rfl, qb⟩)
            have hs1 := qb.size
            refine hK.out _ _ ?_ (fun g1 => ?_)
            · exact keepr4 qb hHeld
            clear hK K qb hHeld
            try simp only [Act.put, List.setIfInBounds_toArray, List.set_cons_zero, List.set_cons_succ]
            refine wpAnyH_take (i := 5) (oi := { dst := some 23, op := Op.build 24 #[(0, Operand.tmp 19), (1, Operand.tmp 22)], type := 24, pos := "ref.go:120", after := #[{ on := 1, ground := Ground.data }, { on := 4, ground := Ground.data }], guard := none }) (v := ?_) rfl (by kernel_rfl) (by kernel_rfl) (by kernel_rfl) (fun _ _ _ h => h) (Or.inl ⟨by rfl, ?_⟩) g1 ?_
            rotate_left
            · intro w9 hSw
              try dsimp only at hSw
              go_simp
              try with_reducible rfl
            try simp only [Act.put, List.setIfInBounds_toArray, List.set_cons_zero, List.set_cons_succ]
            refine wpAnyH_ready (rs := [6]) (by kernel_rfl) (by simp) ?_
            refine AllReadyH.cons (o := { dst := some 5, op := Op.alloc 24, type := 0, pos := "ref.go:120", after := #[], guard := none }) rfl (fun K hK => ?_) AllReadyH.nil
            go_simp
            refine hK.out _ _ ?_ (fun g2 => ?_)
            · exact keepr4 (alB _ _) g1
            clear hK K g2
            try simp only [Act.put, List.setIfInBounds_toArray, List.set_cons_zero, List.set_cons_succ]
            refine wpAnyH_ready (rs := [7]) (by kernel_rfl) (by simp) ?_
            refine AllReadyH.cons (o := { dst := none, op := Op.store 24 (Operand.tmp 5) (Operand.tmp 23), type := 0, pos := "ref.go:120", after := #[{ on := 6, ground := Ground.data }, { on := 5, ground := Ground.data }, { on := 4, ground := Ground.chain }, { on := 0, ground := Ground.phase }, { on := 1, ground := Ground.phase }, { on := 2, ground := Ground.phase }, { on := 3, ground := Ground.phase }, { on := 4, ground := Ground.phase }, { on := 5, ground := Ground.phase }, { on := 6, ground := Ground.phase }], guard := none }) rfl (fun K hK => ?_) AllReadyH.nil
            go_simp
            refine hK.out _ _ ?_ (fun g9 => ?_)
            · exact keepr4 (alB _ _) g1
            clear hK K
            try simp only [Act.put, List.setIfInBounds_toArray, List.set_cons_zero, List.set_cons_succ]
            refine wpAnyH_done (by kernel_rfl) ?_ _
            obtain ⟨n0, n1, n2, n3⟩ := new_two (w := t1) (t := 24) (x := .int .u64 a.lo) (y := .int .u64 p)
            have D0 := Lib.hid n0
            have D1 := Lib.hid n1
            have D2 := Lib.hid n2
            have D3 := Lib.hid n3
            have KA := Lib.hid g9
            clear g9 g1 n0 n1 n2 n3
            generalize (t1.alloc (.cells #[.int .u64 a.lo, .int .u64 p] 24)) = y1 at *
            obtain ⟨-, -, c10, c11, c20, c21, f0, f1, HB0⟩ := KA.out
            have HB := Lib.hid HB0
            clear HB0 KA
            have d0 := D0.out
            have d1 := D1.out
            have f2 := D2.out
            have f3 := D3.out
            clear D0 D1 D2 D3
            go_wp2_with fail
            refine wp_region_held_drew (S := fun w' => w'.cell? ⟨w.heap.size + 1, 0, none⟩ = some (.int .u64 b.lo) ∧ w'.cell? ⟨w.heap.size + 1, 1, none⟩ = some (.int .u64 b.hi) ∧ w'.cell? ⟨t1.heap.size, 0, none⟩ = some (.int .u64 a.lo) ∧ w'.cell? ⟨t1.heap.size, 1, none⟩ = some (.int .u64 p) ∧ w'.cell? ⟨w.heap.size + 1 + 1, 0, none⟩ = some (cv w' (w.heap.size + 1 + 1) 0) ∧ w'.cell? ⟨w.heap.size + 1 + 1, 1, none⟩ = some (cv w' (w.heap.size + 1 + 1) 1) ∧ w'.frozen? ⟨w.heap.size + 1 + 1, 0, none⟩ = false ∧ w'.frozen? ⟨w.heap.size + 1 + 1, 1, none⟩ = false ∧ w'.cell? ⟨t1.heap.size, 0, none⟩ = some (cv w' (t1.heap.size) 0) ∧ w'.cell? ⟨t1.heap.size, 1, none⟩ = some (cv w' (t1.heap.size) 1) ∧ w'.frozen? ⟨t1.heap.size, 0, none⟩ = false ∧ w'.frozen? ⟨t1.heap.size, 1, none⟩ = false ∧ Below w.heap.size w w') (by kernel_rfl) ?_ (fun hHeld => ?_)
            · exact ⟨c10, c11, d0, d1, cv_some c20, cv_some c21, f0, f1, cv_some d0, cv_some d1, f2, f3, HB.out.drew⟩
            refine wpAnyH_take (i := 0) (oi := { dst := some 32, op := Op.fieldAddr 24 (Operand.tmp 3) 1, type := 0, pos := "ref.go:124", after := #[], guard := none }) (v := ?_) rfl (by kernel_rfl) (by kernel_rfl) (by kernel_rfl) (fun _ _ _ h => h) (Or.inl ⟨by rfl, ?_⟩) hHeld ?_
            rotate_left
            · intro w9 hSw
              try dsimp only at hSw
              go_simp
              try with_reducible rfl
            try simp only [Act.put, List.setIfInBounds_toArray, List.set_cons_zero, List.set_cons_succ]
            refine wpAnyH_take (i := 1) (oi := { dst := some 33, op := Op.load 22 (Operand.tmp 32), type := 22, pos := "ref.go:124", after := #[{ on := 0, ground := Ground.data }], guard := none }) (v := ?_) rfl (by kernel_rfl) (by kernel_rfl) (by kernel_rfl) (fun _ _ _ h => h) (Or.inl ⟨by rfl, ?_⟩) hHeld ?_
            rotate_left
            · intro w9 hSw
              try dsimp only at hSw
              go_simp
              try with_reducible rfl
            try simp only [Act.put, List.setIfInBounds_toArray, List.set_cons_zero, List.set_cons_succ]
            refine wpAnyH_take (i := 3) (oi := { dst := some 35, op := Op.fieldAddr 24 (Operand.tmp 5) 1, type := 0, pos := "ref.go:124", after := #[], guard := none }) (v := ?_) rfl (by kernel_rfl) (by kernel_rfl) (by kernel_rfl) (fun _ _ _ h => h) (Or.inl ⟨by rfl, ?_⟩) hHeld ?_
            rotate_left
            · intro w9 hSw
              try dsimp only at hSw
              go_simp
              try with_reducible rfl
            try simp only [Act.put, List.setIfInBounds_toArray, List.set_cons_zero, List.set_cons_succ]
            refine wpAnyH_take (i := 4) (oi := { dst := some 36, op := Op.load 22 (Operand.tmp 35), type := 22, pos := "ref.go:124", after := #[{ on := 3, ground := Ground.data }], guard := none }) (v := ?_) rfl (by kernel_rfl) (by kernel_rfl) (by kernel_rfl) (fun _ _ _ h => h) (Or.inl ⟨by rfl, ?_⟩) hHeld ?_
            rotate_left
            · intro w9 hSw
              try dsimp only at hSw
              go_simp
              try with_reducible rfl
            try simp only [Act.put, List.setIfInBounds_toArray, List.set_cons_zero, List.set_cons_succ]
            refine wpAnyH_ready (rs := [2]) (by kernel_rfl) (by simp) ?_
            refine AllReadyH.cons (o := { dst := some 34, op := Op.call { callee := Callee.value (Operand.func 86), args := #[Operand.tmp 33], argTypes := #[22] }, type := 22, pos := "ref.go:124", after := #[{ on := 1, ground := Ground.data }], guard := none }) rfl (fun K hK => ?_) AllReadyH.nil
            go_simp
            (go_at_call 86; with_reducible refine (rfull_b b.hi q (by omega) (by omega) HQ.out _).mono ?_; rintro e z1 ⟨rfl, qb⟩)
            refine hK.out _ _ ?_ (fun g1 => ?_)
            · exact two_keep qb hHeld
            clear hK K qb
            skip
            try simp only [Act.put, List.setIfInBounds_toArray, List.set_cons_zero, List.set_cons_succ]
            refine wpAnyH_take (i := 5) (oi := { dst := some 37, op := Op.binOp BinOp.gtr 22 (Operand.tmp 34) (Operand.tmp 36) 22, type := 4, pos := "ref.go:124", after := #[{ on := 2, ground := Ground.data }, { on := 4, ground := Ground.data }], guard := none }) (v := ?_) rfl (by kernel_rfl) (by kernel_rfl) (by kernel_rfl) (fun _ _ _ h => h) (Or.inl ⟨by rfl, ?_⟩) g1 ?_
            rotate_left
            · intro w9 hSw
              try dsimp only at hSw
              go_simp
              try with_reducible rfl
            try simp only [Act.put, List.setIfInBounds_toArray, List.set_cons_zero, List.set_cons_succ]
            refine wpAnyH_done (by kernel_rfl) ?_ _
            have KA := Lib.hid g1
            clear g1 c10 c11 d0 d1 c20 c21 f0 f1 f2 f3 HB
            obtain ⟨c10, c11, d0, d1, c20, c21, f0, f1, -, -, f2, f3, HB0⟩ := KA.out
            have HB := Lib.hid HB0
            clear HB0 KA
            generalize z1 = y3 at *
            go_wp2_with fail
            refine (rfull_to b.hi q (by omega) (by omega) HQ.out _).mono ?_
            rintro e w' ⟨rfl, rfl⟩
            go_wp2_with fail
            replace c20 := (World.cell?_setCell_other y3 ⟨t1.heap.size, 1, none⟩ ⟨w.heap.size + 1 + 1, 0, none⟩ (.int .u64 q) (fun e => by injection e with e1 _ _; omega)).trans c20
            replace c21 := (World.cell?_setCell_other y3 ⟨t1.heap.size, 1, none⟩ ⟨w.heap.size + 1 + 1, 1, none⟩ (.int .u64 q) (fun e => by injection e with e1 _ _; omega)).trans c21
            replace HB := Lib.hid (HB.out.setCell (p := ⟨t1.heap.size, 1, none⟩) (show w.heap.size ≤ t1.heap.size by omega) (.int .u64 q))
            have r0 : ∀ u v, (((y3.setCell ⟨t1.heap.size, 1, none⟩ (.int .u64 q)).setCell ⟨w.heap.size + 1 + 1, 0, none⟩ u).setCell ⟨w.heap.size + 1 + 1, 1, none⟩ v).cell? ⟨w.heap.size + 1 + 1, 0, none⟩ = some u := fun u v => set_fst c20
            have r1 : ∀ u v, (((y3.setCell ⟨t1.heap.size, 1, none⟩ (.int .u64 q)).setCell ⟨w.heap.size + 1 + 1, 0, none⟩ u).setCell ⟨w.heap.size + 1 + 1, 1, none⟩ v).cell? ⟨w.heap.size + 1 + 1, 1, none⟩ = some v := fun u v => set_snd c21
            refine bodyPost_ret (by simp [results, Try.results34, r0, r1, go_sem]; try rfl) rfl ?_
            exact ⟨rt_u (by omega) (by omega), below_st2 HB.out (by omega)⟩
          · go_simp
            refine hK.out _ _ ?_ (fun g1 => ?_)
            · exact keepr4 (alB _ _) hHeld
            clear hK K hHeld
            try simp only [Act.put, List.setIfInBounds_toArray, List.set_cons_zero, List.set_cons_succ]
            obtain ⟨n0, n1, n2, n3⟩ := new_two (w := z0) (t := 24) (x := .int .u64 0) (y := .int .u64 0)
            refine wpAnyH_ready (rs := [4]) (by kernel_rfl) (by simp) ?_
            refine AllReadyH.cons (o := { dst := some 22, op := Op.call { callee := Callee.value (Operand.func 86), args := #[Operand.tmp 21], argTypes := #[22] }, type := 22, pos := "ref.go:120", after := #[{ on := 3, ground := Ground.data }], guard := none }) rfl (fun K hK => ?_) AllReadyH.nil
            go_simp
            (go_at_call 86; with_reducible refine (rfull_b a.hi p (by omega) (by omega) HP.out _).mono ?_; rintro e t1 ⟨rfl, qb⟩)
            refine hK.out _ _ ?_ (fun g2 => ?_)
            · exact keepr4 qb g1
            replace n2 := keepf qb (World.block_lt_of_cell? _ _ n0) n2
            replace n3 := keepf qb (World.block_lt_of_cell? _ _ n1) n3
            replace n0 := keep1 qb n0
            replace n1 := keep1 qb n1
            clear hK K qb g1
            try simp only [Act.put, List.setIfInBounds_toArray, List.set_cons_zero, List.set_cons_succ]
            refine wpAnyH_take (i := 5) (oi := { dst := some 23, op := Op.build 24 #[(0, Operand.tmp 19), (1, Operand.tmp 22)], type := 24, pos := "ref.go:120", after := #[{ on := 1, ground := Ground.data }, { on := 4, ground := Ground.data }], guard := none }) (v := ?_) rfl (by kernel_rfl) (by kernel_rfl) (by kernel_rfl) (fun _ _ _ h => h) (Or.inl ⟨by rfl, ?_⟩) g2 ?_
            rotate_left
            · intro w9 hSw
              try dsimp only at hSw
              go_simp
              try with_reducible rfl
            try simp only [Act.put, List.setIfInBounds_toArray, List.set_cons_zero, List.set_cons_succ]
            refine wpAnyH_ready (rs := [7]) (by kernel_rfl) (by simp) ?_
            refine AllReadyH.cons (o := { dst := none, op := Op.store 24 (Operand.tmp 5) (Operand.tmp 23), type := 0, pos := "ref.go:120", after := #[{ on := 6, ground := Ground.data }, { on := 5, ground := Ground.data }, { on := 4, ground := Ground.chain }, { on := 0, ground := Ground.phase }, { on := 1, ground := Ground.phase }, { on := 2, ground := Ground.phase }, { on := 3, ground := Ground.phase }, { on := 4, ground := Ground.phase }, { on := 5, ground := Ground.phase }, { on := 6, ground := Ground.phase }], guard := none }) rfl (fun K hK => ?_) AllReadyH.nil
            go_simp
            refine hK.out _ _ ?_ (fun g9 => ?_)
            · exact farr4 (by omega) (by omega) (by omega) (by omega) g2
            clear hK K
            try simp only [Act.put, List.setIfInBounds_toArray, List.set_cons_zero, List.set_cons_succ]
            refine wpAnyH_done (by kernel_rfl) ?_ _
            have D0 := Lib.hid (set_fst (u := .int .u64 a.lo) (v := .int .u64 p) n0)
            have D1 := Lib.hid (set_snd (u := .int .u64 a.lo) (v := .int .u64 p) n1)
            have D2 := Lib.hid ((fz2 t1 (z0.heap.size) (.int .u64 a.lo) (.int .u64 p)).trans n2)
            have D3 := Lib.hid ((fz2 t1 (z0.heap.size) (.int .u64 a.lo) (.int .u64 p)).trans n3)
            have KA := Lib.hid g9
            clear g9 g2 n0 n1 n2 n3
            generalize ((t1.setCell ⟨z0.heap.size, 0, none⟩ (.int .u64 a.lo)).setCell ⟨z0.heap.size, 1, none⟩ (.int .u64 p)) = y1 at *
            obtain ⟨-, -, c10, c11, c20, c21, f0, f1, HB0⟩ := KA.out
            have HB := Lib.hid HB0
            clear HB0 KA
            have d0 := D0.out
            have d1 := D1.out
            have f2 := D2.out
            have f3 := D3.out
            clear D0 D1 D2 D3
            go_wp2_with fail
            refine wp_region_held_drew (S := fun w' => w'.cell? ⟨w.heap.size + 1, 0, none⟩ = some (.int .u64 b.lo) ∧ w'.cell? ⟨w.heap.size + 1, 1, none⟩ = some (.int .u64 b.hi) ∧ w'.cell? ⟨z0.heap.size, 0, none⟩ = some (.int .u64 a.lo) ∧ w'.cell? ⟨z0.heap.size, 1, none⟩ = some (.int .u64 p) ∧ w'.cell? ⟨w.heap.size + 1 + 1, 0, none⟩ = some (cv w' (w.heap.size + 1 + 1) 0) ∧ w'.cell? ⟨w.heap.size + 1 + 1, 1, none⟩ = some (cv w' (w.heap.size + 1 + 1) 1) ∧ w'.frozen? ⟨w.heap.size + 1 + 1, 0, none⟩ = false ∧ w'.frozen? ⟨w.heap.size + 1 + 1, 1, none⟩ = false ∧ w'.cell? ⟨z0.heap.size, 0, none⟩ = some (cv w' (z0.heap.size) 0) ∧ w'.cell? ⟨z0.heap.size, 1, none⟩ = some (cv w' (z0.heap.size) 1) ∧ w'.frozen? ⟨z0.heap.size, 0, none⟩ = false ∧ w'.frozen? ⟨z0.heap.size, 1, none⟩ = false ∧ Below w.heap.size w w') (by kernel_rfl) ?_ (fun hHeld => ?_)
            · exact ⟨c10, c11, d0, d1, cv_some c20, cv_some c21, f0, f1, cv_some d0, cv_some d1, f2, f3, HB.out.drew⟩
            refine wpAnyH_take (i := 0) (oi := { dst := some 32, op := Op.fieldAddr 24 (Operand.tmp 3) 1, type := 0, pos := "ref.go:124", after := #[], guard := none }) (v := ?_) rfl (by kernel_rfl) (by kernel_rfl) (by kernel_rfl) (fun _ _ _ h => h) (Or.inl ⟨by rfl, ?_⟩) hHeld ?_
            rotate_left
            · intro w9 hSw
              try dsimp only at hSw
              go_simp
              try with_reducible rfl
            try simp only [Act.put, List.setIfInBounds_toArray, List.set_cons_zero, List.set_cons_succ]
            refine wpAnyH_take (i := 1) (oi := { dst := some 33, op := Op.load 22 (Operand.tmp 32), type := 22, pos := "ref.go:124", after := #[{ on := 0, ground := Ground.data }], guard := none }) (v := ?_) rfl (by kernel_rfl) (by kernel_rfl) (by kernel_rfl) (fun _ _ _ h => h) (Or.inl ⟨by rfl, ?_⟩) hHeld ?_
            rotate_left
            · intro w9 hSw
              try dsimp only at hSw
              go_simp
              try with_reducible rfl
            try simp only [Act.put, List.setIfInBounds_toArray, List.set_cons_zero, List.set_cons_succ]
            refine wpAnyH_take (i := 3) (oi := { dst := some 35, op := Op.fieldAddr 24 (Operand.tmp 5) 1, type := 0, pos := "ref.go:124", after := #[], guard := none }) (v := ?_) rfl (by kernel_rfl) (by kernel_rfl) (by kernel_rfl) (fun _ _ _ h => h) (Or.inl ⟨by rfl, ?_⟩) hHeld ?_
            rotate_left
            · intro w9 hSw
              try dsimp only at hSw
              go_simp
              try with_reducible rfl
            try simp only [Act.put, List.setIfInBounds_toArray, List.set_cons_zero, List.set_cons_succ]
            refine wpAnyH_take (i := 4) (oi := { dst := some 36, op := Op.load 22 (Operand.tmp 35), type := 22, pos := "ref.go:124", after := #[{ on := 3, ground := Ground.data }], guard := none }) (v := ?_) rfl (by kernel_rfl) (by kernel_rfl) (by kernel_rfl) (fun _ _ _ h => h) (Or.inl ⟨by rfl, ?_⟩) hHeld ?_
            rotate_left
            · intro w9 hSw
              try dsimp only at hSw
              go_simp
              try with_reducible rfl
            try simp only [Act.put, List.setIfInBounds_toArray, List.set_cons_zero, List.set_cons_succ]
            refine wpAnyH_ready (rs := [2]) (by kernel_rfl) (by simp) ?_
            refine AllReadyH.cons (o := { dst := some 34, op := Op.call { callee := Callee.value (Operand.func 86), args := #[Operand.tmp 33], argTypes := #[22] }, type := 22, pos := "ref.go:124", after := #[{ on := 1, ground := Ground.data }], guard := none }) rfl (fun K hK => ?_) AllReadyH.nil
            go_simp
            (go_at_call 86; with_reducible refine (rfull_b b.hi q (by omega) (by omega) HQ.out _).mono ?_; rintro e z1 ⟨rfl, qb⟩)
            refine hK.out _ _ ?_ (fun g1 => ?_)
            · exact two_keep qb hHeld
            clear hK K qb
            skip
            try simp only [Act.put, List.setIfInBounds_toArray, List.set_cons_zero, List.set_cons_succ]
            refine wpAnyH_take (i := 5) (oi := { dst := some 37, op := Op.binOp BinOp.gtr 22 (Operand.tmp 34) (Operand.tmp 36) 22, type := 4, pos := "ref.go:124", after := #[{ on := 2, ground := Ground.data }, { on := 4, ground := Ground.data }], guard := none }) (v := ?_) rfl (by kernel_rfl) (by kernel_rfl) (by kernel_rfl) (fun _ _ _ h => h) (Or.inl ⟨by rfl, ?_⟩) g1 ?_
            rotate_left
            · intro w9 hSw
              try dsimp only at hSw
              go_simp
              try with_reducible rfl
            try simp only [Act.put, List.setIfInBounds_toArray, List.set_cons_zero, List.set_cons_succ]
            refine wpAnyH_done (by kernel_rfl) ?_ _
            have KA := Lib.hid g1
            clear g1 c10 c11 d0 d1 c20 c21 f0 f1 f2 f3 HB
            obtain ⟨c10, c11, d0, d1, c20, c21, f0, f1, -, -, f2, f3, HB0⟩ := KA.out
            have HB := Lib.hid HB0
            clear HB0 KA
            generalize z1 = y3 at *
            go_wp2_with fail
            refine (rfull_to b.hi q (by omega) (by omega) HQ.out _).mono ?_
            rintro e w' ⟨rfl, rfl⟩
            go_wp2_with fail
            replace c20 := (World.cell?_setCell_other y3 ⟨z0.heap.size, 1, none⟩ ⟨w.heap.size + 1 + 1, 0, none⟩ (.int .u64 q) (fun e => by injection e with e1 _ _; omega)).trans c20
            replace c21 := (World.cell?_setCell_other y3 ⟨z0.heap.size, 1, none⟩ ⟨w.heap.size + 1 + 1, 1, none⟩ (.int .u64 q) (fun e => by injection e with e1 _ _; omega)).trans c21
            replace HB := Lib.hid (HB.out.setCell (p := ⟨z0.heap.size, 1, none⟩) (show w.heap.size ≤ z0.heap.size by omega) (.int .u64 q))
            have r0 : ∀ u v, (((y3.setCell ⟨z0.heap.size, 1, none⟩ (.int .u64 q)).setCell ⟨w.heap.size + 1 + 1, 0, none⟩ u).setCell ⟨w.heap.size + 1 + 1, 1, none⟩ v).cell? ⟨w.heap.size + 1 + 1, 0, none⟩ = some u := fun u v => set_fst c20
            have r1 : ∀ u v, (((y3.setCell ⟨z0.heap.size, 1, none⟩ (.int .u64 q)).setCell ⟨w.heap.size + 1 + 1, 0, none⟩ u).setCell ⟨w.heap.size + 1 + 1, 1, none⟩ v).cell? ⟨w.heap.size + 1 + 1, 1, none⟩ = some v := fun u v => set_snd c21
            refine bodyPost_ret (by simp [results, Try.results34, r0, r1, go_sem]; try rfl) rfl ?_
            exact ⟨rt_u (by omega) (by omega), below_st2 HB.out (by omega)⟩
        · skip
          refine wp_region_held_drew (S := fun w' => w'.cell? ⟨w.heap.size, 0, none⟩ = some (.int .u64 a.lo) ∧ w'.cell? ⟨w.heap.size, 1, none⟩ = some (.int .u64 a.hi) ∧ w'.cell? ⟨w.heap.size + 1, 0, none⟩ = some (.int .u64 b.lo) ∧ w'.cell? ⟨w.heap.size + 1, 1, none⟩ = some (.int .u64 b.hi) ∧ w'.cell? ⟨w.heap.size + 1 + 1, 0, none⟩ = some (cv w' (w.heap.size + 1 + 1) 0) ∧ w'.cell? ⟨w.heap.size + 1 + 1, 1, none⟩ = some (cv w' (w.heap.size + 1 + 1) 1) ∧ w'.frozen? ⟨w.heap.size + 1 + 1, 0, none⟩ = false ∧ w'.frozen? ⟨w.heap.size + 1 + 1, 1, none⟩ = false ∧ Below w.heap.size w w') (by kernel_rfl) ?_ (fun hHeld => ?_)
          · exact ⟨c00, c01, c10, c11, cv_some c20, cv_some c21, f0, f1, HB.out.drew⟩
          generalize w2.drew = z0 at *
          refine wpAnyH_take (i := 0) (oi := { dst := some 18, op := Op.fieldAddr 24 (Operand.tmp 2) 0, type := 0, pos := "ref.go:120", after := #[], guard := none }) (v := ?_) rfl (by kernel_rfl) (by kernel_rfl) (by kernel_rfl) (fun _ _ _ h => h) (Or.inl ⟨by rfl, ?_⟩) hHeld ?_
          rotate_left
          · intro w9 hSw
            try dsimp only at hSw
            go_simp
            try with_reducible rfl
          try simp only [Act.put, List.setIfInBounds_toArray, List.set_cons_zero, List.set_cons_succ]
          refine wpAnyH_take (i := 1) (oi := { dst := some 19, op := Op.load 22 (Operand.tmp 18), type := 22, pos := "ref.go:120", after := #[{ on := 0, ground := Ground.data }], guard := none }) (v := ?_) rfl (by kernel_rfl) (by kernel_rfl) (by kernel_rfl) (fun _ _ _ h => h) (Or.inl ⟨by rfl, ?_⟩) hHeld ?_
          rotate_left
          · intro w9 hSw
            try dsimp only at hSw
            go_simp
            try with_reducible rfl
          try simp only [Act.put, List.setIfInBounds_toArray, List.set_cons_zero, List.set_cons_succ]
          refine wpAnyH_take (i := 2) (oi := { dst := some 20, op := Op.fieldAddr 24 (Operand.tmp 2) 1, type := 0, pos := "ref.go:120", after := #[], guard := none }) (v := ?_) rfl (by kernel_rfl) (by kernel_rfl) (by kernel_rfl) (fun _ _ _ h => h) (Or.inl ⟨by rfl, ?_⟩) hHeld ?_
          rotate_left
          · intro w9 hSw
            try dsimp only at hSw
            go_simp
            try with_reducible rfl
          try simp only [Act.put, List.setIfInBounds_toArray, List.set_cons_zero, List.set_cons_succ]
          refine wpAnyH_take (i := 3) (oi := { dst := some 21, op := Op.load 22 (Operand.tmp 20), type := 22, pos := "ref.go:120", after := #[{ on := 2, ground := Ground.data }], guard := none }) (v := ?_) rfl (by kernel_rfl) (by kernel_rfl) (by kernel_rfl) (fun _ _ _ h => h) (Or.inl ⟨by rfl, ?_⟩) hHeld ?_
          rotate_left
          · intro w9 hSw
            try dsimp only at hSw
            go_simp
            try with_reducible rfl
          try simp only [Act.put, List.setIfInBounds_toArray, List.set_cons_zero, List.set_cons_succ]
          clear c00 c01 c10 c11 c20 c21 f0 f1 HB
          have hsz := World.block_lt_of_cell? _ _ hHeld.1
          have hsz1 := World.block_lt_of_cell? _ _ hHeld.2.2.1
          have hsz2 := World.block_lt_of_cell? _ _ hHeld.2.2.2.2.1
          dsimp only at hsz hsz1 hsz2
          refine wpAnyH_ready (rs := [4, 6]) (by kernel_rfl) (by simp) ?_
          refine AllReadyH.cons (o := { dst := some 22, op := Op.call { callee := Callee.value (Operand.func 86), args := #[Operand.tmp 21], argTypes := #[22] }, type := 22, pos := "ref.go:120", after := #[{ on := 3, ground := Ground.data }], guard := none }) rfl (fun K hK => ?_) (AllReadyH.cons (o := { dst := some 5, op := Op.alloc 24, type := 0, pos := "ref.go:120", after := #[], guard := none }) rfl (fun K hK => ?_) AllReadyH.nil)
          · go_simp
            (go_at_call 86; with_reducible refine (rfull_b a.hi p (by omega) (by omega) HP.out _).mono ?_; rintro e t1 ⟨rfl, qb⟩)
            have hs1 := qb.size
            refine hK.out _ _ ?_ (fun g1 => ?_)
            · exact keepr4 qb hHeld
            clear hK K qb hHeld
            try simp only [Act.put, List.setIfInBounds_toArray, List.set_cons_zero, List.set_cons_succ]
            refine wpAnyH_take (i := 5) (oi := { dst := some 23, op := Op.build 24 #[(0, Operand.tmp 19), (1, Operand.tmp 22)], type := 24, pos := "ref.go:120", after := #[{ on := 1, ground := Ground.data }, { on := 4, ground := Ground.data }], guard := none }) (v := ?_) rfl (by kernel_rfl) (by kernel_rfl) (by kernel_rfl) (fun _ _ _ h => h) (Or.inl ⟨by rfl, ?_⟩) g1 ?_
            rotate_left
            · intro w9 hSw
              try dsimp only at hSw
              go_simp
              try with_reducible rfl
            try simp only [Act.put, List.setIfInBounds_toArray, List.set_cons_zero, List.set_cons_succ]
            refine wpAnyH_ready (rs := [6]) (by kernel_rfl) (by simp) ?_
            refine AllReadyH.cons (o := { dst := some 5, op := Op.alloc 24, type := 0, pos := "ref.go:120", after := #[], guard := none }) rfl (fun K hK => ?_) AllReadyH.nil
            go_simp
            refine hK.out _ _ ?_ (fun g2 => ?_)
            · exact keepr4 (alB _ _) g1
            clear hK K g2
            try simp only [Act.put, List.setIfInBounds_toArray, List.set_cons_zero, List.set_cons_succ]
            refine wpAnyH_ready (rs := [7]) (by kernel_rfl) (by simp) ?_
            refine AllReadyH.cons (o := { dst := none, op := Op.store 24 (Operand.tmp 5) (Operand.tmp 23), type := 0, pos := "ref.go:120", after := #[{ on := 6, ground := Ground.data }, { on := 5, ground := Ground.data }, { on := 4, ground := Ground.chain }, { on := 0, ground := Ground.phase }, { on := 1, ground := Ground.phase }, { on := 2, ground := Ground.phase }, { on := 3, ground := Ground.phase }, { on := 4, ground := Ground.phase }, { on := 5, ground := Ground.phase }, { on := 6, ground := Ground.phase }], guard := none }) rfl (fun K hK => ?_) AllReadyH.nil
            go_simp
            refine hK.out _ _ ?_ (fun g9 => ?_)
            · exact keepr4 (alB _ _) g1
            clear hK K
            try simp only [Act.put, List.setIfInBounds_toArray, List.set_cons_zero, List.set_cons_succ]
            refine wpAnyH_done (by kernel_rfl) ?_ _
            obtain ⟨n0, n1, n2, n3⟩ := new_two (w := t1) (t := 24) (x := .int .u64 a.lo) (y := .int .u64 p)
            have D0 := Lib.hid n0
            have D1 := Lib.hid n1
            have D2 := Lib.hid n2
            have D3 := Lib.hid n3
            have KA := Lib.hid g9
            clear g9 g1 n0 n1 n2 n3
            generalize (t1.alloc (.cells #[.int .u64 a.lo, .int .u64 p] 24)) = y1 at *
            obtain ⟨-, -, c10, c11, c20, c21, f0, f1, HB0⟩ := KA.out
            have HB := Lib.hid HB0
            clear HB0 KA
            have d0 := D0.out
            have d1 := D1.out
            have f2 := D2.out
            have f3 := D3.out
            clear D0 D1 D2 D3
            go_wp2_with fail
            refine wp_region_held_drew (S := fun w' => w'.cell? ⟨w.heap.size + 1, 0, none⟩ = some (.int .u64 b.lo) ∧ w'.cell? ⟨w.heap.size + 1, 1, none⟩ = some (.int .u64 b.hi) ∧ w'.cell? ⟨t1.heap.size, 0, none⟩ = some (.int .u64 a.lo) ∧ w'.cell? ⟨t1.heap.size, 1, none⟩ = some (.int .u64 p) ∧ w'.cell? ⟨w.heap.size + 1 + 1, 0, none⟩ = some (cv w' (w.heap.size + 1 + 1) 0) ∧ w'.cell? ⟨w.heap.size + 1 + 1, 1, none⟩ = some (cv w' (w.heap.size + 1 + 1) 1) ∧ w'.frozen? ⟨w.heap.size + 1 + 1, 0, none⟩ = false ∧ w'.frozen? ⟨w.heap.size + 1 + 1, 1, none⟩ = false ∧ w'.cell? ⟨t1.heap.size, 0, none⟩ = some (cv w' (t1.heap.size) 0) ∧ w'.cell? ⟨t1.heap.size, 1, none⟩ = some (cv w' (t1.heap.size) 1) ∧ w'.frozen? ⟨t1.heap.size, 0, none⟩ = false ∧ w'.frozen? ⟨t1.heap.size, 1, none⟩ = false ∧ Below w.heap.size w w') (by kernel_rfl) ?_ (fun hHeld => ?_)
            · exact ⟨c10, c11, d0, d1, cv_some c20, cv_some c21, f0, f1, cv_some d0, cv_some d1, f2, f3, HB.out.drew⟩
            refine wpAnyH_take (i := 0) (oi := { dst := some 32, op := Op.fieldAddr 24 (Operand.tmp 3) 1, type := 0, pos := "ref.go:124", after := #[], guard := none }) (v := ?_) rfl (by kernel_rfl) (by kernel_rfl) (by kernel_rfl) (fun _ _ _ h => h) (Or.inl ⟨by rfl, ?_⟩) hHeld ?_
            rotate_left
            · intro w9 hSw
              try dsimp only at hSw
              go_simp
              try with_reducible rfl
            try simp only [Act.put, List.setIfInBounds_toArray, List.set_cons_zero, List.set_cons_succ]
            refine wpAnyH_take (i := 1) (oi := { dst := some 33, op := Op.load 22 (Operand.tmp 32), type := 22, pos := "ref.go:124", after := #[{ on := 0, ground := Ground.data }], guard := none }) (v := ?_) rfl (by kernel_rfl) (by kernel_rfl) (by kernel_rfl) (fun _ _ _ h => h) (Or.inl ⟨by rfl, ?_⟩) hHeld ?_
            rotate_left
            · intro w9 hSw
              try dsimp only at hSw
              go_simp
              try with_reducible rfl
            try simp only [Act.put, List.setIfInBounds_toArray, List.set_cons_zero, List.set_cons_succ]
            refine wpAnyH_take (i := 3) (oi := { dst := some 35, op := Op.fieldAddr 24 (Operand.tmp 5) 1, type := 0, pos := "ref.go:124", after := #[], guard := none }) (v := ?_) rfl (by kernel_rfl) (by kernel_rfl) (by kernel_rfl) (fun _ _ _ h => h) (Or.inl ⟨by rfl, ?_⟩) hHeld ?_
            rotate_left
            · intro w9 hSw
              try dsimp only at hSw
              go_simp
              try with_reducible rfl
            try simp only [Act.put, List.setIfInBounds_toArray, List.set_cons_zero, List.set_cons_succ]
            refine wpAnyH_take (i := 4) (oi := { dst := some 36, op := Op.load 22 (Operand.tmp 35), type := 22, pos := "ref.go:124", after := #[{ on := 3, ground := Ground.data }], guard := none }) (v := ?_) rfl (by kernel_rfl) (by kernel_rfl) (by kernel_rfl) (fun _ _ _ h => h) (Or.inl ⟨by rfl, ?_⟩) hHeld ?_
            rotate_left
            · intro w9 hSw
              try dsimp only at hSw
              go_simp
              try with_reducible rfl
            try simp only [Act.put, List.setIfInBounds_toArray, List.set_cons_zero, List.set_cons_succ]
            refine wpAnyH_ready (rs := [2]) (by kernel_rfl) (by simp) ?_
            refine AllReadyH.cons (o := { dst := some 34, op := Op.call { callee := Callee.value (Operand.func 86), args := #[Operand.tmp 33], argTypes := #[22] }, type := 22, pos := "ref.go:124", after := #[{ on := 1, ground := Ground.data }], guard := none }) rfl (fun K hK => ?_) AllReadyH.nil
            go_simp
            (go_at_call 86; with_reducible refine (rfull_b b.hi q (by omega) (by omega) HQ.out _).mono ?_; rintro e z1 ⟨rfl, qb⟩)
            refine hK.out _ _ ?_ (fun g1 => ?_)
            · exact two_keep qb hHeld
            clear hK K qb
            skip
            try simp only [Act.put, List.setIfInBounds_toArray, List.set_cons_zero, List.set_cons_succ]
            refine wpAnyH_take (i := 5) (oi := { dst := some 37, op := Op.binOp BinOp.gtr 22 (Operand.tmp 34) (Operand.tmp 36) 22, type := 4, pos := "ref.go:124", after := #[{ on := 2, ground := Ground.data }, { on := 4, ground := Ground.data }], guard := none }) (v := ?_) rfl (by kernel_rfl) (by kernel_rfl) (by kernel_rfl) (fun _ _ _ h => h) (Or.inl ⟨by rfl, ?_⟩) g1 ?_
            rotate_left
            · intro w9 hSw
              try dsimp only at hSw
              go_simp
              try with_reducible rfl
            try simp only [Act.put, List.setIfInBounds_toArray, List.set_cons_zero, List.set_cons_succ]
            refine wpAnyH_done (by kernel_rfl) ?_ _
            have KA := Lib.hid g1
            clear g1 c10 c11 d0 d1 c20 c21 f0 f1 f2 f3 HB
            obtain ⟨c10, c11, d0, d1, c20, c21, f0, f1, -, -, f2, f3, HB0⟩ := KA.out
            have HB := Lib.hid HB0
            clear HB0 KA
            generalize z1 = y3 at *
            go_wp2_with fail
            have r0 : ∀ u v, ((y3.setCell ⟨w.heap.size + 1 + 1, 0, none⟩ u).setCell ⟨w.heap.size + 1 + 1, 1, none⟩ v).cell? ⟨w.heap.size + 1 + 1, 0, none⟩ = some u := fun u v => set_fst c20
            have r1 : ∀ u v, ((y3.setCell ⟨w.heap.size + 1 + 1, 0, none⟩ u).setCell ⟨w.heap.size + 1 + 1, 1, none⟩ v).cell? ⟨w.heap.size + 1 + 1, 1, none⟩ = some v := fun u v => set_snd c21
            refine bodyPost_ret (by simp [results, Try.results34, r0, r1, go_sem]; try rfl) rfl ?_
            exact ⟨rt_u (by omega) (by omega), below_st2 HB.out (by omega)⟩
          · go_simp
            refine hK.out _ _ ?_ (fun g1 => ?_)
            · exact keepr4 (alB _ _) hHeld
            clear hK K hHeld
            try simp only [Act.put, List.setIfInBounds_toArray, List.set_cons_zero, List.set_cons_succ]
            obtain ⟨n0, n1, n2, n3⟩ := new_two (w := z0) (t := 24) (x := .int .u64 0) (y := .int .u64 0)
            refine wpAnyH_ready (rs := [4]) (by kernel_rfl) (by simp) ?_
            refine AllReadyH.cons (o := { dst := some 22, op := Op.call { callee := Callee.value (Operand.func 86), args := #[Operand.tmp 21], argTypes := #[22] }, type := 22, pos := "ref.go:120", after := #[{ on := 3, ground := Ground.data }], guard := none }) rfl (fun K hK => ?_) AllReadyH.nil
            go_simp
            (go_at_call 86; with_reducible refine (rfull_b a.hi p (by omega) (by omega) HP.out _).mono ?_; rintro e t1 ⟨rfl, qb⟩)
            refine hK.out _ _ ?_ (fun g2 => ?_)
            · exact keepr4 qb g1
            replace n2 := keepf qb (World.block_lt_of_cell? _ _ n0) n2
            replace n3 := keepf qb (World.block_lt_of_cell? _ _ n1) n3
            replace n0 := keep1 qb n0
            replace n1 := keep1 qb n1
            clear hK K qb g1
            try simp only [Act.put, List.setIfInBounds_toArray, List.set_cons_zero, List.set_cons_succ]
            refine wpAnyH_take (i := 5) (oi := { dst := some 23, op := Op.build 24 #[(0, Operand.tmp 19), (1, Operand.tmp 22)], type := 24, pos := "ref.go:120", after := #[{ on := 1, ground := Ground.data }, { on := 4, ground := Ground.data }], guard := none }) (v := ?_) rfl (by kernel_rfl) (by kernel_rfl) (by kernel_rfl) (fun _ _ _ h => h) (Or.inl ⟨by rfl, ?_⟩) g2 ?_
            rotate_left
            · intro w9 hSw
              try dsimp only at hSw
              go_simp
              try with_reducible rfl
            try simp only [Act.put, List.setIfInBounds_toArray, List.set_cons_zero, List.set_cons_succ]
            refine wpAnyH_ready (rs := [7]) (by kernel_rfl) (by simp) ?_
            refine AllReadyH.cons (o := { dst := none, op := Op.store 24 (Operand.tmp 5) (Operand.tmp 23), type := 0, pos := "ref.go:120", after := #[{ on := 6, ground := Ground.data }, { on := 5, ground := Ground.data }, { on := 4, ground := Ground.chain }, { on := 0, ground := Ground.phase }, { on := 1, ground := Ground.phase }, { on := 2, ground := Ground.phase }, { on := 3, ground := Ground.phase }, { on := 4, ground := Ground.phase }, { on := 5, ground := Ground.phase }, { on := 6, ground := Ground.phase }], guard := none }) rfl (fun K hK => ?_) AllReadyH.nil
            go_simp
            refine hK.out _ _ ?_ (fun g9 => ?_)
            · exact farr4 (by omega) (by omega) (by omega) (by omega) g2
            clear hK K
            try simp only [Act.put, List.setIfInBounds_toArray, List.set_cons_zero, List.set_cons_succ]
            refine wpAnyH_done (by kernel_rfl) ?_ _
            have D0 := Lib.hid (set_fst (u := .int .u64 a.lo) (v := .int .u64 p) n0)
            have D1 := Lib.hid (set_snd (u := .int .u64 a.lo) (v := .int .u64 p) n1)
            have D2 := Lib.hid ((fz2 t1 (z0.heap.size) (.int .u64 a.lo) (.int .u64 p)).trans n2)
            have D3 := Lib.hid ((fz2 t1 (z0.heap.size) (.int .u64 a.lo) (.int .u64 p)).trans n3)
            have KA := Lib.hid g9
            clear g9 g2 n0 n1 n2 n3
            generalize ((t1.setCell ⟨z0.heap.size, 0, none⟩ (.int .u64 a.lo)).setCell ⟨z0.heap.size, 1, none⟩ (.int .u64 p)) = y1 at *
            obtain ⟨-, -, c10, c11, c20, c21, f0, f1, HB0⟩ := KA.out
            have HB := Lib.hid HB0
            clear HB0 KA
            have d0 := D0.out
            have d1 := D1.out
            have f2 := D2.out
            have f3 := D3.out
            clear D0 D1 D2 D3
            go_wp2_with fail
            refine wp_region_held_drew (S := fun w' => w'.cell? ⟨w.heap.size + 1, 0, none⟩ = some (.int .u64 b.lo) ∧ w'.cell? ⟨w.heap.size + 1, 1, none⟩ = some (.int .u64 b.hi) ∧ w'.cell? ⟨z0.heap.size, 0, none⟩ = some (.int .u64 a.lo) ∧ w'.cell? ⟨z0.heap.size, 1, none⟩ = some (.int .u64 p) ∧ w'.cell? ⟨w.heap.size + 1 + 1, 0, none⟩ = some (cv w' (w.heap.size + 1 + 1) 0) ∧ w'.cell? ⟨w.heap.size + 1 + 1, 1, none⟩ = some (cv w' (w.heap.size + 1 + 1) 1) ∧ w'.frozen? ⟨w.heap.size + 1 + 1, 0, none⟩ = false ∧ w'.frozen? ⟨w.heap.size + 1 + 1, 1, none⟩ = false ∧ w'.cell? ⟨z0.heap.size, 0, none⟩ = some (cv w' (z0.heap.size) 0) ∧ w'.cell? ⟨z0.heap.size, 1, none⟩ = some (cv w' (z0.heap.size) 1) ∧ w'.frozen? ⟨z0.heap.size, 0, none⟩ = false ∧ w'.frozen? ⟨z0.heap.size, 1, none⟩ = false ∧ Below w.heap.size w w') (by kernel_rfl) ?_ (fun hHeld => ?_)
            · exact ⟨c10, c11, d0, d1, cv_some c20, cv_some c21, f0, f1, cv_some d0, cv_some d1, f2, f3, HB.out.drew⟩
            refine wpAnyH_take (i := 0) (oi := { dst := some 32, op := Op.fieldAddr 24 (Operand.tmp 3) 1, type := 0, pos := "ref.go:124", after := #[], guard := none }) (v := ?_) rfl (by kernel_rfl) (by kernel_rfl) (by kernel_rfl) (fun _ _ _ h => h) (Or.inl ⟨by rfl, ?_⟩) hHeld ?_
            rotate_left
            · intro w9 hSw
              try dsimp only at hSw
              go_simp
              try with_reducible rfl
            try simp only [Act.put, List.setIfInBounds_toArray, List.set_cons_zero, List.set_cons_succ]
            refine wpAnyH_take (i := 1) (oi := { dst := some 33, op := Op.load 22 (Operand.tmp 32), type := 22, pos := "ref.go:124", after := #[{ on := 0, ground := Ground.data }], guard := none }) (v := ?_) rfl (by kernel_rfl) (by kernel_rfl) (by kernel_rfl) (fun _ _ _ h => h) (Or.inl ⟨by rfl, ?_⟩) hHeld ?_
            rotate_left
            · intro w9 hSw
              try dsimp only at hSw
              go_simp
              try with_reducible rfl
            try simp only [Act.put, List.setIfInBounds_toArray, List.set_cons_zero, List.set_cons_succ]
            refine wpAnyH_take (i := 3) (oi := { dst := some 35, op := Op.fieldAddr 24 (Operand.tmp 5) 1, type := 0, pos := "ref.go:124", after := #[], guard := none }) (v := ?_) rfl (by kernel_rfl) (by kernel_rfl) (by kernel_rfl) (fun _ _ _ h => h) (Or.inl ⟨by rfl, ?_⟩) hHeld ?_
            rotate_left
            · intro w9 hSw
              try dsimp only at hSw
              go_simp
              try with_reducible rfl
            try simp only [Act.put, List.setIfInBounds_toArray, List.set_cons_zero, List.set_cons_succ]
            refine wpAnyH_take (i := 4) (oi := { dst := some 36, op := Op.load 22 (Operand.tmp 35), type := 22, pos := "ref.go:124", after := #[{ on := 3, ground := Ground.data }], guard := none }) (v := ?_) rfl (by kernel_rfl) (by kernel_rfl) (by kernel_rfl) (fun _ _ _ h => h) (Or.inl ⟨by rfl, ?_⟩) hHeld ?_
            rotate_left
            · intro w9 hSw
              try dsimp only at hSw
              go_simp
              try with_reducible rfl
            try simp only [Act.put, List.setIfInBounds_toArray, List.set_cons_zero, List.set_cons_succ]
            refine wpAnyH_ready (rs := [2]) (by kernel_rfl) (by simp) ?_
            refine AllReadyH.cons (o := { dst := some 34, op := Op.call { callee := Callee.value (Operand.func 86), args := #[Operand.tmp 33], argTypes := #[22] }, type := 22, pos := "ref.go:124", after := #[{ on := 1, ground := Ground.data }], guard := none }) rfl (fun K hK => ?_) AllReadyH.nil
            go_simp
            (go_at_call 86; with_reducible refine (rfull_b b.hi q (by omega) (by omega) HQ.out _).mono ?_; rintro e z1 ⟨rfl, qb⟩)
            refine hK.out _ _ ?_ (fun g1 => ?_)
            · exact two_keep qb hHeld
            clear hK K qb
            skip
            try simp only [Act.put, List.setIfInBounds_toArray, List.set_cons_zero, List.set_cons_succ]
            refine wpAnyH_take (i := 5) (oi := { dst := some 37, op := Op.binOp BinOp.gtr 22 (Operand.tmp 34) (Operand.tmp 36) 22, type := 4, pos := "ref.go:124", after := #[{ on := 2, ground := Ground.data }, { on := 4, ground := Ground.data }], guard := none }) (v := ?_) rfl (by kernel_rfl) (by kernel_rfl) (by kernel_rfl) (fun _ _ _ h => h) (Or.inl ⟨by rfl, ?_⟩) g1 ?_
            rotate_left
            · intro w9 hSw
              try dsimp only at hSw
              go_simp
              try with_reducible rfl
            try simp only [Act.put, List.setIfInBounds_toArray, List.set_cons_zero, List.set_cons_succ]
            refine wpAnyH_done (by kernel_rfl) ?_ _
            have KA := Lib.hid g1
            clear g1 c10 c11 d0 d1 c20 c21 f0 f1 f2 f3 HB
            obtain ⟨c10, c11, d0, d1, c20, c21, f0, f1, -, -, f2, f3, HB0⟩ := KA.out
            have HB := Lib.hid HB0
            clear HB0 KA
            generalize z1 = y3 at *
            go_wp2_with fail
            have r0 : ∀ u v, ((y3.setCell ⟨w.heap.size + 1 + 1, 0, none⟩ u).setCell ⟨w.heap.size + 1 + 1, 1, none⟩ v).cell? ⟨w.heap.size + 1 + 1, 0, none⟩ = some u := fun u v => set_fst c20
            have r1 : ∀ u v, ((y3.setCell ⟨w.heap.size + 1 + 1, 0, none⟩ u).setCell ⟨w.heap.size + 1 + 1, 1, none⟩ v).cell? ⟨w.heap.size + 1 + 1, 1, none⟩ = some v := fun u v => set_snd c21
            refine bodyPost_ret (by simp [results, Try.results34, r0, r1, go_sem]; try rfl) rfl ?_
            exact ⟨rt_u (by omega) (by omega), below_st2 HB.out (by omega)⟩
  · skip
    have L1 := Lib.hid (show (a.lo == a.hi) = false by simp [h1])
    have e1 := Lib.hid (show uOr a b = ⟨max a.lo b.lo, fl (max a.hi b.hi)⟩ by unfold uOr; rw [if_neg (by omega)])
    rw [e1.out]
    obtain ⟨p, hp⟩ : ∃ p, fl a.hi = p := ⟨_, rfl⟩
    obtain ⟨q, hq⟩ : ∃ q, fl b.hi = q := ⟨_, rfl⟩
    have HP := Lib.hid hp
    have HQ := Lib.hid hq
    have HM := Lib.hid (show fl (max a.hi b.hi) = max p q by rw [fl_max, hp, hq])
    rw [HM.out]
    clear hp hq
    clear h1
    go_enter Try.func34, Try.ntmps34
    go_wp2_with fail
    have K0 := (((Bk.new w 24 #[.int .u64 a.lo, .int .u64 a.hi]).alloc (.cells #[.int .u64 b.lo, .int .u64 b.hi] 24)).alloc (.cells #[.int .u64 0, .int .u64 0] 24))
    have K1 := ((Bk.new (w.alloc (.cells #[.int .u64 a.lo, .int .u64 a.hi] 24)) 24 #[.int .u64 b.lo, .int .u64 b.hi]).alloc (.cells #[.int .u64 0, .int .u64 0] 24))
    rw [World.size_alloc] at K1
    have K2 := (Bk.new ((w.alloc (.cells #[.int .u64 a.lo, .int .u64 a.hi] 24)).alloc (.cells #[.int .u64 b.lo, .int .u64 b.hi] 24)) 24 #[.int .u64 0, .int .u64 0])
    rw [World.size_alloc, World.size_alloc] at K2
    have B0 : Below w.heap.size w (((w.alloc (.cells #[.int .u64 a.lo, .int .u64 a.hi] 24)).alloc (.cells #[.int .u64 b.lo, .int .u64 b.hi] 24)).alloc (.cells #[.int .u64 0, .int .u64 0] 24)) := by go_grown
    generalize (((w.alloc (.cells #[.int .u64 a.lo, .int .u64 a.hi] 24)).alloc (.cells #[.int .u64 b.lo, .int .u64 b.hi] 24)).alloc (.cells #[.int .u64 0, .int .u64 0] 24)) = w0 at *
    have H0 := Lib.hid K0
    obtain ⟨c00, c01⟩ := tcells K0
    have H1 := Lib.hid K1
    obtain ⟨c10, c11⟩ := tcells K1
    have H2 := Lib.hid K2
    obtain ⟨c20, c21⟩ := tcells K2
    have f0 := K2.frozen 0
    have f1 := K2.frozen 1
    have HB := Lib.hid B0
    clear K0 K1 K2 B0
    with_reducible refine (ralone_to a _ L1.out _).mono ?_
    rintro e w1 ⟨rfl, qb⟩
    replace f0 := keepf qb (World.block_lt_of_cell? _ _ c20) f0
    replace f1 := keepf qb (World.block_lt_of_cell? _ _ c21) f1
    replace c00 := keep1 qb c00
    replace c01 := keep1 qb c01
    replace c10 := keep1 qb c10
    replace c11 := keep1 qb c11
    replace c20 := keep1 qb c20
    replace c21 := keep1 qb c21
    replace H0 := Lib.hid (H0.out.below qb H0.out.lt)
    replace H1 := Lib.hid (H1.out.below qb H1.out.lt)
    replace H2 := Lib.hid (H2.out.below qb H2.out.lt)
    replace HB := Lib.hid (below_then HB.out qb (Nat.le_refl _))
    clear qb
    go_wp2_with fail
    clear H0 H1 H2
    by_cases hl : a.lo < b.lo
    · by_cases hq : p < q
      · skip
        refine wp_region_held_drew (S := fun w' => w'.cell? ⟨w.heap.size, 0, none⟩ = some (.int .u64 a.lo) ∧ w'.cell? ⟨w.heap.size, 1, none⟩ = some (.int .u64 a.hi) ∧ w'.cell? ⟨w.heap.size + 1, 0, none⟩ = some (.int .u64 b.lo) ∧ w'.cell? ⟨w.heap.size + 1, 1, none⟩ = some (.int .u64 b.hi) ∧ w'.cell? ⟨w.heap.size + 1 + 1, 0, none⟩ = some (cv w' (w.heap.size + 1 + 1) 0) ∧ w'.cell? ⟨w.heap.size + 1 + 1, 1, none⟩ = some (cv w' (w.heap.size + 1 + 1) 1) ∧ w'.frozen? ⟨w.heap.size + 1 + 1, 0, none⟩ = false ∧ w'.frozen? ⟨w.heap.size + 1 + 1, 1, none⟩ = false ∧ Below w.heap.size w w') (by kernel_rfl) ?_ (fun hHeld => ?_)
        · exact ⟨c00, c01, c10, c11, cv_some c20, cv_some c21, f0, f1, HB.out.drew⟩
        generalize w1.drew = z0 at *
        refine wpAnyH_take (i := 0) (oi := { dst := some 18, op := Op.fieldAddr 24 (Operand.tmp 2) 0, type := 0, pos := "ref.go:120", after := #[], guard := none }) (v := ?_) rfl (by kernel_rfl) (by kernel_rfl) (by kernel_rfl) (fun _ _ _ h => h) (Or.inl ⟨by rfl, ?_⟩) hHeld ?_
        rotate_left
        · intro w9 hSw
          try dsimp only at hSw
          go_simp
          try with_reducible rfl
        try simp only [Act.put, List.setIfInBounds_toArray, List.set_cons_zero, List.set_cons_succ]
        refine wpAnyH_take (i := 1) (oi := { dst := some 19, op := Op.load 22 (Operand.tmp 18), type := 22, pos := "ref.go:120", after := #[{ on := 0, ground := Ground.data }], guard := none }) (v := ?_) rfl (by kernel_rfl) (by kernel_rfl) (by kernel_rfl) (fun _ _ _ h => h) (Or.inl ⟨by rfl, ?_⟩) hHeld ?_
        rotate_left
        · intro w9 hSw
          try dsimp only at hSw
          go_simp
          try with_reducible rfl
        try simp only [Act.put, List.setIfInBounds_toArray, List.set_cons_zero, List.set_cons_succ]
        refine wpAnyH_take (i := 2) (oi := { dst := some 20, op := Op.fieldAddr 24 (Operand.tmp 2) 1, type := 0, pos := "ref.go:120", after := #[], guard := none }) (v := ?_) rfl (by kernel_rfl) (by kernel_rfl) (by kernel_rfl) (fun _ _ _ h => h) (Or.inl ⟨by rfl, ?_⟩) hHeld ?_
        rotate_left
        · intro w9 hSw
          try dsimp only at hSw
          go_simp
          try with_reducible rfl
        try simp only [Act.put, List.setIfInBounds_toArray, List.set_cons_zero, List.set_cons_succ]
        refine wpAnyH_take (i := 3) (oi := { dst := some 21, op := Op.load 22 (Operand.tmp 20), type := 22, pos := "ref.go:120", after := #[{ on := 2, ground := Ground.data }], guard := none }) (v := ?_) rfl (by kernel_rfl) (by kernel_rfl) (by kernel_rfl) (fun _ _ _ h => h) (Or.inl ⟨by rfl, ?_⟩) hHeld ?_
        rotate_left
        · intro w9 hSw
          try dsimp only at hSw
          go_simp
          try with_reducible rfl
        try simp only [Act.put, List.setIfInBounds_toArray, List.set_cons_zero, List.set_cons_succ]
        clear c00 c01 c10 c11 c20 c21 f0 f1 HB
        have hsz := World.block_lt_of_cell? _ _ hHeld.1
        have hsz1 := World.block_lt_of_cell? _ _ hHeld.2.2.1
        have hsz2 := World.block_lt_of_cell? _ _ hHeld.2.2.2.2.1
        dsimp only at hsz hsz1 hsz2
        refine wpAnyH_ready (rs := [4, 6]) (by kernel_rfl) (by simp) ?_
        refine AllReadyH.cons (o := { dst := some 22, op := Op.call { callee := Callee.value (Operand.func 86), args := #[Operand.tmp 21], argTypes := #[22] }, type := 22, pos := "ref.go:120", after := #[{ on := 3, ground := Ground.data }], guard := none }) rfl (fun K hK => ?_) (AllReadyH.cons (o := { dst := some 5, op := Op.alloc 24, type := 0, pos := "ref.go:120", after := #[], guard := none }) rfl (fun K hK => ?_) AllReadyH.nil)
        · go_simp
          (go_at_call 86; with_reducible refine (rfull_b a.hi p (by omega) (by omega) HP.out _).mono ?_; rintro e t1 ⟨rfl, qb⟩)
          have hs1 := qb.size
          refine hK.out _ _ ?_ (fun g1 => ?_)
          · exact keepr4 qb hHeld
          clear hK K qb hHeld
          try simp only [Act.put, List.setIfInBounds_toArray, List.set_cons_zero, List.set_cons_succ]
          refine wpAnyH_take (i := 5) (oi := { dst := some 23, op := Op.build 24 #[(0, Operand.tmp 19), (1, Operand.tmp 22)], type := 24, pos := "ref.go:120", after := #[{ on := 1, ground := Ground.data }, { on := 4, ground := Ground.data }], guard := none }) (v := ?_) rfl (by kernel_rfl) (by kernel_rfl) (by kernel_rfl) (fun _ _ _ h => h) (Or.inl ⟨by rfl, ?_⟩) g1 ?_
          rotate_left
          · intro w9 hSw
            try dsimp only at hSw
            go_simp
            try with_reducible rfl
          try simp only [Act.put, List.setIfInBounds_toArray, List.set_cons_zero, List.set_cons_succ]
          refine wpAnyH_ready (rs := [6]) (by kernel_rfl) (by simp) ?_
          refine AllReadyH.cons (o := { dst := some 5, op := Op.alloc 24, type := 0, pos := "ref.go:120", after := #[], guard := none }) rfl (fun K hK => ?_) AllReadyH.nil
          go_simp
          refine hK.out _ _ ?_ (fun g2 => ?_)
          · exact keepr4 (alB _ _) g1
          clear hK K g2
          try simp only [Act.put, List.setIfInBounds_toArray, List.set_cons_zero, List.set_cons_succ]
          refine wpAnyH_ready (rs := [7]) (by kernel_rfl) (by simp) ?_
          refine AllReadyH.cons (o := { dst := none, op := Op.store 24 (Operand.tmp 5) (Operand.tmp 23), type := 0, pos := "ref.go:120", after := #[{ on := 6, ground := Ground.data }, { on := 5, ground := Ground.data }, { on := 4, ground := Ground.chain }, { on := 0, ground := Ground.phase }, { on := 1, ground := Ground.phase }, { on := 2, ground := Ground.phase }, { on := 3, ground := Ground.phase }, { on := 4, ground := Ground.phase }, { on := 5, ground := Ground.phase }, { on := 6, ground := Ground.phase }], guard := none }) rfl (fun K hK => ?_) AllReadyH.nil
          go_simp
          refine hK.out _ _ ?_ (fun g9 => ?_)
          · exact keepr4 (alB _ _) g1
          clear hK K
          try simp only [Act.put, List.setIfInBounds_toArray, List.set_cons_zero, List.set_cons_succ]
          refine wpAnyH_done (by kernel_rfl) ?_ _
          obtain ⟨n0, n1, n2, n3⟩ := new_two (w := t1) (t := 24) (x := .int .u64 a.lo) (y := .int .u64 p)
          have D0 := Lib.hid n0
          have D1 := Lib.hid n1
          have D2 := Lib.hid n2
          have D3 := Lib.hid n3
          have KA := Lib.hid g9
          clear g9 g1 n0 n1 n2 n3
          generalize (t1.alloc (.cells #[.int .u64 a.lo, .int .u64 p] 24)) = y1 at *
          obtain ⟨-, -, c10, c11, c20, c21, f0, f1, HB0⟩ := KA.out
          have HB := Lib.hid HB0
          clear HB0 KA
          have d0 := D0.out
          have d1 := D1.out
          have f2 := D2.out
          have f3 := D3.out
          clear D0 D1 D2 D3
          go_wp2_with fail
          have k0 := World.cell?_setCell_same y1 ⟨t1.heap.size, 0, none⟩ (.int .u64 b.lo) d0
          have k1 := (World.cell?_setCell_other y1 ⟨t1.heap.size, 0, none⟩ ⟨t1.heap.size, 1, none⟩ (.int .u64 b.lo) (fun e => by injection e with _ e2 _; omega)).trans d1
          replace c10 := (World.cell?_setCell_other y1 ⟨t1.heap.size, 0, none⟩ ⟨w.heap.size + 1, 0, none⟩ (.int .u64 b.lo) (fun e => by injection e with e1 _ _; omega)).trans c10
          replace c11 := (World.cell?_setCell_other y1 ⟨t1.heap.size, 0, none⟩ ⟨w.heap.size + 1, 1, none⟩ (.int .u64 b.lo) (fun e => by injection e with e1 _ _; omega)).trans c11
          replace c20 := (World.cell?_setCell_other y1 ⟨t1.heap.size, 0, none⟩ ⟨w.heap.size + 1 + 1, 0, none⟩ (.int .u64 b.lo) (fun e => by injection e with e1 _ _; omega)).trans c20
          replace c21 := (World.cell?_setCell_other y1 ⟨t1.heap.size, 0, none⟩ ⟨w.heap.size + 1 + 1, 1, none⟩ (.int .u64 b.lo) (fun e => by injection e with e1 _ _; omega)).trans c21
          replace f0 : (y1.setCell ⟨t1.heap.size, 0, none⟩ (.int .u64 b.lo)).frozen? ⟨w.heap.size + 1 + 1, 0, none⟩ = false := by rw [World.frozen?_setCell]; exact f0
          replace f1 : (y1.setCell ⟨t1.heap.size, 0, none⟩ (.int .u64 b.lo)).frozen? ⟨w.heap.size + 1 + 1, 1, none⟩ = false := by rw [World.frozen?_setCell]; exact f1
          replace f2 : (y1.setCell ⟨t1.heap.size, 0, none⟩ (.int .u64 b.lo)).frozen? ⟨t1.heap.size, 0, none⟩ = false := by rw [World.frozen?_setCell]; exact f2
          replace f3 : (y1.setCell ⟨t1.heap.size, 0, none⟩ (.int .u64 b.lo)).frozen? ⟨t1.heap.size, 1, none⟩ = false := by rw [World.frozen?_setCell]; exact f3
          replace HB := Lib.hid (HB.out.setCell (p := ⟨t1.heap.size, 0, none⟩) (show w.heap.size ≤ t1.heap.size by omega) (.int .u64 b.lo))
          clear d0 d1
          have d0 := k0
          have d1 := k1
          clear k0 k1
          generalize (y1.setCell ⟨t1.heap.size, 0, none⟩ (.int .u64 b.lo)) = y2 at *
          refine wp_region_held_drew (S := fun w' => w'.cell? ⟨w.heap.size + 1, 0, none⟩ = some (.int .u64 b.lo) ∧ w'.cell? ⟨w.heap.size + 1, 1, none⟩ = some (.int .u64 b.hi) ∧ w'.cell? ⟨t1.heap.size, 0, none⟩ = some (.int .u64 b.lo) ∧ w'.cell? ⟨t1.heap.size, 1, none⟩ = some (.int .u64 p) ∧ w'.cell? ⟨w.heap.size + 1 + 1, 0, none⟩ = some (cv w' (w.heap.size + 1 + 1) 0) ∧ w'.cell? ⟨w.heap.size + 1 + 1, 1, none⟩ = some (cv w' (w.heap.size + 1 + 1) 1) ∧ w'.frozen? ⟨w.heap.size + 1 + 1, 0, none⟩ = false ∧ w'.frozen? ⟨w.heap.size + 1 + 1, 1, none⟩ = false ∧ w'.cell? ⟨t1.heap.size, 0, none⟩ = some (cv w' (t1.heap.size) 0) ∧ w'.cell? ⟨t1.heap.size, 1, none⟩ = some (cv w' (t1.heap.size) 1) ∧ w'.frozen? ⟨t1.heap.size, 0, none⟩ = false ∧ w'.frozen? ⟨t1.heap.size, 1, none⟩ = false ∧ Below w.heap.size w w') (by kernel_rfl) ?_ (fun hHeld => ?_)
          · exact ⟨c10, c11, d0, d1, cv_some c20, cv_some c21, f0, f1, cv_some d0, cv_some d1, f2, f3, HB.out.drew⟩
          refine wpAnyH_take (i := 0) (oi := { dst := some 32, op := Op.fieldAddr 24 (Operand.tmp 3) 1, type := 0, pos := "ref.go:124", after := #[], guard := none }) (v := ?_) rfl (by kernel_rfl) (by kernel_rfl) (by kernel_rfl) (fun _ _ _ h => h) (Or.inl ⟨by rfl, ?_⟩) hHeld ?_
          rotate_left
          · intro w9 hSw
            try dsimp only at hSw
            go_simp
            try with_reducible rfl
          try simp only [Act.put, List.setIfInBounds_toArray, List.set_cons_zero, List.set_cons_succ]
          refine wpAnyH_take (i := 1) (oi := { dst := some 33, op := Op.load 22 (Operand.tmp 32), type := 22, pos := "ref.go:124", after := #[{ on := 0, ground := Ground.data }], guard := none }) (v := ?_) rfl (by kernel_rfl) (by kernel_rfl) (by kernel_rfl) (fun _ _ _ h => h) (Or.inl ⟨by rfl, ?_⟩) hHeld ?_
          rotate_left
          · intro w9 hSw
            try dsimp only at hSw
            go_simp
            try with_reducible rfl
          try simp only [Act.put, List.setIfInBounds_toArray, List.set_cons_zero, List.set_cons_succ]
          refine wpAnyH_take (i := 3) (oi := { dst := some 35, op := Op.fieldAddr 24 (Operand.tmp 5) 1, type := 0, pos := "ref.go:124", after := #[], guard := none }) (v := ?_) rfl (by kernel_rfl) (by kernel_rfl) (by kernel_rfl) (fun _ _ _ h => h) (Or.inl ⟨by rfl, ?_⟩) hHeld ?_
          rotate_left
          · intro w9 hSw
            try dsimp only at hSw
            go_simp
            try with_reducible rfl
          try simp only [Act.put, List.setIfInBounds_toArray, List.set_cons_zero, List.set_cons_succ]
          refine wpAnyH_take (i := 4) (oi := { dst := some 36, op := Op.load 22 (Operand.tmp 35), type := 22, pos := "ref.go:124", after := #[{ on := 3, ground := Ground.data }], guard := none }) (v := ?_) rfl (by kernel_rfl) (by kernel_rfl) (by kernel_rfl) (fun _ _ _ h => h) (Or.inl ⟨by rfl, ?_⟩) hHeld ?_
          rotate_left
          · intro w9 hSw
            try dsimp only at hSw
            go_simp
            try with_reducible rfl
          try simp only [Act.put, List.setIfInBounds_toArray, List.set_cons_zero, List.set_cons_succ]
          refine wpAnyH_ready (rs := [2]) (by kernel_rfl) (by simp) ?_
          refine AllReadyH.cons (o := { dst := some 34, op := Op.call { callee := Callee.value (Operand.func 86), args := #[Operand.tmp 33], argTypes := #[22] }, type := 22, pos := "ref.go:124", after := #[{ on := 1, ground := Ground.data }], guard := none }) rfl (fun K hK => ?_) AllReadyH.nil
          go_simp
          (go_at_call 86; with_reducible refine (rfull_b b.hi q (by omega) (by omega) HQ.out _).mono ?_; rintro e z1 ⟨rfl, qb⟩)
          refine hK.out _ _ ?_ (fun g1 => ?_)
          · exact two_keep qb hHeld
          clear hK K qb
          skip
          try simp only [Act.put, List.setIfInBounds_toArray, List.set_cons_zero, List.set_cons_succ]
          refine wpAnyH_take (i := 5) (oi := { dst := some 37, op := Op.binOp BinOp.gtr 22 (Operand.tmp 34) (Operand.tmp 36) 22, type := 4, pos := "ref.go:124", after := #[{ on := 2, ground := Ground.data }, { on := 4, ground := Ground.data }], guard := none }) (v := ?_) rfl (by kernel_rfl) (by kernel_rfl) (by kernel_rfl) (fun _ _ _ h => h) (Or.inl ⟨by rfl, ?_⟩) g1 ?_
          rotate_left
          · intro w9 hSw
            try dsimp only at hSw
            go_simp
            try with_reducible rfl
          try simp only [Act.put, List.setIfInBounds_toArray, List.set_cons_zero, List.set_cons_succ]
          refine wpAnyH_done (by kernel_rfl) ?_ _
          have KA := Lib.hid g1
          clear g1 c10 c11 d0 d1 c20 c21 f0 f1 f2 f3 HB
          obtain ⟨c10, c11, d0, d1, c20, c21, f0, f1, -, -, f2, f3, HB0⟩ := KA.out
          have HB := Lib.hid HB0
          clear HB0 KA
          generalize z1 = y3 at *
          go_wp2_with fail
          refine (rfull_to b.hi q (by omega) (by omega) HQ.out _).mono ?_
          rintro e w' ⟨rfl, rfl⟩
          go_wp2_with fail
          replace c20 := (World.cell?_setCell_other y3 ⟨t1.heap.size, 1, none⟩ ⟨w.heap.size + 1 + 1, 0, none⟩ (.int .u64 q) (fun e => by injection e with e1 _ _; omega)).trans c20
          replace c21 := (World.cell?_setCell_other y3 ⟨t1.heap.size, 1, none⟩ ⟨w.heap.size + 1 + 1, 1, none⟩ (.int .u64 q) (fun e => by injection e with e1 _ _; omega)).trans c21
          replace HB := Lib.hid (HB.out.setCell (p := ⟨t1.heap.size, 1, none⟩) (show w.heap.size ≤ t1.heap.size by omega) (.int .u64 q))
          have r0 : ∀ u v, (((y3.setCell ⟨t1.heap.size, 1, none⟩ (.int .u64 q)).setCell ⟨w.heap.size + 1 + 1, 0, none⟩ u).setCell ⟨w.heap.size + 1 + 1, 1, none⟩ v).cell? ⟨w.heap.size + 1 + 1, 0, none⟩ = some u := fun u v => set_fst c20
          have r1 : ∀ u v, (((y3.setCell ⟨t1.heap.size, 1, none⟩ (.int .u64 q)).setCell ⟨w.heap.size + 1 + 1, 0, none⟩ u).setCell ⟨w.heap.size + 1 + 1, 1, none⟩ v).cell? ⟨w.heap.size + 1 + 1, 1, none⟩ = some v := fun u v => set_snd c21
          refine bodyPost_ret (by simp [results, Try.results34, r0, r1, go_sem]; try rfl) rfl ?_
          exact ⟨rt_u (by omega) (by omega), below_st2 HB.out (by omega)⟩
        · go_simp
          refine hK.out _ _ ?_ (fun g1 => ?_)
          · exact keepr4 (alB _ _) hHeld
          clear hK K hHeld
          try simp only [Act.put, List.setIfInBounds_toArray, List.set_cons_zero, List.set_cons_succ]
          obtain ⟨n0, n1, n2, n3⟩ := new_two (w := z0) (t := 24) (x := .int .u64 0) (y := .int .u64 0)
          refine wpAnyH_ready (rs := [4]) (by kernel_rfl) (by simp) ?_
          refine AllReadyH.cons (o := { dst := some 22, op := Op.call { callee := Callee.value (Operand.func 86), args := #[Operand.tmp 21], argTypes := #[22] }, type := 22, pos := "ref.go:120", after := #[{ on := 3, ground := Ground.data }], guard := none }) rfl (fun K hK => ?_) AllReadyH.nil
          go_simp
          (go_at_call 86; with_reducible refine (rfull_b a.hi p (by omega) (by omega) HP.out _).mono ?_; rintro e t1 ⟨rfl, qb⟩)
          refine hK.out _ _ ?_ (fun g2 => ?_)
          · exact keepr4 qb g1
          replace n2 := keepf qb (World.block_lt_of_cell? _ _ n0) n2
          replace n3 := keepf qb (World.block_lt_of_cell? _ _ n1) n3
          replace n0 := keep1 qb n0
          replace n1 := keep1 qb n1
          clear hK K qb g1
          try simp only [Act.put, List.setIfInBounds_toArray, List.set_cons_zero, List.set_cons_succ]
          refine wpAnyH_take (i := 5) (oi := { dst := some 23, op := Op.build 24 #[(0, Operand.tmp 19), (1, Operand.tmp 22)], type := 24, pos := "ref.go:120", after := #[{ on := 1, ground := Ground.data }, { on := 4, ground := Ground.data }], guard := none }) (v := ?_) rfl (by kernel_rfl) (by kernel_rfl) (by kernel_rfl) (fun _ _ _ h => h) (Or.inl ⟨by rfl, ?_⟩) g2 ?_
          rotate_left
          · intro w9 hSw
            try dsimp only at hSw
            go_simp
            try with_reducible rfl
          try simp only [Act.put, List.setIfInBounds_toArray, List.set_cons_zero, List.set_cons_succ]
          refine wpAnyH_ready (rs := [7]) (by kernel_rfl) (by simp) ?_
          refine AllReadyH.cons (o := { dst := none, op := Op.store 24 (Operand.tmp 5) (Operand.tmp 23), type := 0, pos := "ref.go:120", after := #[{ on := 6, ground := Ground.data }, { on := 5, ground := Ground.data }, { on := 4, ground := Ground.chain }, { on := 0, ground := Ground.phase }, { on := 1, ground := Ground.phase }, { on := 2, ground := Ground.phase }, { on := 3, ground := Ground.phase }, { on := 4, ground := Ground.phase }, { on := 5, ground := Ground.phase }, { on := 6, ground := Ground.phase }], guard := none }) rfl (fun K hK => ?_) AllReadyH.nil
          go_simp
          refine hK.out _ _ ?_ (fun g9 => ?_)
          · exact farr4 (by omega) (by omega) (by omega) (by omega) g2
          clear hK K
          try simp only [Act.put, List.setIfInBounds_toArray, List.set_cons_zero, List.set_cons_succ]
          refine wpAnyH_done (by kernel_rfl) ?_ _
          have D0 := Lib.hid (set_fst (u := .int .u64 a.lo) (v := .int .u64 p) n0)
          have D1 := Lib.hid (set_snd (u := .int .u64 a.lo) (v := .int .u64 p) n1)
          have D2 := Lib.hid ((fz2 t1 (z0.heap.size) (.int .u64 a.lo) (.int .u64 p)).trans n2)
          have D3 := Lib.hid ((fz2 t1 (z0.heap.size) (.int .u64 a.lo) (.int .u64 p)).trans n3)
          have KA := Lib.hid g9
          clear g9 g2 n0 n1 n2 n3
          generalize ((t1.setCell ⟨z0.heap.size, 0, none⟩ (.int .u64 a.lo)).setCell ⟨z0.heap.size, 1, none⟩ (.int .u64 p)) = y1 at *
          obtain ⟨-, -, c10, c11, c20, c21, f0, f1, HB0⟩ := KA.out
          have HB := Lib.hid HB0
          clear HB0 KA
          have d0 := D0.out
          have d1 := D1.out
          have f2 := D2.out
          have f3 := D3.out
          clear D0 D1 D2 D3
          go_wp2_with fail
          have k0 := World.cell?_setCell_same y1 ⟨z0.heap.size, 0, none⟩ (.int .u64 b.lo) d0
          have k1 := (World.cell?_setCell_other y1 ⟨z0.heap.size, 0, none⟩ ⟨z0.heap.size, 1, none⟩ (.int .u64 b.lo) (fun e => by injection e with _ e2 _; omega)).trans d1
          replace c10 := (World.cell?_setCell_other y1 ⟨z0.heap.size, 0, none⟩ ⟨w.heap.size + 1, 0, none⟩ (.int .u64 b.lo) (fun e => by injection e with e1 _ _; omega)).trans c10
          replace c11 := (World.cell?_setCell_other y1 ⟨z0.heap.size, 0, none⟩ ⟨w.heap.size + 1, 1, none⟩ (.int .u64 b.lo) (fun e => by injection e with e1 _ _; omega)).trans c11
          replace c20 := (World.cell?_setCell_other y1 ⟨z0.heap.size, 0, none⟩ ⟨w.heap.size + 1 + 1, 0, none⟩ (.int .u64 b.lo) (fun e => by injection e with e1 _ _; omega)).trans c20
          replace c21 := (World.cell?_setCell_other y1 ⟨z0.heap.size, 0, none⟩ ⟨w.heap.size + 1 + 1, 1, none⟩ (.int .u64 b.lo) (fun e => by injection e with e1 _ _; omega)).trans c21
          replace f0 : (y1.setCell ⟨z0.heap.size, 0, none⟩ (.int .u64 b.lo)).frozen? ⟨w.heap.size + 1 + 1, 0, none⟩ = false := by rw [World.frozen?_setCell]; exact f0
          replace f1 : (y1.setCell ⟨z0.heap.size, 0, none⟩ (.int .u64 b.lo)).frozen? ⟨w.heap.size + 1 + 1, 1, none⟩ = false := by rw [World.frozen?_setCell]; exact f1
          replace f2 : (y1.setCell ⟨z0.heap.size, 0, none⟩ (.int .u64 b.lo)).frozen? ⟨z0.heap.size, 0, none⟩ = false := by rw [World.frozen?_setCell]; exact f2
          replace f3 : (y1.setCell ⟨z0.heap.size, 0, none⟩ (.int .u64 b.lo)).frozen? ⟨z0.heap.size, 1, none⟩ = false := by rw [World.frozen?_setCell]; exact f3
          replace HB := Lib.hid (HB.out.setCell (p := ⟨z0.heap.size, 0, none⟩) (show w.heap.size ≤ z0.heap.size by omega) (.int .u64 b.lo))
          clear d0 d1
          have d0 := k0
          have d1 := k1
          clear k0 k1
          generalize (y1.setCell ⟨z0.heap.size, 0, none⟩ (.int .u64 b.lo)) = y2 at *
          refine wp_region_held_drew (S := fun w' => w'.cell? ⟨w.heap.size + 1, 0, none⟩ = some (.int .u64 b.lo) ∧ w'.cell? ⟨w.heap.size + 1, 1, none⟩ = some (.int .u64 b.hi) ∧ w'.cell? ⟨z0.heap.size, 0, none⟩ = some (.int .u64 b.lo) ∧ w'.cell? ⟨z0.heap.size, 1, none⟩ = some (.int .u64 p) ∧ w'.cell? ⟨w.heap.size + 1 + 1, 0, none⟩ = some (cv w' (w.heap.size + 1 + 1) 0) ∧ w'.cell? ⟨w.heap.size + 1 + 1, 1, none⟩ = some (cv w' (w.heap.size + 1 + 1) 1) ∧ w'.frozen? ⟨w.heap.size + 1 + 1, 0, none⟩ = false ∧ w'.frozen? ⟨w.heap.size + 1 + 1, 1, none⟩ = false ∧ w'.cell? ⟨z0.heap.size, 0, none⟩ = some (cv w' (z0.heap.size) 0) ∧ w'.cell? ⟨z0.heap.size, 1, none⟩ = some (cv w' (z0.heap.size) 1) ∧ w'.frozen? ⟨z0.heap.size, 0, none⟩ = false ∧ w'.frozen? ⟨z0.heap.size, 1, none⟩ = false ∧ Below w.heap.size w w') (by kernel_rfl) ?_ (fun hHeld => ?_)
          · exact ⟨c10, c11, d0, d1, cv_some c20, cv_some c21, f0, f1, cv_some d0, cv_some d1, f2, f3, HB.out.drew⟩
          refine wpAnyH_take (i := 0) (oi := { dst := some 32, op := Op.fieldAddr 24 (Operand.tmp 3) 1, type := 0, pos := "ref.go:124", after := #[], guard := none }) (v := ?_) rfl (by kernel_rfl) (by kernel_rfl) (by kernel_rfl) (fun _ _ _ h => h) (Or.inl ⟨by rfl, ?_⟩) hHeld ?_
          rotate_left
          · intro w9 hSw
            try dsimp only at hSw
            go_simp
            try with_reducible rfl
          try simp only [Act.put, List.setIfInBounds_toArray, List.set_cons_zero, List.set_cons_succ]
          refine wpAnyH_take (i := 1) (oi := { dst := some 33, op := Op.load 22 (Operand.tmp 32), type := 22, pos := "ref.go:124", after := #[{ on := 0, ground := Ground.data }], guard := none }) (v := ?_) rfl (by kernel_rfl) (by kernel_rfl) (by kernel_rfl) (fun _ _ _ h => h) (Or.inl ⟨by rfl, ?_⟩) hHeld ?_
          rotate_left
          · intro w9 hSw
            try dsimp only at hSw
            go_simp
            try with_reducible rfl
          try simp only [Act.put, List.setIfInBounds_toArray, List.set_cons_zero, List.set_cons_succ]
          refine wpAnyH_take (i := 3) (oi := { dst := some 35, op := Op.fieldAddr 24 (Operand.tmp 5) 1, type := 0, pos := "ref.go:124", after := #[], guard := none }) (v := ?_) rfl (by kernel_rfl) (by kernel_rfl) (by kernel_rfl) (fun _ _ _ h => h) (Or.inl ⟨by rfl, ?_⟩) hHeld ?_
          rotate_left
          · intro w9 hSw
            try dsimp only at hSw
            go_simp
            try with_reducible rfl
          try simp only [Act.put, List.setIfInBounds_toArray, List.set_cons_zero, List.set_cons_succ]
          refine wpAnyH_take (i := 4) (oi := { dst := some 36, op := Op.load 22 (Operand.tmp 35), type := 22, pos := "ref.go:124", after := #[{ on := 3, ground := Ground.data }], guard := none }) (v := ?_) rfl (by kernel_rfl) (by kernel_rfl) (by kernel_rfl) (fun _ _ _ h => h) (Or.inl ⟨by rfl, ?_⟩) hHeld ?_
          rotate_left
          · intro w9 hSw
            try dsimp only at hSw
            go_simp
            try with_reducible rfl
          try simp only [Act.put, List.setIfInBounds_toArray, List.set_cons_zero, List.set_cons_succ]
          refine wpAnyH_ready (rs := [2]) (by kernel_rfl) (by simp) ?_
          refine AllReadyH.cons (o := { dst := some 34, op := Op.call { callee := Callee.value (Operand.func 86), args := #[Operand.tmp 33], argTypes := #[22] }, type := 22, pos := "ref.go:124", after := #[{ on := 1, ground := Ground.data }], guard := none }) rfl (fun K hK => ?_) AllReadyH.nil
          go_simp
          (go_at_call 86; with_reducible refine (rfull_b b.hi q (by omega) (by omega) HQ.out _).mono ?_; rintro e z1 ⟨rfl, qb⟩)
          refine hK.out _ _ ?_ (fun g1 => ?_)
          · exact two_keep qb hHeld
          clear hK K qb
          skip
          try simp only [Act.put, List.setIfInBounds_toArray, List.set_cons_zero, List.set_cons_succ]
          refine wpAnyH_take (i := 5) (oi := { dst := some 37, op := Op.binOp BinOp.gtr 22 (Operand.tmp 34) (Operand.tmp 36) 22, type := 4, pos := "ref.go:124", after := #[{ on := 2, ground := Ground.data }, { on := 4, ground := Ground.data }], guard := none }) (v := ?_) rfl (by kernel_rfl) (by kernel_rfl) (by kernel_rfl) (fun _ _ _ h => h) (Or.inl ⟨by rfl, ?_⟩) g1 ?_
          rotate_left
          · intro w9 hSw
            try dsimp only at hSw
            go_simp
            try with_reducible rfl
          try simp only [Act.put, List.setIfInBounds_toArray, List.set_cons_zero, List.set_cons_succ]
          refine wpAnyH_done (by kernel_rfl) ?_ _
          have KA := Lib.hid g1
          clear g1 c10 c11 d0 d1 c20 c21 f0 f1 f2 f3 HB
          obtain ⟨c10, c11, d0, d1, c20, c21, f0, f1, -, -, f2, f3, HB0⟩ := KA.out
          have HB := Lib.hid HB0
          clear HB0 KA
          generalize z1 = y3 at *
          go_wp2_with fail
          refine (rfull_to b.hi q (by omega) (by omega) HQ.out _).mono ?_
          rintro e w' ⟨rfl, rfl⟩
          go_wp2_with fail
          replace c20 := (World.cell?_setCell_other y3 ⟨z0.heap.size, 1, none⟩ ⟨w.heap.size + 1 + 1, 0, none⟩ (.int .u64 q) (fun e => by injection e with e1 _ _; omega)).trans c20
          replace c21 := (World.cell?_setCell_other y3 ⟨z0.heap.size, 1, none⟩ ⟨w.heap.size + 1 + 1, 1, none⟩ (.int .u64 q) (fun e => by injection e with e1 _ _; omega)).trans c21
          replace HB := Lib.hid (HB.out.setCell (p := ⟨z0.heap.size, 1, none⟩) (show w.heap.size ≤ z0.heap.size by omega) (.int .u64 q))
          have r0 : ∀ u v, (((y3.setCell ⟨z0.heap.size, 1, none⟩ (.int .u64 q)).setCell ⟨w.heap.size + 1 + 1, 0, none⟩ u).setCell ⟨w.heap.size + 1 + 1, 1, none⟩ v).cell? ⟨w.heap.size + 1 + 1, 0, none⟩ = some u := fun u v => set_fst c20
          have r1 : ∀ u v, (((y3.setCell ⟨z0.heap.size, 1, none⟩ (.int .u64 q)).setCell ⟨w.heap.size + 1 + 1, 0, none⟩ u).setCell ⟨w.heap.size + 1 + 1, 1, none⟩ v).cell? ⟨w.heap.size + 1 + 1, 1, none⟩ = some v := fun u v => set_snd c21
          refine bodyPost_ret (by simp [results, Try.results34, r0, r1, go_sem]; try rfl) rfl ?_
          exact ⟨rt_u (by omega) (by omega), below_st2 HB.out (by omega)⟩
      · skip
        refine wp_region_held_drew (S := fun w' => w'.cell? ⟨w.heap.size, 0, none⟩ = some (.int .u64 a.lo) ∧ w'.cell? ⟨w.heap.size, 1, none⟩ = some (.int .u64 a.hi) ∧ w'.cell? ⟨w.heap.size + 1, 0, none⟩ = some (.int .u64 b.lo) ∧ w'.cell? ⟨w.heap.size + 1, 1, none⟩ = some (.int .u64 b.hi) ∧ w'.cell? ⟨w.heap.size + 1 + 1, 0, none⟩ = some (cv w' (w.heap.size + 1 + 1) 0) ∧ w'.cell? ⟨w.heap.size + 1 + 1, 1, none⟩ = some (cv w' (w.heap.size + 1 + 1) 1) ∧ w'.frozen? ⟨w.heap.size + 1 + 1, 0, none⟩ = false ∧ w'.frozen? ⟨w.heap.size + 1 + 1, 1, none⟩ = false ∧ Below w.heap.size w w') (by kernel_rfl) ?_ (fun hHeld => ?_)
        · exact ⟨c00, c01, c10, c11, cv_some c20, cv_some c21, f0, f1, HB.out.drew⟩
        generalize w1.drew = z0 at *
        refine wpAnyH_take (i := 0) (oi := { dst := some 18, op := Op.fieldAddr 24 (Operand.tmp 2) 0, type := 0, pos := "ref.go:120", after := #[], guard := none }) (v := ?_) rfl (by kernel_rfl) (by kernel_rfl) (by kernel_rfl) (fun _ _ _ h => h) (Or.inl ⟨by rfl, ?_⟩) hHeld ?_
        rotate_left
        · intro w9 hSw
          try dsimp only at hSw
          go_simp
          try with_reducible rfl
        try simp only [Act.put, List.setIfInBounds_toArray, List.set_cons_zero, List.set_cons_succ]
        refine wpAnyH_take (i := 1) (oi := { dst := some 19, op := Op.load 22 (Operand.tmp 18), type := 22, pos := "ref.go:120", after := #[{ on := 0, ground := Ground.data }], guard := none }) (v := ?_) rfl (by kernel_rfl) (by kernel_rfl) (by kernel_rfl) (fun _ _ _ h => h) (Or.inl ⟨by rfl, ?_⟩) hHeld ?_
        rotate_left
        · intro w9 hSw
          try dsimp only at hSw
          go_simp
          try with_reducible rfl
        try simp only [Act.put, List.setIfInBounds_toArray, List.set_cons_zero, List.set_cons_succ]
        refine wpAnyH_take (i := 2) (oi := { dst := some 20, op := Op.fieldAddr 24 (Operand.tmp 2) 1, type := 0, pos := "ref.go:120", after := #[], guard := none }) (v := ?_) rfl (by kernel_rfl) (by kernel_rfl) (by kernel_rfl) (fun _ _ _ h => h) (Or.inl ⟨by rfl, ?_⟩) hHeld ?_
        rotate_left
        · intro w9 hSw
          try dsimp only at hSw
          go_simp
          try with_reducible rfl
        try simp only [Act.put, List.setIfInBounds_toArray, List.set_cons_zero, List.set_cons_succ]
        refine wpAnyH_take (i := 3) (oi := { dst := some 21, op := Op.load 22 (Operand.tmp 20), type := 22, pos := "ref.go:120", after := #[{ on := 2, ground := Ground.data }], guard := none }) (v := ?_) rfl (by kernel_rfl) (by kernel_rfl) (by kernel_rfl) (fun _ _ _ h => h) (Or.inl ⟨by rfl, ?_⟩) hHeld ?_
        rotate_left
        · intro w9 hSw
          try dsimp only at hSw
          go_simp
          try with_reducible rfl
        try simp only [Act.put, List.setIfInBounds_toArray, List.set_cons_zero, List.set_cons_succ]
        clear c00 c01 c10 c11 c20 c21 f0 f1 HB
        have hsz := World.block_lt_of_cell? _ _ hHeld.1
        have hsz1 := World.block_lt_of_cell? _ _ hHeld.2.2.1
        have hsz2 := World.block_lt_of_cell? _ _ hHeld.2.2.2.2.1
        dsimp only at hsz hsz1 hsz2
        refine wpAnyH_ready (rs := [4, 6]) (by kernel_rfl) (by simp) ?_
        refine AllReadyH.cons (o := { dst := some 22, op := Op.call { callee := Callee.value (Operand.func 86), args := #[Operand.tmp 21], argTypes := #[22] }, type := 22, pos := "ref.go:120", after := #[{ on := 3, ground := Ground.data }], guard := none }) rfl (fun K hK => ?_) (AllReadyH.cons (o := { dst := some 5, op := Op.alloc 24, type := 0, pos := "ref.go:120", after := #[], guard := none }) rfl (fun K hK => ?_) AllReadyH.nil)
        · go_simp
          (go_at_call 86; with_reducible refine (rfull_b a.hi p (by omega) (by omega) HP.out _).mono ?_; rintro e t1 ⟨rfl, qb⟩)
          have hs1 := qb.size
          refine hK.out _ _ ?_ (fun g1 => ?_)
          · exact keepr4 qb hHeld
          clear hK K qb hHeld
          try simp only [Act.put, List.setIfInBounds_toArray, List.set_cons_zero, List.set_cons_succ]
          refine wpAnyH_take (i := 5) (oi := { dst := some 23, op := Op.build 24 #[(0, Operand.tmp 19), (1, Operand.tmp 22)], type := 24, pos := "ref.go:120", after := #[{ on := 1, ground := Ground.data }, { on := 4, ground := Ground.data }], guard := none }) (v := ?_) rfl (by kernel_rfl) (by kernel_rfl) (by kernel_rfl) (fun _ _ _ h => h) (Or.inl ⟨by rfl, ?_⟩) g1 ?_
          rotate_left
          · intro w9 hSw
            try dsimp only at hSw
            go_simp
            try with_reducible rfl
          try simp only [Act.put, List.setIfInBounds_toArray, List.set_cons_zero, List.set_cons_succ]
          refine wpAnyH_ready (rs := [6]) (by kernel_rfl) (by simp) ?_
          refine AllReadyH.cons (o := { dst := some 5, op := Op.alloc 24, type := 0, pos := "ref.go:120", after := #[], guard := none }) rfl (fun K hK => ?_) AllReadyH.nil
          go_simp
          refine hK.out _ _ ?_ (fun g2 => ?_)
          · exact keepr4 (alB _ _) g1
          clear hK K g2
          try simp only [Act.put, List.setIfInBounds_toArray, List.set_cons_zero, List.set_cons_succ]
          refine wpAnyH_ready (rs := [7]) (by kernel_rfl) (by simp) ?_
          refine AllReadyH.cons (o := { dst := none, op := Op.store 24 (Operand.tmp 5) (Operand.tmp 23), type := 0, pos := "ref.go:120", after := #[{ on := 6, ground := Ground.data }, { on := 5, ground := Ground.data }, { on := 4, ground := Ground.chain }, { on := 0, ground := Ground.phase }, { on := 1, ground := Ground.phase }, { on := 2, ground := Ground.phase }, { on := 3, ground := Ground.phase }, { on := 4, ground := Ground.phase }, { on := 5, ground := Ground.phase }, { on := 6, ground := Ground.phase }], guard := none }) rfl (fun K hK => ?_) AllReadyH.nil
          go_simp
          refine hK.out _ _ ?_ (fun g9 => ?_)
          · exact keepr4 (alB _ _) g1
          clear hK K
          try simp only [Act.put, List.setIfInBounds_toArray, List.set_cons_zero, List.set_cons_succ]
          refine wpAnyH_done (by kernel_rfl) ?_ _
          obtain ⟨n0, n1, n2, n3⟩ := new_two (w := t1) (t := 24) (x := .int .u64 a.lo) (y := .int .u64 p)
          have D0 := Lib.hid n0
          have D1 := Lib.hid n1
          have D2 := Lib.hid n2
          have D3 := Lib.hid n3
          have KA := Lib.hid g9
          clear g9 g1 n0 n1 n2 n3
          generalize (t1.alloc (.cells #[.int .u64 a.lo, .int .u64 p] 24)) = y1 at *
          obtain ⟨-, -, c10, c11, c20, c21, f0, f1, HB0⟩ := KA.out
          have HB := Lib.hid HB0
          clear HB0 KA
          have d0 := D0.out
          have d1 := D1.out
          have f2 := D2.out
          have f3 := D3.out
          clear D0 D1 D2 D3
          go_wp2_with fail
          have k0 := World.cell?_setCell_same y1 ⟨t1.heap.size, 0, none⟩ (.int .u64 b.lo) d0
          have k1 := (World.cell?_setCell_other y1 ⟨t1.heap.size, 0, none⟩ ⟨t1.heap.size, 1, none⟩ (.int .u64 b.lo) (fun e => by injection e with _ e2 _; omega)).trans d1
          replace c10 := (World.cell?_setCell_other y1 ⟨t1.heap.size, 0, none⟩ ⟨w.heap.size + 1, 0, none⟩ (.int .u64 b.lo) (fun e => by injection e with e1 _ _; omega)).trans c10
          replace c11 := (World.cell?_setCell_other y1 ⟨t1.heap.size, 0, none⟩ ⟨w.heap.size + 1, 1, none⟩ (.int .u64 b.lo) (fun e => by injection e with e1 _ _; omega)).trans c11
          replace c20 := (World.cell?_setCell_other y1 ⟨t1.heap.size, 0, none⟩ ⟨w.heap.size + 1 + 1, 0, none⟩ (.int .u64 b.lo) (fun e => by injection e with e1 _ _; omega)).trans c20
          replace c21 := (World.cell?_setCell_other y1 ⟨t1.heap.size, 0, none⟩ ⟨w.heap.size + 1 + 1, 1, none⟩ (.int .u64 b.lo) (fun e => by injection e with e1 _ _; omega)).trans c21
          replace f0 : (y1.setCell ⟨t1.heap.size, 0, none⟩ (.int .u64 b.lo)).frozen? ⟨w.heap.size + 1 + 1, 0, none⟩ = false := by rw [World.frozen?_setCell]; exact f0
          replace f1 : (y1.setCell ⟨t1.heap.size, 0, none⟩ (.int .u64 b.lo)).frozen? ⟨w.heap.size + 1 + 1, 1, none⟩ = false := by rw [World.frozen?_setCell]; exact f1
          replace f2 : (y1.setCell ⟨t1.heap.size, 0, none⟩ (.int .u64 b.lo)).frozen? ⟨t1.heap.size, 0, none⟩ = false := by rw [World.frozen?_setCell]; exact f2
          replace f3 : (y1.setCell ⟨t1.heap.size, 0, none⟩ (.int .u64 b.lo)).frozen? ⟨t1.heap.size, 1, none⟩ = false := by rw [World.frozen?_setCell]; exact f3
          replace HB := Lib.hid (HB.out.setCell (p := ⟨t1.heap.size, 0, none⟩) (show w.heap.size ≤ t1.heap.size by omega) (.int .u64 b.lo))
          clear d0 d1
          have d0 := k0
          have d1 := k1
          clear k0 k1
          generalize (y1.setCell ⟨t1.heap.size, 0, none⟩ (.int .u64 b.lo)) = y2 at *
          refine wp_region_held_drew (S := fun w' => w'.cell? ⟨w.heap.size + 1, 0, none⟩ = some (.int .u64 b.lo) ∧ w'.cell? ⟨w.heap.size + 1, 1, none⟩ = some (.int .u64 b.hi) ∧ w'.cell? ⟨t1.heap.size, 0, none⟩ = some (.int .u64 b.lo) ∧ w'.cell? ⟨t1.heap.size, 1, none⟩ = some (.int .u64 p) ∧ w'.cell? ⟨w.heap.size + 1 + 1, 0, none⟩ = some (cv w' (w.heap.size + 1 + 1) 0) ∧ w'.cell? ⟨w.heap.size + 1 + 1, 1, none⟩ = some (cv w' (w.heap.size + 1 + 1) 1) ∧ w'.frozen? ⟨w.heap.size + 1 + 1, 0, none⟩ = false ∧ w'.frozen? ⟨w.heap.size + 1 + 1, 1, none⟩ = false ∧ w'.cell? ⟨t1.heap.size, 0, none⟩ = some (cv w' (t1.heap.size) 0) ∧ w'.cell? ⟨t1.heap.size, 1, none⟩ = some (cv w' (t1.heap.size) 1) ∧ w'.frozen? ⟨t1.heap.size, 0, none⟩ = false ∧ w'.frozen? ⟨t1.heap.size, 1, none⟩ = false ∧ Below w.heap.size w w') (by kernel_rfl) ?_ (fun hHeld => ?_)
          · exact ⟨c10, c11, d0, d1, cv_some c20, cv_some c21, f0, f1, cv_some d0, cv_some d1, f2, f3, HB.out.drew⟩
          refine wpAnyH_take (i := 0) (oi := { dst := some 32, op := Op.fieldAddr 24 (Operand.tmp 3) 1, type := 0, pos := "ref.go:124", after := #[], guard := none }) (v := ?_) rfl (by kernel_rfl) (by kernel_rfl) (by kernel_rfl) (fun _ _ _ h => h) (Or.inl ⟨by rfl, ?_⟩) hHeld ?_
          rotate_left
          · intro w9 hSw
            try dsimp only at hSw
            go_simp
            try with_reducible rfl
          try simp only [Act.put, List.setIfInBounds_toArray, List.set_cons_zero, List.set_cons_succ]
          refine wpAnyH_take (i := 1) (oi := { dst := some 33, op := Op.load 22 (Operand.tmp 32), type := 22, pos := "ref.go:124", after := #[{ on := 0, ground := Ground.data }], guard := none }) (v := ?_) rfl (by kernel_rfl) (by kernel_rfl) (by kernel_rfl) (fun _ _ _ h => h) (Or.inl ⟨by rfl, ?_⟩) hHeld ?_
          rotate_left
          · intro w9 hSw
            try dsimp only at hSw
            go_simp
            try with_reducible rfl
          try simp only [Act.put, List.setIfInBounds_toArray, List.set_cons_zero, List.set_cons_succ]
          refine wpAnyH_take (i := 3) (oi := { dst := some 35, op := Op.fieldAddr 24 (Operand.tmp 5) 1, type := 0, pos := "ref.go:124", after := #[], guard := none }) (v := ?_) rfl (by kernel_rfl) (by kernel_rfl) (by kernel_rfl) (fun _ _ _ h => h) (Or.inl ⟨by rfl, ?_⟩) hHeld ?_
          rotate_left
          · intro w9 hSw
            try dsimp only at hSw
            go_simp
            try with_reducible rfl
          try simp only [Act.put, List.setIfInBounds_toArray, List.set_cons_zero, List.set_cons_succ]
          refine wpAnyH_take (i := 4) (oi := { dst := some 36, op := Op.load 22 (Operand.tmp 35), type := 22, pos := "ref.go:124", after := #[{ on := 3, ground := Ground.data }], guard := none }) (v := ?_) rfl (by kernel_rfl) (by kernel_rfl) (by kernel_rfl) (fun _ _ _ h => h) (Or.inl ⟨by rfl, ?_⟩) hHeld ?_
          rotate_left
          · intro w9 hSw
            try dsimp only at hSw
            go_simp
            try with_reducible rfl
          try simp only [Act.put, List.setIfInBounds_toArray, List.set_cons_zero, List.set_cons_succ]
          refine wpAnyH_ready (rs := [2]) (by kernel_rfl) (by simp) ?_
          refine AllReadyH.cons (o := { dst := some 34, op := Op.call { callee := Callee.value (Operand.func 86), args := #[Operand.tmp 33], argTypes := #[22] }, type := 22, pos := "ref.go:124", after := #[{ on := 1, ground := Ground.data }], guard := none }) rfl (fun K hK => ?_) AllReadyH.nil
          go_simp
          (go_at_call 86; with_reducible refine (rfull_b b.hi q (by omega) (by omega) HQ.out _).mono ?_; rintro e z1 ⟨rfl, qb⟩)
          refine hK.out _ _ ?_ (fun g1 => ?_)
          · exact two_keep qb hHeld
          clear hK K qb
          skip
          try simp only [Act.put, List.setIfInBounds_toArray, List.set_cons_zero, List.set_cons_succ]
          refine wpAnyH_take (i := 5) (oi := { dst := some 37, op := Op.binOp BinOp.gtr 22 (Operand.tmp 34) (Operand.tmp 36) 22, type := 4, pos := "ref.go:124", after := #[{ on := 2, ground := Ground.data }, { on := 4, ground := Ground.data }], guard := none }) (v := ?_) rfl (by kernel_rfl) (by kernel_rfl) (by kernel_rfl) (fun _ _ _ h => h) (Or.inl ⟨by rfl, ?_⟩) g1 ?_
          rotate_left
          · intro w9 hSw
            try dsimp only at hSw
            go_simp
            try with_reducible rfl
          try simp only [Act.put, List.setIfInBounds_toArray, List.set_cons_zero, List.set_cons_succ]
          refine wpAnyH_done (by kernel_rfl) ?_ _
          have KA := Lib.hid g1
          clear g1 c10 c11 d0 d1 c20 c21 f0 f1 f2 f3 HB
          obtain ⟨c10, c11, d0, d1, c20, c21, f0, f1, -, -, f2, f3, HB0⟩ := KA.out
          have HB := Lib.hid HB0
          clear HB0 KA
          generalize z1 = y3 at *
          go_wp2_with fail
          have r0 : ∀ u v, ((y3.setCell ⟨w.heap.size + 1 + 1, 0, none⟩ u).setCell ⟨w.heap.size + 1 + 1, 1, none⟩ v).cell? ⟨w.heap.size + 1 + 1, 0, none⟩ = some u := fun u v => set_fst c20
          have r1 : ∀ u v, ((y3.setCell ⟨w.heap.size + 1 + 1, 0, none⟩ u).setCell ⟨w.heap.size + 1 + 1, 1, none⟩ v).cell? ⟨w.heap.size + 1 + 1, 1, none⟩ = some v := fun u v => set_snd c21
          refine bodyPost_ret (by simp [results, Try.results34, r0, r1, go_sem]; try rfl) rfl ?_
          exact ⟨rt_u (by omega) (by omega), below_st2 HB.out (by omega)⟩
        · go_simp
          refine hK.out _ _ ?_ (fun g1 => ?_)
          · exact keepr4 (alB _ _) hHeld
          clear hK K hHeld
          try simp only [Act.put, List.setIfInBounds_toArray, List.set_cons_zero, List.set_cons_succ]
          obtain ⟨n0, n1, n2, n3⟩ := new_two (w := z0) (t := 24) (x := .int .u64 0) (y := .int .u64 0)
          refine wpAnyH_ready (rs := [4]) (by kernel_rfl) (by simp) ?_
          refine AllReadyH.cons (o := { dst := some 22, op := Op.call { callee := Callee.value (Operand.func 86), args := #[Operand.tmp 21], argTypes := #[22] }, type := 22, pos := "ref.go:120", after := #[{ on := 3, ground := Ground.data }], guard := none }) rfl (fun K hK => ?_) AllReadyH.nil
          go_simp
          (go_at_call 86; with_reducible refine (rfull_b a.hi p (by omega) (by omega) HP.out _).mono ?_; rintro e t1 ⟨rfl, qb⟩)
          refine hK.out _ _ ?_ (fun g2 => ?_)
          · exact keepr4 qb g1
          replace n2 := keepf qb (World.block_lt_of_cell? _ _ n0) n2
          replace n3 := keepf qb (World.block_lt_of_cell? _ _ n1) n3
          replace n0 := keep1 qb n0
          replace n1 := keep1 qb n1
          clear hK K qb g1
          try simp only [Act.put, List.setIfInBounds_toArray, List.set_cons_zero, List.set_cons_succ]
          refine wpAnyH_take (i := 5) (oi := { dst := some 23, op := Op.build 24 #[(0, Operand.tmp 19), (1, Operand.tmp 22)], type := 24, pos := "ref.go:120", after := #[{ on := 1, ground := Ground.data }, { on := 4, ground := Ground.data }], guard := none }) (v := ?_) rfl (by kernel_rfl) (by kernel_rfl) (by kernel_rfl) (fun _ _ _ h => h) (Or.inl ⟨by rfl, ?_⟩) g2 ?_
          rotate_left
          · intro w9 hSw
            try dsimp only at hSw
            go_simp
            try with_reducible rfl
          try simp only [Act.put, List.setIfInBounds_toArray, List.set_cons_zero, List.set_cons_succ]
          refine wpAnyH_ready (rs := [7]) (by kernel_rfl) (by simp) ?_
          refine AllReadyH.cons (o := { dst := none, op := Op.store 24 (Operand.tmp 5) (Operand.tmp 23), type := 0, pos := "ref.go:120", after := #[{ on := 6, ground := Ground.data }, { on := 5, ground := Ground.data }, { on := 4, ground := Ground.chain }, { on := 0, ground := Ground.phase }, { on := 1, ground := Ground.phase }, { on := 2, ground := Ground.phase }, { on := 3, ground := Ground.phase }, { on := 4, ground := Ground.phase }, { on := 5, ground := Ground.phase }, { on := 6, ground := Ground.phase }], guard := none }) rfl (fun K hK => ?_) AllReadyH.nil
          go_simp
          refine hK.out _ _ ?_ (fun g9 => ?_)
          · exact farr4 (by omega) (by omega) (by omega) (by omega) g2
          clear hK K
          try simp only [Act.put, List.setIfInBounds_toArray, List.set_cons_zero, List.set_cons_succ]
          refine wpAnyH_done (by kernel_rfl) ?_ _
          have D0 := Lib.hid (set_fst (u := .int .u64 a.lo) (v := .int .u64 p) n0)
          have D1 := Lib.hid (set_snd (u := .int .u64 a.lo) (v := .int .u64 p) n1)
          have D2 := Lib.hid ((fz2 t1 (z0.heap.size) (.int .u64 a.lo) (.int .u64 p)).trans n2)
          have D3 := Lib.hid ((fz2 t1 (z0.heap.size) (.int .u64 a.lo) (.int .u64 p)).trans n3)
          have KA := Lib.hid g9
          clear g9 g2 n0 n1 n2 n3
          generalize ((t1.setCell ⟨z0.heap.size, 0, none⟩ (.int .u64 a.lo)).setCell ⟨z0.heap.size, 1, none⟩ (.int .u64 p)) = y1 at *
          obtain ⟨-, -, c10, c11, c20, c21, f0, f1, HB0⟩ := KA.out
          have HB := Lib.hid HB0
          clear HB0 KA
          have d0 := D0.out
          have d1 := D1.out
          have f2 := D2.out
          have f3 := D3.out
          clear D0 D1 D2 D3
          go_wp2_with fail
          have k0 := World.cell?_setCell_same y1 ⟨z0.heap.size, 0, none⟩ (.int .u64 b.lo) d0
          have k1 := (World.cell?_setCell_other y1 ⟨z0.heap.size, 0, none⟩ ⟨z0.heap.size, 1, none⟩ (.int .u64 b.lo) (fun e => by injection e with _ e2 _; omega)).trans d1
          replace c10 := (World.cell?_setCell_other y1 ⟨z0.heap.size, 0, none⟩ ⟨w.heap.size + 1, 0, none⟩ (.int .u64 b.lo) (fun e => by injection e with e1 _ _; omega)).trans c10
          replace c11 := (World.cell?_setCell_other y1 ⟨z0.heap.size, 0, none⟩ ⟨w.heap.size + 1, 1, none⟩ (.int .u64 b.lo) (fun e => by injection e with e1 _ _; omega)).trans c11
          replace c20 := (World.cell?_setCell_other y1 ⟨z0.heap.size, 0, none⟩ ⟨w.heap.size + 1 + 1, 0, none⟩ (.int .u64 b.lo) (fun e => by injection e with e1 _ _; omega)).trans c20
          replace c21 := (World.cell?_setCell_other y1 ⟨z0.heap.size, 0, none⟩ ⟨w.heap.size + 1 + 1, 1, none⟩ (.int .u64 b.lo) (fun e => by injection e with e1 _ _; omega)).trans c21
          replace f0 : (y1.setCell ⟨z0.heap.size, 0, none⟩ (.int .u64 b.lo)).frozen? ⟨w.heap.size + 1 + 1, 0, none⟩ = false := by rw [World.frozen?_setCell]; exact f0
          replace f1 : (y1.setCell ⟨z0.heap.size, 0, none⟩ (.int .u64 b.lo)).frozen? ⟨w.heap.size + 1 + 1, 1, none⟩ = false := by rw [World.frozen?_setCell]; exact f1
          replace f2 : (y1.setCell ⟨z0.heap.size, 0, none⟩ (.int .u64 b.lo)).frozen? ⟨z0.heap.size, 0, none⟩ = false := by rw [World.frozen?_setCell]; exact f2
          replace f3 : (y1.setCell ⟨z0.heap.size, 0, none⟩ (.int .u64 b.lo)).frozen? ⟨z0.heap.size, 1, none⟩ = false := by rw [World.frozen?_setCell]; exact f3
          replace HB := Lib.hid (HB.out.setCell (p := ⟨z0.heap.size, 0, none⟩) (show w.heap.size ≤ z0.heap.size by omega) (.int .u64 b.lo))
          clear d0 d1
          have d0 := k0
          have d1 := k1
          clear k0 k1
          generalize (y1.setCell ⟨z0.heap.size, 0, none⟩ (.int .u64 b.lo)) = y2 at *
          refine wp_region_held_drew (S := fun w' => w'.cell? ⟨w.heap.size + 1, 0, none⟩ = some (.int .u64 b.lo) ∧ w'.cell? ⟨w.heap.size + 1, 1, none⟩ = some (.int .u64 b.hi) ∧ w'.cell? ⟨z0.heap.size, 0, none⟩ = some (.int .u64 b.lo) ∧ w'.cell? ⟨z0.heap.size, 1, none⟩ = some (.int .u64 p) ∧ w'.cell? ⟨w.heap.size + 1 + 1, 0, none⟩ = some (cv w' (w.heap.size + 1 + 1) 0) ∧ w'.cell? ⟨w.heap.size + 1 + 1, 1, none⟩ = some (cv w' (w.heap.size + 1 + 1) 1) ∧ w'.frozen? ⟨w.heap.size + 1 + 1, 0, none⟩ = false ∧ w'.frozen? ⟨w.heap.size + 1 + 1, 1, none⟩ = false ∧ w'.cell? ⟨z0.heap.size, 0, none⟩ = some (cv w' (z0.heap.size) 0) ∧ w'.cell? ⟨z0.heap.size, 1, none⟩ = some (cv w' (z0.heap.size) 1) ∧ w'.frozen? ⟨z0.heap.size, 0, none⟩ = false ∧ w'.frozen? ⟨z0.heap.size, 1, none⟩ = false ∧ Below w.heap.size w w') (by kernel_rfl) ?_ (fun hHeld => ?_)
          · exact ⟨c10, c11, d0, d1, cv_some c20, cv_some c21, f0, f1, cv_some d0, cv_some d1, f2, f3, HB.out.drew⟩
          refine wpAnyH_take (i := 0) (oi := { dst := some 32, op := Op.fieldAddr 24 (Operand.tmp 3) 1, type := 0, pos := "ref.go:124", after := #[], guard := none }) (v := ?_) rfl (by kernel_rfl) (by kernel_rfl) (by kernel_rfl) (fun _ _ _ h => h) (Or.inl ⟨by rfl, ?_⟩) hHeld ?_
          rotate_left
          · intro w9 hSw
            try dsimp only at hSw
            go_simp
            try with_reducible rfl
          try simp only [Act.put, List.setIfInBounds_toArray, List.set_cons_zero, List.set_cons_succ]
          refine wpAnyH_take (i := 1) (oi := { dst := some 33, op := Op.load 22 (Operand.tmp 32), type := 22, pos := "ref.go:124", after := #[{ on := 0, ground := Ground.data }], guard := none }) (v := ?_) rfl (by kernel_rfl) (by kernel_rfl) (by kernel_rfl) (fun _ _ _ h => h) (Or.inl ⟨by rfl, ?_⟩) hHeld ?_
          rotate_left
          · intro w9 hSw
            try dsimp only at hSw
            go_simp
            try with_reducible rfl
          try simp only [Act.put, List.setIfInBounds_toArray, List.set_cons_zero, List.set_cons_succ]
          refine wpAnyH_take (i := 3) (oi := { dst := some 35, op := Op.fieldAddr 24 (Operand.tmp 5) 1, type := 0, pos := "ref.go:124", after := #[], guard := none }) (v := ?_) rfl (by kernel_rfl) (by kernel_rfl) (by kernel_rfl) (fun _ _ _ h => h) (Or.inl ⟨by rfl, ?_⟩) hHeld ?_
          rotate_left
          · intro w9 hSw
            try dsimp only at hSw
            go_simp
            try with_reducible rfl
          try simp only [Act.put, List.setIfInBounds_toArray, List.set_cons_zero, List.set_cons_succ]
          refine wpAnyH_take (i := 4) (oi := { dst := some 36, op := Op.load 22 (Operand.tmp 35), type := 22, pos := "ref.go:124", after := #[{ on := 3, ground := Ground.data }], guard := none }) (v := ?_) rfl (by kernel_rfl) (by kernel_rfl) (by kernel_rfl) (fun _ _ _ h => h) (Or.inl ⟨by rfl, ?_⟩) hHeld ?_
          rotate_left
          · intro w9 hSw
            try dsimp only at hSw
            go_simp
            try with_reducible rfl
          try simp only [Act.put, List.setIfInBounds_toArray, List.set_cons_zero, List.set_cons_succ]
          refine wpAnyH_ready (rs := [2]) (by kernel_rfl) (by simp) ?_
          refine AllReadyH.cons (o := { dst := some 34, op := Op.call { callee := Callee.value (Operand.func 86), args := #[Operand.tmp 33], argTypes := #[22] }, type := 22, pos := "ref.go:124", after := #[{ on := 1, ground := Ground.data }], guard := none }) rfl (fun K hK => ?_) AllReadyH.nil
          go_simp
          (go_at_call 86; with_reducible refine (rfull_b b.hi q (by omega) (by omega) HQ.out _).mono ?_; rintro e z1 ⟨rfl, qb⟩)
          refine hK.out _ _ ?_ (fun g1 => ?_)
          · exact two_keep qb hHeld
          clear hK K qb
          skip
          try simp only [Act.put, List.setIfInBounds_toArray, List.set_cons_zero, List.set_cons_succ]
          refine wpAnyH_take (i := 5) (oi := { dst := some 37, op := Op.binOp BinOp.gtr 22 (Operand.tmp 34) (Operand.tmp 36) 22, type := 4, pos := "ref.go:124", after := #[{ on := 2, ground := Ground.data }, { on := 4, ground := Ground.data }], guard := none }) (v := ?_) rfl (by kernel_rfl) (by kernel_rfl) (by kernel_rfl) (fun _ _ _ h => h) (Or.inl ⟨by rfl, ?_⟩) g1 ?_
          rotate_left
          · intro w9 hSw
            try dsimp only at hSw
            go_simp
            try with_reducible rfl
          try simp only [Act.put, List.setIfInBounds_toArray, List.set_cons_zero, List.set_cons_succ]
          refine wpAnyH_done (by kernel_rfl) ?_ _
          have KA := Lib.hid g1
          clear g1 c10 c11 d0 d1 c20 c21 f0 f1 f2 f3 HB
          obtain ⟨c10, c11, d0, d1, c20, c21, f0, f1, -, -, f2, f3, HB0⟩ := KA.out
          have HB := Lib.hid HB0
          clear HB0 KA
          generalize z1 = y3 at *
          go_wp2_with fail
          have r0 : ∀ u v, ((y3.setCell ⟨w.heap.size + 1 + 1, 0, none⟩ u).setCell ⟨w.heap.size + 1 + 1, 1, none⟩ v).cell? ⟨w.heap.size + 1 + 1, 0, none⟩ = some u := fun u v => set_fst c20
          have r1 : ∀ u v, ((y3.setCell ⟨w.heap.size + 1 + 1, 0, none⟩ u).setCell ⟨w.heap.size + 1 + 1, 1, none⟩ v).cell? ⟨w.heap.size + 1 + 1, 1, none⟩ = some v := fun u v => set_snd c21
          refine bodyPost_ret (by simp [results, Try.results34, r0, r1, go_sem]; try rfl) rfl ?_
          exact ⟨rt_u (by omega) (by omega), below_st2 HB.out (by omega)⟩
    · by_cases hq : p < q
      · skip
        refine wp_region_held_drew (S := fun w' => w'.cell? ⟨w.heap.size, 0, none⟩ = some (.int .u64 a.lo) ∧ w'.cell? ⟨w.heap.size, 1, none⟩ = some (.int .u64 a.hi) ∧ w'.cell? ⟨w.heap.size + 1, 0, none⟩ = some (.int .u64 b.lo) ∧ w'.cell? ⟨w.heap.size + 1, 1, none⟩ = some (.int .u64 b.hi) ∧ w'.cell? ⟨w.heap.size + 1 + 1, 0, none⟩ = some (cv w' (w.heap.size + 1 + 1) 0) ∧ w'.cell? ⟨w.heap.size + 1 + 1, 1, none⟩ = some (cv w' (w.heap.size + 1 + 1) 1) ∧ w'.frozen? ⟨w.heap.size + 1 + 1, 0, none⟩ = false ∧ w'.frozen? ⟨w.heap.size + 1 + 1, 1, none⟩ = false ∧ Below w.heap.size w w') (by kernel_rfl) ?_ (fun hHeld => ?_)
        · exact ⟨c00, c01, c10, c11, cv_some c20, cv_some c21, f0, f1, HB.out.drew⟩
        generalize w1.drew = z0 at *
        refine wpAnyH_take (i := 0) (oi := { dst := some 18, op := Op.fieldAddr 24 (Operand.tmp 2) 0, type := 0, pos := "ref.go:120", after := #[], guard := none }) (v := ?_) rfl (by kernel_rfl) (by kernel_rfl) (by kernel_rfl) (fun _ _ _ h => h) (Or.inl ⟨by rfl, ?_⟩) hHeld ?_
        rotate_left
        · intro w9 hSw
          try dsimp only at hSw
          go_simp
          try with_reducible rfl
        try simp only [Act.put, List.setIfInBounds_toArray, List.set_cons_zero, List.set_cons_succ]
        refine wpAnyH_take (i := 1) (oi := { dst := some 19, op := Op.load 22 (Operand.tmp 18), type := 22, pos := "ref.go:120", after := #[{ on := 0, ground := Ground.data }], guard := none }) (v := ?_) rfl (by kernel_rfl) (by kernel_rfl) (by kernel_rfl) (fun _ _ _ h => h) (Or.inl ⟨by rfl, ?_⟩) hHeld ?_
        rotate_left
        · intro w9 hSw
          try dsimp only at hSw
          go_simp
          try with_reducible rfl
        try simp only [Act.put, List.setIfInBounds_toArray, List.set_cons_zero, List.set_cons_succ]
        refine wpAnyH_take (i := 2) (oi := { dst := some 20, op := Op.fieldAddr 24 (Operand.tmp 2) 1, type := 0, pos := "ref.go:120", after := #[], guard := none }) (v := ?_) rfl (by kernel_rfl) (by kernel_rfl) (by kernel_rfl) (fun _ _ _ h => h) (Or.inl ⟨by rfl, ?_⟩) hHeld ?_
        rotate_left
        · intro w9 hSw
          try dsimp only at hSw
          go_simp
          try with_reducible rfl
        try simp only [Act.put, List.setIfInBounds_toArray, List.set_cons_zero, List.set_cons_succ]
        refine wpAnyH_take (i := 3) (oi := { dst := some 21, op := Op.load 22 (Operand.tmp 20), type := 22, pos := "ref.go:120", after := #[{ on := 2, ground := Ground.data }], guard := none }) (v := ?_) rfl (by kernel_rfl) (by kernel_rfl) (by kernel_rfl) (fun _ _ _ h => h) (Or.inl ⟨by rfl, ?_⟩) hHeld ?_
        rotate_left
        · intro w9 hSw
          try dsimp only at hSw
          go_simp
          try with_reducible rfl
        try simp only [Act.put, List.setIfInBounds_toArray, List.set_cons_zero, List.set_cons_succ]
        clear c00 c01 c10 c11 c20 c21 f0 f1 HB
        have hsz := World.block_lt_of_cell? _ _ hHeld.1
        have hsz1 := World.block_lt_of_cell? _ _ hHeld.2.2.1
        have hsz2 := World.block_lt_of_cell? _ _ hHeld.2.2.2.2.1
        dsimp only at hsz hsz1 hsz2
        refine wpAnyH_ready (rs := [4, 6]) (by kernel_rfl) (by simp) ?_
        refine AllReadyH.cons (o := { dst := some 22, op := Op.call { callee := Callee.value (Operand.func 86), args := #[Operand.tmp 21], argTypes := #[22] }, type := 22, pos := "ref.go:120", after := #[{ on := 3, ground := Ground.data }], guard := none }) rfl (fun K hK => ?_) (AllReadyH.cons (o := { dst := some 5, op := Op.alloc 24, type := 0, pos := "ref.go:120", after := #[], guard := none }) rfl (fun K hK => ?_) AllReadyH.nil)
        · go_simp
          (go_at_call 86; with_reducible refine (rfull_b a.hi p (by omega) (by omega) HP.out _).mono ?_; rintro e t1 ⟨rfl, qb⟩)
          have hs1 := qb.size
          refine hK.out _ _ ?_ (fun g1 => ?_)
          · exact keepr4 qb hHeld
          clear hK K qb hHeld
          try simp only [Act.put, List.setIfInBounds_toArray, List.set_cons_zero, List.set_cons_succ]
          refine wpAnyH_take (i := 5) (oi := { dst := some 23, op := Op.build 24 #[(0, Operand.tmp 19), (1, Operand.tmp 22)], type := 24, pos := "ref.go:120", after := #[{ on := 1, ground := Ground.data }, { on := 4, ground := Ground.data }], guard := none }) (v := ?_) rfl (by kernel_rfl) (by kernel_rfl) (by kernel_rfl) (fun _ _ _ h => h) (Or.inl ⟨by rfl, ?_⟩) g1 ?_
          rotate_left
          · intro w9 hSw
            try dsimp only at hSw
            go_simp
            try with_reducible rfl
          try simp only [Act.put, List.setIfInBounds_toArray, List.set_cons_zero, List.set_cons_succ]
          refine wpAnyH_ready (rs := [6]) (by kernel_rfl) (by simp) ?_
          refine AllReadyH.cons (o := { dst := some 5, op := Op.alloc 24, type := 0, pos := "ref.go:120", after := #[], guard := none }) rfl (fun K hK => ?_) AllReadyH.nil
          go_simp
          refine hK.out _ _ ?_ (fun g2 => ?_)
          · exact keepr4 (alB _ _) g1
          clear hK K g2
          try simp only [Act.put, List.setIfInBounds_toArray, List.set_cons_zero, List.set_cons_succ]
          refine wpAnyH_ready (rs := [7]) (by kernel_rfl) (by simp) ?_
          refine AllReadyH.cons (o := { dst := none, op := Op.store 24 (Operand.tmp 5) (Operand.tmp 23), type := 0, pos := "ref.go:120", after := #[{ on := 6, ground := Ground.data }, { on := 5, ground := Ground.data }, { on := 4, ground := Ground.chain }, { on := 0, ground := Ground.phase }, { on := 1, ground := Ground.phase }, { on := 2, ground := Ground.phase }, { on := 3, ground := Ground.phase }, { on := 4, ground := Ground.phase }, { on := 5, ground := Ground.phase }, { on := 6, ground := Ground.phase }], guard := none }) rfl (fun K hK => ?_) AllReadyH.nil
          go_simp
          refine hK.out _ _ ?_ (fun g9 => ?_)
          · exact keepr4 (alB _ _) g1
          clear hK K
          try simp only [Act.put, List.setIfInBounds_toArray, List.set_cons_zero, List.set_cons_succ]
          refine wpAnyH_done (by kernel_rfl) ?_ _
          obtain ⟨n0, n1, n2, n3⟩ := new_two (w := t1) (t := 24) (x := .int .u64 a.lo) (y := .int .u64 p)
          have D0 := Lib.hid n0
          have D1 := Lib.hid n1
          have D2 := Lib.hid n2
          have D3 := Lib.hid n3
          have KA := Lib.hid g9
          clear g9 g1 n0 n1 n2 n3
          generalize (t1.alloc (.cells #[.int .u64 a.lo, .int .u64 p] 24)) = y1 at *
          obtain ⟨-, -, c10, c11, c20, c21, f0, f1, HB0⟩ := KA.out
          have HB := Lib.hid HB0
          clear HB0 KA
          have d0 := D0.out
          have d1 := D1.out
          have f2 := D2.out
          have f3 := D3.out
          clear D0 D1 D2 D3
          go_wp2_with fail
          refine wp_region_held_drew (S := fun w' => w'.cell? ⟨w.heap.size + 1, 0, none⟩ = some (.int .u64 b.lo) ∧ w'.cell? ⟨w.heap.size + 1, 1, none⟩ = some (.int .u64 b.hi) ∧ w'.cell? ⟨t1.heap.size, 0, none⟩ = some (.int .u64 a.lo) ∧ w'.cell? ⟨t1.heap.size, 1, none⟩ = some (.int .u64 p) ∧ w'.cell? ⟨w.heap.size + 1 + 1, 0, none⟩ = some (cv w' (w.heap.size + 1 + 1) 0) ∧ w'.cell? ⟨w.heap.size + 1 + 1, 1, none⟩ = some (cv w' (w.heap.size + 1 + 1) 1) ∧ w'.frozen? ⟨w.heap.size + 1 + 1, 0, none⟩ = false ∧ w'.frozen? ⟨w.heap.size + 1 + 1, 1, none⟩ = false ∧ w'.cell? ⟨t1.heap.size, 0, none⟩ = some (cv w' (t1.heap.size) 0) ∧ w'.cell? ⟨t1.heap.size, 1, none⟩ = some (cv w' (t1.heap.size) 1) ∧ w'.frozen? ⟨t1.heap.size, 0, none⟩ = false ∧ w'.frozen? ⟨t1.heap.size, 1, none⟩ = false ∧ Below w.heap.size w w') (by kernel_rfl) ?_ (fun hHeld => ?_)
          · exact ⟨c10, c11, d0, d1, cv_some c20, cv_some c21, f0, f1, cv_some d0, cv_some d1, f2, f3, HB.out.drew⟩
          refine wpAnyH_take (i := 0) (oi := { dst := some 32, op := Op.fieldAddr 24 (Operand.tmp 3) 1, type := 0, pos := "ref.go:124", after := #[], guard := none }) (v := ?_) rfl (by kernel_rfl) (by kernel_rfl) (by kernel_rfl) (fun _ _ _ h => h) (Or.inl ⟨by rfl, ?_⟩) hHeld ?_
          rotate_left
          · intro w9 hSw
            try dsimp only at hSw
            go_simp
            try with_reducible rfl
          try simp only [Act.put, List.setIfInBounds_toArray, List.set_cons_zero, List.set_cons_succ]
          refine wpAnyH_take (i := 1) (oi := { dst := some 33, op := Op.load 22 (Operand.tmp 32), type := 22, pos := "ref.go:124", after := #[{ on := 0, ground := Ground.data }], guard := none }) (v := ?_) rfl (by kernel_rfl) (by kernel_rfl) (by kernel_rfl) (fun _ _ _ h => h) (Or.inl ⟨by rfl, ?_⟩) hHeld ?_
          rotate_left
          · intro w9 hSw
            try dsimp only at hSw
            go_simp
            try with_reducible rfl
          try simp only [Act.put, List.setIfInBounds_toArray, List.set_cons_zero, List.set_cons_succ]
          refine wpAnyH_take (i := 3) (oi := { dst := some 35, op := Op.fieldAddr 24 (Operand.tmp 5) 1, type := 0, pos := "ref.go:124", after := #[], guard := none }) (v := ?_) rfl (by kernel_rfl) (by kernel_rfl) (by kernel_rfl) (fun _ _ _ h => h) (Or.inl ⟨by rfl, ?_⟩) hHeld ?_
          rotate_left
          · intro w9 hSw
            try dsimp only at hSw
            go_simp
            try with_reducible rfl
          try simp only [Act.put, List.setIfInBounds_toArray, List.set_cons_zero, List.set_cons_succ]
          refine wpAnyH_take (i := 4) (oi := { dst := some 36, op := Op.load 22 (Operand.tmp 35), type := 22, pos := "ref.go:124", after := #[{ on := 3, ground := Ground.data }], guard := none }) (v := ?_) rfl (by kernel_rfl) (by kernel_rfl) (by kernel_rfl) (fun _ _ _ h => h) (Or.inl ⟨by rfl, ?_⟩) hHeld ?_
          rotate_left
          · intro w9 hSw
            try dsimp only at hSw
            go_simp
            try with_reducible rfl
          try simp only [Act.put, List.setIfInBounds_toArray, List.set_cons_zero, List.set_cons_succ]
          refine wpAnyH_ready (rs := [2]) (by kernel_rfl) (by simp) ?_
          refine AllReadyH.cons (o := { dst := some 34, op := Op.call { callee := Callee.value (Operand.func 86), args := #[Operand.tmp 33], argTypes := #[22] }, type := 22, pos := "ref.go:124", after := #[{ on := 1, ground := Ground.data }], guard := none }) rfl (fun K hK => ?_) AllReadyH.nil
          go_simp
          (go_at_call 86; with_reducible refine (rfull_b b.hi q (by omega) (by omega) HQ.out _).mono ?_; rintro e z1 ⟨rfl, qb⟩)
          refine hK.out _ _ ?_ (fun g1 => ?_)
          · exact two_keep qb hHeld
          clear hK K qb
          skip
          try simp only [Act.put, List.setIfInBounds_toArray, List.set_cons_zero, List.set_cons_succ]
          refine wpAnyH_take (i := 5) (oi := { dst := some 37, op := Op.binOp BinOp.gtr 22 (Operand.tmp 34) (Operand.tmp 36) 22, type := 4, pos := "ref.go:124", after := #[{ on := 2, ground := Ground.data }, { on := 4, ground := Ground.data }], guard := none }) (v := ?_) rfl (by kernel_rfl) (by kernel_rfl) (by kernel_rfl) (fun _ _ _ h => h) (Or.inl ⟨by rfl, ?_⟩) g1 ?_
          rotate_left
          · intro w9 hSw
            try dsimp only at hSw
            go_simp
            try with_reducible rfl
          try simp only [Act.put, List.setIfInBounds_toArray, List.set_cons_zero, List.set_cons_succ]
          refine wpAnyH_done (by kernel_rfl) ?_ _
          have KA := Lib.hid g1
          clear g1 c10 c11 d0 d1 c20 c21 f0 f1 f2 f3 HB
          obtain ⟨c10, c11, d0, d1, c20, c21, f0, f1, -, -, f2, f3, HB0⟩ := KA.out
          have HB := Lib.hid HB0
          clear HB0 KA
          generalize z1 = y3 at *
          go_wp2_with fail
          refine (rfull_to b.hi q (by omega) (by omega) HQ.out _).mono ?_
          rintro e w' ⟨rfl, rfl⟩
          go_wp2_with fail
          replace c20 := (World.cell?_setCell_other y3 ⟨t1.heap.size, 1, none⟩ ⟨w.heap.size + 1 + 1, 0, none⟩ (.int .u64 q) (fun e => by injection e with e1 _ _; omega)).trans c20
          replace c21 := (World.cell?_setCell_other y3 ⟨t1.heap.size, 1, none⟩ ⟨w.heap.size + 1 + 1, 1, none⟩ (.int .u64 q) (fun e => by injection e with e1 _ _; omega)).trans c21
          replace HB := Lib.hid (HB.out.setCell (p := ⟨t1.heap.size, 1, none⟩) (show w.heap.size ≤ t1.heap.size by omega) (.int .u64 q))
          have r0 : ∀ u v, (((y3.setCell ⟨t1.heap.size, 1, none⟩ (.int .u64 q)).setCell ⟨w.heap.size + 1 + 1, 0, none⟩ u).setCell ⟨w.heap.size + 1 + 1, 1, none⟩ v).cell? ⟨w.heap.size + 1 + 1, 0, none⟩ = some u := fun u v => set_fst c20
          have r1 : ∀ u v, (((y3.setCell ⟨t1.heap.size, 1, none⟩ (.int .u64 q)).setCell ⟨w.heap.size + 1 + 1, 0, none⟩ u).setCell ⟨w.heap.size + 1 + 1, 1, none⟩ v).cell? ⟨w.heap.size + 1 + 1, 1, none⟩ = some v := fun u v => set_snd c21
          refine bodyPost_ret (by simp [results, Try.results34, r0, r1, go_sem]; try rfl) rfl ?_
          exact ⟨rt_u (by omega) (by omega), below_st2 HB.out (by omega)⟩
        · go_simp
          refine hK.out _ _ ?_ (fun g1 => ?_)
          · exact keepr4 (alB _ _) hHeld
          clear hK K hHeld
          try simp only [Act.put, List.setIfInBounds_toArray, List.set_cons_zero, List.set_cons_succ]
          obtain ⟨n0, n1, n2, n3⟩ := new_two (w := z0) (t := 24) (x := .int .u64 0) (y := .int .u64 0)
          refine wpAnyH_ready (rs := [4]) (by kernel_rfl) (by simp) ?_
          refine AllReadyH.cons (o := { dst := some 22, op := Op.call { callee := Callee.value (Operand.func 86), args := #[Operand.tmp 21], argTypes := #[22] }, type := 22, pos := "ref.go:120", after := #[{ on := 3, ground := Ground.data }], guard := none }) rfl (fun K hK => ?_) AllReadyH.nil
          go_simp
          (go_at_call 86; with_reducible refine (rfull_b a.hi p (by omega) (by omega) HP.out _).mono ?_; rintro e t1 ⟨rfl, qb⟩)
          refine hK.out _ _ ?_ (fun g2 => ?_)
          · exact keepr4 qb g1
          replace n2 := keepf qb (World.block_lt_of_cell? _ _ n0) n2
          replace n3 := keepf qb (World.block_lt_of_cell? _ _ n1) n3
          replace n0 := keep1 qb n0
          replace n1 := keep1 qb n1
          clear hK K qb g1
          try simp only [Act.put, List.setIfInBounds_toArray, List.set_cons_zero, List.set_cons_succ]
          refine wpAnyH_take (i := 5) (oi := { dst := some 23, op := Op.build 24 #[(0, Operand.tmp 19), (1, Operand.tmp 22)], type := 24, pos := "ref.go:120", after := #[{ on := 1, ground := Ground.data }, { on := 4, ground := Ground.data }], guard := none }) (v := ?_) rfl (by kernel_rfl) (by kernel_rfl) (by kernel_rfl) (fun _ _ _ h => h) (Or.inl ⟨by rfl, ?_⟩) g2 ?_
          rotate_left
          · intro w9 hSw
            try dsimp only at hSw
            go_simp
            try with_reducible rfl
          try simp only [Act.put, List.setIfInBounds_toArray, List.set_cons_zero, List.set_cons_succ]
          refine wpAnyH_ready (rs := [7]) (by kernel_rfl) (by simp) ?_
          refine AllReadyH.cons (o := { dst := none, op := Op.store 24 (Operand.tmp 5) (Operand.tmp 23), type := 0, pos := "ref.go:120", after := #[{ on := 6, ground := Ground.data }, { on := 5, ground := Ground.data }, { on := 4, ground := Ground.chain }, { on := 0, ground := Ground.phase }, { on := 1, ground := Ground.phase }, { on := 2, ground := Ground.phase }, { on := 3, ground := Ground.phase }, { on := 4, ground := Ground.phase }, { on := 5, ground := Ground.phase }, { on := 6, ground := Ground.phase }], guard := none }) rfl (fun K hK => ?_) AllReadyH.nil
          go_simp
          refine hK.out _ _ ?_ (fun g9 => ?_)
          · exact farr4 (by omega) (by omega) (by omega) (by omega) g2
          clear hK K
          try simp only [Act.put, List.setIfInBounds_toArray, List.set_cons_zero, List.set_cons_succ]
          refine wpAnyH_done (by kernel_rfl) ?_ _
          have D0 := Lib.hid (set_fst (u := .int .u64 a.lo) (v := .int .u64 p) n0)
          have D1 := Lib.hid (set_snd (u := .int .u64 a.lo) (v := .int .u64 p) n1)
          have D2 := Lib.hid ((fz2 t1 (z0.heap.size) (.int .u64 a.lo) (.int .u64 p)).trans n2)
          have D3 := Lib.hid ((fz2 t1 (z0.heap.size) (.int .u64 a.lo) (.int .u64 p)).trans n3)
          have KA := Lib.hid g9
          clear g9 g2 n0 n1 n2 n3
          generalize ((t1.setCell ⟨z0.heap.size, 0, none⟩ (.int .u64 a.lo)).setCell ⟨z0.heap.size, 1, none⟩ (.int .u64 p)) = y1 at *
          obtain ⟨-, -, c10, c11, c20, c21, f0, f1, HB0⟩ := KA.out
          have HB := Lib.hid HB0
          clear HB0 KA
          have d0 := D0.out
          have d1 := D1.out
          have f2 := D2.out
          have f3 := D3.out
          clear D0 D1 D2 D3
          go_wp2_with fail
          refine wp_region_held_drew (S := fun w' => w'.cell? ⟨w.heap.size + 1, 0, none⟩ = some (.int .u64 b.lo) ∧ w'.cell? ⟨w.heap.size + 1, 1, none⟩ = some (.int .u64 b.hi) ∧ w'.cell? ⟨z0.heap.size, 0, none⟩ = some (.int .u64 a.lo) ∧ w'.cell? ⟨z0.heap.size, 1, none⟩ = some (.int .u64 p) ∧ w'.cell? ⟨w.heap.size + 1 + 1, 0, none⟩ = some (cv w' (w.heap.size + 1 + 1) 0) ∧ w'.cell? ⟨w.heap.size + 1 + 1, 1, none⟩ = some (cv w' (w.heap.size + 1 + 1) 1) ∧ w'.frozen? ⟨w.heap.size + 1 + 1, 0, none⟩ = false ∧ w'.frozen? ⟨w.heap.size + 1 + 1, 1, none⟩ = false ∧ w'.cell? ⟨z0.heap.size, 0, none⟩ = some (cv w' (z0.heap.size) 0) ∧ w'.cell? ⟨z0.heap.size, 1, none⟩ = some (cv w' (z0.heap.size) 1) ∧ w'.frozen? ⟨z0.heap.size, 0, none⟩ = false ∧ w'.frozen? ⟨z0.heap.size, 1, none⟩ = false ∧ Below w.heap.size w w') (by kernel_rfl) ?_ (fun hHeld => ?_)
          · exact ⟨c10, c11, d0, d1, cv_some c20, cv_some c21, f0, f1, cv_some d0, cv_some d1, f2, f3, HB.out.drew⟩
          refine wpAnyH_take (i := 0) (oi := { dst := some 32, op := Op.fieldAddr 24 (Operand.tmp 3) 1, type := 0, pos := "ref.go:124", after := #[], guard := none }) (v := ?_) rfl (by kernel_rfl) (by kernel_rfl) (by kernel_rfl) (fun _ _ _ h => h) (Or.inl ⟨by rfl, ?_⟩) hHeld ?_
          rotate_left
          · intro w9 hSw
            try dsimp only at hSw
            go_simp
            try with_reducible rfl
          try simp only [Act.put, List.setIfInBounds_toArray, List.set_cons_zero, List.set_cons_succ]
          refine wpAnyH_take (i := 1) (oi := { dst := some 33, op := Op.load 22 (Operand.tmp 32), type := 22, pos := "ref.go:124", after := #[{ on := 0, ground := Ground.data }], guard := none }) (v := ?_) rfl (by kernel_rfl) (by kernel_rfl) (by kernel_rfl) (fun _ _ _ h => h) (Or.inl ⟨by rfl, ?_⟩) hHeld ?_
          rotate_left
          · intro w9 hSw
            try dsimp only at hSw
            go_simp
            try with_reducible rfl
          try simp only [Act.put, List.setIfInBounds_toArray, List.set_cons_zero, List.set_cons_succ]
          refine wpAnyH_take (i := 3) (oi := { dst := some 35, op := Op.fieldAddr 24 (Operand.tmp 5) 1, type := 0, pos := "ref.go:124", after := #[], guard := none }) (v := ?_) rfl (by kernel_rfl) (by kernel_rfl) (by kernel_rfl) (fun _ _ _ h => h) (Or.inl ⟨by rfl, ?_⟩) hHeld ?_
          rotate_left
          · intro w9 hSw
            try dsimp only at hSw
            go_simp
            try with_reducible rfl
          try simp only [Act.put, List.setIfInBounds_toArray, List.set_cons_zero, List.set_cons_succ]
          refine wpAnyH_take (i := 4) (oi := { dst := some 36, op := Op.load 22 (Operand.tmp 35), type := 22, pos := "ref.go:124", after := #[{ on := 3, ground := Ground.data }], guard := none }) (v := ?_) rfl (by kernel_rfl) (by kernel_rfl) (by kernel_rfl) (fun _ _ _ h => h) (Or.inl ⟨by rfl, ?_⟩) hHeld ?_
          rotate_left
          · intro w9 hSw
            try dsimp only at hSw
            go_simp
            try with_reducible rfl
          try simp only [Act.put, List.setIfInBounds_toArray, List.set_cons_zero, List.set_cons_succ]
          refine wpAnyH_ready (rs := [2]) (by kernel_rfl) (by simp) ?_
          refine AllReadyH.cons (o := { dst := some 34, op := Op.call { callee := Callee.value (Operand.func 86), args := #[Operand.tmp 33], argTypes := #[22] }, type := 22, pos := "ref.go:124", after := #[{ on := 1, ground := Ground.data }], guard := none }) rfl (fun K hK => ?_) AllReadyH.nil
          go_simp
          (go_at_call 86; with_reducible refine (rfull_b b.hi q (by omega) (by omega) HQ.out _).mono ?_; rintro e z1 ⟨rfl, qb⟩)
          refine hK.out _ _ ?_ (fun g1 => ?_)
          · exact two_keep qb hHeld
          clear hK K qb
          skip
          try simp only [Act.put, List.setIfInBounds_toArray, List.set_cons_zero, List.set_cons_succ]
          refine wpAnyH_take (i := 5) (oi := { dst := some 37, op := Op.binOp BinOp.gtr 22 (Operand.tmp 34) (Operand.tmp 36) 22, type := 4, pos := "ref.go:124", after := #[{ on := 2, ground := Ground.data }, { on := 4, ground := Ground.data }], guard := none }) (v := ?_) rfl (by kernel_rfl) (by kernel_rfl) (by kernel_rfl) (fun _ _ _ h => h) (Or.inl ⟨by rfl, ?_⟩) g1 ?_
          rotate_left
          · intro w9 hSw
            try dsimp only at hSw
            go_simp
            try with_reducible rfl
          try simp only [Act.put, List.setIfInBounds_toArray, List.set_cons_zero, List.set_cons_succ]
          refine wpAnyH_done (by kernel_rfl) ?_ _
          have KA := Lib.hid g1
          clear g1 c10 c11 d0 d1 c20 c21 f0 f1 f2 f3 HB
          obtain ⟨c10, c11, d0, d1, c20, c21, f0, f1, -, -, f2, f3, HB0⟩ := KA.out
          have HB := Lib.hid HB0
          clear HB0 KA
          generalize z1 = y3 at *
          go_wp2_with fail
          refine (rfull_to b.hi q (by omega) (by omega) HQ.out _).mono ?_
          rintro e w' ⟨rfl, rfl⟩
          go_wp2_with fail
          replace c20 := (World.cell?_setCell_other y3 ⟨z0.heap.size, 1, none⟩ ⟨w.heap.size + 1 + 1, 0, none⟩ (.int .u64 q) (fun e => by injection e with e1 _ _; omega)).trans c20
          replace c21 := (World.cell?_setCell_other y3 ⟨z0.heap.size, 1, none⟩ ⟨w.heap.size + 1 + 1, 1, none⟩ (.int .u64 q) (fun e => by injection e with e1 _ _; omega)).trans c21
          replace HB := Lib.hid (HB.out.setCell (p := ⟨z0.heap.size, 1, none⟩) (show w.heap.size ≤ z0.heap.size by omega) (.int .u64 q))
          have r0 : ∀ u v, (((y3.setCell ⟨z0.heap.size, 1, none⟩ (.int .u64 q)).setCell ⟨w.heap.size + 1 + 1, 0, none⟩ u).setCell ⟨w.heap.size + 1 + 1, 1, none⟩ v).cell? ⟨w.heap.size + 1 + 1, 0, none⟩ = some u := fun u v => set_fst c20
          have r1 : ∀ u v, (((y3.setCell ⟨z0.heap.size, 1, none⟩ (.int .u64 q)).setCell ⟨w.heap.size + 1 + 1, 0, none⟩ u).setCell ⟨w.heap.size + 1 + 1, 1, none⟩ v).cell? ⟨w.heap.size + 1 + 1, 1, none⟩ = some v := fun u v => set_snd c21
          refine bodyPost_ret (by simp [results, Try.results34, r0, r1, go_sem]; try rfl) rfl ?_
          exact ⟨rt_u (by omega) (by omega), below_st2 HB.out (by omega)⟩
      · skip
        refine wp_region_held_drew (S := fun w' => w'.cell? ⟨w.heap.size, 0, none⟩ = some (.int .u64 a.lo) ∧ w'.cell? ⟨w.heap.size, 1, none⟩ = some (.int .u64 a.hi) ∧ w'.cell? ⟨w.heap.size + 1, 0, none⟩ = some (.int .u64 b.lo) ∧ w'.cell? ⟨w.heap.size + 1, 1, none⟩ = some (.int .u64 b.hi) ∧ w'.cell? ⟨w.heap.size + 1 + 1, 0, none⟩ = some (cv w' (w.heap.size + 1 + 1) 0) ∧ w'.cell? ⟨w.heap.size + 1 + 1, 1, none⟩ = some (cv w' (w.heap.size + 1 + 1) 1) ∧ w'.frozen? ⟨w.heap.size + 1 + 1, 0, none⟩ = false ∧ w'.frozen? ⟨w.heap.size + 1 + 1, 1, none⟩ = false ∧ Below w.heap.size w w') (by kernel_rfl) ?_ (fun hHeld => ?_)
        · exact ⟨c00, c01, c10, c11, cv_some c20, cv_some c21, f0, f1, HB.out.drew⟩
        generalize w1.drew = z0 at *
        refine wpAnyH_take (i := 0) (oi := { dst := some 18, op := Op.fieldAddr 24 (Operand.tmp 2) 0, type := 0, pos := "ref.go:120", after := #[], guard := none }) (v := ?_) rfl (by kernel_rfl) (by kernel_rfl) (by kernel_rfl) (fun _ _ _ h => h) (Or.inl ⟨by rfl, ?_⟩) hHeld ?_
        rotate_left
        · intro w9 hSw
          try dsimp only at hSw
          go_simp
          try with_reducible rfl
        try simp only [Act.put, List.setIfInBounds_toArray, List.set_cons_zero, List.set_cons_succ]
        refine wpAnyH_take (i := 1) (oi := { dst := some 19, op := Op.load 22 (Operand.tmp 18), type := 22, pos := "ref.go:120", after := #[{ on := 0, ground := Ground.data }], guard := none }) (v := ?_) rfl (by kernel_rfl) (by kernel_rfl) (by kernel_rfl) (fun _ _ _ h => h) (Or.inl ⟨by rfl, ?_⟩) hHeld ?_
        rotate_left
        · intro w9 hSw
          try dsimp only at hSw
          go_simp
          try with_reducible rfl
        try simp only [Act.put, List.setIfInBounds_toArray, List.set_cons_zero, List.set_cons_succ]
        refine wpAnyH_take (i := 2) (oi := { dst := some 20, op := Op.fieldAddr 24 (Operand.tmp 2) 1, type := 0, pos := "ref.go:120", after := #[], guard := none }) (v := ?_) rfl (by kernel_rfl) (by kernel_rfl) (by kernel_rfl) (fun _ _ _ h => h) (Or.inl ⟨by rfl, ?_⟩) hHeld ?_
        rotate_left
        · intro w9 hSw
          try dsimp only at hSw
          go_simp
          try with_reducible rfl
        try simp only [Act.put, List.setIfInBounds_toArray, List.set_cons_zero, List.set_cons_succ]
        refine wpAnyH_take (i := 3) (oi := { dst := some 21, op := Op.load 22 (Operand.tmp 20), type := 22, pos := "ref.go:120", after := #[{ on := 2, ground := Ground.data }], guard := none }) (v := ?_) rfl (by kernel_rfl) (by kernel_rfl) (by kernel_rfl) (fun _ _ _ h => h) (Or.inl ⟨by rfl, ?_⟩) hHeld ?_
        rotate_left
        · intro w9 hSw
          try dsimp only at hSw
          go_simp
          try with_reducible rfl
        try simp only [Act.put, List.setIfInBounds_toArray, List.set_cons_zero, List.set_cons_succ]
        clear c00 c01 c10 c11 c20 c21 f0 f1 HB
        have hsz := World.block_lt_of_cell? _ _ hHeld.1
        have hsz1 := World.block_lt_of_cell? _ _ hHeld.2.2.1
        have hsz2 := World.block_lt_of_cell? _ _ hHeld.2.2.2.2.1
        dsimp only at hsz hsz1 hsz2
        refine wpAnyH_ready (rs := [4, 6]) (by kernel_rfl) (by simp) ?_
        refine AllReadyH.cons (o := { dst := some 22, op := Op.call { callee := Callee.value (Operand.func 86), args := #[Operand.tmp 21], argTypes := #[22] }, type := 22, pos := "ref.go:120", after := #[{ on := 3, ground := Ground.data }], guard := none }) rfl (fun K hK => ?_) (AllReadyH.cons (o := { dst := some 5, op := Op.alloc 24, type := 0, pos := "ref.go:120", after := #[], guard := none }) rfl (fun K hK => ?_) AllReadyH.nil)
        · go_simp
          (go_at_call 86; with_reducible refine (rfull_b a.hi p (by omega) (by omega) HP.out _).mono ?_; rintro e t1 ⟨rfl, qb⟩)
          have hs1 := qb.size
          refine hK.out _ _ ?_ (fun g1 => ?_)
          · exact keepr4 qb hHeld
          clear hK K qb hHeld
          try simp only [Act.put, List.setIfInBounds_toArray, List.set_cons_zero, List.set_cons_succ]
          refine wpAnyH_take (i := 5) (oi := { dst := some 23, op := Op.build 24 #[(0, Operand.tmp 19), (1, Operand.tmp 22)], type := 24, pos := "ref.go:120", after := #[{ on := 1, ground := Ground.data }, { on := 4, ground := Ground.data }], guard := none }) (v := ?_) rfl (by kernel_rfl) (by kernel_rfl) (by kernel_rfl) (fun _ _ _ h => h) (Or.inl ⟨by rfl, ?_⟩) g1 ?_
          rotate_left
          · intro w9 hSw
            try dsimp only at hSw
            go_simp
            try with_reducible rfl
          try simp only [Act.put, List.setIfInBounds_toArray, List.set_cons_zero, List.set_cons_succ]
          refine wpAnyH_ready (rs := [6]) (by kernel_rfl) (by simp) ?_
          refine AllReadyH.cons (o := { dst := some 5, op := Op.alloc 24, type := 0, pos := "ref.go:120", after := #[], guard := none }) rfl (fun K hK => ?_) AllReadyH.nil
          go_simp
          refine hK.out _ _ ?_ (fun g2 => ?_)
          · exact keepr4 (alB _ _) g1
          clear hK K g2
          try simp only [Act.put, List.setIfInBounds_toArray, List.set_cons_zero, List.set_cons_succ]
          refine wpAnyH_ready (rs := [7]) (by kernel_rfl) (by simp) ?_
          refine AllReadyH.cons (o := { dst := none, op := Op.store 24 (Operand.tmp 5) (Operand.tmp 23), type := 0, pos := "ref.go:120", after := #[{ on := 6, ground := Ground.data }, { on := 5, ground := Ground.data }, { on := 4, ground := Ground.chain }, { on := 0, ground := Ground.phase }, { on := 1, ground := Ground.phase }, { on := 2, ground := Ground.phase }, { on := 3, ground := Ground.phase }, { on := 4, ground := Ground.phase }, { on := 5, ground := Ground.phase }, { on := 6, ground := Ground.phase }], guard := none }) rfl (fun K hK => ?_) AllReadyH.nil
          go_simp
          refine hK.out _ _ ?_ (fun g9 => ?_)
          · exact keepr4 (alB _ _) g1
          clear hK K
          try simp only [Act.put, List.setIfInBounds_toArray, List.set_cons_zero, List.set_cons_succ]
          refine wpAnyH_done (by kernel_rfl) ?_ _
          obtain ⟨n0, n1, n2, n3⟩ := new_two (w := t1) (t := 24) (x := .int .u64 a.lo) (y := .int .u64 p)
          have D0 := Lib.hid n0
          have D1 := Lib.hid n1
          have D2 := Lib.hid n2
          have D3 := Lib.hid n3
          have KA := Lib.hid g9
          clear g9 g1 n0 n1 n2 n3
          generalize (t1.alloc (.cells #[.int .u64 a.lo, .int .u64 p] 24)) = y1 at *
          obtain ⟨-, -, c10, c11, c20, c21, f0, f1, HB0⟩ := KA.out
          have HB := Lib.hid HB0
          clear HB0 KA
          have d0 := D0.out
          have d1 := D1.out
          have f2 := D2.out
          have f3 := D3.out
          clear D0 D1 D2 D3
          go_wp2_with fail
          refine wp_region_held_drew (S := fun w' => w'.cell? ⟨w.heap.size + 1, 0, none⟩ = some (.int .u64 b.lo) ∧ w'.cell? ⟨w.heap.size + 1, 1, none⟩ = some (.int .u64 b.hi) ∧ w'.cell? ⟨t1.heap.size, 0, none⟩ = some (.int .u64 a.lo) ∧ w'.cell? ⟨t1.heap.size, 1, none⟩ = some (.int .u64 p) ∧ w'.cell? ⟨w.heap.size + 1 + 1, 0, none⟩ = some (cv w' (w.heap.size + 1 + 1) 0) ∧ w'.cell? ⟨w.heap.size + 1 + 1, 1, none⟩ = some (cv w' (w.heap.size + 1 + 1) 1) ∧ w'.frozen? ⟨w.heap.size + 1 + 1, 0, none⟩ = false ∧ w'.frozen? ⟨w.heap.size + 1 + 1, 1, none⟩ = false ∧ w'.cell? ⟨t1.heap.size, 0, none⟩ = some (cv w' (t1.heap.size) 0) ∧ w'.cell? ⟨t1.heap.size, 1, none⟩ = some (cv w' (t1.heap.size) 1) ∧ w'.frozen? ⟨t1.heap.size, 0, none⟩ = false ∧ w'.frozen? ⟨t1.heap.size, 1, none⟩ = false ∧ Below w.heap.size w w') (by kernel_rfl) ?_ (fun hHeld => ?_)
          · exact ⟨c10, c11, d0, d1, cv_some c20, cv_some c21, f0, f1, cv_some d0, cv_some d1, f2, f3, HB.out.drew⟩
          refine wpAnyH_take (i := 0) (oi := { dst := some 32, op := Op.fieldAddr 24 (Operand.tmp 3) 1, type := 0, pos := "ref.go:124", after := #[], guard := none }) (v := ?_) rfl (by kernel_rfl) (by kernel_rfl) (by kernel_rfl) (fun _ _ _ h => h) (Or.inl ⟨by rfl, ?_⟩) hHeld ?_
          rotate_left
          · intro w9 hSw
            try dsimp only at hSw
            go_simp
            try with_reducible rfl
          try simp only [Act.put, List.setIfInBounds_toArray, List.set_cons_zero, List.set_cons_succ]
          refine wpAnyH_take (i := 1) (oi := { dst := some 33, op := Op.load 22 (Operand.tmp 32), type := 22, pos := "ref.go:124", after := #[{ on := 0, ground := Ground.data }], guard := none }) (v := ?_) rfl (by kernel_rfl) (by kernel_rfl) (by kernel_rfl) (fun _ _ _ h => h) (Or.inl ⟨by rfl, ?_⟩) hHeld ?_
          rotate_left
          · intro w9 hSw
            try dsimp only at hSw
            go_simp
            try with_reducible rfl
          try simp only [Act.put, List.setIfInBounds_toArray, List.set_cons_zero, List.set_cons_succ]
          refine wpAnyH_take (i := 3) (oi := { dst := some 35, op := Op.fieldAddr 24 (Operand.tmp 5) 1, type := 0, pos := "ref.go:124", after := #[], guard := none }) (v := ?_) rfl (by kernel_rfl) (by kernel_rfl) (by kernel_rfl) (fun _ _ _ h => h) (Or.inl ⟨by rfl, ?_⟩) hHeld ?_
          rotate_left
          · intro w9 hSw
            try dsimp only at hSw
            go_simp
            try with_reducible rfl
          try simp only [Act.put, List.setIfInBounds_toArray, List.set_cons_zero, List.set_cons_succ]
          refine wpAnyH_take (i := 4) (oi := { dst := some 36, op := Op.load 22 (Operand.tmp 35), type := 22, pos := "ref.go:124", after := #[{ on := 3, ground := Ground.data }], guard := none }) (v := ?_) rfl (by kernel_rfl) (by kernel_rfl) (by kernel_rfl) (fun _ _ _ h => h) (Or.inl ⟨by rfl, ?_⟩) hHeld ?_
          rotate_left
          · intro w9 hSw
            try dsimp only at hSw
            go_simp
            try with_reducible rfl
          try simp only [Act.put, List.setIfInBounds_toArray, List.set_cons_zero, List.set_cons_succ]
          refine wpAnyH_ready (rs := [2]) (by kernel_rfl) (by simp) ?_
          refine AllReadyH.cons (o := { dst := some 34, op := Op.call { callee := Callee.value (Operand.func 86), args := #[Operand.tmp 33], argTypes := #[22] }, type := 22, pos := "ref.go:124", after := #[{ on := 1, ground := Ground.data }], guard := none }) rfl (fun K hK => ?_) AllReadyH.nil
          go_simp
          (go_at_call 86; with_reducible refine (rfull_b b.hi q (by omega) (by omega) HQ.out _).mono ?_; rintro e z1 ⟨rfl, qb⟩)
          refine hK.out _ _ ?_ (fun g1 => ?_)
          · exact two_keep qb hHeld
          clear hK K qb
          skip
          try simp only [Act.put, List.setIfInBounds_toArray, List.set_cons_zero, List.set_cons_succ]
          refine wpAnyH_take (i := 5) (oi := { dst := some 37, op := Op.binOp BinOp.gtr 22 (Operand.tmp 34) (Operand.tmp 36) 22, type := 4, pos := "ref.go:124", after := #[{ on := 2, ground := Ground.data }, { on := 4, ground := Ground.data }], guard := none }) (v := ?_) rfl (by kernel_rfl) (by kernel_rfl) (by kernel_rfl) (fun _ _ _ h => h) (Or.inl ⟨by rfl, ?_⟩) g1 ?_
          rotate_left
          · intro w9 hSw
            try dsimp only at hSw
            go_simp
            try with_reducible rfl
          try simp only [Act.put, List.setIfInBounds_toArray, List.set_cons_zero, List.set_cons_succ]
          refine wpAnyH_done (by kernel_rfl) ?_ _
          have KA := Lib.hid g1
          clear g1 c10 c11 d0 d1 c20 c21 f0 f1 f2 f3 HB
          obtain ⟨c10, c11, d0, d1, c20, c21, f0, f1, -, -, f2, f3, HB0⟩ := KA.out
          have HB := Lib.hid HB0
          clear HB0 KA
          generalize z1 = y3 at *
          go_wp2_with fail
          have r0 : ∀ u v, ((y3.setCell ⟨w.heap.size + 1 + 1, 0, none⟩ u).setCell ⟨w.heap.size + 1 + 1, 1, none⟩ v).cell? ⟨w.heap.size + 1 + 1, 0, none⟩ = some u := fun u v => set_fst c20
          have r1 : ∀ u v, ((y3.setCell ⟨w.heap.size + 1 + 1, 0, none⟩ u).setCell ⟨w.heap.size + 1 + 1, 1, none⟩ v).cell? ⟨w.heap.size + 1 + 1, 1, none⟩ = some v := fun u v => set_snd c21
          refine bodyPost_ret (by simp [results, Try.results34, r0, r1, go_sem]; try rfl) rfl ?_
          exact ⟨rt_u (by omega) (by omega), below_st2 HB.out (by omega)⟩
        · go_simp
          refine hK.out _ _ ?_ (fun g1 => ?_)
          · exact keepr4 (alB _ _) hHeld
          clear hK K hHeld
          try simp only [Act.put, List.setIfInBounds_toArray, List.set_cons_zero, List.set_cons_succ]
          obtain ⟨n0, n1, n2, n3⟩ := new_two (w := z0) (t := 24) (x := .int .u64 0) (y := .int .u64 0)
          refine wpAnyH_ready (rs := [4]) (by kernel_rfl) (by simp) ?_
          refine AllReadyH.cons (o := { dst := some 22, op := Op.call { callee := Callee.value (Operand.func 86), args := #[Operand.tmp 21], argTypes := #[22] }, type := 22, pos := "ref.go:120", after := #[{ on := 3, ground := Ground.data }], guard := none }) rfl (fun K hK => ?_) AllReadyH.nil
          go_simp
          (go_at_call 86; with_reducible refine (rfull_b a.hi p (by omega) (by omega) HP.out _).mono ?_; rintro e t1 ⟨rfl, qb⟩)
          refine hK.out _ _ ?_ (fun g2 => ?_)
          · exact keepr4 qb g1
          replace n2 := keepf qb (World.block_lt_of_cell? _ _ n0) n2
          replace n3 := keepf qb (World.block_lt_of_cell? _ _ n1) n3
          replace n0 := keep1 qb n0
          replace n1 := keep1 qb n1
          clear hK K qb g1
          try simp only [Act.put, List.setIfInBounds_toArray, List.set_cons_zero, List.set_cons_succ]
          refine wpAnyH_take (i := 5) (oi := { dst := some 23, op := Op.build 24 #[(0, Operand.tmp 19), (1, Operand.tmp 22)], type := 24, pos := "ref.go:120", after := #[{ on := 1, ground := Ground.data }, { on := 4, ground := Ground.data }], guard := none }) (v := ?_) rfl (by kernel_rfl) (by kernel_rfl) (by kernel_rfl) (fun _ _ _ h => h) (Or.inl ⟨by rfl, ?_⟩) g2 ?_
          rotate_left
          · intro w9 hSw
            try dsimp only at hSw
            go_simp
            try with_reducible rfl
          try simp only [Act.put, List.setIfInBounds_toArray, List.set_cons_zero, List.set_cons_succ]
          refine wpAnyH_ready (rs := [7]) (by kernel_rfl) (by simp) ?_
          refine AllReadyH.cons (o := { dst := none, op := Op.store 24 (Operand.tmp 5) (Operand.tmp 23), type := 0, pos := "ref.go:120", after := #[{ on := 6, ground := Ground.data }, { on := 5, ground := Ground.data }, { on := 4, ground := Ground.chain }, { on := 0, ground := Ground.phase }, { on := 1, ground := Ground.phase }, { on := 2, ground := Ground.phase }, { on := 3, ground := Ground.phase }, { on := 4, ground := Ground.phase }, { on := 5, ground := Ground.phase }, { on := 6, ground := Ground.phase }], guard := none }) rfl (fun K hK => ?_) AllReadyH.nil
          go_simp
          refine hK.out _ _ ?_ (fun g9 => ?_)
          · exact farr4 (by omega) (by omega) (by omega) (by omega) g2
          clear hK K
          try simp only [Act.put, List.setIfInBounds_toArray, List.set_cons_zero, List.set_cons_succ]
          refine wpAnyH_done (by kernel_rfl) ?_ _
          have D0 := Lib.hid (set_fst (u := .int .u64 a.lo) (v := .int .u64 p) n0)
          have D1 := Lib.hid (set_snd (u := .int .u64 a.lo) (v := .int .u64 p) n1)
          have D2 := Lib.hid ((fz2 t1 (z0.heap.size) (.int .u64 a.lo) (.int .u64 p)).trans n2)
          have D3 := Lib.hid ((fz2 t1 (z0.heap.size) (.int .u64 a.lo) (.int .u64 p)).trans n3)
          have KA := Lib.hid g9
          clear g9 g2 n0 n1 n2 n3
          generalize ((t1.setCell ⟨z0.heap.size, 0, none⟩ (.int .u64 a.lo)).setCell ⟨z0.heap.size, 1, none⟩ (.int .u64 p)) = y1 at *
          obtain ⟨-, -, c10, c11, c20, c21, f0, f1, HB0⟩ := KA.out
          have HB := Lib.hid HB0
          clear HB0 KA
          have d0 := D0.out
          have d1 := D1.out
          have f2 := D2.out
          have f3 := D3.out
          clear D0 D1 D2 D3
          go_wp2_with fail
          refine wp_region_held_drew (S := fun w' => w'.cell? ⟨w.heap.size + 1, 0, none⟩ = some (.int .u64 b.lo) ∧ w'.cell? ⟨w.heap.size + 1, 1, none⟩ = some (.int .u64 b.hi) ∧ w'.cell? ⟨z0.heap.size, 0, none⟩ = some (.int .u64 a.lo) ∧ w'.cell? ⟨z0.heap.size, 1, none⟩ = some (.int .u64 p) ∧ w'.cell? ⟨w.heap.size + 1 + 1, 0, none⟩ = some (cv w' (w.heap.size + 1 + 1) 0) ∧ w'.cell? ⟨w.heap.size + 1 + 1, 1, none⟩ = some (cv w' (w.heap.size + 1 + 1) 1) ∧ w'.frozen? ⟨w.heap.size + 1 + 1, 0, none⟩ = false ∧ w'.frozen? ⟨w.heap.size + 1 + 1, 1, none⟩ = false ∧ w'.cell? ⟨z0.heap.size, 0, none⟩ = some (cv w' (z0.heap.size) 0) ∧ w'.cell? ⟨z0.heap.size, 1, none⟩ = some (cv w' (z0.heap.size) 1) ∧ w'.frozen? ⟨z0.heap.size, 0, none⟩ = false ∧ w'.frozen? ⟨z0.heap.size, 1, none⟩ = false ∧ Below w.heap.size w w') (by kernel_rfl) ?_ (fun hHeld => ?_)
          · exact ⟨c10, c11, d0, d1, cv_some c20, cv_some c21, f0, f1, cv_some d0, cv_some d1, f2, f3, HB.out.drew⟩
          refine wpAnyH_take (i := 0) (oi := { dst := some 32, op := Op.fieldAddr 24 (Operand.tmp 3) 1, type := 0, pos := "ref.go:124", after := #[], guard := none }) (v := ?_) rfl (by kernel_rfl) (by kernel_rfl) (by kernel_rfl) (fun _ _ _ h => h) (Or.inl ⟨by rfl, ?_⟩) hHeld ?_
          rotate_left
          · intro w9 hSw
            try dsimp only at hSw
            go_simp
            try with_reducible rfl
          try simp only [Act.put, List.setIfInBounds_toArray, List.set_cons_zero, List.set_cons_succ]
          refine wpAnyH_take (i := 1) (oi := { dst := some 33, op := Op.load 22 (Operand.tmp 32), type := 22, pos := "ref.go:124", after := #[{ on := 0, ground := Ground.data }], guard := none }) (v := ?_) rfl (by kernel_rfl) (by kernel_rfl) (by kernel_rfl) (fun _ _ _ h => h) (Or.inl ⟨by rfl, ?_⟩) hHeld ?_
          rotate_left
          · intro w9 hSw
            try dsimp only at hSw
            go_simp
            try with_reducible rfl
          try simp only [Act.put, List.setIfInBounds_toArray, List.set_cons_zero, List.set_cons_succ]
          refine wpAnyH_take (i := 3) (oi := { dst := some 35, op := Op.fieldAddr 24 (Operand.tmp 5) 1, type := 0, pos := "ref.go:124", after := #[], guard := none }) (v := ?_) rfl (by kernel_rfl) (by kernel_rfl) (by kernel_rfl) (fun _ _ _ h => h) (Or.inl ⟨by rfl, ?_⟩) hHeld ?_
          rotate_left
          · intro w9 hSw
            try dsimp only at hSw
            go_simp
            try with_reducible rfl
          try simp only [Act.put, List.setIfInBounds_toArray, List.set_cons_zero, List.set_cons_succ]
          refine wpAnyH_take (i := 4) (oi := { dst := some 36, op := Op.load 22 (Operand.tmp 35), type := 22, pos := "ref.go:124", after := #[{ on := 3, ground := Ground.data }], guard := none }) (v := ?_) rfl (by kernel_rfl) (by kernel_rfl) (by kernel_rfl) (fun _ _ _ h => h) (Or.inl ⟨by rfl, ?_⟩) hHeld ?_
          rotate_left
          · intro w9 hSw
            try dsimp only at hSw
            go_simp
            try with_reducible rfl
          try simp only [Act.put, List.setIfInBounds_toArray, List.set_cons_zero, List.set_cons_succ]
          refine wpAnyH_ready (rs := [2]) (by kernel_rfl) (by simp) ?_
          refine AllReadyH.cons (o := { dst := some 34, op := Op.call { callee := Callee.value (Operand.func 86), args := #[Operand.tmp 33], argTypes := #[22] }, type := 22, pos := "ref.go:124", after := #[{ on := 1, ground := Ground.data }], guard := none }) rfl (fun K hK => ?_) AllReadyH.nil
          go_simp
          (go_at_call 86; with_reducible refine (rfull_b b.hi q (by omega) (by omega) HQ.out _).mono ?_; rintro e z1 ⟨rfl, qb⟩)
          refine hK.out _ _ ?_ (fun g1 => ?_)
          · exact two_keep qb hHeld
          clear hK K qb
          skip
          try simp only [Act.put, List.setIfInBounds_toArray, List.set_cons_zero, List.set_cons_succ]
          refine wpAnyH_take (i := 5) (oi := { dst := some 37, op := Op.binOp BinOp.gtr 22 (Operand.tmp 34) (Operand.tmp 36) 22, type := 4, pos := "ref.go:124", after := #[{ on := 2, ground := Ground.data }, { on := 4, ground := Ground.data }], guard := none }) (v := ?_) rfl (by kernel_rfl) (by kernel_rfl) (by kernel_rfl) (fun _ _ _ h => h) (Or.inl ⟨by rfl, ?_⟩) g1 ?_
          rotate_left
          · intro w9 hSw
            try dsimp only at hSw
            go_simp
            try with_reducible rfl
          try simp only [Act.put, List.setIfInBounds_toArray, List.set_cons_zero, List.set_cons_succ]
          refine wpAnyH_done (by kernel_rfl) ?_ _
          have KA := Lib.hid g1
          clear g1 c10 c11 d0 d1 c20 c21 f0 f1 f2 f3 HB
          obtain ⟨c10, c11, d0, d1, c20, c21, f0, f1, -, -, f2, f3, HB0⟩ := KA.out
          have HB := Lib.hid HB0
          clear HB0 KA
          generalize z1 = y3 at *
          go_wp2_with fail
          have r0 : ∀ u v, ((y3.setCell ⟨w.heap.size + 1 + 1, 0, none⟩ u).setCell ⟨w.heap.size + 1 + 1, 1, none⟩ v).cell? ⟨w.heap.size + 1 + 1, 0, none⟩ = some u := fun u v => set_fst c20
          have r1 : ∀ u v, ((y3.setCell ⟨w.heap.size + 1 + 1, 0, none⟩ u).setCell ⟨w.heap.size + 1 + 1, 1, none⟩ v).cell? ⟨w.heap.size + 1 + 1, 1, none⟩ = some v := fun u v => set_snd c21
          refine bodyPost_ret (by simp [results, Try.results34, r0, r1, go_sem]; try rfl) rfl ?_
          exact ⟨rt_u (by omega) (by omega), below_st2 HB.out (by omega)⟩
end Go.Proofs.Ythjjfginenpfjaa
