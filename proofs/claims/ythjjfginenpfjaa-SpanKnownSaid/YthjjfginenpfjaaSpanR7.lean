/-
  What the document's ULsh of layer 4 tells: a contract. Conditions: the ends are numbers of 64 bits, Lo at most Hi.
-/
import Derived.Test.YthjjfginenpfjaaSpanR5
namespace Go.Proofs.Ythjjfginenpfjaa
open Go.RowKit Tn Ow Sp
set_option linter.unusedVariables false
set_option linter.unusedSimpArgs false
theorem bks_keep {w W w2 : World} {b c : Nat} {s t : TypeId} {xs ys : Array Value} (hb : Below W.heap.size W w2) (hh : Bk W b s xs ∧ Bk W c t ys ∧ Below w.heap.size w W) : Bk w2 b s xs ∧ Bk w2 c t ys ∧ Below w.heap.size w w2 :=
  ⟨hh.1.below hb hh.1.lt, hh.2.1.below hb hh.2.1.lt, below_then hh.2.2 hb (Nat.le_refl _)⟩
theorem dbl_pow (x : Int) (j : Nat) : x * 2 ^ (j + 1) = 2 * (x * 2 ^ j) := by rw [Int.pow_succ]; have : x * (2 ^ j * 2) = x * 2 ^ j * 2 := (Int.mul_assoc _ _ _).symm; omega
theorem pow_grow (x : Int) (hx : 0 ≤ x) {j k : Nat} (h : j ≤ k) : x * 2 ^ j ≤ x * 2 ^ k := by
  refine Int.mul_le_mul_of_nonneg_left ?_ hx
  have h2 : (2 : Nat) ^ j ≤ 2 ^ k := Nat.pow_le_pow_right (by decide) h
  have h3 := Int.ofNat_le.2 h2
  rw [pow_cast, pow_cast] at h3
  exact h3
set_option maxHeartbeats 4000000 in
set_option maxRecDepth 100000 in
theorem rulsh_any (a : E) (n : Int) (k : Nat) (hk : n % 64 = (k : Int)) (hn : -9223372036854775808 ≤ n ∧ n ≤ 9223372036854775807) (h0 : okU a) (w : World) :
    Calls Try.prog 36 #[.agg #[.int .u64 a.lo, .int .u64 a.hi], .int .i64 n] w fun e w' => e = .returned (.agg #[.int .u64 (uLsh a k).lo, .int .u64 (uLsh a k).hi]) ∧ Below w.heap.size w w' := by
  obtain ⟨a0, a1, a2⟩ := h0
  have HK := Lib.hid hk
  have HN := Lib.hid hn
  have kb : k ≤ 63 := by omega
  clear hk hn
  go_enter Try.func36, Try.ntmps36
  go_wp2_with fail
  have K0 := ((Bk.new w 24 #[.int .u64 a.lo, .int .u64 a.hi]).alloc (.cells #[.int .u64 0, .int .u64 0] 24))
  have K1 := (Bk.new (w.alloc (.cells #[.int .u64 a.lo, .int .u64 a.hi] 24)) 24 #[.int .u64 0, .int .u64 0])
  rw [World.size_alloc] at K1
  have B0 : Below w.heap.size w ((w.alloc (.cells #[.int .u64 a.lo, .int .u64 a.hi] 24)).alloc (.cells #[.int .u64 0, .int .u64 0] 24)) := by go_grown
  generalize ((w.alloc (.cells #[.int .u64 a.lo, .int .u64 a.hi] 24)).alloc (.cells #[.int .u64 0, .int .u64 0] 24)) = w0 at *
  have H0 := Lib.hid K0
  obtain ⟨c00, c01⟩ := tcells K0
  have H1 := Lib.hid K1
  obtain ⟨c10, c11⟩ := tcells K1
  have HB := Lib.hid B0
  clear K0 K1 B0
  clear c00 c01 c10 c11
  go_wp2_with fail
  go_loopw [5] (fun i wr => ∃ (j : Nat) (x y : Int), j ≤ k ∧ i = .int .i64 j ∧ Hid (x = a.lo * 2 ^ j ∧ y = a.hi * 2 ^ j) ∧ (0 ≤ x ∧ x ≤ y ∧ y ≤ 18446744073709551615) ∧ Hid (Bk wr w.heap.size 24 #[.int .u64 x, .int .u64 y]) ∧ Hid (Bk wr (w.heap.size + 1) 24 #[.int .u64 0, .int .u64 0]) ∧ Hid (Below w.heap.size w wr)) (fun i _ => k - (intOf i).toNat)
  case atStart => exact ⟨0, a.lo, a.hi, Nat.zero_le _, rfl, Lib.hid (by simp), ⟨a0, a1, a2⟩, H0, H1, HB⟩
  case round =>
    clear H0 H1 HB
    obtain ⟨j, x, y, hj, rfl, EX, ⟨x0, x1, x2⟩, H0, H1, HB⟩ := hrel
    obtain ⟨c00, c01⟩ := tcells H0.out
    by_cases hlt : j < k
    · by_cases ht : 9223372036854775808 ≤ y
      · have e1 := Lib.hid (show uLsh a k = uAll by
          unfold uLsh
          rw [if_neg]
          have g1 := dbl_pow a.hi j
          have g2 := pow_grow a.hi (by omega) (show j + 1 ≤ k by omega)
          have g3 := EX.out.2
          omega)
        have d1 : decide (9223372036854775808 ≤ y) = true := decide_eq_true ht
        go_wp2_with fail
        refine (rround_any n k HK.out HN.out _).mono ?_
        rintro e w' ⟨rfl, rfl⟩
        go_wp2_with fail
        refine wp_region_held_drew (S := fun w' => Bk w' w.heap.size 24 #[.int .u64 x, .int .u64 y] ∧ Bk w' (w.heap.size + 1) 24 #[.int .u64 0, .int .u64 0] ∧ Below w.heap.size w w') (by kernel_rfl) ?_ (fun hHeld => ?_)
        · exact ⟨H0.out.drew, H1.out.drew, HB.out.drew⟩
        refine wpAnyH_take (i := 0) (oi := { dst := some 12, op := Op.fieldAddr 24 (Operand.tmp 2) 1, type := 0, pos := "ref.go:142", after := #[], guard := none }) (v := ?_) rfl (by kernel_rfl) (by kernel_rfl) (by kernel_rfl) (fun _ _ _ h => h) (Or.inl ⟨by rfl, ?_⟩) hHeld ?_
        rotate_left
        · intro w9 hSw
          try dsimp only at hSw
          obtain ⟨k0, k1⟩ := tcells hSw.1
          go_simp
          try with_reducible rfl
        try simp only [Act.put, List.setIfInBounds_toArray, List.set_cons_zero, List.set_cons_succ]
        refine wpAnyH_take (i := 1) (oi := { dst := some 13, op := Op.load 22 (Operand.tmp 12), type := 22, pos := "ref.go:142", after := #[{ on := 0, ground := Ground.data }], guard := none }) (v := ?_) rfl (by kernel_rfl) (by kernel_rfl) (by kernel_rfl) (fun _ _ _ h => h) (Or.inl ⟨by rfl, ?_⟩) hHeld ?_
        rotate_left
        · intro w9 hSw
          try dsimp only at hSw
          obtain ⟨k0, k1⟩ := tcells hSw.1
          go_simp
          try with_reducible rfl
        try simp only [Act.put, List.setIfInBounds_toArray, List.set_cons_zero, List.set_cons_succ]
        refine wpAnyH_ready (rs := [2]) (by kernel_rfl) (by simp) ?_
        refine AllReadyH.cons (o := { dst := some 14, op := Op.call { callee := Callee.value (Operand.func 89), args := #[], argTypes := #[] }, type := 22, pos := "ref.go:142", after := #[], guard := none }) rfl (fun K hK => ?_) AllReadyH.nil
        go_simp
        (go_at_call 89; with_reducible refine (rtop_to _).mono ?_; rintro e z1 ⟨rfl, qb⟩)
        refine hK.out _ _ ?_ (fun g1 => ?_)
        · exact bks_keep qb hHeld
        clear hK K qb
        skip
        try simp only [Act.put, List.setIfInBounds_toArray, List.set_cons_zero, List.set_cons_succ]
        refine wpAnyH_take (i := 3) (oi := { dst := some 15, op := Op.binOp BinOp.geq 22 (Operand.tmp 13) (Operand.tmp 14) 22, type := 4, pos := "ref.go:142", after := #[{ on := 1, ground := Ground.data }, { on := 2, ground := Ground.data }], guard := none }) (v := ?_) rfl (by kernel_rfl) (by kernel_rfl) (by kernel_rfl) (fun _ _ _ h => h) (Or.inl ⟨by rfl, ?_⟩) g1 ?_
        rotate_left
        · intro w9 hSw
          try dsimp only at hSw
          obtain ⟨k0, k1⟩ := tcells hSw.1
          go_simp
          try with_reducible rfl
        try simp only [Act.put, List.setIfInBounds_toArray, List.set_cons_zero, List.set_cons_succ]
        refine wpAnyH_done (by kernel_rfl) ?_ _
        have KA := Lib.hid g1
        clear g1 c00 c01 H0 H1 HB
        have H0 := Lib.hid KA.out.1
        have H1 := Lib.hid KA.out.2.1
        have HB := Lib.hid KA.out.2.2
        clear KA
        generalize z1 = z9 at *
        obtain ⟨c00, c01⟩ := tcells H0.out
        obtain ⟨c10, c11⟩ := tcells H1.out
        have f0 := H1.out.frozen 0
        have f1 := H1.out.frozen 1
        go_wp2_with fail
        refine (ruall_any _).mono ?_
        rintro e w5 ⟨rfl, qb⟩
        replace f0 := keepf qb (World.block_lt_of_cell? _ _ c10) f0
        replace f1 := keepf qb (World.block_lt_of_cell? _ _ c11) f1
        replace c10 := keep1 qb c10
        replace c11 := keep1 qb c11
        replace HB := Lib.hid (below_then HB.out qb (Nat.le_refl _))
        clear qb H0 H1 c00 c01
        go_wp2_with fail
        have r0 : ∀ u v, ((w5.setCell ⟨w.heap.size + 1, 0, none⟩ u).setCell ⟨w.heap.size + 1, 1, none⟩ v).cell? ⟨w.heap.size + 1, 0, none⟩ = some u := fun u v => set_fst c10
        have r1 : ∀ u v, ((w5.setCell ⟨w.heap.size + 1, 0, none⟩ u).setCell ⟨w.heap.size + 1, 1, none⟩ v).cell? ⟨w.heap.size + 1, 1, none⟩ = some v := fun u v => set_snd c11
        refine bodyPost_ret (by simp [results, Try.results36, r0, r1, go_sem]; try rfl) rfl ?_
        exact ⟨rt_u (by rw [e1.out]) (by rw [e1.out]), below_st2 HB.out (by omega)⟩
      · have d1 : decide (9223372036854775808 ≤ y) = false := decide_eq_false ht
        have EN := Lib.hid (show 2 * x = a.lo * 2 ^ (j + 1) ∧ 2 * y = a.hi * 2 ^ (j + 1) by rw [dbl_pow, dbl_pow, ← EX.out.1, ← EX.out.2]; exact ⟨rfl, rfl⟩)
        have s1 : IntKind.u64.wrap (2 * x) = 2 * x := wru _ (by omega) (by omega)
        have s2 : IntKind.u64.wrap (2 * y) = 2 * y := wru _ (by omega) (by omega)
        go_wp2_with fail
        refine (rround_any n k HK.out HN.out _).mono ?_
        rintro e w' ⟨rfl, rfl⟩
        go_wp2_with fail
        refine wp_region_held_drew (S := fun w' => Bk w' w.heap.size 24 #[.int .u64 x, .int .u64 y] ∧ Bk w' (w.heap.size + 1) 24 #[.int .u64 0, .int .u64 0] ∧ Below w.heap.size w w') (by kernel_rfl) ?_ (fun hHeld => ?_)
        · exact ⟨H0.out.drew, H1.out.drew, HB.out.drew⟩
        refine wpAnyH_take (i := 0) (oi := { dst := some 12, op := Op.fieldAddr 24 (Operand.tmp 2) 1, type := 0, pos := "ref.go:142", after := #[], guard := none }) (v := ?_) rfl (by kernel_rfl) (by kernel_rfl) (by kernel_rfl) (fun _ _ _ h => h) (Or.inl ⟨by rfl, ?_⟩) hHeld ?_
        rotate_left
        · intro w9 hSw
          try dsimp only at hSw
          obtain ⟨k0, k1⟩ := tcells hSw.1
          go_simp
          try with_reducible rfl
        try simp only [Act.put, List.setIfInBounds_toArray, List.set_cons_zero, List.set_cons_succ]
        refine wpAnyH_take (i := 1) (oi := { dst := some 13, op := Op.load 22 (Operand.tmp 12), type := 22, pos := "ref.go:142", after := #[{ on := 0, ground := Ground.data }], guard := none }) (v := ?_) rfl (by kernel_rfl) (by kernel_rfl) (by kernel_rfl) (fun _ _ _ h => h) (Or.inl ⟨by rfl, ?_⟩) hHeld ?_
        rotate_left
        · intro w9 hSw
          try dsimp only at hSw
          obtain ⟨k0, k1⟩ := tcells hSw.1
          go_simp
          try with_reducible rfl
        try simp only [Act.put, List.setIfInBounds_toArray, List.set_cons_zero, List.set_cons_succ]
        refine wpAnyH_ready (rs := [2]) (by kernel_rfl) (by simp) ?_
        refine AllReadyH.cons (o := { dst := some 14, op := Op.call { callee := Callee.value (Operand.func 89), args := #[], argTypes := #[] }, type := 22, pos := "ref.go:142", after := #[], guard := none }) rfl (fun K hK => ?_) AllReadyH.nil
        go_simp
        (go_at_call 89; with_reducible refine (rtop_to _).mono ?_; rintro e z1 ⟨rfl, qb⟩)
        refine hK.out _ _ ?_ (fun g1 => ?_)
        · exact bks_keep qb hHeld
        clear hK K qb
        skip
        try simp only [Act.put, List.setIfInBounds_toArray, List.set_cons_zero, List.set_cons_succ]
        refine wpAnyH_take (i := 3) (oi := { dst := some 15, op := Op.binOp BinOp.geq 22 (Operand.tmp 13) (Operand.tmp 14) 22, type := 4, pos := "ref.go:142", after := #[{ on := 1, ground := Ground.data }, { on := 2, ground := Ground.data }], guard := none }) (v := ?_) rfl (by kernel_rfl) (by kernel_rfl) (by kernel_rfl) (fun _ _ _ h => h) (Or.inl ⟨by rfl, ?_⟩) g1 ?_
        rotate_left
        · intro w9 hSw
          try dsimp only at hSw
          obtain ⟨k0, k1⟩ := tcells hSw.1
          go_simp
          try with_reducible rfl
        try simp only [Act.put, List.setIfInBounds_toArray, List.set_cons_zero, List.set_cons_succ]
        refine wpAnyH_done (by kernel_rfl) ?_ _
        have KA := Lib.hid g1
        clear g1 c00 c01 H0 H1 HB
        have H0 := Lib.hid KA.out.1
        have H1 := Lib.hid KA.out.2.1
        have HB := Lib.hid KA.out.2.2
        clear KA
        generalize z1 = z9 at *
        obtain ⟨c00, c01⟩ := tcells H0.out
        obtain ⟨c10, c11⟩ := tcells H1.out
        have f0 := H0.out.frozen 0
        have f1 := H0.out.frozen 1
        go_wp2_with fail
        go_roundw
        case rel => exact ⟨j + 1, 2 * x, 2 * y, by omega, by first | rfl | go_num, EN, ⟨by omega, by omega, by omega⟩, Lib.hid (bk_two H0.out _ _), Lib.hid (bk_far2 H1.out (by omega) _ _), Lib.hid (below_st2 HB.out (Nat.le_refl _))⟩
        case measure => simp [intOf]; omega
    · have e1 := Lib.hid (show uLsh a k = ⟨x, y⟩ by
        have hjk : j = k := by omega
        have g := EX.out
        rw [hjk] at g
        unfold uLsh
        rw [if_pos (by omega), g.1, g.2])
      obtain ⟨c10, c11⟩ := tcells H1.out
      have f0 := H1.out.frozen 0
      have f1 := H1.out.frozen 1
      go_wp2_with fail
      refine (rround_any n k HK.out HN.out _).mono ?_
      rintro e w' ⟨rfl, rfl⟩
      go_wp2_with fail
      have r0 : ∀ u v, ((wr.setCell ⟨w.heap.size + 1, 0, none⟩ u).setCell ⟨w.heap.size + 1, 1, none⟩ v).cell? ⟨w.heap.size + 1, 0, none⟩ = some u := fun u v => set_fst c10
      have r1 : ∀ u v, ((wr.setCell ⟨w.heap.size + 1, 0, none⟩ u).setCell ⟨w.heap.size + 1, 1, none⟩ v).cell? ⟨w.heap.size + 1, 1, none⟩ = some v := fun u v => set_snd c11
      refine bodyPost_ret (by simp [results, Try.results36, r0, r1, go_sem]; try rfl) rfl ?_
      exact ⟨rt_u (by rw [e1.out]) (by rw [e1.out]), below_st2 HB.out (by omega)⟩
end Go.Proofs.Ythjjfginenpfjaa
