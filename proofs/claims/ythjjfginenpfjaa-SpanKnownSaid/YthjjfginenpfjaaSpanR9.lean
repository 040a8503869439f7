/-
  What the document's ToT of layer 4 tells: a contract. Conditions: the ends are numbers of 64 bits, Lo at most Hi.
-/
import Derived.Test.YthjjfginenpfjaaSpanR7
import Derived.Test.YthjjfginenpfjaaSpanG
namespace Go.Proofs.Ythjjfginenpfjaa
open Go.RowKit Tn Ow Sp
set_option linter.unusedVariables false
set_option linter.unusedSimpArgs false
theorem low_val (x p : Int) (j : Nat) (e : p = 2 ^ j - 1) (hx : 0 ≤ x) (h9 : x ≤ 18446744073709551615) : IntKind.u64.wrap (x - x.tmod (p + 1)) = x - x % 2 ^ j := by
  have hp := pow_pos' j
  rw [Int.tmod_eq_emod_of_nonneg hx, show p + 1 = 2 ^ j by omega]
  have m0 := Int.emod_nonneg x (show (2 : Int) ^ j ≠ 0 by omega)
  have m1 : x % 2 ^ j ≤ x := by
    rcases Int.lt_or_le x (2 ^ j) with h | h
    · rw [Int.emod_eq_of_lt hx h]; exact Int.le_refl _
    · have := Int.emod_lt_of_pos x hp; omega
  exact wru _ (by omega) (by omega)
theorem low_same (u : E) (hu : okU u) (j : Nat) : (u.lo - u.lo % 2 ^ j = u.hi - u.hi % 2 ^ j) ↔ dif u ≤ j := by
  unfold okU at hu
  have hp := pow_pos' j
  have e1 := Int.mul_ediv_add_emod u.lo (2 ^ j)
  have e2 := Int.mul_ediv_add_emod u.hi (2 ^ j)
  rw [← dif_iff u j]
  have k1 : ((u.lo.toNat / 2 ^ j : Nat) : Int) = u.lo / 2 ^ j := by rw [Int.natCast_ediv, pow_cast, Int.toNat_of_nonneg hu.1]
  have k2 : ((u.hi.toNat / 2 ^ j : Nat) : Int) = u.hi / 2 ^ j := by rw [Int.natCast_ediv, pow_cast, Int.toNat_of_nonneg (by omega)]
  constructor
  · intro h
    have h2 : 2 ^ j * (u.lo / 2 ^ j) = 2 ^ j * (u.hi / 2 ^ j) := by omega
    have h3 := Int.eq_of_mul_eq_mul_left (show (2 : Int) ^ j ≠ 0 by omega) h2
    omega
  · intro h
    have h2 : u.lo / 2 ^ j = u.hi / 2 ^ j := by rw [← k1, ← k2, h]
    rw [h2] at e1
    omega
theorem j64 (j : Nat) (h : j ≤ 64) (e : (18446744073709551615 : Int) = 2 ^ j - 1) : j = 64 := by
  rcases Nat.lt_or_ge j 64 with g | g
  · have := pow_bd j (by omega); omega
  · omega
set_option maxHeartbeats 4000000 in
set_option maxRecDepth 100000 in
theorem rtot_any (u : E) (hu : okU u) (w : World) :
    Calls Try.prog 44 #[.agg #[.int .u64 u.lo, .int .u64 u.hi]] w fun e w' => e = .returned (.agg #[.int .u64 (bi (toT u).v), .int .u64 (bi (toT u).m)]) ∧ Below w.heap.size w w' := by
  have OK := Lib.hid hu
  have T1 := Lib.hid (toT_v hu)
  have T2 := Lib.hid (toT_m hu)
  have D := Lib.hid (dif_le hu)
  obtain ⟨a0, a1, a2⟩ := hu
  have i1 := fldU1
  go_enter Try.func44, Try.ntmps44
  go_wp2_with fail
  have K0 := ((Bk.new w 24 #[.int .u64 u.lo, .int .u64 u.hi]).alloc (.cells #[.int .u64 0, .int .u64 0] 38))
  have K1 := (Bk.new (w.alloc (.cells #[.int .u64 u.lo, .int .u64 u.hi] 24)) 38 #[.int .u64 0, .int .u64 0])
  rw [World.size_alloc] at K1
  have B0 : Below w.heap.size w ((w.alloc (.cells #[.int .u64 u.lo, .int .u64 u.hi] 24)).alloc (.cells #[.int .u64 0, .int .u64 0] 38)) := by go_grown
  generalize ((w.alloc (.cells #[.int .u64 u.lo, .int .u64 u.hi] 24)).alloc (.cells #[.int .u64 0, .int .u64 0] 38)) = w0 at *
  have H0 := Lib.hid K0
  obtain ⟨c00, c01⟩ := tcells K0
  have H1 := Lib.hid K1
  obtain ⟨c10, c11⟩ := tcells K1
  have HB := Lib.hid B0
  clear K0 K1 B0
  clear c00 c01 c10 c11
  go_wp2_with fail
  go_loopw [3] (fun i wr => ∃ p : Int, (0 ≤ p ∧ p ≤ 18446744073709551615) ∧ i = .int .u64 p ∧ Hid (∃ j : Nat, j ≤ dif u ∧ p = 2 ^ j - 1) ∧ Hid (Bk wr w.heap.size 24 #[.int .u64 u.lo, .int .u64 u.hi]) ∧ Hid (Bk wr (w.heap.size + 1) 38 #[.int .u64 0, .int .u64 0]) ∧ Hid (Below w.heap.size w wr)) (fun i _ => (18446744073709551615 - intOf i).toNat)
  case atStart => exact ⟨0, by omega, rfl, Lib.hid ⟨0, Nat.zero_le _, rfl⟩, H0, H1, HB⟩
  case round =>
    clear H0 H1 HB
    obtain ⟨p, hp, rfl, HJ, H0, H1, HB⟩ := hrel
    by_cases hm : p < 18446744073709551615
    · have l1 : decide (p < 18446744073709551615) = true := decide_eq_true hm
      have s1 : IntKind.u64.wrap (p + 1) = p + 1 := wru _ (by omega) (by omega)
      have s2 : ¬ p + 1 = 0 := by omega
      have s3 : (p + 1 == 0) = false := by simp [s2]
      have n1 : (p == 18446744073709551615) = false := beq_eq_false_iff_ne.2 (by omega)
      by_cases hd : IntKind.u64.wrap (u.lo - u.lo.tmod (p + 1)) = IntKind.u64.wrap (u.hi - u.hi.tmod (p + 1))
      · have d1 : (IntKind.u64.wrap (u.lo - u.lo.tmod (p + 1)) != IntKind.u64.wrap (u.hi - u.hi.tmod (p + 1))) = false := by rw [hd]; simp
        have V := Lib.hid (show IntKind.u64.wrap (u.lo - u.lo.tmod (p + 1)) = bi (toT u).v ∧ p = bi (toT u).m by
          obtain ⟨j, hj, e⟩ := HJ.out
          have g := hd
          rw [low_val u.lo p j e a0 (by omega), low_val u.hi p j e (by omega) a2, low_same u OK.out j] at g
          have hjd : dif u = j := by omega
          rw [T1.out, T2.out, hjd, low_val u.lo p j e a0 (by omega)]
          exact ⟨rfl, e⟩)
        have W1 := Lib.hid (Int.tmod_eq_emod_of_nonneg (b := p + 1) a0)
        clear HJ hd
        go_wp2_with fail
        refine wp_region_held_drew (S := fun w' => Bk w' w.heap.size 24 #[.int .u64 u.lo, .int .u64 u.hi] ∧ Bk w' (w.heap.size + 1) 38 #[.int .u64 0, .int .u64 0] ∧ Below w.heap.size w w') (by kernel_rfl) ?_ (fun hHeld => ?_)
        · exact ⟨H0.out.drew, H1.out.drew, HB.out.drew⟩
        refine wpAnyH_take (i := 0) (oi := { dst := some 4, op := Op.move (Operand.tmp 3), type := 22, pos := "ref.go:274", after := #[], guard := none }) (v := ?_) rfl (by kernel_rfl) (by kernel_rfl) (by kernel_rfl) (fun _ _ _ h => h) (Or.inl ⟨by rfl, ?_⟩) hHeld ?_
        rotate_left
        · intro w9 hSw
          try dsimp only at hSw
          obtain ⟨k0, k1⟩ := tcells hSw.1
          go_simp
          try with_reducible rfl
        try simp only [Act.put, List.setIfInBounds_toArray, List.set_cons_zero, List.set_cons_succ]
        refine wpAnyH_ready (rs := [1]) (by kernel_rfl) (by simp) ?_
        refine AllReadyH.cons (o := { dst := some 5, op := Op.call { callee := Callee.value (Operand.func 46), args := #[], argTypes := #[] }, type := 24, pos := "ref.go:274", after := #[], guard := none }) rfl (fun K hK => ?_) AllReadyH.nil
        go_simp
        (go_at_call 46; with_reducible refine (ruall_lit _).mono ?_; rintro e z1 ⟨rfl, qb⟩)
        refine hK.out _ _ ?_ (fun g1 => ?_)
        · exact bks_keep qb hHeld
        clear hK K qb
        skip
        try simp only [Act.put, List.setIfInBounds_toArray, List.set_cons_zero, List.set_cons_succ]
        refine wpAnyH_take (i := 2) (oi := { dst := some 6, op := Op.field 24 (Operand.tmp 5) 1, type := 22, pos := "ref.go:274", after := #[{ on := 1, ground := Ground.data }], guard := none }) (v := ?_) rfl (by kernel_rfl) (by kernel_rfl) (by kernel_rfl) (fun _ _ _ h => h) (Or.inl ⟨by rfl, ?_⟩) g1 ?_
        rotate_left
        · intro w9 hSw
          try dsimp only at hSw
          obtain ⟨k0, k1⟩ := tcells hSw.1
          go_simp
          try with_reducible rfl
        try simp only [Act.put, List.setIfInBounds_toArray, List.set_cons_zero, List.set_cons_succ]
        refine wpAnyH_take (i := 3) (oi := { dst := some 7, op := Op.binOp BinOp.lss 22 (Operand.tmp 4) (Operand.tmp 6) 22, type := 4, pos := "ref.go:274", after := #[{ on := 0, ground := Ground.data }, { on := 2, ground := Ground.data }], guard := none }) (v := ?_) rfl (by kernel_rfl) (by kernel_rfl) (by kernel_rfl) (fun _ _ _ h => h) (Or.inl ⟨by rfl, ?_⟩) g1 ?_
        rotate_left
        · intro w9 hSw
          try dsimp only at hSw
          obtain ⟨k0, k1⟩ := tcells hSw.1
          go_simp
          try with_reducible rfl
        try simp only [Act.put, List.setIfInBounds_toArray, List.set_cons_zero, List.set_cons_succ]
        refine wpAnyH_take (i := 4) (oi := { dst := some 8, op := Op.move (Operand.tmp 7), type := 4, pos := "ref.go:274", after := #[{ on := 3, ground := Ground.data }, { on := 1, ground := Ground.chain }], guard := none }) (v := ?_) rfl (by kernel_rfl) (by kernel_rfl) (by kernel_rfl) (fun _ _ _ h => h) (Or.inl ⟨by rfl, ?_⟩) g1 ?_
        rotate_left
        · intro w9 hSw
          try dsimp only at hSw
          obtain ⟨k0, k1⟩ := tcells hSw.1
          go_simp
          try with_reducible rfl
        try simp only [Act.put, List.setIfInBounds_toArray, List.set_cons_zero, List.set_cons_succ]
        refine wpAnyH_take (i := 5) (oi := { dst := some 9, op := Op.fieldAddr 24 (Operand.tmp 1) 0, type := 0, pos := "ref.go:274", after := #[{ on := 4, ground := Ground.guard }], guard := some (4, true) }) (v := ?_) rfl (by kernel_rfl) (by kernel_rfl) (by kernel_rfl) (fun _ _ _ h => h) (Or.inl ⟨by rfl, ?_⟩) g1 ?_
        rotate_left
        · intro w9 hSw
          try dsimp only at hSw
          obtain ⟨k0, k1⟩ := tcells hSw.1
          go_simp
          try with_reducible rfl
        try simp only [Act.put, List.setIfInBounds_toArray, List.set_cons_zero, List.set_cons_succ]
        refine wpAnyH_take (i := 6) (oi := { dst := some 10, op := Op.load 22 (Operand.tmp 9), type := 22, pos := "ref.go:274", after := #[{ on := 5, ground := Ground.data }, { on := 4, ground := Ground.guard }], guard := some (4, true) }) (v := ?_) rfl (by kernel_rfl) (by kernel_rfl) (by kernel_rfl) (fun _ _ _ h => h) (Or.inl ⟨by rfl, ?_⟩) g1 ?_
        rotate_left
        · intro w9 hSw
          try dsimp only at hSw
          obtain ⟨k0, k1⟩ := tcells hSw.1
          go_simp
          try with_reducible rfl
        try simp only [Act.put, List.setIfInBounds_toArray, List.set_cons_zero, List.set_cons_succ]
        refine wpAnyH_take (i := 7) (oi := { dst := some 11, op := Op.fieldAddr 24 (Operand.tmp 1) 0, type := 0, pos := "ref.go:274", after := #[{ on := 4, ground := Ground.guard }], guard := some (4, true) }) (v := ?_) rfl (by kernel_rfl) (by kernel_rfl) (by kernel_rfl) (fun _ _ _ h => h) (Or.inl ⟨by rfl, ?_⟩) g1 ?_
        rotate_left
        · intro w9 hSw
          try dsimp only at hSw
          obtain ⟨k0, k1⟩ := tcells hSw.1
          go_simp
          try with_reducible rfl
        try simp only [Act.put, List.setIfInBounds_toArray, List.set_cons_zero, List.set_cons_succ]
        refine wpAnyH_take (i := 8) (oi := { dst := some 12, op := Op.load 22 (Operand.tmp 11), type := 22, pos := "ref.go:274", after := #[{ on := 7, ground := Ground.data }, { on := 4, ground := Ground.guard }], guard := some (4, true) }) (v := ?_) rfl (by kernel_rfl) (by kernel_rfl) (by kernel_rfl) (fun _ _ _ h => h) (Or.inl ⟨by rfl, ?_⟩) g1 ?_
        rotate_left
        · intro w9 hSw
          try dsimp only at hSw
          obtain ⟨k0, k1⟩ := tcells hSw.1
          go_simp
          try with_reducible rfl
        try simp only [Act.put, List.setIfInBounds_toArray, List.set_cons_zero, List.set_cons_succ]
        refine wpAnyH_take (i := 9) (oi := { dst := some 13, op := Op.move (Operand.tmp 3), type := 22, pos := "ref.go:274", after := #[{ on := 4, ground := Ground.guard }], guard := some (4, true) }) (v := ?_) rfl (by kernel_rfl) (by kernel_rfl) (by kernel_rfl) (fun _ _ _ h => h) (Or.inl ⟨by rfl, ?_⟩) g1 ?_
        rotate_left
        · intro w9 hSw
          try dsimp only at hSw
          obtain ⟨k0, k1⟩ := tcells hSw.1
          go_simp
          try with_reducible rfl
        try simp only [Act.put, List.setIfInBounds_toArray, List.set_cons_zero, List.set_cons_succ]
        refine wpAnyH_take (i := 10) (oi := { dst := some 14, op := Op.binOp BinOp.add 22 (Operand.tmp 13) (Operand.const (Value.int IntKind.u64 1)) 22, type := 22, pos := "ref.go:274", after := #[{ on := 9, ground := Ground.data }, { on := 4, ground := Ground.guard }], guard := some (4, true) }) (v := ?_) rfl (by kernel_rfl) (by kernel_rfl) (by kernel_rfl) (fun _ _ _ h => h) (Or.inl ⟨by rfl, ?_⟩) g1 ?_
        rotate_left
        · intro w9 hSw
          try dsimp only at hSw
          obtain ⟨k0, k1⟩ := tcells hSw.1
          go_simp
          try with_reducible rfl
        try simp only [Act.put, List.setIfInBounds_toArray, List.set_cons_zero, List.set_cons_succ]
        refine wpAnyH_take (i := 11) (oi := { dst := some 15, op := Op.binOp BinOp.rem 22 (Operand.tmp 12) (Operand.tmp 14) 22, type := 22, pos := "ref.go:274", after := #[{ on := 8, ground := Ground.data }, { on := 10, ground := Ground.data }, { on := 4, ground := Ground.guard }], guard := some (4, true) }) (v := ?_) rfl (by kernel_rfl) (by kernel_rfl) (by kernel_rfl) (fun _ _ _ h => h) (Or.inl ⟨by rfl, ?_⟩) g1 ?_
        rotate_left
        · intro w9 hSw
          try dsimp only at hSw
          obtain ⟨k0, k1⟩ := tcells hSw.1
          go_simp
          try with_reducible rfl
        try simp only [Act.put, List.setIfInBounds_toArray, List.set_cons_zero, List.set_cons_succ]
        refine wpAnyH_take (i := 12) (oi := { dst := some 16, op := Op.binOp BinOp.sub 22 (Operand.tmp 10) (Operand.tmp 15) 22, type := 22, pos := "ref.go:274", after := #[{ on := 6, ground := Ground.data }, { on := 11, ground := Ground.data }, { on := 4, ground := Ground.guard }], guard := some (4, true) }) (v := ?_) rfl (by kernel_rfl) (by kernel_rfl) (by kernel_rfl) (fun _ _ _ h => h) (Or.inl ⟨by rfl, ?_⟩) g1 ?_
        rotate_left
        · intro w9 hSw
          try dsimp only at hSw
          obtain ⟨k0, k1⟩ := tcells hSw.1
          go_simp
          try with_reducible rfl
        try simp only [Act.put, List.setIfInBounds_toArray, List.set_cons_zero, List.set_cons_succ]
        refine wpAnyH_take (i := 13) (oi := { dst := some 17, op := Op.fieldAddr 24 (Operand.tmp 1) 1, type := 0, pos := "ref.go:274", after := #[{ on := 4, ground := Ground.guard }], guard := some (4, true) }) (v := ?_) rfl (by kernel_rfl) (by kernel_rfl) (by kernel_rfl) (fun _ _ _ h => h) (Or.inl ⟨by rfl, ?_⟩) g1 ?_
        rotate_left
        · intro w9 hSw
          try dsimp only at hSw
          obtain ⟨k0, k1⟩ := tcells hSw.1
          go_simp
          try with_reducible rfl
        try simp only [Act.put, List.setIfInBounds_toArray, List.set_cons_zero, List.set_cons_succ]
        refine wpAnyH_take (i := 14) (oi := { dst := some 18, op := Op.load 22 (Operand.tmp 17), type := 22, pos := "ref.go:274", after := #[{ on := 13, ground := Ground.data }, { on := 4, ground := Ground.guard }], guard := some (4, true) }) (v := ?_) rfl (by kernel_rfl) (by kernel_rfl) (by kernel_rfl) (fun _ _ _ h => h) (Or.inl ⟨by rfl, ?_⟩) g1 ?_
        rotate_left
        · intro w9 hSw
          try dsimp only at hSw
          obtain ⟨k0, k1⟩ := tcells hSw.1
          go_simp
          try with_reducible rfl
        try simp only [Act.put, List.setIfInBounds_toArray, List.set_cons_zero, List.set_cons_succ]
        refine wpAnyH_take (i := 15) (oi := { dst := some 19, op := Op.fieldAddr 24 (Operand.tmp 1) 1, type := 0, pos := "ref.go:274", after := #[{ on := 4, ground := Ground.guard }], guard := some (4, true) }) (v := ?_) rfl (by kernel_rfl) (by kernel_rfl) (by kernel_rfl) (fun _ _ _ h => h) (Or.inl ⟨by rfl, ?_⟩) g1 ?_
        rotate_left
        · intro w9 hSw
          try dsimp only at hSw
          obtain ⟨k0, k1⟩ := tcells hSw.1
          go_simp
          try with_reducible rfl
        try simp only [Act.put, List.setIfInBounds_toArray, List.set_cons_zero, List.set_cons_succ]
        refine wpAnyH_take (i := 16) (oi := { dst := some 20, op := Op.load 22 (Operand.tmp 19), type := 22, pos := "ref.go:274", after := #[{ on := 15, ground := Ground.data }, { on := 4, ground := Ground.guard }], guard := some (4, true) }) (v := ?_) rfl (by kernel_rfl) (by kernel_rfl) (by kernel_rfl) (fun _ _ _ h => h) (Or.inl ⟨by rfl, ?_⟩) g1 ?_
        rotate_left
        · intro w9 hSw
          try dsimp only at hSw
          obtain ⟨k0, k1⟩ := tcells hSw.1
          go_simp
          try with_reducible rfl
        try simp only [Act.put, List.setIfInBounds_toArray, List.set_cons_zero, List.set_cons_succ]
        refine wpAnyH_take (i := 17) (oi := { dst := some 21, op := Op.move (Operand.tmp 3), type := 22, pos := "ref.go:274", after := #[{ on := 4, ground := Ground.guard }], guard := some (4, true) }) (v := ?_) rfl (by kernel_rfl) (by kernel_rfl) (by kernel_rfl) (fun _ _ _ h => h) (Or.inl ⟨by rfl, ?_⟩) g1 ?_
        rotate_left
        · intro w9 hSw
          try dsimp only at hSw
          obtain ⟨k0, k1⟩ := tcells hSw.1
          go_simp
          try with_reducible rfl
        try simp only [Act.put, List.setIfInBounds_toArray, List.set_cons_zero, List.set_cons_succ]
        refine wpAnyH_take (i := 18) (oi := { dst := some 22, op := Op.binOp BinOp.add 22 (Operand.tmp 21) (Operand.const (Value.int IntKind.u64 1)) 22, type := 22, pos := "ref.go:274", after := #[{ on := 17, ground := Ground.data }, { on := 4, ground := Ground.guard }], guard := some (4, true) }) (v := ?_) rfl (by kernel_rfl) (by kernel_rfl) (by kernel_rfl) (fun _ _ _ h => h) (Or.inl ⟨by rfl, ?_⟩) g1 ?_
        rotate_left
        · intro w9 hSw
          try dsimp only at hSw
          obtain ⟨k0, k1⟩ := tcells hSw.1
          go_simp
          try with_reducible rfl
        try simp only [Act.put, List.setIfInBounds_toArray, List.set_cons_zero, List.set_cons_succ]
        refine wpAnyH_take (i := 19) (oi := { dst := some 23, op := Op.binOp BinOp.rem 22 (Operand.tmp 20) (Operand.tmp 22) 22, type := 22, pos := "ref.go:274", after := #[{ on := 16, ground := Ground.data }, { on := 18, ground := Ground.data }, { on := 4, ground := Ground.guard }], guard := some (4, true) }) (v := ?_) rfl (by kernel_rfl) (by kernel_rfl) (by kernel_rfl) (fun _ _ _ h => h) (Or.inl ⟨by rfl, ?_⟩) g1 ?_
        rotate_left
        · intro w9 hSw
          try dsimp only at hSw
          obtain ⟨k0, k1⟩ := tcells hSw.1
          go_simp
          try with_reducible rfl
        try simp only [Act.put, List.setIfInBounds_toArray, List.set_cons_zero, List.set_cons_succ]
        refine wpAnyH_take (i := 20) (oi := { dst := some 24, op := Op.binOp BinOp.sub 22 (Operand.tmp 18) (Operand.tmp 23) 22, type := 22, pos := "ref.go:274", after := #[{ on := 14, ground := Ground.data }, { on := 19, ground := Ground.data }, { on := 4, ground := Ground.guard }], guard := some (4, true) }) (v := ?_) rfl (by kernel_rfl) (by kernel_rfl) (by kernel_rfl) (fun _ _ _ h => h) (Or.inl ⟨by rfl, ?_⟩) g1 ?_
        rotate_left
        · intro w9 hSw
          try dsimp only at hSw
          obtain ⟨k0, k1⟩ := tcells hSw.1
          go_simp
          try with_reducible rfl
        try simp only [Act.put, List.setIfInBounds_toArray, List.set_cons_zero, List.set_cons_succ]
        refine wpAnyH_take (i := 21) (oi := { dst := some 25, op := Op.binOp BinOp.neq 22 (Operand.tmp 16) (Operand.tmp 24) 22, type := 4, pos := "ref.go:274", after := #[{ on := 12, ground := Ground.data }, { on := 20, ground := Ground.data }, { on := 4, ground := Ground.guard }], guard := some (4, true) }) (v := ?_) rfl (by kernel_rfl) (by kernel_rfl) (by kernel_rfl) (fun _ _ _ h => h) (Or.inl ⟨by rfl, ?_⟩) g1 ?_
        rotate_left
        · intro w9 hSw
          try dsimp only at hSw
          obtain ⟨k0, k1⟩ := tcells hSw.1
          go_simp
          try with_reducible rfl
        try simp only [Act.put, List.setIfInBounds_toArray, List.set_cons_zero, List.set_cons_succ]
        refine wpAnyH_take (i := 22) (oi := { dst := some 26, op := Op.pick (Operand.tmp 8) (Operand.tmp 25) (Operand.const (Value.bool false)), type := 4, pos := "ref.go:274", after := #[{ on := 4, ground := Ground.data }, { on := 21, ground := Ground.data }], guard := none }) (v := ?_) rfl (by kernel_rfl) (by kernel_rfl) (by kernel_rfl) (fun _ _ _ h => h) (Or.inl ⟨by rfl, ?_⟩) g1 ?_
        rotate_left
        · intro w9 hSw
          try dsimp only at hSw
          obtain ⟨k0, k1⟩ := tcells hSw.1
          go_simp
          try with_reducible rfl
        try simp only [Act.put, List.setIfInBounds_toArray, List.set_cons_zero, List.set_cons_succ]
        refine wpAnyH_done (by kernel_rfl) ?_ _
        have KA := Lib.hid g1
        clear g1 H0 H1 HB
        have H0 := Lib.hid KA.out.1
        have H1 := Lib.hid KA.out.2.1
        have HB := Lib.hid KA.out.2.2
        clear KA
        generalize z1 = z9 at *
        go_wp2_with fail
        refine (ruall_lit _).mono ?_
        rintro e w5 ⟨rfl, qb⟩
        replace H0 := Lib.hid (H0.out.below qb H0.out.lt)
        replace H1 := Lib.hid (H1.out.below qb H1.out.lt)
        replace HB := Lib.hid (below_then HB.out qb (Nat.le_refl _))
        clear qb
        obtain ⟨c00, c01⟩ := tcells H0.out
        obtain ⟨c10, c11⟩ := tcells H1.out
        have f0 := H1.out.frozen 0
        have f1 := H1.out.frozen 1
        go_wp2_with fail
        go_region
        go_wp2_with fail
        have r0 : ∀ u v, ((w5.setCell ⟨w.heap.size + 1, 0, none⟩ u).setCell ⟨w.heap.size + 1, 1, none⟩ v).drew.cell? ⟨w.heap.size + 1, 0, none⟩ = some u := fun u v => set_fst c10
        have r1 : ∀ u v, ((w5.setCell ⟨w.heap.size + 1, 0, none⟩ u).setCell ⟨w.heap.size + 1, 1, none⟩ v).drew.cell? ⟨w.heap.size + 1, 1, none⟩ = some v := fun u v => set_snd c11
        refine bodyPost_ret (by simp [results, Try.results44, r0, r1, go_sem]; try rfl) rfl ?_
        exact ⟨rt_u (by first | exact V.out.1 | (rw [← W1.out]; exact V.out.1) | (rw [← V.out.1, W1.out]; first | rfl | (rw [IntKind.wrap_u64]; omega))) V.out.2, (below_st2 HB.out (by omega)).drew⟩
      · have d1 : (IntKind.u64.wrap (u.lo - u.lo.tmod (p + 1)) != IntKind.u64.wrap (u.hi - u.hi.tmod (p + 1))) = true := by simp [hd]
        have NJ : Hid (2 * p + 1 ≤ 18446744073709551615 ∧ ∃ j : Nat, j ≤ dif u ∧ 2 * p + 1 = 2 ^ j - 1) := by
          obtain ⟨j, hj, e⟩ := HJ.out
          have g := hd
          rw [low_val u.lo p j e a0 (by omega), low_val u.hi p j e (by omega) a2, low_same u OK.out j] at g
          have q := pow_bd64 (j + 1) (by have := D.out; omega)
          have e2 : (2 : Int) ^ (j + 1) = 2 * 2 ^ j := by rw [Int.pow_succ]; omega
          exact Lib.hid ⟨by omega, j + 1, by omega, by omega⟩
        have nb := NJ.out.1
        have s4 : IntKind.u64.wrap (2 * p + 1) = 2 * p + 1 := wru _ (by omega) (by omega)
        clear HJ hd
        go_wp2_with fail
        refine wp_region_held_drew (S := fun w' => Bk w' w.heap.size 24 #[.int .u64 u.lo, .int .u64 u.hi] ∧ Bk w' (w.heap.size + 1) 38 #[.int .u64 0, .int .u64 0] ∧ Below w.heap.size w w') (by kernel_rfl) ?_ (fun hHeld => ?_)
        · exact ⟨H0.out.drew, H1.out.drew, HB.out.drew⟩
        refine wpAnyH_take (i := 0) (oi := { dst := some 4, op := Op.move (Operand.tmp 3), type := 22, pos := "ref.go:274", after := #[], guard := none }) (v := ?_) rfl (by kernel_rfl) (by kernel_rfl) (by kernel_rfl) (fun _ _ _ h => h) (Or.inl ⟨by rfl, ?_⟩) hHeld ?_
        rotate_left
        · intro w9 hSw
          try dsimp only at hSw
          obtain ⟨k0, k1⟩ := tcells hSw.1
          go_simp
          try with_reducible rfl
        try simp only [Act.put, List.setIfInBounds_toArray, List.set_cons_zero, List.set_cons_succ]
        refine wpAnyH_ready (rs := [1]) (by kernel_rfl) (by simp) ?_
        refine AllReadyH.cons (o := { dst := some 5, op := Op.call { callee := Callee.value (Operand.func 46), args := #[], argTypes := #[] }, type := 24, pos := "ref.go:274", after := #[], guard := none }) rfl (fun K hK => ?_) AllReadyH.nil
        go_simp
        (go_at_call 46; with_reducible refine (ruall_lit _).mono ?_; rintro e z1 ⟨rfl, qb⟩)
        refine hK.out _ _ ?_ (fun g1 => ?_)
        · exact bks_keep qb hHeld
        clear hK K qb
        skip
        try simp only [Act.put, List.setIfInBounds_toArray, List.set_cons_zero, List.set_cons_succ]
        refine wpAnyH_take (i := 2) (oi := { dst := some 6, op := Op.field 24 (Operand.tmp 5) 1, type := 22, pos := "ref.go:274", after := #[{ on := 1, ground := Ground.data }], guard := none }) (v := ?_) rfl (by kernel_rfl) (by kernel_rfl) (by kernel_rfl) (fun _ _ _ h => h) (Or.inl ⟨by rfl, ?_⟩) g1 ?_
        rotate_left
        · intro w9 hSw
          try dsimp only at hSw
          obtain ⟨k0, k1⟩ := tcells hSw.1
          go_simp
          try with_reducible rfl
        try simp only [Act.put, List.setIfInBounds_toArray, List.set_cons_zero, List.set_cons_succ]
        refine wpAnyH_take (i := 3) (oi := { dst := some 7, op := Op.binOp BinOp.lss 22 (Operand.tmp 4) (Operand.tmp 6) 22, type := 4, pos := "ref.go:274", after := #[{ on := 0, ground := Ground.data }, { on := 2, ground := Ground.data }], guard := none }) (v := ?_) rfl (by kernel_rfl) (by kernel_rfl) (by kernel_rfl) (fun _ _ _ h => h) (Or.inl ⟨by rfl, ?_⟩) g1 ?_
        rotate_left
        · intro w9 hSw
          try dsimp only at hSw
          obtain ⟨k0, k1⟩ := tcells hSw.1
          go_simp
          try with_reducible rfl
        try simp only [Act.put, List.setIfInBounds_toArray, List.set_cons_zero, List.set_cons_succ]
        refine wpAnyH_take (i := 4) (oi := { dst := some 8, op := Op.move (Operand.tmp 7), type := 4, pos := "ref.go:274", after := #[{ on := 3, ground := Ground.data }, { on := 1, ground := Ground.chain }], guard := none }) (v := ?_) rfl (by kernel_rfl) (by kernel_rfl) (by kernel_rfl) (fun _ _ _ h => h) (Or.inl ⟨by rfl, ?_⟩) g1 ?_
        rotate_left
        · intro w9 hSw
          try dsimp only at hSw
          obtain ⟨k0, k1⟩ := tcells hSw.1
          go_simp
          try with_reducible rfl
        try simp only [Act.put, List.setIfInBounds_toArray, List.set_cons_zero, List.set_cons_succ]
        refine wpAnyH_take (i := 5) (oi := { dst := some 9, op := Op.fieldAddr 24 (Operand.tmp 1) 0, type := 0, pos := "ref.go:274", after := #[{ on := 4, ground := Ground.guard }], guard := some (4, true) }) (v := ?_) rfl (by kernel_rfl) (by kernel_rfl) (by kernel_rfl) (fun _ _ _ h => h) (Or.inl ⟨by rfl, ?_⟩) g1 ?_
        rotate_left
        · intro w9 hSw
          try dsimp only at hSw
          obtain ⟨k0, k1⟩ := tcells hSw.1
          go_simp
          try with_reducible rfl
        try simp only [Act.put, List.setIfInBounds_toArray, List.set_cons_zero, List.set_cons_succ]
        refine wpAnyH_take (i := 6) (oi := { dst := some 10, op := Op.load 22 (Operand.tmp 9), type := 22, pos := "ref.go:274", after := #[{ on := 5, ground := Ground.data }, { on := 4, ground := Ground.guard }], guard := some (4, true) }) (v := ?_) rfl (by kernel_rfl) (by kernel_rfl) (by kernel_rfl) (fun _ _ _ h => h) (Or.inl ⟨by rfl, ?_⟩) g1 ?_
        rotate_left
        · intro w9 hSw
          try dsimp only at hSw
          obtain ⟨k0, k1⟩ := tcells hSw.1
          go_simp
          try with_reducible rfl
        try simp only [Act.put, List.setIfInBounds_toArray, List.set_cons_zero, List.set_cons_succ]
        refine wpAnyH_take (i := 7) (oi := { dst := some 11, op := Op.fieldAddr 24 (Operand.tmp 1) 0, type := 0, pos := "ref.go:274", after := #[{ on := 4, ground := Ground.guard }], guard := some (4, true) }) (v := ?_) rfl (by kernel_rfl) (by kernel_rfl) (by kernel_rfl) (fun _ _ _ h => h) (Or.inl ⟨by rfl, ?_⟩) g1 ?_
        rotate_left
        · intro w9 hSw
          try dsimp only at hSw
          obtain ⟨k0, k1⟩ := tcells hSw.1
          go_simp
          try with_reducible rfl
        try simp only [Act.put, List.setIfInBounds_toArray, List.set_cons_zero, List.set_cons_succ]
        refine wpAnyH_take (i := 8) (oi := { dst := some 12, op := Op.load 22 (Operand.tmp 11), type := 22, pos := "ref.go:274", after := #[{ on := 7, ground := Ground.data }, { on := 4, ground := Ground.guard }], guard := some (4, true) }) (v := ?_) rfl (by kernel_rfl) (by kernel_rfl) (by kernel_rfl) (fun _ _ _ h => h) (Or.inl ⟨by rfl, ?_⟩) g1 ?_
        rotate_left
        · intro w9 hSw
          try dsimp only at hSw
          obtain ⟨k0, k1⟩ := tcells hSw.1
          go_simp
          try with_reducible rfl
        try simp only [Act.put, List.setIfInBounds_toArray, List.set_cons_zero, List.set_cons_succ]
        refine wpAnyH_take (i := 9) (oi := { dst := some 13, op := Op.move (Operand.tmp 3), type := 22, pos := "ref.go:274", after := #[{ on := 4, ground := Ground.guard }], guard := some (4, true) }) (v := ?_) rfl (by kernel_rfl) (by kernel_rfl) (by kernel_rfl) (fun _ _ _ h => h) (Or.inl ⟨by rfl, ?_⟩) g1 ?_
        rotate_left
        · intro w9 hSw
          try dsimp only at hSw
          obtain ⟨k0, k1⟩ := tcells hSw.1
          go_simp
          try with_reducible rfl
        try simp only [Act.put, List.setIfInBounds_toArray, List.set_cons_zero, List.set_cons_succ]
        refine wpAnyH_take (i := 10) (oi := { dst := some 14, op := Op.binOp BinOp.add 22 (Operand.tmp 13) (Operand.const (Value.int IntKind.u64 1)) 22, type := 22, pos := "ref.go:274", after := #[{ on := 9, ground := Ground.data }, { on := 4, ground := Ground.guard }], guard := some (4, true) }) (v := ?_) rfl (by kernel_rfl) (by kernel_rfl) (by kernel_rfl) (fun _ _ _ h => h) (Or.inl ⟨by rfl, ?_⟩) g1 ?_
        rotate_left
        · intro w9 hSw
          try dsimp only at hSw
          obtain ⟨k0, k1⟩ := tcells hSw.1
          go_simp
          try with_reducible rfl
        try simp only [Act.put, List.setIfInBounds_toArray, List.set_cons_zero, List.set_cons_succ]
        refine wpAnyH_take (i := 11) (oi := { dst := some 15, op := Op.binOp BinOp.rem 22 (Operand.tmp 12) (Operand.tmp 14) 22, type := 22, pos := "ref.go:274", after := #[{ on := 8, ground := Ground.data }, { on := 10, ground := Ground.data }, { on := 4, ground := Ground.guard }], guard := some (4, true) }) (v := ?_) rfl (by kernel_rfl) (by kernel_rfl) (by kernel_rfl) (fun _ _ _ h => h) (Or.inl ⟨by rfl, ?_⟩) g1 ?_
        rotate_left
        · intro w9 hSw
          try dsimp only at hSw
          obtain ⟨k0, k1⟩ := tcells hSw.1
          go_simp
          try with_reducible rfl
        try simp only [Act.put, List.setIfInBounds_toArray, List.set_cons_zero, List.set_cons_succ]
        refine wpAnyH_take (i := 12) (oi := { dst := some 16, op := Op.binOp BinOp.sub 22 (Operand.tmp 10) (Operand.tmp 15) 22, type := 22, pos := "ref.go:274", after := #[{ on := 6, ground := Ground.data }, { on := 11, ground := Ground.data }, { on := 4, ground := Ground.guard }], guard := some (4, true) }) (v := ?_) rfl (by kernel_rfl) (by kernel_rfl) (by kernel_rfl) (fun _ _ _ h => h) (Or.inl ⟨by rfl, ?_⟩) g1 ?_
        rotate_left
        · intro w9 hSw
          try dsimp only at hSw
          obtain ⟨k0, k1⟩ := tcells hSw.1
          go_simp
          try with_reducible rfl
        try simp only [Act.put, List.setIfInBounds_toArray, List.set_cons_zero, List.set_cons_succ]
        refine wpAnyH_take (i := 13) (oi := { dst := some 17, op := Op.fieldAddr 24 (Operand.tmp 1) 1, type := 0, pos := "ref.go:274", after := #[{ on := 4, ground := Ground.guard }], guard := some (4, true) }) (v := ?_) rfl (by kernel_rfl) (by kernel_rfl) (by kernel_rfl) (fun _ _ _ h => h) (Or.inl ⟨by rfl, ?_⟩) g1 ?_
        rotate_left
        · intro w9 hSw
          try dsimp only at hSw
          obtain ⟨k0, k1⟩ := tcells hSw.1
          go_simp
          try with_reducible rfl
        try simp only [Act.put, List.setIfInBounds_toArray, List.set_cons_zero, List.set_cons_succ]
        refine wpAnyH_take (i := 14) (oi := { dst := some 18, op := Op.load 22 (Operand.tmp 17), type := 22, pos := "ref.go:274", after := #[{ on := 13, ground := Ground.data }, { on := 4, ground := Ground.guard }], guard := some (4, true) }) (v := ?_) rfl (by kernel_rfl) (by kernel_rfl) (by kernel_rfl) (fun _ _ _ h => h) (Or.inl ⟨by rfl, ?_⟩) g1 ?_
        rotate_left
        · intro w9 hSw
          try dsimp only at hSw
          obtain ⟨k0, k1⟩ := tcells hSw.1
          go_simp
          try with_reducible rfl
        try simp only [Act.put, List.setIfInBounds_toArray, List.set_cons_zero, List.set_cons_succ]
        refine wpAnyH_take (i := 15) (oi := { dst := some 19, op := Op.fieldAddr 24 (Operand.tmp 1) 1, type := 0, pos := "ref.go:274", after := #[{ on := 4, ground := Ground.guard }], guard := some (4, true) }) (v := ?_) rfl (by kernel_rfl) (by kernel_rfl) (by kernel_rfl) (fun _ _ _ h => h) (Or.inl ⟨by rfl, ?_⟩) g1 ?_
        rotate_left
        · intro w9 hSw
          try dsimp only at hSw
          obtain ⟨k0, k1⟩ := tcells hSw.1
          go_simp
          try with_reducible rfl
        try simp only [Act.put, List.setIfInBounds_toArray, List.set_cons_zero, List.set_cons_succ]
        refine wpAnyH_take (i := 16) (oi := { dst := some 20, op := Op.load 22 (Operand.tmp 19), type := 22, pos := "ref.go:274", after := #[{ on := 15, ground := Ground.data }, { on := 4, ground := Ground.guard }], guard := some (4, true) }) (v := ?_) rfl (by kernel_rfl) (by kernel_rfl) (by kernel_rfl) (fun _ _ _ h => h) (Or.inl ⟨by rfl, ?_⟩) g1 ?_
        rotate_left
        · intro w9 hSw
          try dsimp only at hSw
          obtain ⟨k0, k1⟩ := tcells hSw.1
          go_simp
          try with_reducible rfl
        try simp only [Act.put, List.setIfInBounds_toArray, List.set_cons_zero, List.set_cons_succ]
        refine wpAnyH_take (i := 17) (oi := { dst := some 21, op := Op.move (Operand.tmp 3), type := 22, pos := "ref.go:274", after := #[{ on := 4, ground := Ground.guard }], guard := some (4, true) }) (v := ?_) rfl (by kernel_rfl) (by kernel_rfl) (by kernel_rfl) (fun _ _ _ h => h) (Or.inl ⟨by rfl, ?_⟩) g1 ?_
        rotate_left
        · intro w9 hSw
          try dsimp only at hSw
          obtain ⟨k0, k1⟩ := tcells hSw.1
          go_simp
          try with_reducible rfl
        try simp only [Act.put, List.setIfInBounds_toArray, List.set_cons_zero, List.set_cons_succ]
        refine wpAnyH_take (i := 18) (oi := { dst := some 22, op := Op.binOp BinOp.add 22 (Operand.tmp 21) (Operand.const (Value.int IntKind.u64 1)) 22, type := 22, pos := "ref.go:274", after := #[{ on := 17, ground := Ground.data }, { on := 4, ground := Ground.guard }], guard := some (4, true) }) (v := ?_) rfl (by kernel_rfl) (by kernel_rfl) (by kernel_rfl) (fun _ _ _ h => h) (Or.inl ⟨by rfl, ?_⟩) g1 ?_
        rotate_left
        · intro w9 hSw
          try dsimp only at hSw
          obtain ⟨k0, k1⟩ := tcells hSw.1
          go_simp
          try with_reducible rfl
        try simp only [Act.put, List.setIfInBounds_toArray, List.set_cons_zero, List.set_cons_succ]
        refine wpAnyH_take (i := 19) (oi := { dst := some 23, op := Op.binOp BinOp.rem 22 (Operand.tmp 20) (Operand.tmp 22) 22, type := 22, pos := "ref.go:274", after := #[{ on := 16, ground := Ground.data }, { on := 18, ground := Ground.data }, { on := 4, ground := Ground.guard }], guard := some (4, true) }) (v := ?_) rfl (by kernel_rfl) (by kernel_rfl) (by kernel_rfl) (fun _ _ _ h => h) (Or.inl ⟨by rfl, ?_⟩) g1 ?_
        rotate_left
        · intro w9 hSw
          try dsimp only at hSw
          obtain ⟨k0, k1⟩ := tcells hSw.1
          go_simp
          try with_reducible rfl
        try simp only [Act.put, List.setIfInBounds_toArray, List.set_cons_zero, List.set_cons_succ]
        refine wpAnyH_take (i := 20) (oi := { dst := some 24, op := Op.binOp BinOp.sub 22 (Operand.tmp 18) (Operand.tmp 23) 22, type := 22, pos := "ref.go:274", after := #[{ on := 14, ground := Ground.data }, { on := 19, ground := Ground.data }, { on := 4, ground := Ground.guard }], guard := some (4, true) }) (v := ?_) rfl (by kernel_rfl) (by kernel_rfl) (by kernel_rfl) (fun _ _ _ h => h) (Or.inl ⟨by rfl, ?_⟩) g1 ?_
        rotate_left
        · intro w9 hSw
          try dsimp only at hSw
          obtain ⟨k0, k1⟩ := tcells hSw.1
          go_simp
          try with_reducible rfl
        try simp only [Act.put, List.setIfInBounds_toArray, List.set_cons_zero, List.set_cons_succ]
        refine wpAnyH_take (i := 21) (oi := { dst := some 25, op := Op.binOp BinOp.neq 22 (Operand.tmp 16) (Operand.tmp 24) 22, type := 4, pos := "ref.go:274", after := #[{ on := 12, ground := Ground.data }, { on := 20, ground := Ground.data }, { on := 4, ground := Ground.guard }], guard := some (4, true) }) (v := ?_) rfl (by kernel_rfl) (by kernel_rfl) (by kernel_rfl) (fun _ _ _ h => h) (Or.inl ⟨by rfl, ?_⟩) g1 ?_
        rotate_left
        · intro w9 hSw
          try dsimp only at hSw
          obtain ⟨k0, k1⟩ := tcells hSw.1
          go_simp
          try with_reducible rfl
        try simp only [Act.put, List.setIfInBounds_toArray, List.set_cons_zero, List.set_cons_succ]
        refine wpAnyH_take (i := 22) (oi := { dst := some 26, op := Op.pick (Operand.tmp 8) (Operand.tmp 25) (Operand.const (Value.bool false)), type := 4, pos := "ref.go:274", after := #[{ on := 4, ground := Ground.data }, { on := 21, ground := Ground.data }], guard := none }) (v := ?_) rfl (by kernel_rfl) (by kernel_rfl) (by kernel_rfl) (fun _ _ _ h => h) (Or.inl ⟨by rfl, ?_⟩) g1 ?_
        rotate_left
        · intro w9 hSw
          try dsimp only at hSw
          obtain ⟨k0, k1⟩ := tcells hSw.1
          go_simp
          try with_reducible rfl
        try simp only [Act.put, List.setIfInBounds_toArray, List.set_cons_zero, List.set_cons_succ]
        refine wpAnyH_done (by kernel_rfl) ?_ _
        have KA := Lib.hid g1
        clear g1 H0 H1 HB
        have H0 := Lib.hid KA.out.1
        have H1 := Lib.hid KA.out.2.1
        have HB := Lib.hid KA.out.2.2
        clear KA
        generalize z1 = z9 at *
        go_wp2_with fail
        go_roundw
        case rel => exact ⟨2 * p + 1, by omega, by first | rfl | go_num | exact int_eq s4, Lib.hid NJ.out.2, H0, H1, HB⟩
        case measure => simp [intOf]; omega
    · have l1 : decide (p < 18446744073709551615) = false := decide_eq_false hm
      have n1 : (p == 18446744073709551615) = true := beq_iff_eq.2 (by omega)
      have V := Lib.hid (show (0 : Int) = bi (toT u).v ∧ p = bi (toT u).m by
        obtain ⟨j, hj, e⟩ := HJ.out
        have hj64 := j64 j (by have := D.out; omega) (by omega)
        have hjd : dif u = 64 := by have := D.out; omega
        rw [T1.out, T2.out, hjd]
        refine ⟨?_, by rw [e, hj64]⟩
        show (0 : Int) = u.lo - u.lo % 18446744073709551616
        omega)
      clear HJ
      go_wp2_with fail
      refine wp_region_held_drew (S := fun w' => Bk w' w.heap.size 24 #[.int .u64 u.lo, .int .u64 u.hi] ∧ Bk w' (w.heap.size + 1) 38 #[.int .u64 0, .int .u64 0] ∧ Below w.heap.size w w') (by kernel_rfl) ?_ (fun hHeld => ?_)
      · exact ⟨H0.out.drew, H1.out.drew, HB.out.drew⟩
      refine wpAnyH_take (i := 0) (oi := { dst := some 4, op := Op.move (Operand.tmp 3), type := 22, pos := "ref.go:274", after := #[], guard := none }) (v := ?_) rfl (by kernel_rfl) (by kernel_rfl) (by kernel_rfl) (fun _ _ _ h => h) (Or.inl ⟨by rfl, ?_⟩) hHeld ?_
      rotate_left
      · intro w9 hSw
        try dsimp only at hSw
        obtain ⟨k0, k1⟩ := tcells hSw.1
        go_simp
        try with_reducible rfl
      try simp only [Act.put, List.setIfInBounds_toArray, List.set_cons_zero, List.set_cons_succ]
      refine wpAnyH_ready (rs := [1]) (by kernel_rfl) (by simp) ?_
      refine AllReadyH.cons (o := { dst := some 5, op := Op.call { callee := Callee.value (Operand.func 46), args := #[], argTypes := #[] }, type := 24, pos := "ref.go:274", after := #[], guard := none }) rfl (fun K hK => ?_) AllReadyH.nil
      go_simp
      (go_at_call 46; with_reducible refine (ruall_lit _).mono ?_; rintro e z1 ⟨rfl, qb⟩)
      refine hK.out _ _ ?_ (fun g1 => ?_)
      · exact bks_keep qb hHeld
      clear hK K qb
      skip
      try simp only [Act.put, List.setIfInBounds_toArray, List.set_cons_zero, List.set_cons_succ]
      refine wpAnyH_take (i := 2) (oi := { dst := some 6, op := Op.field 24 (Operand.tmp 5) 1, type := 22, pos := "ref.go:274", after := #[{ on := 1, ground := Ground.data }], guard := none }) (v := ?_) rfl (by kernel_rfl) (by kernel_rfl) (by kernel_rfl) (fun _ _ _ h => h) (Or.inl ⟨by rfl, ?_⟩) g1 ?_
      rotate_left
      · intro w9 hSw
        try dsimp only at hSw
        obtain ⟨k0, k1⟩ := tcells hSw.1
        go_simp
        try with_reducible rfl
      try simp only [Act.put, List.setIfInBounds_toArray, List.set_cons_zero, List.set_cons_succ]
      refine wpAnyH_take (i := 3) (oi := { dst := some 7, op := Op.binOp BinOp.lss 22 (Operand.tmp 4) (Operand.tmp 6) 22, type := 4, pos := "ref.go:274", after := #[{ on := 0, ground := Ground.data }, { on := 2, ground := Ground.data }], guard := none }) (v := ?_) rfl (by kernel_rfl) (by kernel_rfl) (by kernel_rfl) (fun _ _ _ h => h) (Or.inl ⟨by rfl, ?_⟩) g1 ?_
      rotate_left
      · intro w9 hSw
        try dsimp only at hSw
        obtain ⟨k0, k1⟩ := tcells hSw.1
        go_simp
        try with_reducible rfl
      try simp only [Act.put, List.setIfInBounds_toArray, List.set_cons_zero, List.set_cons_succ]
      refine wpAnyH_take (i := 4) (oi := { dst := some 8, op := Op.move (Operand.tmp 7), type := 4, pos := "ref.go:274", after := #[{ on := 3, ground := Ground.data }, { on := 1, ground := Ground.chain }], guard := none }) (v := ?_) rfl (by kernel_rfl) (by kernel_rfl) (by kernel_rfl) (fun _ _ _ h => h) (Or.inl ⟨by rfl, ?_⟩) g1 ?_
      rotate_left
      · intro w9 hSw
        try dsimp only at hSw
        obtain ⟨k0, k1⟩ := tcells hSw.1
        go_simp
        try with_reducible rfl
      try simp only [Act.put, List.setIfInBounds_toArray, List.set_cons_zero, List.set_cons_succ]
      refine wpAnyH_take (i := 5) (oi := { dst := some 9, op := Op.fieldAddr 24 (Operand.tmp 1) 0, type := 0, pos := "ref.go:274", after := #[{ on := 4, ground := Ground.guard }], guard := some (4, true) }) (v := undef) rfl (by kernel_rfl) (by kernel_rfl) (by kernel_rfl) (fun _ _ _ h => h) (Or.inr ⟨by rfl, rfl⟩) g1 ?_
      try simp only [Act.put, List.setIfInBounds_toArray, List.set_cons_zero, List.set_cons_succ]
      refine wpAnyH_take (i := 6) (oi := { dst := some 10, op := Op.load 22 (Operand.tmp 9), type := 22, pos := "ref.go:274", after := #[{ on := 5, ground := Ground.data }, { on := 4, ground := Ground.guard }], guard := some (4, true) }) (v := undef) rfl (by kernel_rfl) (by kernel_rfl) (by kernel_rfl) (fun _ _ _ h => h) (Or.inr ⟨by rfl, rfl⟩) g1 ?_
      try simp only [Act.put, List.setIfInBounds_toArray, List.set_cons_zero, List.set_cons_succ]
      refine wpAnyH_take (i := 7) (oi := { dst := some 11, op := Op.fieldAddr 24 (Operand.tmp 1) 0, type := 0, pos := "ref.go:274", after := #[{ on := 4, ground := Ground.guard }], guard := some (4, true) }) (v := undef) rfl (by kernel_rfl) (by kernel_rfl) (by kernel_rfl) (fun _ _ _ h => h) (Or.inr ⟨by rfl, rfl⟩) g1 ?_
      try simp only [Act.put, List.setIfInBounds_toArray, List.set_cons_zero, List.set_cons_succ]
      refine wpAnyH_take (i := 8) (oi := { dst := some 12, op := Op.load 22 (Operand.tmp 11), type := 22, pos := "ref.go:274", after := #[{ on := 7, ground := Ground.data }, { on := 4, ground := Ground.guard }], guard := some (4, true) }) (v := undef) rfl (by kernel_rfl) (by kernel_rfl) (by kernel_rfl) (fun _ _ _ h => h) (Or.inr ⟨by rfl, rfl⟩) g1 ?_
      try simp only [Act.put, List.setIfInBounds_toArray, List.set_cons_zero, List.set_cons_succ]
      refine wpAnyH_take (i := 9) (oi := { dst := some 13, op := Op.move (Operand.tmp 3), type := 22, pos := "ref.go:274", after := #[{ on := 4, ground := Ground.guard }], guard := some (4, true) }) (v := undef) rfl (by kernel_rfl) (by kernel_rfl) (by kernel_rfl) (fun _ _ _ h => h) (Or.inr ⟨by rfl, rfl⟩) g1 ?_
      try simp only [Act.put, List.setIfInBounds_toArray, List.set_cons_zero, List.set_cons_succ]
      refine wpAnyH_take (i := 10) (oi := { dst := some 14, op := Op.binOp BinOp.add 22 (Operand.tmp 13) (Operand.const (Value.int IntKind.u64 1)) 22, type := 22, pos := "ref.go:274", after := #[{ on := 9, ground := Ground.data }, { on := 4, ground := Ground.guard }], guard := some (4, true) }) (v := undef) rfl (by kernel_rfl) (by kernel_rfl) (by kernel_rfl) (fun _ _ _ h => h) (Or.inr ⟨by rfl, rfl⟩) g1 ?_
      try simp only [Act.put, List.setIfInBounds_toArray, List.set_cons_zero, List.set_cons_succ]
      refine wpAnyH_take (i := 11) (oi := { dst := some 15, op := Op.binOp BinOp.rem 22 (Operand.tmp 12) (Operand.tmp 14) 22, type := 22, pos := "ref.go:274", after := #[{ on := 8, ground := Ground.data }, { on := 10, ground := Ground.data }, { on := 4, ground := Ground.guard }], guard := some (4, true) }) (v := undef) rfl (by kernel_rfl) (by kernel_rfl) (by kernel_rfl) (fun _ _ _ h => h) (Or.inr ⟨by rfl, rfl⟩) g1 ?_
      try simp only [Act.put, List.setIfInBounds_toArray, List.set_cons_zero, List.set_cons_succ]
      refine wpAnyH_take (i := 12) (oi := { dst := some 16, op := Op.binOp BinOp.sub 22 (Operand.tmp 10) (Operand.tmp 15) 22, type := 22, pos := "ref.go:274", after := #[{ on := 6, ground := Ground.data }, { on := 11, ground := Ground.data }, { on := 4, ground := Ground.guard }], guard := some (4, true) }) (v := undef) rfl (by kernel_rfl) (by kernel_rfl) (by kernel_rfl) (fun _ _ _ h => h) (Or.inr ⟨by rfl, rfl⟩) g1 ?_
      try simp only [Act.put, List.setIfInBounds_toArray, List.set_cons_zero, List.set_cons_succ]
      refine wpAnyH_take (i := 13) (oi := { dst := some 17, op := Op.fieldAddr 24 (Operand.tmp 1) 1, type := 0, pos := "ref.go:274", after := #[{ on := 4, ground := Ground.guard }], guard := some (4, true) }) (v := undef) rfl (by kernel_rfl) (by kernel_rfl) (by kernel_rfl) (fun _ _ _ h => h) (Or.inr ⟨by rfl, rfl⟩) g1 ?_
      try simp only [Act.put, List.setIfInBounds_toArray, List.set_cons_zero, List.set_cons_succ]
      refine wpAnyH_take (i := 14) (oi := { dst := some 18, op := Op.load 22 (Operand.tmp 17), type := 22, pos := "ref.go:274", after := #[{ on := 13, ground := Ground.data }, { on := 4, ground := Ground.guard }], guard := some (4, true) }) (v := undef) rfl (by kernel_rfl) (by kernel_rfl) (by kernel_rfl) (fun _ _ _ h => h) (Or.inr ⟨by rfl, rfl⟩) g1 ?_
      try simp only [Act.put, List.setIfInBounds_toArray, List.set_cons_zero, List.set_cons_succ]
      refine wpAnyH_take (i := 15) (oi := { dst := some 19, op := Op.fieldAddr 24 (Operand.tmp 1) 1, type := 0, pos := "ref.go:274", after := #[{ on := 4, ground := Ground.guard }], guard := some (4, true) }) (v := undef) rfl (by kernel_rfl) (by kernel_rfl) (by kernel_rfl) (fun _ _ _ h => h) (Or.inr ⟨by rfl, rfl⟩) g1 ?_
      try simp only [Act.put, List.setIfInBounds_toArray, List.set_cons_zero, List.set_cons_succ]
      refine wpAnyH_take (i := 16) (oi := { dst := some 20, op := Op.load 22 (Operand.tmp 19), type := 22, pos := "ref.go:274", after := #[{ on := 15, ground := Ground.data }, { on := 4, ground := Ground.guard }], guard := some (4, true) }) (v := undef) rfl (by kernel_rfl) (by kernel_rfl) (by kernel_rfl) (fun _ _ _ h => h) (Or.inr ⟨by rfl, rfl⟩) g1 ?_
      try simp only [Act.put, List.setIfInBounds_toArray, List.set_cons_zero, List.set_cons_succ]
      refine wpAnyH_take (i := 17) (oi := { dst := some 21, op := Op.move (Operand.tmp 3), type := 22, pos := "ref.go:274", after := #[{ on := 4, ground := Ground.guard }], guard := some (4, true) }) (v := undef) rfl (by kernel_rfl) (by kernel_rfl) (by kernel_rfl) (fun _ _ _ h => h) (Or.inr ⟨by rfl, rfl⟩) g1 ?_
      try simp only [Act.put, List.setIfInBounds_toArray, List.set_cons_zero, List.set_cons_succ]
      refine wpAnyH_take (i := 18) (oi := { dst := some 22, op := Op.binOp BinOp.add 22 (Operand.tmp 21) (Operand.const (Value.int IntKind.u64 1)) 22, type := 22, pos := "ref.go:274", after := #[{ on := 17, ground := Ground.data }, { on := 4, ground := Ground.guard }], guard := some (4, true) }) (v := undef) rfl (by kernel_rfl) (by kernel_rfl) (by kernel_rfl) (fun _ _ _ h => h) (Or.inr ⟨by rfl, rfl⟩) g1 ?_
      try simp only [Act.put, List.setIfInBounds_toArray, List.set_cons_zero, List.set_cons_succ]
      refine wpAnyH_take (i := 19) (oi := { dst := some 23, op := Op.binOp BinOp.rem 22 (Operand.tmp 20) (Operand.tmp 22) 22, type := 22, pos := "ref.go:274", after := #[{ on := 16, ground := Ground.data }, { on := 18, ground := Ground.data }, { on := 4, ground := Ground.guard }], guard := some (4, true) }) (v := undef) rfl (by kernel_rfl) (by kernel_rfl) (by kernel_rfl) (fun _ _ _ h => h) (Or.inr ⟨by rfl, rfl⟩) g1 ?_
      try simp only [Act.put, List.setIfInBounds_toArray, List.set_cons_zero, List.set_cons_succ]
      refine wpAnyH_take (i := 20) (oi := { dst := some 24, op := Op.binOp BinOp.sub 22 (Operand.tmp 18) (Operand.tmp 23) 22, type := 22, pos := "ref.go:274", after := #[{ on := 14, ground := Ground.data }, { on := 19, ground := Ground.data }, { on := 4, ground := Ground.guard }], guard := some (4, true) }) (v := undef) rfl (by kernel_rfl) (by kernel_rfl) (by kernel_rfl) (fun _ _ _ h => h) (Or.inr ⟨by rfl, rfl⟩) g1 ?_
      try simp only [Act.put, List.setIfInBounds_toArray, List.set_cons_zero, List.set_cons_succ]
      refine wpAnyH_take (i := 21) (oi := { dst := some 25, op := Op.binOp BinOp.neq 22 (Operand.tmp 16) (Operand.tmp 24) 22, type := 4, pos := "ref.go:274", after := #[{ on := 12, ground := Ground.data }, { on := 20, ground := Ground.data }, { on := 4, ground := Ground.guard }], guard := some (4, true) }) (v := undef) rfl (by kernel_rfl) (by kernel_rfl) (by kernel_rfl) (fun _ _ _ h => h) (Or.inr ⟨by rfl, rfl⟩) g1 ?_
      try simp only [Act.put, List.setIfInBounds_toArray, List.set_cons_zero, List.set_cons_succ]
      refine wpAnyH_take (i := 22) (oi := { dst := some 26, op := Op.pick (Operand.tmp 8) (Operand.tmp 25) (Operand.const (Value.bool false)), type := 4, pos := "ref.go:274", after := #[{ on := 4, ground := Ground.data }, { on := 21, ground := Ground.data }], guard := none }) (v := ?_) rfl (by kernel_rfl) (by kernel_rfl) (by kernel_rfl) (fun _ _ _ h => h) (Or.inl ⟨by rfl, ?_⟩) g1 ?_
      rotate_left
      · intro w9 hSw
        try dsimp only at hSw
        obtain ⟨k0, k1⟩ := tcells hSw.1
        go_simp
        try with_reducible rfl
      try simp only [Act.put, List.setIfInBounds_toArray, List.set_cons_zero, List.set_cons_succ]
      refine wpAnyH_done (by kernel_rfl) ?_ _
      have KA := Lib.hid g1
      clear g1 H0 H1 HB
      have H0 := Lib.hid KA.out.1
      have H1 := Lib.hid KA.out.2.1
      have HB := Lib.hid KA.out.2.2
      clear KA
      generalize z1 = z9 at *
      go_wp2_with fail
      refine (ruall_lit _).mono ?_
      rintro e w5 ⟨rfl, qb⟩
      replace H0 := Lib.hid (H0.out.below qb H0.out.lt)
      replace H1 := Lib.hid (H1.out.below qb H1.out.lt)
      replace HB := Lib.hid (below_then HB.out qb (Nat.le_refl _))
      clear qb
      obtain ⟨c00, c01⟩ := tcells H0.out
      obtain ⟨c10, c11⟩ := tcells H1.out
      have f0 := H1.out.frozen 0
      have f1 := H1.out.frozen 1
      go_wp2_with fail
      have r0 : ∀ u v, ((w5.setCell ⟨w.heap.size + 1, 0, none⟩ u).setCell ⟨w.heap.size + 1, 1, none⟩ v).cell? ⟨w.heap.size + 1, 0, none⟩ = some u := fun u v => set_fst c10
      have r1 : ∀ u v, ((w5.setCell ⟨w.heap.size + 1, 0, none⟩ u).setCell ⟨w.heap.size + 1, 1, none⟩ v).cell? ⟨w.heap.size + 1, 1, none⟩ = some v := fun u v => set_snd c11
      refine bodyPost_ret (by simp [results, Try.results44, r0, r1, go_sem]; try rfl) rfl ?_
      exact ⟨rt_u V.out.1 V.out.2, (below_st2 HB.out (by omega))⟩
end Go.Proofs.Ythjjfginenpfjaa
