/-
  Texts of layer 5 and of those below it, put together: contracts and plain mathematics that ScalarSets needs.
-/
import Derived.Test.YtcimihckhobniaaGreatZM1
import Derived.Test.YtcimihckhobniaaGreatZM20
import Derived.Test.YtcimihckhobniaaGreatZM4
namespace Go.Proofs.YtcimihckhobniaaGreat
open Go.RowKit Tn Ow Sp
set_option linter.unusedVariables false
set_option linter.unusedSimpArgs false
theorem low_val (x p : Int) (j : Nat) (e : p = 2 ^ j - 1) (hx : 0 ≤ x) (h9 : x ≤ 18446744073709551615) : IntKind.u64.wrap (x - x.tmod (p + 1)) = x - x % 2 ^ j := by
  have hp := pow_pos' j
  rw [Int.tmod_eq_emod_of_nonneg hx, show p + 1 = 2 ^ j by omega]
  have m0 := Int.emod_nonneg x (show (2 : Int) ^ j ≠ 0 by omega)
  have m1 : x % 2 ^ j ≤ x := by
    rcases Int.lt_or_le x (2 ^ j) with h | h
    · rw [Int.emod_eq_of_lt hx h]; exact Int.le_refl _
    · have := Int.emod_lt_of_pos x hp; omega
  exact wru _ (by omega) (by omega)
theorem low_same (u : E) (hu : okU u) (j : Nat) : (u.lo - u.lo % 2 ^ j = u.hi - u.hi % 2 ^ j) ↔ dif u ≤ j := by
  unfold okU at hu
  have hp := pow_pos' j
  have e1 := Int.mul_ediv_add_emod u.lo (2 ^ j)
  have e2 := Int.mul_ediv_add_emod u.hi (2 ^ j)
  rw [← dif_iff u j]
  have k1 : ((u.lo.toNat / 2 ^ j : Nat) : Int) = u.lo / 2 ^ j := by rw [Int.natCast_ediv, pow_cast, Int.toNat_of_nonneg hu.1]
  have k2 : ((u.hi.toNat / 2 ^ j : Nat) : Int) = u.hi / 2 ^ j := by rw [Int.natCast_ediv, pow_cast, Int.toNat_of_nonneg (by omega)]
  constructor
  · intro h
    have h2 : 2 ^ j * (u.lo / 2 ^ j) = 2 ^ j * (u.hi / 2 ^ j) := by omega
    have h3 := Int.eq_of_mul_eq_mul_left (show (2 : Int) ^ j ≠ 0 by omega) h2
    omega
  · intro h
    have h2 : u.lo / 2 ^ j = u.hi / 2 ^ j := by rw [← k1, ← k2, h]
    rw [h2] at e1
    omega
theorem j64 (j : Nat) (h : j ≤ 64) (e : (18446744073709551615 : Int) = 2 ^ j - 1) : j = 64 := by
  rcases Nat.lt_or_ge j 64 with g | g
  · have := pow_bd j (by omega); omega
  · omega
set_option maxHeartbeats 4000000 in
set_option maxRecDepth 100000 in
theorem rtot_any (u : E) (hu : okU u) (w : World) :
    Calls Tryz.prog 113 #[.agg #[.int .u64 u.lo, .int .u64 u.hi]] w fun e w' => e = .returned (.agg #[.int .u64 (bi (toT u).v), .int .u64 (bi (toT u).m)]) ∧ Below w.heap.size w w' := by
  have OK := Lib.hid hu
  have T1 := Lib.hid (toT_v hu)
  have T2 := Lib.hid (toT_m hu)
  have D := Lib.hid (dif_le hu)
  obtain ⟨a0, a1, a2⟩ := hu
  have i1 := fldU1
  go_enter Tryz.func113, Tryz.ntmps113
  go_wp2_with fail
  have K0 := ((Bk.new w 26 #[.int .u64 u.lo, .int .u64 u.hi]).alloc (.cells #[.int .u64 0, .int .u64 0] 24))
  have K1 := (Bk.new (w.alloc (.cells #[.int .u64 u.lo, .int .u64 u.hi] 26)) 24 #[.int .u64 0, .int .u64 0])
  rw [World.size_alloc] at K1
  have B0 : Below w.heap.size w ((w.alloc (.cells #[.int .u64 u.lo, .int .u64 u.hi] 26)).alloc (.cells #[.int .u64 0, .int .u64 0] 24)) := by go_grown
  generalize ((w.alloc (.cells #[.int .u64 u.lo, .int .u64 u.hi] 26)).alloc (.cells #[.int .u64 0, .int .u64 0] 24)) = w0 at *
  have H0 := Lib.hid K0
  obtain ⟨c00, c01⟩ := tcells K0
  have H1 := Lib.hid K1
  obtain ⟨c10, c11⟩ := tcells K1
  have HB := Lib.hid B0
  clear K0 K1 B0
  clear c00 c01 c10 c11
  go_wp2_with fail
  go_loopw [3] (fun i wr => ∃ p : Int, (0 ≤ p ∧ p ≤ 18446744073709551615) ∧ i = .int .u64 p ∧ Hid (∃ j : Nat, j ≤ dif u ∧ p = 2 ^ j - 1) ∧ Hid (Bk wr w.heap.size 26 #[.int .u64 u.lo, .int .u64 u.hi]) ∧ Hid (Bk wr (w.heap.size + 1) 24 #[.int .u64 0, .int .u64 0]) ∧ Hid (Below w.heap.size w wr)) (fun i _ => (18446744073709551615 - intOf i).toNat)
  case atStart => exact ⟨0, by omega, rfl, Lib.hid ⟨0, Nat.zero_le _, rfl⟩, H0, H1, HB⟩
  case round =>
    clear H0 H1 HB
    obtain ⟨p, hp, rfl, HJ, H0, H1, HB⟩ := hrel
    by_cases hm : p < 18446744073709551615
    · have l1 : decide (p < 18446744073709551615) = true := decide_eq_true hm
      have s1 : IntKind.u64.wrap (p + 1) = p + 1 := wru _ (by omega) (by omega)
      have s2 : ¬ p + 1 = 0 := by omega
      have s3 : (p + 1 == 0) = false := by simp [s2]
      have n1 : (p == 18446744073709551615) = false := beq_eq_false_iff_ne.2 (by omega)
      by_cases hd : IntKind.u64.wrap (u.lo - u.lo.tmod (p + 1)) = IntKind.u64.wrap (u.hi - u.hi.tmod (p + 1))
      · have d1 : (IntKind.u64.wrap (u.lo - u.lo.tmod (p + 1)) != IntKind.u64.wrap (u.hi - u.hi.tmod (p + 1))) = false := by rw [hd]; simp
        have V := Lib.hid (show IntKind.u64.wrap (u.lo - u.lo.tmod (p + 1)) = bi (toT u).v ∧ p = bi (toT u).m by
          obtain ⟨j, hj, e⟩ := HJ.out
          have g := hd
          rw [low_val u.lo p j e a0 (by omega), low_val u.hi p j e (by omega) a2, low_same u OK.out j] at g
          have hjd : dif u = j := by omega
          rw [T1.out, T2.out, hjd, low_val u.lo p j e a0 (by omega)]
          exact ⟨rfl, e⟩)
        have W1 := Lib.hid (Int.tmod_eq_emod_of_nonneg (b := p + 1) a0)
        clear HJ hd
        go_wp2_with fail
        refine wp_region_held_drew (S := fun w' => Bk w' w.heap.size 26 #[.int .u64 u.lo, .int .u64 u.hi] ∧ Bk w' (w.heap.size + 1) 24 #[.int .u64 0, .int .u64 0] ∧ Below w.heap.size w w') (by kernel_rfl) ?_ (fun hHeld => ?_)
        · exact ⟨H0.out.drew, H1.out.drew, HB.out.drew⟩
        refine tq 0 ?_ rfl (by kernel_rfl) (fun _ _ _ h => h) (by rfl) hHeld ?_ ?_; rotate_left
        · intro w9 hSw; (try dsimp only at hSw); obtain ⟨k0, k1⟩ := tcells hSw.1; go_simp; try with_reducible rfl
        try simp only [Act.put, ptA, ptB, ptC]
        refine tc 1 rfl (by kernel_rfl) (fun K hK => ?_)
        go_simp
        (go_at_call 53; with_reducible refine (ruall_lit _).mono ?_; rintro e z1 ⟨rfl, qb⟩)
        refine hK.out _ _ ?_ (fun g1 => ?_)
        · exact bks_keep qb hHeld
        clear hK K qb
        skip
        try simp only [Act.put, ptA, ptB, ptC]
        refine tq 2 ?_ rfl (by kernel_rfl) (fun _ _ _ h => h) (by rfl) g1 ?_ ?_; rotate_left
        · intro w9 hSw; (try dsimp only at hSw); obtain ⟨k0, k1⟩ := tcells hSw.1; go_simp; try with_reducible rfl
        try simp only [Act.put, ptA, ptB, ptC]
        refine tq 3 ?_ rfl (by kernel_rfl) (fun _ _ _ h => h) (by rfl) g1 ?_ ?_; rotate_left
        · intro w9 hSw; (try dsimp only at hSw); obtain ⟨k0, k1⟩ := tcells hSw.1; go_simp; try with_reducible rfl
        try simp only [Act.put, ptA, ptB, ptC]
        refine tq 4 ?_ rfl (by kernel_rfl) (fun _ _ _ h => h) (by rfl) g1 ?_ ?_; rotate_left
        · intro w9 hSw; (try dsimp only at hSw); obtain ⟨k0, k1⟩ := tcells hSw.1; go_simp; try with_reducible rfl
        try simp only [Act.put, ptA, ptB, ptC]
        refine tq 5 ?_ rfl (by kernel_rfl) (fun _ _ _ h => h) (by rfl) g1 ?_ ?_; rotate_left
        · intro w9 hSw; (try dsimp only at hSw); obtain ⟨k0, k1⟩ := tcells hSw.1; go_simp; try with_reducible rfl
        try simp only [Act.put, ptA, ptB, ptC]
        refine tq 6 ?_ rfl (by kernel_rfl) (fun _ _ _ h => h) (by rfl) g1 ?_ ?_; rotate_left
        · intro w9 hSw; (try dsimp only at hSw); obtain ⟨k0, k1⟩ := tcells hSw.1; go_simp; try with_reducible rfl
        try simp only [Act.put, ptA, ptB, ptC]
        refine tq 7 ?_ rfl (by kernel_rfl) (fun _ _ _ h => h) (by rfl) g1 ?_ ?_; rotate_left
        · intro w9 hSw; (try dsimp only at hSw); obtain ⟨k0, k1⟩ := tcells hSw.1; go_simp; try with_reducible rfl
        try simp only [Act.put, ptA, ptB, ptC]
        refine tq 8 ?_ rfl (by kernel_rfl) (fun _ _ _ h => h) (by rfl) g1 ?_ ?_; rotate_left
        · intro w9 hSw; (try dsimp only at hSw); obtain ⟨k0, k1⟩ := tcells hSw.1; go_simp; try with_reducible rfl
        try simp only [Act.put, ptA, ptB, ptC]
        refine tq 9 ?_ rfl (by kernel_rfl) (fun _ _ _ h => h) (by rfl) g1 ?_ ?_; rotate_left
        · intro w9 hSw; (try dsimp only at hSw); obtain ⟨k0, k1⟩ := tcells hSw.1; go_simp; try with_reducible rfl
        try simp only [Act.put, ptA, ptB, ptC]
        refine tq 10 ?_ rfl (by kernel_rfl) (fun _ _ _ h => h) (by rfl) g1 ?_ ?_; rotate_left
        · intro w9 hSw; (try dsimp only at hSw); obtain ⟨k0, k1⟩ := tcells hSw.1; go_simp; try with_reducible rfl
        try simp only [Act.put, ptA, ptB, ptC]
        refine tq 11 ?_ rfl (by kernel_rfl) (fun _ _ _ h => h) (by rfl) g1 ?_ ?_; rotate_left
        · intro w9 hSw; (try dsimp only at hSw); obtain ⟨k0, k1⟩ := tcells hSw.1; go_simp; try with_reducible rfl
        try simp only [Act.put, ptA, ptB, ptC]
        refine tq 12 ?_ rfl (by kernel_rfl) (fun _ _ _ h => h) (by rfl) g1 ?_ ?_; rotate_left
        · intro w9 hSw; (try dsimp only at hSw); obtain ⟨k0, k1⟩ := tcells hSw.1; go_simp; try with_reducible rfl
        try simp only [Act.put, ptA, ptB, ptC]
        refine tq 13 ?_ rfl (by kernel_rfl) (fun _ _ _ h => h) (by rfl) g1 ?_ ?_; rotate_left
        · intro w9 hSw; (try dsimp only at hSw); obtain ⟨k0, k1⟩ := tcells hSw.1; go_simp; try with_reducible rfl
        try simp only [Act.put, ptA, ptB, ptC]
        refine tq 14 ?_ rfl (by kernel_rfl) (fun _ _ _ h => h) (by rfl) g1 ?_ ?_; rotate_left
        · intro w9 hSw; (try dsimp only at hSw); obtain ⟨k0, k1⟩ := tcells hSw.1; go_simp; try with_reducible rfl
        try simp only [Act.put, ptA, ptB, ptC]
        refine tq 15 ?_ rfl (by kernel_rfl) (fun _ _ _ h => h) (by rfl) g1 ?_ ?_; rotate_left
        · intro w9 hSw; (try dsimp only at hSw); obtain ⟨k0, k1⟩ := tcells hSw.1; go_simp; try with_reducible rfl
        try simp only [Act.put, ptA, ptB, ptC]
        refine tq 16 ?_ rfl (by kernel_rfl) (fun _ _ _ h => h) (by rfl) g1 ?_ ?_; rotate_left
        · intro w9 hSw; (try dsimp only at hSw); obtain ⟨k0, k1⟩ := tcells hSw.1; go_simp; try with_reducible rfl
        try simp only [Act.put, ptA, ptB, ptC]
        refine tq 17 ?_ rfl (by kernel_rfl) (fun _ _ _ h => h) (by rfl) g1 ?_ ?_; rotate_left
        · intro w9 hSw; (try dsimp only at hSw); obtain ⟨k0, k1⟩ := tcells hSw.1; go_simp; try with_reducible rfl
        try simp only [Act.put, ptA, ptB, ptC]
        refine tq 18 ?_ rfl (by kernel_rfl) (fun _ _ _ h => h) (by rfl) g1 ?_ ?_; rotate_left
        · intro w9 hSw; (try dsimp only at hSw); obtain ⟨k0, k1⟩ := tcells hSw.1; go_simp; try with_reducible rfl
        try simp only [Act.put, ptA, ptB, ptC]
        refine tq 19 ?_ rfl (by kernel_rfl) (fun _ _ _ h => h) (by rfl) g1 ?_ ?_; rotate_left
        · intro w9 hSw; (try dsimp only at hSw); obtain ⟨k0, k1⟩ := tcells hSw.1; go_simp; try with_reducible rfl
        try simp only [Act.put, ptA, ptB, ptC]
        refine tq 20 ?_ rfl (by kernel_rfl) (fun _ _ _ h => h) (by rfl) g1 ?_ ?_; rotate_left
        · intro w9 hSw; (try dsimp only at hSw); obtain ⟨k0, k1⟩ := tcells hSw.1; go_simp; try with_reducible rfl
        try simp only [Act.put, ptA, ptB, ptC]
        refine tq 21 ?_ rfl (by kernel_rfl) (fun _ _ _ h => h) (by rfl) g1 ?_ ?_; rotate_left
        · intro w9 hSw; (try dsimp only at hSw); obtain ⟨k0, k1⟩ := tcells hSw.1; go_simp; try with_reducible rfl
        try simp only [Act.put, ptA, ptB, ptC]
        refine tq 22 ?_ rfl (by kernel_rfl) (fun _ _ _ h => h) (by rfl) g1 ?_ ?_; rotate_left
        · intro w9 hSw; (try dsimp only at hSw); obtain ⟨k0, k1⟩ := tcells hSw.1; go_simp; try with_reducible rfl
        try simp only [Act.put, ptA, ptB, ptC]
        refine wpAnyH_done (by kernel_rfl) ?_ _
        have KA := Lib.hid g1
        clear g1 H0 H1 HB
        have H0 := Lib.hid KA.out.1
        have H1 := Lib.hid KA.out.2.1
        have HB := Lib.hid KA.out.2.2
        clear KA
        generalize z1 = z9 at *
        go_wp2_with fail
        refine (ruall_lit _).mono ?_
        rintro e w5 ⟨rfl, qb⟩
        replace H0 := Lib.hid (H0.out.below qb H0.out.lt)
        replace H1 := Lib.hid (H1.out.below qb H1.out.lt)
        replace HB := Lib.hid (below_then HB.out qb (Nat.le_refl _))
        clear qb
        obtain ⟨c00, c01⟩ := tcells H0.out
        obtain ⟨c10, c11⟩ := tcells H1.out
        have f0 := H1.out.frozen 0
        have f1 := H1.out.frozen 1
        go_wp2_with fail
        go_region
        go_wp2_with fail
        have r0 : ∀ u v, ((w5.setCell ⟨w.heap.size + 1, 0, none⟩ u).setCell ⟨w.heap.size + 1, 1, none⟩ v).drew.cell? ⟨w.heap.size + 1, 0, none⟩ = some u := fun u v => set_fst c10
        have r1 : ∀ u v, ((w5.setCell ⟨w.heap.size + 1, 0, none⟩ u).setCell ⟨w.heap.size + 1, 1, none⟩ v).drew.cell? ⟨w.heap.size + 1, 1, none⟩ = some v := fun u v => set_snd c11
        refine bodyPost_ret (by simp [results, Tryz.results113, r0, r1, go_sem]; try rfl) rfl ?_
        exact ⟨rt_u (by first | exact V.out.1 | (rw [← W1.out]; exact V.out.1) | (rw [← V.out.1, W1.out]; first | rfl | (rw [IntKind.wrap_u64]; omega))) V.out.2, (below_st2 HB.out (by omega)).drew⟩
      · have d1 : (IntKind.u64.wrap (u.lo - u.lo.tmod (p + 1)) != IntKind.u64.wrap (u.hi - u.hi.tmod (p + 1))) = true := by simp [hd]
        have NJ : Hid (2 * p + 1 ≤ 18446744073709551615 ∧ ∃ j : Nat, j ≤ dif u ∧ 2 * p + 1 = 2 ^ j - 1) := by
          obtain ⟨j, hj, e⟩ := HJ.out
          have g := hd
          rw [low_val u.lo p j e a0 (by omega), low_val u.hi p j e (by omega) a2, low_same u OK.out j] at g
          have q := pow_bd64 (j + 1) (by have := D.out; omega)
          have e2 : (2 : Int) ^ (j + 1) = 2 * 2 ^ j := by rw [Int.pow_succ]; omega
          exact Lib.hid ⟨by omega, j + 1, by omega, by omega⟩
        have nb := NJ.out.1
        have s4 : IntKind.u64.wrap (2 * p + 1) = 2 * p + 1 := wru _ (by omega) (by omega)
        clear HJ hd
        go_wp2_with fail
        refine wp_region_held_drew (S := fun w' => Bk w' w.heap.size 26 #[.int .u64 u.lo, .int .u64 u.hi] ∧ Bk w' (w.heap.size + 1) 24 #[.int .u64 0, .int .u64 0] ∧ Below w.heap.size w w') (by kernel_rfl) ?_ (fun hHeld => ?_)
        · exact ⟨H0.out.drew, H1.out.drew, HB.out.drew⟩
        refine tq 0 ?_ rfl (by kernel_rfl) (fun _ _ _ h => h) (by rfl) hHeld ?_ ?_; rotate_left
        · intro w9 hSw; (try dsimp only at hSw); obtain ⟨k0, k1⟩ := tcells hSw.1; go_simp; try with_reducible rfl
        try simp only [Act.put, ptA, ptB, ptC]
        refine tc 1 rfl (by kernel_rfl) (fun K hK => ?_)
        go_simp
        (go_at_call 53; with_reducible refine (ruall_lit _).mono ?_; rintro e z1 ⟨rfl, qb⟩)
        refine hK.out _ _ ?_ (fun g1 => ?_)
        · exact bks_keep qb hHeld
        clear hK K qb
        skip
        try simp only [Act.put, ptA, ptB, ptC]
        refine tq 2 ?_ rfl (by kernel_rfl) (fun _ _ _ h => h) (by rfl) g1 ?_ ?_; rotate_left
        · intro w9 hSw; (try dsimp only at hSw); obtain ⟨k0, k1⟩ := tcells hSw.1; go_simp; try with_reducible rfl
        try simp only [Act.put, ptA, ptB, ptC]
        refine tq 3 ?_ rfl (by kernel_rfl) (fun _ _ _ h => h) (by rfl) g1 ?_ ?_; rotate_left
        · intro w9 hSw; (try dsimp only at hSw); obtain ⟨k0, k1⟩ := tcells hSw.1; go_simp; try with_reducible rfl
        try simp only [Act.put, ptA, ptB, ptC]
        refine tq 4 ?_ rfl (by kernel_rfl) (fun _ _ _ h => h) (by rfl) g1 ?_ ?_; rotate_left
        · intro w9 hSw; (try dsimp only at hSw); obtain ⟨k0, k1⟩ := tcells hSw.1; go_simp; try with_reducible rfl
        try simp only [Act.put, ptA, ptB, ptC]
        refine tq 5 ?_ rfl (by kernel_rfl) (fun _ _ _ h => h) (by rfl) g1 ?_ ?_; rotate_left
        · intro w9 hSw; (try dsimp only at hSw); obtain ⟨k0, k1⟩ := tcells hSw.1; go_simp; try with_reducible rfl
        try simp only [Act.put, ptA, ptB, ptC]
        refine tq 6 ?_ rfl (by kernel_rfl) (fun _ _ _ h => h) (by rfl) g1 ?_ ?_; rotate_left
        · intro w9 hSw; (try dsimp only at hSw); obtain ⟨k0, k1⟩ := tcells hSw.1; go_simp; try with_reducible rfl
        try simp only [Act.put, ptA, ptB, ptC]
        refine tq 7 ?_ rfl (by kernel_rfl) (fun _ _ _ h => h) (by rfl) g1 ?_ ?_; rotate_left
        · intro w9 hSw; (try dsimp only at hSw); obtain ⟨k0, k1⟩ := tcells hSw.1; go_simp; try with_reducible rfl
        try simp only [Act.put, ptA, ptB, ptC]
        refine tq 8 ?_ rfl (by kernel_rfl) (fun _ _ _ h => h) (by rfl) g1 ?_ ?_; rotate_left
        · intro w9 hSw; (try dsimp only at hSw); obtain ⟨k0, k1⟩ := tcells hSw.1; go_simp; try with_reducible rfl
        try simp only [Act.put, ptA, ptB, ptC]
        refine tq 9 ?_ rfl (by kernel_rfl) (fun _ _ _ h => h) (by rfl) g1 ?_ ?_; rotate_left
        · intro w9 hSw; (try dsimp only at hSw); obtain ⟨k0, k1⟩ := tcells hSw.1; go_simp; try with_reducible rfl
        try simp only [Act.put, ptA, ptB, ptC]
        refine tq 10 ?_ rfl (by kernel_rfl) (fun _ _ _ h => h) (by rfl) g1 ?_ ?_; rotate_left
        · intro w9 hSw; (try dsimp only at hSw); obtain ⟨k0, k1⟩ := tcells hSw.1; go_simp; try with_reducible rfl
        try simp only [Act.put, ptA, ptB, ptC]
        refine tq 11 ?_ rfl (by kernel_rfl) (fun _ _ _ h => h) (by rfl) g1 ?_ ?_; rotate_left
        · intro w9 hSw; (try dsimp only at hSw); obtain ⟨k0, k1⟩ := tcells hSw.1; go_simp; try with_reducible rfl
        try simp only [Act.put, ptA, ptB, ptC]
        refine tq 12 ?_ rfl (by kernel_rfl) (fun _ _ _ h => h) (by rfl) g1 ?_ ?_; rotate_left
        · intro w9 hSw; (try dsimp only at hSw); obtain ⟨k0, k1⟩ := tcells hSw.1; go_simp; try with_reducible rfl
        try simp only [Act.put, ptA, ptB, ptC]
        refine tq 13 ?_ rfl (by kernel_rfl) (fun _ _ _ h => h) (by rfl) g1 ?_ ?_; rotate_left
        · intro w9 hSw; (try dsimp only at hSw); obtain ⟨k0, k1⟩ := tcells hSw.1; go_simp; try with_reducible rfl
        try simp only [Act.put, ptA, ptB, ptC]
        refine tq 14 ?_ rfl (by kernel_rfl) (fun _ _ _ h => h) (by rfl) g1 ?_ ?_; rotate_left
        · intro w9 hSw; (try dsimp only at hSw); obtain ⟨k0, k1⟩ := tcells hSw.1; go_simp; try with_reducible rfl
        try simp only [Act.put, ptA, ptB, ptC]
        refine tq 15 ?_ rfl (by kernel_rfl) (fun _ _ _ h => h) (by rfl) g1 ?_ ?_; rotate_left
        · intro w9 hSw; (try dsimp only at hSw); obtain ⟨k0, k1⟩ := tcells hSw.1; go_simp; try with_reducible rfl
        try simp only [Act.put, ptA, ptB, ptC]
        refine tq 16 ?_ rfl (by kernel_rfl) (fun _ _ _ h => h) (by rfl) g1 ?_ ?_; rotate_left
        · intro w9 hSw; (try dsimp only at hSw); obtain ⟨k0, k1⟩ := tcells hSw.1; go_simp; try with_reducible rfl
        try simp only [Act.put, ptA, ptB, ptC]
        refine tq 17 ?_ rfl (by kernel_rfl) (fun _ _ _ h => h) (by rfl) g1 ?_ ?_; rotate_left
        · intro w9 hSw; (try dsimp only at hSw); obtain ⟨k0, k1⟩ := tcells hSw.1; go_simp; try with_reducible rfl
        try simp only [Act.put, ptA, ptB, ptC]
        refine tq 18 ?_ rfl (by kernel_rfl) (fun _ _ _ h => h) (by rfl) g1 ?_ ?_; rotate_left
        · intro w9 hSw; (try dsimp only at hSw); obtain ⟨k0, k1⟩ := tcells hSw.1; go_simp; try with_reducible rfl
        try simp only [Act.put, ptA, ptB, ptC]
        refine tq 19 ?_ rfl (by kernel_rfl) (fun _ _ _ h => h) (by rfl) g1 ?_ ?_; rotate_left
        · intro w9 hSw; (try dsimp only at hSw); obtain ⟨k0, k1⟩ := tcells hSw.1; go_simp; try with_reducible rfl
        try simp only [Act.put, ptA, ptB, ptC]
        refine tq 20 ?_ rfl (by kernel_rfl) (fun _ _ _ h => h) (by rfl) g1 ?_ ?_; rotate_left
        · intro w9 hSw; (try dsimp only at hSw); obtain ⟨k0, k1⟩ := tcells hSw.1; go_simp; try with_reducible rfl
        try simp only [Act.put, ptA, ptB, ptC]
        refine tq 21 ?_ rfl (by kernel_rfl) (fun _ _ _ h => h) (by rfl) g1 ?_ ?_; rotate_left
        · intro w9 hSw; (try dsimp only at hSw); obtain ⟨k0, k1⟩ := tcells hSw.1; go_simp; try with_reducible rfl
        try simp only [Act.put, ptA, ptB, ptC]
        refine tq 22 ?_ rfl (by kernel_rfl) (fun _ _ _ h => h) (by rfl) g1 ?_ ?_; rotate_left
        · intro w9 hSw; (try dsimp only at hSw); obtain ⟨k0, k1⟩ := tcells hSw.1; go_simp; try with_reducible rfl
        try simp only [Act.put, ptA, ptB, ptC]
        refine wpAnyH_done (by kernel_rfl) ?_ _
        have KA := Lib.hid g1
        clear g1 H0 H1 HB
        have H0 := Lib.hid KA.out.1
        have H1 := Lib.hid KA.out.2.1
        have HB := Lib.hid KA.out.2.2
        clear KA
        generalize z1 = z9 at *
        go_wp2_with fail
        go_roundw
        case rel => exact ⟨2 * p + 1, by omega, by first | rfl | go_num | exact int_eq s4, Lib.hid NJ.out.2, H0, H1, HB⟩
        case measure => simp [intOf]; omega
    · have l1 : decide (p < 18446744073709551615) = false := decide_eq_false hm
      have n1 : (p == 18446744073709551615) = true := beq_iff_eq.2 (by omega)
      have V := Lib.hid (show (0 : Int) = bi (toT u).v ∧ p = bi (toT u).m by
        obtain ⟨j, hj, e⟩ := HJ.out
        have hj64 := j64 j (by have := D.out; omega) (by omega)
        have hjd : dif u = 64 := by have := D.out; omega
        rw [T1.out, T2.out, hjd]
        refine ⟨?_, by rw [e, hj64]⟩
        show (0 : Int) = u.lo - u.lo % 18446744073709551616
        omega)
      clear HJ
      go_wp2_with fail
      refine wp_region_held_drew (S := fun w' => Bk w' w.heap.size 26 #[.int .u64 u.lo, .int .u64 u.hi] ∧ Bk w' (w.heap.size + 1) 24 #[.int .u64 0, .int .u64 0] ∧ Below w.heap.size w w') (by kernel_rfl) ?_ (fun hHeld => ?_)
      · exact ⟨H0.out.drew, H1.out.drew, HB.out.drew⟩
      refine tq 0 ?_ rfl (by kernel_rfl) (fun _ _ _ h => h) (by rfl) hHeld ?_ ?_; rotate_left
      · intro w9 hSw; (try dsimp only at hSw); obtain ⟨k0, k1⟩ := tcells hSw.1; go_simp; try with_reducible rfl
      try simp only [Act.put, ptA, ptB, ptC]
      refine tc 1 rfl (by kernel_rfl) (fun K hK => ?_)
      go_simp
      (go_at_call 53; with_reducible refine (ruall_lit _).mono ?_; rintro e z1 ⟨rfl, qb⟩)
      refine hK.out _ _ ?_ (fun g1 => ?_)
      · exact bks_keep qb hHeld
      clear hK K qb
      skip
      try simp only [Act.put, ptA, ptB, ptC]
      refine tq 2 ?_ rfl (by kernel_rfl) (fun _ _ _ h => h) (by rfl) g1 ?_ ?_; rotate_left
      · intro w9 hSw; (try dsimp only at hSw); obtain ⟨k0, k1⟩ := tcells hSw.1; go_simp; try with_reducible rfl
      try simp only [Act.put, ptA, ptB, ptC]
      refine tq 3 ?_ rfl (by kernel_rfl) (fun _ _ _ h => h) (by rfl) g1 ?_ ?_; rotate_left
      · intro w9 hSw; (try dsimp only at hSw); obtain ⟨k0, k1⟩ := tcells hSw.1; go_simp; try with_reducible rfl
      try simp only [Act.put, ptA, ptB, ptC]
      refine tq 4 ?_ rfl (by kernel_rfl) (fun _ _ _ h => h) (by rfl) g1 ?_ ?_; rotate_left
      · intro w9 hSw; (try dsimp only at hSw); obtain ⟨k0, k1⟩ := tcells hSw.1; go_simp; try with_reducible rfl
      try simp only [Act.put, ptA, ptB, ptC]
      refine tu 5 rfl (by kernel_rfl) (fun _ _ _ h => h) (by rfl) g1 ?_
      try simp only [Act.put, ptA, ptB, ptC]
      refine tu 6 rfl (by kernel_rfl) (fun _ _ _ h => h) (by rfl) g1 ?_
      try simp only [Act.put, ptA, ptB, ptC]
      refine tu 7 rfl (by kernel_rfl) (fun _ _ _ h => h) (by rfl) g1 ?_
      try simp only [Act.put, ptA, ptB, ptC]
      refine tu 8 rfl (by kernel_rfl) (fun _ _ _ h => h) (by rfl) g1 ?_
      try simp only [Act.put, ptA, ptB, ptC]
      refine tu 9 rfl (by kernel_rfl) (fun _ _ _ h => h) (by rfl) g1 ?_
      try simp only [Act.put, ptA, ptB, ptC]
      refine tu 10 rfl (by kernel_rfl) (fun _ _ _ h => h) (by rfl) g1 ?_
      try simp only [Act.put, ptA, ptB, ptC]
      refine tu 11 rfl (by kernel_rfl) (fun _ _ _ h => h) (by rfl) g1 ?_
      try simp only [Act.put, ptA, ptB, ptC]
      refine tu 12 rfl (by kernel_rfl) (fun _ _ _ h => h) (by rfl) g1 ?_
      try simp only [Act.put, ptA, ptB, ptC]
      refine tu 13 rfl (by kernel_rfl) (fun _ _ _ h => h) (by rfl) g1 ?_
      try simp only [Act.put, ptA, ptB, ptC]
      refine tu 14 rfl (by kernel_rfl) (fun _ _ _ h => h) (by rfl) g1 ?_
      try simp only [Act.put, ptA, ptB, ptC]
      refine tu 15 rfl (by kernel_rfl) (fun _ _ _ h => h) (by rfl) g1 ?_
      try simp only [Act.put, ptA, ptB, ptC]
      refine tu 16 rfl (by kernel_rfl) (fun _ _ _ h => h) (by rfl) g1 ?_
      try simp only [Act.put, ptA, ptB, ptC]
      refine tu 17 rfl (by kernel_rfl) (fun _ _ _ h => h) (by rfl) g1 ?_
      try simp only [Act.put, ptA, ptB, ptC]
      refine tu 18 rfl (by kernel_rfl) (fun _ _ _ h => h) (by rfl) g1 ?_
      try simp only [Act.put, ptA, ptB, ptC]
      refine tu 19 rfl (by kernel_rfl) (fun _ _ _ h => h) (by rfl) g1 ?_
      try simp only [Act.put, ptA, ptB, ptC]
      refine tu 20 rfl (by kernel_rfl) (fun _ _ _ h => h) (by rfl) g1 ?_
      try simp only [Act.put, ptA, ptB, ptC]
      refine tu 21 rfl (by kernel_rfl) (fun _ _ _ h => h) (by rfl) g1 ?_
      try simp only [Act.put, ptA, ptB, ptC]
      refine tq 22 ?_ rfl (by kernel_rfl) (fun _ _ _ h => h) (by rfl) g1 ?_ ?_; rotate_left
      · intro w9 hSw; (try dsimp only at hSw); obtain ⟨k0, k1⟩ := tcells hSw.1; go_simp; try with_reducible rfl
      try simp only [Act.put, ptA, ptB, ptC]
      refine wpAnyH_done (by kernel_rfl) ?_ _
      have KA := Lib.hid g1
      clear g1 H0 H1 HB
      have H0 := Lib.hid KA.out.1
      have H1 := Lib.hid KA.out.2.1
      have HB := Lib.hid KA.out.2.2
      clear KA
      generalize z1 = z9 at *
      go_wp2_with fail
      refine (ruall_lit _).mono ?_
      rintro e w5 ⟨rfl, qb⟩
      replace H0 := Lib.hid (H0.out.below qb H0.out.lt)
      replace H1 := Lib.hid (H1.out.below qb H1.out.lt)
      replace HB := Lib.hid (below_then HB.out qb (Nat.le_refl _))
      clear qb
      obtain ⟨c00, c01⟩ := tcells H0.out
      obtain ⟨c10, c11⟩ := tcells H1.out
      have f0 := H1.out.frozen 0
      have f1 := H1.out.frozen 1
      go_wp2_with fail
      have r0 : ∀ u v, ((w5.setCell ⟨w.heap.size + 1, 0, none⟩ u).setCell ⟨w.heap.size + 1, 1, none⟩ v).cell? ⟨w.heap.size + 1, 0, none⟩ = some u := fun u v => set_fst c10
      have r1 : ∀ u v, ((w5.setCell ⟨w.heap.size + 1, 0, none⟩ u).setCell ⟨w.heap.size + 1, 1, none⟩ v).cell? ⟨w.heap.size + 1, 1, none⟩ = some v := fun u v => set_snd c11
      refine bodyPost_ret (by simp [results, Tryz.results113, r0, r1, go_sem]; try rfl) rfl ?_
      exact ⟨rt_u V.out.1 V.out.2, (below_st2 HB.out (by omega))⟩
end Go.Proofs.YtcimihckhobniaaGreat
namespace Go.Proofs.YtcimihckhobniaaGreat
open Go.RowKit Tn Ow Sp
set_option linter.unusedVariables false
set_option linter.unusedSimpArgs false
theorem fz2 (W : World) (t : Nat) (u v : Value) {p : Addr} : ((W.setCell ⟨t, 0, none⟩ u).setCell ⟨t, 1, none⟩ v).frozen? p = W.frozen? p := by rw [World.frozen?_setCell, World.frozen?_setCell]
theorem two_r {w W : World} {g h r s : Nat} {y0 y1 y2 y3 u v : Value} (n0 : g ≠ r) (n1 : h ≠ r) (n2 : s ≠ r) (h3 : w.heap.size ≤ r) (hh : W.cell? ⟨g, 0, none⟩ = some y0 ∧ W.cell? ⟨g, 1, none⟩ = some y1 ∧ W.cell? ⟨h, 0, none⟩ = some y2 ∧ W.cell? ⟨h, 1, none⟩ = some y3 ∧ W.cell? ⟨r, 0, none⟩ = some (cv W r 0) ∧ W.cell? ⟨r, 1, none⟩ = some (cv W r 1) ∧ W.frozen? ⟨r, 0, none⟩ = false ∧ W.frozen? ⟨r, 1, none⟩ = false ∧ W.cell? ⟨s, 0, none⟩ = some (cv W s 0) ∧ W.cell? ⟨s, 1, none⟩ = some (cv W s 1) ∧ W.frozen? ⟨s, 0, none⟩ = false ∧ W.frozen? ⟨s, 1, none⟩ = false ∧ Below w.heap.size w W) :
    ((W.setCell ⟨r, 0, none⟩ u).setCell ⟨r, 1, none⟩ v).cell? ⟨g, 0, none⟩ = some y0 ∧ ((W.setCell ⟨r, 0, none⟩ u).setCell ⟨r, 1, none⟩ v).cell? ⟨g, 1, none⟩ = some y1 ∧ ((W.setCell ⟨r, 0, none⟩ u).setCell ⟨r, 1, none⟩ v).cell? ⟨h, 0, none⟩ = some y2 ∧ ((W.setCell ⟨r, 0, none⟩ u).setCell ⟨r, 1, none⟩ v).cell? ⟨h, 1, none⟩ = some y3 ∧ ((W.setCell ⟨r, 0, none⟩ u).setCell ⟨r, 1, none⟩ v).cell? ⟨r, 0, none⟩ = some (cv ((W.setCell ⟨r, 0, none⟩ u).setCell ⟨r, 1, none⟩ v) r 0) ∧ ((W.setCell ⟨r, 0, none⟩ u).setCell ⟨r, 1, none⟩ v).cell? ⟨r, 1, none⟩ = some (cv ((W.setCell ⟨r, 0, none⟩ u).setCell ⟨r, 1, none⟩ v) r 1) ∧ ((W.setCell ⟨r, 0, none⟩ u).setCell ⟨r, 1, none⟩ v).frozen? ⟨r, 0, none⟩ = false ∧ ((W.setCell ⟨r, 0, none⟩ u).setCell ⟨r, 1, none⟩ v).frozen? ⟨r, 1, none⟩ = false ∧ ((W.setCell ⟨r, 0, none⟩ u).setCell ⟨r, 1, none⟩ v).cell? ⟨s, 0, none⟩ = some (cv ((W.setCell ⟨r, 0, none⟩ u).setCell ⟨r, 1, none⟩ v) s 0) ∧ ((W.setCell ⟨r, 0, none⟩ u).setCell ⟨r, 1, none⟩ v).cell? ⟨s, 1, none⟩ = some (cv ((W.setCell ⟨r, 0, none⟩ u).setCell ⟨r, 1, none⟩ v) s 1) ∧ ((W.setCell ⟨r, 0, none⟩ u).setCell ⟨r, 1, none⟩ v).frozen? ⟨s, 0, none⟩ = false ∧ ((W.setCell ⟨r, 0, none⟩ u).setCell ⟨r, 1, none⟩ v).frozen? ⟨s, 1, none⟩ = false ∧ Below w.heap.size w ((W.setCell ⟨r, 0, none⟩ u).setCell ⟨r, 1, none⟩ v) := by
  obtain ⟨a0, a1, a2, a3, a4, a5, a6, a7, a8, a9, b0, b1, B⟩ := hh
  exact ⟨(cell_set2 n0).trans a0, (cell_set2 n0).trans a1, (cell_set2 n1).trans a2, (cell_set2 n1).trans a3, cv_some (set_fst a4), cv_some (set_snd a5), (fz2 _ _ _ _).trans a6, (fz2 _ _ _ _).trans a7, cv_some ((cell_set2 n2).trans a8), cv_some ((cell_set2 n2).trans a9), (fz2 _ _ _ _).trans b0, (fz2 _ _ _ _).trans b1, below_st2 B h3⟩
theorem two_s {w W : World} {g h r s : Nat} {y0 y1 y2 y3 u v : Value} (n0 : g ≠ s) (n1 : h ≠ s) (n2 : r ≠ s) (h3 : w.heap.size ≤ s) (hh : W.cell? ⟨g, 0, none⟩ = some y0 ∧ W.cell? ⟨g, 1, none⟩ = some y1 ∧ W.cell? ⟨h, 0, none⟩ = some y2 ∧ W.cell? ⟨h, 1, none⟩ = some y3 ∧ W.cell? ⟨r, 0, none⟩ = some (cv W r 0) ∧ W.cell? ⟨r, 1, none⟩ = some (cv W r 1) ∧ W.frozen? ⟨r, 0, none⟩ = false ∧ W.frozen? ⟨r, 1, none⟩ = false ∧ W.cell? ⟨s, 0, none⟩ = some (cv W s 0) ∧ W.cell? ⟨s, 1, none⟩ = some (cv W s 1) ∧ W.frozen? ⟨s, 0, none⟩ = false ∧ W.frozen? ⟨s, 1, none⟩ = false ∧ Below w.heap.size w W) :
    ((W.setCell ⟨s, 0, none⟩ u).setCell ⟨s, 1, none⟩ v).cell? ⟨g, 0, none⟩ = some y0 ∧ ((W.setCell ⟨s, 0, none⟩ u).setCell ⟨s, 1, none⟩ v).cell? ⟨g, 1, none⟩ = some y1 ∧ ((W.setCell ⟨s, 0, none⟩ u).setCell ⟨s, 1, none⟩ v).cell? ⟨h, 0, none⟩ = some y2 ∧ ((W.setCell ⟨s, 0, none⟩ u).setCell ⟨s, 1, none⟩ v).cell? ⟨h, 1, none⟩ = some y3 ∧ ((W.setCell ⟨s, 0, none⟩ u).setCell ⟨s, 1, none⟩ v).cell? ⟨r, 0, none⟩ = some (cv ((W.setCell ⟨s, 0, none⟩ u).setCell ⟨s, 1, none⟩ v) r 0) ∧ ((W.setCell ⟨s, 0, none⟩ u).setCell ⟨s, 1, none⟩ v).cell? ⟨r, 1, none⟩ = some (cv ((W.setCell ⟨s, 0, none⟩ u).setCell ⟨s, 1, none⟩ v) r 1) ∧ ((W.setCell ⟨s, 0, none⟩ u).setCell ⟨s, 1, none⟩ v).frozen? ⟨r, 0, none⟩ = false ∧ ((W.setCell ⟨s, 0, none⟩ u).setCell ⟨s, 1, none⟩ v).frozen? ⟨r, 1, none⟩ = false ∧ ((W.setCell ⟨s, 0, none⟩ u).setCell ⟨s, 1, none⟩ v).cell? ⟨s, 0, none⟩ = some (cv ((W.setCell ⟨s, 0, none⟩ u).setCell ⟨s, 1, none⟩ v) s 0) ∧ ((W.setCell ⟨s, 0, none⟩ u).setCell ⟨s, 1, none⟩ v).cell? ⟨s, 1, none⟩ = some (cv ((W.setCell ⟨s, 0, none⟩ u).setCell ⟨s, 1, none⟩ v) s 1) ∧ ((W.setCell ⟨s, 0, none⟩ u).setCell ⟨s, 1, none⟩ v).frozen? ⟨s, 0, none⟩ = false ∧ ((W.setCell ⟨s, 0, none⟩ u).setCell ⟨s, 1, none⟩ v).frozen? ⟨s, 1, none⟩ = false ∧ Below w.heap.size w ((W.setCell ⟨s, 0, none⟩ u).setCell ⟨s, 1, none⟩ v) := by
  obtain ⟨a0, a1, a2, a3, a4, a5, a6, a7, a8, a9, b0, b1, B⟩ := hh
  exact ⟨(cell_set2 n0).trans a0, (cell_set2 n0).trans a1, (cell_set2 n1).trans a2, (cell_set2 n1).trans a3, cv_some ((cell_set2 n2).trans a4), cv_some ((cell_set2 n2).trans a5), (fz2 _ _ _ _).trans a6, (fz2 _ _ _ _).trans a7, cv_some (set_fst a8), cv_some (set_snd a9), (fz2 _ _ _ _).trans b0, (fz2 _ _ _ _).trans b1, below_st2 B h3⟩
end Go.Proofs.YtcimihckhobniaaGreat
