/-
  What the document's functions of layer 4 that go round tell (full, URsh, SArsh): contracts. Conditions: the ends are numbers of 64 bits, Lo at most Hi.
-/
import Derived.Test.YthjjfginenpfjaaSpanR3
namespace Go.Proofs.Ythjjfginenpfjaa
open Go.RowKit Tn Ow Sp
set_option linter.unusedVariables false
set_option linter.unusedSimpArgs false
theorem bk_two {w : World} {b : Nat} {t : TypeId} {x y : Value} (h : Bk w b t #[x, y]) (u v : Value) : Bk ((w.setCell ⟨b, 0, none⟩ u).setCell ⟨b, 1, none⟩ v) b t #[u, v] := (h.set_ 0 u).set_ 1 v
theorem bk_far2 {w : World} {b r : Nat} {t : TypeId} {cs : Array Value} (h : Bk w b t cs) (hne : b ≠ r) (u v : Value) : Bk ((w.setCell ⟨r, 0, none⟩ u).setCell ⟨r, 1, none⟩ v) b t cs := (h.far (p := ⟨r, 0, none⟩) hne u).far (p := ⟨r, 1, none⟩) hne v
theorem bk_as {w : World} {b : Nat} {t : TypeId} {x y u v : Value} (h : Bk w b t #[x, y]) (h1 : x = u) (h2 : y = v) : Bk w b t #[u, v] := by subst h1 h2; exact h
theorem int_eq {k : IntKind} {a b : Int} (h : a = b) : Value.int k a = Value.int k b := by rw [h]
theorem rfull_any (v : Int) (h0 : 0 ≤ v) (h1 : v ≤ 18446744073709551615) (w : World) :
    Calls Try.prog 86 #[.int .u64 v] w fun e w' => e = .returned (.int .u64 (fl v)) ∧ w = w' := by
  go_enter Try.func86, Try.ntmps86
  go_wp2
  go_loop [3] (fun n => ∃ p : Int, (0 ≤ p ∧ p ≤ 18446744073709551615) ∧ n = .int .u64 p ∧ Hid (∃ j : Nat, j ≤ ln v.toNat ∧ p = 2 ^ j - 1)) (fun n => v.toNat - (intOf n).toNat)
  case atStart => exact ⟨0, by omega, rfl, Lib.hid ⟨0, Nat.zero_le _, rfl⟩⟩
  case round =>
    obtain ⟨p, hp, rfl, HJ⟩ := hrel
    by_cases hlt : p < v
    · have hs : Hid (∃ j : Nat, j ≤ ln v.toNat ∧ 2 * p + 1 = 2 ^ j - 1) := by
        obtain ⟨j, hj, e⟩ := HJ.out
        have h2 : 2 ^ j ≤ v.toNat := by
          have := pow_cast j
          omega
        exact Lib.hid ⟨j + 1, le_ln h2, by rw [Int.pow_succ]; omega⟩
      have hb : 2 * p + 1 ≤ 18446744073709551615 := by
        obtain ⟨j, hj, e⟩ := hs.out
        have := pow_bd64 j (Nat.le_trans hj (ln_64 (by omega)))
        omega
      clear HJ
      go_wp2
      go_round
      case rel => exact ⟨2 * p + 1, by omega, by first | rfl | go_num | (rw [IntKind.wrap_u64]; exact int_eq (by omega)), hs⟩
      case measure => simp [intOf]; omega
    · have hs : Hid (p = fl v) := by
        obtain ⟨j, hj, e⟩ := HJ.out
        have h2 : v.toNat < 2 ^ j := by
          have := pow_cast j
          omega
        have h3 := ln_le h2
        have h4 : ln v.toNat = j := by omega
        exact Lib.hid (by unfold fl; rw [h4]; exact e)
      clear HJ
      go_wp2
      go_ret
      exact ⟨rt_i hs.out, rfl⟩
theorem half_pow (x : Int) (j : Nat) : x / 2 ^ (j + 1) = x / 2 ^ j / 2 := by
  rw [Int.pow_succ, Int.ediv_ediv_of_nonneg (Int.le_of_lt (pow_pos' j))]
set_option maxHeartbeats 2000000 in
set_option maxRecDepth 100000 in
theorem rursh_any (a : E) (n : Int) (k : Nat) (hk : n % 64 = (k : Int)) (hn : -9223372036854775808 ≤ n ∧ n ≤ 9223372036854775807) (h0 : okU a) (w : World) :
    Calls Try.prog 38 #[.agg #[.int .u64 a.lo, .int .u64 a.hi], .int .i64 n] w fun e w' => e = .returned (.agg #[.int .u64 (rsh a k).lo, .int .u64 (rsh a k).hi]) ∧ Below w.heap.size w w' := by
  obtain ⟨a0, a1, a2⟩ := h0
  have HK := Lib.hid hk
  have HN := Lib.hid hn
  have kb : k ≤ 63 := by omega
  clear hk hn
  go_enter Try.func38, Try.ntmps38
  go_wp2_with fail
  have K0 := ((Bk.new w 24 #[.int .u64 a.lo, .int .u64 a.hi]).alloc (.cells #[.int .u64 0, .int .u64 0] 24))
  have K1 := (Bk.new (w.alloc (.cells #[.int .u64 a.lo, .int .u64 a.hi] 24)) 24 #[.int .u64 0, .int .u64 0])
  rw [World.size_alloc] at K1
  have B0 : Below w.heap.size w ((w.alloc (.cells #[.int .u64 a.lo, .int .u64 a.hi] 24)).alloc (.cells #[.int .u64 0, .int .u64 0] 24)) := by go_grown
  generalize ((w.alloc (.cells #[.int .u64 a.lo, .int .u64 a.hi] 24)).alloc (.cells #[.int .u64 0, .int .u64 0] 24)) = w0 at *
  have H0 := Lib.hid K0
  obtain ⟨c00, c01⟩ := tcells K0
  have H1 := Lib.hid K1
  obtain ⟨c10, c11⟩ := tcells K1
  have HB := Lib.hid B0
  clear K0 K1 B0
  clear c00 c01 c10 c11
  go_wp2_with fail
  go_loopw [5] (fun i wr => ∃ j : Nat, j ≤ k ∧ i = .int .i64 j ∧ Hid (Bk wr w.heap.size 24 #[.int .u64 (a.lo / 2 ^ j), .int .u64 (a.hi / 2 ^ j)]) ∧ Hid (Bk wr (w.heap.size + 1) 24 #[.int .u64 0, .int .u64 0]) ∧ Hid (Below w.heap.size w wr)) (fun i _ => k - (intOf i).toNat)
  case atStart => exact ⟨0, Nat.zero_le _, rfl, Lib.hid (bk_as H0.out (int_eq (by simp)) (int_eq (by simp))), H1, HB⟩
  case round =>
    clear H0 H1 HB
    obtain ⟨j, hj, rfl, H0, H1, HB⟩ := hrel
    have b1 := div_pow_u a.lo j (by omega) (by omega)
    have b2 := div_pow_u a.hi j (by omega) (by omega)
    have S1 := Lib.hid (half_pow a.lo j)
    have S2 := Lib.hid (half_pow a.hi j)
    have E1 := Lib.hid (show j = k → a.lo / 2 ^ j = a.lo / 2 ^ k from fun h => by rw [h])
    have E2 := Lib.hid (show j = k → a.hi / 2 ^ j = a.hi / 2 ^ k from fun h => by rw [h])
    generalize a.lo / 2 ^ j = x at *
    generalize a.hi / 2 ^ j = y at *
    obtain ⟨c00, c01⟩ := tcells H0.out
    obtain ⟨c10, c11⟩ := tcells H1.out
    by_cases hlt : j < k
    · have f0 := H0.out.frozen 0
      have f1 := H0.out.frozen 1
      go_wp2_with fail
      refine (rround_any n k HK.out HN.out _).mono ?_
      rintro e w' ⟨rfl, rfl⟩
      go_wp2_with fail
      go_roundw
      case rel => exact ⟨j + 1, by omega, by first | rfl | go_num, Lib.hid (bk_as (bk_two H0.out _ _) (int_eq S1.out.symm) (int_eq S2.out.symm)), Lib.hid (bk_far2 H1.out (by omega) _ _), Lib.hid (below_st2 HB.out (Nat.le_refl _))⟩
      case measure => simp [intOf]; omega
    · have f0 := H1.out.frozen 0
      have f1 := H1.out.frozen 1
      go_wp2_with fail
      refine (rround_any n k HK.out HN.out _).mono ?_
      rintro e w' ⟨rfl, rfl⟩
      go_wp2_with fail
      have r0 : ∀ u v, ((wr.setCell ⟨w.heap.size + 1, 0, none⟩ u).setCell ⟨w.heap.size + 1, 1, none⟩ v).cell? ⟨w.heap.size + 1, 0, none⟩ = some u := fun u v => set_fst c10
      have r1 : ∀ u v, ((wr.setCell ⟨w.heap.size + 1, 0, none⟩ u).setCell ⟨w.heap.size + 1, 1, none⟩ v).cell? ⟨w.heap.size + 1, 1, none⟩ = some v := fun u v => set_snd c11
      refine bodyPost_ret (by simp [results, Try.results38, r0, r1, go_sem]; try rfl) rfl ?_
      exact ⟨rt_u (E1.out (by omega)) (E2.out (by omega)), below_st2 HB.out (by omega)⟩
theorem half_still (v : Int) (h0 : -9223372036854775808 ≤ v) (h1 : v ≤ 9223372036854775807) (w : World) :
    Calls Try.prog 99 #[.int .i64 v] w fun e w' => e = .returned (.int .i64 (v / 2)) ∧ w' = w := (rhalf_any v h0 h1 w).mono fun _ _ h => ⟨h.1, h.2.symm⟩
set_option maxHeartbeats 2000000 in
set_option maxRecDepth 100000 in
theorem rsrsh_any (a : E) (n : Int) (k : Nat) (hk : n % 64 = (k : Int)) (hn : -9223372036854775808 ≤ n ∧ n ≤ 9223372036854775807) (h0 : okS a) (w : World) :
    Calls Try.prog 64 #[.agg #[.int .i64 a.lo, .int .i64 a.hi], .int .i64 n] w fun e w' => e = .returned (.agg #[.int .i64 (rsh a k).lo, .int .i64 (rsh a k).hi]) ∧ Below w.heap.size w w' := by
  obtain ⟨a0, a1, a2⟩ := h0
  have HK := Lib.hid hk
  have HN := Lib.hid hn
  have kb : k ≤ 63 := by omega
  clear hk hn
  go_enter Try.func64, Try.ntmps64
  go_wp2_with fail
  have K0 := ((Bk.new w 35 #[.int .i64 a.lo, .int .i64 a.hi]).alloc (.cells #[.int .i64 0, .int .i64 0] 35))
  have K1 := (Bk.new (w.alloc (.cells #[.int .i64 a.lo, .int .i64 a.hi] 35)) 35 #[.int .i64 0, .int .i64 0])
  rw [World.size_alloc] at K1
  have B0 : Below w.heap.size w ((w.alloc (.cells #[.int .i64 a.lo, .int .i64 a.hi] 35)).alloc (.cells #[.int .i64 0, .int .i64 0] 35)) := by go_grown
  generalize ((w.alloc (.cells #[.int .i64 a.lo, .int .i64 a.hi] 35)).alloc (.cells #[.int .i64 0, .int .i64 0] 35)) = w0 at *
  have H0 := Lib.hid K0
  obtain ⟨c00, c01⟩ := tcells K0
  have H1 := Lib.hid K1
  obtain ⟨c10, c11⟩ := tcells K1
  have HB := Lib.hid B0
  clear K0 K1 B0
  clear c00 c01 c10 c11
  go_wp2_with fail
  go_loopw [5] (fun i wr => ∃ j : Nat, j ≤ k ∧ i = .int .i64 j ∧ Hid (Bk wr w.heap.size 35 #[.int .i64 (a.lo / 2 ^ j), .int .i64 (a.hi / 2 ^ j)]) ∧ Hid (Bk wr (w.heap.size + 1) 35 #[.int .i64 0, .int .i64 0]) ∧ Hid (Below w.heap.size w wr)) (fun i _ => k - (intOf i).toNat)
  case atStart => exact ⟨0, Nat.zero_le _, rfl, Lib.hid (bk_as H0.out (int_eq (by simp)) (int_eq (by simp))), H1, HB⟩
  case round =>
    clear H0 H1 HB
    obtain ⟨j, hj, rfl, H0, H1, HB⟩ := hrel
    have b1 := div_pow_bd a.lo j (by omega) (by omega)
    have b2 := div_pow_bd a.hi j (by omega) (by omega)
    have S1 := Lib.hid (half_pow a.lo j)
    have S2 := Lib.hid (half_pow a.hi j)
    have E1 := Lib.hid (show j = k → a.lo / 2 ^ j = a.lo / 2 ^ k from fun h => by rw [h])
    have E2 := Lib.hid (show j = k → a.hi / 2 ^ j = a.hi / 2 ^ k from fun h => by rw [h])
    generalize a.lo / 2 ^ j = x at *
    generalize a.hi / 2 ^ j = y at *
    obtain ⟨c00, c01⟩ := tcells H0.out
    obtain ⟨c10, c11⟩ := tcells H1.out
    by_cases hlt : j < k
    · have f0 := H0.out.frozen 0
      have f1 := H0.out.frozen 1
      go_wp2_with fail
      refine (rround_any n k HK.out HN.out _).mono ?_
      rintro e w' ⟨rfl, rfl⟩
      go_wp2_with fail
      refine wp_region_still_tail 7 (by kernel_rfl) (by decide +kernel) ?_
      simp only [List.take_succ_cons, List.take_zero, List.drop_succ_cons, List.drop_zero]
      still_step
      still_step
      still_call (half_still x b1.1 b1.2 _)
      still_step
      still_step
      still_call (half_still y b2.1 b2.2 _)
      still_step
      refine wpStill_nil ?_
      change wpList _ _ _ _ _ wr.drew
      have K0 := Lib.hid H0.out.drew
      have K1 := Lib.hid H1.out.drew
      have KB := Lib.hid HB.out.drew
      clear H0 H1 HB c00 c01 c10 c11 f0 f1
      generalize wr.drew = z at *
      obtain ⟨c00, c01⟩ := tcells K0.out
      have f0 := K0.out.frozen 0
      have f1 := K0.out.frozen 1
      go_wp2_with fail
      go_roundw
      case rel => exact ⟨j + 1, by omega, by first | rfl | go_num, Lib.hid (bk_as (bk_two K0.out _ _) (int_eq S1.out.symm) (int_eq S2.out.symm)), Lib.hid (bk_far2 K1.out (by omega) _ _), Lib.hid (below_st2 KB.out (Nat.le_refl _))⟩
      case measure => simp [intOf]; omega
    · have f0 := H1.out.frozen 0
      have f1 := H1.out.frozen 1
      go_wp2_with fail
      refine (rround_any n k HK.out HN.out _).mono ?_
      rintro e w' ⟨rfl, rfl⟩
      go_wp2_with fail
      have r0 : ∀ u v, ((wr.setCell ⟨w.heap.size + 1, 0, none⟩ u).setCell ⟨w.heap.size + 1, 1, none⟩ v).cell? ⟨w.heap.size + 1, 0, none⟩ = some u := fun u v => set_fst c10
      have r1 : ∀ u v, ((wr.setCell ⟨w.heap.size + 1, 0, none⟩ u).setCell ⟨w.heap.size + 1, 1, none⟩ v).cell? ⟨w.heap.size + 1, 1, none⟩ = some v := fun u v => set_snd c11
      refine bodyPost_ret (by simp [results, Try.results64, r0, r1, go_sem]; try rfl) rfl ?_
      exact ⟨rt_u (E1.out (by omega)) (E2.out (by omega)), below_st2 HB.out (by omega)⟩
end Go.Proofs.Ythjjfginenpfjaa
