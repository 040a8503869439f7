/-
  What the document's shifts tell: contracts. Conditions: values and masks are numbers of 64 bits.
-/
import Derived.Test.YtjjiancacokaiaaTnumRefJ
namespace Go.Proofs.Ytjjiancacokaiaa
open Go.RowKit Tn Ow
set_option linter.unusedVariables false
set_option linter.unusedSimpArgs false
def dnF (x : BitVec 64) (n wd : Nat) (i : Nat) : Bool := x.getLsbD (min (i + n) (wd - 1))
theorem dn_all64 (x : BitVec 64) (n : Nat) : mk (dnF x n 64) 64 = x.sshiftRight n := by
  refine mk_all fun i hi => ?_
  rw [bA x n i hi]
  unfold dnF fA
  by_cases h : n + i < 64
  · rw [if_pos h, show min (i + n) (64 - 1) = n + i by omega]
  · rw [if_neg h, show min (i + n) (64 - 1) = 63 by omega]
theorem mk_low {f : Nat → Bool} {x : BitVec 64} (h : ∀ i, i < 64 → x.getLsbD i = (decide (i < 32) && f i)) : mk f 32 = x :=
  bt_ext fun i hi => by rw [mk_bit f 32 i (by omega) hi, h i hi]
theorem dn_all32 (x : BitVec 64) (n : Nat) : mk (dnF x n 32) 32 = dn32 x n := by
  refine mk_low fun i hi => ?_
  rw [bA32 x n i hi]
  unfold dnF fA32
  by_cases h0 : i < 32
  · rw [if_pos h0]
    by_cases h : n + i < 32
    · rw [if_pos h, show min (i + n) (32 - 1) = n + i by omega]; simp [h0]
    · rw [if_neg h, show min (i + n) (32 - 1) = 31 by omega]; simp [h0]
  · rw [if_neg h0]; simp [h0]
theorem dn_spell (x : BitVec 64) (k n wd : Nat) (hw : 1 ≤ wd) : (bi x / 2 ^ (if (wd : Int) - 1 < (k : Int) + n then (wd : Int) - 1 else (k : Int) + n).toNat).tmod 2 = bi x / 2 ^ min (k + n) (wd - 1) % 2 := by
  have e : (if (wd : Int) - 1 < (k : Int) + n then (wd : Int) - 1 else (k : Int) + n).toNat = min (k + n) (wd - 1) := by split <;> omega
  rw [e, Int.tmod_eq_emod_of_nonneg (bpos _ _).1]
set_option maxHeartbeats 1000000 in
theorem down_any (x : BitVec 64) (n wd : Nat) (hn : n ≤ 63) (hw : wd = 64 ∨ wd = 32) (w : World) :
    Calls Try.prog 56 #[.int .u64 (bi x), .int .u64 (n : Int), .int .u64 (wd : Int)] w fun e w' => e = .returned (.int .u64 (bi (mk (dnF x n wd) wd))) ∧ w' = w := by
  have h0 := bi_bd x
  have hw1 : 1 ≤ wd := by omega
  have hw2 : wd ≤ 64 := by omega
  clear hw
  go_enter Try.func56, Try.ntmps56
  go_wp2
  go_loop [7, 8] (fun o i => ∃ k : Nat, k ≤ wd ∧ i = .int .u64 k ∧ o = .int .u64 (bi (mk (dnF x n wd) k))) (fun _ i => wd - (intOf i).toNat)
  case atStart => exact ⟨0, Nat.zero_le _, rfl, rfl⟩
  case round =>
    obtain ⟨k, hk, rfl, rfl⟩ := hrel
    have m0 := mk_bd (dnF x n wd) k
    by_cases hlt : k < wd
    · have p0 := bpos x (min (k + n) (wd - 1))
      have HV := Lib.hid (putw_bit (dnF x n wd) x k (min (k + n) (wd - 1)) (by omega) rfl)
      have HD := Lib.hid (dn_spell x k n wd hw1)
      clear p0
      go_wp2
      go_round
      case rel => exact ⟨k + 1, by omega, by go_num, by rw [HD.out, HV.out]⟩
      case measure => simp [intOf]; omega
    · obtain rfl : k = wd := by omega
      go_wp2
      go_returns
      exact ⟨rfl, rfl⟩
set_option maxHeartbeats 1000000 in
theorem reflsh_any (a : T) (n : Int) (k : Nat) (hk : n % 64 = (k : Int)) (h : -9223372036854775808 ≤ n ∧ n ≤ 9223372036854775807) (w : World) :
    Calls Try.prog 39 #[.agg #[.int .u64 (bi a.v), .int .u64 (bi a.m)], .int .i64 n] w fun e w' => e = .returned (.agg #[.int .u64 (bi (lshT a k).v), .int .u64 (bi (lshT a k).m)]) ∧ Below w.heap.size w w' := by
  have K := Lib.hid hk
  have hk1 : k ≤ 63 := by omega
  clear hk
  have h0 := bi_bd a.v
  have h1 := bi_bd a.m
  go_enter Try.func39, Try.ntmps39
  go_wp2_with fail
  have K0 := (Bk.new w 24 #[.int .u64 (bi a.v), .int .u64 (bi a.m)]).alloc (.cells #[.int .u64 0, .int .u64 0] 24)
  have K1 := Bk.new (w.alloc (.cells #[.int .u64 (bi a.v), .int .u64 (bi a.m)] 24)) 24 #[.int .u64 0, .int .u64 0]
  rw [World.size_alloc] at K1
  have B0 : Below w.heap.size w ((w.alloc (.cells #[.int .u64 (bi a.v), .int .u64 (bi a.m)] 24)).alloc (.cells #[.int .u64 0, .int .u64 0] 24)) := by go_grown
  generalize ((w.alloc (.cells #[.int .u64 (bi a.v), .int .u64 (bi a.m)] 24)).alloc (.cells #[.int .u64 0, .int .u64 0] 24)) = w0 at *
  obtain ⟨c0, c1⟩ := tcells K0
  have HK := Lib.hid K1
  have HB := Lib.hid B0
  clear K0 K1 B0
  refine wp_region_still_tail 11 (by kernel_rfl) (by decide +kernel) ?_
  simp only [List.take_succ_cons, List.take_zero, List.drop_succ_cons, List.drop_zero]
  still_step
  still_step
  still_step
  still_call (count_any n 64 k (.inl rfl) K.out h _)
  still_step
  still_step
  still_step
  still_step
  still_call (count_any n 64 k (.inl rfl) K.out h _)
  still_step
  still_step
  refine wpStill_nil ?_
  change wpList _ _ _ _ _ w0.drew
  clear c0 c1
  have HK2 := Lib.hid HK.out.drew
  have HB2 := Lib.hid HB.out.drew
  clear HK HB
  generalize w0.drew = w1 at *
  obtain ⟨d0, d1⟩ := tcells HK2.out
  have f0 := HK2.out.frozen 0
  have f1 := HK2.out.frozen 1
  go_wp2_with fail
  have r0 := set_fst (u := .int .u64 (IntKind.u64.wrap (bi a.v * 2 ^ k))) (v := .int .u64 (IntKind.u64.wrap (bi a.m * 2 ^ k))) d0
  have r1 := set_snd (u := .int .u64 (IntKind.u64.wrap (bi a.v * 2 ^ k))) (v := .int .u64 (IntKind.u64.wrap (bi a.m * 2 ^ k))) d1
  have BB := Lib.hid (below_set (i := 1) (u := .int .u64 (IntKind.u64.wrap (bi a.m * 2 ^ k))) (below_set (i := 0) (u := .int .u64 (IntKind.u64.wrap (bi a.v * 2 ^ k))) HB2.out (show w.heap.size ≤ w.heap.size + 1 by omega)) (show w.heap.size ≤ w.heap.size + 1 by omega))
  clear d0 d1 f0 f1 HK2 HB2
  revert BB r0 r1
  generalize World.setCell (World.setCell w1 _ _) _ _ = W
  intro r0 r1 BB
  refine bodyPost_ret (by simp [results, Try.results39, r0, r1, go_sem]; try rfl) rfl ?_
  exact ⟨rt_t (biw_shl _ _) (biw_shl _ _), BB.out⟩
set_option maxHeartbeats 1000000 in
theorem refrsh_any (a : T) (n : Int) (k : Nat) (hk : n % 64 = (k : Int)) (h : -9223372036854775808 ≤ n ∧ n ≤ 9223372036854775807) (w : World) :
    Calls Try.prog 41 #[.agg #[.int .u64 (bi a.v), .int .u64 (bi a.m)], .int .i64 n] w fun e w' => e = .returned (.agg #[.int .u64 (bi (rshT a k).v), .int .u64 (bi (rshT a k).m)]) ∧ Below w.heap.size w w' := by
  have K := Lib.hid hk
  have hk1 : k ≤ 63 := by omega
  clear hk
  have h0 := bi_bd a.v
  have h1 := bi_bd a.m
  go_enter Try.func41, Try.ntmps41
  go_wp2_with fail
  have K0 := (Bk.new w 24 #[.int .u64 (bi a.v), .int .u64 (bi a.m)]).alloc (.cells #[.int .u64 0, .int .u64 0] 24)
  have K1 := Bk.new (w.alloc (.cells #[.int .u64 (bi a.v), .int .u64 (bi a.m)] 24)) 24 #[.int .u64 0, .int .u64 0]
  rw [World.size_alloc] at K1
  have B0 : Below w.heap.size w ((w.alloc (.cells #[.int .u64 (bi a.v), .int .u64 (bi a.m)] 24)).alloc (.cells #[.int .u64 0, .int .u64 0] 24)) := by go_grown
  generalize ((w.alloc (.cells #[.int .u64 (bi a.v), .int .u64 (bi a.m)] 24)).alloc (.cells #[.int .u64 0, .int .u64 0] 24)) = w0 at *
  obtain ⟨c0, c1⟩ := tcells K0
  have HK := Lib.hid K1
  have HB := Lib.hid B0
  clear K0 K1 B0
  refine wp_region_still_tail 11 (by kernel_rfl) (by decide +kernel) ?_
  simp only [List.take_succ_cons, List.take_zero, List.drop_succ_cons, List.drop_zero]
  still_step
  still_step
  still_step
  still_call (count_any n 64 k (.inl rfl) K.out h _)
  still_step
  still_step
  still_step
  still_step
  still_call (count_any n 64 k (.inl rfl) K.out h _)
  still_step
  still_step
  refine wpStill_nil ?_
  change wpList _ _ _ _ _ w0.drew
  clear c0 c1
  have HK2 := Lib.hid HK.out.drew
  have HB2 := Lib.hid HB.out.drew
  clear HK HB
  generalize w0.drew = w1 at *
  obtain ⟨d0, d1⟩ := tcells HK2.out
  have f0 := HK2.out.frozen 0
  have f1 := HK2.out.frozen 1
  go_wp2_with fail
  have r0 := set_fst (u := .int .u64 (bi a.v / 2 ^ k)) (v := .int .u64 (bi a.m / 2 ^ k)) d0
  have r1 := set_snd (u := .int .u64 (bi a.v / 2 ^ k)) (v := .int .u64 (bi a.m / 2 ^ k)) d1
  have BB := Lib.hid (below_set (i := 1) (u := .int .u64 (bi a.m / 2 ^ k)) (below_set (i := 0) (u := .int .u64 (bi a.v / 2 ^ k)) HB2.out (show w.heap.size ≤ w.heap.size + 1 by omega)) (show w.heap.size ≤ w.heap.size + 1 by omega))
  clear d0 d1 f0 f1 HK2 HB2
  revert BB r0 r1
  generalize World.setCell (World.setCell w1 _ _) _ _ = W
  intro r0 r1 BB
  refine bodyPost_ret (by simp [results, Try.results41, r0, r1, go_sem]; try rfl) rfl ?_
  exact ⟨rt_t (bi_shr _ _) (bi_shr _ _), BB.out⟩
set_option maxHeartbeats 1000000 in
theorem refar_any (a : T) (n : Int) (k : Nat) (hk : n % 64 = (k : Int)) (h : -9223372036854775808 ≤ n ∧ n ≤ 9223372036854775807) (w : World) :
    Calls Try.prog 43 #[.agg #[.int .u64 (bi a.v), .int .u64 (bi a.m)], .int .i64 n, .int .i64 64] w fun e w' => e = .returned (.agg #[.int .u64 (bi (arT a k).v), .int .u64 (bi (arT a k).m)]) ∧ Below w.heap.size w w' := by
  have K := Lib.hid hk
  have hk1 : k ≤ 63 := by omega
  clear hk
  have h0 := bi_bd a.v
  have h1 := bi_bd a.m
  go_enter Try.func43, Try.ntmps43
  go_wp2_with (go_at_call 54; refine (count_any n 64 k (by omega) K.out h _).mono ?_; rintro e w' ⟨rfl, rfl⟩)
  have K0 := (Bk.new w 24 #[.int .u64 (bi a.v), .int .u64 (bi a.m)]).alloc (.cells #[.int .u64 0, .int .u64 0] 24)
  have K1 := Bk.new (w.alloc (.cells #[.int .u64 (bi a.v), .int .u64 (bi a.m)] 24)) 24 #[.int .u64 0, .int .u64 0]
  rw [World.size_alloc] at K1
  have B0 : Below w.heap.size w ((w.alloc (.cells #[.int .u64 (bi a.v), .int .u64 (bi a.m)] 24)).alloc (.cells #[.int .u64 0, .int .u64 0] 24)) := by go_grown
  generalize ((w.alloc (.cells #[.int .u64 (bi a.v), .int .u64 (bi a.m)] 24)).alloc (.cells #[.int .u64 0, .int .u64 0] 24)) = w0 at *
  obtain ⟨c0, c1⟩ := tcells K0
  have HK := Lib.hid K1
  have HB := Lib.hid B0
  clear K0 K1 B0
  have D0 := down_any a.v k 64 hk1 (by omega)
  have D1 := down_any a.m k 64 hk1 (by omega)
  refine wp_region_still_tail 13 (by kernel_rfl) (by decide +kernel) ?_
  simp only [List.take_succ_cons, List.take_zero, List.drop_succ_cons, List.drop_zero]
  still_step
  still_step
  still_step
  still_step
  still_step
  still_call (D0 _)
  still_step
  still_step
  still_step
  still_step
  still_step
  still_call (D1 _)
  still_step
  refine wpStill_nil ?_
  change wpList _ _ _ _ _ w0.drew
  clear c0 c1
  have HK2 := Lib.hid HK.out.drew
  have HB2 := Lib.hid HB.out.drew
  clear HK HB
  generalize w0.drew = w1 at *
  obtain ⟨d0, d1⟩ := tcells HK2.out
  have f0 := HK2.out.frozen 0
  have f1 := HK2.out.frozen 1
  go_wp2_with fail
  have r0 := set_fst (u := .int .u64 (bi (mk (dnF a.v k 64) 64))) (v := .int .u64 (bi (mk (dnF a.m k 64) 64))) d0
  have r1 := set_snd (u := .int .u64 (bi (mk (dnF a.v k 64) 64))) (v := .int .u64 (bi (mk (dnF a.m k 64) 64))) d1
  have BB := Lib.hid (below_set (i := 1) (u := .int .u64 (bi (mk (dnF a.m k 64) 64))) (below_set (i := 0) (u := .int .u64 (bi (mk (dnF a.v k 64) 64))) HB2.out (show w.heap.size ≤ w.heap.size + 1 by omega)) (show w.heap.size ≤ w.heap.size + 1 by omega))
  clear d0 d1 f0 f1 HK2 HB2
  revert BB r0 r1
  generalize World.setCell (World.setCell w1 _ _) _ _ = W
  intro r0 r1 BB
  refine bodyPost_ret (by simp [results, Try.results43, r0, r1, go_sem]; try rfl) rfl ?_
  exact ⟨rt_t (by rw [dn_all64]; rfl) (by rw [dn_all64]; rfl), BB.out⟩
set_option maxHeartbeats 1000000 in
theorem refar32_any (a : T) (n : Int) (k : Nat) (hk : n % 32 = (k : Int)) (h : -9223372036854775808 ≤ n ∧ n ≤ 9223372036854775807) (w : World) :
    Calls Try.prog 43 #[.agg #[.int .u64 (bi a.v), .int .u64 (bi a.m)], .int .i64 n, .int .i64 32] w fun e w' => e = .returned (.agg #[.int .u64 (bi (ar32T a k).v), .int .u64 (bi (ar32T a k).m)]) ∧ Below w.heap.size w w' := by
  have K := Lib.hid hk
  have hk1 : k ≤ 63 := by omega
  clear hk
  have h0 := bi_bd a.v
  have h1 := bi_bd a.m
  go_enter Try.func43, Try.ntmps43
  go_wp2_with (go_at_call 54; refine (count_any n 32 k (by omega) K.out h _).mono ?_; rintro e w' ⟨rfl, rfl⟩)
  have K0 := (Bk.new w 24 #[.int .u64 (bi a.v), .int .u64 (bi a.m)]).alloc (.cells #[.int .u64 0, .int .u64 0] 24)
  have K1 := Bk.new (w.alloc (.cells #[.int .u64 (bi a.v), .int .u64 (bi a.m)] 24)) 24 #[.int .u64 0, .int .u64 0]
  rw [World.size_alloc] at K1
  have B0 : Below w.heap.size w ((w.alloc (.cells #[.int .u64 (bi a.v), .int .u64 (bi a.m)] 24)).alloc (.cells #[.int .u64 0, .int .u64 0] 24)) := by go_grown
  generalize ((w.alloc (.cells #[.int .u64 (bi a.v), .int .u64 (bi a.m)] 24)).alloc (.cells #[.int .u64 0, .int .u64 0] 24)) = w0 at *
  obtain ⟨c0, c1⟩ := tcells K0
  have HK := Lib.hid K1
  have HB := Lib.hid B0
  clear K0 K1 B0
  have D0 := down_any a.v k 32 hk1 (by omega)
  have D1 := down_any a.m k 32 hk1 (by omega)
  refine wp_region_still_tail 13 (by kernel_rfl) (by decide +kernel) ?_
  simp only [List.take_succ_cons, List.take_zero, List.drop_succ_cons, List.drop_zero]
  still_step
  still_step
  still_step
  still_step
  still_step
  still_call (D0 _)
  still_step
  still_step
  still_step
  still_step
  still_step
  still_call (D1 _)
  still_step
  refine wpStill_nil ?_
  change wpList _ _ _ _ _ w0.drew
  clear c0 c1
  have HK2 := Lib.hid HK.out.drew
  have HB2 := Lib.hid HB.out.drew
  clear HK HB
  generalize w0.drew = w1 at *
  obtain ⟨d0, d1⟩ := tcells HK2.out
  have f0 := HK2.out.frozen 0
  have f1 := HK2.out.frozen 1
  go_wp2_with fail
  have r0 := set_fst (u := .int .u64 (bi (mk (dnF a.v k 32) 32))) (v := .int .u64 (bi (mk (dnF a.m k 32) 32))) d0
  have r1 := set_snd (u := .int .u64 (bi (mk (dnF a.v k 32) 32))) (v := .int .u64 (bi (mk (dnF a.m k 32) 32))) d1
  have BB := Lib.hid (below_set (i := 1) (u := .int .u64 (bi (mk (dnF a.m k 32) 32))) (below_set (i := 0) (u := .int .u64 (bi (mk (dnF a.v k 32) 32))) HB2.out (show w.heap.size ≤ w.heap.size + 1 by omega)) (show w.heap.size ≤ w.heap.size + 1 by omega))
  clear d0 d1 f0 f1 HK2 HB2
  revert BB r0 r1
  generalize World.setCell (World.setCell w1 _ _) _ _ = W
  intro r0 r1 BB
  refine bodyPost_ret (by simp [results, Try.results43, r0, r1, go_sem]; try rfl) rfl ?_
  exact ⟨rt_t (by rw [dn_all32]; rfl) (by rw [dn_all32]; rfl), BB.out⟩
theorem refarany_any (a : T) (n p : Int) (n1 : p ≠ 32) (n2 : p ≠ 64) (w : World) :
    Calls Try.prog 43 #[.agg #[.int .u64 (bi a.v), .int .u64 (bi a.m)], .int .i64 n, .int .i64 p] w fun e w' => e = .returned (.agg #[.int .u64 (bi anyT.v), .int .u64 (bi anyT.m)]) ∧ Below w.heap.size w w' := by
  have h0 := bi_bd a.v
  have h1 := bi_bd a.m
  have g1 : (p != 32) = true := by simp [n1]
  have g2 : (p != 64) = true := by simp [n2]
  go_enter Try.func43, Try.ntmps43
  go_wp2
  go_returns
  exact ⟨rt_t rfl bi_ones.symm, by go_grown⟩
end Go.Proofs.Ytjjiancacokaiaa
