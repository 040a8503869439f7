/-
  What package span's other functions tell: contracts. Conditions: the ends are numbers of 64 bits, Lo at most Hi; no bit of a value is in its mask.
-/
import Derived.Test.YtcimihckhobniaaGreatBSpanD
namespace Go.Proofs.YtcimihckhobniaaGreat
open Go.RowKit Tn Ow Sp
set_option linter.unusedVariables false
set_option linter.unusedSimpArgs false
theorem len_to2 (x : Int) (n : Nat) (h0 : 0 ≤ x) (h1 : x ≤ 18446744073709551615) (hn : ln x.toNat = n) (w : World) :
    Calls Tryz.prog 170 #[.int .u64 x] w fun e w' => e = .returned (.int .i64 (n : Int)) ∧ w = w' := by
  subst hn
  exact len_any x h0 h1 w
theorem tos_any (a : E) (ha : okU a) (w : World) :
    Calls Tryz.prog 103 #[.agg #[.int .u64 a.lo, .int .u64 a.hi]] w fun e w' => e = .returned (.agg #[.int .i64 (toS a).lo, .int .i64 (toS a).hi]) ∧ Below w.heap.size w w' := by
  obtain ⟨a0, a1, a2⟩ := ha
  by_cases h : (a.lo < 9223372036854775808 ↔ a.hi < 9223372036854775808)
  · have e1 := Lib.hid (show toS a = ⟨sg a.lo, sg a.hi⟩ by unfold toS; rw [if_pos h])
    rw [e1.out]
    have d1 : (bits .and .u64 (bits .xor .u64 a.lo a.hi) 9223372036854775808 != 0) = false := by rw [(hi_xor a.lo a.hi a0 (by omega) (by omega) a2).2 h]; rfl
    have A1 := Lib.hid (sg_wrap a.lo a0 (by omega))
    have A2 := Lib.hid (sg_wrap a.hi (by omega) a2)
    clear h
    go_enter Tryz.func103, Tryz.ntmps103
    go_wp2
    go_returns
    exact ⟨rt_u A1.out A2.out, by go_grown⟩
  · have e1 := Lib.hid (show toS a = sAll by unfold toS; rw [if_neg h])
    rw [e1.out]
    have d1 : (bits .and .u64 (bits .xor .u64 a.lo a.hi) 9223372036854775808 != 0) = true := by
      have g : ¬ bits .and .u64 (bits .xor .u64 a.lo a.hi) 9223372036854775808 = 0 := fun g => h ((hi_xor a.lo a.hi a0 (by omega) (by omega) a2).1 g)
      simp [g]
    clear h
    go_enter Tryz.func103, Tryz.ntmps103
    go_wp2_with fail
    have K0 := ((Bk.new w 26 #[.int .u64 a.lo, .int .u64 a.hi]).alloc (.cells #[.int .i64 0, .int .i64 0] 28))
    have K1 := (Bk.new (w.alloc (.cells #[.int .u64 a.lo, .int .u64 a.hi] 26)) 28 #[.int .i64 0, .int .i64 0])
    rw [World.size_alloc] at K1
    have B0 : Below w.heap.size w ((w.alloc (.cells #[.int .u64 a.lo, .int .u64 a.hi] 26)).alloc (.cells #[.int .i64 0, .int .i64 0] 28)) := by go_grown
    generalize ((w.alloc (.cells #[.int .u64 a.lo, .int .u64 a.hi] 26)).alloc (.cells #[.int .i64 0, .int .i64 0] 28)) = w0 at *
    have H0 := Lib.hid K0
    obtain ⟨c00, c01⟩ := tcells K0
    have H1 := Lib.hid K1
    obtain ⟨c10, c11⟩ := tcells K1
    have f0 := K1.frozen 0
    have f1 := K1.frozen 1
    have HB := Lib.hid B0
    clear K0 K1 B0
    with_reducible refine (sall_any _).mono ?_
    rintro e w1 ⟨rfl, qb⟩
    replace f0 := keepf qb (World.block_lt_of_cell? _ _ c10) f0
    replace f1 := keepf qb (World.block_lt_of_cell? _ _ c11) f1
    replace c00 := keep1 qb c00
    replace c01 := keep1 qb c01
    replace c10 := keep1 qb c10
    replace c11 := keep1 qb c11
    replace H0 := Lib.hid (H0.out.below qb H0.out.lt)
    replace H1 := Lib.hid (H1.out.below qb H1.out.lt)
    replace HB := Lib.hid (below_then HB.out qb (Nat.le_refl _))
    clear qb
    go_wp2_with fail
    have r0 : ∀ u v, ((w1.setCell ⟨w.heap.size + 1, 0, none⟩ u).setCell ⟨w.heap.size + 1, 1, none⟩ v).cell? ⟨w.heap.size + 1, 0, none⟩ = some u := fun u v => set_fst c10
    have r1 : ∀ u v, ((w1.setCell ⟨w.heap.size + 1, 0, none⟩ u).setCell ⟨w.heap.size + 1, 1, none⟩ v).cell? ⟨w.heap.size + 1, 1, none⟩ = some v := fun u v => set_snd c11
    refine bodyPost_ret (by simp [results, Tryz.results103, r0, r1, go_sem]; try rfl) rfl ?_
    exact ⟨rt_u rfl rfl, (below_st2 HB.out (by omega))⟩
theorem tou_any (a : E) (ha : okS a) (w : World) :
    Calls Tryz.prog 101 #[.agg #[.int .i64 a.lo, .int .i64 a.hi]] w fun e w' => e = .returned (.agg #[.int .u64 (toU a).lo, .int .u64 (toU a).hi]) ∧ Below w.heap.size w w' := by
  obtain ⟨a0, a1, a2⟩ := ha
  by_cases h : a.lo < 0 ∧ 0 ≤ a.hi
  · have e1 := Lib.hid (show toU a = uAll by unfold toU; rw [if_pos h])
    rw [e1.out]
    have p1 : decide (a.lo < 0) = true := decide_eq_true h.1
    have p2 : decide (a.hi < 0) = false := decide_eq_false (by omega)
    clear h
    go_enter Tryz.func101, Tryz.ntmps101
    go_wp2_with fail
    have K0 := ((Bk.new w 28 #[.int .i64 a.lo, .int .i64 a.hi]).alloc (.cells #[.int .u64 0, .int .u64 0] 26))
    have K1 := (Bk.new (w.alloc (.cells #[.int .i64 a.lo, .int .i64 a.hi] 28)) 26 #[.int .u64 0, .int .u64 0])
    rw [World.size_alloc] at K1
    have B0 : Below w.heap.size w ((w.alloc (.cells #[.int .i64 a.lo, .int .i64 a.hi] 28)).alloc (.cells #[.int .u64 0, .int .u64 0] 26)) := by go_grown
    generalize ((w.alloc (.cells #[.int .i64 a.lo, .int .i64 a.hi] 28)).alloc (.cells #[.int .u64 0, .int .u64 0] 26)) = w0 at *
    have H0 := Lib.hid K0
    obtain ⟨c00, c01⟩ := tcells K0
    have H1 := Lib.hid K1
    obtain ⟨c10, c11⟩ := tcells K1
    have f0 := K1.frozen 0
    have f1 := K1.frozen 1
    have HB := Lib.hid B0
    clear K0 K1 B0
    with_reducible refine (uall_any _).mono ?_
    rintro e w1 ⟨rfl, qb⟩
    replace f0 := keepf qb (World.block_lt_of_cell? _ _ c10) f0
    replace f1 := keepf qb (World.block_lt_of_cell? _ _ c11) f1
    replace c00 := keep1 qb c00
    replace c01 := keep1 qb c01
    replace c10 := keep1 qb c10
    replace c11 := keep1 qb c11
    replace H0 := Lib.hid (H0.out.below qb H0.out.lt)
    replace H1 := Lib.hid (H1.out.below qb H1.out.lt)
    replace HB := Lib.hid (below_then HB.out qb (Nat.le_refl _))
    clear qb
    go_wp2_with fail
    have r0 : ∀ u v, ((w1.setCell ⟨w.heap.size + 1, 0, none⟩ u).setCell ⟨w.heap.size + 1, 1, none⟩ v).cell? ⟨w.heap.size + 1, 0, none⟩ = some u := fun u v => set_fst c10
    have r1 : ∀ u v, ((w1.setCell ⟨w.heap.size + 1, 0, none⟩ u).setCell ⟨w.heap.size + 1, 1, none⟩ v).cell? ⟨w.heap.size + 1, 1, none⟩ = some v := fun u v => set_snd c11
    refine bodyPost_ret (by simp [results, Tryz.results101, r0, r1, go_sem]; try rfl) rfl ?_
    exact ⟨rt_u rfl rfl, (below_st2 HB.out (by omega))⟩
  · have e1 := Lib.hid (show toU a = ⟨us a.lo, us a.hi⟩ by unfold toU; rw [if_neg h])
    rw [e1.out]
    have A1 := Lib.hid (us_wrap a.lo a0 (by omega))
    have A2 := Lib.hid (us_wrap a.hi (by omega) a2)
    by_cases g : a.hi < 0
    · have p1 : decide (a.lo < 0) = true := decide_eq_true (by omega)
      have p2 : decide (a.hi < 0) = true := decide_eq_true (by omega)
      clear h
      go_enter Tryz.func101, Tryz.ntmps101
      go_wp2
      go_returns
      exact ⟨rt_u A1.out A2.out, by go_grown⟩
    · have p1 : decide (a.lo < 0) = false := decide_eq_false (by omega)
      have p2 : decide (a.hi < 0) = false := decide_eq_false (by omega)
      clear h
      go_enter Tryz.func101, Tryz.ntmps101
      go_wp2
      go_returns
      exact ⟨rt_u A1.out (show _ = us a.hi by unfold us; split <;> omega), by go_grown⟩
theorem tot_any (a : E) (ha : okU a) (w : World) :
    Calls Tryz.prog 105 #[.agg #[.int .u64 a.lo, .int .u64 a.hi]] w fun e w' => e = .returned (.agg #[.int .u64 (bi (toT a).v), .int .u64 (bi (toT a).m)]) ∧ Below w.heap.size w w' := by
  have T1 := Lib.hid (toT_v ha)
  have T2 := Lib.hid (toT_m ha)
  have D := dif_le ha
  obtain ⟨a0, a1, a2⟩ := ha
  have q0 : bits .xor .u64 a.lo a.hi = xorI a.lo a.hi := bits_xor _ _ (by omega) (by omega) (by omega) (by omega)
  have q1 := xorI_bd a.lo a.hi (by omega) a2
  have EN := Lib.hid (show ln (xorI a.lo a.hi).toNat = dif a from rfl)
  rw [T1.out, T2.out]
  obtain ⟨k, hk⟩ : ∃ k, dif a = k := ⟨_, rfl⟩
  rw [hk] at EN D ⊢
  have B := Lib.hid (bits_low a.lo k D a0 (by omega))
  clear hk T1 T2
  go_enter Tryz.func105, Tryz.ntmps105
  go_wp2_with fail
  refine (len_to2 _ k q1.1 q1.2 EN.out _).mono ?_
  rintro e w' ⟨rfl, rfl⟩
  go_wp2_with fail
  refine (ones_any k D _).mono ?_
  rintro e w' ⟨rfl, rfl⟩
  go_wp2
  go_returns
  exact ⟨rt_u B.out rfl, by go_grown⟩
theorem rt_us {a b c d p q r s : Int} (h1 : a = b) (h2 : c = d) (h3 : p = q) (h4 : r = s) : Ending.returned (.tuple #[.agg #[.int .u64 a, .int .u64 c], .agg #[.int .i64 p, .int .i64 r]]) = .returned (.tuple #[.agg #[.int .u64 b, .int .u64 d], .agg #[.int .i64 q, .int .i64 s]]) := by rw [h1, h2, h3, h4]
theorem bi_hib : bi hib = 9223372036854775808 := rfl
theorem fromt_any (t : T) (w : World) :
    Calls Tryz.prog 56 #[.agg #[.int .u64 (bi t.v), .int .u64 (bi t.m)]] w fun e w' => e = .returned (.tuple #[.agg #[.int .u64 (fromU t).lo, .int .u64 (fromU t).hi], .agg #[.int .i64 (fromS t).lo, .int .i64 (fromS t).hi]]) ∧ Below w.heap.size w w' := by
  have h0 := bi_bd t.v
  have h1 := bi_bd t.m
  have h2 := bi_bd (t.v + t.m)
  have h3 := bi_bd (t.v ||| hib)
  have h4 := bi_bd ((t.v + t.m) &&& ~~~hib)
  have q0 : IntKind.u64.wrap (bi t.v + bi t.m) = bi (t.v + t.m) := biw_add _ _
  have q1 : bits .or .u64 (bi t.v) 9223372036854775808 = bi (t.v ||| hib) := by rw [← bi_hib]; exact bi_or _ _
  have q2 : bits .andNot .u64 (bi (t.v + t.m)) 9223372036854775808 = bi ((t.v + t.m) &&& ~~~hib) := by rw [← bi_hib]; exact bi_andNot _ _
  by_cases h : bi t.m < 9223372036854775808
  · have e1 := Lib.hid (show fromS t = ⟨sg (bi t.v), sg (bi (t.v + t.m))⟩ by unfold fromS; rw [if_pos h])
    rw [e1.out]
    have d1 : (bits .and .u64 (bi t.m) 9223372036854775808 == 0) = true := by rw [(hi_and _ h1.1 h1.2).2 h]; rfl
    go_enter Tryz.func56, Tryz.ntmps56
    go_wp2_with fail
    go_region
    all_goals go_wp2
    all_goals go_returns
    all_goals exact ⟨rt_us rfl rfl (sg_wrap _ h0.1 h0.2) (sg_wrap _ h2.1 h2.2), by go_grown⟩
  · have e1 := Lib.hid (show fromS t = ⟨sg (bi (t.v ||| hib)), sg (bi ((t.v + t.m) &&& ~~~hib))⟩ by unfold fromS; rw [if_neg h])
    rw [e1.out]
    have d1 : (bits .and .u64 (bi t.m) 9223372036854775808 == 0) = false := by
      have g : ¬ bits .and .u64 (bi t.m) 9223372036854775808 = 0 := fun g => h ((hi_and _ h1.1 h1.2).1 g)
      simp [g]
    go_enter Tryz.func56, Tryz.ntmps56
    go_wp2_with fail
    go_region
    all_goals go_wp2
    all_goals go_returns
    all_goals exact ⟨rt_us rfl rfl (sg_wrap _ h3.1 h3.2) (sg_wrap _ h4.1 h4.2), by go_grown⟩
end Go.Proofs.YtcimihckhobniaaGreat
