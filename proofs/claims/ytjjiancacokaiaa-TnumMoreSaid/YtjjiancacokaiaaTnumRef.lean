/-
  What the document's answer of layer 3 tells (all but Mul): contracts. Conditions: values and masks are numbers of 64 bits.
-/
import Derived.Test.YtjjiancacokaiaaTnumProg
namespace Go.Proofs.Ytjjiancacokaiaa
open Go.RowKit Tn Ow
set_option linter.unusedVariables false
set_option linter.unusedSimpArgs false
theorem b0 {x : BitVec 64} {k : Nat} (h : x.getLsbD k = false) : bi x / 2 ^ k % 2 = 0 := by rw [bi_bit, h]; rfl
theorem b1 {x : BitVec 64} {k : Nat} (h : x.getLsbD k = true) : bi x / 2 ^ k % 2 = 1 := by rw [bi_bit, h]; rfl
theorem bpos (x : BitVec 64) (k : Nat) : 0 ≤ bi x / 2 ^ k ∧ bi x / 2 ^ k ≤ 18446744073709551615 := by rw [bi_shr]; exact bi_bd _
/-- Of the first k bits those that are known are alike. -/
def inK (t : T) (x : BitVec 64) (k : Nat) : Prop := ∀ i, i < k → t.m.getLsbD i = false → x.getLsbD i = t.v.getLsbD i
theorem inK_step {t : T} {x : BitVec 64} {k : Nat} (h : inK t x k) (h1 : t.m.getLsbD k = false → x.getLsbD k = t.v.getLsbD k) : inK t x (k + 1) := by
  intro i hi
  by_cases e : i = k
  · subst e; exact h1
  · exact h i (by omega)
theorem inK_all {t : T} {x : BitVec 64} (h : inK t x 64) : inT t x = true := (in_iff t x).2 h
theorem inK_not {t : T} {x : BitVec 64} {k : Nat} (hk : k < 64) (h1 : t.m.getLsbD k = false) (h2 : x.getLsbD k ≠ t.v.getLsbD k) : inT t x = false := by
  cases h : inT t x
  · rfl
  · exact absurd ((in_iff t x).1 h k hk h1) h2
set_option maxHeartbeats 1000000 in
theorem refin_any (a : T) (v : BitVec 64) (w : World) :
    Calls Try.prog 20 #[.agg #[.int .u64 (bi a.v), .int .u64 (bi a.m)], .int .u64 (bi v)] w fun e w' => e = .returned (.bool (inT a v)) ∧ Below w.heap.size w w' := by
  have h0 := bi_bd a.v
  have h1 := bi_bd a.m
  have h2 := bi_bd v
  go_enter Try.func20, Try.ntmps20
  go_wp2
  go_loop [5] (fun i => ∃ k : Nat, k ≤ 64 ∧ i = .int .u64 k ∧ Hid (inK a v k)) (fun i => 64 - (intOf i).toNat)
  case atStart => exact ⟨0, Nat.zero_le _, rfl, Lib.hid (fun i hi => absurd hi (by omega))⟩
  case round =>
    obtain ⟨k, hk, rfl, HI⟩ := hrel
    by_cases hlt : k < 64
    · have p0 := bpos a.v k
      have p1 := bpos a.m k
      have p2 := bpos v k
      cases hm : a.m.getLsbD k
      · have e1 := b0 hm
        by_cases hs : v.getLsbD k = a.v.getLsbD k
        · have HS := Lib.hid (inK_step HI.out (fun _ => hs))
          have e2 : (bi a.v / 2 ^ k % 2 != bi v / 2 ^ k % 2) = false := by rw [bi_bit, bi_bit, hs]; simp
          clear hs hm
          go_wp2
          go_round
          case rel => exact ⟨k + 1, by omega, by go_num, HS⟩
          case measure => simp [intOf]; omega
        · have HS := Lib.hid (inK_not hlt hm hs)
          have e2 : (bi a.v / 2 ^ k % 2 != bi v / 2 ^ k % 2) = true := by
            rw [bi_bit, bi_bit]
            cases h8 : v.getLsbD k <;> cases h9 : a.v.getLsbD k <;> simp_all
          clear hs hm
          go_wp2
          go_returns
          exact ⟨rt_b HS.out.symm, by go_grown⟩
      · have e1 := b1 hm
        have HS := Lib.hid (inK_step HI.out (fun h => by rw [hm] at h; cases h))
        clear hm
        go_wp2
        go_round
        case rel => exact ⟨k + 1, by omega, by go_num, HS⟩
        case measure => simp [intOf]; omega
    · obtain rfl : k = 64 := by omega
      have HS := Lib.hid (inK_all HI.out)
      go_wp2
      go_returns
      exact ⟨rt_b HS.out.symm, by go_grown⟩
def wiK (a b : T) (k : Nat) : Prop := ∀ i, i < k → b.m.getLsbD i = false → a.m.getLsbD i = false ∧ a.v.getLsbD i = b.v.getLsbD i
theorem wiK_step {a b : T} {k : Nat} (h : wiK a b k) (h1 : b.m.getLsbD k = false → a.m.getLsbD k = false ∧ a.v.getLsbD k = b.v.getLsbD k) : wiK a b (k + 1) := by
  intro i hi
  by_cases e : i = k
  · subst e; exact h1
  · exact h i (by omega)
theorem wiK_not {a b : T} {k : Nat} (hb : mayT b) (hk : k < 64) (h1 : b.m.getLsbD k = false) (h2 : ¬ (a.m.getLsbD k = false ∧ a.v.getLsbD k = b.v.getLsbD k)) : withT a b = false := by
  cases h : withT a b
  · rfl
  · exact absurd ((with_iff a b hb).1 h k hk h1) h2
set_option maxHeartbeats 1000000 in
theorem refwithin_any (a b : T) (hb : mayT b) (w : World) :
    Calls Try.prog 22 #[.agg #[.int .u64 (bi a.v), .int .u64 (bi a.m)], .agg #[.int .u64 (bi b.v), .int .u64 (bi b.m)]] w fun e w' => e = .returned (.bool (withT a b)) ∧ Below w.heap.size w w' := by
  have h0 := bi_bd a.v
  have h1 := bi_bd a.m
  have h2 := bi_bd b.v
  have h3 := bi_bd b.m
  have HB := Lib.hid hb
  clear hb
  go_enter Try.func22, Try.ntmps22
  go_wp2
  go_loop [5] (fun i => ∃ k : Nat, k ≤ 64 ∧ i = .int .u64 k ∧ Hid (wiK a b k)) (fun i => 64 - (intOf i).toNat)
  case atStart => exact ⟨0, Nat.zero_le _, rfl, Lib.hid (fun i hi => absurd hi (by omega))⟩
  case round =>
    obtain ⟨k, hk, rfl, HI⟩ := hrel
    by_cases hlt : k < 64
    · have p0 := bpos a.v k
      have p1 := bpos a.m k
      have p2 := bpos b.v k
      have p3 := bpos b.m k
      cases hm : b.m.getLsbD k
      · have e1 := b0 hm
        cases ha : a.m.getLsbD k
        · have e3 := b0 ha
          by_cases hs : a.v.getLsbD k = b.v.getLsbD k
          · have HS := Lib.hid (wiK_step HI.out (fun _ => ⟨ha, hs⟩))
            have e2 : (bi a.v / 2 ^ k % 2 != bi b.v / 2 ^ k % 2) = false := by rw [bi_bit, bi_bit, hs]; simp
            clear hs hm ha
            go_wp2
            go_round
            case rel => exact ⟨k + 1, by omega, by go_num, HS⟩
            case measure => simp [intOf]; omega
          · have HS := Lib.hid (wiK_not HB.out hlt hm (fun h => hs h.2))
            have e2 : (bi a.v / 2 ^ k % 2 != bi b.v / 2 ^ k % 2) = true := by
              rw [bi_bit, bi_bit]
              cases h8 : b.v.getLsbD k <;> cases h9 : a.v.getLsbD k <;> simp_all
            clear hs hm ha
            go_wp2
            go_returns
            exact ⟨rt_b HS.out.symm, by go_grown⟩
        · have e3 := b1 ha
          have HS := Lib.hid (wiK_not HB.out hlt hm (fun h => by rw [ha] at h; cases h.1))
          clear hm ha
          go_wp2
          go_returns
          exact ⟨rt_b HS.out.symm, by go_grown⟩
      · have e1 := b1 hm
        have HS := Lib.hid (wiK_step HI.out (fun h => by rw [hm] at h; cases h))
        clear hm
        go_wp2
        go_round
        case rel => exact ⟨k + 1, by omega, by go_num, HS⟩
        case measure => simp [intOf]; omega
    · obtain rfl : k = 64 := by omega
      have HS := Lib.hid ((with_iff a b HB.out).2 HI.out)
      go_wp2
      go_returns
      exact ⟨rt_b HS.out.symm, by go_grown⟩
theorem refadd_any (a b : T) (w : World) :
    Calls Try.prog 27 #[.agg #[.int .u64 (bi a.v), .int .u64 (bi a.m)], .agg #[.int .u64 (bi b.v), .int .u64 (bi b.m)]] w fun e w' => e = .returned (.agg #[.int .u64 (bi (addT a b).v), .int .u64 (bi (addT a b).m)]) ∧ Below w.heap.size w w' := by
  have h0 := bi_bd a.v
  have h1 := bi_bd a.m
  have h2 := bi_bd b.v
  have h3 := bi_bd b.m
  go_enter Try.func27, Try.ntmps27
  go_wp2
  go_returns
  refine ⟨rt_t ?_ ?_, by go_grown⟩
  · simp only [bi_andNot, bi_or, bi_xor, bi_and, biw_add, biw_sub, biw_mul]; rw [BitVec.add_assoc (a.v + b.v)]; rfl
  · simp only [bi_andNot, bi_or, bi_xor, bi_and, biw_add, biw_sub, biw_mul]; rw [BitVec.add_assoc (a.v + b.v)]; rfl
theorem refsub_any (a b : T) (w : World) :
    Calls Try.prog 29 #[.agg #[.int .u64 (bi a.v), .int .u64 (bi a.m)], .agg #[.int .u64 (bi b.v), .int .u64 (bi b.m)]] w fun e w' => e = .returned (.agg #[.int .u64 (bi (subT a b).v), .int .u64 (bi (subT a b).m)]) ∧ Below w.heap.size w w' := by
  have h0 := bi_bd a.v
  have h1 := bi_bd a.m
  have h2 := bi_bd b.v
  have h3 := bi_bd b.m
  go_enter Try.func29, Try.ntmps29
  go_wp2
  go_returns
  refine ⟨rt_t ?_ ?_, by go_grown⟩
  · simp only [bi_andNot, bi_or, bi_xor, bi_and, biw_add, biw_sub, biw_mul]; rfl
  · simp only [bi_andNot, bi_or, bi_xor, bi_and, biw_add, biw_sub, biw_mul]; rfl
theorem refand_any (a b : T) (w : World) :
    Calls Try.prog 33 #[.agg #[.int .u64 (bi a.v), .int .u64 (bi a.m)], .agg #[.int .u64 (bi b.v), .int .u64 (bi b.m)]] w fun e w' => e = .returned (.agg #[.int .u64 (bi (andT a b).v), .int .u64 (bi (andT a b).m)]) ∧ Below w.heap.size w w' := by
  have h0 := bi_bd a.v
  have h1 := bi_bd a.m
  have h2 := bi_bd b.v
  have h3 := bi_bd b.m
  go_enter Try.func33, Try.ntmps33
  go_wp2
  go_returns
  refine ⟨rt_t ?_ ?_, by go_grown⟩
  · simp only [bi_andNot, bi_or, bi_xor, bi_and, biw_add, biw_sub, biw_mul]; rfl
  · simp only [bi_andNot, bi_or, bi_xor, bi_and, biw_add, biw_sub, biw_mul]; rfl
theorem refor_any (a b : T) (w : World) :
    Calls Try.prog 35 #[.agg #[.int .u64 (bi a.v), .int .u64 (bi a.m)], .agg #[.int .u64 (bi b.v), .int .u64 (bi b.m)]] w fun e w' => e = .returned (.agg #[.int .u64 (bi (orT a b).v), .int .u64 (bi (orT a b).m)]) ∧ Below w.heap.size w w' := by
  have h0 := bi_bd a.v
  have h1 := bi_bd a.m
  have h2 := bi_bd b.v
  have h3 := bi_bd b.m
  go_enter Try.func35, Try.ntmps35
  go_wp2
  go_returns
  refine ⟨rt_t ?_ ?_, by go_grown⟩
  · simp only [bi_andNot, bi_or, bi_xor, bi_and, biw_add, biw_sub, biw_mul]; rfl
  · simp only [bi_andNot, bi_or, bi_xor, bi_and, biw_add, biw_sub, biw_mul]; rfl
theorem refxor_any (a b : T) (w : World) :
    Calls Try.prog 37 #[.agg #[.int .u64 (bi a.v), .int .u64 (bi a.m)], .agg #[.int .u64 (bi b.v), .int .u64 (bi b.m)]] w fun e w' => e = .returned (.agg #[.int .u64 (bi (xorT a b).v), .int .u64 (bi (xorT a b).m)]) ∧ Below w.heap.size w w' := by
  have h0 := bi_bd a.v
  have h1 := bi_bd a.m
  have h2 := bi_bd b.v
  have h3 := bi_bd b.m
  go_enter Try.func37, Try.ntmps37
  go_wp2
  go_returns
  refine ⟨rt_t ?_ ?_, by go_grown⟩
  · simp only [bi_andNot, bi_or, bi_xor, bi_and, biw_add, biw_sub, biw_mul]; rfl
  · simp only [bi_andNot, bi_or, bi_xor, bi_and, biw_add, biw_sub, biw_mul]; rfl
theorem refof_any (v : BitVec 64) (w : World) :
    Calls Try.prog 16 #[.int .u64 (bi v)] w fun e w' => e = .returned (.agg #[.int .u64 (bi (ofT v).v), .int .u64 (bi (ofT v).m)]) ∧ Below w.heap.size w w' := by
  have h0 := bi_bd v
  go_enter Try.func16, Try.ntmps16
  go_wp2
  go_returns
  exact ⟨rt_t rfl rfl, by go_grown⟩
theorem refany_any (w : World) :
    Calls Try.prog 18 #[] w fun e w' => e = .returned (.agg #[.int .u64 (bi anyT.v), .int .u64 (bi anyT.m)]) ∧ Below w.heap.size w w' := by
  go_enter Try.func18, Try.ntmps18
  go_wp2
  go_returns
  exact ⟨rt_t rfl bi_ones.symm, by go_grown⟩
theorem count_any (n : Int) (p : Int) (k : Nat) (hp : p = 64 ∨ p = 32) (hk : n % p = (k : Int)) (h : -9223372036854775808 ≤ n ∧ n ≤ 9223372036854775807) (w : World) :
    Calls Try.prog 54 #[.int .i64 n, .int .i64 p] w fun e w' => e = .returned (.int .u64 (k : Int)) ∧ w' = w := by
  have hp0 : (p == 0) = false := by rcases hp with rfl | rfl <;> rfl
  have hp1 : 0 < p := by rcases hp with rfl | rfl <;> decide
  have t1 : n.tmod p = if 0 ≤ n ∨ n % p = 0 then (k : Int) else (k : Int) - p := by
    rcases hp with rfl | rfl
    all_goals
      rw [Int.tmod_eq_emod]
      split <;> split <;> simp <;> omega
  have T := Lib.hid t1
  have t2 : -p < n.tmod p ∧ n.tmod p < p := by rcases hp with rfl | rfl <;> omega
  have hp2 : p ≤ 64 := by omega
  have hkp := Lib.hid (show (k : Int) < p by rw [← hk]; exact Int.emod_lt_of_pos _ hp1)
  clear t1 hk hp
  go_enter Try.func54, Try.ntmps54
  go_wp2
  · go_returns
    exact ⟨rt_i (by have := T.out; have := hkp.out; split at * <;> omega), rfl⟩
  · go_returns
    exact ⟨rt_i (by have := T.out; have := hkp.out; split at * <;> omega), rfl⟩
theorem refcut_any (a : T) (n : Int) (h : -9223372036854775808 ≤ n ∧ n ≤ 9223372036854775807) (w : World) :
    Calls Try.prog 45 #[.agg #[.int .u64 (bi a.v), .int .u64 (bi a.m)], .int .i64 n] w fun e w' => e = .returned (.agg #[.int .u64 (bi (cutN a n).v), .int .u64 (bi (cutN a n).m)]) ∧ Below w.heap.size w w' := by
  have h0 := bi_bd a.v
  have h1 := bi_bd a.m
  go_enter Try.func45, Try.ntmps45
  go_wp2
  all_goals go_returns
  all_goals unfold cutN
  · rename_i g1
    rw [if_pos g1]
    exact ⟨rfl, by go_grown⟩
  · rename_i g1 _ _ g2
    rw [if_neg (by omega), if_pos g2]
    exact ⟨rfl, by go_grown⟩
  · rename_i g1 g2
    rw [if_neg (by omega), if_neg (by omega)]
    refine ⟨rt_t ?_ ?_, by go_grown⟩
    · rw [mask_eq n g2 g1, bi_and]; rfl
    · rw [mask_eq n g2 g1, bi_and]; rfl
end Go.Proofs.Ytjjiancacokaiaa
