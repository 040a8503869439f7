/-
  What the document's answer of layer 1 computes: quotient, shifts down, numbers bit by bit, orders: contracts of its functions. Conditions: the numbers are of 64 bits (of so many bits as are named); a divisor is not 0.
-/
import Derived.Test.YtopgjjcljapjoaaWordRefA
import Derived.Test.YtopgjjcljapjoaaWordMath4
namespace Go.Proofs.Ytopgjjcljapjoaa
open Go.RowKit Wd
set_option linter.unusedVariables false

theorem over_bit (R : Int) (h0 : 0 ≤ R) (h1 : R ≤ 18446744073709551615) : bitV R 63 = if 9223372036854775808 ≤ R then 1 else 0 := by
  unfold bitV; have : (2 : Int) ^ 63 = 9223372036854775808 := by decide
  rw [this]; split <;> omega
theorem div_wrapped (R t b : Int) (h0 : 9223372036854775808 ≤ R) (h1 : R < b) (hb : b ≤ 18446744073709551615) (ht : 0 ≤ t) (ht1 : t ≤ 1) :
    addV (IntKind.u64.wrap (IntKind.u64.wrap (R * 2) + t)) (notV b) 1 = 2 * R + t - b := by
  rw [IntKind.wrap_u64, IntKind.wrap_u64]; unfold addV notV; omega
theorem div_plain (R t b : Int) (h0 : 0 ≤ R) (hR : R ≤ 9223372036854775807) (hb1 : 1 ≤ b) (hb : b ≤ 18446744073709551615) (h : b ≤ 2 * R + t) (hlt : R < b) (ht : 0 ≤ t) (ht1 : t ≤ 1) :
    addV (R * 2 + t) (notV b) 1 = 2 * R + t - b := by
  unfold addV notV; omega

set_option maxHeartbeats 800000 in
theorem divide_any (a b : Int) (h1 : 0 ≤ a) (h2 : a ≤ 18446744073709551615) (h3 : 1 ≤ b) (h4 : b ≤ 18446744073709551615) (w : World) :
    Calls Try.prog 28 #[.int .u64 a, .int .u64 b] w fun e w' => e = .returned (.tuple #[.int .u64 (a / b), .int .u64 (a % b)]) ∧ w = w' := by
  go_enter Try.func28, Try.ntmps28
  go_wp2
  go_loop [6, 7, 8] (fun q r i => ∃ k : Nat, ∃ m : Int, k ≤ 64 ∧ m = (k : Int) - 1 ∧ i = .int .i64 m ∧ q = .int .u64 (quoO a b k) ∧ r = .int .u64 (remO a b k)) (fun _ _ i => (intOf i + 1).toNat)
  case atStart => exact ⟨64, 63, by omega, by omega, rfl, by rw [(div_start a b h1 h2).2], by rw [(div_start a b h1 h2).1]⟩
  case round =>
    obtain ⟨k, m, hk, hm, rfl, rfl, rfl⟩ := hrel
    have hQ := quoO_bd a b k h1 h3
    have hR := remO_bd a b k h3
    rcases k with _ | j
    · have HE := Lib.hid (div_end a b)
      obtain rfl : m = -1 := by omega
      clear hm
      go_wp2
      go_ret2
      exact ⟨ret_ii HE.out.2 HE.out.1, rfl⟩
    · obtain rfl : m = (j : Int) := by omega
      clear hm
      have hA := bitV_bd a j
      have HO := Lib.hid (over_bit (remO a b (j + 1)) hR.1 (by omega))
      have HM := Lib.hid (or_put_low (quoO a b (j + 1)) j (by omega) (a / 2 ^ (j + 1) / b) (Int.ediv_nonneg (Int.ediv_nonneg h1 (Int.le_of_lt (two_pow_pos _))) (by omega)) rfl (by omega))
      have hp63 := pow_lt63 j (by omega)
      have hp0 := two_pow_pos j
      by_cases hov : 9223372036854775808 ≤ remO a b (j + 1)
      · have HS := Lib.hid (div_step_yes a b j h3 (by omega))
        have HW := Lib.hid (div_wrapped (remO a b (j + 1)) (bitV a j) b hov hR.2 h4 hA.1 hA.2)
        have hb1 : (bitV (remO a b (j + 1)) 63 == 1) = true := by rw [HO.out, if_pos hov]; rfl
        go_wp2_with (first | (go_at_call 31; refine (bit_any _ _ (by omega) (by omega) (by omega) (by omega) _).mono ?_; rintro e w' ⟨rfl, rfl⟩) | (go_at_call 26; refine (not_any _ (by omega) (by omega) _).mono ?_; rintro e w' ⟨rfl, rfl⟩) | (go_at_call 25; refine (add_any _ _ _ (wrap_lo _) (wrap_hi _) (by unfold notV; omega) (by unfold notV; omega) (by omega) (by omega) _).mono ?_; rintro e w' ⟨rfl, rfl⟩))
        go_round
        case rel => exact ⟨j, (j : Int) - 1, by omega, rfl, rfl, by rw [HS.out.2]; rw [← HM.out], by rw [HS.out.1, ← HW.out]⟩
        case measure => simp [intOf]
      · have hb1 : (bitV (remO a b (j + 1)) 63 == 1) = false := by rw [HO.out, if_neg hov]; rfl
        by_cases hge : b ≤ 2 * remO a b (j + 1) + bitV a j
        · have HS := Lib.hid (div_step_yes a b j h3 (by omega))
          have HW := Lib.hid (div_plain (remO a b (j + 1)) (bitV a j) b (by omega) (by omega) h3 h4 hge hR.2 hA.1 hA.2)
          go_wp2_with (first | (go_at_call 31; refine (bit_any _ _ (by omega) (by omega) (by omega) (by omega) _).mono ?_; rintro e w' ⟨rfl, rfl⟩) | (go_at_call 26; refine (not_any _ (by omega) (by omega) _).mono ?_; rintro e w' ⟨rfl, rfl⟩) | (go_at_call 25; refine (add_any _ _ _ (by omega) (by omega) (by unfold notV; omega) (by unfold notV; omega) (by omega) (by omega) _).mono ?_; rintro e w' ⟨rfl, rfl⟩))
          go_round
          case rel => exact ⟨j, (j : Int) - 1, by omega, rfl, rfl, by rw [HS.out.2]; rw [← HM.out], by rw [HS.out.1, ← HW.out]⟩
          case measure => simp [intOf]
        · have HS := Lib.hid (div_step_no a b j h3 hge)
          go_wp2_with (first | (go_at_call 31; refine (bit_any _ _ (by omega) (by omega) (by omega) (by omega) _).mono ?_; rintro e w' ⟨rfl, rfl⟩))
          go_round
          case rel => exact ⟨j, (j : Int) - 1, by omega, rfl, rfl, by rw [HS.out.2], by rw [HS.out.1, Int.mul_comm]⟩
          case measure => simp [intOf]

set_option maxHeartbeats 400000 in
theorem down_nat (a : Int) (n W : Nat) (inn : Int) (h1 : 0 ≤ a) (h2 : a ≤ 18446744073709551615) (h3 : n ≤ 63) (h4 : W ≤ 64) (h5 : 0 ≤ inn) (h6 : inn ≤ 1) (w : World) :
    Calls Try.prog 30 #[.int .u64 a, .int .i64 n, .int .i64 W, .int .u64 inn] w fun e w' => e = .returned (.int .u64 (downO a n W inn W)) ∧ w = w' := by
  go_enter Try.func30, Try.ntmps30
  go_wp2
  go_loop [9, 10] (fun o i => ∃ k : Nat, k ≤ W ∧ i = .int .i64 k ∧ o = .int .u64 (downO a n W inn k)) (fun _ i => W - (intOf i).toNat)
  case atStart => exact ⟨0, Nat.zero_le _, rfl, rfl⟩
  case round =>
    obtain ⟨k, hk, rfl, rfl⟩ := hrel
    have hO := downO_le a n W inn k (by omega) h5 h6
    by_cases hlt : k < W
    · have HP := Lib.hid (or_put (downO a n W inn k) (downX a n W inn k) k (by omega) hO.1 (downO_bd a n W inn k h5 h6).2 (downX_bd a n W inn k h5 h6).1 (downX_bd a n W inn k h5 h6).2)
      by_cases hin : k + n < W
      · have HX := Lib.hid (show downX a n W inn k = bitV a (k + n) from if_pos hin)
        have hA := bitV_bd a (k + n)
        go_wp2_with (go_at_call 31; refine (bit_any _ _ (by omega) (by omega) (by omega) (by omega) _).mono ?_; rintro e w' ⟨rfl, rfl⟩)
        go_round
        case rel => exact ⟨k + 1, by omega, by go_num, by rw [show downO a n W inn (k + 1) = downO a n W inn k + downX a n W inn k * 2 ^ k from rfl, ← HP.out, HX.out]⟩
        case measure => simp [intOf]; omega
      · have HX := Lib.hid (show downX a n W inn k = inn from if_neg hin)
        go_wp2
        go_round
        case rel => exact ⟨k + 1, by omega, by go_num, by rw [show downO a n W inn (k + 1) = downO a n W inn k + downX a n W inn k * 2 ^ k from rfl, ← HP.out, HX.out]⟩
        case measure => simp [intOf]; omega
    · obtain rfl : k = W := by omega
      go_wp2
      go_ret
      exact ⟨rfl, rfl⟩
theorem down_any (a n W inn : Int) (h1 : 0 ≤ a) (h2 : a ≤ 18446744073709551615) (h3 : 0 ≤ n) (h3' : n ≤ 63) (h4 : 0 ≤ W) (h4' : W ≤ 64) (h5 : 0 ≤ inn) (h6 : inn ≤ 1) (w : World) :
    Calls Try.prog 30 #[.int .u64 a, .int .i64 n, .int .i64 W, .int .u64 inn] w fun e w' => e = .returned (.int .u64 (downV a n W inn)) ∧ w = w' := by
  obtain ⟨N, rfl⟩ := Int.eq_ofNat_of_zero_le h3
  obtain ⟨M, rfl⟩ := Int.eq_ofNat_of_zero_le h4
  exact down_nat a N M inn h1 h2 (by omega) (by omega) h5 h6 w

set_option maxHeartbeats 400000 in
theorem bits_or (a b : Int) (h1 : 0 ≤ a) (h2 : a ≤ 18446744073709551615) (h3 : 0 ≤ b) (h4 : b ≤ 18446744073709551615) (w : World) :
    Calls Try.prog 29 #[.int .i64 4, .int .u64 a, .int .u64 b] w fun e w' => e = .returned (.int .u64 (orV a b)) ∧ w = w' := by
  go_enter Try.func29, Try.ntmps29
  go_wp2
  go_loop [7, 8] (fun o i => ∃ k : Nat, k ≤ 64 ∧ i = .int .i64 k ∧ o = .int .u64 (lowO (orV a b) k)) (fun _ i => 64 - (intOf i).toNat)
  case atStart => exact ⟨0, Nat.zero_le _, rfl, by simp [lowO, Int.emod_one]⟩
  case round =>
    obtain ⟨k, hk, rfl, rfl⟩ := hrel
    have hO := lowO_le (orV a b) k hk
    have hA := bitV_bd a k
    have hB := bitV_bd b k
    by_cases hlt : k < 64
    · have HB := Lib.hid (bitV_orV a b k h1 h3)
      have hp63 := pow_lt63 k (by omega)
      have hp0 := two_pow_pos k
      by_cases hc : 0 < bitV a k + bitV b k
      · have HS := Lib.hid (lowO_yes (orV a b) k (by omega) (by rw [HB.out, if_pos hc]))
        go_wp2_with (go_at_call 31; refine (bit_any _ _ (by omega) (by omega) (by omega) (by omega) _).mono ?_; rintro e w' ⟨rfl, rfl⟩)
        go_round
        case rel => exact ⟨k + 1, by omega, by go_num, by rw [← HS.out]⟩
        case measure => simp [intOf]; omega
      · have HS := Lib.hid (lowO_no (orV a b) k (by rw [HB.out, if_neg hc]))
        go_wp2_with (go_at_call 31; refine (bit_any _ _ (by omega) (by omega) (by omega) (by omega) _).mono ?_; rintro e w' ⟨rfl, rfl⟩)
        go_round
        case rel => exact ⟨k + 1, by omega, by go_num, by rw [← HS.out]⟩
        case measure => simp [intOf]; omega
    · obtain rfl : k = 64 := by omega
      have HA := Lib.hid (lowO_all (orV a b) (orV_bd a b 64 h1 h3 (by rw [pow64]; omega) (by rw [pow64]; omega)).1 (orV_bd a b 64 h1 h3 (by rw [pow64]; omega) (by rw [pow64]; omega)).2)
      go_wp2
      go_ret
      exact ⟨ret_i HA.out, rfl⟩

set_option maxHeartbeats 400000 in
theorem bits_and (a b : Int) (h1 : 0 ≤ a) (h2 : a ≤ 18446744073709551615) (h3 : 0 ≤ b) (h4 : b ≤ 18446744073709551615) (w : World) :
    Calls Try.prog 29 #[.int .i64 5, .int .u64 a, .int .u64 b] w fun e w' => e = .returned (.int .u64 (andV a b)) ∧ w = w' := by
  go_enter Try.func29, Try.ntmps29
  go_wp2
  go_loop [7, 8] (fun o i => ∃ k : Nat, k ≤ 64 ∧ i = .int .i64 k ∧ o = .int .u64 (lowO (andV a b) k)) (fun _ i => 64 - (intOf i).toNat)
  case atStart => exact ⟨0, Nat.zero_le _, rfl, by simp [lowO, Int.emod_one]⟩
  case round =>
    obtain ⟨k, hk, rfl, rfl⟩ := hrel
    have hO := lowO_le (andV a b) k hk
    have hA := bitV_bd a k
    have hB := bitV_bd b k
    by_cases hlt : k < 64
    · have HB := Lib.hid (bitV_andV a b k h1 h3)
      have hp63 := pow_lt63 k (by omega)
      have hp0 := two_pow_pos k
      by_cases hc : bitV a k + bitV b k = 2
      · have HS := Lib.hid (lowO_yes (andV a b) k (by omega) (by rw [HB.out, if_pos hc]))
        have hcb : (bitV a k + bitV b k == 2) = true := by simp [hc]
        clear hc
        go_wp2_with (go_at_call 31; refine (bit_any _ _ (by omega) (by omega) (by omega) (by omega) _).mono ?_; rintro e w' ⟨rfl, rfl⟩)
        go_round
        case rel => exact ⟨k + 1, by omega, by go_num, by rw [← HS.out]⟩
        case measure => simp [intOf]; omega
      · have HS := Lib.hid (lowO_no (andV a b) k (by rw [HB.out, if_neg hc]))
        have hcb : (bitV a k + bitV b k == 2) = false := by simp [hc]
        clear hc
        go_wp2_with (go_at_call 31; refine (bit_any _ _ (by omega) (by omega) (by omega) (by omega) _).mono ?_; rintro e w' ⟨rfl, rfl⟩)
        go_round
        case rel => exact ⟨k + 1, by omega, by go_num, by rw [← HS.out]⟩
        case measure => simp [intOf]; omega
    · obtain rfl : k = 64 := by omega
      have HA := Lib.hid (lowO_all (andV a b) (andV_bd a b 64 h3 (by rw [pow64]; omega)).1 (andV_bd a b 64 h3 (by rw [pow64]; omega)).2)
      go_wp2
      go_ret
      exact ⟨ret_i HA.out, rfl⟩

set_option maxHeartbeats 400000 in
theorem bits_xor (a b : Int) (h1 : 0 ≤ a) (h2 : a ≤ 18446744073709551615) (h3 : 0 ≤ b) (h4 : b ≤ 18446744073709551615) (w : World) :
    Calls Try.prog 29 #[.int .i64 10, .int .u64 a, .int .u64 b] w fun e w' => e = .returned (.int .u64 (xorV a b)) ∧ w = w' := by
  go_enter Try.func29, Try.ntmps29
  go_wp2
  go_loop [7, 8] (fun o i => ∃ k : Nat, k ≤ 64 ∧ i = .int .i64 k ∧ o = .int .u64 (lowO (xorV a b) k)) (fun _ i => 64 - (intOf i).toNat)
  case atStart => exact ⟨0, Nat.zero_le _, rfl, by simp [lowO, Int.emod_one]⟩
  case round =>
    obtain ⟨k, hk, rfl, rfl⟩ := hrel
    have hO := lowO_le (xorV a b) k hk
    have hA := bitV_bd a k
    have hB := bitV_bd b k
    by_cases hlt : k < 64
    · have HB := Lib.hid (bitV_xorV a b k h1 h3)
      have hp63 := pow_lt63 k (by omega)
      have hp0 := two_pow_pos k
      by_cases hc : bitV a k + bitV b k = 1
      · have HS := Lib.hid (lowO_yes (xorV a b) k (by omega) (by rw [HB.out, if_pos hc]))
        have hcb : (bitV a k + bitV b k == 1) = true := by simp [hc]
        clear hc
        go_wp2_with (go_at_call 31; refine (bit_any _ _ (by omega) (by omega) (by omega) (by omega) _).mono ?_; rintro e w' ⟨rfl, rfl⟩)
        go_round
        case rel => exact ⟨k + 1, by omega, by go_num, by rw [← HS.out]⟩
        case measure => simp [intOf]; omega
      · have HS := Lib.hid (lowO_no (xorV a b) k (by rw [HB.out, if_neg hc]))
        have hcb : (bitV a k + bitV b k == 1) = false := by simp [hc]
        clear hc
        go_wp2_with (go_at_call 31; refine (bit_any _ _ (by omega) (by omega) (by omega) (by omega) _).mono ?_; rintro e w' ⟨rfl, rfl⟩)
        go_round
        case rel => exact ⟨k + 1, by omega, by go_num, by rw [← HS.out]⟩
        case measure => simp [intOf]; omega
    · obtain rfl : k = 64 := by omega
      have HA := Lib.hid (lowO_all (xorV a b) (xorV_bd a b 64 h1 h3 (by rw [pow64]; omega) (by rw [pow64]; omega)).1 (xorV_bd a b 64 h1 h3 (by rw [pow64]; omega) (by rw [pow64]; omega)).2)
      go_wp2
      go_ret
      exact ⟨ret_i HA.out, rfl⟩

theorem bitV_01 (a : Int) (k : Nat) (h : ¬ bitV a k = 1) : bitV a k = 0 := by have := bitV_bd a k; omega
theorem ord_eq (a b : Int) (h : a / 2 ^ 0 = b / 2 ^ 0) : ordV a b = 0 := by
  have : a = b := by simpa using h
  unfold ordV; rw [this]; simp
theorem ord_gt (a b : Int) (h : b < a) : ordV a b = 1 := by unfold ordV; rw [if_neg (by omega), if_neg (by omega)]
theorem ord_lt (a b : Int) (h : a < b) : ordV a b = -1 := by unfold ordV; rw [if_pos h]

set_option maxHeartbeats 400000 in
theorem order_plain (a b : Int) (W : Nat) (h1 : 0 ≤ a) (h2 : a ≤ 18446744073709551615) (h3 : 0 ≤ b) (h4 : b ≤ 18446744073709551615) (h5 : W ≤ 64) (ha : a < 2 ^ W) (hb : b < 2 ^ W) (w : World) :
    Calls Try.prog 36 #[.int .u64 a, .int .u64 b, .int .i64 W, .bool false] w fun e w' => e = .returned (.int .i64 (ordV a b)) ∧ w = w' := by
  have H0 := Lib.hid (show a / 2 ^ W = b / 2 ^ W by rw [Int.ediv_eq_zero_of_lt h1 ha, Int.ediv_eq_zero_of_lt h3 hb])
  clear ha hb
  go_enter Try.func36, Try.ntmps36
  go_wp2
  go_loop [9] (fun i => ∃ k : Nat, ∃ m : Int, k ≤ W ∧ m = (k : Int) - 1 ∧ i = .int .i64 m ∧ a / 2 ^ k = b / 2 ^ k) (fun i => (intOf i + 1).toNat)
  case atStart => exact ⟨W, (W : Int) - 1, by omega, rfl, rfl, H0.out⟩
  case round =>
    obtain ⟨k, m, hk, hm, rfl, hq⟩ := hrel
    have HQ := Lib.hid hq
    clear hq
    rcases k with _ | j
    · obtain rfl : m = -1 := by omega
      clear hm
      go_wp2
      go_ret
      exact ⟨ret_i (ord_eq a b HQ.out).symm, rfl⟩
    · obtain rfl : m = (j : Int) := by omega
      clear hm
      have hA := bitV_bd a j
      have hB := bitV_bd b j
      by_cases hs : bitV a j = bitV b j
      · have HS := Lib.hid (ord_same a b j HQ.out hs)
        have he : (bitV a j == bitV b j) = true := by simp [hs]
        clear hs
        go_wp2_with (go_at_call 31; refine (bit_any _ _ (by omega) (by omega) (by omega) (by omega) _).mono ?_; rintro e w' ⟨rfl, rfl⟩)
        go_round
        case rel => exact ⟨j, (j : Int) - 1, by omega, rfl, rfl, HS.out⟩
        case measure => simp [intOf]
      · have he : (bitV a j == bitV b j) = false := by simp [hs]
        by_cases hgt : bitV b j < bitV a j
        · have HG := Lib.hid (ord_gt a b (ord_bits a b j HQ.out hgt))
          clear hs
          go_wp2_with (go_at_call 31; refine (bit_any _ _ (by omega) (by omega) (by omega) (by omega) _).mono ?_; rintro e w' ⟨rfl, rfl⟩)
          go_ret
          exact ⟨ret_i HG.out.symm, rfl⟩
        · have HG := Lib.hid (ord_lt a b (ord_bits b a j HQ.out.symm (by omega)))
          clear hs
          go_wp2_with (go_at_call 31; refine (bit_any _ _ (by omega) (by omega) (by omega) (by omega) _).mono ?_; rintro e w' ⟨rfl, rfl⟩)
          go_ret
          exact ⟨ret_i HG.out.symm, rfl⟩

set_option maxHeartbeats 400000 in
theorem order_sign (a b : Int) (W : Nat) (h1 : 0 ≤ a) (h2 : a ≤ 18446744073709551615) (h3 : 0 ≤ b) (h4 : b ≤ 18446744073709551615) (h5 : W ≤ 64) (h6 : 1 ≤ W) (ha : a < 2 ^ W) (hb : b < 2 ^ W) (w : World) :
    Calls Try.prog 36 #[.int .u64 a, .int .u64 b, .int .i64 W, .bool true] w fun e w' => e = .returned (.int .i64 (ordV (sgnW W a) (sgnW W b))) ∧ w = w' := by
  have H0 := Lib.hid (show a / 2 ^ W = b / 2 ^ W by rw [Int.ediv_eq_zero_of_lt h1 ha, Int.ediv_eq_zero_of_lt h3 hb])
  have HA := Lib.hid ha
  have HB := Lib.hid hb
  clear ha hb
  go_enter Try.func36, Try.ntmps36
  go_wp2
  go_loop [9] (fun i => ∃ k : Nat, ∃ m : Int, k ≤ W ∧ m = (k : Int) - 1 ∧ i = .int .i64 m ∧ a / 2 ^ k = b / 2 ^ k) (fun i => (intOf i + 1).toNat)
  case atStart => exact ⟨W, (W : Int) - 1, by omega, rfl, rfl, H0.out⟩
  case round =>
    obtain ⟨k, m, hk, hm, rfl, hq⟩ := hrel
    have HQ := Lib.hid hq
    clear hq
    rcases k with _ | j
    · obtain rfl : m = -1 := by omega
      clear hm
      have HE := Lib.hid (show ordV (sgnW W a) (sgnW W b) = 0 by
        have : a = b := by simpa using HQ.out
        rw [this]; exact ord_eq _ _ rfl)
      go_wp2
      go_ret
      exact ⟨ret_i HE.out.symm, rfl⟩
    · obtain rfl : m = (j : Int) := by omega
      clear hm
      have hA := bitV_bd a j
      have hB := bitV_bd b j
      by_cases hs : bitV a j = bitV b j
      · have HS := Lib.hid (ord_same a b j HQ.out hs)
        have he : (bitV a j == bitV b j) = true := by simp [hs]
        clear hs
        go_wp2_with (go_at_call 31; refine (bit_any _ _ (by omega) (by omega) (by omega) (by omega) _).mono ?_; rintro e w' ⟨rfl, rfl⟩)
        go_round
        case rel => exact ⟨j, (j : Int) - 1, by omega, rfl, rfl, HS.out⟩
        case measure => simp [intOf]
      · have he : (bitV a j == bitV b j) = false := by simp [hs]
        by_cases htop : j + 1 = W
        · have ht : ((j : Int) == (W : Int) - 1) = true := by simp; omega
          by_cases hgt : bitV b j < bitV a j
          · have HG := Lib.hid (show ordV (sgnW W a) (sgnW W b) = -1 from ord_lt _ _ (by
              have e1 : bitV a (W - 1) = 1 := by rw [show W - 1 = j by omega]; omega
              have e2 : bitV b (W - 1) = 0 := by rw [show W - 1 = j by omega]; omega
              have := HA.out
              unfold sgnW; rw [e1, e2]; omega))
            clear hs htop
            go_wp2_with (go_at_call 31; refine (bit_any _ _ (by omega) (by omega) (by omega) (by omega) _).mono ?_; rintro e w' ⟨rfl, rfl⟩)
            go_ret
            exact ⟨ret_i HG.out.symm, rfl⟩
          · have HG := Lib.hid (show ordV (sgnW W a) (sgnW W b) = 1 from ord_gt _ _ (by
              have e1 : bitV a (W - 1) = 0 := by rw [show W - 1 = j by omega]; omega
              have e2 : bitV b (W - 1) = 1 := by rw [show W - 1 = j by omega]; omega
              have := HB.out
              unfold sgnW; rw [e1, e2]; omega))
            have hnd : decide (bitV b j < bitV a j) = false := by simp; omega
            clear hs htop hgt
            go_wp2_with (go_at_call 31; refine (bit_any _ _ (by omega) (by omega) (by omega) (by omega) _).mono ?_; rintro e w' ⟨rfl, rfl⟩)
            go_ret
            exact ⟨ret_i HG.out.symm, rfl⟩
        · have ht : ((j : Int) == (W : Int) - 1) = false := by simp; omega
          have HT := Lib.hid (bit_same a b (j + 1) (W - 1) (by omega) HQ.out)
          by_cases hgt : bitV b j < bitV a j
          · have HG := Lib.hid (show ordV (sgnW W a) (sgnW W b) = 1 from ord_gt _ _ (by
              have := ord_bits a b j HQ.out hgt
              unfold sgnW; rw [HT.out]; omega))
            clear hs htop
            go_wp2_with (go_at_call 31; refine (bit_any _ _ (by omega) (by omega) (by omega) (by omega) _).mono ?_; rintro e w' ⟨rfl, rfl⟩)
            go_ret
            exact ⟨ret_i HG.out.symm, rfl⟩
          · have HG := Lib.hid (show ordV (sgnW W a) (sgnW W b) = -1 from ord_lt _ _ (by
              have := ord_bits b a j HQ.out.symm (by omega)
              unfold sgnW; rw [HT.out]; omega))
            clear hs htop
            go_wp2_with (go_at_call 31; refine (bit_any _ _ (by omega) (by omega) (by omega) (by omega) _).mono ?_; rintro e w' ⟨rfl, rfl⟩)
            go_ret
            exact ⟨ret_i HG.out.symm, rfl⟩
end Go.Proofs.Ytopgjjcljapjoaa
