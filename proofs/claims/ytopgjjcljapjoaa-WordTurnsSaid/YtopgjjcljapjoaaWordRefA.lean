/-
  What the document's answer of layer 1 computes bit by bit (bit, the lowest bits, sum, all bits turned, product, quotient): contracts of its functions. Conditions: the numbers are of 64 bits; places from 0 to 63; a divisor is not 0.
-/
import Derived.Test.YtopgjjcljapjoaaRows
import Derived.Test.YtopgjjcljapjoaaWordMath2
import Derived.WalkKit
import Derived.WalkSpells
import Derived.WalkLawsBesides
import Derived.Lib.Hide
namespace Go.Proofs.Ytopgjjcljapjoaa
open Go.RowKit Wd
set_option linter.unusedVariables false

theorem ret_i {k : IntKind} {a b : Int} (h : a = b) : Ending.returned (.int k a) = .returned (.int k b) := by rw [h]
theorem ret_ib {k : IntKind} {a b : Int} {c d : Bool} (h : a = b) (g : c = d) : Ending.returned (.tuple #[.int k a, .bool c]) = .returned (.tuple #[.int k b, .bool d]) := by rw [h, g]
theorem ret_bb {a b c d : Bool} (h : a = b) (g : c = d) : Ending.returned (.tuple #[.bool a, .bool c]) = .returned (.tuple #[.bool b, .bool d]) := by rw [h, g]
theorem ret_ii {k : IntKind} {a b c d : Int} (h : a = b) (g : c = d) : Ending.returned (.tuple #[.int k a, .int k c]) = .returned (.tuple #[.int k b, .int k d]) := by rw [h, g]

theorem bit_any (a i : Int) (h1 : 0 ≤ a) (h2 : a ≤ 18446744073709551615) (h3 : 0 ≤ i) (h4 : i ≤ 63) (w : World) :
    Calls Try.prog 31 #[.int .u64 a, .int .i64 i] w fun e w' => e = .returned (.int .u64 (bitV a i.toNat)) ∧ w = w' := by
  go_enter Try.func31, Try.ntmps31
  go_wp2
  go_ret
  exact ⟨ret_i (Int.tmod_eq_emod_of_nonneg (Int.ediv_nonneg h1 (Int.le_of_lt (two_pow_pos _)))), rfl⟩

set_option maxHeartbeats 400000 in
theorem add_any (a b c : Int) (h1 : 0 ≤ a) (h2 : a ≤ 18446744073709551615) (h3 : 0 ≤ b) (h4 : b ≤ 18446744073709551615) (h5 : 0 ≤ c) (h6 : c ≤ 1) (w : World) :
    Calls Try.prog 25 #[.int .u64 a, .int .u64 b, .int .u64 c] w fun e w' => e = .returned (.int .u64 (addV a b c)) ∧ w = w' := by
  go_enter Try.func25, Try.ntmps25
  go_wp2
  go_loop [2, 7, 8] (fun cc o i => ∃ k : Nat, k ≤ 64 ∧ i = .int .i64 k ∧ o = .int .u64 (addO a b c k) ∧ cc = .int .u64 (addC a b c k)) (fun _ _ i => 64 - (intOf i).toNat)
  case atStart => exact ⟨0, Nat.zero_le _, rfl, by rw [(Wd.add_zero a b c).1], by rw [(Wd.add_zero a b c).2]⟩
  case round =>
    obtain ⟨k, hk, rfl, rfl, rfl⟩ := hrel
    have hC := addC_bd a b c k h5 h6
    have hO := addO_le a b c k hk
    have hA := bitV_bd a k
    have hB := bitV_bd b k
    by_cases hlt : k < 64
    · have HS := Lib.hid (add_step a b c k)
      have HP := Lib.hid (or_put (addO a b c k) ((bitV a k + bitV b k + addC a b c k) % 2) k (by omega) hO.1 (addO_bd a b c k).2 (by omega) (by omega))
      go_wp2_with (go_at_call 31; refine (bit_any _ _ (by omega) (by omega) (by omega) (by omega) _).mono ?_; rintro e w' ⟨rfl, rfl⟩)
      go_round
      case rel => exact ⟨k + 1, by omega, by go_num, by rw [HS.out.1]; rw [← HP.out], by rw [HS.out.2]⟩
      case measure => simp [intOf]; omega
    · obtain rfl : k = 64 := by omega
      have HA := Lib.hid (add_all a b c h1 h2 h3 h4)
      go_wp2
      go_ret
      exact ⟨ret_i HA.out, rfl⟩

theorem wrap_lo (x : Int) : 0 ≤ IntKind.u64.wrap x := by rw [IntKind.wrap_u64]; omega
theorem wrap_hi (x : Int) : IntKind.u64.wrap x ≤ 18446744073709551615 := by rw [IntKind.wrap_u64]; omega

set_option maxHeartbeats 400000 in
theorem not_any (a : Int) (h1 : 0 ≤ a) (h2 : a ≤ 18446744073709551615) (w : World) :
    Calls Try.prog 26 #[.int .u64 a] w fun e w' => e = .returned (.int .u64 (notV a)) ∧ w = w' := by
  go_enter Try.func26, Try.ntmps26
  go_wp2
  go_loop [3, 4] (fun o i => ∃ k : Nat, k ≤ 64 ∧ i = .int .i64 k ∧ o = .int .u64 (notO a k)) (fun _ i => 64 - (intOf i).toNat)
  case atStart => exact ⟨0, Nat.zero_le _, rfl, by simp [notO, Int.emod_one]⟩
  case round =>
    obtain ⟨k, hk, rfl, rfl⟩ := hrel
    have hO := notO_le a k hk
    have hA := bitV_bd a k
    by_cases hlt : k < 64
    · have HS := Lib.hid (not_step a k)
      have HP := Lib.hid (or_put (notO a k) (1 - bitV a k) k (by omega) hO.1 (notO_bd a k).2 (by omega) (by omega))
      go_wp2_with (go_at_call 31; refine (bit_any _ _ (by omega) (by omega) (by omega) (by omega) _).mono ?_; rintro e w' ⟨rfl, rfl⟩)
      go_round
      case rel => exact ⟨k + 1, by omega, by go_num, by rw [HS.out]; rw [← HP.out]⟩
      case measure => simp [intOf]; omega
    · obtain rfl : k = 64 := by omega
      have HA := Lib.hid (not_all a h1 h2)
      go_wp2
      go_ret
      exact ⟨ret_i HA.out, rfl⟩

set_option maxHeartbeats 400000 in
theorem times_any (a b : Int) (h1 : 0 ≤ a) (h2 : a ≤ 18446744073709551615) (h3 : 0 ≤ b) (h4 : b ≤ 18446744073709551615) (w : World) :
    Calls Try.prog 27 #[.int .u64 a, .int .u64 b] w fun e w' => e = .returned (.int .u64 (mulO a b 64)) ∧ w = w' := by
  go_enter Try.func27, Try.ntmps27
  go_wp2
  go_loop [5, 6] (fun o i => ∃ k : Nat, k ≤ 64 ∧ i = .int .i64 k ∧ o = .int .u64 (mulO a b k)) (fun _ i => 64 - (intOf i).toNat)
  case atStart => exact ⟨0, Nat.zero_le _, rfl, by simp [mulO, Int.emod_one]⟩
  case round =>
    obtain ⟨k, hk, rfl, rfl⟩ := hrel
    have hO := mulO_bd a b k
    have hA := bitV_bd a k
    by_cases hlt : k < 64
    · by_cases hbit : bitV a k = 1
      · have HS := Lib.hid (mul_step a b k)
        have HB := Lib.hid hbit
        have hb1 : (bitV a k == 1) = true := by simp [hbit]
        clear hbit
        go_wp2_with (first | (go_at_call 31; refine (bit_any _ _ (by omega) (by omega) (by omega) (by omega) _).mono ?_; rintro e w' ⟨rfl, rfl⟩) | (go_at_call 25; refine (add_any _ _ _ (by omega) (by omega) (wrap_lo _) (wrap_hi _) (by omega) (by omega) _).mono ?_; rintro e w' ⟨rfl, rfl⟩))
        go_round
        case rel => exact ⟨k + 1, by omega, by go_num, by rw [HS.out, if_pos HB.out]⟩
        case measure => simp [intOf]; omega
      · have HS := Lib.hid (mul_step a b k)
        have HB := Lib.hid hbit
        have hb1 : (bitV a k == 1) = false := by simp [hbit]
        clear hbit
        go_wp2_with (go_at_call 31; refine (bit_any _ _ (by omega) (by omega) (by omega) (by omega) _).mono ?_; rintro e w' ⟨rfl, rfl⟩)
        go_round
        case rel => exact ⟨k + 1, by omega, by go_num, by rw [HS.out, if_neg HB.out]⟩
        case measure => simp [intOf]; omega
    · obtain rfl : k = 64 := by omega
      go_wp2
      go_ret
      exact ⟨rfl, rfl⟩
end Go.Proofs.Ytopgjjcljapjoaa
