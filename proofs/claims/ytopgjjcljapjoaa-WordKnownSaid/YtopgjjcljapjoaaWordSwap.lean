/-
  Byte order in layer 1: the program's Swap and the document's answer are swapV: contracts. Conditions: the numbers are of 64 bits.
-/
import Derived.Test.YtopgjjcljapjoaaWordRefA
import Derived.Test.YtopgjjcljapjoaaWordMath5
namespace Go.Proofs.Ytopgjjcljapjoaa
open Go.RowKit Wd
set_option linter.unusedVariables false

theorem byte_cast (v k : Nat) (i : Nat) (hi : i ≤ 56) : IntKind.u64.wrap (((v : Int) / 2 ^ (8 * k)).tmod 256 * 2 ^ i) = ((v / 2 ^ (8 * k) % 2 ^ 8 * 2 ^ i : Nat) : Int) := by
  have e1 : ((v : Int) / 2 ^ (8 * k)) = ((v / 2 ^ (8 * k) : Nat) : Int) := by push_cast; rfl
  rw [e1, Int.tmod_eq_emod_of_nonneg (Int.natCast_nonneg _)]
  have hp : (2 : Int) ^ i ≤ 2 ^ 56 := two_pow_le i 56 hi
  have hp0 := two_pow_pos i
  have e2 : ((v / 2 ^ (8 * k) : Nat) : Int) % 256 = ((v / 2 ^ (8 * k) % 2 ^ 8 : Nat) : Int) := by omega
  rw [e2]
  have hb : v / 2 ^ (8 * k) % 2 ^ 8 < 256 := by omega
  generalize v / 2 ^ (8 * k) % 2 ^ 8 = c at *
  have hm : (c : Int) * 2 ^ i ≤ 255 * 2 ^ 56 := Int.mul_le_mul (by omega) hp (by omega) (by omega)
  have hm0 : 0 ≤ (c : Int) * 2 ^ i := Int.mul_nonneg (by omega) (by omega)
  rw [IntWalk.u64_in _ ⟨hm0, by omega⟩]; push_cast; rfl
theorem rev_step (m v k : Nat) (hm : m ≤ 8) (hk : k < m) :
    bits .or .u64 ((revO m v k : Nat) : Int) (IntKind.u64.wrap (((v : Int) / 2 ^ (8 * k)).tmod 256 * 2 ^ (8 * (m - 1 - k)))) = ((revO m v (k + 1) : Nat) : Int) := by
  have hl := revO_lt m v k (by omega)
  have hp : 2 ^ (8 * m) ≤ 2 ^ 64 := Nat.pow_le_pow_right (by decide) (by omega)
  have hl2 := revO_lt m v (k + 1) (by omega)
  rw [byte_cast v k _ (by omega)]
  have h2 : v / 2 ^ (8 * k) % 2 ^ 8 * 2 ^ (8 * (m - 1 - k)) < 18446744073709551616 := by
    have e1 : v / 2 ^ (8 * k) % 2 ^ 8 < 2 ^ 8 := Nat.mod_lt _ (by decide)
    have e2 : 2 ^ (8 * (m - 1 - k)) ≤ 2 ^ 56 := Nat.pow_le_pow_right (by decide) (by omega)
    have := Nat.mul_lt_mul_of_lt_of_le e1 e2 (by decide)
    omega
  rw [u64_or_nat _ _ (by omega) h2]; rfl
def cutN (v k : Nat) : Nat := v % 2 ^ (8 * k)
theorem low_step (v k : Nat) (hk : k < 8) :
    bits .or .u64 ((cutN v k : Nat) : Int) (IntKind.u64.wrap (((v : Int) / 2 ^ (8 * k)).tmod 256 * 2 ^ (8 * k))) = ((cutN v (k + 1) : Nat) : Int) := by
  unfold cutN
  have hl : v % 2 ^ (8 * k) < 2 ^ (8 * k) := Nat.mod_lt _ (Nat.two_pow_pos _)
  have hp : 2 ^ (8 * k) ≤ 2 ^ 56 := Nat.pow_le_pow_right (by decide) (by omega)
  rw [byte_cast v k _ (by omega)]
  have h2 : v / 2 ^ (8 * k) % 2 ^ 8 * 2 ^ (8 * k) < 18446744073709551616 := by
    have e1 : v / 2 ^ (8 * k) % 2 ^ 8 < 2 ^ 8 := Nat.mod_lt _ (by decide)
    have := Nat.mul_lt_mul_of_lt_of_le e1 hp (by decide)
    omega
  rw [u64_or_nat _ _ (by omega) h2, Nat.or_comm, Nat.mul_comm, ← Nat.two_pow_add_eq_or_of_lt hl]
  have e : 8 * (k + 1) = 8 * k + 8 := by omega
  rw [e, Nat.pow_add, Nat.mod_mul, Nat.add_comm]

theorem lib16_any (a : Int) (h1 : 0 ≤ a) (h2 : a ≤ 65535) (w : World) :
    Calls Try.prog 39 #[.int .u16 a] w fun e w' => e = .returned (.int .u16 (revN 2 a.toNat : Nat)) ∧ w = w' := by
  have HR := Lib.hid (rb16 a h1 h2)
  go_enter Try.func39, Try.ntmps39
  go_wp2
  go_ret
  exact ⟨ret_i HR.out, rfl⟩
theorem lib32_any (a : Int) (h1 : 0 ≤ a) (h2 : a ≤ 4294967295) (w : World) :
    Calls Try.prog 40 #[.int .u32 a] w fun e w' => e = .returned (.int .u32 (revN 4 a.toNat : Nat)) ∧ w = w' := by
  have HR := Lib.hid (rb32 a h1 h2)
  go_enter Try.func40, Try.ntmps40
  go_wp2
  go_ret
  exact ⟨ret_i HR.out, rfl⟩
theorem lib64_any (a : Int) (h1 : 0 ≤ a) (h2 : a ≤ 18446744073709551615) (w : World) :
    Calls Try.prog 41 #[.int .u64 a] w fun e w' => e = .returned (.int .u64 (revN 8 a.toNat : Nat)) ∧ w = w' := by
  have HR := Lib.hid (rb64 a h1 h2 _ _ rfl rfl)
  go_enter Try.func41, Try.ntmps41
  go_wp2
  go_ret
  exact ⟨ret_i HR.out, rfl⟩
theorem order16_high (a : Int) (h1 : 0 ≤ a) (h2 : a ≤ 65535) (w : World) :
    Calls Try.prog 32 #[.int .u16 a, .bool true] w fun e w' => e = .returned (.int .u16 (revN 2 a.toNat : Nat)) ∧ w = w' := by
  go_enter Try.func32, Try.ntmps32
  go_wp2_with (go_at_call 39; refine (lib16_any _ h1 h2 _).mono ?_; rintro e w' ⟨rfl, rfl⟩)
  go_ret
  exact ⟨rfl, rfl⟩
theorem order16_low (a : Int) (w : World) :
    Calls Try.prog 32 #[.int .u16 a, .bool false] w fun e w' => e = .returned (.int .u16 a) ∧ w = w' := by
  go_enter Try.func32, Try.ntmps32
  go_wp2
  go_ret
  exact ⟨rfl, rfl⟩
theorem order32_high (a : Int) (h1 : 0 ≤ a) (h2 : a ≤ 4294967295) (w : World) :
    Calls Try.prog 33 #[.int .u32 a, .bool true] w fun e w' => e = .returned (.int .u32 (revN 4 a.toNat : Nat)) ∧ w = w' := by
  go_enter Try.func33, Try.ntmps33
  go_wp2_with (go_at_call 40; refine (lib32_any _ h1 h2 _).mono ?_; rintro e w' ⟨rfl, rfl⟩)
  go_ret
  exact ⟨rfl, rfl⟩
theorem order32_low (a : Int) (w : World) :
    Calls Try.prog 33 #[.int .u32 a, .bool false] w fun e w' => e = .returned (.int .u32 a) ∧ w = w' := by
  go_enter Try.func33, Try.ntmps33
  go_wp2
  go_ret
  exact ⟨rfl, rfl⟩
theorem order64_high (a : Int) (h1 : 0 ≤ a) (h2 : a ≤ 18446744073709551615) (w : World) :
    Calls Try.prog 34 #[.int .u64 a, .bool true] w fun e w' => e = .returned (.int .u64 (revN 8 a.toNat : Nat)) ∧ w = w' := by
  go_enter Try.func34, Try.ntmps34
  go_wp2_with (go_at_call 41; refine (lib64_any _ h1 h2 _).mono ?_; rintro e w' ⟨rfl, rfl⟩)
  go_ret
  exact ⟨rfl, rfl⟩
theorem order64_low (a : Int) (w : World) :
    Calls Try.prog 34 #[.int .u64 a, .bool false] w fun e w' => e = .returned (.int .u64 a) ∧ w = w' := by
  go_enter Try.func34, Try.ntmps34
  go_wp2
  go_ret
  exact ⟨rfl, rfl⟩
theorem revcut16 (a : Int) (h1 : 0 ≤ a) : ((revN 2 (a % 65536).toNat : Nat) : Int) = swapV 16 true a := by
  have e : (a % 65536).toNat = a.toNat % 2 ^ (8 * 2) := by omega
  rw [e, revN_low]; rfl
theorem swap16_high (a : Int) (h1 : 0 ≤ a) (h2 : a ≤ 18446744073709551615) (w : World) :
    Calls Try.prog 15 #[.int .i64 16, .bool true, .int .u64 a] w fun e w' => e = .returned (.tuple #[.int .u64 (swapV 16 true a), .bool true]) ∧ w = w' := by
  have HR := Lib.hid (revcut16 a h1)
  have hl := revN_lt 2 (a % 65536).toNat
  have hw : IntKind.u16.wrap a = a % 65536 := IntKind.wrap_u16 a
  go_enter Try.func15, Try.ntmps15
  go_wp2_with (go_at_call 32; refine (order16_high _ (by omega) (by omega) _).mono ?_; rintro e w' ⟨rfl, rfl⟩)
  go_ret2
  exact ⟨ret_ib HR.out rfl, rfl⟩
theorem swap16_low (a : Int) (h1 : 0 ≤ a) (h2 : a ≤ 18446744073709551615) (w : World) :
    Calls Try.prog 15 #[.int .i64 16, .bool false, .int .u64 a] w fun e w' => e = .returned (.tuple #[.int .u64 (swapV 16 false a), .bool true]) ∧ w = w' := by
  have hw : IntKind.u16.wrap a = a % 65536 := IntKind.wrap_u16 a
  go_enter Try.func15, Try.ntmps15
  go_wp2_with (go_at_call 32; refine (order16_low _ _).mono ?_; rintro e w' ⟨rfl, rfl⟩)
  go_ret2
  exact ⟨ret_ib rfl rfl, rfl⟩
set_option maxHeartbeats 400000 in
theorem refswap16_high (a : Int) (h1 : 0 ≤ a) (h2 : a ≤ 18446744073709551615) (w : World) :
    Calls Try.prog 16 #[.int .i64 16, .bool true, .int .u64 a] w fun e w' => e = .returned (.tuple #[.int .u64 (swapV 16 true a), .bool true]) ∧ w = w' := by
  obtain ⟨v, rfl⟩ := Int.eq_ofNat_of_zero_le h1
  go_enter Try.func16, Try.ntmps16
  go_wp2
  go_loop [8, 9] (fun o i => ∃ k : Nat, k ≤ 2 ∧ i = .int .i64 k ∧ o = .int .u64 (revO 2 v k : Nat)) (fun _ i => 2 - (intOf i).toNat)
  case atStart => exact ⟨0, Nat.zero_le _, rfl, rfl⟩
  case round =>
    obtain ⟨k, hk, rfl, rfl⟩ := hrel
    by_cases hlt : k < 2
    · have HS := Lib.hid (rev_step 2 v k (by omega) hlt)
      go_wp2
      go_round
      case rel => exact ⟨k + 1, by omega, by go_num, by rw [← HS.out]⟩
      case measure => simp [intOf]; omega
    · obtain rfl : k = 2 := by omega
      go_wp2
      go_ret2
      exact ⟨ret_ib rfl rfl, rfl⟩
set_option maxHeartbeats 400000 in
theorem refswap16_low (a : Int) (h1 : 0 ≤ a) (h2 : a ≤ 18446744073709551615) (w : World) :
    Calls Try.prog 16 #[.int .i64 16, .bool false, .int .u64 a] w fun e w' => e = .returned (.tuple #[.int .u64 (swapV 16 false a), .bool true]) ∧ w = w' := by
  obtain ⟨v, rfl⟩ := Int.eq_ofNat_of_zero_le h1
  have HV := Lib.hid (show ((cutN v 2 : Nat) : Int) = swapV 16 false v by
    show _ = (v : Int) % 65536
    unfold cutN
    omega)
  go_enter Try.func16, Try.ntmps16
  go_wp2
  go_loop [8, 9] (fun o i => ∃ k : Nat, k ≤ 2 ∧ i = .int .i64 k ∧ o = .int .u64 (cutN v k : Nat)) (fun _ i => 2 - (intOf i).toNat)
  case atStart => exact ⟨0, Nat.zero_le _, rfl, by rw [show cutN v 0 = 0 from Nat.mod_one v]; rfl⟩
  case round =>
    obtain ⟨k, hk, rfl, rfl⟩ := hrel
    by_cases hlt : k < 2
    · have HS := Lib.hid (low_step v k (by omega))
      go_wp2
      go_round
      case rel => exact ⟨k + 1, by omega, by go_num, by rw [← HS.out]⟩
      case measure => simp [intOf]; omega
    · obtain rfl : k = 2 := by omega
      go_wp2
      go_ret2
      exact ⟨ret_ib HV.out rfl, rfl⟩
theorem revcut32 (a : Int) (h1 : 0 ≤ a) : ((revN 4 (a % 4294967296).toNat : Nat) : Int) = swapV 32 true a := by
  have e : (a % 4294967296).toNat = a.toNat % 2 ^ (8 * 4) := by omega
  rw [e, revN_low]; rfl
theorem swap32_high (a : Int) (h1 : 0 ≤ a) (h2 : a ≤ 18446744073709551615) (w : World) :
    Calls Try.prog 15 #[.int .i64 32, .bool true, .int .u64 a] w fun e w' => e = .returned (.tuple #[.int .u64 (swapV 32 true a), .bool true]) ∧ w = w' := by
  have HR := Lib.hid (revcut32 a h1)
  have hl := revN_lt 4 (a % 4294967296).toNat
  go_enter Try.func15, Try.ntmps15
  go_wp2_with (go_at_call 33; refine (order32_high _ (by omega) (by omega) _).mono ?_; rintro e w' ⟨rfl, rfl⟩)
  go_ret2
  exact ⟨ret_ib HR.out rfl, rfl⟩
theorem swap32_low (a : Int) (h1 : 0 ≤ a) (h2 : a ≤ 18446744073709551615) (w : World) :
    Calls Try.prog 15 #[.int .i64 32, .bool false, .int .u64 a] w fun e w' => e = .returned (.tuple #[.int .u64 (swapV 32 false a), .bool true]) ∧ w = w' := by
  go_enter Try.func15, Try.ntmps15
  go_wp2_with (go_at_call 33; refine (order32_low _ _).mono ?_; rintro e w' ⟨rfl, rfl⟩)
  go_ret2
  exact ⟨ret_ib rfl rfl, rfl⟩
set_option maxHeartbeats 400000 in
theorem refswap32_high (a : Int) (h1 : 0 ≤ a) (h2 : a ≤ 18446744073709551615) (w : World) :
    Calls Try.prog 16 #[.int .i64 32, .bool true, .int .u64 a] w fun e w' => e = .returned (.tuple #[.int .u64 (swapV 32 true a), .bool true]) ∧ w = w' := by
  obtain ⟨v, rfl⟩ := Int.eq_ofNat_of_zero_le h1
  go_enter Try.func16, Try.ntmps16
  go_wp2
  go_loop [8, 9] (fun o i => ∃ k : Nat, k ≤ 4 ∧ i = .int .i64 k ∧ o = .int .u64 (revO 4 v k : Nat)) (fun _ i => 4 - (intOf i).toNat)
  case atStart => exact ⟨0, Nat.zero_le _, rfl, rfl⟩
  case round =>
    obtain ⟨k, hk, rfl, rfl⟩ := hrel
    by_cases hlt : k < 4
    · have HS := Lib.hid (rev_step 4 v k (by omega) hlt)
      go_wp2
      go_round
      case rel => exact ⟨k + 1, by omega, by go_num, by rw [← HS.out]⟩
      case measure => simp [intOf]; omega
    · obtain rfl : k = 4 := by omega
      go_wp2
      go_ret2
      exact ⟨ret_ib rfl rfl, rfl⟩
set_option maxHeartbeats 400000 in
theorem refswap32_low (a : Int) (h1 : 0 ≤ a) (h2 : a ≤ 18446744073709551615) (w : World) :
    Calls Try.prog 16 #[.int .i64 32, .bool false, .int .u64 a] w fun e w' => e = .returned (.tuple #[.int .u64 (swapV 32 false a), .bool true]) ∧ w = w' := by
  obtain ⟨v, rfl⟩ := Int.eq_ofNat_of_zero_le h1
  have HV := Lib.hid (show ((cutN v 4 : Nat) : Int) = swapV 32 false v by
    show _ = (v : Int) % 4294967296
    unfold cutN
    omega)
  go_enter Try.func16, Try.ntmps16
  go_wp2
  go_loop [8, 9] (fun o i => ∃ k : Nat, k ≤ 4 ∧ i = .int .i64 k ∧ o = .int .u64 (cutN v k : Nat)) (fun _ i => 4 - (intOf i).toNat)
  case atStart => exact ⟨0, Nat.zero_le _, rfl, by rw [show cutN v 0 = 0 from Nat.mod_one v]; rfl⟩
  case round =>
    obtain ⟨k, hk, rfl, rfl⟩ := hrel
    by_cases hlt : k < 4
    · have HS := Lib.hid (low_step v k (by omega))
      go_wp2
      go_round
      case rel => exact ⟨k + 1, by omega, by go_num, by rw [← HS.out]⟩
      case measure => simp [intOf]; omega
    · obtain rfl : k = 4 := by omega
      go_wp2
      go_ret2
      exact ⟨ret_ib HV.out rfl, rfl⟩
theorem revcut64 (a : Int) (h1 : 0 ≤ a) : ((revN 8 (a).toNat : Nat) : Int) = swapV 64 true a := by
  have e : (a).toNat = a.toNat := by omega
  rw [e]; rfl
theorem swap64_high (a : Int) (h1 : 0 ≤ a) (h2 : a ≤ 18446744073709551615) (w : World) :
    Calls Try.prog 15 #[.int .i64 64, .bool true, .int .u64 a] w fun e w' => e = .returned (.tuple #[.int .u64 (swapV 64 true a), .bool true]) ∧ w = w' := by
  have HR := Lib.hid (revcut64 a h1)
  have hl := revN_lt 8 (a).toNat
  go_enter Try.func15, Try.ntmps15
  go_wp2_with (go_at_call 34; refine (order64_high _ (by omega) (by omega) _).mono ?_; rintro e w' ⟨rfl, rfl⟩)
  go_ret2
  exact ⟨ret_ib HR.out rfl, rfl⟩
theorem swap64_low (a : Int) (h1 : 0 ≤ a) (h2 : a ≤ 18446744073709551615) (w : World) :
    Calls Try.prog 15 #[.int .i64 64, .bool false, .int .u64 a] w fun e w' => e = .returned (.tuple #[.int .u64 (swapV 64 false a), .bool true]) ∧ w = w' := by
  go_enter Try.func15, Try.ntmps15
  go_wp2_with (go_at_call 34; refine (order64_low _ _).mono ?_; rintro e w' ⟨rfl, rfl⟩)
  go_ret2
  exact ⟨ret_ib rfl rfl, rfl⟩
set_option maxHeartbeats 400000 in
theorem refswap64_high (a : Int) (h1 : 0 ≤ a) (h2 : a ≤ 18446744073709551615) (w : World) :
    Calls Try.prog 16 #[.int .i64 64, .bool true, .int .u64 a] w fun e w' => e = .returned (.tuple #[.int .u64 (swapV 64 true a), .bool true]) ∧ w = w' := by
  obtain ⟨v, rfl⟩ := Int.eq_ofNat_of_zero_le h1
  go_enter Try.func16, Try.ntmps16
  go_wp2
  go_loop [8, 9] (fun o i => ∃ k : Nat, k ≤ 8 ∧ i = .int .i64 k ∧ o = .int .u64 (revO 8 v k : Nat)) (fun _ i => 8 - (intOf i).toNat)
  case atStart => exact ⟨0, Nat.zero_le _, rfl, rfl⟩
  case round =>
    obtain ⟨k, hk, rfl, rfl⟩ := hrel
    by_cases hlt : k < 8
    · have HS := Lib.hid (rev_step 8 v k (by omega) hlt)
      go_wp2
      go_round
      case rel => exact ⟨k + 1, by omega, by go_num, by rw [← HS.out]⟩
      case measure => simp [intOf]; omega
    · obtain rfl : k = 8 := by omega
      go_wp2
      go_ret2
      exact ⟨ret_ib rfl rfl, rfl⟩
set_option maxHeartbeats 400000 in
theorem refswap64_low (a : Int) (h1 : 0 ≤ a) (h2 : a ≤ 18446744073709551615) (w : World) :
    Calls Try.prog 16 #[.int .i64 64, .bool false, .int .u64 a] w fun e w' => e = .returned (.tuple #[.int .u64 (swapV 64 false a), .bool true]) ∧ w = w' := by
  obtain ⟨v, rfl⟩ := Int.eq_ofNat_of_zero_le h1
  have HV := Lib.hid (show ((cutN v 8 : Nat) : Int) = swapV 64 false v by
    show _ = (v : Int)
    unfold cutN
    omega)
  go_enter Try.func16, Try.ntmps16
  go_wp2
  go_loop [8, 9] (fun o i => ∃ k : Nat, k ≤ 8 ∧ i = .int .i64 k ∧ o = .int .u64 (cutN v k : Nat)) (fun _ i => 8 - (intOf i).toNat)
  case atStart => exact ⟨0, Nat.zero_le _, rfl, by rw [show cutN v 0 = 0 from Nat.mod_one v]; rfl⟩
  case round =>
    obtain ⟨k, hk, rfl, rfl⟩ := hrel
    by_cases hlt : k < 8
    · have HS := Lib.hid (low_step v k (by omega))
      go_wp2
      go_round
      case rel => exact ⟨k + 1, by omega, by go_num, by rw [← HS.out]⟩
      case measure => simp [intOf]; omega
    · obtain rfl : k = 8 := by omega
      go_wp2
      go_ret2
      exact ⟨ret_ib HV.out rfl, rfl⟩
theorem swap_none (n : Int) (high : Bool) (a : Int) (h : swapOk n = false) (w : World) :
    Calls Try.prog 15 #[.int .i64 n, .bool high, .int .u64 a] w fun e w' => e = .returned (.tuple #[.int .u64 (swapV n high a), .bool false]) ∧ w = w' := by
  have hn : ¬ (n = 16 ∨ n = 32 ∨ n = 64) := by simpa [swapOk] using h
  have HN := Lib.hid (show swapV n high a = 0 by unfold swapV; rw [if_neg (by omega), if_neg (by omega), if_neg (by omega)])
  have n1 : (n == 16) = false := by simp; omega
  have n2 : (n == 32) = false := by simp; omega
  have n3 : (n == 64) = false := by simp; omega
  have m1 : (n != 16) = true := by simp; omega
  have m2 : (n != 32) = true := by simp; omega
  have m3 : (n != 64) = true := by simp; omega
  clear h hn
  go_enter Try.func15, Try.ntmps15
  go_wp2
  go_ret2
  exact ⟨ret_ib HN.out.symm rfl, rfl⟩
theorem swap_any (n : Int) (high : Bool) (a : Int) (h1 : 0 ≤ a) (h2 : a ≤ 18446744073709551615) (w : World) :
    Calls Try.prog 15 #[.int .i64 n, .bool high, .int .u64 a] w fun e w' => e = .returned (.tuple #[.int .u64 (swapV n high a), .bool (swapOk n)]) ∧ w = w' := by
  cases h : swapOk n
  · exact swap_none n high a h w
  · have hn : n = 16 ∨ n = 32 ∨ n = 64 := by simpa [swapOk] using h
    rcases hn with rfl | rfl | rfl <;> cases high
    · exact swap16_low a h1 h2 w
    · exact swap16_high a h1 h2 w
    · exact swap32_low a h1 h2 w
    · exact swap32_high a h1 h2 w
    · exact swap64_low a h1 h2 w
    · exact swap64_high a h1 h2 w
theorem refswap_none (n : Int) (high : Bool) (a : Int) (h : swapOk n = false) (w : World) :
    Calls Try.prog 16 #[.int .i64 n, .bool high, .int .u64 a] w fun e w' => e = .returned (.tuple #[.int .u64 (swapV n high a), .bool false]) ∧ w = w' := by
  have hn : ¬ (n = 16 ∨ n = 32 ∨ n = 64) := by simpa [swapOk] using h
  have HN := Lib.hid (show swapV n high a = 0 by unfold swapV; rw [if_neg (by omega), if_neg (by omega), if_neg (by omega)])
  have n1 : (n == 16) = false := by simp; omega
  have n2 : (n == 32) = false := by simp; omega
  have n3 : (n == 64) = false := by simp; omega
  have m1 : (n != 16) = true := by simp; omega
  have m2 : (n != 32) = true := by simp; omega
  have m3 : (n != 64) = true := by simp; omega
  clear h hn
  go_enter Try.func16, Try.ntmps16
  go_wp2
  go_ret2
  exact ⟨ret_ib HN.out.symm rfl, rfl⟩
theorem refswap_any (n : Int) (high : Bool) (a : Int) (h1 : 0 ≤ a) (h2 : a ≤ 18446744073709551615) (w : World) :
    Calls Try.prog 16 #[.int .i64 n, .bool high, .int .u64 a] w fun e w' => e = .returned (.tuple #[.int .u64 (swapV n high a), .bool (swapOk n)]) ∧ w = w' := by
  cases h : swapOk n
  · exact refswap_none n high a h w
  · have hn : n = 16 ∨ n = 32 ∨ n = 64 := by simpa [swapOk] using h
    rcases hn with rfl | rfl | rfl <;> cases high
    · exact refswap16_low a h1 h2 w
    · exact refswap16_high a h1 h2 w
    · exact refswap32_low a h1 h2 w
    · exact refswap32_high a h1 h2 w
    · exact refswap64_low a h1 h2 w
    · exact refswap64_high a h1 h2 w
end Go.Proofs.Ytopgjjcljapjoaa
