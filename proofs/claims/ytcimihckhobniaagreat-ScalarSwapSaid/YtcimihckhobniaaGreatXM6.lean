/-
  Texts of layer 5 and of those below it, put together: contracts and plain mathematics that ScalarSwap needs.
-/
import Derived.Test.YtcimihckhobniaaGreatRows
import Derived.Test.YtcimihckhobniaaGreatXM0
import Derived.WalkKit
import Derived.WalkSpells
import Derived.WalkLawsBesides
import Derived.Lib.Hide
import Derived.Test.YtcimihckhobniaaGreatXM1
namespace Go.Proofs.YtcimihckhobniaaGreat.L1
open Go.RowKit Wd
set_option linter.unusedVariables false

theorem ret_i {k : IntKind} {a b : Int} (h : a = b) : Ending.returned (.int k a) = .returned (.int k b) := by rw [h]
theorem ret_ib {k : IntKind} {a b : Int} {c d : Bool} (h : a = b) (g : c = d) : Ending.returned (.tuple #[.int k a, .bool c]) = .returned (.tuple #[.int k b, .bool d]) := by rw [h, g]
theorem ret_bb {a b c d : Bool} (h : a = b) (g : c = d) : Ending.returned (.tuple #[.bool a, .bool c]) = .returned (.tuple #[.bool b, .bool d]) := by rw [h, g]
end Go.Proofs.YtcimihckhobniaaGreat.L1
namespace Go.Proofs.YtcimihckhobniaaGreat.L1
open Go.RowKit Wd
set_option linter.unusedVariables false

theorem low32_any (v : Int) (h1 : 0 ≤ v) (h2 : v ≤ 18446744073709551615) (w : World) :
    Calls Tryz.prog 94 #[.int .u64 v] w fun e w' => e = .returned (.int .u64 (v % 4294967296)) ∧ w = w' := by
  go_enter Tryz.func94, Tryz.ntmps94
  go_wp2
  go_ret
  exact ⟨rfl, rfl⟩
theorem sig32_any (v : Int) (h1 : 0 ≤ v) (h2 : v ≤ 18446744073709551615) (w : World) :
    Calls Tryz.prog 95 #[.int .u64 v] w fun e w' => e = .returned (.int .i64 (wrap64 (wrap32 v))) ∧ w = w' := by
  go_enter Tryz.func95, Tryz.ntmps95
  go_wp2
  go_ret
  exact ⟨rfl, rfl⟩
theorem quo_any (a b : Int) (h1 : 0 ≤ a) (h2 : a ≤ 18446744073709551615) (h3 : 0 ≤ b) (h4 : b ≤ 18446744073709551615) (w : World) :
    Calls Tryz.prog 162 #[.int .u64 a, .int .u64 b] w fun e w' => e = .returned (.int .u64 (quoV a b)) ∧ w = w' := by
  by_cases h : b = 0
  · subst h
    go_enter Tryz.func162, Tryz.ntmps162
    go_wp2
    go_ret
    exact ⟨rfl, rfl⟩
  · have h5 : 1 ≤ b := by omega
    have hb : (b == 0) = false := by simp; omega
    have hq : quoV a b = a / b := if_neg h
    rw [hq]; clear hq h
    go_enter Tryz.func162, Tryz.ntmps162
    go_wp2
    go_ret
    exact ⟨rfl, rfl⟩
theorem rem_any (a b : Int) (h1 : 0 ≤ a) (h2 : a ≤ 18446744073709551615) (h3 : 0 ≤ b) (h4 : b ≤ 18446744073709551615) (w : World) :
    Calls Tryz.prog 163 #[.int .u64 a, .int .u64 b] w fun e w' => e = .returned (.int .u64 (remV a b)) ∧ w = w' := by
  by_cases h : b = 0
  · subst h
    go_enter Tryz.func163, Tryz.ntmps163
    go_wp2
    go_ret
    exact ⟨rfl, rfl⟩
  · have h5 : 1 ≤ b := by omega
    have hb : (b == 0) = false := by simp; omega
    have hq : remV a b = a % b := if_neg h
    rw [hq]; clear hq h
    go_enter Tryz.func163, Tryz.ntmps163
    go_wp2
    go_ret
    exact ⟨rfl, rfl⟩

theorem calc_none (op a b s k : Int) (n0 : (op == 0) = false) (n1 : (op == 1) = false) (n2 : (op == 2) = false) (n3 : (op == 3) = false) (n9 : (op == 9) = false) (n4 : (op == 4) = false) (n5 : (op == 5) = false) (n10 : (op == 10) = false) (n6 : (op == 6) = false) (n7 : (op == 7) = false) (n12 : (op == 12) = false) (n8 : (op == 8) = false) (n11 : (op == 11) = false) : calcV op a b s k = 0 ∧ aluOk op = false := by
  replace n0 := ne_of_beq_false n0
  replace n1 := ne_of_beq_false n1
  replace n2 := ne_of_beq_false n2
  replace n3 := ne_of_beq_false n3
  replace n9 := ne_of_beq_false n9
  replace n4 := ne_of_beq_false n4
  replace n5 := ne_of_beq_false n5
  replace n10 := ne_of_beq_false n10
  replace n6 := ne_of_beq_false n6
  replace n7 := ne_of_beq_false n7
  replace n12 := ne_of_beq_false n12
  replace n8 := ne_of_beq_false n8
  replace n11 := ne_of_beq_false n11
  refine ⟨by simp only [calcV, n0, n1, n2, n3, n9, n4, n5, n10, n6, n7, n12, n8, n11, if_false], ?_⟩
  unfold aluOk; simp only [decide_eq_false_iff_not]; omega
theorem cmp_none (op a b s k : Int) (n1 : (op == 1) = false) (n5 : (op == 5) = false) (n2 : (op == 2) = false) (n3 : (op == 3) = false) (n10 : (op == 10) = false) (n11 : (op == 11) = false) (n6 : (op == 6) = false) (n7 : (op == 7) = false) (n12 : (op == 12) = false) (n13 : (op == 13) = false) (n4 : (op == 4) = false) : cmpV op a b s k = false ∧ jumpOk op = false := by
  replace n1 := ne_of_beq_false n1
  replace n5 := ne_of_beq_false n5
  replace n2 := ne_of_beq_false n2
  replace n3 := ne_of_beq_false n3
  replace n10 := ne_of_beq_false n10
  replace n11 := ne_of_beq_false n11
  replace n6 := ne_of_beq_false n6
  replace n7 := ne_of_beq_false n7
  replace n12 := ne_of_beq_false n12
  replace n13 := ne_of_beq_false n13
  replace n4 := ne_of_beq_false n4
  refine ⟨by simp only [cmpV, n1, n5, n2, n3, n10, n11, n6, n7, n12, n13, n4, if_false], ?_⟩
  unfold jumpOk; simp only [decide_eq_false_iff_not]; omega
set_option maxHeartbeats 1000000 in
theorem calc_any (op a b s k : Int) (h1 : 0 ≤ a) (h2 : a ≤ 18446744073709551615) (h3 : 0 ≤ b) (h4 : b ≤ 18446744073709551615) (h5 : 0 ≤ k) (h6 : k ≤ 63) (w : World) :
    Calls Tryz.prog 93 #[.int .i64 op, .int .u64 a, .int .u64 b, .int .i64 s, .int .u64 k] w fun e w' => e = .returned (.tuple #[.int .u64 (calcV op a b s k), .bool (aluOk op)]) ∧ w = w' := by
  go_enter Tryz.func93, Tryz.ntmps93
  go_wp2_with (first | (go_at_call 162; refine (quo_any _ _ h1 h2 h3 h4 _).mono ?_; rintro e w' ⟨rfl, rfl⟩) | (go_at_call 163; refine (rem_any _ _ h1 h2 h3 h4 _).mono ?_; rintro e w' ⟨rfl, rfl⟩))
  all_goals go_ret2
  all_goals refine ⟨ret_ib ?_ ?_, rfl⟩
  · obtain rfl : op = 0 := eq_of_beq ‹(op == 0) = true›
    rfl
  · obtain rfl : op = 0 := eq_of_beq ‹(op == 0) = true›
    rfl
  · obtain rfl : op = 1 := eq_of_beq ‹(op == 1) = true›
    rfl
  · obtain rfl : op = 1 := eq_of_beq ‹(op == 1) = true›
    rfl
  · obtain rfl : op = 2 := eq_of_beq ‹(op == 2) = true›
    rfl
  · obtain rfl : op = 2 := eq_of_beq ‹(op == 2) = true›
    rfl
  · obtain rfl : op = 3 := eq_of_beq ‹(op == 3) = true›
    rfl
  · obtain rfl : op = 3 := eq_of_beq ‹(op == 3) = true›
    rfl
  · obtain rfl : op = 9 := eq_of_beq ‹(op == 9) = true›
    rfl
  · obtain rfl : op = 9 := eq_of_beq ‹(op == 9) = true›
    rfl
  · obtain rfl : op = 4 := eq_of_beq ‹(op == 4) = true›
    rfl
  · obtain rfl : op = 4 := eq_of_beq ‹(op == 4) = true›
    rfl
  · obtain rfl : op = 5 := eq_of_beq ‹(op == 5) = true›
    rfl
  · obtain rfl : op = 5 := eq_of_beq ‹(op == 5) = true›
    rfl
  · obtain rfl : op = 10 := eq_of_beq ‹(op == 10) = true›
    rfl
  · obtain rfl : op = 10 := eq_of_beq ‹(op == 10) = true›
    rfl
  · obtain rfl : op = 6 := eq_of_beq ‹(op == 6) = true›
    rfl
  · obtain rfl : op = 6 := eq_of_beq ‹(op == 6) = true›
    rfl
  · obtain rfl : op = 7 := eq_of_beq ‹(op == 7) = true›
    rfl
  · obtain rfl : op = 7 := eq_of_beq ‹(op == 7) = true›
    rfl
  · obtain rfl : op = 12 := eq_of_beq ‹(op == 12) = true›
    rfl
  · obtain rfl : op = 12 := eq_of_beq ‹(op == 12) = true›
    rfl
  · obtain rfl : op = 8 := eq_of_beq ‹(op == 8) = true›
    rfl
  · obtain rfl : op = 8 := eq_of_beq ‹(op == 8) = true›
    rfl
  · obtain rfl : op = 11 := eq_of_beq ‹(op == 11) = true›
    rfl
  · obtain rfl : op = 11 := eq_of_beq ‹(op == 11) = true›
    rfl
  · exact (calc_none op a b s k (by assumption) (by assumption) (by assumption) (by assumption) (by assumption) (by assumption) (by assumption) (by assumption) (by assumption) (by assumption) (by assumption) (by assumption) (by assumption)).1.symm
  · exact (calc_none op a b s k (by assumption) (by assumption) (by assumption) (by assumption) (by assumption) (by assumption) (by assumption) (by assumption) (by assumption) (by assumption) (by assumption) (by assumption) (by assumption)).2.symm
set_option maxHeartbeats 1000000 in
theorem cmp_any (op a b s k : Int) (h1 : 0 ≤ a) (h2 : a ≤ 18446744073709551615) (h3 : 0 ≤ b) (h4 : b ≤ 18446744073709551615) (w : World) :
    Calls Tryz.prog 99 #[.int .i64 op, .int .u64 a, .int .u64 b, .int .i64 s, .int .i64 k] w fun e w' => e = .returned (.tuple #[.bool (cmpV op a b s k), .bool (jumpOk op)]) ∧ w = w' := by
  go_enter Tryz.func99, Tryz.ntmps99
  go_wp2
  all_goals go_ret2
  all_goals refine ⟨ret_bb ?_ ?_, rfl⟩
  · obtain rfl : op = 1 := eq_of_beq ‹(op == 1) = true›
    rfl
  · obtain rfl : op = 1 := eq_of_beq ‹(op == 1) = true›
    rfl
  · obtain rfl : op = 5 := eq_of_beq ‹(op == 5) = true›
    rfl
  · obtain rfl : op = 5 := eq_of_beq ‹(op == 5) = true›
    rfl
  · obtain rfl : op = 2 := eq_of_beq ‹(op == 2) = true›
    rfl
  · obtain rfl : op = 2 := eq_of_beq ‹(op == 2) = true›
    rfl
  · obtain rfl : op = 3 := eq_of_beq ‹(op == 3) = true›
    rfl
  · obtain rfl : op = 3 := eq_of_beq ‹(op == 3) = true›
    rfl
  · obtain rfl : op = 10 := eq_of_beq ‹(op == 10) = true›
    rfl
  · obtain rfl : op = 10 := eq_of_beq ‹(op == 10) = true›
    rfl
  · obtain rfl : op = 11 := eq_of_beq ‹(op == 11) = true›
    rfl
  · obtain rfl : op = 11 := eq_of_beq ‹(op == 11) = true›
    rfl
  · obtain rfl : op = 6 := eq_of_beq ‹(op == 6) = true›
    rfl
  · obtain rfl : op = 6 := eq_of_beq ‹(op == 6) = true›
    rfl
  · obtain rfl : op = 7 := eq_of_beq ‹(op == 7) = true›
    rfl
  · obtain rfl : op = 7 := eq_of_beq ‹(op == 7) = true›
    rfl
  · obtain rfl : op = 12 := eq_of_beq ‹(op == 12) = true›
    rfl
  · obtain rfl : op = 12 := eq_of_beq ‹(op == 12) = true›
    rfl
  · obtain rfl : op = 13 := eq_of_beq ‹(op == 13) = true›
    rfl
  · obtain rfl : op = 13 := eq_of_beq ‹(op == 13) = true›
    rfl
  · obtain rfl : op = 4 := eq_of_beq ‹(op == 4) = true›
    rw [u64_and a b h1 (by omega) h3 (by omega)]; rfl
  · obtain rfl : op = 4 := eq_of_beq ‹(op == 4) = true›
    rfl
  · exact (cmp_none op a b s k (by assumption) (by assumption) (by assumption) (by assumption) (by assumption) (by assumption) (by assumption) (by assumption) (by assumption) (by assumption) (by assumption)).1.symm
  · exact (cmp_none op a b s k (by assumption) (by assumption) (by assumption) (by assumption) (by assumption) (by assumption) (by assumption) (by assumption) (by assumption) (by assumption) (by assumption)).2.symm

theorem alu_any (op : Int) (wide : Bool) (a b : Int) (h1 : 0 ≤ a) (h2 : a ≤ 18446744073709551615) (h3 : 0 ≤ b) (h4 : b ≤ 18446744073709551615) (w : World) :
    Calls Tryz.prog 37 #[.int .i64 op, .bool wide, .int .u64 a, .int .u64 b] w fun e w' => e = .returned (.tuple #[.int .u64 (aluV op wide a b), .bool (aluOk op)]) ∧ w = w' := by
  cases wide
  · have HC := Lib.hid (code32 op a b)
    have hlo : 0 ≤ calcV op (a % 4294967296) (b % 4294967296) (wrap64 (wrap32 a)) (b % 32) ∧ calcV op (a % 4294967296) (b % 4294967296) (wrap64 (wrap32 a)) (b % 32) ≤ 18446744073709551615 := by
      refine calcV_bd _ _ _ _ _ ?_ ?_ ?_ ?_ <;> omega
    go_enter Tryz.func37, Tryz.ntmps37
    go_wp2_with (first | (go_at_call 94; refine (low32_any _ (by omega) (by omega) _).mono ?_; rintro e w' ⟨rfl, rfl⟩) | (go_at_call 95; refine (sig32_any _ h1 h2 _).mono ?_; rintro e w' ⟨rfl, rfl⟩) | (go_at_call 93; refine (calc_any _ _ _ _ _ (by omega) (by omega) (by omega) (by omega) (by omega) (by omega) _).mono ?_; rintro e w' ⟨rfl, rfl⟩))
    go_ret2
    exact ⟨ret_ib HC.out rfl, rfl⟩
  · have HC := Lib.hid (code64 op a b h1 h2 h3 h4)
    go_enter Tryz.func37, Tryz.ntmps37
    go_wp2_with (go_at_call 93; refine (calc_any _ _ _ _ _ (by omega) (by omega) (by omega) (by omega) (by omega) (by omega) _).mono ?_; rintro e w' ⟨rfl, rfl⟩)
    go_ret2
    exact ⟨ret_ib HC.out rfl, rfl⟩
theorem jump_any (op : Int) (wide : Bool) (a b : Int) (h1 : 0 ≤ a) (h2 : a ≤ 18446744073709551615) (h3 : 0 ≤ b) (h4 : b ≤ 18446744073709551615) (w : World) :
    Calls Tryz.prog 40 #[.int .i64 op, .bool wide, .int .u64 a, .int .u64 b] w fun e w' => e = .returned (.tuple #[.bool (jumpV op wide a b), .bool (jumpOk op)]) ∧ w = w' := by
  cases wide
  · have HA := Lib.hid (sgn32 a)
    have HB := Lib.hid (sgn32 b)
    go_enter Tryz.func40, Tryz.ntmps40
    go_wp2_with (first | (go_at_call 94; refine (low32_any _ (by omega) (by omega) _).mono ?_; rintro e w' ⟨rfl, rfl⟩) | (go_at_call 95; refine (sig32_any _ (by omega) (by omega) _).mono ?_; rintro e w' ⟨rfl, rfl⟩) | (go_at_call 99; refine (cmp_any _ _ _ _ _ (by omega) (by omega) (by omega) (by omega) _).mono ?_; rintro e w' ⟨rfl, rfl⟩))
    go_ret2
    exact ⟨ret_bb (by rw [HA.out, HB.out]; rfl) rfl, rfl⟩
  · have HA := Lib.hid (sgn64 a h1 h2)
    have HB := Lib.hid (sgn64 b h3 h4)
    go_enter Tryz.func40, Tryz.ntmps40
    go_wp2_with (go_at_call 99; refine (cmp_any _ _ _ _ _ (by omega) (by omega) (by omega) (by omega) _).mono ?_; rintro e w' ⟨rfl, rfl⟩)
    go_ret2
    exact ⟨ret_bb (by rw [HA.out, HB.out]; rfl) rfl, rfl⟩

end Go.Proofs.YtcimihckhobniaaGreat.L1
namespace Go.Proofs.YtcimihckhobniaaGreat.L1
open Go.RowKit Wd
set_option linter.unusedVariables false

theorem byte_cast (v k : Nat) (i : Nat) (hi : i ≤ 56) : IntKind.u64.wrap (((v : Int) / 2 ^ (8 * k)).tmod 256 * 2 ^ i) = ((v / 2 ^ (8 * k) % 2 ^ 8 * 2 ^ i : Nat) : Int) := by
  have e1 : ((v : Int) / 2 ^ (8 * k)) = ((v / 2 ^ (8 * k) : Nat) : Int) := by push_cast; rfl
  rw [e1, Int.tmod_eq_emod_of_nonneg (Int.natCast_nonneg _)]
  have hp : (2 : Int) ^ i ≤ 2 ^ 56 := two_pow_le i 56 hi
  have hp0 := two_pow_pos i
  have e2 : ((v / 2 ^ (8 * k) : Nat) : Int) % 256 = ((v / 2 ^ (8 * k) % 2 ^ 8 : Nat) : Int) := by omega
  rw [e2]
  have hb : v / 2 ^ (8 * k) % 2 ^ 8 < 256 := by omega
  generalize v / 2 ^ (8 * k) % 2 ^ 8 = c at *
  have hm : (c : Int) * 2 ^ i ≤ 255 * 2 ^ 56 := Int.mul_le_mul (by omega) hp (by omega) (by omega)
  have hm0 : 0 ≤ (c : Int) * 2 ^ i := Int.mul_nonneg (by omega) (by omega)
  rw [IntWalk.u64_in _ ⟨hm0, by omega⟩]; push_cast; rfl
theorem rev_step (m v k : Nat) (hm : m ≤ 8) (hk : k < m) :
    bits .or .u64 ((revO m v k : Nat) : Int) (IntKind.u64.wrap (((v : Int) / 2 ^ (8 * k)).tmod 256 * 2 ^ (8 * (m - 1 - k)))) = ((revO m v (k + 1) : Nat) : Int) := by
  have hl := revO_lt m v k (by omega)
  have hp : 2 ^ (8 * m) ≤ 2 ^ 64 := Nat.pow_le_pow_right (by decide) (by omega)
  have hl2 := revO_lt m v (k + 1) (by omega)
  rw [byte_cast v k _ (by omega)]
  have h2 : v / 2 ^ (8 * k) % 2 ^ 8 * 2 ^ (8 * (m - 1 - k)) < 18446744073709551616 := by
    have e1 : v / 2 ^ (8 * k) % 2 ^ 8 < 2 ^ 8 := Nat.mod_lt _ (by decide)
    have e2 : 2 ^ (8 * (m - 1 - k)) ≤ 2 ^ 56 := Nat.pow_le_pow_right (by decide) (by omega)
    have := Nat.mul_lt_mul_of_lt_of_le e1 e2 (by decide)
    omega
  rw [u64_or_nat _ _ (by omega) h2]; rfl
def cutN (v k : Nat) : Nat := v % 2 ^ (8 * k)
theorem low_step (v k : Nat) (hk : k < 8) :
    bits .or .u64 ((cutN v k : Nat) : Int) (IntKind.u64.wrap (((v : Int) / 2 ^ (8 * k)).tmod 256 * 2 ^ (8 * k))) = ((cutN v (k + 1) : Nat) : Int) := by
  unfold cutN
  have hl : v % 2 ^ (8 * k) < 2 ^ (8 * k) := Nat.mod_lt _ (Nat.two_pow_pos _)
  have hp : 2 ^ (8 * k) ≤ 2 ^ 56 := Nat.pow_le_pow_right (by decide) (by omega)
  rw [byte_cast v k _ (by omega)]
  have h2 : v / 2 ^ (8 * k) % 2 ^ 8 * 2 ^ (8 * k) < 18446744073709551616 := by
    have e1 : v / 2 ^ (8 * k) % 2 ^ 8 < 2 ^ 8 := Nat.mod_lt _ (by decide)
    have := Nat.mul_lt_mul_of_lt_of_le e1 hp (by decide)
    omega
  rw [u64_or_nat _ _ (by omega) h2, Nat.or_comm, Nat.mul_comm, ← Nat.two_pow_add_eq_or_of_lt hl]
  have e : 8 * (k + 1) = 8 * k + 8 := by omega
  rw [e, Nat.pow_add, Nat.mod_mul, Nat.add_comm]

theorem lib16_any (a : Int) (h1 : 0 ≤ a) (h2 : a ≤ 65535) (w : World) :
    Calls Tryz.prog 164 #[.int .u16 a] w fun e w' => e = .returned (.int .u16 (revN 2 a.toNat : Nat)) ∧ w = w' := by
  have HR := Lib.hid (rb16 a h1 h2)
  go_enter Tryz.func164, Tryz.ntmps164
  go_wp2
  go_ret
  exact ⟨ret_i HR.out, rfl⟩
theorem lib32_any (a : Int) (h1 : 0 ≤ a) (h2 : a ≤ 4294967295) (w : World) :
    Calls Tryz.prog 165 #[.int .u32 a] w fun e w' => e = .returned (.int .u32 (revN 4 a.toNat : Nat)) ∧ w = w' := by
  have HR := Lib.hid (rb32 a h1 h2)
  go_enter Tryz.func165, Tryz.ntmps165
  go_wp2
  go_ret
  exact ⟨ret_i HR.out, rfl⟩
theorem lib64_any (a : Int) (h1 : 0 ≤ a) (h2 : a ≤ 18446744073709551615) (w : World) :
    Calls Tryz.prog 166 #[.int .u64 a] w fun e w' => e = .returned (.int .u64 (revN 8 a.toNat : Nat)) ∧ w = w' := by
  have HR := Lib.hid (rb64 a h1 h2 _ _ rfl rfl)
  go_enter Tryz.func166, Tryz.ntmps166
  go_wp2
  go_ret
  exact ⟨ret_i HR.out, rfl⟩
theorem order16_high (a : Int) (h1 : 0 ≤ a) (h2 : a ≤ 65535) (w : World) :
    Calls Tryz.prog 96 #[.int .u16 a, .bool true] w fun e w' => e = .returned (.int .u16 (revN 2 a.toNat : Nat)) ∧ w = w' := by
  go_enter Tryz.func96, Tryz.ntmps96
  go_wp2_with (go_at_call 164; refine (lib16_any _ h1 h2 _).mono ?_; rintro e w' ⟨rfl, rfl⟩)
  go_ret
  exact ⟨rfl, rfl⟩
theorem order16_low (a : Int) (w : World) :
    Calls Tryz.prog 96 #[.int .u16 a, .bool false] w fun e w' => e = .returned (.int .u16 a) ∧ w = w' := by
  go_enter Tryz.func96, Tryz.ntmps96
  go_wp2
  go_ret
  exact ⟨rfl, rfl⟩
theorem order32_high (a : Int) (h1 : 0 ≤ a) (h2 : a ≤ 4294967295) (w : World) :
    Calls Tryz.prog 97 #[.int .u32 a, .bool true] w fun e w' => e = .returned (.int .u32 (revN 4 a.toNat : Nat)) ∧ w = w' := by
  go_enter Tryz.func97, Tryz.ntmps97
  go_wp2_with (go_at_call 165; refine (lib32_any _ h1 h2 _).mono ?_; rintro e w' ⟨rfl, rfl⟩)
  go_ret
  exact ⟨rfl, rfl⟩
theorem order32_low (a : Int) (w : World) :
    Calls Tryz.prog 97 #[.int .u32 a, .bool false] w fun e w' => e = .returned (.int .u32 a) ∧ w = w' := by
  go_enter Tryz.func97, Tryz.ntmps97
  go_wp2
  go_ret
  exact ⟨rfl, rfl⟩
theorem order64_high (a : Int) (h1 : 0 ≤ a) (h2 : a ≤ 18446744073709551615) (w : World) :
    Calls Tryz.prog 98 #[.int .u64 a, .bool true] w fun e w' => e = .returned (.int .u64 (revN 8 a.toNat : Nat)) ∧ w = w' := by
  go_enter Tryz.func98, Tryz.ntmps98
  go_wp2_with (go_at_call 166; refine (lib64_any _ h1 h2 _).mono ?_; rintro e w' ⟨rfl, rfl⟩)
  go_ret
  exact ⟨rfl, rfl⟩
theorem order64_low (a : Int) (w : World) :
    Calls Tryz.prog 98 #[.int .u64 a, .bool false] w fun e w' => e = .returned (.int .u64 a) ∧ w = w' := by
  go_enter Tryz.func98, Tryz.ntmps98
  go_wp2
  go_ret
  exact ⟨rfl, rfl⟩
theorem revcut16 (a : Int) (h1 : 0 ≤ a) : ((revN 2 (a % 65536).toNat : Nat) : Int) = swapV 16 true a := by
  have e : (a % 65536).toNat = a.toNat % 2 ^ (8 * 2) := by omega
  rw [e, revN_low]; rfl
theorem swap16_high (a : Int) (h1 : 0 ≤ a) (h2 : a ≤ 18446744073709551615) (w : World) :
    Calls Tryz.prog 39 #[.int .i64 16, .bool true, .int .u64 a] w fun e w' => e = .returned (.tuple #[.int .u64 (swapV 16 true a), .bool true]) ∧ w = w' := by
  have HR := Lib.hid (revcut16 a h1)
  have hl := revN_lt 2 (a % 65536).toNat
  have hw : IntKind.u16.wrap a = a % 65536 := IntKind.wrap_u16 a
  go_enter Tryz.func39, Tryz.ntmps39
  go_wp2_with (go_at_call 96; refine (order16_high _ (by omega) (by omega) _).mono ?_; rintro e w' ⟨rfl, rfl⟩)
  go_ret2
  exact ⟨ret_ib HR.out rfl, rfl⟩
theorem swap16_low (a : Int) (h1 : 0 ≤ a) (h2 : a ≤ 18446744073709551615) (w : World) :
    Calls Tryz.prog 39 #[.int .i64 16, .bool false, .int .u64 a] w fun e w' => e = .returned (.tuple #[.int .u64 (swapV 16 false a), .bool true]) ∧ w = w' := by
  have hw : IntKind.u16.wrap a = a % 65536 := IntKind.wrap_u16 a
  go_enter Tryz.func39, Tryz.ntmps39
  go_wp2_with (go_at_call 96; refine (order16_low _ _).mono ?_; rintro e w' ⟨rfl, rfl⟩)
  go_ret2
  exact ⟨ret_ib rfl rfl, rfl⟩
set_option maxHeartbeats 400000 in
theorem refswap16_high (a : Int) (h1 : 0 ≤ a) (h2 : a ≤ 18446744073709551615) (w : World) :
    Calls Tryz.prog 85 #[.int .i64 16, .bool true, .int .u64 a] w fun e w' => e = .returned (.tuple #[.int .u64 (swapV 16 true a), .bool true]) ∧ w = w' := by
  obtain ⟨v, rfl⟩ := Int.eq_ofNat_of_zero_le h1
  go_enter Tryz.func85, Tryz.ntmps85
  go_wp2
  go_loop [8, 9] (fun o i => ∃ k : Nat, k ≤ 2 ∧ i = .int .i64 k ∧ o = .int .u64 (revO 2 v k : Nat)) (fun _ i => 2 - (intOf i).toNat)
  case atStart => exact ⟨0, Nat.zero_le _, rfl, rfl⟩
  case round =>
    obtain ⟨k, hk, rfl, rfl⟩ := hrel
    by_cases hlt : k < 2
    · have HS := Lib.hid (rev_step 2 v k (by omega) hlt)
      go_wp2
      go_round
      case rel => exact ⟨k + 1, by omega, by go_num, by rw [← HS.out]⟩
      case measure => simp [intOf]; omega
    · obtain rfl : k = 2 := by omega
      go_wp2
      go_ret2
      exact ⟨ret_ib rfl rfl, rfl⟩
set_option maxHeartbeats 400000 in
theorem refswap16_low (a : Int) (h1 : 0 ≤ a) (h2 : a ≤ 18446744073709551615) (w : World) :
    Calls Tryz.prog 85 #[.int .i64 16, .bool false, .int .u64 a] w fun e w' => e = .returned (.tuple #[.int .u64 (swapV 16 false a), .bool true]) ∧ w = w' := by
  obtain ⟨v, rfl⟩ := Int.eq_ofNat_of_zero_le h1
  have HV := Lib.hid (show ((cutN v 2 : Nat) : Int) = swapV 16 false v by
    show _ = (v : Int) % 65536
    unfold cutN
    omega)
  go_enter Tryz.func85, Tryz.ntmps85
  go_wp2
  go_loop [8, 9] (fun o i => ∃ k : Nat, k ≤ 2 ∧ i = .int .i64 k ∧ o = .int .u64 (cutN v k : Nat)) (fun _ i => 2 - (intOf i).toNat)
  case atStart => exact ⟨0, Nat.zero_le _, rfl, by rw [show cutN v 0 = 0 from Nat.mod_one v]; rfl⟩
  case round =>
    obtain ⟨k, hk, rfl, rfl⟩ := hrel
    by_cases hlt : k < 2
    · have HS := Lib.hid (low_step v k (by omega))
      go_wp2
      go_round
      case rel => exact ⟨k + 1, by omega, by go_num, by rw [← HS.out]⟩
      case measure => simp [intOf]; omega
    · obtain rfl : k = 2 := by omega
      go_wp2
      go_ret2
      exact ⟨ret_ib HV.out rfl, rfl⟩
theorem revcut32 (a : Int) (h1 : 0 ≤ a) : ((revN 4 (a % 4294967296).toNat : Nat) : Int) = swapV 32 true a := by
  have e : (a % 4294967296).toNat = a.toNat % 2 ^ (8 * 4) := by omega
  rw [e, revN_low]; rfl
theorem swap32_high (a : Int) (h1 : 0 ≤ a) (h2 : a ≤ 18446744073709551615) (w : World) :
    Calls Tryz.prog 39 #[.int .i64 32, .bool true, .int .u64 a] w fun e w' => e = .returned (.tuple #[.int .u64 (swapV 32 true a), .bool true]) ∧ w = w' := by
  have HR := Lib.hid (revcut32 a h1)
  have hl := revN_lt 4 (a % 4294967296).toNat
  go_enter Tryz.func39, Tryz.ntmps39
  go_wp2_with (go_at_call 97; refine (order32_high _ (by omega) (by omega) _).mono ?_; rintro e w' ⟨rfl, rfl⟩)
  go_ret2
  exact ⟨ret_ib HR.out rfl, rfl⟩
theorem swap32_low (a : Int) (h1 : 0 ≤ a) (h2 : a ≤ 18446744073709551615) (w : World) :
    Calls Tryz.prog 39 #[.int .i64 32, .bool false, .int .u64 a] w fun e w' => e = .returned (.tuple #[.int .u64 (swapV 32 false a), .bool true]) ∧ w = w' := by
  go_enter Tryz.func39, Tryz.ntmps39
  go_wp2_with (go_at_call 97; refine (order32_low _ _).mono ?_; rintro e w' ⟨rfl, rfl⟩)
  go_ret2
  exact ⟨ret_ib rfl rfl, rfl⟩
set_option maxHeartbeats 400000 in
theorem refswap32_high (a : Int) (h1 : 0 ≤ a) (h2 : a ≤ 18446744073709551615) (w : World) :
    Calls Tryz.prog 85 #[.int .i64 32, .bool true, .int .u64 a] w fun e w' => e = .returned (.tuple #[.int .u64 (swapV 32 true a), .bool true]) ∧ w = w' := by
  obtain ⟨v, rfl⟩ := Int.eq_ofNat_of_zero_le h1
  go_enter Tryz.func85, Tryz.ntmps85
  go_wp2
  go_loop [8, 9] (fun o i => ∃ k : Nat, k ≤ 4 ∧ i = .int .i64 k ∧ o = .int .u64 (revO 4 v k : Nat)) (fun _ i => 4 - (intOf i).toNat)
  case atStart => exact ⟨0, Nat.zero_le _, rfl, rfl⟩
  case round =>
    obtain ⟨k, hk, rfl, rfl⟩ := hrel
    by_cases hlt : k < 4
    · have HS := Lib.hid (rev_step 4 v k (by omega) hlt)
      go_wp2
      go_round
      case rel => exact ⟨k + 1, by omega, by go_num, by rw [← HS.out]⟩
      case measure => simp [intOf]; omega
    · obtain rfl : k = 4 := by omega
      go_wp2
      go_ret2
      exact ⟨ret_ib rfl rfl, rfl⟩
set_option maxHeartbeats 400000 in
theorem refswap32_low (a : Int) (h1 : 0 ≤ a) (h2 : a ≤ 18446744073709551615) (w : World) :
    Calls Tryz.prog 85 #[.int .i64 32, .bool false, .int .u64 a] w fun e w' => e = .returned (.tuple #[.int .u64 (swapV 32 false a), .bool true]) ∧ w = w' := by
  obtain ⟨v, rfl⟩ := Int.eq_ofNat_of_zero_le h1
  have HV := Lib.hid (show ((cutN v 4 : Nat) : Int) = swapV 32 false v by
    show _ = (v : Int) % 4294967296
    unfold cutN
    omega)
  go_enter Tryz.func85, Tryz.ntmps85
  go_wp2
  go_loop [8, 9] (fun o i => ∃ k : Nat, k ≤ 4 ∧ i = .int .i64 k ∧ o = .int .u64 (cutN v k : Nat)) (fun _ i => 4 - (intOf i).toNat)
  case atStart => exact ⟨0, Nat.zero_le _, rfl, by rw [show cutN v 0 = 0 from Nat.mod_one v]; rfl⟩
  case round =>
    obtain ⟨k, hk, rfl, rfl⟩ := hrel
    by_cases hlt : k < 4
    · have HS := Lib.hid (low_step v k (by omega))
      go_wp2
      go_round
      case rel => exact ⟨k + 1, by omega, by go_num, by rw [← HS.out]⟩
      case measure => simp [intOf]; omega
    · obtain rfl : k = 4 := by omega
      go_wp2
      go_ret2
      exact ⟨ret_ib HV.out rfl, rfl⟩
theorem revcut64 (a : Int) (h1 : 0 ≤ a) : ((revN 8 (a).toNat : Nat) : Int) = swapV 64 true a := by
  have e : (a).toNat = a.toNat := by omega
  rw [e]; rfl
theorem swap64_high (a : Int) (h1 : 0 ≤ a) (h2 : a ≤ 18446744073709551615) (w : World) :
    Calls Tryz.prog 39 #[.int .i64 64, .bool true, .int .u64 a] w fun e w' => e = .returned (.tuple #[.int .u64 (swapV 64 true a), .bool true]) ∧ w = w' := by
  have HR := Lib.hid (revcut64 a h1)
  have hl := revN_lt 8 (a).toNat
  go_enter Tryz.func39, Tryz.ntmps39
  go_wp2_with (go_at_call 98; refine (order64_high _ (by omega) (by omega) _).mono ?_; rintro e w' ⟨rfl, rfl⟩)
  go_ret2
  exact ⟨ret_ib HR.out rfl, rfl⟩
theorem swap64_low (a : Int) (h1 : 0 ≤ a) (h2 : a ≤ 18446744073709551615) (w : World) :
    Calls Tryz.prog 39 #[.int .i64 64, .bool false, .int .u64 a] w fun e w' => e = .returned (.tuple #[.int .u64 (swapV 64 false a), .bool true]) ∧ w = w' := by
  go_enter Tryz.func39, Tryz.ntmps39
  go_wp2_with (go_at_call 98; refine (order64_low _ _).mono ?_; rintro e w' ⟨rfl, rfl⟩)
  go_ret2
  exact ⟨ret_ib rfl rfl, rfl⟩
set_option maxHeartbeats 400000 in
theorem refswap64_high (a : Int) (h1 : 0 ≤ a) (h2 : a ≤ 18446744073709551615) (w : World) :
    Calls Tryz.prog 85 #[.int .i64 64, .bool true, .int .u64 a] w fun e w' => e = .returned (.tuple #[.int .u64 (swapV 64 true a), .bool true]) ∧ w = w' := by
  obtain ⟨v, rfl⟩ := Int.eq_ofNat_of_zero_le h1
  go_enter Tryz.func85, Tryz.ntmps85
  go_wp2
  go_loop [8, 9] (fun o i => ∃ k : Nat, k ≤ 8 ∧ i = .int .i64 k ∧ o = .int .u64 (revO 8 v k : Nat)) (fun _ i => 8 - (intOf i).toNat)
  case atStart => exact ⟨0, Nat.zero_le _, rfl, rfl⟩
  case round =>
    obtain ⟨k, hk, rfl, rfl⟩ := hrel
    by_cases hlt : k < 8
    · have HS := Lib.hid (rev_step 8 v k (by omega) hlt)
      go_wp2
      go_round
      case rel => exact ⟨k + 1, by omega, by go_num, by rw [← HS.out]⟩
      case measure => simp [intOf]; omega
    · obtain rfl : k = 8 := by omega
      go_wp2
      go_ret2
      exact ⟨ret_ib rfl rfl, rfl⟩
set_option maxHeartbeats 400000 in
theorem refswap64_low (a : Int) (h1 : 0 ≤ a) (h2 : a ≤ 18446744073709551615) (w : World) :
    Calls Tryz.prog 85 #[.int .i64 64, .bool false, .int .u64 a] w fun e w' => e = .returned (.tuple #[.int .u64 (swapV 64 false a), .bool true]) ∧ w = w' := by
  obtain ⟨v, rfl⟩ := Int.eq_ofNat_of_zero_le h1
  have HV := Lib.hid (show ((cutN v 8 : Nat) : Int) = swapV 64 false v by
    show _ = (v : Int)
    unfold cutN
    omega)
  go_enter Tryz.func85, Tryz.ntmps85
  go_wp2
  go_loop [8, 9] (fun o i => ∃ k : Nat, k ≤ 8 ∧ i = .int .i64 k ∧ o = .int .u64 (cutN v k : Nat)) (fun _ i => 8 - (intOf i).toNat)
  case atStart => exact ⟨0, Nat.zero_le _, rfl, by rw [show cutN v 0 = 0 from Nat.mod_one v]; rfl⟩
  case round =>
    obtain ⟨k, hk, rfl, rfl⟩ := hrel
    by_cases hlt : k < 8
    · have HS := Lib.hid (low_step v k (by omega))
      go_wp2
      go_round
      case rel => exact ⟨k + 1, by omega, by go_num, by rw [← HS.out]⟩
      case measure => simp [intOf]; omega
    · obtain rfl : k = 8 := by omega
      go_wp2
      go_ret2
      exact ⟨ret_ib HV.out rfl, rfl⟩
theorem swap_none (n : Int) (high : Bool) (a : Int) (h : swapOk n = false) (w : World) :
    Calls Tryz.prog 39 #[.int .i64 n, .bool high, .int .u64 a] w fun e w' => e = .returned (.tuple #[.int .u64 (swapV n high a), .bool false]) ∧ w = w' := by
  have hn : ¬ (n = 16 ∨ n = 32 ∨ n = 64) := by simpa [swapOk] using h
  have HN := Lib.hid (show swapV n high a = 0 by unfold swapV; rw [if_neg (by omega), if_neg (by omega), if_neg (by omega)])
  have n1 : (n == 16) = false := by simp; omega
  have n2 : (n == 32) = false := by simp; omega
  have n3 : (n == 64) = false := by simp; omega
  have m1 : (n != 16) = true := by simp; omega
  have m2 : (n != 32) = true := by simp; omega
  have m3 : (n != 64) = true := by simp; omega
  clear h hn
  go_enter Tryz.func39, Tryz.ntmps39
  go_wp2
  go_ret2
  exact ⟨ret_ib HN.out.symm rfl, rfl⟩
theorem swap_any (n : Int) (high : Bool) (a : Int) (h1 : 0 ≤ a) (h2 : a ≤ 18446744073709551615) (w : World) :
    Calls Tryz.prog 39 #[.int .i64 n, .bool high, .int .u64 a] w fun e w' => e = .returned (.tuple #[.int .u64 (swapV n high a), .bool (swapOk n)]) ∧ w = w' := by
  cases h : swapOk n
  · exact swap_none n high a h w
  · have hn : n = 16 ∨ n = 32 ∨ n = 64 := by simpa [swapOk] using h
    rcases hn with rfl | rfl | rfl <;> cases high
    · exact swap16_low a h1 h2 w
    · exact swap16_high a h1 h2 w
    · exact swap32_low a h1 h2 w
    · exact swap32_high a h1 h2 w
    · exact swap64_low a h1 h2 w
    · exact swap64_high a h1 h2 w
theorem refswap_none (n : Int) (high : Bool) (a : Int) (h : swapOk n = false) (w : World) :
    Calls Tryz.prog 85 #[.int .i64 n, .bool high, .int .u64 a] w fun e w' => e = .returned (.tuple #[.int .u64 (swapV n high a), .bool false]) ∧ w = w' := by
  have hn : ¬ (n = 16 ∨ n = 32 ∨ n = 64) := by simpa [swapOk] using h
  have HN := Lib.hid (show swapV n high a = 0 by unfold swapV; rw [if_neg (by omega), if_neg (by omega), if_neg (by omega)])
  have n1 : (n == 16) = false := by simp; omega
  have n2 : (n == 32) = false := by simp; omega
  have n3 : (n == 64) = false := by simp; omega
  have m1 : (n != 16) = true := by simp; omega
  have m2 : (n != 32) = true := by simp; omega
  have m3 : (n != 64) = true := by simp; omega
  clear h hn
  go_enter Tryz.func85, Tryz.ntmps85
  go_wp2
  go_ret2
  exact ⟨ret_ib HN.out.symm rfl, rfl⟩
theorem refswap_any (n : Int) (high : Bool) (a : Int) (h1 : 0 ≤ a) (h2 : a ≤ 18446744073709551615) (w : World) :
    Calls Tryz.prog 85 #[.int .i64 n, .bool high, .int .u64 a] w fun e w' => e = .returned (.tuple #[.int .u64 (swapV n high a), .bool (swapOk n)]) ∧ w = w' := by
  cases h : swapOk n
  · exact refswap_none n high a h w
  · have hn : n = 16 ∨ n = 32 ∨ n = 64 := by simpa [swapOk] using h
    rcases hn with rfl | rfl | rfl <;> cases high
    · exact refswap16_low a h1 h2 w
    · exact refswap16_high a h1 h2 w
    · exact refswap32_low a h1 h2 w
    · exact refswap32_high a h1 h2 w
    · exact refswap64_low a h1 h2 w
    · exact refswap64_high a h1 h2 w
end Go.Proofs.YtcimihckhobniaaGreat.L1
