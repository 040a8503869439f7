/-
  Texts of layer 5 and of those below it, put together: contracts and plain mathematics that ScalarSets needs.
-/
import Derived.Test.YtcimihckhobniaaGreatRows
import Derived.Test.YtcimihckhobniaaGreatZM0
import Derived.WalkKit
import Derived.WalkSpells
import Derived.WalkLawsBesides
import Derived.Lib.Hide
import Derived.Test.YtcimihckhobniaaGreatZM1
namespace Go.Proofs.YtcimihckhobniaaGreat.L1
open Go.RowKit Wd
set_option linter.unusedVariables false

theorem ret_ib {k : IntKind} {a b : Int} {c d : Bool} (h : a = b) (g : c = d) : Ending.returned (.tuple #[.int k a, .bool c]) = .returned (.tuple #[.int k b, .bool d]) := by rw [h, g]
theorem ret_bb {a b c d : Bool} (h : a = b) (g : c = d) : Ending.returned (.tuple #[.bool a, .bool c]) = .returned (.tuple #[.bool b, .bool d]) := by rw [h, g]
end Go.Proofs.YtcimihckhobniaaGreat.L1
namespace Go.Proofs.YtcimihckhobniaaGreat.L1
open Go.RowKit Wd
set_option linter.unusedVariables false

theorem low32_any (v : Int) (h1 : 0 ≤ v) (h2 : v ≤ 18446744073709551615) (w : World) :
    Calls Tryz.prog 94 #[.int .u64 v] w fun e w' => e = .returned (.int .u64 (v % 4294967296)) ∧ w = w' := by
  go_enter Tryz.func94, Tryz.ntmps94
  go_wp2
  go_ret
  exact ⟨rfl, rfl⟩
theorem sig32_any (v : Int) (h1 : 0 ≤ v) (h2 : v ≤ 18446744073709551615) (w : World) :
    Calls Tryz.prog 95 #[.int .u64 v] w fun e w' => e = .returned (.int .i64 (wrap64 (wrap32 v))) ∧ w = w' := by
  go_enter Tryz.func95, Tryz.ntmps95
  go_wp2
  go_ret
  exact ⟨rfl, rfl⟩
theorem quo_any (a b : Int) (h1 : 0 ≤ a) (h2 : a ≤ 18446744073709551615) (h3 : 0 ≤ b) (h4 : b ≤ 18446744073709551615) (w : World) :
    Calls Tryz.prog 162 #[.int .u64 a, .int .u64 b] w fun e w' => e = .returned (.int .u64 (quoV a b)) ∧ w = w' := by
  by_cases h : b = 0
  · subst h
    go_enter Tryz.func162, Tryz.ntmps162
    go_wp2
    go_ret
    exact ⟨rfl, rfl⟩
  · have h5 : 1 ≤ b := by omega
    have hb : (b == 0) = false := by simp; omega
    have hq : quoV a b = a / b := if_neg h
    rw [hq]; clear hq h
    go_enter Tryz.func162, Tryz.ntmps162
    go_wp2
    go_ret
    exact ⟨rfl, rfl⟩
theorem rem_any (a b : Int) (h1 : 0 ≤ a) (h2 : a ≤ 18446744073709551615) (h3 : 0 ≤ b) (h4 : b ≤ 18446744073709551615) (w : World) :
    Calls Tryz.prog 163 #[.int .u64 a, .int .u64 b] w fun e w' => e = .returned (.int .u64 (remV a b)) ∧ w = w' := by
  by_cases h : b = 0
  · subst h
    go_enter Tryz.func163, Tryz.ntmps163
    go_wp2
    go_ret
    exact ⟨rfl, rfl⟩
  · have h5 : 1 ≤ b := by omega
    have hb : (b == 0) = false := by simp; omega
    have hq : remV a b = a % b := if_neg h
    rw [hq]; clear hq h
    go_enter Tryz.func163, Tryz.ntmps163
    go_wp2
    go_ret
    exact ⟨rfl, rfl⟩

theorem calc_none (op a b s k : Int) (n0 : (op == 0) = false) (n1 : (op == 1) = false) (n2 : (op == 2) = false) (n3 : (op == 3) = false) (n9 : (op == 9) = false) (n4 : (op == 4) = false) (n5 : (op == 5) = false) (n10 : (op == 10) = false) (n6 : (op == 6) = false) (n7 : (op == 7) = false) (n12 : (op == 12) = false) (n8 : (op == 8) = false) (n11 : (op == 11) = false) : calcV op a b s k = 0 ∧ aluOk op = false := by
  replace n0 := ne_of_beq_false n0
  replace n1 := ne_of_beq_false n1
  replace n2 := ne_of_beq_false n2
  replace n3 := ne_of_beq_false n3
  replace n9 := ne_of_beq_false n9
  replace n4 := ne_of_beq_false n4
  replace n5 := ne_of_beq_false n5
  replace n10 := ne_of_beq_false n10
  replace n6 := ne_of_beq_false n6
  replace n7 := ne_of_beq_false n7
  replace n12 := ne_of_beq_false n12
  replace n8 := ne_of_beq_false n8
  replace n11 := ne_of_beq_false n11
  refine ⟨by simp only [calcV, n0, n1, n2, n3, n9, n4, n5, n10, n6, n7, n12, n8, n11, if_false], ?_⟩
  unfold aluOk; simp only [decide_eq_false_iff_not]; omega
theorem cmp_none (op a b s k : Int) (n1 : (op == 1) = false) (n5 : (op == 5) = false) (n2 : (op == 2) = false) (n3 : (op == 3) = false) (n10 : (op == 10) = false) (n11 : (op == 11) = false) (n6 : (op == 6) = false) (n7 : (op == 7) = false) (n12 : (op == 12) = false) (n13 : (op == 13) = false) (n4 : (op == 4) = false) : cmpV op a b s k = false ∧ jumpOk op = false := by
  replace n1 := ne_of_beq_false n1
  replace n5 := ne_of_beq_false n5
  replace n2 := ne_of_beq_false n2
  replace n3 := ne_of_beq_false n3
  replace n10 := ne_of_beq_false n10
  replace n11 := ne_of_beq_false n11
  replace n6 := ne_of_beq_false n6
  replace n7 := ne_of_beq_false n7
  replace n12 := ne_of_beq_false n12
  replace n13 := ne_of_beq_false n13
  replace n4 := ne_of_beq_false n4
  refine ⟨by simp only [cmpV, n1, n5, n2, n3, n10, n11, n6, n7, n12, n13, n4, if_false], ?_⟩
  unfold jumpOk; simp only [decide_eq_false_iff_not]; omega
set_option maxHeartbeats 1000000 in
theorem calc_any (op a b s k : Int) (h1 : 0 ≤ a) (h2 : a ≤ 18446744073709551615) (h3 : 0 ≤ b) (h4 : b ≤ 18446744073709551615) (h5 : 0 ≤ k) (h6 : k ≤ 63) (w : World) :
    Calls Tryz.prog 93 #[.int .i64 op, .int .u64 a, .int .u64 b, .int .i64 s, .int .u64 k] w fun e w' => e = .returned (.tuple #[.int .u64 (calcV op a b s k), .bool (aluOk op)]) ∧ w = w' := by
  go_enter Tryz.func93, Tryz.ntmps93
  go_wp2_with (first | (go_at_call 162; refine (quo_any _ _ h1 h2 h3 h4 _).mono ?_; rintro e w' ⟨rfl, rfl⟩) | (go_at_call 163; refine (rem_any _ _ h1 h2 h3 h4 _).mono ?_; rintro e w' ⟨rfl, rfl⟩))
  all_goals go_ret2
  all_goals refine ⟨ret_ib ?_ ?_, rfl⟩
  · obtain rfl : op = 0 := eq_of_beq ‹(op == 0) = true›
    rfl
  · obtain rfl : op = 0 := eq_of_beq ‹(op == 0) = true›
    rfl
  · obtain rfl : op = 1 := eq_of_beq ‹(op == 1) = true›
    rfl
  · obtain rfl : op = 1 := eq_of_beq ‹(op == 1) = true›
    rfl
  · obtain rfl : op = 2 := eq_of_beq ‹(op == 2) = true›
    rfl
  · obtain rfl : op = 2 := eq_of_beq ‹(op == 2) = true›
    rfl
  · obtain rfl : op = 3 := eq_of_beq ‹(op == 3) = true›
    rfl
  · obtain rfl : op = 3 := eq_of_beq ‹(op == 3) = true›
    rfl
  · obtain rfl : op = 9 := eq_of_beq ‹(op == 9) = true›
    rfl
  · obtain rfl : op = 9 := eq_of_beq ‹(op == 9) = true›
    rfl
  · obtain rfl : op = 4 := eq_of_beq ‹(op == 4) = true›
    rfl
  · obtain rfl : op = 4 := eq_of_beq ‹(op == 4) = true›
    rfl
  · obtain rfl : op = 5 := eq_of_beq ‹(op == 5) = true›
    rfl
  · obtain rfl : op = 5 := eq_of_beq ‹(op == 5) = true›
    rfl
  · obtain rfl : op = 10 := eq_of_beq ‹(op == 10) = true›
    rfl
  · obtain rfl : op = 10 := eq_of_beq ‹(op == 10) = true›
    rfl
  · obtain rfl : op = 6 := eq_of_beq ‹(op == 6) = true›
    rfl
  · obtain rfl : op = 6 := eq_of_beq ‹(op == 6) = true›
    rfl
  · obtain rfl : op = 7 := eq_of_beq ‹(op == 7) = true›
    rfl
  · obtain rfl : op = 7 := eq_of_beq ‹(op == 7) = true›
    rfl
  · obtain rfl : op = 12 := eq_of_beq ‹(op == 12) = true›
    rfl
  · obtain rfl : op = 12 := eq_of_beq ‹(op == 12) = true›
    rfl
  · obtain rfl : op = 8 := eq_of_beq ‹(op == 8) = true›
    rfl
  · obtain rfl : op = 8 := eq_of_beq ‹(op == 8) = true›
    rfl
  · obtain rfl : op = 11 := eq_of_beq ‹(op == 11) = true›
    rfl
  · obtain rfl : op = 11 := eq_of_beq ‹(op == 11) = true›
    rfl
  · exact (calc_none op a b s k (by assumption) (by assumption) (by assumption) (by assumption) (by assumption) (by assumption) (by assumption) (by assumption) (by assumption) (by assumption) (by assumption) (by assumption) (by assumption)).1.symm
  · exact (calc_none op a b s k (by assumption) (by assumption) (by assumption) (by assumption) (by assumption) (by assumption) (by assumption) (by assumption) (by assumption) (by assumption) (by assumption) (by assumption) (by assumption)).2.symm
set_option maxHeartbeats 1000000 in
theorem cmp_any (op a b s k : Int) (h1 : 0 ≤ a) (h2 : a ≤ 18446744073709551615) (h3 : 0 ≤ b) (h4 : b ≤ 18446744073709551615) (w : World) :
    Calls Tryz.prog 99 #[.int .i64 op, .int .u64 a, .int .u64 b, .int .i64 s, .int .i64 k] w fun e w' => e = .returned (.tuple #[.bool (cmpV op a b s k), .bool (jumpOk op)]) ∧ w = w' := by
  go_enter Tryz.func99, Tryz.ntmps99
  go_wp2
  all_goals go_ret2
  all_goals refine ⟨ret_bb ?_ ?_, rfl⟩
  · obtain rfl : op = 1 := eq_of_beq ‹(op == 1) = true›
    rfl
  · obtain rfl : op = 1 := eq_of_beq ‹(op == 1) = true›
    rfl
  · obtain rfl : op = 5 := eq_of_beq ‹(op == 5) = true›
    rfl
  · obtain rfl : op = 5 := eq_of_beq ‹(op == 5) = true›
    rfl
  · obtain rfl : op = 2 := eq_of_beq ‹(op == 2) = true›
    rfl
  · obtain rfl : op = 2 := eq_of_beq ‹(op == 2) = true›
    rfl
  · obtain rfl : op = 3 := eq_of_beq ‹(op == 3) = true›
    rfl
  · obtain rfl : op = 3 := eq_of_beq ‹(op == 3) = true›
    rfl
  · obtain rfl : op = 10 := eq_of_beq ‹(op == 10) = true›
    rfl
  · obtain rfl : op = 10 := eq_of_beq ‹(op == 10) = true›
    rfl
  · obtain rfl : op = 11 := eq_of_beq ‹(op == 11) = true›
    rfl
  · obtain rfl : op = 11 := eq_of_beq ‹(op == 11) = true›
    rfl
  · obtain rfl : op = 6 := eq_of_beq ‹(op == 6) = true›
    rfl
  · obtain rfl : op = 6 := eq_of_beq ‹(op == 6) = true›
    rfl
  · obtain rfl : op = 7 := eq_of_beq ‹(op == 7) = true›
    rfl
  · obtain rfl : op = 7 := eq_of_beq ‹(op == 7) = true›
    rfl
  · obtain rfl : op = 12 := eq_of_beq ‹(op == 12) = true›
    rfl
  · obtain rfl : op = 12 := eq_of_beq ‹(op == 12) = true›
    rfl
  · obtain rfl : op = 13 := eq_of_beq ‹(op == 13) = true›
    rfl
  · obtain rfl : op = 13 := eq_of_beq ‹(op == 13) = true›
    rfl
  · obtain rfl : op = 4 := eq_of_beq ‹(op == 4) = true›
    rw [u64_and a b h1 (by omega) h3 (by omega)]; rfl
  · obtain rfl : op = 4 := eq_of_beq ‹(op == 4) = true›
    rfl
  · exact (cmp_none op a b s k (by assumption) (by assumption) (by assumption) (by assumption) (by assumption) (by assumption) (by assumption) (by assumption) (by assumption) (by assumption) (by assumption)).1.symm
  · exact (cmp_none op a b s k (by assumption) (by assumption) (by assumption) (by assumption) (by assumption) (by assumption) (by assumption) (by assumption) (by assumption) (by assumption) (by assumption)).2.symm

theorem alu_any (op : Int) (wide : Bool) (a b : Int) (h1 : 0 ≤ a) (h2 : a ≤ 18446744073709551615) (h3 : 0 ≤ b) (h4 : b ≤ 18446744073709551615) (w : World) :
    Calls Tryz.prog 37 #[.int .i64 op, .bool wide, .int .u64 a, .int .u64 b] w fun e w' => e = .returned (.tuple #[.int .u64 (aluV op wide a b), .bool (aluOk op)]) ∧ w = w' := by
  cases wide
  · have HC := Lib.hid (code32 op a b)
    have hlo : 0 ≤ calcV op (a % 4294967296) (b % 4294967296) (wrap64 (wrap32 a)) (b % 32) ∧ calcV op (a % 4294967296) (b % 4294967296) (wrap64 (wrap32 a)) (b % 32) ≤ 18446744073709551615 := by
      refine calcV_bd _ _ _ _ _ ?_ ?_ ?_ ?_ <;> omega
    go_enter Tryz.func37, Tryz.ntmps37
    go_wp2_with (first | (go_at_call 94; refine (low32_any _ (by omega) (by omega) _).mono ?_; rintro e w' ⟨rfl, rfl⟩) | (go_at_call 95; refine (sig32_any _ h1 h2 _).mono ?_; rintro e w' ⟨rfl, rfl⟩) | (go_at_call 93; refine (calc_any _ _ _ _ _ (by omega) (by omega) (by omega) (by omega) (by omega) (by omega) _).mono ?_; rintro e w' ⟨rfl, rfl⟩))
    go_ret2
    exact ⟨ret_ib HC.out rfl, rfl⟩
  · have HC := Lib.hid (code64 op a b h1 h2 h3 h4)
    go_enter Tryz.func37, Tryz.ntmps37
    go_wp2_with (go_at_call 93; refine (calc_any _ _ _ _ _ (by omega) (by omega) (by omega) (by omega) (by omega) (by omega) _).mono ?_; rintro e w' ⟨rfl, rfl⟩)
    go_ret2
    exact ⟨ret_ib HC.out rfl, rfl⟩
theorem jump_any (op : Int) (wide : Bool) (a b : Int) (h1 : 0 ≤ a) (h2 : a ≤ 18446744073709551615) (h3 : 0 ≤ b) (h4 : b ≤ 18446744073709551615) (w : World) :
    Calls Tryz.prog 40 #[.int .i64 op, .bool wide, .int .u64 a, .int .u64 b] w fun e w' => e = .returned (.tuple #[.bool (jumpV op wide a b), .bool (jumpOk op)]) ∧ w = w' := by
  cases wide
  · have HA := Lib.hid (sgn32 a)
    have HB := Lib.hid (sgn32 b)
    go_enter Tryz.func40, Tryz.ntmps40
    go_wp2_with (first | (go_at_call 94; refine (low32_any _ (by omega) (by omega) _).mono ?_; rintro e w' ⟨rfl, rfl⟩) | (go_at_call 95; refine (sig32_any _ (by omega) (by omega) _).mono ?_; rintro e w' ⟨rfl, rfl⟩) | (go_at_call 99; refine (cmp_any _ _ _ _ _ (by omega) (by omega) (by omega) (by omega) _).mono ?_; rintro e w' ⟨rfl, rfl⟩))
    go_ret2
    exact ⟨ret_bb (by rw [HA.out, HB.out]; rfl) rfl, rfl⟩
  · have HA := Lib.hid (sgn64 a h1 h2)
    have HB := Lib.hid (sgn64 b h3 h4)
    go_enter Tryz.func40, Tryz.ntmps40
    go_wp2_with (go_at_call 99; refine (cmp_any _ _ _ _ _ (by omega) (by omega) (by omega) (by omega) _).mono ?_; rintro e w' ⟨rfl, rfl⟩)
    go_ret2
    exact ⟨ret_bb (by rw [HA.out, HB.out]; rfl) rfl, rfl⟩

end Go.Proofs.YtcimihckhobniaaGreat.L1
namespace Go.Proofs.YtcimihckhobniaaGreat.L1
open Go.RowKit Wd
set_option linter.unusedVariables false

def cutN (v k : Nat) : Nat := v % 2 ^ (8 * k)
end Go.Proofs.YtcimihckhobniaaGreat.L1
