/-
  The document's answer of layer 1, comparisons: lockgateref01's Jump is jumpV. Conditions: the numbers are of 64 bits.
-/
import Derived.Test.YtopgjjcljapjoaaWordRefC
namespace Go.Proofs.Ytopgjjcljapjoaa
open Go.RowKit Wd
set_option linter.unusedVariables false

theorem order_plain64 (a b : Int) (h1 : 0 ≤ a) (h2 : a ≤ 18446744073709551615) (h3 : 0 ≤ b) (h4 : b ≤ 18446744073709551615) (w : World) :
    Calls Try.prog 36 #[.int .u64 a, .int .u64 b, .int .i64 64, .bool false] w fun e w' => e = .returned (.int .i64 (ordV a b)) ∧ w = w' :=
  order_plain a b 64 h1 h2 h3 h4 (by omega) (lt64 a h2) (lt64 b h4) w
theorem order_sign64 (a b : Int) (h1 : 0 ≤ a) (h2 : a ≤ 18446744073709551615) (h3 : 0 ≤ b) (h4 : b ≤ 18446744073709551615) (w : World) :
    Calls Try.prog 36 #[.int .u64 a, .int .u64 b, .int .i64 64, .bool true] w fun e w' => e = .returned (.int .i64 (ordV (sgnW 64 a) (sgnW 64 b))) ∧ w = w' :=
  order_sign a b 64 h1 h2 h3 h4 (by omega) (by omega) (lt64 a h2) (lt64 b h4) w
theorem order_plain32 (a b : Int) (w : World) :
    Calls Try.prog 36 #[.int .u64 (a % 4294967296), .int .u64 (b % 4294967296), .int .i64 32, .bool false] w fun e w' => e = .returned (.int .i64 (ordV (a % 4294967296) (b % 4294967296))) ∧ w = w' :=
  order_plain _ _ 32 (by omega) (by omega) (by omega) (by omega) (by omega) (lt32 a) (lt32 b) w
theorem order_sign32 (a b : Int) (w : World) :
    Calls Try.prog 36 #[.int .u64 (a % 4294967296), .int .u64 (b % 4294967296), .int .i64 32, .bool true] w fun e w' => e = .returned (.int .i64 (ordV (sgnW 32 (a % 4294967296)) (sgnW 32 (b % 4294967296)))) ∧ w = w' :=
  order_sign _ _ 32 (by omega) (by omega) (by omega) (by omega) (by omega) (by omega) (lt32 a) (lt32 b) w
theorem refcmp_none (op a b s k : Int) (n1 : (op == 1) = false) (n2 : (op == 2) = false) (n3 : (op == 3) = false) (n4 : (op == 4) = false) (n5 : (op == 5) = false) (n6 : (op == 6) = false) (n7 : (op == 7) = false) (n10 : (op == 10) = false) (n11 : (op == 11) = false) (n12 : (op == 12) = false) (n13 : (op == 13) = false) : refCmp op a b s k = false ∧ jumpOk op = false := by
  replace n1 := ne_of_beq_false n1
  replace n2 := ne_of_beq_false n2
  replace n3 := ne_of_beq_false n3
  replace n4 := ne_of_beq_false n4
  replace n5 := ne_of_beq_false n5
  replace n6 := ne_of_beq_false n6
  replace n7 := ne_of_beq_false n7
  replace n10 := ne_of_beq_false n10
  replace n11 := ne_of_beq_false n11
  replace n12 := ne_of_beq_false n12
  replace n13 := ne_of_beq_false n13
  refine ⟨by simp only [refCmp, n1, n2, n3, n4, n5, n6, n7, n10, n11, n12, n13, if_false], ?_⟩
  unfold jumpOk; simp only [decide_eq_false_iff_not]; omega
set_option maxHeartbeats 2000000 in
theorem refjump64 (op a b : Int) (h1 : 0 ≤ a) (h2 : a ≤ 18446744073709551615) (h3 : 0 ≤ b) (h4 : b ≤ 18446744073709551615) (w : World) :
    Calls Try.prog 18 #[.int .i64 op, .bool true, .int .u64 a, .int .u64 b] w fun e w' => e = .returned (.tuple #[.bool (jumpV op true a b), .bool (jumpOk op)]) ∧ w = w' := by
  have HR := Lib.hid (refCmp_eq op a b (sgnW 64 a) (sgnW 64 b))
  have HJ := Lib.hid (show jumpV op true a b = cmpV op a b (sgnW 64 a) (sgnW 64 b) from rfl)
  go_enter Try.func18, Try.ntmps18
  go_wp2_with (first
    | (go_at_call 24; refine (low_64 _ (by omega) _).mono ?_; rintro e w' ⟨rfl, rfl⟩)
    | (go_at_call 36; ((with_reducible refine (order_plain64 _ _ h1 h2 h3 h4 _).mono ?_); rintro e w' ⟨rfl, rfl⟩))
    | (go_at_call 36; ((with_reducible refine (order_sign64 _ _ h1 h2 h3 h4 _).mono ?_); rintro e w' ⟨rfl, rfl⟩))
    | (go_at_call 29; refine (bits_and _ _ (by omega) (by omega) (by omega) (by omega) _).mono ?_; rintro e w' ⟨rfl, rfl⟩))
  all_goals go_ret2
  all_goals refine ⟨ret_bb ?_ ?_, rfl⟩
  · rw [HJ.out, ← HR.out]
    obtain rfl : op = 1 := eq_of_beq ‹(op == 1) = true›
    rfl
  · obtain rfl : op = 1 := eq_of_beq ‹(op == 1) = true›
    rfl
  · rw [HJ.out, ← HR.out]
    obtain rfl : op = 2 := eq_of_beq ‹(op == 2) = true›
    rfl
  · obtain rfl : op = 2 := eq_of_beq ‹(op == 2) = true›
    rfl
  · rw [HJ.out, ← HR.out]
    obtain rfl : op = 3 := eq_of_beq ‹(op == 3) = true›
    rfl
  · obtain rfl : op = 3 := eq_of_beq ‹(op == 3) = true›
    rfl
  · rw [HJ.out, ← HR.out]
    obtain rfl : op = 4 := eq_of_beq ‹(op == 4) = true›
    rfl
  · obtain rfl : op = 4 := eq_of_beq ‹(op == 4) = true›
    rfl
  · rw [HJ.out, ← HR.out]
    obtain rfl : op = 5 := eq_of_beq ‹(op == 5) = true›
    rfl
  · obtain rfl : op = 5 := eq_of_beq ‹(op == 5) = true›
    rfl
  · rw [HJ.out, ← HR.out]
    obtain rfl : op = 6 := eq_of_beq ‹(op == 6) = true›
    rfl
  · obtain rfl : op = 6 := eq_of_beq ‹(op == 6) = true›
    rfl
  · rw [HJ.out, ← HR.out]
    obtain rfl : op = 7 := eq_of_beq ‹(op == 7) = true›
    rfl
  · obtain rfl : op = 7 := eq_of_beq ‹(op == 7) = true›
    rfl
  · rw [HJ.out, ← HR.out]
    obtain rfl : op = 10 := eq_of_beq ‹(op == 10) = true›
    rfl
  · obtain rfl : op = 10 := eq_of_beq ‹(op == 10) = true›
    rfl
  · rw [HJ.out, ← HR.out]
    obtain rfl : op = 11 := eq_of_beq ‹(op == 11) = true›
    rfl
  · obtain rfl : op = 11 := eq_of_beq ‹(op == 11) = true›
    rfl
  · rw [HJ.out, ← HR.out]
    obtain rfl : op = 12 := eq_of_beq ‹(op == 12) = true›
    rfl
  · obtain rfl : op = 12 := eq_of_beq ‹(op == 12) = true›
    rfl
  · rw [HJ.out, ← HR.out]
    obtain rfl : op = 13 := eq_of_beq ‹(op == 13) = true›
    rfl
  · obtain rfl : op = 13 := eq_of_beq ‹(op == 13) = true›
    rfl
  · rw [HJ.out, ← HR.out]; exact (refcmp_none op _ _ _ _ (by assumption) (by assumption) (by assumption) (by assumption) (by assumption) (by assumption) (by assumption) (by assumption) (by assumption) (by assumption) (by assumption)).1.symm
  · exact (refcmp_none op a b a b (by assumption) (by assumption) (by assumption) (by assumption) (by assumption) (by assumption) (by assumption) (by assumption) (by assumption) (by assumption) (by assumption)).2.symm
set_option maxHeartbeats 2000000 in
theorem refjump32 (op a b : Int) (h1 : 0 ≤ a) (h2 : a ≤ 18446744073709551615) (h3 : 0 ≤ b) (h4 : b ≤ 18446744073709551615) (w : World) :
    Calls Try.prog 18 #[.int .i64 op, .bool false, .int .u64 a, .int .u64 b] w fun e w' => e = .returned (.tuple #[.bool (jumpV op false a b), .bool (jumpOk op)]) ∧ w = w' := by
  have HR := Lib.hid (refCmp_eq op (a % 4294967296) (b % 4294967296) (sgnW 32 (a % 4294967296)) (sgnW 32 (b % 4294967296)))
  have HJ := Lib.hid (show jumpV op false a b = cmpV op (a % 4294967296) (b % 4294967296) (sgnW 32 (a % 4294967296)) (sgnW 32 (b % 4294967296)) from rfl)
  go_enter Try.func18, Try.ntmps18
  go_wp2_with (first
    | (go_at_call 24; refine (low_32 _ (by omega) _).mono ?_; rintro e w' ⟨rfl, rfl⟩)
    | (go_at_call 36; ((with_reducible refine (order_plain32 _ _ _).mono ?_); rintro e w' ⟨rfl, rfl⟩))
    | (go_at_call 36; ((with_reducible refine (order_sign32 _ _ _).mono ?_); rintro e w' ⟨rfl, rfl⟩))
    | (go_at_call 29; refine (bits_and _ _ (by omega) (by omega) (by omega) (by omega) _).mono ?_; rintro e w' ⟨rfl, rfl⟩))
  all_goals go_ret2
  all_goals refine ⟨ret_bb ?_ ?_, rfl⟩
  · rw [HJ.out, ← HR.out]
    obtain rfl : op = 1 := eq_of_beq ‹(op == 1) = true›
    rfl
  · obtain rfl : op = 1 := eq_of_beq ‹(op == 1) = true›
    rfl
  · rw [HJ.out, ← HR.out]
    obtain rfl : op = 2 := eq_of_beq ‹(op == 2) = true›
    rfl
  · obtain rfl : op = 2 := eq_of_beq ‹(op == 2) = true›
    rfl
  · rw [HJ.out, ← HR.out]
    obtain rfl : op = 3 := eq_of_beq ‹(op == 3) = true›
    rfl
  · obtain rfl : op = 3 := eq_of_beq ‹(op == 3) = true›
    rfl
  · rw [HJ.out, ← HR.out]
    obtain rfl : op = 4 := eq_of_beq ‹(op == 4) = true›
    rfl
  · obtain rfl : op = 4 := eq_of_beq ‹(op == 4) = true›
    rfl
  · rw [HJ.out, ← HR.out]
    obtain rfl : op = 5 := eq_of_beq ‹(op == 5) = true›
    rfl
  · obtain rfl : op = 5 := eq_of_beq ‹(op == 5) = true›
    rfl
  · rw [HJ.out, ← HR.out]
    obtain rfl : op = 6 := eq_of_beq ‹(op == 6) = true›
    rfl
  · obtain rfl : op = 6 := eq_of_beq ‹(op == 6) = true›
    rfl
  · rw [HJ.out, ← HR.out]
    obtain rfl : op = 7 := eq_of_beq ‹(op == 7) = true›
    rfl
  · obtain rfl : op = 7 := eq_of_beq ‹(op == 7) = true›
    rfl
  · rw [HJ.out, ← HR.out]
    obtain rfl : op = 10 := eq_of_beq ‹(op == 10) = true›
    rfl
  · obtain rfl : op = 10 := eq_of_beq ‹(op == 10) = true›
    rfl
  · rw [HJ.out, ← HR.out]
    obtain rfl : op = 11 := eq_of_beq ‹(op == 11) = true›
    rfl
  · obtain rfl : op = 11 := eq_of_beq ‹(op == 11) = true›
    rfl
  · rw [HJ.out, ← HR.out]
    obtain rfl : op = 12 := eq_of_beq ‹(op == 12) = true›
    rfl
  · obtain rfl : op = 12 := eq_of_beq ‹(op == 12) = true›
    rfl
  · rw [HJ.out, ← HR.out]
    obtain rfl : op = 13 := eq_of_beq ‹(op == 13) = true›
    rfl
  · obtain rfl : op = 13 := eq_of_beq ‹(op == 13) = true›
    rfl
  · rw [HJ.out, ← HR.out]; exact (refcmp_none op _ _ _ _ (by assumption) (by assumption) (by assumption) (by assumption) (by assumption) (by assumption) (by assumption) (by assumption) (by assumption) (by assumption) (by assumption)).1.symm
  · exact (refcmp_none op a b a b (by assumption) (by assumption) (by assumption) (by assumption) (by assumption) (by assumption) (by assumption) (by assumption) (by assumption) (by assumption) (by assumption)).2.symm
theorem refjump_any (op : Int) (wide : Bool) (a b : Int) (h1 : 0 ≤ a) (h2 : a ≤ 18446744073709551615) (h3 : 0 ≤ b) (h4 : b ≤ 18446744073709551615) (w : World) :
    Calls Try.prog 18 #[.int .i64 op, .bool wide, .int .u64 a, .int .u64 b] w fun e w' => e = .returned (.tuple #[.bool (jumpV op wide a b), .bool (jumpOk op)]) ∧ w = w' := by
  cases wide
  · exact refjump32 op a b h1 h2 h3 h4 w
  · exact refjump64 op a b h1 h2 h3 h4 w
end Go.Proofs.Ytopgjjcljapjoaa
