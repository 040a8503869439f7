/-
  The document's answer of layer 1 as a whole: lockgateref01's Alu and Jump are aluV and jumpV. Conditions: the numbers are of 64 bits.
-/
import Derived.Test.YtopgjjcljapjoaaWordRefB
import Derived.Test.YtopgjjcljapjoaaWordCode
namespace Go.Proofs.Ytopgjjcljapjoaa
open Go.RowKit Wd
set_option linter.unusedVariables false

theorem low_64 (a : Int) (h1 : 0 ≤ a) (w : World) :
    Calls Try.prog 24 #[.int .u64 a, .int .i64 64] w fun e w' => e = .returned (.int .u64 a) ∧ w = w' := by
  go_enter Try.func24, Try.ntmps24
  go_wp2
  go_ret
  exact ⟨rfl, rfl⟩
theorem low_32 (a : Int) (h1 : 0 ≤ a) (w : World) :
    Calls Try.prog 24 #[.int .u64 a, .int .i64 32] w fun e w' => e = .returned (.int .u64 (a % 4294967296)) ∧ w = w' := by
  go_enter Try.func24, Try.ntmps24
  go_wp2
  go_ret
  exact ⟨rfl, rfl⟩
set_option maxHeartbeats 1000000 in
theorem refalu64_0 (a b : Int) (h1 : 0 ≤ a) (h2 : a ≤ 18446744073709551615) (h3 : 0 ≤ b) (h4 : b ≤ 18446744073709551615) (w : World) :
    Calls Try.prog 13 #[.int .i64 0, .bool true, .int .u64 a, .int .u64 b] w fun e w' => e = .returned (.tuple #[.int .u64 (aluV 0 true a b), .bool true]) ∧ w = w' := by
  go_enter Try.func13, Try.ntmps13
  go_wp2_with (first
    | (go_at_call 24; refine (low_64 _ (by first | omega | exact (addV_bd _ _ _).1 | exact (mulO_bd _ _ _).1 | exact wrap_lo _ | exact Int.natCast_nonneg _ | exact (downV_bd _ _ _ _ (by omega) (by omega) (by omega)).1 | exact Int.ediv_nonneg (by omega) (by omega) | exact Int.emod_nonneg _ (by omega)) _).mono ?_; rintro e w' ⟨rfl, rfl⟩)
    | (go_at_call 25; refine (add_any _ _ _ (by omega) (by omega) (by first | omega | (unfold notV; omega)) (by first | omega | (unfold notV; omega)) (by omega) (by omega) _).mono ?_; rintro e w' ⟨rfl, rfl⟩)
    | (go_at_call 26; refine (not_any _ (by omega) (by omega) _).mono ?_; rintro e w' ⟨rfl, rfl⟩)
    | (go_at_call 27; refine (times_any _ _ (by omega) (by omega) (by omega) (by omega) _).mono ?_; rintro e w' ⟨rfl, rfl⟩)
    | (go_at_call 28; refine (divide_any _ _ (by omega) (by omega) (by omega) (by omega) _).mono ?_; rintro e w' ⟨rfl, rfl⟩)
    | (go_at_call 29; refine (bits_or _ _ (by omega) (by omega) (by omega) (by omega) _).mono ?_; rintro e w' ⟨rfl, rfl⟩)
    | (go_at_call 30; refine (down_any _ _ _ _ (by omega) (by omega) (by omega) (by omega) (by omega) (by omega) (by omega) (by omega) _).mono ?_; rintro e w' ⟨rfl, rfl⟩)
    | (go_at_call 31; refine (bit_any _ _ (by omega) (by omega) (by omega) (by omega) _).mono ?_; rintro e w' ⟨rfl, rfl⟩))
  go_ret2
  exact ⟨ret_ib (wide0 a b) rfl, rfl⟩
set_option maxHeartbeats 1000000 in
theorem refalu64_1 (a b : Int) (h1 : 0 ≤ a) (h2 : a ≤ 18446744073709551615) (h3 : 0 ≤ b) (h4 : b ≤ 18446744073709551615) (w : World) :
    Calls Try.prog 13 #[.int .i64 1, .bool true, .int .u64 a, .int .u64 b] w fun e w' => e = .returned (.tuple #[.int .u64 (aluV 1 true a b), .bool true]) ∧ w = w' := by
  go_enter Try.func13, Try.ntmps13
  go_wp2_with (first
    | (go_at_call 24; refine (low_64 _ (by first | omega | exact (addV_bd _ _ _).1 | exact (mulO_bd _ _ _).1 | exact wrap_lo _ | exact Int.natCast_nonneg _ | exact (downV_bd _ _ _ _ (by omega) (by omega) (by omega)).1 | exact Int.ediv_nonneg (by omega) (by omega) | exact Int.emod_nonneg _ (by omega)) _).mono ?_; rintro e w' ⟨rfl, rfl⟩)
    | (go_at_call 25; refine (add_any _ _ _ (by omega) (by omega) (by first | omega | (unfold notV; omega)) (by first | omega | (unfold notV; omega)) (by omega) (by omega) _).mono ?_; rintro e w' ⟨rfl, rfl⟩)
    | (go_at_call 26; refine (not_any _ (by omega) (by omega) _).mono ?_; rintro e w' ⟨rfl, rfl⟩)
    | (go_at_call 27; refine (times_any _ _ (by omega) (by omega) (by omega) (by omega) _).mono ?_; rintro e w' ⟨rfl, rfl⟩)
    | (go_at_call 28; refine (divide_any _ _ (by omega) (by omega) (by omega) (by omega) _).mono ?_; rintro e w' ⟨rfl, rfl⟩)
    | (go_at_call 29; refine (bits_or _ _ (by omega) (by omega) (by omega) (by omega) _).mono ?_; rintro e w' ⟨rfl, rfl⟩)
    | (go_at_call 30; refine (down_any _ _ _ _ (by omega) (by omega) (by omega) (by omega) (by omega) (by omega) (by omega) (by omega) _).mono ?_; rintro e w' ⟨rfl, rfl⟩)
    | (go_at_call 31; refine (bit_any _ _ (by omega) (by omega) (by omega) (by omega) _).mono ?_; rintro e w' ⟨rfl, rfl⟩))
  go_ret2
  exact ⟨ret_ib (wide1 a b) rfl, rfl⟩
set_option maxHeartbeats 1000000 in
theorem refalu64_2 (a b : Int) (h1 : 0 ≤ a) (h2 : a ≤ 18446744073709551615) (h3 : 0 ≤ b) (h4 : b ≤ 18446744073709551615) (w : World) :
    Calls Try.prog 13 #[.int .i64 2, .bool true, .int .u64 a, .int .u64 b] w fun e w' => e = .returned (.tuple #[.int .u64 (aluV 2 true a b), .bool true]) ∧ w = w' := by
  go_enter Try.func13, Try.ntmps13
  go_wp2_with (first
    | (go_at_call 24; refine (low_64 _ (by first | omega | exact (addV_bd _ _ _).1 | exact (mulO_bd _ _ _).1 | exact wrap_lo _ | exact Int.natCast_nonneg _ | exact (downV_bd _ _ _ _ (by omega) (by omega) (by omega)).1 | exact Int.ediv_nonneg (by omega) (by omega) | exact Int.emod_nonneg _ (by omega)) _).mono ?_; rintro e w' ⟨rfl, rfl⟩)
    | (go_at_call 25; refine (add_any _ _ _ (by omega) (by omega) (by first | omega | (unfold notV; omega)) (by first | omega | (unfold notV; omega)) (by omega) (by omega) _).mono ?_; rintro e w' ⟨rfl, rfl⟩)
    | (go_at_call 26; refine (not_any _ (by omega) (by omega) _).mono ?_; rintro e w' ⟨rfl, rfl⟩)
    | (go_at_call 27; refine (times_any _ _ (by omega) (by omega) (by omega) (by omega) _).mono ?_; rintro e w' ⟨rfl, rfl⟩)
    | (go_at_call 28; refine (divide_any _ _ (by omega) (by omega) (by omega) (by omega) _).mono ?_; rintro e w' ⟨rfl, rfl⟩)
    | (go_at_call 29; refine (bits_or _ _ (by omega) (by omega) (by omega) (by omega) _).mono ?_; rintro e w' ⟨rfl, rfl⟩)
    | (go_at_call 30; refine (down_any _ _ _ _ (by omega) (by omega) (by omega) (by omega) (by omega) (by omega) (by omega) (by omega) _).mono ?_; rintro e w' ⟨rfl, rfl⟩)
    | (go_at_call 31; refine (bit_any _ _ (by omega) (by omega) (by omega) (by omega) _).mono ?_; rintro e w' ⟨rfl, rfl⟩))
  go_ret2
  exact ⟨ret_ib (wide2 a b h1 h2) rfl, rfl⟩
set_option maxHeartbeats 1000000 in
theorem refalu64_3 (a b : Int) (h1 : 0 ≤ a) (h2 : a ≤ 18446744073709551615) (h3 : 0 ≤ b) (h4 : b ≤ 18446744073709551615) (w : World) :
    Calls Try.prog 13 #[.int .i64 3, .bool true, .int .u64 a, .int .u64 b] w fun e w' => e = .returned (.tuple #[.int .u64 (aluV 3 true a b), .bool true]) ∧ w = w' := by
  by_cases hz : b = 0
  · subst hz
    go_enter Try.func13, Try.ntmps13
    go_wp2_with (first
      | (go_at_call 24; refine (low_64 _ (by first | omega | exact (addV_bd _ _ _).1 | exact (mulO_bd _ _ _).1 | exact wrap_lo _ | exact Int.natCast_nonneg _ | exact (downV_bd _ _ _ _ (by omega) (by omega) (by omega)).1 | exact Int.ediv_nonneg (by omega) (by omega) | exact Int.emod_nonneg _ (by omega)) _).mono ?_; rintro e w' ⟨rfl, rfl⟩)
      | (go_at_call 25; refine (add_any _ _ _ (by omega) (by omega) (by first | omega | (unfold notV; omega)) (by first | omega | (unfold notV; omega)) (by omega) (by omega) _).mono ?_; rintro e w' ⟨rfl, rfl⟩)
      | (go_at_call 26; refine (not_any _ (by omega) (by omega) _).mono ?_; rintro e w' ⟨rfl, rfl⟩)
      | (go_at_call 27; refine (times_any _ _ (by omega) (by omega) (by omega) (by omega) _).mono ?_; rintro e w' ⟨rfl, rfl⟩)
      | (go_at_call 28; refine (divide_any _ _ (by omega) (by omega) (by omega) (by omega) _).mono ?_; rintro e w' ⟨rfl, rfl⟩)
      | (go_at_call 29; refine (bits_or _ _ (by omega) (by omega) (by omega) (by omega) _).mono ?_; rintro e w' ⟨rfl, rfl⟩)
      | (go_at_call 30; refine (down_any _ _ _ _ (by omega) (by omega) (by omega) (by omega) (by omega) (by omega) (by omega) (by omega) _).mono ?_; rintro e w' ⟨rfl, rfl⟩)
      | (go_at_call 31; refine (bit_any _ _ (by omega) (by omega) (by omega) (by omega) _).mono ?_; rintro e w' ⟨rfl, rfl⟩))
    go_ret2
    exact ⟨ret_ib (wide3z a) rfl, rfl⟩
  · have hb1 : 1 ≤ b := by omega
    clear hz
    have ha := Int.emod_nonneg a (show b ≠ 0 by omega)
    have hd := Int.ediv_nonneg h1 h3
    go_enter Try.func13, Try.ntmps13
    go_wp2_with (first
      | (go_at_call 24; refine (low_64 _ (by first | omega | exact (addV_bd _ _ _).1 | exact (mulO_bd _ _ _).1 | exact wrap_lo _ | exact Int.natCast_nonneg _ | exact (downV_bd _ _ _ _ (by omega) (by omega) (by omega)).1 | exact Int.ediv_nonneg (by omega) (by omega) | exact Int.emod_nonneg _ (by omega)) _).mono ?_; rintro e w' ⟨rfl, rfl⟩)
      | (go_at_call 25; refine (add_any _ _ _ (by omega) (by omega) (by first | omega | (unfold notV; omega)) (by first | omega | (unfold notV; omega)) (by omega) (by omega) _).mono ?_; rintro e w' ⟨rfl, rfl⟩)
      | (go_at_call 26; refine (not_any _ (by omega) (by omega) _).mono ?_; rintro e w' ⟨rfl, rfl⟩)
      | (go_at_call 27; refine (times_any _ _ (by omega) (by omega) (by omega) (by omega) _).mono ?_; rintro e w' ⟨rfl, rfl⟩)
      | (go_at_call 28; refine (divide_any _ _ (by omega) (by omega) (by omega) (by omega) _).mono ?_; rintro e w' ⟨rfl, rfl⟩)
      | (go_at_call 29; refine (bits_or _ _ (by omega) (by omega) (by omega) (by omega) _).mono ?_; rintro e w' ⟨rfl, rfl⟩)
      | (go_at_call 30; refine (down_any _ _ _ _ (by omega) (by omega) (by omega) (by omega) (by omega) (by omega) (by omega) (by omega) _).mono ?_; rintro e w' ⟨rfl, rfl⟩)
      | (go_at_call 31; refine (bit_any _ _ (by omega) (by omega) (by omega) (by omega) _).mono ?_; rintro e w' ⟨rfl, rfl⟩))
    go_ret2
    exact ⟨ret_ib (wide3 a b hb1) rfl, rfl⟩
set_option maxHeartbeats 1000000 in
theorem refalu64_4 (a b : Int) (h1 : 0 ≤ a) (h2 : a ≤ 18446744073709551615) (h3 : 0 ≤ b) (h4 : b ≤ 18446744073709551615) (w : World) :
    Calls Try.prog 13 #[.int .i64 4, .bool true, .int .u64 a, .int .u64 b] w fun e w' => e = .returned (.tuple #[.int .u64 (aluV 4 true a b), .bool true]) ∧ w = w' := by
  go_enter Try.func13, Try.ntmps13
  go_wp2_with (first
    | (go_at_call 24; refine (low_64 _ (by first | omega | exact (addV_bd _ _ _).1 | exact (mulO_bd _ _ _).1 | exact wrap_lo _ | exact Int.natCast_nonneg _ | exact (downV_bd _ _ _ _ (by omega) (by omega) (by omega)).1 | exact Int.ediv_nonneg (by omega) (by omega) | exact Int.emod_nonneg _ (by omega)) _).mono ?_; rintro e w' ⟨rfl, rfl⟩)
    | (go_at_call 25; refine (add_any _ _ _ (by omega) (by omega) (by first | omega | (unfold notV; omega)) (by first | omega | (unfold notV; omega)) (by omega) (by omega) _).mono ?_; rintro e w' ⟨rfl, rfl⟩)
    | (go_at_call 26; refine (not_any _ (by omega) (by omega) _).mono ?_; rintro e w' ⟨rfl, rfl⟩)
    | (go_at_call 27; refine (times_any _ _ (by omega) (by omega) (by omega) (by omega) _).mono ?_; rintro e w' ⟨rfl, rfl⟩)
    | (go_at_call 28; refine (divide_any _ _ (by omega) (by omega) (by omega) (by omega) _).mono ?_; rintro e w' ⟨rfl, rfl⟩)
    | (go_at_call 29; refine (bits_or _ _ (by omega) (by omega) (by omega) (by omega) _).mono ?_; rintro e w' ⟨rfl, rfl⟩)
    | (go_at_call 30; refine (down_any _ _ _ _ (by omega) (by omega) (by omega) (by omega) (by omega) (by omega) (by omega) (by omega) _).mono ?_; rintro e w' ⟨rfl, rfl⟩)
    | (go_at_call 31; refine (bit_any _ _ (by omega) (by omega) (by omega) (by omega) _).mono ?_; rintro e w' ⟨rfl, rfl⟩))
  go_ret2
  exact ⟨ret_ib (rfl) rfl, rfl⟩
set_option maxHeartbeats 1000000 in
theorem refalu64_5 (a b : Int) (h1 : 0 ≤ a) (h2 : a ≤ 18446744073709551615) (h3 : 0 ≤ b) (h4 : b ≤ 18446744073709551615) (w : World) :
    Calls Try.prog 13 #[.int .i64 5, .bool true, .int .u64 a, .int .u64 b] w fun e w' => e = .returned (.tuple #[.int .u64 (aluV 5 true a b), .bool true]) ∧ w = w' := by
  go_enter Try.func13, Try.ntmps13
  go_wp2_with (first
    | (go_at_call 24; refine (low_64 _ (by first | omega | exact (addV_bd _ _ _).1 | exact (mulO_bd _ _ _).1 | exact wrap_lo _ | exact Int.natCast_nonneg _ | exact (downV_bd _ _ _ _ (by omega) (by omega) (by omega)).1 | exact Int.ediv_nonneg (by omega) (by omega) | exact Int.emod_nonneg _ (by omega)) _).mono ?_; rintro e w' ⟨rfl, rfl⟩)
    | (go_at_call 25; refine (add_any _ _ _ (by omega) (by omega) (by first | omega | (unfold notV; omega)) (by first | omega | (unfold notV; omega)) (by omega) (by omega) _).mono ?_; rintro e w' ⟨rfl, rfl⟩)
    | (go_at_call 26; refine (not_any _ (by omega) (by omega) _).mono ?_; rintro e w' ⟨rfl, rfl⟩)
    | (go_at_call 27; refine (times_any _ _ (by omega) (by omega) (by omega) (by omega) _).mono ?_; rintro e w' ⟨rfl, rfl⟩)
    | (go_at_call 28; refine (divide_any _ _ (by omega) (by omega) (by omega) (by omega) _).mono ?_; rintro e w' ⟨rfl, rfl⟩)
    | (go_at_call 29; refine (bits_and _ _ (by omega) (by omega) (by omega) (by omega) _).mono ?_; rintro e w' ⟨rfl, rfl⟩)
    | (go_at_call 30; refine (down_any _ _ _ _ (by omega) (by omega) (by omega) (by omega) (by omega) (by omega) (by omega) (by omega) _).mono ?_; rintro e w' ⟨rfl, rfl⟩)
    | (go_at_call 31; refine (bit_any _ _ (by omega) (by omega) (by omega) (by omega) _).mono ?_; rintro e w' ⟨rfl, rfl⟩))
  go_ret2
  exact ⟨ret_ib (rfl) rfl, rfl⟩
set_option maxHeartbeats 1000000 in
theorem refalu64_6 (a b : Int) (h1 : 0 ≤ a) (h2 : a ≤ 18446744073709551615) (h3 : 0 ≤ b) (h4 : b ≤ 18446744073709551615) (w : World) :
    Calls Try.prog 13 #[.int .i64 6, .bool true, .int .u64 a, .int .u64 b] w fun e w' => e = .returned (.tuple #[.int .u64 (aluV 6 true a b), .bool true]) ∧ w = w' := by
  go_enter Try.func13, Try.ntmps13
  go_wp2_with (first
    | (go_at_call 24; refine (low_64 _ (by first | omega | exact (addV_bd _ _ _).1 | exact (mulO_bd _ _ _).1 | exact wrap_lo _ | exact Int.natCast_nonneg _ | exact (downV_bd _ _ _ _ (by omega) (by omega) (by omega)).1 | exact Int.ediv_nonneg (by omega) (by omega) | exact Int.emod_nonneg _ (by omega)) _).mono ?_; rintro e w' ⟨rfl, rfl⟩)
    | (go_at_call 25; refine (add_any _ _ _ (by omega) (by omega) (by first | omega | (unfold notV; omega)) (by first | omega | (unfold notV; omega)) (by omega) (by omega) _).mono ?_; rintro e w' ⟨rfl, rfl⟩)
    | (go_at_call 26; refine (not_any _ (by omega) (by omega) _).mono ?_; rintro e w' ⟨rfl, rfl⟩)
    | (go_at_call 27; refine (times_any _ _ (by omega) (by omega) (by omega) (by omega) _).mono ?_; rintro e w' ⟨rfl, rfl⟩)
    | (go_at_call 28; refine (divide_any _ _ (by omega) (by omega) (by omega) (by omega) _).mono ?_; rintro e w' ⟨rfl, rfl⟩)
    | (go_at_call 29; refine (bits_or _ _ (by omega) (by omega) (by omega) (by omega) _).mono ?_; rintro e w' ⟨rfl, rfl⟩)
    | (go_at_call 30; refine (down_any _ _ _ _ (by omega) (by omega) (by omega) (by omega) (by omega) (by omega) (by omega) (by omega) _).mono ?_; rintro e w' ⟨rfl, rfl⟩)
    | (go_at_call 31; refine (bit_any _ _ (by omega) (by omega) (by omega) (by omega) _).mono ?_; rintro e w' ⟨rfl, rfl⟩))
  go_ret2
  exact ⟨ret_ib (wide6 a b) rfl, rfl⟩
set_option maxHeartbeats 1000000 in
theorem refalu64_7 (a b : Int) (h1 : 0 ≤ a) (h2 : a ≤ 18446744073709551615) (h3 : 0 ≤ b) (h4 : b ≤ 18446744073709551615) (w : World) :
    Calls Try.prog 13 #[.int .i64 7, .bool true, .int .u64 a, .int .u64 b] w fun e w' => e = .returned (.tuple #[.int .u64 (aluV 7 true a b), .bool true]) ∧ w = w' := by
  go_enter Try.func13, Try.ntmps13
  go_wp2_with (first
    | (go_at_call 24; refine (low_64 _ (by first | omega | exact (addV_bd _ _ _).1 | exact (mulO_bd _ _ _).1 | exact wrap_lo _ | exact Int.natCast_nonneg _ | exact (downV_bd _ _ _ _ (by omega) (by omega) (by omega)).1 | exact Int.ediv_nonneg (by omega) (by omega) | exact Int.emod_nonneg _ (by omega)) _).mono ?_; rintro e w' ⟨rfl, rfl⟩)
    | (go_at_call 25; refine (add_any _ _ _ (by omega) (by omega) (by first | omega | (unfold notV; omega)) (by first | omega | (unfold notV; omega)) (by omega) (by omega) _).mono ?_; rintro e w' ⟨rfl, rfl⟩)
    | (go_at_call 26; refine (not_any _ (by omega) (by omega) _).mono ?_; rintro e w' ⟨rfl, rfl⟩)
    | (go_at_call 27; refine (times_any _ _ (by omega) (by omega) (by omega) (by omega) _).mono ?_; rintro e w' ⟨rfl, rfl⟩)
    | (go_at_call 28; refine (divide_any _ _ (by omega) (by omega) (by omega) (by omega) _).mono ?_; rintro e w' ⟨rfl, rfl⟩)
    | (go_at_call 29; refine (bits_or _ _ (by omega) (by omega) (by omega) (by omega) _).mono ?_; rintro e w' ⟨rfl, rfl⟩)
    | (go_at_call 30; refine (down_any _ _ _ _ (by omega) (by omega) (by omega) (by omega) (by omega) (by omega) (by omega) (by omega) _).mono ?_; rintro e w' ⟨rfl, rfl⟩)
    | (go_at_call 31; refine (bit_any _ _ (by omega) (by omega) (by omega) (by omega) _).mono ?_; rintro e w' ⟨rfl, rfl⟩))
  go_ret2
  exact ⟨ret_ib (wide7 a b h1 h2) rfl, rfl⟩
set_option maxHeartbeats 1000000 in
theorem refalu64_8 (a b : Int) (h1 : 0 ≤ a) (h2 : a ≤ 18446744073709551615) (h3 : 0 ≤ b) (h4 : b ≤ 18446744073709551615) (w : World) :
    Calls Try.prog 13 #[.int .i64 8, .bool true, .int .u64 a, .int .u64 b] w fun e w' => e = .returned (.tuple #[.int .u64 (aluV 8 true a b), .bool true]) ∧ w = w' := by
  go_enter Try.func13, Try.ntmps13
  go_wp2_with (first
    | (go_at_call 24; refine (low_64 _ (by first | omega | exact (addV_bd _ _ _).1 | exact (mulO_bd _ _ _).1 | exact wrap_lo _ | exact Int.natCast_nonneg _ | exact (downV_bd _ _ _ _ (by omega) (by omega) (by omega)).1 | exact Int.ediv_nonneg (by omega) (by omega) | exact Int.emod_nonneg _ (by omega)) _).mono ?_; rintro e w' ⟨rfl, rfl⟩)
    | (go_at_call 25; refine (add_any _ _ _ (by omega) (by omega) (by first | omega | (unfold notV; omega)) (by first | omega | (unfold notV; omega)) (by omega) (by omega) _).mono ?_; rintro e w' ⟨rfl, rfl⟩)
    | (go_at_call 26; refine (not_any _ (by omega) (by omega) _).mono ?_; rintro e w' ⟨rfl, rfl⟩)
    | (go_at_call 27; refine (times_any _ _ (by omega) (by omega) (by omega) (by omega) _).mono ?_; rintro e w' ⟨rfl, rfl⟩)
    | (go_at_call 28; refine (divide_any _ _ (by omega) (by omega) (by omega) (by omega) _).mono ?_; rintro e w' ⟨rfl, rfl⟩)
    | (go_at_call 29; refine (bits_or _ _ (by omega) (by omega) (by omega) (by omega) _).mono ?_; rintro e w' ⟨rfl, rfl⟩)
    | (go_at_call 30; refine (down_any _ _ _ _ (by omega) (by omega) (by omega) (by omega) (by omega) (by omega) (by omega) (by omega) _).mono ?_; rintro e w' ⟨rfl, rfl⟩)
    | (go_at_call 31; refine (bit_any _ _ (by omega) (by omega) (by omega) (by omega) _).mono ?_; rintro e w' ⟨rfl, rfl⟩))
  go_ret2
  exact ⟨ret_ib (wide8 a b) rfl, rfl⟩
set_option maxHeartbeats 1000000 in
theorem refalu64_9 (a b : Int) (h1 : 0 ≤ a) (h2 : a ≤ 18446744073709551615) (h3 : 0 ≤ b) (h4 : b ≤ 18446744073709551615) (w : World) :
    Calls Try.prog 13 #[.int .i64 9, .bool true, .int .u64 a, .int .u64 b] w fun e w' => e = .returned (.tuple #[.int .u64 (aluV 9 true a b), .bool true]) ∧ w = w' := by
  by_cases hz : b = 0
  · subst hz
    go_enter Try.func13, Try.ntmps13
    go_wp2_with (first
      | (go_at_call 24; refine (low_64 _ (by first | omega | exact (addV_bd _ _ _).1 | exact (mulO_bd _ _ _).1 | exact wrap_lo _ | exact Int.natCast_nonneg _ | exact (downV_bd _ _ _ _ (by omega) (by omega) (by omega)).1 | exact Int.ediv_nonneg (by omega) (by omega) | exact Int.emod_nonneg _ (by omega)) _).mono ?_; rintro e w' ⟨rfl, rfl⟩)
      | (go_at_call 25; refine (add_any _ _ _ (by omega) (by omega) (by first | omega | (unfold notV; omega)) (by first | omega | (unfold notV; omega)) (by omega) (by omega) _).mono ?_; rintro e w' ⟨rfl, rfl⟩)
      | (go_at_call 26; refine (not_any _ (by omega) (by omega) _).mono ?_; rintro e w' ⟨rfl, rfl⟩)
      | (go_at_call 27; refine (times_any _ _ (by omega) (by omega) (by omega) (by omega) _).mono ?_; rintro e w' ⟨rfl, rfl⟩)
      | (go_at_call 28; refine (divide_any _ _ (by omega) (by omega) (by omega) (by omega) _).mono ?_; rintro e w' ⟨rfl, rfl⟩)
      | (go_at_call 29; refine (bits_or _ _ (by omega) (by omega) (by omega) (by omega) _).mono ?_; rintro e w' ⟨rfl, rfl⟩)
      | (go_at_call 30; refine (down_any _ _ _ _ (by omega) (by omega) (by omega) (by omega) (by omega) (by omega) (by omega) (by omega) _).mono ?_; rintro e w' ⟨rfl, rfl⟩)
      | (go_at_call 31; refine (bit_any _ _ (by omega) (by omega) (by omega) (by omega) _).mono ?_; rintro e w' ⟨rfl, rfl⟩))
    go_ret2
    exact ⟨ret_ib (wide9z a) rfl, rfl⟩
  · have hb1 : 1 ≤ b := by omega
    clear hz
    have ha := Int.emod_nonneg a (show b ≠ 0 by omega)
    have hd := Int.ediv_nonneg h1 h3
    go_enter Try.func13, Try.ntmps13
    go_wp2_with (first
      | (go_at_call 24; refine (low_64 _ (by first | omega | exact (addV_bd _ _ _).1 | exact (mulO_bd _ _ _).1 | exact wrap_lo _ | exact Int.natCast_nonneg _ | exact (downV_bd _ _ _ _ (by omega) (by omega) (by omega)).1 | exact Int.ediv_nonneg (by omega) (by omega) | exact Int.emod_nonneg _ (by omega)) _).mono ?_; rintro e w' ⟨rfl, rfl⟩)
      | (go_at_call 25; refine (add_any _ _ _ (by omega) (by omega) (by first | omega | (unfold notV; omega)) (by first | omega | (unfold notV; omega)) (by omega) (by omega) _).mono ?_; rintro e w' ⟨rfl, rfl⟩)
      | (go_at_call 26; refine (not_any _ (by omega) (by omega) _).mono ?_; rintro e w' ⟨rfl, rfl⟩)
      | (go_at_call 27; refine (times_any _ _ (by omega) (by omega) (by omega) (by omega) _).mono ?_; rintro e w' ⟨rfl, rfl⟩)
      | (go_at_call 28; refine (divide_any _ _ (by omega) (by omega) (by omega) (by omega) _).mono ?_; rintro e w' ⟨rfl, rfl⟩)
      | (go_at_call 29; refine (bits_or _ _ (by omega) (by omega) (by omega) (by omega) _).mono ?_; rintro e w' ⟨rfl, rfl⟩)
      | (go_at_call 30; refine (down_any _ _ _ _ (by omega) (by omega) (by omega) (by omega) (by omega) (by omega) (by omega) (by omega) _).mono ?_; rintro e w' ⟨rfl, rfl⟩)
      | (go_at_call 31; refine (bit_any _ _ (by omega) (by omega) (by omega) (by omega) _).mono ?_; rintro e w' ⟨rfl, rfl⟩))
    go_ret2
    exact ⟨ret_ib (wide9 a b hb1) rfl, rfl⟩
set_option maxHeartbeats 1000000 in
theorem refalu64_10 (a b : Int) (h1 : 0 ≤ a) (h2 : a ≤ 18446744073709551615) (h3 : 0 ≤ b) (h4 : b ≤ 18446744073709551615) (w : World) :
    Calls Try.prog 13 #[.int .i64 10, .bool true, .int .u64 a, .int .u64 b] w fun e w' => e = .returned (.tuple #[.int .u64 (aluV 10 true a b), .bool true]) ∧ w = w' := by
  go_enter Try.func13, Try.ntmps13
  go_wp2_with (first
    | (go_at_call 24; refine (low_64 _ (by first | omega | exact (addV_bd _ _ _).1 | exact (mulO_bd _ _ _).1 | exact wrap_lo _ | exact Int.natCast_nonneg _ | exact (downV_bd _ _ _ _ (by omega) (by omega) (by omega)).1 | exact Int.ediv_nonneg (by omega) (by omega) | exact Int.emod_nonneg _ (by omega)) _).mono ?_; rintro e w' ⟨rfl, rfl⟩)
    | (go_at_call 25; refine (add_any _ _ _ (by omega) (by omega) (by first | omega | (unfold notV; omega)) (by first | omega | (unfold notV; omega)) (by omega) (by omega) _).mono ?_; rintro e w' ⟨rfl, rfl⟩)
    | (go_at_call 26; refine (not_any _ (by omega) (by omega) _).mono ?_; rintro e w' ⟨rfl, rfl⟩)
    | (go_at_call 27; refine (times_any _ _ (by omega) (by omega) (by omega) (by omega) _).mono ?_; rintro e w' ⟨rfl, rfl⟩)
    | (go_at_call 28; refine (divide_any _ _ (by omega) (by omega) (by omega) (by omega) _).mono ?_; rintro e w' ⟨rfl, rfl⟩)
    | (go_at_call 29; refine (bits_xor _ _ (by omega) (by omega) (by omega) (by omega) _).mono ?_; rintro e w' ⟨rfl, rfl⟩)
    | (go_at_call 30; refine (down_any _ _ _ _ (by omega) (by omega) (by omega) (by omega) (by omega) (by omega) (by omega) (by omega) _).mono ?_; rintro e w' ⟨rfl, rfl⟩)
    | (go_at_call 31; refine (bit_any _ _ (by omega) (by omega) (by omega) (by omega) _).mono ?_; rintro e w' ⟨rfl, rfl⟩))
  go_ret2
  exact ⟨ret_ib (rfl) rfl, rfl⟩
set_option maxHeartbeats 1000000 in
theorem refalu64_11 (a b : Int) (h1 : 0 ≤ a) (h2 : a ≤ 18446744073709551615) (h3 : 0 ≤ b) (h4 : b ≤ 18446744073709551615) (w : World) :
    Calls Try.prog 13 #[.int .i64 11, .bool true, .int .u64 a, .int .u64 b] w fun e w' => e = .returned (.tuple #[.int .u64 (aluV 11 true a b), .bool true]) ∧ w = w' := by
  go_enter Try.func13, Try.ntmps13
  go_wp2_with (first
    | (go_at_call 24; refine (low_64 _ (by first | omega | exact (addV_bd _ _ _).1 | exact (mulO_bd _ _ _).1 | exact wrap_lo _ | exact Int.natCast_nonneg _ | exact (downV_bd _ _ _ _ (by omega) (by omega) (by omega)).1 | exact Int.ediv_nonneg (by omega) (by omega) | exact Int.emod_nonneg _ (by omega)) _).mono ?_; rintro e w' ⟨rfl, rfl⟩)
    | (go_at_call 25; refine (add_any _ _ _ (by omega) (by omega) (by first | omega | (unfold notV; omega)) (by first | omega | (unfold notV; omega)) (by omega) (by omega) _).mono ?_; rintro e w' ⟨rfl, rfl⟩)
    | (go_at_call 26; refine (not_any _ (by omega) (by omega) _).mono ?_; rintro e w' ⟨rfl, rfl⟩)
    | (go_at_call 27; refine (times_any _ _ (by omega) (by omega) (by omega) (by omega) _).mono ?_; rintro e w' ⟨rfl, rfl⟩)
    | (go_at_call 28; refine (divide_any _ _ (by omega) (by omega) (by omega) (by omega) _).mono ?_; rintro e w' ⟨rfl, rfl⟩)
    | (go_at_call 29; refine (bits_or _ _ (by omega) (by omega) (by omega) (by omega) _).mono ?_; rintro e w' ⟨rfl, rfl⟩)
    | (go_at_call 30; refine (down_any _ _ _ _ (by omega) (by omega) (by omega) (by omega) (by omega) (by omega) (by omega) (by omega) _).mono ?_; rintro e w' ⟨rfl, rfl⟩)
    | (go_at_call 31; refine (bit_any _ _ (by omega) (by omega) (by omega) (by omega) _).mono ?_; rintro e w' ⟨rfl, rfl⟩))
  go_ret2
  exact ⟨ret_ib (rfl) rfl, rfl⟩
set_option maxHeartbeats 1000000 in
theorem refalu64_12 (a b : Int) (h1 : 0 ≤ a) (h2 : a ≤ 18446744073709551615) (h3 : 0 ≤ b) (h4 : b ≤ 18446744073709551615) (w : World) :
    Calls Try.prog 13 #[.int .i64 12, .bool true, .int .u64 a, .int .u64 b] w fun e w' => e = .returned (.tuple #[.int .u64 (aluV 12 true a b), .bool true]) ∧ w = w' := by
  have hbit := bitV_bd a 63
  go_enter Try.func13, Try.ntmps13
  go_wp2_with (first
    | (go_at_call 24; refine (low_64 _ (by first | omega | exact (addV_bd _ _ _).1 | exact (mulO_bd _ _ _).1 | exact wrap_lo _ | exact Int.natCast_nonneg _ | exact (downV_bd _ _ _ _ (by omega) (by omega) (by omega)).1 | exact Int.ediv_nonneg (by omega) (by omega) | exact Int.emod_nonneg _ (by omega)) _).mono ?_; rintro e w' ⟨rfl, rfl⟩)
    | (go_at_call 25; refine (add_any _ _ _ (by omega) (by omega) (by first | omega | (unfold notV; omega)) (by first | omega | (unfold notV; omega)) (by omega) (by omega) _).mono ?_; rintro e w' ⟨rfl, rfl⟩)
    | (go_at_call 26; refine (not_any _ (by omega) (by omega) _).mono ?_; rintro e w' ⟨rfl, rfl⟩)
    | (go_at_call 27; refine (times_any _ _ (by omega) (by omega) (by omega) (by omega) _).mono ?_; rintro e w' ⟨rfl, rfl⟩)
    | (go_at_call 28; refine (divide_any _ _ (by omega) (by omega) (by omega) (by omega) _).mono ?_; rintro e w' ⟨rfl, rfl⟩)
    | (go_at_call 29; refine (bits_or _ _ (by omega) (by omega) (by omega) (by omega) _).mono ?_; rintro e w' ⟨rfl, rfl⟩)
    | (go_at_call 30; refine (down_any _ _ _ _ (by omega) (by omega) (by omega) (by omega) (by omega) (by omega) (by omega) (by omega) _).mono ?_; rintro e w' ⟨rfl, rfl⟩)
    | (go_at_call 31; refine (bit_any _ _ (by omega) (by omega) (by omega) (by omega) _).mono ?_; rintro e w' ⟨rfl, rfl⟩))
  go_ret2
  exact ⟨ret_ib (wide12 a b h1 h2) rfl, rfl⟩
set_option maxHeartbeats 1000000 in
theorem refalu64_none (op a b : Int) (h1 : 0 ≤ a) (h2 : a ≤ 18446744073709551615) (h3 : 0 ≤ b) (h4 : b ≤ 18446744073709551615) (h : aluOk op = false) (w : World) :
    Calls Try.prog 13 #[.int .i64 op, .bool true, .int .u64 a, .int .u64 b] w fun e w' => e = .returned (.tuple #[.int .u64 (aluV op true a b), .bool false]) ∧ w = w' := by
  have HN := Lib.hid (aluV_none op true a b h)
  have hn : ¬ (0 ≤ op ∧ op ≤ 12) := by simpa [aluOk] using h
  clear h
  have n0 : (op == 0) = false := by simp; omega
  have n1 : (op == 1) = false := by simp; omega
  have n2 : (op == 2) = false := by simp; omega
  have n3 : (op == 3) = false := by simp; omega
  have n4 : (op == 4) = false := by simp; omega
  have n5 : (op == 5) = false := by simp; omega
  have n6 : (op == 6) = false := by simp; omega
  have n7 : (op == 7) = false := by simp; omega
  have n8 : (op == 8) = false := by simp; omega
  have n9 : (op == 9) = false := by simp; omega
  have n10 : (op == 10) = false := by simp; omega
  have n11 : (op == 11) = false := by simp; omega
  have n12 : (op == 12) = false := by simp; omega
  clear hn
  go_enter Try.func13, Try.ntmps13
  go_wp2_with (first
      | (go_at_call 24; refine (low_64 _ (by first | omega | exact (addV_bd _ _ _).1 | exact (mulO_bd _ _ _).1 | exact wrap_lo _ | exact Int.natCast_nonneg _ | exact (downV_bd _ _ _ _ (by omega) (by omega) (by omega)).1 | exact Int.ediv_nonneg (by omega) (by omega) | exact Int.emod_nonneg _ (by omega)) _).mono ?_; rintro e w' ⟨rfl, rfl⟩)
      | (go_at_call 25; refine (add_any _ _ _ (by omega) (by omega) (by first | omega | (unfold notV; omega)) (by first | omega | (unfold notV; omega)) (by omega) (by omega) _).mono ?_; rintro e w' ⟨rfl, rfl⟩)
      | (go_at_call 26; refine (not_any _ (by omega) (by omega) _).mono ?_; rintro e w' ⟨rfl, rfl⟩)
      | (go_at_call 27; refine (times_any _ _ (by omega) (by omega) (by omega) (by omega) _).mono ?_; rintro e w' ⟨rfl, rfl⟩)
      | (go_at_call 28; refine (divide_any _ _ (by omega) (by omega) (by omega) (by omega) _).mono ?_; rintro e w' ⟨rfl, rfl⟩)
      | (go_at_call 29; refine (bits_or _ _ (by omega) (by omega) (by omega) (by omega) _).mono ?_; rintro e w' ⟨rfl, rfl⟩)
      | (go_at_call 30; refine (down_any _ _ _ _ (by omega) (by omega) (by omega) (by omega) (by omega) (by omega) (by omega) (by omega) _).mono ?_; rintro e w' ⟨rfl, rfl⟩)
      | (go_at_call 31; refine (bit_any _ _ (by omega) (by omega) (by omega) (by omega) _).mono ?_; rintro e w' ⟨rfl, rfl⟩))
  go_ret2
  exact ⟨ret_ib HN.out.symm rfl, rfl⟩
set_option maxHeartbeats 1000000 in
theorem refalu32_0 (a b : Int) (h1 : 0 ≤ a) (h2 : a ≤ 18446744073709551615) (h3 : 0 ≤ b) (h4 : b ≤ 18446744073709551615) (w : World) :
    Calls Try.prog 13 #[.int .i64 0, .bool false, .int .u64 a, .int .u64 b] w fun e w' => e = .returned (.tuple #[.int .u64 (aluV 0 false a b), .bool true]) ∧ w = w' := by
  go_enter Try.func13, Try.ntmps13
  go_wp2_with (first
    | (go_at_call 24; refine (low_32 _ (by first | omega | exact (addV_bd _ _ _).1 | exact (mulO_bd _ _ _).1 | exact wrap_lo _ | exact Int.natCast_nonneg _ | exact (downV_bd _ _ _ _ (by omega) (by omega) (by omega)).1 | exact Int.ediv_nonneg (by omega) (by omega) | exact Int.emod_nonneg _ (by omega)) _).mono ?_; rintro e w' ⟨rfl, rfl⟩)
    | (go_at_call 25; refine (add_any _ _ _ (by omega) (by omega) (by first | omega | (unfold notV; omega)) (by first | omega | (unfold notV; omega)) (by omega) (by omega) _).mono ?_; rintro e w' ⟨rfl, rfl⟩)
    | (go_at_call 26; refine (not_any _ (by omega) (by omega) _).mono ?_; rintro e w' ⟨rfl, rfl⟩)
    | (go_at_call 27; refine (times_any _ _ (by omega) (by omega) (by omega) (by omega) _).mono ?_; rintro e w' ⟨rfl, rfl⟩)
    | (go_at_call 28; refine (divide_any _ _ (by omega) (by omega) (by omega) (by omega) _).mono ?_; rintro e w' ⟨rfl, rfl⟩)
    | (go_at_call 29; refine (bits_or _ _ (by omega) (by omega) (by omega) (by omega) _).mono ?_; rintro e w' ⟨rfl, rfl⟩)
    | (go_at_call 30; refine (down_any _ _ _ _ (by omega) (by omega) (by omega) (by omega) (by omega) (by omega) (by omega) (by omega) _).mono ?_; rintro e w' ⟨rfl, rfl⟩)
    | (go_at_call 31; refine (bit_any _ _ (by omega) (by omega) (by omega) (by omega) _).mono ?_; rintro e w' ⟨rfl, rfl⟩))
  go_ret2
  exact ⟨ret_ib (thin0 a b) rfl, rfl⟩
set_option maxHeartbeats 1000000 in
theorem refalu32_1 (a b : Int) (h1 : 0 ≤ a) (h2 : a ≤ 18446744073709551615) (h3 : 0 ≤ b) (h4 : b ≤ 18446744073709551615) (w : World) :
    Calls Try.prog 13 #[.int .i64 1, .bool false, .int .u64 a, .int .u64 b] w fun e w' => e = .returned (.tuple #[.int .u64 (aluV 1 false a b), .bool true]) ∧ w = w' := by
  go_enter Try.func13, Try.ntmps13
  go_wp2_with (first
    | (go_at_call 24; refine (low_32 _ (by first | omega | exact (addV_bd _ _ _).1 | exact (mulO_bd _ _ _).1 | exact wrap_lo _ | exact Int.natCast_nonneg _ | exact (downV_bd _ _ _ _ (by omega) (by omega) (by omega)).1 | exact Int.ediv_nonneg (by omega) (by omega) | exact Int.emod_nonneg _ (by omega)) _).mono ?_; rintro e w' ⟨rfl, rfl⟩)
    | (go_at_call 25; refine (add_any _ _ _ (by omega) (by omega) (by first | omega | (unfold notV; omega)) (by first | omega | (unfold notV; omega)) (by omega) (by omega) _).mono ?_; rintro e w' ⟨rfl, rfl⟩)
    | (go_at_call 26; refine (not_any _ (by omega) (by omega) _).mono ?_; rintro e w' ⟨rfl, rfl⟩)
    | (go_at_call 27; refine (times_any _ _ (by omega) (by omega) (by omega) (by omega) _).mono ?_; rintro e w' ⟨rfl, rfl⟩)
    | (go_at_call 28; refine (divide_any _ _ (by omega) (by omega) (by omega) (by omega) _).mono ?_; rintro e w' ⟨rfl, rfl⟩)
    | (go_at_call 29; refine (bits_or _ _ (by omega) (by omega) (by omega) (by omega) _).mono ?_; rintro e w' ⟨rfl, rfl⟩)
    | (go_at_call 30; refine (down_any _ _ _ _ (by omega) (by omega) (by omega) (by omega) (by omega) (by omega) (by omega) (by omega) _).mono ?_; rintro e w' ⟨rfl, rfl⟩)
    | (go_at_call 31; refine (bit_any _ _ (by omega) (by omega) (by omega) (by omega) _).mono ?_; rintro e w' ⟨rfl, rfl⟩))
  go_ret2
  exact ⟨ret_ib (thin1 a b) rfl, rfl⟩
set_option maxHeartbeats 1000000 in
theorem refalu32_2 (a b : Int) (h1 : 0 ≤ a) (h2 : a ≤ 18446744073709551615) (h3 : 0 ≤ b) (h4 : b ≤ 18446744073709551615) (w : World) :
    Calls Try.prog 13 #[.int .i64 2, .bool false, .int .u64 a, .int .u64 b] w fun e w' => e = .returned (.tuple #[.int .u64 (aluV 2 false a b), .bool true]) ∧ w = w' := by
  go_enter Try.func13, Try.ntmps13
  go_wp2_with (first
    | (go_at_call 24; refine (low_32 _ (by first | omega | exact (addV_bd _ _ _).1 | exact (mulO_bd _ _ _).1 | exact wrap_lo _ | exact Int.natCast_nonneg _ | exact (downV_bd _ _ _ _ (by omega) (by omega) (by omega)).1 | exact Int.ediv_nonneg (by omega) (by omega) | exact Int.emod_nonneg _ (by omega)) _).mono ?_; rintro e w' ⟨rfl, rfl⟩)
    | (go_at_call 25; refine (add_any _ _ _ (by omega) (by omega) (by first | omega | (unfold notV; omega)) (by first | omega | (unfold notV; omega)) (by omega) (by omega) _).mono ?_; rintro e w' ⟨rfl, rfl⟩)
    | (go_at_call 26; refine (not_any _ (by omega) (by omega) _).mono ?_; rintro e w' ⟨rfl, rfl⟩)
    | (go_at_call 27; refine (times_any _ _ (by omega) (by omega) (by omega) (by omega) _).mono ?_; rintro e w' ⟨rfl, rfl⟩)
    | (go_at_call 28; refine (divide_any _ _ (by omega) (by omega) (by omega) (by omega) _).mono ?_; rintro e w' ⟨rfl, rfl⟩)
    | (go_at_call 29; refine (bits_or _ _ (by omega) (by omega) (by omega) (by omega) _).mono ?_; rintro e w' ⟨rfl, rfl⟩)
    | (go_at_call 30; refine (down_any _ _ _ _ (by omega) (by omega) (by omega) (by omega) (by omega) (by omega) (by omega) (by omega) _).mono ?_; rintro e w' ⟨rfl, rfl⟩)
    | (go_at_call 31; refine (bit_any _ _ (by omega) (by omega) (by omega) (by omega) _).mono ?_; rintro e w' ⟨rfl, rfl⟩))
  go_ret2
  exact ⟨ret_ib (thin2 a b) rfl, rfl⟩
set_option maxHeartbeats 1000000 in
theorem refalu32_3 (a b : Int) (h1 : 0 ≤ a) (h2 : a ≤ 18446744073709551615) (h3 : 0 ≤ b) (h4 : b ≤ 18446744073709551615) (w : World) :
    Calls Try.prog 13 #[.int .i64 3, .bool false, .int .u64 a, .int .u64 b] w fun e w' => e = .returned (.tuple #[.int .u64 (aluV 3 false a b), .bool true]) ∧ w = w' := by
  by_cases hz : b % 4294967296 = 0
  · have HZ := Lib.hid hz
    have hb0 : decide (0 < b % 4294967296) = false := by simp; omega
    clear hz
    go_enter Try.func13, Try.ntmps13
    go_wp2_with (first
      | (go_at_call 24; refine (low_32 _ (by first | omega | exact (addV_bd _ _ _).1 | exact (mulO_bd _ _ _).1 | exact wrap_lo _ | exact Int.natCast_nonneg _ | exact (downV_bd _ _ _ _ (by omega) (by omega) (by omega)).1 | exact Int.ediv_nonneg (by omega) (by omega) | exact Int.emod_nonneg _ (by omega)) _).mono ?_; rintro e w' ⟨rfl, rfl⟩)
      | (go_at_call 25; refine (add_any _ _ _ (by omega) (by omega) (by first | omega | (unfold notV; omega)) (by first | omega | (unfold notV; omega)) (by omega) (by omega) _).mono ?_; rintro e w' ⟨rfl, rfl⟩)
      | (go_at_call 26; refine (not_any _ (by omega) (by omega) _).mono ?_; rintro e w' ⟨rfl, rfl⟩)
      | (go_at_call 27; refine (times_any _ _ (by omega) (by omega) (by omega) (by omega) _).mono ?_; rintro e w' ⟨rfl, rfl⟩)
      | (go_at_call 28; refine (divide_any _ _ (by omega) (by omega) (by omega) (by omega) _).mono ?_; rintro e w' ⟨rfl, rfl⟩)
      | (go_at_call 29; refine (bits_or _ _ (by omega) (by omega) (by omega) (by omega) _).mono ?_; rintro e w' ⟨rfl, rfl⟩)
      | (go_at_call 30; refine (down_any _ _ _ _ (by omega) (by omega) (by omega) (by omega) (by omega) (by omega) (by omega) (by omega) _).mono ?_; rintro e w' ⟨rfl, rfl⟩)
      | (go_at_call 31; refine (bit_any _ _ (by omega) (by omega) (by omega) (by omega) _).mono ?_; rintro e w' ⟨rfl, rfl⟩))
    go_ret2
    exact ⟨ret_ib (thin3z a b HZ.out) rfl, rfl⟩
  · have hb1 : 1 ≤ b % 4294967296 := by omega
    clear hz
    have ha := Int.emod_nonneg (a % 4294967296) (show b % 4294967296 ≠ 0 by omega)
    have hd := Int.ediv_nonneg (show 0 ≤ a % 4294967296 by omega) (show 0 ≤ b % 4294967296 by omega)
    go_enter Try.func13, Try.ntmps13
    go_wp2_with (first
      | (go_at_call 24; refine (low_32 _ (by first | omega | exact (addV_bd _ _ _).1 | exact (mulO_bd _ _ _).1 | exact wrap_lo _ | exact Int.natCast_nonneg _ | exact (downV_bd _ _ _ _ (by omega) (by omega) (by omega)).1 | exact Int.ediv_nonneg (by omega) (by omega) | exact Int.emod_nonneg _ (by omega)) _).mono ?_; rintro e w' ⟨rfl, rfl⟩)
      | (go_at_call 25; refine (add_any _ _ _ (by omega) (by omega) (by first | omega | (unfold notV; omega)) (by first | omega | (unfold notV; omega)) (by omega) (by omega) _).mono ?_; rintro e w' ⟨rfl, rfl⟩)
      | (go_at_call 26; refine (not_any _ (by omega) (by omega) _).mono ?_; rintro e w' ⟨rfl, rfl⟩)
      | (go_at_call 27; refine (times_any _ _ (by omega) (by omega) (by omega) (by omega) _).mono ?_; rintro e w' ⟨rfl, rfl⟩)
      | (go_at_call 28; refine (divide_any _ _ (by omega) (by omega) (by omega) (by omega) _).mono ?_; rintro e w' ⟨rfl, rfl⟩)
      | (go_at_call 29; refine (bits_or _ _ (by omega) (by omega) (by omega) (by omega) _).mono ?_; rintro e w' ⟨rfl, rfl⟩)
      | (go_at_call 30; refine (down_any _ _ _ _ (by omega) (by omega) (by omega) (by omega) (by omega) (by omega) (by omega) (by omega) _).mono ?_; rintro e w' ⟨rfl, rfl⟩)
      | (go_at_call 31; refine (bit_any _ _ (by omega) (by omega) (by omega) (by omega) _).mono ?_; rintro e w' ⟨rfl, rfl⟩))
    go_ret2
    exact ⟨ret_ib (thin3 a b hb1) rfl, rfl⟩
set_option maxHeartbeats 1000000 in
theorem refalu32_4 (a b : Int) (h1 : 0 ≤ a) (h2 : a ≤ 18446744073709551615) (h3 : 0 ≤ b) (h4 : b ≤ 18446744073709551615) (w : World) :
    Calls Try.prog 13 #[.int .i64 4, .bool false, .int .u64 a, .int .u64 b] w fun e w' => e = .returned (.tuple #[.int .u64 (aluV 4 false a b), .bool true]) ∧ w = w' := by
  go_enter Try.func13, Try.ntmps13
  go_wp2_with (first
    | (go_at_call 24; refine (low_32 _ (by first | omega | exact (addV_bd _ _ _).1 | exact (mulO_bd _ _ _).1 | exact wrap_lo _ | exact Int.natCast_nonneg _ | exact (downV_bd _ _ _ _ (by omega) (by omega) (by omega)).1 | exact Int.ediv_nonneg (by omega) (by omega) | exact Int.emod_nonneg _ (by omega)) _).mono ?_; rintro e w' ⟨rfl, rfl⟩)
    | (go_at_call 25; refine (add_any _ _ _ (by omega) (by omega) (by first | omega | (unfold notV; omega)) (by first | omega | (unfold notV; omega)) (by omega) (by omega) _).mono ?_; rintro e w' ⟨rfl, rfl⟩)
    | (go_at_call 26; refine (not_any _ (by omega) (by omega) _).mono ?_; rintro e w' ⟨rfl, rfl⟩)
    | (go_at_call 27; refine (times_any _ _ (by omega) (by omega) (by omega) (by omega) _).mono ?_; rintro e w' ⟨rfl, rfl⟩)
    | (go_at_call 28; refine (divide_any _ _ (by omega) (by omega) (by omega) (by omega) _).mono ?_; rintro e w' ⟨rfl, rfl⟩)
    | (go_at_call 29; refine (bits_or _ _ (by omega) (by omega) (by omega) (by omega) _).mono ?_; rintro e w' ⟨rfl, rfl⟩)
    | (go_at_call 30; refine (down_any _ _ _ _ (by omega) (by omega) (by omega) (by omega) (by omega) (by omega) (by omega) (by omega) _).mono ?_; rintro e w' ⟨rfl, rfl⟩)
    | (go_at_call 31; refine (bit_any _ _ (by omega) (by omega) (by omega) (by omega) _).mono ?_; rintro e w' ⟨rfl, rfl⟩))
  go_ret2
  exact ⟨ret_ib (thin4 a b) rfl, rfl⟩
set_option maxHeartbeats 1000000 in
theorem refalu32_5 (a b : Int) (h1 : 0 ≤ a) (h2 : a ≤ 18446744073709551615) (h3 : 0 ≤ b) (h4 : b ≤ 18446744073709551615) (w : World) :
    Calls Try.prog 13 #[.int .i64 5, .bool false, .int .u64 a, .int .u64 b] w fun e w' => e = .returned (.tuple #[.int .u64 (aluV 5 false a b), .bool true]) ∧ w = w' := by
  go_enter Try.func13, Try.ntmps13
  go_wp2_with (first
    | (go_at_call 24; refine (low_32 _ (by first | omega | exact (addV_bd _ _ _).1 | exact (mulO_bd _ _ _).1 | exact wrap_lo _ | exact Int.natCast_nonneg _ | exact (downV_bd _ _ _ _ (by omega) (by omega) (by omega)).1 | exact Int.ediv_nonneg (by omega) (by omega) | exact Int.emod_nonneg _ (by omega)) _).mono ?_; rintro e w' ⟨rfl, rfl⟩)
    | (go_at_call 25; refine (add_any _ _ _ (by omega) (by omega) (by first | omega | (unfold notV; omega)) (by first | omega | (unfold notV; omega)) (by omega) (by omega) _).mono ?_; rintro e w' ⟨rfl, rfl⟩)
    | (go_at_call 26; refine (not_any _ (by omega) (by omega) _).mono ?_; rintro e w' ⟨rfl, rfl⟩)
    | (go_at_call 27; refine (times_any _ _ (by omega) (by omega) (by omega) (by omega) _).mono ?_; rintro e w' ⟨rfl, rfl⟩)
    | (go_at_call 28; refine (divide_any _ _ (by omega) (by omega) (by omega) (by omega) _).mono ?_; rintro e w' ⟨rfl, rfl⟩)
    | (go_at_call 29; refine (bits_and _ _ (by omega) (by omega) (by omega) (by omega) _).mono ?_; rintro e w' ⟨rfl, rfl⟩)
    | (go_at_call 30; refine (down_any _ _ _ _ (by omega) (by omega) (by omega) (by omega) (by omega) (by omega) (by omega) (by omega) _).mono ?_; rintro e w' ⟨rfl, rfl⟩)
    | (go_at_call 31; refine (bit_any _ _ (by omega) (by omega) (by omega) (by omega) _).mono ?_; rintro e w' ⟨rfl, rfl⟩))
  go_ret2
  exact ⟨ret_ib (thin5 a b) rfl, rfl⟩
set_option maxHeartbeats 1000000 in
theorem refalu32_6 (a b : Int) (h1 : 0 ≤ a) (h2 : a ≤ 18446744073709551615) (h3 : 0 ≤ b) (h4 : b ≤ 18446744073709551615) (w : World) :
    Calls Try.prog 13 #[.int .i64 6, .bool false, .int .u64 a, .int .u64 b] w fun e w' => e = .returned (.tuple #[.int .u64 (aluV 6 false a b), .bool true]) ∧ w = w' := by
  go_enter Try.func13, Try.ntmps13
  go_wp2_with (first
    | (go_at_call 24; refine (low_32 _ (by first | omega | exact (addV_bd _ _ _).1 | exact (mulO_bd _ _ _).1 | exact wrap_lo _ | exact Int.natCast_nonneg _ | exact (downV_bd _ _ _ _ (by omega) (by omega) (by omega)).1 | exact Int.ediv_nonneg (by omega) (by omega) | exact Int.emod_nonneg _ (by omega)) _).mono ?_; rintro e w' ⟨rfl, rfl⟩)
    | (go_at_call 25; refine (add_any _ _ _ (by omega) (by omega) (by first | omega | (unfold notV; omega)) (by first | omega | (unfold notV; omega)) (by omega) (by omega) _).mono ?_; rintro e w' ⟨rfl, rfl⟩)
    | (go_at_call 26; refine (not_any _ (by omega) (by omega) _).mono ?_; rintro e w' ⟨rfl, rfl⟩)
    | (go_at_call 27; refine (times_any _ _ (by omega) (by omega) (by omega) (by omega) _).mono ?_; rintro e w' ⟨rfl, rfl⟩)
    | (go_at_call 28; refine (divide_any _ _ (by omega) (by omega) (by omega) (by omega) _).mono ?_; rintro e w' ⟨rfl, rfl⟩)
    | (go_at_call 29; refine (bits_or _ _ (by omega) (by omega) (by omega) (by omega) _).mono ?_; rintro e w' ⟨rfl, rfl⟩)
    | (go_at_call 30; refine (down_any _ _ _ _ (by omega) (by omega) (by omega) (by omega) (by omega) (by omega) (by omega) (by omega) _).mono ?_; rintro e w' ⟨rfl, rfl⟩)
    | (go_at_call 31; refine (bit_any _ _ (by omega) (by omega) (by omega) (by omega) _).mono ?_; rintro e w' ⟨rfl, rfl⟩))
  go_ret2
  exact ⟨ret_ib (thin6 a b) rfl, rfl⟩
set_option maxHeartbeats 1000000 in
theorem refalu32_7 (a b : Int) (h1 : 0 ≤ a) (h2 : a ≤ 18446744073709551615) (h3 : 0 ≤ b) (h4 : b ≤ 18446744073709551615) (w : World) :
    Calls Try.prog 13 #[.int .i64 7, .bool false, .int .u64 a, .int .u64 b] w fun e w' => e = .returned (.tuple #[.int .u64 (aluV 7 false a b), .bool true]) ∧ w = w' := by
  go_enter Try.func13, Try.ntmps13
  go_wp2_with (first
    | (go_at_call 24; refine (low_32 _ (by first | omega | exact (addV_bd _ _ _).1 | exact (mulO_bd _ _ _).1 | exact wrap_lo _ | exact Int.natCast_nonneg _ | exact (downV_bd _ _ _ _ (by omega) (by omega) (by omega)).1 | exact Int.ediv_nonneg (by omega) (by omega) | exact Int.emod_nonneg _ (by omega)) _).mono ?_; rintro e w' ⟨rfl, rfl⟩)
    | (go_at_call 25; refine (add_any _ _ _ (by omega) (by omega) (by first | omega | (unfold notV; omega)) (by first | omega | (unfold notV; omega)) (by omega) (by omega) _).mono ?_; rintro e w' ⟨rfl, rfl⟩)
    | (go_at_call 26; refine (not_any _ (by omega) (by omega) _).mono ?_; rintro e w' ⟨rfl, rfl⟩)
    | (go_at_call 27; refine (times_any _ _ (by omega) (by omega) (by omega) (by omega) _).mono ?_; rintro e w' ⟨rfl, rfl⟩)
    | (go_at_call 28; refine (divide_any _ _ (by omega) (by omega) (by omega) (by omega) _).mono ?_; rintro e w' ⟨rfl, rfl⟩)
    | (go_at_call 29; refine (bits_or _ _ (by omega) (by omega) (by omega) (by omega) _).mono ?_; rintro e w' ⟨rfl, rfl⟩)
    | (go_at_call 30; refine (down_any _ _ _ _ (by omega) (by omega) (by omega) (by omega) (by omega) (by omega) (by omega) (by omega) _).mono ?_; rintro e w' ⟨rfl, rfl⟩)
    | (go_at_call 31; refine (bit_any _ _ (by omega) (by omega) (by omega) (by omega) _).mono ?_; rintro e w' ⟨rfl, rfl⟩))
  go_ret2
  exact ⟨ret_ib (thin7 a b) rfl, rfl⟩
set_option maxHeartbeats 1000000 in
theorem refalu32_8 (a b : Int) (h1 : 0 ≤ a) (h2 : a ≤ 18446744073709551615) (h3 : 0 ≤ b) (h4 : b ≤ 18446744073709551615) (w : World) :
    Calls Try.prog 13 #[.int .i64 8, .bool false, .int .u64 a, .int .u64 b] w fun e w' => e = .returned (.tuple #[.int .u64 (aluV 8 false a b), .bool true]) ∧ w = w' := by
  go_enter Try.func13, Try.ntmps13
  go_wp2_with (first
    | (go_at_call 24; refine (low_32 _ (by first | omega | exact (addV_bd _ _ _).1 | exact (mulO_bd _ _ _).1 | exact wrap_lo _ | exact Int.natCast_nonneg _ | exact (downV_bd _ _ _ _ (by omega) (by omega) (by omega)).1 | exact Int.ediv_nonneg (by omega) (by omega) | exact Int.emod_nonneg _ (by omega)) _).mono ?_; rintro e w' ⟨rfl, rfl⟩)
    | (go_at_call 25; refine (add_any _ _ _ (by omega) (by omega) (by first | omega | (unfold notV; omega)) (by first | omega | (unfold notV; omega)) (by omega) (by omega) _).mono ?_; rintro e w' ⟨rfl, rfl⟩)
    | (go_at_call 26; refine (not_any _ (by omega) (by omega) _).mono ?_; rintro e w' ⟨rfl, rfl⟩)
    | (go_at_call 27; refine (times_any _ _ (by omega) (by omega) (by omega) (by omega) _).mono ?_; rintro e w' ⟨rfl, rfl⟩)
    | (go_at_call 28; refine (divide_any _ _ (by omega) (by omega) (by omega) (by omega) _).mono ?_; rintro e w' ⟨rfl, rfl⟩)
    | (go_at_call 29; refine (bits_or _ _ (by omega) (by omega) (by omega) (by omega) _).mono ?_; rintro e w' ⟨rfl, rfl⟩)
    | (go_at_call 30; refine (down_any _ _ _ _ (by omega) (by omega) (by omega) (by omega) (by omega) (by omega) (by omega) (by omega) _).mono ?_; rintro e w' ⟨rfl, rfl⟩)
    | (go_at_call 31; refine (bit_any _ _ (by omega) (by omega) (by omega) (by omega) _).mono ?_; rintro e w' ⟨rfl, rfl⟩))
  go_ret2
  exact ⟨ret_ib (thin8 a b) rfl, rfl⟩
set_option maxHeartbeats 1000000 in
theorem refalu32_9 (a b : Int) (h1 : 0 ≤ a) (h2 : a ≤ 18446744073709551615) (h3 : 0 ≤ b) (h4 : b ≤ 18446744073709551615) (w : World) :
    Calls Try.prog 13 #[.int .i64 9, .bool false, .int .u64 a, .int .u64 b] w fun e w' => e = .returned (.tuple #[.int .u64 (aluV 9 false a b), .bool true]) ∧ w = w' := by
  by_cases hz : b % 4294967296 = 0
  · have HZ := Lib.hid hz
    have hb0 : decide (0 < b % 4294967296) = false := by simp; omega
    clear hz
    go_enter Try.func13, Try.ntmps13
    go_wp2_with (first
      | (go_at_call 24; refine (low_32 _ (by first | omega | exact (addV_bd _ _ _).1 | exact (mulO_bd _ _ _).1 | exact wrap_lo _ | exact Int.natCast_nonneg _ | exact (downV_bd _ _ _ _ (by omega) (by omega) (by omega)).1 | exact Int.ediv_nonneg (by omega) (by omega) | exact Int.emod_nonneg _ (by omega)) _).mono ?_; rintro e w' ⟨rfl, rfl⟩)
      | (go_at_call 25; refine (add_any _ _ _ (by omega) (by omega) (by first | omega | (unfold notV; omega)) (by first | omega | (unfold notV; omega)) (by omega) (by omega) _).mono ?_; rintro e w' ⟨rfl, rfl⟩)
      | (go_at_call 26; refine (not_any _ (by omega) (by omega) _).mono ?_; rintro e w' ⟨rfl, rfl⟩)
      | (go_at_call 27; refine (times_any _ _ (by omega) (by omega) (by omega) (by omega) _).mono ?_; rintro e w' ⟨rfl, rfl⟩)
      | (go_at_call 28; refine (divide_any _ _ (by omega) (by omega) (by omega) (by omega) _).mono ?_; rintro e w' ⟨rfl, rfl⟩)
      | (go_at_call 29; refine (bits_or _ _ (by omega) (by omega) (by omega) (by omega) _).mono ?_; rintro e w' ⟨rfl, rfl⟩)
      | (go_at_call 30; refine (down_any _ _ _ _ (by omega) (by omega) (by omega) (by omega) (by omega) (by omega) (by omega) (by omega) _).mono ?_; rintro e w' ⟨rfl, rfl⟩)
      | (go_at_call 31; refine (bit_any _ _ (by omega) (by omega) (by omega) (by omega) _).mono ?_; rintro e w' ⟨rfl, rfl⟩))
    go_ret2
    exact ⟨ret_ib (thin9z a b HZ.out) rfl, rfl⟩
  · have hb1 : 1 ≤ b % 4294967296 := by omega
    clear hz
    have ha := Int.emod_nonneg (a % 4294967296) (show b % 4294967296 ≠ 0 by omega)
    have hd := Int.ediv_nonneg (show 0 ≤ a % 4294967296 by omega) (show 0 ≤ b % 4294967296 by omega)
    go_enter Try.func13, Try.ntmps13
    go_wp2_with (first
      | (go_at_call 24; refine (low_32 _ (by first | omega | exact (addV_bd _ _ _).1 | exact (mulO_bd _ _ _).1 | exact wrap_lo _ | exact Int.natCast_nonneg _ | exact (downV_bd _ _ _ _ (by omega) (by omega) (by omega)).1 | exact Int.ediv_nonneg (by omega) (by omega) | exact Int.emod_nonneg _ (by omega)) _).mono ?_; rintro e w' ⟨rfl, rfl⟩)
      | (go_at_call 25; refine (add_any _ _ _ (by omega) (by omega) (by first | omega | (unfold notV; omega)) (by first | omega | (unfold notV; omega)) (by omega) (by omega) _).mono ?_; rintro e w' ⟨rfl, rfl⟩)
      | (go_at_call 26; refine (not_any _ (by omega) (by omega) _).mono ?_; rintro e w' ⟨rfl, rfl⟩)
      | (go_at_call 27; refine (times_any _ _ (by omega) (by omega) (by omega) (by omega) _).mono ?_; rintro e w' ⟨rfl, rfl⟩)
      | (go_at_call 28; refine (divide_any _ _ (by omega) (by omega) (by omega) (by omega) _).mono ?_; rintro e w' ⟨rfl, rfl⟩)
      | (go_at_call 29; refine (bits_or _ _ (by omega) (by omega) (by omega) (by omega) _).mono ?_; rintro e w' ⟨rfl, rfl⟩)
      | (go_at_call 30; refine (down_any _ _ _ _ (by omega) (by omega) (by omega) (by omega) (by omega) (by omega) (by omega) (by omega) _).mono ?_; rintro e w' ⟨rfl, rfl⟩)
      | (go_at_call 31; refine (bit_any _ _ (by omega) (by omega) (by omega) (by omega) _).mono ?_; rintro e w' ⟨rfl, rfl⟩))
    go_ret2
    exact ⟨ret_ib (thin9 a b hb1) rfl, rfl⟩
set_option maxHeartbeats 1000000 in
theorem refalu32_10 (a b : Int) (h1 : 0 ≤ a) (h2 : a ≤ 18446744073709551615) (h3 : 0 ≤ b) (h4 : b ≤ 18446744073709551615) (w : World) :
    Calls Try.prog 13 #[.int .i64 10, .bool false, .int .u64 a, .int .u64 b] w fun e w' => e = .returned (.tuple #[.int .u64 (aluV 10 false a b), .bool true]) ∧ w = w' := by
  go_enter Try.func13, Try.ntmps13
  go_wp2_with (first
    | (go_at_call 24; refine (low_32 _ (by first | omega | exact (addV_bd _ _ _).1 | exact (mulO_bd _ _ _).1 | exact wrap_lo _ | exact Int.natCast_nonneg _ | exact (downV_bd _ _ _ _ (by omega) (by omega) (by omega)).1 | exact Int.ediv_nonneg (by omega) (by omega) | exact Int.emod_nonneg _ (by omega)) _).mono ?_; rintro e w' ⟨rfl, rfl⟩)
    | (go_at_call 25; refine (add_any _ _ _ (by omega) (by omega) (by first | omega | (unfold notV; omega)) (by first | omega | (unfold notV; omega)) (by omega) (by omega) _).mono ?_; rintro e w' ⟨rfl, rfl⟩)
    | (go_at_call 26; refine (not_any _ (by omega) (by omega) _).mono ?_; rintro e w' ⟨rfl, rfl⟩)
    | (go_at_call 27; refine (times_any _ _ (by omega) (by omega) (by omega) (by omega) _).mono ?_; rintro e w' ⟨rfl, rfl⟩)
    | (go_at_call 28; refine (divide_any _ _ (by omega) (by omega) (by omega) (by omega) _).mono ?_; rintro e w' ⟨rfl, rfl⟩)
    | (go_at_call 29; refine (bits_xor _ _ (by omega) (by omega) (by omega) (by omega) _).mono ?_; rintro e w' ⟨rfl, rfl⟩)
    | (go_at_call 30; refine (down_any _ _ _ _ (by omega) (by omega) (by omega) (by omega) (by omega) (by omega) (by omega) (by omega) _).mono ?_; rintro e w' ⟨rfl, rfl⟩)
    | (go_at_call 31; refine (bit_any _ _ (by omega) (by omega) (by omega) (by omega) _).mono ?_; rintro e w' ⟨rfl, rfl⟩))
  go_ret2
  exact ⟨ret_ib (thin10 a b) rfl, rfl⟩
set_option maxHeartbeats 1000000 in
theorem refalu32_11 (a b : Int) (h1 : 0 ≤ a) (h2 : a ≤ 18446744073709551615) (h3 : 0 ≤ b) (h4 : b ≤ 18446744073709551615) (w : World) :
    Calls Try.prog 13 #[.int .i64 11, .bool false, .int .u64 a, .int .u64 b] w fun e w' => e = .returned (.tuple #[.int .u64 (aluV 11 false a b), .bool true]) ∧ w = w' := by
  go_enter Try.func13, Try.ntmps13
  go_wp2_with (first
    | (go_at_call 24; refine (low_32 _ (by first | omega | exact (addV_bd _ _ _).1 | exact (mulO_bd _ _ _).1 | exact wrap_lo _ | exact Int.natCast_nonneg _ | exact (downV_bd _ _ _ _ (by omega) (by omega) (by omega)).1 | exact Int.ediv_nonneg (by omega) (by omega) | exact Int.emod_nonneg _ (by omega)) _).mono ?_; rintro e w' ⟨rfl, rfl⟩)
    | (go_at_call 25; refine (add_any _ _ _ (by omega) (by omega) (by first | omega | (unfold notV; omega)) (by first | omega | (unfold notV; omega)) (by omega) (by omega) _).mono ?_; rintro e w' ⟨rfl, rfl⟩)
    | (go_at_call 26; refine (not_any _ (by omega) (by omega) _).mono ?_; rintro e w' ⟨rfl, rfl⟩)
    | (go_at_call 27; refine (times_any _ _ (by omega) (by omega) (by omega) (by omega) _).mono ?_; rintro e w' ⟨rfl, rfl⟩)
    | (go_at_call 28; refine (divide_any _ _ (by omega) (by omega) (by omega) (by omega) _).mono ?_; rintro e w' ⟨rfl, rfl⟩)
    | (go_at_call 29; refine (bits_or _ _ (by omega) (by omega) (by omega) (by omega) _).mono ?_; rintro e w' ⟨rfl, rfl⟩)
    | (go_at_call 30; refine (down_any _ _ _ _ (by omega) (by omega) (by omega) (by omega) (by omega) (by omega) (by omega) (by omega) _).mono ?_; rintro e w' ⟨rfl, rfl⟩)
    | (go_at_call 31; refine (bit_any _ _ (by omega) (by omega) (by omega) (by omega) _).mono ?_; rintro e w' ⟨rfl, rfl⟩))
  go_ret2
  exact ⟨ret_ib (thin11 a b) rfl, rfl⟩
set_option maxHeartbeats 1000000 in
theorem refalu32_12 (a b : Int) (h1 : 0 ≤ a) (h2 : a ≤ 18446744073709551615) (h3 : 0 ≤ b) (h4 : b ≤ 18446744073709551615) (w : World) :
    Calls Try.prog 13 #[.int .i64 12, .bool false, .int .u64 a, .int .u64 b] w fun e w' => e = .returned (.tuple #[.int .u64 (aluV 12 false a b), .bool true]) ∧ w = w' := by
  have hbit := bitV_bd (a % 4294967296) 31
  go_enter Try.func13, Try.ntmps13
  go_wp2_with (first
    | (go_at_call 24; refine (low_32 _ (by first | omega | exact (addV_bd _ _ _).1 | exact (mulO_bd _ _ _).1 | exact wrap_lo _ | exact Int.natCast_nonneg _ | exact (downV_bd _ _ _ _ (by omega) (by omega) (by omega)).1 | exact Int.ediv_nonneg (by omega) (by omega) | exact Int.emod_nonneg _ (by omega)) _).mono ?_; rintro e w' ⟨rfl, rfl⟩)
    | (go_at_call 25; refine (add_any _ _ _ (by omega) (by omega) (by first | omega | (unfold notV; omega)) (by first | omega | (unfold notV; omega)) (by omega) (by omega) _).mono ?_; rintro e w' ⟨rfl, rfl⟩)
    | (go_at_call 26; refine (not_any _ (by omega) (by omega) _).mono ?_; rintro e w' ⟨rfl, rfl⟩)
    | (go_at_call 27; refine (times_any _ _ (by omega) (by omega) (by omega) (by omega) _).mono ?_; rintro e w' ⟨rfl, rfl⟩)
    | (go_at_call 28; refine (divide_any _ _ (by omega) (by omega) (by omega) (by omega) _).mono ?_; rintro e w' ⟨rfl, rfl⟩)
    | (go_at_call 29; refine (bits_or _ _ (by omega) (by omega) (by omega) (by omega) _).mono ?_; rintro e w' ⟨rfl, rfl⟩)
    | (go_at_call 30; refine (down_any _ _ _ _ (by omega) (by omega) (by omega) (by omega) (by omega) (by omega) (by omega) (by omega) _).mono ?_; rintro e w' ⟨rfl, rfl⟩)
    | (go_at_call 31; refine (bit_any _ _ (by omega) (by omega) (by omega) (by omega) _).mono ?_; rintro e w' ⟨rfl, rfl⟩))
  go_ret2
  exact ⟨ret_ib (thin12 a b) rfl, rfl⟩
set_option maxHeartbeats 1000000 in
theorem refalu32_none (op a b : Int) (h1 : 0 ≤ a) (h2 : a ≤ 18446744073709551615) (h3 : 0 ≤ b) (h4 : b ≤ 18446744073709551615) (h : aluOk op = false) (w : World) :
    Calls Try.prog 13 #[.int .i64 op, .bool false, .int .u64 a, .int .u64 b] w fun e w' => e = .returned (.tuple #[.int .u64 (aluV op false a b), .bool false]) ∧ w = w' := by
  have HN := Lib.hid (aluV_none op false a b h)
  have hn : ¬ (0 ≤ op ∧ op ≤ 12) := by simpa [aluOk] using h
  clear h
  have n0 : (op == 0) = false := by simp; omega
  have n1 : (op == 1) = false := by simp; omega
  have n2 : (op == 2) = false := by simp; omega
  have n3 : (op == 3) = false := by simp; omega
  have n4 : (op == 4) = false := by simp; omega
  have n5 : (op == 5) = false := by simp; omega
  have n6 : (op == 6) = false := by simp; omega
  have n7 : (op == 7) = false := by simp; omega
  have n8 : (op == 8) = false := by simp; omega
  have n9 : (op == 9) = false := by simp; omega
  have n10 : (op == 10) = false := by simp; omega
  have n11 : (op == 11) = false := by simp; omega
  have n12 : (op == 12) = false := by simp; omega
  clear hn
  go_enter Try.func13, Try.ntmps13
  go_wp2_with (first
      | (go_at_call 24; refine (low_32 _ (by first | omega | exact (addV_bd _ _ _).1 | exact (mulO_bd _ _ _).1 | exact wrap_lo _ | exact Int.natCast_nonneg _ | exact (downV_bd _ _ _ _ (by omega) (by omega) (by omega)).1 | exact Int.ediv_nonneg (by omega) (by omega) | exact Int.emod_nonneg _ (by omega)) _).mono ?_; rintro e w' ⟨rfl, rfl⟩)
      | (go_at_call 25; refine (add_any _ _ _ (by omega) (by omega) (by first | omega | (unfold notV; omega)) (by first | omega | (unfold notV; omega)) (by omega) (by omega) _).mono ?_; rintro e w' ⟨rfl, rfl⟩)
      | (go_at_call 26; refine (not_any _ (by omega) (by omega) _).mono ?_; rintro e w' ⟨rfl, rfl⟩)
      | (go_at_call 27; refine (times_any _ _ (by omega) (by omega) (by omega) (by omega) _).mono ?_; rintro e w' ⟨rfl, rfl⟩)
      | (go_at_call 28; refine (divide_any _ _ (by omega) (by omega) (by omega) (by omega) _).mono ?_; rintro e w' ⟨rfl, rfl⟩)
      | (go_at_call 29; refine (bits_or _ _ (by omega) (by omega) (by omega) (by omega) _).mono ?_; rintro e w' ⟨rfl, rfl⟩)
      | (go_at_call 30; refine (down_any _ _ _ _ (by omega) (by omega) (by omega) (by omega) (by omega) (by omega) (by omega) (by omega) _).mono ?_; rintro e w' ⟨rfl, rfl⟩)
      | (go_at_call 31; refine (bit_any _ _ (by omega) (by omega) (by omega) (by omega) _).mono ?_; rintro e w' ⟨rfl, rfl⟩))
  go_ret2
  exact ⟨ret_ib HN.out.symm rfl, rfl⟩
theorem refalu_any (op : Int) (wide : Bool) (a b : Int) (h1 : 0 ≤ a) (h2 : a ≤ 18446744073709551615) (h3 : 0 ≤ b) (h4 : b ≤ 18446744073709551615) (w : World) :
    Calls Try.prog 13 #[.int .i64 op, .bool wide, .int .u64 a, .int .u64 b] w fun e w' => e = .returned (.tuple #[.int .u64 (aluV op wide a b), .bool (aluOk op)]) ∧ w = w' := by
  cases h : aluOk op
  · cases wide
    · exact refalu32_none op a b h1 h2 h3 h4 h w
    · exact refalu64_none op a b h1 h2 h3 h4 h w
  · have hop := (calc_ok op).1 h
    cases wide
    · rcases hop with rfl | rfl | rfl | rfl | rfl | rfl | rfl | rfl | rfl | rfl | rfl | rfl | rfl
      · exact refalu32_0 a b h1 h2 h3 h4 w
      · exact refalu32_1 a b h1 h2 h3 h4 w
      · exact refalu32_2 a b h1 h2 h3 h4 w
      · exact refalu32_3 a b h1 h2 h3 h4 w
      · exact refalu32_4 a b h1 h2 h3 h4 w
      · exact refalu32_5 a b h1 h2 h3 h4 w
      · exact refalu32_6 a b h1 h2 h3 h4 w
      · exact refalu32_7 a b h1 h2 h3 h4 w
      · exact refalu32_8 a b h1 h2 h3 h4 w
      · exact refalu32_9 a b h1 h2 h3 h4 w
      · exact refalu32_10 a b h1 h2 h3 h4 w
      · exact refalu32_11 a b h1 h2 h3 h4 w
      · exact refalu32_12 a b h1 h2 h3 h4 w
    · rcases hop with rfl | rfl | rfl | rfl | rfl | rfl | rfl | rfl | rfl | rfl | rfl | rfl | rfl
      · exact refalu64_0 a b h1 h2 h3 h4 w
      · exact refalu64_1 a b h1 h2 h3 h4 w
      · exact refalu64_2 a b h1 h2 h3 h4 w
      · exact refalu64_3 a b h1 h2 h3 h4 w
      · exact refalu64_4 a b h1 h2 h3 h4 w
      · exact refalu64_5 a b h1 h2 h3 h4 w
      · exact refalu64_6 a b h1 h2 h3 h4 w
      · exact refalu64_7 a b h1 h2 h3 h4 w
      · exact refalu64_8 a b h1 h2 h3 h4 w
      · exact refalu64_9 a b h1 h2 h3 h4 w
      · exact refalu64_10 a b h1 h2 h3 h4 w
      · exact refalu64_11 a b h1 h2 h3 h4 w
      · exact refalu64_12 a b h1 h2 h3 h4 w
end Go.Proofs.Ytopgjjcljapjoaa
