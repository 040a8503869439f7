/-
  What the program's package insn tells of an operation and of an instruction (Check, Size, Width and what they call): contracts. Conditions: the numbers are of 64 bits.
-/
import Derived.Test.YtlimhdnpdhjdaaaRows
import Derived.Test.YtlimhdnpdhjdaaaInsnMath
import Derived.WalkKit
import Derived.WalkSpells
import Derived.WalkLawsBesides
import Derived.Lib.Hide
import Derived.Deep.Light
namespace Go.Proofs.Ytlimhdnpdhjdaaa
open Go.RowKit Wi
set_option linter.unusedVariables false

theorem rt_i {k : IntKind} {a b : Int} (h : a = b) : Ending.returned (.int k a) = .returned (.int k b) := by rw [h]
theorem rt_b {a b : Bool} (h : a = b) : Ending.returned (.bool a) = .returned (.bool b) := by rw [h]

theorem only_any (b : Bool) (u : Int) (w : World) :
    Calls Try.prog 46 #[.bool b, .int .u8 u] w fun e w' => e = .returned (.int .u8 (if b then bits .or .u8 u 32 else 0)) ∧ w = w' := by
  cases b
  all_goals
    go_enter Try.func46, Try.ntmps46
    go_wp2
    go_ret
    exact ⟨rfl, rfl⟩
theorem inmem_any (op : Int) (h1 : 0 ≤ op) (h2 : op ≤ 255) (w : World) :
    Calls Try.prog 47 #[.int .i64 op] w fun e w' => e = .returned (.bool (op / 32 == 3)) ∧ w = w' := by
  have e := not31 op h1 h2
  go_enter Try.func47, Try.ntmps47
  go_wp2
  go_ret
  refine ⟨rt_b ?_, rfl⟩
  rw [Bool.eq_iff_iff]; simp only [beq_iff_eq]; omega
theorem second_imm (op : Int) (h1 : 0 ≤ op) (h2 : op ≤ 255) (h : op / 8 % 2 = 0) (w : World) :
    Calls Try.prog 57 #[.int .i64 op] w fun e w' => e = .returned (.int .u8 8) ∧ w = w' := by
  have e : bits BinOp.and IntKind.i64 op 8 = 0 := by rw [and8 op h1 h2, h]; rfl
  clear h
  go_enter Try.func57, Try.ntmps57
  go_wp2
  go_ret
  exact ⟨rfl, rfl⟩
theorem second_src (op : Int) (h1 : 0 ≤ op) (h2 : op ≤ 255) (h : op / 8 % 2 = 1) (w : World) :
    Calls Try.prog 57 #[.int .i64 op] w fun e w' => e = .returned (.int .u8 2) ∧ w = w' := by
  have e : bits BinOp.and IntKind.i64 op 8 = 8 := by rw [and8 op h1 h2, h]; rfl
  clear h
  go_enter Try.func57, Try.ntmps57
  go_wp2
  go_ret
  exact ⟨rfl, rfl⟩
theorem arith_any (op : Int) (h1 : 0 ≤ op) (h2 : op ≤ 255) (w : World) :
    Calls Try.prog 48 #[.int .i64 op] w fun e w' => e = .returned (.int .u8 (arV op)) ∧ w = w' := by
  have hb : op / 8 % 2 = 0 ∨ op / 8 % 2 = 1 := by omega
  rcases hb with hb | hb
  · have H := Lib.hid hb
    have e : bits BinOp.and IntKind.i64 op 8 = 0 := by rw [and8 op h1 h2, hb]; rfl
    clear hb
    go_enter Try.func48, Try.ntmps48
    go_wp2_with (first | (go_at_call 57; refine (second_imm _ h1 h2 H.out _).mono ?_; rintro e w' ⟨rfl, rfl⟩) | (go_at_call 46; refine (only_any _ _ _).mono ?_; rintro e w' ⟨rfl, rfl⟩))
    all_goals
      go_ret
      refine ⟨rt_i ?_, rfl⟩
      go_light
      have hq := H.out
      try simp only [beq_iff_eq, beq_eq_false_iff_ne, ne_eq] at *
      unfold arV
      (repeat' split) <;> first | omega | decide
  · have H := Lib.hid hb
    have e : bits BinOp.and IntKind.i64 op 8 = 8 := by rw [and8 op h1 h2, hb]; rfl
    clear hb
    go_enter Try.func48, Try.ntmps48
    go_wp2_with (first | (go_at_call 57; refine (second_src _ h1 h2 H.out _).mono ?_; rintro e w' ⟨rfl, rfl⟩) | (go_at_call 46; refine (only_any _ _ _).mono ?_; rintro e w' ⟨rfl, rfl⟩))
    all_goals
      go_ret
      refine ⟨rt_i ?_, rfl⟩
      go_light
      have hq := H.out
      try simp only [beq_iff_eq, beq_eq_false_iff_ne, ne_eq] at *
      unfold arV
      (repeat' split) <;> first | omega | decide
theorem plain_any (op : Int) (w : World) :
    Calls Try.prog 49 #[.int .i64 op] w fun e w' => e = .returned (.int .u8 (pjV op)) ∧ w = w' := by
  go_enter Try.func49, Try.ntmps49
  go_wp2_with (go_at_call 46; refine (only_any _ _ _).mono ?_; rintro e w' ⟨rfl, rfl⟩)
  all_goals (go_ret; refine ⟨rt_i ?_, rfl⟩)
  · obtain rfl : op = 5 := eq_of_beq ‹(op == 5) = true›
    decide
  · obtain rfl : op = 133 := eq_of_beq ‹(op == 133) = true›
    decide
  · obtain rfl : op = 149 := eq_of_beq ‹(op == 149) = true›
    decide
  · have a1 : ¬ op = 5 := ne_of_beq_false ‹(op == 5) = false›
    have a2 : ¬ op = 133 := ne_of_beq_false ‹(op == 133) = false›
    have a3 : ¬ op = 149 := ne_of_beq_false ‹(op == 149) = false›
    unfold pjV; rw [if_neg a1, if_neg a2, if_neg a3]
set_option maxHeartbeats 400000 in
theorem cond_any (op : Int) (h1 : 0 ≤ op) (h2 : op ≤ 255) (w : World) :
    Calls Try.prog 50 #[.int .i64 op] w fun e w' => e = .returned (.int .u8 (jcV op)) ∧ w = w' := by
  have hb : op / 8 % 2 = 0 ∨ op / 8 % 2 = 1 := by omega
  rcases hb with hb | hb
  · have H := Lib.hid hb
    clear hb
    go_enter Try.func50, Try.ntmps50
    go_wp2_with (first | (go_at_call 57; refine (second_imm _ h1 h2 H.out _).mono ?_; rintro e w' ⟨rfl, rfl⟩) | (go_at_call 46; refine (only_any _ _ _).mono ?_; rintro e w' ⟨rfl, rfl⟩))
    all_goals
      go_ret
      refine ⟨rt_i ?_, rfl⟩
      go_light
      have hq : op / 8 % 2 = 0 := H.out
      try simp only [beq_iff_eq, beq_eq_false_iff_ne, ne_eq] at *
      unfold jcV
      rw [if_pos hq]
      first | (rw [if_neg (by omega)]; decide) | (rw [if_pos (by omega)])
  · have H := Lib.hid hb
    clear hb
    go_enter Try.func50, Try.ntmps50
    go_wp2_with (first | (go_at_call 57; refine (second_src _ h1 h2 H.out _).mono ?_; rintro e w' ⟨rfl, rfl⟩) | (go_at_call 46; refine (only_any _ _ _).mono ?_; rintro e w' ⟨rfl, rfl⟩))
    all_goals
      go_ret
      refine ⟨rt_i ?_, rfl⟩
      go_light
      have hq : ¬ op / 8 % 2 = 0 := by have := H.out; omega
      try simp only [beq_iff_eq, beq_eq_false_iff_ne, ne_eq] at *
      unfold jcV
      rw [if_neg hq]
      first | (rw [if_neg (by omega)]; decide) | (rw [if_pos (by omega)])
theorem uses_out (op : Int) (h : op < 0 ∨ 255 < op) (w : World) :
    Calls Try.prog 32 #[.int .i64 op] w fun e w' => e = .returned (.int .u8 (useV op)) ∧ w = w' := by
  have hu : useV op = 0 := if_pos h
  rw [hu]; clear hu
  rcases h with h | h
  · go_enter Try.func32, Try.ntmps32
    go_wp2
    go_ret
    exact ⟨rfl, rfl⟩
  · go_enter Try.func32, Try.ntmps32
    go_wp2
    go_ret
    exact ⟨rfl, rfl⟩
theorem useV_in (op : Int) (h1 : 0 ≤ op) (h2 : op ≤ 255) : useV op = 
  (if op % 8 = 0 then (if op = 24 then 59 else 0)
  else if op % 8 = 1 then (if op / 32 = 3 then 55 else 0)
  else if op % 8 = 2 then (if op / 32 = 3 then 45 else 0)
  else if op % 8 = 3 then (if op / 32 = 3 then 39 else 0)
  else if op % 8 = 4 then (if op / 16 = 13 then 57 else arV op)
  else if op % 8 = 7 then arV op
  else if op % 8 = 5 then (if pjV op = 0 then jcV op else pjV op)
  else jcV op) := if_neg (by omega)
set_option maxHeartbeats 1000000 in
theorem uses_in (op : Int) (h1 : 0 ≤ op) (h2 : op ≤ 255) (w : World) :
    Calls Try.prog 32 #[.int .i64 op] w fun e w' => e = .returned (.int .u8 (useV op)) ∧ w = w' := by
  have e7 := and7 op h1 h2
  have hp := pjV_cases op
  have hm : op % 8 = 0 ∨ op % 8 = 1 ∨ op % 8 = 2 ∨ op % 8 = 3 ∨ op % 8 = 4 ∨ op % 8 = 5 ∨ op % 8 = 6 ∨ op % 8 = 7 := by omega
  rcases hm with h | h | h | h | h | h | h | h
  all_goals
    rw [h] at e7
    have H := Lib.hid h
    clear h
  case inr.inr.inr.inr.inr.inl =>
    rcases hp with h0 | h0 | h0 | h0
    all_goals
      have HP := Lib.hid h0
      go_enter Try.func32, Try.ntmps32
      go_wp2_with (first | (go_at_call 46; refine (only_any _ _ _).mono ?_; rintro e w' ⟨rfl, rfl⟩) | (go_at_call 49; refine (plain_any _ _).mono ?_; rintro e w' ⟨rfl, rfl⟩) | (go_at_call 50; refine (cond_any _ h1 h2 _).mono ?_; rintro e w' ⟨rfl, rfl⟩))
      go_ret
      refine ⟨rt_i ?_, rfl⟩
      go_light
      have hq := H.out
      have hr := HP.out
      rw [useV_in op h1 h2]
      simp [hq, hr]
  all_goals
    clear hp
    go_enter Try.func32, Try.ntmps32
    go_wp2_with (first | (go_at_call 46; refine (only_any _ _ _).mono ?_; rintro e w' ⟨rfl, rfl⟩) | (go_at_call 47; refine (inmem_any _ h1 h2 _).mono ?_; rintro e w' ⟨rfl, rfl⟩) | (go_at_call 48; refine (arith_any _ h1 h2 _).mono ?_; rintro e w' ⟨rfl, rfl⟩) | (go_at_call 49; refine (plain_any _ _).mono ?_; rintro e w' ⟨rfl, rfl⟩) | (go_at_call 50; refine (cond_any _ h1 h2 _).mono ?_; rintro e w' ⟨rfl, rfl⟩))
    all_goals
      go_ret
      refine ⟨rt_i ?_, rfl⟩
      go_light
      have hq := H.out
      first
        | decide
        | (try simp only [beq_iff_eq, beq_eq_false_iff_ne, ne_eq] at *
           rw [useV_in op h1 h2]
           (repeat' split) <;> first | rfl | omega | decide)
theorem uses_any (op : Int) (w : World) :
    Calls Try.prog 32 #[.int .i64 op] w fun e w' => e = .returned (.int .u8 (useV op)) ∧ w = w' := by
  by_cases h : op < 0 ∨ 255 < op
  · exact uses_out op h w
  · exact uses_in op (by omega) (by omega) w
end Go.Proofs.Ytlimhdnpdhjdaaa
