/-
  What the program's package insn tells of an instruction (Check, Size, Width and the tests that they call): contracts. Conditions: the numbers are of 64 bits.
-/
import Derived.Test.YtlimhdnpdhjdaaaInsnUse
import Derived.Below
namespace Go.Proofs.Ytlimhdnpdhjdaaa
open Go.RowKit Wi
set_option linter.unusedVariables false

theorem u8bit (u k : Int) (h1 : 0 ≤ u) (h2 : u ≤ 63) (hk : k = 1 ∨ k = 2 ∨ k = 4 ∨ k = 8 ∨ k = 16 ∨ k = 32) : bits BinOp.and IntKind.u8 u k = if ub u k then k else 0 := by
  obtain ⟨n, rfl⟩ := Int.eq_ofNat_of_zero_le h1
  have h : ∀ n : Fin 64, (bits BinOp.and IntKind.u8 ((n.val : Nat) : Int) 1 = if ub ((n.val : Nat) : Int) 1 then 1 else 0) ∧ (bits BinOp.and IntKind.u8 ((n.val : Nat) : Int) 2 = if ub ((n.val : Nat) : Int) 2 then 2 else 0) ∧ (bits BinOp.and IntKind.u8 ((n.val : Nat) : Int) 4 = if ub ((n.val : Nat) : Int) 4 then 4 else 0) ∧ (bits BinOp.and IntKind.u8 ((n.val : Nat) : Int) 8 = if ub ((n.val : Nat) : Int) 8 then 8 else 0) ∧ (bits BinOp.and IntKind.u8 ((n.val : Nat) : Int) 16 = if ub ((n.val : Nat) : Int) 16 then 16 else 0) ∧ (bits BinOp.and IntKind.u8 ((n.val : Nat) : Int) 32 = if ub ((n.val : Nat) : Int) 32 then 32 else 0) := by decide +kernel
  obtain ⟨a1, a2, a3, a4, a5, a6⟩ := h ⟨n, by omega⟩
  rcases hk with rfl | rfl | rfl | rfl | rfl | rfl
  · exact a1
  · exact a2
  · exact a3
  · exact a4
  · exact a5
  · exact a6
theorem useV_bd (op : Int) : 0 ≤ useV op ∧ useV op ≤ 63 := by have := useV_cases op; omega

theorem isreg_any (n : Int) (w : World) :
    Calls Try.prog 51 #[.int .i64 n] w fun e w' => e = .returned (.bool (isReg n)) ∧ w = w' := by
  go_enter Try.func51, Try.ntmps51
  go_wp2
  all_goals (go_ret; refine ⟨rt_b ?_, rfl⟩)
  all_goals
    unfold isReg
    simp_all <;> omega
def zu (u n : Int) : Bool := (u != 0) || n == 0
theorem zero_any (u n : Int) (w : World) :
    Calls Try.prog 52 #[.int .u8 u, .int .i64 n] w fun e w' => e = .returned (.bool (zu u n)) ∧ w = w' := by
  go_enter Try.func52, Try.ntmps52
  go_wp2
  all_goals
    go_ret
    refine ⟨rt_b ?_, rfl⟩
    go_light
    unfold zu
    simp_all
theorem zu_bit (u k n : Int) (h1 : 0 ≤ u) (h2 : u ≤ 63) (hk : k = 1 ∨ k = 2 ∨ k = 4 ∨ k = 8) : zu (bits BinOp.and IntKind.u8 u k) n = (ub u k || n == 0) := by
  rw [u8bit u k h1 h2 (by omega)]
  unfold zu
  cases ub u k
  · simp
  · have : k ≠ 0 := by omega
    simp [this]

theorem regs_any (u op dst src off imm : Int) (h1 : 0 ≤ u) (h2 : u ≤ 63) (w : World) :
    Calls Try.prog 33 #[.agg #[.int .i64 op, .int .i64 dst, .int .i64 src, .int .i64 off, .int .i64 imm], .int .u8 u] w fun e w' => e = .returned (.bool (regOk u dst src)) ∧ Below w.heap.size w w' := by
  have e := u8bit u 16 h1 h2 (by omega)
  cases hb : ub u 16
  all_goals
    rw [hb] at e
    simp only [if_true, if_false, Bool.false_eq_true] at e
    have H := Lib.hid hb
    clear hb
    go_enter Try.func33, Try.ntmps33
    go_wp2_with (go_at_call 51; refine (isreg_any _ _).mono ?_; rintro e w' ⟨rfl, rfl⟩)
    all_goals
      go_ret
      refine ⟨rt_b ?_, (Below.refl _ _).alloc (Nat.le_refl _) _⟩
      go_light
      have hq := H.out
      unfold regOk
      rw [hq]
      simp_all
theorem nums_any (op dst src off imm : Int) (w : World) :
    Calls Try.prog 34 #[.agg #[.int .i64 op, .int .i64 dst, .int .i64 src, .int .i64 off, .int .i64 imm]] w fun e w' => e = .returned (.bool (numOk op off imm)) ∧ Below w.heap.size w w' := by
  go_enter Try.func34, Try.ntmps34
  go_wp2
  all_goals
    go_ret
    refine ⟨rt_b ?_, (Below.refl _ _).alloc (Nat.le_refl _) _⟩
    go_light
    unfold numOk
    simp_all <;> omega
theorem mean_any (op dst src off imm : Int) (w : World) :
    Calls Try.prog 36 #[.agg #[.int .i64 op, .int .i64 dst, .int .i64 src, .int .i64 off, .int .i64 imm]] w fun e w' => e = .returned (.bool (meanOk op src imm)) ∧ Below w.heap.size w w' := by
  go_enter Try.func36, Try.ntmps36
  go_wp2
  all_goals
    go_ret
    refine ⟨rt_b ?_, (Below.refl _ _).alloc (Nat.le_refl _) _⟩
    go_light
    unfold meanOk
    simp_all <;> omega
theorem zeros_any (u op dst src off imm : Int) (h1 : 0 ≤ u) (h2 : u ≤ 63) (w : World) :
    Calls Try.prog 35 #[.agg #[.int .i64 op, .int .i64 dst, .int .i64 src, .int .i64 off, .int .i64 imm], .int .u8 u] w fun e w' => e = .returned (.bool (zeroOk u dst src off imm)) ∧ Below w.heap.size w w' := by
  go_enter Try.func35, Try.ntmps35
  go_wp2_with (go_at_call 52; refine (zero_any _ _ _).mono ?_; rintro e w' ⟨rfl, rfl⟩)
  all_goals
    go_ret
    refine ⟨rt_b ?_, (Below.refl _ _).alloc (Nat.le_refl _) _⟩
    go_light
    have z1 := zu_bit u 1 dst h1 h2 (by omega)
    have z2 := zu_bit u 2 src h1 h2 (by omega)
    have z3 := zu_bit u 4 off h1 h2 (by omega)
    have z4 := zu_bit u 8 imm h1 h2 (by omega)
    unfold zeroOk
    rw [← z1, ← z2, ← z3, ← z4]
    simp_all
theorem bcell {W w1 : World} (hb : Below W.heap.size W w1) : (∀ b o, b < W.heap.size → w1.cell? ⟨b, o, none⟩ = W.cell? ⟨b, o, none⟩) ∧ (∀ b o, b < W.heap.size → w1.frozen? ⟨b, o, none⟩ = W.frozen? ⟨b, o, none⟩) :=
  ⟨fun b o h => hb.cell (p := ⟨b, o, none⟩) h, fun b o h => hb.frozen (p := ⟨b, o, none⟩) h⟩
theorem below_box {w w1 : World} {o : Obj} (hb : Below (w.alloc o).heap.size (w.alloc o) w1) : Below w.heap.size w w1 :=
  ((Below.refl _ _).alloc (Nat.le_refl _) _).trans (hb.mono (by simp))
theorem below_then {B : Nat} {w w1 w2 : World} (h1 : Below B w w1) (h2 : Below w1.heap.size w1 w2) (hB : B ≤ w.heap.size) : Below B w w2 :=
  h1.trans (h2.mono (by have := h1.size; omega))
set_option maxHeartbeats 1000000 in
theorem check_any (op dst src off imm : Int) (w : World) :
    Calls Try.prog 11 #[.agg #[.int .i64 op, .int .i64 dst, .int .i64 src, .int .i64 off, .int .i64 imm]] w fun e w' => e = .returned (.int .i64 (chkV op dst src off imm)) ∧ Below w.heap.size w w' := by
  have hu := useV_bd op
  have e := u8bit (useV op) 32 hu.1 hu.2 (by omega)
  cases hb : ub (useV op) 32
  · rw [hb] at e
    simp only [if_false, Bool.false_eq_true] at e
    have hr : chkV op dst src off imm = 4 := if_pos hb
    rw [hr]; clear hr hb
    go_enter Try.func11, Try.ntmps11
    go_wp2_with (go_at_call 32; refine (uses_any _ _).mono ?_; rintro e w' ⟨rfl, rfl⟩)
    go_ret
    exact ⟨rfl, (Below.refl _ _).alloc (Nat.le_refl _) _⟩
  · rw [hb] at e
    simp only [if_true] at e
    have H := Lib.hid hb
    clear hb
    go_enter Try.func11, Try.ntmps11
    go_wp2_with (first | (go_at_call 32; refine (uses_any _ _).mono ?_; rintro e w' ⟨rfl, rfl⟩) | (go_at_call 33; refine (regs_any _ _ _ _ _ _ hu.1 hu.2 _).mono ?_; rintro e w1 ⟨rfl, hb1⟩; obtain ⟨hc1, hf1⟩ := bcell hb1) | (go_at_call 34; refine (nums_any _ _ _ _ _ _).mono ?_; rintro e w2 ⟨rfl, hb2⟩; obtain ⟨hc2, hf2⟩ := bcell hb2; have hz2 : w.heap.size < w1.heap.size := by (have := hb1.size; simp at this; omega)) | (go_at_call 35; refine (zeros_any _ _ _ _ _ _ hu.1 hu.2 _).mono ?_; rintro e w3 ⟨rfl, hb3⟩; obtain ⟨hc3, hf3⟩ := bcell hb3; have hz3 : w.heap.size < w2.heap.size := by (have := hb2.size; omega)) | (go_at_call 36; refine (mean_any _ _ _ _ _ _).mono ?_; rintro e w4 ⟨rfl, hb4⟩))
    · go_ret
      refine ⟨rt_i ?_, below_box hb1⟩
      go_light
      have hq := H.out
      unfold chkV; simp_all
    · go_ret
      refine ⟨rt_i ?_, below_then (below_box hb1) hb2 (Nat.le_refl _)⟩
      go_light
      have hq := H.out
      unfold chkV; simp_all
    · go_ret
      refine ⟨rt_i ?_, below_then (below_then (below_then (below_box hb1) hb2 (Nat.le_refl _)) hb3 (Nat.le_refl _)) hb4 (Nat.le_refl _)⟩
      go_light
      have hq := H.out
      unfold chkV; simp_all
    · go_ret
      refine ⟨rt_i ?_, below_then (below_then (below_then (below_box hb1) hb2 (Nat.le_refl _)) hb3 (Nat.le_refl _)) hb4 (Nat.le_refl _)⟩
      go_light
      have hq := H.out
      unfold chkV; simp_all
    · go_ret
      refine ⟨rt_i ?_, below_then (below_then (below_box hb1) hb2 (Nat.le_refl _)) hb3 (Nat.le_refl _)⟩
      go_light
      have hq := H.out
      unfold chkV; simp_all
theorem size_any (op dst src off imm : Int) (w : World) :
    Calls Try.prog 13 #[.agg #[.int .i64 op, .int .i64 dst, .int .i64 src, .int .i64 off, .int .i64 imm]] w fun e w' => e = .returned (.int .i64 (sizeV op)) ∧ Below w.heap.size w w' := by
  go_enter Try.func13, Try.ntmps13
  go_wp2
  all_goals
    go_ret
    refine ⟨rt_i ?_, (Below.refl _ _).alloc (Nat.le_refl _) _⟩
    go_light
    unfold sizeV
    simp_all
theorem widof_any (k : Int) (w : World) :
    Calls Try.prog 38 #[.int .i64 k] w fun e w' => e = .returned (.int .i64 (if k = 0 then 4 else if k = 8 then 2 else if k = 16 then 1 else 8)) ∧ w = w' := by
  go_enter Try.func38, Try.ntmps38
  go_wp2
  all_goals
    go_ret
    refine ⟨rt_i ?_, rfl⟩
    go_light
    simp_all
theorem width_any (op dst src off imm : Int) (g1 : -9223372036854775808 ≤ op) (g2 : op ≤ 9223372036854775807) (w : World) :
    Calls Try.prog 15 #[.agg #[.int .i64 op, .int .i64 dst, .int .i64 src, .int .i64 off, .int .i64 imm]] w fun e w' => e = .returned (.int .i64 (widthV op)) ∧ Below w.heap.size w w' := by
  by_cases h : op < 0 ∨ 255 < op
  · have hf := far24 op g1 g2 h
    have hw : widthV op = 0 := if_neg (by omega)
    rw [hw]
    have e1 : (bits BinOp.andNot IntKind.i64 op 24 == 97) = false := by simp; omega
    have e2 : (bits BinOp.andNot IntKind.i64 op 24 == 98) = false := by simp; omega
    have e3 : (bits BinOp.andNot IntKind.i64 op 24 == 99) = false := by simp; omega
    clear hf hw h
    go_enter Try.func15, Try.ntmps15
    go_wp2
    go_ret
    exact ⟨rfl, (Below.refl _ _).alloc (Nat.le_refl _) _⟩
  · have h1 : 0 ≤ op := by omega
    have h2 : op ≤ 255 := by omega
    have e1 := not24 op h1 h2
    have e2 := and24 op h1 h2
    clear h
    go_enter Try.func15, Try.ntmps15
    go_wp2_with (go_at_call 38; refine (widof_any _ _).mono ?_; rintro e w' ⟨rfl, rfl⟩)
    all_goals
      go_ret
      refine ⟨rt_i ?_, (Below.refl _ _).alloc (Nat.le_refl _) _⟩
      go_light
      try simp only [beq_iff_eq, beq_eq_false_iff_ne, ne_eq] at *
      unfold widthV
      (repeat' split) <;> omega
end Go.Proofs.Ytlimhdnpdhjdaaa
