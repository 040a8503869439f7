/-
  What the document's answer of layer 2 tells of an instruction (Check), the operation using what the bits 45 say: contract.
-/
import Derived.Test.YtlimhdnpdhjdaaaInsnRef
namespace Go.Proofs.Ytlimhdnpdhjdaaa
open Go.RowKit Wi Ow
set_option linter.unusedVariables false
set_option linter.unusedSimpArgs false

set_option maxRecDepth 100000 in
set_option maxHeartbeats 4000000 in
theorem refcheck_45 (op dst src off imm : Int) (hu : useV op = 45) (w : World) :
    Calls Try.prog 12 #[.agg #[.int .i64 op, .int .i64 dst, .int .i64 src, .int .i64 off, .int .i64 imm]] w fun e w' => e = .returned (.int .i64 (chkV op dst src off imm)) ∧ Below w.heap.size w w' := by
  have h24 : (op == 24) = false := by
    have h : op ≠ 24 := by intro e; subst e; revert hu; decide
    simpa using h
  have h212 : (op == 212) = false := by
    have h : op ≠ 212 := by intro e; subst e; revert hu; decide
    simpa using h
  have h220 : (op == 220) = false := by
    have h : op ≠ 220 := by intro e; subst e; revert hu; decide
    simpa using h
  have HU := Lib.hid hu
  have C := of_any op
  have ho : ofV op = .agg #[.int .i64 op, .bool true, .bool false, .bool true, .bool true, .bool false] := by unfold ofV; rw [HU.out]; rfl
  rw [ho, hu] at C
  replace C : ∀ w, Calls Try.prog 37 #[.int .i64 op] w fun e w' => e = .returned (.tuple #[.agg #[.int .i64 op, .bool true, .bool false, .bool true, .bool true, .bool false], .bool true]) ∧ Below w.heap.size w w' := C
  have CC := Lib.hid C
  clear C ho hu
  go_enter Try.func12, Try.ntmps12
  go_wp2_with fail
  refine (CC.out _).mono ?_
  rintro e w1 ⟨rfl, q1⟩
  have B1 := Lib.hid (below_box q1)
  have K1 := Lib.hid ((Bk.new w 23 #[.int .i64 op, .int .i64 dst, .int .i64 src, .int .i64 off, .int .i64 imm]).below q1 (by simp))
  have hlt : w.heap.size < w1.heap.size := by have := q1.size; simp at this; omega
  clear q1 CC
  obtain ⟨c0, c1, c2, c3, c4⟩ := box_cells K1.out
  go_wp2
  all_goals
    go_ret
    refine ⟨rt_i ?_, B1.out.alloc (by have := B1.out.size; omega) _⟩
    go_light
    clear B1 K1 c0 c1 c2 c3 c4 hlt
    have hq := HU.out
    clear HU
    unfold chkV
    rw [hq]
    simp only [regOk, numOk, zeroOk, meanOk, isReg, ub]
    simp_all <;> omega
end Go.Proofs.Ytlimhdnpdhjdaaa
