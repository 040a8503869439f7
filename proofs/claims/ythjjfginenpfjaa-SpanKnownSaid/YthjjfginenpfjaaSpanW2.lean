/-
  The statements' own small functions of layer 4 (of, soft, works): contracts. Conditions: the ends are numbers of 64 bits, Lo at most Hi.
-/
import Derived.Test.YthjjfginenpfjaaSpanG
namespace Go.Proofs.Ythjjfginenpfjaa
open Go.RowKit Tn Ow Sp
set_option linter.unusedVariables false
set_option linter.unusedSimpArgs false
def ofI (a : E) (k : Int) : Int := if a.lo = 0 ∧ a.hi = 18446744073709551615 then k else a.lo + k % (a.hi - a.lo + 1)
theorem of_in (a : E) (k : Int) (ha : okU a) (h0 : 0 ≤ k) (h1 : k ≤ 18446744073709551615) : inE a (ofI a k) = true := by
  unfold okU at ha
  rw [inE_iff]
  unfold ofI
  split
  · omega
  · have m0 := Int.emod_nonneg k (show a.hi - a.lo + 1 ≠ 0 by omega)
    have m1 := Int.emod_lt_of_pos k (show 0 < a.hi - a.lo + 1 by omega)
    omega
def softI (a : E) (k : Int) : Int := if a.lo = -9223372036854775808 ∧ a.hi = 9223372036854775807 then sg k else a.lo + k % (a.hi - a.lo + 1)
theorem soft_in (a : E) (k : Int) (ha : okS a) (h0 : 0 ≤ k) (h1 : k ≤ 18446744073709551615) : inE a (softI a k) = true := by
  unfold okS at ha
  rw [inE_iff]
  unfold softI
  have := sg_bd k h0 h1
  split
  · omega
  · have m0 := Int.emod_nonneg k (show a.hi - a.lo + 1 ≠ 0 by omega)
    have m1 := Int.emod_lt_of_pos k (show 0 < a.hi - a.lo + 1 by omega)
    omega
theorem U_st : Try.prog.underlying 24 = some (.struct (Try.prog.fieldsOf 24)) := by kernel_rfl
theorem U_in : Try.prog.stoodInHeld 24 = false := by kernel_rfl
theorem U_eg : Try.prog.eqGuardType Try.prog.depth 24 = false := by kernel_rfl
theorem U_eql0 (a0 a1 b0 b1 : Int) (w : World) : (binOp .eql 24 (.agg #[.int .u64 a0, .int .u64 a1]) (.agg #[.int .u64 b0, .int .u64 b1])).run Try.prog w = .ok (.bool (a0 == b0 && a1 == b1)) w := by
  rw [run_eql_struct, run_equalIn_agg _ _ _ _ _ U_st U_in]
  simp only [Program.fieldsOf, Try.underlying24]
  cases h0 : (a0 == b0) <;> cases h1 : (a1 == b1) <;> simp [go_sem, h0, h1]
theorem U_neq0 (a0 a1 b0 b1 : Int) (w : World) : (binOp .neq 24 (.agg #[.int .u64 a0, .int .u64 a1]) (.agg #[.int .u64 b0, .int .u64 b1])).run Try.prog w = .ok (.bool (!(a0 == b0 && a1 == b1))) w := by
  rw [run_neq_struct, run_equalIn_agg _ _ _ _ _ U_st U_in]
  simp only [Program.fieldsOf, Try.underlying24]
  cases h0 : (a0 == b0) <;> cases h1 : (a1 == b1) <;> simp [go_sem, h0, h1]
theorem U_guard (op : BinOp) (a0 a1 b0 b1 : Int) (o1 o2 : Operand) (w : World) : (eqGuard op 24 o1 o2 (.agg #[.int .u64 a0, .int .u64 a1]) (.agg #[.int .u64 b0, .int .u64 b1])).run Try.prog w = .ok () w := run_eqGuard_agg w op _ o1 o2 _ _ U_eg
theorem U_eql (a b : Int) (w : World) : (binOp .eql 24 (.agg #[.int .u64 a, .int .u64 b]) (.agg #[.int .u64 a, .int .u64 b])).run Try.prog w = .ok (.bool true) w := by rw [U_eql0]; simp
theorem U_neq (a b : Int) (w : World) : (binOp .neq 24 (.agg #[.int .u64 a, .int .u64 b]) (.agg #[.int .u64 a, .int .u64 b])).run Try.prog w = .ok (.bool false) w := by rw [U_neq0]; simp
theorem S_st : Try.prog.underlying 35 = some (.struct (Try.prog.fieldsOf 35)) := by kernel_rfl
theorem S_in : Try.prog.stoodInHeld 35 = false := by kernel_rfl
theorem S_eg : Try.prog.eqGuardType Try.prog.depth 35 = false := by kernel_rfl
theorem S_eql0 (a0 a1 b0 b1 : Int) (w : World) : (binOp .eql 35 (.agg #[.int .i64 a0, .int .i64 a1]) (.agg #[.int .i64 b0, .int .i64 b1])).run Try.prog w = .ok (.bool (a0 == b0 && a1 == b1)) w := by
  rw [run_eql_struct, run_equalIn_agg _ _ _ _ _ S_st S_in]
  simp only [Program.fieldsOf, Try.underlying35]
  cases h0 : (a0 == b0) <;> cases h1 : (a1 == b1) <;> simp [go_sem, h0, h1]
theorem S_neq0 (a0 a1 b0 b1 : Int) (w : World) : (binOp .neq 35 (.agg #[.int .i64 a0, .int .i64 a1]) (.agg #[.int .i64 b0, .int .i64 b1])).run Try.prog w = .ok (.bool (!(a0 == b0 && a1 == b1))) w := by
  rw [run_neq_struct, run_equalIn_agg _ _ _ _ _ S_st S_in]
  simp only [Program.fieldsOf, Try.underlying35]
  cases h0 : (a0 == b0) <;> cases h1 : (a1 == b1) <;> simp [go_sem, h0, h1]
theorem S_guard (op : BinOp) (a0 a1 b0 b1 : Int) (o1 o2 : Operand) (w : World) : (eqGuard op 35 o1 o2 (.agg #[.int .i64 a0, .int .i64 a1]) (.agg #[.int .i64 b0, .int .i64 b1])).run Try.prog w = .ok () w := run_eqGuard_agg w op _ o1 o2 _ _ S_eg
theorem S_eql (a b : Int) (w : World) : (binOp .eql 35 (.agg #[.int .i64 a, .int .i64 b]) (.agg #[.int .i64 a, .int .i64 b])).run Try.prog w = .ok (.bool true) w := by rw [S_eql0]; simp
theorem S_neq (a b : Int) (w : World) : (binOp .neq 35 (.agg #[.int .i64 a, .int .i64 b]) (.agg #[.int .i64 a, .int .i64 b])).run Try.prog w = .ok (.bool false) w := by rw [S_neq0]; simp
theorem T_st : Try.prog.underlying 38 = some (.struct (Try.prog.fieldsOf 38)) := by kernel_rfl
theorem T_in : Try.prog.stoodInHeld 38 = false := by kernel_rfl
theorem T_eg : Try.prog.eqGuardType Try.prog.depth 38 = false := by kernel_rfl
theorem T_eql0 (a0 a1 b0 b1 : Int) (w : World) : (binOp .eql 38 (.agg #[.int .u64 a0, .int .u64 a1]) (.agg #[.int .u64 b0, .int .u64 b1])).run Try.prog w = .ok (.bool (a0 == b0 && a1 == b1)) w := by
  rw [run_eql_struct, run_equalIn_agg _ _ _ _ _ T_st T_in]
  simp only [Program.fieldsOf, Try.underlying38]
  cases h0 : (a0 == b0) <;> cases h1 : (a1 == b1) <;> simp [go_sem, h0, h1]
theorem T_neq0 (a0 a1 b0 b1 : Int) (w : World) : (binOp .neq 38 (.agg #[.int .u64 a0, .int .u64 a1]) (.agg #[.int .u64 b0, .int .u64 b1])).run Try.prog w = .ok (.bool (!(a0 == b0 && a1 == b1))) w := by
  rw [run_neq_struct, run_equalIn_agg _ _ _ _ _ T_st T_in]
  simp only [Program.fieldsOf, Try.underlying38]
  cases h0 : (a0 == b0) <;> cases h1 : (a1 == b1) <;> simp [go_sem, h0, h1]
theorem T_guard (op : BinOp) (a0 a1 b0 b1 : Int) (o1 o2 : Operand) (w : World) : (eqGuard op 38 o1 o2 (.agg #[.int .u64 a0, .int .u64 a1]) (.agg #[.int .u64 b0, .int .u64 b1])).run Try.prog w = .ok () w := run_eqGuard_agg w op _ o1 o2 _ _ T_eg
theorem T_eql (a b : Int) (w : World) : (binOp .eql 38 (.agg #[.int .u64 a, .int .u64 b]) (.agg #[.int .u64 a, .int .u64 b])).run Try.prog w = .ok (.bool true) w := by rw [T_eql0]; simp
theorem T_neq (a b : Int) (w : World) : (binOp .neq 38 (.agg #[.int .u64 a, .int .u64 b]) (.agg #[.int .u64 a, .int .u64 b])).run Try.prog w = .ok (.bool false) w := by rw [T_neq0]; simp
theorem uall_lit (w : World) :
    Calls Try.prog 45 #[] w fun e w' => e = .returned (.agg #[.int .u64 0, .int .u64 18446744073709551615]) ∧ Below w.heap.size w w' := uall_any w
theorem sall_lit (w : World) :
    Calls Try.prog 67 #[] w fun e w' => e = .returned (.agg #[.int .i64 (-9223372036854775808), .int .i64 9223372036854775807]) ∧ Below w.heap.size w w' := sall_any w
set_option maxHeartbeats 4000000 in
theorem of_any (a : E) (k : Int) (ha : okU a) (h0 : 0 ≤ k) (h1 : k ≤ 18446744073709551615) (w : World) :
    Calls Try.prog 73 #[.agg #[.int .u64 a.lo, .int .u64 a.hi], .int .u64 k] w fun e w' => e = .returned (.int .u64 (ofI a k)) ∧ Below w.heap.size w w' := by
  obtain ⟨a0, a1, a2⟩ := ha
  have qg := U_guard .eql
  by_cases h : a.lo = 0 ∧ a.hi = 18446744073709551615
  · have e1 := Lib.hid (show ofI a k = k by unfold ofI; rw [if_pos h])
    rw [e1.out]
    have q1 : ∀ w : World, (binOp .eql 24 (.agg #[.int .u64 a.lo, .int .u64 a.hi]) (.agg #[.int .u64 0, .int .u64 18446744073709551615])).run Try.prog w = .ok (.bool true) w := fun w => by rw [U_eql0, h.1, h.2]; simp
    clear h
    go_enter Try.func73, Try.ntmps73
    go_wp2_with fail
    have K0 := (Bk.new w 24 #[.int .u64 a.lo, .int .u64 a.hi])
    have B0 : Below w.heap.size w (w.alloc (.cells #[.int .u64 a.lo, .int .u64 a.hi] 24)) := by go_grown
    generalize (w.alloc (.cells #[.int .u64 a.lo, .int .u64 a.hi] 24)) = w0 at *
    have H0 := Lib.hid K0
    obtain ⟨c00, c01⟩ := tcells K0
    have HB := Lib.hid B0
    clear K0 B0
    go_region_held3 (fun w' => w'.cell? ⟨w.heap.size, 0, none⟩ = some (.int .u64 a.lo) ∧ w'.cell? ⟨w.heap.size, 1, none⟩ = some (.int .u64 a.hi) ∧ Below w.heap.size w w')
      (first | assumption | exact ⟨c00, c01, HB.out.drew⟩ | exact keep2 qb (by assumption) | exact keep2 qb ⟨by assumption, by assumption, by assumption⟩ | exact keep2 qb ⟨c00, c01, HB.out.drew⟩)
      (first | (go_at_call 45; with_reducible refine (uall_lit _).mono ?_; rintro e w2 ⟨rfl, qb⟩))
    rename_i hH
    have BB := Lib.hid hH.2.2
    clear qb hH
    go_wp2_with fail
    go_returns
    exact ⟨rt_i rfl, BB.out⟩
  · have e1 := Lib.hid (show ofI a k = a.lo + k % (a.hi - a.lo + 1) by unfold ofI; rw [if_neg h])
    rw [e1.out]
    have q1 : ∀ w : World, (binOp .eql 24 (.agg #[.int .u64 a.lo, .int .u64 a.hi]) (.agg #[.int .u64 0, .int .u64 18446744073709551615])).run Try.prog w = .ok (.bool false) w := fun w => by
      rw [U_eql0]
      by_cases g : a.lo = 0
      · have g2 : ¬ a.hi = 18446744073709551615 := fun g2 => h ⟨g, g2⟩
        simp [g2]
      · simp [g]
    have g9 : a.hi - a.lo + 1 ≤ 18446744073709551615 := by omega
    have m0 := Int.emod_nonneg k (show a.hi - a.lo + 1 ≠ 0 by omega)
    have m1 := Int.emod_lt_of_pos k (show 0 < a.hi - a.lo + 1 by omega)
    have M0 := Lib.hid m0
    have M1 := Lib.hid m1
    clear h m0 m1
    go_enter Try.func73, Try.ntmps73
    go_wp2_with fail
    have K0 := (Bk.new w 24 #[.int .u64 a.lo, .int .u64 a.hi])
    have B0 : Below w.heap.size w (w.alloc (.cells #[.int .u64 a.lo, .int .u64 a.hi] 24)) := by go_grown
    generalize (w.alloc (.cells #[.int .u64 a.lo, .int .u64 a.hi] 24)) = w0 at *
    have H0 := Lib.hid K0
    obtain ⟨c00, c01⟩ := tcells K0
    have HB := Lib.hid B0
    clear K0 B0
    go_region_held3 (fun w' => w'.cell? ⟨w.heap.size, 0, none⟩ = some (.int .u64 a.lo) ∧ w'.cell? ⟨w.heap.size, 1, none⟩ = some (.int .u64 a.hi) ∧ Below w.heap.size w w')
      (first | assumption | exact ⟨c00, c01, HB.out.drew⟩ | exact keep2 qb (by assumption) | exact keep2 qb ⟨by assumption, by assumption, by assumption⟩ | exact keep2 qb ⟨c00, c01, HB.out.drew⟩)
      (first | (go_at_call 45; with_reducible refine (uall_lit _).mono ?_; rintro e w2 ⟨rfl, qb⟩))
    rename_i hH
    have BB := Lib.hid hH.2.2
    have c0 := hH.1
    have c1 := hH.2.1
    clear qb hH
    go_wp2_with fail
    have s1 : IntKind.u64.wrap (a.hi - a.lo) = a.hi - a.lo := wru _ (by omega) (by omega)
    have s2 : IntKind.u64.wrap (a.hi - a.lo + 1) = a.hi - a.lo + 1 := wru _ (by omega) (by omega)
    have s3 : 0 < a.hi - a.lo + 1 := by omega
    go_region
    all_goals go_wp2_with fail
    all_goals go_returns
    all_goals refine ⟨rt_i ?_, by first | exact BB.out | exact BB.out.drew⟩
    all_goals have := M0.out
    all_goals have := M1.out
    all_goals first | rfl | (rw [Int.tmod_eq_emod_of_nonneg h0]; first | rfl | exact wru _ (by omega) (by omega)) | exact wru _ (by omega) (by omega)
set_option maxHeartbeats 4000000 in
theorem soft_any (a : E) (k : Int) (ha : okS a) (h0 : 0 ≤ k) (h1 : k ≤ 18446744073709551615) (w : World) :
    Calls Try.prog 74 #[.agg #[.int .i64 a.lo, .int .i64 a.hi], .int .u64 k] w fun e w' => e = .returned (.int .u64 (us (softI a k))) ∧ Below w.heap.size w w' := by
  obtain ⟨a0, a1, a2⟩ := ha
  have qg := S_guard .eql
  by_cases h : a.lo = -9223372036854775808 ∧ a.hi = 9223372036854775807
  · have e1 := Lib.hid (show softI a k = sg k by unfold softI; rw [if_pos h])
    rw [e1.out]
    have q1 : ∀ w : World, (binOp .eql 35 (.agg #[.int .i64 a.lo, .int .i64 a.hi]) (.agg #[.int .i64 (-9223372036854775808), .int .i64 9223372036854775807])).run Try.prog w = .ok (.bool true) w := fun w => by rw [S_eql0, h.1, h.2]; simp
    clear h
    go_enter Try.func74, Try.ntmps74
    go_wp2_with fail
    have K0 := (Bk.new w 35 #[.int .i64 a.lo, .int .i64 a.hi])
    have B0 : Below w.heap.size w (w.alloc (.cells #[.int .i64 a.lo, .int .i64 a.hi] 35)) := by go_grown
    generalize (w.alloc (.cells #[.int .i64 a.lo, .int .i64 a.hi] 35)) = w0 at *
    have H0 := Lib.hid K0
    obtain ⟨c00, c01⟩ := tcells K0
    have HB := Lib.hid B0
    clear K0 B0
    go_region_held3 (fun w' => w'.cell? ⟨w.heap.size, 0, none⟩ = some (.int .i64 a.lo) ∧ w'.cell? ⟨w.heap.size, 1, none⟩ = some (.int .i64 a.hi) ∧ Below w.heap.size w w')
      (first | assumption | exact ⟨c00, c01, HB.out.drew⟩ | exact keep2 qb (by assumption) | exact keep2 qb ⟨by assumption, by assumption, by assumption⟩ | exact keep2 qb ⟨c00, c01, HB.out.drew⟩)
      (first | (go_at_call 67; with_reducible refine (sall_lit _).mono ?_; rintro e w2 ⟨rfl, qb⟩))
    rename_i hH
    have BB := Lib.hid hH.2.2
    clear qb hH
    go_wp2_with fail
    go_returns
    exact ⟨rt_i (us_sg k h0 h1).symm, BB.out⟩
  · have e1 := Lib.hid (show softI a k = a.lo + k % (a.hi - a.lo + 1) by unfold softI; rw [if_neg h])
    rw [e1.out]
    have q1 : ∀ w : World, (binOp .eql 35 (.agg #[.int .i64 a.lo, .int .i64 a.hi]) (.agg #[.int .i64 (-9223372036854775808), .int .i64 9223372036854775807])).run Try.prog w = .ok (.bool false) w := fun w => by
      rw [S_eql0]
      by_cases g : a.lo = -9223372036854775808
      · have g2 : ¬ a.hi = 9223372036854775807 := fun g2 => h ⟨g, g2⟩
        simp [g2]
      · simp [g]
    have g9 : a.hi - a.lo + 1 ≤ 18446744073709551615 := by omega
    have m0 := Int.emod_nonneg k (show a.hi - a.lo + 1 ≠ 0 by omega)
    have m1 := Int.emod_lt_of_pos k (show 0 < a.hi - a.lo + 1 by omega)
    have M0 := Lib.hid m0
    have M1 := Lib.hid m1
    clear h m0 m1
    go_enter Try.func74, Try.ntmps74
    go_wp2_with fail
    have K0 := (Bk.new w 35 #[.int .i64 a.lo, .int .i64 a.hi])
    have B0 : Below w.heap.size w (w.alloc (.cells #[.int .i64 a.lo, .int .i64 a.hi] 35)) := by go_grown
    generalize (w.alloc (.cells #[.int .i64 a.lo, .int .i64 a.hi] 35)) = w0 at *
    have H0 := Lib.hid K0
    obtain ⟨c00, c01⟩ := tcells K0
    have HB := Lib.hid B0
    clear K0 B0
    go_region_held3 (fun w' => w'.cell? ⟨w.heap.size, 0, none⟩ = some (.int .i64 a.lo) ∧ w'.cell? ⟨w.heap.size, 1, none⟩ = some (.int .i64 a.hi) ∧ Below w.heap.size w w')
      (first | assumption | exact ⟨c00, c01, HB.out.drew⟩ | exact keep2 qb (by assumption) | exact keep2 qb ⟨by assumption, by assumption, by assumption⟩ | exact keep2 qb ⟨c00, c01, HB.out.drew⟩)
      (first | (go_at_call 67; with_reducible refine (sall_lit _).mono ?_; rintro e w2 ⟨rfl, qb⟩))
    rename_i hH
    have BB := Lib.hid hH.2.2
    have c0 := hH.1
    have c1 := hH.2.1
    clear qb hH
    go_wp2_with fail
    have s0 : IntKind.u64.wrap (IntKind.u64.wrap a.hi - IntKind.u64.wrap a.lo) = a.hi - a.lo := by simp only [IntKind.wrap_u64]; omega
    have s2 : IntKind.u64.wrap (a.hi - a.lo + 1) = a.hi - a.lo + 1 := wru _ (by omega) (by omega)
    have s3 : 0 < a.hi - a.lo + 1 := by omega
    go_region
    all_goals go_wp2_with fail
    all_goals go_returns
    all_goals refine ⟨rt_i ?_, by first | exact BB.out | exact BB.out.drew⟩
    all_goals have := M0.out
    all_goals have := M1.out
    all_goals first | rfl | (rw [Int.tmod_eq_emod_of_nonneg h0]; simp only [IntKind.wrap_u64]; unfold us; split <;> omega) | (simp only [IntKind.wrap_u64]; unfold us; split <;> omega)
end Go.Proofs.Ythjjfginenpfjaa
