/-
  The statements' own example of layer 4 (works): a contract. No conditions.
-/
import Derived.Test.YthjjfginenpfjaaSpanW2
import Derived.Test.YthjjfginenpfjaaSpanO
namespace Go.Proofs.Ythjjfginenpfjaa
open Go.RowKit Tn Ow Sp
set_option linter.unusedVariables false
set_option linter.unusedSimpArgs false
def wA : E := ⟨4, 18446744073709551615⟩
def wB : E := ⟨0, 18446744073709551615⟩
def wC : E := ⟨2, 7⟩
def wD : E := ⟨-3, 4⟩
theorem wk1 (w : World) :
    Calls Try.prog 21 #[.agg #[.int .u64 1, .int .u64 2], .agg #[.int .u64 3, .int .u64 18446744073709551613]] w fun e w' => e = .returned (.agg #[.int .u64 wA.lo, .int .u64 wA.hi]) ∧ Below w.heap.size w w' :=
  uadd_any ⟨1, 2⟩ ⟨3, 18446744073709551613⟩ (by unfold okU; decide) (by unfold okU; decide) w
theorem wk2 (w : World) :
    Calls Try.prog 23 #[.agg #[.int .u64 5, .int .u64 9], .agg #[.int .u64 1, .int .u64 6]] w fun e w' => e = .returned (.agg #[.int .u64 wB.lo, .int .u64 wB.hi]) ∧ Below w.heap.size w w' :=
  usub_any ⟨5, 9⟩ ⟨1, 6⟩ (by unfold okU; decide) (by unfold okU; decide) w
theorem wk3 (w : World) :
    Calls Try.prog 33 #[.agg #[.int .u64 1, .int .u64 5], .agg #[.int .u64 2, .int .u64 3]] w fun e w' => e = .returned (.agg #[.int .u64 wC.lo, .int .u64 wC.hi]) ∧ Below w.heap.size w w' :=
  uor_any ⟨1, 5⟩ ⟨2, 3⟩ (by unfold okU; decide) (by unfold okU; decide) w
theorem wk4 (w : World) :
    Calls Try.prog 59 #[.agg #[.int .i64 (-5), .int .i64 1], .agg #[.int .i64 2, .int .i64 3]] w fun e w' => e = .returned (.agg #[.int .i64 wD.lo, .int .i64 wD.hi]) ∧ Below w.heap.size w w' :=
  sadd_any ⟨-5, 1⟩ ⟨2, 3⟩ (by unfold okS; decide) (by unfold okS; decide) w
theorem q_wA (w : World) : (binOp .eql 24 (.agg #[.int .u64 wA.lo, .int .u64 wA.hi]) (.agg #[.int .u64 4, .int .u64 18446744073709551615])).run Try.prog w = .ok (.bool true) w := U_eql 4 18446744073709551615 w
theorem q_wB (w : World) : (binOp .eql 24 (.agg #[.int .u64 wB.lo, .int .u64 wB.hi]) (.agg #[.int .u64 uAll.lo, .int .u64 uAll.hi])).run Try.prog w = .ok (.bool true) w := U_eql 0 18446744073709551615 w
theorem q_wC (w : World) : (binOp .eql 24 (.agg #[.int .u64 wC.lo, .int .u64 wC.hi]) (.agg #[.int .u64 2, .int .u64 7])).run Try.prog w = .ok (.bool true) w := U_eql 2 7 w
theorem q_wD (w : World) : (binOp .eql 35 (.agg #[.int .i64 wD.lo, .int .i64 wD.hi]) (.agg #[.int .i64 (-3), .int .i64 4])).run Try.prog w = .ok (.bool true) w := S_eql (-3) 4 w
set_option maxHeartbeats 4000000 in
set_option maxRecDepth 100000 in
theorem works_any (w : World) : Calls Try.prog 49 #[] w fun e w' => e = .returned (.bool true) ∧ Below w.heap.size w w' := by
  have q1 := q_wA
  have q2 := U_guard .eql
  have q3 := q_wB
  have q5 := q_wC
  have q6 := q_wD
  have q4 := S_guard .eql
  go_enter Try.func49, Try.ntmps49
  go_wp2_with fail
  have HB := Lib.hid (Below.refl w.heap.size w)
  with_reducible refine (wk1 _).mono ?_
  rintro e w1 ⟨rfl, qb⟩
  replace HB := Lib.hid (below_then HB.out qb (Nat.le_refl _))
  clear qb
  go_wp2_with fail
  have A0 := (Bk.new w1 24 #[.int .u64 wA.lo, .int .u64 wA.hi])
  have A := Lib.hid A0
  clear A0
  replace HB := Lib.hid (below_al HB.out (.cells #[.int .u64 wA.lo, .int .u64 wA.hi] 24))
  skip
  generalize (w1.alloc (.cells #[.int .u64 wA.lo, .int .u64 wA.hi] 24)) = v1 at *
  obtain ⟨cA0, cA1⟩ := tcells A.out
  with_reducible refine (wk2 _).mono ?_
  rintro e w2 ⟨rfl, qb⟩
  replace A := Lib.hid (A.out.below qb A.out.lt)
  replace HB := Lib.hid (below_then HB.out qb (Nat.le_refl _))
  clear qb cA0 cA1
  obtain ⟨cA0, cA1⟩ := tcells A.out
  obtain ⟨dA0, dA1⟩ := tcells (A.out.alloc (.cells #[.int .u64 wB.lo, .int .u64 wB.hi] 24))
  go_wp2_with fail
  clear dA0 dA1
  replace A := Lib.hid (A.out.alloc (.cells #[.int .u64 wB.lo, .int .u64 wB.hi] 24))
  have B0 := (Bk.new w2 24 #[.int .u64 wB.lo, .int .u64 wB.hi])
  have B := Lib.hid B0
  clear B0
  replace HB := Lib.hid (below_al HB.out (.cells #[.int .u64 wB.lo, .int .u64 wB.hi] 24))
  clear cA0 cA1
  generalize (w2.alloc (.cells #[.int .u64 wB.lo, .int .u64 wB.hi] 24)) = v2 at *
  obtain ⟨cA0, cA1⟩ := tcells A.out
  obtain ⟨cB0, cB1⟩ := tcells B.out
  with_reducible refine (wk3 _).mono ?_
  rintro e w3 ⟨rfl, qb⟩
  replace A := Lib.hid (A.out.below qb A.out.lt)
  replace B := Lib.hid (B.out.below qb B.out.lt)
  replace HB := Lib.hid (below_then HB.out qb (Nat.le_refl _))
  clear qb cA0 cA1 cB0 cB1
  obtain ⟨cA0, cA1⟩ := tcells A.out
  obtain ⟨cB0, cB1⟩ := tcells B.out
  obtain ⟨dA0, dA1⟩ := tcells (A.out.alloc (.cells #[.int .u64 wC.lo, .int .u64 wC.hi] 24))
  obtain ⟨dB0, dB1⟩ := tcells (B.out.alloc (.cells #[.int .u64 wC.lo, .int .u64 wC.hi] 24))
  go_wp2_with fail
  clear dA0 dA1 dB0 dB1
  replace A := Lib.hid (A.out.alloc (.cells #[.int .u64 wC.lo, .int .u64 wC.hi] 24))
  replace B := Lib.hid (B.out.alloc (.cells #[.int .u64 wC.lo, .int .u64 wC.hi] 24))
  have C0 := (Bk.new w3 24 #[.int .u64 wC.lo, .int .u64 wC.hi])
  have C := Lib.hid C0
  clear C0
  replace HB := Lib.hid (below_al HB.out (.cells #[.int .u64 wC.lo, .int .u64 wC.hi] 24))
  clear cA0 cA1 cB0 cB1
  generalize (w3.alloc (.cells #[.int .u64 wC.lo, .int .u64 wC.hi] 24)) = v3 at *
  obtain ⟨cA0, cA1⟩ := tcells A.out
  obtain ⟨cB0, cB1⟩ := tcells B.out
  obtain ⟨cC0, cC1⟩ := tcells C.out
  with_reducible refine (wk4 _).mono ?_
  rintro e w4 ⟨rfl, qb⟩
  replace A := Lib.hid (A.out.below qb A.out.lt)
  replace B := Lib.hid (B.out.below qb B.out.lt)
  replace C := Lib.hid (C.out.below qb C.out.lt)
  replace HB := Lib.hid (below_then HB.out qb (Nat.le_refl _))
  clear qb cA0 cA1 cB0 cB1 cC0 cC1
  obtain ⟨cA0, cA1⟩ := tcells A.out
  obtain ⟨cB0, cB1⟩ := tcells B.out
  obtain ⟨cC0, cC1⟩ := tcells C.out
  obtain ⟨dA0, dA1⟩ := tcells (A.out.alloc (.cells #[.int .i64 wD.lo, .int .i64 wD.hi] 35))
  obtain ⟨dB0, dB1⟩ := tcells (B.out.alloc (.cells #[.int .i64 wD.lo, .int .i64 wD.hi] 35))
  obtain ⟨dC0, dC1⟩ := tcells (C.out.alloc (.cells #[.int .i64 wD.lo, .int .i64 wD.hi] 35))
  go_wp2_with fail
  clear dA0 dA1 dB0 dB1 dC0 dC1
  replace A := Lib.hid (A.out.alloc (.cells #[.int .i64 wD.lo, .int .i64 wD.hi] 35))
  replace B := Lib.hid (B.out.alloc (.cells #[.int .i64 wD.lo, .int .i64 wD.hi] 35))
  replace C := Lib.hid (C.out.alloc (.cells #[.int .i64 wD.lo, .int .i64 wD.hi] 35))
  have D0 := (Bk.new w4 35 #[.int .i64 wD.lo, .int .i64 wD.hi])
  have D := Lib.hid D0
  clear D0
  replace HB := Lib.hid (below_al HB.out (.cells #[.int .i64 wD.lo, .int .i64 wD.hi] 35))
  clear cA0 cA1 cB0 cB1 cC0 cC1
  generalize (w4.alloc (.cells #[.int .i64 wD.lo, .int .i64 wD.hi] 35)) = v4 at *
  obtain ⟨cA0, cA1⟩ := tcells A.out
  obtain ⟨cB0, cB1⟩ := tcells B.out
  obtain ⟨cC0, cC1⟩ := tcells C.out
  obtain ⟨cD0, cD1⟩ := tcells D.out
  go_region_held3 (fun w' => w'.cell? ⟨w1.heap.size, 0, none⟩ = some (.int .u64 wA.lo) ∧ w'.cell? ⟨w1.heap.size, 1, none⟩ = some (.int .u64 wA.hi) ∧ w'.cell? ⟨w2.heap.size, 0, none⟩ = some (.int .u64 wB.lo) ∧ w'.cell? ⟨w2.heap.size, 1, none⟩ = some (.int .u64 wB.hi) ∧ w'.cell? ⟨w3.heap.size, 0, none⟩ = some (.int .u64 wC.lo) ∧ w'.cell? ⟨w3.heap.size, 1, none⟩ = some (.int .u64 wC.hi) ∧ w'.cell? ⟨w4.heap.size, 0, none⟩ = some (.int .i64 wD.lo) ∧ w'.cell? ⟨w4.heap.size, 1, none⟩ = some (.int .i64 wD.hi) ∧ Below w.heap.size w w')
    (first | assumption | exact ⟨cA0, cA1, cB0, cB1, cC0, cC1, cD0, cD1, HB.out.drew⟩ | exact keep8 qb (by assumption) | exact keep8 qb ⟨by assumption, by assumption, by assumption, by assumption, by assumption, by assumption, by assumption, by assumption, by assumption⟩ | exact keep8 qb ⟨cA0, cA1, cB0, cB1, cC0, cC1, cD0, cD1, HB.out.drew⟩)
    (first | (go_at_call 45; with_reducible refine (uall_any _).mono ?_; rintro e w2 ⟨rfl, qb⟩))
  have BB : Hid (Below w.heap.size w w2) := by
    rename_i hH
    exact Lib.hid hH.2.2.2.2.2.2.2.2
  clear qb
  go_wp2
  go_returns
  exact ⟨rfl, BB.out⟩
end Go.Proofs.Ythjjfginenpfjaa
