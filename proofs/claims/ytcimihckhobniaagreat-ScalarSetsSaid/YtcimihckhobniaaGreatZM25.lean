/-
  Texts of layer 5 and of those below it, put together: contracts and plain mathematics that ScalarSets needs.
-/
import Derived.Test.YtcimihckhobniaaGreatZScalarR3
namespace Go.Proofs.YtcimihckhobniaaGreat.Sc
open Go.RowKit Tn Ow Sp
set_option linter.unusedVariables false
set_option linter.unusedSimpArgs false
set_option maxRecDepth 100000
theorem ronce_no (x : C) (hx : mayC x) (h : onceC x = none) (w : World) :
    Calls Tryz.prog 42 #[.agg #[.int .u64 (bi x.t.v), .int .u64 (bi x.t.m), .int .u64 x.u.lo, .int .u64 x.u.hi, .int .i64 x.s.lo, .int .i64 x.s.hi]] w fun e w' => e = .returned (.tuple #[.agg #[.int .u64 0, .int .u64 0, .int .u64 0, .int .u64 0, .int .i64 0, .int .i64 0], .bool false]) ∧ Below w.heap.size w w' := by
  have := ronce5 x hx w; rw [h] at this; exact this
theorem ronce_so (x y : C) (hx : mayC x) (h : onceC x = some y) (w : World) :
    Calls Tryz.prog 42 #[.agg #[.int .u64 (bi x.t.v), .int .u64 (bi x.t.m), .int .u64 x.u.lo, .int .u64 x.u.hi, .int .i64 x.s.lo, .int .i64 x.s.hi]] w fun e w' => e = .returned (.tuple #[.agg #[.int .u64 (bi y.t.v), .int .u64 (bi y.t.m), .int .u64 y.u.lo, .int .u64 y.u.hi, .int .i64 y.s.lo, .int .i64 y.s.hi], .bool true]) ∧ Below w.heap.size w w' := by
  have := ronce5 x hx w; rw [h] at this; exact this
set_option maxHeartbeats 4000000 in
theorem rnorm5 (x : C) (hx : mayC x) (w : World) :
    Calls Tryz.prog 16 #[.agg #[.int .u64 (bi x.t.v), .int .u64 (bi x.t.m), .int .u64 x.u.lo, .int .u64 x.u.hi, .int .i64 x.s.lo, .int .i64 x.s.hi]] w fun e w' => e = .returned (.tuple #[.agg #[.int .u64 (bi ((normC x).getD zeroC).t.v), .int .u64 (bi ((normC x).getD zeroC).t.m), .int .u64 ((normC x).getD zeroC).u.lo, .int .u64 ((normC x).getD zeroC).u.hi, .int .i64 ((normC x).getD zeroC).s.lo, .int .i64 ((normC x).getD zeroC).s.hi], .bool (normC x).isSome]) ∧ Below w.heap.size w w' := by
  cases h : onceC x with
  | none =>
    have e1 := Lib.hid (show normC x = none by unfold normC; rw [h]; rfl)
    have EH := Lib.hid h
    clear h
    go_enter Tryz.func16, Tryz.ntmps16
    go_wp2_with fail
    have X := ((Bk.new w 30 #[.int .u64 (bi x.t.v), .int .u64 (bi x.t.m), .int .u64 x.u.lo, .int .u64 x.u.hi, .int .i64 x.s.lo, .int .i64 x.s.hi]).alloc (.cells #[.int .u64 0, .int .u64 0, .int .u64 0, .int .u64 0, .int .i64 0, .int .i64 0] 30))
    have R := (Bk.new (w.alloc (.cells #[.int .u64 (bi x.t.v), .int .u64 (bi x.t.m), .int .u64 x.u.lo, .int .u64 x.u.hi, .int .i64 x.s.lo, .int .i64 x.s.hi] 30)) 30 #[.int .u64 0, .int .u64 0, .int .u64 0, .int .u64 0, .int .i64 0, .int .i64 0])
    rw [World.size_alloc] at R
    have HB : Below w.heap.size w ((w.alloc (.cells #[.int .u64 (bi x.t.v), .int .u64 (bi x.t.m), .int .u64 x.u.lo, .int .u64 x.u.hi, .int .i64 x.s.lo, .int .i64 x.s.hi] 30)).alloc (.cells #[.int .u64 0, .int .u64 0, .int .u64 0, .int .u64 0, .int .i64 0, .int .i64 0] 30)) := by go_grown
    generalize ((w.alloc (.cells #[.int .u64 (bi x.t.v), .int .u64 (bi x.t.m), .int .u64 x.u.lo, .int .u64 x.u.hi, .int .i64 x.s.lo, .int .i64 x.s.hi] 30)).alloc (.cells #[.int .u64 0, .int .u64 0, .int .u64 0, .int .u64 0, .int .i64 0, .int .i64 0] 30)) = w0 at *
    replace X := Lib.hid X
    replace R := Lib.hid R
    replace HB := Lib.hid HB
    have neXR : w.heap.size ≠ w.heap.size + 1 := by omega
    with_reducible refine (ronce_no x hx EH.out _).mono ?_
    rintro e w1 ⟨rfl, qb⟩
    replace X := Lib.hid (Rg.bkk X.out qb)
    replace R := Lib.hid (Rg.bkk R.out qb)
    replace HB := Lib.hid (Rg.bth HB.out qb (Nat.le_refl _))
    clear qb
    have X0 := X.out.cell 0; have X1 := X.out.cell 1; have X2 := X.out.cell 2; have X3 := X.out.cell 3; have X4 := X.out.cell 4; have X5 := X.out.cell 5
    have R0 := R.out.cell 0; have R1 := R.out.cell 1; have R2 := R.out.cell 2; have R3 := R.out.cell 3; have R4 := R.out.cell 4; have R5 := R.out.cell 5
    have fR0 := R.out.frozen 0; have fR1 := R.out.frozen 1; have fR2 := R.out.frozen 2; have fR3 := R.out.frozen 3; have fR4 := R.out.frozen 4; have fR5 := R.out.frozen 5
    have nX0 := (X.out.alloc (.cells #[.int .u64 0, .int .u64 0, .int .u64 0, .int .u64 0, .int .i64 0, .int .i64 0] 30)).cell 0
    have nX1 := (X.out.alloc (.cells #[.int .u64 0, .int .u64 0, .int .u64 0, .int .u64 0, .int .i64 0, .int .i64 0] 30)).cell 1
    have nX2 := (X.out.alloc (.cells #[.int .u64 0, .int .u64 0, .int .u64 0, .int .u64 0, .int .i64 0, .int .i64 0] 30)).cell 2
    have nX3 := (X.out.alloc (.cells #[.int .u64 0, .int .u64 0, .int .u64 0, .int .u64 0, .int .i64 0, .int .i64 0] 30)).cell 3
    have nX4 := (X.out.alloc (.cells #[.int .u64 0, .int .u64 0, .int .u64 0, .int .u64 0, .int .i64 0, .int .i64 0] 30)).cell 4
    have nX5 := (X.out.alloc (.cells #[.int .u64 0, .int .u64 0, .int .u64 0, .int .u64 0, .int .i64 0, .int .i64 0] 30)).cell 5
    have nR0 := (R.out.alloc (.cells #[.int .u64 0, .int .u64 0, .int .u64 0, .int .u64 0, .int .i64 0, .int .i64 0] 30)).cell 0
    have nR1 := (R.out.alloc (.cells #[.int .u64 0, .int .u64 0, .int .u64 0, .int .u64 0, .int .i64 0, .int .i64 0] 30)).cell 1
    have nR2 := (R.out.alloc (.cells #[.int .u64 0, .int .u64 0, .int .u64 0, .int .u64 0, .int .i64 0, .int .i64 0] 30)).cell 2
    have nR3 := (R.out.alloc (.cells #[.int .u64 0, .int .u64 0, .int .u64 0, .int .u64 0, .int .i64 0, .int .i64 0] 30)).cell 3
    have nR4 := (R.out.alloc (.cells #[.int .u64 0, .int .u64 0, .int .u64 0, .int .u64 0, .int .i64 0, .int .i64 0] 30)).cell 4
    have nR5 := (R.out.alloc (.cells #[.int .u64 0, .int .u64 0, .int .u64 0, .int .u64 0, .int .i64 0, .int .i64 0] 30)).cell 5
    go_upto_region 2 with (fail)
    clear X0 X1 X2 X3 X4 X5 R0 R1 R2 R3 R4 R5 fR0 fR1 fR2 fR3 fR4 fR5
    clear nX0 nX1 nX2 nX3 nX4 nX5 nR0 nR1 nR2 nR3 nR4 nR5
    have hwY : w.heap.size ≤ w1.heap.size := by have := HB.out.size; omega
    have neXY : w.heap.size ≠ w1.heap.size := by have := X.out.lt; omega
    have neRY : w.heap.size + 1 ≠ w1.heap.size := by have := R.out.lt; omega
    replace X := Lib.hid (X.out.alloc (.cells #[.int .u64 0, .int .u64 0, .int .u64 0, .int .u64 0, .int .i64 0, .int .i64 0] 30))
    replace R := Lib.hid (R.out.alloc (.cells #[.int .u64 0, .int .u64 0, .int .u64 0, .int .u64 0, .int .i64 0, .int .i64 0] 30))
    have Y := (Bk.new w1 30 #[.int .u64 0, .int .u64 0, .int .u64 0, .int .u64 0, .int .i64 0, .int .i64 0])
    replace Y := Lib.hid Y
    replace HB := Lib.hid (HB.out.alloc HB.out.size (.cells #[.int .u64 0, .int .u64 0, .int .u64 0, .int .u64 0, .int .i64 0, .int .i64 0] 30))
    generalize (w1.alloc (.cells #[.int .u64 0, .int .u64 0, .int .u64 0, .int .u64 0, .int .i64 0, .int .i64 0] 30)) = z1 at *
    have BB := bset6 R.out
    have g0 := fun u0 u1 u2 u3 u4 u5 => (BB u0 u1 u2 u3 u4 u5).cell 0
    have g1 := fun u0 u1 u2 u3 u4 u5 => (BB u0 u1 u2 u3 u4 u5).cell 1
    have g2 := fun u0 u1 u2 u3 u4 u5 => (BB u0 u1 u2 u3 u4 u5).cell 2
    have g3 := fun u0 u1 u2 u3 u4 u5 => (BB u0 u1 u2 u3 u4 u5).cell 3
    have g4 := fun u0 u1 u2 u3 u4 u5 => (BB u0 u1 u2 u3 u4 u5).cell 4
    have g5 := fun u0 u1 u2 u3 u4 u5 => (BB u0 u1 u2 u3 u4 u5).cell 5
    have X0 := X.out.cell 0; have X1 := X.out.cell 1; have X2 := X.out.cell 2; have X3 := X.out.cell 3; have X4 := X.out.cell 4; have X5 := X.out.cell 5
    have R0 := R.out.cell 0; have R1 := R.out.cell 1; have R2 := R.out.cell 2; have R3 := R.out.cell 3; have R4 := R.out.cell 4; have R5 := R.out.cell 5
    have fR0 := R.out.frozen 0; have fR1 := R.out.frozen 1; have fR2 := R.out.frozen 2; have fR3 := R.out.frozen 3; have fR4 := R.out.frozen 4; have fR5 := R.out.frozen 5
    have Y0 := Y.out.cell 0; have Y1 := Y.out.cell 1; have Y2 := Y.out.cell 2; have Y3 := Y.out.cell 3; have Y4 := Y.out.cell 4; have Y5 := Y.out.cell 5
    have fY0 := Y.out.frozen 0; have fY1 := Y.out.frozen 1; have fY2 := Y.out.frozen 2; have fY3 := Y.out.frozen 3; have fY4 := Y.out.frozen 4; have fY5 := Y.out.frozen 5
    go_wp2
    refine bodyPost_ret (by simp [results, Tryz.results16, g0, g1, g2, g3, g4, g5, go_sem]; try rfl) rfl ?_
    exact ⟨by rw [e1.out]; rfl, below6 HB.out (by omega)⟩
  | some y =>
    have e1 := Lib.hid (show normC x = onceC y by unfold normC; rw [h]; rfl)
    have EH := Lib.hid h
    have my := (once_less hx h).1
    clear h
    go_enter Tryz.func16, Tryz.ntmps16
    go_wp2_with fail
    have X := ((Bk.new w 30 #[.int .u64 (bi x.t.v), .int .u64 (bi x.t.m), .int .u64 x.u.lo, .int .u64 x.u.hi, .int .i64 x.s.lo, .int .i64 x.s.hi]).alloc (.cells #[.int .u64 0, .int .u64 0, .int .u64 0, .int .u64 0, .int .i64 0, .int .i64 0] 30))
    have R := (Bk.new (w.alloc (.cells #[.int .u64 (bi x.t.v), .int .u64 (bi x.t.m), .int .u64 x.u.lo, .int .u64 x.u.hi, .int .i64 x.s.lo, .int .i64 x.s.hi] 30)) 30 #[.int .u64 0, .int .u64 0, .int .u64 0, .int .u64 0, .int .i64 0, .int .i64 0])
    rw [World.size_alloc] at R
    have HB : Below w.heap.size w ((w.alloc (.cells #[.int .u64 (bi x.t.v), .int .u64 (bi x.t.m), .int .u64 x.u.lo, .int .u64 x.u.hi, .int .i64 x.s.lo, .int .i64 x.s.hi] 30)).alloc (.cells #[.int .u64 0, .int .u64 0, .int .u64 0, .int .u64 0, .int .i64 0, .int .i64 0] 30)) := by go_grown
    generalize ((w.alloc (.cells #[.int .u64 (bi x.t.v), .int .u64 (bi x.t.m), .int .u64 x.u.lo, .int .u64 x.u.hi, .int .i64 x.s.lo, .int .i64 x.s.hi] 30)).alloc (.cells #[.int .u64 0, .int .u64 0, .int .u64 0, .int .u64 0, .int .i64 0, .int .i64 0] 30)) = w0 at *
    replace X := Lib.hid X
    replace R := Lib.hid R
    replace HB := Lib.hid HB
    have neXR : w.heap.size ≠ w.heap.size + 1 := by omega
    with_reducible refine (ronce_so x y hx EH.out _).mono ?_
    rintro e w1 ⟨rfl, qb⟩
    replace X := Lib.hid (Rg.bkk X.out qb)
    replace R := Lib.hid (Rg.bkk R.out qb)
    replace HB := Lib.hid (Rg.bth HB.out qb (Nat.le_refl _))
    clear qb
    have X0 := X.out.cell 0; have X1 := X.out.cell 1; have X2 := X.out.cell 2; have X3 := X.out.cell 3; have X4 := X.out.cell 4; have X5 := X.out.cell 5
    have R0 := R.out.cell 0; have R1 := R.out.cell 1; have R2 := R.out.cell 2; have R3 := R.out.cell 3; have R4 := R.out.cell 4; have R5 := R.out.cell 5
    have fR0 := R.out.frozen 0; have fR1 := R.out.frozen 1; have fR2 := R.out.frozen 2; have fR3 := R.out.frozen 3; have fR4 := R.out.frozen 4; have fR5 := R.out.frozen 5
    have nX0 := (X.out.alloc (.cells #[.int .u64 (bi y.t.v), .int .u64 (bi y.t.m), .int .u64 y.u.lo, .int .u64 y.u.hi, .int .i64 y.s.lo, .int .i64 y.s.hi] 30)).cell 0
    have nX1 := (X.out.alloc (.cells #[.int .u64 (bi y.t.v), .int .u64 (bi y.t.m), .int .u64 y.u.lo, .int .u64 y.u.hi, .int .i64 y.s.lo, .int .i64 y.s.hi] 30)).cell 1
    have nX2 := (X.out.alloc (.cells #[.int .u64 (bi y.t.v), .int .u64 (bi y.t.m), .int .u64 y.u.lo, .int .u64 y.u.hi, .int .i64 y.s.lo, .int .i64 y.s.hi] 30)).cell 2
    have nX3 := (X.out.alloc (.cells #[.int .u64 (bi y.t.v), .int .u64 (bi y.t.m), .int .u64 y.u.lo, .int .u64 y.u.hi, .int .i64 y.s.lo, .int .i64 y.s.hi] 30)).cell 3
    have nX4 := (X.out.alloc (.cells #[.int .u64 (bi y.t.v), .int .u64 (bi y.t.m), .int .u64 y.u.lo, .int .u64 y.u.hi, .int .i64 y.s.lo, .int .i64 y.s.hi] 30)).cell 4
    have nX5 := (X.out.alloc (.cells #[.int .u64 (bi y.t.v), .int .u64 (bi y.t.m), .int .u64 y.u.lo, .int .u64 y.u.hi, .int .i64 y.s.lo, .int .i64 y.s.hi] 30)).cell 5
    have nR0 := (R.out.alloc (.cells #[.int .u64 (bi y.t.v), .int .u64 (bi y.t.m), .int .u64 y.u.lo, .int .u64 y.u.hi, .int .i64 y.s.lo, .int .i64 y.s.hi] 30)).cell 0
    have nR1 := (R.out.alloc (.cells #[.int .u64 (bi y.t.v), .int .u64 (bi y.t.m), .int .u64 y.u.lo, .int .u64 y.u.hi, .int .i64 y.s.lo, .int .i64 y.s.hi] 30)).cell 1
    have nR2 := (R.out.alloc (.cells #[.int .u64 (bi y.t.v), .int .u64 (bi y.t.m), .int .u64 y.u.lo, .int .u64 y.u.hi, .int .i64 y.s.lo, .int .i64 y.s.hi] 30)).cell 2
    have nR3 := (R.out.alloc (.cells #[.int .u64 (bi y.t.v), .int .u64 (bi y.t.m), .int .u64 y.u.lo, .int .u64 y.u.hi, .int .i64 y.s.lo, .int .i64 y.s.hi] 30)).cell 3
    have nR4 := (R.out.alloc (.cells #[.int .u64 (bi y.t.v), .int .u64 (bi y.t.m), .int .u64 y.u.lo, .int .u64 y.u.hi, .int .i64 y.s.lo, .int .i64 y.s.hi] 30)).cell 4
    have nR5 := (R.out.alloc (.cells #[.int .u64 (bi y.t.v), .int .u64 (bi y.t.m), .int .u64 y.u.lo, .int .u64 y.u.hi, .int .i64 y.s.lo, .int .i64 y.s.hi] 30)).cell 5
    go_upto_region 2 with (fail)
    clear X0 X1 X2 X3 X4 X5 R0 R1 R2 R3 R4 R5 fR0 fR1 fR2 fR3 fR4 fR5
    clear nX0 nX1 nX2 nX3 nX4 nX5 nR0 nR1 nR2 nR3 nR4 nR5
    have hwY : w.heap.size ≤ w1.heap.size := by have := HB.out.size; omega
    have neXY : w.heap.size ≠ w1.heap.size := by have := X.out.lt; omega
    have neRY : w.heap.size + 1 ≠ w1.heap.size := by have := R.out.lt; omega
    replace X := Lib.hid (X.out.alloc (.cells #[.int .u64 (bi y.t.v), .int .u64 (bi y.t.m), .int .u64 y.u.lo, .int .u64 y.u.hi, .int .i64 y.s.lo, .int .i64 y.s.hi] 30))
    replace R := Lib.hid (R.out.alloc (.cells #[.int .u64 (bi y.t.v), .int .u64 (bi y.t.m), .int .u64 y.u.lo, .int .u64 y.u.hi, .int .i64 y.s.lo, .int .i64 y.s.hi] 30))
    have Y := (Bk.new w1 30 #[.int .u64 (bi y.t.v), .int .u64 (bi y.t.m), .int .u64 y.u.lo, .int .u64 y.u.hi, .int .i64 y.s.lo, .int .i64 y.s.hi])
    replace Y := Lib.hid Y
    replace HB := Lib.hid (HB.out.alloc HB.out.size (.cells #[.int .u64 (bi y.t.v), .int .u64 (bi y.t.m), .int .u64 y.u.lo, .int .u64 y.u.hi, .int .i64 y.s.lo, .int .i64 y.s.hi] 30))
    generalize (w1.alloc (.cells #[.int .u64 (bi y.t.v), .int .u64 (bi y.t.m), .int .u64 y.u.lo, .int .u64 y.u.hi, .int .i64 y.s.lo, .int .i64 y.s.hi] 30)) = z1 at *
    have X0 := X.out.cell 0; have X1 := X.out.cell 1; have X2 := X.out.cell 2; have X3 := X.out.cell 3; have X4 := X.out.cell 4; have X5 := X.out.cell 5
    have R0 := R.out.cell 0; have R1 := R.out.cell 1; have R2 := R.out.cell 2; have R3 := R.out.cell 3; have R4 := R.out.cell 4; have R5 := R.out.cell 5
    have fR0 := R.out.frozen 0; have fR1 := R.out.frozen 1; have fR2 := R.out.frozen 2; have fR3 := R.out.frozen 3; have fR4 := R.out.frozen 4; have fR5 := R.out.frozen 5
    have Y0 := Y.out.cell 0; have Y1 := Y.out.cell 1; have Y2 := Y.out.cell 2; have Y3 := Y.out.cell 3; have Y4 := Y.out.cell 4; have Y5 := Y.out.cell 5
    have fY0 := Y.out.frozen 0; have fY1 := Y.out.frozen 1; have fY2 := Y.out.frozen 2; have fY3 := Y.out.frozen 3; have fY4 := Y.out.frozen 4; have fY5 := Y.out.frozen 5
    go_wp2_with fail
    clear X0 X1 X2 X3 X4 X5 R0 R1 R2 R3 R4 R5 Y0 Y1 Y2 Y3 Y4 Y5 fR0 fR1 fR2 fR3 fR4 fR5 fY0 fY1 fY2 fY3 fY4 fY5
    with_reducible refine (ronce5 y my _).mono ?_
    rintro e w2 ⟨rfl, qb⟩
    replace X := Lib.hid (Rg.bkk X.out qb)
    replace R := Lib.hid (Rg.bkk R.out qb)
    replace Y := Lib.hid (Rg.bkk Y.out qb)
    replace HB := Lib.hid (Rg.bth HB.out qb (Nat.le_refl _))
    clear qb
    have BB := bset6 R.out
    have g0 := fun u0 u1 u2 u3 u4 u5 => (BB u0 u1 u2 u3 u4 u5).cell 0
    have g1 := fun u0 u1 u2 u3 u4 u5 => (BB u0 u1 u2 u3 u4 u5).cell 1
    have g2 := fun u0 u1 u2 u3 u4 u5 => (BB u0 u1 u2 u3 u4 u5).cell 2
    have g3 := fun u0 u1 u2 u3 u4 u5 => (BB u0 u1 u2 u3 u4 u5).cell 3
    have g4 := fun u0 u1 u2 u3 u4 u5 => (BB u0 u1 u2 u3 u4 u5).cell 4
    have g5 := fun u0 u1 u2 u3 u4 u5 => (BB u0 u1 u2 u3 u4 u5).cell 5
    have X0 := X.out.cell 0; have X1 := X.out.cell 1; have X2 := X.out.cell 2; have X3 := X.out.cell 3; have X4 := X.out.cell 4; have X5 := X.out.cell 5
    have R0 := R.out.cell 0; have R1 := R.out.cell 1; have R2 := R.out.cell 2; have R3 := R.out.cell 3; have R4 := R.out.cell 4; have R5 := R.out.cell 5
    have fR0 := R.out.frozen 0; have fR1 := R.out.frozen 1; have fR2 := R.out.frozen 2; have fR3 := R.out.frozen 3; have fR4 := R.out.frozen 4; have fR5 := R.out.frozen 5
    have Y0 := Y.out.cell 0; have Y1 := Y.out.cell 1; have Y2 := Y.out.cell 2; have Y3 := Y.out.cell 3; have Y4 := Y.out.cell 4; have Y5 := Y.out.cell 5
    have fY0 := Y.out.frozen 0; have fY1 := Y.out.frozen 1; have fY2 := Y.out.frozen 2; have fY3 := Y.out.frozen 3; have fY4 := Y.out.frozen 4; have fY5 := Y.out.frozen 5
    go_wp2
    refine bodyPost_ret (by simp [results, Tryz.results16, g0, g1, g2, g3, g4, g5, go_sem]; try rfl) rfl ?_
    exact ⟨by rw [e1.out], below6 HB.out (by omega)⟩
end Go.Proofs.YtcimihckhobniaaGreat.Sc
namespace Go.Proofs.YtcimihckhobniaaGreat.Sc
open Go.RowKit Tn Ow Sp
set_option linter.unusedVariables false
set_option linter.unusedSimpArgs false
set_option maxRecDepth 100000
theorem rof0 (w : World) : Calls Tryz.prog 18 #[.int .u64 0] w fun e w' => e = .returned (.agg #[.int .u64 (bi (ofC 0#64).t.v), .int .u64 (bi (ofC 0#64).t.m), .int .u64 (ofC 0#64).u.lo, .int .u64 (ofC 0#64).u.hi, .int .i64 (ofC 0#64).s.lo, .int .i64 (ofC 0#64).s.hi]) ∧ Below w.heap.size w w' := rof5 0#64 w
set_option maxHeartbeats 4000000 in
theorem rupto5 (n : Int) (hn : -9223372036854775808 ≤ n ∧ n ≤ 9223372036854775807) (w : World) :
    Calls Tryz.prog 22 #[.int .i64 n] w fun e w' => e = .returned (.agg #[.int .u64 (bi (uptoC n).t.v), .int .u64 (bi (uptoC n).t.m), .int .u64 (uptoC n).u.lo, .int .u64 (uptoC n).u.hi, .int .i64 (uptoC n).s.lo, .int .i64 (uptoC n).s.hi]) ∧ Below w.heap.size w w' := by
  by_cases h8 : 8 ≤ n
  · have e1 := Lib.hid (show uptoC n = anyC by unfold uptoC; rw [if_pos h8])
    go_enter Tryz.func22, Tryz.ntmps22
    go_wp2_with fail
    have R := (Bk.new w 30 #[.int .u64 0, .int .u64 0, .int .u64 0, .int .u64 0, .int .i64 0, .int .i64 0])
    have HB : Below w.heap.size w (w.alloc (.cells #[.int .u64 0, .int .u64 0, .int .u64 0, .int .u64 0, .int .i64 0, .int .i64 0] 30)) := by go_grown
    generalize (w.alloc (.cells #[.int .u64 0, .int .u64 0, .int .u64 0, .int .u64 0, .int .i64 0, .int .i64 0] 30)) = w0 at *
    replace R := Lib.hid R
    replace HB := Lib.hid HB
    with_reducible refine (rany5 _).mono ?_
    rintro e w1 ⟨rfl, qb⟩
    replace R := Lib.hid (Rg.bkk R.out qb)
    replace HB := Lib.hid (Rg.bth HB.out qb (Nat.le_refl _))
    clear qb
    have BB := bset6 R.out
    have g0 := fun u0 u1 u2 u3 u4 u5 => (BB u0 u1 u2 u3 u4 u5).cell 0
    have g1 := fun u0 u1 u2 u3 u4 u5 => (BB u0 u1 u2 u3 u4 u5).cell 1
    have g2 := fun u0 u1 u2 u3 u4 u5 => (BB u0 u1 u2 u3 u4 u5).cell 2
    have g3 := fun u0 u1 u2 u3 u4 u5 => (BB u0 u1 u2 u3 u4 u5).cell 3
    have g4 := fun u0 u1 u2 u3 u4 u5 => (BB u0 u1 u2 u3 u4 u5).cell 4
    have g5 := fun u0 u1 u2 u3 u4 u5 => (BB u0 u1 u2 u3 u4 u5).cell 5
    have R0 := R.out.cell 0
    have R1 := R.out.cell 1
    have R2 := R.out.cell 2
    have R3 := R.out.cell 3
    have R4 := R.out.cell 4
    have R5 := R.out.cell 5
    have fR0 := R.out.frozen 0
    have fR1 := R.out.frozen 1
    have fR2 := R.out.frozen 2
    have fR3 := R.out.frozen 3
    have fR4 := R.out.frozen 4
    have fR5 := R.out.frozen 5
    go_wp2
    refine bodyPost_ret (by simp [results, Tryz.results22, g0, g1, g2, g3, g4, g5, go_sem]; try rfl) rfl ?_
    exact ⟨by rw [e1.out], below6 HB.out (by omega)⟩
  · by_cases h1 : n < 1
    · have e1 := Lib.hid (show uptoC n = ofC 0#64 by unfold uptoC; rw [if_neg h8, if_pos h1])
      go_enter Tryz.func22, Tryz.ntmps22
      go_wp2_with fail
      have R := (Bk.new w 30 #[.int .u64 0, .int .u64 0, .int .u64 0, .int .u64 0, .int .i64 0, .int .i64 0])
      have HB : Below w.heap.size w (w.alloc (.cells #[.int .u64 0, .int .u64 0, .int .u64 0, .int .u64 0, .int .i64 0, .int .i64 0] 30)) := by go_grown
      generalize (w.alloc (.cells #[.int .u64 0, .int .u64 0, .int .u64 0, .int .u64 0, .int .i64 0, .int .i64 0] 30)) = w0 at *
      replace R := Lib.hid R
      replace HB := Lib.hid HB
      with_reducible refine (rof0 _).mono ?_
      rintro e w1 ⟨rfl, qb⟩
      replace R := Lib.hid (Rg.bkk R.out qb)
      replace HB := Lib.hid (Rg.bth HB.out qb (Nat.le_refl _))
      clear qb
      have BB := bset6 R.out
      have g0 := fun u0 u1 u2 u3 u4 u5 => (BB u0 u1 u2 u3 u4 u5).cell 0
      have g1 := fun u0 u1 u2 u3 u4 u5 => (BB u0 u1 u2 u3 u4 u5).cell 1
      have g2 := fun u0 u1 u2 u3 u4 u5 => (BB u0 u1 u2 u3 u4 u5).cell 2
      have g3 := fun u0 u1 u2 u3 u4 u5 => (BB u0 u1 u2 u3 u4 u5).cell 3
      have g4 := fun u0 u1 u2 u3 u4 u5 => (BB u0 u1 u2 u3 u4 u5).cell 4
      have g5 := fun u0 u1 u2 u3 u4 u5 => (BB u0 u1 u2 u3 u4 u5).cell 5
      have R0 := R.out.cell 0
      have R1 := R.out.cell 1
      have R2 := R.out.cell 2
      have R3 := R.out.cell 3
      have R4 := R.out.cell 4
      have R5 := R.out.cell 5
      have fR0 := R.out.frozen 0
      have fR1 := R.out.frozen 1
      have fR2 := R.out.frozen 2
      have fR3 := R.out.frozen 3
      have fR4 := R.out.frozen 4
      have fR5 := R.out.frozen 5
      go_wp2
      refine bodyPost_ret (by simp [results, Tryz.results22, g0, g1, g2, g3, g4, g5, go_sem]; try rfl) rfl ?_
      exact ⟨by rw [e1.out], below6 HB.out (by omega)⟩
    · have : n = 1 ∨ n = 2 ∨ n = 3 ∨ n = 4 ∨ n = 5 ∨ n = 6 ∨ n = 7 := by omega
      rcases this with rfl | rfl | rfl | rfl | rfl | rfl | rfl
      all_goals clear h8 h1
      · have e1 := Lib.hid (show uptoC 1 = ⟨⟨0#64, onesC 1⟩, ⟨0, bi (onesC 1)⟩, ⟨0, bi (onesC 1)⟩⟩ by unfold uptoC; rw [if_neg (by decide), if_neg (by decide)]; rfl)
        have e2 := Lib.hid (show bi (onesC 1) = 255 by decide +kernel)
        go_enter Tryz.func22, Tryz.ntmps22
        go_wp2
        have BB := Bk.new w 30 #[.int .u64 0, .int .u64 255, .int .u64 0, .int .u64 255, .int .i64 0, .int .i64 255]
        have g0 := BB.cell 0
        have g1 := BB.cell 1
        have g2 := BB.cell 2
        have g3 := BB.cell 3
        have g4 := BB.cell 4
        have g5 := BB.cell 5
        refine bodyPost_ret (by simp [results, Tryz.results22, g0, g1, g2, g3, g4, g5, go_sem]; try rfl) rfl ?_
        exact ⟨by rw [e1.out]; dsimp only; rw [e2.out, bi_zero], Rg.grow1 w _⟩
      · have e1 := Lib.hid (show uptoC 2 = ⟨⟨0#64, onesC 2⟩, ⟨0, bi (onesC 2)⟩, ⟨0, bi (onesC 2)⟩⟩ by unfold uptoC; rw [if_neg (by decide), if_neg (by decide)]; rfl)
        have e2 := Lib.hid (show bi (onesC 2) = 65535 by decide +kernel)
        go_enter Tryz.func22, Tryz.ntmps22
        go_wp2
        have BB := Bk.new w 30 #[.int .u64 0, .int .u64 65535, .int .u64 0, .int .u64 65535, .int .i64 0, .int .i64 65535]
        have g0 := BB.cell 0
        have g1 := BB.cell 1
        have g2 := BB.cell 2
        have g3 := BB.cell 3
        have g4 := BB.cell 4
        have g5 := BB.cell 5
        refine bodyPost_ret (by simp [results, Tryz.results22, g0, g1, g2, g3, g4, g5, go_sem]; try rfl) rfl ?_
        exact ⟨by rw [e1.out]; dsimp only; rw [e2.out, bi_zero], Rg.grow1 w _⟩
      · have e1 := Lib.hid (show uptoC 3 = ⟨⟨0#64, onesC 3⟩, ⟨0, bi (onesC 3)⟩, ⟨0, bi (onesC 3)⟩⟩ by unfold uptoC; rw [if_neg (by decide), if_neg (by decide)]; rfl)
        have e2 := Lib.hid (show bi (onesC 3) = 16777215 by decide +kernel)
        go_enter Tryz.func22, Tryz.ntmps22
        go_wp2
        have BB := Bk.new w 30 #[.int .u64 0, .int .u64 16777215, .int .u64 0, .int .u64 16777215, .int .i64 0, .int .i64 16777215]
        have g0 := BB.cell 0
        have g1 := BB.cell 1
        have g2 := BB.cell 2
        have g3 := BB.cell 3
        have g4 := BB.cell 4
        have g5 := BB.cell 5
        refine bodyPost_ret (by simp [results, Tryz.results22, g0, g1, g2, g3, g4, g5, go_sem]; try rfl) rfl ?_
        exact ⟨by rw [e1.out]; dsimp only; rw [e2.out, bi_zero], Rg.grow1 w _⟩
      · have e1 := Lib.hid (show uptoC 4 = ⟨⟨0#64, onesC 4⟩, ⟨0, bi (onesC 4)⟩, ⟨0, bi (onesC 4)⟩⟩ by unfold uptoC; rw [if_neg (by decide), if_neg (by decide)]; rfl)
        have e2 := Lib.hid (show bi (onesC 4) = 4294967295 by decide +kernel)
        go_enter Tryz.func22, Tryz.ntmps22
        go_wp2
        have BB := Bk.new w 30 #[.int .u64 0, .int .u64 4294967295, .int .u64 0, .int .u64 4294967295, .int .i64 0, .int .i64 4294967295]
        have g0 := BB.cell 0
        have g1 := BB.cell 1
        have g2 := BB.cell 2
        have g3 := BB.cell 3
        have g4 := BB.cell 4
        have g5 := BB.cell 5
        refine bodyPost_ret (by simp [results, Tryz.results22, g0, g1, g2, g3, g4, g5, go_sem]; try rfl) rfl ?_
        exact ⟨by rw [e1.out]; dsimp only; rw [e2.out, bi_zero], Rg.grow1 w _⟩
      · have e1 := Lib.hid (show uptoC 5 = ⟨⟨0#64, onesC 5⟩, ⟨0, bi (onesC 5)⟩, ⟨0, bi (onesC 5)⟩⟩ by unfold uptoC; rw [if_neg (by decide), if_neg (by decide)]; rfl)
        have e2 := Lib.hid (show bi (onesC 5) = 1099511627775 by decide +kernel)
        go_enter Tryz.func22, Tryz.ntmps22
        go_wp2
        have BB := Bk.new w 30 #[.int .u64 0, .int .u64 1099511627775, .int .u64 0, .int .u64 1099511627775, .int .i64 0, .int .i64 1099511627775]
        have g0 := BB.cell 0
        have g1 := BB.cell 1
        have g2 := BB.cell 2
        have g3 := BB.cell 3
        have g4 := BB.cell 4
        have g5 := BB.cell 5
        refine bodyPost_ret (by simp [results, Tryz.results22, g0, g1, g2, g3, g4, g5, go_sem]; try rfl) rfl ?_
        exact ⟨by rw [e1.out]; dsimp only; rw [e2.out, bi_zero], Rg.grow1 w _⟩
      · have e1 := Lib.hid (show uptoC 6 = ⟨⟨0#64, onesC 6⟩, ⟨0, bi (onesC 6)⟩, ⟨0, bi (onesC 6)⟩⟩ by unfold uptoC; rw [if_neg (by decide), if_neg (by decide)]; rfl)
        have e2 := Lib.hid (show bi (onesC 6) = 281474976710655 by decide +kernel)
        go_enter Tryz.func22, Tryz.ntmps22
        go_wp2
        have BB := Bk.new w 30 #[.int .u64 0, .int .u64 281474976710655, .int .u64 0, .int .u64 281474976710655, .int .i64 0, .int .i64 281474976710655]
        have g0 := BB.cell 0
        have g1 := BB.cell 1
        have g2 := BB.cell 2
        have g3 := BB.cell 3
        have g4 := BB.cell 4
        have g5 := BB.cell 5
        refine bodyPost_ret (by simp [results, Tryz.results22, g0, g1, g2, g3, g4, g5, go_sem]; try rfl) rfl ?_
        exact ⟨by rw [e1.out]; dsimp only; rw [e2.out, bi_zero], Rg.grow1 w _⟩
      · have e1 := Lib.hid (show uptoC 7 = ⟨⟨0#64, onesC 7⟩, ⟨0, bi (onesC 7)⟩, ⟨0, bi (onesC 7)⟩⟩ by unfold uptoC; rw [if_neg (by decide), if_neg (by decide)]; rfl)
        have e2 := Lib.hid (show bi (onesC 7) = 72057594037927935 by decide +kernel)
        go_enter Tryz.func22, Tryz.ntmps22
        go_wp2
        have BB := Bk.new w 30 #[.int .u64 0, .int .u64 72057594037927935, .int .u64 0, .int .u64 72057594037927935, .int .i64 0, .int .i64 72057594037927935]
        have g0 := BB.cell 0
        have g1 := BB.cell 1
        have g2 := BB.cell 2
        have g3 := BB.cell 3
        have g4 := BB.cell 4
        have g5 := BB.cell 5
        refine bodyPost_ret (by simp [results, Tryz.results22, g0, g1, g2, g3, g4, g5, go_sem]; try rfl) rfl ?_
        exact ⟨by rw [e1.out]; dsimp only; rw [e2.out, bi_zero], Rg.grow1 w _⟩
end Go.Proofs.YtcimihckhobniaaGreat.Sc
