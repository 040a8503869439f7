/-
  Texts of layer 5 and of those below it, put together: contracts and plain mathematics that ScalarSwap needs.
-/
import Derived.Test.YtcimihckhobniaaGreatXM19
import Derived.Test.YtcimihckhobniaaGreatXM0
import Derived.Test.YtcimihckhobniaaGreatXM4
import Derived.Test.YtcimihckhobniaaGreatXM3
import Derived.Test.YtcimihckhobniaaGreatXM1
import Derived.Test.YtcimihckhobniaaGreatXM2
namespace Go.Proofs.YtcimihckhobniaaGreat
open Go.RowKit Tn Ow Sp Sc
open Go.ChangeShapes Go.WideShapes Go.Deep
set_option linter.unusedVariables false
set_option linter.unusedSimpArgs false
set_option maxRecDepth 100000
def inX (x : C) : Prop := inU x.u ∧ inS x.s
section
variable {H : Type} {enc : TypeId × Value → H} {w : World} {base : Nat} {spare : Nat → Bool} {held : Bool}
theorem sc_of {fuel : Nat} {cs : List Value} {y : DataW H × List MemPlace} (h : DataW.trod enc Tryz.prog w base spare held fuel 30 cs = some y) :
    ∃ x : C, inX x ∧ cs = [.int .u64 (bi x.t.v), .int .u64 (bi x.t.m), .int .u64 x.u.lo, .int .u64 x.u.hi, .int .i64 x.s.lo, .int .i64 x.s.hi] := by
  obtain ⟨xs, n, _, _, hlen, hxl, hf⟩ := DataW.trod_struct Tryz.underlying30 h
  have h2 : cs.length = 6 := hlen.trans (by kernel_rfl)
  match cs, h2 with
  | [c0, c1, c2, c3, c4, c5], _ =>
    match xs, hxl with
    | [y0, y1, y2], _ =>
      have g1 : Tryz.prog.cellsOf 24 = 2 := by kernel_rfl
      have g2 : Tryz.prog.cellsOf 26 = 2 := by kernel_rfl
      have g3 : Tryz.prog.cellsOf 28 = 2 := by kernel_rfl
      have k0 := hf 0 _ rfl
      have k1 := hf 1 _ rfl
      have k2 := hf 2 _ rfl
      simp [g1] at k0
      simp [g2] at k1
      simp [g3] at k2
      obtain ⟨t, e0⟩ := tn_of k0
      obtain ⟨u, hu, e1⟩ := u_of k1
      obtain ⟨s, hs, e2⟩ := s_of k2
      simp at e0 e1 e2
      obtain ⟨rfl, rfl⟩ := e0
      obtain ⟨rfl, rfl⟩ := e1
      obtain ⟨rfl, rfl⟩ := e2
      exact ⟨⟨t, u, s⟩, ⟨hu, hs⟩, rfl⟩
theorem open_sc {r : Reach} {b0 : Nat} {v : Value} {d : DataW H} {p : List MemPlace} (hv : Value.okWide Tryz.prog w r b0 30 v) (h : DataW.Trod enc Tryz.prog w base spare held 30 v d p) :
    ∃ x : C, inX x ∧ v = .agg #[.int .u64 (bi x.t.v), .int .u64 (bi x.t.m), .int .u64 x.u.lo, .int .u64 x.u.hi, .int .i64 x.s.lo, .int .i64 x.s.hi] := by
  obtain ⟨cs, rfl, _⟩ := okWide_struct Tryz.underlying30 hv
  obtain ⟨fuel, hf⟩ := h
  obtain ⟨x, hx, e⟩ := sc_of hf
  refine ⟨x, hx, ?_⟩
  obtain ⟨l⟩ := cs
  simp [Value.cells] at e
  subst e
  rfl
end
theorem sort_ok {x : C} (h : inX x) : mayC (sortC x) := ⟨may_exc _ _, ok_sortU h.1, ok_sortS h.2⟩
end Go.Proofs.YtcimihckhobniaaGreat
namespace Go.Proofs.YtcimihckhobniaaGreat.L3
open Go.RowKit Tn Ow
set_option linter.unusedVariables false
set_option linter.unusedSimpArgs false
theorem b0 {x : BitVec 64} {k : Nat} (h : x.getLsbD k = false) : bi x / 2 ^ k % 2 = 0 := by rw [bi_bit, h]; rfl
theorem b1 {x : BitVec 64} {k : Nat} (h : x.getLsbD k = true) : bi x / 2 ^ k % 2 = 1 := by rw [bi_bit, h]; rfl
theorem refof_any (v : BitVec 64) (w : World) :
    Calls Tryz.prog 46 #[.int .u64 (bi v)] w fun e w' => e = .returned (.agg #[.int .u64 (bi (ofT v).v), .int .u64 (bi (ofT v).m)]) ∧ Below w.heap.size w w' := by
  have h0 := bi_bd v
  go_enter Tryz.func46, Tryz.ntmps46
  go_wp2
  go_returns
  exact ⟨rt_t rfl rfl, by go_grown⟩
theorem refany_any (w : World) :
    Calls Tryz.prog 52 #[] w fun e w' => e = .returned (.agg #[.int .u64 (bi anyT.v), .int .u64 (bi anyT.m)]) ∧ Below w.heap.size w w' := by
  go_enter Tryz.func52, Tryz.ntmps52
  go_wp2
  go_returns
  exact ⟨rt_t rfl bi_ones.symm, by go_grown⟩
end Go.Proofs.YtcimihckhobniaaGreat.L3
namespace Go.Proofs.YtcimihckhobniaaGreat.L3
open Go.RowKit Tn Ow
set_option linter.unusedVariables false
set_option linter.unusedSimpArgs false
end Go.Proofs.YtcimihckhobniaaGreat.L3
namespace Go.Proofs.YtcimihckhobniaaGreat.L3
open Go.RowKit Tn Ow
set_option linter.unusedVariables false
set_option linter.unusedSimpArgs false
end Go.Proofs.YtcimihckhobniaaGreat.L3
namespace Go.Proofs.YtcimihckhobniaaGreat.L3
set_option maxRecDepth 100000
open Go.RowKit Tn Ow
set_option linter.unusedVariables false
set_option linter.unusedSimpArgs false
end Go.Proofs.YtcimihckhobniaaGreat.L3
namespace Go.Proofs.YtcimihckhobniaaGreat.L3
open Go.RowKit Tn Ow
set_option linter.unusedVariables false
set_option linter.unusedSimpArgs false
end Go.Proofs.YtcimihckhobniaaGreat.L3
namespace Go.Proofs.YtcimihckhobniaaGreat
open Go.RowKit Tn Ow Sp
set_option linter.unusedVariables false
set_option linter.unusedSimpArgs false
theorem rtop_any (w : World) : Calls Tryz.prog 114 #[] w fun e w' => e = .returned (.int .u64 9223372036854775808) ∧ w = w' := by
  go_enter Tryz.func114, Tryz.ntmps114
  go_wp2
  go_returns
  exact ⟨rfl, rfl⟩
theorem ruall_any (w : World) :
    Calls Tryz.prog 53 #[] w fun e w' => e = .returned (.agg #[.int .u64 uAll.lo, .int .u64 uAll.hi]) ∧ Below w.heap.size w w' := by
  go_enter Tryz.func53, Tryz.ntmps53
  go_wp2_with (go_at_call 114; refine (rtop_any _).mono ?_; rintro e w' ⟨rfl, rfl⟩)
  go_returns
  exact ⟨rfl, by go_grown⟩
theorem rsall_any (w : World) :
    Calls Tryz.prog 54 #[] w fun e w' => e = .returned (.agg #[.int .i64 sAll.lo, .int .i64 sAll.hi]) ∧ Below w.heap.size w w' := by
  go_enter Tryz.func54, Tryz.ntmps54
  go_wp2
  go_returns
  exact ⟨rfl, by go_grown⟩
theorem ruof_any (v : Int) (w : World) :
    Calls Tryz.prog 47 #[.int .u64 v] w fun e w' => e = .returned (.agg #[.int .u64 (ofE v).lo, .int .u64 (ofE v).hi]) ∧ Below w.heap.size w w' := by
  go_enter Tryz.func47, Tryz.ntmps47
  go_wp2
  go_returns
  exact ⟨rfl, by go_grown⟩
theorem rsof_any (v : Int) (h0 : 0 ≤ v) (h1 : v ≤ 18446744073709551615) (w : World) :
    Calls Tryz.prog 48 #[.int .u64 v] w fun e w' => e = .returned (.agg #[.int .i64 (ofE (sg v)).lo, .int .i64 (ofE (sg v)).hi]) ∧ Below w.heap.size w w' := by
  go_enter Tryz.func48, Tryz.ntmps48
  go_wp2
  go_returns
  exact ⟨rt_u (sg_wrap v h0 h1) (sg_wrap v h0 h1), by go_grown⟩
end Go.Proofs.YtcimihckhobniaaGreat
namespace Go.Proofs.YtcimihckhobniaaGreat
open Go.RowKit Tn Ow Sp
set_option linter.unusedVariables false
set_option linter.unusedSimpArgs false
end Go.Proofs.YtcimihckhobniaaGreat
namespace Go.Proofs.YtcimihckhobniaaGreat
open Go.RowKit Tn Ow Sp
set_option linter.unusedVariables false
set_option linter.unusedSimpArgs false
end Go.Proofs.YtcimihckhobniaaGreat
namespace Go.Proofs.YtcimihckhobniaaGreat
open Go.RowKit Tn Ow Sp
set_option linter.unusedVariables false
set_option linter.unusedSimpArgs false
end Go.Proofs.YtcimihckhobniaaGreat
namespace Go.Proofs.YtcimihckhobniaaGreat
open Go.RowKit Tn Ow Sp
set_option linter.unusedVariables false
set_option linter.unusedSimpArgs false
end Go.Proofs.YtcimihckhobniaaGreat
namespace Go.Proofs.YtcimihckhobniaaGreat
open Go.RowKit Tn Ow Sp
set_option linter.unusedVariables false
set_option linter.unusedSimpArgs false
end Go.Proofs.YtcimihckhobniaaGreat
namespace Go.Proofs.YtcimihckhobniaaGreat
open Go.RowKit Tn Ow Sp
set_option linter.unusedVariables false
set_option linter.unusedSimpArgs false
end Go.Proofs.YtcimihckhobniaaGreat
namespace Go.Proofs.YtcimihckhobniaaGreat
open Go.RowKit Tn Ow Sp
set_option linter.unusedVariables false
set_option linter.unusedSimpArgs false
end Go.Proofs.YtcimihckhobniaaGreat
namespace Go.Proofs.YtcimihckhobniaaGreat
open Go.RowKit Tn Ow Sp
set_option linter.unusedVariables false
set_option linter.unusedSimpArgs false
end Go.Proofs.YtcimihckhobniaaGreat
namespace Go.Proofs.YtcimihckhobniaaGreat
open Go.RowKit Tn Ow Sp
set_option linter.unusedVariables false
set_option linter.unusedSimpArgs false
end Go.Proofs.YtcimihckhobniaaGreat
namespace Go.Proofs.YtcimihckhobniaaGreat.Sc
open Go.RowKit Tn Ow Sp
set_option linter.unusedVariables false
set_option linter.unusedSimpArgs false
set_option maxRecDepth 100000
theorem bset6 {w : World} {r : Nat} {t : TypeId} {x0 x1 x2 x3 x4 x5 : Value} (h : Bk w r t #[x0, x1, x2, x3, x4, x5]) (u0 u1 u2 u3 u4 u5 : Value) :
    Bk ((((((w.setCell ⟨r, 0, none⟩ u0).setCell ⟨r, 1, none⟩ u1).setCell ⟨r, 2, none⟩ u2).setCell ⟨r, 3, none⟩ u3).setCell ⟨r, 4, none⟩ u4).setCell ⟨r, 5, none⟩ u5) r t #[u0, u1, u2, u3, u4, u5] :=
  (((((h.set_ 0 u0).set_ 1 u1).set_ 2 u2).set_ 3 u3).set_ 4 u4).set_ 5 u5
theorem below6 {w w1 : World} {r : Nat} {u0 u1 u2 u3 u4 u5 : Value} (h : Below w.heap.size w w1) (hr : w.heap.size ≤ r) :
    Below w.heap.size w ((((((w1.setCell ⟨r, 0, none⟩ u0).setCell ⟨r, 1, none⟩ u1).setCell ⟨r, 2, none⟩ u2).setCell ⟨r, 3, none⟩ u3).setCell ⟨r, 4, none⟩ u4).setCell ⟨r, 5, none⟩ u5) :=
  (((((h.setCell (p := ⟨r, 0, none⟩) hr u0).setCell (p := ⟨r, 1, none⟩) hr u1).setCell (p := ⟨r, 2, none⟩) hr u2).setCell (p := ⟨r, 3, none⟩) hr u3).setCell (p := ⟨r, 4, none⟩) hr u4).setCell (p := ⟨r, 5, none⟩) hr u5
theorem beqd (a b : Int) : (a == b) = decide (a = b) := by by_cases h : a = b <;> simp [h]
set_option maxHeartbeats 4000000 in
theorem rof5 (v : BitVec 64) (w : World) :
    Calls Tryz.prog 18 #[.int .u64 (bi v)] w fun e w' => e = .returned (.agg #[.int .u64 (bi (ofC v).t.v), .int .u64 (bi (ofC v).t.m), .int .u64 (ofC v).u.lo, .int .u64 (ofC v).u.hi, .int .i64 (ofC v).s.lo, .int .i64 (ofC v).s.hi]) ∧ Below w.heap.size w w' := by
  go_enter Tryz.func18, Tryz.ntmps18
  go_wp2_with fail
  have R := (Bk.new w 30 #[.int .u64 0, .int .u64 0, .int .u64 0, .int .u64 0, .int .i64 0, .int .i64 0])
  have HB : Below w.heap.size w (w.alloc (.cells #[.int .u64 0, .int .u64 0, .int .u64 0, .int .u64 0, .int .i64 0, .int .i64 0] 30)) := by go_grown
  generalize (w.alloc (.cells #[.int .u64 0, .int .u64 0, .int .u64 0, .int .u64 0, .int .i64 0, .int .i64 0] 30)) = w0 at *
  replace R := Lib.hid R
  replace HB := Lib.hid HB
  have r0 := R.out.cell 0
  have r1 := R.out.cell 1
  have r2 := R.out.cell 2
  have r3 := R.out.cell 3
  have r4 := R.out.cell 4
  have r5 := R.out.cell 5
  have f0 := R.out.frozen 0
  have f1 := R.out.frozen 1
  have f2 := R.out.frozen 2
  have f3 := R.out.frozen 3
  have f4 := R.out.frozen 4
  have f5 := R.out.frozen 5
  clear r0 r1 r2 r3 r4 r5 f0 f1 f2 f3 f4 f5
  with_reducible refine (L3.refof_any v _).mono ?_
  rintro e w1 ⟨rfl, qb⟩
  replace R := Lib.hid (Rg.bkk R.out qb)
  replace HB := Lib.hid (Rg.bth HB.out qb (Nat.le_refl _))
  clear qb
  have r0 := R.out.cell 0
  have r1 := R.out.cell 1
  have r2 := R.out.cell 2
  have r3 := R.out.cell 3
  have r4 := R.out.cell 4
  have r5 := R.out.cell 5
  have f0 := R.out.frozen 0
  have f1 := R.out.frozen 1
  have f2 := R.out.frozen 2
  have f3 := R.out.frozen 3
  have f4 := R.out.frozen 4
  have f5 := R.out.frozen 5
  go_wp2_with fail
  clear r0 r1 r2 r3 r4 r5 f0 f1 f2 f3 f4 f5
  with_reducible refine (ruof_any (bi v) _).mono ?_
  rintro e w2 ⟨rfl, qb⟩
  replace R := Lib.hid (Rg.bkk R.out qb)
  replace HB := Lib.hid (Rg.bth HB.out qb (Nat.le_refl _))
  clear qb
  have r0 := R.out.cell 0
  have r1 := R.out.cell 1
  have r2 := R.out.cell 2
  have r3 := R.out.cell 3
  have r4 := R.out.cell 4
  have r5 := R.out.cell 5
  have f0 := R.out.frozen 0
  have f1 := R.out.frozen 1
  have f2 := R.out.frozen 2
  have f3 := R.out.frozen 3
  have f4 := R.out.frozen 4
  have f5 := R.out.frozen 5
  go_wp2_with fail
  clear r0 r1 r2 r3 r4 r5 f0 f1 f2 f3 f4 f5
  with_reducible refine (rsof_any (bi v) (bi_bd v).1 (bi_bd v).2 _).mono ?_
  rintro e w3 ⟨rfl, qb⟩
  replace R := Lib.hid (Rg.bkk R.out qb)
  replace HB := Lib.hid (Rg.bth HB.out qb (Nat.le_refl _))
  clear qb
  have r0 := R.out.cell 0
  have r1 := R.out.cell 1
  have r2 := R.out.cell 2
  have r3 := R.out.cell 3
  have r4 := R.out.cell 4
  have r5 := R.out.cell 5
  have f0 := R.out.frozen 0
  have f1 := R.out.frozen 1
  have f2 := R.out.frozen 2
  have f3 := R.out.frozen 3
  have f4 := R.out.frozen 4
  have f5 := R.out.frozen 5
  go_wp2_with fail
  have BB := bset6 R.out
  have g0 := fun u0 u1 u2 u3 u4 u5 => (BB u0 u1 u2 u3 u4 u5).cell 0
  have g1 := fun u0 u1 u2 u3 u4 u5 => (BB u0 u1 u2 u3 u4 u5).cell 1
  have g2 := fun u0 u1 u2 u3 u4 u5 => (BB u0 u1 u2 u3 u4 u5).cell 2
  have g3 := fun u0 u1 u2 u3 u4 u5 => (BB u0 u1 u2 u3 u4 u5).cell 3
  have g4 := fun u0 u1 u2 u3 u4 u5 => (BB u0 u1 u2 u3 u4 u5).cell 4
  have g5 := fun u0 u1 u2 u3 u4 u5 => (BB u0 u1 u2 u3 u4 u5).cell 5
  refine bodyPost_ret (by simp [results, Tryz.results18, g0, g1, g2, g3, g4, g5, go_sem]; try rfl) rfl ?_
  exact ⟨rfl, below6 HB.out (by omega)⟩
set_option maxHeartbeats 4000000 in
theorem rany5  (w : World) :
    Calls Tryz.prog 20 #[] w fun e w' => e = .returned (.agg #[.int .u64 (bi anyC.t.v), .int .u64 (bi anyC.t.m), .int .u64 anyC.u.lo, .int .u64 anyC.u.hi, .int .i64 anyC.s.lo, .int .i64 anyC.s.hi]) ∧ Below w.heap.size w w' := by
  go_enter Tryz.func20, Tryz.ntmps20
  go_wp2_with fail
  have R := (Bk.new w 30 #[.int .u64 0, .int .u64 0, .int .u64 0, .int .u64 0, .int .i64 0, .int .i64 0])
  have HB : Below w.heap.size w (w.alloc (.cells #[.int .u64 0, .int .u64 0, .int .u64 0, .int .u64 0, .int .i64 0, .int .i64 0] 30)) := by go_grown
  generalize (w.alloc (.cells #[.int .u64 0, .int .u64 0, .int .u64 0, .int .u64 0, .int .i64 0, .int .i64 0] 30)) = w0 at *
  replace R := Lib.hid R
  replace HB := Lib.hid HB
  have r0 := R.out.cell 0
  have r1 := R.out.cell 1
  have r2 := R.out.cell 2
  have r3 := R.out.cell 3
  have r4 := R.out.cell 4
  have r5 := R.out.cell 5
  have f0 := R.out.frozen 0
  have f1 := R.out.frozen 1
  have f2 := R.out.frozen 2
  have f3 := R.out.frozen 3
  have f4 := R.out.frozen 4
  have f5 := R.out.frozen 5
  clear r0 r1 r2 r3 r4 r5 f0 f1 f2 f3 f4 f5
  with_reducible refine (L3.refany_any _).mono ?_
  rintro e w1 ⟨rfl, qb⟩
  replace R := Lib.hid (Rg.bkk R.out qb)
  replace HB := Lib.hid (Rg.bth HB.out qb (Nat.le_refl _))
  clear qb
  have r0 := R.out.cell 0
  have r1 := R.out.cell 1
  have r2 := R.out.cell 2
  have r3 := R.out.cell 3
  have r4 := R.out.cell 4
  have r5 := R.out.cell 5
  have f0 := R.out.frozen 0
  have f1 := R.out.frozen 1
  have f2 := R.out.frozen 2
  have f3 := R.out.frozen 3
  have f4 := R.out.frozen 4
  have f5 := R.out.frozen 5
  go_wp2_with fail
  clear r0 r1 r2 r3 r4 r5 f0 f1 f2 f3 f4 f5
  with_reducible refine (ruall_any _).mono ?_
  rintro e w2 ⟨rfl, qb⟩
  replace R := Lib.hid (Rg.bkk R.out qb)
  replace HB := Lib.hid (Rg.bth HB.out qb (Nat.le_refl _))
  clear qb
  have r0 := R.out.cell 0
  have r1 := R.out.cell 1
  have r2 := R.out.cell 2
  have r3 := R.out.cell 3
  have r4 := R.out.cell 4
  have r5 := R.out.cell 5
  have f0 := R.out.frozen 0
  have f1 := R.out.frozen 1
  have f2 := R.out.frozen 2
  have f3 := R.out.frozen 3
  have f4 := R.out.frozen 4
  have f5 := R.out.frozen 5
  go_wp2_with fail
  clear r0 r1 r2 r3 r4 r5 f0 f1 f2 f3 f4 f5
  with_reducible refine (rsall_any _).mono ?_
  rintro e w3 ⟨rfl, qb⟩
  replace R := Lib.hid (Rg.bkk R.out qb)
  replace HB := Lib.hid (Rg.bth HB.out qb (Nat.le_refl _))
  clear qb
  have r0 := R.out.cell 0
  have r1 := R.out.cell 1
  have r2 := R.out.cell 2
  have r3 := R.out.cell 3
  have r4 := R.out.cell 4
  have r5 := R.out.cell 5
  have f0 := R.out.frozen 0
  have f1 := R.out.frozen 1
  have f2 := R.out.frozen 2
  have f3 := R.out.frozen 3
  have f4 := R.out.frozen 4
  have f5 := R.out.frozen 5
  go_wp2_with fail
  have BB := bset6 R.out
  have g0 := fun u0 u1 u2 u3 u4 u5 => (BB u0 u1 u2 u3 u4 u5).cell 0
  have g1 := fun u0 u1 u2 u3 u4 u5 => (BB u0 u1 u2 u3 u4 u5).cell 1
  have g2 := fun u0 u1 u2 u3 u4 u5 => (BB u0 u1 u2 u3 u4 u5).cell 2
  have g3 := fun u0 u1 u2 u3 u4 u5 => (BB u0 u1 u2 u3 u4 u5).cell 3
  have g4 := fun u0 u1 u2 u3 u4 u5 => (BB u0 u1 u2 u3 u4 u5).cell 4
  have g5 := fun u0 u1 u2 u3 u4 u5 => (BB u0 u1 u2 u3 u4 u5).cell 5
  refine bodyPost_ret (by simp [results, Tryz.results20, g0, g1, g2, g3, g4, g5, go_sem]; try rfl) rfl ?_
  exact ⟨rfl, below6 HB.out (by omega)⟩
set_option maxHeartbeats 4000000 in
theorem ris5 (x : C) (hx : mayC x) (w : World) :
    Calls Tryz.prog 14 #[.agg #[.int .u64 (bi x.t.v), .int .u64 (bi x.t.m), .int .u64 x.u.lo, .int .u64 x.u.hi, .int .i64 x.s.lo, .int .i64 x.s.hi]] w fun e w' => e = .returned (.tuple #[.int .u64 (oneC x), .bool (aloneC x)]) ∧ Below w.heap.size w w' := by
  obtain ⟨q1, hq1⟩ : ∃ o : Bool, (x.u.lo == x.u.hi) = o := ⟨_, rfl⟩
  obtain ⟨q2, hq2⟩ : ∃ o : Bool, (bi x.t.m == 0) = o := ⟨_, rfl⟩
  obtain ⟨q3, hq3⟩ : ∃ o : Bool, (x.s.lo == x.s.hi) = o := ⟨_, rfl⟩
  have e1 : aloneC x = (q1 || (q2 || q3)) := by
    rw [← hq1, ← hq2, ← hq3, bi_eq0]; unfold aloneC; rw [beqd, beqd]
  have e2 : oneC x = if q1 then x.u.lo else if q2 then bi x.t.v else if q3 then us x.s.lo else 0 := by
    rw [← hq1, ← hq2, ← hq3, bi_eq0]; unfold oneC; simp only [beq_iff_eq]
  rw [e1, e2]
  have WU : IntKind.u64.wrap x.s.lo = us x.s.lo := by
    have hs := hx.2.2
    unfold okS at hs
    rw [IntKind.wrap_u64]; unfold us; split <;> omega
  clear e1 e2
  cases q1 <;> cases q2 <;> cases q3 <;> (go_enter Tryz.func14, Tryz.ntmps14; go_wp2; first | go_returns | go_ret)
  all_goals exact ⟨by first | rfl | (simp [WU]; done), by go_grown⟩
end Go.Proofs.YtcimihckhobniaaGreat.Sc
namespace Go.Proofs.YtcimihckhobniaaGreat.Sc
open Go.RowKit Tn Ow Sp
set_option linter.unusedVariables false
set_option linter.unusedSimpArgs false
set_option maxRecDepth 100000
end Go.Proofs.YtcimihckhobniaaGreat.Sc
namespace Go.Proofs.YtcimihckhobniaaGreat.Sc
open Go.RowKit Tn Ow Sp
set_option linter.unusedVariables false
set_option linter.unusedSimpArgs false
set_option maxRecDepth 100000
end Go.Proofs.YtcimihckhobniaaGreat.Sc
namespace Go.Proofs.YtcimihckhobniaaGreat.Sc
open Go.RowKit Tn Ow Sp
set_option linter.unusedVariables false
set_option linter.unusedSimpArgs false
set_option maxRecDepth 100000
end Go.Proofs.YtcimihckhobniaaGreat.Sc
namespace Go.Proofs.YtcimihckhobniaaGreat.Sc
open Go.RowKit Tn Ow Sp
set_option linter.unusedVariables false
set_option linter.unusedSimpArgs false
set_option maxRecDepth 100000
theorem rof0 (w : World) : Calls Tryz.prog 18 #[.int .u64 0] w fun e w' => e = .returned (.agg #[.int .u64 (bi (ofC 0#64).t.v), .int .u64 (bi (ofC 0#64).t.m), .int .u64 (ofC 0#64).u.lo, .int .u64 (ofC 0#64).u.hi, .int .i64 (ofC 0#64).s.lo, .int .i64 (ofC 0#64).s.hi]) ∧ Below w.heap.size w w' := rof5 0#64 w
set_option maxHeartbeats 4000000 in
theorem rupto5 (n : Int) (hn : -9223372036854775808 ≤ n ∧ n ≤ 9223372036854775807) (w : World) :
    Calls Tryz.prog 22 #[.int .i64 n] w fun e w' => e = .returned (.agg #[.int .u64 (bi (uptoC n).t.v), .int .u64 (bi (uptoC n).t.m), .int .u64 (uptoC n).u.lo, .int .u64 (uptoC n).u.hi, .int .i64 (uptoC n).s.lo, .int .i64 (uptoC n).s.hi]) ∧ Below w.heap.size w w' := by
  by_cases h8 : 8 ≤ n
  · have e1 := Lib.hid (show uptoC n = anyC by unfold uptoC; rw [if_pos h8])
    go_enter Tryz.func22, Tryz.ntmps22
    go_wp2_with fail
    have R := (Bk.new w 30 #[.int .u64 0, .int .u64 0, .int .u64 0, .int .u64 0, .int .i64 0, .int .i64 0])
    have HB : Below w.heap.size w (w.alloc (.cells #[.int .u64 0, .int .u64 0, .int .u64 0, .int .u64 0, .int .i64 0, .int .i64 0] 30)) := by go_grown
    generalize (w.alloc (.cells #[.int .u64 0, .int .u64 0, .int .u64 0, .int .u64 0, .int .i64 0, .int .i64 0] 30)) = w0 at *
    replace R := Lib.hid R
    replace HB := Lib.hid HB
    with_reducible refine (rany5 _).mono ?_
    rintro e w1 ⟨rfl, qb⟩
    replace R := Lib.hid (Rg.bkk R.out qb)
    replace HB := Lib.hid (Rg.bth HB.out qb (Nat.le_refl _))
    clear qb
    have BB := bset6 R.out
    have g0 := fun u0 u1 u2 u3 u4 u5 => (BB u0 u1 u2 u3 u4 u5).cell 0
    have g1 := fun u0 u1 u2 u3 u4 u5 => (BB u0 u1 u2 u3 u4 u5).cell 1
    have g2 := fun u0 u1 u2 u3 u4 u5 => (BB u0 u1 u2 u3 u4 u5).cell 2
    have g3 := fun u0 u1 u2 u3 u4 u5 => (BB u0 u1 u2 u3 u4 u5).cell 3
    have g4 := fun u0 u1 u2 u3 u4 u5 => (BB u0 u1 u2 u3 u4 u5).cell 4
    have g5 := fun u0 u1 u2 u3 u4 u5 => (BB u0 u1 u2 u3 u4 u5).cell 5
    have R0 := R.out.cell 0
    have R1 := R.out.cell 1
    have R2 := R.out.cell 2
    have R3 := R.out.cell 3
    have R4 := R.out.cell 4
    have R5 := R.out.cell 5
    have fR0 := R.out.frozen 0
    have fR1 := R.out.frozen 1
    have fR2 := R.out.frozen 2
    have fR3 := R.out.frozen 3
    have fR4 := R.out.frozen 4
    have fR5 := R.out.frozen 5
    go_wp2
    refine bodyPost_ret (by simp [results, Tryz.results22, g0, g1, g2, g3, g4, g5, go_sem]; try rfl) rfl ?_
    exact ⟨by rw [e1.out], below6 HB.out (by omega)⟩
  · by_cases h1 : n < 1
    · have e1 := Lib.hid (show uptoC n = ofC 0#64 by unfold uptoC; rw [if_neg h8, if_pos h1])
      go_enter Tryz.func22, Tryz.ntmps22
      go_wp2_with fail
      have R := (Bk.new w 30 #[.int .u64 0, .int .u64 0, .int .u64 0, .int .u64 0, .int .i64 0, .int .i64 0])
      have HB : Below w.heap.size w (w.alloc (.cells #[.int .u64 0, .int .u64 0, .int .u64 0, .int .u64 0, .int .i64 0, .int .i64 0] 30)) := by go_grown
      generalize (w.alloc (.cells #[.int .u64 0, .int .u64 0, .int .u64 0, .int .u64 0, .int .i64 0, .int .i64 0] 30)) = w0 at *
      replace R := Lib.hid R
      replace HB := Lib.hid HB
      with_reducible refine (rof0 _).mono ?_
      rintro e w1 ⟨rfl, qb⟩
      replace R := Lib.hid (Rg.bkk R.out qb)
      replace HB := Lib.hid (Rg.bth HB.out qb (Nat.le_refl _))
      clear qb
      have BB := bset6 R.out
      have g0 := fun u0 u1 u2 u3 u4 u5 => (BB u0 u1 u2 u3 u4 u5).cell 0
      have g1 := fun u0 u1 u2 u3 u4 u5 => (BB u0 u1 u2 u3 u4 u5).cell 1
      have g2 := fun u0 u1 u2 u3 u4 u5 => (BB u0 u1 u2 u3 u4 u5).cell 2
      have g3 := fun u0 u1 u2 u3 u4 u5 => (BB u0 u1 u2 u3 u4 u5).cell 3
      have g4 := fun u0 u1 u2 u3 u4 u5 => (BB u0 u1 u2 u3 u4 u5).cell 4
      have g5 := fun u0 u1 u2 u3 u4 u5 => (BB u0 u1 u2 u3 u4 u5).cell 5
      have R0 := R.out.cell 0
      have R1 := R.out.cell 1
      have R2 := R.out.cell 2
      have R3 := R.out.cell 3
      have R4 := R.out.cell 4
      have R5 := R.out.cell 5
      have fR0 := R.out.frozen 0
      have fR1 := R.out.frozen 1
      have fR2 := R.out.frozen 2
      have fR3 := R.out.frozen 3
      have fR4 := R.out.frozen 4
      have fR5 := R.out.frozen 5
      go_wp2
      refine bodyPost_ret (by simp [results, Tryz.results22, g0, g1, g2, g3, g4, g5, go_sem]; try rfl) rfl ?_
      exact ⟨by rw [e1.out], below6 HB.out (by omega)⟩
    · have : n = 1 ∨ n = 2 ∨ n = 3 ∨ n = 4 ∨ n = 5 ∨ n = 6 ∨ n = 7 := by omega
      rcases this with rfl | rfl | rfl | rfl | rfl | rfl | rfl
      all_goals clear h8 h1
      · have e1 := Lib.hid (show uptoC 1 = ⟨⟨0#64, onesC 1⟩, ⟨0, bi (onesC 1)⟩, ⟨0, bi (onesC 1)⟩⟩ by unfold uptoC; rw [if_neg (by decide), if_neg (by decide)]; rfl)
        have e2 := Lib.hid (show bi (onesC 1) = 255 by decide +kernel)
        go_enter Tryz.func22, Tryz.ntmps22
        go_wp2
        have BB := Bk.new w 30 #[.int .u64 0, .int .u64 255, .int .u64 0, .int .u64 255, .int .i64 0, .int .i64 255]
        have g0 := BB.cell 0
        have g1 := BB.cell 1
        have g2 := BB.cell 2
        have g3 := BB.cell 3
        have g4 := BB.cell 4
        have g5 := BB.cell 5
        refine bodyPost_ret (by simp [results, Tryz.results22, g0, g1, g2, g3, g4, g5, go_sem]; try rfl) rfl ?_
        exact ⟨by rw [e1.out]; dsimp only; rw [e2.out, bi_zero], Rg.grow1 w _⟩
      · have e1 := Lib.hid (show uptoC 2 = ⟨⟨0#64, onesC 2⟩, ⟨0, bi (onesC 2)⟩, ⟨0, bi (onesC 2)⟩⟩ by unfold uptoC; rw [if_neg (by decide), if_neg (by decide)]; rfl)
        have e2 := Lib.hid (show bi (onesC 2) = 65535 by decide +kernel)
        go_enter Tryz.func22, Tryz.ntmps22
        go_wp2
        have BB := Bk.new w 30 #[.int .u64 0, .int .u64 65535, .int .u64 0, .int .u64 65535, .int .i64 0, .int .i64 65535]
        have g0 := BB.cell 0
        have g1 := BB.cell 1
        have g2 := BB.cell 2
        have g3 := BB.cell 3
        have g4 := BB.cell 4
        have g5 := BB.cell 5
        refine bodyPost_ret (by simp [results, Tryz.results22, g0, g1, g2, g3, g4, g5, go_sem]; try rfl) rfl ?_
        exact ⟨by rw [e1.out]; dsimp only; rw [e2.out, bi_zero], Rg.grow1 w _⟩
      · have e1 := Lib.hid (show uptoC 3 = ⟨⟨0#64, onesC 3⟩, ⟨0, bi (onesC 3)⟩, ⟨0, bi (onesC 3)⟩⟩ by unfold uptoC; rw [if_neg (by decide), if_neg (by decide)]; rfl)
        have e2 := Lib.hid (show bi (onesC 3) = 16777215 by decide +kernel)
        go_enter Tryz.func22, Tryz.ntmps22
        go_wp2
        have BB := Bk.new w 30 #[.int .u64 0, .int .u64 16777215, .int .u64 0, .int .u64 16777215, .int .i64 0, .int .i64 16777215]
        have g0 := BB.cell 0
        have g1 := BB.cell 1
        have g2 := BB.cell 2
        have g3 := BB.cell 3
        have g4 := BB.cell 4
        have g5 := BB.cell 5
        refine bodyPost_ret (by simp [results, Tryz.results22, g0, g1, g2, g3, g4, g5, go_sem]; try rfl) rfl ?_
        exact ⟨by rw [e1.out]; dsimp only; rw [e2.out, bi_zero], Rg.grow1 w _⟩
      · have e1 := Lib.hid (show uptoC 4 = ⟨⟨0#64, onesC 4⟩, ⟨0, bi (onesC 4)⟩, ⟨0, bi (onesC 4)⟩⟩ by unfold uptoC; rw [if_neg (by decide), if_neg (by decide)]; rfl)
        have e2 := Lib.hid (show bi (onesC 4) = 4294967295 by decide +kernel)
        go_enter Tryz.func22, Tryz.ntmps22
        go_wp2
        have BB := Bk.new w 30 #[.int .u64 0, .int .u64 4294967295, .int .u64 0, .int .u64 4294967295, .int .i64 0, .int .i64 4294967295]
        have g0 := BB.cell 0
        have g1 := BB.cell 1
        have g2 := BB.cell 2
        have g3 := BB.cell 3
        have g4 := BB.cell 4
        have g5 := BB.cell 5
        refine bodyPost_ret (by simp [results, Tryz.results22, g0, g1, g2, g3, g4, g5, go_sem]; try rfl) rfl ?_
        exact ⟨by rw [e1.out]; dsimp only; rw [e2.out, bi_zero], Rg.grow1 w _⟩
      · have e1 := Lib.hid (show uptoC 5 = ⟨⟨0#64, onesC 5⟩, ⟨0, bi (onesC 5)⟩, ⟨0, bi (onesC 5)⟩⟩ by unfold uptoC; rw [if_neg (by decide), if_neg (by decide)]; rfl)
        have e2 := Lib.hid (show bi (onesC 5) = 1099511627775 by decide +kernel)
        go_enter Tryz.func22, Tryz.ntmps22
        go_wp2
        have BB := Bk.new w 30 #[.int .u64 0, .int .u64 1099511627775, .int .u64 0, .int .u64 1099511627775, .int .i64 0, .int .i64 1099511627775]
        have g0 := BB.cell 0
        have g1 := BB.cell 1
        have g2 := BB.cell 2
        have g3 := BB.cell 3
        have g4 := BB.cell 4
        have g5 := BB.cell 5
        refine bodyPost_ret (by simp [results, Tryz.results22, g0, g1, g2, g3, g4, g5, go_sem]; try rfl) rfl ?_
        exact ⟨by rw [e1.out]; dsimp only; rw [e2.out, bi_zero], Rg.grow1 w _⟩
      · have e1 := Lib.hid (show uptoC 6 = ⟨⟨0#64, onesC 6⟩, ⟨0, bi (onesC 6)⟩, ⟨0, bi (onesC 6)⟩⟩ by unfold uptoC; rw [if_neg (by decide), if_neg (by decide)]; rfl)
        have e2 := Lib.hid (show bi (onesC 6) = 281474976710655 by decide +kernel)
        go_enter Tryz.func22, Tryz.ntmps22
        go_wp2
        have BB := Bk.new w 30 #[.int .u64 0, .int .u64 281474976710655, .int .u64 0, .int .u64 281474976710655, .int .i64 0, .int .i64 281474976710655]
        have g0 := BB.cell 0
        have g1 := BB.cell 1
        have g2 := BB.cell 2
        have g3 := BB.cell 3
        have g4 := BB.cell 4
        have g5 := BB.cell 5
        refine bodyPost_ret (by simp [results, Tryz.results22, g0, g1, g2, g3, g4, g5, go_sem]; try rfl) rfl ?_
        exact ⟨by rw [e1.out]; dsimp only; rw [e2.out, bi_zero], Rg.grow1 w _⟩
      · have e1 := Lib.hid (show uptoC 7 = ⟨⟨0#64, onesC 7⟩, ⟨0, bi (onesC 7)⟩, ⟨0, bi (onesC 7)⟩⟩ by unfold uptoC; rw [if_neg (by decide), if_neg (by decide)]; rfl)
        have e2 := Lib.hid (show bi (onesC 7) = 72057594037927935 by decide +kernel)
        go_enter Tryz.func22, Tryz.ntmps22
        go_wp2
        have BB := Bk.new w 30 #[.int .u64 0, .int .u64 72057594037927935, .int .u64 0, .int .u64 72057594037927935, .int .i64 0, .int .i64 72057594037927935]
        have g0 := BB.cell 0
        have g1 := BB.cell 1
        have g2 := BB.cell 2
        have g3 := BB.cell 3
        have g4 := BB.cell 4
        have g5 := BB.cell 5
        refine bodyPost_ret (by simp [results, Tryz.results22, g0, g1, g2, g3, g4, g5, go_sem]; try rfl) rfl ?_
        exact ⟨by rw [e1.out]; dsimp only; rw [e2.out, bi_zero], Rg.grow1 w _⟩
end Go.Proofs.YtcimihckhobniaaGreat.Sc
