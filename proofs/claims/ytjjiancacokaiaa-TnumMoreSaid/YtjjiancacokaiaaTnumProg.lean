/-
  What the program's package tnum tells (all but Mul): contracts. Conditions: values and masks are numbers of 64 bits.
-/
import Derived.Test.YtjjiancacokaiaaTnumInt
import Derived.Test.YtjjiancacokaiaaRows
import Derived.WalkKit
import Derived.WalkSpells
import Derived.WalkLawsBesides
import Derived.Below
import Derived.Handy
import Derived.Lib.Hide
import Derived.Deep.Light
import Derived.Laws.StructEq
import Derived.Deep.RegionHeld3
import Derived.BigQuiet
import Derived.Deep.QuietTactic
import Derived.StillTailTactics
import Derived.Test.YtjjiancacokaiaaOwn
namespace Go.Proofs.Ytjjiancacokaiaa
open Go.RowKit Tn Ow
set_option linter.unusedVariables false
set_option linter.unusedSimpArgs false
theorem rt_t {a b c d : Int} (h1 : a = b) (h2 : c = d) : Ending.returned (.agg #[.int .u64 a, .int .u64 c]) = .returned (.agg #[.int .u64 b, .int .u64 d]) := by rw [h1, h2]
theorem rt_i {k : IntKind} {a b : Int} (h : a = b) : Ending.returned (.int k a) = .returned (.int k b) := by rw [h]
theorem rt_tb {a b c d : Int} {x y : Bool} (h1 : a = b) (h2 : c = d) (h3 : x = y) : Ending.returned (.tuple #[.agg #[.int .u64 a, .int .u64 c], .bool x]) = .returned (.tuple #[.agg #[.int .u64 b, .int .u64 d], .bool y]) := by rw [h1, h2, h3]
theorem rt_b {x y : Bool} (h3 : x = y) : Ending.returned (.bool x) = .returned (.bool y) := by rw [h3]
theorem tn_st : Try.prog.underlying 24 = some (.struct (Try.prog.fieldsOf 24)) := by kernel_rfl
theorem tn_in : Try.prog.stoodInHeld 24 = false := by kernel_rfl
theorem tn_eg : Try.prog.eqGuardType Try.prog.depth 24 = false := by kernel_rfl
theorem tn_eql0 (a0 a1 b0 b1 : Int) (w : World) : (binOp .eql 24 (.agg #[.int .u64 a0, .int .u64 a1]) (.agg #[.int .u64 b0, .int .u64 b1])).run Try.prog w = .ok (.bool (a0 == b0 && a1 == b1)) w := by
  rw [run_eql_struct, run_equalIn_agg _ _ _ _ _ tn_st tn_in]
  simp only [Program.fieldsOf, Try.underlying24]
  cases h0 : (a0 == b0) <;> cases h1 : (a1 == b1) <;> simp [go_sem, h0, h1]
theorem tn_neq0 (a0 a1 b0 b1 : Int) (w : World) : (binOp .neq 24 (.agg #[.int .u64 a0, .int .u64 a1]) (.agg #[.int .u64 b0, .int .u64 b1])).run Try.prog w = .ok (.bool (!(a0 == b0 && a1 == b1))) w := by
  rw [run_neq_struct, run_equalIn_agg _ _ _ _ _ tn_st tn_in]
  simp only [Program.fieldsOf, Try.underlying24]
  cases h0 : (a0 == b0) <;> cases h1 : (a1 == b1) <;> simp [go_sem, h0, h1]
theorem tn_eql (a b : T) (w : World) : (binOp .eql 24 (.agg #[.int .u64 (bi a.v), .int .u64 (bi a.m)]) (.agg #[.int .u64 (bi b.v), .int .u64 (bi b.m)])).run Try.prog w = .ok (.bool (sameT a b)) w := by
  rw [tn_eql0, bi_eq, bi_eq]; rfl
theorem tn_neq (a b : T) (w : World) : (binOp .neq 24 (.agg #[.int .u64 (bi a.v), .int .u64 (bi a.m)]) (.agg #[.int .u64 (bi b.v), .int .u64 (bi b.m)])).run Try.prog w = .ok (.bool (!sameT a b)) w := by
  rw [tn_neq0, bi_eq, bi_eq]; rfl
theorem tn_guard (op : BinOp) (a b : T) (o1 o2 : Operand) (w : World) : (eqGuard op 24 o1 o2 (.agg #[.int .u64 (bi a.v), .int .u64 (bi a.m)]) (.agg #[.int .u64 (bi b.v), .int .u64 (bi b.m)])).run Try.prog w = .ok () w := run_eqGuard_agg w op _ o1 o2 _ _ tn_eg
theorem poss_any (a : T) (w : World) :
    Calls Try.prog 52 #[.agg #[.int .u64 (bi a.v), .int .u64 (bi a.m)]] w fun e w' => e = .returned (.int .u64 (bi (a.v ||| a.m))) ∧ Below w.heap.size w w' := by
  have h0 := bi_bd a.v
  have h1 := bi_bd a.m
  go_enter Try.func52, Try.ntmps52
  go_wp2
  go_returns
  exact ⟨rt_i (bi_or _ _), by go_grown⟩
theorem below_then {B : Nat} {w w1 w2 : World} (h1 : Below B w w1) (h2 : Below w1.heap.size w1 w2) (hB : B ≤ w.heap.size) : Below B w w2 :=
  h1.trans (h2.mono (by have := h1.size; omega))
theorem below_drewN {B : Nat} {w wr : World} (h : Below B w wr) (n : Nat) : Below B w (wr.drewN n) := ⟨h.os, h.tape, h.output, h.size, h.block⟩
theorem tcells {w : World} {b : Nat} {x y : Int} (h : Bk w b 24 #[.int .u64 x, .int .u64 y]) : w.cell? ⟨b, 0, none⟩ = some (.int .u64 x) ∧ w.cell? ⟨b, 1, none⟩ = some (.int .u64 y) := ⟨h.cell 0, h.cell 1⟩
/-- Whatever a cell holds. -/
def cv (w : World) (r i : Nat) : Value := (w.cell? ⟨r, i, none⟩).getD (.bool false)
theorem cv_some {w : World} {r i : Nat} {v : Value} (h : w.cell? ⟨r, i, none⟩ = some v) : w.cell? ⟨r, i, none⟩ = some (cv w r i) := by unfold cv; rw [h]; rfl
theorem six_keep {w W w2 : World} {g h r : Nat} {v0 v1 v2 v3 : Value} (hb : Below W.heap.size W w2)
    (hh : W.cell? ⟨g, 0, none⟩ = some v0 ∧ W.cell? ⟨g, 1, none⟩ = some v1 ∧ W.cell? ⟨h, 0, none⟩ = some v2 ∧ W.cell? ⟨h, 1, none⟩ = some v3 ∧ W.cell? ⟨r, 0, none⟩ = some (cv W r 0) ∧ W.cell? ⟨r, 1, none⟩ = some (cv W r 1) ∧ W.frozen? ⟨r, 0, none⟩ = false ∧ W.frozen? ⟨r, 1, none⟩ = false ∧ Below w.heap.size w W) :
    w2.cell? ⟨g, 0, none⟩ = some v0 ∧ w2.cell? ⟨g, 1, none⟩ = some v1 ∧ w2.cell? ⟨h, 0, none⟩ = some v2 ∧ w2.cell? ⟨h, 1, none⟩ = some v3 ∧ w2.cell? ⟨r, 0, none⟩ = some (cv w2 r 0) ∧ w2.cell? ⟨r, 1, none⟩ = some (cv w2 r 1) ∧ w2.frozen? ⟨r, 0, none⟩ = false ∧ w2.frozen? ⟨r, 1, none⟩ = false ∧ Below w.heap.size w w2 := by
  have hg : g < W.heap.size := World.block_lt_of_cell? W _ hh.1
  have hi : h < W.heap.size := World.block_lt_of_cell? W _ hh.2.2.1
  have hr : r < W.heap.size := World.block_lt_of_cell? W _ hh.2.2.2.2.1
  exact ⟨(hb.cell (p := ⟨g, 0, none⟩) hg).trans hh.1, (hb.cell (p := ⟨g, 1, none⟩) hg).trans hh.2.1, (hb.cell (p := ⟨h, 0, none⟩) hi).trans hh.2.2.1, (hb.cell (p := ⟨h, 1, none⟩) hi).trans hh.2.2.2.1, cv_some ((hb.cell (p := ⟨r, 0, none⟩) hr).trans hh.2.2.2.2.1), cv_some ((hb.cell (p := ⟨r, 1, none⟩) hr).trans hh.2.2.2.2.2.1), (hb.frozen (p := ⟨r, 0, none⟩) hr).trans hh.2.2.2.2.2.2.1, (hb.frozen (p := ⟨r, 1, none⟩) hr).trans hh.2.2.2.2.2.2.2.1, below_then hh.2.2.2.2.2.2.2.2 hb (Nat.le_refl _)⟩
theorem cell_set2 {W : World} {r b i : Nat} {u v : Value} (h : b ≠ r) : ((W.setCell ⟨r, 0, none⟩ u).setCell ⟨r, 1, none⟩ v).cell? ⟨b, i, none⟩ = W.cell? ⟨b, i, none⟩ := by
  rw [World.cell?_setCell_other _ _ _ _ (fun e => h (congrArg Addr.block e).symm), World.cell?_setCell_other _ _ _ _ (fun e => h (congrArg Addr.block e).symm)]
theorem six_store {w W : World} {g h r : Nat} {v0 v1 v2 v3 u v : Value} (h1 : g ≠ r) (h2 : h ≠ r) (h3 : w.heap.size ≤ r)
    (hh : W.cell? ⟨g, 0, none⟩ = some v0 ∧ W.cell? ⟨g, 1, none⟩ = some v1 ∧ W.cell? ⟨h, 0, none⟩ = some v2 ∧ W.cell? ⟨h, 1, none⟩ = some v3 ∧ W.cell? ⟨r, 0, none⟩ = some (cv W r 0) ∧ W.cell? ⟨r, 1, none⟩ = some (cv W r 1) ∧ W.frozen? ⟨r, 0, none⟩ = false ∧ W.frozen? ⟨r, 1, none⟩ = false ∧ Below w.heap.size w W) :
    ((W.setCell ⟨r, 0, none⟩ u).setCell ⟨r, 1, none⟩ v).cell? ⟨g, 0, none⟩ = some v0 ∧ ((W.setCell ⟨r, 0, none⟩ u).setCell ⟨r, 1, none⟩ v).cell? ⟨g, 1, none⟩ = some v1 ∧ ((W.setCell ⟨r, 0, none⟩ u).setCell ⟨r, 1, none⟩ v).cell? ⟨h, 0, none⟩ = some v2 ∧ ((W.setCell ⟨r, 0, none⟩ u).setCell ⟨r, 1, none⟩ v).cell? ⟨h, 1, none⟩ = some v3 ∧ ((W.setCell ⟨r, 0, none⟩ u).setCell ⟨r, 1, none⟩ v).cell? ⟨r, 0, none⟩ = some (cv ((W.setCell ⟨r, 0, none⟩ u).setCell ⟨r, 1, none⟩ v) r 0) ∧ ((W.setCell ⟨r, 0, none⟩ u).setCell ⟨r, 1, none⟩ v).cell? ⟨r, 1, none⟩ = some (cv ((W.setCell ⟨r, 0, none⟩ u).setCell ⟨r, 1, none⟩ v) r 1) ∧ ((W.setCell ⟨r, 0, none⟩ u).setCell ⟨r, 1, none⟩ v).frozen? ⟨r, 0, none⟩ = false ∧ ((W.setCell ⟨r, 0, none⟩ u).setCell ⟨r, 1, none⟩ v).frozen? ⟨r, 1, none⟩ = false ∧ Below w.heap.size w ((W.setCell ⟨r, 0, none⟩ u).setCell ⟨r, 1, none⟩ v) := by
  obtain ⟨c0, c1, c2, c3, c4, c5, f0, f1, B⟩ := hh
  have e0 : (W.setCell ⟨r, 0, none⟩ u).cell? ⟨r, 0, none⟩ = some u := World.cell?_setCell_same _ _ _ c4
  have e1 : (W.setCell ⟨r, 0, none⟩ u).cell? ⟨r, 1, none⟩ = W.cell? ⟨r, 1, none⟩ := World.cell?_setCell_other _ _ _ _ (fun e => by injection e with _ e2 _; omega)
  refine ⟨(cell_set2 h1).trans c0, (cell_set2 h1).trans c1, (cell_set2 h2).trans c2, (cell_set2 h2).trans c3, cv_some (v := u) ?_, cv_some (v := v) ?_, ?_, ?_, (B.setCell (p := ⟨r, 0, none⟩) h3 _).setCell (p := ⟨r, 1, none⟩) h3 _⟩
  · rw [World.cell?_setCell_other _ _ _ _ (fun e => by injection e with _ e2 _; omega), e0]
  · exact World.cell?_setCell_same _ _ _ (e1.trans c5)
  · rw [World.frozen?_setCell, World.frozen?_setCell]; exact f0
  · rw [World.frozen?_setCell, World.frozen?_setCell]; exact f1
theorem keep1 {w0 w1 : World} {p : Addr} {v : Value} (q1 : Below w0.heap.size w0 w1) (h : w0.cell? p = some v) : w1.cell? p = some v :=
  (q1.cell (World.block_lt_of_cell? w0 _ h)).trans h
theorem set_fst {W : World} {r : Nat} {u v x : Value} (h : W.cell? ⟨r, 0, none⟩ = some x) : ((W.setCell ⟨r, 0, none⟩ u).setCell ⟨r, 1, none⟩ v).cell? ⟨r, 0, none⟩ = some u := by
  rw [World.cell?_setCell_other _ _ _ _ (fun e => by injection e with _ e2 _; omega)]
  exact World.cell?_setCell_same _ _ _ h
theorem set_snd {W : World} {r : Nat} {u v x : Value} (h : W.cell? ⟨r, 1, none⟩ = some x) : ((W.setCell ⟨r, 0, none⟩ u).setCell ⟨r, 1, none⟩ v).cell? ⟨r, 1, none⟩ = some v := by
  have e1 : (W.setCell ⟨r, 0, none⟩ u).cell? ⟨r, 1, none⟩ = W.cell? ⟨r, 1, none⟩ := World.cell?_setCell_other _ _ _ _ (fun e => by injection e with _ e2 _; omega)
  exact World.cell?_setCell_same _ _ _ (e1.trans h)
theorem join_any (a b : T) (w : World) :
    Calls Try.prog 23 #[.agg #[.int .u64 (bi a.v), .int .u64 (bi a.m)], .agg #[.int .u64 (bi b.v), .int .u64 (bi b.m)]] w fun e w' => e = .returned (.agg #[.int .u64 (bi (joinT a b).v), .int .u64 (bi (joinT a b).m)]) ∧ Below w.heap.size w w' := by
  have h0 := bi_bd a.v
  have h1 := bi_bd a.m
  have h2 := bi_bd b.v
  have h3 := bi_bd b.m
  go_enter Try.func23, Try.ntmps23
  go_wp2
  go_returns
  refine ⟨rt_t ?_ ?_, by go_grown⟩
  · simp only [bi_andNot, bi_or, bi_xor, bi_and, biw_add, biw_sub, biw_mul]; rfl
  · simp only [bi_andNot, bi_or, bi_xor, bi_and, biw_add, biw_sub, biw_mul]; rfl
theorem add_any (a b : T) (w : World) :
    Calls Try.prog 26 #[.agg #[.int .u64 (bi a.v), .int .u64 (bi a.m)], .agg #[.int .u64 (bi b.v), .int .u64 (bi b.m)]] w fun e w' => e = .returned (.agg #[.int .u64 (bi (addT a b).v), .int .u64 (bi (addT a b).m)]) ∧ Below w.heap.size w w' := by
  have h0 := bi_bd a.v
  have h1 := bi_bd a.m
  have h2 := bi_bd b.v
  have h3 := bi_bd b.m
  go_enter Try.func26, Try.ntmps26
  go_wp2
  go_returns
  refine ⟨rt_t ?_ ?_, by go_grown⟩
  · simp only [bi_andNot, bi_or, bi_xor, bi_and, biw_add, biw_sub, biw_mul]; rfl
  · simp only [bi_andNot, bi_or, bi_xor, bi_and, biw_add, biw_sub, biw_mul]; rfl
theorem sub_any (a b : T) (w : World) :
    Calls Try.prog 28 #[.agg #[.int .u64 (bi a.v), .int .u64 (bi a.m)], .agg #[.int .u64 (bi b.v), .int .u64 (bi b.m)]] w fun e w' => e = .returned (.agg #[.int .u64 (bi (subT a b).v), .int .u64 (bi (subT a b).m)]) ∧ Below w.heap.size w w' := by
  have h0 := bi_bd a.v
  have h1 := bi_bd a.m
  have h2 := bi_bd b.v
  have h3 := bi_bd b.m
  go_enter Try.func28, Try.ntmps28
  go_wp2
  go_quiet (fail)
  go_wp2
  go_returns
  refine ⟨rt_t ?_ ?_, by (go_grown; refine below_drewN ?_ _; go_grown)⟩
  · simp only [bi_andNot, bi_or, bi_xor, bi_and, biw_add, biw_sub, biw_mul]; rfl
  · simp only [bi_andNot, bi_or, bi_xor, bi_and, biw_add, biw_sub, biw_mul]; rfl
theorem or_any (a b : T) (w : World) :
    Calls Try.prog 34 #[.agg #[.int .u64 (bi a.v), .int .u64 (bi a.m)], .agg #[.int .u64 (bi b.v), .int .u64 (bi b.m)]] w fun e w' => e = .returned (.agg #[.int .u64 (bi (orT a b).v), .int .u64 (bi (orT a b).m)]) ∧ Below w.heap.size w w' := by
  have h0 := bi_bd a.v
  have h1 := bi_bd a.m
  have h2 := bi_bd b.v
  have h3 := bi_bd b.m
  go_enter Try.func34, Try.ntmps34
  go_wp2
  go_returns
  refine ⟨rt_t ?_ ?_, by go_grown⟩
  · simp only [bi_andNot, bi_or, bi_xor, bi_and, biw_add, biw_sub, biw_mul]; rfl
  · simp only [bi_andNot, bi_or, bi_xor, bi_and, biw_add, biw_sub, biw_mul]; rfl
theorem xor_any (a b : T) (w : World) :
    Calls Try.prog 36 #[.agg #[.int .u64 (bi a.v), .int .u64 (bi a.m)], .agg #[.int .u64 (bi b.v), .int .u64 (bi b.m)]] w fun e w' => e = .returned (.agg #[.int .u64 (bi (xorT a b).v), .int .u64 (bi (xorT a b).m)]) ∧ Below w.heap.size w w' := by
  have h0 := bi_bd a.v
  have h1 := bi_bd a.m
  have h2 := bi_bd b.v
  have h3 := bi_bd b.m
  go_enter Try.func36, Try.ntmps36
  go_wp2
  go_returns
  refine ⟨rt_t ?_ ?_, by go_grown⟩
  · simp only [bi_andNot, bi_or, bi_xor, bi_and, biw_add, biw_sub, biw_mul]; rfl
  · simp only [bi_andNot, bi_or, bi_xor, bi_and, biw_add, biw_sub, biw_mul]; rfl
theorem of_any (v : BitVec 64) (w : World) :
    Calls Try.prog 15 #[.int .u64 (bi v)] w fun e w' => e = .returned (.agg #[.int .u64 (bi (ofT v).v), .int .u64 (bi (ofT v).m)]) ∧ Below w.heap.size w w' := by
  have h0 := bi_bd v
  go_enter Try.func15, Try.ntmps15
  go_wp2
  go_returns
  exact ⟨rt_t rfl rfl, by go_grown⟩
theorem any_any (w : World) :
    Calls Try.prog 17 #[] w fun e w' => e = .returned (.agg #[.int .u64 (bi anyT.v), .int .u64 (bi anyT.m)]) ∧ Below w.heap.size w w' := by
  go_enter Try.func17, Try.ntmps17
  go_wp2
  go_returns
  exact ⟨rt_t rfl bi_ones.symm, by go_grown⟩
theorem in_any (a : T) (v : BitVec 64) (w : World) :
    Calls Try.prog 19 #[.agg #[.int .u64 (bi a.v), .int .u64 (bi a.m)], .int .u64 (bi v)] w fun e w' => e = .returned (.bool (inT a v)) ∧ Below w.heap.size w w' := by
  have h0 := bi_bd a.v
  have h1 := bi_bd a.m
  have h2 := bi_bd v
  go_enter Try.func19, Try.ntmps19
  go_wp2
  go_returns
  refine ⟨rt_b ?_, by go_grown⟩
  simp only [bi_andNot, bi_xor, bi_eq0]
  rfl
theorem meet_dec (a b : T) : (bits BinOp.andNot IntKind.u64 (bits BinOp.xor IntKind.u64 (bi a.v) (bi b.v)) (bits BinOp.or IntKind.u64 (bi a.m) (bi b.m)) != 0) = !meetOk a b := by
  simp only [bi_andNot, bi_xor, bi_or]
  rw [bne, bi_eq0]
  rfl
theorem meet_any (a b : T) (w : World) :
    Calls Try.prog 13 #[.agg #[.int .u64 (bi a.v), .int .u64 (bi a.m)], .agg #[.int .u64 (bi b.v), .int .u64 (bi b.m)]] w fun e w' => e = .returned (.tuple #[.agg #[.int .u64 (bi (meetT a b).v), .int .u64 (bi (meetT a b).m)], .bool (meetOk a b)]) ∧ Below w.heap.size w w' := by
  have h0 := bi_bd a.v
  have h1 := bi_bd a.m
  have h2 := bi_bd b.v
  have h3 := bi_bd b.m
  go_enter Try.func13, Try.ntmps13
  go_wp2
  all_goals go_returns
  · rename_i hz
    rw [meet_dec, Bool.not_eq_true'] at hz
    rw [meet_no hz]
    exact ⟨rt_tb rfl rfl hz.symm, by go_grown⟩
  · rename_i hz
    rw [meet_dec, Bool.not_eq_false'] at hz
    rw [meet_yes hz]
    refine ⟨rt_tb ?_ ?_ hz.symm, by go_grown⟩
    · simp only [bi_andNot, bi_or, bi_xor, bi_and, biw_add, biw_sub, biw_mul]; rfl
    · simp only [bi_andNot, bi_or, bi_xor, bi_and, biw_add, biw_sub, biw_mul]; rfl
theorem mod_any (n : Int) (p : Int) (k : Nat) (hp : p = 64 ∨ p = 32) (hk : n % p = (k : Int)) (h : -9223372036854775808 ≤ n ∧ n ≤ 9223372036854775807) (w : World) :
    Calls Try.prog 53 #[.int .i64 n, .int .u64 p] w fun e w' => e = .returned (.int .u64 (k : Int)) ∧ w = w' := by
  have e : (IntKind.u64.wrap n).tmod p = (k : Int) := by
    rw [IntKind.wrap_u64, Int.tmod_eq_emod_of_nonneg (by omega)]
    rcases hp with rfl | rfl <;> omega
  have E := Lib.hid e
  have hp0 : (p == 0) = false := by rcases hp with rfl | rfl <;> rfl
  have hp1 : 0 < p := by rcases hp with rfl | rfl <;> decide
  clear hk e hp
  go_enter Try.func53, Try.ntmps53
  go_wp2
  go_returns
  exact ⟨rt_i (by first | exact E.out | (rw [← E.out, Int.tmod_eq_emod_of_nonneg (by rw [IntKind.wrap_u64]; omega)])), rfl⟩
theorem lsh_any (a : T) (n : Int) (k : Nat) (hk : n % 64 = (k : Int)) (h : -9223372036854775808 ≤ n ∧ n ≤ 9223372036854775807) (w : World) :
    Calls Try.prog 38 #[.agg #[.int .u64 (bi a.v), .int .u64 (bi a.m)], .int .i64 n] w fun e w' => e = .returned (.agg #[.int .u64 (bi (lshT a k).v), .int .u64 (bi (lshT a k).m)]) ∧ Below w.heap.size w w' := by
  have K := Lib.hid hk
  have hk1 : k ≤ 63 := by omega
  clear hk
  have h0 := bi_bd a.v
  have h1 := bi_bd a.m
  go_enter Try.func38, Try.ntmps38
  go_wp2_with (go_at_call 53; refine (mod_any n 64 k (.inl rfl) K.out h _).mono ?_; rintro e w' ⟨rfl, rfl⟩)
  go_returns
  refine ⟨rt_t ?_ ?_, by go_grown⟩
  · simp only [Int.toNat_natCast, biw_shl]; rfl
  · simp only [Int.toNat_natCast, biw_shl]; rfl
theorem rsh_any (a : T) (n : Int) (k : Nat) (hk : n % 64 = (k : Int)) (h : -9223372036854775808 ≤ n ∧ n ≤ 9223372036854775807) (w : World) :
    Calls Try.prog 40 #[.agg #[.int .u64 (bi a.v), .int .u64 (bi a.m)], .int .i64 n] w fun e w' => e = .returned (.agg #[.int .u64 (bi (rshT a k).v), .int .u64 (bi (rshT a k).m)]) ∧ Below w.heap.size w w' := by
  have K := Lib.hid hk
  have hk1 : k ≤ 63 := by omega
  clear hk
  have h0 := bi_bd a.v
  have h1 := bi_bd a.m
  go_enter Try.func40, Try.ntmps40
  go_wp2_with (go_at_call 53; refine (mod_any n 64 k (.inl rfl) K.out h _).mono ?_; rintro e w' ⟨rfl, rfl⟩)
  go_returns
  refine ⟨rt_t ?_ ?_, by go_grown⟩
  · simp only [Int.toNat_natCast, bi_shr]; rfl
  · simp only [Int.toNat_natCast, bi_shr]; rfl
theorem sdn_any (v : BitVec 64) (k : Nat) (hk : k ≤ 31) (w : World) :
    Calls Try.prog 55 #[.int .u64 (bi v), .int .u64 (k : Int)] w fun e w' => e = .returned (.int .u64 (bi (dn32 v k))) ∧ w = w' := by
  have h0 := bi_bd v
  go_enter Try.func55, Try.ntmps55
  go_wp2
  go_returns
  exact ⟨rt_i (bi_sar32 v k), rfl⟩
theorem ar_any (a : T) (n : Int) (k : Nat) (hk : n % 64 = (k : Int)) (h : -9223372036854775808 ≤ n ∧ n ≤ 9223372036854775807) (w : World) :
    Calls Try.prog 42 #[.agg #[.int .u64 (bi a.v), .int .u64 (bi a.m)], .int .i64 n, .int .i64 64] w fun e w' => e = .returned (.agg #[.int .u64 (bi (arT a k).v), .int .u64 (bi (arT a k).m)]) ∧ Below w.heap.size w w' := by
  have K := Lib.hid hk
  have hk1 : k ≤ 63 := by omega
  clear hk
  have h0 := bi_bd a.v
  have h1 := bi_bd a.m
  go_enter Try.func42, Try.ntmps42
  go_wp2_with (go_at_call 53; refine (mod_any n 64 k (.inl rfl) K.out h _).mono ?_; rintro e w' ⟨rfl, rfl⟩)
  go_returns
  refine ⟨rt_t ?_ ?_, by go_grown⟩
  · rw [IntKind.wrap_u64]; exact bi_sar _ _
  · rw [IntKind.wrap_u64]; exact bi_sar _ _
theorem arany_any (a : T) (n p : Int) (n1 : p ≠ 32) (n2 : p ≠ 64) (w : World) :
    Calls Try.prog 42 #[.agg #[.int .u64 (bi a.v), .int .u64 (bi a.m)], .int .i64 n, .int .i64 p] w fun e w' => e = .returned (.agg #[.int .u64 (bi anyT.v), .int .u64 (bi anyT.m)]) ∧ Below w.heap.size w w' := by
  have h0 := bi_bd a.v
  have h1 := bi_bd a.m
  have g1 : (p == 32) = false := by simp [n1]
  have g2 : (p == 64) = false := by simp [n2]
  go_enter Try.func42, Try.ntmps42
  go_wp2
  go_returns
  exact ⟨rt_t rfl bi_ones.symm, by go_grown⟩
def maskN (n : Int) : BitVec 64 := BitVec.ofNat 64 (2 ^ (8 * n).toNat - 1)
theorem mask_eq (n : Int) (h1 : 1 ≤ n) (h2 : n < 8) : IntKind.u64.wrap (IntKind.u64.wrap (2 ^ (8 * n).toNat) - 1) = bi (maskN n) := by
  have : n = 1 ∨ n = 2 ∨ n = 3 ∨ n = 4 ∨ n = 5 ∨ n = 6 ∨ n = 7 := by omega
  rcases this with rfl | rfl | rfl | rfl | rfl | rfl | rfl <;> decide
def cutN (a : T) (n : Int) : T := if 8 ≤ n then a else if n < 1 then ofT 0#64 else cutT a (maskN n)
theorem cut_any (a : T) (n : Int) (h : -9223372036854775808 ≤ n ∧ n ≤ 9223372036854775807) (w : World) :
    Calls Try.prog 44 #[.agg #[.int .u64 (bi a.v), .int .u64 (bi a.m)], .int .i64 n] w fun e w' => e = .returned (.agg #[.int .u64 (bi (cutN a n).v), .int .u64 (bi (cutN a n).m)]) ∧ Below w.heap.size w w' := by
  have h0 := bi_bd a.v
  have h1 := bi_bd a.m
  go_enter Try.func44, Try.ntmps44
  go_wp2
  all_goals go_returns
  all_goals unfold cutN
  · rename_i g1
    rw [if_pos g1]
    exact ⟨rfl, by go_grown⟩
  · rename_i g1 _ _ g2
    rw [if_neg (by omega), if_pos g2]
    exact ⟨rfl, by go_grown⟩
  · rename_i g1 g2
    rw [if_neg (by omega), if_neg (by omega)]
    refine ⟨rt_t ?_ ?_, by go_grown⟩
    · rw [mask_eq n g2 g1, bi_and]; rfl
    · rw [mask_eq n g2 g1, bi_and]; rfl
end Go.Proofs.Ytjjiancacokaiaa
