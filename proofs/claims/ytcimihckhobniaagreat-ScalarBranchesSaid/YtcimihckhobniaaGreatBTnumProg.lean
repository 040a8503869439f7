/-
  What the program's package tnum tells (all but Mul): contracts. Conditions: values and masks are numbers of 64 bits.
-/
import Derived.Test.YtcimihckhobniaaGreatBTnumInt
import Derived.Test.YtcimihckhobniaaGreatRows
import Derived.WalkKit
import Derived.WalkSpells
import Derived.WalkLawsBesides
import Derived.Below
import Derived.Handy
import Derived.Lib.Hide
import Derived.Deep.Light
import Derived.Laws.StructEq
import Derived.Deep.RegionHeld3
import Derived.BigQuiet
import Derived.Deep.QuietTactic
import Derived.StillTailTactics
import Derived.Test.YtcimihckhobniaaGreatBOwn
namespace Go.Proofs.YtcimihckhobniaaGreat.L3
open Go.RowKit Tn Ow
set_option linter.unusedVariables false
set_option linter.unusedSimpArgs false
theorem rt_t {a b c d : Int} (h1 : a = b) (h2 : c = d) : Ending.returned (.agg #[.int .u64 a, .int .u64 c]) = .returned (.agg #[.int .u64 b, .int .u64 d]) := by rw [h1, h2]
theorem rt_i {k : IntKind} {a b : Int} (h : a = b) : Ending.returned (.int k a) = .returned (.int k b) := by rw [h]
theorem rt_tb {a b c d : Int} {x y : Bool} (h1 : a = b) (h2 : c = d) (h3 : x = y) : Ending.returned (.tuple #[.agg #[.int .u64 a, .int .u64 c], .bool x]) = .returned (.tuple #[.agg #[.int .u64 b, .int .u64 d], .bool y]) := by rw [h1, h2, h3]
theorem rt_b {x y : Bool} (h3 : x = y) : Ending.returned (.bool x) = .returned (.bool y) := by rw [h3]
theorem tn_st : Tryz.prog.underlying 24 = some (.struct (Tryz.prog.fieldsOf 24)) := by kernel_rfl
theorem tn_in : Tryz.prog.stoodInHeld 24 = false := by kernel_rfl
theorem tn_eg : Tryz.prog.eqGuardType Tryz.prog.depth 24 = false := by kernel_rfl
theorem tn_eql0 (a0 a1 b0 b1 : Int) (w : World) : (binOp .eql 24 (.agg #[.int .u64 a0, .int .u64 a1]) (.agg #[.int .u64 b0, .int .u64 b1])).run Tryz.prog w = .ok (.bool (a0 == b0 && a1 == b1)) w := by
  rw [run_eql_struct, run_equalIn_agg _ _ _ _ _ tn_st tn_in]
  simp only [Program.fieldsOf, Tryz.underlying24]
  cases h0 : (a0 == b0) <;> cases h1 : (a1 == b1) <;> simp [go_sem, h0, h1]
theorem tn_eql (a b : T) (w : World) : (binOp .eql 24 (.agg #[.int .u64 (bi a.v), .int .u64 (bi a.m)]) (.agg #[.int .u64 (bi b.v), .int .u64 (bi b.m)])).run Tryz.prog w = .ok (.bool (sameT a b)) w := by
  rw [tn_eql0, bi_eq, bi_eq]; rfl
theorem tn_guard (op : BinOp) (a b : T) (o1 o2 : Operand) (w : World) : (eqGuard op 24 o1 o2 (.agg #[.int .u64 (bi a.v), .int .u64 (bi a.m)]) (.agg #[.int .u64 (bi b.v), .int .u64 (bi b.m)])).run Tryz.prog w = .ok () w := run_eqGuard_agg w op _ o1 o2 _ _ tn_eg
theorem below_then {B : Nat} {w w1 w2 : World} (h1 : Below B w w1) (h2 : Below w1.heap.size w1 w2) (hB : B ≤ w.heap.size) : Below B w w2 :=
  h1.trans (h2.mono (by have := h1.size; omega))
theorem tcells {w : World} {b : Nat} {x y : Int} (h : Bk w b 24 #[.int .u64 x, .int .u64 y]) : w.cell? ⟨b, 0, none⟩ = some (.int .u64 x) ∧ w.cell? ⟨b, 1, none⟩ = some (.int .u64 y) := ⟨h.cell 0, h.cell 1⟩
theorem keep1 {w0 w1 : World} {p : Addr} {v : Value} (q1 : Below w0.heap.size w0 w1) (h : w0.cell? p = some v) : w1.cell? p = some v :=
  (q1.cell (World.block_lt_of_cell? w0 _ h)).trans h
theorem set_fst {W : World} {r : Nat} {u v x : Value} (h : W.cell? ⟨r, 0, none⟩ = some x) : ((W.setCell ⟨r, 0, none⟩ u).setCell ⟨r, 1, none⟩ v).cell? ⟨r, 0, none⟩ = some u := by
  rw [World.cell?_setCell_other _ _ _ _ (fun e => by injection e with _ e2 _; omega)]
  exact World.cell?_setCell_same _ _ _ h
theorem set_snd {W : World} {r : Nat} {u v x : Value} (h : W.cell? ⟨r, 1, none⟩ = some x) : ((W.setCell ⟨r, 0, none⟩ u).setCell ⟨r, 1, none⟩ v).cell? ⟨r, 1, none⟩ = some v := by
  have e1 : (W.setCell ⟨r, 0, none⟩ u).cell? ⟨r, 1, none⟩ = W.cell? ⟨r, 1, none⟩ := World.cell?_setCell_other _ _ _ _ (fun e => by injection e with _ e2 _; omega)
  exact World.cell?_setCell_same _ _ _ (e1.trans h)
theorem join_any (a b : T) (w : World) :
    Calls Tryz.prog 69 #[.agg #[.int .u64 (bi a.v), .int .u64 (bi a.m)], .agg #[.int .u64 (bi b.v), .int .u64 (bi b.m)]] w fun e w' => e = .returned (.agg #[.int .u64 (bi (joinT a b).v), .int .u64 (bi (joinT a b).m)]) ∧ Below w.heap.size w w' := by
  have h0 := bi_bd a.v
  have h1 := bi_bd a.m
  have h2 := bi_bd b.v
  have h3 := bi_bd b.m
  go_enter Tryz.func69, Tryz.ntmps69
  go_wp2
  go_returns
  refine ⟨rt_t ?_ ?_, by go_grown⟩
  · simp only [bi_andNot, bi_or, bi_xor, bi_and, biw_add, biw_sub, biw_mul]; rfl
  · simp only [bi_andNot, bi_or, bi_xor, bi_and, biw_add, biw_sub, biw_mul]; rfl
theorem of_any (v : BitVec 64) (w : World) :
    Calls Tryz.prog 43 #[.int .u64 (bi v)] w fun e w' => e = .returned (.agg #[.int .u64 (bi (ofT v).v), .int .u64 (bi (ofT v).m)]) ∧ Below w.heap.size w w' := by
  have h0 := bi_bd v
  go_enter Tryz.func43, Tryz.ntmps43
  go_wp2
  go_returns
  exact ⟨rt_t rfl rfl, by go_grown⟩
theorem any_any (w : World) :
    Calls Tryz.prog 49 #[] w fun e w' => e = .returned (.agg #[.int .u64 (bi anyT.v), .int .u64 (bi anyT.m)]) ∧ Below w.heap.size w w' := by
  go_enter Tryz.func49, Tryz.ntmps49
  go_wp2
  go_returns
  exact ⟨rt_t rfl bi_ones.symm, by go_grown⟩
theorem in_any (a : T) (v : BitVec 64) (w : World) :
    Calls Tryz.prog 57 #[.agg #[.int .u64 (bi a.v), .int .u64 (bi a.m)], .int .u64 (bi v)] w fun e w' => e = .returned (.bool (inT a v)) ∧ Below w.heap.size w w' := by
  have h0 := bi_bd a.v
  have h1 := bi_bd a.m
  have h2 := bi_bd v
  go_enter Tryz.func57, Tryz.ntmps57
  go_wp2
  go_returns
  refine ⟨rt_b ?_, by go_grown⟩
  simp only [bi_andNot, bi_xor, bi_eq0]
  rfl
theorem meet_dec (a b : T) : (bits BinOp.andNot IntKind.u64 (bits BinOp.xor IntKind.u64 (bi a.v) (bi b.v)) (bits BinOp.or IntKind.u64 (bi a.m) (bi b.m)) != 0) = !meetOk a b := by
  simp only [bi_andNot, bi_xor, bi_or]
  rw [bne, bi_eq0]
  rfl
theorem meet_any (a b : T) (w : World) :
    Calls Tryz.prog 104 #[.agg #[.int .u64 (bi a.v), .int .u64 (bi a.m)], .agg #[.int .u64 (bi b.v), .int .u64 (bi b.m)]] w fun e w' => e = .returned (.tuple #[.agg #[.int .u64 (bi (meetT a b).v), .int .u64 (bi (meetT a b).m)], .bool (meetOk a b)]) ∧ Below w.heap.size w w' := by
  have h0 := bi_bd a.v
  have h1 := bi_bd a.m
  have h2 := bi_bd b.v
  have h3 := bi_bd b.m
  go_enter Tryz.func104, Tryz.ntmps104
  go_wp2
  all_goals go_returns
  · rename_i hz
    rw [meet_dec, Bool.not_eq_true'] at hz
    rw [meet_no hz]
    exact ⟨rt_tb rfl rfl hz.symm, by go_grown⟩
  · rename_i hz
    rw [meet_dec, Bool.not_eq_false'] at hz
    rw [meet_yes hz]
    refine ⟨rt_tb ?_ ?_ hz.symm, by go_grown⟩
    · simp only [bi_andNot, bi_or, bi_xor, bi_and, biw_add, biw_sub, biw_mul]; rfl
    · simp only [bi_andNot, bi_or, bi_xor, bi_and, biw_add, biw_sub, biw_mul]; rfl
def maskN (n : Int) : BitVec 64 := BitVec.ofNat 64 (2 ^ (8 * n).toNat - 1)
theorem mask_eq (n : Int) (h1 : 1 ≤ n) (h2 : n < 8) : IntKind.u64.wrap (IntKind.u64.wrap (2 ^ (8 * n).toNat) - 1) = bi (maskN n) := by
  have : n = 1 ∨ n = 2 ∨ n = 3 ∨ n = 4 ∨ n = 5 ∨ n = 6 ∨ n = 7 := by omega
  rcases this with rfl | rfl | rfl | rfl | rfl | rfl | rfl <;> decide
def cutN (a : T) (n : Int) : T := if 8 ≤ n then a else if n < 1 then ofT 0#64 else cutT a (maskN n)
theorem cut_any (a : T) (n : Int) (h : -9223372036854775808 ≤ n ∧ n ≤ 9223372036854775807) (w : World) :
    Calls Tryz.prog 55 #[.agg #[.int .u64 (bi a.v), .int .u64 (bi a.m)], .int .i64 n] w fun e w' => e = .returned (.agg #[.int .u64 (bi (cutN a n).v), .int .u64 (bi (cutN a n).m)]) ∧ Below w.heap.size w w' := by
  have h0 := bi_bd a.v
  have h1 := bi_bd a.m
  go_enter Tryz.func55, Tryz.ntmps55
  go_wp2
  all_goals go_returns
  all_goals unfold cutN
  · rename_i g1
    rw [if_pos g1]
    exact ⟨rfl, by go_grown⟩
  · rename_i g1 _ _ g2
    rw [if_neg (by omega), if_pos g2]
    exact ⟨rfl, by go_grown⟩
  · rename_i g1 g2
    rw [if_neg (by omega), if_neg (by omega)]
    refine ⟨rt_t ?_ ?_, by go_grown⟩
    · rw [mask_eq n g2 g1, bi_and]; rfl
    · rw [mask_eq n g2 g1, bi_and]; rfl
end Go.Proofs.YtcimihckhobniaaGreat.L3
