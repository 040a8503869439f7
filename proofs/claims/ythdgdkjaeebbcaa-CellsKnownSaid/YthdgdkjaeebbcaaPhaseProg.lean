/-
  What the program's package phase tells: contracts. Conditions: parts of the arrows of 302 at most.
-/
import Derived.Test.YthdgdkjaeebbcaaPhaseMath
import Derived.Test.YthdgdkjaeebbcaaOwn
import Derived.Test.YthdgdkjaeebbcaaBrief
import Derived.Test.YthdgdkjaeebbcaaRows
import Derived.WalkKit
import Derived.WalkSpells
import Derived.WalkLawsBesides
import Derived.Below
import Derived.Handy
import Derived.Lib.Hide
import Derived.Deep.Light
import Derived.Laws.StructEq
import Derived.Laws.Externs
import Derived.Deep.RegionHeld3
import Derived.BigQuiet
import Derived.Deep.QuietTactic
import Derived.StillTailTactics
namespace Go.Proofs.Ythdgdkjaeebbcaa
set_option maxRecDepth 100000
open Go.RowKit Ow Ph
set_option linter.unusedVariables false
set_option linter.unusedSimpArgs false
theorem rt_i {k : IntKind} {a b : Int} (h : a = b) : Ending.returned (.int k a) = .returned (.int k b) := by rw [h]
theorem rt_b {x y : Bool} (h3 : x = y) : Ending.returned (.bool x) = .returned (.bool y) := by rw [h3]
theorem run_store_complex (P : Program) (w : World) (a : Addr) (m : Mode) (k : FloatKind) (x y : Nat) : (store a (.complex k x y) m).run P w = stored P w a (.complex k x y) m := run_store P w a _ m rfl
attribute [local go_sem] run_store_complex
/-- A beat: its complex number's parts, how often it was written, when last. -/
structure Bt where
  x : Int
  y : Int
  n : Nat
  t : Int
noncomputable def Bt.val (b : Bt) : Value := .agg #[.complex .f64 (fl b.x) (fl b.y), .int .i64 b.n, .int .i64 b.t]
def ar (t : Int) : Int := if t % 4 = 0 then 1 else if t % 4 = 2 then -1 else 0
def ai (t : Int) : Int := if t % 4 = 1 then 1 else if t % 4 = 3 then -1 else 0
def wrB (b : Bt) (t : Int) : Bt := ⟨b.x + ar t, b.y + ai t, b.n + 1, t⟩
def newB : Bt := ⟨0, 0, 0, 0⟩
def swB (b : Bt) : Nat := b.x.natAbs + b.y.natAbs
def i64 (t : Int) : Prop := -9223372036854775808 ≤ t ∧ t ≤ 9223372036854775807
theorem and3 (t : Int) : bits .and .i64 t 3 = t % 4 := by
  have h : bits .and .i64 t 3 = IntKind.i64.wrap ((BitVec.ofInt 64 t &&& BitVec.ofInt 64 3).toNat : Int) := rfl
  rw [h, BitVec.toNat_and, show (BitVec.ofInt 64 3).toNat = 2 ^ 2 - 1 from rfl, Nat.and_two_pow_sub_one_eq_mod, IntKind.wrap_i64, BitVec.toNat_ofInt]
  omega
theorem f64b (b : Nat) (w : World) : (callFunc 76 #[.float .f64 b]).run Try.prog w = .ok (.value (.int .u64 b)) w := by
  rw [run_callFunc_extern (P := Try.prog) (f := 76) (fn := Try.f76) (e := Extern.MathFloatBits.float64bits) Try.func76 (by kernel_rfl) (by kernel_rfl) (by kernel_rfl) (by kernel_rfl)]
  rfl
theorem f64f (n : Nat) (w : World) : (callFunc 75 #[.int .u64 (n : Int)]).run Try.prog w = .ok (.value (.float .f64 n)) w := by
  rw [run_callFunc_extern (P := Try.prog) (f := 75) (fn := Try.f75) (e := Extern.MathFloatBits.float64frombits) Try.func75 (by kernel_rfl) (by kernel_rfl) (by kernel_rfl) (by kernel_rfl)]
  rfl
theorem abs_any (a : Int) (ha : a.natAbs ≤ 304) (w : World) :
    Calls Try.prog 73 #[.float .f64 (fl a)] w fun e w' => e = .returned (.float .f64 (fl (a.natAbs : Nat))) ∧ w = w' := by
  have h1 := fun b => f64b b
  have h2 := fl_is.abs a ha
  have h3 := f64f (fl (a.natAbs : Nat))
  generalize fl a = A at *
  generalize fl (a.natAbs : Nat) = B at *
  go_enter Try.func73, Try.ntmps73
  go_wp2
  go_ret
  exact ⟨rfl, rfl⟩
theorem arrow_any (t : Int) (w : World) :
    Calls Try.prog 68 #[.int .i64 t] w fun e w' => e = .returned (.complex .f64 (fl (ar t)) (fl (ai t))) ∧ w = w' := by
  have h1 := and3 t
  have hz := fl_is.zero
  have ho := fl_is.one
  have hm := fl_is.minus
  rcases (by omega : t % 4 = 0 ∨ t % 4 = 1 ∨ t % 4 = 2 ∨ t % 4 = 3) with h | h | h | h
  all_goals
    unfold ar ai
    rw [h] at h1
    simp only [h, Int.reduceEq, if_true, if_false, hz, ho, hm]
    go_enter Try.func68, Try.ntmps68
    go_wp2
    go_ret
    exact ⟨rfl, rfl⟩
theorem new_any (w : World) :
    Calls Try.prog 55 #[] w fun e w' => e = .returned newB.val ∧ Below w.heap.size w w' := by
  have e : newB.val = .agg #[.complex .f64 0 0, .int .i64 0, .int .i64 0] := by unfold newB Bt.val; dsimp only; rw [fl_is.zero]; rfl
  rw [e]
  clear e
  go_enter Try.func55, Try.ntmps55
  go_wp2
  go_returns
  exact ⟨rfl, by go_grown⟩
theorem writes_any (b : Bt) (w : World) :
    Calls Try.prog 54 #[b.val] w fun e w' => e = .returned (.int .i64 b.n) ∧ Below w.heap.size w w' := by
  obtain ⟨x, y, n, t⟩ := b
  unfold Bt.val
  dsimp only
  go_enter Try.func54, Try.ntmps54
  go_wp2
  go_returns
  exact ⟨rfl, by go_grown⟩
theorem behind_any (a b : Int) (ha : i64 a) (hb : i64 b) (w : World) :
    Calls Try.prog 70 #[.int .i64 a, .int .i64 b] w fun e w' => e = .returned (.int .u64 ((b - a) % 18446744073709551616)) ∧ w = w' := by
  obtain ⟨a1, a2⟩ := ha
  obtain ⟨b1, b2⟩ := hb
  go_enter Try.func70, Try.ntmps70
  go_wp2
  go_ret
  exact ⟨rt_i (by rw [IntKind.wrap_u64, IntKind.wrap_u64, IntKind.wrap_u64]; omega), rfl⟩
theorem sway_any (b : Bt) (hx : b.x.natAbs + b.y.natAbs < 304) (w : World) :
    Calls Try.prog 71 #[b.val] w fun e w' => e = .returned (.int .i64 (swB b : Nat)) ∧ Below w.heap.size w w' := by
  obtain ⟨x, y, n, t⟩ := b
  unfold Bt.val swB
  dsimp only at hx ⊢
  have h1 := fl_is.add _ _ hx
  have h2 := fl_is.int _ hx
  have c1 := fun w => abs_any x (by omega) w
  have c2 := fun w => abs_any y (by omega) w
  have h3 := fun (w : World) (t : TypeId) => run_float_arith (P := Try.prog) w .add t .f64 _ _ _ h1
  have h4 := fun (w : World) => run_convert_float_int (P := Try.prog) w 95 3 .f64 .i64 _ _ (by kernel_rfl) (by kernel_rfl) h2
  clear h1 h2
  generalize x.natAbs = X at *
  generalize y.natAbs = Y at *
  generalize fl x = A at *
  generalize fl y = B at *
  generalize fl (X : Nat) = A' at *
  generalize fl (Y : Nat) = B' at *
  generalize fl ((X + Y : Nat) : Int) = C at *
  go_enter Try.func71, Try.ntmps71
  go_wp2_with fail
  have K0 := Lib.hid (Bk.new w 80 #[.complex .f64 A B, .int .i64 n, .int .i64 t])
  have B0 : Hid (Below w.heap.size w (w.alloc (.cells #[.complex .f64 A B, .int .i64 n, .int .i64 t] 80))) := Lib.hid (by go_grown)
  generalize (w.alloc (.cells #[.complex .f64 A B, .int .i64 n, .int .i64 t] 80)) = w0 at *
  have c0 := K0.out.cell 0
  simp only [List.getElem?_toArray, List.getElem?_cons_zero] at c0
  go_region_held3 (fun w' => w'.cell? ⟨w.heap.size, 0, none⟩ = some (.complex .f64 A B) ∧ Below w.heap.size w w')
    (first | exact ⟨c0, B0.out.drew⟩ | assumption | exact ⟨by assumption, by assumption⟩)
    (first | (go_at_call 73; with_reducible refine (c1 _).mono ?_; rintro e w2 ⟨rfl, rfl⟩) | (go_at_call 73; with_reducible refine (c2 _).mono ?_; rintro e w2 ⟨rfl, rfl⟩))
  all_goals
    rename_i hH
    have BB := Lib.hid hH.2
    clear hH
    go_wp2
    go_returns
    exact ⟨rt_i (by push_cast; rfl), BB.out⟩
theorem arr1 (t : Int) : (ar t).natAbs ≤ 1 ∧ (ai t).natAbs ≤ 1 ∧ (ar t).natAbs + (ai t).natAbs = 1 := by
  unfold ar ai
  refine ⟨?_, ?_, ?_⟩ <;> split <;> (try split) <;> first | decide | omega
/-- Whatever a cell holds. -/
def cv (w : World) (r i : Nat) : Value := (w.cell? ⟨r, i, none⟩).getD (.bool false)
theorem cv_some {w : World} {r i : Nat} {v : Value} (h : w.cell? ⟨r, i, none⟩ = some v) : w.cell? ⟨r, i, none⟩ = some (cv w r i) := by unfold cv; rw [h]; rfl
theorem far3 {W : World} {r b i : Nat} {u v x : Value} (h : b ≠ r) : (((W.setCell ⟨r, 0, none⟩ u).setCell ⟨r, 1, none⟩ v).setCell ⟨r, 2, none⟩ x).cell? ⟨b, i, none⟩ = W.cell? ⟨b, i, none⟩ := by
  rw [World.cell?_setCell_other _ _ _ _ (fun e => h (congrArg Addr.block e).symm), World.cell?_setCell_other _ _ _ _ (fun e => h (congrArg Addr.block e).symm), World.cell?_setCell_other _ _ _ _ (fun e => h (congrArg Addr.block e).symm)]
theorem set3_2 {W : World} {r : Nat} {u v x y : Value} (h : W.cell? ⟨r, 2, none⟩ = some y) : (((W.setCell ⟨r, 0, none⟩ u).setCell ⟨r, 1, none⟩ v).setCell ⟨r, 2, none⟩ x).cell? ⟨r, 2, none⟩ = some x := by
  refine World.cell?_setCell_same _ _ _ (?_ : _ = some y)
  rw [World.cell?_setCell_other _ _ _ _ (fun e => by injection e with _ e2 _; omega), World.cell?_setCell_other _ _ _ _ (fun e => by injection e with _ e2 _; omega), h]
theorem set3_1 {W : World} {r : Nat} {u v x y : Value} (h : W.cell? ⟨r, 1, none⟩ = some y) : (((W.setCell ⟨r, 0, none⟩ u).setCell ⟨r, 1, none⟩ v).setCell ⟨r, 2, none⟩ x).cell? ⟨r, 1, none⟩ = some v := by
  rw [World.cell?_setCell_other _ _ _ _ (fun e => by injection e with _ e2 _; omega)]
  refine World.cell?_setCell_same _ _ _ (?_ : _ = some y)
  rw [World.cell?_setCell_other _ _ _ _ (fun e => by injection e with _ e2 _; omega), h]
theorem set3_0 {W : World} {r : Nat} {u v x y : Value} (h : W.cell? ⟨r, 0, none⟩ = some y) : (((W.setCell ⟨r, 0, none⟩ u).setCell ⟨r, 1, none⟩ v).setCell ⟨r, 2, none⟩ x).cell? ⟨r, 0, none⟩ = some u := by
  rw [World.cell?_setCell_other _ _ _ _ (fun e => by injection e with _ e2 _; omega), World.cell?_setCell_other _ _ _ _ (fun e => by injection e with _ e2 _; omega)]
  exact World.cell?_setCell_same _ _ _ h
theorem below_set3 {B : Nat} {w W : World} {r : Nat} (h : Below B w W) (hB : B ≤ r) (u v x : Value) : Below B w (((W.setCell ⟨r, 0, none⟩ u).setCell ⟨r, 1, none⟩ v).setCell ⟨r, 2, none⟩ x) :=
  ((h.setCell (p := ⟨r, 0, none⟩) hB _).setCell (p := ⟨r, 1, none⟩) hB _).setCell (p := ⟨r, 2, none⟩) hB _
theorem write_any (b : Bt) (t : Int) (hx : b.x.natAbs ≤ 303) (hy : b.y.natAbs ≤ 303) (hn : b.n ≤ 1000) (ht : i64 t) (w : World) :
    Calls Try.prog 57 #[b.val, .int .i64 t] w fun e w' => e = .returned (wrB b t).val ∧ Below w.heap.size w w' := by
  obtain ⟨t1, t2⟩ := ht
  obtain ⟨x, y, n, l⟩ := b
  have c1 := fun w => arrow_any t w
  have ⟨r1, r2, _⟩ := arr1 t
  unfold Bt.val wrB
  dsimp only at hx hy hn ⊢
  have s1 := fl_is.step _ _ hx r1
  have s2 := fl_is.step _ _ hy r2
  have s3 : cSumBits .add .f64 (fl x) (fl y) (fl (ar t)) (fl (ai t)) = some (fl (x + ar t), fl (y + ai t)) := by
    unfold cSumBits floatBits; dsimp only; rw [s1, s2]; rfl
  have h3 := fun (w : World) (t : TypeId) => run_complex_sum (P := Try.prog) w .add (.inl rfl) t .f64 _ _ _ _ _ _ s3
  clear s1 s2 s3 r1 r2
  generalize fl (x + ar t) = X' at *
  generalize fl (y + ai t) = Y' at *
  generalize fl x = X at *
  generalize fl y = Y at *
  generalize fl (ar t) = A at *
  generalize fl (ai t) = B at *
  go_enter Try.func57, Try.ntmps57
  go_wp2_with fail
  have K0 := Lib.hid ((Bk.new w 80 #[.complex .f64 X Y, .int .i64 n, .int .i64 l]).alloc (.cells #[.complex .f64 0 0, .int .i64 0, .int .i64 0] 80))
  have K1 := Lib.hid (Bk.new (w.alloc (.cells #[.complex .f64 X Y, .int .i64 n, .int .i64 l] 80)) 80 #[.complex .f64 0 0, .int .i64 0, .int .i64 0])
  have B0 : Hid (Below w.heap.size w ((w.alloc (.cells #[.complex .f64 X Y, .int .i64 n, .int .i64 l] 80)).alloc (.cells #[.complex .f64 0 0, .int .i64 0, .int .i64 0] 80))) := Lib.hid (by go_grown)
  generalize ((w.alloc (.cells #[.complex .f64 X Y, .int .i64 n, .int .i64 l] 80)).alloc (.cells #[.complex .f64 0 0, .int .i64 0, .int .i64 0] 80)) = w0 at *
  rw [show (w.alloc (.cells #[.complex .f64 X Y, .int .i64 n, .int .i64 l] 80)).heap.size = w.heap.size + 1 by simp] at K1
  have k0 := K0.out.cell 0
  have k1 := K0.out.cell 1
  simp only [List.getElem?_toArray, List.getElem?_cons_zero, List.getElem?_cons_succ] at k0 k1
  refine wp_region_held_drew (S := fun w' => w'.cell? ⟨w.heap.size, 0, none⟩ = some (.complex .f64 X Y) ∧ w'.cell? ⟨w.heap.size, 1, none⟩ = some (.int .i64 n)) (by kernel_rfl) ⟨k0, k1⟩ (fun g => ?_)
  clear k0 k1
  have r0 := K1.out.drew.cell 0
  have r1 := K1.out.drew.cell 1
  have r2 := K1.out.drew.cell 2
  have q0 := K1.out.drew.frozen 0
  have q1 := K1.out.drew.frozen 1
  have q2 := K1.out.drew.frozen 2
  simp only [List.getElem?_toArray, List.getElem?_cons_zero, List.getElem?_cons_succ] at r0 r1 r2
  have B1 := Lib.hid B0.out.drew
  clear K0 K1 B0
  generalize w0.drew = z at *
  refine tq 0 ?_ rfl (by kernel_rfl) (fun _ _ _ h => h) (by rfl) g ?_ ?_; rotate_left
  · intro w9 h9; obtain ⟨d0, d1⟩ := h9; go_simp; try with_reducible rfl
  simp only [Act.put, ptA, ptB, ptC]
  refine tq 1 ?_ rfl (by kernel_rfl) (fun _ _ _ h => h) (by rfl) g ?_ ?_; rotate_left
  · intro w9 h9; obtain ⟨d0, d1⟩ := h9; go_simp; try with_reducible rfl
  simp only [Act.put, ptA, ptB, ptC]
  refine tq 2 ?_ rfl (by kernel_rfl) (fun _ _ _ h => h) (by rfl) g ?_ ?_; rotate_left
  · intro w9 h9; obtain ⟨d0, d1⟩ := h9; go_simp; try with_reducible rfl
  simp only [Act.put, ptA, ptB, ptC]
  refine tq 5 ?_ rfl (by kernel_rfl) (fun _ _ _ h => h) (by rfl) g ?_ ?_; rotate_left
  · intro w9 h9; obtain ⟨d0, d1⟩ := h9; go_simp; try with_reducible rfl
  simp only [Act.put, ptA, ptB, ptC]
  refine tq 6 ?_ rfl (by kernel_rfl) (fun _ _ _ h => h) (by rfl) g ?_ ?_; rotate_left
  · intro w9 h9; obtain ⟨d0, d1⟩ := h9; go_simp; try with_reducible rfl
  simp only [Act.put, ptA, ptB, ptC]
  refine tq 7 ?_ rfl (by kernel_rfl) (fun _ _ _ h => h) (by rfl) g ?_ ?_; rotate_left
  · intro w9 h9; obtain ⟨d0, d1⟩ := h9; go_simp; try with_reducible rfl
  simp only [Act.put, ptA, ptB, ptC]
  refine tq 8 ?_ rfl (by kernel_rfl) (fun _ _ _ h => h) (by rfl) g ?_ ?_; rotate_left
  · intro w9 h9; obtain ⟨d0, d1⟩ := h9; go_simp; try with_reducible rfl
  simp only [Act.put, ptA, ptB, ptC]
  refine tc 3 rfl (by kernel_rfl) (fun K9 hK => ?_)
  go_simp
  refine (c1 _).mono ?_
  rintro e w2 ⟨rfl, rfl⟩
  go_simp
  refine hK.out _ _ g (fun g1 => ?_)
  clear hK K9 g
  have g := g1
  clear g1
  refine tq 4 ?_ rfl (by kernel_rfl) (fun _ _ _ h => h) (by rfl) g ?_ ?_; rotate_left
  · intro w9 h9; obtain ⟨d0, d1⟩ := h9; go_simp; try with_reducible rfl
  simp only [Act.put, ptA, ptB, ptC]
  refine tq 9 ?_ rfl (by kernel_rfl) (fun _ _ _ h => h) (by rfl) g ?_ ?_; rotate_left
  · intro w9 h9; obtain ⟨d0, d1⟩ := h9; go_simp; try with_reducible rfl
  simp only [Act.put, ptA, ptB, ptC]
  refine tc 10 rfl (by kernel_rfl) (fun K9 hK => ?_)
  go_simp
  refine hK.out _ _ ⟨(far3 (by omega)).trans g.1, (far3 (by omega)).trans g.2⟩ (fun g1 => ?_)
  clear hK K9 g
  have g := g1
  clear g1
  clear g
  refine wpAnyH_done (by kernel_rfl) ?_ _
  have B2 := Lib.hid (below_set3 B1.out (show w.heap.size ≤ w.heap.size + 1 by omega) (Value.complex .f64 X' Y') (Value.int .i64 (IntKind.i64.wrap ((n : Int) + 1))) (Value.int .i64 t))
  have R0 := set3_0 (u := Value.complex .f64 X' Y') (v := Value.int .i64 (IntKind.i64.wrap ((n : Int) + 1))) (x := Value.int .i64 t) r0
  have R1 := set3_1 (u := Value.complex .f64 X' Y') (v := Value.int .i64 (IntKind.i64.wrap ((n : Int) + 1))) (x := Value.int .i64 t) r1
  have R2 := set3_2 (u := Value.complex .f64 X' Y') (v := Value.int .i64 (IntKind.i64.wrap ((n : Int) + 1))) (x := Value.int .i64 t) r2
  have hw : IntKind.i64.wrap ((n : Int) + 1) = ((n + 1 : Nat) : Int) := by rw [IntKind.wrap_i64]; omega
  generalize (((z.setCell ⟨w.heap.size + 1, 0, none⟩ (Value.complex .f64 X' Y')).setCell ⟨w.heap.size + 1, 1, none⟩ (Value.int .i64 (IntKind.i64.wrap ((n : Int) + 1)))).setCell ⟨w.heap.size + 1, 2, none⟩ (Value.int .i64 t)) = z2 at *
  rw [hw] at R1
  clear hw q0 q1 q2 r0 r1 r2
  go_wp2_with fail
  refine bodyPost_ret (by simp [results, Try.results57, R0, R1, R2, go_sem]; try rfl) rfl ?_
  exact ⟨rfl, B2.out⟩
end Go.Proofs.Ythdgdkjaeebbcaa
