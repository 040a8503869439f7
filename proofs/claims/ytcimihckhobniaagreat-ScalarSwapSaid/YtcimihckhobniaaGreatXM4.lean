/-
  Texts of layer 5 and of those below it, put together: contracts and plain mathematics that ScalarSwap needs.
-/
import Derived.Test.YtcimihckhobniaaGreatXM3
import Derived.Test.YtcimihckhobniaaGreatXM0
import Derived.Test.YtcimihckhobniaaGreatRows
import Derived.WalkKit
import Derived.WalkSpells
import Derived.WalkLawsBesides
import Derived.Below
import Derived.Handy
import Derived.Lib.Hide
import Derived.Deep.Light
import Derived.Laws.StructEq
import Derived.Deep.RegionHeld3
import Derived.BigQuiet
import Derived.Deep.QuietTactic
import Derived.StillTailTactics
import Derived.Test.YtcimihckhobniaaGreatXM2
namespace Go.Proofs.YtcimihckhobniaaGreat
open Go.RowKit Tn Ow Sp
set_option linter.unusedVariables false
set_option linter.unusedSimpArgs false
theorem len_to2 (x : Int) (n : Nat) (h0 : 0 ≤ x) (h1 : x ≤ 18446744073709551615) (hn : ln x.toNat = n) (w : World) :
    Calls Tryz.prog 170 #[.int .u64 x] w fun e w' => e = .returned (.int .i64 (n : Int)) ∧ w = w' := by
  subst hn
  exact len_any x h0 h1 w
theorem tos_any (a : E) (ha : okU a) (w : World) :
    Calls Tryz.prog 103 #[.agg #[.int .u64 a.lo, .int .u64 a.hi]] w fun e w' => e = .returned (.agg #[.int .i64 (toS a).lo, .int .i64 (toS a).hi]) ∧ Below w.heap.size w w' := by
  obtain ⟨a0, a1, a2⟩ := ha
  by_cases h : (a.lo < 9223372036854775808 ↔ a.hi < 9223372036854775808)
  · have e1 := Lib.hid (show toS a = ⟨sg a.lo, sg a.hi⟩ by unfold toS; rw [if_pos h])
    rw [e1.out]
    have d1 : (bits .and .u64 (bits .xor .u64 a.lo a.hi) 9223372036854775808 != 0) = false := by rw [(hi_xor a.lo a.hi a0 (by omega) (by omega) a2).2 h]; rfl
    have A1 := Lib.hid (sg_wrap a.lo a0 (by omega))
    have A2 := Lib.hid (sg_wrap a.hi (by omega) a2)
    clear h
    go_enter Tryz.func103, Tryz.ntmps103
    go_wp2
    go_returns
    exact ⟨rt_u A1.out A2.out, by go_grown⟩
  · have e1 := Lib.hid (show toS a = sAll by unfold toS; rw [if_neg h])
    rw [e1.out]
    have d1 : (bits .and .u64 (bits .xor .u64 a.lo a.hi) 9223372036854775808 != 0) = true := by
      have g : ¬ bits .and .u64 (bits .xor .u64 a.lo a.hi) 9223372036854775808 = 0 := fun g => h ((hi_xor a.lo a.hi a0 (by omega) (by omega) a2).1 g)
      simp [g]
    clear h
    go_enter Tryz.func103, Tryz.ntmps103
    go_wp2_with fail
    have K0 := ((Bk.new w 26 #[.int .u64 a.lo, .int .u64 a.hi]).alloc (.cells #[.int .i64 0, .int .i64 0] 28))
    have K1 := (Bk.new (w.alloc (.cells #[.int .u64 a.lo, .int .u64 a.hi] 26)) 28 #[.int .i64 0, .int .i64 0])
    rw [World.size_alloc] at K1
    have B0 : Below w.heap.size w ((w.alloc (.cells #[.int .u64 a.lo, .int .u64 a.hi] 26)).alloc (.cells #[.int .i64 0, .int .i64 0] 28)) := by go_grown
    generalize ((w.alloc (.cells #[.int .u64 a.lo, .int .u64 a.hi] 26)).alloc (.cells #[.int .i64 0, .int .i64 0] 28)) = w0 at *
    have H0 := Lib.hid K0
    obtain ⟨c00, c01⟩ := tcells K0
    have H1 := Lib.hid K1
    obtain ⟨c10, c11⟩ := tcells K1
    have f0 := K1.frozen 0
    have f1 := K1.frozen 1
    have HB := Lib.hid B0
    clear K0 K1 B0
    with_reducible refine (sall_any _).mono ?_
    rintro e w1 ⟨rfl, qb⟩
    replace f0 := keepf qb (World.block_lt_of_cell? _ _ c10) f0
    replace f1 := keepf qb (World.block_lt_of_cell? _ _ c11) f1
    replace c00 := keep1 qb c00
    replace c01 := keep1 qb c01
    replace c10 := keep1 qb c10
    replace c11 := keep1 qb c11
    replace H0 := Lib.hid (H0.out.below qb H0.out.lt)
    replace H1 := Lib.hid (H1.out.below qb H1.out.lt)
    replace HB := Lib.hid (below_then HB.out qb (Nat.le_refl _))
    clear qb
    go_wp2_with fail
    have r0 : ∀ u v, ((w1.setCell ⟨w.heap.size + 1, 0, none⟩ u).setCell ⟨w.heap.size + 1, 1, none⟩ v).cell? ⟨w.heap.size + 1, 0, none⟩ = some u := fun u v => set_fst c10
    have r1 : ∀ u v, ((w1.setCell ⟨w.heap.size + 1, 0, none⟩ u).setCell ⟨w.heap.size + 1, 1, none⟩ v).cell? ⟨w.heap.size + 1, 1, none⟩ = some v := fun u v => set_snd c11
    refine bodyPost_ret (by simp [results, Tryz.results103, r0, r1, go_sem]; try rfl) rfl ?_
    exact ⟨rt_u rfl rfl, (below_st2 HB.out (by omega))⟩
theorem tou_any (a : E) (ha : okS a) (w : World) :
    Calls Tryz.prog 101 #[.agg #[.int .i64 a.lo, .int .i64 a.hi]] w fun e w' => e = .returned (.agg #[.int .u64 (toU a).lo, .int .u64 (toU a).hi]) ∧ Below w.heap.size w w' := by
  obtain ⟨a0, a1, a2⟩ := ha
  by_cases h : a.lo < 0 ∧ 0 ≤ a.hi
  · have e1 := Lib.hid (show toU a = uAll by unfold toU; rw [if_pos h])
    rw [e1.out]
    have p1 : decide (a.lo < 0) = true := decide_eq_true h.1
    have p2 : decide (a.hi < 0) = false := decide_eq_false (by omega)
    clear h
    go_enter Tryz.func101, Tryz.ntmps101
    go_wp2_with fail
    have K0 := ((Bk.new w 28 #[.int .i64 a.lo, .int .i64 a.hi]).alloc (.cells #[.int .u64 0, .int .u64 0] 26))
    have K1 := (Bk.new (w.alloc (.cells #[.int .i64 a.lo, .int .i64 a.hi] 28)) 26 #[.int .u64 0, .int .u64 0])
    rw [World.size_alloc] at K1
    have B0 : Below w.heap.size w ((w.alloc (.cells #[.int .i64 a.lo, .int .i64 a.hi] 28)).alloc (.cells #[.int .u64 0, .int .u64 0] 26)) := by go_grown
    generalize ((w.alloc (.cells #[.int .i64 a.lo, .int .i64 a.hi] 28)).alloc (.cells #[.int .u64 0, .int .u64 0] 26)) = w0 at *
    have H0 := Lib.hid K0
    obtain ⟨c00, c01⟩ := tcells K0
    have H1 := Lib.hid K1
    obtain ⟨c10, c11⟩ := tcells K1
    have f0 := K1.frozen 0
    have f1 := K1.frozen 1
    have HB := Lib.hid B0
    clear K0 K1 B0
    with_reducible refine (uall_any _).mono ?_
    rintro e w1 ⟨rfl, qb⟩
    replace f0 := keepf qb (World.block_lt_of_cell? _ _ c10) f0
    replace f1 := keepf qb (World.block_lt_of_cell? _ _ c11) f1
    replace c00 := keep1 qb c00
    replace c01 := keep1 qb c01
    replace c10 := keep1 qb c10
    replace c11 := keep1 qb c11
    replace H0 := Lib.hid (H0.out.below qb H0.out.lt)
    replace H1 := Lib.hid (H1.out.below qb H1.out.lt)
    replace HB := Lib.hid (below_then HB.out qb (Nat.le_refl _))
    clear qb
    go_wp2_with fail
    have r0 : ∀ u v, ((w1.setCell ⟨w.heap.size + 1, 0, none⟩ u).setCell ⟨w.heap.size + 1, 1, none⟩ v).cell? ⟨w.heap.size + 1, 0, none⟩ = some u := fun u v => set_fst c10
    have r1 : ∀ u v, ((w1.setCell ⟨w.heap.size + 1, 0, none⟩ u).setCell ⟨w.heap.size + 1, 1, none⟩ v).cell? ⟨w.heap.size + 1, 1, none⟩ = some v := fun u v => set_snd c11
    refine bodyPost_ret (by simp [results, Tryz.results101, r0, r1, go_sem]; try rfl) rfl ?_
    exact ⟨rt_u rfl rfl, (below_st2 HB.out (by omega))⟩
  · have e1 := Lib.hid (show toU a = ⟨us a.lo, us a.hi⟩ by unfold toU; rw [if_neg h])
    rw [e1.out]
    have A1 := Lib.hid (us_wrap a.lo a0 (by omega))
    have A2 := Lib.hid (us_wrap a.hi (by omega) a2)
    by_cases g : a.hi < 0
    · have p1 : decide (a.lo < 0) = true := decide_eq_true (by omega)
      have p2 : decide (a.hi < 0) = true := decide_eq_true (by omega)
      clear h
      go_enter Tryz.func101, Tryz.ntmps101
      go_wp2
      go_returns
      exact ⟨rt_u A1.out A2.out, by go_grown⟩
    · have p1 : decide (a.lo < 0) = false := decide_eq_false (by omega)
      have p2 : decide (a.hi < 0) = false := decide_eq_false (by omega)
      clear h
      go_enter Tryz.func101, Tryz.ntmps101
      go_wp2
      go_returns
      exact ⟨rt_u A1.out (show _ = us a.hi by unfold us; split <;> omega), by go_grown⟩
theorem tot_any (a : E) (ha : okU a) (w : World) :
    Calls Tryz.prog 105 #[.agg #[.int .u64 a.lo, .int .u64 a.hi]] w fun e w' => e = .returned (.agg #[.int .u64 (bi (toT a).v), .int .u64 (bi (toT a).m)]) ∧ Below w.heap.size w w' := by
  have T1 := Lib.hid (toT_v ha)
  have T2 := Lib.hid (toT_m ha)
  have D := dif_le ha
  obtain ⟨a0, a1, a2⟩ := ha
  have q0 : bits .xor .u64 a.lo a.hi = xorI a.lo a.hi := bits_xor _ _ (by omega) (by omega) (by omega) (by omega)
  have q1 := xorI_bd a.lo a.hi (by omega) a2
  have EN := Lib.hid (show ln (xorI a.lo a.hi).toNat = dif a from rfl)
  rw [T1.out, T2.out]
  obtain ⟨k, hk⟩ : ∃ k, dif a = k := ⟨_, rfl⟩
  rw [hk] at EN D ⊢
  have B := Lib.hid (bits_low a.lo k D a0 (by omega))
  clear hk T1 T2
  go_enter Tryz.func105, Tryz.ntmps105
  go_wp2_with fail
  refine (len_to2 _ k q1.1 q1.2 EN.out _).mono ?_
  rintro e w' ⟨rfl, rfl⟩
  go_wp2_with fail
  refine (ones_any k D _).mono ?_
  rintro e w' ⟨rfl, rfl⟩
  go_wp2
  go_returns
  exact ⟨rt_u B.out rfl, by go_grown⟩
theorem rt_us {a b c d p q r s : Int} (h1 : a = b) (h2 : c = d) (h3 : p = q) (h4 : r = s) : Ending.returned (.tuple #[.agg #[.int .u64 a, .int .u64 c], .agg #[.int .i64 p, .int .i64 r]]) = .returned (.tuple #[.agg #[.int .u64 b, .int .u64 d], .agg #[.int .i64 q, .int .i64 s]]) := by rw [h1, h2, h3, h4]
theorem bi_hib : bi hib = 9223372036854775808 := rfl
theorem fromt_any (t : T) (w : World) :
    Calls Tryz.prog 56 #[.agg #[.int .u64 (bi t.v), .int .u64 (bi t.m)]] w fun e w' => e = .returned (.tuple #[.agg #[.int .u64 (fromU t).lo, .int .u64 (fromU t).hi], .agg #[.int .i64 (fromS t).lo, .int .i64 (fromS t).hi]]) ∧ Below w.heap.size w w' := by
  have h0 := bi_bd t.v
  have h1 := bi_bd t.m
  have h2 := bi_bd (t.v + t.m)
  have h3 := bi_bd (t.v ||| hib)
  have h4 := bi_bd ((t.v + t.m) &&& ~~~hib)
  have q0 : IntKind.u64.wrap (bi t.v + bi t.m) = bi (t.v + t.m) := biw_add _ _
  have q1 : bits .or .u64 (bi t.v) 9223372036854775808 = bi (t.v ||| hib) := by rw [← bi_hib]; exact bi_or _ _
  have q2 : bits .andNot .u64 (bi (t.v + t.m)) 9223372036854775808 = bi ((t.v + t.m) &&& ~~~hib) := by rw [← bi_hib]; exact bi_andNot _ _
  by_cases h : bi t.m < 9223372036854775808
  · have e1 := Lib.hid (show fromS t = ⟨sg (bi t.v), sg (bi (t.v + t.m))⟩ by unfold fromS; rw [if_pos h])
    rw [e1.out]
    have d1 : (bits .and .u64 (bi t.m) 9223372036854775808 == 0) = true := by rw [(hi_and _ h1.1 h1.2).2 h]; rfl
    go_enter Tryz.func56, Tryz.ntmps56
    go_wp2_with fail
    go_region
    all_goals go_wp2
    all_goals go_returns
    all_goals exact ⟨rt_us rfl rfl (sg_wrap _ h0.1 h0.2) (sg_wrap _ h2.1 h2.2), by go_grown⟩
  · have e1 := Lib.hid (show fromS t = ⟨sg (bi (t.v ||| hib)), sg (bi ((t.v + t.m) &&& ~~~hib))⟩ by unfold fromS; rw [if_neg h])
    rw [e1.out]
    have d1 : (bits .and .u64 (bi t.m) 9223372036854775808 == 0) = false := by
      have g : ¬ bits .and .u64 (bi t.m) 9223372036854775808 = 0 := fun g => h ((hi_and _ h1.1 h1.2).1 g)
      simp [g]
    go_enter Tryz.func56, Tryz.ntmps56
    go_wp2_with fail
    go_region
    all_goals go_wp2
    all_goals go_returns
    all_goals exact ⟨rt_us rfl rfl (sg_wrap _ h3.1 h3.2) (sg_wrap _ h4.1 h4.2), by go_grown⟩
end Go.Proofs.YtcimihckhobniaaGreat
namespace Go.Proofs.YtcimihckhobniaaGreat.L3
open Go.RowKit Tn Ow
set_option linter.unusedVariables false
set_option linter.unusedSimpArgs false
theorem rt_t {a b c d : Int} (h1 : a = b) (h2 : c = d) : Ending.returned (.agg #[.int .u64 a, .int .u64 c]) = .returned (.agg #[.int .u64 b, .int .u64 d]) := by rw [h1, h2]
theorem rt_i {k : IntKind} {a b : Int} (h : a = b) : Ending.returned (.int k a) = .returned (.int k b) := by rw [h]
theorem rt_tb {a b c d : Int} {x y : Bool} (h1 : a = b) (h2 : c = d) (h3 : x = y) : Ending.returned (.tuple #[.agg #[.int .u64 a, .int .u64 c], .bool x]) = .returned (.tuple #[.agg #[.int .u64 b, .int .u64 d], .bool y]) := by rw [h1, h2, h3]
theorem rt_b {x y : Bool} (h3 : x = y) : Ending.returned (.bool x) = .returned (.bool y) := by rw [h3]
theorem tn_st : Tryz.prog.underlying 24 = some (.struct (Tryz.prog.fieldsOf 24)) := by kernel_rfl
theorem tn_in : Tryz.prog.stoodInHeld 24 = false := by kernel_rfl
theorem tn_eg : Tryz.prog.eqGuardType Tryz.prog.depth 24 = false := by kernel_rfl
theorem tn_eql0 (a0 a1 b0 b1 : Int) (w : World) : (binOp .eql 24 (.agg #[.int .u64 a0, .int .u64 a1]) (.agg #[.int .u64 b0, .int .u64 b1])).run Tryz.prog w = .ok (.bool (a0 == b0 && a1 == b1)) w := by
  rw [run_eql_struct, run_equalIn_agg _ _ _ _ _ tn_st tn_in]
  simp only [Program.fieldsOf, Tryz.underlying24]
  cases h0 : (a0 == b0) <;> cases h1 : (a1 == b1) <;> simp [go_sem, h0, h1]
theorem tn_eql (a b : T) (w : World) : (binOp .eql 24 (.agg #[.int .u64 (bi a.v), .int .u64 (bi a.m)]) (.agg #[.int .u64 (bi b.v), .int .u64 (bi b.m)])).run Tryz.prog w = .ok (.bool (sameT a b)) w := by
  rw [tn_eql0, bi_eq, bi_eq]; rfl
theorem tn_guard (op : BinOp) (a b : T) (o1 o2 : Operand) (w : World) : (eqGuard op 24 o1 o2 (.agg #[.int .u64 (bi a.v), .int .u64 (bi a.m)]) (.agg #[.int .u64 (bi b.v), .int .u64 (bi b.m)])).run Tryz.prog w = .ok () w := run_eqGuard_agg w op _ o1 o2 _ _ tn_eg
theorem below_then {B : Nat} {w w1 w2 : World} (h1 : Below B w w1) (h2 : Below w1.heap.size w1 w2) (hB : B ≤ w.heap.size) : Below B w w2 :=
  h1.trans (h2.mono (by have := h1.size; omega))
theorem tcells {w : World} {b : Nat} {x y : Int} (h : Bk w b 24 #[.int .u64 x, .int .u64 y]) : w.cell? ⟨b, 0, none⟩ = some (.int .u64 x) ∧ w.cell? ⟨b, 1, none⟩ = some (.int .u64 y) := ⟨h.cell 0, h.cell 1⟩
theorem keep1 {w0 w1 : World} {p : Addr} {v : Value} (q1 : Below w0.heap.size w0 w1) (h : w0.cell? p = some v) : w1.cell? p = some v :=
  (q1.cell (World.block_lt_of_cell? w0 _ h)).trans h
theorem set_fst {W : World} {r : Nat} {u v x : Value} (h : W.cell? ⟨r, 0, none⟩ = some x) : ((W.setCell ⟨r, 0, none⟩ u).setCell ⟨r, 1, none⟩ v).cell? ⟨r, 0, none⟩ = some u := by
  rw [World.cell?_setCell_other _ _ _ _ (fun e => by injection e with _ e2 _; omega)]
  exact World.cell?_setCell_same _ _ _ h
theorem set_snd {W : World} {r : Nat} {u v x : Value} (h : W.cell? ⟨r, 1, none⟩ = some x) : ((W.setCell ⟨r, 0, none⟩ u).setCell ⟨r, 1, none⟩ v).cell? ⟨r, 1, none⟩ = some v := by
  have e1 : (W.setCell ⟨r, 0, none⟩ u).cell? ⟨r, 1, none⟩ = W.cell? ⟨r, 1, none⟩ := World.cell?_setCell_other _ _ _ _ (fun e => by injection e with _ e2 _; omega)
  exact World.cell?_setCell_same _ _ _ (e1.trans h)
theorem join_any (a b : T) (w : World) :
    Calls Tryz.prog 69 #[.agg #[.int .u64 (bi a.v), .int .u64 (bi a.m)], .agg #[.int .u64 (bi b.v), .int .u64 (bi b.m)]] w fun e w' => e = .returned (.agg #[.int .u64 (bi (joinT a b).v), .int .u64 (bi (joinT a b).m)]) ∧ Below w.heap.size w w' := by
  have h0 := bi_bd a.v
  have h1 := bi_bd a.m
  have h2 := bi_bd b.v
  have h3 := bi_bd b.m
  go_enter Tryz.func69, Tryz.ntmps69
  go_wp2
  go_returns
  refine ⟨rt_t ?_ ?_, by go_grown⟩
  · simp only [bi_andNot, bi_or, bi_xor, bi_and, biw_add, biw_sub, biw_mul]; rfl
  · simp only [bi_andNot, bi_or, bi_xor, bi_and, biw_add, biw_sub, biw_mul]; rfl
theorem of_any (v : BitVec 64) (w : World) :
    Calls Tryz.prog 43 #[.int .u64 (bi v)] w fun e w' => e = .returned (.agg #[.int .u64 (bi (ofT v).v), .int .u64 (bi (ofT v).m)]) ∧ Below w.heap.size w w' := by
  have h0 := bi_bd v
  go_enter Tryz.func43, Tryz.ntmps43
  go_wp2
  go_returns
  exact ⟨rt_t rfl rfl, by go_grown⟩
theorem any_any (w : World) :
    Calls Tryz.prog 49 #[] w fun e w' => e = .returned (.agg #[.int .u64 (bi anyT.v), .int .u64 (bi anyT.m)]) ∧ Below w.heap.size w w' := by
  go_enter Tryz.func49, Tryz.ntmps49
  go_wp2
  go_returns
  exact ⟨rt_t rfl bi_ones.symm, by go_grown⟩
theorem in_any (a : T) (v : BitVec 64) (w : World) :
    Calls Tryz.prog 57 #[.agg #[.int .u64 (bi a.v), .int .u64 (bi a.m)], .int .u64 (bi v)] w fun e w' => e = .returned (.bool (inT a v)) ∧ Below w.heap.size w w' := by
  have h0 := bi_bd a.v
  have h1 := bi_bd a.m
  have h2 := bi_bd v
  go_enter Tryz.func57, Tryz.ntmps57
  go_wp2
  go_returns
  refine ⟨rt_b ?_, by go_grown⟩
  simp only [bi_andNot, bi_xor, bi_eq0]
  rfl
theorem meet_dec (a b : T) : (bits BinOp.andNot IntKind.u64 (bits BinOp.xor IntKind.u64 (bi a.v) (bi b.v)) (bits BinOp.or IntKind.u64 (bi a.m) (bi b.m)) != 0) = !meetOk a b := by
  simp only [bi_andNot, bi_xor, bi_or]
  rw [bne, bi_eq0]
  rfl
theorem meet_any (a b : T) (w : World) :
    Calls Tryz.prog 104 #[.agg #[.int .u64 (bi a.v), .int .u64 (bi a.m)], .agg #[.int .u64 (bi b.v), .int .u64 (bi b.m)]] w fun e w' => e = .returned (.tuple #[.agg #[.int .u64 (bi (meetT a b).v), .int .u64 (bi (meetT a b).m)], .bool (meetOk a b)]) ∧ Below w.heap.size w w' := by
  have h0 := bi_bd a.v
  have h1 := bi_bd a.m
  have h2 := bi_bd b.v
  have h3 := bi_bd b.m
  go_enter Tryz.func104, Tryz.ntmps104
  go_wp2
  all_goals go_returns
  · rename_i hz
    rw [meet_dec, Bool.not_eq_true'] at hz
    rw [meet_no hz]
    exact ⟨rt_tb rfl rfl hz.symm, by go_grown⟩
  · rename_i hz
    rw [meet_dec, Bool.not_eq_false'] at hz
    rw [meet_yes hz]
    refine ⟨rt_tb ?_ ?_ hz.symm, by go_grown⟩
    · simp only [bi_andNot, bi_or, bi_xor, bi_and, biw_add, biw_sub, biw_mul]; rfl
    · simp only [bi_andNot, bi_or, bi_xor, bi_and, biw_add, biw_sub, biw_mul]; rfl
def maskN (n : Int) : BitVec 64 := BitVec.ofNat 64 (2 ^ (8 * n).toNat - 1)
theorem mask_eq (n : Int) (h1 : 1 ≤ n) (h2 : n < 8) : IntKind.u64.wrap (IntKind.u64.wrap (2 ^ (8 * n).toNat) - 1) = bi (maskN n) := by
  have : n = 1 ∨ n = 2 ∨ n = 3 ∨ n = 4 ∨ n = 5 ∨ n = 6 ∨ n = 7 := by omega
  rcases this with rfl | rfl | rfl | rfl | rfl | rfl | rfl <;> decide
def cutN (a : T) (n : Int) : T := if 8 ≤ n then a else if n < 1 then ofT 0#64 else cutT a (maskN n)
theorem cut_any (a : T) (n : Int) (h : -9223372036854775808 ≤ n ∧ n ≤ 9223372036854775807) (w : World) :
    Calls Tryz.prog 55 #[.agg #[.int .u64 (bi a.v), .int .u64 (bi a.m)], .int .i64 n] w fun e w' => e = .returned (.agg #[.int .u64 (bi (cutN a n).v), .int .u64 (bi (cutN a n).m)]) ∧ Below w.heap.size w w' := by
  have h0 := bi_bd a.v
  have h1 := bi_bd a.m
  go_enter Tryz.func55, Tryz.ntmps55
  go_wp2
  all_goals go_returns
  all_goals unfold cutN
  · rename_i g1
    rw [if_pos g1]
    exact ⟨rfl, by go_grown⟩
  · rename_i g1 _ _ g2
    rw [if_neg (by omega), if_pos g2]
    exact ⟨rfl, by go_grown⟩
  · rename_i g1 g2
    rw [if_neg (by omega), if_neg (by omega)]
    refine ⟨rt_t ?_ ?_, by go_grown⟩
    · rw [mask_eq n g2 g1, bi_and]; rfl
    · rw [mask_eq n g2 g1, bi_and]; rfl
end Go.Proofs.YtcimihckhobniaaGreat.L3
namespace Go.Proofs.YtcimihckhobniaaGreat.L3
set_option maxRecDepth 100000
open Go.RowKit Tn Ow
set_option linter.unusedVariables false
set_option linter.unusedSimpArgs false
theorem four_keep {w W w2 : World} {g h : Nat} {v0 v1 v2 v3 : Value} (hb : Below W.heap.size W w2)
    (hh : W.cell? ⟨g, 0, none⟩ = some v0 ∧ W.cell? ⟨g, 1, none⟩ = some v1 ∧ W.cell? ⟨h, 0, none⟩ = some v2 ∧ W.cell? ⟨h, 1, none⟩ = some v3 ∧ Below w.heap.size w W) :
    w2.cell? ⟨g, 0, none⟩ = some v0 ∧ w2.cell? ⟨g, 1, none⟩ = some v1 ∧ w2.cell? ⟨h, 0, none⟩ = some v2 ∧ w2.cell? ⟨h, 1, none⟩ = some v3 ∧ Below w.heap.size w w2 :=
  ⟨keep1 hb hh.1, keep1 hb hh.2.1, keep1 hb hh.2.2.1, keep1 hb hh.2.2.2.1, below_then hh.2.2.2.2 hb (Nat.le_refl _)⟩
set_option maxHeartbeats 4000000 in
theorem within_any (a b : T) (w : World) :
    Calls Tryz.prog 63 #[.agg #[.int .u64 (bi a.v), .int .u64 (bi a.m)], .agg #[.int .u64 (bi b.v), .int .u64 (bi b.m)]] w fun e w' => e = .returned (.bool (withT a b)) ∧ Below w.heap.size w w' := by
  have h0 := bi_bd a.v
  have h1 := bi_bd a.m
  have h2 := bi_bd b.v
  have h3 := bi_bd b.m
  go_enter Tryz.func63, Tryz.ntmps63
  go_wp2_with fail
  have K0 := (Bk.new w 24 #[.int .u64 (bi a.v), .int .u64 (bi a.m)]).alloc (.cells #[.int .u64 (bi b.v), .int .u64 (bi b.m)] 24)
  have K1 := Bk.new (w.alloc (.cells #[.int .u64 (bi a.v), .int .u64 (bi a.m)] 24)) 24 #[.int .u64 (bi b.v), .int .u64 (bi b.m)]
  rw [World.size_alloc] at K1
  have B0 : Below w.heap.size w ((w.alloc (.cells #[.int .u64 (bi a.v), .int .u64 (bi a.m)] 24)).alloc (.cells #[.int .u64 (bi b.v), .int .u64 (bi b.m)] 24)) := by go_grown
  generalize ((w.alloc (.cells #[.int .u64 (bi a.v), .int .u64 (bi a.m)] 24)).alloc (.cells #[.int .u64 (bi b.v), .int .u64 (bi b.m)] 24)) = w0 at *
  obtain ⟨c0, c1⟩ := tcells K0
  obtain ⟨c2, c3⟩ := tcells K1
  clear K0 K1
  have q1 := tn_eql (joinT a b) b
  have q2 := tn_guard .eql (joinT a b) b
  go_region_held3 (fun w' => w'.cell? ⟨w.heap.size, 0, none⟩ = some (.int .u64 (bi a.v)) ∧ w'.cell? ⟨w.heap.size, 1, none⟩ = some (.int .u64 (bi a.m)) ∧ w'.cell? ⟨w.heap.size + 1, 0, none⟩ = some (.int .u64 (bi b.v)) ∧ w'.cell? ⟨w.heap.size + 1, 1, none⟩ = some (.int .u64 (bi b.m)) ∧ Below w.heap.size w w')
    (first | exact ⟨c0, c1, c2, c3, B0.drew⟩ | exact four_keep qb (by assumption) | exact four_keep qb ⟨by assumption, by assumption, by assumption, by assumption, by assumption⟩ | exact four_keep qb ⟨c0, c1, c2, c3, B0.drew⟩)
    (first | (go_at_call 69; refine (join_any a b _).mono ?_; rintro e w2 ⟨rfl, qb⟩))
  have BB : Hid (Below w.heap.size w w2) := by
    rename_i hH
    exact Lib.hid hH.2.2.2.2
  clear qb
  go_wp2
  go_returns
  exact ⟨rfl, BB.out⟩
end Go.Proofs.YtcimihckhobniaaGreat.L3
