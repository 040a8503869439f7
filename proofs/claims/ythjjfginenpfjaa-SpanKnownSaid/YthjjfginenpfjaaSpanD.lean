/-
  What package span's other functions tell: contracts. Conditions: the ends are numbers of 64 bits, Lo at most Hi.
-/
import Derived.Test.YthjjfginenpfjaaSpanC
import Derived.Test.YthjjfginenpfjaaSpanMath3
namespace Go.Proofs.Ythjjfginenpfjaa
open Go.RowKit Tn Ow Sp
set_option linter.unusedVariables false
set_option linter.unusedSimpArgs false
theorem below_st2 {w w1 : World} {r : Nat} {u v : Value} (h : Below w.heap.size w w1) (hr : w.heap.size ≤ r) : Below w.heap.size w ((w1.setCell ⟨r, 0, none⟩ u).setCell ⟨r, 1, none⟩ v) :=
  (h.setCell (p := ⟨r, 0, none⟩) hr _).setCell (p := ⟨r, 1, none⟩) hr _
theorem below_al {w w1 : World} (h : Below w.heap.size w w1) (o : Obj) : Below w.heap.size w (w1.alloc o) := h.alloc h.size o
theorem uwith_any (a b : E) (w : World) :
    Calls Try.prog 17 #[.agg #[.int .u64 a.lo, .int .u64 a.hi], .agg #[.int .u64 b.lo, .int .u64 b.hi]] w fun e w' => e = .returned (.bool (withE a b)) ∧ Below w.heap.size w w' := by
  go_enter Try.func17, Try.ntmps17
  go_wp2_with fail
  have K0 := ((Bk.new w 24 #[.int .u64 a.lo, .int .u64 a.hi]).alloc (.cells #[.int .u64 b.lo, .int .u64 b.hi] 24))
  have K1 := (Bk.new (w.alloc (.cells #[.int .u64 a.lo, .int .u64 a.hi] 24)) 24 #[.int .u64 b.lo, .int .u64 b.hi])
  rw [World.size_alloc] at K1
  have B0 : Below w.heap.size w ((w.alloc (.cells #[.int .u64 a.lo, .int .u64 a.hi] 24)).alloc (.cells #[.int .u64 b.lo, .int .u64 b.hi] 24)) := by go_grown
  generalize ((w.alloc (.cells #[.int .u64 a.lo, .int .u64 a.hi] 24)).alloc (.cells #[.int .u64 b.lo, .int .u64 b.hi] 24)) = w0 at *
  have H0 := Lib.hid K0
  obtain ⟨c00, c01⟩ := tcells K0
  have H1 := Lib.hid K1
  obtain ⟨c10, c11⟩ := tcells K1
  have HB := Lib.hid B0
  clear K0 K1 B0
  with_reducible refine (uwithin_any a b _).mono ?_
  rintro e w1 ⟨rfl, qb⟩
  replace c00 := keep1 qb c00
  replace c01 := keep1 qb c01
  replace c10 := keep1 qb c10
  replace c11 := keep1 qb c11
  replace H0 := Lib.hid (H0.out.below qb H0.out.lt)
  replace H1 := Lib.hid (H1.out.below qb H1.out.lt)
  replace HB := Lib.hid (below_then HB.out qb (Nat.le_refl _))
  clear qb
  go_wp2_with fail
  go_returns
  exact ⟨rfl, HB.out⟩
theorem ujoi_any (a b : E) (w : World) :
    Calls Try.prog 19 #[.agg #[.int .u64 a.lo, .int .u64 a.hi], .agg #[.int .u64 b.lo, .int .u64 b.hi]] w fun e w' => e = .returned (.agg #[.int .u64 (joinE a b).lo, .int .u64 (joinE a b).hi]) ∧ Below w.heap.size w w' := by
  go_enter Try.func19, Try.ntmps19
  go_wp2_with fail
  have K0 := (((Bk.new w 24 #[.int .u64 a.lo, .int .u64 a.hi]).alloc (.cells #[.int .u64 b.lo, .int .u64 b.hi] 24)).alloc (.cells #[.int .u64 0, .int .u64 0] 24))
  have K1 := ((Bk.new (w.alloc (.cells #[.int .u64 a.lo, .int .u64 a.hi] 24)) 24 #[.int .u64 b.lo, .int .u64 b.hi]).alloc (.cells #[.int .u64 0, .int .u64 0] 24))
  rw [World.size_alloc] at K1
  have K2 := (Bk.new ((w.alloc (.cells #[.int .u64 a.lo, .int .u64 a.hi] 24)).alloc (.cells #[.int .u64 b.lo, .int .u64 b.hi] 24)) 24 #[.int .u64 0, .int .u64 0])
  rw [World.size_alloc, World.size_alloc] at K2
  have B0 : Below w.heap.size w (((w.alloc (.cells #[.int .u64 a.lo, .int .u64 a.hi] 24)).alloc (.cells #[.int .u64 b.lo, .int .u64 b.hi] 24)).alloc (.cells #[.int .u64 0, .int .u64 0] 24)) := by go_grown
  generalize (((w.alloc (.cells #[.int .u64 a.lo, .int .u64 a.hi] 24)).alloc (.cells #[.int .u64 b.lo, .int .u64 b.hi] 24)).alloc (.cells #[.int .u64 0, .int .u64 0] 24)) = w0 at *
  have H0 := Lib.hid K0
  obtain ⟨c00, c01⟩ := tcells K0
  have H1 := Lib.hid K1
  obtain ⟨c10, c11⟩ := tcells K1
  have H2 := Lib.hid K2
  obtain ⟨c20, c21⟩ := tcells K2
  have f0 := K2.frozen 0
  have f1 := K2.frozen 1
  have HB := Lib.hid B0
  clear K0 K1 K2 B0
  with_reducible refine (ujoin_any a b _).mono ?_
  rintro e w1 ⟨rfl, qb⟩
  replace f0 := keepf qb (World.block_lt_of_cell? _ _ c20) f0
  replace f1 := keepf qb (World.block_lt_of_cell? _ _ c21) f1
  replace c00 := keep1 qb c00
  replace c01 := keep1 qb c01
  replace c10 := keep1 qb c10
  replace c11 := keep1 qb c11
  replace c20 := keep1 qb c20
  replace c21 := keep1 qb c21
  replace H0 := Lib.hid (H0.out.below qb H0.out.lt)
  replace H1 := Lib.hid (H1.out.below qb H1.out.lt)
  replace H2 := Lib.hid (H2.out.below qb H2.out.lt)
  replace HB := Lib.hid (below_then HB.out qb (Nat.le_refl _))
  clear qb
  go_wp2_with fail
  have r0 : ∀ u v, ((w1.setCell ⟨w.heap.size + 1 + 1, 0, none⟩ u).setCell ⟨w.heap.size + 1 + 1, 1, none⟩ v).cell? ⟨w.heap.size + 1 + 1, 0, none⟩ = some u := fun u v => set_fst c20
  have r1 : ∀ u v, ((w1.setCell ⟨w.heap.size + 1 + 1, 0, none⟩ u).setCell ⟨w.heap.size + 1 + 1, 1, none⟩ v).cell? ⟨w.heap.size + 1 + 1, 1, none⟩ = some v := fun u v => set_snd c21
  refine bodyPost_ret (by simp [results, Try.results19, r0, r1, go_sem]; try rfl) rfl ?_
  exact ⟨rt_u rfl rfl, below_st2 HB.out (by omega)⟩
theorem ursh_any (a : E) (n : Int) (k : Nat) (hk : n % 64 = (k : Int)) (h0 : okU a) (w : World) :
    Calls Try.prog 37 #[.agg #[.int .u64 a.lo, .int .u64 a.hi], .int .i64 n] w fun e w' => e = .returned (.agg #[.int .u64 (rsh a k).lo, .int .u64 (rsh a k).hi]) ∧ Below w.heap.size w w' := by
  have HK := Lib.hid hk
  have H9 := Lib.hid h0
  clear hk h0
  go_enter Try.func37, Try.ntmps37
  go_wp2_with fail
  have K0 := ((Bk.new w 24 #[.int .u64 a.lo, .int .u64 a.hi]).alloc (.cells #[.int .u64 0, .int .u64 0] 24))
  have K1 := (Bk.new (w.alloc (.cells #[.int .u64 a.lo, .int .u64 a.hi] 24)) 24 #[.int .u64 0, .int .u64 0])
  rw [World.size_alloc] at K1
  have B0 : Below w.heap.size w ((w.alloc (.cells #[.int .u64 a.lo, .int .u64 a.hi] 24)).alloc (.cells #[.int .u64 0, .int .u64 0] 24)) := by go_grown
  generalize ((w.alloc (.cells #[.int .u64 a.lo, .int .u64 a.hi] 24)).alloc (.cells #[.int .u64 0, .int .u64 0] 24)) = w0 at *
  have H0 := Lib.hid K0
  obtain ⟨c00, c01⟩ := tcells K0
  have H1 := Lib.hid K1
  obtain ⟨c10, c11⟩ := tcells K1
  have f0 := K1.frozen 0
  have f1 := K1.frozen 1
  have HB := Lib.hid B0
  clear K0 K1 B0
  with_reducible refine (udown_any a n k HK.out H9.out _).mono ?_
  rintro e w1 ⟨rfl, qb⟩
  replace f0 := keepf qb (World.block_lt_of_cell? _ _ c10) f0
  replace f1 := keepf qb (World.block_lt_of_cell? _ _ c11) f1
  replace c00 := keep1 qb c00
  replace c01 := keep1 qb c01
  replace c10 := keep1 qb c10
  replace c11 := keep1 qb c11
  replace H0 := Lib.hid (H0.out.below qb H0.out.lt)
  replace H1 := Lib.hid (H1.out.below qb H1.out.lt)
  replace HB := Lib.hid (below_then HB.out qb (Nat.le_refl _))
  clear qb
  go_wp2_with fail
  have r0 : ∀ u v, ((w1.setCell ⟨w.heap.size + 1, 0, none⟩ u).setCell ⟨w.heap.size + 1, 1, none⟩ v).cell? ⟨w.heap.size + 1, 0, none⟩ = some u := fun u v => set_fst c10
  have r1 : ∀ u v, ((w1.setCell ⟨w.heap.size + 1, 0, none⟩ u).setCell ⟨w.heap.size + 1, 1, none⟩ v).cell? ⟨w.heap.size + 1, 1, none⟩ = some v := fun u v => set_snd c11
  refine bodyPost_ret (by simp [results, Try.results37, r0, r1, go_sem]; try rfl) rfl ?_
  exact ⟨rt_u rfl rfl, below_st2 HB.out (by omega)⟩
theorem umee_any (a b : E) (w : World) :
    Calls Try.prog 13 #[.agg #[.int .u64 a.lo, .int .u64 a.hi], .agg #[.int .u64 b.lo, .int .u64 b.hi]] w fun e w' => e = .returned (.tuple #[.agg #[.int .u64 (meetE a b).lo, .int .u64 (meetE a b).hi], .bool (metE a b)]) ∧ Below w.heap.size w w' := by
  obtain ⟨r, hr⟩ : ∃ r : E, meetE a b = r := ⟨_, rfl⟩
  have k3 : ∀ w : World, _ := fun w => umeet_any a b w
  rw [hr] at k3 ⊢
  have K3 := Lib.hid k3
  clear k3 hr
  go_enter Try.func13, Try.ntmps13
  go_wp2_with fail
  have K0 := (((Bk.new w 24 #[.int .u64 a.lo, .int .u64 a.hi]).alloc (.cells #[.int .u64 b.lo, .int .u64 b.hi] 24)).alloc (.cells #[.int .u64 0, .int .u64 0] 24))
  have K1 := ((Bk.new (w.alloc (.cells #[.int .u64 a.lo, .int .u64 a.hi] 24)) 24 #[.int .u64 b.lo, .int .u64 b.hi]).alloc (.cells #[.int .u64 0, .int .u64 0] 24))
  rw [World.size_alloc] at K1
  have K2 := (Bk.new ((w.alloc (.cells #[.int .u64 a.lo, .int .u64 a.hi] 24)).alloc (.cells #[.int .u64 b.lo, .int .u64 b.hi] 24)) 24 #[.int .u64 0, .int .u64 0])
  rw [World.size_alloc, World.size_alloc] at K2
  have B0 : Below w.heap.size w (((w.alloc (.cells #[.int .u64 a.lo, .int .u64 a.hi] 24)).alloc (.cells #[.int .u64 b.lo, .int .u64 b.hi] 24)).alloc (.cells #[.int .u64 0, .int .u64 0] 24)) := by go_grown
  generalize (((w.alloc (.cells #[.int .u64 a.lo, .int .u64 a.hi] 24)).alloc (.cells #[.int .u64 b.lo, .int .u64 b.hi] 24)).alloc (.cells #[.int .u64 0, .int .u64 0] 24)) = w0 at *
  have H0 := Lib.hid K0
  obtain ⟨c00, c01⟩ := tcells K0
  have H1 := Lib.hid K1
  obtain ⟨c10, c11⟩ := tcells K1
  have H2 := Lib.hid K2
  obtain ⟨c20, c21⟩ := tcells K2
  have f0 := K2.frozen 0
  have f1 := K2.frozen 1
  have HB := Lib.hid B0
  clear K0 K1 K2 B0
  with_reducible refine (K3.out _).mono ?_
  rintro e w1 ⟨rfl, qb⟩
  replace f0 := keepf qb (World.block_lt_of_cell? _ _ c20) f0
  replace f1 := keepf qb (World.block_lt_of_cell? _ _ c21) f1
  replace c00 := keep1 qb c00
  replace c01 := keep1 qb c01
  replace c10 := keep1 qb c10
  replace c11 := keep1 qb c11
  replace c20 := keep1 qb c20
  replace c21 := keep1 qb c21
  replace H0 := Lib.hid (H0.out.below qb H0.out.lt)
  replace H1 := Lib.hid (H1.out.below qb H1.out.lt)
  replace H2 := Lib.hid (H2.out.below qb H2.out.lt)
  replace HB := Lib.hid (below_then HB.out qb (Nat.le_refl _))
  clear qb
  have D2 := H2.out.alloc (.cells #[.int .u64 r.lo, .int .u64 r.hi] 68)
  obtain ⟨d20, d21⟩ := tcells D2
  have g0 := D2.frozen 0
  have g1 := D2.frozen 1
  clear D2
  go_wp2_with fail
  have r0 : ∀ u v, (((w1.alloc (.cells #[.int .u64 r.lo, .int .u64 r.hi] 68)).setCell ⟨w.heap.size + 1 + 1, 0, none⟩ u).setCell ⟨w.heap.size + 1 + 1, 1, none⟩ v).cell? ⟨w.heap.size + 1 + 1, 0, none⟩ = some u := fun u v => set_fst d20
  have r1 : ∀ u v, (((w1.alloc (.cells #[.int .u64 r.lo, .int .u64 r.hi] 68)).setCell ⟨w.heap.size + 1 + 1, 0, none⟩ u).setCell ⟨w.heap.size + 1 + 1, 1, none⟩ v).cell? ⟨w.heap.size + 1 + 1, 1, none⟩ = some v := fun u v => set_snd d21
  refine bodyPost_ret (by simp [results, Try.results13, r0, r1, go_sem]; try rfl) rfl ?_
  exact ⟨rt_ub rfl rfl rfl, below_st2 (below_al HB.out _) (by omega)⟩
theorem swith_any (a b : E) (w : World) :
    Calls Try.prog 55 #[.agg #[.int .i64 a.lo, .int .i64 a.hi], .agg #[.int .i64 b.lo, .int .i64 b.hi]] w fun e w' => e = .returned (.bool (withE a b)) ∧ Below w.heap.size w w' := by
  go_enter Try.func55, Try.ntmps55
  go_wp2_with fail
  have K0 := ((Bk.new w 35 #[.int .i64 a.lo, .int .i64 a.hi]).alloc (.cells #[.int .i64 b.lo, .int .i64 b.hi] 35))
  have K1 := (Bk.new (w.alloc (.cells #[.int .i64 a.lo, .int .i64 a.hi] 35)) 35 #[.int .i64 b.lo, .int .i64 b.hi])
  rw [World.size_alloc] at K1
  have B0 : Below w.heap.size w ((w.alloc (.cells #[.int .i64 a.lo, .int .i64 a.hi] 35)).alloc (.cells #[.int .i64 b.lo, .int .i64 b.hi] 35)) := by go_grown
  generalize ((w.alloc (.cells #[.int .i64 a.lo, .int .i64 a.hi] 35)).alloc (.cells #[.int .i64 b.lo, .int .i64 b.hi] 35)) = w0 at *
  have H0 := Lib.hid K0
  obtain ⟨c00, c01⟩ := tcells K0
  have H1 := Lib.hid K1
  obtain ⟨c10, c11⟩ := tcells K1
  have HB := Lib.hid B0
  clear K0 K1 B0
  with_reducible refine (swithin_any a b _).mono ?_
  rintro e w1 ⟨rfl, qb⟩
  replace c00 := keep1 qb c00
  replace c01 := keep1 qb c01
  replace c10 := keep1 qb c10
  replace c11 := keep1 qb c11
  replace H0 := Lib.hid (H0.out.below qb H0.out.lt)
  replace H1 := Lib.hid (H1.out.below qb H1.out.lt)
  replace HB := Lib.hid (below_then HB.out qb (Nat.le_refl _))
  clear qb
  go_wp2_with fail
  go_returns
  exact ⟨rfl, HB.out⟩
theorem sjoi_any (a b : E) (w : World) :
    Calls Try.prog 57 #[.agg #[.int .i64 a.lo, .int .i64 a.hi], .agg #[.int .i64 b.lo, .int .i64 b.hi]] w fun e w' => e = .returned (.agg #[.int .i64 (joinE a b).lo, .int .i64 (joinE a b).hi]) ∧ Below w.heap.size w w' := by
  go_enter Try.func57, Try.ntmps57
  go_wp2_with fail
  have K0 := (((Bk.new w 35 #[.int .i64 a.lo, .int .i64 a.hi]).alloc (.cells #[.int .i64 b.lo, .int .i64 b.hi] 35)).alloc (.cells #[.int .i64 0, .int .i64 0] 35))
  have K1 := ((Bk.new (w.alloc (.cells #[.int .i64 a.lo, .int .i64 a.hi] 35)) 35 #[.int .i64 b.lo, .int .i64 b.hi]).alloc (.cells #[.int .i64 0, .int .i64 0] 35))
  rw [World.size_alloc] at K1
  have K2 := (Bk.new ((w.alloc (.cells #[.int .i64 a.lo, .int .i64 a.hi] 35)).alloc (.cells #[.int .i64 b.lo, .int .i64 b.hi] 35)) 35 #[.int .i64 0, .int .i64 0])
  rw [World.size_alloc, World.size_alloc] at K2
  have B0 : Below w.heap.size w (((w.alloc (.cells #[.int .i64 a.lo, .int .i64 a.hi] 35)).alloc (.cells #[.int .i64 b.lo, .int .i64 b.hi] 35)).alloc (.cells #[.int .i64 0, .int .i64 0] 35)) := by go_grown
  generalize (((w.alloc (.cells #[.int .i64 a.lo, .int .i64 a.hi] 35)).alloc (.cells #[.int .i64 b.lo, .int .i64 b.hi] 35)).alloc (.cells #[.int .i64 0, .int .i64 0] 35)) = w0 at *
  have H0 := Lib.hid K0
  obtain ⟨c00, c01⟩ := tcells K0
  have H1 := Lib.hid K1
  obtain ⟨c10, c11⟩ := tcells K1
  have H2 := Lib.hid K2
  obtain ⟨c20, c21⟩ := tcells K2
  have f0 := K2.frozen 0
  have f1 := K2.frozen 1
  have HB := Lib.hid B0
  clear K0 K1 K2 B0
  with_reducible refine (sjoin_any a b _).mono ?_
  rintro e w1 ⟨rfl, qb⟩
  replace f0 := keepf qb (World.block_lt_of_cell? _ _ c20) f0
  replace f1 := keepf qb (World.block_lt_of_cell? _ _ c21) f1
  replace c00 := keep1 qb c00
  replace c01 := keep1 qb c01
  replace c10 := keep1 qb c10
  replace c11 := keep1 qb c11
  replace c20 := keep1 qb c20
  replace c21 := keep1 qb c21
  replace H0 := Lib.hid (H0.out.below qb H0.out.lt)
  replace H1 := Lib.hid (H1.out.below qb H1.out.lt)
  replace H2 := Lib.hid (H2.out.below qb H2.out.lt)
  replace HB := Lib.hid (below_then HB.out qb (Nat.le_refl _))
  clear qb
  go_wp2_with fail
  have r0 : ∀ u v, ((w1.setCell ⟨w.heap.size + 1 + 1, 0, none⟩ u).setCell ⟨w.heap.size + 1 + 1, 1, none⟩ v).cell? ⟨w.heap.size + 1 + 1, 0, none⟩ = some u := fun u v => set_fst c20
  have r1 : ∀ u v, ((w1.setCell ⟨w.heap.size + 1 + 1, 0, none⟩ u).setCell ⟨w.heap.size + 1 + 1, 1, none⟩ v).cell? ⟨w.heap.size + 1 + 1, 1, none⟩ = some v := fun u v => set_snd c21
  refine bodyPost_ret (by simp [results, Try.results57, r0, r1, go_sem]; try rfl) rfl ?_
  exact ⟨rt_u rfl rfl, below_st2 HB.out (by omega)⟩
theorem srsh_any (a : E) (n : Int) (k : Nat) (hk : n % 64 = (k : Int)) (h0 : okS a) (w : World) :
    Calls Try.prog 63 #[.agg #[.int .i64 a.lo, .int .i64 a.hi], .int .i64 n] w fun e w' => e = .returned (.agg #[.int .i64 (rsh a k).lo, .int .i64 (rsh a k).hi]) ∧ Below w.heap.size w w' := by
  have HK := Lib.hid hk
  have H9 := Lib.hid h0
  clear hk h0
  go_enter Try.func63, Try.ntmps63
  go_wp2_with fail
  have K0 := ((Bk.new w 35 #[.int .i64 a.lo, .int .i64 a.hi]).alloc (.cells #[.int .i64 0, .int .i64 0] 35))
  have K1 := (Bk.new (w.alloc (.cells #[.int .i64 a.lo, .int .i64 a.hi] 35)) 35 #[.int .i64 0, .int .i64 0])
  rw [World.size_alloc] at K1
  have B0 : Below w.heap.size w ((w.alloc (.cells #[.int .i64 a.lo, .int .i64 a.hi] 35)).alloc (.cells #[.int .i64 0, .int .i64 0] 35)) := by go_grown
  generalize ((w.alloc (.cells #[.int .i64 a.lo, .int .i64 a.hi] 35)).alloc (.cells #[.int .i64 0, .int .i64 0] 35)) = w0 at *
  have H0 := Lib.hid K0
  obtain ⟨c00, c01⟩ := tcells K0
  have H1 := Lib.hid K1
  obtain ⟨c10, c11⟩ := tcells K1
  have f0 := K1.frozen 0
  have f1 := K1.frozen 1
  have HB := Lib.hid B0
  clear K0 K1 B0
  with_reducible refine (sdown_any a n k HK.out H9.out _).mono ?_
  rintro e w1 ⟨rfl, qb⟩
  replace f0 := keepf qb (World.block_lt_of_cell? _ _ c10) f0
  replace f1 := keepf qb (World.block_lt_of_cell? _ _ c11) f1
  replace c00 := keep1 qb c00
  replace c01 := keep1 qb c01
  replace c10 := keep1 qb c10
  replace c11 := keep1 qb c11
  replace H0 := Lib.hid (H0.out.below qb H0.out.lt)
  replace H1 := Lib.hid (H1.out.below qb H1.out.lt)
  replace HB := Lib.hid (below_then HB.out qb (Nat.le_refl _))
  clear qb
  go_wp2_with fail
  have r0 : ∀ u v, ((w1.setCell ⟨w.heap.size + 1, 0, none⟩ u).setCell ⟨w.heap.size + 1, 1, none⟩ v).cell? ⟨w.heap.size + 1, 0, none⟩ = some u := fun u v => set_fst c10
  have r1 : ∀ u v, ((w1.setCell ⟨w.heap.size + 1, 0, none⟩ u).setCell ⟨w.heap.size + 1, 1, none⟩ v).cell? ⟨w.heap.size + 1, 1, none⟩ = some v := fun u v => set_snd c11
  refine bodyPost_ret (by simp [results, Try.results63, r0, r1, go_sem]; try rfl) rfl ?_
  exact ⟨rt_u rfl rfl, below_st2 HB.out (by omega)⟩
theorem smee_any (a b : E) (w : World) :
    Calls Try.prog 51 #[.agg #[.int .i64 a.lo, .int .i64 a.hi], .agg #[.int .i64 b.lo, .int .i64 b.hi]] w fun e w' => e = .returned (.tuple #[.agg #[.int .i64 (meetE a b).lo, .int .i64 (meetE a b).hi], .bool (metE a b)]) ∧ Below w.heap.size w w' := by
  obtain ⟨r, hr⟩ : ∃ r : E, meetE a b = r := ⟨_, rfl⟩
  have k3 : ∀ w : World, _ := fun w => smeet_any a b w
  rw [hr] at k3 ⊢
  have K3 := Lib.hid k3
  clear k3 hr
  go_enter Try.func51, Try.ntmps51
  go_wp2_with fail
  have K0 := (((Bk.new w 35 #[.int .i64 a.lo, .int .i64 a.hi]).alloc (.cells #[.int .i64 b.lo, .int .i64 b.hi] 35)).alloc (.cells #[.int .i64 0, .int .i64 0] 35))
  have K1 := ((Bk.new (w.alloc (.cells #[.int .i64 a.lo, .int .i64 a.hi] 35)) 35 #[.int .i64 b.lo, .int .i64 b.hi]).alloc (.cells #[.int .i64 0, .int .i64 0] 35))
  rw [World.size_alloc] at K1
  have K2 := (Bk.new ((w.alloc (.cells #[.int .i64 a.lo, .int .i64 a.hi] 35)).alloc (.cells #[.int .i64 b.lo, .int .i64 b.hi] 35)) 35 #[.int .i64 0, .int .i64 0])
  rw [World.size_alloc, World.size_alloc] at K2
  have B0 : Below w.heap.size w (((w.alloc (.cells #[.int .i64 a.lo, .int .i64 a.hi] 35)).alloc (.cells #[.int .i64 b.lo, .int .i64 b.hi] 35)).alloc (.cells #[.int .i64 0, .int .i64 0] 35)) := by go_grown
  generalize (((w.alloc (.cells #[.int .i64 a.lo, .int .i64 a.hi] 35)).alloc (.cells #[.int .i64 b.lo, .int .i64 b.hi] 35)).alloc (.cells #[.int .i64 0, .int .i64 0] 35)) = w0 at *
  have H0 := Lib.hid K0
  obtain ⟨c00, c01⟩ := tcells K0
  have H1 := Lib.hid K1
  obtain ⟨c10, c11⟩ := tcells K1
  have H2 := Lib.hid K2
  obtain ⟨c20, c21⟩ := tcells K2
  have f0 := K2.frozen 0
  have f1 := K2.frozen 1
  have HB := Lib.hid B0
  clear K0 K1 K2 B0
  with_reducible refine (K3.out _).mono ?_
  rintro e w1 ⟨rfl, qb⟩
  replace f0 := keepf qb (World.block_lt_of_cell? _ _ c20) f0
  replace f1 := keepf qb (World.block_lt_of_cell? _ _ c21) f1
  replace c00 := keep1 qb c00
  replace c01 := keep1 qb c01
  replace c10 := keep1 qb c10
  replace c11 := keep1 qb c11
  replace c20 := keep1 qb c20
  replace c21 := keep1 qb c21
  replace H0 := Lib.hid (H0.out.below qb H0.out.lt)
  replace H1 := Lib.hid (H1.out.below qb H1.out.lt)
  replace H2 := Lib.hid (H2.out.below qb H2.out.lt)
  replace HB := Lib.hid (below_then HB.out qb (Nat.le_refl _))
  clear qb
  have D2 := H2.out.alloc (.cells #[.int .i64 r.lo, .int .i64 r.hi] 87)
  obtain ⟨d20, d21⟩ := tcells D2
  have g0 := D2.frozen 0
  have g1 := D2.frozen 1
  clear D2
  go_wp2_with fail
  have r0 : ∀ u v, (((w1.alloc (.cells #[.int .i64 r.lo, .int .i64 r.hi] 87)).setCell ⟨w.heap.size + 1 + 1, 0, none⟩ u).setCell ⟨w.heap.size + 1 + 1, 1, none⟩ v).cell? ⟨w.heap.size + 1 + 1, 0, none⟩ = some u := fun u v => set_fst d20
  have r1 : ∀ u v, (((w1.alloc (.cells #[.int .i64 r.lo, .int .i64 r.hi] 87)).setCell ⟨w.heap.size + 1 + 1, 0, none⟩ u).setCell ⟨w.heap.size + 1 + 1, 1, none⟩ v).cell? ⟨w.heap.size + 1 + 1, 1, none⟩ = some v := fun u v => set_snd d21
  refine bodyPost_ret (by simp [results, Try.results51, r0, r1, go_sem]; try rfl) rfl ?_
  exact ⟨rt_ub rfl rfl rfl, below_st2 (below_al HB.out _) (by omega)⟩
theorem umul_any (a b : E) (ha : okU a) (hb : okU b) (w : World) :
    Calls Try.prog 25 #[.agg #[.int .u64 a.lo, .int .u64 a.hi], .agg #[.int .u64 b.lo, .int .u64 b.hi]] w fun e w' => e = .returned (.agg #[.int .u64 (uMul a b).lo, .int .u64 (uMul a b).hi]) ∧ Below w.heap.size w w' := by
  obtain ⟨a0, a1, a2⟩ := ha
  obtain ⟨b0, b1, b2⟩ := hb
  have p0 : 0 ≤ a.hi * b.hi := Int.mul_nonneg (by omega) (by omega)
  have p2 : a.lo * b.lo ≤ a.hi * b.hi := Int.mul_le_mul a1 b1 b0 (by omega)
  have p3 : 0 ≤ a.lo * b.lo := Int.mul_nonneg (by omega) (by omega)
  by_cases h : a.hi * b.hi ≤ 18446744073709551615
  · have e1 := Lib.hid (show uMul a b = ⟨a.lo * b.lo, a.hi * b.hi⟩ by unfold uMul; rw [if_pos h])
    rw [e1.out]
    have d1 : (a.hi * b.hi / 18446744073709551616 != 0) = false := by rw [show a.hi * b.hi / 18446744073709551616 = 0 by omega]; rfl
    have P2 := Lib.hid p2
    have P3 := Lib.hid p3
    have HH := Lib.hid h
    clear p2 p3 h
    go_enter Try.func25, Try.ntmps25
    go_wp2_with fail
    have K0 := (((Bk.new w 24 #[.int .u64 a.lo, .int .u64 a.hi]).alloc (.cells #[.int .u64 b.lo, .int .u64 b.hi] 24)).alloc (.cells #[.int .u64 0, .int .u64 0] 24))
    have K1 := ((Bk.new (w.alloc (.cells #[.int .u64 a.lo, .int .u64 a.hi] 24)) 24 #[.int .u64 b.lo, .int .u64 b.hi]).alloc (.cells #[.int .u64 0, .int .u64 0] 24))
    rw [World.size_alloc] at K1
    have K2 := (Bk.new ((w.alloc (.cells #[.int .u64 a.lo, .int .u64 a.hi] 24)).alloc (.cells #[.int .u64 b.lo, .int .u64 b.hi] 24)) 24 #[.int .u64 0, .int .u64 0])
    rw [World.size_alloc, World.size_alloc] at K2
    have B0 : Below w.heap.size w (((w.alloc (.cells #[.int .u64 a.lo, .int .u64 a.hi] 24)).alloc (.cells #[.int .u64 b.lo, .int .u64 b.hi] 24)).alloc (.cells #[.int .u64 0, .int .u64 0] 24)) := by go_grown
    generalize (((w.alloc (.cells #[.int .u64 a.lo, .int .u64 a.hi] 24)).alloc (.cells #[.int .u64 b.lo, .int .u64 b.hi] 24)).alloc (.cells #[.int .u64 0, .int .u64 0] 24)) = w0 at *
    have H0 := Lib.hid K0
    obtain ⟨c00, c01⟩ := tcells K0
    have H1 := Lib.hid K1
    obtain ⟨c10, c11⟩ := tcells K1
    have H2 := Lib.hid K2
    obtain ⟨c20, c21⟩ := tcells K2
    have f0 := K2.frozen 0
    have f1 := K2.frozen 1
    have HB := Lib.hid B0
    clear K0 K1 K2 B0
    with_reducible refine (mul_any _ _ (by omega) (by omega) (by omega) (by omega) _).mono ?_
    rintro e w' ⟨rfl, rfl⟩
    go_wp2_with fail
    have r0 : ∀ u v, ((w0.setCell ⟨w.heap.size + 1 + 1, 0, none⟩ u).setCell ⟨w.heap.size + 1 + 1, 1, none⟩ v).cell? ⟨w.heap.size + 1 + 1, 0, none⟩ = some u := fun u v => set_fst c20
    have r1 : ∀ u v, ((w0.setCell ⟨w.heap.size + 1 + 1, 0, none⟩ u).setCell ⟨w.heap.size + 1 + 1, 1, none⟩ v).cell? ⟨w.heap.size + 1 + 1, 1, none⟩ = some v := fun u v => set_snd c21
    refine bodyPost_ret (by simp [results, Try.results25, r0, r1, go_sem]; try rfl) rfl ?_
    exact ⟨rt_u (show _ = a.lo * b.lo by have g1 := P2.out; have g2 := P3.out; have g3 := HH.out; rw [IntKind.wrap_u64]; omega) (show _ = a.hi * b.hi by have g3 := HH.out; omega), below_st2 HB.out (by omega)⟩
  · have e1 := Lib.hid (show uMul a b = uAll by unfold uMul; rw [if_neg h])
    rw [e1.out]
    have d1 : (a.hi * b.hi / 18446744073709551616 != 0) = true := by
      have : a.hi * b.hi / 18446744073709551616 ≠ 0 := by omega
      simp [this]
    clear p0 p2 p3 h
    go_enter Try.func25, Try.ntmps25
    go_wp2_with fail
    have K0 := (((Bk.new w 24 #[.int .u64 a.lo, .int .u64 a.hi]).alloc (.cells #[.int .u64 b.lo, .int .u64 b.hi] 24)).alloc (.cells #[.int .u64 0, .int .u64 0] 24))
    have K1 := ((Bk.new (w.alloc (.cells #[.int .u64 a.lo, .int .u64 a.hi] 24)) 24 #[.int .u64 b.lo, .int .u64 b.hi]).alloc (.cells #[.int .u64 0, .int .u64 0] 24))
    rw [World.size_alloc] at K1
    have K2 := (Bk.new ((w.alloc (.cells #[.int .u64 a.lo, .int .u64 a.hi] 24)).alloc (.cells #[.int .u64 b.lo, .int .u64 b.hi] 24)) 24 #[.int .u64 0, .int .u64 0])
    rw [World.size_alloc, World.size_alloc] at K2
    have B0 : Below w.heap.size w (((w.alloc (.cells #[.int .u64 a.lo, .int .u64 a.hi] 24)).alloc (.cells #[.int .u64 b.lo, .int .u64 b.hi] 24)).alloc (.cells #[.int .u64 0, .int .u64 0] 24)) := by go_grown
    generalize (((w.alloc (.cells #[.int .u64 a.lo, .int .u64 a.hi] 24)).alloc (.cells #[.int .u64 b.lo, .int .u64 b.hi] 24)).alloc (.cells #[.int .u64 0, .int .u64 0] 24)) = w0 at *
    have H0 := Lib.hid K0
    obtain ⟨c00, c01⟩ := tcells K0
    have H1 := Lib.hid K1
    obtain ⟨c10, c11⟩ := tcells K1
    have H2 := Lib.hid K2
    obtain ⟨c20, c21⟩ := tcells K2
    have f0 := K2.frozen 0
    have f1 := K2.frozen 1
    have HB := Lib.hid B0
    clear K0 K1 K2 B0
    with_reducible refine (mul_any _ _ (by omega) (by omega) (by omega) (by omega) _).mono ?_
    rintro e w' ⟨rfl, rfl⟩
    go_wp2_with fail
    with_reducible refine (uall_any _).mono ?_
    rintro e w1 ⟨rfl, qb⟩
    replace f0 := keepf qb (World.block_lt_of_cell? _ _ c20) f0
    replace f1 := keepf qb (World.block_lt_of_cell? _ _ c21) f1
    replace c00 := keep1 qb c00
    replace c01 := keep1 qb c01
    replace c10 := keep1 qb c10
    replace c11 := keep1 qb c11
    replace c20 := keep1 qb c20
    replace c21 := keep1 qb c21
    replace H0 := Lib.hid (H0.out.below qb H0.out.lt)
    replace H1 := Lib.hid (H1.out.below qb H1.out.lt)
    replace H2 := Lib.hid (H2.out.below qb H2.out.lt)
    replace HB := Lib.hid (below_then HB.out qb (Nat.le_refl _))
    clear qb
    go_wp2_with fail
    have r0 : ∀ u v, ((w1.setCell ⟨w.heap.size + 1 + 1, 0, none⟩ u).setCell ⟨w.heap.size + 1 + 1, 1, none⟩ v).cell? ⟨w.heap.size + 1 + 1, 0, none⟩ = some u := fun u v => set_fst c20
    have r1 : ∀ u v, ((w1.setCell ⟨w.heap.size + 1 + 1, 0, none⟩ u).setCell ⟨w.heap.size + 1 + 1, 1, none⟩ v).cell? ⟨w.heap.size + 1 + 1, 1, none⟩ = some v := fun u v => set_snd c21
    refine bodyPost_ret (by simp [results, Try.results25, r0, r1, go_sem]; try rfl) rfl ?_
    exact ⟨rt_u rfl rfl, below_st2 HB.out (by omega)⟩
end Go.Proofs.Ythjjfginenpfjaa
