/-
  What package span's other functions tell: contracts. Conditions: the ends are numbers of 64 bits, Lo at most Hi.
-/
import Derived.Test.YtcimihckhobniaaGreatBSpanC
import Derived.Test.YtcimihckhobniaaGreatBSpanMath3
namespace Go.Proofs.YtcimihckhobniaaGreat
open Go.RowKit Tn Ow Sp
set_option linter.unusedVariables false
set_option linter.unusedSimpArgs false
theorem below_st2 {w w1 : World} {r : Nat} {u v : Value} (h : Below w.heap.size w w1) (hr : w.heap.size ≤ r) : Below w.heap.size w ((w1.setCell ⟨r, 0, none⟩ u).setCell ⟨r, 1, none⟩ v) :=
  (h.setCell (p := ⟨r, 0, none⟩) hr _).setCell (p := ⟨r, 1, none⟩) hr _
theorem below_al {w w1 : World} (h : Below w.heap.size w w1) (o : Obj) : Below w.heap.size w (w1.alloc o) := h.alloc h.size o
theorem uwith_any (a b : E) (w : World) :
    Calls Tryz.prog 64 #[.agg #[.int .u64 a.lo, .int .u64 a.hi], .agg #[.int .u64 b.lo, .int .u64 b.hi]] w fun e w' => e = .returned (.bool (withE a b)) ∧ Below w.heap.size w w' := by
  go_enter Tryz.func64, Tryz.ntmps64
  go_wp2_with fail
  have K0 := ((Bk.new w 26 #[.int .u64 a.lo, .int .u64 a.hi]).alloc (.cells #[.int .u64 b.lo, .int .u64 b.hi] 26))
  have K1 := (Bk.new (w.alloc (.cells #[.int .u64 a.lo, .int .u64 a.hi] 26)) 26 #[.int .u64 b.lo, .int .u64 b.hi])
  rw [World.size_alloc] at K1
  have B0 : Below w.heap.size w ((w.alloc (.cells #[.int .u64 a.lo, .int .u64 a.hi] 26)).alloc (.cells #[.int .u64 b.lo, .int .u64 b.hi] 26)) := by go_grown
  generalize ((w.alloc (.cells #[.int .u64 a.lo, .int .u64 a.hi] 26)).alloc (.cells #[.int .u64 b.lo, .int .u64 b.hi] 26)) = w0 at *
  have H0 := Lib.hid K0
  obtain ⟨c00, c01⟩ := tcells K0
  have H1 := Lib.hid K1
  obtain ⟨c10, c11⟩ := tcells K1
  have HB := Lib.hid B0
  clear K0 K1 B0
  with_reducible refine (uwithin_any a b _).mono ?_
  rintro e w1 ⟨rfl, qb⟩
  replace c00 := keep1 qb c00
  replace c01 := keep1 qb c01
  replace c10 := keep1 qb c10
  replace c11 := keep1 qb c11
  replace H0 := Lib.hid (H0.out.below qb H0.out.lt)
  replace H1 := Lib.hid (H1.out.below qb H1.out.lt)
  replace HB := Lib.hid (below_then HB.out qb (Nat.le_refl _))
  clear qb
  go_wp2_with fail
  go_returns
  exact ⟨rfl, HB.out⟩
theorem umee_any (a b : E) (w : World) :
    Calls Tryz.prog 100 #[.agg #[.int .u64 a.lo, .int .u64 a.hi], .agg #[.int .u64 b.lo, .int .u64 b.hi]] w fun e w' => e = .returned (.tuple #[.agg #[.int .u64 (meetE a b).lo, .int .u64 (meetE a b).hi], .bool (metE a b)]) ∧ Below w.heap.size w w' := by
  obtain ⟨r, hr⟩ : ∃ r : E, meetE a b = r := ⟨_, rfl⟩
  have k3 : ∀ w : World, _ := fun w => umeet_any a b w
  rw [hr] at k3 ⊢
  have K3 := Lib.hid k3
  clear k3 hr
  go_enter Tryz.func100, Tryz.ntmps100
  go_wp2_with fail
  have K0 := (((Bk.new w 26 #[.int .u64 a.lo, .int .u64 a.hi]).alloc (.cells #[.int .u64 b.lo, .int .u64 b.hi] 26)).alloc (.cells #[.int .u64 0, .int .u64 0] 26))
  have K1 := ((Bk.new (w.alloc (.cells #[.int .u64 a.lo, .int .u64 a.hi] 26)) 26 #[.int .u64 b.lo, .int .u64 b.hi]).alloc (.cells #[.int .u64 0, .int .u64 0] 26))
  rw [World.size_alloc] at K1
  have K2 := (Bk.new ((w.alloc (.cells #[.int .u64 a.lo, .int .u64 a.hi] 26)).alloc (.cells #[.int .u64 b.lo, .int .u64 b.hi] 26)) 26 #[.int .u64 0, .int .u64 0])
  rw [World.size_alloc, World.size_alloc] at K2
  have B0 : Below w.heap.size w (((w.alloc (.cells #[.int .u64 a.lo, .int .u64 a.hi] 26)).alloc (.cells #[.int .u64 b.lo, .int .u64 b.hi] 26)).alloc (.cells #[.int .u64 0, .int .u64 0] 26)) := by go_grown
  generalize (((w.alloc (.cells #[.int .u64 a.lo, .int .u64 a.hi] 26)).alloc (.cells #[.int .u64 b.lo, .int .u64 b.hi] 26)).alloc (.cells #[.int .u64 0, .int .u64 0] 26)) = w0 at *
  have H0 := Lib.hid K0
  obtain ⟨c00, c01⟩ := tcells K0
  have H1 := Lib.hid K1
  obtain ⟨c10, c11⟩ := tcells K1
  have H2 := Lib.hid K2
  obtain ⟨c20, c21⟩ := tcells K2
  have f0 := K2.frozen 0
  have f1 := K2.frozen 1
  have HB := Lib.hid B0
  clear K0 K1 K2 B0
  with_reducible refine (K3.out _).mono ?_
  rintro e w1 ⟨rfl, qb⟩
  replace f0 := keepf qb (World.block_lt_of_cell? _ _ c20) f0
  replace f1 := keepf qb (World.block_lt_of_cell? _ _ c21) f1
  replace c00 := keep1 qb c00
  replace c01 := keep1 qb c01
  replace c10 := keep1 qb c10
  replace c11 := keep1 qb c11
  replace c20 := keep1 qb c20
  replace c21 := keep1 qb c21
  replace H0 := Lib.hid (H0.out.below qb H0.out.lt)
  replace H1 := Lib.hid (H1.out.below qb H1.out.lt)
  replace H2 := Lib.hid (H2.out.below qb H2.out.lt)
  replace HB := Lib.hid (below_then HB.out qb (Nat.le_refl _))
  clear qb
  have D2 := H2.out.alloc (.cells #[.int .u64 r.lo, .int .u64 r.hi] 119)
  obtain ⟨d20, d21⟩ := tcells D2
  have g0 := D2.frozen 0
  have g1 := D2.frozen 1
  clear D2
  go_wp2_with fail
  have r0 : ∀ u v, (((w1.alloc (.cells #[.int .u64 r.lo, .int .u64 r.hi] 119)).setCell ⟨w.heap.size + 1 + 1, 0, none⟩ u).setCell ⟨w.heap.size + 1 + 1, 1, none⟩ v).cell? ⟨w.heap.size + 1 + 1, 0, none⟩ = some u := fun u v => set_fst d20
  have r1 : ∀ u v, (((w1.alloc (.cells #[.int .u64 r.lo, .int .u64 r.hi] 119)).setCell ⟨w.heap.size + 1 + 1, 0, none⟩ u).setCell ⟨w.heap.size + 1 + 1, 1, none⟩ v).cell? ⟨w.heap.size + 1 + 1, 1, none⟩ = some v := fun u v => set_snd d21
  refine bodyPost_ret (by simp [results, Tryz.results100, r0, r1, go_sem]; try rfl) rfl ?_
  exact ⟨rt_ub rfl rfl rfl, below_st2 (below_al HB.out _) (by omega)⟩
theorem swith_any (a b : E) (w : World) :
    Calls Tryz.prog 65 #[.agg #[.int .i64 a.lo, .int .i64 a.hi], .agg #[.int .i64 b.lo, .int .i64 b.hi]] w fun e w' => e = .returned (.bool (withE a b)) ∧ Below w.heap.size w w' := by
  go_enter Tryz.func65, Tryz.ntmps65
  go_wp2_with fail
  have K0 := ((Bk.new w 28 #[.int .i64 a.lo, .int .i64 a.hi]).alloc (.cells #[.int .i64 b.lo, .int .i64 b.hi] 28))
  have K1 := (Bk.new (w.alloc (.cells #[.int .i64 a.lo, .int .i64 a.hi] 28)) 28 #[.int .i64 b.lo, .int .i64 b.hi])
  rw [World.size_alloc] at K1
  have B0 : Below w.heap.size w ((w.alloc (.cells #[.int .i64 a.lo, .int .i64 a.hi] 28)).alloc (.cells #[.int .i64 b.lo, .int .i64 b.hi] 28)) := by go_grown
  generalize ((w.alloc (.cells #[.int .i64 a.lo, .int .i64 a.hi] 28)).alloc (.cells #[.int .i64 b.lo, .int .i64 b.hi] 28)) = w0 at *
  have H0 := Lib.hid K0
  obtain ⟨c00, c01⟩ := tcells K0
  have H1 := Lib.hid K1
  obtain ⟨c10, c11⟩ := tcells K1
  have HB := Lib.hid B0
  clear K0 K1 B0
  with_reducible refine (swithin_any a b _).mono ?_
  rintro e w1 ⟨rfl, qb⟩
  replace c00 := keep1 qb c00
  replace c01 := keep1 qb c01
  replace c10 := keep1 qb c10
  replace c11 := keep1 qb c11
  replace H0 := Lib.hid (H0.out.below qb H0.out.lt)
  replace H1 := Lib.hid (H1.out.below qb H1.out.lt)
  replace HB := Lib.hid (below_then HB.out qb (Nat.le_refl _))
  clear qb
  go_wp2_with fail
  go_returns
  exact ⟨rfl, HB.out⟩
theorem smee_any (a b : E) (w : World) :
    Calls Tryz.prog 102 #[.agg #[.int .i64 a.lo, .int .i64 a.hi], .agg #[.int .i64 b.lo, .int .i64 b.hi]] w fun e w' => e = .returned (.tuple #[.agg #[.int .i64 (meetE a b).lo, .int .i64 (meetE a b).hi], .bool (metE a b)]) ∧ Below w.heap.size w w' := by
  obtain ⟨r, hr⟩ : ∃ r : E, meetE a b = r := ⟨_, rfl⟩
  have k3 : ∀ w : World, _ := fun w => smeet_any a b w
  rw [hr] at k3 ⊢
  have K3 := Lib.hid k3
  clear k3 hr
  go_enter Tryz.func102, Tryz.ntmps102
  go_wp2_with fail
  have K0 := (((Bk.new w 28 #[.int .i64 a.lo, .int .i64 a.hi]).alloc (.cells #[.int .i64 b.lo, .int .i64 b.hi] 28)).alloc (.cells #[.int .i64 0, .int .i64 0] 28))
  have K1 := ((Bk.new (w.alloc (.cells #[.int .i64 a.lo, .int .i64 a.hi] 28)) 28 #[.int .i64 b.lo, .int .i64 b.hi]).alloc (.cells #[.int .i64 0, .int .i64 0] 28))
  rw [World.size_alloc] at K1
  have K2 := (Bk.new ((w.alloc (.cells #[.int .i64 a.lo, .int .i64 a.hi] 28)).alloc (.cells #[.int .i64 b.lo, .int .i64 b.hi] 28)) 28 #[.int .i64 0, .int .i64 0])
  rw [World.size_alloc, World.size_alloc] at K2
  have B0 : Below w.heap.size w (((w.alloc (.cells #[.int .i64 a.lo, .int .i64 a.hi] 28)).alloc (.cells #[.int .i64 b.lo, .int .i64 b.hi] 28)).alloc (.cells #[.int .i64 0, .int .i64 0] 28)) := by go_grown
  generalize (((w.alloc (.cells #[.int .i64 a.lo, .int .i64 a.hi] 28)).alloc (.cells #[.int .i64 b.lo, .int .i64 b.hi] 28)).alloc (.cells #[.int .i64 0, .int .i64 0] 28)) = w0 at *
  have H0 := Lib.hid K0
  obtain ⟨c00, c01⟩ := tcells K0
  have H1 := Lib.hid K1
  obtain ⟨c10, c11⟩ := tcells K1
  have H2 := Lib.hid K2
  obtain ⟨c20, c21⟩ := tcells K2
  have f0 := K2.frozen 0
  have f1 := K2.frozen 1
  have HB := Lib.hid B0
  clear K0 K1 K2 B0
  with_reducible refine (K3.out _).mono ?_
  rintro e w1 ⟨rfl, qb⟩
  replace f0 := keepf qb (World.block_lt_of_cell? _ _ c20) f0
  replace f1 := keepf qb (World.block_lt_of_cell? _ _ c21) f1
  replace c00 := keep1 qb c00
  replace c01 := keep1 qb c01
  replace c10 := keep1 qb c10
  replace c11 := keep1 qb c11
  replace c20 := keep1 qb c20
  replace c21 := keep1 qb c21
  replace H0 := Lib.hid (H0.out.below qb H0.out.lt)
  replace H1 := Lib.hid (H1.out.below qb H1.out.lt)
  replace H2 := Lib.hid (H2.out.below qb H2.out.lt)
  replace HB := Lib.hid (below_then HB.out qb (Nat.le_refl _))
  clear qb
  have D2 := H2.out.alloc (.cells #[.int .i64 r.lo, .int .i64 r.hi] 121)
  obtain ⟨d20, d21⟩ := tcells D2
  have g0 := D2.frozen 0
  have g1 := D2.frozen 1
  clear D2
  go_wp2_with fail
  have r0 : ∀ u v, (((w1.alloc (.cells #[.int .i64 r.lo, .int .i64 r.hi] 121)).setCell ⟨w.heap.size + 1 + 1, 0, none⟩ u).setCell ⟨w.heap.size + 1 + 1, 1, none⟩ v).cell? ⟨w.heap.size + 1 + 1, 0, none⟩ = some u := fun u v => set_fst d20
  have r1 : ∀ u v, (((w1.alloc (.cells #[.int .i64 r.lo, .int .i64 r.hi] 121)).setCell ⟨w.heap.size + 1 + 1, 0, none⟩ u).setCell ⟨w.heap.size + 1 + 1, 1, none⟩ v).cell? ⟨w.heap.size + 1 + 1, 1, none⟩ = some v := fun u v => set_snd d21
  refine bodyPost_ret (by simp [results, Tryz.results102, r0, r1, go_sem]; try rfl) rfl ?_
  exact ⟨rt_ub rfl rfl rfl, below_st2 (below_al HB.out _) (by omega)⟩
end Go.Proofs.YtcimihckhobniaaGreat
