/-
  What package span's functions that the document lists tell: contracts. Conditions: the ends are numbers of 64 bits, Lo at most Hi.
-/
import Derived.Test.YthjjfginenpfjaaSpanB
namespace Go.Proofs.Ythjjfginenpfjaa
open Go.RowKit Tn Ow Sp
set_option linter.unusedVariables false
set_option linter.unusedSimpArgs false
theorem tcells {w : World} {b : Nat} {t : TypeId} {x y : Value} (h : Bk w b t #[x, y]) : w.cell? ⟨b, 0, none⟩ = some x ∧ w.cell? ⟨b, 1, none⟩ = some y := ⟨h.cell 0, h.cell 1⟩
theorem cell_set2 {W : World} {r b i : Nat} {u v : Value} (h : b ≠ r) : ((W.setCell ⟨r, 0, none⟩ u).setCell ⟨r, 1, none⟩ v).cell? ⟨b, i, none⟩ = W.cell? ⟨b, i, none⟩ := by
  rw [World.cell?_setCell_other _ _ _ _ (fun e => h (congrArg Addr.block e).symm), World.cell?_setCell_other _ _ _ _ (fun e => h (congrArg Addr.block e).symm)]
theorem set_fst {W : World} {r : Nat} {u v x : Value} (h : W.cell? ⟨r, 0, none⟩ = some x) : ((W.setCell ⟨r, 0, none⟩ u).setCell ⟨r, 1, none⟩ v).cell? ⟨r, 0, none⟩ = some u := by
  rw [World.cell?_setCell_other _ _ _ _ (fun e => by injection e with _ e2 _; omega)]
  exact World.cell?_setCell_same _ _ _ h
theorem set_snd {W : World} {r : Nat} {u v x : Value} (h : W.cell? ⟨r, 1, none⟩ = some x) : ((W.setCell ⟨r, 0, none⟩ u).setCell ⟨r, 1, none⟩ v).cell? ⟨r, 1, none⟩ = some v := by
  have e1 : (W.setCell ⟨r, 0, none⟩ u).cell? ⟨r, 1, none⟩ = W.cell? ⟨r, 1, none⟩ := World.cell?_setCell_other _ _ _ _ (fun e => by injection e with _ e2 _; omega)
  exact World.cell?_setCell_same _ _ _ (e1.trans h)
theorem keep2 {w W w2 : World} {p0 p1 : Addr} {y0 y1 : Value} (hb : Below W.heap.size W w2) (hh : W.cell? p0 = some y0 ∧ W.cell? p1 = some y1 ∧ Below w.heap.size w W) :
    w2.cell? p0 = some y0 ∧ w2.cell? p1 = some y1 ∧ Below w.heap.size w w2 := by
  obtain ⟨a0, a1, B⟩ := hh
  exact ⟨keep1 hb a0, keep1 hb a1, below_then B hb (Nat.le_refl _)⟩
theorem keep4 {w W w2 : World} {p0 p1 p2 p3 : Addr} {y0 y1 y2 y3 : Value} (hb : Below W.heap.size W w2) (hh : W.cell? p0 = some y0 ∧ W.cell? p1 = some y1 ∧ W.cell? p2 = some y2 ∧ W.cell? p3 = some y3 ∧ Below w.heap.size w W) :
    w2.cell? p0 = some y0 ∧ w2.cell? p1 = some y1 ∧ w2.cell? p2 = some y2 ∧ w2.cell? p3 = some y3 ∧ Below w.heap.size w w2 := by
  obtain ⟨a0, a1, a2, a3, B⟩ := hh
  exact ⟨keep1 hb a0, keep1 hb a1, keep1 hb a2, keep1 hb a3, below_then B hb (Nat.le_refl _)⟩
theorem keep6 {w W w2 : World} {p0 p1 p2 p3 p4 p5 : Addr} {y0 y1 y2 y3 y4 y5 : Value} (hb : Below W.heap.size W w2) (hh : W.cell? p0 = some y0 ∧ W.cell? p1 = some y1 ∧ W.cell? p2 = some y2 ∧ W.cell? p3 = some y3 ∧ W.cell? p4 = some y4 ∧ W.cell? p5 = some y5 ∧ Below w.heap.size w W) :
    w2.cell? p0 = some y0 ∧ w2.cell? p1 = some y1 ∧ w2.cell? p2 = some y2 ∧ w2.cell? p3 = some y3 ∧ w2.cell? p4 = some y4 ∧ w2.cell? p5 = some y5 ∧ Below w.heap.size w w2 := by
  obtain ⟨a0, a1, a2, a3, a4, a5, B⟩ := hh
  exact ⟨keep1 hb a0, keep1 hb a1, keep1 hb a2, keep1 hb a3, keep1 hb a4, keep1 hb a5, below_then B hb (Nat.le_refl _)⟩
theorem keep8 {w W w2 : World} {p0 p1 p2 p3 p4 p5 p6 p7 : Addr} {y0 y1 y2 y3 y4 y5 y6 y7 : Value} (hb : Below W.heap.size W w2) (hh : W.cell? p0 = some y0 ∧ W.cell? p1 = some y1 ∧ W.cell? p2 = some y2 ∧ W.cell? p3 = some y3 ∧ W.cell? p4 = some y4 ∧ W.cell? p5 = some y5 ∧ W.cell? p6 = some y6 ∧ W.cell? p7 = some y7 ∧ Below w.heap.size w W) :
    w2.cell? p0 = some y0 ∧ w2.cell? p1 = some y1 ∧ w2.cell? p2 = some y2 ∧ w2.cell? p3 = some y3 ∧ w2.cell? p4 = some y4 ∧ w2.cell? p5 = some y5 ∧ w2.cell? p6 = some y6 ∧ w2.cell? p7 = some y7 ∧ Below w.heap.size w w2 := by
  obtain ⟨a0, a1, a2, a3, a4, a5, a6, a7, B⟩ := hh
  exact ⟨keep1 hb a0, keep1 hb a1, keep1 hb a2, keep1 hb a3, keep1 hb a4, keep1 hb a5, keep1 hb a6, keep1 hb a7, below_then B hb (Nat.le_refl _)⟩
theorem keepr2 {w W w2 : World} {g0 r : Nat} {y0 y1 : Value} (hb : Below W.heap.size W w2) (hh : W.cell? ⟨g0, 0, none⟩ = some y0 ∧ W.cell? ⟨g0, 1, none⟩ = some y1 ∧ W.cell? ⟨r, 0, none⟩ = some (cv W r 0) ∧ W.cell? ⟨r, 1, none⟩ = some (cv W r 1) ∧ W.frozen? ⟨r, 0, none⟩ = false ∧ W.frozen? ⟨r, 1, none⟩ = false ∧ Below w.heap.size w W) :
    w2.cell? ⟨g0, 0, none⟩ = some y0 ∧ w2.cell? ⟨g0, 1, none⟩ = some y1 ∧ w2.cell? ⟨r, 0, none⟩ = some (cv w2 r 0) ∧ w2.cell? ⟨r, 1, none⟩ = some (cv w2 r 1) ∧ w2.frozen? ⟨r, 0, none⟩ = false ∧ w2.frozen? ⟨r, 1, none⟩ = false ∧ Below w.heap.size w w2 := by
  obtain ⟨a0, a1, k0, k1, e0, e1, B⟩ := hh
  have hr : r < W.heap.size := World.block_lt_of_cell? W _ k0
  exact ⟨keep1 hb a0, keep1 hb a1, cv_some (keep1 hb k0), cv_some (keep1 hb k1), keepf hb hr e0, keepf hb hr e1, below_then B hb (Nat.le_refl _)⟩
theorem store2 {w W : World} {g0 r : Nat} {y0 y1 u v : Value} (n0 : g0 ≠ r) (h3 : w.heap.size ≤ r) (hh : W.cell? ⟨g0, 0, none⟩ = some y0 ∧ W.cell? ⟨g0, 1, none⟩ = some y1 ∧ W.cell? ⟨r, 0, none⟩ = some (cv W r 0) ∧ W.cell? ⟨r, 1, none⟩ = some (cv W r 1) ∧ W.frozen? ⟨r, 0, none⟩ = false ∧ W.frozen? ⟨r, 1, none⟩ = false ∧ Below w.heap.size w W) :
    ((W.setCell ⟨r, 0, none⟩ u).setCell ⟨r, 1, none⟩ v).cell? ⟨g0, 0, none⟩ = some y0 ∧ ((W.setCell ⟨r, 0, none⟩ u).setCell ⟨r, 1, none⟩ v).cell? ⟨g0, 1, none⟩ = some y1 ∧ ((W.setCell ⟨r, 0, none⟩ u).setCell ⟨r, 1, none⟩ v).cell? ⟨r, 0, none⟩ = some (cv ((W.setCell ⟨r, 0, none⟩ u).setCell ⟨r, 1, none⟩ v) r 0) ∧ ((W.setCell ⟨r, 0, none⟩ u).setCell ⟨r, 1, none⟩ v).cell? ⟨r, 1, none⟩ = some (cv ((W.setCell ⟨r, 0, none⟩ u).setCell ⟨r, 1, none⟩ v) r 1) ∧ ((W.setCell ⟨r, 0, none⟩ u).setCell ⟨r, 1, none⟩ v).frozen? ⟨r, 0, none⟩ = false ∧ ((W.setCell ⟨r, 0, none⟩ u).setCell ⟨r, 1, none⟩ v).frozen? ⟨r, 1, none⟩ = false ∧ Below w.heap.size w ((W.setCell ⟨r, 0, none⟩ u).setCell ⟨r, 1, none⟩ v) := by
  obtain ⟨a0, a1, k0, k1, e0, e1, B⟩ := hh
  refine ⟨(cell_set2 n0).trans a0, (cell_set2 n0).trans a1, cv_some (set_fst k0), cv_some (set_snd k1), ?_, ?_, (B.setCell (p := ⟨r, 0, none⟩) h3 _).setCell (p := ⟨r, 1, none⟩) h3 _⟩
  · rw [World.frozen?_setCell, World.frozen?_setCell]; exact e0
  · rw [World.frozen?_setCell, World.frozen?_setCell]; exact e1
theorem keepr4 {w W w2 : World} {g0 g1 r : Nat} {y0 y1 y2 y3 : Value} (hb : Below W.heap.size W w2) (hh : W.cell? ⟨g0, 0, none⟩ = some y0 ∧ W.cell? ⟨g0, 1, none⟩ = some y1 ∧ W.cell? ⟨g1, 0, none⟩ = some y2 ∧ W.cell? ⟨g1, 1, none⟩ = some y3 ∧ W.cell? ⟨r, 0, none⟩ = some (cv W r 0) ∧ W.cell? ⟨r, 1, none⟩ = some (cv W r 1) ∧ W.frozen? ⟨r, 0, none⟩ = false ∧ W.frozen? ⟨r, 1, none⟩ = false ∧ Below w.heap.size w W) :
    w2.cell? ⟨g0, 0, none⟩ = some y0 ∧ w2.cell? ⟨g0, 1, none⟩ = some y1 ∧ w2.cell? ⟨g1, 0, none⟩ = some y2 ∧ w2.cell? ⟨g1, 1, none⟩ = some y3 ∧ w2.cell? ⟨r, 0, none⟩ = some (cv w2 r 0) ∧ w2.cell? ⟨r, 1, none⟩ = some (cv w2 r 1) ∧ w2.frozen? ⟨r, 0, none⟩ = false ∧ w2.frozen? ⟨r, 1, none⟩ = false ∧ Below w.heap.size w w2 := by
  obtain ⟨a0, a1, a2, a3, k0, k1, e0, e1, B⟩ := hh
  have hr : r < W.heap.size := World.block_lt_of_cell? W _ k0
  exact ⟨keep1 hb a0, keep1 hb a1, keep1 hb a2, keep1 hb a3, cv_some (keep1 hb k0), cv_some (keep1 hb k1), keepf hb hr e0, keepf hb hr e1, below_then B hb (Nat.le_refl _)⟩
theorem store4 {w W : World} {g0 g1 r : Nat} {y0 y1 y2 y3 u v : Value} (n0 : g0 ≠ r) (n1 : g1 ≠ r) (h3 : w.heap.size ≤ r) (hh : W.cell? ⟨g0, 0, none⟩ = some y0 ∧ W.cell? ⟨g0, 1, none⟩ = some y1 ∧ W.cell? ⟨g1, 0, none⟩ = some y2 ∧ W.cell? ⟨g1, 1, none⟩ = some y3 ∧ W.cell? ⟨r, 0, none⟩ = some (cv W r 0) ∧ W.cell? ⟨r, 1, none⟩ = some (cv W r 1) ∧ W.frozen? ⟨r, 0, none⟩ = false ∧ W.frozen? ⟨r, 1, none⟩ = false ∧ Below w.heap.size w W) :
    ((W.setCell ⟨r, 0, none⟩ u).setCell ⟨r, 1, none⟩ v).cell? ⟨g0, 0, none⟩ = some y0 ∧ ((W.setCell ⟨r, 0, none⟩ u).setCell ⟨r, 1, none⟩ v).cell? ⟨g0, 1, none⟩ = some y1 ∧ ((W.setCell ⟨r, 0, none⟩ u).setCell ⟨r, 1, none⟩ v).cell? ⟨g1, 0, none⟩ = some y2 ∧ ((W.setCell ⟨r, 0, none⟩ u).setCell ⟨r, 1, none⟩ v).cell? ⟨g1, 1, none⟩ = some y3 ∧ ((W.setCell ⟨r, 0, none⟩ u).setCell ⟨r, 1, none⟩ v).cell? ⟨r, 0, none⟩ = some (cv ((W.setCell ⟨r, 0, none⟩ u).setCell ⟨r, 1, none⟩ v) r 0) ∧ ((W.setCell ⟨r, 0, none⟩ u).setCell ⟨r, 1, none⟩ v).cell? ⟨r, 1, none⟩ = some (cv ((W.setCell ⟨r, 0, none⟩ u).setCell ⟨r, 1, none⟩ v) r 1) ∧ ((W.setCell ⟨r, 0, none⟩ u).setCell ⟨r, 1, none⟩ v).frozen? ⟨r, 0, none⟩ = false ∧ ((W.setCell ⟨r, 0, none⟩ u).setCell ⟨r, 1, none⟩ v).frozen? ⟨r, 1, none⟩ = false ∧ Below w.heap.size w ((W.setCell ⟨r, 0, none⟩ u).setCell ⟨r, 1, none⟩ v) := by
  obtain ⟨a0, a1, a2, a3, k0, k1, e0, e1, B⟩ := hh
  refine ⟨(cell_set2 n0).trans a0, (cell_set2 n0).trans a1, (cell_set2 n1).trans a2, (cell_set2 n1).trans a3, cv_some (set_fst k0), cv_some (set_snd k1), ?_, ?_, (B.setCell (p := ⟨r, 0, none⟩) h3 _).setCell (p := ⟨r, 1, none⟩) h3 _⟩
  · rw [World.frozen?_setCell, World.frozen?_setCell]; exact e0
  · rw [World.frozen?_setCell, World.frozen?_setCell]; exact e1
set_option maxHeartbeats 1000000 in
theorem uin_any (a : E) (v : Int) (w : World) :
    Calls Try.prog 15 #[.agg #[.int .u64 a.lo, .int .u64 a.hi], .int .u64 v] w fun e w' => e = .returned (.bool (inE a (v))) ∧ Below w.heap.size w w' := by
  go_enter Try.func15, Try.ntmps15
  go_wp2_with fail
  have K0 := (Bk.new w 24 #[.int .u64 a.lo, .int .u64 a.hi])
  have B0 : Below w.heap.size w (w.alloc (.cells #[.int .u64 a.lo, .int .u64 a.hi] 24)) := by go_grown
  generalize (w.alloc (.cells #[.int .u64 a.lo, .int .u64 a.hi] 24)) = w0 at *
  have H0 := Lib.hid K0
  obtain ⟨c00, c01⟩ := tcells K0
  have HB := Lib.hid B0
  clear K0 B0
  go_region_held3 (fun w' => w'.cell? ⟨w.heap.size, 0, none⟩ = some (.int .u64 a.lo) ∧ w'.cell? ⟨w.heap.size, 1, none⟩ = some (.int .u64 a.hi) ∧ Below w.heap.size w w')
    (first | exact ⟨c00, c01, HB.out.drew⟩ | exact keep2 qb (by assumption) | exact keep2 qb ⟨by assumption, by assumption, by assumption⟩ | exact keep2 qb ⟨c00, c01, HB.out.drew⟩)
    (first | (go_at_call 47; with_reducible refine (uof_any v _).mono ?_; rintro e w2 ⟨rfl, qb⟩) | (go_at_call 76; with_reducible refine (uwithin_any (ofE (v)) a _).mono ?_; rintro e w2 ⟨rfl, qb⟩))
  rename_i hH
  have BB := Lib.hid hH.2.2
  clear qb hH
  go_wp2
  go_returns
  exact ⟨rfl, BB.out⟩
set_option maxHeartbeats 1000000 in
theorem sin_any (a : E) (v : Int) (h0 : 0 ≤ v) (h1 : v ≤ 18446744073709551615) (w : World) :
    Calls Try.prog 53 #[.agg #[.int .i64 a.lo, .int .i64 a.hi], .int .u64 v] w fun e w' => e = .returned (.bool (inE a (sg v))) ∧ Below w.heap.size w w' := by
  go_enter Try.func53, Try.ntmps53
  go_wp2_with fail
  have K0 := (Bk.new w 35 #[.int .i64 a.lo, .int .i64 a.hi])
  have B0 : Below w.heap.size w (w.alloc (.cells #[.int .i64 a.lo, .int .i64 a.hi] 35)) := by go_grown
  generalize (w.alloc (.cells #[.int .i64 a.lo, .int .i64 a.hi] 35)) = w0 at *
  have H0 := Lib.hid K0
  obtain ⟨c00, c01⟩ := tcells K0
  have HB := Lib.hid B0
  clear K0 B0
  go_region_held3 (fun w' => w'.cell? ⟨w.heap.size, 0, none⟩ = some (.int .i64 a.lo) ∧ w'.cell? ⟨w.heap.size, 1, none⟩ = some (.int .i64 a.hi) ∧ Below w.heap.size w w')
    (first | exact ⟨c00, c01, HB.out.drew⟩ | exact keep2 qb (by assumption) | exact keep2 qb ⟨by assumption, by assumption, by assumption⟩ | exact keep2 qb ⟨c00, c01, HB.out.drew⟩)
    (first | (go_at_call 69; with_reducible refine (sof_any v h0 h1 _).mono ?_; rintro e w2 ⟨rfl, qb⟩) | (go_at_call 92; with_reducible refine (swithin_any (ofE (sg v)) a _).mono ?_; rintro e w2 ⟨rfl, qb⟩))
  rename_i hH
  have BB := Lib.hid hH.2.2
  clear qb hH
  go_wp2
  go_returns
  exact ⟨rfl, BB.out⟩
set_option maxHeartbeats 4000000 in
theorem uadd_any (a b : E) (ha : okU a) (hb : okU b) (w : World) :
    Calls Try.prog 21 #[.agg #[.int .u64 a.lo, .int .u64 a.hi], .agg #[.int .u64 b.lo, .int .u64 b.hi]] w fun e w' => e = .returned (.agg #[.int .u64 (uAdd a b).lo, .int .u64 (uAdd a b).hi]) ∧ Below w.heap.size w w' := by
  obtain ⟨r, hr⟩ : ∃ r : E, uAdd a b = r := ⟨_, rfl⟩
  have HA := Lib.hid ha
  have HC := Lib.hid hb
  have HR := Lib.hid hr
  have k3 : ∀ w : World, Calls Try.prog 78 #[.agg #[.int .u64 a.lo, .int .u64 a.hi], .agg #[.int .u64 b.lo, .int .u64 b.hi], .agg #[.int .u64 uAll.lo, .int .u64 uAll.hi]] w fun e w' => e = .returned (.agg #[.int .u64 r.lo, .int .u64 r.hi]) ∧ Below w.heap.size w w' := fun w => by
    have h := uadd3_any a b ha hb w
    rw [hr] at h
    exact h
  have K3 := Lib.hid k3
  rw [hr]
  clear ha hb hr k3
  go_enter Try.func21, Try.ntmps21
  go_wp2_with fail
  have K0 := (((Bk.new w 24 #[.int .u64 a.lo, .int .u64 a.hi]).alloc (.cells #[.int .u64 b.lo, .int .u64 b.hi] 24)).alloc (.cells #[.int .u64 0, .int .u64 0] 24))
  have K1 := ((Bk.new (w.alloc (.cells #[.int .u64 a.lo, .int .u64 a.hi] 24)) 24 #[.int .u64 b.lo, .int .u64 b.hi]).alloc (.cells #[.int .u64 0, .int .u64 0] 24))
  rw [World.size_alloc] at K1
  have K2 := (Bk.new ((w.alloc (.cells #[.int .u64 a.lo, .int .u64 a.hi] 24)).alloc (.cells #[.int .u64 b.lo, .int .u64 b.hi] 24)) 24 #[.int .u64 0, .int .u64 0])
  rw [World.size_alloc, World.size_alloc] at K2
  have B0 : Below w.heap.size w (((w.alloc (.cells #[.int .u64 a.lo, .int .u64 a.hi] 24)).alloc (.cells #[.int .u64 b.lo, .int .u64 b.hi] 24)).alloc (.cells #[.int .u64 0, .int .u64 0] 24)) := by go_grown
  generalize (((w.alloc (.cells #[.int .u64 a.lo, .int .u64 a.hi] 24)).alloc (.cells #[.int .u64 b.lo, .int .u64 b.hi] 24)).alloc (.cells #[.int .u64 0, .int .u64 0] 24)) = w0 at *
  have H0 := Lib.hid K0
  obtain ⟨c00, c01⟩ := tcells K0
  have H1 := Lib.hid K1
  obtain ⟨c10, c11⟩ := tcells K1
  have H2 := Lib.hid K2
  obtain ⟨c20, c21⟩ := tcells K2
  have f0 := K2.frozen 0
  have f1 := K2.frozen 1
  have HB := Lib.hid B0
  clear K0 K1 K2 B0
  go_region_held3 (fun w' => w'.cell? ⟨w.heap.size, 0, none⟩ = some (.int .u64 a.lo) ∧ w'.cell? ⟨w.heap.size, 1, none⟩ = some (.int .u64 a.hi) ∧ w'.cell? ⟨w.heap.size + 1, 0, none⟩ = some (.int .u64 b.lo) ∧ w'.cell? ⟨w.heap.size + 1, 1, none⟩ = some (.int .u64 b.hi) ∧ w'.cell? ⟨w.heap.size + 1 + 1, 0, none⟩ = some (cv w' (w.heap.size + 1 + 1) 0) ∧ w'.cell? ⟨w.heap.size + 1 + 1, 1, none⟩ = some (cv w' (w.heap.size + 1 + 1) 1) ∧ w'.frozen? ⟨w.heap.size + 1 + 1, 0, none⟩ = false ∧ w'.frozen? ⟨w.heap.size + 1 + 1, 1, none⟩ = false ∧ Below w.heap.size w w')
    (first | exact ⟨c00, c01, c10, c11, cv_some c20, cv_some c21, f0, f1, HB.out.drew⟩ | exact store4 (by omega) (by omega) (by omega) (keepr4 qb (by assumption)) | exact store4 (by omega) (by omega) (by omega) (by assumption) | exact store4 (by omega) (by omega) (by omega) ⟨by assumption, by assumption, by assumption, by assumption, by assumption, by assumption, by assumption, by assumption, by assumption⟩ | exact store4 (by omega) (by omega) (by omega) ⟨c00, c01, c10, c11, cv_some c20, cv_some c21, f0, f1, HB.out.drew⟩ | exact keepr4 qb (by assumption) | exact keepr4 qb ⟨by assumption, by assumption, by assumption, by assumption, by assumption, by assumption, by assumption, by assumption, by assumption⟩ | exact keepr4 qb ⟨c00, c01, c10, c11, cv_some c20, cv_some c21, f0, f1, HB.out.drew⟩)
    (first | (go_at_call 45; with_reducible refine (uall_any _).mono ?_; rintro e w2 ⟨rfl, qb⟩) | (go_at_call 78; with_reducible refine (K3.out _).mono ?_; rintro e w2 ⟨rfl, qb⟩))
  rename_i w1 q1 hH
  have p0 := keep1 qb (keep1 (w0 := w0.drew) q1 c20)
  have p1 := keep1 qb (keep1 (w0 := w0.drew) q1 c21)
  have BB := Lib.hid hH.2.2.2.2.2.2.2.2
  clear hH q1 qb c00 c01 c10 c11 c20 c21 f0 f1 HB
  have r0 := set_fst (u := .int .u64 r.lo) (v := .int .u64 r.hi) p0
  have r1 := set_snd (u := .int .u64 r.lo) (v := .int .u64 r.hi) p1
  revert BB r0 r1
  generalize World.setCell (World.setCell w2 _ _) _ _ = W
  intro BB r0 r1
  go_wp2
  refine bodyPost_ret (by simp [results, Try.results21, r0, r1, go_sem]; try rfl) rfl ?_
  exact ⟨rfl, BB.out⟩
set_option maxHeartbeats 4000000 in
theorem usub_any (a b : E) (ha : okU a) (hb : okU b) (w : World) :
    Calls Try.prog 23 #[.agg #[.int .u64 a.lo, .int .u64 a.hi], .agg #[.int .u64 b.lo, .int .u64 b.hi]] w fun e w' => e = .returned (.agg #[.int .u64 (uSub a b).lo, .int .u64 (uSub a b).hi]) ∧ Below w.heap.size w w' := by
  obtain ⟨r, hr⟩ : ∃ r : E, uSub a b = r := ⟨_, rfl⟩
  have HA := Lib.hid ha
  have HC := Lib.hid hb
  have HR := Lib.hid hr
  have k3 : ∀ w : World, Calls Try.prog 79 #[.agg #[.int .u64 a.lo, .int .u64 a.hi], .agg #[.int .u64 b.lo, .int .u64 b.hi], .agg #[.int .u64 uAll.lo, .int .u64 uAll.hi]] w fun e w' => e = .returned (.agg #[.int .u64 r.lo, .int .u64 r.hi]) ∧ Below w.heap.size w w' := fun w => by
    have h := usub3_any a b ha hb w
    rw [hr] at h
    exact h
  have K3 := Lib.hid k3
  rw [hr]
  clear ha hb hr k3
  go_enter Try.func23, Try.ntmps23
  go_wp2_with fail
  have K0 := (((Bk.new w 24 #[.int .u64 a.lo, .int .u64 a.hi]).alloc (.cells #[.int .u64 b.lo, .int .u64 b.hi] 24)).alloc (.cells #[.int .u64 0, .int .u64 0] 24))
  have K1 := ((Bk.new (w.alloc (.cells #[.int .u64 a.lo, .int .u64 a.hi] 24)) 24 #[.int .u64 b.lo, .int .u64 b.hi]).alloc (.cells #[.int .u64 0, .int .u64 0] 24))
  rw [World.size_alloc] at K1
  have K2 := (Bk.new ((w.alloc (.cells #[.int .u64 a.lo, .int .u64 a.hi] 24)).alloc (.cells #[.int .u64 b.lo, .int .u64 b.hi] 24)) 24 #[.int .u64 0, .int .u64 0])
  rw [World.size_alloc, World.size_alloc] at K2
  have B0 : Below w.heap.size w (((w.alloc (.cells #[.int .u64 a.lo, .int .u64 a.hi] 24)).alloc (.cells #[.int .u64 b.lo, .int .u64 b.hi] 24)).alloc (.cells #[.int .u64 0, .int .u64 0] 24)) := by go_grown
  generalize (((w.alloc (.cells #[.int .u64 a.lo, .int .u64 a.hi] 24)).alloc (.cells #[.int .u64 b.lo, .int .u64 b.hi] 24)).alloc (.cells #[.int .u64 0, .int .u64 0] 24)) = w0 at *
  have H0 := Lib.hid K0
  obtain ⟨c00, c01⟩ := tcells K0
  have H1 := Lib.hid K1
  obtain ⟨c10, c11⟩ := tcells K1
  have H2 := Lib.hid K2
  obtain ⟨c20, c21⟩ := tcells K2
  have f0 := K2.frozen 0
  have f1 := K2.frozen 1
  have HB := Lib.hid B0
  clear K0 K1 K2 B0
  go_region_held3 (fun w' => w'.cell? ⟨w.heap.size, 0, none⟩ = some (.int .u64 a.lo) ∧ w'.cell? ⟨w.heap.size, 1, none⟩ = some (.int .u64 a.hi) ∧ w'.cell? ⟨w.heap.size + 1, 0, none⟩ = some (.int .u64 b.lo) ∧ w'.cell? ⟨w.heap.size + 1, 1, none⟩ = some (.int .u64 b.hi) ∧ w'.cell? ⟨w.heap.size + 1 + 1, 0, none⟩ = some (cv w' (w.heap.size + 1 + 1) 0) ∧ w'.cell? ⟨w.heap.size + 1 + 1, 1, none⟩ = some (cv w' (w.heap.size + 1 + 1) 1) ∧ w'.frozen? ⟨w.heap.size + 1 + 1, 0, none⟩ = false ∧ w'.frozen? ⟨w.heap.size + 1 + 1, 1, none⟩ = false ∧ Below w.heap.size w w')
    (first | exact ⟨c00, c01, c10, c11, cv_some c20, cv_some c21, f0, f1, HB.out.drew⟩ | exact store4 (by omega) (by omega) (by omega) (keepr4 qb (by assumption)) | exact store4 (by omega) (by omega) (by omega) (by assumption) | exact store4 (by omega) (by omega) (by omega) ⟨by assumption, by assumption, by assumption, by assumption, by assumption, by assumption, by assumption, by assumption, by assumption⟩ | exact store4 (by omega) (by omega) (by omega) ⟨c00, c01, c10, c11, cv_some c20, cv_some c21, f0, f1, HB.out.drew⟩ | exact keepr4 qb (by assumption) | exact keepr4 qb ⟨by assumption, by assumption, by assumption, by assumption, by assumption, by assumption, by assumption, by assumption, by assumption⟩ | exact keepr4 qb ⟨c00, c01, c10, c11, cv_some c20, cv_some c21, f0, f1, HB.out.drew⟩)
    (first | (go_at_call 45; with_reducible refine (uall_any _).mono ?_; rintro e w2 ⟨rfl, qb⟩) | (go_at_call 79; with_reducible refine (K3.out _).mono ?_; rintro e w2 ⟨rfl, qb⟩))
  rename_i w1 q1 hH
  have p0 := keep1 qb (keep1 (w0 := w0.drew) q1 c20)
  have p1 := keep1 qb (keep1 (w0 := w0.drew) q1 c21)
  have BB := Lib.hid hH.2.2.2.2.2.2.2.2
  clear hH q1 qb c00 c01 c10 c11 c20 c21 f0 f1 HB
  have r0 := set_fst (u := .int .u64 r.lo) (v := .int .u64 r.hi) p0
  have r1 := set_snd (u := .int .u64 r.lo) (v := .int .u64 r.hi) p1
  revert BB r0 r1
  generalize World.setCell (World.setCell w2 _ _) _ _ = W
  intro BB r0 r1
  go_wp2
  refine bodyPost_ret (by simp [results, Try.results23, r0, r1, go_sem]; try rfl) rfl ?_
  exact ⟨rfl, BB.out⟩
set_option maxHeartbeats 4000000 in
theorem sadd_any (a b : E) (ha : okS a) (hb : okS b) (w : World) :
    Calls Try.prog 59 #[.agg #[.int .i64 a.lo, .int .i64 a.hi], .agg #[.int .i64 b.lo, .int .i64 b.hi]] w fun e w' => e = .returned (.agg #[.int .i64 (sAdd a b).lo, .int .i64 (sAdd a b).hi]) ∧ Below w.heap.size w w' := by
  obtain ⟨r, hr⟩ : ∃ r : E, sAdd a b = r := ⟨_, rfl⟩
  have HA := Lib.hid ha
  have HC := Lib.hid hb
  have HR := Lib.hid hr
  have k3 : ∀ w : World, Calls Try.prog 94 #[.agg #[.int .i64 a.lo, .int .i64 a.hi], .agg #[.int .i64 b.lo, .int .i64 b.hi], .agg #[.int .i64 sAll.lo, .int .i64 sAll.hi]] w fun e w' => e = .returned (.agg #[.int .i64 r.lo, .int .i64 r.hi]) ∧ Below w.heap.size w w' := fun w => by
    have h := sadd3_any a b ha hb w
    rw [hr] at h
    exact h
  have K3 := Lib.hid k3
  rw [hr]
  clear ha hb hr k3
  go_enter Try.func59, Try.ntmps59
  go_wp2_with fail
  have K0 := (((Bk.new w 35 #[.int .i64 a.lo, .int .i64 a.hi]).alloc (.cells #[.int .i64 b.lo, .int .i64 b.hi] 35)).alloc (.cells #[.int .i64 0, .int .i64 0] 35))
  have K1 := ((Bk.new (w.alloc (.cells #[.int .i64 a.lo, .int .i64 a.hi] 35)) 35 #[.int .i64 b.lo, .int .i64 b.hi]).alloc (.cells #[.int .i64 0, .int .i64 0] 35))
  rw [World.size_alloc] at K1
  have K2 := (Bk.new ((w.alloc (.cells #[.int .i64 a.lo, .int .i64 a.hi] 35)).alloc (.cells #[.int .i64 b.lo, .int .i64 b.hi] 35)) 35 #[.int .i64 0, .int .i64 0])
  rw [World.size_alloc, World.size_alloc] at K2
  have B0 : Below w.heap.size w (((w.alloc (.cells #[.int .i64 a.lo, .int .i64 a.hi] 35)).alloc (.cells #[.int .i64 b.lo, .int .i64 b.hi] 35)).alloc (.cells #[.int .i64 0, .int .i64 0] 35)) := by go_grown
  generalize (((w.alloc (.cells #[.int .i64 a.lo, .int .i64 a.hi] 35)).alloc (.cells #[.int .i64 b.lo, .int .i64 b.hi] 35)).alloc (.cells #[.int .i64 0, .int .i64 0] 35)) = w0 at *
  have H0 := Lib.hid K0
  obtain ⟨c00, c01⟩ := tcells K0
  have H1 := Lib.hid K1
  obtain ⟨c10, c11⟩ := tcells K1
  have H2 := Lib.hid K2
  obtain ⟨c20, c21⟩ := tcells K2
  have f0 := K2.frozen 0
  have f1 := K2.frozen 1
  have HB := Lib.hid B0
  clear K0 K1 K2 B0
  go_region_held3 (fun w' => w'.cell? ⟨w.heap.size, 0, none⟩ = some (.int .i64 a.lo) ∧ w'.cell? ⟨w.heap.size, 1, none⟩ = some (.int .i64 a.hi) ∧ w'.cell? ⟨w.heap.size + 1, 0, none⟩ = some (.int .i64 b.lo) ∧ w'.cell? ⟨w.heap.size + 1, 1, none⟩ = some (.int .i64 b.hi) ∧ w'.cell? ⟨w.heap.size + 1 + 1, 0, none⟩ = some (cv w' (w.heap.size + 1 + 1) 0) ∧ w'.cell? ⟨w.heap.size + 1 + 1, 1, none⟩ = some (cv w' (w.heap.size + 1 + 1) 1) ∧ w'.frozen? ⟨w.heap.size + 1 + 1, 0, none⟩ = false ∧ w'.frozen? ⟨w.heap.size + 1 + 1, 1, none⟩ = false ∧ Below w.heap.size w w')
    (first | exact ⟨c00, c01, c10, c11, cv_some c20, cv_some c21, f0, f1, HB.out.drew⟩ | exact store4 (by omega) (by omega) (by omega) (keepr4 qb (by assumption)) | exact store4 (by omega) (by omega) (by omega) (by assumption) | exact store4 (by omega) (by omega) (by omega) ⟨by assumption, by assumption, by assumption, by assumption, by assumption, by assumption, by assumption, by assumption, by assumption⟩ | exact store4 (by omega) (by omega) (by omega) ⟨c00, c01, c10, c11, cv_some c20, cv_some c21, f0, f1, HB.out.drew⟩ | exact keepr4 qb (by assumption) | exact keepr4 qb ⟨by assumption, by assumption, by assumption, by assumption, by assumption, by assumption, by assumption, by assumption, by assumption⟩ | exact keepr4 qb ⟨c00, c01, c10, c11, cv_some c20, cv_some c21, f0, f1, HB.out.drew⟩)
    (first | (go_at_call 67; with_reducible refine (sall_any _).mono ?_; rintro e w2 ⟨rfl, qb⟩) | (go_at_call 94; with_reducible refine (K3.out _).mono ?_; rintro e w2 ⟨rfl, qb⟩))
  rename_i w1 q1 hH
  have p0 := keep1 qb (keep1 (w0 := w0.drew) q1 c20)
  have p1 := keep1 qb (keep1 (w0 := w0.drew) q1 c21)
  have BB := Lib.hid hH.2.2.2.2.2.2.2.2
  clear hH q1 qb c00 c01 c10 c11 c20 c21 f0 f1 HB
  have r0 := set_fst (u := .int .i64 r.lo) (v := .int .i64 r.hi) p0
  have r1 := set_snd (u := .int .i64 r.lo) (v := .int .i64 r.hi) p1
  revert BB r0 r1
  generalize World.setCell (World.setCell w2 _ _) _ _ = W
  intro BB r0 r1
  go_wp2
  refine bodyPost_ret (by simp [results, Try.results59, r0, r1, go_sem]; try rfl) rfl ?_
  exact ⟨rfl, BB.out⟩
set_option maxHeartbeats 4000000 in
theorem ssub_any (a b : E) (ha : okS a) (hb : okS b) (w : World) :
    Calls Try.prog 61 #[.agg #[.int .i64 a.lo, .int .i64 a.hi], .agg #[.int .i64 b.lo, .int .i64 b.hi]] w fun e w' => e = .returned (.agg #[.int .i64 (sSub a b).lo, .int .i64 (sSub a b).hi]) ∧ Below w.heap.size w w' := by
  obtain ⟨r, hr⟩ : ∃ r : E, sSub a b = r := ⟨_, rfl⟩
  have HA := Lib.hid ha
  have HC := Lib.hid hb
  have HR := Lib.hid hr
  have k3 : ∀ w : World, Calls Try.prog 96 #[.agg #[.int .i64 a.lo, .int .i64 a.hi], .agg #[.int .i64 b.lo, .int .i64 b.hi], .agg #[.int .i64 sAll.lo, .int .i64 sAll.hi]] w fun e w' => e = .returned (.agg #[.int .i64 r.lo, .int .i64 r.hi]) ∧ Below w.heap.size w w' := fun w => by
    have h := ssub3_any a b ha hb w
    rw [hr] at h
    exact h
  have K3 := Lib.hid k3
  rw [hr]
  clear ha hb hr k3
  go_enter Try.func61, Try.ntmps61
  go_wp2_with fail
  have K0 := (((Bk.new w 35 #[.int .i64 a.lo, .int .i64 a.hi]).alloc (.cells #[.int .i64 b.lo, .int .i64 b.hi] 35)).alloc (.cells #[.int .i64 0, .int .i64 0] 35))
  have K1 := ((Bk.new (w.alloc (.cells #[.int .i64 a.lo, .int .i64 a.hi] 35)) 35 #[.int .i64 b.lo, .int .i64 b.hi]).alloc (.cells #[.int .i64 0, .int .i64 0] 35))
  rw [World.size_alloc] at K1
  have K2 := (Bk.new ((w.alloc (.cells #[.int .i64 a.lo, .int .i64 a.hi] 35)).alloc (.cells #[.int .i64 b.lo, .int .i64 b.hi] 35)) 35 #[.int .i64 0, .int .i64 0])
  rw [World.size_alloc, World.size_alloc] at K2
  have B0 : Below w.heap.size w (((w.alloc (.cells #[.int .i64 a.lo, .int .i64 a.hi] 35)).alloc (.cells #[.int .i64 b.lo, .int .i64 b.hi] 35)).alloc (.cells #[.int .i64 0, .int .i64 0] 35)) := by go_grown
  generalize (((w.alloc (.cells #[.int .i64 a.lo, .int .i64 a.hi] 35)).alloc (.cells #[.int .i64 b.lo, .int .i64 b.hi] 35)).alloc (.cells #[.int .i64 0, .int .i64 0] 35)) = w0 at *
  have H0 := Lib.hid K0
  obtain ⟨c00, c01⟩ := tcells K0
  have H1 := Lib.hid K1
  obtain ⟨c10, c11⟩ := tcells K1
  have H2 := Lib.hid K2
  obtain ⟨c20, c21⟩ := tcells K2
  have f0 := K2.frozen 0
  have f1 := K2.frozen 1
  have HB := Lib.hid B0
  clear K0 K1 K2 B0
  go_region_held3 (fun w' => w'.cell? ⟨w.heap.size, 0, none⟩ = some (.int .i64 a.lo) ∧ w'.cell? ⟨w.heap.size, 1, none⟩ = some (.int .i64 a.hi) ∧ w'.cell? ⟨w.heap.size + 1, 0, none⟩ = some (.int .i64 b.lo) ∧ w'.cell? ⟨w.heap.size + 1, 1, none⟩ = some (.int .i64 b.hi) ∧ w'.cell? ⟨w.heap.size + 1 + 1, 0, none⟩ = some (cv w' (w.heap.size + 1 + 1) 0) ∧ w'.cell? ⟨w.heap.size + 1 + 1, 1, none⟩ = some (cv w' (w.heap.size + 1 + 1) 1) ∧ w'.frozen? ⟨w.heap.size + 1 + 1, 0, none⟩ = false ∧ w'.frozen? ⟨w.heap.size + 1 + 1, 1, none⟩ = false ∧ Below w.heap.size w w')
    (first | exact ⟨c00, c01, c10, c11, cv_some c20, cv_some c21, f0, f1, HB.out.drew⟩ | exact store4 (by omega) (by omega) (by omega) (keepr4 qb (by assumption)) | exact store4 (by omega) (by omega) (by omega) (by assumption) | exact store4 (by omega) (by omega) (by omega) ⟨by assumption, by assumption, by assumption, by assumption, by assumption, by assumption, by assumption, by assumption, by assumption⟩ | exact store4 (by omega) (by omega) (by omega) ⟨c00, c01, c10, c11, cv_some c20, cv_some c21, f0, f1, HB.out.drew⟩ | exact keepr4 qb (by assumption) | exact keepr4 qb ⟨by assumption, by assumption, by assumption, by assumption, by assumption, by assumption, by assumption, by assumption, by assumption⟩ | exact keepr4 qb ⟨c00, c01, c10, c11, cv_some c20, cv_some c21, f0, f1, HB.out.drew⟩)
    (first | (go_at_call 67; with_reducible refine (sall_any _).mono ?_; rintro e w2 ⟨rfl, qb⟩) | (go_at_call 96; with_reducible refine (K3.out _).mono ?_; rintro e w2 ⟨rfl, qb⟩))
  rename_i w1 q1 hH
  have p0 := keep1 qb (keep1 (w0 := w0.drew) q1 c20)
  have p1 := keep1 qb (keep1 (w0 := w0.drew) q1 c21)
  have BB := Lib.hid hH.2.2.2.2.2.2.2.2
  clear hH q1 qb c00 c01 c10 c11 c20 c21 f0 f1 HB
  have r0 := set_fst (u := .int .i64 r.lo) (v := .int .i64 r.hi) p0
  have r1 := set_snd (u := .int .i64 r.lo) (v := .int .i64 r.hi) p1
  revert BB r0 r1
  generalize World.setCell (World.setCell w2 _ _) _ _ = W
  intro BB r0 r1
  go_wp2
  refine bodyPost_ret (by simp [results, Try.results61, r0, r1, go_sem]; try rfl) rfl ?_
  exact ⟨rfl, BB.out⟩
end Go.Proofs.Ythjjfginenpfjaa
