/-
  What package span's functions that the document lists tell: contracts. Conditions: the ends are numbers of 64 bits, Lo at most Hi.
-/
import Derived.Test.YtcimihckhobniaaGreatBSpanB
namespace Go.Proofs.YtcimihckhobniaaGreat
open Go.RowKit Tn Ow Sp
set_option linter.unusedVariables false
set_option linter.unusedSimpArgs false
theorem tcells {w : World} {b : Nat} {t : TypeId} {x y : Value} (h : Bk w b t #[x, y]) : w.cell? ⟨b, 0, none⟩ = some x ∧ w.cell? ⟨b, 1, none⟩ = some y := ⟨h.cell 0, h.cell 1⟩
theorem set_fst {W : World} {r : Nat} {u v x : Value} (h : W.cell? ⟨r, 0, none⟩ = some x) : ((W.setCell ⟨r, 0, none⟩ u).setCell ⟨r, 1, none⟩ v).cell? ⟨r, 0, none⟩ = some u := by
  rw [World.cell?_setCell_other _ _ _ _ (fun e => by injection e with _ e2 _; omega)]
  exact World.cell?_setCell_same _ _ _ h
theorem set_snd {W : World} {r : Nat} {u v x : Value} (h : W.cell? ⟨r, 1, none⟩ = some x) : ((W.setCell ⟨r, 0, none⟩ u).setCell ⟨r, 1, none⟩ v).cell? ⟨r, 1, none⟩ = some v := by
  have e1 : (W.setCell ⟨r, 0, none⟩ u).cell? ⟨r, 1, none⟩ = W.cell? ⟨r, 1, none⟩ := World.cell?_setCell_other _ _ _ _ (fun e => by injection e with _ e2 _; omega)
  exact World.cell?_setCell_same _ _ _ (e1.trans h)
theorem keep2 {w W w2 : World} {p0 p1 : Addr} {y0 y1 : Value} (hb : Below W.heap.size W w2) (hh : W.cell? p0 = some y0 ∧ W.cell? p1 = some y1 ∧ Below w.heap.size w W) :
    w2.cell? p0 = some y0 ∧ w2.cell? p1 = some y1 ∧ Below w.heap.size w w2 := by
  obtain ⟨a0, a1, B⟩ := hh
  exact ⟨keep1 hb a0, keep1 hb a1, below_then B hb (Nat.le_refl _)⟩
set_option maxHeartbeats 1000000 in
theorem uin_any (a : E) (v : Int) (w : World) :
    Calls Tryz.prog 58 #[.agg #[.int .u64 a.lo, .int .u64 a.hi], .int .u64 v] w fun e w' => e = .returned (.bool (inE a (v))) ∧ Below w.heap.size w w' := by
  go_enter Tryz.func58, Tryz.ntmps58
  go_wp2_with fail
  have K0 := (Bk.new w 26 #[.int .u64 a.lo, .int .u64 a.hi])
  have B0 : Below w.heap.size w (w.alloc (.cells #[.int .u64 a.lo, .int .u64 a.hi] 26)) := by go_grown
  generalize (w.alloc (.cells #[.int .u64 a.lo, .int .u64 a.hi] 26)) = w0 at *
  have H0 := Lib.hid K0
  obtain ⟨c00, c01⟩ := tcells K0
  have HB := Lib.hid B0
  clear K0 B0
  go_region_held3 (fun w' => w'.cell? ⟨w.heap.size, 0, none⟩ = some (.int .u64 a.lo) ∧ w'.cell? ⟨w.heap.size, 1, none⟩ = some (.int .u64 a.hi) ∧ Below w.heap.size w w')
    (first | exact ⟨c00, c01, HB.out.drew⟩ | exact keep2 qb (by assumption) | exact keep2 qb ⟨by assumption, by assumption, by assumption⟩ | exact keep2 qb ⟨c00, c01, HB.out.drew⟩)
    (first | (go_at_call 44; with_reducible refine (uof_any v _).mono ?_; rintro e w2 ⟨rfl, qb⟩) | (go_at_call 115; with_reducible refine (uwithin_any (ofE (v)) a _).mono ?_; rintro e w2 ⟨rfl, qb⟩))
  rename_i hH
  have BB := Lib.hid hH.2.2
  clear qb hH
  go_wp2
  go_returns
  exact ⟨rfl, BB.out⟩
set_option maxHeartbeats 1000000 in
theorem sin_any (a : E) (v : Int) (h0 : 0 ≤ v) (h1 : v ≤ 18446744073709551615) (w : World) :
    Calls Tryz.prog 59 #[.agg #[.int .i64 a.lo, .int .i64 a.hi], .int .u64 v] w fun e w' => e = .returned (.bool (inE a (sg v))) ∧ Below w.heap.size w w' := by
  go_enter Tryz.func59, Tryz.ntmps59
  go_wp2_with fail
  have K0 := (Bk.new w 28 #[.int .i64 a.lo, .int .i64 a.hi])
  have B0 : Below w.heap.size w (w.alloc (.cells #[.int .i64 a.lo, .int .i64 a.hi] 28)) := by go_grown
  generalize (w.alloc (.cells #[.int .i64 a.lo, .int .i64 a.hi] 28)) = w0 at *
  have H0 := Lib.hid K0
  obtain ⟨c00, c01⟩ := tcells K0
  have HB := Lib.hid B0
  clear K0 B0
  go_region_held3 (fun w' => w'.cell? ⟨w.heap.size, 0, none⟩ = some (.int .i64 a.lo) ∧ w'.cell? ⟨w.heap.size, 1, none⟩ = some (.int .i64 a.hi) ∧ Below w.heap.size w w')
    (first | exact ⟨c00, c01, HB.out.drew⟩ | exact keep2 qb (by assumption) | exact keep2 qb ⟨by assumption, by assumption, by assumption⟩ | exact keep2 qb ⟨c00, c01, HB.out.drew⟩)
    (first | (go_at_call 45; with_reducible refine (sof_any v h0 h1 _).mono ?_; rintro e w2 ⟨rfl, qb⟩) | (go_at_call 116; with_reducible refine (swithin_any (ofE (sg v)) a _).mono ?_; rintro e w2 ⟨rfl, qb⟩))
  rename_i hH
  have BB := Lib.hid hH.2.2
  clear qb hH
  go_wp2
  go_returns
  exact ⟨rfl, BB.out⟩
end Go.Proofs.YtcimihckhobniaaGreat
