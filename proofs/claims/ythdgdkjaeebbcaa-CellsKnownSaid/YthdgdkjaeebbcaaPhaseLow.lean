/-
  What layer 7's statements call (written, known): contracts. Conditions: as many times as the machine's ints count.
-/
import Derived.Test.YthdgdkjaeebbcaaPhaseMath2
namespace Go.Proofs.Ythdgdkjaeebbcaa
set_option maxRecDepth 100000
open Go.RowKit Ow Ph
set_option linter.unusedVariables false
set_option linter.unusedSimpArgs false
attribute [local go_sem] run_store_complex
def zv (l : List Int) : List Value := l.map (.int .i64 ·)
theorem zv_len (l : List Int) : (zv l).length = l.length := List.length_map _
theorem zv_get (l : List Int) (k : Nat) (hk : k < l.length) : (zv l)[k]? = some (.int .i64 l[k]) := by simp [zv, hk]
noncomputable def bcells (b : Bt) : Array Value := #[.complex .f64 (fl b.x) (fl b.y), .int .i64 b.n, .int .i64 b.t]
theorem bc3 {w : World} {g : Nat} {b : Bt} (h : Bk w g 80 (bcells b)) : w.cell? ⟨g, 0, none⟩ = some (.complex .f64 (fl b.x) (fl b.y)) ∧ w.cell? ⟨g, 1, none⟩ = some (.int .i64 b.n) ∧ w.cell? ⟨g, 2, none⟩ = some (.int .i64 b.t) := ⟨h.cell 0, h.cell 1, h.cell 2⟩
theorem bf3 {w : World} {g : Nat} {b : Bt} (h : Bk w g 80 (bcells b)) : w.frozen? ⟨g, 0, none⟩ = false ∧ w.frozen? ⟨g, 1, none⟩ = false ∧ w.frozen? ⟨g, 2, none⟩ = false := ⟨h.frozen 0, h.frozen 1, h.frozen 2⟩
theorem bset {w : World} {g : Nat} {b c : Bt} (h : Bk w g 80 (bcells b)) : Bk (((w.setCell ⟨g, 0, none⟩ (.complex .f64 (fl c.x) (fl c.y))).setCell ⟨g, 1, none⟩ (.int .i64 c.n)).setCell ⟨g, 2, none⟩ (.int .i64 c.t)) g 80 (bcells c) :=
  ((h.set_ 0 _).set_ 1 _).set_ 2 _
theorem bfar {w : World} {g r : Nat} {t : TypeId} {cs : Array Value} (h : Bk w g t cs) (hr : g ≠ r) (u v x : Value) : Bk (((w.setCell ⟨r, 0, none⟩ u).setCell ⟨r, 1, none⟩ v).setCell ⟨r, 2, none⟩ x) g t cs :=
  ((h.far (p := ⟨r, 0, none⟩) hr u).far (p := ⟨r, 1, none⟩) hr v).far (p := ⟨r, 2, none⟩) hr x
theorem cfar {w : World} {r : Nat} {p : Addr} (hp : p.block ≠ r) (u v x : Value) : (((w.setCell ⟨r, 0, none⟩ u).setCell ⟨r, 1, none⟩ v).setCell ⟨r, 2, none⟩ x).cell? p = w.cell? p := by
  rw [World.cell?_setCell_other _ _ _ _ (fun e => hp (congrArg Addr.block e).symm), World.cell?_setCell_other _ _ _ _ (fun e => hp (congrArg Addr.block e).symm), World.cell?_setCell_other _ _ _ _ (fun e => hp (congrArg Addr.block e).symm)]
/-- Write's contract, the answer named. -/
theorem write_t (b c : Bt) (t : Int) (n : Nat) (hb : OkB b n) (hn : n ≤ 302) (ht : i64 t) (hc : wrB b t = c) (w : World) :
    Calls Try.prog 57 #[.agg #[.complex .f64 (fl b.x) (fl b.y), .int .i64 b.n, .int .i64 b.t], .int .i64 t] w fun e w' => e = .returned (.agg #[.complex .f64 (fl c.x) (fl c.y), .int .i64 c.n, .int .i64 c.t]) ∧ Below w.heap.size w w' := by
  subst hc
  have := hb.len; have := hb.sw
  exact write_any b t (by omega) (by omega) (by omega) ht w
theorem sway_t (b : Bt) (n s : Nat) (hb : OkB b n) (hn : n ≤ 302) (hs : swB b = s) (w : World) :
    Calls Try.prog 71 #[.agg #[.complex .f64 (fl b.x) (fl b.y), .int .i64 b.n, .int .i64 b.t]] w fun e w' => e = .returned (.int .i64 s) ∧ Below w.heap.size w w' := by
  subst hs
  have := hb.len; have := hb.sw
  exact sway_any b (by omega) w
theorem steady_t (b : Bt) (n : Nat) (now : Int) (r : Bool) (hb : OkB b n) (hn : n ≤ 302) (ht : i64 b.t) (hnow : i64 now) (hr : stB b now = r) (w : World) :
    Calls Try.prog 66 #[.agg #[.complex .f64 (fl b.x) (fl b.y), .int .i64 b.n, .int .i64 b.t], .int .i64 now] w fun e w' => e = .returned (.bool r) ∧ Below w.heap.size w w' := by
  subst hr
  have := hb.len; have := hb.sw
  exact steady_any b now (by omega) (by unfold swB; omega) (by omega) ht hnow w
theorem new_t (w : World) :
    Calls Try.prog 55 #[] w fun e w' => e = .returned (.agg #[.complex .f64 (fl newB.x) (fl newB.y), .int .i64 newB.n, .int .i64 newB.t]) ∧ Below w.heap.size w w' := new_any w
theorem below_drewN {B : Nat} {w wr : World} (h : Below B w wr) (n : Nat) : Below B w (wr.drewN n) := ⟨h.os, h.tape, h.output, h.size, h.block⟩
theorem zeroB : (#[.complex .f64 0 0, .int .i64 0, .int .i64 0] : Array Value) = bcells newB := by unfold bcells newB; dsimp only; rw [fl_is.zero]; rfl
theorem zero_bk (w : World) : Bk (w.alloc (.cells #[.complex .f64 0 0, .int .i64 0, .int .i64 0] 80)) w.heap.size 80 (bcells newB) := by rw [← zeroB]; exact Bk.new w _ _
end Go.Proofs.Ythdgdkjaeebbcaa
