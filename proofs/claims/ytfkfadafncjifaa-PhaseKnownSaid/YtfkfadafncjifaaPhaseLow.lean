/-
  What layer 7's statements call (written, known): contracts. Conditions: as many times as the machine's ints count.
-/
import Derived.Test.YtfkfadafncjifaaPhaseMath2
namespace Go.Proofs.Ytfkfadafncjifaa
open Go.RowKit Ow Ph
set_option linter.unusedVariables false
set_option linter.unusedSimpArgs false
attribute [local go_sem] run_store_complex
def zv (l : List Int) : List Value := l.map (.int .i64 ·)
theorem zv_len (l : List Int) : (zv l).length = l.length := List.length_map _
theorem zv_get (l : List Int) (k : Nat) (hk : k < l.length) : (zv l)[k]? = some (.int .i64 l[k]) := by simp [zv, hk]
noncomputable def bcells (b : Bt) : Array Value := #[.complex .f64 (fl b.x) (fl b.y), .int .i64 b.n, .int .i64 b.t]
theorem bc3 {w : World} {g : Nat} {b : Bt} (h : Bk w g 25 (bcells b)) : w.cell? ⟨g, 0, none⟩ = some (.complex .f64 (fl b.x) (fl b.y)) ∧ w.cell? ⟨g, 1, none⟩ = some (.int .i64 b.n) ∧ w.cell? ⟨g, 2, none⟩ = some (.int .i64 b.t) := ⟨h.cell 0, h.cell 1, h.cell 2⟩
theorem bf3 {w : World} {g : Nat} {b : Bt} (h : Bk w g 25 (bcells b)) : w.frozen? ⟨g, 0, none⟩ = false ∧ w.frozen? ⟨g, 1, none⟩ = false ∧ w.frozen? ⟨g, 2, none⟩ = false := ⟨h.frozen 0, h.frozen 1, h.frozen 2⟩
theorem bset {w : World} {g : Nat} {b c : Bt} (h : Bk w g 25 (bcells b)) : Bk (((w.setCell ⟨g, 0, none⟩ (.complex .f64 (fl c.x) (fl c.y))).setCell ⟨g, 1, none⟩ (.int .i64 c.n)).setCell ⟨g, 2, none⟩ (.int .i64 c.t)) g 25 (bcells c) :=
  ((h.set_ 0 _).set_ 1 _).set_ 2 _
theorem bfar {w : World} {g r : Nat} {t : TypeId} {cs : Array Value} (h : Bk w g t cs) (hr : g ≠ r) (u v x : Value) : Bk (((w.setCell ⟨r, 0, none⟩ u).setCell ⟨r, 1, none⟩ v).setCell ⟨r, 2, none⟩ x) g t cs :=
  ((h.far (p := ⟨r, 0, none⟩) hr u).far (p := ⟨r, 1, none⟩) hr v).far (p := ⟨r, 2, none⟩) hr x
theorem cfar {w : World} {r : Nat} {p : Addr} (hp : p.block ≠ r) (u v x : Value) : (((w.setCell ⟨r, 0, none⟩ u).setCell ⟨r, 1, none⟩ v).setCell ⟨r, 2, none⟩ x).cell? p = w.cell? p := by
  rw [World.cell?_setCell_other _ _ _ _ (fun e => hp (congrArg Addr.block e).symm), World.cell?_setCell_other _ _ _ _ (fun e => hp (congrArg Addr.block e).symm), World.cell?_setCell_other _ _ _ _ (fun e => hp (congrArg Addr.block e).symm)]
/-- Write's contract, the answer named. -/
theorem write_t (b c : Bt) (t : Int) (n : Nat) (hb : OkB b n) (hn : n ≤ 302) (ht : i64 t) (hc : wrB b t = c) (w : World) :
    Calls Try.prog 11 #[.agg #[.complex .f64 (fl b.x) (fl b.y), .int .i64 b.n, .int .i64 b.t], .int .i64 t] w fun e w' => e = .returned (.agg #[.complex .f64 (fl c.x) (fl c.y), .int .i64 c.n, .int .i64 c.t]) ∧ Below w.heap.size w w' := by
  subst hc
  have := hb.len; have := hb.sw
  exact write_any b t (by omega) (by omega) (by omega) ht w
theorem sway_t (b : Bt) (n s : Nat) (hb : OkB b n) (hn : n ≤ 302) (hs : swB b = s) (w : World) :
    Calls Try.prog 10 #[.agg #[.complex .f64 (fl b.x) (fl b.y), .int .i64 b.n, .int .i64 b.t]] w fun e w' => e = .returned (.int .i64 s) ∧ Below w.heap.size w w' := by
  subst hs
  have := hb.len; have := hb.sw
  exact sway_any b (by omega) w
theorem steady_t (b : Bt) (n : Nat) (now : Int) (r : Bool) (hb : OkB b n) (hn : n ≤ 302) (ht : i64 b.t) (hnow : i64 now) (hr : stB b now = r) (w : World) :
    Calls Try.prog 15 #[.agg #[.complex .f64 (fl b.x) (fl b.y), .int .i64 b.n, .int .i64 b.t], .int .i64 now] w fun e w' => e = .returned (.bool r) ∧ Below w.heap.size w w' := by
  subst hr
  have := hb.len; have := hb.sw
  exact steady_any b now (by omega) (by unfold swB; omega) (by omega) ht hnow w
theorem new_t (w : World) :
    Calls Try.prog 7 #[] w fun e w' => e = .returned (.agg #[.complex .f64 (fl newB.x) (fl newB.y), .int .i64 newB.n, .int .i64 newB.t]) ∧ Below w.heap.size w w' := new_any w
theorem below_drewN {B : Nat} {w wr : World} (h : Below B w wr) (n : Nat) : Below B w (wr.drewN n) := ⟨h.os, h.tape, h.output, h.size, h.block⟩
theorem zeroB : (#[.complex .f64 0 0, .int .i64 0, .int .i64 0] : Array Value) = bcells newB := by unfold bcells newB; dsimp only; rw [fl_is.zero]; rfl
theorem zero_bk (w : World) : Bk (w.alloc (.cells #[.complex .f64 0 0, .int .i64 0, .int .i64 0] 25)) w.heap.size 25 (bcells newB) := by rw [← zeroB]; exact Bk.new w _ _
set_option maxHeartbeats 2000000 in
theorem written_any (A : Option Addr) (n c : Nat) (xs : List Int) (hn : xs.length = n) (h1 : n ≤ 9223372036854775807) (hi : ∀ t ∈ xs, i64 t) (w : World) (hx : Rd w w.heap.size A (zv xs)) :
    Calls Try.prog 18 #[.slice A n c] w fun e w' => e = .returned (bts (xs.take 300)).val ∧ Below w.heap.size w w' := by
  have HN := Lib.hid hn
  have HX := Lib.hid hx
  have HI := Lib.hid hi
  clear hn hx hi
  go_enter Try.func18, Try.ntmps18
  go_wp2_with fail
  have K0 : Hid (Bk (w.alloc (.cells #[.complex .f64 0 0, .int .i64 0, .int .i64 0] 25)) w.heap.size 25 (bcells newB)) := Lib.hid (zero_bk w)
  have B0 : Hid (Below w.heap.size w (w.alloc (.cells #[.complex .f64 0 0, .int .i64 0, .int .i64 0] 25))) := Lib.hid (by go_grown)
  generalize (w.alloc (.cells #[.complex .f64 0 0, .int .i64 0, .int .i64 0] 25)) = w0 at *
  refine (new_t _).mono ?_
  rintro e w1 ⟨rfl, q1⟩
  have KR := Lib.hid (K0.out.below q1 K0.out.lt)
  have B1 := Lib.hid (B0.out.trans (q1.mono B0.out.size))
  clear K0 B0 q1
  go_wp2_with fail
  have R0 : Hid (Bk (w1.alloc (.cells #[.complex .f64 (fl newB.x) (fl newB.y), .int .i64 newB.n, .int .i64 newB.t] 25)) w1.heap.size 25 (bcells newB)) := Lib.hid (Bk.new w1 _ _)
  have KR1 := Lib.hid (KR.out.alloc (.cells #[.complex .f64 (fl newB.x) (fl newB.y), .int .i64 newB.n, .int .i64 newB.t] 25))
  have BB : Hid (Below w.heap.size w (w1.alloc (.cells #[.complex .f64 (fl newB.x) (fl newB.y), .int .i64 newB.n, .int .i64 newB.t] 25))) := Lib.hid (B1.out.alloc B1.out.size _)
  have hg1 : w.heap.size < w1.heap.size := KR.out.lt
  clear KR B1
  generalize hgg : w1.heap.size = gb at *
  clear hgg
  generalize w1.alloc (.cells #[.complex .f64 (fl newB.x) (fl newB.y), .int .i64 newB.n, .int .i64 newB.t] 25) = wl at *
  go_loopw [4] (fun i wr => ∃ k : Nat, k ≤ n ∧ k ≤ 300 ∧ i = .int .i64 k ∧ Hid (Bk wr gb 25 (bcells (bts (xs.take k)))) ∧ Hid (Bk wr w.heap.size 25 (bcells newB)) ∧ Hid (Below w.heap.size w wr)) (fun i _ => 300 - (intOf i).toNat)
  case atStart => exact ⟨0, Nat.zero_le _, Nat.zero_le _, rfl, R0, KR1, BB⟩
  case round =>
    obtain ⟨k, hkn, hk3, rfl, R, KR, B⟩ := hrel
    clear R0 KR1 BB
    by_cases hlt : k < n
    · have i1 : (0 : Int) ≤ (k : Int) := by omega
      have i2 : (k : Int) < (n : Int) := by omega
      by_cases hl3 : k < 300
      · have i3 : (k : Int) < 300 := by omega
        have hkx : k < xs.length := by rw [HN.out]; exact hlt
        obtain ⟨ad, rfl, hab, hcx⟩ := (HX.out.below B.out) (by rw [zv_len]; omega)
        have cx := hcx k _ (zv_get xs k hkx)
        have HE : Hid (bts (xs.take (k + 1)) = wrB (bts (xs.take k)) xs[k]) := Lib.hid (by rw [List.take_succ_eq_append_getElem hkx, bts_app])
        have HV : Hid (i64 xs[k]) := Lib.hid (HI.out _ (List.getElem_mem hkx))
        have HO : Hid (OkB (bts (xs.take k)) k) := Lib.hid (by have := bts_ok (xs.take k); rwa [List.length_take, Nat.min_eq_left (Nat.le_of_lt hkx)] at this)
        have HNE : (ad.add k).block ≠ gb := by rw [add_block]; omega
        clear hcx hab
        generalize xs[k] = v at *
        generalize bts (xs.take k) = b at *
        clear hkx
        go_wp2_with fail
        refine wp_region_held_drew (S := fun w' => w'.cell? (ad.add k) = some (.int .i64 v)) (by kernel_rfl) cx (fun g => ?_)
        obtain ⟨r0, r1, r2⟩ := bc3 R.out.drew
        have R1 := Lib.hid R.out.drew
        have B1 := Lib.hid B.out.drew
        have KR1 := Lib.hid KR.out.drew
        clear R B KR  cx
        generalize hz : World.drew _ = z at *
        clear hz
        refine tq 1 ?_ rfl (by kernel_rfl) (fun _ _ _ h => h) (by rfl) g ?_ ?_; rotate_left
        · intro w9 h9; go_simp; try with_reducible rfl
        simp only [Act.put, ptA, ptB, ptC]
        refine tq 2 ?_ rfl (by kernel_rfl) (fun _ _ _ h => h) (by rfl) g ?_ ?_; rotate_left
        · intro w9 h9; go_simp; try with_reducible rfl
        simp only [Act.put, ptA, ptB, ptC]
        refine tq 3 ?_ rfl (by kernel_rfl) (fun _ _ _ h => h) (by rfl) g ?_ ?_; rotate_left
        · intro w9 h9; go_simp; try with_reducible rfl
        simp only [Act.put, ptA, ptB, ptC]
        refine tq 4 ?_ rfl (by kernel_rfl) (fun _ _ _ h => h) (by rfl) g ?_ ?_; rotate_left
        · intro w9 h9; go_simp; try with_reducible rfl
        simp only [Act.put, ptA, ptB, ptC]
        refine tc 0 rfl (by kernel_rfl) (fun K9 hK => ?_)
        go_simp
        refine hK.out _ _ g (fun g1 => ?_)
        clear hK K9 g
        have g := g1
        clear g1
        clear r0 r1 r2
        refine tc 5 rfl (by kernel_rfl) (fun K9 hK => ?_)
        go_simp
        refine (write_t b (wrB b v) v k HO.out (by omega) HV.out rfl _).mono ?_
        rintro e w2 ⟨rfl, q⟩
        have R2 := Lib.hid (R1.out.below q R1.out.lt)
        have B2 := Lib.hid (B1.out.trans (q.mono B1.out.size))
        have KR2 := Lib.hid (KR1.out.below q KR1.out.lt)
        go_simp
        refine hK.out _ _ (keep1 q g) (fun g1 => ?_)
        clear hK K9 g
        have g := g1
        clear g1
        clear R1 B1 q KR1 
        clear z
        refine tc 6 rfl (by kernel_rfl) (fun K9 hK => ?_)
        obtain ⟨r0, r1, r2⟩ := bc3 R2.out
        obtain ⟨q0, q1, q2⟩ := bf3 R2.out
        go_simp
        refine hK.out _ _ ((cfar HNE _ _ _).trans g) (fun g1 => ?_)
        clear hK K9 g
        have g := g1
        clear g1
        have R := Lib.hid (bset R2.out (c := wrB b v))
        have B := Lib.hid (below_set3 B2.out (show _ ≤ gb by omega) (.complex .f64 (fl (wrB b v).x) (fl (wrB b v).y)) (.int .i64 (wrB b v).n) (.int .i64 (wrB b v).t))
        have KR := Lib.hid (bfar KR2.out (Nat.ne_of_lt hg1) (.complex .f64 (fl (wrB b v).x) (fl (wrB b v).y)) (.int .i64 (wrB b v).n) (.int .i64 (wrB b v).t))
        clear r0 r1 r2 q0 q1 q2 R2 B2 KR2 
        clear g
        generalize (((w2.setCell ⟨gb, 0, none⟩ (.complex .f64 (fl (wrB b v).x) (fl (wrB b v).y))).setCell ⟨gb, 1, none⟩ (.int .i64 (wrB b v).n)).setCell ⟨gb, 2, none⟩ (.int .i64 (wrB b v).t)) = z9 at *
        clear w2
        refine wpAnyH_done (by kernel_rfl) ?_ _
        go_wp2
        go_roundw
        case rel => exact ⟨k + 1, by omega, by omega, by go_num, by rw [HE.out]; exact R, KR, B⟩
        case measure => simp [intOf]; omega
      · obtain rfl : k = 300 := by omega
        have HT : ∃ b, b = bts (xs.take 300) := ⟨_, rfl⟩
        obtain ⟨b, hb⟩ := HT
        rw [← hb] at R
        have HT := Lib.hid hb.symm
        clear hb
        obtain ⟨r0, r1, r2⟩ := bc3 R.out
        obtain ⟨k0, k1, k2⟩ := bc3 KR.out
        obtain ⟨f0, f1, f2⟩ := bf3 KR.out
        have RB := Lib.hid (bset KR.out (c := b))
        have BE := Lib.hid (below_set3 B.out (Nat.le_refl w.heap.size) (.complex .f64 (fl b.x) (fl b.y)) (.int .i64 b.n) (.int .i64 b.t))
        go_wp2
        obtain ⟨s0, s1, s2⟩ := bc3 RB.out
        clear R KR B r0 r1 r2 k0 k1 k2 f0 f1 f2 RB
        generalize (((wr.setCell ⟨w.heap.size, 0, none⟩ (.complex .f64 (fl b.x) (fl b.y))).setCell ⟨w.heap.size, 1, none⟩ (.int .i64 b.n)).setCell ⟨w.heap.size, 2, none⟩ (.int .i64 b.t)) = z9 at *
        refine bodyPost_ret (by simp [results, Try.results18, s0, s1, s2, go_sem]; try rfl) rfl ?_
        exact ⟨by rw [HT.out]; rfl, BE.out⟩
    · obtain rfl : k = n := by omega
      have HT : ∃ b, b = bts (xs.take k) := ⟨_, rfl⟩
      obtain ⟨b, hb⟩ := HT
      rw [← hb] at R
      have HT : Hid (bts (xs.take 300) = b) := Lib.hid (by rw [hb, List.take_of_length_le (by rw [HN.out]; omega), List.take_of_length_le (by rw [HN.out]; omega)])
      clear hb
      obtain ⟨r0, r1, r2⟩ := bc3 R.out
      obtain ⟨k0, k1, k2⟩ := bc3 KR.out
      obtain ⟨f0, f1, f2⟩ := bf3 KR.out
      have RB := Lib.hid (bset KR.out (c := b))
      have BE := Lib.hid (below_set3 B.out (Nat.le_refl w.heap.size) (.complex .f64 (fl b.x) (fl b.y)) (.int .i64 b.n) (.int .i64 b.t))
      go_wp2
      obtain ⟨s0, s1, s2⟩ := bc3 RB.out
      clear R KR B r0 r1 r2 k0 k1 k2 f0 f1 f2 RB
      generalize (((wr.setCell ⟨w.heap.size, 0, none⟩ (.complex .f64 (fl b.x) (fl b.y))).setCell ⟨w.heap.size, 1, none⟩ (.int .i64 b.n)).setCell ⟨w.heap.size, 2, none⟩ (.int .i64 b.t)) = z9 at *
      refine bodyPost_ret (by simp [results, Try.results18, s0, s1, s2, go_sem]; try rfl) rfl ?_
      exact ⟨by rw [HT.out]; rfl, BE.out⟩
end Go.Proofs.Ytfkfadafncjifaa
