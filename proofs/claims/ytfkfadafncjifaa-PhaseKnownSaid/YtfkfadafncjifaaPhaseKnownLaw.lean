/-
  Proved: the statement PhaseKnown: the chapter's examples, and times at their ends. No conditions.
-/
import Derived.Test.YtfkfadafncjifaaRows
import Derived.Test.YtfkfadafncjifaaPhaseOpen
import Derived.Deep.DeepCutAuto
import Derived.WalkKit
import Derived.ProofKit
import Derived.OpenShut
import Derived.ChangeOld
import Derived.Below
namespace Go.Proofs.Ytfkfadafncjifaa.phaseKnown
open Go.ChangeShapes Go.WideShapes Go.ChangeAt Go.RowKit Ow Ph
set_option linter.unusedVariables false
set_option linter.unusedSimpArgs false
attribute [local go_sem] run_store_complex

theorem own : ownKnob Try.prog.godebug = none := by kernel_rfl
theorem laidOut : laidOutB Try.prog = true := by kernel_rfl

theorem tri_sw (v : Int) : swB (bts [v, v, v]) = 3 := sw_step [v, v, v] (v % 4) (by intro x hx; simp at hx; rw [hx])
theorem tri_st (v now : Int) : stB (bts [v, v, v]) now = (decide (v ≤ now) && decide (4 ≤ now - v)) := by
  unfold stB
  rw [tri_sw]
  rfl
def endsL : List Int := [-9223372036854775808, -1, 0, 9223372036854775807]
theorem ends_i64 {k : Nat} (hk : k < endsL.length) : i64 endsL[k] := by
  match k, hk with
  | 0, _ => simp [endsL, i64]
  | 1, _ => simp [endsL, i64]
  | 2, _ => simp [endsL, i64]
  | 3, _ => simp [endsL, i64]
theorem ends_st {k : Nat} (hk : k < endsL.length) : stB (bts [endsL[k], endsL[k], endsL[k]]) endsL[k] = false ∧ stB (bts [endsL[k], endsL[k], endsL[k]]) (-9223372036854775808) = false ∧ stB (bts [endsL[k], endsL[k], endsL[k]]) 9223372036854775807 = decide ((k : Int) < 3) := by
  rw [tri_st, tri_st, tri_st]
  match k, hk with
  | 0, _ => simp [endsL]
  | 1, _ => simp [endsL]
  | 2, _ => simp [endsL]
  | 3, _ => simp [endsL]
theorem rd_row (z : World) (v : Int) : Rd (z.alloc (.cells #[.int .i64 v, .int .i64 v, .int .i64 v] 3)) (z.alloc (.cells #[.int .i64 v, .int .i64 v, .int .i64 v] 3)).heap.size (some ⟨z.heap.size, 0, none⟩) (zv [v, v, v]) := by
  have h := rd_new (w := z) (t := 3) (l := [v, v, v])
  have e : (zv [v, v, v]).toArray = #[.int .i64 v, .int .i64 v, .int .i64 v] := rfl
  rw [e] at h
  exact h
theorem rd_row4 (z : World) : Rd (z.alloc (.cells #[.int .i64 (-1), .int .i64 (-2), .int .i64 (-3), .int .i64 (-4)] 3)) (z.alloc (.cells #[.int .i64 (-1), .int .i64 (-2), .int .i64 (-3), .int .i64 (-4)] 3)).heap.size (some ⟨z.heap.size, 0, none⟩) (zv [-1, -2, -3, -4]) := by
  have h := rd_new (w := z) (t := 3) (l := [-1, -2, -3, -4])
  have e : (zv [-1, -2, -3, -4]).toArray = #[.int .i64 (-1), .int .i64 (-2), .int .i64 (-3), .int .i64 (-4)] := rfl
  rw [e] at h
  exact h
theorem add0 (b k : Nat) : ((⟨b, 0, none⟩ : Addr).add k) = ⟨b, k, none⟩ := by unfold Addr.add; split <;> simp_all
theorem keepA {W : World} {p : Addr} {v : Value} (o : Obj) (h : W.cell? p = some v) : (W.alloc o).cell? p = some v := keep1 ((Below.refl _ _).alloc (Nat.le_refl _) o) h

set_option maxRecDepth 100000 in
set_option maxHeartbeats 4000000 in
theorem walk (w : World) :
    Calls Try.prog 6 #[] w fun e w' => e = .returned (.bool true) ∧ Below w.heap.size w w' := by
  have HZ : Hid (Rd (w.alloc (.cells #[.int .i64 (-9223372036854775808), .int .i64 (-1), .int .i64 0, .int .i64 9223372036854775807] 3)) (w.alloc (.cells #[.int .i64 (-9223372036854775808), .int .i64 (-1), .int .i64 0, .int .i64 9223372036854775807] 3)).heap.size (some ⟨w.heap.size, 0, none⟩) (zv endsL)) := Lib.hid rd_new
  have B0 : Hid (Below w.heap.size w (w.alloc (.cells #[.int .i64 (-9223372036854775808), .int .i64 (-1), .int .i64 0, .int .i64 9223372036854775807] 3))) := Lib.hid ((Below.refl _ _).alloc (Nat.le_refl _) _)
  have hsz : (w.alloc (.cells #[.int .i64 (-9223372036854775808), .int .i64 (-1), .int .i64 0, .int .i64 9223372036854775807] 3)).heap.size = w.heap.size + 1 := by simp
  go_enter Try.func6, Try.ntmps6
  go_wp2_with fail
  generalize (w.alloc (.cells #[.int .i64 (-9223372036854775808), .int .i64 (-1), .int .i64 0, .int .i64 9223372036854775807] 3)) = w1 at *
  go_loopw [2] (fun i wr => ∃ k : Nat, k ≤ 4 ∧ i = .int .i64 k ∧ Hid (Below w1.heap.size w1 wr)) (fun i _ => 4 - (intOf i).toNat)
  case atStart => exact ⟨0, Nat.zero_le _, rfl, Lib.hid (Below.refl _ _)⟩
  case round =>
    obtain ⟨k, hk, rfl, B⟩ := hrel
    by_cases hlt : k < 4
    · have i1 : (0 : Int) ≤ (k : Int) := by omega
      have i2 : (k : Int) < 4 := by omega
      have hkx : k < endsL.length := hlt
      obtain ⟨ad, had, hab, hcx⟩ := (HZ.out.below B.out) (by decide)
      injection had with had
      subst had
      have cx := hcx k _ (zv_get endsL k hkx)
      have HX : Hid ((zv endsL)[k]? = some (.int .i64 endsL[k])) := Lib.hid (zv_get endsL k hkx)
      have HI : Hid (i64 endsL[k]) := Lib.hid (ends_i64 hkx)
      obtain ⟨h1, h2, h3⟩ := ends_st hkx
      have H1 := Lib.hid h1
      have H2 := Lib.hid h2
      have H3 := Lib.hid h3
      rw [add0] at cx
      clear hcx h1 h2 h3
      generalize endsL[k] = v at *
      have WC := fun (A : Option Addr) (w : World) (hr : Rd w w.heap.size A (zv [v, v, v])) => written_any A 3 3 [v, v, v] rfl (by decide) (by have := HI.out; intro t ht; simp at ht; rw [ht]; exact this) w hr
      rw [show ([v, v, v] : List Int).take 300 = [v, v, v] from rfl] at WC
      have OC : Hid (OkB (bts [v, v, v]) 3) := Lib.hid (bts_ok [v, v, v])
      have OS : Hid (swB (bts [v, v, v]) = 3) := Lib.hid (tri_sw v)
      have OT : Hid (i64 (bts [v, v, v]).t) := HI
      generalize bts [v, v, v] = c at *
      go_upto_region 5 with (fail)
      go_cut [3] (fun s3 wx => ∃ gb : Nat, s3 = .pointer (some ⟨gb, 0, none⟩) ∧ Hid (Bk wx gb 25 (bcells c)) ∧ Hid (Below w1.heap.size w1 wx))
      case first =>
        refine wp_region_held_drew (S := fun w' => w'.cell? ⟨w.heap.size, k, none⟩ = some (.int .i64 v)) (by kernel_rfl) cx (fun g => ?_)
        have B1 := Lib.hid B.out.drew
        clear cx B
        generalize hz : World.drew _ = z at *
        clear hz
        refine tq 0 ?_ rfl (by kernel_rfl) (fun _ _ _ h => h) (by rfl) g ?_ ?_; rotate_left
        · intro w9 h9; go_simp; try with_reducible rfl
        simp only [Act.put, ptA, ptB, ptC]
        refine tq 1 ?_ rfl (by kernel_rfl) (fun _ _ _ h => h) (by rfl) g ?_ ?_; rotate_left
        · intro w9 h9; go_simp; try with_reducible rfl
        simp only [Act.put, ptA, ptB, ptC]
        refine tq 2 ?_ rfl (by kernel_rfl) (fun _ _ _ h => h) (by rfl) g ?_ ?_; rotate_left
        · intro w9 h9; go_simp; try with_reducible rfl
        simp only [Act.put, ptA, ptB, ptC]
        refine tq 3 ?_ rfl (by kernel_rfl) (fun _ _ _ h => h) (by rfl) g ?_ ?_; rotate_left
        · intro w9 h9; go_simp; try with_reducible rfl
        simp only [Act.put, ptA, ptB, ptC]
        refine tq 4 ?_ rfl (by kernel_rfl) (fun _ _ _ h => h) (by rfl) g ?_ ?_; rotate_left
        · intro w9 h9; go_simp; try with_reducible rfl
        simp only [Act.put, ptA, ptB, ptC]
        refine tq 5 ?_ rfl (by kernel_rfl) (fun _ _ _ h => h) (by rfl) g ?_ ?_; rotate_left
        · intro w9 h9; go_simp; try with_reducible rfl
        simp only [Act.put, ptA, ptB, ptC]
        refine tq 6 ?_ rfl (by kernel_rfl) (fun _ _ _ h => h) (by rfl) g ?_ ?_; rotate_left
        · intro w9 h9; go_simp; try with_reducible rfl
        simp only [Act.put, ptA, ptB, ptC]
        refine tq 7 ?_ rfl (by kernel_rfl) (fun _ _ _ h => h) (by rfl) g ?_ ?_; rotate_left
        · intro w9 h9; go_simp; try with_reducible rfl
        simp only [Act.put, ptA, ptB, ptC]
        refine tq 8 ?_ rfl (by kernel_rfl) (fun _ _ _ h => h) (by rfl) g ?_ ?_; rotate_left
        · intro w9 h9; go_simp; try with_reducible rfl
        simp only [Act.put, ptA, ptB, ptC]
        refine tq 9 ?_ rfl (by kernel_rfl) (fun _ _ _ h => h) (by rfl) g ?_ ?_; rotate_left
        · intro w9 h9; go_simp; try with_reducible rfl
        simp only [Act.put, ptA, ptB, ptC]
        refine tq 10 ?_ rfl (by kernel_rfl) (fun _ _ _ h => h) (by rfl) g ?_ ?_; rotate_left
        · intro w9 h9; go_simp; try with_reducible rfl
        simp only [Act.put, ptA, ptB, ptC]
        refine tq 11 ?_ rfl (by kernel_rfl) (fun _ _ _ h => h) (by rfl) g ?_ ?_; rotate_left
        · intro w9 h9; go_simp; try with_reducible rfl
        simp only [Act.put, ptA, ptB, ptC]
        have hz1 := B1.out.size
        have RD0 : Hid (Rd (z.alloc (.cells #[.int .i64 v, .int .i64 v, .int .i64 v] 3)) (z.alloc (.cells #[.int .i64 v, .int .i64 v, .int .i64 v] 3)).heap.size (some ⟨z.heap.size, 0, none⟩) (zv [v, v, v])) := Lib.hid (rd_row z v)
        refine wpAnyH_ready (rs := [12, 14]) (by kernel_rfl) (by simp) (tr 12 rfl (fun K9 hK => ?_) (tr 14 rfl (fun K9 hK => ?_) AllReadyH.nil))
        · go_simp
          refine hK.out _ _ (keepA _ g) (fun g1 => ?_)
          clear hK K9 g
          have g := g1
          clear g1
          refine wpAnyH_ready (rs := [13, 14]) (by kernel_rfl) (by simp) (tr 13 rfl (fun K9 hK => ?_) (tr 14 rfl (fun K9 hK => ?_) AllReadyH.nil))
          · go_simp
            with_reducible refine (WC _ _ RD0.out).mono ?_
            rintro e w2 ⟨rfl, q⟩
            unfold Bt.val
            go_simp
            refine hK.out _ _ (keep1 q g) (fun g1 => ?_)
            clear hK K9 g
            have g := g1
            clear g1
            have B2 := Lib.hid ((B1.out.alloc B1.out.size (.cells #[.int .i64 v, .int .i64 v, .int .i64 v] 3)).trans (q.mono (B1.out.alloc B1.out.size (.cells #[.int .i64 v, .int .i64 v, .int .i64 v] 3)).size))
            clear q
            refine tc 14 rfl (by kernel_rfl) (fun K9 hK => ?_)
            go_simp
            refine hK.out _ _ (keepA _ g) (fun g1 => ?_)
            clear hK K9 g
            have g := g1
            clear g1
            have R2 : Hid (Bk (w2.alloc (.cells #[.complex .f64 0 0, .int .i64 0, .int .i64 0] 25)) w2.heap.size 25 (bcells newB)) := Lib.hid (zero_bk w2)
            have B3 := Lib.hid (B2.out.alloc B2.out.size (.cells #[.complex .f64 0 0, .int .i64 0, .int .i64 0] 25))
            have HG := B2.out.size
            clear B2 B1
            have B2 := B3
            clear B3 RD0
            generalize w2.heap.size = g5 at *
            generalize w2.alloc (.cells #[.complex .f64 0 0, .int .i64 0, .int .i64 0] 25) = w5 at *
            refine tc 15 rfl (by kernel_rfl) (fun K9 hK => ?_)
            obtain ⟨r0, r1, r2⟩ := bc3 R2.out
            obtain ⟨q0, q1, q2⟩ := bf3 R2.out
            go_simp
            refine hK.out _ _ ((cfar (by (try dsimp only); omega) _ _ _).trans g) (fun g1 => ?_)
            clear hK K9 g
            have g := g1
            clear g1
            have R := Lib.hid (bset R2.out (c := c))
            have B := Lib.hid (below_set3 B2.out (show w1.heap.size ≤ g5 by (try dsimp only); omega) (.complex .f64 (fl c.x) (fl c.y)) (.int .i64 c.n) (.int .i64 c.t))
            clear r0 r1 r2 q0 q1 q2 R2 B2
            clear g
            refine wpAnyH_done (by kernel_rfl) ?_ _
            go_wp2_with fail
            go_meet
            case rel => exact ⟨_, rfl, R, B⟩
          · go_simp
            refine hK.out _ _ (keepA _ g) (fun g1 => ?_)
            clear hK K9 g
            have g := g1
            clear g1
            have R1 : Hid (Bk ((z.alloc (.cells #[.int .i64 v, .int .i64 v, .int .i64 v] 3)).alloc (.cells #[.complex .f64 0 0, .int .i64 0, .int .i64 0] 25)) (z.alloc (.cells #[.int .i64 v, .int .i64 v, .int .i64 v] 3)).heap.size 25 (bcells newB)) := Lib.hid (zero_bk (z.alloc (.cells #[.int .i64 v, .int .i64 v, .int .i64 v] 3)))
            have B3 := Lib.hid ((B1.out.alloc B1.out.size (.cells #[.int .i64 v, .int .i64 v, .int .i64 v] 3)).alloc (B1.out.alloc B1.out.size (.cells #[.int .i64 v, .int .i64 v, .int .i64 v] 3)).size (.cells #[.complex .f64 0 0, .int .i64 0, .int .i64 0] 25))
            have RD : Hid (Rd ((z.alloc (.cells #[.int .i64 v, .int .i64 v, .int .i64 v] 3)).alloc (.cells #[.complex .f64 0 0, .int .i64 0, .int .i64 0] 25)) ((z.alloc (.cells #[.int .i64 v, .int .i64 v, .int .i64 v] 3)).alloc (.cells #[.complex .f64 0 0, .int .i64 0, .int .i64 0] 25)).heap.size (some ⟨z.heap.size, 0, none⟩) (zv [v, v, v])) := Lib.hid (((rd_row z v).alloc (Nat.le_refl _) (.cells #[.complex .f64 0 0, .int .i64 0, .int .i64 0] 25)).mono (by simp))
            refine tc 13 rfl (by kernel_rfl) (fun K9 hK => ?_)
            go_simp
            with_reducible refine (WC _ _ RD.out).mono ?_
            rintro e w2 ⟨rfl, q⟩
            unfold Bt.val
            go_simp
            refine hK.out _ _ (keep1 q g) (fun g1 => ?_)
            clear hK K9 g
            have g := g1
            clear g1
            have R2 := Lib.hid (R1.out.below q R1.out.lt)
            have B2 := Lib.hid (B3.out.trans (q.mono B3.out.size))
            clear q R1 B3 RD B1
            rw [show (z.alloc (.cells #[.int .i64 v, .int .i64 v, .int .i64 v] 3)).heap.size = z.heap.size + 1 by simp] at R2
            refine tc 15 rfl (by kernel_rfl) (fun K9 hK => ?_)
            obtain ⟨r0, r1, r2⟩ := bc3 R2.out
            obtain ⟨q0, q1, q2⟩ := bf3 R2.out
            go_simp
            refine hK.out _ _ ((cfar (by (try dsimp only); omega) _ _ _).trans g) (fun g1 => ?_)
            clear hK K9 g
            have g := g1
            clear g1
            have R := Lib.hid (bset R2.out (c := c))
            have B := Lib.hid (below_set3 B2.out (show w1.heap.size ≤ z.heap.size + 1 by (try dsimp only); omega) (.complex .f64 (fl c.x) (fl c.y)) (.int .i64 c.n) (.int .i64 c.t))
            clear r0 r1 r2 q0 q1 q2 R2 B2
            clear g
            refine wpAnyH_done (by kernel_rfl) ?_ _
            go_wp2_with fail
            go_meet
            case rel => exact ⟨_, rfl, R, B⟩
        · go_simp
          refine hK.out _ _ (keepA _ g) (fun g1 => ?_)
          clear hK K9 g
          have g := g1
          clear g1
          refine tc 12 rfl (by kernel_rfl) (fun K9 hK => ?_)
          go_simp
          refine hK.out _ _ (keepA _ g) (fun g1 => ?_)
          clear hK K9 g
          have g := g1
          clear g1
          have R1 := Lib.hid ((zero_bk z).alloc (.cells #[.int .i64 v, .int .i64 v, .int .i64 v] 3))
          have B3 := Lib.hid ((B1.out.alloc B1.out.size (.cells #[.complex .f64 0 0, .int .i64 0, .int .i64 0] 25)).alloc (B1.out.alloc B1.out.size (.cells #[.complex .f64 0 0, .int .i64 0, .int .i64 0] 25)).size (.cells #[.int .i64 v, .int .i64 v, .int .i64 v] 3))
          have RD : Hid (Rd ((z.alloc (.cells #[.complex .f64 0 0, .int .i64 0, .int .i64 0] 25)).alloc (.cells #[.int .i64 v, .int .i64 v, .int .i64 v] 3)) ((z.alloc (.cells #[.complex .f64 0 0, .int .i64 0, .int .i64 0] 25)).alloc (.cells #[.int .i64 v, .int .i64 v, .int .i64 v] 3)).heap.size (some ⟨z.heap.size + 1, 0, none⟩) (zv [v, v, v])) := Lib.hid (by have h := rd_row (z.alloc (.cells #[.complex .f64 0 0, .int .i64 0, .int .i64 0] 25)) v; rwa [show (z.alloc (.cells #[.complex .f64 0 0, .int .i64 0, .int .i64 0] 25)).heap.size = z.heap.size + 1 by simp] at h)
          refine tc 13 rfl (by kernel_rfl) (fun K9 hK => ?_)
          go_simp
          with_reducible refine (WC _ _ RD.out).mono ?_
          rintro e w2 ⟨rfl, q⟩
          unfold Bt.val
          go_simp
          refine hK.out _ _ (keep1 q g) (fun g1 => ?_)
          clear hK K9 g
          have g := g1
          clear g1
          have R2 := Lib.hid (R1.out.below q R1.out.lt)
          have B2 := Lib.hid (B3.out.trans (q.mono B3.out.size))
          clear q R1 B3 RD B1
          refine tc 15 rfl (by kernel_rfl) (fun K9 hK => ?_)
          obtain ⟨r0, r1, r2⟩ := bc3 R2.out
          obtain ⟨q0, q1, q2⟩ := bf3 R2.out
          go_simp
          refine hK.out _ _ ((cfar (by (try dsimp only); omega) _ _ _).trans g) (fun g1 => ?_)
          clear hK K9 g
          have g := g1
          clear g1
          have R := Lib.hid (bset R2.out (c := c))
          have B := Lib.hid (below_set3 B2.out (show w1.heap.size ≤ z.heap.size by (try dsimp only); omega) (.complex .f64 (fl c.x) (fl c.y)) (.int .i64 c.n) (.int .i64 c.t))
          clear r0 r1 r2 q0 q1 q2 R2 B2
          clear g
          refine wpAnyH_done (by kernel_rfl) ?_ _
          go_wp2_with fail
          go_meet
          case rel => exact ⟨_, rfl, R, B⟩
      case rest =>
        clear cx B
        obtain ⟨gb, rfl, R, B⟩ := hcut
        obtain ⟨ad, had, _, hcx⟩ := (HZ.out.below B.out) (by decide)
        injection had with had
        subst had
        have cx := hcx k _ HX.out
        rw [add0] at cx
        clear hcx
        obtain ⟨r0, r1, r2⟩ := bc3 R.out
        go_upto_region 6 with (fail)
        refine wp_region_held_drew (S := fun w' => w'.cell? ⟨gb, 0, none⟩ = some (.complex .f64 (fl c.x) (fl c.y)) ∧ w'.cell? ⟨gb, 1, none⟩ = some (.int .i64 c.n) ∧ w'.cell? ⟨gb, 2, none⟩ = some (.int .i64 c.t) ∧ w'.cell? ⟨w.heap.size, k, none⟩ = some (.int .i64 v)) (by kernel_rfl) ⟨r0, r1, r2, cx⟩ (fun g => ?_)
        have B1 := Lib.hid B.out.drew
        clear cx B R r0 r1 r2
        generalize hz : World.drew _ = z at *
        clear hz
        refine tq 0 ?_ rfl (by kernel_rfl) (fun _ _ _ h => h) (by rfl) g ?_ ?_; rotate_left
        · intro w9 h9; obtain ⟨d0, d1, d2, d3⟩ := h9; go_simp; try with_reducible rfl
        simp only [Act.put, ptA, ptB, ptC]
        refine tc 1 rfl (by kernel_rfl) (fun K9 hK => ?_)
        go_simp
        with_reducible refine (sway_t c 3 3 OC.out (by decide) OS.out _).mono ?_
        rintro e w2 ⟨rfl, q⟩
        go_simp
        refine hK.out _ _ ⟨keep1 q g.1, keep1 q g.2.1, keep1 q g.2.2.1, keep1 q g.2.2.2⟩ (fun g1 => ?_)
        clear hK K9 g
        have g := g1
        clear g1
        have B2 := Lib.hid (B1.out.trans (q.mono B1.out.size))
        clear q B1
        have B1 := B2
        clear B2
        refine tq 2 ?_ rfl (by kernel_rfl) (fun _ _ _ h => h) (by rfl) g ?_ ?_; rotate_left
        · intro w9 h9; obtain ⟨d0, d1, d2, d3⟩ := h9; go_simp; try with_reducible rfl
        simp only [Act.put, ptA, ptB, ptC]
        refine tq 3 ?_ rfl (by kernel_rfl) (fun _ _ _ h => h) (by rfl) g ?_ ?_; rotate_left
        · intro w9 h9; obtain ⟨d0, d1, d2, d3⟩ := h9; go_simp; try with_reducible rfl
        simp only [Act.put, ptA, ptB, ptC]
        refine tq 4 ?_ rfl (by kernel_rfl) (fun _ _ _ h => h) (by rfl) g ?_ ?_; rotate_left
        · intro w9 h9; obtain ⟨d0, d1, d2, d3⟩ := h9; go_simp; try with_reducible rfl
        simp only [Act.put, ptA, ptB, ptC]
        refine tq 5 ?_ rfl (by kernel_rfl) (fun _ _ _ h => h) (by rfl) g ?_ ?_; rotate_left
        · intro w9 h9; obtain ⟨d0, d1, d2, d3⟩ := h9; go_simp; try with_reducible rfl
        simp only [Act.put, ptA, ptB, ptC]
        refine tq 6 ?_ rfl (by kernel_rfl) (fun _ _ _ h => h) (by rfl) g ?_ ?_; rotate_left
        · intro w9 h9; obtain ⟨d0, d1, d2, d3⟩ := h9; go_simp; try with_reducible rfl
        simp only [Act.put, ptA, ptB, ptC]
        refine tq 7 ?_ rfl (by kernel_rfl) (fun _ _ _ h => h) (by rfl) g ?_ ?_; rotate_left
        · intro w9 h9; obtain ⟨d0, d1, d2, d3⟩ := h9; go_simp; try with_reducible rfl
        simp only [Act.put, ptA, ptB, ptC]
        refine tq 8 ?_ rfl (by kernel_rfl) (fun _ _ _ h => h) (by rfl) g ?_ ?_; rotate_left
        · intro w9 h9; obtain ⟨d0, d1, d2, d3⟩ := h9; go_simp; try with_reducible rfl
        simp only [Act.put, ptA, ptB, ptC]
        refine tc 9 rfl (by kernel_rfl) (fun K9 hK => ?_)
        go_simp
        with_reducible refine (steady_t c 3 v false OC.out (by decide) OT.out HI.out H1.out _).mono ?_
        rintro e w2 ⟨rfl, q⟩
        go_simp
        refine hK.out _ _ ⟨keep1 q g.1, keep1 q g.2.1, keep1 q g.2.2.1, keep1 q g.2.2.2⟩ (fun g1 => ?_)
        clear hK K9 g
        have g := g1
        clear g1
        have B2 := Lib.hid (B1.out.trans (q.mono B1.out.size))
        clear q B1
        have B1 := B2
        clear B2
        refine tq 10 ?_ rfl (by kernel_rfl) (fun _ _ _ h => h) (by rfl) g ?_ ?_; rotate_left
        · intro w9 h9; obtain ⟨d0, d1, d2, d3⟩ := h9; go_simp; try with_reducible rfl
        simp only [Act.put, ptA, ptB, ptC]
        refine tq 11 ?_ rfl (by kernel_rfl) (fun _ _ _ h => h) (by rfl) g ?_ ?_; rotate_left
        · intro w9 h9; obtain ⟨d0, d1, d2, d3⟩ := h9; go_simp; try with_reducible rfl
        simp only [Act.put, ptA, ptB, ptC]
        refine tq 12 ?_ rfl (by kernel_rfl) (fun _ _ _ h => h) (by rfl) g ?_ ?_; rotate_left
        · intro w9 h9; obtain ⟨d0, d1, d2, d3⟩ := h9; go_simp; try with_reducible rfl
        simp only [Act.put, ptA, ptB, ptC]
        refine tc 13 rfl (by kernel_rfl) (fun K9 hK => ?_)
        go_simp
        with_reducible refine (steady_t c 3 (-9223372036854775808) false OC.out (by decide) OT.out (by unfold i64; constructor <;> decide) H2.out _).mono ?_
        rintro e w2 ⟨rfl, q⟩
        go_simp
        refine hK.out _ _ ⟨keep1 q g.1, keep1 q g.2.1, keep1 q g.2.2.1, keep1 q g.2.2.2⟩ (fun g1 => ?_)
        clear hK K9 g
        have g := g1
        clear g1
        have B2 := Lib.hid (B1.out.trans (q.mono B1.out.size))
        clear q B1
        have B1 := B2
        clear B2
        refine tq 14 ?_ rfl (by kernel_rfl) (fun _ _ _ h => h) (by rfl) g ?_ ?_; rotate_left
        · intro w9 h9; obtain ⟨d0, d1, d2, d3⟩ := h9; go_simp; try with_reducible rfl
        simp only [Act.put, ptA, ptB, ptC]
        refine tq 15 ?_ rfl (by kernel_rfl) (fun _ _ _ h => h) (by rfl) g ?_ ?_; rotate_left
        · intro w9 h9; obtain ⟨d0, d1, d2, d3⟩ := h9; go_simp; try with_reducible rfl
        simp only [Act.put, ptA, ptB, ptC]
        refine tq 16 ?_ rfl (by kernel_rfl) (fun _ _ _ h => h) (by rfl) g ?_ ?_; rotate_left
        · intro w9 h9; obtain ⟨d0, d1, d2, d3⟩ := h9; go_simp; try with_reducible rfl
        simp only [Act.put, ptA, ptB, ptC]
        refine tq 18 ?_ rfl (by kernel_rfl) (fun _ _ _ h => h) (by rfl) g ?_ ?_; rotate_left
        · intro w9 h9; obtain ⟨d0, d1, d2, d3⟩ := h9; go_simp; try with_reducible rfl
        simp only [Act.put, ptA, ptB, ptC]
        refine tq 19 ?_ rfl (by kernel_rfl) (fun _ _ _ h => h) (by rfl) g ?_ ?_; rotate_left
        · intro w9 h9; obtain ⟨d0, d1, d2, d3⟩ := h9; go_simp; try with_reducible rfl
        simp only [Act.put, ptA, ptB, ptC]
        refine tc 17 rfl (by kernel_rfl) (fun K9 hK => ?_)
        go_simp
        with_reducible refine (steady_t c 3 9223372036854775807 (decide ((k : Int) < 3)) OC.out (by decide) OT.out (by unfold i64; constructor <;> decide) H3.out _).mono ?_
        rintro e w2 ⟨rfl, q⟩
        go_simp
        refine hK.out _ _ ⟨keep1 q g.1, keep1 q g.2.1, keep1 q g.2.2.1, keep1 q g.2.2.2⟩ (fun g1 => ?_)
        clear hK K9 g
        have g := g1
        clear g1
        have B2 := Lib.hid (B1.out.trans (q.mono B1.out.size))
        clear q B1
        have B1 := B2
        clear B2
        refine tq 20 (.bool false) rfl (by kernel_rfl) (fun _ _ _ h => h) (by rfl) g ?_ ?_
        · intro w9 h9; obtain ⟨d0, d1, d2, d3⟩ := h9; go_simp; try simp
        simp only [Act.put, ptA, ptB, ptC]
        refine tq 21 ?_ rfl (by kernel_rfl) (fun _ _ _ h => h) (by rfl) g ?_ ?_; rotate_left
        · intro w9 h9; obtain ⟨d0, d1, d2, d3⟩ := h9; go_simp; try with_reducible rfl
        simp only [Act.put, ptA, ptB, ptC]
        clear g
        refine wpAnyH_done (by kernel_rfl) ?_ _
        go_wp2
        go_roundw
        case rel => exact ⟨k + 1, by omega, by go_num, B1⟩
        case measure => simp [intOf]; omega
    · have i2 : ¬ (k : Int) < 4 := by omega
      obtain ⟨b, hb, OB, TB⟩ := lit_bt (l := [-1, -2, -3, -4]) (by simp [i64])
      have OB4 : OkB b 4 := OB
      have ON0 : OkB newB 0 := bts_ok []
      have s1 : Hid (swB b = 0) := Lib.hid (by rw [← hb]; decide +kernel)
      have W2 := fun (A : Option Addr) (w : World) (hr : Rd w w.heap.size A (zv [-1, -2, -3, -4])) => written_any A 4 4 [-1, -2, -3, -4] rfl (by decide) (by simp [i64]) w hr
      rw [show ([-1, -2, -3, -4] : List Int).take 300 = [-1, -2, -3, -4] from rfl, hb] at W2
      have RR : Hid (Rd (wr.alloc (.cells #[.int .i64 (-1), .int .i64 (-2), .int .i64 (-3), .int .i64 (-4)] 3)) (wr.alloc (.cells #[.int .i64 (-1), .int .i64 (-2), .int .i64 (-3), .int .i64 (-4)] 3)).heap.size (some ⟨wr.heap.size, 0, none⟩) (zv [-1, -2, -3, -4])) := Lib.hid (rd_row4 wr)
      obtain ⟨p1, hp1⟩ : ∃ p, wrB newB 1 = p := ⟨_, rfl⟩
      obtain ⟨p2, hp2⟩ : ∃ p, wrB p1 1 = p := ⟨_, rfl⟩
      obtain ⟨p3, hp3⟩ : ∃ p, wrB p2 2 = p := ⟨_, rfl⟩
      have O1 : Hid (OkB p1 1) := Lib.hid (by rw [← hp1]; exact bts_ok [1])
      have O2 : Hid (OkB p2 2) := Lib.hid (by rw [← hp2, ← hp1]; exact bts_ok [1, 1])
      have O3 : Hid (OkB p3 3) := Lib.hid (by rw [← hp3, ← hp2, ← hp1]; exact bts_ok [1, 1, 2])
      have T2 : Hid (i64 p2.t) := Lib.hid (by rw [← hp2]; show i64 1; unfold i64; constructor <;> decide)
      have T3 : Hid (i64 p3.t) := Lib.hid (by rw [← hp3]; show i64 2; unfold i64; constructor <;> decide)
      have s2 : Hid (stB p3 2 = false) := Lib.hid (by rw [← hp3, ← hp2, ← hp1]; decide +kernel)
      have s3 : Hid (stB p2 0 = true) := Lib.hid (by rw [← hp2, ← hp1]; decide +kernel)
      have Q1 := Lib.hid hp1
      have Q2 := Lib.hid hp2
      have Q3 := Lib.hid hp3
      clear hb hp1 hp2 hp3
      go_wp2_with fail
      with_reducible refine (W2 _ _ RR.out).mono ?_
      rintro e w3 ⟨rfl, q⟩
      have B2 : Hid (Below w1.heap.size w1 (w3.alloc (.cells #[.complex .f64 (fl b.x) (fl b.y), .int .i64 b.n, .int .i64 b.t] 25))) := Lib.hid (((B.out.alloc B.out.size _).trans (q.mono (B.out.alloc B.out.size _).size)).alloc ((B.out.alloc B.out.size _).trans (q.mono (B.out.alloc B.out.size _).size)).size _)
      clear q B RR
      have R : Hid (Bk (w3.alloc (.cells #[.complex .f64 (fl b.x) (fl b.y), .int .i64 b.n, .int .i64 b.t] 25)) w3.heap.size 25 (bcells b)) := Lib.hid (Bk.new w3 _ _)
      obtain ⟨r0, r1, r2⟩ := bc3 R.out
      have B := B2
      clear B2
      unfold Bt.val
      go_wp2_with fail
      with_reducible refine (sway_t b 4 0 OB4 (by decide) s1.out _).mono ?_
      rintro e x0 ⟨rfl, q⟩
      have B2 := Lib.hid (B.out.trans (q.mono B.out.size))
      clear q B R r0 r1 r2
      have B := B2
      clear B2
      go_wp2_with fail
      with_reducible refine (new_t _).mono ?_
      rintro e x1 ⟨rfl, q⟩
      have B2 := Lib.hid (B.out.trans (q.mono B.out.size))
      clear q B
      have B := B2
      clear B2
      go_wp2_with fail
      with_reducible refine (write_t newB p1 1 0 ON0 (by decide) (by unfold i64; constructor <;> decide) Q1.out _).mono ?_
      rintro e x2 ⟨rfl, q⟩
      have B2 := Lib.hid (B.out.trans (q.mono B.out.size))
      clear q B
      have B := B2
      clear B2
      go_wp2_with fail
      with_reducible refine (write_t p1 p2 1 1 O1.out (by decide) (by unfold i64; constructor <;> decide) Q2.out _).mono ?_
      rintro e x3 ⟨rfl, q⟩
      have B2 := Lib.hid (B.out.trans (q.mono B.out.size))
      clear q B
      have B := B2
      clear B2
      go_wp2_with fail
      with_reducible refine (write_t p2 p3 2 2 O2.out (by decide) (by unfold i64; constructor <;> decide) Q3.out _).mono ?_
      rintro e x4 ⟨rfl, q⟩
      have B2 := Lib.hid (B.out.trans (q.mono B.out.size))
      clear q B
      have B := B2
      clear B2
      go_wp2_with fail
      with_reducible refine (steady_t p3 3 2 false O3.out (by decide) T3.out (by unfold i64; constructor <;> decide) s2.out _).mono ?_
      rintro e x5 ⟨rfl, q⟩
      have B2 := Lib.hid (B.out.trans (q.mono B.out.size))
      clear q B
      have B := B2
      clear B2
      go_wp2_with fail
      with_reducible refine (new_t _).mono ?_
      rintro e x6 ⟨rfl, q⟩
      have B2 := Lib.hid (B.out.trans (q.mono B.out.size))
      clear q B
      have B := B2
      clear B2
      go_wp2_with fail
      with_reducible refine (write_t newB p1 1 0 ON0 (by decide) (by unfold i64; constructor <;> decide) Q1.out _).mono ?_
      rintro e x7 ⟨rfl, q⟩
      have B2 := Lib.hid (B.out.trans (q.mono B.out.size))
      clear q B
      have B := B2
      clear B2
      go_wp2_with fail
      with_reducible refine (write_t p1 p2 1 1 O1.out (by decide) (by unfold i64; constructor <;> decide) Q2.out _).mono ?_
      rintro e x8 ⟨rfl, q⟩
      have B2 := Lib.hid (B.out.trans (q.mono B.out.size))
      clear q B
      have B := B2
      clear B2
      go_wp2_with fail
      with_reducible refine (steady_t p2 2 0 true O2.out (by decide) T2.out (by unfold i64; constructor <;> decide) s3.out _).mono ?_
      rintro e x9 ⟨rfl, q⟩
      have B2 := Lib.hid (B.out.trans (q.mono B.out.size))
      clear q B
      have B := B2
      clear B2
      go_wp2_with fail
      with_reducible refine (known_any _).mono ?_
      rintro e x10 ⟨rfl, q⟩
      have B2 := Lib.hid (B.out.trans (q.mono B.out.size))
      clear q B
      have B := B2
      clear B2
      go_wp2_with fail
      go_ret
      exact ⟨rfl, B0.out.trans (B.out.mono B0.out.size)⟩

set_option maxRecDepth 100000 in
theorem lifted (os : Os) (started : os.Started) (H : Type) (enc : TypeId × Value → H) :
    ReturnsInHanded {} Try.checked os 6 .any (Rows.phaseKnownSpec.pre6 enc Try.prog Try.f6 Rows.phaseKnownRow.domain false) (Rows.phaseKnownSpec.post enc Try.prog Try.f6 false true false false) := by
  refine returnsInHanded_of_change (C := Try.checked) own started (by kernel_rfl) Try.func6
    (ChangeSpec.witness6 (enc := enc) (C := Try.checked) false ⟨#[], #[], []⟩ 8 (by kernel_rfl) (by kernel_rfl) (by kernel_rfl) (by kernel_rfl)) ?_
  intro W base args ds gs before hval0 hW hcnd _
  have hval : ∀ (j : Nat) t v, Try.f6.params[j]? = some t → args[j]? = some v → Value.okWide Try.prog W .any base t v := hval0
  have hW' := hW
  obtain ⟨p, q, hA0, hV, rfl, hfz, hnd⟩ := hW
  have hA : DataW.TrodAll enc Try.prog W 0 (fun _ => true) true Try.f6.params.toList args.toList ds p := hA0
  rw [Try.params6] at hA hval
  obtain ⟨hargs, rfl, rfl⟩ := trodAll_nil hA
  obtain rfl : args = #[] := by cases args; simp_all
  obtain ⟨rfl, rfl⟩ := trodVars_none hV
  clear hA0 hval0
  refine (walk  W ).mono fun e W' ⟨he, bel⟩ => ?_
  subst he
  exact ⟨_, rfl, _, _, _, [], _, [], hW', trodAll_mk1 (shut_bool Try.underlying4 _), trodAll_mk0, rfl, bel.frame _, fun h => by cases h⟩

theorem over : Rows.phaseKnownRow.holds Try.pinned (OpenSpec.ofChange Rows.phaseKnownSpec) :=
  OpenClaim.holds_of_wide 6 Try.f6 rfl rfl rfl rfl rfl rfl rfl ⟨rfl, rfl, rfl, rfl, rfl⟩ rfl rfl rfl rfl rfl (by kernel_rfl) Try.func6 (by kernel_rfl)
    (of_decide_eq_true (by kernel_rfl)) (by unfold Func.isWrapper; first | (rw [if_pos (by decide +kernel)]; kernel_rfl) | (rw [if_neg (by decide +kernel)]; exact ⟨rfl, rfl⟩))
    (fun os started H enc _ => lifted os started H enc)

theorem proved : Rows.PhaseKnownSaid := over
#print axioms proved
end Go.Proofs.Ytfkfadafncjifaa.phaseKnown
