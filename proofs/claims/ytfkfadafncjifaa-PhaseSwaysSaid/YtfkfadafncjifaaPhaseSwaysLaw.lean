/-
  Proved: the statement PhaseSways: Sway is from 0 to Writes, and as even or odd; it hangs neither on the order of the times nor on where their count begins; a time two behind another goes out with it. No conditions.
-/
import Derived.Test.YtfkfadafncjifaaRows
import Derived.Test.YtfkfadafncjifaaPhaseOpen
import Derived.Deep.DeepCutAuto
import Derived.WalkKit
import Derived.ProofKit
import Derived.OpenShut
import Derived.ChangeOld
import Derived.Below
namespace Go.Proofs.Ytfkfadafncjifaa.phaseSways
open Go.ChangeShapes Go.WideShapes Go.ChangeAt Go.RowKit Ow Ph
set_option linter.unusedVariables false
set_option linter.unusedSimpArgs false
attribute [local go_sem] run_store_complex

theorem own : ownKnob Try.prog.godebug = none := by kernel_rfl
theorem laidOut : laidOutB Try.prog = true := by kernel_rfl

theorem tm_bd (a : Int) (m : Int) (hm : 0 < m) : -m < a.tmod m ∧ a.tmod m < m := ⟨Int.lt_tmod_of_pos a hm, Int.tmod_lt_of_pos a hm⟩
theorem tm_eq (a : Int) (m : Int) : a = a.tmod m + m * a.tdiv m := (Int.tmod_add_mul_tdiv a m).symm
theorem rdfar {w : World} {r B : Nat} {A : Option Addr} {xs : List Value} (h : Rd w B A xs) (hr : B ≤ r) (u v x : Value) : Rd (((w.setCell ⟨r, 0, none⟩ u).setCell ⟨r, 1, none⟩ v).setCell ⟨r, 2, none⟩ x) B A xs :=
  h.keep fun p hp => cfar (by omega) u v x
def mvF (d : Int) (t : Int) : Int := t.tmod 1152921504606846976 + d
theorem mv_i64 (d t : Int) (hd : -1000 < d ∧ d < 1000) : i64 (mvF d t) := by
  have := tm_bd t 1152921504606846976 (by decide)
  unfold mvF i64; omega
theorem mv_4 (d t : Int) : mvF d t % 4 = (t + d) % 4 := by
  have := tm_eq t 1152921504606846976
  unfold mvF
  generalize t.tmod 1152921504606846976 = p at *
  generalize t.tdiv 1152921504606846976 = q at *
  omega
theorem bts_drop (X : List Int) (k : Nat) (hk : k < X.length) : bts (X.drop k).reverse = wrB (bts (X.drop (k + 1)).reverse) X[k] := by
  rw [List.drop_eq_getElem_cons hk, List.reverse_cons, bts_app]
theorem bts_dropF (f : Int → Int) (X : List Int) (k : Nat) (hk : k < X.length) : bts ((X.drop k).map f).reverse = wrB (bts ((X.drop (k + 1)).map f).reverse) (f X[k]) := by
  rw [List.drop_eq_getElem_cons hk, List.map_cons, List.reverse_cons, bts_app]

set_option maxRecDepth 100000 in
set_option maxHeartbeats 4000000 in
theorem walk (a0 : Option Addr) (len0 cap0 : Nat) (L0 : List Int) (n1 : Int) (n2 : Int) (w : World) (l0 : L0.length = len0) (f0 : ∀ t ∈ L0, i64 t) (c0 : len0 ≤ cap0) (m0 : cap0 ≤ 9223372036854775807) (r0 : Rd w w.heap.size a0 (zv L0)) (w1 : (Lit.int .i64 n1).wf = true) (w2 : (Lit.int .i64 n2).wf = true) :
    Calls Try.prog 4 #[.slice a0 len0 cap0, .int .i64 n1, .int .i64 n2] w fun e w' => e = .returned (.bool true) ∧ Below w.heap.size w w' := by
  have hn1 : -9223372036854775808 ≤ n1 ∧ n1 ≤ 9223372036854775807 := bounds_i64 w1
  have hn2 : -9223372036854775808 ≤ n2 ∧ n2 ≤ 9223372036854775807 := bounds_i64 w2
  obtain ⟨hn1a, hn1b⟩ := hn1
  obtain ⟨hn2a, hn2b⟩ := hn2
  have hcap : len0 ≤ 9223372036854775807 := by omega
  have W1 := written_any a0 len0 cap0 L0 l0 hcap f0 w r0
  have HR := Lib.hid r0
  have HN : Hid (∀ k, k < len0 → k < L0.length) := Lib.hid (fun k hk => by rw [l0]; exact hk)
  obtain ⟨b, hb, OB, TB⟩ := lit_bt (l := L0.take 300) (fun t ht => f0 t (List.mem_of_mem_take ht))
  rw [hb] at W1
  have HLX : (L0.take 300).length = min len0 300 := by rw [List.length_take, l0, Nat.min_comm]
  have HX : ∃ X, X = L0.take 300 := ⟨_, rfl⟩
  obtain ⟨X, hX⟩ := HX
  have hXi : Hid (∀ t ∈ X, i64 t) := Lib.hid (fun t ht => f0 t (by rw [hX] at ht; exact List.mem_of_mem_take ht))
  have hXg : Hid (∀ k (hk : k < X.length), (zv L0)[k]? = some (.int .i64 X[k])) := Lib.hid (fun k hk => by subst hX; rw [List.length_take] at hk; rw [zv_get L0 k (by omega)]; simp)
  rw [← hX] at hb HLX OB
  rw [HLX] at OB
  obtain ⟨N, hN⟩ : ∃ N, N = min len0 300 := ⟨_, rfl⟩
  rw [← hN] at OB HLX
  have HSW : Hid (∃ s, swB b = s ∧ s ≤ N ∧ (N - s) % 2 = 0) := Lib.hid ⟨_, rfl, OB.sw, OB.par⟩
  obtain ⟨s, hs, hsN, hpar⟩ := HSW.out
  have HS := Lib.hid hs
  have HB := Lib.hid hb
  have HO := Lib.hid OB
  have HT := Lib.hid TB
  have HXL := Lib.hid HLX
  have HNN : Hid (N ≤ len0 ∧ N ≤ 300 ∧ (N = len0 ∨ N = 300)) := Lib.hid (by omega)
  have hmin : min (len0 : Int) 300 = N := by omega
  have e1 : b.n = N := OB.len
  clear HSW hs hb OB TB HLX l0 f0 r0 w1 w2 hX hN
  have N3 : N ≤ 300 := HNN.out.2.1
  subst e1
  go_enter Try.func4, Try.ntmps4
  go_wp2_with fail
  refine W1.mono ?_
  rintro e w1 ⟨rfl, q1⟩
  have B := Lib.hid q1
  have A1 : Hid (Bk (w1.alloc (.cells (bcells b) 25)) w1.heap.size 25 (bcells b)) := Lib.hid (Bk.new w1 _ _)
  have B1 : Hid (Below w.heap.size w (w1.alloc (.cells (bcells b) 25))) := Lib.hid (B.out.alloc B.out.size _)
  clear q1 W1 B
  unfold Bt.val
  go_upto_region 2 with (fail)
  generalize hg7 : w1.heap.size = g7 at *
  generalize hz : w1.alloc (.cells #[.complex .f64 (fl b.x) (fl b.y), .int .i64 b.n, .int .i64 b.t] 25) = z at *
  have A : Hid (Bk z g7 25 (bcells b)) := Lib.hid (by rw [← hz]; exact A1.out)
  have B : Hid (Below w.heap.size w z) := Lib.hid (by rw [← hz]; exact B1.out)
  clear A1 B1 hz hg7
  go_cut [8] (fun s8 wx => s8 = .int .i64 b.n ∧ wx = z)
  case first =>
    go_wp2_with fail
    all_goals
      go_meet
      case rel => exact ⟨by go_simp; try omega, rfl⟩
  case rest =>
    obtain ⟨rfl, rfl⟩ := hcut
    obtain ⟨r0, r1, r2⟩ := bc3 A.out
    go_wp2_with fail
    refine (sway_t b b.n s HO.out (by omega) HS.out _).mono ?_
    rintro e w2 ⟨rfl, q⟩
    have A2 := Lib.hid (A.out.below q A.out.lt)
    have B2 := Lib.hid (B.out.trans (q.mono B.out.size))
    clear A B q r0 r1 r2
    obtain ⟨r0, r1, r2⟩ := bc3 A2.out
    go_wp2_with fail
    refine (writes_any b _).mono ?_
    rintro e w3 ⟨rfl, q⟩
    have A := Lib.hid (A2.out.below q A2.out.lt)
    have B := Lib.hid (B2.out.trans (q.mono B2.out.size))
    clear A2 B2 q r0 r1 r2
    have hp1 : ((((b.n : Int) - s) % 2) != 0) = false := by simp; omega
    go_wp2_with fail
    have hby := tm_bd n1 1000 (by decide)
    generalize n1.tmod 1000 = d at *
    refine (new_t _).mono ?_
    rintro e w4 ⟨rfl, q⟩
    have A2 := Lib.hid ((A.out.below q A.out.lt).alloc (.cells #[.complex .f64 (fl newB.x) (fl newB.y), .int .i64 newB.n, .int .i64 newB.t] 25))
    have B2 : Hid (Below w.heap.size w (w4.alloc (.cells #[.complex .f64 (fl newB.x) (fl newB.y), .int .i64 newB.n, .int .i64 newB.t] 25))) := Lib.hid ((B.out.trans (q.mono B.out.size)).alloc (B.out.trans (q.mono B.out.size)).size _)
    have C2 : Hid (Bk (w4.alloc (.cells #[.complex .f64 (fl newB.x) (fl newB.y), .int .i64 newB.n, .int .i64 newB.t] 25)) w4.heap.size 25 (bcells newB)) := Lib.hid (Bk.new w4 _ _)
    have h7 : g7 < w4.heap.size := (A.out.below q A.out.lt).lt
    have hw10 : w.heap.size ≤ w4.heap.size := (B.out.trans (q.mono B.out.size)).size
    clear A B q
    go_wp2_with fail
    generalize w4.heap.size = g10 at *
    generalize (w4.alloc (.cells #[.complex .f64 (fl newB.x) (fl newB.y), .int .i64 newB.n, .int .i64 newB.t] 25)) = w5 at *
    clear w4
    refine (new_t _).mono ?_
    rintro e w6 ⟨rfl, q⟩
    have A := Lib.hid ((A2.out.below q A2.out.lt).alloc (.cells #[.complex .f64 (fl newB.x) (fl newB.y), .int .i64 newB.n, .int .i64 newB.t] 25))
    have C := Lib.hid ((C2.out.below q C2.out.lt).alloc (.cells #[.complex .f64 (fl newB.x) (fl newB.y), .int .i64 newB.n, .int .i64 newB.t] 25))
    have B : Hid (Below w.heap.size w (w6.alloc (.cells #[.complex .f64 (fl newB.x) (fl newB.y), .int .i64 newB.n, .int .i64 newB.t] 25))) := Lib.hid ((B2.out.trans (q.mono B2.out.size)).alloc (B2.out.trans (q.mono B2.out.size)).size _)
    have D : Hid (Bk (w6.alloc (.cells #[.complex .f64 (fl newB.x) (fl newB.y), .int .i64 newB.n, .int .i64 newB.t] 25)) w6.heap.size 25 (bcells newB)) := Lib.hid (Bk.new w6 _ _)
    have h10 : g10 < w6.heap.size := (C2.out.below q C2.out.lt).lt
    clear A2 B2 C2 q
    go_wp2_with fail
    generalize w6.heap.size = g11 at *
    generalize (w6.alloc (.cells #[.complex .f64 (fl newB.x) (fl newB.y), .int .i64 newB.n, .int .i64 newB.t] 25)) = w7 at *
    clear w6
    have hDn : X.drop b.n = [] := List.drop_eq_nil_of_le (by rw [HXL.out]; exact Nat.le_refl _)
    go_loopw [12] (fun i wr => ∃ (k : Nat) (i0 : Int), k ≤ b.n ∧ i = .int .i64 i0 ∧ i0 = (k : Int) - 1 ∧ Hid (Bk wr g7 25 (bcells b)) ∧ Hid (Bk wr g10 25 (bcells (bts (X.drop k).reverse))) ∧ Hid (Bk wr g11 25 (bcells (bts ((X.drop k).map (mvF d)).reverse))) ∧ Hid (Below w.heap.size w wr)) (fun i _ => (intOf i + 1).toNat)
    case atStart => exact ⟨b.n, _, Nat.le_refl _, rfl, rfl, A, by rw [hDn]; exact C, by rw [hDn]; exact D, B⟩
    case round =>
      clear A B C D hDn
      obtain ⟨k, i0, hk, rfl, hi0, A, C, D, B⟩ := hrel
      cases k with
      | succ j =>
        obtain rfl : i0 = (j : Int) := by omega
        clear hi0
        have hjX : j < X.length := by rw [HXL.out]; omega
        have hjl : j < len0 := by have := HNN.out.1; omega
        obtain ⟨ad, rfl, hab, hcx⟩ := (HR.out.below B.out) (by rw [zv_len]; have := HN.out j hjl; omega)
        have cx := hcx j _ (hXg.out j hjX)
        have HC2 : Hid (Rd w w.heap.size (some ad) (zv L0)) := HR
        have HX2 : Hid ((zv L0)[j]? = some (.int .i64 X[j])) := Lib.hid (hXg.out j hjX)
        have HV : Hid (i64 X[j]) := Lib.hid (hXi.out _ (List.getElem_mem hjX))
        have E10 := Lib.hid (bts_drop X j hjX)
        have E11 := Lib.hid (bts_dropF (mvF d) X j hjX)
        have O10 : Hid (OkB (bts (X.drop (j + 1)).reverse) (b.n - (j + 1))) := Lib.hid (by have := bts_ok (X.drop (j + 1)).reverse; rwa [List.length_reverse, List.length_drop, HXL.out] at this)
        have O11 : Hid (OkB (bts ((X.drop (j + 1)).map (mvF d)).reverse) (b.n - (j + 1))) := Lib.hid (by have := bts_ok ((X.drop (j + 1)).map (mvF d)).reverse; rwa [List.length_reverse, List.length_map, List.length_drop, HXL.out] at this)
        have HM : Hid (i64 (mvF d X[j])) := Lib.hid (mv_i64 d _ hby)
        have HW : IntKind.i64.wrap (X[j].tmod 1152921504606846976 + d) = mvF d X[j] := by
          have := HM.out
          rw [IntKind.wrap_i64]; unfold mvF i64 at *; omega
        have hbl : (ad.add j).block < w.heap.size := by rw [add_block]; exact hab
        have NE10 : (ad.add j).block ≠ g10 := by omega
        have NE11 : (ad.add j).block ≠ g11 := by omega
        have i1 : (0 : Int) ≤ (j : Int) := by omega
        have i2 : (j : Int) < (len0 : Int) := by omega
        clear hcx hab hbl
        generalize X[j] = v at *
        generalize bts (X.drop (j + 1)).reverse = c10 at *
        generalize bts ((X.drop (j + 1)).map (mvF d)).reverse = c11 at *
        generalize mvF d v = v2 at *
        have hmn : b.n - (j + 1) ≤ 302 := by omega
        generalize b.n - (j + 1) = m at *
        clear hjX hjl
        go_wp2_with fail
        have R := C
        clear C
        refine wp_region_held_drew (S := fun w' => w'.cell? (ad.add j) = some (.int .i64 v)) (by kernel_rfl) cx (fun g => ?_)
        obtain ⟨r0, r1, r2⟩ := bc3 R.out.drew
        have R1 := Lib.hid R.out.drew
        have B1 := Lib.hid B.out.drew
        have A1 := Lib.hid A.out.drew
        have D1 := Lib.hid D.out.drew
        clear R B A D  cx
        generalize hz : World.drew _ = z at *
        clear hz
        refine tq 1 ?_ rfl (by kernel_rfl) (fun _ _ _ h => h) (by rfl) g ?_ ?_; rotate_left
        · intro w9 h9; go_simp; try with_reducible rfl
        simp only [Act.put, ptA, ptB, ptC]
        refine tq 2 ?_ rfl (by kernel_rfl) (fun _ _ _ h => h) (by rfl) g ?_ ?_; rotate_left
        · intro w9 h9; go_simp; try with_reducible rfl
        simp only [Act.put, ptA, ptB, ptC]
        refine tq 3 ?_ rfl (by kernel_rfl) (fun _ _ _ h => h) (by rfl) g ?_ ?_; rotate_left
        · intro w9 h9; go_simp; try with_reducible rfl
        simp only [Act.put, ptA, ptB, ptC]
        refine tq 4 ?_ rfl (by kernel_rfl) (fun _ _ _ h => h) (by rfl) g ?_ ?_; rotate_left
        · intro w9 h9; go_simp; try with_reducible rfl
        simp only [Act.put, ptA, ptB, ptC]
        refine tc 0 rfl (by kernel_rfl) (fun K9 hK => ?_)
        go_simp
        refine hK.out _ _ g (fun g1 => ?_)
        clear hK K9 g
        have g := g1
        clear g1
        clear r0 r1 r2
        refine tc 5 rfl (by kernel_rfl) (fun K9 hK => ?_)
        go_simp
        refine (write_t c10 (wrB c10 v) v m O10.out hmn HV.out rfl _).mono ?_
        rintro e w2 ⟨rfl, q⟩
        have R2 := Lib.hid (R1.out.below q R1.out.lt)
        have B2 := Lib.hid (B1.out.trans (q.mono B1.out.size))
        have A2 := Lib.hid (A1.out.below q A1.out.lt)
        have D2 := Lib.hid (D1.out.below q D1.out.lt)
        go_simp
        refine hK.out _ _ (keep1 q g) (fun g1 => ?_)
        clear hK K9 g
        have g := g1
        clear g1
        clear R1 B1 q A1 D1 
        clear z
        refine tc 6 rfl (by kernel_rfl) (fun K9 hK => ?_)
        obtain ⟨r0, r1, r2⟩ := bc3 R2.out
        obtain ⟨q0, q1, q2⟩ := bf3 R2.out
        go_simp
        refine hK.out _ _ ((cfar NE10 _ _ _).trans g) (fun g1 => ?_)
        clear hK K9 g
        have g := g1
        clear g1
        have R := Lib.hid (bset R2.out (c := wrB c10 v))
        have B := Lib.hid (below_set3 B2.out (show _ ≤ g10 by omega) (.complex .f64 (fl (wrB c10 v).x) (fl (wrB c10 v).y)) (.int .i64 (wrB c10 v).n) (.int .i64 (wrB c10 v).t))
        have A := Lib.hid (bfar A2.out (Nat.ne_of_lt h7) (.complex .f64 (fl (wrB c10 v).x) (fl (wrB c10 v).y)) (.int .i64 (wrB c10 v).n) (.int .i64 (wrB c10 v).t))
        have D := Lib.hid (bfar D2.out (Nat.ne_of_gt h10) (.complex .f64 (fl (wrB c10 v).x) (fl (wrB c10 v).y)) (.int .i64 (wrB c10 v).n) (.int .i64 (wrB c10 v).t))
        clear r0 r1 r2 q0 q1 q2 R2 B2 A2 D2 
        clear g
        generalize (((w2.setCell ⟨g10, 0, none⟩ (.complex .f64 (fl (wrB c10 v).x) (fl (wrB c10 v).y))).setCell ⟨g10, 1, none⟩ (.int .i64 (wrB c10 v).n)).setCell ⟨g10, 2, none⟩ (.int .i64 (wrB c10 v).t)) = z9 at *
        clear w2
        refine wpAnyH_done (by kernel_rfl) ?_ _
        have C := R
        clear R
        have R := D
        clear D
        have cx : z9.cell? (ad.add j) = some (.int .i64 v) := by
          obtain ⟨ad', e, _, hc⟩ := (HC2.out.below B.out) (List.length_pos_iff.2 (fun e => by have := HX2.out; rw [e] at this; simp at this))
          injection e with e
          subst e
          exact hc j _ HX2.out
        go_wp2_with fail
        refine wp_region_held_drew (S := fun w' => w'.cell? (ad.add j) = some (.int .i64 v)) (by kernel_rfl) cx (fun g => ?_)
        obtain ⟨r0, r1, r2⟩ := bc3 R.out.drew
        have R1 := Lib.hid R.out.drew
        have B1 := Lib.hid B.out.drew
        have A1 := Lib.hid A.out.drew
        have C1 := Lib.hid C.out.drew
        clear R B A C  cx
        generalize hz : World.drew _ = z at *
        clear hz
        refine tq 1 ?_ rfl (by kernel_rfl) (fun _ _ _ h => h) (by rfl) g ?_ ?_; rotate_left
        · intro w9 h9; go_simp; try with_reducible rfl
        simp only [Act.put, ptA, ptB, ptC]
        refine tq 2 ?_ rfl (by kernel_rfl) (fun _ _ _ h => h) (by rfl) g ?_ ?_; rotate_left
        · intro w9 h9; go_simp; try with_reducible rfl
        simp only [Act.put, ptA, ptB, ptC]
        refine tq 3 ?_ rfl (by kernel_rfl) (fun _ _ _ h => h) (by rfl) g ?_ ?_; rotate_left
        · intro w9 h9; go_simp; try with_reducible rfl
        simp only [Act.put, ptA, ptB, ptC]
        refine tq 4 ?_ rfl (by kernel_rfl) (fun _ _ _ h => h) (by rfl) g ?_ ?_; rotate_left
        · intro w9 h9; go_simp; try with_reducible rfl
        simp only [Act.put, ptA, ptB, ptC]
        refine tq 5 ?_ rfl (by kernel_rfl) (fun _ _ _ h => h) (by rfl) g ?_ ?_; rotate_left
        · intro w9 h9; go_simp; try with_reducible rfl
        simp only [Act.put, ptA, ptB, ptC]
        refine tq 6 ?_ rfl (by kernel_rfl) (fun _ _ _ h => h) (by rfl) g ?_ ?_; rotate_left
        · intro w9 h9; go_simp; try with_reducible rfl
        simp only [Act.put, ptA, ptB, ptC]
        refine tq 7 (.int .i64 v2) rfl (by kernel_rfl) (fun _ _ _ h => h) (by rfl) g ?_ ?_
        · intro w9 h9; go_simp; try (first | with_reducible rfl | (rw [HW]))
        simp only [Act.put, ptA, ptB, ptC]
        refine tc 0 rfl (by kernel_rfl) (fun K9 hK => ?_)
        go_simp
        refine hK.out _ _ g (fun g1 => ?_)
        clear hK K9 g
        have g := g1
        clear g1
        clear r0 r1 r2
        refine tc 8 rfl (by kernel_rfl) (fun K9 hK => ?_)
        go_simp
        refine (write_t c11 (wrB c11 v2) v2 m O11.out hmn HM.out rfl _).mono ?_
        rintro e w2 ⟨rfl, q⟩
        have R2 := Lib.hid (R1.out.below q R1.out.lt)
        have B2 := Lib.hid (B1.out.trans (q.mono B1.out.size))
        have A2 := Lib.hid (A1.out.below q A1.out.lt)
        have C2 := Lib.hid (C1.out.below q C1.out.lt)
        go_simp
        refine hK.out _ _ (keep1 q g) (fun g1 => ?_)
        clear hK K9 g
        have g := g1
        clear g1
        clear R1 B1 q A1 C1 
        clear z
        refine tc 9 rfl (by kernel_rfl) (fun K9 hK => ?_)
        obtain ⟨r0, r1, r2⟩ := bc3 R2.out
        obtain ⟨q0, q1, q2⟩ := bf3 R2.out
        go_simp
        refine hK.out _ _ ((cfar NE11 _ _ _).trans g) (fun g1 => ?_)
        clear hK K9 g
        have g := g1
        clear g1
        have R := Lib.hid (bset R2.out (c := wrB c11 v2))
        have B := Lib.hid (below_set3 B2.out (show _ ≤ g11 by omega) (.complex .f64 (fl (wrB c11 v2).x) (fl (wrB c11 v2).y)) (.int .i64 (wrB c11 v2).n) (.int .i64 (wrB c11 v2).t))
        have A := Lib.hid (bfar A2.out (Nat.ne_of_lt (Nat.lt_trans h7 h10)) (.complex .f64 (fl (wrB c11 v2).x) (fl (wrB c11 v2).y)) (.int .i64 (wrB c11 v2).n) (.int .i64 (wrB c11 v2).t))
        have C := Lib.hid (bfar C2.out (Nat.ne_of_lt h10) (.complex .f64 (fl (wrB c11 v2).x) (fl (wrB c11 v2).y)) (.int .i64 (wrB c11 v2).n) (.int .i64 (wrB c11 v2).t))
        clear r0 r1 r2 q0 q1 q2 R2 B2 A2 C2 
        clear g
        generalize (((w2.setCell ⟨g11, 0, none⟩ (.complex .f64 (fl (wrB c11 v2).x) (fl (wrB c11 v2).y))).setCell ⟨g11, 1, none⟩ (.int .i64 (wrB c11 v2).n)).setCell ⟨g11, 2, none⟩ (.int .i64 (wrB c11 v2).t)) = z10 at *
        clear w2
        refine wpAnyH_done (by kernel_rfl) ?_ _
        go_wp2
        go_roundw
        case rel => exact ⟨j, _, by omega, by go_num, rfl, A, by rw [E10.out]; exact C, by rw [E11.out]; exact R, B⟩
        case measure => simp [intOf] <;> omega
      | zero =>
        obtain rfl : i0 = -1 := by omega
        have S10 : Hid (∃ c, bts (X.drop 0).reverse = c ∧ OkB c b.n ∧ swB c = s) := Lib.hid ⟨_, rfl, by
          have := bts_ok (X.drop 0).reverse
          rwa [List.length_reverse, List.drop_zero, HXL.out] at this, by rw [List.drop_zero, sw_rev, HB.out]; exact HS.out⟩
        have S11 : Hid (∃ c, bts ((X.drop 0).map (mvF d)).reverse = c ∧ OkB c b.n ∧ swB c = s) := Lib.hid ⟨_, rfl, by
          have := bts_ok ((X.drop 0).map (mvF d)).reverse
          rwa [List.length_reverse, List.length_map, List.drop_zero, HXL.out] at this, by rw [List.drop_zero, sw_rev, sw_mv X (mvF d) d (fun t _ => mv_4 d t), HB.out]; exact HS.out⟩
        obtain ⟨c10, e10, O10, T10⟩ := S10.out
        obtain ⟨c11, e11, O11, T11⟩ := S11.out
        rw [e10] at C
        rw [e11] at D
        clear S10 S11 e10 e11 hi0
        have O10 := Lib.hid O10
        have T10 := Lib.hid T10
        have O11 := Lib.hid O11
        have T11 := Lib.hid T11
        have hkk := tm_bd n2 1152921504606846976 (by decide)
        have V1 : Hid (OkB (wrB b (n2.tmod 1152921504606846976)) (b.n + 1)) := Lib.hid (HO.out.wr _)
        have V2 : Hid (OkB (wrB (wrB b (n2.tmod 1152921504606846976)) (n2.tmod 1152921504606846976 + 2)) (b.n + 1 + 1)) := Lib.hid (V1.out.wr _)
        have V3 : Hid (swB (wrB (wrB b (n2.tmod 1152921504606846976)) (n2.tmod 1152921504606846976 + 2)) = s) := Lib.hid ((sw_two _ _).trans HS.out)
        have V4 : Hid ((wrB (wrB b (n2.tmod 1152921504606846976)) (n2.tmod 1152921504606846976 + 2)).n = b.n + 2) := Lib.hid rfl
        obtain ⟨kk, hkq⟩ : ∃ kk, n2.tmod 1152921504606846976 = kk := ⟨_, rfl⟩
        rw [hkq] at V1 V2 V3 V4 hkk
        obtain ⟨b1, hb1⟩ : ∃ c, wrB b kk = c := ⟨_, rfl⟩
        rw [hb1] at V1 V2 V3 V4
        obtain ⟨b2, hb2⟩ : ∃ c, wrB b1 (kk + 2) = c := ⟨_, rfl⟩
        rw [hb2] at V2 V3 V4
        have HB1 := Lib.hid hb1
        have HB2 := Lib.hid hb2
        clear hb1 hb2
        obtain ⟨r0, r1, r2⟩ := bc3 A.out
        have N300 : b.n ≤ 302 := by omega
        have N301 : b.n + 1 ≤ 302 := by omega
        have N302 : b.n + 1 + 1 ≤ 302 := by omega
        go_wp2_with fail
        refine (write_t b b1 kk b.n HO.out N300 (by unfold i64; omega) HB1.out _).mono ?_
        rintro e v1 ⟨rfl, q⟩
        have A1 := Lib.hid (A.out.below q A.out.lt)
        have C1 := Lib.hid (C.out.below q C.out.lt)
        have D1 := Lib.hid (D.out.below q D.out.lt)
        have B1 := Lib.hid (B.out.trans (q.mono B.out.size))
        clear A C D B q r0 r1 r2
        go_wp2_with fail
        refine (write_t b1 b2 (kk + 2) (b.n + 1) V1.out N301 (by unfold i64; omega) HB2.out _).mono ?_
        rintro e v2 ⟨rfl, q⟩
        have C2 := Lib.hid ((C1.out.below q C1.out.lt).alloc (.cells #[.complex .f64 (fl b2.x) (fl b2.y), .int .i64 b2.n, .int .i64 b2.t] 25))
        have D2 := Lib.hid ((D1.out.below q D1.out.lt).alloc (.cells #[.complex .f64 (fl b2.x) (fl b2.y), .int .i64 b2.n, .int .i64 b2.t] 25))
        have E2 : Hid (Bk (v2.alloc (.cells #[.complex .f64 (fl b2.x) (fl b2.y), .int .i64 b2.n, .int .i64 b2.t] 25)) v2.heap.size 25 (bcells b2)) := Lib.hid (Bk.new v2 _ _)
        have B2 : Hid (Below w.heap.size w (v2.alloc (.cells #[.complex .f64 (fl b2.x) (fl b2.y), .int .i64 b2.n, .int .i64 b2.t] 25))) := Lib.hid ((B1.out.trans (q.mono B1.out.size)).alloc (B1.out.trans (q.mono B1.out.size)).size _)
        clear A1 C1 D1 B1 q
        obtain ⟨r0, r1, r2⟩ := bc3 C2.out
        obtain ⟨s0, s1, s2⟩ := bc3 D2.out
        obtain ⟨t0, t1, t2⟩ := bc3 E2.out
        go_wp2_with fail
        generalize v2.heap.size = g14 at *
        generalize v2.alloc (.cells #[.complex .f64 (fl b2.x) (fl b2.y), .int .i64 b2.n, .int .i64 b2.t] 25) = x0 at *
        clear v2
        have C := C2
        have D := D2
        have E := E2
        have B := B2
        clear C2 D2 E2 B2
        refine (sway_t c10 b.n s O10.out N300 T10.out _).mono ?_
        rintro e x1 ⟨rfl, q⟩
        have C2 := Lib.hid (C.out.below q C.out.lt)
        have D2 := Lib.hid (D.out.below q D.out.lt)
        have E2 := Lib.hid (E.out.below q E.out.lt)
        have B2 := Lib.hid (B.out.trans (q.mono B.out.size))
        clear q C D E B r0 r1 r2 s0 s1 s2 t0 t1 t2
        have C := C2
        have D := D2
        have E := E2
        have B := B2
        clear C2 D2 E2 B2
        obtain ⟨r0, r1, r2⟩ := bc3 C.out
        obtain ⟨s0, s1, s2⟩ := bc3 D.out
        obtain ⟨t0, t1, t2⟩ := bc3 E.out
        go_wp2_with fail
        refine (sway_t c11 b.n s O11.out N300 T11.out _).mono ?_
        rintro e x2 ⟨rfl, q⟩
        have C2 := Lib.hid (C.out.below q C.out.lt)
        have D2 := Lib.hid (D.out.below q D.out.lt)
        have E2 := Lib.hid (E.out.below q E.out.lt)
        have B2 := Lib.hid (B.out.trans (q.mono B.out.size))
        clear q C D E B r0 r1 r2 s0 s1 s2 t0 t1 t2
        have C := C2
        have D := D2
        have E := E2
        have B := B2
        clear C2 D2 E2 B2
        obtain ⟨r0, r1, r2⟩ := bc3 C.out
        obtain ⟨s0, s1, s2⟩ := bc3 D.out
        obtain ⟨t0, t1, t2⟩ := bc3 E.out
        go_wp2_with fail
        refine (sway_t b2 (b.n + 1 + 1) s V2.out N302 V3.out _).mono ?_
        rintro e x3 ⟨rfl, q⟩
        have C2 := Lib.hid (C.out.below q C.out.lt)
        have D2 := Lib.hid (D.out.below q D.out.lt)
        have E2 := Lib.hid (E.out.below q E.out.lt)
        have B2 := Lib.hid (B.out.trans (q.mono B.out.size))
        clear q C D E B r0 r1 r2 s0 s1 s2 t0 t1 t2
        have C := C2
        have D := D2
        have E := E2
        have B := B2
        clear C2 D2 E2 B2
        obtain ⟨r0, r1, r2⟩ := bc3 C.out
        obtain ⟨s0, s1, s2⟩ := bc3 D.out
        obtain ⟨t0, t1, t2⟩ := bc3 E.out
        go_wp2_with fail
        refine (writes_any b2 _).mono ?_
        rintro e x4 ⟨rfl, q⟩
        have C2 := Lib.hid (C.out.below q C.out.lt)
        have D2 := Lib.hid (D.out.below q D.out.lt)
        have E2 := Lib.hid (E.out.below q E.out.lt)
        have B2 := Lib.hid (B.out.trans (q.mono B.out.size))
        clear q C D E B r0 r1 r2 s0 s1 s2 t0 t1 t2
        have C := C2
        have D := D2
        have E := E2
        have B := B2
        clear C2 D2 E2 B2
        obtain ⟨r0, r1, r2⟩ := bc3 C.out
        obtain ⟨s0, s1, s2⟩ := bc3 D.out
        obtain ⟨t0, t1, t2⟩ := bc3 E.out
        have e4 : (b2.n : Int) = (b.n : Int) + 2 := by rw [V4.out]; omega
        rw [e4]
        go_wp2_with fail
        refine (known_any _).mono ?_
        rintro e x5 ⟨rfl, q⟩
        have C2 := Lib.hid (C.out.below q C.out.lt)
        have D2 := Lib.hid (D.out.below q D.out.lt)
        have E2 := Lib.hid (E.out.below q E.out.lt)
        have B2 := Lib.hid (B.out.trans (q.mono B.out.size))
        clear q C D E B r0 r1 r2 s0 s1 s2 t0 t1 t2
        have C := C2
        have D := D2
        have E := E2
        have B := B2
        clear C2 D2 E2 B2
        obtain ⟨r0, r1, r2⟩ := bc3 C.out
        obtain ⟨s0, s1, s2⟩ := bc3 D.out
        obtain ⟨t0, t1, t2⟩ := bc3 E.out
        go_wp2_with fail
        go_ret
        exact ⟨rfl, B.out⟩

set_option maxRecDepth 100000 in
theorem lifted (os : Os) (started : os.Started) (H : Type) (enc : TypeId × Value → H) :
    ReturnsInHanded {} Try.checked os 4 .any (Rows.phaseSwaysSpec.pre6 enc Try.prog Try.f4 Rows.phaseSwaysRow.domain false) (Rows.phaseSwaysSpec.post enc Try.prog Try.f4 false true false false) := by
  refine returnsInHanded_of_change (C := Try.checked) own started (by kernel_rfl) Try.func4
    (ChangeSpec.witness6 (enc := enc) (C := Try.checked) false ⟨#[], #[.slice none 0 0, .int .i64 0, .int .i64 0], []⟩ 8 (by kernel_rfl) (by kernel_rfl) (by kernel_rfl) (by kernel_rfl)) ?_
  intro W base args ds gs before hval0 hW hcnd _
  have hval : ∀ (j : Nat) t v, Try.f4.params[j]? = some t → args[j]? = some v → Value.okWide Try.prog W .any base t v := hval0
  have hW' := hW
  obtain ⟨p, q, hA0, hV, rfl, hfz, hnd⟩ := hW
  have hA : DataW.TrodAll enc Try.prog W 0 (fun _ => true) true Try.f4.params.toList args.toList ds p := hA0
  rw [Try.params4] at hA hval
  obtain ⟨v0, vs0, d0, ds0, p0, q0, hargs, rfl, rfl, h0, r0⟩ := trodAll_cons hA
  obtain ⟨v1, vs1, d1, ds1, p1, q1, rfl, rfl, rfl, h1, r1⟩ := trodAll_cons r0
  obtain ⟨v2, vs2, d2, ds2, p2, q2, rfl, rfl, rfl, h2, r2⟩ := trodAll_cons r1
  obtain ⟨rfl, rfl, rfl⟩ := trodAll_nil r2
  obtain rfl : args = #[v0, v1, v2] := by cases args; simp_all
  obtain ⟨rfl, rfl⟩ := trodVars_none hV
  obtain ⟨a0, len0, cap0, rfl⟩ := okWide_slice Try.underlying22 (hval 0 22 v0 rfl rfl)
  have k0 := h0
  have lt0 : ∀ x ∈ p0, x.block < W.heap.size := by obtain ⟨m, hm⟩ := k0; exact DataW.trod_lt m _ _ _ hm
  obtain ⟨L0, l0, f0, c0, m0, rr0⟩ := open_times h0
  obtain ⟨n1, rfl, rfl, rfl, w1⟩ := open_int Try.underlying3 (hval 1 3 v1 rfl rfl) h1
  obtain ⟨n2, rfl, rfl, rfl, w2⟩ := open_int Try.underlying3 (hval 2 3 v2 rfl rfl) h2
  clear hA0 hval0
  refine (walk a0 len0 cap0 L0 n1 n2 W l0 f0 c0 m0 rr0 w1 w2).mono fun e W' ⟨he, bel⟩ => ?_
  subst he
  exact ⟨_, rfl, _, _, _, [], _, [], hW', trodAll_mk1 (shut_bool Try.underlying4 _), (trodAll_cons_mk (Below.trod laidOut (by kernel_rfl) (of_decide_eq_true (by kernel_rfl)) k0 bel lt0) (trodAll_cons_mk (shut_int Try.underlying3 w1) (trodAll_cons_mk (shut_int Try.underlying3 w2) trodAll_mk0))), rfl, bel.frame _, fun h => by cases h⟩

theorem over : Rows.phaseSwaysRow.holds Try.pinned (OpenSpec.ofChange Rows.phaseSwaysSpec) :=
  OpenClaim.holds_of_wide 4 Try.f4 rfl rfl rfl rfl rfl rfl rfl ⟨rfl, rfl, rfl, rfl, rfl⟩ rfl rfl rfl rfl rfl (by kernel_rfl) Try.func4 (by kernel_rfl)
    (of_decide_eq_true (by kernel_rfl)) (by unfold Func.isWrapper; first | (rw [if_pos (by decide +kernel)]; kernel_rfl) | (rw [if_neg (by decide +kernel)]; exact ⟨rfl, rfl⟩))
    (fun os started H enc _ => lifted os started H enc)

theorem proved : Rows.PhaseSwaysSaid := over
#print axioms proved
end Go.Proofs.Ytfkfadafncjifaa.phaseSways
