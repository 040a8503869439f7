/-
  Layer 8, CellsNumbers: the numbers of cells rise by one from 1 on, whatever was dropped and swept meanwhile; what was swept away is not there, what was not is; as many are swept as were dropped. No conditions.
-/
import Derived.Test.YthdgdkjaeebbcaaRows
import Derived.Test.YthdgdkjaeebbcaaCellsOpen
import Derived.Test.YthdgdkjaeebbcaaCellsCount
import Derived.Deep.DeepCutAuto
import Derived.IntWalk
import Derived.Deep.LoopGhost
import Derived.WalkKit
import Derived.ProofKit
import Derived.OpenShut
import Derived.ChangeOld
import Derived.Below
namespace Go.Proofs.Ythdgdkjaeebbcaa.cellsNumbers
open Go.ChangeShapes Go.WideShapes Go.ChangeAt Go.RowKit Ow Ph Ro K2
set_option linter.unusedVariables false
set_option linter.unusedSimpArgs false
attribute [local go_sem] run_store_complex

theorem own : ownKnob Try.prog.godebug = none := by kernel_rfl
theorem laidOut : laidOutB Try.prog = true := by kernel_rfl

def pickM (w : World) (n : Int) (e : Ending) (w' : World) : Prop := ∃ r : Int, 0 ≤ r ∧ r < n ∧ e = .returned (.int .i64 r) ∧ w = w'
theorem pick_m (k n : Int) (h1 : -9223372036854775808 ≤ k) (h2 : k ≤ 9223372036854775807) (hn : 1 ≤ n) (hn2 : n ≤ 1000) (w : World) :
    Calls Try.prog 27 #[.int .i64 k, .int .i64 n] w (pickM w n) := by
  have b1 := Int.tmod_lt_of_pos k (show (0 : Int) < n by omega)
  have b2 : -n < k.tmod n := by
    have h := Int.tmod_lt_of_pos (-k) (show (0 : Int) < n by omega)
    rw [Int.neg_tmod] at h
    omega
  have hz : (n == 0) = false := by rw [beq_eq_false_iff_ne]; omega
  generalize hq : k.tmod n = q at *
  by_cases h : q < 0
  · go_enter Try.func27, Try.ntmps27
    go_wp2
    go_ret
    exact ⟨q + n, by omega, by omega, rfl, rfl⟩
  · go_enter Try.func27, Try.ntmps27
    go_wp2
    go_ret
    exact ⟨q, by omega, by omega, rfl, rfl⟩
theorem dr_again {L : List Cl} {id : Int} (h : gt L id = none ∨ ∃ c, gt L id = some c ∧ c.gone = true) : drC L id = (false, L) ∧ drC (swL L) id = (false, swL L) ∧ szC (swL L) id = 0 := by
  have h2 : gt (swL L) id = none := by
    rw [gt_swL]
    rcases h with h | ⟨c, h, hg⟩
    · rw [h]; rfl
    · rw [h]; simp [Option.filter, hg]
  refine ⟨?_, ?_, ?_⟩
  · unfold drC
    rcases h with h | ⟨c, h, hg⟩
    · rw [h]
    · rw [h]; simp [hg]
  · unfold drC; rw [h2]
  · unfold szC; rw [h2]; rfl
theorem nG_pos {L : List Cl} {id : Int} {c : Cl} (hg : gt L id = some c) (hgn : c.gone = true) : 1 ≤ nG L := by
  obtain ⟨h1, h2, h3, h4⟩ := gt_some hg
  rw [nG_eq]
  exact List.countP_pos_iff.2 ⟨c, List.mem_of_getElem? h3, by simp [hgn, h4]⟩
theorem nG_le (L : List Cl) : nG L ≤ L.length := by rw [nG_eq]; exact List.countP_le_length
theorem lv_le (L : List Cl) : lv L ≤ L.length := by unfold lv; exact List.countP_le_length
theorem iv8_get (xs : List Int) (k : Nat) (hk : k < xs.length) : (iv8 xs)[k]? = some (.int .i64 xs[k]) := by simp [iv8, hk]
theorem mk1 (L : List Cl) (x : Int) : mkL L [x] = L ++ [⟨[x], [], false, false⟩] := rfl
theorem sw_len (L : List Cl) : (swL L).length = L.length := by unfold swL; rw [List.length_map]

set_option maxRecDepth 100000 in
set_option maxHeartbeats 4000000 in
theorem walk (a0 : Option Addr) (len0 cap0 : Nat) (L0 : List Int) (w : World) (l0 : L0.length = len0) (f0 : ∀ t ∈ L0, i64 t) (c0 : len0 ≤ cap0) (m0 : cap0 ≤ 9223372036854775807) (r0 : Rd w w.heap.size a0 (iv8 L0)) :
    Calls Try.prog 6 #[.slice a0 len0 cap0] w fun e w' => e = .returned (.bool true) ∧ Below w.heap.size w w' := by
  have RR := Lib.hid r0
  have HL := Lib.hid l0
  have HF := Lib.hid f0
  have HB0 := Lib.hid (Below.refl w.heap.size w)
  clear r0 l0 f0
  go_enter Try.func6, Try.ntmps6
  go_wp2_with fail
  with_reducible refine (new_h HB0.out).mono ?_
  rintro e w4 ⟨P, rfl, h1⟩
  have H1 := Lib.hid h1
  clear h1
  go_wp2_with fail
  go_loopw [4, 5] (fun lf i wr => ∃ (k : Nat) (L : List Cl), k ≤ 100 ∧ k ≤ len0 ∧ i = .int .i64 k ∧ lf = .int .i64 (lv L : Nat) ∧ Hid (Has w P L wr) ∧ Hid (OkL k L) ∧ Hid (L.length = k)) (fun _ i _ => 100 - (intOf i).toNat)
  case atStart => exact ⟨0, [], by omega, by omega, rfl, rfl, H1, Lib.hid ⟨by simp, fun c h => by simp at h⟩, Lib.hid rfl⟩
  case round =>
    obtain ⟨k, L, hk, hkl, rfl, rfl, H2, OK, LEN⟩ := hrel
    clear H1
    by_cases hlt : k < len0
    · by_cases hl1 : k < 100
      · have hkl : k < L0.length := by rw [HL.out]; exact hlt
        obtain ⟨ad, rfl, _, hcx⟩ := (RR.out.below H2.out.below) (by unfold iv8; rw [List.length_map]; omega)
        have HCX : Hid (∀ z, Below w.heap.size w z → z.cell? (ad.add k) = some (.int .i64 L0[k])) := Lib.hid (fun z hz => by
          obtain ⟨ad', e, _, hc5⟩ := (RR.out.below hz) (by unfold iv8; rw [List.length_map]; omega)
          injection e with e
          subst e
          exact hc5 k _ (iv8_get L0 k hkl))
        have hg := HF.out _ (List.getElem_mem hkl)
        generalize L0[k] = g at *
        obtain ⟨g1, g2⟩ := hg
        clear hcx hkl
        have i1 : (k : Int) < (len0 : Int) := by omega
        have i2 : (k : Int) < 100 := by omega
        have i3 : (0 : Int) ≤ (k : Int) := by omega
        have hlv0 := lv_le L
        rw [LEN.out] at hlv0
        have OK1 : Hid (OkL (k + 1) (L ++ [⟨[(k : Int)], [], false, false⟩])) := Lib.hid (okl_app OK.out ⟨by intro b hb; simp only [List.mem_singleton] at hb; subst hb; omega, by simp, by simp, by simp, by simp⟩)
        have LV1 : Hid ((lv (L ++ [⟨[(k : Int)], [], false, false⟩]) : Int) = (lv L : Int) + 1) := Lib.hid (by rw [lv_app]; push_cast; simp)
        have LEN1 : Hid ((L ++ [(⟨[(k : Int)], [], false, false⟩ : Cl)]).length = k + 1) := Lib.hid (by rw [List.length_append, LEN.out]; rfl)
        have hlv : (lv L : Int) ≤ 100 := by omega
        have hlw : (0 : Int) ≤ (lv L : Int) := by omega
        go_wp2_with fail
        with_reducible refine (make_lit H2.out OK.out (by omega) #[.int .u8 (k : Int)] 1 [(k : Int)] rfl rfl (by decide)).mono ?_
        rintro e w5 ⟨rfl, h3⟩
        rw [mk1] at h3
        have H3 := Lib.hid h3
        rw [LEN.out]
        have cx := HCX.out w5 H3.out.below
        clear h3 H2 OK LEN hlv0
        generalize (L ++ [(⟨[(k : Int)], [], false, false⟩ : Cl)]) = L1 at *
        generalize (lv L : Int) = left at *
        go_wp2_with fail
        with_reducible refine (pick_m g ((k : Int) + 1) g1 g2 (by omega) (by omega) _).mono ?_
        rintro e w' ⟨r, r1, r2, rfl, rfl⟩
        go_wp2_with fail
        rcases dr_cases L1 (1 + r) with ⟨hd, hcase⟩ | ⟨c, hgc, hgn, hd⟩
        · have AG := Lib.hid (dr_again hcase)
          clear hcase
          have HD := Lib.hid hd
          clear hd
          have LE := LEN1
          have OK2 := OK1
          obtain ⟨left', hleft⟩ : ∃ left', left' = left + 1 := ⟨_, rfl⟩
          have LV2 : Hid ((lv L1 : Int) = left') := Lib.hid (by rw [hleft]; exact LV1.out)
          clear LEN1 OK1 LV1
          with_reducible refine (drop_h H3.out (by rw [LE.out]; omega) (1 + r) _ HD.out).mono ?_
          rintro e w6 ⟨rfl, h4⟩
          dsimp only at h4 ⊢
          clear HD
          have hl1 : left' ≤ 101 := by omega
          have hl2 : 0 ≤ left' := by have := LV2.out; omega
          rw [← hleft]
          clear hleft
          generalize L1 = L2 at *
          by_cases hpar : g.tmod 2 = 0
          · have H4 := Lib.hid h4
            clear cx
            have cx := HCX.out w6 H4.out.below
            clear h4 H3
            have hge : (g.tmod 2 == 0) = true := by simpa using hpar
            clear hpar
            go_wp2_with fail
            with_reducible refine (sweep_h H4.out (by rw [LE.out]; omega) (nG L2 : Int) rfl _ rfl).mono ?_
            rintro e w7 ⟨rfl, h5⟩
            have H5 := Lib.hid h5
            clear h5 H4
            have hng := Lib.hid (nG_le L2)
            have hn1 : (nG L2 : Int) ≤ 1000 := by have := hng.out; rw [LE.out] at this; omega
            generalize (nG L2 : Int) = ng at *
            go_wp2_with fail
            with_reducible refine (size_h H5.out (1 + r)).mono ?_
            rintro e w' ⟨rfl, rfl⟩
            rw [AG.out.2.2]
            have OK3 : Hid (OkL (k + 1) (swL L2)) := Lib.hid (okl_sw OK2.out)
            have LE3 : Hid ((swL L2).length = k + 1) := Lib.hid (by rw [sw_len, LE.out])
            have LV3 : Hid ((lv (swL L2) : Int) = left') := Lib.hid (by rw [lv_sw]; exact LV2.out)
            have AG3 : Hid (drC (swL L2) (1 + r) = (false, (swL L2))) := Lib.hid (AG.out.2.1)
            clear AG OK2 LE LV2
            generalize (swL L2) = L3 at *
            go_wp2_with fail
            with_reducible refine (live_h H5.out (by rw [LE3.out]; omega) left' (by rw [live_is OK3.out]; exact LV3.out)).mono ?_
            rintro e w8 ⟨rfl, q⟩
            have H6 := Lib.hid (H5.out.grow q)
            clear q H5
            go_wp2_with fail
            with_reducible refine (drop_h H6.out (by rw [LE3.out]; omega) (1 + r) _ AG3.out).mono ?_
            rintro e w9 ⟨rfl, h7⟩
            dsimp only at h7 ⊢
            have H7 := Lib.hid h7
            clear h7 H6
            go_wp2
            go_roundw
            case rel => exact ⟨k + 1, L3, by omega, by omega, by go_num, by rw [LV3.out], H7, OK3, LE3⟩
            case measure => simp [intOf]; omega
          · have H4 := Lib.hid h4
            clear cx
            have cx := HCX.out w6 H4.out.below
            clear h4 H3
            have hge : (g.tmod 2 == 0) = false := by simpa using hpar
            clear hpar
            have OK3 : Hid (OkL (k + 1) L2) := Lib.hid (OK2.out)
            have LE3 : Hid (L2.length = k + 1) := Lib.hid (LE.out)
            have LV3 : Hid ((lv L2 : Int) = left') := Lib.hid (by skip; exact LV2.out)
            have AG3 : Hid (drC L2 (1 + r) = (false, L2)) := Lib.hid (AG.out.1)
            clear AG OK2 LE LV2
            generalize L2 = L3 at *
            go_wp2_with fail
            with_reducible refine (live_h H4.out (by rw [LE3.out]; omega) left' (by rw [live_is OK3.out]; exact LV3.out)).mono ?_
            rintro e w8 ⟨rfl, q⟩
            have H6 := Lib.hid (H4.out.grow q)
            clear q H4
            go_wp2_with fail
            with_reducible refine (drop_h H6.out (by rw [LE3.out]; omega) (1 + r) _ AG3.out).mono ?_
            rintro e w9 ⟨rfl, h7⟩
            dsimp only at h7 ⊢
            have H7 := Lib.hid h7
            clear h7 H6
            go_wp2
            go_roundw
            case rel => exact ⟨k + 1, L3, by omega, by omega, by go_num, by rw [LV3.out], H7, OK3, LE3⟩
            case measure => simp [intOf]; omega
        · have HD := Lib.hid hd
          clear hd
          have hgd := gt_dr hgc
          have AG := Lib.hid (dr_again (.inr ⟨_, hgd, rfl⟩))
          have NP := Lib.hid (nG_pos hgd rfl)
          have LE : Hid ((L1.set ((1 + r).toNat - 1) { c with gone := true }).length = k + 1) := Lib.hid (by rw [List.length_set, LEN1.out])
          have hoc := gt_ok OK1.out hgc
          have OK2 : Hid (OkL (k + 1) (L1.set ((1 + r).toNat - 1) { c with gone := true })) := Lib.hid (okl_set OK1.out ⟨hoc.bytes, hoc.len, hoc.often, hoc.times, fun _ => rfl⟩)
          have LV2 : Hid ((lv (L1.set ((1 + r).toNat - 1) { c with gone := true }) : Int) = left) := Lib.hid (by have := lv_dr hgc hgn; have := LV1.out; omega)
          clear LEN1 OK1 LV1 hgd hoc
          with_reducible refine (drop_h H3.out (by have := LE.out; rw [List.length_set] at this; omega) (1 + r) _ HD.out).mono ?_
          rintro e w6 ⟨rfl, h4⟩
          dsimp only at h4 ⊢
          clear HD
          have hl1 : left ≤ 101 := by omega
          have hl2 : 0 ≤ left := by have := LV2.out; omega
          clear hgc hgn
          generalize (L1.set ((1 + r).toNat - 1) { c with gone := true }) = L2 at *
          by_cases hpar : g.tmod 2 = 0
          · have H4 := Lib.hid h4
            clear cx
            have cx := HCX.out w6 H4.out.below
            clear h4 H3
            have hge : (g.tmod 2 == 0) = true := by simpa using hpar
            clear hpar
            go_wp2_with fail
            with_reducible refine (sweep_h H4.out (by rw [LE.out]; omega) (nG L2 : Int) rfl _ rfl).mono ?_
            rintro e w7 ⟨rfl, h5⟩
            have H5 := Lib.hid h5
            clear h5 H4
            have hng := Lib.hid (nG_le L2)
            have hn1 : (nG L2 : Int) ≤ 1000 := by have := hng.out; rw [LE.out] at this; omega
            have hn2 : 1 ≤ (nG L2 : Int) := by have := NP.out; omega
            generalize (nG L2 : Int) = ng at *
            go_wp2_with fail
            with_reducible refine (size_h H5.out (1 + r)).mono ?_
            rintro e w' ⟨rfl, rfl⟩
            rw [AG.out.2.2]
            have OK3 : Hid (OkL (k + 1) (swL L2)) := Lib.hid (okl_sw OK2.out)
            have LE3 : Hid ((swL L2).length = k + 1) := Lib.hid (by rw [sw_len, LE.out])
            have LV3 : Hid ((lv (swL L2) : Int) = left) := Lib.hid (by rw [lv_sw]; exact LV2.out)
            have AG3 : Hid (drC (swL L2) (1 + r) = (false, (swL L2))) := Lib.hid (AG.out.2.1)
            clear AG OK2 LE LV2
            generalize (swL L2) = L3 at *
            go_wp2_with fail
            with_reducible refine (live_h H5.out (by rw [LE3.out]; omega) left (by rw [live_is OK3.out]; exact LV3.out)).mono ?_
            rintro e w8 ⟨rfl, q⟩
            have H6 := Lib.hid (H5.out.grow q)
            clear q H5
            go_wp2_with fail
            with_reducible refine (drop_h H6.out (by rw [LE3.out]; omega) (1 + r) _ AG3.out).mono ?_
            rintro e w9 ⟨rfl, h7⟩
            dsimp only at h7 ⊢
            have H7 := Lib.hid h7
            clear h7 H6
            go_wp2
            go_roundw
            case rel => exact ⟨k + 1, L3, by omega, by omega, by go_num, by rw [LV3.out], H7, OK3, LE3⟩
            case measure => simp [intOf]; omega
          · have H4 := Lib.hid h4
            clear cx
            have cx := HCX.out w6 H4.out.below
            clear h4 H3
            have hge : (g.tmod 2 == 0) = false := by simpa using hpar
            clear hpar
            have OK3 : Hid (OkL (k + 1) L2) := Lib.hid (OK2.out)
            have LE3 : Hid (L2.length = k + 1) := Lib.hid (LE.out)
            have LV3 : Hid ((lv L2 : Int) = left) := Lib.hid (by skip; exact LV2.out)
            have AG3 : Hid (drC L2 (1 + r) = (false, L2)) := Lib.hid (AG.out.1)
            clear AG OK2 LE LV2
            generalize L2 = L3 at *
            go_wp2_with fail
            with_reducible refine (live_h H4.out (by rw [LE3.out]; omega) left (by rw [live_is OK3.out]; exact LV3.out)).mono ?_
            rintro e w8 ⟨rfl, q⟩
            have H6 := Lib.hid (H4.out.grow q)
            clear q H4
            go_wp2_with fail
            with_reducible refine (drop_h H6.out (by rw [LE3.out]; omega) (1 + r) _ AG3.out).mono ?_
            rintro e w9 ⟨rfl, h7⟩
            dsimp only at h7 ⊢
            have H7 := Lib.hid h7
            clear h7 H6
            go_wp2
            go_roundw
            case rel => exact ⟨k + 1, L3, by omega, by omega, by go_num, by rw [LV3.out], H7, OK3, LE3⟩
            case measure => simp [intOf]; omega
      · obtain rfl : k = 100 := by omega
        go_wp2_with fail
        with_reducible refine (works_c _).mono ?_
        rintro e w9 ⟨rfl, q⟩
        have B9 := Lib.hid (H2.out.below.trans (q.mono H2.out.below.size))
        clear q H2
        go_wp2
        go_ret
        exact ⟨rfl, B9.out⟩
    · obtain rfl : k = len0 := by omega
      go_wp2_with fail
      with_reducible refine (works_c _).mono ?_
      rintro e w9 ⟨rfl, q⟩
      have B9 := Lib.hid (H2.out.below.trans (q.mono H2.out.below.size))
      clear q H2
      go_wp2
      go_ret
      exact ⟨rfl, B9.out⟩

set_option maxRecDepth 100000 in
theorem lifted (os : Os) (started : os.Started) (H : Type) (enc : TypeId × Value → H) :
    ReturnsInHanded {} Try.checked os 6 .any (Rows.cellsNumbersSpec.pre6 enc Try.prog Try.f6 Rows.cellsNumbersRow.domain false) (Rows.cellsNumbersSpec.post enc Try.prog Try.f6 false true false false) := by
  refine returnsInHanded_of_change (C := Try.checked) own started (by kernel_rfl) Try.func6
    (ChangeSpec.witness6 (enc := enc) (C := Try.checked) false ⟨#[], #[.slice none 0 0], []⟩ 8 (by kernel_rfl) (by kernel_rfl) (by kernel_rfl) (by kernel_rfl)) ?_
  intro W base args ds gs before hval0 hW hcnd _
  have hval : ∀ (j : Nat) t v, Try.f6.params[j]? = some t → args[j]? = some v → Value.okWide Try.prog W .any base t v := hval0
  have hW' := hW
  obtain ⟨p, q, hA0, hV, rfl, hfz, hnd⟩ := hW
  have hA : DataW.TrodAll enc Try.prog W 0 (fun _ => true) true Try.f6.params.toList args.toList ds p := hA0
  rw [Try.params6] at hA hval
  obtain ⟨v0, vs0, d0, ds0, p0, q0, hargs, rfl, rfl, h0, r0⟩ := trodAll_cons hA
  obtain ⟨rfl, rfl, rfl⟩ := trodAll_nil r0
  obtain rfl : args = #[v0] := by cases args; simp_all
  obtain ⟨rfl, rfl⟩ := trodVars_none hV
  obtain ⟨a0, len0, cap0, rfl⟩ := okWide_slice Try.underlying50 (hval 0 50 v0 rfl rfl)
  have k0 := h0
  have lt0 : ∀ x ∈ p0, x.block < W.heap.size := by obtain ⟨m, hm⟩ := k0; exact DataW.trod_lt m _ _ _ hm
  obtain ⟨L0, l0, f0, c0, m0, rr0⟩ := open_times h0
  clear hA0 hval0
  refine (walk a0 len0 cap0 L0 W l0 f0 c0 m0 rr0).mono fun e W' ⟨he, bel⟩ => ?_
  subst he
  exact ⟨_, rfl, _, _, _, [], _, [], hW', trodAll_mk1 (shut_bool Try.underlying4 _), (trodAll_cons_mk (Below.trod laidOut (by kernel_rfl) (of_decide_eq_true (by kernel_rfl)) k0 bel lt0) trodAll_mk0), rfl, bel.frame _, fun h => by cases h⟩

theorem over : Rows.cellsNumbersRow.holds Try.pinned (OpenSpec.ofChange Rows.cellsNumbersSpec) :=
  OpenClaim.holds_of_wide 6 Try.f6 rfl rfl rfl rfl rfl rfl rfl ⟨rfl, rfl, rfl, rfl, rfl⟩ rfl rfl rfl rfl rfl (by kernel_rfl) Try.func6 (by kernel_rfl)
    (of_decide_eq_true (by kernel_rfl)) (by unfold Func.isWrapper; first | (rw [if_pos (by decide +kernel)]; kernel_rfl) | (rw [if_neg (by decide +kernel)]; exact ⟨rfl, rfl⟩))
    (fun os started H enc _ => lifted os started H enc)

theorem proved : Rows.CellsNumbersSaid := over
#print axioms proved
end Go.Proofs.Ythdgdkjaeebbcaa.cellsNumbers
