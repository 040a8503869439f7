/-
  Layer 8, CellsBack: what is stored in a cell, inside, is loaded, byte by byte too; all other bytes are as they were. No conditions.
-/
import Derived.Test.YthdgdkjaeebbcaaRows
import Derived.Test.YthdgdkjaeebbcaaCellsOpen
import Derived.Test.YthdgdkjaeebbcaaCellsMath2
import Derived.Deep.DeepCutAuto
import Derived.IntWalk
import Derived.Deep.LoopGhost
import Derived.WalkKit
import Derived.ProofKit
import Derived.OpenShut
import Derived.ChangeOld
import Derived.Below
namespace Go.Proofs.Ythdgdkjaeebbcaa.cellsBack
open Go.ChangeShapes Go.WideShapes Go.ChangeAt Go.RowKit Ow Ph Ro K2
set_option linter.unusedVariables false
set_option linter.unusedSimpArgs false
attribute [local go_sem] run_store_complex

theorem own : ownKnob Try.prog.godebug = none := by kernel_rfl
theorem laidOut : laidOutB Try.prog = true := by kernel_rfl

theorem bv_take (l : List Int) (n : Nat) : (bv l).take n = bv (l.take n) := by unfold bv; rw [List.map_take]
theorem back_l1 (bs : List Int) : mkL [] bs = [⟨bs.take 64, [], false, false⟩] := rfl
theorem ins_f {N : Nat} {n1 n2 : Int} (h : ¬ ((n2 = 1 ∨ n2 = 2 ∨ n2 = 4 ∨ n2 = 8) ∧ 0 ≤ n1 ∧ n1 ≤ N - n2)) : Value.bool false = Value.bool (insB N n1 n2) := by unfold insB; rw [decide_eq_false h]
theorem ins_d {N : Nat} {n1 n2 : Int} {p : Prop} [Decidable p] (h : p ↔ ((n2 = 1 ∨ n2 = 2 ∨ n2 = 4 ∨ n2 = 8) ∧ 0 ≤ n1 ∧ n1 ≤ N - n2)) : Value.bool (decide p) = Value.bool (insB N n1 n2) := by unfold insB; rw [decide_eq_decide.2 h]
theorem st_f (ys : List Int) (n1 n2 n3 : Int) (h : insB ys.length n1 n2 = false) : stC [(⟨ys, [], false, false⟩ : Cl)] 1 n1 n2 n3 0 = (false, [⟨ys, [], false, false⟩]) := by
  unfold stC; rw [gt_one _ rfl]; simp [h]
theorem st_t (ys : List Int) (n1 n2 n3 : Int) (h : insB ys.length n1 n2 = true) : stC [(⟨ys, [], false, false⟩ : Cl)] 1 n1 n2 n3 0 = (true, [⟨putL ys n1.toNat n3 n2.toNat, [0], false, false⟩]) := by
  unfold stC; rw [gt_one _ rfl]; simp [h]
theorem sz_1 (ys ts : List Int) : szC [(⟨ys, ts, false, false⟩ : Cl)] 1 = ys.length := by unfold szC; rw [gt_one _ rfl]; rfl
theorem bs_1 (ys ts : List Int) : bsC [(⟨ys, ts, false, false⟩ : Cl)] 1 = ys := by unfold bsC; rw [gt_one _ rfl]; rfl
theorem ld_1 (ys ts : List Int) (n1 n2 : Int) (h : insB ys.length n1 n2 = true) : ldC [(⟨ys, ts, false, false⟩ : Cl)] 1 n1 n2 = some (leV ((ys.drop n1.toNat).take n2.toNat)) := by unfold ldC; rw [gt_one _ rfl]; simp [h]
theorem m8 (n : Int) (h1 : 0 ≤ n) (h2 : n ≤ 18446744073709551615) : n % 256 ^ (8 : Int).toNat = n := by
  have e : (256 : Int) ^ (8 : Int).toNat = 18446744073709551616 := by decide
  rw [e]
  exact Int.emod_eq_of_lt h1 (by omega)
theorem ld_i (ys ts : List Int) (i : Nat) (b : Int) (h : ys[i]? = some b) : ldC [(⟨ys, ts, false, false⟩ : Cl)] 1 (i : Int) 1 = some b := by
  have hi := (List.getElem?_eq_some_iff.1 h).1
  rw [ld_1 _ _ _ _ (by unfold insB; rw [decide_eq_true_eq]; omega), Int.toNat_natCast, show (1 : Int).toNat = 1 from rfl, leV_one _ _ _ h]
theorem i64_0 : i64 0 := ⟨by decide, by decide⟩

set_option maxRecDepth 100000 in
set_option maxHeartbeats 100000000 in
theorem walk (a0 : Option Addr) (len0 cap0 : Nat) (L0 : List Int) (n1 : Int) (n2 : Int) (n3 : Int) (w : World) (l0 : L0.length = len0) (f0 : ∀ b ∈ L0, 0 ≤ b ∧ b ≤ 255) (c0 : len0 ≤ cap0) (m0 : cap0 ≤ 9223372036854775807) (z0 : a0 = none → len0 = 0 ∧ cap0 = 0) (r0 : Rd w w.heap.size a0 (bv L0)) (w1 : (Lit.int .i64 n1).wf = true) (w2 : (Lit.int .i64 n2).wf = true) (w3 : (Lit.int .u64 n3).wf = true) :
    Calls Try.prog 5 #[.slice a0 len0 cap0, .int .i64 n1, .int .i64 n2, .int .u64 n3] w fun e w' => e = .returned (.bool true) ∧ Below w.heap.size w w' := by
  have hw0 := bounds_i64 w1
  have hw1 := bounds_i64 w2
  have hw2 := bounds_u64 w3
  obtain ⟨o1, o2⟩ := hw0
  obtain ⟨s1, s2⟩ := hw1
  obtain ⟨v1, v2⟩ := hw2
  clear w1 w2 w3
  have RR := Lib.hid r0
  have HL := Lib.hid l0
  have HF := Lib.hid f0
  have HZ := Lib.hid z0
  have HB0 := Lib.hid (Below.refl w.heap.size w)
  clear r0 l0 f0 z0
  by_cases h200 : len0 ≤ 200
  · have i2 : (len0 : Int) ≤ 200 := by omega
    have HYS : ∃ ys, ys = L0.take 64 := ⟨_, rfl⟩
    obtain ⟨ys, hys⟩ := HYS
    have HYS := Lib.hid hys
    have HN : ∃ N, ys.length = N := ⟨_, rfl⟩
    obtain ⟨N, hN⟩ := HN
    have HN := Lib.hid hN
    have hN2 : N = min 64 len0 := by rw [← hN, hys, List.length_take, HL.out]
    have hOK : ∀ b ∈ ys, 0 ≤ b ∧ b ≤ 255 := fun b hb => HF.out b (List.mem_of_mem_take (by rw [hys] at hb; exact hb))
    have HOK1 : Hid (OkL 1 [(⟨ys, [], false, false⟩ : Cl)]) := Lib.hid (okl_one 1 (by omega) _ ⟨hOK, by dsimp only; omega, by simp, by simp, by simp⟩)
    have HOK := Lib.hid hOK
    have RY : Hid (Rd w w.heap.size a0 (bv ys)) := Lib.hid (by rw [hys, ← bv_take]; exact RR.out.take 64)
    clear hys hN hOK
    go_enter Try.func5, Try.ntmps5
    go_wp2_with fail
    with_reducible refine (new_h HB0.out).mono ?_
    rintro e w4 ⟨P, rfl, h1⟩
    have H1 := Lib.hid h1
    clear h1
    go_wp2_with fail
    with_reducible refine (make_h H1.out ok0 (by decide) a0 len0 cap0 L0 HL.out c0 m0 HZ.out RR.out).mono ?_
    rintro e w5 ⟨rfl, h2⟩
    rw [back_l1, ← HYS.out] at h2
    have H2 := Lib.hid h2
    clear h2 H1
    have e0 : ((([] : List Cl).length : Nat) : Int) + 1 = 1 := rfl
    rw [e0]
    clear e0
    go_upto_region 5 with fail
    go_cut [0] (fun s0 wx => s0 = .slice a0 N cap0 ∧ w5 = wx)
    case first =>
      by_cases h64 : len0 ≤ 64
      · go_wp2_with fail
        go_meet
        case rel => exact ⟨by rw [hN2, Nat.min_eq_right h64], rfl⟩
      · go_wp2_with fail
        go_meet
        case rel => exact ⟨by rw [hN2, Nat.min_eq_left (by omega)], rfl⟩
    case rest =>
      obtain ⟨rfl, rfl⟩ := hcut
      have hN3 : N ≤ cap0 := by omega
      have hN4 : N ≤ 64 := by omega
      clear hN2
      go_upto_region 6 with fail
      go_cut [2, 11] (fun s2 s11 wx => s2 = .int .i64 n2 ∧ s11 = .bool (insB N n1 n2) ∧ w5 = wx)
      case first =>
        as_aux_lemma =>
        go_wp2_with fail
        all_goals (go_meet; case rel => (refine ⟨?_, ?_, rfl⟩; (first | rfl | (rw [show n2 = 1 by omega]) | (rw [show n2 = 2 by omega]) | (rw [show n2 = 4 by omega]) | (rw [show n2 = 8 by omega])); (first | (apply ins_f; omega) | (apply ins_d; omega))))
      case rest =>
        obtain ⟨rfl, rfl, rfl⟩ := hcut
        cases hfit : insB N n1 n2 with
        | false =>
          have HST : Hid (stC [(⟨ys, [], false, false⟩ : Cl)] 1 n1 n2 n3 0 = (false, [⟨ys, [], false, false⟩])) := Lib.hid (st_f _ _ _ _ (by rw [HN.out]; exact hfit))
          clear hfit
          as_aux_lemma =>
          go_wp2_with fail
          with_reducible refine (store_h H2.out HOK1.out (by decide) 1 n1 n2 n3 0 (by omega) i64_0 _ HST.out).mono ?_
          rintro e w6 ⟨rfl, h3⟩
          dsimp only at h3 ⊢
          have H3 := Lib.hid h3
          clear h3 H2
          go_wp2_with fail
          with_reducible refine (size_h H3.out 1).mono ?_
          rintro e w' ⟨rfl, rfl⟩
          rw [sz_1, HN.out]
          go_wp2_with fail
          with_reducible refine (bytes_h H3.out HOK1.out 1).mono ?_
          rintro e w7 ⟨v, rfl, q⟩
          rw [bs_1] at q
          obtain ⟨av, cv, rfl, _, _, _⟩ := own_form q.own
          have Q := Lib.hid q
          clear q
          rw [HN.out]
          go_wp2_with fail
          with_reducible refine (samebytes_any av a0 N N cv cap0 ys ys HN.out HN.out (by omega) (by omega) _ (by have := (Rd.of_own Q.out.own); exact this) ((RY.out.below ((H3.out.grow Q.out.below).below)).mono ((H3.out.grow Q.out.below).below.size))).mono ?_
          rintro e w8 ⟨rfl, q2⟩
          have B8 := Lib.hid (((H3.out.grow Q.out.below).grow q2).below)
          clear Q q2 H3
          rw [decide_eq_true (rfl : ys = ys)]
          go_wp2_with fail
          with_reducible refine (works_c _).mono ?_
          rintro e w9 ⟨rfl, q⟩
          have B9 := Lib.hid (B8.out.trans (q.mono B8.out.size))
          clear q B8
          go_wp2
          go_ret
          exact ⟨rfl, B9.out⟩
        | true =>
          obtain ⟨hs, g1, g2⟩ := insB_true hfit
          have HI := Lib.hid hfit
          have HST : Hid (stC [(⟨ys, [], false, false⟩ : Cl)] 1 n1 n2 n3 0 = (true, [⟨putL ys n1.toNat n3 n2.toNat, [0], false, false⟩])) := Lib.hid (st_t _ _ _ _ (by rw [HN.out]; exact hfit))
          have HOK2 : Hid (OkL 1 [(⟨putL ys n1.toNat n3 n2.toNat, [0], false, false⟩ : Cl)]) := Lib.hid (okl_one 1 (by omega) _ ⟨putL_ok _ _ _ _ HOK.out, by dsimp only; rw [putL_len, HN.out]; omega, by simp, by simp [i64], by simp⟩)
          have HLD : Hid (ldC [(⟨putL ys n1.toNat n3 n2.toNat, [0], false, false⟩ : Cl)] 1 n1 n2 = some (n3 % 256 ^ n2.toNat)) := Lib.hid (by rw [ld_1 _ _ _ _ (by rw [putL_len, HN.out]; exact hfit), leV_put ys n1.toNat n3 v1 n2.toNat (by rw [HN.out]; omega)])
          have HNB : Hid ((putL ys n1.toNat n3 n2.toNat).length = N) := Lib.hid (by rw [putL_len, HN.out])
          have HGET : Hid (∀ i, (putL ys n1.toNat n3 n2.toNat)[i]? = if n1.toNat ≤ i ∧ i < n1.toNat + n2.toNat then some (n3 / 256 ^ (i - n1.toNat) % 256) else ys[i]?) := Lib.hid (fun i => putL_get ys _ n3 _ i (by rw [HN.out]; omega))
          generalize putL ys n1.toNat n3 n2.toNat = nb at *
          have HW : ∃ W, W = n3 % 256 ^ n2.toNat := ⟨_, rfl⟩
          obtain ⟨W, hW⟩ := HW
          rw [← hW] at HLD
          have HW := Lib.hid hW
          clear hfit hW
          go_wp2_with fail
          with_reducible refine (store_h H2.out HOK1.out (by decide) 1 n1 n2 n3 0 (by omega) i64_0 _ HST.out).mono ?_
          rintro e w6 ⟨rfl, h3⟩
          dsimp only at h3 ⊢
          have H3 := Lib.hid h3
          clear h3 H2 HST
          go_wp2_with fail
          with_reducible refine (size_h H3.out 1).mono ?_
          rintro e w' ⟨rfl, rfl⟩
          rw [sz_1, HNB.out]
          go_wp2_with fail
          with_reducible refine (load_h H3.out HOK2.out 1 n1 n2 _ HLD.out).mono ?_
          rintro e w' ⟨rfl, rfl⟩
          unfold ldV
          dsimp only
          go_upto_region 12 with fail
          go_cut [2, 122] (fun s2 s122 wx => s2 = .int .i64 n2 ∧ s122 = .bool false ∧ w6 = wx)
          case first =>
            as_aux_lemma =>
            rcases hs with rfl | rfl | rfl | rfl
            · obtain rfl : W = n3 % 256 := by rw [HW.out]; rfl
              go_wp2_with fail
              go_meet
              case rel => exact ⟨rfl, by simp, rfl⟩
            · obtain rfl : W = n3 % 65536 := by rw [HW.out]; rfl
              go_wp2_with fail
              go_meet
              case rel => exact ⟨rfl, by simp, rfl⟩
            · obtain rfl : W = n3 % 4294967296 := by rw [HW.out]; rfl
              go_wp2_with fail
              go_meet
              case rel => exact ⟨rfl, by simp, rfl⟩
            · obtain rfl : W = n3 := by rw [HW.out]; exact m8 _ v1 v2
              go_wp2_with fail
              go_meet
              case rel => exact ⟨rfl, by simp, rfl⟩
          case rest =>
            obtain ⟨rfl, rfl, rfl⟩ := hcut
            as_aux_lemma =>
            go_wp2_with fail
            with_reducible refine (bytes_h H3.out HOK2.out 1).mono ?_
            rintro e w7 ⟨v, rfl, q⟩
            rw [bs_1] at q
            obtain ⟨av, cv, rfl, _, _, _⟩ := own_form q.own
            have RV := Lib.hid (Rd.of_own q.own)
            have H4 := Lib.hid (H3.out.grow q.below)
            clear q H3
            rw [HNB.out]
            go_wp2_with fail
            go_loopw [15, 18] (fun i y wr => ∃ k : Nat, k ≤ N ∧ i = .int .i64 k ∧ w7 = wr) (fun i _ _ => N - (intOf i).toNat)
            case atStart => exact ⟨0, Nat.zero_le _, rfl, rfl⟩
            case round =>
              obtain ⟨k, hk, rfl, rfl⟩ := hrel
              by_cases hlt : k < N
              · have hkn : k < nb.length := by rw [HNB.out]; exact hlt
                have hky : k < ys.length := by rw [HN.out]; exact hlt
                have hgb : nb[k]? = some nb[k] := List.getElem?_eq_getElem hkn
                have hgy : ys[k]? = some ys[k] := List.getElem?_eq_getElem hky
                have hge := HGET.out k
                rw [hgb, hgy] at hge
                have HLI := Lib.hid (ld_i nb [0] k _ hgb)
                obtain ⟨ad, rfl, _, hcy⟩ := ((RY.out.below H4.out.below)) (by rw [bv_len]; omega)
                have cy := hcy k _ (bv_get ys k hky)
                obtain ⟨bd, rfl, _, hcv⟩ := RV.out (by rw [bv_len]; omega)
                have cv1 := hcv k _ (bv_get nb k hkn)
                have hby := HOK.out _ (List.getElem_mem hky)
                clear hcy hcv hgb hgy
                have i1 : (0 : Int) ≤ (k : Int) := by omega
                have i2 : (k : Int) < (N : Int) := by omega
                generalize nb[k] = x at *
                generalize ys[k] = y at *
                clear hkn hky
                by_cases hin : n1.toNat ≤ k ∧ k < n1.toNat + n2.toNat
                · rw [if_pos hin] at hge
                  injection hge with hge
                  have i3 : n1 ≤ (k : Int) := by omega
                  have i4 : (k : Int) < n1 + n2 := by omega
                  have hE : x = n3 / 2 ^ (8 * ((k : Int) - n1)).toNat % 256 := by
                    rw [hge]
                    have e1 : (8 * ((k : Int) - n1)).toNat = 8 * (k - n1.toNat) := by omega
                    have e2 : (2 : Int) ^ (8 * (k - n1.toNat)) = 256 ^ (k - n1.toNat) := by rw [Int.pow_mul]; rfl
                    rw [e1, e2]
                  subst hE
                  clear hge hin hby
                  go_wp2_with ((with_reducible refine (load_h H4.out HOK2.out 1 (k : Int) 1 _ HLI.out).mono ?_); rintro e w' ⟨rfl, rfl⟩; unfold ldV)
                  go_roundw
                  case rel => exact ⟨k + 1, by omega, by go_num, by first | rfl | trivial⟩
                  case measure => simp [intOf]; omega
                · rw [if_neg hin] at hge
                  injection hge with hge
                  obtain rfl : x = y := hge
                  have hy1 := hby.1
                  have hy2 := hby.2
                  clear hby
                  rcases (by omega : (k : Int) < n1 ∨ (n1 ≤ (k : Int) ∧ n1 + n2 ≤ (k : Int))) with i3 | ⟨i3, i4⟩
                  · clear hin
                    go_wp2_with ((with_reducible refine (load_h H4.out HOK2.out 1 (k : Int) 1 _ HLI.out).mono ?_); rintro e w' ⟨rfl, rfl⟩; unfold ldV)
                    go_roundw
                    case rel => exact ⟨k + 1, by omega, by go_num, by first | rfl | trivial⟩
                    case measure => simp [intOf]; omega
                  · clear hin
                    go_wp2_with ((with_reducible refine (load_h H4.out HOK2.out 1 (k : Int) 1 _ HLI.out).mono ?_); rintro e w' ⟨rfl, rfl⟩; unfold ldV)
                    go_roundw
                    case rel => exact ⟨k + 1, by omega, by go_num, by first | rfl | trivial⟩
                    case measure => simp [intOf]; omega
              · go_wp2_with fail
                with_reducible refine (works_c _).mono ?_
                rintro e w9 ⟨rfl, q⟩
                have B9 := Lib.hid (H4.out.below.trans (q.mono H4.out.below.size))
                clear q H4
                go_wp2
                go_ret
                exact ⟨rfl, B9.out⟩
  · have i2 : (200 : Int) < (len0 : Int) := by omega
    go_enter Try.func5, Try.ntmps5
    go_wp2_with fail
    with_reducible refine (works_c _).mono ?_
    rintro e w9 ⟨rfl, q⟩
    go_wp2
    go_ret
    exact ⟨rfl, q⟩

set_option maxRecDepth 100000 in
theorem lifted (os : Os) (started : os.Started) (H : Type) (enc : TypeId × Value → H) :
    ReturnsInHanded {} Try.checked os 5 .any (Rows.cellsBackSpec.pre6 enc Try.prog Try.f5 Rows.cellsBackRow.domain false) (Rows.cellsBackSpec.post enc Try.prog Try.f5 false true false false) := by
  refine returnsInHanded_of_change (C := Try.checked) own started (by kernel_rfl) Try.func5
    (ChangeSpec.witness6 (enc := enc) (C := Try.checked) false ⟨#[], #[.slice none 0 0, .int .i64 0, .int .i64 0, .int .u64 0], []⟩ 8 (by kernel_rfl) (by kernel_rfl) (by kernel_rfl) (by kernel_rfl)) ?_
  intro W base args ds gs before hval0 hW hcnd _
  have hval : ∀ (j : Nat) t v, Try.f5.params[j]? = some t → args[j]? = some v → Value.okWide Try.prog W .any base t v := hval0
  have hW' := hW
  obtain ⟨p, q, hA0, hV, rfl, hfz, hnd⟩ := hW
  have hA : DataW.TrodAll enc Try.prog W 0 (fun _ => true) true Try.f5.params.toList args.toList ds p := hA0
  rw [Try.params5] at hA hval
  obtain ⟨v0, vs0, d0, ds0, p0, q0, hargs, rfl, rfl, h0, r0⟩ := trodAll_cons hA
  obtain ⟨v1, vs1, d1, ds1, p1, q1, rfl, rfl, rfl, h1, r1⟩ := trodAll_cons r0
  obtain ⟨v2, vs2, d2, ds2, p2, q2, rfl, rfl, rfl, h2, r2⟩ := trodAll_cons r1
  obtain ⟨v3, vs3, d3, ds3, p3, q3, rfl, rfl, rfl, h3, r3⟩ := trodAll_cons r2
  obtain ⟨rfl, rfl, rfl⟩ := trodAll_nil r3
  obtain rfl : args = #[v0, v1, v2, v3] := by cases args; simp_all
  obtain ⟨rfl, rfl⟩ := trodVars_none hV
  obtain ⟨a0, len0, cap0, rfl⟩ := okWide_slice Try.underlying31 (hval 0 31 v0 rfl rfl)
  have k0 := h0
  have lt0 : ∀ x ∈ p0, x.block < W.heap.size := by obtain ⟨m, hm⟩ := k0; exact DataW.trod_lt m _ _ _ hm
  obtain ⟨L0, l0, f0, c0, m0, z0, rr0⟩ := open_bytes h0
  obtain ⟨n1, rfl, rfl, rfl, w1⟩ := open_int Try.underlying3 (hval 1 3 v1 rfl rfl) h1
  obtain ⟨n2, rfl, rfl, rfl, w2⟩ := open_int Try.underlying3 (hval 2 3 v2 rfl rfl) h2
  obtain ⟨n3, rfl, rfl, rfl, w3⟩ := open_int Try.underlying30 (hval 3 30 v3 rfl rfl) h3
  clear hA0 hval0
  refine (walk a0 len0 cap0 L0 n1 n2 n3 W l0 f0 c0 m0 z0 rr0 w1 w2 w3).mono fun e W' ⟨he, bel⟩ => ?_
  subst he
  exact ⟨_, rfl, _, _, _, [], _, [], hW', trodAll_mk1 (shut_bool Try.underlying4 _), (trodAll_cons_mk (Below.trod laidOut (by kernel_rfl) (of_decide_eq_true (by kernel_rfl)) k0 bel lt0) (trodAll_cons_mk (shut_int Try.underlying3 w1) (trodAll_cons_mk (shut_int Try.underlying3 w2) (trodAll_cons_mk (shut_int Try.underlying30 w3) trodAll_mk0)))), rfl, bel.frame _, fun h => by cases h⟩

theorem over : Rows.cellsBackRow.holds Try.pinned (OpenSpec.ofChange Rows.cellsBackSpec) :=
  OpenClaim.holds_of_wide 5 Try.f5 rfl rfl rfl rfl rfl rfl rfl ⟨rfl, rfl, rfl, rfl, rfl⟩ rfl rfl rfl rfl rfl (by kernel_rfl) Try.func5 (by kernel_rfl)
    (of_decide_eq_true (by kernel_rfl)) (by unfold Func.isWrapper; first | (rw [if_pos (by decide +kernel)]; kernel_rfl) | (rw [if_neg (by decide +kernel)]; exact ⟨rfl, rfl⟩))
    (fun os started H enc _ => lifted os started H enc)

theorem proved : Rows.CellsBackSaid := over
#print axioms proved
end Go.Proofs.Ythdgdkjaeebbcaa.cellsBack
