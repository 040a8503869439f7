/-
  Layer 8, CellsApart: whatever is done, a cell is another one behind it only if it was written by it, or swept away, having been dropped; its version rises by one then; and what is refused changes nothing. No conditions.
-/
import Derived.Test.YthdgdkjaeebbcaaRows
import Derived.Test.YthdgdkjaeebbcaaCellsRn
import Derived.Deep.DeepCutAuto
import Derived.IntWalk
import Derived.Deep.LoopGhost
import Derived.WalkKit
import Derived.ProofKit
import Derived.OpenShut
import Derived.ChangeOld
import Derived.Below
namespace Go.Proofs.Ythdgdkjaeebbcaa.cellsApart
open Go.ChangeShapes Go.WideShapes Go.ChangeAt Go.RowKit Ow Ph Ro K2
set_option linter.unusedVariables false
set_option linter.unusedSimpArgs false
attribute [local go_sem] run_store_complex

theorem own : ownKnob Try.prog.godebug = none := by kernel_rfl
theorem laidOut : laidOutB Try.prog = true := by kernel_rfl



set_option maxRecDepth 100000 in
set_option maxHeartbeats 100000000 in
theorem walk (a0 : Option Addr) (len0 cap0 : Nat) (L0 : List Opn) (n1 : Int) (w : World) (l0 : L0.length = len0) (f0 : ∀ x ∈ L0, x.fits) (c0 : len0 ≤ cap0) (m0 : cap0 ≤ 9223372036854775807) (r0 : OpsAt w w.heap.size a0 L0) (w1 : (Lit.int .i64 n1).wf = true) :
    Calls Try.prog 4 #[.slice a0 len0 cap0, .int .i64 n1] w fun e w' => e = .returned (.bool true) ∧ Below w.heap.size w w' := by
  have hid := bounds_i64 w1
  obtain ⟨s1, s2⟩ := hid
  clear w1
  have RR := Lib.hid r0
  have HL := Lib.hid l0
  have HF := Lib.hid f0
  have HB0 := Lib.hid (Below.refl w.heap.size w)
  clear r0 l0 f0
  go_enter Try.func4, Try.ntmps4
  go_wp2_with fail
  with_reducible refine (long_c a0 len0 cap0 L0 HL.out (by omega) HF.out w RR.out.row).mono ?_
  rintro e w' ⟨b, rfl, hb, rfl⟩
  cases b with
  | true =>
    clear hb
    go_wp2_with fail
    with_reducible refine (works_c _).mono ?_
    rintro e w9 ⟨rfl, q⟩
    go_wp2
    go_ret
    exact ⟨rfl, q⟩
  | false =>
    obtain ⟨h200, hbs⟩ := hb rfl
    rw [HL.out] at h200
    clear hb hbs
    go_wp2_with fail
    with_reducible refine (new_h HB0.out).mono ?_
    rintro e w4 ⟨P, rfl, h1⟩
    have H1 := Lib.hid h1
    clear h1
    go_wp2_with fail
    go_loopw [6, 7] (fun df i wr => ∃ (k : Nat) (L : List Cl) (dr : Bool), k ≤ len0 ∧ i = .int .i64 k ∧ df = .bool dr ∧ Hid (Has w P L wr) ∧ Hid (OkL k L) ∧ Hid ((∃ c, gt L n1 = some c ∧ c.gone = true) → dr = true)) (fun _ i _ => len0 - (intOf i).toNat)
    case atStart => exact ⟨0, [], false, by omega, rfl, rfl, H1, Lib.hid ⟨by simp, fun c h => by simp at h⟩, Lib.hid (fun ⟨c, h, _⟩ => by have := (gt_some h).2.1; simp at this)⟩
    case round =>
      obtain ⟨k, L, dr, hkl, rfl, rfl, H2, OK, HI⟩ := hrel
      clear H1
      by_cases hlt : k < len0
      · have hkx : k < L0.length := by rw [HL.out]; exact hlt
        have HFX := Lib.hid (HF.out _ (List.getElem_mem hkx))
        have HRX := Lib.hid (RR.out.bytes _ (List.getElem_mem hkx))
        obtain ⟨ad, rfl, _, _⟩ := ops_cell RR.out.row k 0 hkx (by omega)
        have HC : Hid (∀ z, Below w.heap.size w z → ∀ r, r < 7 → z.cell? (ad.add (7 * k + r)) = L0[k].cells[r]?) := Lib.hid (fun z hz r hr => by
          obtain ⟨ad', e, hlt', h⟩ := ops_cell RR.out.row k r hkx hr
          injection e with e
          subst e
          rw [← h]
          exact hz.cell (by rw [add_block]; exact hlt'))
        generalize L0[k] = x at *
        have c0 : wr.cell? (ad.add (k * 7)) = some (.int .i64 x.kind) := by rw [Nat.mul_comm]; exact HC.out wr H2.out.below 0 (by omega)
        have cq : ∀ r, 0 < r → r < 7 → wr.cell? ⟨(ad.add (k * 7)).block, (ad.add (k * 7)).off + r, none⟩ = x.cells[r]? := fun r h1 h2 => by rw [Nat.mul_comm k 7, add_next _ _ _ h1]; exact HC.out wr H2.out.below r h2
        have c1 := cq 1 (by omega) (by omega)
        have c2 := cq 2 (by omega) (by omega)
        have c3 := cq 3 (by omega) (by omega)
        have c4 := cq 4 (by omega) (by omega)
        have c5 := cq 5 (by omega) (by omega)
        have c6 := cq 6 (by omega) (by omega)
        simp only [Opn.cells, List.getElem?_cons_zero, List.getElem?_cons_succ] at c1 c2 c3 c4 c5 c6
        clear cq hkx
        have i1 : (k : Int) < (len0 : Int) := by omega
        have i3 : (0 : Int) ≤ (k : Int) := by omega
        have SO := Lib.hid (step_ok OK.out HFX.out HI.out)
        have LE := Lib.hid OK.out.len
        have hkk : k ≤ 200 := by omega
        have LV := Lib.hid (live_is OK.out)
        have ST := Lib.hid (fun w' hb hg => Rn.start (w' := w') (x := x) H2.out hb hg OK.out n1)
        have HWS : Hid ((wr.alloc (.cells #[.int .i64 x.kind, .int .i64 x.id, .int .i64 x.off, .int .i64 x.size, .int .i64 x.now, .int .u64 x.v, .slice x.a x.n x.c] 33)).heap[wr.heap.size]? = some (.cells x.cells.toArray 33)) := Lib.hid (heap_alloc_new wr (.cells #[.int .i64 x.kind, .int .i64 x.id, .int .i64 x.off, .int .i64 x.size, .int .i64 x.now, .int .u64 x.v, .slice x.a x.n x.c] 33))
        have HWB : Hid (Below wr.heap.size wr (wr.alloc (.cells #[.int .i64 x.kind, .int .i64 x.id, .int .i64 x.off, .int .i64 x.size, .int .i64 x.now, .int .u64 x.v, .slice x.a x.n x.c] 33))) := Lib.hid ((Below.refl _ _).alloc (Nat.le_refl _) _)
        have hlv0 : lv L ≤ L.length := List.countP_le_length
        have hlv : (lv L : Int) ≤ 200 := by have := LE.out; omega
        have hlw : (0 : Int) ≤ (lv L : Int) := by omega
        have hvs : vsC L n1 ≤ k := by
          unfold vsC
          cases hg : gt L n1 with
          | none => exact Nat.zero_le _
          | some c => exact (gt_ok OK.out hg).often
        have hvs2 : (vsC L n1 : Int) ≤ 200 := by omega
        have hvs3 : (0 : Int) ≤ (vsC L n1 : Int) := by omega
        clear hvs hlv0
        go_wp2_with fail
        with_reducible refine (ST.out _ HWB.out HWS.out).mono ?_
        rintro e w5 ⟨v, rfl, h3⟩
        obtain ⟨av, cv, rfl⟩ := h3.form
        have H3 := Lib.hid h3
        clear h3 H2 ST HWS HWB c0 c1 c2 c3 c4 c5 c6
        generalize wr.heap.size = g at *
        go_wp2_with fail
        with_reducible refine (version_h H3.out.has n1).mono ?_
        rintro e w6 ⟨rfl, q⟩
        have H4 := Lib.hid (H3.out.grow q)
        clear q H3
        go_wp2_with fail
        with_reducible refine (live_h H4.out.has (by have := LE.out; omega) _ LV.out).mono ?_
        rintro e w7 ⟨rfl, q⟩
        have H5 := Lib.hid (H4.out.grow q)
        clear q H4
        obtain ⟨c0, c1, c2, c3, c4, c5, c6⟩ := H5.out.cells
        go_wp2_with fail
        with_reducible refine (H5.out.does OK.out (by omega) HFX.out HRX.out).mono ?_
        rintro e w8 ⟨rfl, h6⟩
        have HXS : ∃ xs, xs = bsC L n1 := ⟨_, rfl⟩
        generalize hr : stepL L x = r at *
        obtain ⟨d, L'⟩ := r
        dsimp only at h6 SO ⊢
        have H6 := Lib.hid h6
        clear h6 H5 hr c0 c1 c2 c3 c4 c5 c6
        go_wp2_with fail
        with_reducible refine (bytes_h H6.out.has SO.out.ok n1).mono ?_
        rintro e w9 ⟨v2, rfl, q⟩
        obtain ⟨av2, cv2, rfl, _, _, _⟩ := own_form q.own
        have H7 := Lib.hid (H6.out.grow q.below)
        have RV := Lib.hid (Rd.of_own q.own)
        clear q H6
        obtain ⟨c0, c1, c2, c3, c4, c5, c6⟩ := H7.out.cells
        go_upto_region 14 with fail
        go_cut [12, 14] (fun s12 s14 wx => s12 = .bool d ∧ s14 = .bool (mineB x n1 d) ∧ w9 = wx)
        case first =>
          as_aux_lemma =>
          go_wp2_with fail
          all_goals (go_meet; case rel => (go_light; refine ⟨?_, ?_, rfl⟩; (first | rfl | simp [*]); (first | rfl | (congr 1; simp [mineB, *]; try (rw [Bool.eq_iff_iff]; simp; omega)))))
        case rest =>
          obtain ⟨rfl, rfl, rfl⟩ := hcut
          go_upto_region 15 with fail
          go_cut [6, 12] (fun s6 s12 wx => s6 = .bool (drB x n1 d dr) ∧ s12 = .bool d ∧ w9 = wx)
          case first =>
            as_aux_lemma =>
            go_wp2_with fail
            all_goals (go_meet; case rel => (go_light; refine ⟨?_, ?_, rfl⟩; (first | rfl | (congr 1; simp [drB, *]; try (rw [Bool.eq_iff_iff]; simp; omega))); (first | rfl | simp [*])))
          case rest =>
            obtain ⟨rfl, rfl, rfl⟩ := hcut
            obtain ⟨dr', hdr'⟩ : ∃ dr', dr' = drB x n1 d dr := ⟨_, rfl⟩
            obtain ⟨so1, so2, so3, so4, so5⟩ := SO.out
            rw [← hdr'] at so3 so4 so5 ⊢
            have SO1 := Lib.hid so1
            have SO2 := Lib.hid so2
            have SO3 := Lib.hid so3
            have SO4 := Lib.hid so4
            have SO5 := Lib.hid so5
            clear so1 so2 so3 so4 so5 hdr' SO
            go_upto_region 16 with fail
            go_cut [6, 86] (fun s6 s86 wx => s6 = .bool dr' ∧ s86 = .bool (skipB x dr') ∧ w9 = wx)
            case first =>
              as_aux_lemma =>
              go_wp2_with fail
              all_goals (go_meet; case rel => (go_light; refine ⟨?_, ?_, rfl⟩; (first | rfl | simp [*]); (first | rfl | (congr 1; simp [skipB, *]; try (rw [Bool.eq_iff_iff]; simp; omega)))))
            case rest =>
              obtain ⟨rfl, rfl, rfl⟩ := hcut
              cases hsk : skipB x dr' with
              | true =>
                clear SO2 SO3 SO4 hsk
                go_wp2_with fail
                go_roundw
                case rel => exact ⟨k + 1, L', dr', by omega, by go_num, rfl, Lib.hid H7.out.has, SO1, SO5⟩
                case measure => simp [intOf]; omega
              | false =>
                have hsk2 := Lib.hid hsk
                clear hsk
                have SO4b := Lib.hid (SO4.out hsk2.out)
                have LV2 := Lib.hid (live_is SO1.out)
                have LE2 := Lib.hid SO1.out.len
                cases hmi : mineB x n1 d with
                | true =>
                  obtain ⟨m1, m2⟩ := SO2.out hmi
                  have M1 := Lib.hid m1
                  have M2 : Hid ((vsC L' n1 : Int) = (vsC L n1 : Int) + 1) := Lib.hid (by rw [m2]; push_cast; rfl)
                  clear SO2 SO3 hmi m1 m2
                  rw [M1.out]
                  go_wp2_with fail
                  with_reducible refine (version_h H7.out.has n1).mono ?_
                  rintro e w10 ⟨rfl, q⟩
                  have H8 := Lib.hid (H7.out.grow q)
                  clear q H7
                  rw [M2.out]
                  clear c0 c1 c2 c3 c4 c5 c6
                  obtain ⟨c0, c1, c2, c3, c4, c5, c6⟩ := H8.out.cells
                  by_cases hk4 : x.kind = 4
                  · rw [hk4] at c0
                    cases d with
                    | true =>
                      have SO4c : Hid (lv L' + 1 = lv L) := Lib.hid (by have := SO4b.out; unfold lessN at this; rw [if_pos ⟨hk4, rfl⟩] at this; exact this)
                      clear hk4
                      go_wp2_with fail
                      with_reducible refine (live_h H8.out.has (by have := LE2.out; omega) ((lv L : Int) - 1) (by rw [LV2.out]; have := SO4c.out; omega)).mono ?_
                      rintro e w12 ⟨rfl, q⟩
                      have HZ := Lib.hid ((H8.out.grow q).has)
                      clear q H8
                      go_wp2
                      go_roundw
                      case rel => exact ⟨k + 1, L', dr', by omega, by go_num, rfl, HZ, SO1, SO5⟩
                      case measure => simp [intOf]; omega
                    | false =>
                      have SO4c : Hid (lv L' = lv L) := Lib.hid (by have := SO4b.out; unfold lessN at this; rw [if_neg (by simp)] at this; exact this)
                      clear hk4
                      go_wp2_with fail
                      with_reducible refine (live_h H8.out.has (by have := LE2.out; omega) ((lv L : Int)) (by rw [LV2.out]; have := SO4c.out; omega)).mono ?_
                      rintro e w12 ⟨rfl, q⟩
                      have HZ := Lib.hid ((H8.out.grow q).has)
                      clear q H8
                      go_wp2
                      go_roundw
                      case rel => exact ⟨k + 1, L', dr', by omega, by go_num, rfl, HZ, SO1, SO5⟩
                      case measure => simp [intOf]; omega
                  · have SO4c : Hid (lv L' = lv L) := Lib.hid (by have := SO4b.out; unfold lessN at this; rw [if_neg (fun e => hk4 e.1)] at this; exact this)
                    have hk5 : (x.kind == 4) = false := by rw [beq_eq_false_iff_ne]; exact hk4
                    clear hk4
                    go_wp2_with fail
                    with_reducible refine (live_h H8.out.has (by have := LE2.out; omega) ((lv L : Int)) (by rw [LV2.out]; have := SO4c.out; omega)).mono ?_
                    rintro e w12 ⟨rfl, q⟩
                    have HZ := Lib.hid ((H8.out.grow q).has)
                    clear q H8
                    go_wp2
                    go_roundw
                    case rel => exact ⟨k + 1, L', dr', by omega, by go_num, rfl, HZ, SO1, SO5⟩
                    case measure => simp [intOf]; omega
                | false =>
                  obtain ⟨m1, m2⟩ := SO3.out hmi hsk2.out
                  have M1 := Lib.hid m1
                  have M2 := Lib.hid m2
                  clear SO2 SO3 hmi m1 m2
                  rw [M1.out] at RV ⊢
                  have WAS := Lib.hid (H7.out.was rfl)
                  have HXL : ∃ m, (bsC L n1).length = m := ⟨_, rfl⟩
                  obtain ⟨m, hm⟩ := HXL
                  have hm64 : m ≤ 64 := by
                    rw [← hm]
                    unfold bsC
                    cases hg : gt L n1 with
                    | none => exact Nat.zero_le _
                    | some c => exact (gt_ok OK.out hg).len
                  rw [hm]
                  have HM := Lib.hid hm
                  clear hm
                  go_wp2_with fail
                  with_reducible refine (samebytes_any av av2 m m cv cv2 (bsC L n1) (bsC L n1) HM.out HM.out (by omega) (by omega) _ WAS.out RV.out).mono ?_
                  rintro e w10 ⟨rfl, q⟩
                  have H8 := Lib.hid (H7.out.grow q)
                  clear q H7
                  rw [decide_eq_true (rfl : bsC L n1 = bsC L n1)]
                  go_wp2_with fail
                  with_reducible refine (version_h H8.out.has n1).mono ?_
                  rintro e w11 ⟨rfl, q⟩
                  have H9 := Lib.hid (H8.out.grow q)
                  clear q H8
                  rw [M2.out]
                  clear c0 c1 c2 c3 c4 c5 c6
                  obtain ⟨c0, c1, c2, c3, c4, c5, c6⟩ := H9.out.cells
                  by_cases hk4 : x.kind = 4
                  · rw [hk4] at c0
                    cases d with
                    | true =>
                      have SO4c : Hid (lv L' + 1 = lv L) := Lib.hid (by have := SO4b.out; unfold lessN at this; rw [if_pos ⟨hk4, rfl⟩] at this; exact this)
                      clear hk4
                      go_wp2_with fail
                      with_reducible refine (live_h H9.out.has (by have := LE2.out; omega) ((lv L : Int) - 1) (by rw [LV2.out]; have := SO4c.out; omega)).mono ?_
                      rintro e w12 ⟨rfl, q⟩
                      have HZ := Lib.hid ((H9.out.grow q).has)
                      clear q H9
                      go_wp2
                      go_roundw
                      case rel => exact ⟨k + 1, L', dr', by omega, by go_num, rfl, HZ, SO1, SO5⟩
                      case measure => simp [intOf]; omega
                    | false =>
                      have SO4c : Hid (lv L' = lv L) := Lib.hid (by have := SO4b.out; unfold lessN at this; rw [if_neg (by simp)] at this; exact this)
                      clear hk4
                      go_wp2_with fail
                      with_reducible refine (live_h H9.out.has (by have := LE2.out; omega) ((lv L : Int)) (by rw [LV2.out]; have := SO4c.out; omega)).mono ?_
                      rintro e w12 ⟨rfl, q⟩
                      have HZ := Lib.hid ((H9.out.grow q).has)
                      clear q H9
                      go_wp2
                      go_roundw
                      case rel => exact ⟨k + 1, L', dr', by omega, by go_num, rfl, HZ, SO1, SO5⟩
                      case measure => simp [intOf]; omega
                  · have SO4c : Hid (lv L' = lv L) := Lib.hid (by have := SO4b.out; unfold lessN at this; rw [if_neg (fun e => hk4 e.1)] at this; exact this)
                    have hk5 : (x.kind == 4) = false := by rw [beq_eq_false_iff_ne]; exact hk4
                    clear hk4
                    go_wp2_with fail
                    with_reducible refine (live_h H9.out.has (by have := LE2.out; omega) ((lv L : Int)) (by rw [LV2.out]; have := SO4c.out; omega)).mono ?_
                    rintro e w12 ⟨rfl, q⟩
                    have HZ := Lib.hid ((H9.out.grow q).has)
                    clear q H9
                    go_wp2
                    go_roundw
                    case rel => exact ⟨k + 1, L', dr', by omega, by go_num, rfl, HZ, SO1, SO5⟩
                    case measure => simp [intOf]; omega
      · obtain rfl : k = len0 := by omega
        go_wp2_with fail
        with_reducible refine (works_c _).mono ?_
        rintro e w9 ⟨rfl, q⟩
        have B9 := Lib.hid (H2.out.below.trans (q.mono H2.out.below.size))
        clear q H2
        go_wp2
        go_ret
        exact ⟨rfl, B9.out⟩

set_option maxRecDepth 100000 in
theorem lifted (os : Os) (started : os.Started) (H : Type) (enc : TypeId × Value → H) :
    ReturnsInHanded {} Try.checked os 4 .any (Rows.cellsApartSpec.pre6 enc Try.prog Try.f4 Rows.cellsApartRow.domain false) (Rows.cellsApartSpec.post enc Try.prog Try.f4 false true false false) := by
  refine returnsInHanded_of_change (C := Try.checked) own started (by kernel_rfl) Try.func4
    (ChangeSpec.witness6 (enc := enc) (C := Try.checked) false ⟨#[], #[.slice none 0 0, .int .i64 0], []⟩ 8 (by kernel_rfl) (by kernel_rfl) (by kernel_rfl) (by kernel_rfl)) ?_
  intro W base args ds gs before hval0 hW hcnd _
  have hval : ∀ (j : Nat) t v, Try.f4.params[j]? = some t → args[j]? = some v → Value.okWide Try.prog W .any base t v := hval0
  have hW' := hW
  obtain ⟨p, q, hA0, hV, rfl, hfz, hnd⟩ := hW
  have hA : DataW.TrodAll enc Try.prog W 0 (fun _ => true) true Try.f4.params.toList args.toList ds p := hA0
  rw [Try.params4] at hA hval
  obtain ⟨v0, vs0, d0, ds0, p0, q0, hargs, rfl, rfl, h0, r0⟩ := trodAll_cons hA
  obtain ⟨v1, vs1, d1, ds1, p1, q1, rfl, rfl, rfl, h1, r1⟩ := trodAll_cons r0
  obtain ⟨rfl, rfl, rfl⟩ := trodAll_nil r1
  obtain rfl : args = #[v0, v1] := by cases args; simp_all
  obtain ⟨rfl, rfl⟩ := trodVars_none hV
  obtain ⟨a0, len0, cap0, rfl⟩ := okWide_slice Try.underlying22 (hval 0 22 v0 rfl rfl)
  have k0 := h0
  have lt0 : ∀ x ∈ p0, x.block < W.heap.size := by obtain ⟨m, hm⟩ := k0; exact DataW.trod_lt m _ _ _ hm
  obtain ⟨L0, l0, f0, c0, m0, rr0⟩ := open_ops h0
  obtain ⟨n1, rfl, rfl, rfl, w1⟩ := open_int Try.underlying3 (hval 1 3 v1 rfl rfl) h1
  clear hA0 hval0
  refine (walk a0 len0 cap0 L0 n1 W l0 f0 c0 m0 rr0 w1).mono fun e W' ⟨he, bel⟩ => ?_
  subst he
  exact ⟨_, rfl, _, _, _, [], _, [], hW', trodAll_mk1 (shut_bool Try.underlying4 _), (trodAll_cons_mk (Below.trod laidOut (by kernel_rfl) (of_decide_eq_true (by kernel_rfl)) k0 bel lt0) (trodAll_cons_mk (shut_int Try.underlying3 w1) trodAll_mk0)), rfl, bel.frame _, fun h => by cases h⟩

theorem over : Rows.cellsApartRow.holds Try.pinned (OpenSpec.ofChange Rows.cellsApartSpec) :=
  OpenClaim.holds_of_wide 4 Try.f4 rfl rfl rfl rfl rfl rfl rfl ⟨rfl, rfl, rfl, rfl, rfl⟩ rfl rfl rfl rfl rfl (by kernel_rfl) Try.func4 (by kernel_rfl)
    (of_decide_eq_true (by kernel_rfl)) (by unfold Func.isWrapper; first | (rw [if_pos (by decide +kernel)]; kernel_rfl) | (rw [if_neg (by decide +kernel)]; exact ⟨rfl, rfl⟩))
    (fun os started H enc _ => lifted os started H enc)

theorem proved : Rows.CellsApartSaid := over
#print axioms proved
end Go.Proofs.Ythdgdkjaeebbcaa.cellsApart
