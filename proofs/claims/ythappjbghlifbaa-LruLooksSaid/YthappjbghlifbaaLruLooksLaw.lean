/-
  Layer 11, LruLooks: a map that is looked at behind each act is the one that is not. No conditions.
-/
import Derived.Test.YthappjbghlifbaaRows
import Derived.Test.YthappjbghlifbaaLruTwin
import Derived.Deep.DeepCutAuto
import Derived.IntWalk
import Derived.WalkKit
import Derived.ProofKit
import Derived.OpenShut
import Derived.ChangeOld
import Derived.Below
namespace Go.Proofs.Ythappjbghlifbaa.lruLooks
open Go.ChangeShapes Go.WideShapes Go.ChangeAt Go.RowKit Ow Ro K2
set_option linter.unusedVariables false
set_option linter.unusedSimpArgs false

theorem own : ownKnob Try.prog.godebug = none := by kernel_rfl
theorem laidOut : laidOutB Try.prog = true := by kernel_rfl



set_option maxRecDepth 100000 in
set_option maxHeartbeats 4000000 in
theorem walk (a0 : Option Addr) (len0 cap0 : Nat) (L0 : List Opn) (w : World) (l0 : L0.length = len0) (f0 : ∀ x ∈ L0, x.fits) (c0 : len0 ≤ cap0) (m0 : cap0 ≤ 9223372036854775807) (r0 : OpsAt w w.heap.size a0 L0) :
    Calls Try.prog 5 #[.slice a0 len0 cap0] w fun e w' => e = .returned (.bool true) ∧ Below w.heap.size w w' := by
  have RR := Lib.hid r0
  have HL := Lib.hid l0
  have HF := Lib.hid f0
  obtain ⟨i0, hi0, hz0, hz1, hz2⟩ := info_parts byte_info
  clear r0 l0 f0
  go_enter Try.func5, Try.ntmps5
  go_wp2_with fail
  with_reducible refine (new_twin w).mono ?_
  rintro e w1 ⟨X, rfl, h1⟩
  have H1 := Lib.hid h1
  clear h1
  go_wp2_with fail
  with_reducible refine H1.out.mono ?_
  rintro e w2 ⟨Y, rfl, h2⟩
  have H2 := Lib.hid h2
  clear h2 H1
  go_wp2_with fail
  go_loopw [5, 6, 7, 8] (fun i a6 a7 a8 wr => ∃ (k : Nat) (o : KO), k ≤ len0 ∧ k ≤ 100 ∧ i = .int .i64 k ∧ Hid (L2 w X Y o wr)) (fun i _ _ _ _ => len0 - (intOf i).toNat)
  case atStart => exact ⟨0, _, by omega, by omega, rfl, H2⟩
  case round =>
    obtain ⟨k, o, hkl, hk2, rfl, H3⟩ := hrel
    clear H2
    by_cases hlt : k < len0 ∧ k < 100
    · obtain ⟨hl1, hl2⟩ := hlt
      have hkx : k < L0.length := by rw [HL.out]; exact hl1
      have HFX := Lib.hid (HF.out _ (List.getElem_mem hkx))
      have HRX := Lib.hid (RR.out.bytes _ (List.getElem_mem hkx))
      obtain ⟨ad, rfl, had, had2⟩ := ops_cell RR.out.row k 0 hkx (by omega)
      clear had had2
      have HC : Hid (∀ z, Below w.heap.size w z → ∀ r, r < 3 → z.cell? (ad.add (3 * k + r)) = L0[k].cells[r]?) := Lib.hid (fun z hz r hr => by
        obtain ⟨ad', e, hlt', h⟩ := ops_cell RR.out.row k r hkx hr
        injection e with e
        subst e
        rw [← h]
        exact hz.cell (by rw [add_block]; exact hlt'))
      generalize L0[k] = x at *
      obtain ⟨kd, c, ax, n, cx, bs⟩ := x
      obtain ⟨f1, f2, hn, hby, f5, f6, f7⟩ := HFX.out
      dsimp only at f1 hn hby f5 f6
      unfold i64 at f1
      have HN := Lib.hid hn
      have HBY := Lib.hid (key2_by hby)
      have HRD : Hid (Rd w w.heap.size ax (bv bs)) := Lib.hid HRX.out
      have HCK : Hid (∀ z, Below w.heap.size w z → z.cell? (ad.add (k * 3)) = some (.int .i64 kd) ∧ z.cell? ⟨(ad.add (k * 3)).block, (ad.add (k * 3)).off + 2, none⟩ = some (.slice ax n cx)) := Lib.hid (fun z hz => ⟨by rw [Nat.mul_comm]; exact HC.out z hz 0 (by omega), by rw [Nat.mul_comm k 3, add_next _ _ _ (by omega)]; exact HC.out z hz 2 (by omega)⟩)
      have HPK := Lib.hid (fun z => pick5 kd f1.1 f1.2 z)
      clear HFX HRX HC f1 f2 f7 hkx hn hby
      have i1 : (k : Int) < (len0 : Int) := by omega
      have i2 : (k : Int) < 100 := by omega
      have i3 : (0 : Int) ≤ (k : Int) := by omega
      go_wp2_with (refine wp_make_own11 _ rfl _ _ _ rfl 5 i0 _ Try.underlying27 hi0 hz0 hz1 rfl _ _ 2 rfl rfl ?a1 ?a2 ?_)
      case a1 => rw [hz2]; omega
      case a2 => unfold maxLen; omega
      intro adk wa hadn howna hba
      obtain ⟨g8, hg8, hgo⟩ : ∃ g, adk = ⟨g, 0, none⟩ ∧ wr.heap.size ≤ g ∧ wa.heap[g]? = some (.cells ([Value.int .u8 0, Value.int .u8 0] : List Value).toArray 5) := by
        rcases howna.2 with ⟨e, _⟩ | ⟨g, cap, cur, e, h1, h2, h3, h4, h5, h6⟩
        · cases e
        · simp only [Value.slice.injEq, Option.some.injEq] at e
          obtain ⟨rfl, _, rfl⟩ := e
          refine ⟨g, rfl, h1, ?_⟩
          have e2 : cur.toList = [Value.int .u8 0, Value.int .u8 0] := by
            rw [← List.take_of_length_le (l := cur.toList) (i := 2 * 1) (by rw [Array.length_toList]; omega), h6]
          rw [h2, ← e2]
      subst hg8
      obtain ⟨hgs, hgo⟩ := hgo
      have HBA := Lib.hid hba
      have HGO := Lib.hid hgo
      have HBW := Lib.hid (H3.out.below.trans (hba.mono H3.out.below.size))
      obtain ⟨_, c2⟩ := HCK.out wa HBW.out
      obtain ⟨cs, hcs⟩ : ∃ cs, bv (bs.take 2) = cs := ⟨_, rfl⟩
      have HCL : Hid (cs.length = Nat.min n 2) := Lib.hid (by rw [← hcs, bv_len, List.length_take, HN.out, Nat.min_comm])
      have HPOS : Hid (0 < cs.length → (some (⟨g8, 0, none⟩ : Addr)) = some ⟨g8, 0, none⟩ ∧ ∃ ad, ax = some ad ∧ ∀ j v, cs[j]? = some v → wa.cell? (ad.add j) = some v) := Lib.hid (fun h0 => by
        have hr := (HRD.out.below HBW.out).take 2
        have e3 : (bv bs).take 2 = cs := by rw [← hcs]; unfold bv; rw [List.map_take]
        rw [e3] at hr
        obtain ⟨ad, e, _, hc⟩ := hr h0
        exact ⟨rfl, ad, e, hc⟩)
      have HFT : Hid (0 + cs.length ≤ ([Value.int .u8 0, Value.int .u8 0] : List Value).length) := Lib.hid (by rw [HCL.out]; show 0 + min n 2 ≤ 2; omega)
      have HONE : Hid (∀ v ∈ cs, v.oneCell' = true) := Lib.hid (by rw [← hcs]; exact bv_one _)
      have HSP : Hid (splice [Value.int .u8 0, Value.int .u8 0] 0 cs = bv (key2 bs)) := Lib.hid (by rw [← hcs]; exact key2_bv bs)
      clear hadn howna hba hgo hcs
      go_wp2_with (with_reducible refine wpList_copy_splice rfl (.tmp 22) (.tmp 27) _ _ rfl 5 Try.underlying27 byte_size _ _ _ _ _ _ rfl rfl g8 0 [Value.int .u8 0, Value.int .u8 0] 5 HGO.out cs HCL.out HPOS.out HFT.out HONE.out wr.heap.size wr HBA.out hgs ?_)
      intro wb hgb hbb
      have H4 : Hid (L3 w X Y o o (.slice (some ⟨g8, 0, none⟩) 2 2) (key2 bs) wb) := Lib.hid (H3.out.key hbb hgs hgb.out HSP.out (key2_len bs))
      have c0 := (HCK.out wb H4.out.l2.below).1
      clear hgb hbb HGO HBA HBW HCL HPOS HFT HONE HSP HCK HRD c2 H3
      have HKL := Lib.hid (key2_len bs)
      generalize key2 bs = ks at *
      go_wp2_with fail
      with_reducible refine (HPK.out wb).mono ?_
      rintro e wb' ⟨pk, rfl, hpk, rfl⟩
      clear HPK c0
      by_cases k3 : pk = 3
      · subst k3
        obtain ⟨r9, hr9⟩ : ∃ r, agetV (aget o ks) = r := ⟨_, rfl⟩
        have HR9 := Lib.hid hr9
        clear hr9
        go_wp2_with fail
        with_reducible refine (H4.out.xfind HKL.out HBY.out).mono ?_
        rintro e w4 ⟨rfl, q⟩
        rw [HR9.out]
        have H5 := Lib.hid q
        clear q H4
        go_wp2_with fail
        with_reducible refine (H5.out.yfind HKL.out HBY.out).mono ?_
        rintro e w5 ⟨rfl, q⟩
        rw [HR9.out]
        have H6 := Lib.hid q.l2
        clear q H5
        have hkl2 := keys_len H6.out.good
        have hkn := hkl2.1
        clear hkl2
        go_wp2_with fail
        with_reducible refine H6.out.xkeys.mono ?_
        rintro e w6 ⟨ka, rfl, q⟩
        have H7 := Lib.hid q
        clear q H6
        generalize afind o ks = o2 at *
        obtain ⟨gn, hgn⟩ : ∃ gn, o2.length = gn := ⟨_, rfl⟩
        have HGN := Lib.hid hgn
        rw [hgn] at hkn ⊢
        clear hgn
        go_wp2_with fail
        go_loopw [8] (fun i wj => ∃ j : Nat, j ≤ gn ∧ i = .int .i64 j ∧ Hid (L2T w X Y o2 ka wj)) (fun i _ => gn - (intOf i).toNat)
        case atStart => exact ⟨0, by omega, rfl, H7⟩
        case round =>
          obtain ⟨j, hj, rfl, H8⟩ := hrel
          clear H7
          by_cases hlj : j < gn
          · have j1 : (j : Int) < (gn : Int) := by omega
            have j2 : (0 : Int) ≤ (j : Int) := by omega
            obtain ⟨a1, n1, c1, s1, s2⟩ := H8.out.peek (j := j) (by rw [HGN.out]; exact hlj)
            have S2 := Lib.hid s2
            clear s2 H8
            go_wp2_with fail
            with_reducible refine S2.out.mono ?_
            rintro e w9 ⟨r7, rfl, q⟩
            have H9 := Lib.hid q
            clear q S2 s1
            generalize agetV r7 = r8 at *
            go_wp2
            go_roundw
            case rel => exact ⟨j + 1, by omega, by go_num, H9⟩
            case measure => simp [intOf]; omega
          · have j1 : ¬ (j : Int) < (gn : Int) := by omega
            have H9 := Lib.hid H8.out.1
            clear H8
            go_wp2_with fail
            with_reducible refine H9.out.xlen.mono ?_
            rintro e w9 ⟨rfl, rfl⟩
            go_wp2
            go_roundw
            case rel => exact ⟨k + 1, o2, by omega, by omega, by go_num, H9⟩
            case measure => simp [intOf]; omega
      · have z3 : ((pk : Int) == 3) = false := by rw [beq_eq_false_iff_ne]; omega
        by_cases k4 : pk = 4
        · subst k4
          obtain ⟨r9, hr9⟩ : ∃ r, agetV (aget o ks) = r := ⟨_, rfl⟩
          have HR9 := Lib.hid hr9
          clear hr9
          go_wp2_with fail
          with_reducible refine (H4.out.xdel HKL.out HBY.out).mono ?_
          rintro e w4 ⟨rfl, q⟩
          rw [HR9.out]
          have H5 := Lib.hid q
          clear q H4
          go_wp2_with fail
          with_reducible refine (H5.out.ydel HKL.out HBY.out).mono ?_
          rintro e w5 ⟨rfl, q⟩
          rw [HR9.out]
          have H6 := Lib.hid q.l2
          clear q H5
          have hkl2 := keys_len H6.out.good
          have hkn := hkl2.1
          clear hkl2
          go_wp2_with fail
          with_reducible refine H6.out.xkeys.mono ?_
          rintro e w6 ⟨ka, rfl, q⟩
          have H7 := Lib.hid q
          clear q H6
          generalize awo o ks = o2 at *
          obtain ⟨gn, hgn⟩ : ∃ gn, o2.length = gn := ⟨_, rfl⟩
          have HGN := Lib.hid hgn
          rw [hgn] at hkn ⊢
          clear hgn
          go_wp2_with fail
          go_loopw [8] (fun i wj => ∃ j : Nat, j ≤ gn ∧ i = .int .i64 j ∧ Hid (L2T w X Y o2 ka wj)) (fun i _ => gn - (intOf i).toNat)
          case atStart => exact ⟨0, by omega, rfl, H7⟩
          case round =>
            obtain ⟨j, hj, rfl, H8⟩ := hrel
            clear H7
            by_cases hlj : j < gn
            · have j1 : (j : Int) < (gn : Int) := by omega
              have j2 : (0 : Int) ≤ (j : Int) := by omega
              obtain ⟨a1, n1, c1, s1, s2⟩ := H8.out.peek (j := j) (by rw [HGN.out]; exact hlj)
              have S2 := Lib.hid s2
              clear s2 H8
              go_wp2_with fail
              with_reducible refine S2.out.mono ?_
              rintro e w9 ⟨r7, rfl, q⟩
              have H9 := Lib.hid q
              clear q S2 s1
              generalize agetV r7 = r8 at *
              go_wp2
              go_roundw
              case rel => exact ⟨j + 1, by omega, by go_num, H9⟩
              case measure => simp [intOf]; omega
            · have j1 : ¬ (j : Int) < (gn : Int) := by omega
              have H9 := Lib.hid H8.out.1
              clear H8
              go_wp2_with fail
              with_reducible refine H9.out.xlen.mono ?_
              rintro e w9 ⟨rfl, rfl⟩
              go_wp2
              go_roundw
              case rel => exact ⟨k + 1, o2, by omega, by omega, by go_num, H9⟩
              case measure => simp [intOf]; omega
        · have z4 : ((pk : Int) == 4) = false := by rw [beq_eq_false_iff_ne]; omega
          go_wp2_with fail
          with_reducible refine (H4.out.xput HKL.out HBY.out _).mono ?_
          rintro e w4 ⟨u1, rfl, q⟩
          unfold putV
          have H5 := Lib.hid q
          clear q H4
          go_wp2_with fail
          with_reducible refine (H5.out.yput HKL.out HBY.out _).mono ?_
          rintro e w5 ⟨u2, rfl, q⟩
          unfold putV
          have H6 := Lib.hid q.l2
          clear q H5
          have hkl2 := keys_len H6.out.good
          have hkn := hkl2.1
          clear hkl2
          go_wp2_with fail
          with_reducible refine H6.out.xkeys.mono ?_
          rintro e w6 ⟨ka, rfl, q⟩
          have H7 := Lib.hid q
          clear q H6
          generalize (aput 2 5 o ks (k : Int)).2.2 = o2 at *
          obtain ⟨gn, hgn⟩ : ∃ gn, o2.length = gn := ⟨_, rfl⟩
          have HGN := Lib.hid hgn
          rw [hgn] at hkn ⊢
          clear hgn
          go_wp2_with fail
          go_loopw [8] (fun i wj => ∃ j : Nat, j ≤ gn ∧ i = .int .i64 j ∧ Hid (L2T w X Y o2 ka wj)) (fun i _ => gn - (intOf i).toNat)
          case atStart => exact ⟨0, by omega, rfl, H7⟩
          case round =>
            obtain ⟨j, hj, rfl, H8⟩ := hrel
            clear H7
            by_cases hlj : j < gn
            · have j1 : (j : Int) < (gn : Int) := by omega
              have j2 : (0 : Int) ≤ (j : Int) := by omega
              obtain ⟨a1, n1, c1, s1, s2⟩ := H8.out.peek (j := j) (by rw [HGN.out]; exact hlj)
              have S2 := Lib.hid s2
              clear s2 H8
              go_wp2_with fail
              with_reducible refine S2.out.mono ?_
              rintro e w9 ⟨r7, rfl, q⟩
              have H9 := Lib.hid q
              clear q S2 s1
              generalize agetV r7 = r8 at *
              go_wp2
              go_roundw
              case rel => exact ⟨j + 1, by omega, by go_num, H9⟩
              case measure => simp [intOf]; omega
            · have j1 : ¬ (j : Int) < (gn : Int) := by omega
              have H9 := Lib.hid H8.out.1
              clear H8
              go_wp2_with fail
              with_reducible refine H9.out.xlen.mono ?_
              rintro e w9 ⟨rfl, rfl⟩
              go_wp2
              go_roundw
              case rel => exact ⟨k + 1, o2, by omega, by omega, by go_num, H9⟩
              case measure => simp [intOf]; omega
    · have i1 : ¬ ((k : Int) < (len0 : Int)) ∨ ((k : Int) < (len0 : Int) ∧ ¬ (k : Int) < 100) := by omega
      have hkl2 := keys_len H3.out.good
      have HKL := Lib.hid hkl2.2
      have hkn := hkl2.1
      clear hkl2
      rcases i1 with i1 | ⟨i1, i2⟩
      · go_wp2_with fail
        with_reducible refine H3.out.xkeys.mono ?_
        rintro e w6 ⟨ka, rfl, q⟩
        have H5 := Lib.hid q
        clear q H3
        go_wp2_with fail
        with_reducible refine H5.out.ykeys.mono ?_
        rintro e w7 ⟨kb, rfl, q, qt⟩
        have H6 := Lib.hid q
        have HTX := Lib.hid qt
        have HXL := Lib.hid q.1.xlen
        have HYL := Lib.hid q.1.ylen
        clear q qt H5
        obtain ⟨G, hG⟩ : ∃ G, o.map (·.1) = G := ⟨_, rfl⟩
        have hgn : G.length = o.length := by rw [← hG, List.length_map]
        have HTA : Hid (Txt w7 w7.heap.size (some ka) G) := Lib.hid (by rw [← hG]; exact H6.out.2)
        rw [hG] at HKL HTX
        have HGN := Lib.hid hgn
        clear hG hgn
        go_wp2_with fail
        with_reducible refine (sametexts_any (some ka) (some kb) o.length o.length o.length G HGN.out hkn HKL.out _ HTA.out HTX.out).mono ?_
        rintro e w8 ⟨rfl, q⟩
        have H7 := Lib.hid (H6.out.1.grow q)
        clear q H6 HTX HTA HXL HYL
        go_wp2_with fail
        with_reducible refine H7.out.xlen.mono ?_
        rintro e w9 ⟨rfl, rfl⟩
        go_wp2_with fail
        with_reducible refine H7.out.ylen.mono ?_
        rintro e w9 ⟨rfl, rfl⟩
        have HB8 := Lib.hid H7.out.below
        clear H7
        generalize o.length = gn at *
        go_wp2_with fail
        with_reducible refine (known_c _).mono ?_
        rintro e w9 ⟨rfl, q⟩
        have HB9 := Lib.hid (HB8.out.trans (q.mono HB8.out.size))
        clear q HB8
        go_wp2
        go_ret
        exact ⟨rfl, HB9.out⟩
      · go_wp2_with fail
        with_reducible refine H3.out.xkeys.mono ?_
        rintro e w6 ⟨ka, rfl, q⟩
        have H5 := Lib.hid q
        clear q H3
        go_wp2_with fail
        with_reducible refine H5.out.ykeys.mono ?_
        rintro e w7 ⟨kb, rfl, q, qt⟩
        have H6 := Lib.hid q
        have HTX := Lib.hid qt
        have HXL := Lib.hid q.1.xlen
        have HYL := Lib.hid q.1.ylen
        clear q qt H5
        obtain ⟨G, hG⟩ : ∃ G, o.map (·.1) = G := ⟨_, rfl⟩
        have hgn : G.length = o.length := by rw [← hG, List.length_map]
        have HTA : Hid (Txt w7 w7.heap.size (some ka) G) := Lib.hid (by rw [← hG]; exact H6.out.2)
        rw [hG] at HKL HTX
        have HGN := Lib.hid hgn
        clear hG hgn
        go_wp2_with fail
        with_reducible refine (sametexts_any (some ka) (some kb) o.length o.length o.length G HGN.out hkn HKL.out _ HTA.out HTX.out).mono ?_
        rintro e w8 ⟨rfl, q⟩
        have H7 := Lib.hid (H6.out.1.grow q)
        clear q H6 HTX HTA HXL HYL
        go_wp2_with fail
        with_reducible refine H7.out.xlen.mono ?_
        rintro e w9 ⟨rfl, rfl⟩
        go_wp2_with fail
        with_reducible refine H7.out.ylen.mono ?_
        rintro e w9 ⟨rfl, rfl⟩
        have HB8 := Lib.hid H7.out.below
        clear H7
        generalize o.length = gn at *
        go_wp2_with fail
        with_reducible refine (known_c _).mono ?_
        rintro e w9 ⟨rfl, q⟩
        have HB9 := Lib.hid (HB8.out.trans (q.mono HB8.out.size))
        clear q HB8
        go_wp2
        go_ret
        exact ⟨rfl, HB9.out⟩

set_option maxRecDepth 100000 in
theorem lifted (os : Os) (started : os.Started) (H : Type) (enc : TypeId × Value → H) :
    ReturnsInHanded {} Try.checked os 5 .any (Rows.lruLooksSpec.pre6 enc Try.prog Try.f5 Rows.lruLooksRow.domain false) (Rows.lruLooksSpec.post enc Try.prog Try.f5 false true false false) := by
  refine returnsInHanded_of_change (C := Try.checked) own started (by kernel_rfl) Try.func5
    (ChangeSpec.witness6 (enc := enc) (C := Try.checked) false ⟨#[], #[.slice none 0 0], []⟩ 8 (by kernel_rfl) (by kernel_rfl) (by kernel_rfl) (by kernel_rfl)) ?_
  intro W base args ds gs before hval0 hW hcnd _
  have hval : ∀ (j : Nat) t v, Try.f5.params[j]? = some t → args[j]? = some v → Value.okWide Try.prog W .any base t v := hval0
  have hW' := hW
  obtain ⟨p, q, hA0, hV, rfl, hfz, hnd⟩ := hW
  have hA : DataW.TrodAll enc Try.prog W 0 (fun _ => true) true Try.f5.params.toList args.toList ds p := hA0
  rw [Try.params5] at hA hval
  obtain ⟨v0, vs0, d0, ds0, p0, q0, hargs, rfl, rfl, h0, r0⟩ := trodAll_cons hA
  obtain ⟨rfl, rfl, rfl⟩ := trodAll_nil r0
  obtain rfl : args = #[v0] := by cases args; simp_all
  obtain ⟨rfl, rfl⟩ := trodVars_none hV
  obtain ⟨a0, len0, cap0, rfl⟩ := okWide_slice Try.underlying22 (hval 0 22 v0 rfl rfl)
  have k0 := h0
  have lt0 : ∀ x ∈ p0, x.block < W.heap.size := by obtain ⟨m, hm⟩ := k0; exact DataW.trod_lt m _ _ _ hm
  obtain ⟨L0, l0, f0, c0, m0, rr0⟩ := open_ops h0
  clear hA0 hval0
  refine (walk a0 len0 cap0 L0 W l0 f0 c0 m0 rr0).mono fun e W' ⟨he, bel⟩ => ?_
  subst he
  exact ⟨_, rfl, _, _, _, [], _, [], hW', trodAll_mk1 (shut_bool Try.underlying4 _), (trodAll_cons_mk (Below.trod laidOut (by kernel_rfl) (of_decide_eq_true (by kernel_rfl)) k0 bel lt0) trodAll_mk0), rfl, bel.frame _, fun h => by cases h⟩

theorem over : Rows.lruLooksRow.holds Try.pinned (OpenSpec.ofChange Rows.lruLooksSpec) :=
  OpenClaim.holds_of_wide 5 Try.f5 rfl rfl rfl rfl rfl rfl rfl ⟨rfl, rfl, rfl, rfl, rfl⟩ rfl rfl rfl rfl rfl (by kernel_rfl) Try.func5 (by kernel_rfl)
    (of_decide_eq_true (by kernel_rfl)) (by unfold Func.isWrapper; first | (rw [if_pos (by decide +kernel)]; kernel_rfl) | (rw [if_neg (by decide +kernel)]; exact ⟨rfl, rfl⟩))
    (fun os started H enc _ => lifted os started H enc)

theorem proved : Rows.LruLooksSaid := over
#print axioms proved
end Go.Proofs.Ythappjbghlifbaa.lruLooks
