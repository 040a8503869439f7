/-
  Layer 11, LruPlays: whatever is put, found, looked at and taken away, it is answered, and the keys stand in their order, as the document says; what is handed in is neither kept nor changed, what is told is new memory. No conditions.
-/
import Derived.Test.YthappjbghlifbaaRows
import Derived.Test.YthappjbghlifbaaLruAll
import Derived.Deep.DeepCutAuto
import Derived.IntWalk
import Derived.WalkKit
import Derived.ProofKit
import Derived.OpenShut
import Derived.ChangeOld
import Derived.Below
namespace Go.Proofs.Ythappjbghlifbaa.lruPlays
open Go.ChangeShapes Go.WideShapes Go.ChangeAt Go.RowKit Ow Ro K2
set_option linter.unusedVariables false
set_option linter.unusedSimpArgs false

theorem own : ownKnob Try.prog.godebug = none := by kernel_rfl
theorem laidOut : laidOutB Try.prog = true := by kernel_rfl



set_option maxRecDepth 100000 in
set_option maxHeartbeats 4000000 in
theorem walk (n0 : Int) (n1 : Int) (a2 : Option Addr) (len2 cap2 : Nat) (L2 : List Opn) (w : World) (w0 : (Lit.int .i64 n0).wf = true) (w1 : (Lit.int .i64 n1).wf = true) (l2 : L2.length = len2) (f2 : ∀ x ∈ L2, x.fits) (c2 : len2 ≤ cap2) (m2 : cap2 ≤ 9223372036854775807) (r2 : OpsAt w w.heap.size a2 L2) :
    Calls Try.prog 3 #[.int .i64 n0, .int .i64 n1, .slice a2 len2 cap2] w fun e w' => e = .returned (.bool true) ∧ Below w.heap.size w w' := by
  have RR := Lib.hid r2
  have HL := Lib.hid l2
  have HF := Lib.hid f2
  clear r2 l2 f2 w0 w1
  go_enter Try.func3, Try.ntmps3
  go_wp2_with fail
  with_reducible refine (new_both w n0 n1).mono ?_
  rintro e w1 ⟨X, rfl, h1⟩
  have H1 := Lib.hid h1
  clear h1
  generalize max 1 (min n0 16) = K at *
  generalize max 1 (min n1 64) = M at *
  go_wp2_with fail
  with_reducible refine H1.out.mono ?_
  rintro e w2 ⟨Y, rfl, h2⟩
  have H2 := Lib.hid h2
  clear h2 H1
  go_wp2_with fail
  go_loopw [9, 10, 11] (fun i a10 a11 wr => ∃ (k : Nat) (o : KO), k ≤ len2 ∧ k ≤ 200 ∧ i = .int .i64 k ∧ Hid (TW w X Y K M o k wr)) (fun i _ _ _ => len2 - (intOf i).toNat)
  case atStart => exact ⟨0, _, by omega, by omega, rfl, H2⟩
  case round =>
    obtain ⟨k, o, hkl, hk2, rfl, H3⟩ := hrel
    clear H2
    by_cases hlt : k < len2 ∧ k < 200
    · obtain ⟨hl1, hl2⟩ := hlt
      have hkx : k < L2.length := by rw [HL.out]; exact hl1
      have HFX := Lib.hid (HF.out _ (List.getElem_mem hkx))
      have HRX := Lib.hid (RR.out.bytes _ (List.getElem_mem hkx))
      obtain ⟨ad, rfl, had, had2⟩ := ops_cell RR.out.row k 0 hkx (by omega)
      clear had had2
      have HC : Hid (∀ z, Below w.heap.size w z → ∀ r, r < 3 → z.cell? (ad.add (3 * k + r)) = L2[k].cells[r]?) := Lib.hid (fun z hz r hr => by
        obtain ⟨ad', e, hlt', h⟩ := ops_cell RR.out.row k r hkx hr
        injection e with e
        subst e
        rw [← h]
        exact hz.cell (by rw [add_block]; exact hlt'))
      generalize L2[k] = x at *
      have HB := H3.out.below
      have c0 : wr.cell? (ad.add (k * 3)) = some (.int .i64 x.kind) := by rw [Nat.mul_comm]; exact HC.out wr HB 0 (by omega)
      have c1 : wr.cell? ⟨(ad.add (k * 3)).block, (ad.add (k * 3)).off + 1, none⟩ = some (.int .i64 x.cell) := by rw [Nat.mul_comm k 3, add_next _ _ _ (by omega)]; exact HC.out wr HB 1 (by omega)
      have c2 : wr.cell? ⟨(ad.add (k * 3)).block, (ad.add (k * 3)).off + 2, none⟩ = some (.slice x.a x.n x.c) := by rw [Nat.mul_comm k 3, add_next _ _ _ (by omega)]; exact HC.out wr HB 2 (by omega)
      obtain ⟨kd, c, ax, n, cx, bs⟩ := x
      dsimp only at c0 c1 c2
      obtain ⟨f1, f2, hn, hby, f5, f6, f7⟩ := HFX.out
      dsimp only at f1 hn hby f5 f6
      unfold i64 at f1
      have HN := Lib.hid hn
      have HBY := Lib.hid hby
      have HK1 := Lib.hid f1
      have HRD : Hid (Rd w w.heap.size ax (bv bs)) := Lib.hid HRX.out
      clear HFX HRX HC HB f1 f2 f7 hkx hn hby
      have i1 : (k : Int) < (len2 : Int) := by omega
      have i2 : (k : Int) < 200 := by omega
      have i3 : (0 : Int) ≤ (k : Int) := by omega
      by_cases h60 : n ≤ 60
      · have i4 : ¬ (n : Int) > 60 := by omega
        go_wp2_with fail
        with_reducible refine (does_c H3.out (by omega) kd c ax n cx bs HK1.out.1 HK1.out.2 HN.out (by omega) HBY.out HRD.out).mono ?_
        rintro e w3 ⟨rfl, o2, q⟩
        have H4 := Lib.hid q
        clear q H3 c0 c1 c2
        go_wp2_with fail
        with_reducible refine H4.out.plen.mono ?_
        rintro e w4 ⟨rfl, rfl⟩
        go_wp2_with fail
        with_reducible refine H4.out.rlen.mono ?_
        rintro e w5 ⟨rfl, rfl⟩
        have hkl2 := keys_len H4.out.good
        have HKL := Lib.hid hkl2.2
        have hkn := hkl2.1
        clear hkl2
        go_wp2_with fail
        with_reducible refine H4.out.keys.mono ?_
        rintro e w6 ⟨ka, rfl, q⟩
        have H5 := Lib.hid q
        clear q H4
        go_wp2_with fail
        with_reducible refine (H5.out.rkeys (by omega)).mono ?_
        rintro e w7 ⟨ra, rc, rfl, q, qt⟩
        have H6 := Lib.hid q
        have HTX := Lib.hid qt
        clear q qt H5
        obtain ⟨G, hG⟩ : ∃ G, o2.map (·.1) = G := ⟨_, rfl⟩
        have hgn : G.length = o2.length := by rw [← hG, List.length_map]
        rw [hG] at HKL HTX H6
        have HGN := Lib.hid hgn
        clear hG hgn
        obtain ⟨gn, hgn⟩ : ∃ gn, o2.length = gn := ⟨_, rfl⟩
        rw [hgn] at hkn HGN ⊢
        clear hgn
        go_wp2_with fail
        with_reducible refine (sametexts_any (some ka) ra gn gn rc G HGN.out hkn HKL.out _ H6.out.txt HTX.out).mono ?_
        rintro e w8 ⟨rfl, q⟩
        have H7 := Lib.hid (H6.out.grow q)
        clear q H6 HTX
        go_wp2_with fail
        go_loopw [11] (fun i wr => ∃ (j : Nat), j ≤ gn ∧ i = .int .i64 j ∧ Hid (TZ w X Y K M o2 (k + 1) G ka j wr)) (fun i _ => gn - (intOf i).toNat)
        case atStart => exact ⟨0, by omega, rfl, H7⟩
        case round =>
          obtain ⟨j, hj, rfl, H8⟩ := hrel
          clear H7
          by_cases hlj : j < gn
          · have j1 : (j : Int) < (gn : Int) := by omega
            have j2 : (0 : Int) ≤ (j : Int) := by omega
            obtain ⟨ua, un, uc, s1, s2⟩ := H8.out.spoil (by rw [HGN.out]; exact hlj) HKL.out
            have S2 := Lib.hid s2
            clear s2 H8
            go_wp2_with fail
            with_reducible refine S2.out.mono ?_
            rintro e w9 ⟨rfl, q⟩
            have H9 := Lib.hid q
            clear q S2 s1
            go_wp2
            go_roundw
            case rel => exact ⟨j + 1, by omega, by go_num, H9⟩
            case measure => simp [intOf]; omega
          · have j1 : ¬ (j : Int) < (gn : Int) := by omega
            have H9 : Hid (TW w X Y K M o2 (k + 1) wr) := Lib.hid H8.out.tw
            clear H8
            go_wp2
            go_roundw
            case rel => exact ⟨k + 1, o2, by omega, by omega, by go_num, H9⟩
            case measure => simp [intOf]; omega
      · have i4 : (n : Int) > 60 := by omega
        have HB := Lib.hid H3.out.below
        go_wp2_with fail
        with_reducible refine (known_c _).mono ?_
        rintro e w9 ⟨rfl, q⟩
        have HB9 := Lib.hid (HB.out.trans (q.mono HB.out.size))
        clear q H3 c0 c1 c2
        go_wp2
        go_ret
        exact ⟨rfl, HB9.out⟩
    · have i1 : ¬ ((k : Int) < (len2 : Int)) ∨ ((k : Int) < (len2 : Int) ∧ ¬ (k : Int) < 200) := by omega
      have hkl2 := keys_len H3.out.good
      have HKL := Lib.hid hkl2.2
      have hkn := hkl2.1
      clear hkl2
      rcases i1 with i1 | ⟨i1, i2⟩
      · go_wp2_with fail
        with_reducible refine H3.out.keys.mono ?_
        rintro e w6 ⟨ka, rfl, q⟩
        have H5 := Lib.hid q
        clear q H3
        go_wp2_with fail
        with_reducible refine (H5.out.rkeys (by omega)).mono ?_
        rintro e w7 ⟨ra, rc, rfl, q, qt⟩
        have H6 := Lib.hid q
        have HTX := Lib.hid qt
        clear q qt H5
        obtain ⟨G, hG⟩ : ∃ G, o.map (·.1) = G := ⟨_, rfl⟩
        have hgn : G.length = o.length := by rw [← hG, List.length_map]
        rw [hG] at HKL HTX H6
        have HGN := Lib.hid hgn
        clear hG hgn
        obtain ⟨gn, hgn⟩ : ∃ gn, o.length = gn := ⟨_, rfl⟩
        rw [hgn] at hkn HGN ⊢
        clear hgn
        go_wp2_with fail
        with_reducible refine (sametexts_any (some ka) ra gn gn rc G HGN.out hkn HKL.out _ H6.out.txt HTX.out).mono ?_
        rintro e w8 ⟨rfl, q⟩
        have HB8 := Lib.hid (H6.out.grow q).tw.below
        clear q H6 HTX
        go_wp2_with fail
        with_reducible refine (known_c _).mono ?_
        rintro e w9 ⟨rfl, q⟩
        have HB9 := Lib.hid (HB8.out.trans (q.mono HB8.out.size))
        clear q HB8
        go_wp2
        go_ret
        exact ⟨rfl, HB9.out⟩
      · go_wp2_with fail
        with_reducible refine H3.out.keys.mono ?_
        rintro e w6 ⟨ka, rfl, q⟩
        have H5 := Lib.hid q
        clear q H3
        go_wp2_with fail
        with_reducible refine (H5.out.rkeys (by omega)).mono ?_
        rintro e w7 ⟨ra, rc, rfl, q, qt⟩
        have H6 := Lib.hid q
        have HTX := Lib.hid qt
        clear q qt H5
        obtain ⟨G, hG⟩ : ∃ G, o.map (·.1) = G := ⟨_, rfl⟩
        have hgn : G.length = o.length := by rw [← hG, List.length_map]
        rw [hG] at HKL HTX H6
        have HGN := Lib.hid hgn
        clear hG hgn
        obtain ⟨gn, hgn⟩ : ∃ gn, o.length = gn := ⟨_, rfl⟩
        rw [hgn] at hkn HGN ⊢
        clear hgn
        go_wp2_with fail
        with_reducible refine (sametexts_any (some ka) ra gn gn rc G HGN.out hkn HKL.out _ H6.out.txt HTX.out).mono ?_
        rintro e w8 ⟨rfl, q⟩
        have HB8 := Lib.hid (H6.out.grow q).tw.below
        clear q H6 HTX
        go_wp2_with fail
        with_reducible refine (known_c _).mono ?_
        rintro e w9 ⟨rfl, q⟩
        have HB9 := Lib.hid (HB8.out.trans (q.mono HB8.out.size))
        clear q HB8
        go_wp2
        go_ret
        exact ⟨rfl, HB9.out⟩

set_option maxRecDepth 100000 in
theorem lifted (os : Os) (started : os.Started) (H : Type) (enc : TypeId × Value → H) :
    ReturnsInHanded {} Try.checked os 3 .any (Rows.lruPlaysSpec.pre6 enc Try.prog Try.f3 Rows.lruPlaysRow.domain false) (Rows.lruPlaysSpec.post enc Try.prog Try.f3 false true false false) := by
  refine returnsInHanded_of_change (C := Try.checked) own started (by kernel_rfl) Try.func3
    (ChangeSpec.witness6 (enc := enc) (C := Try.checked) false ⟨#[], #[.int .i64 0, .int .i64 0, .slice none 0 0], []⟩ 8 (by kernel_rfl) (by kernel_rfl) (by kernel_rfl) (by kernel_rfl)) ?_
  intro W base args ds gs before hval0 hW hcnd _
  have hval : ∀ (j : Nat) t v, Try.f3.params[j]? = some t → args[j]? = some v → Value.okWide Try.prog W .any base t v := hval0
  have hW' := hW
  obtain ⟨p, q, hA0, hV, rfl, hfz, hnd⟩ := hW
  have hA : DataW.TrodAll enc Try.prog W 0 (fun _ => true) true Try.f3.params.toList args.toList ds p := hA0
  rw [Try.params3] at hA hval
  obtain ⟨v0, vs0, d0, ds0, p0, q0, hargs, rfl, rfl, h0, r0⟩ := trodAll_cons hA
  obtain ⟨v1, vs1, d1, ds1, p1, q1, rfl, rfl, rfl, h1, r1⟩ := trodAll_cons r0
  obtain ⟨v2, vs2, d2, ds2, p2, q2, rfl, rfl, rfl, h2, r2⟩ := trodAll_cons r1
  obtain ⟨rfl, rfl, rfl⟩ := trodAll_nil r2
  obtain rfl : args = #[v0, v1, v2] := by cases args; simp_all
  obtain ⟨rfl, rfl⟩ := trodVars_none hV
  obtain ⟨n0, rfl, rfl, rfl, w0⟩ := open_int Try.underlying3 (hval 0 3 v0 rfl rfl) h0
  obtain ⟨n1, rfl, rfl, rfl, w1⟩ := open_int Try.underlying3 (hval 1 3 v1 rfl rfl) h1
  obtain ⟨a2, len2, cap2, rfl⟩ := okWide_slice Try.underlying22 (hval 2 22 v2 rfl rfl)
  have k2 := h2
  have lt2 : ∀ x ∈ p2, x.block < W.heap.size := by obtain ⟨m, hm⟩ := k2; exact DataW.trod_lt m _ _ _ hm
  obtain ⟨L2, l2, f2, c2, m2, rr2⟩ := open_ops h2
  clear hA0 hval0
  refine (walk n0 n1 a2 len2 cap2 L2 W w0 w1 l2 f2 c2 m2 rr2).mono fun e W' ⟨he, bel⟩ => ?_
  subst he
  exact ⟨_, rfl, _, _, _, [], _, [], hW', trodAll_mk1 (shut_bool Try.underlying4 _), (trodAll_cons_mk (shut_int Try.underlying3 w0) (trodAll_cons_mk (shut_int Try.underlying3 w1) (trodAll_cons_mk (Below.trod laidOut (by kernel_rfl) (of_decide_eq_true (by kernel_rfl)) k2 bel lt2) trodAll_mk0))), rfl, bel.frame _, fun h => by cases h⟩

theorem over : Rows.lruPlaysRow.holds Try.pinned (OpenSpec.ofChange Rows.lruPlaysSpec) :=
  OpenClaim.holds_of_wide 3 Try.f3 rfl rfl rfl rfl rfl rfl rfl ⟨rfl, rfl, rfl, rfl, rfl⟩ rfl rfl rfl rfl rfl (by kernel_rfl) Try.func3 (by kernel_rfl)
    (of_decide_eq_true (by kernel_rfl)) (by unfold Func.isWrapper; first | (rw [if_pos (by decide +kernel)]; kernel_rfl) | (rw [if_neg (by decide +kernel)]; exact ⟨rfl, rfl⟩))
    (fun os started H enc _ => lifted os started H enc)

theorem proved : Rows.LruPlaysSaid := over
#print axioms proved
end Go.Proofs.Ythappjbghlifbaa.lruPlays
