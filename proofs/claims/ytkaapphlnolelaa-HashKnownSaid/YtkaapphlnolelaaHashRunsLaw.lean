/-
  Layer 10, HashRuns: whatever is put, found and taken away, it is answered, and the keys stand, as the document says; what is handed in is neither kept nor changed, what is told is new memory. No conditions.
-/
import Derived.Test.YtkaapphlnolelaaRows
import Derived.Test.YtkaapphlnolelaaHashTwo
import Derived.Test.YtkaapphlnolelaaHashLong
import Derived.Deep.DeepCutAuto
import Derived.IntWalk
import Derived.WalkKit
import Derived.ProofKit
import Derived.OpenShut
import Derived.ChangeOld
import Derived.Below
namespace Go.Proofs.Ytkaapphlnolelaa.hashRuns
open Go.ChangeShapes Go.WideShapes Go.ChangeAt Go.RowKit Ow Ro K2 Hm
set_option linter.unusedVariables false
set_option linter.unusedSimpArgs false

theorem own : ownKnob Try.prog.godebug = none := by kernel_rfl
theorem laidOut : laidOutB Try.prog = true := by kernel_rfl

theorem cut_pos (key : Int) : ∃ K : Nat, cutN key 16 = (K : Nat) ∧ (cutN key 16).toNat = K ∧ 1 ≤ K ∧ K ≤ 16 := by
  have := cutN_bd key 16 (by decide)
  exact ⟨(cutN key 16).toNat, by omega, rfl, by omega, by omega⟩
theorem bv_pre (xs ys : List Int) (n : Nat) (h : xs.length = n) : (bv (xs ++ ys)).take n = bv xs := by unfold bv; rw [← List.map_take, ← h, List.take_left]

set_option maxRecDepth 100000 in
set_option maxHeartbeats 4000000 in
theorem walk (n0 : Int) (n1 : Int) (a2 : Option Addr) (len2 cap2 : Nat) (L2 : List Opn) (w : World) (w0 : (Lit.int .i64 n0).wf = true) (w1 : (Lit.int .i64 n1).wf = true) (l2 : L2.length = len2) (f2 : ∀ x ∈ L2, x.fits) (c2 : len2 ≤ cap2) (m2 : cap2 ≤ 9223372036854775807) (r2 : OpsAt w w.heap.size a2 L2) :
    Calls Try.prog 4 #[.int .i64 n0, .int .i64 n1, .slice a2 len2 cap2] w fun e w' => e = .returned (.bool true) ∧ Below w.heap.size w w' := by
  have RR := Lib.hid r2
  have HL := Lib.hid l2
  have HF := Lib.hid f2
  have HB0 := Lib.hid (Below.refl w.heap.size w)
  clear r2 l2 f2 w0 w1
  go_enter Try.func4, Try.ntmps4
  go_wp2_with fail
  with_reducible refine (long_c a2 len2 cap2 L2 HL.out (by omega) HF.out w RR.out.row).mono ?_
  rintro e w' ⟨b, rfl, hb, rfl⟩
  cases b with
  | true =>
    clear hb
    go_wp2_with fail
    with_reducible refine (works_c _).mono ?_
    rintro e w9 ⟨rfl, q⟩
    have HQ := Lib.hid q
    clear q
    go_wp2
    go_ret
    exact ⟨rfl, HQ.out⟩
  | false =>
    obtain ⟨h400, hbs⟩ := hb rfl
    rw [HL.out] at h400
    have HX0 := Lib.hid hbs
    clear hb hbs
    obtain ⟨K, hK, hK2, hK3, hK4⟩ := cut_pos n0
    have hMb := cutN_bd n1 64 (by decide)
    obtain ⟨M, hM⟩ : ∃ M, cutN n1 64 = M := ⟨_, rfl⟩
    rw [hM] at hMb
    have HK := Lib.hid hK
    have HM := Lib.hid hM
    go_wp2_with fail
    with_reducible refine (pnew_h HB0.out n0 n1).mono ?_
    rintro e w4 ⟨P, rfl, h1⟩
    rw [hK2, hM] at h1
    have H1 := Lib.hid h1
    clear h1 hK hK2 hM
    go_wp2_with fail
    with_reducible refine (tnew_h H1.out HK.out rfl HM.out).mono ?_
    rintro e w5 ⟨X, rfl, h2⟩
    have H2 := Lib.hid h2
    have HT0 := Lib.hid (Tab.start K M hK3 hK4 hMb.1 hMb.2)
    clear h2 H1
    go_wp2_with fail
    go_loopw [9] (fun i wr => ∃ (k : Nat) (T : List Pl), k ≤ len2 ∧ i = .int .i64 k ∧ Hid (Tw w P X K M T wr) ∧ Hid (Tab T K M)) (fun i _ => len2 - (intOf i).toNat)
    case atStart => exact ⟨0, _, by omega, rfl, H2, HT0⟩
    case round =>
      obtain ⟨k, T, hkl, rfl, H3, HT⟩ := hrel
      clear H2 HT0
      by_cases hlt : k < len2
      · have hkx : k < L2.length := by rw [HL.out]; exact hlt
        have HFX := Lib.hid (HF.out _ (List.getElem_mem hkx))
        have HRX := Lib.hid (RR.out.bytes _ (List.getElem_mem hkx))
        have HX100 := Lib.hid (HX0.out _ (List.getElem_mem hkx))
        obtain ⟨ad, rfl, had, had2⟩ := ops_cell RR.out.row k 0 hkx (by omega)
        clear had had2
        have HC : Hid (∀ z, Below w.heap.size w z → ∀ r, r < 3 → z.cell? (ad.add (3 * k + r)) = L2[k].cells[r]?) := Lib.hid (fun z hz r hr => by
          obtain ⟨ad', e, hlt', h⟩ := ops_cell RR.out.row k r hkx hr
          injection e with e
          subst e
          rw [← h]
          exact hz.cell (by rw [add_block]; exact hlt'))
        generalize L2[k] = x at *
        have HB := H3.out.below
        have c0 : wr.cell? (ad.add (k * 3)) = some (.int .i64 x.kind) := by rw [Nat.mul_comm]; exact HC.out wr HB 0 (by omega)
        have c1 : wr.cell? ⟨(ad.add (k * 3)).block, (ad.add (k * 3)).off + 1, none⟩ = some (.int .i64 x.cell) := by rw [Nat.mul_comm k 3, add_next _ _ _ (by omega)]; exact HC.out wr HB 1 (by omega)
        have c2 : wr.cell? ⟨(ad.add (k * 3)).block, (ad.add (k * 3)).off + 2, none⟩ = some (.slice x.a x.n x.c) := by rw [Nat.mul_comm k 3, add_next _ _ _ (by omega)]; exact HC.out wr HB 2 (by omega)
        obtain ⟨kd, c, ax, n, cx, bs⟩ := x
        dsimp only at c0 c1 c2
        obtain ⟨f1, f2, hn, hby, f5, f6, f7⟩ := HFX.out
        dsimp only at hn hby f5 f6
        have hn100 : n ≤ 100 := HX100.out
        have HN := Lib.hid hn
        have HBY := Lib.hid hby
        have HRD : Hid (Rd w w.heap.size ax (bv bs)) := Lib.hid HRX.out
        clear HFX HX100 HRX HC HB f1 f2 f6 f7 hkx hn hby
        have i1 : (k : Int) < (len2 : Int) := by omega
        go_wp2_with fail
        have H4 := Lib.hid (H3.out.boxed #[.int .i64 kd, .int .i64 c, .slice ax n cx])
        obtain ⟨B, hB⟩ : ∃ B, wr.heap.size = B := ⟨_, rfl⟩
        rw [hB] at H4 ⊢
        generalize (wr.alloc (.cells #[.int .i64 kd, .int .i64 c, .slice ax n cx] 36)) = w6 at *
        clear H3 c0 c1 c2 hB
        have HR6 := Lib.hid ((HRD.out.below H4.out.below).mono H4.out.below.size)
        with_reducible refine (lentb_any ax n cx bs HN.out (by omega) _ HR6.out).mono ?_
        rintro e w7 ⟨v, rfl, q⟩
        obtain ⟨av, cv, rfl, cv1, cv2, _⟩ := own_form q.own
        have H5 := Lib.hid (H4.out.lent q)
        have hlen : (bs ++ mk5 5).length = n + 5 := by rw [List.length_append, mk5_len, HN.out]
        rw [hlen] at H5 cv1 ⊢
        have HZL : Hid ((bs ++ mk5 5).length = n + 5) := Lib.hid hlen
        have HZP : Hid ((bv (bs ++ mk5 5)).take n = bv bs) := Lib.hid (bv_pre bs _ n HN.out)
        clear q H4 HR6 hlen
        have i2 : (n : Int) ≤ (cv : Int) := by omega
        have i3 : (0 : Int) ≤ (n : Int) := by omega
        have b0 := H5.out.box 0
        have b1 := H5.out.box 1
        have b2 := H5.out.box 2
        simp only [List.getElem?_toArray, List.getElem?_cons_zero, List.getElem?_cons_succ] at b0 b1 b2
        by_cases k0 : kd = 0
        · subst k0
          go_wp2_with fail
          refine wp_region_held_drew (S := fun w' => w'.cell? ⟨B, 1, none⟩ = some (.int .i64 c) ∧ w'.cell? ⟨B, 2, none⟩ = some (.slice ax n cx)) (by kernel_rfl) ⟨b1, b2⟩ (fun g => ?_)
          have H6 := Lib.hid H5.out.drew
          clear H5 b0 b1 b2
          generalize w7.drew = w8 at *
          refine tq 0 ?_ rfl (by kernel_rfl) (fun _ _ _ h => h) (by rfl) g ?_ ?_; rotate_left
          · intro w9 h9; go_simp; try with_reducible rfl
          simp only [Act.put, ptA, ptB, ptC]
          refine tq 1 ?_ rfl (by kernel_rfl) (fun _ _ _ h => h) (by rfl) g ?_ ?_; rotate_left
          · intro w9 h9; go_simp; try with_reducible rfl
          simp only [Act.put, ptA, ptB, ptC]
          refine tq 2 ?_ rfl (by kernel_rfl) (fun _ _ _ h => h) (by rfl) g ?_ ?_; rotate_left
          · intro w9 h9; go_simp; try with_reducible rfl
          simp only [Act.put, ptA, ptB, ptC]
          refine tq 3 ?_ rfl (by kernel_rfl) (fun _ _ _ h => h) (by rfl) g ?_ ?_; rotate_left
          · intro w9 h9; obtain ⟨h91, h92⟩ := h9; go_simp; try with_reducible rfl
          simp only [Act.put, ptA, ptB, ptC]
          refine tq 4 ?_ rfl (by kernel_rfl) (fun _ _ _ h => h) (by rfl) g ?_ ?_; rotate_left
          · intro w9 h9; go_simp; try with_reducible rfl
          simp only [Act.put, ptA, ptB, ptC]
          refine tq 5 ?_ rfl (by kernel_rfl) (fun _ _ _ h => h) (by rfl) g ?_ ?_; rotate_left
          · intro w9 h9; go_simp; try with_reducible rfl
          simp only [Act.put, ptA, ptB, ptC]
          refine tq 6 ?_ rfl (by kernel_rfl) (fun _ _ _ h => h) (by rfl) g ?_ ?_; rotate_left
          · intro w9 h9; go_simp; try with_reducible rfl
          simp only [Act.put, ptA, ptB, ptC]
          refine tq 7 ?_ rfl (by kernel_rfl) (fun _ _ _ h => h) (by rfl) g ?_ ?_; rotate_left
          · intro w9 h9; obtain ⟨h91, h92⟩ := h9; go_simp; try with_reducible rfl
          simp only [Act.put, ptA, ptB, ptC]
          refine tq 9 ?_ rfl (by kernel_rfl) (fun _ _ _ h => h) (by rfl) g ?_ ?_; rotate_left
          · intro w9 h9; go_simp; try with_reducible rfl
          simp only [Act.put, ptA, ptB, ptC]
          refine tq 10 ?_ rfl (by kernel_rfl) (fun _ _ _ h => h) (by rfl) g ?_ ?_; rotate_left
          · intro w9 h9; go_simp; try with_reducible rfl
          simp only [Act.put, ptA, ptB, ptC]
          refine tq 11 ?_ rfl (by kernel_rfl) (fun _ _ _ h => h) (by rfl) g ?_ ?_; rotate_left
          · intro w9 h9; obtain ⟨h91, h92⟩ := h9; go_simp; try with_reducible rfl
          simp only [Act.put, ptA, ptB, ptC]
          refine tq 12 ?_ rfl (by kernel_rfl) (fun _ _ _ h => h) (by rfl) g ?_ ?_; rotate_left
          · intro w9 h9; go_simp; try with_reducible rfl
          simp only [Act.put, ptA, ptB, ptC]
          refine tq 13 ?_ rfl (by kernel_rfl) (fun _ _ _ h => h) (by rfl) g ?_ ?_; rotate_left
          · intro w9 h9; obtain ⟨h91, h92⟩ := h9; go_simp; try with_reducible rfl
          simp only [Act.put, ptA, ptB, ptC]
          have hz0 := H6.out.rd.take n
          rw [HZP.out] at hz0
          have HZ0 := Lib.hid hz0
          clear hz0
          refine tc 8 rfl (by kernel_rfl) (fun K9 hK => ?_)
          go_simp
          with_reducible refine (tput_p H6.out HT.out av n cv bs HN.out (by omega) HBY.out HZ0.out c).mono ?_
          rintro e z1 ⟨rfl, q⟩
          have H61 := Lib.hid q
          clear q H6 HZ0
          go_simp
          refine hK.out _ _ ⟨H61.out.box 1, H61.out.box 2⟩ (fun g1 => ?_)
          clear hK K9 g
          have g := g1
          clear g1
          refine tc 14 rfl (by kernel_rfl) (fun K9 hK => ?_)
          go_simp
          with_reducible refine (tput_r H61.out HT.out ax n cx bs HN.out (by omega) HBY.out HRD.out c).mono ?_
          rintro e z2 ⟨rfl, q⟩
          have H7 := Lib.hid q
          have HT2 := Lib.hid (HT.out.putT bs HBY.out c)
          clear q H61
          go_simp
          refine hK.out _ _ ⟨H7.out.box 1, H7.out.box 2⟩ (fun g1 => ?_)
          clear hK K9 g
          have g := g1
          clear g1
          obtain ⟨T2, hT2⟩ : ∃ T2, (putT T K M bs c).2 = T2 := ⟨_, rfl⟩
          rw [hT2] at H7 HT2
          clear hT2
          generalize (putT T K M bs c).1 = er at *
          refine tq 15 ?_ rfl (by kernel_rfl) (fun _ _ _ h => h) (by rfl) g ?_ ?_; rotate_left
          · intro w9 h9; go_simp; try with_reducible rfl
          simp only [Act.put, ptA, ptB, ptC]
          refine tq 16 ?_ rfl (by kernel_rfl) (fun _ _ _ h => h) (by rfl) g ?_ ?_; rotate_left
          · intro w9 h9; go_simp; try with_reducible rfl
          simp only [Act.put, ptA, ptB, ptC]
          refine wpAnyH_done (by kernel_rfl) ?_ _
          clear g
          have b2 := H7.out.box 2
          simp only [List.getElem?_toArray, List.getElem?_cons_zero, List.getElem?_cons_succ] at b2
          go_wp2_with fail
          have hz1 := H7.out.rd
          with_reducible refine (keptb_any av ax n (n + 5) cv cx bs rfl HN.out (by omega) (by omega) _ hz1 ((HRD.out.below H7.out.below).mono H7.out.below.size)).mono ?_
          rintro e z3 ⟨rfl, q⟩
          have H8 := Lib.hid (H7.out.grow q)
          clear q H7 hz1 b2
          go_wp2_with fail
          with_reducible refine (tspoil H8.out (by rw [HZL.out]; omega)).mono ?_
          rintro e z4 ⟨rfl, q⟩
          have H9 := Lib.hid q
          clear q H8
          go_wp2_with fail
          with_reducible refine (tkeys_p H9.out HT2.out).mono ?_
          rintro e z5 ⟨ka, kc, rfl, q⟩
          have H10 := Lib.hid q
          clear q H9
          go_wp2_with fail
          with_reducible refine (tlen_p H10.out).mono ?_
          rintro e z' ⟨rfl, rfl⟩
          go_wp2_with fail
          with_reducible refine (tlen_r H10.out HT2.out).mono ?_
          rintro e z6 ⟨rfl, q⟩
          have H11 := Lib.hid q
          clear q H10
          go_wp2_with fail
          with_reducible refine (tkeys_r H11.out HT2.out).mono ?_
          rintro e z7 ⟨ra, rc, rfl, q, qt⟩
          have H12 := Lib.hid q
          have HTX := Lib.hid qt
          have hkl2 := HT2.out.keys_le
          have HKL := Lib.hid hkl2.2
          have hkn := hkl2.1
          clear q qt H11 hkl2
          generalize hG : keysT T2 = G at *
          go_wp2_with fail
          with_reducible refine (sametexts_any ka ra G.length kc rc G rfl hkn HKL.out _ H12.out.txt HTX.out).mono ?_
          rintro e z8 ⟨rfl, q⟩
          have H13 := Lib.hid (H12.out.grow q)
          clear q H12 HTX
          go_wp2_with fail
          with_reducible refine (tspoils H13.out hkn HKL.out).mono ?_
          rintro e z9 ⟨rfl, q⟩
          have H14 := Lib.hid q
          clear q H13 hG
          go_wp2
          go_roundw
          case rel => exact ⟨k + 1, T2, by omega, by go_num, H14, HT2⟩
          case measure => simp [intOf]; omega
        · have z0 : (kd == 0) = false := by rw [beq_eq_false_iff_ne]; exact k0
          by_cases k1 : kd = 1
          · subst k1
            have hz0 := H5.out.rd.take n
            rw [HZP.out] at hz0
            have HZ0 := Lib.hid hz0
            clear hz0
            go_wp2_with fail
            with_reducible refine (tfind_p H5.out HT.out av n cv bs HN.out (by omega) HBY.out HZ0.out).mono ?_
            rintro e z1 ⟨rfl, q⟩
            have H61 := Lib.hid q
            clear q H5 HZ0 b0 b1 b2
            obtain ⟨fv, hfv⟩ : ∃ fv, fdV T (fat T bs) = fv := ⟨_, rfl⟩
            have HFV := Lib.hid hfv
            have b2 := H61.out.box 2
            simp only [List.getElem?_toArray, List.getElem?_cons_zero, List.getElem?_cons_succ] at b2
            obtain ⟨fc, fb, hfe⟩ : ∃ fc fb, fdV T (fat T bs) = .tuple #[.int .i64 fc, .bool fb] := by cases fat T bs <;> exact ⟨_, _, rfl⟩
            rw [hfe]
            have HFE := Lib.hid hfe
            clear hfv HFV hfe
            go_wp2_with fail
            with_reducible refine (tfind_r H61.out HT.out ax n cx bs HN.out (by omega) HBY.out HRD.out).mono ?_
            rintro e z2 ⟨rfl, q⟩
            rw [HFE.out]
            have H7 := Lib.hid q
            have HT2 := HT
            obtain ⟨T2, hT2⟩ : ∃ T2, T = T2 := ⟨_, rfl⟩
            rw [hT2] at H7 HT2
            clear hT2
            clear q H61 b2
            have b2 := H7.out.box 2
            simp only [List.getElem?_toArray, List.getElem?_cons_zero, List.getElem?_cons_succ] at b2
            go_wp2_with fail
            have hz1 := H7.out.rd
            with_reducible refine (keptb_any av ax n (n + 5) cv cx bs rfl HN.out (by omega) (by omega) _ hz1 ((HRD.out.below H7.out.below).mono H7.out.below.size)).mono ?_
            rintro e z3 ⟨rfl, q⟩
            have H8 := Lib.hid (H7.out.grow q)
            clear q H7 hz1 b2
            go_wp2_with fail
            with_reducible refine (tspoil H8.out (by rw [HZL.out]; omega)).mono ?_
            rintro e z4 ⟨rfl, q⟩
            have H9 := Lib.hid q
            clear q H8
            go_wp2_with fail
            with_reducible refine (tkeys_p H9.out HT2.out).mono ?_
            rintro e z5 ⟨ka, kc, rfl, q⟩
            have H10 := Lib.hid q
            clear q H9
            go_wp2_with fail
            with_reducible refine (tlen_p H10.out).mono ?_
            rintro e z' ⟨rfl, rfl⟩
            go_wp2_with fail
            with_reducible refine (tlen_r H10.out HT2.out).mono ?_
            rintro e z6 ⟨rfl, q⟩
            have H11 := Lib.hid q
            clear q H10
            go_wp2_with fail
            with_reducible refine (tkeys_r H11.out HT2.out).mono ?_
            rintro e z7 ⟨ra, rc, rfl, q, qt⟩
            have H12 := Lib.hid q
            have HTX := Lib.hid qt
            have hkl2 := HT2.out.keys_le
            have HKL := Lib.hid hkl2.2
            have hkn := hkl2.1
            clear q qt H11 hkl2
            generalize hG : keysT T2 = G at *
            go_wp2_with fail
            with_reducible refine (sametexts_any ka ra G.length kc rc G rfl hkn HKL.out _ H12.out.txt HTX.out).mono ?_
            rintro e z8 ⟨rfl, q⟩
            have H13 := Lib.hid (H12.out.grow q)
            clear q H12 HTX
            go_wp2_with fail
            with_reducible refine (tspoils H13.out hkn HKL.out).mono ?_
            rintro e z9 ⟨rfl, q⟩
            have H14 := Lib.hid q
            clear q H13 hG
            go_wp2
            go_roundw
            case rel => exact ⟨k + 1, T2, by omega, by go_num, H14, HT2⟩
            case measure => simp [intOf]; omega
          · have z1 : (kd == 1) = false := by rw [beq_eq_false_iff_ne]; exact k1
            by_cases k2 : kd = 2
            · subst k2
              have hz0 := H5.out.rd.take n
              rw [HZP.out] at hz0
              have HZ0 := Lib.hid hz0
              clear hz0
              go_wp2_with fail
              with_reducible refine (tdel_p H5.out HT.out av n cv bs HN.out (by omega) HBY.out HZ0.out).mono ?_
              rintro e z1 ⟨rfl, q⟩
              have H61 := Lib.hid q
              clear q H5 HZ0 b0 b1 b2
              obtain ⟨fv, hfv⟩ : ∃ fv, fdV T (fat T bs) = fv := ⟨_, rfl⟩
              have HFV := Lib.hid hfv
              have b2 := H61.out.box 2
              simp only [List.getElem?_toArray, List.getElem?_cons_zero, List.getElem?_cons_succ] at b2
              obtain ⟨fc, fb, hfe⟩ : ∃ fc fb, fdV T (fat T bs) = .tuple #[.int .i64 fc, .bool fb] := by cases fat T bs <;> exact ⟨_, _, rfl⟩
              rw [hfe]
              have HFE := Lib.hid hfe
              clear hfv HFV hfe
              go_wp2_with fail
              with_reducible refine (tdel_r H61.out HT.out ax n cx bs HN.out (by omega) HBY.out HRD.out).mono ?_
              rintro e z2 ⟨rfl, q⟩
              rw [HFE.out]
              have H7 := Lib.hid q
              have HT2 := Lib.hid (HT.out.delT bs)
              obtain ⟨T2, hT2⟩ : ∃ T2, delT T (fat T bs) = T2 := ⟨_, rfl⟩
              rw [hT2] at H7 HT2
              clear hT2
              clear q H61 b2
              have b2 := H7.out.box 2
              simp only [List.getElem?_toArray, List.getElem?_cons_zero, List.getElem?_cons_succ] at b2
              go_wp2_with fail
              have hz1 := H7.out.rd
              with_reducible refine (keptb_any av ax n (n + 5) cv cx bs rfl HN.out (by omega) (by omega) _ hz1 ((HRD.out.below H7.out.below).mono H7.out.below.size)).mono ?_
              rintro e z3 ⟨rfl, q⟩
              have H8 := Lib.hid (H7.out.grow q)
              clear q H7 hz1 b2
              go_wp2_with fail
              with_reducible refine (tspoil H8.out (by rw [HZL.out]; omega)).mono ?_
              rintro e z4 ⟨rfl, q⟩
              have H9 := Lib.hid q
              clear q H8
              go_wp2_with fail
              with_reducible refine (tkeys_p H9.out HT2.out).mono ?_
              rintro e z5 ⟨ka, kc, rfl, q⟩
              have H10 := Lib.hid q
              clear q H9
              go_wp2_with fail
              with_reducible refine (tlen_p H10.out).mono ?_
              rintro e z' ⟨rfl, rfl⟩
              go_wp2_with fail
              with_reducible refine (tlen_r H10.out HT2.out).mono ?_
              rintro e z6 ⟨rfl, q⟩
              have H11 := Lib.hid q
              clear q H10
              go_wp2_with fail
              with_reducible refine (tkeys_r H11.out HT2.out).mono ?_
              rintro e z7 ⟨ra, rc, rfl, q, qt⟩
              have H12 := Lib.hid q
              have HTX := Lib.hid qt
              have hkl2 := HT2.out.keys_le
              have HKL := Lib.hid hkl2.2
              have hkn := hkl2.1
              clear q qt H11 hkl2
              generalize hG : keysT T2 = G at *
              go_wp2_with fail
              with_reducible refine (sametexts_any ka ra G.length kc rc G rfl hkn HKL.out _ H12.out.txt HTX.out).mono ?_
              rintro e z8 ⟨rfl, q⟩
              have H13 := Lib.hid (H12.out.grow q)
              clear q H12 HTX
              go_wp2_with fail
              with_reducible refine (tspoils H13.out hkn HKL.out).mono ?_
              rintro e z9 ⟨rfl, q⟩
              have H14 := Lib.hid q
              clear q H13 hG
              go_wp2
              go_roundw
              case rel => exact ⟨k + 1, T2, by omega, by go_num, H14, HT2⟩
              case measure => simp [intOf]; omega
            · have z2 : (kd == 2) = false := by rw [beq_eq_false_iff_ne]; exact k2
              have H7 := H5
              have HT2 := HT
              obtain ⟨T2, hT2⟩ : ∃ T2, T = T2 := ⟨_, rfl⟩
              rw [hT2] at H7 HT2
              clear hT2 H5
              go_wp2_with fail
              have hz1 := H7.out.rd
              with_reducible refine (keptb_any av ax n (n + 5) cv cx bs rfl HN.out (by omega) (by omega) _ hz1 ((HRD.out.below H7.out.below).mono H7.out.below.size)).mono ?_
              rintro e z3 ⟨rfl, q⟩
              have H8 := Lib.hid (H7.out.grow q)
              clear q H7 hz1 b2
              go_wp2_with fail
              with_reducible refine (tspoil H8.out (by rw [HZL.out]; omega)).mono ?_
              rintro e z4 ⟨rfl, q⟩
              have H9 := Lib.hid q
              clear q H8
              go_wp2_with fail
              with_reducible refine (tkeys_p H9.out HT2.out).mono ?_
              rintro e z5 ⟨ka, kc, rfl, q⟩
              have H10 := Lib.hid q
              clear q H9
              go_wp2_with fail
              with_reducible refine (tlen_p H10.out).mono ?_
              rintro e z' ⟨rfl, rfl⟩
              go_wp2_with fail
              with_reducible refine (tlen_r H10.out HT2.out).mono ?_
              rintro e z6 ⟨rfl, q⟩
              have H11 := Lib.hid q
              clear q H10
              go_wp2_with fail
              with_reducible refine (tkeys_r H11.out HT2.out).mono ?_
              rintro e z7 ⟨ra, rc, rfl, q, qt⟩
              have H12 := Lib.hid q
              have HTX := Lib.hid qt
              have hkl2 := HT2.out.keys_le
              have HKL := Lib.hid hkl2.2
              have hkn := hkl2.1
              clear q qt H11 hkl2
              generalize hG : keysT T2 = G at *
              go_wp2_with fail
              with_reducible refine (sametexts_any ka ra G.length kc rc G rfl hkn HKL.out _ H12.out.txt HTX.out).mono ?_
              rintro e z8 ⟨rfl, q⟩
              have H13 := Lib.hid (H12.out.grow q)
              clear q H12 HTX
              go_wp2_with fail
              with_reducible refine (tspoils H13.out hkn HKL.out).mono ?_
              rintro e z9 ⟨rfl, q⟩
              have H14 := Lib.hid q
              clear q H13 hG
              go_wp2
              go_roundw
              case rel => exact ⟨k + 1, T2, by omega, by go_num, H14, HT2⟩
              case measure => simp [intOf]; omega
      · have i1 : ¬ (k : Int) < (len2 : Int) := by omega
        go_wp2_with fail
        with_reducible refine (tkeys_p H3.out HT.out).mono ?_
        rintro e w6 ⟨ka, kc, rfl, q⟩
        have H4 := Lib.hid q
        clear q H3
        go_wp2_with fail
        with_reducible refine (tkeys_r H4.out HT.out).mono ?_
        rintro e w7 ⟨ra, rc, rfl, q, qt⟩
        have H5 := Lib.hid q
        have HTX := Lib.hid qt
        have hkl2 := HT.out.keys_le
        have HKL := Lib.hid hkl2.2
        have hkn := hkl2.1
        clear q qt H4 hkl2
        obtain ⟨G, hG⟩ : ∃ G, keysT T = G := ⟨_, rfl⟩
        rw [hG] at HKL hkn HTX H5 ⊢
        clear hG
        go_wp2_with fail
        with_reducible refine (sametexts_any ka ra G.length kc rc G rfl hkn HKL.out _ H5.out.txt HTX.out).mono ?_
        rintro e w8 ⟨rfl, q⟩
        have HB8 := Lib.hid (H5.out.below.trans (q.mono H5.out.below.size))
        clear q H5 HTX
        go_wp2_with fail
        with_reducible refine (works_c _).mono ?_
        rintro e w9 ⟨rfl, q⟩
        have HB9 := Lib.hid (HB8.out.trans (q.mono HB8.out.size))
        clear q
        go_wp2
        go_ret
        exact ⟨rfl, HB9.out⟩

set_option maxRecDepth 100000 in
theorem lifted (os : Os) (started : os.Started) (H : Type) (enc : TypeId × Value → H) :
    ReturnsInHanded {} Try.checked os 4 .any (Rows.hashRunsSpec.pre6 enc Try.prog Try.f4 Rows.hashRunsRow.domain false) (Rows.hashRunsSpec.post enc Try.prog Try.f4 false true false false) := by
  refine returnsInHanded_of_change (C := Try.checked) own started (by kernel_rfl) Try.func4
    (ChangeSpec.witness6 (enc := enc) (C := Try.checked) false ⟨#[], #[.int .i64 0, .int .i64 0, .slice none 0 0], []⟩ 8 (by kernel_rfl) (by kernel_rfl) (by kernel_rfl) (by kernel_rfl)) ?_
  intro W base args ds gs before hval0 hW hcnd _
  have hval : ∀ (j : Nat) t v, Try.f4.params[j]? = some t → args[j]? = some v → Value.okWide Try.prog W .any base t v := hval0
  have hW' := hW
  obtain ⟨p, q, hA0, hV, rfl, hfz, hnd⟩ := hW
  have hA : DataW.TrodAll enc Try.prog W 0 (fun _ => true) true Try.f4.params.toList args.toList ds p := hA0
  rw [Try.params4] at hA hval
  obtain ⟨v0, vs0, d0, ds0, p0, q0, hargs, rfl, rfl, h0, r0⟩ := trodAll_cons hA
  obtain ⟨v1, vs1, d1, ds1, p1, q1, rfl, rfl, rfl, h1, r1⟩ := trodAll_cons r0
  obtain ⟨v2, vs2, d2, ds2, p2, q2, rfl, rfl, rfl, h2, r2⟩ := trodAll_cons r1
  obtain ⟨rfl, rfl, rfl⟩ := trodAll_nil r2
  obtain rfl : args = #[v0, v1, v2] := by cases args; simp_all
  obtain ⟨rfl, rfl⟩ := trodVars_none hV
  obtain ⟨n0, rfl, rfl, rfl, w0⟩ := open_int Try.underlying3 (hval 0 3 v0 rfl rfl) h0
  obtain ⟨n1, rfl, rfl, rfl, w1⟩ := open_int Try.underlying3 (hval 1 3 v1 rfl rfl) h1
  obtain ⟨a2, len2, cap2, rfl⟩ := okWide_slice Try.underlying29 (hval 2 29 v2 rfl rfl)
  have k2 := h2
  have lt2 : ∀ x ∈ p2, x.block < W.heap.size := by obtain ⟨m, hm⟩ := k2; exact DataW.trod_lt m _ _ _ hm
  obtain ⟨L2, l2, f2, c2, m2, rr2⟩ := open_ops h2
  clear hA0 hval0
  refine (walk n0 n1 a2 len2 cap2 L2 W w0 w1 l2 f2 c2 m2 rr2).mono fun e W' ⟨he, bel⟩ => ?_
  subst he
  exact ⟨_, rfl, _, _, _, [], _, [], hW', trodAll_mk1 (shut_bool Try.underlying4 _), (trodAll_cons_mk (shut_int Try.underlying3 w0) (trodAll_cons_mk (shut_int Try.underlying3 w1) (trodAll_cons_mk (Below.trod laidOut (by kernel_rfl) (of_decide_eq_true (by kernel_rfl)) k2 bel lt2) trodAll_mk0))), rfl, bel.frame _, fun h => by cases h⟩

theorem over : Rows.hashRunsRow.holds Try.pinned (OpenSpec.ofChange Rows.hashRunsSpec) :=
  OpenClaim.holds_of_wide 4 Try.f4 rfl rfl rfl rfl rfl rfl rfl ⟨rfl, rfl, rfl, rfl, rfl⟩ rfl rfl rfl rfl rfl (by kernel_rfl) Try.func4 (by kernel_rfl)
    (of_decide_eq_true (by kernel_rfl)) (by unfold Func.isWrapper; first | (rw [if_pos (by decide +kernel)]; kernel_rfl) | (rw [if_neg (by decide +kernel)]; exact ⟨rfl, rfl⟩))
    (fun os started H enc _ => lifted os started H enc)

theorem proved : Rows.HashRunsSaid := over
#print axioms proved
end Go.Proofs.Ytkaapphlnolelaa.hashRuns
