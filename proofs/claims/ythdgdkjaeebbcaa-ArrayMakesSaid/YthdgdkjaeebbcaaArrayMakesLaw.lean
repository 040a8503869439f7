/-
  Layer 9, ArrayMakes: arrays of any sizes, one behind the other, with one set of cells: their places, and the cells, are what the document says. No conditions.
-/
import Derived.Test.YthdgdkjaeebbcaaRows
import Derived.Test.YthdgdkjaeebbcaaArrayBoth
import Derived.Test.YthdgdkjaeebbcaaArrayOpen
import Derived.Deep.DeepCutAuto
import Derived.WalkKit
import Derived.ProofKit
import Derived.OpenShut
import Derived.ChangeOld
import Derived.Below
namespace Go.Proofs.Ythdgdkjaeebbcaa.arrayMakes
open Go.ChangeShapes Go.WideShapes Go.ChangeAt Go.RowKit Ow Ph Ro K2
set_option linter.unusedVariables false
set_option linter.unusedSimpArgs false
attribute [local go_sem] run_store_complex

theorem own : ownKnob Try.prog.godebug = none := by kernel_rfl
theorem laidOut : laidOutB Try.prog = true := by kernel_rfl

theorem lv_le9 (L : List Cl) : lv L ≤ L.length := by unfold lv; exact List.countP_le_length

set_option maxRecDepth 100000 in
set_option maxHeartbeats 4000000 in
theorem walk (a0 : Option Addr) (len0 cap0 : Nat) (L0 : List Qn) (n1 : Int) (w : World) (l0 : L0.length = len0) (f0 : ∀ x ∈ L0, x.fits) (c0 : len0 ≤ cap0) (m0 : cap0 ≤ 9223372036854775807) (r0 : Rd w w.heap.size a0 (qv L0)) (w1 : (Lit.int .i64 n1).wf = true) :
    Calls Try.prog 8 #[.slice a0 len0 cap0, .int .i64 n1] w fun e w' => e = .returned (.bool true) ∧ Below w.heap.size w w' := by
  have AT := Lib.hid (bounds_i64 w1)
  clear w1
  have RR := Lib.hid r0
  have HL := Lib.hid l0
  have HF := Lib.hid f0
  have HB0 := Lib.hid (Below.refl w.heap.size w)
  clear r0 l0 f0
  generalize n1 = at1 at *
  go_enter Try.func8, Try.ntmps8
  go_wp2_with fail
  with_reducible refine (new_h HB0.out).mono ?_
  rintro er w4 ⟨P, rfl, h0⟩
  have H0 := Lib.hid h0
  clear h0
  go_wp2_with fail
  with_reducible refine (rnew_h H0.out).mono ?_
  rintro er w5 ⟨X, rfl, h1⟩
  have H1 := Lib.hid h1
  clear h1 H0
  go_wp2_with fail
  go_loopw [7] (fun i wr => ∃ (k : Nat) (L : List Cl), k ≤ 8 ∧ k ≤ len0 ∧ i = .int .i64 k ∧ Hid (Two w P X L wr) ∧ Hid (ZL L) ∧ Hid (L.length ≤ 64 * k)) (fun i _ => 8 - (intOf i).toNat)
  case atStart => exact ⟨0, [], by omega, by omega, rfl, H1, Lib.hid ZL.nil, Lib.hid (by simp)⟩
  case round =>
    obtain ⟨k, L, hk, hkl, rfl, H2, ZLk, LEk⟩ := hrel
    clear H1
    have hle := LEk.out
    obtain ⟨b, hb⟩ : ∃ b, L.length = b := ⟨_, rfl⟩
    have LEN := Lib.hid hb
    rw [hb] at hle
    clear hb LEk
    by_cases hlt : k < len0
    · by_cases hl8 : k < 8
      · have hkx : k < L0.length := by rw [HL.out]; exact hlt
        obtain ⟨ad, rfl, hq1, hq2⟩ := (RR.out.below H2.out.below) (by rw [qv_len]; omega)
        clear hq1 hq2
        have HC0 : Hid (∀ z, Below w.heap.size w z → ∀ r, r < 2 → z.cell? (ad.add (2 * k + r)) = L0[k].cells[r]?) := Lib.hid (fun z hz r hr => by
          obtain ⟨ad', e, _, hc5⟩ := (RR.out.below hz) (by rw [qv_len]; omega)
          injection e with e
          subst e
          have h5 := qv_get L0 k r hkx hr
          rw [hc5 _ _ (h5.trans (List.getElem?_eq_getElem hr)), List.getElem?_eq_getElem (show r < L0[k].cells.length from hr)]
          rfl)
        have hfx := HF.out _ (List.getElem_mem hkx)
        generalize L0[k] = x at *
        obtain ⟨m, s⟩ := x
        obtain ⟨hm, hs⟩ := hfx
        dsimp only at hm hs
        have HM := Lib.hid hm
        have HS := Lib.hid hs
        have HC : Hid (∀ z, Below w.heap.size w z → z.cell? (ad.add (k * 2)) = some (.int .i64 m) ∧ z.cell? ⟨(ad.add (k * 2)).block, (ad.add (k * 2)).off + 1, none⟩ = some (.int .i64 s)) := Lib.hid (fun z hz => ⟨by rw [Nat.mul_comm]; exact HC0.out z hz 0 (by omega), by rw [Nat.mul_comm k 2, add_next _ _ _ (by omega)]; exact HC0.out z hz 1 (by omega)⟩)
        obtain ⟨n, hn⟩ : ∃ n, cl64 m = n := ⟨_, rfl⟩
        obtain ⟨sz, hsz⟩ : ∃ sz, cl64 s = sz := ⟨_, rfl⟩
        have n1 := cl64_ge m
        have n2 := cl64_le m
        have s1 := cl64_ge s
        have s2 := cl64_le s
        rw [hn] at n1 n2
        rw [hsz] at s1 s2
        have HN := Lib.hid hn
        have HSZ := Lib.hid hsz
        have LE1 : Hid ((L ++ List.replicate n (zc sz)).length ≤ 900) := Lib.hid (by rw [List.length_append, List.length_replicate, LEN.out]; omega)
        have LE8 : Hid ((L ++ List.replicate n (zc sz)).length ≤ 64 * (k + 1)) := Lib.hid (by rw [List.length_append, List.length_replicate, LEN.out]; omega)
        have ZL1 : Hid (ZL (L ++ List.replicate n (zc sz))) := Lib.hid (ZLk.out.app n sz s2)
        have OK1 : Hid (OkL 900 (L ++ List.replicate n (zc sz))) := Lib.hid (ZL1.out.ok LE1.out)
        have HLV := Lib.hid (live_is OK1.out)
        clear hm hs hn hsz hkx HC0
        have i1 : (k : Int) < (len0 : Int) := by omega
        have i2 : (k : Int) < 8 := by omega
        have i3 : (0 : Int) ≤ (k : Int) := by omega
        go_wp2_with fail
        refine wp_region_held_drew (S := fun w' => w'.cell? (ad.add (k * 2)) = some (.int .i64 m) ∧ w'.cell? ⟨(ad.add (k * 2)).block, (ad.add (k * 2)).off + 1, none⟩ = some (.int .i64 s)) (by kernel_rfl) (HC.out _ H2.out.below.drew) (fun g => ?_)
        have H3 := Lib.hid H2.out.drew
        clear H2
        generalize wr.drew = z at *
        clear wr
        refine tq 0 ?_ rfl (by kernel_rfl) (fun _ _ _ h => h) (by rfl) g ?_ ?_; rotate_left
        · intro w9 h9; obtain ⟨d0, d1⟩ := h9; go_simp; try with_reducible rfl
        simp only [Act.put, ptA, ptB, ptC]
        refine tq 1 ?_ rfl (by kernel_rfl) (fun _ _ _ h => h) (by rfl) g ?_ ?_; rotate_left
        · intro w9 h9; obtain ⟨d0, d1⟩ := h9; go_simp; try with_reducible rfl
        simp only [Act.put, ptA, ptB, ptC]
        refine tq 2 ?_ rfl (by kernel_rfl) (fun _ _ _ h => h) (by rfl) g ?_ ?_; rotate_left
        · intro w9 h9; obtain ⟨d0, d1⟩ := h9; go_simp; try with_reducible rfl
        simp only [Act.put, ptA, ptB, ptC]
        refine tq 3 ?_ rfl (by kernel_rfl) (fun _ _ _ h => h) (by rfl) g ?_ ?_; rotate_left
        · intro w9 h9; obtain ⟨d0, d1⟩ := h9; go_simp; try with_reducible rfl
        simp only [Act.put, ptA, ptB, ptC]
        refine tq 4 ?_ rfl (by kernel_rfl) (fun _ _ _ h => h) (by rfl) g ?_ ?_; rotate_left
        · intro w9 h9; obtain ⟨d0, d1⟩ := h9; go_simp; try with_reducible rfl
        simp only [Act.put, ptA, ptB, ptC]
        refine tq 5 ?_ rfl (by kernel_rfl) (fun _ _ _ h => h) (by rfl) g ?_ ?_; rotate_left
        · intro w9 h9; obtain ⟨d0, d1⟩ := h9; go_simp; try with_reducible rfl
        simp only [Act.put, ptA, ptB, ptC]
        refine tq 6 ?_ rfl (by kernel_rfl) (fun _ _ _ h => h) (by rfl) g ?_ ?_; rotate_left
        · intro w9 h9; obtain ⟨d0, d1⟩ := h9; go_simp; try with_reducible rfl
        simp only [Act.put, ptA, ptB, ptC]
        refine tq 7 ?_ rfl (by kernel_rfl) (fun _ _ _ h => h) (by rfl) g ?_ ?_; rotate_left
        · intro w9 h9; obtain ⟨d0, d1⟩ := h9; go_simp; try with_reducible rfl
        simp only [Act.put, ptA, ptB, ptC]
        refine tq 8 ?_ rfl (by kernel_rfl) (fun _ _ _ h => h) (by rfl) g ?_ ?_; rotate_left
        · intro w9 h9; obtain ⟨d0, d1⟩ := h9; go_simp; try with_reducible rfl
        simp only [Act.put, ptA, ptB, ptC]
        refine tq 9 ?_ rfl (by kernel_rfl) (fun _ _ _ h => h) (by rfl) g ?_ ?_; rotate_left
        · intro w9 h9; obtain ⟨d0, d1⟩ := h9; go_simp; try with_reducible rfl
        simp only [Act.put, ptA, ptB, ptC]
        refine tq 10 ?_ rfl (by kernel_rfl) (fun _ _ _ h => h) (by rfl) g ?_ ?_; rotate_left
        · intro w9 h9; obtain ⟨d0, d1⟩ := h9; go_simp; try with_reducible rfl
        simp only [Act.put, ptA, ptB, ptC]
        refine tc 11 rfl (by kernel_rfl) (fun K9 hK => ?_)
        go_simp
        with_reducible refine (arrnew_t H3.out (by rw [LEN.out]; omega) m s HM.out HS.out n sz HN.out HSZ.out).mono ?_
        rintro er z1 ⟨G, rfl, h4⟩
        rw [LEN.out] at h4
        have H4 := Lib.hid h4
        clear h4
        have gS := HC.out _ H4.out.below
        go_simp
        refine hK.out _ _ gS (fun g1 => ?_)
        clear hK K9 g
        have g := g1
        clear g1
        clear gS
        clear H3 z
        refine tq 12 ?_ rfl (by kernel_rfl) (fun _ _ _ h => h) (by rfl) g ?_ ?_; rotate_left
        · intro w9 h9; obtain ⟨d0, d1⟩ := h9; go_simp; try with_reducible rfl
        simp only [Act.put, ptA, ptB, ptC]
        clear g
        refine wpAnyH_done (by kernel_rfl) ?_ _
        go_wp2_with fail
        refine wp_region_held_drew (S := fun w' => w'.cell? (ad.add (k * 2)) = some (.int .i64 m) ∧ w'.cell? ⟨(ad.add (k * 2)).block, (ad.add (k * 2)).off + 1, none⟩ = some (.int .i64 s)) (by kernel_rfl) (HC.out _ H4.out.below.drew) (fun g => ?_)
        have H5 := Lib.hid H4.out.drew
        clear H4
        generalize z1.drew = z at *
        clear z1
        refine tq 0 ?_ rfl (by kernel_rfl) (fun _ _ _ h => h) (by rfl) g ?_ ?_; rotate_left
        · intro w9 h9; obtain ⟨d0, d1⟩ := h9; go_simp; try with_reducible rfl
        simp only [Act.put, ptA, ptB, ptC]
        refine tq 1 ?_ rfl (by kernel_rfl) (fun _ _ _ h => h) (by rfl) g ?_ ?_; rotate_left
        · intro w9 h9; obtain ⟨d0, d1⟩ := h9; go_simp; try with_reducible rfl
        simp only [Act.put, ptA, ptB, ptC]
        refine tq 2 ?_ rfl (by kernel_rfl) (fun _ _ _ h => h) (by rfl) g ?_ ?_; rotate_left
        · intro w9 h9; obtain ⟨d0, d1⟩ := h9; go_simp; try with_reducible rfl
        simp only [Act.put, ptA, ptB, ptC]
        refine tq 3 ?_ rfl (by kernel_rfl) (fun _ _ _ h => h) (by rfl) g ?_ ?_; rotate_left
        · intro w9 h9; obtain ⟨d0, d1⟩ := h9; go_simp; try with_reducible rfl
        simp only [Act.put, ptA, ptB, ptC]
        refine tq 4 ?_ rfl (by kernel_rfl) (fun _ _ _ h => h) (by rfl) g ?_ ?_; rotate_left
        · intro w9 h9; obtain ⟨d0, d1⟩ := h9; go_simp; try with_reducible rfl
        simp only [Act.put, ptA, ptB, ptC]
        refine tq 5 ?_ rfl (by kernel_rfl) (fun _ _ _ h => h) (by rfl) g ?_ ?_; rotate_left
        · intro w9 h9; obtain ⟨d0, d1⟩ := h9; go_simp; try with_reducible rfl
        simp only [Act.put, ptA, ptB, ptC]
        refine tq 6 ?_ rfl (by kernel_rfl) (fun _ _ _ h => h) (by rfl) g ?_ ?_; rotate_left
        · intro w9 h9; obtain ⟨d0, d1⟩ := h9; go_simp; try with_reducible rfl
        simp only [Act.put, ptA, ptB, ptC]
        refine tq 7 ?_ rfl (by kernel_rfl) (fun _ _ _ h => h) (by rfl) g ?_ ?_; rotate_left
        · intro w9 h9; obtain ⟨d0, d1⟩ := h9; go_simp; try with_reducible rfl
        simp only [Act.put, ptA, ptB, ptC]
        refine tq 8 ?_ rfl (by kernel_rfl) (fun _ _ _ h => h) (by rfl) g ?_ ?_; rotate_left
        · intro w9 h9; obtain ⟨d0, d1⟩ := h9; go_simp; try with_reducible rfl
        simp only [Act.put, ptA, ptB, ptC]
        refine tq 9 ?_ rfl (by kernel_rfl) (fun _ _ _ h => h) (by rfl) g ?_ ?_; rotate_left
        · intro w9 h9; obtain ⟨d0, d1⟩ := h9; go_simp; try with_reducible rfl
        simp only [Act.put, ptA, ptB, ptC]
        refine tq 10 ?_ rfl (by kernel_rfl) (fun _ _ _ h => h) (by rfl) g ?_ ?_; rotate_left
        · intro w9 h9; obtain ⟨d0, d1⟩ := h9; go_simp; try with_reducible rfl
        simp only [Act.put, ptA, ptB, ptC]
        refine tc 11 rfl (by kernel_rfl) (fun K9 hK => ?_)
        go_simp
        with_reducible refine (rarrnew_t H5.out LEN.out (by omega) m s HM.out HS.out HN.out HSZ.out).mono ?_
        rintro er z1 ⟨G2, rfl, h6⟩
        have H6 := Lib.hid h6
        clear h6
        have gS := HC.out _ H6.out.below
        go_simp
        refine hK.out _ _ gS (fun g1 => ?_)
        clear hK K9 g
        have g := g1
        clear g1
        clear gS
        clear H5 z
        refine tq 12 ?_ rfl (by kernel_rfl) (fun _ _ _ h => h) (by rfl) g ?_ ?_; rotate_left
        · intro w9 h9; obtain ⟨d0, d1⟩ := h9; go_simp; try with_reducible rfl
        simp only [Act.put, ptA, ptB, ptC]
        clear g
        refine wpAnyH_done (by kernel_rfl) ?_ _
        have hll : lv (L ++ List.replicate n (zc sz)) ≤ 900 := by have := lv_le9 (L ++ List.replicate n (zc sz)); have := LE1.out; omega
        generalize (L ++ List.replicate n (zc sz)) = L1 at *
        obtain ⟨lv1, hlv1⟩ : ∃ q, lv L1 = q := ⟨_, rfl⟩
        have HLW := Lib.hid hlv1
        rw [hlv1] at hll
        clear hlv1
        go_wp2_with fail
        with_reducible refine (four_len H6.out n (by rw [List.length_range'])).mono ?_
        rintro er w' ⟨rfl, rfl⟩
        go_wp2_with fail
        with_reducible refine (four_rlen H6.out n (by rw [List.length_range'])).mono ?_
        rintro er w' ⟨rfl, rfl⟩
        go_wp2_with fail
        with_reducible refine (live_h H6.out.has LE1.out (lv1 : Int) (by rw [HLV.out, HLW.out])).mono ?_
        rintro er w5 ⟨rfl, q⟩
        have H7 := Lib.hid (H6.out.grow q)
        clear q H6
        go_wp2_with fail
        with_reducible refine (four_rlive H7.out LE1.out (lv1 : Int) (by rw [HLW.out])).mono ?_
        rintro er w' ⟨rfl, rfl⟩
        obtain ⟨r, hr⟩ : ∃ r, cellA (List.range' (b + 1) n) at1 = r := ⟨_, rfl⟩
        have HR := Lib.hid hr
        clear hr
        obtain ⟨x, ok⟩ := r
        have hxn : (x == x) = true := by simp
        have hokn : (ok == ok) = true := by simp
        go_wp2_with fail
        with_reducible refine (four_cell H7.out at1 (i64_s _ AT.out.1 AT.out.2) x ok HR.out).mono ?_
        rintro er w' ⟨rfl, rfl⟩
        go_wp2_with fail
        with_reducible refine (four_rcell H7.out at1 (i64_s _ AT.out.1 AT.out.2) x ok HR.out).mono ?_
        rintro er w' ⟨rfl, rfl⟩
        clear HLV HLW
        go_wp2_with fail
        go_loopw [14] (fun i wr => ∃ j : Int, -1 ≤ j ∧ j ≤ (n : Int) + 1 ∧ i = .int .i64 j ∧ Hid (Four w P X L1 G G2 (List.range' (b + 1) n) wr)) (fun i _ => 100 - (intOf i + 1).toNat)
        case atStart => exact ⟨-1, by omega, by omega, rfl, H7⟩
        case round =>
          obtain ⟨j, hj1, hj2, rfl, H8⟩ := hrel
          clear H7
          have hji := i64_s j (by omega) (by omega)
          by_cases hlt : j ≤ (n : Int)
          · have hbd := cellA_bd b n j
            obtain ⟨r, hr⟩ : ∃ r, cellA (List.range' (b + 1) n) j = r := ⟨_, rfl⟩
            rw [hr] at hbd
            have HR := Lib.hid hr
            clear hr
            obtain ⟨x, ok⟩ := r
            obtain ⟨x1, x2⟩ := hbd
            dsimp only at x1 x2
            have hxi := Lib.hid (i64_s x (by omega) (by omega))
            have hxn : (x == x) = true := by simp
            have hokn : (ok == ok) = true := by simp
            obtain ⟨bs, hbs⟩ : ∃ bs, bsC L1 x = bs := ⟨_, rfl⟩
            have HBS := Lib.hid hbs
            have h64 := bsC_le OK1.out x
            rw [hbs] at h64
            obtain ⟨nb, hnb⟩ : ∃ nb, bs.length = nb := ⟨_, rfl⟩
            have HNB := Lib.hid hnb
            rw [hnb] at h64
            clear hbs hnb
            go_wp2_with fail
            with_reducible refine (four_rlen H8.out n (by rw [List.length_range'])).mono ?_
            rintro er w' ⟨rfl, rfl⟩
            go_wp2_with fail
            with_reducible refine (four_cell H8.out j hji x ok HR.out).mono ?_
            rintro er w' ⟨rfl, rfl⟩
            go_wp2_with fail
            with_reducible refine (four_rcell H8.out j hji x ok HR.out).mono ?_
            rintro er w' ⟨rfl, rfl⟩
            go_wp2_with fail
            with_reducible refine (size_h H8.out.has x).mono ?_
            rintro er w' ⟨rfl, rfl⟩
            obtain ⟨y, hy⟩ : ∃ y, szC L1 x = y := ⟨_, rfl⟩
            rw [hy]
            have HY := Lib.hid hy
            clear hy
            go_wp2_with fail
            with_reducible refine (four_rsize H8.out LE1.out x hxi.out).mono ?_
            rintro er w' ⟨rfl, rfl⟩
            rw [HY.out]
            clear HY
            go_wp2_with fail
            with_reducible refine (four_bytes H8.out OK1.out x nb HBS.out HNB.out).mono ?_
            rintro er w2 ⟨a2, c2, rfl, h9⟩
            have H9 := Lib.hid h9
            clear h9 H8
            go_wp2_with fail
            with_reducible refine (five_rbytes H9.out LE1.out OK1.out x hxi.out HBS.out).mono ?_
            rintro er w3 ⟨v3, rfl, h10⟩
            obtain ⟨a3, c3, rfl, _, _, _⟩ := own_form h10.own
            have RV := Lib.hid (Rd.of_own h10.own)
            rw [HNB.out]
            have H10 := Lib.hid (H9.out.grow h10.below)
            clear h10 H9
            go_wp2_with fail
            with_reducible refine (five_same H10.out HNB.out h64 RV.out).mono ?_
            rintro er w4 ⟨rfl, h11⟩
            have H11 := Lib.hid (H10.out.grow h11).four
            clear h11 H10 RV
            go_wp2
            go_roundw
            case rel => exact ⟨j + 1, by omega, by omega, by go_num, H11⟩
            case measure => simp [intOf]; omega
          · have H11 := Lib.hid H8.out.two
            have H8b := H8
            clear H8
            go_wp2_with fail
            with_reducible refine (four_rlen H8b.out n (by rw [List.length_range'])).mono ?_
            rintro er w' ⟨rfl, rfl⟩
            go_wp2
            go_roundw
            case rel => exact ⟨k + 1, L1, by omega, by omega, by go_num, H11, ZL1, LE8⟩
            case measure => simp [intOf]; omega
      · obtain rfl : k = 8 := by omega
        have i1 : (8 : Int) < (len0 : Int) := by omega
        go_wp2_with fail
        with_reducible refine (known_c _).mono ?_
        rintro er w9 ⟨rfl, q⟩
        have B9 := Lib.hid (H2.out.below.trans (q.mono H2.out.below.size))
        clear q H2
        go_wp2
        go_ret
        exact ⟨rfl, B9.out⟩
    · obtain rfl : k = len0 := by omega
      go_wp2_with fail
      with_reducible refine (known_c _).mono ?_
      rintro er w9 ⟨rfl, q⟩
      have B9 := Lib.hid (H2.out.below.trans (q.mono H2.out.below.size))
      clear q H2
      go_wp2
      go_ret
      exact ⟨rfl, B9.out⟩

set_option maxRecDepth 100000 in
theorem lifted (os : Os) (started : os.Started) (H : Type) (enc : TypeId × Value → H) :
    ReturnsInHanded {} Try.checked os 8 .any (Rows.arrayMakesSpec.pre6 enc Try.prog Try.f8 Rows.arrayMakesRow.domain false) (Rows.arrayMakesSpec.post enc Try.prog Try.f8 false true false false) := by
  refine returnsInHanded_of_change (C := Try.checked) own started (by kernel_rfl) Try.func8
    (ChangeSpec.witness6 (enc := enc) (C := Try.checked) false ⟨#[], #[.slice none 0 0, .int .i64 0], []⟩ 8 (by kernel_rfl) (by kernel_rfl) (by kernel_rfl) (by kernel_rfl)) ?_
  intro W base args ds gs before hval0 hW hcnd _
  have hval : ∀ (j : Nat) t v, Try.f8.params[j]? = some t → args[j]? = some v → Value.okWide Try.prog W .any base t v := hval0
  have hW' := hW
  obtain ⟨p, q, hA0, hV, rfl, hfz, hnd⟩ := hW
  have hA : DataW.TrodAll enc Try.prog W 0 (fun _ => true) true Try.f8.params.toList args.toList ds p := hA0
  rw [Try.params8] at hA hval
  obtain ⟨v0, vs0, d0, ds0, p0, q0, hargs, rfl, rfl, h0, r0⟩ := trodAll_cons hA
  obtain ⟨v1, vs1, d1, ds1, p1, q1, rfl, rfl, rfl, h1, r1⟩ := trodAll_cons r0
  obtain ⟨rfl, rfl, rfl⟩ := trodAll_nil r1
  obtain rfl : args = #[v0, v1] := by cases args; simp_all
  obtain ⟨rfl, rfl⟩ := trodVars_none hV
  obtain ⟨a0, len0, cap0, rfl⟩ := okWide_slice Try.underlying54 (hval 0 54 v0 rfl rfl)
  have k0 := h0
  have lt0 : ∀ x ∈ p0, x.block < W.heap.size := by obtain ⟨m, hm⟩ := k0; exact DataW.trod_lt m _ _ _ hm
  obtain ⟨L0, l0, f0, c0, m0, rr0⟩ := open_asks h0
  obtain ⟨n1, rfl, rfl, rfl, w1⟩ := open_int Try.underlying3 (hval 1 3 v1 rfl rfl) h1
  clear hA0 hval0
  refine (walk a0 len0 cap0 L0 n1 W l0 f0 c0 m0 rr0 w1).mono fun e W' ⟨he, bel⟩ => ?_
  subst he
  exact ⟨_, rfl, _, _, _, [], _, [], hW', trodAll_mk1 (shut_bool Try.underlying4 _), (trodAll_cons_mk (Below.trod laidOut (by kernel_rfl) (of_decide_eq_true (by kernel_rfl)) k0 bel lt0) (trodAll_cons_mk (shut_int Try.underlying3 w1) trodAll_mk0)), rfl, bel.frame _, fun h => by cases h⟩

theorem over : Rows.arrayMakesRow.holds Try.pinned (OpenSpec.ofChange Rows.arrayMakesSpec) :=
  OpenClaim.holds_of_wide 8 Try.f8 rfl rfl rfl rfl rfl rfl rfl ⟨rfl, rfl, rfl, rfl, rfl⟩ rfl rfl rfl rfl rfl (by kernel_rfl) Try.func8 (by kernel_rfl)
    (of_decide_eq_true (by kernel_rfl)) (by unfold Func.isWrapper; first | (rw [if_pos (by decide +kernel)]; kernel_rfl) | (rw [if_neg (by decide +kernel)]; exact ⟨rfl, rfl⟩))
    (fun os started H enc _ => lifted os started H enc)

theorem proved : Rows.ArrayMakesSaid := over
#print axioms proved
end Go.Proofs.Ythdgdkjaeebbcaa.arrayMakes
