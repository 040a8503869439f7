/-
  Layer 11, LruGoes: who goes was used longest ago; a key that is used ahead of each Put stays; nobody else goes than by a Put beyond what may be. No conditions.
-/
import Derived.Test.YthappjbghlifbaaRows
import Derived.Test.YthappjbghlifbaaLruGo
import Derived.Deep.DeepCutAuto
import Derived.IntWalk
import Derived.WalkKit
import Derived.ProofKit
import Derived.OpenShut
import Derived.ChangeOld
import Derived.Below
namespace Go.Proofs.Ythappjbghlifbaa.lruGoes
open Go.ChangeShapes Go.WideShapes Go.ChangeAt Go.RowKit Ow Ro K2
set_option linter.unusedVariables false
set_option linter.unusedSimpArgs false

theorem own : ownKnob Try.prog.godebug = none := by kernel_rfl
theorem laidOut : laidOutB Try.prog = true := by kernel_rfl

theorem bytes_ahead {xs : List Int} {k : Int} (h : ∀ x ∈ xs, 0 ≤ x ∧ x ≤ 255) (hk : 0 ≤ k ∧ k ≤ 255) : ∀ x ∈ aheadL xs k, 0 ≤ x ∧ x ≤ 255 := fun x hx => by
  unfold aheadL at hx
  rcases List.mem_cons.1 hx with rfl | hx
  · exact hk
  · exact h x (List.mem_filter.1 hx).1

set_option maxRecDepth 100000 in
set_option maxHeartbeats 4000000 in
theorem walk (n0 : Int) (a1 : Option Addr) (len1 cap1 : Nat) (L1 : List Int) (n2 : Int) (w : World) (w0 : (Lit.int .i64 n0).wf = true) (l1 : L1.length = len1) (f1 : ∀ b ∈ L1, 0 ≤ b ∧ b ≤ 255) (c1 : len1 ≤ cap1) (m1 : cap1 ≤ 9223372036854775807) (z1 : a1 = none → len1 = 0 ∧ cap1 = 0) (r1 : Rd w w.heap.size a1 (bv L1)) (w2 : (Lit.int .u8 n2).wf = true) :
    Calls Try.prog 4 #[.int .i64 n0, .slice a1 len1 cap1, .int .u8 n2] w fun e w' => e = .returned (.bool true) ∧ Below w.heap.size w w' := by
  have HRL := Lib.hid r1
  have HL := Lib.hid l1
  have HF := Lib.hid f1
  have hpet := bounds_u8 w2
  clear r1 l1 f1 z1 w0 w2
  go_enter Try.func4, Try.ntmps4
  go_wp2_with fail
  refine (pnew_c 0 (Lay.start w) 1 n0).mono ?_
  rintro e w1 ⟨X, rfl, h1⟩
  rw [show max 1 (min 1 (16 : Int)) = 1 by decide] at h1
  have H1 : Hid (GS w X (max 1 (min n0 64)) [] (.slice none 0 0) [] w1) := Lib.hid (by
    obtain ⟨A, l, p, f⟩ := h1
    exact ⟨A, l, p, Row.nil _ _ _ _⟩)
  have hM1 : 1 ≤ max 1 (min n0 64) := by omega
  have hM2 : max 1 (min n0 64) ≤ 64 := by omega
  clear h1
  go_wp2_with fail
  generalize max 1 (min n0 64) = M at *
  have hap : aput 1 M [] [n2] 1000 = (([], 0), 0, [([n2], 1000)]) := by
    unfold aput
    rw [if_pos (show (([n2] : List Int).length : Int) = 1 from rfl), if_neg (by simp [aget]), if_neg (by simp; omega)]
  have HAP := Lib.hid hap
  clear hap
  with_reducible refine ((H1.out.lit n2).put hpet 1000).mono ?_
  rintro e w2 ⟨u, rfl, q⟩
  rw [HAP.out] at q ⊢
  dsimp only at q ⊢
  obtain ⟨ua, uc, rfl⟩ := GSG.none_ q
  have H2 := Lib.hid q.gs
  clear q H1 HAP
  unfold putV
  have H3 : Hid (GS w X M [([n2], 1000)] (.slice (some ⟨w2.heap.size, 0, none⟩) 1 1) [n2] (w2.alloc (.cells #[.int .u8 n2] 5))) := Lib.hid (by
    obtain ⟨A, l, p, r⟩ := H2.out
    refine ⟨_, l.new (82, 0) ((Below.refl _ _).alloc (Nat.le_refl _) _) (Nat.le_refl _) (Bk.new w2 5 #[.int .u8 n2]), p.keep (up_other _ _ _ (by simp)) (up_other _ _ _ (by simp)), ⟨rfl, .inr ⟨w2.heap.size, 1, _, rfl, up_same _ _ _ _, Nat.le_refl _, by unfold maxLen; omega, rfl, rfl⟩⟩⟩)
  have HI3 : Hid (GI M n2 [([n2], 1000)] [n2] ∧ ∀ x ∈ [n2], 0 ≤ x ∧ x ≤ 255) := Lib.hid ⟨GI.start hM1 n2, fun x hx => by rw [List.mem_singleton] at hx; rw [hx]; exact hpet⟩
  clear H2
  go_wp2_with fail
  generalize (w2.alloc (.cells #[.int .u8 n2] 5)) = w3 at *
  go_loopw [8, 9, 10, 11, 12, 13, 14, 15, 16, 17] (fun v8 i _ _ _ _ _ _ _ _ wr => ∃ (k : Nat) (o : KO) (xs : List Int), k ≤ len1 ∧ k ≤ 200 ∧ i = .int .i64 k ∧ Hid (GS w X M o v8 xs wr) ∧ Hid (GI M n2 o xs ∧ ∀ x ∈ xs, 0 ≤ x ∧ x ≤ 255)) (fun _ i _ _ _ _ _ _ _ _ _ => len1 - (intOf i).toNat)
  case atStart => exact ⟨0, _, _, by omega, by omega, rfl, H3, HI3⟩
  case round =>
    obtain ⟨k, o, xs, hkl, hk2, rfl, H4, HI4⟩ := hrel
    clear H3 HI3
    have hxl : xs.length ≤ 64 := by
      have h1 := HI4.out.1.bes.len
      have h2 := HI4.out.1.le
      omega
    obtain ⟨av, cv, rfl, cv1, cv2⟩ := H4.out.form
    by_cases hlt : k < len1 ∧ k < 200
    · obtain ⟨hl1, hl2⟩ := hlt
      have hkx : k < L1.length := by rw [HL.out]; exact hl1
      have hby := HF.out _ (List.getElem_mem hkx)
      obtain ⟨al, rfl, _, hcl⟩ := HRL.out (by rw [bv_len]; omega)
      have HC : Hid (∀ z, Below w.heap.size w z → z.cell? (al.add k) = some (.int .u8 L1[k])) := Lib.hid (fun z hz => by
        obtain ⟨al', e, hb, hc⟩ := (HRL.out.below hz) (by rw [bv_len]; omega)
        injection e with e
        subst e
        exact hc k _ (bv_get L1 k hkx))
      generalize L1[k] = x at *
      clear hcl hkx
      have i1 : (k : Int) < (len1 : Int) := by omega
      have i2 : (k : Int) < 200 := by omega
      have i3 : (0 : Int) ≤ (k : Int) := by omega
      have i5 : IntKind.i64.wrap ((k : Int) + 1) = (k : Int) + 1 := IntWalk.i64_in _ (by omega)
      by_cases hM : 1 < M
      · have i6 : M > 1 := hM
        have hpg := HI4.out.1.pet hM
        have HAH := Lib.hid (HI4.out.1.ahead hM)
        have HAB := Lib.hid (bytes_ahead HI4.out.2 hpet)
        have HPG := Lib.hid hpg
        obtain ⟨n, hn⟩ : ∃ n, xs.length = n := ⟨_, rfl⟩
        have HN := Lib.hid hn
        rw [hn] at H4 hxl cv1 ⊢
        clear hpg hn HI4
        go_wp2_with fail
        with_reducible refine ((H4.out.lit n2).find hpet).mono ?_
        rintro e w4 ⟨rfl, q⟩
        rw [HPG.out]
        have H5 := Lib.hid q
        clear q H4
        unfold agetV
        go_wp2_with fail
        with_reducible refine (H5.out.ahead HN.out (by omega) n2).mono ?_
        rintro e w5 ⟨v5, rfl, q⟩
        have H6 := Lib.hid q
        have HI6 : Hid (GI M n2 (afind o [n2]) (aheadL xs n2) ∧ ∀ x ∈ aheadL xs n2, 0 ≤ x ∧ x ≤ 255) := Lib.hid ⟨HAH.out.1, HAB.out⟩
        have HD : Hid (1 < M → ∃ o1, afind o [n2] = ([n2], 1000) :: o1) := Lib.hid (fun _ => ⟨_, HAH.out.2⟩)
        clear q H5 HAH HAB HPG HN hxl cv1
        generalize afind o [n2] = o1 at *
        generalize aheadL xs n2 = xs1 at *
        have hxl : xs1.length ≤ 64 := by
          have h1 := HI6.out.1.bes.len
          have h2 := HI6.out.1.le
          omega
        obtain ⟨av1, cv1', rfl, cv3, cv4⟩ := H6.out.form
        have HB6 := H6.out.below
        have cx := HC.out _ HB6
        clear HB6
        go_wp2_with fail
        with_reducible refine ((H6.out.lit x).peek hby).mono ?_
        rintro e w6 ⟨rfl, q⟩
        have H7 := Lib.hid q
        clear q H6 cx
        obtain ⟨r, hr⟩ : ∃ r, aget o1 [x] = r := ⟨_, rfl⟩
        have hhas := HI6.out.1.bes.has (k := x)
        rw [hr] at hhas ⊢
        have HRR := Lib.hid hr
        have HHS := Lib.hid hhas
        obtain ⟨n, hn⟩ : ∃ n, xs1.length = n := ⟨_, rfl⟩
        have HN := Lib.hid hn
        rw [hn] at H7 hxl cv3 ⊢
        clear hr hhas hn
        cases r with
        | some cc =>
          unfold agetV
          go_wp2_with fail
          with_reducible refine (has_c _ _ _ xs1 HN.out (by omega) x w6 H7.out.rd).mono ?_
          rintro e w7 ⟨bb, rfl, hbb, rfl⟩
          obtain rfl : bb = true := hbb.2 (HHS.out.1 rfl)
          clear hbb
          go_wp2_with fail
          with_reducible refine ((H7.out.lit x).find hby).mono ?_
          rintro e w8 ⟨rfl, q⟩
          rw [HRR.out]
          have H8 := Lib.hid q
          clear q H7
          unfold agetV
          go_wp2_with fail
          with_reducible refine (H8.out.ahead HN.out (by omega) x).mono ?_
          rintro e w9 ⟨v9, rfl, q⟩
          have H9 := Lib.hid q
          have HI9 : Hid (GI M n2 (afind o1 [x]) (aheadL xs1 x) ∧ ∀ y ∈ aheadL xs1 x, 0 ≤ y ∧ y ≤ 255) := Lib.hid ⟨HI6.out.1.find (HHS.out.1 rfl), bytes_ahead HI6.out.2 hby⟩
          clear q H8
          go_wp2
          go_roundw
          case rel => exact ⟨k + 1, _, _, by omega, by omega, by go_num, H9, HI9⟩
          case measure => simp [intOf]; omega
        | none =>
          have hno : ¬ x ∈ xs1 := fun h => by have := HHS.out.2 h; cases this
          have HNO := Lib.hid hno
          unfold agetV
          go_wp2_with fail
          with_reducible refine (has_c _ _ _ xs1 HN.out (by omega) x w6 H7.out.rd).mono ?_
          rintro e w7 ⟨bb, rfl, hbb, rfl⟩
          obtain rfl : bb = false := by
            cases bb with
            | false => rfl
            | true => exact absurd (hbb.1 rfl) hno
          clear hbb hno
          have hol : o1.length = n := HI6.out.1.bes.len.trans HN.out
          have hn1 : 1 ≤ n := by have := HI6.out.1.ne; rw [HN.out] at this; exact this
          by_cases hf : (n : Int) = M
          · obtain ⟨hap2, hap1⟩ := HI6.out.1.put_full HNO.out (by rw [hol]; exact hf) ((k : Int) + 1)
            obtain ⟨⟨⟨gk, gc⟩, er, o2⟩, hap⟩ : ∃ r, aput 1 M o1 [x] ((k : Int) + 1) = r := ⟨_, rfl⟩
            rw [hap] at hap1 hap2
            dsimp only at hap1 hap2
            injection hap2 with e1 e2
            subst e1 e2 hap1
            have HAP := Lib.hid hap
            have HI9 : Hid (GI M n2 (([x], (k : Int) + 1) :: o1.dropLast) (aheadL xs1.dropLast x) ∧ ∀ y ∈ aheadL xs1.dropLast x, 0 ≤ y ∧ y ≤ 255) := Lib.hid ⟨HI6.out.1.full HNO.out (by rw [hol]; exact hf) HD.out _, bytes_ahead (fun y hy => HI6.out.2 y ((List.dropLast_sublist xs1).subset hy)) hby⟩
            have i7 : ((n : Int) == M) = true := by simpa using hf
            have i8 : IntKind.i64.wrap (M - 1) = ((n - 1 : Nat) : Int) := by rw [IntWalk.i64_in _ (by omega)]; omega
            have i9 : ((n - 1 : Nat) : Int) < (n : Int) := by omega
            have i10 : (0 : Int) ≤ ((n - 1 : Nat) : Int) := by omega
            have i11 : ((n - 1 : Nat) : Int) ≤ (n : Int) := by omega
            obtain ⟨y, hy⟩ : ∃ y, xs1.getD (xs1.length - 1) 0 = y := ⟨_, rfl⟩
            have HY : Hid (xs1.getD (n - 1) 0 = y) := Lib.hid (by rw [← hy, HN.out])
            have HDL : Hid (xs1.dropLast.length = n - 1) := Lib.hid (by rw [List.length_dropLast, HN.out])
            rw [hy] at HAP
            clear hap hy hol
            go_wp2_with fail
            with_reducible refine ((H7.out.lit x).put hby _).mono ?_
            rintro e w9 ⟨u9, rfl, q⟩
            rw [HAP.out] at q ⊢
            dsimp only at q ⊢
            obtain ⟨gg, gcc, rfl, s1⟩ := GSG.one q
            obtain ⟨g8, rfl, s2⟩ := q.gs.last HN.out hn1
            rw [HY.out] at s2
            have HG7 := Lib.hid q
            clear q H7 HAP hf
            unfold putV
            go_wp2_with fail
            refine wp_region_held_drew (S := fun w' => w'.cell? ⟨gg, 0, none⟩ = some (.int .u8 y) ∧ w'.cell? ⟨g8, n - 1, none⟩ = some (.int .u8 y)) (by kernel_rfl) ⟨s1, s2⟩ (fun g => ?_)
            have HG8 : Hid (GS w X M (([x], (k : Int) + 1) :: o1.dropLast) (.slice (some ⟨g8, 0, none⟩) n cv1') xs1 w9.drew) := Lib.hid (by exact HG7.out.gs.grow (below_drewN (Below.refl _ _) 1))
            clear HG7 s1 s2
            generalize w9.drew = z9 at *
            refine tq 0 ?_ rfl (by kernel_rfl) (fun _ _ _ h => h) (by rfl) g ?_ ?_; rotate_left
            · intro w9 h9; go_simp; try with_reducible rfl
            simp only [Act.put, ptA, ptB, ptC]
            refine tq 1 ?_ rfl (by kernel_rfl) (fun _ _ _ h => h) (by rfl) g ?_ ?_; rotate_left
            · intro w9 h9; go_simp; try with_reducible rfl
            simp only [Act.put, ptA, ptB, ptC]
            refine tq 2 ?_ rfl (by kernel_rfl) (fun _ _ _ h => h) (by rfl) g ?_ ?_; rotate_left
            · intro w9 h9; go_simp; try with_reducible rfl
            simp only [Act.put, ptA, ptB, ptC]
            refine tq 3 ?_ rfl (by kernel_rfl) (fun _ _ _ h => h) (by rfl) g ?_ ?_; rotate_left
            · intro w9 h9; go_simp; try with_reducible rfl
            simp only [Act.put, ptA, ptB, ptC]
            refine tq 4 ?_ rfl (by kernel_rfl) (fun _ _ _ h => h) (by rfl) g ?_ ?_; rotate_left
            · intro w9 h9; go_simp; try with_reducible rfl
            simp only [Act.put, ptA, ptB, ptC]
            refine tq 5 ?_ rfl (by kernel_rfl) (fun _ _ _ h => h) (by rfl) g ?_ ?_; rotate_left
            · intro w9 h9; go_simp; try with_reducible rfl
            simp only [Act.put, ptA, ptB, ptC]
            refine tq 6 ?_ rfl (by kernel_rfl) (fun _ _ _ h => h) (by rfl) g ?_ ?_; rotate_left
            · intro w9 h9; obtain ⟨h91, h92⟩ := h9; go_simp; try with_reducible rfl
            simp only [Act.put, ptA, ptB, ptC]
            refine tq 7 ?_ rfl (by kernel_rfl) (fun _ _ _ h => h) (by rfl) g ?_ ?_; rotate_left
            · intro w9 h9; go_simp; try with_reducible rfl
            simp only [Act.put, ptA, ptB, ptC]
            refine tq 8 ?_ rfl (by kernel_rfl) (fun _ _ _ h => h) (by rfl) g ?_ ?_; rotate_left
            · intro w9 h9; go_simp; try with_reducible rfl
            simp only [Act.put, ptA, ptB, ptC]
            refine tq 9 ?_ rfl (by kernel_rfl) (fun _ _ _ h => h) (by rfl) g ?_ ?_; rotate_left
            · intro w9 h9; go_simp; try with_reducible rfl
            simp only [Act.put, ptA, ptB, ptC]
            refine tq 10 ?_ rfl (by kernel_rfl) (fun _ _ _ h => h) (by rfl) g ?_ ?_; rotate_left
            · intro w9 h9; go_simp; try with_reducible rfl
            simp only [Act.put, ptA, ptB, ptC]
            refine tq 11 ?_ rfl (by kernel_rfl) (fun _ _ _ h => h) (by rfl) g ?_ ?_; rotate_left
            · intro w9 h9; obtain ⟨h91, h92⟩ := h9; go_simp; try with_reducible rfl
            simp only [Act.put, ptA, ptB, ptC]
            refine tq 12 ?_ rfl (by kernel_rfl) (fun _ _ _ h => h) (by rfl) g ?_ ?_; rotate_left
            · intro w9 h9; go_simp; try with_reducible rfl
            simp only [Act.put, ptA, ptB, ptC]
            refine tq 13 ?_ rfl (by kernel_rfl) (fun _ _ _ h => h) (by rfl) g ?_ ?_; rotate_left
            · intro w9 h9; go_simp; try with_reducible rfl
            simp only [Act.put, ptA, ptB, ptC]
            clear g
            refine wpAnyH_done (by kernel_rfl) ?_ _
            have HG9 := Lib.hid (HG8.out.cut HN.out hn1)
            have i12 : ((n - 1 : Nat) : Int) ≤ (cv1' : Int) := by omega
            clear HG8
            go_wp2_with fail
            with_reducible refine (HG9.out.ahead HDL.out (by omega) x).mono ?_
            rintro e z10 ⟨v10, rfl, q⟩
            have H9 := Lib.hid q
            clear q HG9
            go_wp2
            go_roundw
            case rel => exact ⟨k + 1, _, _, by omega, by omega, by go_num, H9, HI9⟩
            case measure => simp [intOf]; omega
          · have hap := HI6.out.1.put_free HNO.out (by rw [hol]; exact hf) ((k : Int) + 1)
            have HAP := Lib.hid hap
            have HI9 : Hid (GI M n2 (([x], (k : Int) + 1) :: o1) (aheadL xs1 x) ∧ ∀ y ∈ aheadL xs1 x, 0 ≤ y ∧ y ≤ 255) := Lib.hid ⟨HI6.out.1.free HNO.out (by have := HI6.out.1.le; rw [hol] at this ⊢; omega) _, bytes_ahead HI6.out.2 hby⟩
            have i7 : ((n : Int) == M) = false := by simpa using hf
            clear hap hol
            go_wp2_with fail
            with_reducible refine ((H7.out.lit x).put hby _).mono ?_
            rintro e w9 ⟨u9, rfl, q⟩
            rw [HAP.out] at q ⊢
            dsimp only at q ⊢
            obtain ⟨ua9, uc9, rfl⟩ := GSG.none_ q
            have HG9 := Lib.hid q.gs
            clear q H7 HAP hf
            unfold putV
            go_wp2_with fail
            with_reducible refine (HG9.out.ahead HN.out (by omega) x).mono ?_
            rintro e z10 ⟨v10, rfl, q⟩
            have H9 := Lib.hid q
            clear q HG9
            go_wp2
            go_roundw
            case rel => exact ⟨k + 1, _, _, by omega, by omega, by go_num, H9, HI9⟩
            case measure => simp [intOf]; omega
      · have i6 : ¬ M > 1 := by omega
        have H6 := H4
        have HI6 := HI4
        have HD : Hid (1 < M → ∃ o1, o = ([n2], 1000) :: o1) := Lib.hid (fun h => absurd h hM)
        clear H4 HI4
        have HB6 := H6.out.below
        have cx := HC.out _ HB6
        clear HB6
        go_wp2_with fail
        with_reducible refine ((H6.out.lit x).peek hby).mono ?_
        rintro e w6 ⟨rfl, q⟩
        have H7 := Lib.hid q
        clear q H6 cx
        obtain ⟨r, hr⟩ : ∃ r, aget o [x] = r := ⟨_, rfl⟩
        have hhas := HI6.out.1.bes.has (k := x)
        rw [hr] at hhas ⊢
        have HRR := Lib.hid hr
        have HHS := Lib.hid hhas
        obtain ⟨n, hn⟩ : ∃ n, xs.length = n := ⟨_, rfl⟩
        have HN := Lib.hid hn
        rw [hn] at H7 hxl cv1 ⊢
        clear hr hhas hn
        cases r with
        | some cc =>
          unfold agetV
          go_wp2_with fail
          with_reducible refine (has_c _ _ _ xs HN.out (by omega) x w6 H7.out.rd).mono ?_
          rintro e w7 ⟨bb, rfl, hbb, rfl⟩
          obtain rfl : bb = true := hbb.2 (HHS.out.1 rfl)
          clear hbb
          go_wp2_with fail
          with_reducible refine ((H7.out.lit x).find hby).mono ?_
          rintro e w8 ⟨rfl, q⟩
          rw [HRR.out]
          have H8 := Lib.hid q
          clear q H7
          unfold agetV
          go_wp2_with fail
          with_reducible refine (H8.out.ahead HN.out (by omega) x).mono ?_
          rintro e w9 ⟨v9, rfl, q⟩
          have H9 := Lib.hid q
          have HI9 : Hid (GI M n2 (afind o [x]) (aheadL xs x) ∧ ∀ y ∈ aheadL xs x, 0 ≤ y ∧ y ≤ 255) := Lib.hid ⟨HI6.out.1.find (HHS.out.1 rfl), bytes_ahead HI6.out.2 hby⟩
          clear q H8
          go_wp2
          go_roundw
          case rel => exact ⟨k + 1, _, _, by omega, by omega, by go_num, H9, HI9⟩
          case measure => simp [intOf]; omega
        | none =>
          have hno : ¬ x ∈ xs := fun h => by have := HHS.out.2 h; cases this
          have HNO := Lib.hid hno
          unfold agetV
          go_wp2_with fail
          with_reducible refine (has_c _ _ _ xs HN.out (by omega) x w6 H7.out.rd).mono ?_
          rintro e w7 ⟨bb, rfl, hbb, rfl⟩
          obtain rfl : bb = false := by
            cases bb with
            | false => rfl
            | true => exact absurd (hbb.1 rfl) hno
          clear hbb hno
          have hol : o.length = n := HI6.out.1.bes.len.trans HN.out
          have hn1 : 1 ≤ n := by have := HI6.out.1.ne; rw [HN.out] at this; exact this
          by_cases hf : (n : Int) = M
          · obtain ⟨hap2, hap1⟩ := HI6.out.1.put_full HNO.out (by rw [hol]; exact hf) ((k : Int) + 1)
            obtain ⟨⟨⟨gk, gc⟩, er, o2⟩, hap⟩ : ∃ r, aput 1 M o [x] ((k : Int) + 1) = r := ⟨_, rfl⟩
            rw [hap] at hap1 hap2
            dsimp only at hap1 hap2
            injection hap2 with e1 e2
            subst e1 e2 hap1
            have HAP := Lib.hid hap
            have HI9 : Hid (GI M n2 (([x], (k : Int) + 1) :: o.dropLast) (aheadL xs.dropLast x) ∧ ∀ y ∈ aheadL xs.dropLast x, 0 ≤ y ∧ y ≤ 255) := Lib.hid ⟨HI6.out.1.full HNO.out (by rw [hol]; exact hf) HD.out _, bytes_ahead (fun y hy => HI6.out.2 y ((List.dropLast_sublist xs).subset hy)) hby⟩
            have i7 : ((n : Int) == M) = true := by simpa using hf
            have i8 : IntKind.i64.wrap (M - 1) = ((n - 1 : Nat) : Int) := by rw [IntWalk.i64_in _ (by omega)]; omega
            have i9 : ((n - 1 : Nat) : Int) < (n : Int) := by omega
            have i10 : (0 : Int) ≤ ((n - 1 : Nat) : Int) := by omega
            have i11 : ((n - 1 : Nat) : Int) ≤ (n : Int) := by omega
            obtain ⟨y, hy⟩ : ∃ y, xs.getD (xs.length - 1) 0 = y := ⟨_, rfl⟩
            have HY : Hid (xs.getD (n - 1) 0 = y) := Lib.hid (by rw [← hy, HN.out])
            have HDL : Hid (xs.dropLast.length = n - 1) := Lib.hid (by rw [List.length_dropLast, HN.out])
            rw [hy] at HAP
            clear hap hy hol
            go_wp2_with fail
            with_reducible refine ((H7.out.lit x).put hby _).mono ?_
            rintro e w9 ⟨u9, rfl, q⟩
            rw [HAP.out] at q ⊢
            dsimp only at q ⊢
            obtain ⟨gg, gcc, rfl, s1⟩ := GSG.one q
            obtain ⟨g8, rfl, s2⟩ := q.gs.last HN.out hn1
            rw [HY.out] at s2
            have HG7 := Lib.hid q
            clear q H7 HAP hf
            unfold putV
            go_wp2_with fail
            refine wp_region_held_drew (S := fun w' => w'.cell? ⟨gg, 0, none⟩ = some (.int .u8 y) ∧ w'.cell? ⟨g8, n - 1, none⟩ = some (.int .u8 y)) (by kernel_rfl) ⟨s1, s2⟩ (fun g => ?_)
            have HG8 : Hid (GS w X M (([x], (k : Int) + 1) :: o.dropLast) (.slice (some ⟨g8, 0, none⟩) n cv) xs w9.drew) := Lib.hid (by exact HG7.out.gs.grow (below_drewN (Below.refl _ _) 1))
            clear HG7 s1 s2
            generalize w9.drew = z9 at *
            refine tq 0 ?_ rfl (by kernel_rfl) (fun _ _ _ h => h) (by rfl) g ?_ ?_; rotate_left
            · intro w9 h9; go_simp; try with_reducible rfl
            simp only [Act.put, ptA, ptB, ptC]
            refine tq 1 ?_ rfl (by kernel_rfl) (fun _ _ _ h => h) (by rfl) g ?_ ?_; rotate_left
            · intro w9 h9; go_simp; try with_reducible rfl
            simp only [Act.put, ptA, ptB, ptC]
            refine tq 2 ?_ rfl (by kernel_rfl) (fun _ _ _ h => h) (by rfl) g ?_ ?_; rotate_left
            · intro w9 h9; go_simp; try with_reducible rfl
            simp only [Act.put, ptA, ptB, ptC]
            refine tq 3 ?_ rfl (by kernel_rfl) (fun _ _ _ h => h) (by rfl) g ?_ ?_; rotate_left
            · intro w9 h9; go_simp; try with_reducible rfl
            simp only [Act.put, ptA, ptB, ptC]
            refine tq 4 ?_ rfl (by kernel_rfl) (fun _ _ _ h => h) (by rfl) g ?_ ?_; rotate_left
            · intro w9 h9; go_simp; try with_reducible rfl
            simp only [Act.put, ptA, ptB, ptC]
            refine tq 5 ?_ rfl (by kernel_rfl) (fun _ _ _ h => h) (by rfl) g ?_ ?_; rotate_left
            · intro w9 h9; go_simp; try with_reducible rfl
            simp only [Act.put, ptA, ptB, ptC]
            refine tq 6 ?_ rfl (by kernel_rfl) (fun _ _ _ h => h) (by rfl) g ?_ ?_; rotate_left
            · intro w9 h9; obtain ⟨h91, h92⟩ := h9; go_simp; try with_reducible rfl
            simp only [Act.put, ptA, ptB, ptC]
            refine tq 7 ?_ rfl (by kernel_rfl) (fun _ _ _ h => h) (by rfl) g ?_ ?_; rotate_left
            · intro w9 h9; go_simp; try with_reducible rfl
            simp only [Act.put, ptA, ptB, ptC]
            refine tq 8 ?_ rfl (by kernel_rfl) (fun _ _ _ h => h) (by rfl) g ?_ ?_; rotate_left
            · intro w9 h9; go_simp; try with_reducible rfl
            simp only [Act.put, ptA, ptB, ptC]
            refine tq 9 ?_ rfl (by kernel_rfl) (fun _ _ _ h => h) (by rfl) g ?_ ?_; rotate_left
            · intro w9 h9; go_simp; try with_reducible rfl
            simp only [Act.put, ptA, ptB, ptC]
            refine tq 10 ?_ rfl (by kernel_rfl) (fun _ _ _ h => h) (by rfl) g ?_ ?_; rotate_left
            · intro w9 h9; go_simp; try with_reducible rfl
            simp only [Act.put, ptA, ptB, ptC]
            refine tq 11 ?_ rfl (by kernel_rfl) (fun _ _ _ h => h) (by rfl) g ?_ ?_; rotate_left
            · intro w9 h9; obtain ⟨h91, h92⟩ := h9; go_simp; try with_reducible rfl
            simp only [Act.put, ptA, ptB, ptC]
            refine tq 12 ?_ rfl (by kernel_rfl) (fun _ _ _ h => h) (by rfl) g ?_ ?_; rotate_left
            · intro w9 h9; go_simp; try with_reducible rfl
            simp only [Act.put, ptA, ptB, ptC]
            refine tq 13 ?_ rfl (by kernel_rfl) (fun _ _ _ h => h) (by rfl) g ?_ ?_; rotate_left
            · intro w9 h9; go_simp; try with_reducible rfl
            simp only [Act.put, ptA, ptB, ptC]
            clear g
            refine wpAnyH_done (by kernel_rfl) ?_ _
            have HG9 := Lib.hid (HG8.out.cut HN.out hn1)
            have i12 : ((n - 1 : Nat) : Int) ≤ (cv : Int) := by omega
            clear HG8
            go_wp2_with fail
            with_reducible refine (HG9.out.ahead HDL.out (by omega) x).mono ?_
            rintro e z10 ⟨v10, rfl, q⟩
            have H9 := Lib.hid q
            clear q HG9
            go_wp2
            go_roundw
            case rel => exact ⟨k + 1, _, _, by omega, by omega, by go_num, H9, HI9⟩
            case measure => simp [intOf]; omega
          · have hap := HI6.out.1.put_free HNO.out (by rw [hol]; exact hf) ((k : Int) + 1)
            have HAP := Lib.hid hap
            have HI9 : Hid (GI M n2 (([x], (k : Int) + 1) :: o) (aheadL xs x) ∧ ∀ y ∈ aheadL xs x, 0 ≤ y ∧ y ≤ 255) := Lib.hid ⟨HI6.out.1.free HNO.out (by have := HI6.out.1.le; rw [hol] at this ⊢; omega) _, bytes_ahead HI6.out.2 hby⟩
            have i7 : ((n : Int) == M) = false := by simpa using hf
            clear hap hol
            go_wp2_with fail
            with_reducible refine ((H7.out.lit x).put hby _).mono ?_
            rintro e w9 ⟨u9, rfl, q⟩
            rw [HAP.out] at q ⊢
            dsimp only at q ⊢
            obtain ⟨ua9, uc9, rfl⟩ := GSG.none_ q
            have HG9 := Lib.hid q.gs
            clear q H7 HAP hf
            unfold putV
            go_wp2_with fail
            with_reducible refine (HG9.out.ahead HN.out (by omega) x).mono ?_
            rintro e z10 ⟨v10, rfl, q⟩
            have H9 := Lib.hid q
            clear q HG9
            go_wp2
            go_roundw
            case rel => exact ⟨k + 1, _, _, by omega, by omega, by go_num, H9, HI9⟩
            case measure => simp [intOf]; omega
    · have i1 : ¬ ((k : Int) < (len1 : Int)) ∨ ((k : Int) < (len1 : Int) ∧ ¬ (k : Int) < 200) := by omega
      rcases i1 with i1 | ⟨i1, i2⟩
      · have hbk := HI4.out.1.bes.keys
        have hol := HI4.out.1.bes.len
        obtain ⟨n, hn⟩ : ∃ n, xs.length = n := ⟨_, rfl⟩
        have HN := Lib.hid hn
        have KS := Lib.hid (H4.out.keys hbk)
        rw [hn] at KS H4 hxl hol ⊢
        clear hbk hn H4
        go_wp2_with fail
        with_reducible refine KS.out.mono ?_
        rintro e w6 ⟨ka, rfl, q⟩
        have H5 := Lib.hid q
        have H5L := Lib.hid q.1.plen
        rw [hol] at H5L
        clear q KS hol
        go_wp2_with fail
        with_reducible refine H5L.out.mono ?_
        rintro e w7 ⟨rfl, rfl⟩
        clear H5L
        go_wp2_with fail
        go_loopw [19] (fun i wj => ∃ j : Nat, j ≤ n ∧ i = .int .i64 j ∧ Hid (GZ w X M o (.slice av n cv) xs ka wj)) (fun i _ => n - (intOf i).toNat)
        case atStart => exact ⟨0, by omega, rfl, H5⟩
        case round =>
          obtain ⟨j, hj, rfl, HZ⟩ := hrel
          clear H5
          by_cases hlj : j < n
          · have j1 : (j : Int) < (n : Int) := by omega
            have j2 : (0 : Int) ≤ (j : Int) := by omega
            have hjx : j < xs.length := by rw [HN.out]; exact hlj
            obtain ⟨vs, hv1, hv2, hv3⟩ := HZ.out.2
            obtain ⟨gj, cj, e1, s2⟩ := hv3 j hjx
            obtain ⟨ka', e2, _, hkc⟩ := hv1 (by omega)
            injection e2 with e2
            subst e2
            have s1 := hkc j _ e1
            obtain ⟨ao, rfl, _, hoc⟩ := HZ.out.1.rd (by rw [bv_len]; omega)
            have s3 := hoc j _ (bv_get xs j hjx)
            generalize xs[j] = xj at *
            clear hv1 hv2 hv3 e1 hkc hoc hjx
            go_wp2_with fail
            refine wp_region_held_drew (S := fun w' => w'.cell? (ka.add j) = some (.slice (some ⟨gj, 0, none⟩) 1 cj) ∧ w'.cell? ⟨gj, 0, none⟩ = some (.int .u8 xj) ∧ w'.cell? (ao.add j) = some (.int .u8 xj)) (by kernel_rfl) ⟨s1, s2, s3⟩ (fun g => ?_)
            have H8 : Hid (GZ w X M o (.slice (some ao) n cv) xs ka wr.drew) := Lib.hid ⟨HZ.out.1.grow ((Below.refl _ _).drew), HZ.out.2⟩
            clear s1 s2 s3 HZ
            generalize wr.drew = zj at *
            refine tq 0 ?_ rfl (by kernel_rfl) (fun _ _ _ h => h) (by rfl) g ?_ ?_; rotate_left
            · intro w9 h9; go_simp; try with_reducible rfl
            simp only [Act.put, ptA, ptB, ptC]
            refine tq 1 ?_ rfl (by kernel_rfl) (fun _ _ _ h => h) (by rfl) g ?_ ?_; rotate_left
            · intro w9 h9; go_simp; try with_reducible rfl
            simp only [Act.put, ptA, ptB, ptC]
            refine tq 2 ?_ rfl (by kernel_rfl) (fun _ _ _ h => h) (by rfl) g ?_ ?_; rotate_left
            · intro w9 h9; go_simp; try with_reducible rfl
            simp only [Act.put, ptA, ptB, ptC]
            refine tq 3 ?_ rfl (by kernel_rfl) (fun _ _ _ h => h) (by rfl) g ?_ ?_; rotate_left
            · intro w9 h9; obtain ⟨h91, h92, h93⟩ := h9; go_simp; try with_reducible rfl
            simp only [Act.put, ptA, ptB, ptC]
            refine tq 4 ?_ rfl (by kernel_rfl) (fun _ _ _ h => h) (by rfl) g ?_ ?_; rotate_left
            · intro w9 h9; go_simp; try with_reducible rfl
            simp only [Act.put, ptA, ptB, ptC]
            refine tq 5 ?_ rfl (by kernel_rfl) (fun _ _ _ h => h) (by rfl) g ?_ ?_; rotate_left
            · intro w9 h9; go_simp; try with_reducible rfl
            simp only [Act.put, ptA, ptB, ptC]
            refine tq 6 ?_ rfl (by kernel_rfl) (fun _ _ _ h => h) (by rfl) g ?_ ?_; rotate_left
            · intro w9 h9; go_simp; try with_reducible rfl
            simp only [Act.put, ptA, ptB, ptC]
            refine tq 7 ?_ rfl (by kernel_rfl) (fun _ _ _ h => h) (by rfl) g ?_ ?_; rotate_left
            · intro w9 h9; go_simp; try with_reducible rfl
            simp only [Act.put, ptA, ptB, ptC]
            refine tq 8 ?_ rfl (by kernel_rfl) (fun _ _ _ h => h) (by rfl) g ?_ ?_; rotate_left
            · intro w9 h9; go_simp; try with_reducible rfl
            simp only [Act.put, ptA, ptB, ptC]
            refine tq 9 ?_ rfl (by kernel_rfl) (fun _ _ _ h => h) (by rfl) g ?_ ?_; rotate_left
            · intro w9 h9; go_simp; try with_reducible rfl
            simp only [Act.put, ptA, ptB, ptC]
            refine tq 10 ?_ rfl (by kernel_rfl) (fun _ _ _ h => h) (by rfl) g ?_ ?_; rotate_left
            · intro w9 h9; obtain ⟨h91, h92, h93⟩ := h9; go_simp; try with_reducible rfl
            simp only [Act.put, ptA, ptB, ptC]
            refine tq 11 ?_ rfl (by kernel_rfl) (fun _ _ _ h => h) (by rfl) g ?_ ?_; rotate_left
            · intro w9 h9; go_simp; try with_reducible rfl
            simp only [Act.put, ptA, ptB, ptC]
            refine tq 12 ?_ rfl (by kernel_rfl) (fun _ _ _ h => h) (by rfl) g ?_ ?_; rotate_left
            · intro w9 h9; obtain ⟨h91, h92, h93⟩ := h9; go_simp; try with_reducible rfl
            simp only [Act.put, ptA, ptB, ptC]
            refine tq 13 ?_ rfl (by kernel_rfl) (fun _ _ _ h => h) (by rfl) g ?_ ?_; rotate_left
            · intro w9 h9; go_simp; try with_reducible rfl
            simp only [Act.put, ptA, ptB, ptC]
            refine tq 14 ?_ rfl (by kernel_rfl) (fun _ _ _ h => h) (by rfl) g ?_ ?_; rotate_left
            · intro w9 h9; go_simp; try with_reducible rfl
            simp only [Act.put, ptA, ptB, ptC]
            refine tq 15 ?_ rfl (by kernel_rfl) (fun _ _ _ h => h) (by rfl) g ?_ ?_; rotate_left
            · intro w9 h9; go_simp; try with_reducible rfl
            simp only [Act.put, ptA, ptB, ptC]
            refine tq 16 ?_ rfl (by kernel_rfl) (fun _ _ _ h => h) (by rfl) g ?_ ?_; rotate_left
            · intro w9 h9; obtain ⟨h91, h92, h93⟩ := h9; go_simp; try with_reducible rfl
            simp only [Act.put, ptA, ptB, ptC]
            refine tq 17 ?_ rfl (by kernel_rfl) (fun _ _ _ h => h) (by rfl) g ?_ ?_; rotate_left
            · intro w9 h9; go_simp; try with_reducible rfl
            simp only [Act.put, ptA, ptB, ptC]
            refine tq 18 ?_ rfl (by kernel_rfl) (fun _ _ _ h => h) (by rfl) g ?_ ?_; rotate_left
            · intro w9 h9; go_simp; try with_reducible rfl
            simp only [Act.put, ptA, ptB, ptC]
            clear g
            refine wpAnyH_done (by kernel_rfl) ?_ _
            go_wp2
            go_roundw
            case rel => exact ⟨j + 1, by omega, by go_num, H8⟩
            case measure => simp [intOf]; omega
          · have j1 : ¬ (j : Int) < (n : Int) := by omega
            have HB := Lib.hid HZ.out.1.below
            clear HZ
            go_wp2_with fail
            with_reducible refine (known_c _).mono ?_
            rintro e w9 ⟨rfl, q⟩
            have HB9 := Lib.hid (HB.out.trans (q.mono HB.out.size))
            clear q HB
            go_wp2
            go_ret
            exact ⟨rfl, HB9.out⟩
      · have hbk := HI4.out.1.bes.keys
        have hol := HI4.out.1.bes.len
        obtain ⟨n, hn⟩ : ∃ n, xs.length = n := ⟨_, rfl⟩
        have HN := Lib.hid hn
        have KS := Lib.hid (H4.out.keys hbk)
        rw [hn] at KS H4 hxl hol ⊢
        clear hbk hn H4
        go_wp2_with fail
        with_reducible refine KS.out.mono ?_
        rintro e w6 ⟨ka, rfl, q⟩
        have H5 := Lib.hid q
        have H5L := Lib.hid q.1.plen
        rw [hol] at H5L
        clear q KS hol
        go_wp2_with fail
        with_reducible refine H5L.out.mono ?_
        rintro e w7 ⟨rfl, rfl⟩
        clear H5L
        go_wp2_with fail
        go_loopw [19] (fun i wj => ∃ j : Nat, j ≤ n ∧ i = .int .i64 j ∧ Hid (GZ w X M o (.slice av n cv) xs ka wj)) (fun i _ => n - (intOf i).toNat)
        case atStart => exact ⟨0, by omega, rfl, H5⟩
        case round =>
          obtain ⟨j, hj, rfl, HZ⟩ := hrel
          clear H5
          by_cases hlj : j < n
          · have j1 : (j : Int) < (n : Int) := by omega
            have j2 : (0 : Int) ≤ (j : Int) := by omega
            have hjx : j < xs.length := by rw [HN.out]; exact hlj
            obtain ⟨vs, hv1, hv2, hv3⟩ := HZ.out.2
            obtain ⟨gj, cj, e1, s2⟩ := hv3 j hjx
            obtain ⟨ka', e2, _, hkc⟩ := hv1 (by omega)
            injection e2 with e2
            subst e2
            have s1 := hkc j _ e1
            obtain ⟨ao, rfl, _, hoc⟩ := HZ.out.1.rd (by rw [bv_len]; omega)
            have s3 := hoc j _ (bv_get xs j hjx)
            generalize xs[j] = xj at *
            clear hv1 hv2 hv3 e1 hkc hoc hjx
            go_wp2_with fail
            refine wp_region_held_drew (S := fun w' => w'.cell? (ka.add j) = some (.slice (some ⟨gj, 0, none⟩) 1 cj) ∧ w'.cell? ⟨gj, 0, none⟩ = some (.int .u8 xj) ∧ w'.cell? (ao.add j) = some (.int .u8 xj)) (by kernel_rfl) ⟨s1, s2, s3⟩ (fun g => ?_)
            have H8 : Hid (GZ w X M o (.slice (some ao) n cv) xs ka wr.drew) := Lib.hid ⟨HZ.out.1.grow ((Below.refl _ _).drew), HZ.out.2⟩
            clear s1 s2 s3 HZ
            generalize wr.drew = zj at *
            refine tq 0 ?_ rfl (by kernel_rfl) (fun _ _ _ h => h) (by rfl) g ?_ ?_; rotate_left
            · intro w9 h9; go_simp; try with_reducible rfl
            simp only [Act.put, ptA, ptB, ptC]
            refine tq 1 ?_ rfl (by kernel_rfl) (fun _ _ _ h => h) (by rfl) g ?_ ?_; rotate_left
            · intro w9 h9; go_simp; try with_reducible rfl
            simp only [Act.put, ptA, ptB, ptC]
            refine tq 2 ?_ rfl (by kernel_rfl) (fun _ _ _ h => h) (by rfl) g ?_ ?_; rotate_left
            · intro w9 h9; go_simp; try with_reducible rfl
            simp only [Act.put, ptA, ptB, ptC]
            refine tq 3 ?_ rfl (by kernel_rfl) (fun _ _ _ h => h) (by rfl) g ?_ ?_; rotate_left
            · intro w9 h9; obtain ⟨h91, h92, h93⟩ := h9; go_simp; try with_reducible rfl
            simp only [Act.put, ptA, ptB, ptC]
            refine tq 4 ?_ rfl (by kernel_rfl) (fun _ _ _ h => h) (by rfl) g ?_ ?_; rotate_left
            · intro w9 h9; go_simp; try with_reducible rfl
            simp only [Act.put, ptA, ptB, ptC]
            refine tq 5 ?_ rfl (by kernel_rfl) (fun _ _ _ h => h) (by rfl) g ?_ ?_; rotate_left
            · intro w9 h9; go_simp; try with_reducible rfl
            simp only [Act.put, ptA, ptB, ptC]
            refine tq 6 ?_ rfl (by kernel_rfl) (fun _ _ _ h => h) (by rfl) g ?_ ?_; rotate_left
            · intro w9 h9; go_simp; try with_reducible rfl
            simp only [Act.put, ptA, ptB, ptC]
            refine tq 7 ?_ rfl (by kernel_rfl) (fun _ _ _ h => h) (by rfl) g ?_ ?_; rotate_left
            · intro w9 h9; go_simp; try with_reducible rfl
            simp only [Act.put, ptA, ptB, ptC]
            refine tq 8 ?_ rfl (by kernel_rfl) (fun _ _ _ h => h) (by rfl) g ?_ ?_; rotate_left
            · intro w9 h9; go_simp; try with_reducible rfl
            simp only [Act.put, ptA, ptB, ptC]
            refine tq 9 ?_ rfl (by kernel_rfl) (fun _ _ _ h => h) (by rfl) g ?_ ?_; rotate_left
            · intro w9 h9; go_simp; try with_reducible rfl
            simp only [Act.put, ptA, ptB, ptC]
            refine tq 10 ?_ rfl (by kernel_rfl) (fun _ _ _ h => h) (by rfl) g ?_ ?_; rotate_left
            · intro w9 h9; obtain ⟨h91, h92, h93⟩ := h9; go_simp; try with_reducible rfl
            simp only [Act.put, ptA, ptB, ptC]
            refine tq 11 ?_ rfl (by kernel_rfl) (fun _ _ _ h => h) (by rfl) g ?_ ?_; rotate_left
            · intro w9 h9; go_simp; try with_reducible rfl
            simp only [Act.put, ptA, ptB, ptC]
            refine tq 12 ?_ rfl (by kernel_rfl) (fun _ _ _ h => h) (by rfl) g ?_ ?_; rotate_left
            · intro w9 h9; obtain ⟨h91, h92, h93⟩ := h9; go_simp; try with_reducible rfl
            simp only [Act.put, ptA, ptB, ptC]
            refine tq 13 ?_ rfl (by kernel_rfl) (fun _ _ _ h => h) (by rfl) g ?_ ?_; rotate_left
            · intro w9 h9; go_simp; try with_reducible rfl
            simp only [Act.put, ptA, ptB, ptC]
            refine tq 14 ?_ rfl (by kernel_rfl) (fun _ _ _ h => h) (by rfl) g ?_ ?_; rotate_left
            · intro w9 h9; go_simp; try with_reducible rfl
            simp only [Act.put, ptA, ptB, ptC]
            refine tq 15 ?_ rfl (by kernel_rfl) (fun _ _ _ h => h) (by rfl) g ?_ ?_; rotate_left
            · intro w9 h9; go_simp; try with_reducible rfl
            simp only [Act.put, ptA, ptB, ptC]
            refine tq 16 ?_ rfl (by kernel_rfl) (fun _ _ _ h => h) (by rfl) g ?_ ?_; rotate_left
            · intro w9 h9; obtain ⟨h91, h92, h93⟩ := h9; go_simp; try with_reducible rfl
            simp only [Act.put, ptA, ptB, ptC]
            refine tq 17 ?_ rfl (by kernel_rfl) (fun _ _ _ h => h) (by rfl) g ?_ ?_; rotate_left
            · intro w9 h9; go_simp; try with_reducible rfl
            simp only [Act.put, ptA, ptB, ptC]
            refine tq 18 ?_ rfl (by kernel_rfl) (fun _ _ _ h => h) (by rfl) g ?_ ?_; rotate_left
            · intro w9 h9; go_simp; try with_reducible rfl
            simp only [Act.put, ptA, ptB, ptC]
            clear g
            refine wpAnyH_done (by kernel_rfl) ?_ _
            go_wp2
            go_roundw
            case rel => exact ⟨j + 1, by omega, by go_num, H8⟩
            case measure => simp [intOf]; omega
          · have j1 : ¬ (j : Int) < (n : Int) := by omega
            have HB := Lib.hid HZ.out.1.below
            clear HZ
            go_wp2_with fail
            with_reducible refine (known_c _).mono ?_
            rintro e w9 ⟨rfl, q⟩
            have HB9 := Lib.hid (HB.out.trans (q.mono HB.out.size))
            clear q HB
            go_wp2
            go_ret
            exact ⟨rfl, HB9.out⟩

set_option maxRecDepth 100000 in
theorem lifted (os : Os) (started : os.Started) (H : Type) (enc : TypeId × Value → H) :
    ReturnsInHanded {} Try.checked os 4 .any (Rows.lruGoesSpec.pre6 enc Try.prog Try.f4 Rows.lruGoesRow.domain false) (Rows.lruGoesSpec.post enc Try.prog Try.f4 false true false false) := by
  refine returnsInHanded_of_change (C := Try.checked) own started (by kernel_rfl) Try.func4
    (ChangeSpec.witness6 (enc := enc) (C := Try.checked) false ⟨#[], #[.int .i64 0, .slice none 0 0, .int .u8 0], []⟩ 8 (by kernel_rfl) (by kernel_rfl) (by kernel_rfl) (by kernel_rfl)) ?_
  intro W base args ds gs before hval0 hW hcnd _
  have hval : ∀ (j : Nat) t v, Try.f4.params[j]? = some t → args[j]? = some v → Value.okWide Try.prog W .any base t v := hval0
  have hW' := hW
  obtain ⟨p, q, hA0, hV, rfl, hfz, hnd⟩ := hW
  have hA : DataW.TrodAll enc Try.prog W 0 (fun _ => true) true Try.f4.params.toList args.toList ds p := hA0
  rw [Try.params4] at hA hval
  obtain ⟨v0, vs0, d0, ds0, p0, q0, hargs, rfl, rfl, h0, r0⟩ := trodAll_cons hA
  obtain ⟨v1, vs1, d1, ds1, p1, q1, rfl, rfl, rfl, h1, r1⟩ := trodAll_cons r0
  obtain ⟨v2, vs2, d2, ds2, p2, q2, rfl, rfl, rfl, h2, r2⟩ := trodAll_cons r1
  obtain ⟨rfl, rfl, rfl⟩ := trodAll_nil r2
  obtain rfl : args = #[v0, v1, v2] := by cases args; simp_all
  obtain ⟨rfl, rfl⟩ := trodVars_none hV
  obtain ⟨n0, rfl, rfl, rfl, w0⟩ := open_int Try.underlying3 (hval 0 3 v0 rfl rfl) h0
  obtain ⟨a1, len1, cap1, rfl⟩ := okWide_slice Try.underlying27 (hval 1 27 v1 rfl rfl)
  have k1 := h1
  have lt1 : ∀ x ∈ p1, x.block < W.heap.size := by obtain ⟨m, hm⟩ := k1; exact DataW.trod_lt m _ _ _ hm
  obtain ⟨L1, l1, f1, c1, m1, z1, rr1⟩ := open_bytes h1
  obtain ⟨n2, rfl, rfl, rfl, w2⟩ := open_int Try.underlying5 (hval 2 5 v2 rfl rfl) h2
  clear hA0 hval0
  refine (walk n0 a1 len1 cap1 L1 n2 W w0 l1 f1 c1 m1 z1 rr1 w2).mono fun e W' ⟨he, bel⟩ => ?_
  subst he
  exact ⟨_, rfl, _, _, _, [], _, [], hW', trodAll_mk1 (shut_bool Try.underlying4 _), (trodAll_cons_mk (shut_int Try.underlying3 w0) (trodAll_cons_mk (Below.trod laidOut (by kernel_rfl) (of_decide_eq_true (by kernel_rfl)) k1 bel lt1) (trodAll_cons_mk (shut_int Try.underlying5 w2) trodAll_mk0))), rfl, bel.frame _, fun h => by cases h⟩

theorem over : Rows.lruGoesRow.holds Try.pinned (OpenSpec.ofChange Rows.lruGoesSpec) :=
  OpenClaim.holds_of_wide 4 Try.f4 rfl rfl rfl rfl rfl rfl rfl ⟨rfl, rfl, rfl, rfl, rfl⟩ rfl rfl rfl rfl rfl (by kernel_rfl) Try.func4 (by kernel_rfl)
    (of_decide_eq_true (by kernel_rfl)) (by unfold Func.isWrapper; first | (rw [if_pos (by decide +kernel)]; kernel_rfl) | (rw [if_neg (by decide +kernel)]; exact ⟨rfl, rfl⟩))
    (fun os started H enc _ => lifted os started H enc)

theorem proved : Rows.LruGoesSaid := over
#print axioms proved
end Go.Proofs.Ythappjbghlifbaa.lruGoes
