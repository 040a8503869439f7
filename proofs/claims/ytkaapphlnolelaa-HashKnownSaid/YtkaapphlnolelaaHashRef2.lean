/-
  Layer 10's document: place, Find: contracts. Conditions: keys of 100000 bytes at most, 1000 places at most.
-/
import Derived.Test.YtkaapphlnolelaaHashRMem
import Derived.Deep.DeepCutAuto
namespace Go.Proofs.Ytkaapphlnolelaa
open Go.RowKit Ow Ro K2 Hm
set_option linter.unusedVariables false
set_option linter.unusedSimpArgs false
def PlaceP (w : World) (r : Option Nat) (e : Ending) (w' : World) : Prop := e = .returned (.int .i64 (plcV r)) ∧ Below w.heap.size w w'
theorem fnd_step {T : List Pl} {k : List Int} {f p : Nat} {t : Pl} (h : T[p]? = some t) : fnd T k (f + 1) p = if t.is = 0 then none else if t.is = 1 ∧ t.bs = k then some p else fnd T k f (wrap1 T.length p) := by
  conv => lhs; unfold fnd
  rw [h]
set_option maxHeartbeats 4000000 in
theorem place_c {w0 w : World} {A : Ac} {X : Nat} {K M : Int} {T : List Pl} (hl : Lay w0 A w) (h : HS A X K M T) (hn : T.length ≤ 1000) (hn1 : 1 ≤ T.length) (a : Option Addr) (nk ck : Nat) (ks : List Int) (hkn : ks.length = nk) (hk6 : nk ≤ 100000) (hkb : ∀ b ∈ ks, 0 ≤ b ∧ b ≤ 255) (hrd : Rd w w.heap.size a (bv ks)) :
    Calls Try.prog 39 #[.pointer (some ⟨X, 0, none⟩), .slice a nk ck] w (PlaceP w (plc T K ks)) := by
  obtain ⟨a0, cap, c1, c2, k0, k1, _⟩ := h.head hl
  have HL := Lib.hid hl
  have HH := Lib.hid h
  have HK := Lib.hid hrd
  have HKN := Lib.hid hkn
  have HKB := Lib.hid hkb
  obtain ⟨n, hT⟩ : ∃ n, T.length = n := ⟨_, rfl⟩
  have HT := Lib.hid hT
  rw [hT] at hn hn1 c1 k0
  unfold plc
  rw [hkn, hT]
  obtain ⟨s, hs⟩ : ∃ s, fnv ks = s := ⟨_, rfl⟩
  have HSL : Hid (s < 4294967296) := Lib.hid (by rw [← hs]; exact fnv_lt ks)
  have HS0 := Lib.hid hs
  rw [hs]
  obtain ⟨p0, hp0⟩ : ∃ p0, s % n = p0 := ⟨_, rfl⟩
  have hpl : p0 < n := by rw [← hp0]; exact Nat.mod_lt _ (by omega)
  have HP0 : Hid (((s : Nat) : Int).tmod (n : Nat) = (p0 : Nat)) := Lib.hid (by rw [← hp0]; rw [Int.tmod_eq_emod_of_nonneg (Int.natCast_nonneg s)]; rfl)
  rw [hp0]
  clear hl h hrd hkn hkb hT hs hp0 c2
  by_cases hK : (nk : Int) = K
  · rw [if_pos hK]
    have hne : ((nk : Int) != K) = false := by simp [hK]
    have hnz : ((n : Int) == 0) = false := by rw [beq_eq_false_iff_ne]; omega
    obtain ⟨r, hr⟩ : ∃ r, fnd T ks n p0 = r := ⟨_, rfl⟩
    have HR := Lib.hid hr
    rw [hr]
    have hrsum : ∀ z : World, Rd z z.heap.size a (bv ks) → Calls Try.prog 11 #[.slice a nk ck] z fun e w' => e = .returned (.int .u32 (s : Nat)) ∧ z = w' := fun z hz => by
      have := rsum10_any a nk ck ks HKN.out (by omega) HKB.out z hz
      rw [HS0.out] at this
      exact this
    have RSUM := Lib.hid hrsum
    clear hr hrsum
    subst hK
    go_enter Try.func39, Try.ntmps39
    go_wp2_with fail
    refine wp_region_held_drew (S := fun w' => w'.cell? ⟨X, 0, none⟩ = some (.slice a0 n cap)) (by kernel_rfl) k0 (fun g => ?_)
    have HLd := Lib.hid HL.out.drew
    have HKd : Hid (Rd w.drew w.drew.heap.size a (bv ks)) := Lib.hid HK.out
    clear HL HK k0 k1
    have BB : Hid (Below w.heap.size w w.drew) := Lib.hid (Below.refl _ _).drew
    generalize w.drew = z at *
    refine tq 0 ?_ rfl (by kernel_rfl) (fun _ _ _ h => h) (by rfl) g ?_ ?_; rotate_left
    · intro w9 h9; go_simp; try with_reducible rfl
    simp only [Act.put, ptA, ptB, ptC]
    refine tq 3 ?_ rfl (by kernel_rfl) (fun _ _ _ h => h) (by rfl) g ?_ ?_; rotate_left
    · intro w9 h9; go_simp; try with_reducible rfl
    simp only [Act.put, ptA, ptB, ptC]
    refine tq 4 ?_ rfl (by kernel_rfl) (fun _ _ _ h => h) (by rfl) g ?_ ?_; rotate_left
    · intro w9 h9; go_simp; try with_reducible rfl
    simp only [Act.put, ptA, ptB, ptC]
    refine tq 5 ?_ rfl (by kernel_rfl) (fun _ _ _ h => h) (by rfl) g ?_ ?_; rotate_left
    · intro w9 h9; go_simp; try with_reducible rfl
    simp only [Act.put, ptA, ptB, ptC]
    refine tq 6 ?_ rfl (by kernel_rfl) (fun _ _ _ h => h) (by rfl) g ?_ ?_; rotate_left
    · intro w9 h9; go_simp; try with_reducible rfl
    simp only [Act.put, ptA, ptB, ptC]
    refine tq 7 ?_ rfl (by kernel_rfl) (fun _ _ _ h => h) (by rfl) g ?_ ?_; rotate_left
    · intro w9 h9; go_simp; try with_reducible rfl
    simp only [Act.put, ptA, ptB, ptC]
    refine tc 1 rfl (by kernel_rfl) (fun K9 hK => ?_)
    go_simp
    with_reducible refine (RSUM.out _ HKd.out).mono ?_
    rintro e w' ⟨rfl, rfl⟩
    go_simp
    refine hK.out _ _ g (fun g1 => ?_)
    clear hK K9 g
    have g := g1
    clear g1
    refine tq 2 (.int .i64 (s : Nat)) rfl (by kernel_rfl) (fun _ _ _ h => h) (by rfl) g ?_ ?_
    · intro w9 h9; have h8 := HSL.out; go_simp; first | omega | (simp only [IntKind.wrap_i64]; omega)
    simp only [Act.put, ptA, ptB, ptC]
    refine tq 8 (.int .i64 (p0 : Nat)) rfl (by kernel_rfl) (fun _ _ _ h => h) (by rfl) g ?_ ?_
    · intro w9 h9; go_simp; first | exact HP0.out | (rw [HP0.out, if_neg (by omega)])
    simp only [Act.put, ptA, ptB, ptC]
    refine tq 9 ?_ rfl (by kernel_rfl) (fun _ _ _ h => h) (by rfl) g ?_ ?_; rotate_left
    · intro w9 h9; go_simp; try with_reducible rfl
    simp only [Act.put, ptA, ptB, ptC]
    clear g
    refine wpAnyH_done (by kernel_rfl) ?_ _
    go_wp2_with fail
    go_loopw [5, 6] (fun p i wr => ∃ (j q : Nat), j ≤ n ∧ q < n ∧ i = .int .i64 (j : Nat) ∧ p = .int .i64 (q : Nat) ∧ Hid (fnd T ks (n - j) q = r) ∧ Hid (Below z.heap.size z wr)) (fun _ i _ => n - (intOf i).toNat)
    case atStart => exact ⟨0, p0, Nat.zero_le _, hpl, rfl, rfl, HR, Lib.hid (Below.refl _ _)⟩
    case round =>
      obtain ⟨j, q, hj, hq, rfl, rfl, HF, HBz⟩ := hrel
      clear HR
      obtain ⟨t, ht⟩ : ∃ t, T[q]? = some t := ⟨T[q]'(by rw [HT.out]; exact hq), List.getElem?_eq_getElem _⟩
      have HT9 := Lib.hid ht
      have HLr := Lib.hid (HLd.out.grow HBz.out)
      obtain ⟨ad, cp, ak, ckk, d1, d2, e0, e1, e2, e3, e4, e5, e6, e7, e8⟩ := HH.out.look HLr.out ht
      rw [HT.out] at e0
      have HKR := Lib.hid e8
      obtain ⟨m, hm⟩ : ∃ m, t.bs.length = m := ⟨_, rfl⟩
      have HM := Lib.hid hm
      rw [hm] at e4 e6
      have hm8 : m ≤ 9223372036854775807 := by unfold maxLen at e7; omega
      clear ht e8 d1 d2 e1 e2 e5 hm
      have q0 : (0 : Int) ≤ (q : Int) := by omega
      have q1 : (q : Int) < (n : Int) := by omega
      by_cases hjn : j < n
      · have j1 : (j : Int) < (n : Int) := by omega
        have hfs : fnd T ks (n - j) q = if t.is = 0 then none else if t.is = 1 ∧ t.bs = ks then some q else fnd T ks (n - (j + 1)) (wrap1 n q) := by
          rw [show n - j = (n - (j + 1)) + 1 by omega, fnd_step HT9.out, HT.out]
        have HFS := Lib.hid hfs
        clear hfs
        by_cases hz0 : t.is = 0
        · have i0 : ((t.is : Int) != 0) = false := by simp [hz0]
          have HN : Hid (r = none) := Lib.hid (by rw [← HF.out, HFS.out, if_pos hz0])
          have B9 := Lib.hid (BB.out.trans (HBz.out.mono BB.out.size))
          clear HF HFS
          generalize t.is = ti at *
          go_wp2
          go_ret
          exact ⟨by rw [HN.out]; rfl, B9.out⟩
        · have i0 : ((t.is : Int) != 0) = true := by simp [hz0]
          by_cases h1 : t.is = 1
          · have i2 : ((t.is : Int) == 1) = true := by simp [h1]
            by_cases hk2 : t.bs = ks
            · have HN : Hid (r = some q) := Lib.hid (by rw [← HF.out, HFS.out, if_neg hz0, if_pos ⟨h1, hk2⟩])
              have HEQ := Lib.hid hk2
              clear HF HFS hk2
              generalize hti : t.is = ti at *
              go_wp2_with fail
              with_reducible refine (samebytes_any ak a m nk ckk ck t.bs ks HM.out HKN.out (by have := HM.out; have := HEQ.out; have := HKN.out; rw [← HM.out, HEQ.out, HKN.out]; omega) (by omega) _ HKR.out ((HKd.out.below HBz.out).mono HBz.out.size)).mono ?_
              rintro e w5 ⟨rfl, q5⟩
              rw [decide_eq_true HEQ.out]
              have B9 := Lib.hid (BB.out.trans ((HBz.out.trans (q5.mono HBz.out.size)).mono BB.out.size))
              clear q5
              go_wp2
              go_ret
              exact ⟨by rw [HN.out]; rfl, B9.out⟩
            · have HN : Hid (fnd T ks (n - (j + 1)) (wrap1 n q) = r) := Lib.hid (by rw [← HF.out, HFS.out, if_neg hz0, if_neg (fun h => hk2 h.2)])
              have HNE := Lib.hid hk2
              clear HF HFS hk2
              generalize hti : t.is = ti at *
              go_wp2_with fail
              with_reducible refine (samebytes_any ak a m nk ckk ck t.bs ks HM.out HKN.out (by omega) (by omega) _ HKR.out ((HKd.out.below HBz.out).mono HBz.out.size)).mono ?_
              rintro e w5 ⟨rfl, q5⟩
              rw [decide_eq_false HNE.out]
              have B9 := Lib.hid (HBz.out.trans (q5.mono HBz.out.size))
              have HL9 := Lib.hid (HLr.out.grow q5)
              obtain ⟨ah, ch, f1, f2, f3, _, _⟩ := HH.out.head HL9.out
              rw [HT.out] at f3
              clear q5 HBz HLr HL9 HKR f1 f2
              by_cases hw : q + 1 = n
              · have hw1 : ((q : Int) + 1 == (n : Int)) = true := by simp; omega
                have hwr : wrap1 n q = 0 := by unfold wrap1; rw [if_pos hw]
                rw [hwr] at HN
                go_wp2
                go_roundw
                case rel => exact ⟨j + 1, 0, by omega, by omega, by go_num, rfl, HN, B9⟩
                case measure => simp [intOf]; omega
              · have hw1 : ((q : Int) + 1 == (n : Int)) = false := by rw [beq_eq_false_iff_ne]; omega
                have hwr : wrap1 n q = q + 1 := by unfold wrap1; rw [if_neg hw]
                rw [hwr] at HN
                go_wp2
                go_roundw
                case rel => exact ⟨j + 1, q + 1, by omega, by omega, by go_num, by go_num, HN, B9⟩
                case measure => simp [intOf]; omega
          · have i2 : ((t.is : Int) == 1) = false := by rw [beq_eq_false_iff_ne]; omega
            have HN : Hid (fnd T ks (n - (j + 1)) (wrap1 n q) = r) := Lib.hid (by rw [← HF.out, HFS.out, if_neg hz0, if_neg (fun h => h1 h.1)])
            have B9 := HBz
            have f3 := e0
            clear HF HFS HBz HLr HKR
            generalize hti : t.is = ti at *
            by_cases hw : q + 1 = n
            · have hw1 : ((q : Int) + 1 == (n : Int)) = true := by simp; omega
              have hwr : wrap1 n q = 0 := by unfold wrap1; rw [if_pos hw]
              rw [hwr] at HN
              go_wp2
              go_roundw
              case rel => exact ⟨j + 1, 0, by omega, by omega, by go_num, rfl, HN, B9⟩
              case measure => simp [intOf]; omega
            · have hw1 : ((q : Int) + 1 == (n : Int)) = false := by rw [beq_eq_false_iff_ne]; omega
              have hwr : wrap1 n q = q + 1 := by unfold wrap1; rw [if_neg hw]
              rw [hwr] at HN
              go_wp2
              go_roundw
              case rel => exact ⟨j + 1, q + 1, by omega, by omega, by go_num, by go_num, HN, B9⟩
              case measure => simp [intOf]; omega
      · have hjn : j = n := by omega
        have j1 : ¬ (j : Int) < (n : Int) := by omega
        have HN : Hid (r = none) := Lib.hid (by rw [← HF.out, hjn, Nat.sub_self]; rfl)
        have B9 := Lib.hid (BB.out.trans (HBz.out.mono BB.out.size))
        clear HF
        go_wp2
        go_ret
        exact ⟨by rw [HN.out]; rfl, B9.out⟩
  · rw [if_neg hK]
    have hne : ((nk : Int) != K) = true := by simp [hK]
    go_enter Try.func39, Try.ntmps39
    go_wp2
    go_ret
    exact ⟨rfl, Below.refl _ _⟩
end Go.Proofs.Ytkaapphlnolelaa
