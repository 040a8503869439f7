/-
  Layer 11: an act with both (does): contract. Conditions: keys of 100 bytes, 99000 uses.
-/
import Derived.Test.YthappjbghlifbaaLruTwo
namespace Go.Proofs.Ythappjbghlifbaa
set_option maxRecDepth 100000
open Go.RowKit Ow Ro K2
set_option linter.unusedVariables false
set_option linter.unusedSimpArgs false
def DoesP (w0 : World) (X Y : Nat) (K M : Int) (b : Nat) (e : Ending) (w' : World) : Prop := e = .returned (.bool true) ∧ ∃ o, TW w0 X Y K M o (b + 1) w'
theorem DoesP.mk {w0 w' : World} {X Y : Nat} {K M : Int} {b : Nat} {o : KO} {e : Ending} (he : e = .returned (.bool true)) (h : TW w0 X Y K M o (b + 1) w') : DoesP w0 X Y K M b e w' := ⟨he, o, h⟩
set_option maxHeartbeats 4000000 in
theorem does_c {w0 w : World} {X Y : Nat} {K M : Int} {o : KO} {b : Nat} (h : TW w0 X Y K M o b w) (hb : b ≤ 99000) (kd c : Int) (ax : Option Addr) (n cx : Nat) (bs : List Int) (hk1 : -9223372036854775808 ≤ kd) (hk2 : kd ≤ 9223372036854775807)
    (hn : bs.length = n) (hn2 : n ≤ 100) (hby : ∀ b ∈ bs, 0 ≤ b ∧ b ≤ 255) (hr : Rd w0 w0.heap.size ax (bv bs)) :
    Calls Try.prog 10 #[.pointer (some ⟨X, 0, none⟩), .pointer (some ⟨Y, 0, none⟩), .agg #[.int .i64 kd, .int .i64 c, .slice ax n cx]] w (DoesP w0 X Y K M b) := by
  obtain ⟨A1, l1, p1, d1, b1⟩ := h.boxed #[.int .i64 kd, .int .i64 c, .slice ax n cx]
  have HLT := Lib.hid (lentb_any ax n cx bs hn (by omega) (w.alloc (.cells #[.int .i64 kd, .int .i64 c, .slice ax n cx] 29)) ((hr.below l1.below).mono l1.below.size))
  have HTL : Hid (∀ v z, OwnB (w.alloc (.cells #[.int .i64 kd, .int .i64 c, .slice ax n cx] 29)) v z (bs ++ mk5 5) → TL w0 X Y K M o o b v (bs ++ mk5 5) w.heap.size #[.int .i64 kd, .int .i64 c, .slice ax n cx] z) := Lib.hid (fun v z q => TL.of l1 p1 d1 b1 q)
  have HN := Lib.hid hn
  have HBY := Lib.hid hby
  have HR := Lib.hid hr
  have HPK := Lib.hid (fun z => pick6 kd hk1 hk2 z)
  have HOG : Hid (OG K M o) := Lib.hid (by obtain ⟨v, hx⟩ := p1; exact hx.good)
  clear l1 p1 d1 b1 h hn hby hr hk1 hk2
  go_enter Try.func10, Try.ntmps10
  go_wp2_with fail
  with_reducible refine HLT.out.mono ?_
  rintro e z1 ⟨v, rfl, q⟩
  obtain ⟨av, cv, rfl, cv1, cv2, _⟩ := own_form q.own
  have H1 := Lib.hid (HTL.out _ _ q)
  have hlen : (bs ++ mk5 5).length = n + 5 := by rw [List.length_append, mk5_len, HN.out]
  rw [hlen] at H1 cv1 ⊢
  have HZL : Hid ((bs ++ mk5 5).length = n + 5) := Lib.hid hlen
  have HZP : Hid ((bv (bs ++ mk5 5)).take n = bv bs) := Lib.hid (bv_pre11 bs _ n HN.out)
  obtain ⟨B, hB⟩ : ∃ B, w.heap.size = B := ⟨_, rfl⟩
  rw [hB] at H1 ⊢
  clear q HLT HTL hlen hB
  have b0 := H1.out.box 0
  have b1 := H1.out.box 1
  have b2 := H1.out.box 2
  simp only [List.getElem?_toArray, List.getElem?_cons_zero, List.getElem?_cons_succ] at b0 b1 b2
  have i2 : (n : Int) ≤ (cv : Int) := by omega
  have i3 : (0 : Int) ≤ (n : Int) := by omega
  go_wp2_with fail
  with_reducible refine (HPK.out z1).mono ?_
  rintro e z1' ⟨pk, rfl, hpk, rfl⟩
  clear HPK
  have key : pk = 0 ∨ pk = 1 ∨ pk = 2 ∨ pk = 3 ∨ pk = 4 ∨ pk = 5 := by omega
  clear hpk
  rcases key with rfl | rfl | rfl | rfl | rfl | rfl
  · obtain ⟨⟨⟨xs, gc⟩, er, o2⟩, hap⟩ : ∃ r, aput K M o bs c = r := ⟨_, rfl⟩
    have hxl := aput_len (c := c) (ks := bs) HOG.out
    rw [hap] at hxl
    dsimp only at hxl
    have HAP := Lib.hid hap
    clear hap
    go_wp2_with fail
    with_reducible refine (H1.out.pput HZL.out n cv bs HN.out HBY.out HZP.out c).mono ?_
    rintro e z2 ⟨u, rfl, q⟩
    rw [HAP.out] at q ⊢
    dsimp only at q ⊢
    obtain ⟨ua, uc, rfl⟩ : ∃ a c, u = .slice a xs.length c := by
      obtain ⟨A, _, _, _, _, _, g⟩ := q
      exact g.form
    have H2 := Lib.hid q
    clear q H1 b0 b1 b2
    have b0 := H2.out.box 0
    have b1 := H2.out.box 1
    have b2 := H2.out.box 2
    simp only [List.getElem?_toArray, List.getElem?_cons_zero, List.getElem?_cons_succ] at b0 b1 b2
    unfold putV
    go_wp2_with fail
    with_reducible refine (H2.out.rput (by omega) ax n cx bs HN.out (by omega) HBY.out HR.out c).mono ?_
    rintro e z3 ⟨⟨ra, rc, rfl, hrd⟩, q⟩
    rw [HAP.out] at q hrd ⊢
    dsimp only at q hrd ⊢
    have H3 := Lib.hid q
    have HRD := Lib.hid hrd
    clear q hrd H2 b0 b1 b2
    have b0 := H3.out.box 0
    have b1 := H3.out.box 1
    have b2 := H3.out.box 2
    simp only [List.getElem?_toArray, List.getElem?_cons_zero, List.getElem?_cons_succ] at b0 b1 b2
    obtain ⟨m, hm⟩ : ∃ m, xs.length = m := ⟨_, rfl⟩
    have HM := Lib.hid hm
    rw [hm] at hxl H3 ⊢
    clear hm
    unfold putV
    go_wp2_with fail
    with_reducible refine (H3.out.same HM.out hxl HRD.out).mono ?_
    rintro e z4 ⟨rfl, q⟩
    have H4 := Lib.hid q
    clear q H3 HRD b0 b1 b2
    have b0 := H4.out.box 0
    have b1 := H4.out.box 1
    have b2 := H4.out.box 2
    simp only [List.getElem?_toArray, List.getElem?_cons_zero, List.getElem?_cons_succ] at b0 b1 b2
    go_wp2_with fail
    with_reducible refine (H4.out.spoil (by rw [HM.out]; exact hxl)).mono ?_
    rintro e z5 ⟨rfl, q⟩
    have HE := Lib.hid q
    clear q H4 b0 b1 b2
    have b0 := HE.out.box 0
    have b1 := HE.out.box 1
    have b2 := HE.out.box 2
    simp only [List.getElem?_toArray, List.getElem?_cons_zero, List.getElem?_cons_succ] at b0 b1 b2
    have HK := Lib.hid (keptb_any av ax n (n + 5) cv cx bs rfl HN.out (by omega) (by omega) _ HE.out.rd ((HR.out.below HE.out.below).mono HE.out.below.size))
    go_wp2_with fail
    with_reducible refine HK.out.mono ?_
    rintro e z8 ⟨rfl, q⟩
    have HF := Lib.hid (HE.out.grow q)
    clear q HE HK b0 b1 b2
    go_wp2_with fail
    with_reducible refine (HF.out.spoil (by rw [HZL.out]; omega)).mono ?_
    rintro e z9 ⟨rfl, q⟩
    have HG := Lib.hid q
    clear q HF
    go_wp2
    go_ret
    exact DoesP.mk rfl HG.out
  · obtain ⟨⟨⟨xs, gc⟩, er, o2⟩, hap⟩ : ∃ r, aput K M o bs c = r := ⟨_, rfl⟩
    have hxl := aput_len (c := c) (ks := bs) HOG.out
    rw [hap] at hxl
    dsimp only at hxl
    have HAP := Lib.hid hap
    clear hap
    go_wp2_with fail
    with_reducible refine (H1.out.pput HZL.out n cv bs HN.out HBY.out HZP.out c).mono ?_
    rintro e z2 ⟨u, rfl, q⟩
    rw [HAP.out] at q ⊢
    dsimp only at q ⊢
    obtain ⟨ua, uc, rfl⟩ : ∃ a c, u = .slice a xs.length c := by
      obtain ⟨A, _, _, _, _, _, g⟩ := q
      exact g.form
    have H2 := Lib.hid q
    clear q H1 b0 b1 b2
    have b0 := H2.out.box 0
    have b1 := H2.out.box 1
    have b2 := H2.out.box 2
    simp only [List.getElem?_toArray, List.getElem?_cons_zero, List.getElem?_cons_succ] at b0 b1 b2
    unfold putV
    go_wp2_with fail
    with_reducible refine (H2.out.rput (by omega) ax n cx bs HN.out (by omega) HBY.out HR.out c).mono ?_
    rintro e z3 ⟨⟨ra, rc, rfl, hrd⟩, q⟩
    rw [HAP.out] at q hrd ⊢
    dsimp only at q hrd ⊢
    have H3 := Lib.hid q
    have HRD := Lib.hid hrd
    clear q hrd H2 b0 b1 b2
    have b0 := H3.out.box 0
    have b1 := H3.out.box 1
    have b2 := H3.out.box 2
    simp only [List.getElem?_toArray, List.getElem?_cons_zero, List.getElem?_cons_succ] at b0 b1 b2
    obtain ⟨m, hm⟩ : ∃ m, xs.length = m := ⟨_, rfl⟩
    have HM := Lib.hid hm
    rw [hm] at hxl H3 ⊢
    clear hm
    unfold putV
    go_wp2_with fail
    with_reducible refine (H3.out.same HM.out hxl HRD.out).mono ?_
    rintro e z4 ⟨rfl, q⟩
    have H4 := Lib.hid q
    clear q H3 HRD b0 b1 b2
    have b0 := H4.out.box 0
    have b1 := H4.out.box 1
    have b2 := H4.out.box 2
    simp only [List.getElem?_toArray, List.getElem?_cons_zero, List.getElem?_cons_succ] at b0 b1 b2
    go_wp2_with fail
    with_reducible refine (H4.out.spoil (by rw [HM.out]; exact hxl)).mono ?_
    rintro e z5 ⟨rfl, q⟩
    have HE := Lib.hid q
    clear q H4 b0 b1 b2
    have b0 := HE.out.box 0
    have b1 := HE.out.box 1
    have b2 := HE.out.box 2
    simp only [List.getElem?_toArray, List.getElem?_cons_zero, List.getElem?_cons_succ] at b0 b1 b2
    have HK := Lib.hid (keptb_any av ax n (n + 5) cv cx bs rfl HN.out (by omega) (by omega) _ HE.out.rd ((HR.out.below HE.out.below).mono HE.out.below.size))
    go_wp2_with fail
    with_reducible refine HK.out.mono ?_
    rintro e z8 ⟨rfl, q⟩
    have HF := Lib.hid (HE.out.grow q)
    clear q HE HK b0 b1 b2
    go_wp2_with fail
    with_reducible refine (HF.out.spoil (by rw [HZL.out]; omega)).mono ?_
    rintro e z9 ⟨rfl, q⟩
    have HG := Lib.hid q
    clear q HF
    go_wp2
    go_ret
    exact DoesP.mk rfl HG.out
  · obtain ⟨⟨⟨xs, gc⟩, er, o2⟩, hap⟩ : ∃ r, aput K M o bs c = r := ⟨_, rfl⟩
    have hxl := aput_len (c := c) (ks := bs) HOG.out
    rw [hap] at hxl
    dsimp only at hxl
    have HAP := Lib.hid hap
    clear hap
    go_wp2_with fail
    with_reducible refine (H1.out.pput HZL.out n cv bs HN.out HBY.out HZP.out c).mono ?_
    rintro e z2 ⟨u, rfl, q⟩
    rw [HAP.out] at q ⊢
    dsimp only at q ⊢
    obtain ⟨ua, uc, rfl⟩ : ∃ a c, u = .slice a xs.length c := by
      obtain ⟨A, _, _, _, _, _, g⟩ := q
      exact g.form
    have H2 := Lib.hid q
    clear q H1 b0 b1 b2
    have b0 := H2.out.box 0
    have b1 := H2.out.box 1
    have b2 := H2.out.box 2
    simp only [List.getElem?_toArray, List.getElem?_cons_zero, List.getElem?_cons_succ] at b0 b1 b2
    unfold putV
    go_wp2_with fail
    with_reducible refine (H2.out.rput (by omega) ax n cx bs HN.out (by omega) HBY.out HR.out c).mono ?_
    rintro e z3 ⟨⟨ra, rc, rfl, hrd⟩, q⟩
    rw [HAP.out] at q hrd ⊢
    dsimp only at q hrd ⊢
    have H3 := Lib.hid q
    have HRD := Lib.hid hrd
    clear q hrd H2 b0 b1 b2
    have b0 := H3.out.box 0
    have b1 := H3.out.box 1
    have b2 := H3.out.box 2
    simp only [List.getElem?_toArray, List.getElem?_cons_zero, List.getElem?_cons_succ] at b0 b1 b2
    obtain ⟨m, hm⟩ : ∃ m, xs.length = m := ⟨_, rfl⟩
    have HM := Lib.hid hm
    rw [hm] at hxl H3 ⊢
    clear hm
    unfold putV
    go_wp2_with fail
    with_reducible refine (H3.out.same HM.out hxl HRD.out).mono ?_
    rintro e z4 ⟨rfl, q⟩
    have H4 := Lib.hid q
    clear q H3 HRD b0 b1 b2
    have b0 := H4.out.box 0
    have b1 := H4.out.box 1
    have b2 := H4.out.box 2
    simp only [List.getElem?_toArray, List.getElem?_cons_zero, List.getElem?_cons_succ] at b0 b1 b2
    go_wp2_with fail
    with_reducible refine (H4.out.spoil (by rw [HM.out]; exact hxl)).mono ?_
    rintro e z5 ⟨rfl, q⟩
    have HE := Lib.hid q
    clear q H4 b0 b1 b2
    have b0 := HE.out.box 0
    have b1 := HE.out.box 1
    have b2 := HE.out.box 2
    simp only [List.getElem?_toArray, List.getElem?_cons_zero, List.getElem?_cons_succ] at b0 b1 b2
    have HK := Lib.hid (keptb_any av ax n (n + 5) cv cx bs rfl HN.out (by omega) (by omega) _ HE.out.rd ((HR.out.below HE.out.below).mono HE.out.below.size))
    go_wp2_with fail
    with_reducible refine HK.out.mono ?_
    rintro e z8 ⟨rfl, q⟩
    have HF := Lib.hid (HE.out.grow q)
    clear q HE HK b0 b1 b2
    go_wp2_with fail
    with_reducible refine (HF.out.spoil (by rw [HZL.out]; omega)).mono ?_
    rintro e z9 ⟨rfl, q⟩
    have HG := Lib.hid q
    clear q HF
    go_wp2
    go_ret
    exact DoesP.mk rfl HG.out
  · obtain ⟨r, hrr⟩ : ∃ r, aget o bs = r := ⟨_, rfl⟩
    have HRR := Lib.hid hrr
    clear hrr
    go_wp2_with fail
    with_reducible refine (H1.out.pfind HZL.out n cv bs HN.out HBY.out HZP.out).mono ?_
    rintro e z2 ⟨rfl, q⟩
    have H2 := Lib.hid q
    clear q H1 b0 b1 b2
    rw [HRR.out]
    have b0 := H2.out.box 0
    have b1 := H2.out.box 1
    have b2 := H2.out.box 2
    simp only [List.getElem?_toArray, List.getElem?_cons_zero, List.getElem?_cons_succ] at b0 b1 b2
    cases r with
    | none =>
      unfold agetV
      go_wp2_with fail
      with_reducible refine (H2.out.rfind (by omega) ax n cx bs HN.out (by omega) HR.out).mono ?_
      rintro e z3 ⟨rfl, q⟩
      have HE := Lib.hid q
      clear q H2 b0 b1 b2
      rw [HRR.out]
      unfold agetV
      have b0 := HE.out.box 0
      have b1 := HE.out.box 1
      have b2 := HE.out.box 2
      simp only [List.getElem?_toArray, List.getElem?_cons_zero, List.getElem?_cons_succ] at b0 b1 b2
      have HK := Lib.hid (keptb_any av ax n (n + 5) cv cx bs rfl HN.out (by omega) (by omega) _ HE.out.rd ((HR.out.below HE.out.below).mono HE.out.below.size))
      go_wp2_with fail
      with_reducible refine HK.out.mono ?_
      rintro e z8 ⟨rfl, q⟩
      have HF := Lib.hid (HE.out.grow q)
      clear q HE HK b0 b1 b2
      go_wp2_with fail
      with_reducible refine (HF.out.spoil (by rw [HZL.out]; omega)).mono ?_
      rintro e z9 ⟨rfl, q⟩
      have HG := Lib.hid q
      clear q HF
      go_wp2
      go_ret
      exact DoesP.mk rfl HG.out
    | some cc =>
      unfold agetV
      go_wp2_with fail
      with_reducible refine (H2.out.rfind (by omega) ax n cx bs HN.out (by omega) HR.out).mono ?_
      rintro e z3 ⟨rfl, q⟩
      have HE := Lib.hid q
      clear q H2 b0 b1 b2
      rw [HRR.out]
      unfold agetV
      have b0 := HE.out.box 0
      have b1 := HE.out.box 1
      have b2 := HE.out.box 2
      simp only [List.getElem?_toArray, List.getElem?_cons_zero, List.getElem?_cons_succ] at b0 b1 b2
      have HK := Lib.hid (keptb_any av ax n (n + 5) cv cx bs rfl HN.out (by omega) (by omega) _ HE.out.rd ((HR.out.below HE.out.below).mono HE.out.below.size))
      go_wp2_with fail
      with_reducible refine HK.out.mono ?_
      rintro e z8 ⟨rfl, q⟩
      have HF := Lib.hid (HE.out.grow q)
      clear q HE HK b0 b1 b2
      go_wp2_with fail
      with_reducible refine (HF.out.spoil (by rw [HZL.out]; omega)).mono ?_
      rintro e z9 ⟨rfl, q⟩
      have HG := Lib.hid q
      clear q HF
      go_wp2
      go_ret
      exact DoesP.mk rfl HG.out
  · obtain ⟨r, hrr⟩ : ∃ r, aget o bs = r := ⟨_, rfl⟩
    have HRR := Lib.hid hrr
    clear hrr
    go_wp2_with fail
    with_reducible refine (H1.out.ppeek HZL.out n cv bs HN.out HBY.out HZP.out).mono ?_
    rintro e z2 ⟨rfl, q⟩
    have H2 := Lib.hid q
    clear q H1 b0 b1 b2
    rw [HRR.out]
    have b0 := H2.out.box 0
    have b1 := H2.out.box 1
    have b2 := H2.out.box 2
    simp only [List.getElem?_toArray, List.getElem?_cons_zero, List.getElem?_cons_succ] at b0 b1 b2
    cases r with
    | none =>
      unfold agetV
      go_wp2_with fail
      with_reducible refine (H2.out.rpeek ax n cx bs HN.out (by omega) HR.out).mono ?_
      rintro e z3 ⟨rfl, q⟩
      have HE := Lib.hid q.more
      clear q H2 b0 b1 b2
      rw [HRR.out]
      unfold agetV
      have b0 := HE.out.box 0
      have b1 := HE.out.box 1
      have b2 := HE.out.box 2
      simp only [List.getElem?_toArray, List.getElem?_cons_zero, List.getElem?_cons_succ] at b0 b1 b2
      have HK := Lib.hid (keptb_any av ax n (n + 5) cv cx bs rfl HN.out (by omega) (by omega) _ HE.out.rd ((HR.out.below HE.out.below).mono HE.out.below.size))
      go_wp2_with fail
      with_reducible refine HK.out.mono ?_
      rintro e z8 ⟨rfl, q⟩
      have HF := Lib.hid (HE.out.grow q)
      clear q HE HK b0 b1 b2
      go_wp2_with fail
      with_reducible refine (HF.out.spoil (by rw [HZL.out]; omega)).mono ?_
      rintro e z9 ⟨rfl, q⟩
      have HG := Lib.hid q
      clear q HF
      go_wp2
      go_ret
      exact DoesP.mk rfl HG.out
    | some cc =>
      unfold agetV
      go_wp2_with fail
      with_reducible refine (H2.out.rpeek ax n cx bs HN.out (by omega) HR.out).mono ?_
      rintro e z3 ⟨rfl, q⟩
      have HE := Lib.hid q.more
      clear q H2 b0 b1 b2
      rw [HRR.out]
      unfold agetV
      have b0 := HE.out.box 0
      have b1 := HE.out.box 1
      have b2 := HE.out.box 2
      simp only [List.getElem?_toArray, List.getElem?_cons_zero, List.getElem?_cons_succ] at b0 b1 b2
      have HK := Lib.hid (keptb_any av ax n (n + 5) cv cx bs rfl HN.out (by omega) (by omega) _ HE.out.rd ((HR.out.below HE.out.below).mono HE.out.below.size))
      go_wp2_with fail
      with_reducible refine HK.out.mono ?_
      rintro e z8 ⟨rfl, q⟩
      have HF := Lib.hid (HE.out.grow q)
      clear q HE HK b0 b1 b2
      go_wp2_with fail
      with_reducible refine (HF.out.spoil (by rw [HZL.out]; omega)).mono ?_
      rintro e z9 ⟨rfl, q⟩
      have HG := Lib.hid q
      clear q HF
      go_wp2
      go_ret
      exact DoesP.mk rfl HG.out
  · obtain ⟨r, hrr⟩ : ∃ r, aget o bs = r := ⟨_, rfl⟩
    have HRR := Lib.hid hrr
    clear hrr
    go_wp2_with fail
    with_reducible refine (H1.out.pdel HZL.out n cv bs HN.out HBY.out HZP.out).mono ?_
    rintro e z2 ⟨rfl, q⟩
    have H2 := Lib.hid q
    clear q H1 b0 b1 b2
    rw [HRR.out]
    have b0 := H2.out.box 0
    have b1 := H2.out.box 1
    have b2 := H2.out.box 2
    simp only [List.getElem?_toArray, List.getElem?_cons_zero, List.getElem?_cons_succ] at b0 b1 b2
    cases r with
    | none =>
      unfold agetV
      go_wp2_with fail
      with_reducible refine (H2.out.rdel ax n cx bs HN.out (by omega) HR.out).mono ?_
      rintro e z3 ⟨rfl, q⟩
      have HE := Lib.hid q.more
      clear q H2 b0 b1 b2
      rw [HRR.out]
      unfold agetV
      have b0 := HE.out.box 0
      have b1 := HE.out.box 1
      have b2 := HE.out.box 2
      simp only [List.getElem?_toArray, List.getElem?_cons_zero, List.getElem?_cons_succ] at b0 b1 b2
      have HK := Lib.hid (keptb_any av ax n (n + 5) cv cx bs rfl HN.out (by omega) (by omega) _ HE.out.rd ((HR.out.below HE.out.below).mono HE.out.below.size))
      go_wp2_with fail
      with_reducible refine HK.out.mono ?_
      rintro e z8 ⟨rfl, q⟩
      have HF := Lib.hid (HE.out.grow q)
      clear q HE HK b0 b1 b2
      go_wp2_with fail
      with_reducible refine (HF.out.spoil (by rw [HZL.out]; omega)).mono ?_
      rintro e z9 ⟨rfl, q⟩
      have HG := Lib.hid q
      clear q HF
      go_wp2
      go_ret
      exact DoesP.mk rfl HG.out
    | some cc =>
      unfold agetV
      go_wp2_with fail
      with_reducible refine (H2.out.rdel ax n cx bs HN.out (by omega) HR.out).mono ?_
      rintro e z3 ⟨rfl, q⟩
      have HE := Lib.hid q.more
      clear q H2 b0 b1 b2
      rw [HRR.out]
      unfold agetV
      have b0 := HE.out.box 0
      have b1 := HE.out.box 1
      have b2 := HE.out.box 2
      simp only [List.getElem?_toArray, List.getElem?_cons_zero, List.getElem?_cons_succ] at b0 b1 b2
      have HK := Lib.hid (keptb_any av ax n (n + 5) cv cx bs rfl HN.out (by omega) (by omega) _ HE.out.rd ((HR.out.below HE.out.below).mono HE.out.below.size))
      go_wp2_with fail
      with_reducible refine HK.out.mono ?_
      rintro e z8 ⟨rfl, q⟩
      have HF := Lib.hid (HE.out.grow q)
      clear q HE HK b0 b1 b2
      go_wp2_with fail
      with_reducible refine (HF.out.spoil (by rw [HZL.out]; omega)).mono ?_
      rintro e z9 ⟨rfl, q⟩
      have HG := Lib.hid q
      clear q HF
      go_wp2
      go_ret
      exact DoesP.mk rfl HG.out
end Go.Proofs.Ythappjbghlifbaa
