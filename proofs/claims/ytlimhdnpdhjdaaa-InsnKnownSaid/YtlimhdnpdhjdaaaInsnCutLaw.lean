/-
  Proved: the statement InsnCut: of bytes that are instructions, up to 400, a beginning that ends amid one of them is too short; one that ends between is those ahead. No conditions.
-/
import Derived.Test.YtlimhdnpdhjdaaaRows
import Derived.Test.YtlimhdnpdhjdaaaInsnOpen
import Derived.Test.YtlimhdnpdhjdaaaInsnCutMath
import Derived.WalkKit
import Derived.ProofKit
import Derived.OpenShut
import Derived.ChangeOld
import Derived.Below
namespace Go.Proofs.Ytlimhdnpdhjdaaa.insnCut
open Go.ChangeShapes Go.WideShapes Go.ChangeAt Go.RowKit Wi Ow
set_option linter.unusedVariables false
set_option linter.unusedSimpArgs false

theorem own : ownKnob Try.prog.godebug = none := by kernel_rfl
theorem laidOut : laidOutB Try.prog = true := by kernel_rfl

theorem len_snoc (L : List In) (k : Nat) (hk : k < L.length) : ((putB (L.take (k + 1))).length : Int) = ((putB (L.take k)).length : Int) + 8 * sizeV L[k].op := by
  have hs := sizeV_bd L[k].op
  have h := oneB_len L[k].op L[k].dst L[k].src L[k].off L[k].imm
  rw [putB_snoc L k hk, List.length_append]
  unfold In.bytes
  omega
theorem rdtake {w : World} {base cap c : Nat} {A : Option Addr} {l : List Int} (h : w.ownsRow base 5 1 (.slice A l.length cap) l.length (bv l)) : Rd w w.heap.size A (bv (l.take c)) := by
  have h1 := (Rd.of_own h).take c
  unfold bv at h1 ⊢
  rw [List.map_take]
  exact h1
theorem rdtakeI {w : World} {B : Nat} {A : Option Addr} {L : List In} (h : Rd w B A (iv L)) (k : Nat) : Rd w B A (iv (L.take k)) := by
  have h1 := h.take (5 * (L.take k).length)
  have e : (iv L).take (5 * (L.take k).length) = iv (L.take k) := by
    have hs : iv L = iv (L.take k) ++ iv (L.drop k) := by rw [← iv_app, List.take_append_drop]
    rw [hs, ← iv_len, List.take_left]
  rw [e] at h1
  exact h1
theorem pick_any (k n : Int) (h1 : -9223372036854775808 ≤ k) (h2 : k ≤ 9223372036854775807) (h3 : 1 ≤ n) (h4 : n ≤ 1000000) (w : World) :
    Calls Try.prog 31 #[.int .i64 k, .int .i64 n] w fun e w' => e = .returned (.int .i64 (k % n)) ∧ w = w' := by
  obtain ⟨t1, t2, t3, t4⟩ := tmod_fact k n h3
  have T3 := Lib.hid t3
  have T4 := Lib.hid t4
  clear t3 t4
  by_cases h0 : 0 ≤ k
  · have e : k.tmod n = k % n := Int.tmod_eq_emod_of_nonneg h0
    have b1 := Int.emod_nonneg k (show n ≠ 0 by omega)
    have b2 := Int.emod_lt_of_pos k (show 0 < n by omega)
    clear t1 t2 T3 T4 e
    go_enter Try.func31, Try.ntmps31
    go_wp2
    go_ret
    exact ⟨rfl, rfl⟩
  · have hz : (n == 0) = false := by simp; omega
    by_cases ht : 0 ≤ k.tmod n
    · go_enter Try.func31, Try.ntmps31
      go_wp2
      go_ret
      exact ⟨rt_i (T3.out ht).symm, rfl⟩
    · have ht' : k.tmod n < 0 := by omega
      clear ht
      go_enter Try.func31, Try.ntmps31
      go_wp2
      go_ret
      exact ⟨rt_i (T4.out ht').symm, rfl⟩

set_option maxRecDepth 100000 in
set_option maxHeartbeats 4000000 in
theorem walk (a0 : Option Addr) (len0 cap0 : Nat) (L0 : List In) (n1 : Int) (w : World) (l0 : L0.length = len0) (f0 : ∀ x ∈ L0, x.fits) (c0 : len0 ≤ cap0) (m0 : cap0 ≤ 9223372036854775807) (r0 : Rd w w.heap.size a0 (iv L0)) (w1 : (Lit.int .i64 n1).wf = true) :
    Calls Try.prog 9 #[.slice a0 len0 cap0, .int .i64 n1] w fun e w' => e = .returned (.bool true) ∧ Below w.heap.size w w' := by
  have HF := Lib.hid f0
  have HR := Lib.hid r0
  have HL := Lib.hid l0
  have hn := bounds_i64 w1
  clear f0 r0 l0 w1
  by_cases h400 : 400 < len0
  · go_enter Try.func9, Try.ntmps9
    go_wp2_with (go_at_call 17; refine (works_any _).mono ?_; rintro e w1 ⟨rfl, q1⟩)
    go_ret
    exact ⟨rfl, q1⟩
  have h400' : len0 ≤ 400 := by omega
  clear h400
  have C := put_any a0 len0 cap0 L0 HL.out HF.out (by omega) w HR.out
  by_cases he : putE L0 = 0
  · obtain ⟨p1, p2⟩ := putE_ok L0 he
    have hO : putO L0 = putB L0 := putO_of L0 he
    have hok : okL L0 := fun x hx => ⟨firstE_ok L0 p2 x hx, HF.out x hx⟩
    have HOK := Lib.hid hok
    have HP1 := Lib.hid p1
    have HBY : Hid (isB (putB L0)) := Lib.hid (putB_isB L0 hok)
    rw [he, hO] at C
    have CC := Lib.hid C
    have hle : (putB L0).length ≤ 6400 := by have := putB_le L0; have := HL.out; omega
    have hmod1 := Int.emod_nonneg n1 (show ((putB L0).length : Int) + 1 ≠ 0 by omega)
    have hmod2 := Int.emod_lt_of_pos n1 (show (0 : Int) < ((putB L0).length : Int) + 1 by omega)
    obtain ⟨c, hc⟩ : ∃ c : Nat, n1 % (((putB L0).length : Int) + 1) = (c : Int) := ⟨(n1 % (((putB L0).length : Int) + 1)).toNat, by omega⟩
    have hcP : c ≤ (putB L0).length := by omega
    have HPK := Lib.hid (pick_any n1 (((putB L0).length : Int) + 1) hn.1 hn.2 (by omega) (by omega))
    rw [hc] at HPK
    clear C p1 p2 hO hok he hmod1 hmod2 hc
    go_enter Try.func9, Try.ntmps9
    go_wp2_with fail
    refine CC.out.mono ?_
    rintro e w1 ⟨vb, rfl, o1, q⟩
    obtain ⟨A1, k1, rfl, hk1, hm1, _⟩ := own_form o1
    have O1 := Lib.hid o1
    have B1 := Lib.hid q
    clear q o1 CC
    unfold maxLen at hm1
    go_wp2_with fail
    refine (HPK.out _).mono ?_
    rintro e w' ⟨rfl, rfl⟩
    clear HPK
    go_wp2
    go_loopw [7, 8] (fun n i wr => ∃ k : Nat, k ≤ len0 ∧ i = .int .i64 k ∧ n = .int .i64 ((putB (L0.take k)).length : Int) ∧ (putB (L0.take k)).length ≤ c ∧ Hid (Below w.heap.size w wr) ∧ Hid (wr.ownsRow w.heap.size 5 1 (.slice A1 (putB L0).length k1) (putB L0).length (bv (putB L0)))) (fun _ i _ => len0 - (intOf i).toNat)
    case atStart => exact ⟨0, Nat.zero_le _, rfl, rfl, Nat.zero_le _, B1, O1⟩
    case round =>
      clear B1 O1
      obtain ⟨k, hk, rfl, rfl, hkc, hb, ho⟩ := hrel
      by_cases hlt : k < len0
      · have hkl : k < L0.length := by rw [HL.out]; exact hlt
        have HS := Lib.hid (len_snoc L0 k hkl)
        have hsv := sizeV_bd L0[k].op
        have HSH := Lib.hid (cut_short L0 HOK.out HP1.out k c hkl)
        have HEV := Lib.hid (cut_even L0 HOK.out HP1.out k)
        have HC : Hid (∀ w' : World, Below w.heap.size w w' → ∃ ad : Addr, a0 = some ad ∧ w'.cell? (ad.add (k * 5)) = some (.int .i64 L0[k].op) ∧ w'.cell? ⟨(ad.add (k * 5)).block, (ad.add (k * 5)).off + 1, none⟩ = some (.int .i64 L0[k].dst) ∧ w'.cell? ⟨(ad.add (k * 5)).block, (ad.add (k * 5)).off + 2, none⟩ = some (.int .i64 L0[k].src) ∧ w'.cell? ⟨(ad.add (k * 5)).block, (ad.add (k * 5)).off + 3, none⟩ = some (.int .i64 L0[k].off) ∧ w'.cell? ⟨(ad.add (k * 5)).block, (ad.add (k * 5)).off + 4, none⟩ = some (.int .i64 L0[k].imm)) :=
          Lib.hid fun w' hw' => by
            obtain ⟨ad, e, _, hc⟩ := (HR.out.below hw') (by rw [iv_len]; omega)
            exact ⟨ad, e, ins_cells hc hkl⟩
        generalize L0[k] = x at *
        clear hkl
        obtain ⟨ad, had, c0, c1, c2, c3, c4⟩ := HC.out wr hb.out
        subst had
        by_cases hfit : ((putB (L0.take k)).length : Int) + 8 * sizeV x.op ≤ (c : Int)
        · go_wp2_with fail
          refine (size_any _ _ _ _ _ _).mono ?_
          rintro e w2 ⟨rfl, q⟩
          have B2 := Lib.hid (below_then hb.out q (Nat.le_refl _))
          have O2 := Lib.hid (own_below ho.out q)
          clear q hb ho c0 c1 c2 c3 c4 HSH HEV
          obtain ⟨ad', had, c0, c1, c2, c3, c4⟩ := HC.out w2 B2.out
          obtain rfl : ad = ad' := by injection had
          clear had
          go_wp2_with fail
          refine (size_any _ _ _ _ _ _).mono ?_
          rintro e w3 ⟨rfl, q⟩
          have B3 := Lib.hid (below_then B2.out q (Nat.le_refl _))
          have O3 := Lib.hid (own_below O2.out q)
          clear q B2 O2 c0 c1 c2 c3 c4
          go_wp2
          go_roundw
          case rel => exact ⟨k + 1, by omega, by go_num, by rw [HS.out], by have := HS.out; omega, B3, O3⟩
          case measure => simp [intOf]; omega
        · have HQ : Hid ((getE ((putB L0).take c) = 0 ∧ getO ((putB L0).take c) = L0.take k ∧ (putB (L0.take k)).length = c) ∨ (getE ((putB L0).take c) = 2 ∧ getO ((putB L0).take c) = [] ∧ (putB (L0.take k)).length ≠ c)) := Lib.hid (by
            by_cases hq : (putB (L0.take k)).length = c
            · left
              have h := HEV.out
              rw [hq] at h
              exact ⟨h.1, h.2, hq⟩
            · right
              have h := HSH.out (by omega) (by omega)
              exact ⟨h.1, h.2, hq⟩)
          go_wp2_with fail
          refine (size_any _ _ _ _ _ _).mono ?_
          rintro e w2 ⟨rfl, q⟩
          have hb2 := Lib.hid (below_then hb.out q (Nat.le_refl _))
          have ho2 := Lib.hid (own_below ho.out q)
          clear q hb ho c0 c1 c2 c3 c4 HSH HEV HS
          have hb := hb2
          have ho := ho2
          clear hb2 ho2
          rcases HQ.out with ⟨g1, g2, g3⟩ | ⟨g1, g2, g3⟩
          · have G1 := Lib.hid g1
            have G2 := Lib.hid g2
            have g3' : (((putB (L0.take k)).length : Int) != (c : Int)) = false := by simp; omega
            clear g1 g2 g3 HQ
            go_wp2_with fail
            refine (get_any A1 c k1 ((putB L0).take c) (by rw [List.length_take]; omega) (by omega) hm1 (fun b hb' => HBY.out b (List.mem_of_mem_take hb')) _ (rdtake ho.out)).mono ?_
            rintro e w4 ⟨vx, rfl, o2, q⟩
            rw [G2.out] at o2
            rw [G1.out]
            have hlt2 : (L0.take k).length = k := by rw [List.length_take, HL.out]; omega
            rw [hlt2] at o2
            obtain ⟨A2, k2, rfl, hk2, hm2, _⟩ := own_form o2
            have R2 := Lib.hid (Rd.of_own (cap := k2) (A := A2) (n := k) (xs := iv (L0.take k)) o2)
            have B2 := Lib.hid (below_then hb.out q (Nat.le_refl _))
            have HT2 := Lib.hid hlt2
            clear q o2 hb ho hlt2
            unfold maxLen at hm2
            go_wp2_with fail
            refine (sameinsns_any A2 _ k k k2 cap0 (L0.take k) (L0.take k) HT2.out HT2.out (by omega) (by omega) w4 R2.out (((rdtakeI HR.out k).below B2.out).mono B2.out.size)).mono ?_
            rintro e w5 ⟨rfl, q⟩
            rw [decide_eq_true rfl]
            have B3 := Lib.hid (below_then B2.out q (Nat.le_refl _))
            clear q R2 B2
            go_wp2_with fail
            refine (works_any _).mono ?_
            rintro e w6 ⟨rfl, q⟩
            have B4 := Lib.hid (below_then B3.out q (Nat.le_refl _))
            clear q
            go_wp2
            go_ret
            exact ⟨rfl, B4.out⟩
          · have G1 := Lib.hid g1
            have G2 := Lib.hid g2
            have g3' : (((putB (L0.take k)).length : Int) != (c : Int)) = true := by simp; omega
            clear g1 g2 g3 HQ
            go_wp2_with fail
            refine (get_any A1 c k1 ((putB L0).take c) (by rw [List.length_take]; omega) (by omega) hm1 (fun b hb' => HBY.out b (List.mem_of_mem_take hb')) _ (rdtake ho.out)).mono ?_
            rintro e w4 ⟨vx, rfl, o2, q⟩
            rw [G2.out] at o2
            rw [G1.out]
            obtain ⟨A2, k2, rfl, hk2, hm2, _⟩ := own_form o2
            have B2 := Lib.hid (below_then hb.out q (Nat.le_refl _))
            clear q o2 hb ho
            go_wp2_with fail
            refine (works_any _).mono ?_
            rintro e w6 ⟨rfl, q⟩
            have B4 := Lib.hid (below_then B2.out q (Nat.le_refl _))
            clear q
            go_wp2
            go_ret
            exact ⟨rfl, B4.out⟩
      · have HQ : Hid ((getE ((putB L0).take c) = 0 ∧ getO ((putB L0).take c) = L0.take k ∧ (putB (L0.take k)).length = c) ∨ (getE ((putB L0).take c) = 2 ∧ getO ((putB L0).take c) = [] ∧ (putB (L0.take k)).length ≠ c)) := Lib.hid (by
          left
          have e3 : L0.take k = L0 := List.take_of_length_le (by rw [HL.out]; omega)
          have hq : (putB (L0.take k)).length = c := by rw [e3] at hkc ⊢; omega
          have h := cut_even L0 HOK.out HP1.out k
          rw [hq] at h
          exact ⟨h.1, h.2, hq⟩)
        rcases HQ.out with ⟨g1, g2, g3⟩ | ⟨g1, g2, g3⟩
        · have G1 := Lib.hid g1
          have G2 := Lib.hid g2
          have g3' : (((putB (L0.take k)).length : Int) != (c : Int)) = false := by simp; omega
          clear g1 g2 g3 HQ
          go_wp2_with fail
          refine (get_any A1 c k1 ((putB L0).take c) (by rw [List.length_take]; omega) (by omega) hm1 (fun b hb' => HBY.out b (List.mem_of_mem_take hb')) _ (rdtake ho.out)).mono ?_
          rintro e w4 ⟨vx, rfl, o2, q⟩
          rw [G2.out] at o2
          rw [G1.out]
          have hlt2 : (L0.take k).length = k := by rw [List.length_take, HL.out]; omega
          rw [hlt2] at o2
          obtain ⟨A2, k2, rfl, hk2, hm2, _⟩ := own_form o2
          have R2 := Lib.hid (Rd.of_own (cap := k2) (A := A2) (n := k) (xs := iv (L0.take k)) o2)
          have B2 := Lib.hid (below_then hb.out q (Nat.le_refl _))
          have HT2 := Lib.hid hlt2
          clear q o2 hb ho hlt2
          unfold maxLen at hm2
          go_wp2_with fail
          refine (sameinsns_any A2 _ k k k2 cap0 (L0.take k) (L0.take k) HT2.out HT2.out (by omega) (by omega) w4 R2.out (((rdtakeI HR.out k).below B2.out).mono B2.out.size)).mono ?_
          rintro e w5 ⟨rfl, q⟩
          rw [decide_eq_true rfl]
          have B3 := Lib.hid (below_then B2.out q (Nat.le_refl _))
          clear q R2 B2
          go_wp2_with fail
          refine (works_any _).mono ?_
          rintro e w6 ⟨rfl, q⟩
          have B4 := Lib.hid (below_then B3.out q (Nat.le_refl _))
          clear q
          go_wp2
          go_ret
          exact ⟨rfl, B4.out⟩
        · have G1 := Lib.hid g1
          have G2 := Lib.hid g2
          have g3' : (((putB (L0.take k)).length : Int) != (c : Int)) = true := by simp; omega
          clear g1 g2 g3 HQ
          go_wp2_with fail
          refine (get_any A1 c k1 ((putB L0).take c) (by rw [List.length_take]; omega) (by omega) hm1 (fun b hb' => HBY.out b (List.mem_of_mem_take hb')) _ (rdtake ho.out)).mono ?_
          rintro e w4 ⟨vx, rfl, o2, q⟩
          rw [G2.out] at o2
          rw [G1.out]
          obtain ⟨A2, k2, rfl, hk2, hm2, _⟩ := own_form o2
          have B2 := Lib.hid (below_then hb.out q (Nat.le_refl _))
          clear q o2 hb ho
          go_wp2_with fail
          refine (works_any _).mono ?_
          rintro e w6 ⟨rfl, q⟩
          have B4 := Lib.hid (below_then B2.out q (Nat.le_refl _))
          clear q
          go_wp2
          go_ret
          exact ⟨rfl, B4.out⟩
  · have CC := Lib.hid C
    have ez : (putE L0 != 0) = true := bne_iff_ne.2 he
    clear C he
    go_enter Try.func9, Try.ntmps9
    go_wp2_with fail
    refine CC.out.mono ?_
    rintro e w1 ⟨vl, rfl, o1, q⟩
    have B1 := Lib.hid q
    clear q o1 CC
    go_wp2_with fail
    refine (works_any _).mono ?_
    rintro e w4 ⟨rfl, q⟩
    have B4 := Lib.hid (below_then B1.out q (Nat.le_refl _))
    clear q
    go_wp2
    go_ret
    exact ⟨rfl, B4.out⟩

set_option maxRecDepth 100000 in
theorem lifted (os : Os) (started : os.Started) (H : Type) (enc : TypeId × Value → H) :
    ReturnsInHanded {} Try.checked os 9 .any (Rows.insnCutSpec.pre6 enc Try.prog Try.f9 Rows.insnCutRow.domain false) (Rows.insnCutSpec.post enc Try.prog Try.f9 false true false false) := by
  refine returnsInHanded_of_change (C := Try.checked) own started (by kernel_rfl) Try.func9
    (ChangeSpec.witness6 (enc := enc) (C := Try.checked) false ⟨#[], #[.slice none 0 0, .int .i64 0], []⟩ 8 (by kernel_rfl) (by kernel_rfl) (by kernel_rfl) (by kernel_rfl)) ?_
  intro W base args ds gs before hval0 hW hcnd _
  have hval : ∀ (j : Nat) t v, Try.f9.params[j]? = some t → args[j]? = some v → Value.okWide Try.prog W .any base t v := hval0
  have hW' := hW
  obtain ⟨p, q, hA0, hV, rfl, hfz, hnd⟩ := hW
  have hA : DataW.TrodAll enc Try.prog W 0 (fun _ => true) true Try.f9.params.toList args.toList ds p := hA0
  rw [Try.params9] at hA hval
  obtain ⟨v0, vs0, d0, ds0, p0, q0, hargs, rfl, rfl, h0, r0⟩ := trodAll_cons hA
  obtain ⟨v1, vs1, d1, ds1, p1, q1, rfl, rfl, rfl, h1, r1⟩ := trodAll_cons r0
  obtain ⟨rfl, rfl, rfl⟩ := trodAll_nil r1
  obtain rfl : args = #[v0, v1] := by cases args; simp_all
  obtain ⟨rfl, rfl⟩ := trodVars_none hV
  obtain ⟨a0, len0, cap0, rfl⟩ := okWide_slice Try.underlying29 (hval 0 29 v0 rfl rfl)
  have k0 := h0
  have lt0 : ∀ x ∈ p0, x.block < W.heap.size := by obtain ⟨m, hm⟩ := k0; exact DataW.trod_lt m _ _ _ hm
  obtain ⟨L0, l0, f0, c0, m0, rr0⟩ := open_insns h0
  obtain ⟨n1, rfl, rfl, rfl, w1⟩ := open_int Try.underlying3 (hval 1 3 v1 rfl rfl) h1
  clear hA0 hval0
  refine (walk a0 len0 cap0 L0 n1 W l0 f0 c0 m0 rr0 w1).mono fun e W' ⟨he, bel⟩ => ?_
  subst he
  exact ⟨_, rfl, _, _, _, [], _, [], hW', trodAll_mk1 (shut_bool Try.underlying4 _), (trodAll_cons_mk (Below.trod laidOut (by kernel_rfl) (of_decide_eq_true (by kernel_rfl)) k0 bel lt0) (trodAll_cons_mk (shut_int Try.underlying3 w1) trodAll_mk0)), rfl, bel.frame _, fun h => by cases h⟩

theorem over : Rows.insnCutRow.holds Try.pinned (OpenSpec.ofChange Rows.insnCutSpec) :=
  OpenClaim.holds_of_wide 9 Try.f9 rfl rfl rfl rfl rfl rfl rfl ⟨rfl, rfl, rfl, rfl, rfl⟩ rfl rfl rfl rfl rfl (by kernel_rfl) Try.func9 (by kernel_rfl)
    (of_decide_eq_true (by kernel_rfl)) (by unfold Func.isWrapper; first | (rw [if_pos (by decide +kernel)]; kernel_rfl) | (rw [if_neg (by decide +kernel)]; exact ⟨rfl, rfl⟩))
    (fun os started H enc _ => lifted os started H enc)

theorem proved : Rows.InsnCutSaid := over
#print axioms proved
end Go.Proofs.Ytlimhdnpdhjdaaa.insnCut
