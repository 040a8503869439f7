/-
  Proved: the statement InsnApart: unlike instructions, up to 100 in each list, have unlike bytes; what stands ahead of them, and behind, does not change theirs. No conditions.
-/
import Derived.Test.YtlcakbaffphchaaRows
import Derived.Test.YtlcakbaffphchaaInsnOpen
import Derived.Test.YtlcakbaffphchaaInsnCutMath
import Derived.WalkKit
import Derived.ProofKit
import Derived.OpenShut
import Derived.ChangeOld
import Derived.Below
namespace Go.Proofs.Ytlcakbaffphchaa.insnApart
open Go.ChangeShapes Go.WideShapes Go.ChangeAt Go.RowKit Wi Ow
set_option linter.unusedVariables false
set_option linter.unusedSimpArgs false

theorem own : ownKnob Try.prog.godebug = none := by kernel_rfl
theorem laidOut : laidOutB Try.prog = true := by kernel_rfl

theorem okL_app (a b : List In) (ha : okL a) (hb : okL b) : okL (a ++ b) := fun x hx => by
  rcases List.mem_append.1 hx with h | h
  · exact ha x h
  · exact hb x h
theorem same_iff (a b : List In) (ha : okL a) (hb : okL b) (la : a.length ≤ 256) (lb : b.length ≤ 256) : decide (putB a = putB b) = decide (a = b) := by
  by_cases h : a = b
  · subst h; simp
  · have hn : putB a ≠ putB b := by
      intro e
      have h1 := (get_put a ha la).2
      have h2 := (get_put b hb lb).2
      rw [e, h2] at h1
      exact h h1.symm
    simp [h, hn]
theorem rd_head {w : World} {base cap : Nat} {A : Option Addr} {l m : List Int} (h : w.ownsRow base 5 1 (.slice A (l ++ m).length cap) (l ++ m).length (bv (l ++ m))) : Rd w w.heap.size A (bv l) := rd_lentb h

set_option maxRecDepth 100000 in
set_option maxHeartbeats 4000000 in
theorem walk (a0 : Option Addr) (len0 cap0 : Nat) (L0 : List In) (a1 : Option Addr) (len1 cap1 : Nat) (L1 : List In) (w : World) (l0 : L0.length = len0) (f0 : ∀ x ∈ L0, x.fits) (c0 : len0 ≤ cap0) (m0 : cap0 ≤ 9223372036854775807) (r0 : Rd w w.heap.size a0 (iv L0)) (l1 : L1.length = len1) (f1 : ∀ x ∈ L1, x.fits) (c1 : len1 ≤ cap1) (m1 : cap1 ≤ 9223372036854775807) (r1 : Rd w w.heap.size a1 (iv L1)) :
    Calls Try.prog 8 #[.slice a0 len0 cap0, .slice a1 len1 cap1] w fun e w' => e = .returned (.bool true) ∧ Below w.heap.size w w' := by
  have HF := Lib.hid f0
  have HR := Lib.hid r0
  have HL := Lib.hid l0
  have HF1 := Lib.hid f1
  have HR1 := Lib.hid r1
  have HL1 := Lib.hid l1
  clear f0 r0 l0 f1 r1 l1
  by_cases h100 : 100 < len0
  · go_enter Try.func8, Try.ntmps8
    go_wp2_with (go_at_call 17; refine (works_any _).mono ?_; rintro e w1 ⟨rfl, q1⟩)
    go_ret
    exact ⟨rfl, q1⟩
  have h100' : len0 ≤ 100 := by omega
  clear h100
  by_cases g100 : 100 < len1
  · go_enter Try.func8, Try.ntmps8
    go_wp2_with (go_at_call 17; refine (works_any _).mono ?_; rintro e w1 ⟨rfl, q1⟩)
    go_ret
    exact ⟨rfl, q1⟩
  have g100' : len1 ≤ 100 := by omega
  clear g100
  by_cases he : putE L0 = 0
  · by_cases hf : putE L1 = 0
    · obtain ⟨p1, p2⟩ := putE_ok L0 he
      obtain ⟨p3, p4⟩ := putE_ok L1 hf
      have hok : okL L0 := fun x hx => ⟨firstE_ok L0 p2 x hx, HF.out x hx⟩
      have hok1 : okL L1 := fun x hx => ⟨firstE_ok L1 p4 x hx, HF1.out x hx⟩
      have HSI := Lib.hid (same_iff L0 L1 hok hok1 p1 p3)
      have hE3 : putE (L0 ++ L1) = 0 := putE_of _ (by rw [List.length_append, HL.out, HL1.out]; omega) (firstE_of _ fun x hx => (okL_app L0 L1 hok hok1 x hx).1)
      have HE3 := Lib.hid hE3
      have HO3 : Hid (putO (L0 ++ L1) = putB L0 ++ putB L1) := Lib.hid (by rw [putO_of _ hE3, putB_app])
      have HF3 : Hid (∀ x ∈ L0 ++ L1, x.fits) := Lib.hid fun x hx => (okL_app L0 L1 hok hok1 x hx).2
      have hO : putO L0 = putB L0 := putO_of L0 he
      have hO1 : putO L1 = putB L1 := putO_of L1 hf
      have HO := Lib.hid hO
      have HO1 := Lib.hid hO1
      have HE := Lib.hid he
      have HE1 := Lib.hid hf
      have hle : (putB L0).length ≤ 1600 := by have := putB_le L0; have := HL.out; omega
      have hle1 : (putB L1).length ≤ 1600 := by have := putB_le L1; have := HL1.out; omega
      clear hO hO1 hE3 hok hok1 p1 p2 p3 p4 he hf
      obtain ⟨i0, hi0, hz0, hz1, hz2⟩ := info_parts insn_info
      go_enter Try.func8, Try.ntmps8
      go_wp2_with fail
      refine (put_any a0 len0 cap0 L0 HL.out HF.out (by omega) _ HR.out).mono ?_
      rintro e w1 ⟨vx, rfl, o1, q⟩
      rw [HO.out] at o1
      rw [HE.out]
      obtain ⟨Ax, kx, rfl, hkx, hmx, _⟩ := own_form o1
      have OX := Lib.hid o1
      have B1 := Lib.hid q
      clear o1 q
      go_wp2_with fail
      refine (put_any a1 len1 cap1 L1 HL1.out HF1.out (by omega) _ ((HR1.out.below B1.out).mono B1.out.size)).mono ?_
      rintro e w2 ⟨vy, rfl, o1, q⟩
      rw [HO1.out] at o1
      rw [HE1.out]
      obtain ⟨Ay, ky, rfl, hky, hmy, _⟩ := own_form o1
      have OY2 := Lib.hid o1
      have OX2 := Lib.hid (own_below OX.out q)
      have B2 := Lib.hid (below_then B1.out q (Nat.le_refl _))
      clear o1 q OX B1
      go_wp2_with fail
      refine (copyi_any a0 len0 cap0 L0 HL.out (by omega) _ ((HR.out.below B2.out).mono B2.out.size)).mono ?_
      rintro e w3 ⟨vb, rfl, qb⟩
      have QB := Lib.hid qb
      clear qb
      go_wp2
      go_loopw [9, 10] (fun b i wr => ∃ k : Nat, k ≤ len1 ∧ i = .int .i64 k ∧ Hid (OwnI w2 b wr (L0 ++ L1.take k))) (fun _ i _ => len1 - (intOf i).toNat)
      case atStart => exact ⟨0, Nat.zero_le _, rfl, Lib.hid (by have h := QB.out; simpa using h)⟩
      case round =>
        clear QB
        obtain ⟨k, hk, rfl, hO⟩ := hrel
        by_cases hlt : k < len1
        · have hkx2 : k < L1.length := by rw [HL1.out]; exact hlt
          obtain ⟨ad, rfl, _, hcx⟩ := (HR1.out.below (B2.out.trans (hO.out.below.mono B2.out.size))) (by rw [iv_len]; omega)
          obtain ⟨x0, x1, x2, x3, x4⟩ := ins_cells hcx hkx2
          have HT := Lib.hid (List.take_succ_eq_append_getElem hkx2)
          have HLE : Hid ((L0 ++ L1.take k).length = len0 + k) := Lib.hid (by rw [List.length_append, List.length_take, HL.out]; omega)
          generalize L1[k] = x at *
          clear hcx hkx2
          go_wp2_with (at_builtin; refine wpList_append_own_at _ rfl (.tmp 47) (.tmp 52) _ rfl w2.heap.size 23 i0 _ 5 40 Try.underlying29 hi0 hz0 hz1 hz2 rfl (by decide) _ _ _ rfl (hO.out.own.alloc _) ⟨wr.heap.size, 0, none⟩ 1 1 x.cells rfl rfl (new_cells' _ #[.int .i64 x.op, .int .i64 x.dst, .int .i64 x.src, .int .i64 x.off, .int .i64 x.imm] rfl) (cells_one x) ?z3 ?z4 ?z5 ?_)
          case z3 => have := HLE.out; unfold maxLen; omega
          case z4 => have := HLE.out; omega
          case z5 => have := hO.out.below.size; simp; omega
          intro v1 w4 hown1 hg1 _ hat1
          have R1 := Lib.hid (hO.out.step hown1 (by first | rfl | (simp only [List.length_append, List.length_take]; done) | (simp only [List.length_append, List.length_take]; omega)) hg1)
          clear hown1 hg1 hat1 hO
          go_wp2
          go_roundw
          case rel => exact ⟨k + 1, by omega, by go_num, Lib.hid (by rw [HT.out, ← List.append_assoc]; exact R1.out)⟩
          case measure => simp [intOf]; omega
        · have e3 : L1.take k = L1 := List.take_of_length_le (by rw [HL1.out]; omega)
          have R : Hid (OwnI w2 u9 wr (L0 ++ L1)) := Lib.hid (by have h := hO.out; rw [e3] at h; exact h)
          clear e3 hO
          obtain ⟨Ab, kb, rfl, hkb, hmb, _⟩ := own_form R.out.own
          have RB := Lib.hid (Rd.of_own R.out.own)
          have OX3 := Lib.hid (own_below OX2.out R.out.below)
          have OY3 := Lib.hid (own_below OY2.out R.out.below)
          have B3 := Lib.hid (below_then B2.out R.out.below (Nat.le_refl _))
          clear R OX2 OY2 B2
          unfold maxLen at hmx hmy hmb
          have hlb : (L0 ++ L1).length = len0 + len1 := by rw [List.length_append, HL.out, HL1.out]
          rw [hlb] at hkb
          rw [hlb]
          have HLB := Lib.hid hlb
          clear hlb
          go_wp2_with fail
          (with_reducible refine (put_any Ab (len0 + len1) kb (L0 ++ L1) HLB.out HF3.out (by omega) _ RB.out).mono ?_)
          rintro e w4 ⟨vz, rfl, o1, q⟩
          rw [HO3.out] at o1
          rw [HE3.out]
          obtain ⟨Az, kz, rfl, hkz, hmz, hAz⟩ := own_form o1
          have OZ4 := Lib.hid o1
          have OX4 := Lib.hid (own_below OX3.out q)
          have OY4 := Lib.hid (own_below OY3.out q)
          have B4 := Lib.hid (below_then B3.out q (Nat.le_refl _))
          clear o1 q OX3 OY3 B3 RB
          unfold maxLen at hmz
          have hlz : (putB L0 ++ putB L1).length = (putB L0).length + (putB L1).length := List.length_append
          rw [hlz] at hkz hAz OZ4
          rw [hlz]
          clear hlz
          go_wp2_with fail
          (with_reducible refine (samebytes_any Az Ax _ _ kz kx (putB L0) (putB L0) rfl rfl (by omega) (by omega) w4 (rd_head (m := putB L1) (by rw [List.length_append]; exact OZ4.out)) (Rd.of_own OX4.out)).mono ?_)
          rintro e w5 ⟨rfl, q⟩
          rw [decide_eq_true rfl]
          have OZ5 := Lib.hid (own_below OZ4.out q)
          have OX5 := Lib.hid (own_below OX4.out q)
          have OY5 := Lib.hid (own_below OY4.out q)
          have B5 := Lib.hid (below_then B4.out q (Nat.le_refl _))
          clear q OZ4 OX4 OY4 B4
          by_cases hkk : kz = (putB L0).length
          · have hy0 : (putB L1).length = 0 := by omega
            have HY0 : Hid (putB L1 = []) := Lib.hid (List.eq_nil_of_length_eq_zero hy0)
            have HRZ : Hid (∀ A, Rd w5 w5.heap.size A (bv (putB L1))) := Lib.hid fun A => by rw [HY0.out]; exact (Rd.nil : Rd w5 w5.heap.size A [])
            clear hy0 HY0 hkz hAz
            subst hkk
            go_wp2_with fail
            (with_reducible refine (samebytes_any _ Ay _ _ _ ky (putB L1) (putB L1) rfl rfl (by omega) (by omega) w5 (HRZ.out _) (Rd.of_own OY5.out)).mono ?_)
            rintro e w6 ⟨rfl, q⟩
            rw [decide_eq_true rfl]
            have OX6 := Lib.hid (own_below OX5.out q)
            have OY6 := Lib.hid (own_below OY5.out q)
            have B6 := Lib.hid (below_then B5.out q (Nat.le_refl _))
            clear q OZ5 OX5 OY5 B5
            go_wp2_with fail
            (with_reducible refine (samebytes_any Ax Ay _ _ kx ky (putB L0) (putB L1) rfl rfl (by omega) (by omega) w6 (Rd.of_own OX6.out) (Rd.of_own OY6.out)).mono ?_)
            rintro e w7 ⟨rfl, q⟩
            rw [HSI.out]
            have B7 := Lib.hid (below_then B6.out q (Nat.le_refl _))
            clear q OX6 OY6 B6
            go_wp2_with fail
            (with_reducible refine (sameinsns_any a0 a1 len0 len1 cap0 cap1 L0 L1 HL.out HL1.out (by omega) (by omega) w7 ((HR.out.below B7.out).mono B7.out.size) ((HR1.out.below B7.out).mono B7.out.size)).mono ?_)
            rintro e w8 ⟨rfl, q⟩
            have B8 := Lib.hid (below_then B7.out q (Nat.le_refl _))
            clear q B7
            generalize decide (L0 = L1) = bb
            go_wp2_with fail
            refine (works_any _).mono ?_
            rintro e w9 ⟨rfl, q⟩
            have B9 := Lib.hid (below_then B8.out q (Nat.le_refl _))
            clear q
            go_wp2
            go_ret
            exact ⟨rfl, B9.out⟩
          · have HRZ : Hid (Rd w5 w5.heap.size (Option.map (fun x => x.add (putB L0).length) Az) (bv (putB L1))) := Lib.hid (by
              have h := (Rd.of_own OZ5.out).cut (k := (putB L0).length) (cap := kz) (size := 1) (fun _ => hkk)
              rw [if_neg hkk] at h
              simp only [Nat.mul_one] at h
              rw [bv_app, ← bv_len (putB L0), List.drop_left, bv_len] at h
              exact h)
            go_wp2_with fail
            (with_reducible refine (samebytes_any _ Ay _ _ _ ky (putB L1) (putB L1) rfl rfl (by omega) (by omega) w5 HRZ.out (Rd.of_own OY5.out)).mono ?_)
            rintro e w6 ⟨rfl, q⟩
            rw [decide_eq_true rfl]
            have OX6 := Lib.hid (own_below OX5.out q)
            have OY6 := Lib.hid (own_below OY5.out q)
            have B6 := Lib.hid (below_then B5.out q (Nat.le_refl _))
            clear q OZ5 OX5 OY5 B5
            go_wp2_with fail
            (with_reducible refine (samebytes_any Ax Ay _ _ kx ky (putB L0) (putB L1) rfl rfl (by omega) (by omega) w6 (Rd.of_own OX6.out) (Rd.of_own OY6.out)).mono ?_)
            rintro e w7 ⟨rfl, q⟩
            rw [HSI.out]
            have B7 := Lib.hid (below_then B6.out q (Nat.le_refl _))
            clear q OX6 OY6 B6
            go_wp2_with fail
            (with_reducible refine (sameinsns_any a0 a1 len0 len1 cap0 cap1 L0 L1 HL.out HL1.out (by omega) (by omega) w7 ((HR.out.below B7.out).mono B7.out.size) ((HR1.out.below B7.out).mono B7.out.size)).mono ?_)
            rintro e w8 ⟨rfl, q⟩
            have B8 := Lib.hid (below_then B7.out q (Nat.le_refl _))
            clear q B7
            generalize decide (L0 = L1) = bb
            go_wp2_with fail
            refine (works_any _).mono ?_
            rintro e w9 ⟨rfl, q⟩
            have B9 := Lib.hid (below_then B8.out q (Nat.le_refl _))
            clear q
            go_wp2
            go_ret
            exact ⟨rfl, B9.out⟩
    · have ez : (putE L1 != 0) = true := bne_iff_ne.2 hf
      have HE := Lib.hid he
      clear hf he
      go_enter Try.func8, Try.ntmps8
      go_wp2_with fail
      refine (put_any a0 len0 cap0 L0 HL.out HF.out (by omega) _ HR.out).mono ?_
      rintro e w1 ⟨vx, rfl, o1, q⟩
      rw [HE.out]
      have B1 := Lib.hid q
      clear o1 q
      go_wp2_with fail
      refine (put_any a1 len1 cap1 L1 HL1.out HF1.out (by omega) _ ((HR1.out.below B1.out).mono B1.out.size)).mono ?_
      rintro e w2 ⟨vy, rfl, o1, q⟩
      have B2 := Lib.hid (below_then B1.out q (Nat.le_refl _))
      clear o1 q
      go_wp2_with fail
      refine (works_any _).mono ?_
      rintro e w9 ⟨rfl, q⟩
      have B9 := Lib.hid (below_then B2.out q (Nat.le_refl _))
      clear q
      go_wp2
      go_ret
      exact ⟨rfl, B9.out⟩
  · have ez : (putE L0 != 0) = true := bne_iff_ne.2 he
    clear he
    go_enter Try.func8, Try.ntmps8
    go_wp2_with fail
    refine (put_any a0 len0 cap0 L0 HL.out HF.out (by omega) _ HR.out).mono ?_
    rintro e w1 ⟨vx, rfl, o1, q⟩
    have B1 := Lib.hid q
    clear o1 q
    go_wp2_with fail
    refine (put_any a1 len1 cap1 L1 HL1.out HF1.out (by omega) _ ((HR1.out.below B1.out).mono B1.out.size)).mono ?_
    rintro e w2 ⟨vy, rfl, o1, q⟩
    have B2 := Lib.hid (below_then B1.out q (Nat.le_refl _))
    clear o1 q
    go_wp2_with fail
    refine (works_any _).mono ?_
    rintro e w9 ⟨rfl, q⟩
    have B9 := Lib.hid (below_then B2.out q (Nat.le_refl _))
    clear q
    go_wp2
    go_ret
    exact ⟨rfl, B9.out⟩

set_option maxRecDepth 100000 in
theorem lifted (os : Os) (started : os.Started) (H : Type) (enc : TypeId × Value → H) :
    ReturnsInHanded {} Try.checked os 8 .any (Rows.insnApartSpec.pre6 enc Try.prog Try.f8 Rows.insnApartRow.domain false) (Rows.insnApartSpec.post enc Try.prog Try.f8 false true false false) := by
  refine returnsInHanded_of_change (C := Try.checked) own started (by kernel_rfl) Try.func8
    (ChangeSpec.witness6 (enc := enc) (C := Try.checked) false ⟨#[], #[.slice none 0 0, .slice none 0 0], []⟩ 8 (by kernel_rfl) (by kernel_rfl) (by kernel_rfl) (by kernel_rfl)) ?_
  intro W base args ds gs before hval0 hW hcnd _
  have hval : ∀ (j : Nat) t v, Try.f8.params[j]? = some t → args[j]? = some v → Value.okWide Try.prog W .any base t v := hval0
  have hW' := hW
  obtain ⟨p, q, hA0, hV, rfl, hfz, hnd⟩ := hW
  have hA : DataW.TrodAll enc Try.prog W 0 (fun _ => true) true Try.f8.params.toList args.toList ds p := hA0
  rw [Try.params8] at hA hval
  obtain ⟨v0, vs0, d0, ds0, p0, q0, hargs, rfl, rfl, h0, r0⟩ := trodAll_cons hA
  obtain ⟨v1, vs1, d1, ds1, p1, q1, rfl, rfl, rfl, h1, r1⟩ := trodAll_cons r0
  obtain ⟨rfl, rfl, rfl⟩ := trodAll_nil r1
  obtain rfl : args = #[v0, v1] := by cases args; simp_all
  obtain ⟨rfl, rfl⟩ := trodVars_none hV
  obtain ⟨a0, len0, cap0, rfl⟩ := okWide_slice Try.underlying29 (hval 0 29 v0 rfl rfl)
  have k0 := h0
  have lt0 : ∀ x ∈ p0, x.block < W.heap.size := by obtain ⟨m, hm⟩ := k0; exact DataW.trod_lt m _ _ _ hm
  obtain ⟨L0, l0, f0, c0, m0, rr0⟩ := open_insns h0
  obtain ⟨a1, len1, cap1, rfl⟩ := okWide_slice Try.underlying29 (hval 1 29 v1 rfl rfl)
  have k1 := h1
  have lt1 : ∀ x ∈ p1, x.block < W.heap.size := by obtain ⟨m, hm⟩ := k1; exact DataW.trod_lt m _ _ _ hm
  obtain ⟨L1, l1, f1, c1, m1, rr1⟩ := open_insns h1
  clear hA0 hval0
  refine (walk a0 len0 cap0 L0 a1 len1 cap1 L1 W l0 f0 c0 m0 rr0 l1 f1 c1 m1 rr1).mono fun e W' ⟨he, bel⟩ => ?_
  subst he
  exact ⟨_, rfl, _, _, _, [], _, [], hW', trodAll_mk1 (shut_bool Try.underlying4 _), (trodAll_cons_mk (Below.trod laidOut (by kernel_rfl) (of_decide_eq_true (by kernel_rfl)) k0 bel lt0) (trodAll_cons_mk (Below.trod laidOut (by kernel_rfl) (of_decide_eq_true (by kernel_rfl)) k1 bel lt1) trodAll_mk0)), rfl, bel.frame _, fun h => by cases h⟩

theorem over : Rows.insnApartRow.holds Try.pinned (OpenSpec.ofChange Rows.insnApartSpec) :=
  OpenClaim.holds_of_wide 8 Try.f8 rfl rfl rfl rfl rfl rfl rfl ⟨rfl, rfl, rfl, rfl, rfl⟩ rfl rfl rfl rfl rfl (by kernel_rfl) Try.func8 (by kernel_rfl)
    (of_decide_eq_true (by kernel_rfl)) (by unfold Func.isWrapper; first | (rw [if_pos (by decide +kernel)]; kernel_rfl) | (rw [if_neg (by decide +kernel)]; exact ⟨rfl, rfl⟩))
    (fun os started H enc _ => lifted os started H enc)

theorem proved : Rows.InsnApartSaid := over
#print axioms proved
end Go.Proofs.Ytlcakbaffphchaa.insnApart
