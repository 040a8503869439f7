/-
  Proved: the statement InsnPuts: of any instructions, up to 400, the bytes are told, in new memory, or what is wrong, as the document says; what is handed in stays. No conditions.
-/
import Derived.Test.YtlimhdnpdhjdaaaRows
import Derived.Test.YtlimhdnpdhjdaaaInsnOpen
import Derived.Test.YtlimhdnpdhjdaaaInsnRefs
import Derived.WalkKit
import Derived.ProofKit
import Derived.OpenShut
import Derived.ChangeOld
import Derived.Below
namespace Go.Proofs.Ytlimhdnpdhjdaaa.insnPuts
open Go.ChangeShapes Go.WideShapes Go.ChangeAt Go.RowKit Wi Ow
set_option linter.unusedVariables false
set_option linter.unusedSimpArgs false

theorem own : ownKnob Try.prog.godebug = none := by kernel_rfl
theorem laidOut : laidOutB Try.prog = true := by kernel_rfl



set_option maxRecDepth 100000 in
set_option maxHeartbeats 4000000 in
theorem walk (a0 : Option Addr) (len0 cap0 : Nat) (L0 : List In) (w : World) (l0 : L0.length = len0) (f0 : ∀ x ∈ L0, x.fits) (c0 : len0 ≤ cap0) (m0 : cap0 ≤ 9223372036854775807) (r0 : Rd w w.heap.size a0 (iv L0)) :
    Calls Try.prog 4 #[.slice a0 len0 cap0] w fun e w' => e = .returned (.bool true) ∧ Below w.heap.size w w' := by
  have HF := Lib.hid f0
  have HR := Lib.hid r0
  have HL := Lib.hid l0
  clear f0 r0 l0
  by_cases h400 : 400 < len0
  · go_enter Try.func4, Try.ntmps4
    go_wp2_with (go_at_call 17; refine (works_any _).mono ?_; rintro e w1 ⟨rfl, q1⟩)
    go_ret
    exact ⟨rfl, q1⟩
  have h400' : len0 ≤ 400 := by omega
  clear h400
  go_enter Try.func4, Try.ntmps4
  go_wp2_with fail
  refine (lenti_any a0 len0 cap0 L0 HL.out (by omega) _ HR.out).mono ?_
  rintro e w1 ⟨vx, rfl, qx⟩
  obtain ⟨Ax, cx, rfl, hcx, hmx, _⟩ := own_form qx.own
  have hlx : (L0 ++ mkI 5).length = len0 + 5 := by rw [List.length_append, mkI_len, HL.out]
  have OX1 := Lib.hid qx.own
  have B1 := Lib.hid qx.below
  have S01 := Lib.hid qx.below.size
  have RX1 := Lib.hid (rd_lent qx.own)
  rw [hlx] at hcx
  have HLX := Lib.hid hlx
  clear qx hlx
  unfold maxLen at hmx
  rw [HLX.out] at OX1
  rw [HLX.out]
  go_wp2_with fail
  refine (put_any Ax len0 cx L0 HL.out HF.out (by omega) _ RX1.out).mono ?_
  rintro e w2 ⟨vone, rfl, o1, q⟩
  have O12 := Lib.hid o1
  have OX2 := Lib.hid (own_below OX1.out q)
  have RX2 := Lib.hid ((RX1.out.below q).mono q.size)
  have B2 := Lib.hid (below_then B1.out q (Nat.le_refl _))
  have S12 := Lib.hid q.size
  clear o1 q B1 RX1
  obtain ⟨A1, k1, rfl, hk1, hm1, _⟩ := own_form O12.out
  go_wp2_with fail
  refine (put_any Ax len0 cx L0 HL.out HF.out (by omega) _ RX2.out).mono ?_
  rintro e w3 ⟨vtwo, rfl, o2, q⟩
  have O23 := Lib.hid o2
  have O13 := Lib.hid (own_below O12.out q)
  have OX3 := Lib.hid (own_below OX2.out q)
  have B3 := Lib.hid (below_then B2.out q (Nat.le_refl _))
  have S23 := Lib.hid q.size
  clear o2 q OX2 B2 RX2
  obtain ⟨A2, k2, rfl, hk2, hm2, _⟩ := own_form O23.out
  go_wp2_with fail
  refine (refput_any a0 len0 cap0 L0 HL.out HF.out (by omega) _ ((HR.out.below B3.out).mono B3.out.size)).mono ?_
  rintro e w4 ⟨vwant, rfl, o3, q⟩
  have O34 := Lib.hid o3
  have O14 := Lib.hid (own_below O13.out q)
  have O24 := Lib.hid (own_below O23.out q)
  have OX4 := Lib.hid (own_below OX3.out q)
  have B4 := Lib.hid (below_then B3.out q (Nat.le_refl _))
  have S34 := Lib.hid q.size
  clear o3 q O13 O23 OX3 B3
  obtain ⟨A3, k3, rfl, hk3, hm3, _⟩ := own_form O34.out
  unfold maxLen at hm1 hm2 hm3
  have hpl : (putO L0).length ≤ 6400 := by have := putO_le L0; have := HL.out; omega
  go_wp2_with fail
  refine (samebytes_any A1 A3 _ _ k1 k3 (putO L0) (putO L0) rfl rfl (by omega) (by omega) w4 (Rd.of_own O14.out) (Rd.of_own O34.out)).mono ?_
  rintro e w5 ⟨rfl, q⟩
  rw [decide_eq_true rfl]
  have O15 := Lib.hid (own_below O14.out q)
  have O25 := Lib.hid (own_below O24.out q)
  have O35 := Lib.hid (own_below O34.out q)
  have OX5 := Lib.hid (own_below OX4.out q)
  have B5 := Lib.hid (below_then B4.out q (Nat.le_refl _))
  clear q O14 O24 OX4 B4
  go_wp2_with fail
  refine (spoilb_any _ _ _ _ (by omega) w5 O15.out).mono ?_
  rintro e w6 ⟨rfl, q⟩
  have O26 := Lib.hid (O25.out.kept q (own_apart O12.out O25.out (Nat.le_refl _)))
  have O36 := Lib.hid (O35.out.kept q (own_apart O12.out O35.out S23.out))
  have OX6 := Lib.hid (OX5.out.kept q (own_apart' OX1.out O12.out (Nat.le_refl _)))
  have B6 := Lib.hid (B5.out.grown q B5.out.size fun k hk => Nat.le_trans S01.out (O12.out.lt k hk).1)
  clear q O12 O15 O25 O35 OX1 OX5 B5
  go_wp2_with fail
  refine (samebytes_any A2 A3 _ _ k2 k3 (putO L0) (putO L0) rfl rfl (by omega) (by omega) w6 (Rd.of_own O26.out) (Rd.of_own O36.out)).mono ?_
  rintro e w7 ⟨rfl, q⟩
  rw [decide_eq_true rfl]
  have OX7 := Lib.hid (own_below OX6.out q)
  have B7 := Lib.hid (below_then B6.out q (Nat.le_refl _))
  clear q O26 O36 OX6 B6
  go_wp2_with fail
  refine (kepti_any Ax a0 len0 (len0 + 5) cx cap0 L0 rfl HL.out (by omega) hcx w7 (Rd.of_own OX7.out) ((HR.out.below B7.out).mono B7.out.size)).mono ?_
  rintro e w8 ⟨rfl, q⟩
  have B8 := Lib.hid (below_then B7.out q (Nat.le_refl _))
  clear q OX7 B7
  go_wp2_with fail
  refine (works_any _).mono ?_
  rintro e w9 ⟨rfl, q⟩
  have B9 := Lib.hid (below_then B8.out q (Nat.le_refl _))
  clear q
  go_wp2
  go_ret
  exact ⟨rfl, B9.out⟩

set_option maxRecDepth 100000 in
theorem lifted (os : Os) (started : os.Started) (H : Type) (enc : TypeId × Value → H) :
    ReturnsInHanded {} Try.checked os 4 .any (Rows.insnPutsSpec.pre6 enc Try.prog Try.f4 Rows.insnPutsRow.domain false) (Rows.insnPutsSpec.post enc Try.prog Try.f4 false true false false) := by
  refine returnsInHanded_of_change (C := Try.checked) own started (by kernel_rfl) Try.func4
    (ChangeSpec.witness6 (enc := enc) (C := Try.checked) false ⟨#[], #[.slice none 0 0], []⟩ 8 (by kernel_rfl) (by kernel_rfl) (by kernel_rfl) (by kernel_rfl)) ?_
  intro W base args ds gs before hval0 hW hcnd _
  have hval : ∀ (j : Nat) t v, Try.f4.params[j]? = some t → args[j]? = some v → Value.okWide Try.prog W .any base t v := hval0
  have hW' := hW
  obtain ⟨p, q, hA0, hV, rfl, hfz, hnd⟩ := hW
  have hA : DataW.TrodAll enc Try.prog W 0 (fun _ => true) true Try.f4.params.toList args.toList ds p := hA0
  rw [Try.params4] at hA hval
  obtain ⟨v0, vs0, d0, ds0, p0, q0, hargs, rfl, rfl, h0, r0⟩ := trodAll_cons hA
  obtain ⟨rfl, rfl, rfl⟩ := trodAll_nil r0
  obtain rfl : args = #[v0] := by cases args; simp_all
  obtain ⟨rfl, rfl⟩ := trodVars_none hV
  obtain ⟨a0, len0, cap0, rfl⟩ := okWide_slice Try.underlying29 (hval 0 29 v0 rfl rfl)
  have k0 := h0
  have lt0 : ∀ x ∈ p0, x.block < W.heap.size := by obtain ⟨m, hm⟩ := k0; exact DataW.trod_lt m _ _ _ hm
  obtain ⟨L0, l0, f0, c0, m0, rr0⟩ := open_insns h0
  clear hA0 hval0
  refine (walk a0 len0 cap0 L0 W l0 f0 c0 m0 rr0).mono fun e W' ⟨he, bel⟩ => ?_
  subst he
  exact ⟨_, rfl, _, _, _, [], _, [], hW', trodAll_mk1 (shut_bool Try.underlying4 _), (trodAll_cons_mk (Below.trod laidOut (by kernel_rfl) (of_decide_eq_true (by kernel_rfl)) k0 bel lt0) trodAll_mk0), rfl, bel.frame _, fun h => by cases h⟩

theorem over : Rows.insnPutsRow.holds Try.pinned (OpenSpec.ofChange Rows.insnPutsSpec) :=
  OpenClaim.holds_of_wide 4 Try.f4 rfl rfl rfl rfl rfl rfl rfl ⟨rfl, rfl, rfl, rfl, rfl⟩ rfl rfl rfl rfl rfl (by kernel_rfl) Try.func4 (by kernel_rfl)
    (of_decide_eq_true (by kernel_rfl)) (by unfold Func.isWrapper; first | (rw [if_pos (by decide +kernel)]; kernel_rfl) | (rw [if_neg (by decide +kernel)]; exact ⟨rfl, rfl⟩))
    (fun os started H enc _ => lifted os started H enc)

theorem proved : Rows.InsnPutsSaid := over
#print axioms proved
end Go.Proofs.Ytlimhdnpdhjdaaa.insnPuts
