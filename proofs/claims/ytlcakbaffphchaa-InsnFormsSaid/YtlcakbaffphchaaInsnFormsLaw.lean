/-
  Proved: the statement InsnForms: what is read of any bytes, up to 2^13, is made into the same bytes. No conditions.
-/
import Derived.Test.YtlcakbaffphchaaRows
import Derived.Test.YtlcakbaffphchaaInsnOpen
import Derived.Test.YtlcakbaffphchaaInsnBackMath
import Derived.WalkKit
import Derived.ProofKit
import Derived.OpenShut
import Derived.ChangeOld
import Derived.Below
namespace Go.Proofs.Ytlcakbaffphchaa.insnForms
open Go.ChangeShapes Go.WideShapes Go.ChangeAt Go.RowKit Wi Ow
set_option linter.unusedVariables false
set_option linter.unusedSimpArgs false

theorem own : ownKnob Try.prog.godebug = none := by kernel_rfl
theorem laidOut : laidOutB Try.prog = true := by kernel_rfl



set_option maxRecDepth 100000 in
set_option maxHeartbeats 4000000 in
theorem walk (a0 : Option Addr) (len0 cap0 : Nat) (L0 : List Int) (w : World) (l0 : L0.length = len0) (f0 : isB L0) (c0 : len0 ≤ cap0) (m0 : cap0 ≤ 9223372036854775807) (r0 : Rd w w.heap.size a0 (bv L0)) :
    Calls Try.prog 7 #[.slice a0 len0 cap0] w fun e w' => e = .returned (.bool true) ∧ Below w.heap.size w w' := by
  have HF := Lib.hid f0
  have HR := Lib.hid r0
  have HL := Lib.hid l0
  clear f0 r0 l0
  by_cases h400 : 8192 < len0
  · go_enter Try.func7, Try.ntmps7
    go_wp2_with (go_at_call 17; refine (works_any _).mono ?_; rintro e w1 ⟨rfl, q1⟩)
    go_ret
    exact ⟨rfl, q1⟩
  have h400' : len0 ≤ 8192 := by omega
  clear h400
  have C := get_any a0 len0 cap0 L0 HL.out c0 m0 HF.out w HR.out
  by_cases he : getE L0 = 0
  · obtain ⟨p1, p2, p3⟩ := put_get L0 HF.out he
    have hE : putE (getO L0) = 0 := putE_of _ p3 (firstE_of _ fun x hx => (p2 x hx).1)
    have hO : putO (getO L0) = L0 := by rw [putO_of _ hE, p1]
    have HE := Lib.hid hE
    have HO := Lib.hid hO
    have HFI : Hid (∀ x ∈ getO L0, x.fits) := Lib.hid fun x hx => (p2 x hx).2
    rw [he] at C
    have CC := Lib.hid C
    clear C p1 p2 hE hO he
    generalize getO L0 = M at *
    have HP3 := Lib.hid p3
    go_enter Try.func7, Try.ntmps7
    go_wp2_with fail
    refine CC.out.mono ?_
    rintro e w1 ⟨vl, rfl, o1, q⟩
    obtain ⟨A1, k1, rfl, hk1, hm1, _⟩ := own_form o1
    have R1 := Lib.hid (Rd.of_own o1)
    have B1 := Lib.hid q
    clear q o1 CC
    unfold maxLen at hm1
    go_wp2_with fail
    refine (put_any A1 M.length k1 M rfl HFI.out (by omega) _ R1.out).mono ?_
    rintro e w2 ⟨vc, rfl, o2, q⟩
    rw [HO.out] at o2
    rw [HE.out]
    obtain ⟨A2, k2, rfl, hk2, hm2, _⟩ := own_form o2
    have R2 := Lib.hid (Rd.of_own o2)
    have B2 := Lib.hid (below_then B1.out q (Nat.le_refl _))
    clear q o2 R1 B1
    unfold maxLen at hm2
    rw [HL.out]
    rw [HL.out] at hk2
    go_wp2_with fail
    refine (samebytes_any A2 a0 len0 len0 k2 cap0 L0 L0 HL.out HL.out (by omega) (by omega) w2 R2.out ((HR.out.below B2.out).mono B2.out.size)).mono ?_
    rintro e w3 ⟨rfl, q⟩
    rw [decide_eq_true rfl]
    have B3 := Lib.hid (below_then B2.out q (Nat.le_refl _))
    clear q R2 B2
    go_wp2_with fail
    refine (works_any _).mono ?_
    rintro e w4 ⟨rfl, q⟩
    have B4 := Lib.hid (below_then B3.out q (Nat.le_refl _))
    clear q
    go_wp2
    go_ret
    exact ⟨rfl, B4.out⟩
  · have hO : getO L0 = [] := getO_none _ he
    rw [hO] at C
    have CC := Lib.hid C
    have ez : (getE L0 != 0) = true := bne_iff_ne.2 he
    clear C hO he
    go_enter Try.func7, Try.ntmps7
    go_wp2_with fail
    refine CC.out.mono ?_
    rintro e w1 ⟨vl, rfl, o1, q⟩
    obtain ⟨A1, k1, rfl, hk1, hm1, _⟩ := own_form o1
    have B1 := Lib.hid q
    clear q o1 CC
    go_wp2_with fail
    refine (works_any _).mono ?_
    rintro e w4 ⟨rfl, q⟩
    have B4 := Lib.hid (below_then B1.out q (Nat.le_refl _))
    clear q
    go_wp2
    go_ret
    exact ⟨rfl, B4.out⟩

set_option maxRecDepth 100000 in
theorem lifted (os : Os) (started : os.Started) (H : Type) (enc : TypeId × Value → H) :
    ReturnsInHanded {} Try.checked os 7 .any (Rows.insnFormsSpec.pre6 enc Try.prog Try.f7 Rows.insnFormsRow.domain false) (Rows.insnFormsSpec.post enc Try.prog Try.f7 false true false false) := by
  refine returnsInHanded_of_change (C := Try.checked) own started (by kernel_rfl) Try.func7
    (ChangeSpec.witness6 (enc := enc) (C := Try.checked) false ⟨#[], #[.slice none 0 0], []⟩ 8 (by kernel_rfl) (by kernel_rfl) (by kernel_rfl) (by kernel_rfl)) ?_
  intro W base args ds gs before hval0 hW hcnd _
  have hval : ∀ (j : Nat) t v, Try.f7.params[j]? = some t → args[j]? = some v → Value.okWide Try.prog W .any base t v := hval0
  have hW' := hW
  obtain ⟨p, q, hA0, hV, rfl, hfz, hnd⟩ := hW
  have hA : DataW.TrodAll enc Try.prog W 0 (fun _ => true) true Try.f7.params.toList args.toList ds p := hA0
  rw [Try.params7] at hA hval
  obtain ⟨v0, vs0, d0, ds0, p0, q0, hargs, rfl, rfl, h0, r0⟩ := trodAll_cons hA
  obtain ⟨rfl, rfl, rfl⟩ := trodAll_nil r0
  obtain rfl : args = #[v0] := by cases args; simp_all
  obtain ⟨rfl, rfl⟩ := trodVars_none hV
  obtain ⟨a0, len0, cap0, rfl⟩ := okWide_slice Try.underlying31 (hval 0 31 v0 rfl rfl)
  have k0 := h0
  have lt0 : ∀ x ∈ p0, x.block < W.heap.size := by obtain ⟨m, hm⟩ := k0; exact DataW.trod_lt m _ _ _ hm
  obtain ⟨L0, l0, f0, c0, m0, rr0⟩ := open_bytes h0
  clear hA0 hval0
  refine (walk a0 len0 cap0 L0 W l0 f0 c0 m0 rr0).mono fun e W' ⟨he, bel⟩ => ?_
  subst he
  exact ⟨_, rfl, _, _, _, [], _, [], hW', trodAll_mk1 (shut_bool Try.underlying4 _), (trodAll_cons_mk (Below.trod laidOut (by kernel_rfl) (of_decide_eq_true (by kernel_rfl)) k0 bel lt0) trodAll_mk0), rfl, bel.frame _, fun h => by cases h⟩

theorem over : Rows.insnFormsRow.holds Try.pinned (OpenSpec.ofChange Rows.insnFormsSpec) :=
  OpenClaim.holds_of_wide 7 Try.f7 rfl rfl rfl rfl rfl rfl rfl ⟨rfl, rfl, rfl, rfl, rfl⟩ rfl rfl rfl rfl rfl (by kernel_rfl) Try.func7 (by kernel_rfl)
    (of_decide_eq_true (by kernel_rfl)) (by unfold Func.isWrapper; first | (rw [if_pos (by decide +kernel)]; kernel_rfl) | (rw [if_neg (by decide +kernel)]; exact ⟨rfl, rfl⟩))
    (fun os started H enc _ => lifted os started H enc)

theorem proved : Rows.InsnFormsSaid := over
#print axioms proved
end Go.Proofs.Ytlcakbaffphchaa.insnForms
