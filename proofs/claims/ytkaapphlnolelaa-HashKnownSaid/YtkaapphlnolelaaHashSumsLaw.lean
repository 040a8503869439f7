/-
  Layer 10, HashSums: any bytes have the sum that the document says, and what is handed in stays. No conditions.
-/
import Derived.Test.YtkaapphlnolelaaRows
import Derived.Test.YtkaapphlnolelaaHashOpen
import Derived.IntWalk
import Derived.WalkKit
import Derived.ProofKit
import Derived.OpenShut
import Derived.ChangeOld
import Derived.Below
namespace Go.Proofs.Ytkaapphlnolelaa.hashSums
open Go.ChangeShapes Go.WideShapes Go.ChangeAt Go.RowKit Ow Ro K2 Hm
set_option linter.unusedVariables false
set_option linter.unusedSimpArgs false

theorem own : ownKnob Try.prog.godebug = none := by kernel_rfl
theorem laidOut : laidOutB Try.prog = true := by kernel_rfl



set_option maxRecDepth 100000 in
set_option maxHeartbeats 4000000 in
theorem walk (a0 : Option Addr) (len0 cap0 : Nat) (L0 : List Int) (w : World) (l0 : L0.length = len0) (f0 : ∀ b ∈ L0, 0 ≤ b ∧ b ≤ 255) (c0 : len0 ≤ cap0) (m0 : cap0 ≤ 9223372036854775807) (z0 : a0 = none → len0 = 0 ∧ cap0 = 0) (r0 : Rd w w.heap.size a0 (bv L0)) :
    Calls Try.prog 3 #[.slice a0 len0 cap0] w fun e w' => e = .returned (.bool true) ∧ Below w.heap.size w w' := by
  have RR := Lib.hid r0
  have HL := Lib.hid l0
  have HB := Lib.hid f0
  clear r0 l0 f0 z0
  by_cases hlt : 4096 < len0
  · have i1 : (4096 : Int) < (len0 : Int) := by omega
    go_enter Try.func3, Try.ntmps3
    go_wp2_with fail
    with_reducible refine (works_c _).mono ?_
    rintro e w' ⟨rfl, q⟩
    have HQ := Lib.hid q
    clear q
    go_wp2
    go_ret
    exact ⟨rfl, HQ.out⟩
  · have i1 : ¬ (4096 : Int) < (len0 : Int) := by omega
    go_enter Try.func3, Try.ntmps3
    go_wp2_with fail
    with_reducible refine (lentb_any a0 len0 cap0 L0 HL.out (by omega) _ RR.out).mono ?_
    rintro e w1 ⟨v, rfl, q⟩
    obtain ⟨av, cv, rfl, c1, c2, _⟩ := own_form q.own
    have HX : Hid (Rd w1 w1.heap.size av (bv (L0 ++ mk5 5))) := Lib.hid (Rd.of_own q.own)
    have HW1 := Lib.hid q.below
    have hlen : (L0 ++ mk5 5).length = len0 + 5 := by rw [List.length_append, mk5_len, HL.out]
    rw [hlen] at c1 ⊢
    have HX2 : Hid (Rd w1 w1.heap.size av (bv L0)) := Lib.hid (by
      have h := HX.out.take len0
      have e : (bv (L0 ++ mk5 5)).take len0 = bv L0 := by unfold bv; rw [← List.map_take, ← HL.out, List.take_left]
      rw [e] at h
      exact h)
    have HY : Hid (Rd w1 w1.heap.size a0 (bv L0)) := Lib.hid ((RR.out.below HW1.out).mono HW1.out.size)
    clear q hlen
    have i2 : (len0 : Int) ≤ (cv : Int) := by omega
    have i3 : (0 : Int) ≤ (len0 : Int) := by omega
    go_wp2_with fail
    with_reducible refine (sum_p av len0 cv L0 HL.out (by omega) HB.out _ HX2.out).mono ?_
    rintro e w' ⟨rfl, rfl⟩
    go_wp2_with fail
    with_reducible refine (rsum10_any a0 len0 cap0 L0 HL.out (by omega) HB.out _ HY.out).mono ?_
    rintro e w' ⟨rfl, rfl⟩
    generalize fnv L0 = sm at *
    go_wp2_with fail
    with_reducible refine (keptb_any av a0 len0 (len0 + 5) cv cap0 L0 rfl HL.out (by omega) c1 _ HX.out HY.out).mono ?_
    rintro e w2 ⟨rfl, q2⟩
    have HW2 := Lib.hid (HW1.out.trans (q2.mono HW1.out.size))
    clear q2
    go_wp2_with fail
    with_reducible refine (works_c _).mono ?_
    rintro e w3 ⟨rfl, q3⟩
    have HW3 := Lib.hid (HW2.out.trans (q3.mono HW2.out.size))
    clear q3
    go_wp2
    go_ret
    exact ⟨rfl, HW3.out⟩

set_option maxRecDepth 100000 in
theorem lifted (os : Os) (started : os.Started) (H : Type) (enc : TypeId × Value → H) :
    ReturnsInHanded {} Try.checked os 3 .any (Rows.hashSumsSpec.pre6 enc Try.prog Try.f3 Rows.hashSumsRow.domain false) (Rows.hashSumsSpec.post enc Try.prog Try.f3 false true false false) := by
  refine returnsInHanded_of_change (C := Try.checked) own started (by kernel_rfl) Try.func3
    (ChangeSpec.witness6 (enc := enc) (C := Try.checked) false ⟨#[], #[.slice none 0 0], []⟩ 8 (by kernel_rfl) (by kernel_rfl) (by kernel_rfl) (by kernel_rfl)) ?_
  intro W base args ds gs before hval0 hW hcnd _
  have hval : ∀ (j : Nat) t v, Try.f3.params[j]? = some t → args[j]? = some v → Value.okWide Try.prog W .any base t v := hval0
  have hW' := hW
  obtain ⟨p, q, hA0, hV, rfl, hfz, hnd⟩ := hW
  have hA : DataW.TrodAll enc Try.prog W 0 (fun _ => true) true Try.f3.params.toList args.toList ds p := hA0
  rw [Try.params3] at hA hval
  obtain ⟨v0, vs0, d0, ds0, p0, q0, hargs, rfl, rfl, h0, r0⟩ := trodAll_cons hA
  obtain ⟨rfl, rfl, rfl⟩ := trodAll_nil r0
  obtain rfl : args = #[v0] := by cases args; simp_all
  obtain ⟨rfl, rfl⟩ := trodVars_none hV
  obtain ⟨a0, len0, cap0, rfl⟩ := okWide_slice Try.underlying22 (hval 0 22 v0 rfl rfl)
  have k0 := h0
  have lt0 : ∀ x ∈ p0, x.block < W.heap.size := by obtain ⟨m, hm⟩ := k0; exact DataW.trod_lt m _ _ _ hm
  obtain ⟨L0, l0, f0, c0, m0, z0, rr0⟩ := open_bytes h0
  clear hA0 hval0
  refine (walk a0 len0 cap0 L0 W l0 f0 c0 m0 z0 rr0).mono fun e W' ⟨he, bel⟩ => ?_
  subst he
  exact ⟨_, rfl, _, _, _, [], _, [], hW', trodAll_mk1 (shut_bool Try.underlying4 _), (trodAll_cons_mk (Below.trod laidOut (by kernel_rfl) (of_decide_eq_true (by kernel_rfl)) k0 bel lt0) trodAll_mk0), rfl, bel.frame _, fun h => by cases h⟩

theorem over : Rows.hashSumsRow.holds Try.pinned (OpenSpec.ofChange Rows.hashSumsSpec) :=
  OpenClaim.holds_of_wide 3 Try.f3 rfl rfl rfl rfl rfl rfl rfl ⟨rfl, rfl, rfl, rfl, rfl⟩ rfl rfl rfl rfl rfl (by kernel_rfl) Try.func3 (by kernel_rfl)
    (of_decide_eq_true (by kernel_rfl)) (by unfold Func.isWrapper; first | (rw [if_pos (by decide +kernel)]; kernel_rfl) | (rw [if_neg (by decide +kernel)]; exact ⟨rfl, rfl⟩))
    (fun os started H enc _ => lifted os started H enc)

theorem proved : Rows.HashSumsSaid := over
#print axioms proved
end Go.Proofs.Ytkaapphlnolelaa.hashSums
