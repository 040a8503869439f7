/-
  Proved: the statement WordBack: whatever the width and the numbers, what is added is taken away again, so is what is laid over, and a number is the quotient times the divisor and what is left over. No conditions.
-/
import Derived.Test.YtopgjjcljapjoaaRows
import Derived.Test.YtopgjjcljapjoaaWordCode
import Derived.Test.YtopgjjcljapjoaaWordMath6
import Derived.WalkKit
import Derived.ProofKit
import Derived.OpenShut
namespace Go.Proofs.Ytopgjjcljapjoaa.wordBack
open Go.ChangeShapes Go.WideShapes Go.ChangeAt Go.RowKit Wd
set_option linter.unusedVariables false

theorem own : ownKnob Try.prog.godebug = none := by kernel_rfl

set_option maxRecDepth 100000 in
set_option maxHeartbeats 4000000 in
theorem walk (a0 : Bool) (a1 : Int) (a2 : Int) (w1 : (Lit.int .u64 a1).wf = true) (w2 : (Lit.int .u64 a2).wf = true) (w : World) :
    Calls Try.prog 6 #[.bool a0, .int .u64 a1, .int .u64 a2] w fun e w' => e = .returned (.bool true) ∧ Grown w w' := by
  have hA := bounds_u64 w1
  have hB := bounds_u64 w2
  clear w1 w2
  have b11 := aluV_bd 11 a0 0 a1 (by omega) (by omega) hA.1 hA.2
  have b12 := aluV_bd 11 a0 0 a2 (by omega) (by omega) hB.1 hB.2
  have b3 := aluV_bd 3 a0 a1 a2 hA.1 hA.2 hB.1 hB.2
  have b9 := aluV_bd 9 a0 a1 a2 hA.1 hA.2 hB.1 hB.2
  have b0 := aluV_bd 0 a0 a1 a2 hA.1 hA.2 hB.1 hB.2
  have b10 := aluV_bd 10 a0 a1 a2 hA.1 hA.2 hB.1 hB.2
  have b8 := aluV_bd 8 a0 a1 0 hA.1 hA.2 (by omega) (by omega)
  have b2 := aluV_bd 2 a0 (aluV 3 a0 a1 a2) a2 b3.1 b3.2 hB.1 hB.2
  have b4 := aluV_bd 4 a0 a1 a2 hA.1 hA.2 hB.1 hB.2
  have b5 := aluV_bd 5 a0 a1 a2 hA.1 hA.2 hB.1 hB.2
  have f1 : (aluV 1 a0 (aluV 0 a0 a1 a2) a2 != aluV 11 a0 0 a1) = false := by rw [back_sum a0 a1 a2 hA.1 hA.2]; exact bne_self_eq_false _
  have f2 : (aluV 10 a0 (aluV 10 a0 a1 a2) a2 != aluV 11 a0 0 a1) = false := by rw [back_xor a0 a1 a2 hA.1]; exact bne_self_eq_false _
  have f3 : (aluV 0 a0 a1 (aluV 8 a0 a1 0) != 0) = false := by rw [back_neg a0 a1]; rfl
  have f4 : (aluV 0 a0 (aluV 2 a0 (aluV 3 a0 a1 a2) a2) (aluV 9 a0 a1 a2) != aluV 11 a0 0 a1) = false := by rw [back_quo a0 a1 a2 hA.1 hA.2 hB.1 hB.2]; exact bne_self_eq_false _
  have f5 : (aluV 0 a0 (aluV 4 a0 a1 a2) (aluV 5 a0 a1 a2) == aluV 0 a0 a1 a2) = true := by rw [back_bits a0 a1 a2 hA.1 hA.2 hB.1 hB.2]; exact beq_self_eq_true _
  by_cases hz : aluV 11 a0 0 a2 = 0
  · have g1 : (aluV 11 a0 0 a2 == 0) = true := by rw [hz]; rfl
    have g2 : decide (0 < aluV 11 a0 0 a2) = false := by rw [hz]; rfl
    have g3 : (aluV 3 a0 a1 a2 != 0) = false := by rw [(back_none a0 a1 a2 hz).1]; rfl
    have g4 : (aluV 9 a0 a1 a2 != aluV 11 a0 0 a1) = false := by rw [(back_none a0 a1 a2 hz).2]; exact bne_self_eq_false _
    clear hz
    go_enter Try.func6, Try.ntmps6
    go_wp2_with (first | (go_at_call 19; refine (lawalu_any _ _ _ _ (by omega) (by omega) (by omega) (by omega) _).mono ?_; rintro e w' ⟨rfl, rfl⟩) | (go_at_call 14; refine (known_any _).mono ?_; rintro e w' ⟨rfl, rfl⟩))
    go_ret
    exact ⟨rfl, Grown.refl _⟩
  · have hp : 0 < aluV 11 a0 0 a2 := by omega
    have hl := back_left a0 a1 a2 hB.1 hp
    have g1 : (aluV 11 a0 0 a2 == 0) = false := by simp; omega
    have g2 : decide (0 < aluV 11 a0 0 a2) = true := by simp; omega
    have g3 : decide (aluV 11 a0 0 a2 ≤ aluV 9 a0 a1 a2) = false := by simp; omega
    clear hz
    go_enter Try.func6, Try.ntmps6
    go_wp2_with (first | (go_at_call 19; refine (lawalu_any _ _ _ _ (by omega) (by omega) (by omega) (by omega) _).mono ?_; rintro e w' ⟨rfl, rfl⟩) | (go_at_call 14; refine (known_any _).mono ?_; rintro e w' ⟨rfl, rfl⟩))
    go_ret
    exact ⟨rfl, Grown.refl _⟩

set_option maxRecDepth 100000 in
theorem lifted (os : Os) (started : os.Started) (H : Type) (enc : TypeId × Value → H) :
    ReturnsInHanded {} Try.checked os 6 .any (Rows.wordBackSpec.pre6 enc Try.prog Try.f6 Rows.wordBackRow.domain false) (Rows.wordBackSpec.post enc Try.prog Try.f6 false true false false) := by
  refine returnsInHanded_of_change (C := Try.checked) own started (by kernel_rfl) Try.func6
    (ChangeSpec.witness6 (enc := enc) (C := Try.checked) false ⟨#[], #[.bool false, .int .u64 0, .int .u64 0], []⟩ 8 (by kernel_rfl) (by kernel_rfl) (by kernel_rfl) (by kernel_rfl)) ?_
  intro W base args ds gs before hval0 hW hcnd _
  have hval : ∀ (j : Nat) t v, Try.f6.params[j]? = some t → args[j]? = some v → Value.okWide Try.prog W .any base t v := hval0
  have hW' := hW
  obtain ⟨p, q, hA0, hV, rfl, hfz, hnd⟩ := hW
  have hA : DataW.TrodAll enc Try.prog W 0 (fun _ => true) true Try.f6.params.toList args.toList ds p := hA0
  rw [Try.params6] at hA hval
  obtain ⟨v0, vs0, d0, ds0, p0, q0, hargs, rfl, rfl, h0, r0⟩ := trodAll_cons hA
  obtain ⟨v1, vs1, d1, ds1, p1, q1, rfl, rfl, rfl, h1, r1⟩ := trodAll_cons r0
  obtain ⟨v2, vs2, d2, ds2, p2, q2, rfl, rfl, rfl, h2, r2⟩ := trodAll_cons r1
  obtain ⟨rfl, rfl, rfl⟩ := trodAll_nil r2
  obtain rfl : args = #[v0, v1, v2] := by cases args; simp_all
  obtain ⟨rfl, rfl⟩ := trodVars_none hV
  obtain ⟨a0, rfl, rfl, rfl⟩ := open_bool Try.underlying4 (hval 0 4 v0 rfl rfl) h0
  obtain ⟨a1, rfl, rfl, rfl, w1⟩ := open_int Try.underlying22 (hval 1 22 v1 rfl rfl) h1
  obtain ⟨a2, rfl, rfl, rfl, w2⟩ := open_int Try.underlying22 (hval 2 22 v2 rfl rfl) h2
  clear hA0 hval0
  simp only [List.append_nil] at hW'
  refine (walk a0 a1 a2 w1 w2 W).mono fun e W' ⟨he, hg⟩ => ?_
  subst he
  exact ⟨_, rfl, post_of_same (pa := []) (pv := []) hW' (fun _ _ _ => (trodAll_cons_mk (shut_bool Try.underlying4 _) trodAll_mk0)) (fun sp _ => (trodAll_cons_mk (shut_bool Try.underlying4 _) (trodAll_cons_mk (shut_int Try.underlying22 w1) (trodAll_cons_mk (shut_int Try.underlying22 w2) trodAll_mk0)))) (fun _ _ => rfl) rfl
    (hg.frame _) hg.2.1 (ok_one (by kernel_rfl) rfl (okWide_bool_mk Try.underlying4 _))⟩

theorem over : Rows.wordBackRow.holds Try.pinned (OpenSpec.ofChange Rows.wordBackSpec) :=
  OpenClaim.holds_of_wide 6 Try.f6 rfl rfl rfl rfl rfl rfl rfl ⟨rfl, rfl, rfl, rfl, rfl⟩ rfl rfl rfl rfl rfl (by kernel_rfl) Try.func6 (by kernel_rfl)
    (of_decide_eq_true (by kernel_rfl)) (by unfold Func.isWrapper; first | (rw [if_pos (by decide +kernel)]; kernel_rfl) | (rw [if_neg (by decide +kernel)]; exact ⟨rfl, rfl⟩))
    (fun os started H enc _ => lifted os started H enc)

theorem proved : Rows.WordBackSaid :=
  over
#print axioms proved
end Go.Proofs.Ytopgjjcljapjoaa.wordBack
