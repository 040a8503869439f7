/-
  Proved: the statement WordNarrow: whatever the operation and the numbers, narrow operations and jumps hang on the lowest 32 bits alone, have noughts above, and are the wide ones' where the statement says so. No conditions.
-/
import Derived.Test.YtopgjjcljapjoaaRows
import Derived.Test.YtopgjjcljapjoaaWordCode
import Derived.Test.YtopgjjcljapjoaaWordMath6
import Derived.WalkKit
import Derived.ProofKit
import Derived.OpenShut
namespace Go.Proofs.Ytopgjjcljapjoaa.wordNarrow
open Go.ChangeShapes Go.WideShapes Go.ChangeAt Go.RowKit Wd
set_option linter.unusedVariables false

theorem own : ownKnob Try.prog.godebug = none := by kernel_rfl

set_option maxRecDepth 100000 in
set_option maxHeartbeats 4000000 in
theorem core_yes (P : Int → Bool → Int → Int → Int) (PO : Int → Bool) (J : Int → Bool → Int → Int → Bool) (JO : Int → Bool)
    (CP : Hid (∀ n b v u w, 0 ≤ v → v ≤ 18446744073709551615 → 0 ≤ u → u ≤ 18446744073709551615 → Calls Try.prog 12 #[.int .i64 n, .bool b, .int .u64 v, .int .u64 u] w fun e w' => e = .returned (.tuple #[.int .u64 (P n b v u), .bool (PO n)]) ∧ w = w'))
    (CJ : Hid (∀ n b v u w, 0 ≤ v → v ≤ 18446744073709551615 → 0 ≤ u → u ≤ 18446744073709551615 → Calls Try.prog 17 #[.int .i64 n, .bool b, .int .u64 v, .int .u64 u] w fun e w' => e = .returned (.tuple #[.bool (J n b v u), .bool (JO n)]) ∧ w = w'))
    (CL : Hid (∀ n b v u w, 0 ≤ v → v ≤ 18446744073709551615 → 0 ≤ u → u ≤ 18446744073709551615 → Calls Try.prog 19 #[.int .i64 n, .bool b, .int .u64 v, .int .u64 u] w fun e w' => e = .returned (.int .u64 (P n b v u)) ∧ w = w'))
    (a0 a1 a2 a3 y z : Int) (w : World) (hA : 0 ≤ a1 ∧ a1 ≤ 18446744073709551615) (hB : 0 ≤ a2 ∧ a2 ≤ 18446744073709551615) (hC : 0 ≤ a3 ∧ a3 ≤ 18446744073709551615)
    (hy : bits .or .u64 (a1 % 4294967296) (IntKind.u64.wrap (a3 * 4294967296)) = y) (hy0 : 0 ≤ y) (hy1 : y ≤ 18446744073709551615)
    (hz : bits .or .u64 (a2 % 4294967296) (IntKind.u64.wrap (a3 * 4294967296)) = z) (hz0 : 0 ≤ z) (hz1 : z ≤ 18446744073709551615)
    (f1 : (P a0 false a1 a2 != P a0 false y z) = false) (f2 : J a0 false y z = J a0 false a1 a2) (f3 : (PO a0 != PO a0) = false) (f4 : (JO a0 != JO a0) = false)
    (f5 : 0 ≤ P a0 false a1 a2) (f6 : P a0 false a1 a2 < 4294967296) (hop : (0 ≤ a0 ∧ a0 ≤ 5) ∨ a0 = 9 ∨ a0 = 10 ∨ a0 = 11) (f7 : (P a0 true (a1 % 4294967296) (a2 % 4294967296) % 4294967296 == P a0 false a1 a2) = true) (f8 : 0 ≤ P a0 true (a1 % 4294967296) (a2 % 4294967296)) :
    Calls Try.prog 7 #[.int .i64 a0, .int .u64 a1, .int .u64 a2, .int .u64 a3] w fun e w' => e = .returned (.bool true) ∧ Grown w w' := by
  have hop' : a0 = 0 ∨ a0 = 1 ∨ a0 = 2 ∨ a0 = 3 ∨ a0 = 4 ∨ a0 = 5 ∨ a0 = 9 ∨ a0 = 10 ∨ a0 = 11 := by omega
  clear hop
  rcases hop' with rfl | rfl | rfl | rfl | rfl | rfl | rfl | rfl | rfl
  all_goals
    go_enter Try.func7, Try.ntmps7
    go_wp2_with (first | (go_at_call 12; refine (CP.out _ _ _ _ _ (by omega) (by omega) (by omega) (by omega)).mono ?_; rintro e w' ⟨rfl, rfl⟩) | (go_at_call 17; refine (CJ.out _ _ _ _ _ (by omega) (by omega) (by omega) (by omega)).mono ?_; rintro e w' ⟨rfl, rfl⟩) | (go_at_call 19; refine (CL.out _ _ _ _ _ (by omega) (by omega) (by omega) (by omega)).mono ?_; rintro e w' ⟨rfl, rfl⟩) | (go_at_call 14; refine (known_any _).mono ?_; rintro e w' ⟨rfl, rfl⟩))
    go_ret
    exact ⟨rfl, Grown.refl _⟩
set_option maxRecDepth 100000 in
set_option maxHeartbeats 4000000 in
theorem core_no (P : Int → Bool → Int → Int → Int) (PO : Int → Bool) (J : Int → Bool → Int → Int → Bool) (JO : Int → Bool)
    (CP : Hid (∀ n b v u w, 0 ≤ v → v ≤ 18446744073709551615 → 0 ≤ u → u ≤ 18446744073709551615 → Calls Try.prog 12 #[.int .i64 n, .bool b, .int .u64 v, .int .u64 u] w fun e w' => e = .returned (.tuple #[.int .u64 (P n b v u), .bool (PO n)]) ∧ w = w'))
    (CJ : Hid (∀ n b v u w, 0 ≤ v → v ≤ 18446744073709551615 → 0 ≤ u → u ≤ 18446744073709551615 → Calls Try.prog 17 #[.int .i64 n, .bool b, .int .u64 v, .int .u64 u] w fun e w' => e = .returned (.tuple #[.bool (J n b v u), .bool (JO n)]) ∧ w = w'))
    (CL : Hid (∀ n b v u w, 0 ≤ v → v ≤ 18446744073709551615 → 0 ≤ u → u ≤ 18446744073709551615 → Calls Try.prog 19 #[.int .i64 n, .bool b, .int .u64 v, .int .u64 u] w fun e w' => e = .returned (.int .u64 (P n b v u)) ∧ w = w'))
    (a0 a1 a2 a3 y z : Int) (w : World) (hA : 0 ≤ a1 ∧ a1 ≤ 18446744073709551615) (hB : 0 ≤ a2 ∧ a2 ≤ 18446744073709551615) (hC : 0 ≤ a3 ∧ a3 ≤ 18446744073709551615)
    (hy : bits .or .u64 (a1 % 4294967296) (IntKind.u64.wrap (a3 * 4294967296)) = y) (hy0 : 0 ≤ y) (hy1 : y ≤ 18446744073709551615)
    (hz : bits .or .u64 (a2 % 4294967296) (IntKind.u64.wrap (a3 * 4294967296)) = z) (hz0 : 0 ≤ z) (hz1 : z ≤ 18446744073709551615)
    (f1 : (P a0 false a1 a2 != P a0 false y z) = false) (f2 : J a0 false y z = J a0 false a1 a2) (f3 : (PO a0 != PO a0) = false) (f4 : (JO a0 != JO a0) = false)
    (f5 : 0 ≤ P a0 false a1 a2) (f6 : P a0 false a1 a2 < 4294967296) (hop : a0 < 0 ∨ a0 = 6 ∨ a0 = 7 ∨ a0 = 8 ∨ 12 ≤ a0) (jneg : a0 < 0 → JO a0 = false) (j6 : JO 6 = true) (j7 : JO 7 = true) (j8 : JO 8 = false) :
    Calls Try.prog 7 #[.int .i64 a0, .int .u64 a1, .int .u64 a2, .int .u64 a3] w fun e w' => e = .returned (.bool true) ∧ Grown w w' := by
  have JN := Lib.hid jneg
  clear jneg
  have h9 : (a0 == 9) = false := by simp; omega
  have h10 : (a0 == 10) = false := by simp; omega
  have h11 : (a0 == 11) = false := by simp; omega
  rcases hop with hop | rfl | rfl | rfl | hop
  · have hj := JN.out hop
    go_enter Try.func7, Try.ntmps7
    go_wp2_with (first | (go_at_call 12; refine (CP.out _ _ _ _ _ (by omega) (by omega) (by omega) (by omega)).mono ?_; rintro e w' ⟨rfl, rfl⟩) | (go_at_call 17; refine (CJ.out _ _ _ _ _ (by omega) (by omega) (by omega) (by omega)).mono ?_; rintro e w' ⟨rfl, rfl⟩) | (go_at_call 19; refine (CL.out _ _ _ _ _ (by omega) (by omega) (by omega) (by omega)).mono ?_; rintro e w' ⟨rfl, rfl⟩) | (go_at_call 14; refine (known_any _).mono ?_; rintro e w' ⟨rfl, rfl⟩))
    go_ret
    exact ⟨rfl, Grown.refl _⟩
  · have hj := j6
    go_enter Try.func7, Try.ntmps7
    go_wp2_with (first | (go_at_call 12; refine (CP.out _ _ _ _ _ (by omega) (by omega) (by omega) (by omega)).mono ?_; rintro e w' ⟨rfl, rfl⟩) | (go_at_call 17; refine (CJ.out _ _ _ _ _ (by omega) (by omega) (by omega) (by omega)).mono ?_; rintro e w' ⟨rfl, rfl⟩) | (go_at_call 19; refine (CL.out _ _ _ _ _ (by omega) (by omega) (by omega) (by omega)).mono ?_; rintro e w' ⟨rfl, rfl⟩) | (go_at_call 14; refine (known_any _).mono ?_; rintro e w' ⟨rfl, rfl⟩))
    go_ret
    exact ⟨rfl, Grown.refl _⟩
  · have hj := j7
    go_enter Try.func7, Try.ntmps7
    go_wp2_with (first | (go_at_call 12; refine (CP.out _ _ _ _ _ (by omega) (by omega) (by omega) (by omega)).mono ?_; rintro e w' ⟨rfl, rfl⟩) | (go_at_call 17; refine (CJ.out _ _ _ _ _ (by omega) (by omega) (by omega) (by omega)).mono ?_; rintro e w' ⟨rfl, rfl⟩) | (go_at_call 19; refine (CL.out _ _ _ _ _ (by omega) (by omega) (by omega) (by omega)).mono ?_; rintro e w' ⟨rfl, rfl⟩) | (go_at_call 14; refine (known_any _).mono ?_; rintro e w' ⟨rfl, rfl⟩))
    go_ret
    exact ⟨rfl, Grown.refl _⟩
  · have hj := j8
    go_enter Try.func7, Try.ntmps7
    go_wp2_with (first | (go_at_call 12; refine (CP.out _ _ _ _ _ (by omega) (by omega) (by omega) (by omega)).mono ?_; rintro e w' ⟨rfl, rfl⟩) | (go_at_call 17; refine (CJ.out _ _ _ _ _ (by omega) (by omega) (by omega) (by omega)).mono ?_; rintro e w' ⟨rfl, rfl⟩) | (go_at_call 19; refine (CL.out _ _ _ _ _ (by omega) (by omega) (by omega) (by omega)).mono ?_; rintro e w' ⟨rfl, rfl⟩) | (go_at_call 14; refine (known_any _).mono ?_; rintro e w' ⟨rfl, rfl⟩))
    go_ret
    exact ⟨rfl, Grown.refl _⟩
  · cases hj : JO a0
    all_goals
      rw [hj] at f4
      go_enter Try.func7, Try.ntmps7
      go_wp2_with (first | (go_at_call 12; refine (CP.out _ _ _ _ _ (by omega) (by omega) (by omega) (by omega)).mono ?_; rintro e w' ⟨rfl, rfl⟩) | (go_at_call 17; refine (CJ.out _ _ _ _ _ (by omega) (by omega) (by omega) (by omega)).mono ?_; rintro e w' ⟨rfl, rfl⟩) | (go_at_call 19; refine (CL.out _ _ _ _ _ (by omega) (by omega) (by omega) (by omega)).mono ?_; rintro e w' ⟨rfl, rfl⟩) | (go_at_call 14; refine (known_any _).mono ?_; rintro e w' ⟨rfl, rfl⟩))
      go_ret
      exact ⟨rfl, Grown.refl _⟩

set_option maxRecDepth 100000 in
set_option maxHeartbeats 4000000 in
theorem walk (a0 : Int) (a1 : Int) (a2 : Int) (a3 : Int) (w0 : (Lit.int .i64 a0).wf = true) (w1 : (Lit.int .u64 a1).wf = true) (w2 : (Lit.int .u64 a2).wf = true) (w3 : (Lit.int .u64 a3).wf = true) (w : World) :
    Calls Try.prog 7 #[.int .i64 a0, .int .u64 a1, .int .u64 a2, .int .u64 a3] w fun e w' => e = .returned (.bool true) ∧ Grown w w' := by
  have hA := bounds_u64 w1
  have hB := bounds_u64 w2
  have hC := bounds_u64 w3
  obtain ⟨y, hy, hy0, hy1, hy2⟩ := mixed a1 a3 hA.1
  obtain ⟨z, hz, hz0, hz1, hz2⟩ := mixed a2 a3 hB.1
  have t := aluV_thin a0 a1 a2
  have f1 : (aluV a0 false a1 a2 != aluV a0 false y z) = false := by rw [aluV_low a0 a1 a2 y z hy2 hz2]; exact bne_self_eq_false _
  have f2 : jumpV a0 false y z = jumpV a0 false a1 a2 := jumpV_low a0 a1 a2 y z hy2 hz2
  by_cases hop : (0 ≤ a0 ∧ a0 ≤ 5) ∨ a0 = 9 ∨ a0 = 10 ∨ a0 = 11
  · exact core_yes aluV aluOk jumpV jumpOk (Lib.hid fun n b v u w g1 g2 g3 g4 => alu_any n b v u g1 g2 g3 g4 w) (Lib.hid fun n b v u w g1 g2 g3 g4 => jump_any n b v u g1 g2 g3 g4 w) (Lib.hid fun n b v u w g1 g2 g3 g4 => lawalu_any n b v u g1 g2 g3 g4 w) a0 a1 a2 a3 y z w hA hB hC hy hy0 hy1 hz hz0 hz1 f1 f2 (bne_self_eq_false _) (bne_self_eq_false _) t.1 t.2 hop (by rw [thin_of_wide a0 a1 a2 hop]; exact beq_self_eq_true _) (aluV_bd a0 true _ _ (by omega) (by omega) (by omega) (by omega)).1
  · exact core_no aluV aluOk jumpV jumpOk (Lib.hid fun n b v u w g1 g2 g3 g4 => alu_any n b v u g1 g2 g3 g4 w) (Lib.hid fun n b v u w g1 g2 g3 g4 => jump_any n b v u g1 g2 g3 g4 w) (Lib.hid fun n b v u w g1 g2 g3 g4 => lawalu_any n b v u g1 g2 g3 g4 w) a0 a1 a2 a3 y z w hA hB hC hy hy0 hy1 hz hz0 hz1 f1 f2 (bne_self_eq_false _) (bne_self_eq_false _) t.1 t.2 (by omega) (fun h => by unfold jumpOk; simp only [decide_eq_false_iff_not]; omega) rfl rfl rfl

set_option maxRecDepth 100000 in
theorem lifted (os : Os) (started : os.Started) (H : Type) (enc : TypeId × Value → H) :
    ReturnsInHanded {} Try.checked os 7 .any (Rows.wordNarrowSpec.pre6 enc Try.prog Try.f7 Rows.wordNarrowRow.domain false) (Rows.wordNarrowSpec.post enc Try.prog Try.f7 false true false false) := by
  refine returnsInHanded_of_change (C := Try.checked) own started (by kernel_rfl) Try.func7
    (ChangeSpec.witness6 (enc := enc) (C := Try.checked) false ⟨#[], #[.int .i64 0, .int .u64 0, .int .u64 0, .int .u64 0], []⟩ 8 (by kernel_rfl) (by kernel_rfl) (by kernel_rfl) (by kernel_rfl)) ?_
  intro W base args ds gs before hval0 hW hcnd _
  have hval : ∀ (j : Nat) t v, Try.f7.params[j]? = some t → args[j]? = some v → Value.okWide Try.prog W .any base t v := hval0
  have hW' := hW
  obtain ⟨p, q, hA0, hV, rfl, hfz, hnd⟩ := hW
  have hA : DataW.TrodAll enc Try.prog W 0 (fun _ => true) true Try.f7.params.toList args.toList ds p := hA0
  rw [Try.params7] at hA hval
  obtain ⟨v0, vs0, d0, ds0, p0, q0, hargs, rfl, rfl, h0, r0⟩ := trodAll_cons hA
  obtain ⟨v1, vs1, d1, ds1, p1, q1, rfl, rfl, rfl, h1, r1⟩ := trodAll_cons r0
  obtain ⟨v2, vs2, d2, ds2, p2, q2, rfl, rfl, rfl, h2, r2⟩ := trodAll_cons r1
  obtain ⟨v3, vs3, d3, ds3, p3, q3, rfl, rfl, rfl, h3, r3⟩ := trodAll_cons r2
  obtain ⟨rfl, rfl, rfl⟩ := trodAll_nil r3
  obtain rfl : args = #[v0, v1, v2, v3] := by cases args; simp_all
  obtain ⟨rfl, rfl⟩ := trodVars_none hV
  obtain ⟨a0, rfl, rfl, rfl, w0⟩ := open_int Try.underlying3 (hval 0 3 v0 rfl rfl) h0
  obtain ⟨a1, rfl, rfl, rfl, w1⟩ := open_int Try.underlying22 (hval 1 22 v1 rfl rfl) h1
  obtain ⟨a2, rfl, rfl, rfl, w2⟩ := open_int Try.underlying22 (hval 2 22 v2 rfl rfl) h2
  obtain ⟨a3, rfl, rfl, rfl, w3⟩ := open_int Try.underlying22 (hval 3 22 v3 rfl rfl) h3
  clear hA0 hval0
  simp only [List.append_nil] at hW'
  refine (walk a0 a1 a2 a3 w0 w1 w2 w3 W).mono fun e W' ⟨he, hg⟩ => ?_
  subst he
  exact ⟨_, rfl, post_of_same (pa := []) (pv := []) hW' (fun _ _ _ => (trodAll_cons_mk (shut_bool Try.underlying4 _) trodAll_mk0)) (fun sp _ => (trodAll_cons_mk (shut_int Try.underlying3 w0) (trodAll_cons_mk (shut_int Try.underlying22 w1) (trodAll_cons_mk (shut_int Try.underlying22 w2) (trodAll_cons_mk (shut_int Try.underlying22 w3) trodAll_mk0))))) (fun _ _ => rfl) rfl
    (hg.frame _) hg.2.1 (ok_one (by kernel_rfl) rfl (okWide_bool_mk Try.underlying4 _))⟩

theorem over : Rows.wordNarrowRow.holds Try.pinned (OpenSpec.ofChange Rows.wordNarrowSpec) :=
  OpenClaim.holds_of_wide 7 Try.f7 rfl rfl rfl rfl rfl rfl rfl ⟨rfl, rfl, rfl, rfl, rfl⟩ rfl rfl rfl rfl rfl (by kernel_rfl) Try.func7 (by kernel_rfl)
    (of_decide_eq_true (by kernel_rfl)) (by unfold Func.isWrapper; first | (rw [if_pos (by decide +kernel)]; kernel_rfl) | (rw [if_neg (by decide +kernel)]; exact ⟨rfl, rfl⟩))
    (fun os started H enc _ => lifted os started H enc)

theorem proved : Rows.WordNarrowSaid :=
  over
#print axioms proved
end Go.Proofs.Ytopgjjcljapjoaa.wordNarrow
