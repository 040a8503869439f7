/-
  Proved: the statement WordOrders: whatever the width and the numbers, just one of below, alike, above is so, with a sign and without, each jump is done just if its counterpart is not, and with a sign the order is that of the numbers moved by half of all. No conditions.
-/
import Derived.Test.YtopgjjcljapjoaaRows
import Derived.Test.YtopgjjcljapjoaaWordCode
import Derived.Test.YtopgjjcljapjoaaWordMath6
import Derived.WalkKit
import Derived.ProofKit
import Derived.OpenShut
namespace Go.Proofs.Ytopgjjcljapjoaa.wordOrders
open Go.ChangeShapes Go.WideShapes Go.ChangeAt Go.RowKit Wd
set_option linter.unusedVariables false

theorem own : ownKnob Try.prog.godebug = none := by kernel_rfl

set_option maxRecDepth 100000 in
set_option maxHeartbeats 4000000 in
theorem core64 (P : Int → Bool → Int → Int → Int) (J : Int → Bool → Int → Int → Bool)
    (CL : Hid (∀ n b v u w, 0 ≤ v → v ≤ 18446744073709551615 → 0 ≤ u → u ≤ 18446744073709551615 → Calls Try.prog 19 #[.int .i64 n, .bool b, .int .u64 v, .int .u64 u] w fun e w' => e = .returned (.int .u64 (P n b v u)) ∧ w = w'))
    (CM : Hid (∀ n b v u w, 0 ≤ v → v ≤ 18446744073709551615 → 0 ≤ u → u ≤ 18446744073709551615 → Calls Try.prog 20 #[.int .i64 n, .bool b, .int .u64 v, .int .u64 u] w fun e w' => e = .returned (.bool (J n b v u)) ∧ w = w'))
    (a b : Int) (hA : 0 ≤ a ∧ a ≤ 18446744073709551615) (hB : 0 ≤ b ∧ b ≤ 18446744073709551615) (lt eq gt slt sgt : Bool)
    (hc : (lt = true ∧ eq = false ∧ gt = false ∧ slt = true ∧ sgt = false) ∨ (lt = true ∧ eq = false ∧ gt = false ∧ slt = false ∧ sgt = true) ∨ (lt = false ∧ eq = true ∧ gt = false ∧ slt = false ∧ sgt = false) ∨ (lt = false ∧ eq = false ∧ gt = true ∧ slt = true ∧ sgt = false) ∨ (lt = false ∧ eq = false ∧ gt = true ∧ slt = false ∧ sgt = true))
    (j10 : J 10 true a b = lt) (j1 : J 1 true a b = eq) (j2 : J 2 true a b = gt) (j12 : J 12 true a b = slt) (j6 : J 6 true a b = sgt)
    (j5 : J 5 true a b = !eq) (j3 : J 3 true a b = !lt) (j11 : J 11 true a b = !gt) (j7 : J 7 true a b = !slt) (j13 : J 13 true a b = !sgt)
    (r10 : J 10 true b a = gt) (r12 : J 12 true b a = sgt) (j4 : J 4 true a b = (P 5 true a b != 0))
    (hh : J 10 true (IntKind.u64.wrap (a + 9223372036854775808)) (IntKind.u64.wrap (b + 9223372036854775808)) = slt) (w : World) :
    Calls Try.prog 9 #[.bool true, .int .u64 a, .int .u64 b] w fun e w' => e = .returned (.bool true) ∧ Grown w w' := by
  rcases hc with ⟨rfl, rfl, rfl, rfl, rfl⟩ | ⟨rfl, rfl, rfl, rfl, rfl⟩ | ⟨rfl, rfl, rfl, rfl, rfl⟩ | ⟨rfl, rfl, rfl, rfl, rfl⟩ | ⟨rfl, rfl, rfl, rfl, rfl⟩
  all_goals
    simp only [Bool.not_true, Bool.not_false] at j5 j3 j11 j7 j13
    go_enter Try.func9, Try.ntmps9
    go_wp2_with (first | (go_at_call 20; refine (CM.out _ _ _ _ _ (by first | omega | exact wrap_lo _) (by first | omega | exact wrap_hi _) (by first | omega | exact wrap_lo _) (by first | omega | exact wrap_hi _)).mono ?_; rintro e w' ⟨rfl, rfl⟩) | (go_at_call 19; refine (CL.out _ _ _ _ _ (by omega) (by omega) (by omega) (by omega)).mono ?_; rintro e w' ⟨rfl, rfl⟩) | (go_at_call 14; refine (known_any _).mono ?_; rintro e w' ⟨rfl, rfl⟩))
    go_ret
    exact ⟨rfl, Grown.refl _⟩
set_option maxRecDepth 100000 in
set_option maxHeartbeats 4000000 in
theorem core32 (P : Int → Bool → Int → Int → Int) (J : Int → Bool → Int → Int → Bool)
    (CL : Hid (∀ n b v u w, 0 ≤ v → v ≤ 18446744073709551615 → 0 ≤ u → u ≤ 18446744073709551615 → Calls Try.prog 19 #[.int .i64 n, .bool b, .int .u64 v, .int .u64 u] w fun e w' => e = .returned (.int .u64 (P n b v u)) ∧ w = w'))
    (CM : Hid (∀ n b v u w, 0 ≤ v → v ≤ 18446744073709551615 → 0 ≤ u → u ≤ 18446744073709551615 → Calls Try.prog 20 #[.int .i64 n, .bool b, .int .u64 v, .int .u64 u] w fun e w' => e = .returned (.bool (J n b v u)) ∧ w = w'))
    (a b : Int) (hA : 0 ≤ a ∧ a ≤ 18446744073709551615) (hB : 0 ≤ b ∧ b ≤ 18446744073709551615) (lt eq gt slt sgt : Bool)
    (hc : (lt = true ∧ eq = false ∧ gt = false ∧ slt = true ∧ sgt = false) ∨ (lt = true ∧ eq = false ∧ gt = false ∧ slt = false ∧ sgt = true) ∨ (lt = false ∧ eq = true ∧ gt = false ∧ slt = false ∧ sgt = false) ∨ (lt = false ∧ eq = false ∧ gt = true ∧ slt = true ∧ sgt = false) ∨ (lt = false ∧ eq = false ∧ gt = true ∧ slt = false ∧ sgt = true))
    (j10 : J 10 false a b = lt) (j1 : J 1 false a b = eq) (j2 : J 2 false a b = gt) (j12 : J 12 false a b = slt) (j6 : J 6 false a b = sgt)
    (j5 : J 5 false a b = !eq) (j3 : J 3 false a b = !lt) (j11 : J 11 false a b = !gt) (j7 : J 7 false a b = !slt) (j13 : J 13 false a b = !sgt)
    (r10 : J 10 false b a = gt) (r12 : J 12 false b a = sgt) (j4 : J 4 false a b = (P 5 false a b != 0))
    (hh : J 10 false (IntKind.u64.wrap (a + 2147483648)) (IntKind.u64.wrap (b + 2147483648)) = slt) (w : World) :
    Calls Try.prog 9 #[.bool false, .int .u64 a, .int .u64 b] w fun e w' => e = .returned (.bool true) ∧ Grown w w' := by
  rcases hc with ⟨rfl, rfl, rfl, rfl, rfl⟩ | ⟨rfl, rfl, rfl, rfl, rfl⟩ | ⟨rfl, rfl, rfl, rfl, rfl⟩ | ⟨rfl, rfl, rfl, rfl, rfl⟩ | ⟨rfl, rfl, rfl, rfl, rfl⟩
  all_goals
    simp only [Bool.not_true, Bool.not_false] at j5 j3 j11 j7 j13
    go_enter Try.func9, Try.ntmps9
    go_wp2_with (first | (go_at_call 20; refine (CM.out _ _ _ _ _ (by first | omega | exact wrap_lo _) (by first | omega | exact wrap_hi _) (by first | omega | exact wrap_lo _) (by first | omega | exact wrap_hi _)).mono ?_; rintro e w' ⟨rfl, rfl⟩) | (go_at_call 19; refine (CL.out _ _ _ _ _ (by omega) (by omega) (by omega) (by omega)).mono ?_; rintro e w' ⟨rfl, rfl⟩) | (go_at_call 14; refine (known_any _).mono ?_; rintro e w' ⟨rfl, rfl⟩))
    go_ret
    exact ⟨rfl, Grown.refl _⟩
theorem tri (x y s t : Int) (h : s = t ↔ x = y) :
    (decide (x < y) = true ∧ (x == y) = false ∧ decide (y < x) = false ∧ decide (s < t) = true ∧ decide (t < s) = false) ∨ (decide (x < y) = true ∧ (x == y) = false ∧ decide (y < x) = false ∧ decide (s < t) = false ∧ decide (t < s) = true) ∨ (decide (x < y) = false ∧ (x == y) = true ∧ decide (y < x) = false ∧ decide (s < t) = false ∧ decide (t < s) = false) ∨ (decide (x < y) = false ∧ (x == y) = false ∧ decide (y < x) = true ∧ decide (s < t) = true ∧ decide (t < s) = false) ∨ (decide (x < y) = false ∧ (x == y) = false ∧ decide (y < x) = true ∧ decide (s < t) = false ∧ decide (t < s) = true) := by
  simp only [decide_eq_true_eq, decide_eq_false_iff_not, beq_iff_eq, beq_eq_false_iff_ne]
  omega
theorem not_lt (x y : Int) : decide (y ≤ x) = !decide (x < y) := by
  by_cases h : x < y
  · simp [h]
  · simp [h]; omega

set_option maxRecDepth 100000 in
set_option maxHeartbeats 4000000 in
theorem walk (a0 : Bool) (a1 : Int) (a2 : Int) (w1 : (Lit.int .u64 a1).wf = true) (w2 : (Lit.int .u64 a2).wf = true) (w : World) :
    Calls Try.prog 9 #[.bool a0, .int .u64 a1, .int .u64 a2] w fun e w' => e = .returned (.bool true) ∧ Grown w w' := by
  have hA := bounds_u64 w1
  have hB := bounds_u64 w2
  have CL := Lib.hid fun n b v u w g1 g2 g3 g4 => lawalu_any n b v u g1 g2 g3 g4 w
  have CM := Lib.hid fun n b v u w g1 g2 g3 g4 => lawjump_any n b v u g1 g2 g3 g4 w
  have ht := tri (ua a0 a1) (ua a0 a2) (sa a0 a1) (sa a0 a2) (sa_same a0 a1 a2 hA.1 hA.2 hB.1 hB.2)
  cases a0
  · exact core32 aluV jumpV CL CM a1 a2 hA hB _ _ _ _ _ ht (j10 _ _ _) (j1 _ _ _) (j2 _ _ _) (j12 _ _ _) (j6 _ _ _) (by rw [j5]; rfl) (by rw [j3]; exact not_lt _ _) (by rw [j11]; exact not_lt _ _) (by rw [j7]; exact not_lt _ _) (by rw [j13]; exact not_lt _ _)
      (j10 _ _ _) (j12 _ _ _) (j4 _ _ _) (by rw [← half32, j12]) w
  · exact core64 aluV jumpV CL CM a1 a2 hA hB _ _ _ _ _ ht (j10 _ _ _) (j1 _ _ _) (j2 _ _ _) (j12 _ _ _) (j6 _ _ _) (by rw [j5]; rfl) (by rw [j3]; exact not_lt _ _) (by rw [j11]; exact not_lt _ _) (by rw [j7]; exact not_lt _ _) (by rw [j13]; exact not_lt _ _)
      (j10 _ _ _) (j12 _ _ _) (j4 _ _ _) (by rw [← half64 a1 a2 hA.1 hA.2 hB.1 hB.2, j12]) w

set_option maxRecDepth 100000 in
theorem lifted (os : Os) (started : os.Started) (H : Type) (enc : TypeId × Value → H) :
    ReturnsInHanded {} Try.checked os 9 .any (Rows.wordOrdersSpec.pre6 enc Try.prog Try.f9 Rows.wordOrdersRow.domain false) (Rows.wordOrdersSpec.post enc Try.prog Try.f9 false true false false) := by
  refine returnsInHanded_of_change (C := Try.checked) own started (by kernel_rfl) Try.func9
    (ChangeSpec.witness6 (enc := enc) (C := Try.checked) false ⟨#[], #[.bool false, .int .u64 0, .int .u64 0], []⟩ 8 (by kernel_rfl) (by kernel_rfl) (by kernel_rfl) (by kernel_rfl)) ?_
  intro W base args ds gs before hval0 hW hcnd _
  have hval : ∀ (j : Nat) t v, Try.f9.params[j]? = some t → args[j]? = some v → Value.okWide Try.prog W .any base t v := hval0
  have hW' := hW
  obtain ⟨p, q, hA0, hV, rfl, hfz, hnd⟩ := hW
  have hA : DataW.TrodAll enc Try.prog W 0 (fun _ => true) true Try.f9.params.toList args.toList ds p := hA0
  rw [Try.params9] at hA hval
  obtain ⟨v0, vs0, d0, ds0, p0, q0, hargs, rfl, rfl, h0, r0⟩ := trodAll_cons hA
  obtain ⟨v1, vs1, d1, ds1, p1, q1, rfl, rfl, rfl, h1, r1⟩ := trodAll_cons r0
  obtain ⟨v2, vs2, d2, ds2, p2, q2, rfl, rfl, rfl, h2, r2⟩ := trodAll_cons r1
  obtain ⟨rfl, rfl, rfl⟩ := trodAll_nil r2
  obtain rfl : args = #[v0, v1, v2] := by cases args; simp_all
  obtain ⟨rfl, rfl⟩ := trodVars_none hV
  obtain ⟨a0, rfl, rfl, rfl⟩ := open_bool Try.underlying4 (hval 0 4 v0 rfl rfl) h0
  obtain ⟨a1, rfl, rfl, rfl, w1⟩ := open_int Try.underlying22 (hval 1 22 v1 rfl rfl) h1
  obtain ⟨a2, rfl, rfl, rfl, w2⟩ := open_int Try.underlying22 (hval 2 22 v2 rfl rfl) h2
  clear hA0 hval0
  simp only [List.append_nil] at hW'
  refine (walk a0 a1 a2 w1 w2 W).mono fun e W' ⟨he, hg⟩ => ?_
  subst he
  exact ⟨_, rfl, post_of_same (pa := []) (pv := []) hW' (fun _ _ _ => (trodAll_cons_mk (shut_bool Try.underlying4 _) trodAll_mk0)) (fun sp _ => (trodAll_cons_mk (shut_bool Try.underlying4 _) (trodAll_cons_mk (shut_int Try.underlying22 w1) (trodAll_cons_mk (shut_int Try.underlying22 w2) trodAll_mk0)))) (fun _ _ => rfl) rfl
    (hg.frame _) hg.2.1 (ok_one (by kernel_rfl) rfl (okWide_bool_mk Try.underlying4 _))⟩

theorem over : Rows.wordOrdersRow.holds Try.pinned (OpenSpec.ofChange Rows.wordOrdersSpec) :=
  OpenClaim.holds_of_wide 9 Try.f9 rfl rfl rfl rfl rfl rfl rfl ⟨rfl, rfl, rfl, rfl, rfl⟩ rfl rfl rfl rfl rfl (by kernel_rfl) Try.func9 (by kernel_rfl)
    (of_decide_eq_true (by kernel_rfl)) (by unfold Func.isWrapper; first | (rw [if_pos (by decide +kernel)]; kernel_rfl) | (rw [if_neg (by decide +kernel)]; exact ⟨rfl, rfl⟩))
    (fun os started H enc _ => lifted os started H enc)

theorem proved : Rows.WordOrdersSaid :=
  over
#print axioms proved
end Go.Proofs.Ytopgjjcljapjoaa.wordOrders
