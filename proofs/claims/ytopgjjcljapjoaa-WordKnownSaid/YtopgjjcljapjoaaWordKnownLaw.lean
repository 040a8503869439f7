/-
  Proved: the statement WordKnown: the chapter's examples of layer 1 are as the document says. A closed statement, no conditions.
-/
import Derived.Test.YtopgjjcljapjoaaRows
import Derived.Test.YtopgjjcljapjoaaWordCode
import Derived.Test.YtopgjjcljapjoaaWordSwap
import Derived.WalkKit
import Derived.ProofKit
import Derived.OpenShut
namespace Go.Proofs.Ytopgjjcljapjoaa.wordKnown
open Go.ChangeShapes Go.WideShapes Go.ChangeAt Go.RowKit Wd
set_option linter.unusedVariables false

theorem own : ownKnob Try.prog.godebug = none := by kernel_rfl

theorem s1 : swapV 16 true 258 = 513 := by decide
theorem s2 : swapV 32 false 4294967301 = 5 := by decide
set_option maxRecDepth 100000 in
set_option maxHeartbeats 4000000 in
theorem core (S : Int → Bool → Int → Int) (O : Int → Bool) (P : Int → Bool → Int → Int → Int) (PO : Int → Bool) (J : Int → Bool → Int → Int → Bool) (JO : Int → Bool)
    (C : Hid (∀ n b v w, 0 ≤ v → v ≤ 18446744073709551615 → Calls Try.prog 15 #[.int .i64 n, .bool b, .int .u64 v] w fun e w' => e = .returned (.tuple #[.int .u64 (S n b v), .bool (O n)]) ∧ w = w'))
    (CP : Hid (∀ n b v u w, 0 ≤ v → v ≤ 18446744073709551615 → 0 ≤ u → u ≤ 18446744073709551615 → Calls Try.prog 12 #[.int .i64 n, .bool b, .int .u64 v, .int .u64 u] w fun e w' => e = .returned (.tuple #[.int .u64 (P n b v u), .bool (PO n)]) ∧ w = w'))
    (CJ : Hid (∀ n b v u w, 0 ≤ v → v ≤ 18446744073709551615 → 0 ≤ u → u ≤ 18446744073709551615 → Calls Try.prog 17 #[.int .i64 n, .bool b, .int .u64 v, .int .u64 u] w fun e w' => e = .returned (.tuple #[.bool (J n b v u), .bool (JO n)]) ∧ w = w'))
    (CL : Hid (∀ n b v u w, 0 ≤ v → v ≤ 18446744073709551615 → 0 ≤ u → u ≤ 18446744073709551615 → Calls Try.prog 19 #[.int .i64 n, .bool b, .int .u64 v, .int .u64 u] w fun e w' => e = .returned (.int .u64 (P n b v u)) ∧ w = w'))
    (CM : Hid (∀ n b v u w, 0 ≤ v → v ≤ 18446744073709551615 → 0 ≤ u → u ≤ 18446744073709551615 → Calls Try.prog 20 #[.int .i64 n, .bool b, .int .u64 v, .int .u64 u] w fun e w' => e = .returned (.bool (J n b v u)) ∧ w = w'))
    (o1 : O 16 = true) (o2 : O 32 = true) (o3 : O 8 = false) (v1 : S 16 true 258 = 513) (v2 : S 32 false 4294967301 = 5)
    (p1 : PO (-1) = false) (p2 : PO 13 = false) (p3 : PO 14 = false) (p4 : PO 1099511627776 = false)
    (q1 : P (-1) true 3 4 = 0) (q2 : P 13 true 3 4 = 0) (q3 : P 14 true 3 4 = 0) (q4 : P 1099511627776 true 3 4 = 0)
    (j1 : JO (-1) = false) (j2 : JO 0 = false) (j3 : JO 8 = false) (j4 : JO 9 = false) (j5 : JO 14 = false)
    (k1 : J (-1) true 3 3 = false) (k2 : J 0 true 3 3 = false) (k3 : J 8 true 3 3 = false) (k4 : J 9 true 3 3 = false) (k5 : J 14 true 3 3 = false)
    (e1 : P 3 true 7 0 = 0) (e2 : P 9 true 7 0 = 7) (e3 : P 12 false 2147483648 33 = 3221225472) (e4 : J 6 false 0 2147483648 = true) (e5 : J 2 false 0 2147483648 = false) (w : World) :
    Calls Try.prog 11 #[] w fun e w' => e = .returned (.bool true) ∧ Grown w w' := by
  go_enter Try.func11, Try.ntmps11
  go_wp2_with (go_at_call 15; refine (C.out _ _ _ _ (by omega) (by omega)).mono ?_; rintro e w' ⟨rfl, rfl⟩)
  go_loop [8] (fun i => ∃ k : Nat, k ≤ 4 ∧ i = .int .i64 k) (fun i => 4 - (intOf i).toNat)
  case atStart => exact ⟨0, Nat.zero_le _, rfl⟩
  case round =>
    obtain ⟨k, hk, rfl⟩ := hrel
    have hc : k = 0 ∨ k = 1 ∨ k = 2 ∨ k = 3 ∨ k = 4 := by omega
    rcases hc with rfl | rfl | rfl | rfl | rfl
    · go_wp2_with (go_at_call 12; refine (CP.out _ _ _ _ _ (by omega) (by omega) (by omega) (by omega)).mono ?_; rintro e w' ⟨rfl, rfl⟩)
      go_round
      case rel => exact ⟨1, by omega, by go_num⟩
      case measure => simp [intOf]
    · go_wp2_with (go_at_call 12; refine (CP.out _ _ _ _ _ (by omega) (by omega) (by omega) (by omega)).mono ?_; rintro e w' ⟨rfl, rfl⟩)
      go_round
      case rel => exact ⟨2, by omega, by go_num⟩
      case measure => simp [intOf]
    · go_wp2_with (go_at_call 12; refine (CP.out _ _ _ _ _ (by omega) (by omega) (by omega) (by omega)).mono ?_; rintro e w' ⟨rfl, rfl⟩)
      go_round
      case rel => exact ⟨3, by omega, by go_num⟩
      case measure => simp [intOf]
    · go_wp2_with (go_at_call 12; refine (CP.out _ _ _ _ _ (by omega) (by omega) (by omega) (by omega)).mono ?_; rintro e w' ⟨rfl, rfl⟩)
      go_round
      case rel => exact ⟨4, by omega, by go_num⟩
      case measure => simp [intOf]
    · go_wp2
      go_loop [12] (fun i => ∃ k : Nat, k ≤ 5 ∧ i = .int .i64 k) (fun i => 5 - (intOf i).toNat)
      case atStart => exact ⟨0, Nat.zero_le _, rfl⟩
      case round =>
        obtain ⟨k, hk, rfl⟩ := hrel
        have hc : k = 0 ∨ k = 1 ∨ k = 2 ∨ k = 3 ∨ k = 4 ∨ k = 5 := by omega
        rcases hc with rfl | rfl | rfl | rfl | rfl | rfl
        · go_wp2_with (go_at_call 17; refine (CJ.out _ _ _ _ _ (by omega) (by omega) (by omega) (by omega)).mono ?_; rintro e w' ⟨rfl, rfl⟩)
          go_round
          case rel => exact ⟨1, by omega, by go_num⟩
          case measure => simp [intOf]
        · go_wp2_with (go_at_call 17; refine (CJ.out _ _ _ _ _ (by omega) (by omega) (by omega) (by omega)).mono ?_; rintro e w' ⟨rfl, rfl⟩)
          go_round
          case rel => exact ⟨2, by omega, by go_num⟩
          case measure => simp [intOf]
        · go_wp2_with (go_at_call 17; refine (CJ.out _ _ _ _ _ (by omega) (by omega) (by omega) (by omega)).mono ?_; rintro e w' ⟨rfl, rfl⟩)
          go_round
          case rel => exact ⟨3, by omega, by go_num⟩
          case measure => simp [intOf]
        · go_wp2_with (go_at_call 17; refine (CJ.out _ _ _ _ _ (by omega) (by omega) (by omega) (by omega)).mono ?_; rintro e w' ⟨rfl, rfl⟩)
          go_round
          case rel => exact ⟨4, by omega, by go_num⟩
          case measure => simp [intOf]
        · go_wp2_with (go_at_call 17; refine (CJ.out _ _ _ _ _ (by omega) (by omega) (by omega) (by omega)).mono ?_; rintro e w' ⟨rfl, rfl⟩)
          go_round
          case rel => exact ⟨5, by omega, by go_num⟩
          case measure => simp [intOf]
        · go_wp2_with (first | (go_at_call 19; refine (CL.out _ _ _ _ _ (by omega) (by omega) (by omega) (by omega)).mono ?_; rintro e w' ⟨rfl, rfl⟩) | (go_at_call 20; refine (CM.out _ _ _ _ _ (by omega) (by omega) (by omega) (by omega)).mono ?_; rintro e w' ⟨rfl, rfl⟩) | (go_at_call 14; refine (known_any _).mono ?_; rintro e w' ⟨rfl, rfl⟩))
          go_ret
          exact ⟨rfl, ((Grown.refl _).alloc _ _).alloc _ _⟩

set_option maxRecDepth 100000 in
set_option maxHeartbeats 4000000 in
theorem walk  (w : World) :
    Calls Try.prog 11 #[] w fun e w' => e = .returned (.bool true) ∧ Grown w w' := by
  exact core swapV swapOk aluV aluOk jumpV jumpOk (Lib.hid fun n b v w g1 g2 => swap_any n b v g1 g2 w) (Lib.hid fun n b v u w g1 g2 g3 g4 => alu_any n b v u g1 g2 g3 g4 w) (Lib.hid fun n b v u w g1 g2 g3 g4 => jump_any n b v u g1 g2 g3 g4 w)
    (Lib.hid fun n b v u w g1 g2 g3 g4 => lawalu_any n b v u g1 g2 g3 g4 w) (Lib.hid fun n b v u w g1 g2 g3 g4 => lawjump_any n b v u g1 g2 g3 g4 w)
    (by decide) (by decide) (by decide) s1 s2 (by decide) (by decide) (by decide) (by decide) (by decide) (by decide) (by decide) (by decide) (by decide) (by decide) (by decide) (by decide) (by decide) (by decide) (by decide) (by decide) (by decide) (by decide)
    (by decide) (by decide) (by decide) (by decide) (by decide) w

set_option maxRecDepth 100000 in
theorem lifted (os : Os) (started : os.Started) (H : Type) (enc : TypeId × Value → H) :
    ReturnsInHanded {} Try.checked os 11 .any (Rows.wordKnownSpec.pre6 enc Try.prog Try.f11 Rows.wordKnownRow.domain false) (Rows.wordKnownSpec.post enc Try.prog Try.f11 false true false false) := by
  refine returnsInHanded_of_change (C := Try.checked) own started (by kernel_rfl) Try.func11
    (ChangeSpec.witness6 (enc := enc) (C := Try.checked) false ⟨#[], #[], []⟩ 8 (by kernel_rfl) (by kernel_rfl) (by kernel_rfl) (by kernel_rfl)) ?_
  intro W base args ds gs before hval0 hW hcnd _
  have hval : ∀ (j : Nat) t v, Try.f11.params[j]? = some t → args[j]? = some v → Value.okWide Try.prog W .any base t v := hval0
  have hW' := hW
  obtain ⟨p, q, hA0, hV, rfl, hfz, hnd⟩ := hW
  have hA : DataW.TrodAll enc Try.prog W 0 (fun _ => true) true Try.f11.params.toList args.toList ds p := hA0
  rw [Try.params11] at hA hval
  obtain ⟨rfl, rfl, rfl⟩ := trodAll_none hA
  obtain ⟨rfl, rfl⟩ := trodVars_none hV
  clear hA0 hval0
  simp only [List.append_nil] at hW'
  refine (walk  W).mono fun e W' ⟨he, hg⟩ => ?_
  subst he
  exact ⟨_, rfl, post_of_same (pa := []) (pv := []) hW' (fun _ _ _ => (trodAll_cons_mk (shut_bool Try.underlying4 _) trodAll_mk0)) (fun sp _ => rfl) (fun _ _ => rfl) rfl
    (hg.frame _) hg.2.1 (ok_one (by kernel_rfl) rfl (okWide_bool_mk Try.underlying4 _))⟩

theorem over : Rows.wordKnownRow.holds Try.pinned (OpenSpec.ofChange Rows.wordKnownSpec) :=
  OpenClaim.holds_of_wide 11 Try.f11 rfl rfl rfl rfl rfl rfl rfl ⟨rfl, rfl, rfl, rfl, rfl⟩ rfl rfl rfl rfl rfl (by kernel_rfl) Try.func11 (by kernel_rfl)
    (of_decide_eq_true (by kernel_rfl)) (by unfold Func.isWrapper; first | (rw [if_pos (by decide +kernel)]; kernel_rfl) | (rw [if_neg (by decide +kernel)]; exact ⟨rfl, rfl⟩))
    (fun os started H enc _ => lifted os started H enc)

theorem proved : Rows.WordKnownSaid :=
  over
#print axioms proved
end Go.Proofs.Ytopgjjcljapjoaa.wordKnown
