/-
  Proved: the statement WordTurns: whatever the number, its bytes in the other order twice are as they were, what is cut is the lowest, and of 64 bits all are there. No conditions.
-/
import Derived.Test.YtopgjjcljapjoaaRows
import Derived.Test.YtopgjjcljapjoaaWordCode
import Derived.Test.YtopgjjcljapjoaaWordSwap
import Derived.WalkKit
import Derived.ProofKit
import Derived.OpenShut
namespace Go.Proofs.Ytopgjjcljapjoaa.wordTurns
open Go.ChangeShapes Go.WideShapes Go.ChangeAt Go.RowKit Wd
set_option linter.unusedVariables false

theorem own : ownKnob Try.prog.godebug = none := by kernel_rfl

theorem sw16 (v : Int) : swapV 16 true v = ((revN 2 v.toNat : Nat) : Int) := rfl
theorem sw32 (v : Int) : swapV 32 true v = ((revN 4 v.toNat : Nat) : Int) := rfl
theorem sw64 (v : Int) : swapV 64 true v = ((revN 8 v.toNat : Nat) : Int) := rfl
theorem sw_bd (v : Int) : (0 ≤ swapV 16 true v ∧ swapV 16 true v < 65536) ∧ (0 ≤ swapV 32 true v ∧ swapV 32 true v < 4294967296) ∧ (0 ≤ swapV 64 true v ∧ swapV 64 true v < 18446744073709551616) := by
  have h2 := revN_lt 2 v.toNat
  have h4 := revN_lt 4 v.toNat
  have h8 := revN_lt 8 v.toNat
  rw [sw16, sw32, sw64]; omega
theorem t16 (V : Nat) : swapV 16 true (swapV 16 true (V : Int)) = (V : Int) % 65536 := by
  rw [sw16, sw16, Int.toNat_natCast, Int.toNat_natCast, revN_twice]; omega
theorem t32 (V : Nat) : swapV 32 true (swapV 32 true (V : Int)) = (V : Int) % 4294967296 := by
  rw [sw32, sw32, Int.toNat_natCast, Int.toNat_natCast, revN_twice]; omega
theorem t64 (V : Nat) (h : V < 18446744073709551616) : swapV 64 true (swapV 64 true (V : Int)) = (V : Int) := by
  rw [sw64, sw64, Int.toNat_natCast, Int.toNat_natCast, revN_twice]; omega
theorem low16 (v : Int) : swapV 16 false v = v % 65536 := rfl
theorem low32 (v : Int) : swapV 32 false v = v % 4294967296 := rfl
theorem low64 (v : Int) : swapV 64 false v = v := rfl
set_option maxRecDepth 100000 in
set_option maxHeartbeats 4000000 in
theorem core (S : Int → Bool → Int → Int) (O : Int → Bool)
    (C : Hid (∀ n b v w, 0 ≤ v → v ≤ 18446744073709551615 → Calls Try.prog 15 #[.int .i64 n, .bool b, .int .u64 v] w fun e w' => e = .returned (.tuple #[.int .u64 (S n b v), .bool (O n)]) ∧ w = w'))
    (a0 : Int) (h1 : 0 ≤ a0) (h2 : a0 ≤ 18446744073709551615) (o1 : O 16 = true) (o2 : O 32 = true) (o3 : O 64 = true)
    (b1 : 0 ≤ S 16 true a0) (b2 : S 16 true a0 < 65536) (b3 : 0 ≤ S 32 true a0) (b4 : S 32 true a0 < 4294967296) (b5 : 0 ≤ S 64 true a0) (b6 : S 64 true a0 < 18446744073709551616)
    (t1 : (S 16 true (S 16 true a0) != S 16 false a0) = false) (t2 : (S 32 true (S 32 true a0) != S 32 false a0) = false) (t3 : (S 64 true (S 64 true a0) != S 64 false a0) = false)
    (c1 : (S 16 false a0 != a0 % 65536) = false) (c2 : (S 32 false a0 != a0 % 4294967296) = false) (c3 : (S 64 false a0 == a0) = true) (w : World) :
    Calls Try.prog 10 #[.int .u64 a0] w fun e w' => e = .returned (.bool true) ∧ Grown w w' := by
  go_enter Try.func10, Try.ntmps10
  go_wp2
  go_loop [4] (fun i => ∃ k : Nat, k ≤ 3 ∧ i = .int .i64 k) (fun i => 3 - (intOf i).toNat)
  case atStart => exact ⟨0, Nat.zero_le _, rfl⟩
  case round =>
    obtain ⟨k, hk, rfl⟩ := hrel
    have hc : k = 0 ∨ k = 1 ∨ k = 2 ∨ k = 3 := by omega
    rcases hc with rfl | rfl | rfl | rfl
    · go_wp2_with (go_at_call 15; refine (C.out _ _ _ _ (by omega) (by omega)).mono ?_; rintro e w' ⟨rfl, rfl⟩)
      go_round
      case rel => exact ⟨1, by omega, by go_num⟩
      case measure => simp [intOf]
    · go_wp2_with (go_at_call 15; refine (C.out _ _ _ _ (by omega) (by omega)).mono ?_; rintro e w' ⟨rfl, rfl⟩)
      go_round
      case rel => exact ⟨2, by omega, by go_num⟩
      case measure => simp [intOf]
    · go_wp2_with (go_at_call 15; refine (C.out _ _ _ _ (by omega) (by omega)).mono ?_; rintro e w' ⟨rfl, rfl⟩)
      go_round
      case rel => exact ⟨3, by omega, by go_num⟩
      case measure => simp [intOf]
    · go_wp2_with (first | (go_at_call 15; refine (C.out _ _ _ _ (by omega) (by omega)).mono ?_; rintro e w' ⟨rfl, rfl⟩) | (go_at_call 14; refine (known_any _).mono ?_; rintro e w' ⟨rfl, rfl⟩))
      go_ret
      exact ⟨rfl, (Grown.refl _).alloc _ _⟩

set_option maxRecDepth 100000 in
set_option maxHeartbeats 4000000 in
theorem walk (a0 : Int) (w0 : (Lit.int .u64 a0).wf = true) (w : World) :
    Calls Try.prog 10 #[.int .u64 a0] w fun e w' => e = .returned (.bool true) ∧ Grown w w' := by
  have h := bounds_u64 w0
  obtain ⟨V, rfl⟩ := Int.eq_ofNat_of_zero_le h.1
  obtain ⟨⟨b1, b2⟩, ⟨b3, b4⟩, ⟨b5, b6⟩⟩ := sw_bd V
  exact core swapV swapOk (Lib.hid fun n b v w g1 g2 => swap_any n b v g1 g2 w) V h.1 h.2 rfl rfl rfl b1 b2 b3 b4 b5 b6
    (by rw [t16, low16]; exact bne_self_eq_false _) (by rw [t32, low32]; exact bne_self_eq_false _) (by rw [t64 V (by omega), low64]; exact bne_self_eq_false _)
    (by rw [low16]; exact bne_self_eq_false _) (by rw [low32]; exact bne_self_eq_false _) (by rw [low64]; exact beq_self_eq_true _) w

set_option maxRecDepth 100000 in
theorem lifted (os : Os) (started : os.Started) (H : Type) (enc : TypeId × Value → H) :
    ReturnsInHanded {} Try.checked os 10 .any (Rows.wordTurnsSpec.pre6 enc Try.prog Try.f10 Rows.wordTurnsRow.domain false) (Rows.wordTurnsSpec.post enc Try.prog Try.f10 false true false false) := by
  refine returnsInHanded_of_change (C := Try.checked) own started (by kernel_rfl) Try.func10
    (ChangeSpec.witness6 (enc := enc) (C := Try.checked) false ⟨#[], #[.int .u64 0], []⟩ 8 (by kernel_rfl) (by kernel_rfl) (by kernel_rfl) (by kernel_rfl)) ?_
  intro W base args ds gs before hval0 hW hcnd _
  have hval : ∀ (j : Nat) t v, Try.f10.params[j]? = some t → args[j]? = some v → Value.okWide Try.prog W .any base t v := hval0
  have hW' := hW
  obtain ⟨p, q, hA0, hV, rfl, hfz, hnd⟩ := hW
  have hA : DataW.TrodAll enc Try.prog W 0 (fun _ => true) true Try.f10.params.toList args.toList ds p := hA0
  rw [Try.params10] at hA hval
  obtain ⟨v0, vs0, d0, ds0, p0, q0, hargs, rfl, rfl, h0, r0⟩ := trodAll_cons hA
  obtain ⟨rfl, rfl, rfl⟩ := trodAll_nil r0
  obtain rfl : args = #[v0] := by cases args; simp_all
  obtain ⟨rfl, rfl⟩ := trodVars_none hV
  obtain ⟨a0, rfl, rfl, rfl, w0⟩ := open_int Try.underlying22 (hval 0 22 v0 rfl rfl) h0
  clear hA0 hval0
  simp only [List.append_nil] at hW'
  refine (walk a0 w0 W).mono fun e W' ⟨he, hg⟩ => ?_
  subst he
  exact ⟨_, rfl, post_of_same (pa := []) (pv := []) hW' (fun _ _ _ => (trodAll_cons_mk (shut_bool Try.underlying4 _) trodAll_mk0)) (fun sp _ => (trodAll_cons_mk (shut_int Try.underlying22 w0) trodAll_mk0)) (fun _ _ => rfl) rfl
    (hg.frame _) hg.2.1 (ok_one (by kernel_rfl) rfl (okWide_bool_mk Try.underlying4 _))⟩

theorem over : Rows.wordTurnsRow.holds Try.pinned (OpenSpec.ofChange Rows.wordTurnsSpec) :=
  OpenClaim.holds_of_wide 10 Try.f10 rfl rfl rfl rfl rfl rfl rfl ⟨rfl, rfl, rfl, rfl, rfl⟩ rfl rfl rfl rfl rfl (by kernel_rfl) Try.func10 (by kernel_rfl)
    (of_decide_eq_true (by kernel_rfl)) (by unfold Func.isWrapper; first | (rw [if_pos (by decide +kernel)]; kernel_rfl) | (rw [if_neg (by decide +kernel)]; exact ⟨rfl, rfl⟩))
    (fun os started H enc _ => lifted os started H enc)

theorem proved : Rows.WordTurnsSaid :=
  over
#print axioms proved
end Go.Proofs.Ytopgjjcljapjoaa.wordTurns
