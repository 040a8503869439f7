/-
  Proved: the statement WordShifts: whatever the width, the number and the distance, a shift is a shift one by one, up a product and down a quotient with a power of two. No conditions.
-/
import Derived.Test.YtopgjjcljapjoaaRows
import Derived.Test.YtopgjjcljapjoaaWordCode
import Derived.Test.YtopgjjcljapjoaaWordMath6
import Derived.BigQuiet
import Derived.Deep.QuietTactic
import Derived.WalkKit
import Derived.ProofKit
import Derived.OpenShut
namespace Go.Proofs.Ytopgjjcljapjoaa.wordShifts
open Go.ChangeShapes Go.WideShapes Go.ChangeAt Go.RowKit Wd
set_option linter.unusedVariables false

theorem own : ownKnob Try.prog.godebug = none := by kernel_rfl

theorem quiet_left {P : Program} {f : FuncId} {args : Array Value} {w : World} {n : Nat} {v : Value}
    (h : Calls P f args (w.drewN n) fun e w' => e = .returned v ∧ w.drewN n = w') : Calls P f args (w.drewN n) fun e w'' => e = .returned v ∧ ∃ m, w'' = w.drewN m :=
  h.mono fun _ _ ⟨he, hm⟩ => ⟨he, n, hm.symm⟩
set_option maxRecDepth 100000 in
set_option maxHeartbeats 4000000 in
theorem core64 (P : Int → Bool → Int → Int → Int)
    (CL : Hid (∀ n b v u w, 0 ≤ v → v ≤ 18446744073709551615 → 0 ≤ u → u ≤ 18446744073709551615 → Calls Try.prog 19 #[.int .i64 n, .bool b, .int .u64 v, .int .u64 u] w fun e w' => e = .returned (.int .u64 (P n b v u)) ∧ w = w'))
    (a1 a2 : Int) (K : Nat) (hK : K ≤ 62) (hA : 0 ≤ a1 ∧ a1 ≤ 18446744073709551615) (hw0 : 0 ≤ IntKind.u64.wrap a2) (hk : IntKind.u64.wrap a2 % 63 = K)
    (b6 : 0 ≤ P 6 true a1 K ∧ P 6 true a1 K ≤ 18446744073709551615) (b7 : 0 ≤ P 7 true a1 K ∧ P 7 true a1 K ≤ 18446744073709551615) (b12 : 0 ≤ P 12 true a1 K ∧ P 12 true a1 K ≤ 18446744073709551615)
    (n6 : (P 6 true a1 ((K : Int) + 1) != P 6 true (P 6 true a1 K) 1) = false) (n7 : (P 7 true a1 ((K : Int) + 1) != P 7 true (P 7 true a1 K) 1) = false) (n12 : (P 12 true a1 ((K : Int) + 1) != P 12 true (P 12 true a1 K) 1) = false)
    (m6 : (P 6 true a1 ((K : Int) + 64) != P 6 true a1 K) = false) (m7 : (P 7 true a1 ((K : Int) + 64) != P 7 true a1 K) = false) (m12 : (P 12 true a1 ((K : Int) + 64) != P 12 true a1 K) = false)
    (e1 : (P 6 true a1 K == P 2 true a1 (2 ^ K)) = true) (e2 : (P 7 true a1 K == P 3 true a1 (2 ^ K)) = true) (hp0 : (0 : Int) < 2 ^ K) (hp1 : (2 : Int) ^ K ≤ 9223372036854775808) (w : World) :
    Calls Try.prog 8 #[.bool true, .int .u64 a1, .int .i64 a2] w fun e w' => e = .returned (.bool true) ∧ Grown w w' := by
  go_enter Try.func8, Try.ntmps8
  go_wp2
  go_loopw [10] (fun i wr => ∃ k : Nat, k ≤ 3 ∧ i = .int .i64 k ∧ wr.cell? ⟨w.heap.size, 0, none⟩ = some (.int .i64 6) ∧ wr.cell? ⟨w.heap.size, 1, none⟩ = some (.int .i64 7) ∧ wr.cell? ⟨w.heap.size, 2, none⟩ = some (.int .i64 12) ∧ Grown w wr) (fun i _ => 3 - (intOf i).toNat)
  case atStart => exact ⟨0, Nat.zero_le _, rfl, by simp [go_sem], by simp [go_sem], by simp [go_sem], (Grown.refl _).alloc _ _⟩
  case round =>
    obtain ⟨k, hk3, rfl, c0, c1, c2, hg⟩ := hrel
    have hc : k = 0 ∨ k = 1 ∨ k = 2 ∨ k = 3 := by omega
    rcases hc with rfl | rfl | rfl | rfl
    · go_wp2
      go_quiet ((go_at_call 19; exact quiet_left (CL.out _ _ _ _ _ (by omega) (by omega) (by omega) (by omega))))
      go_wp2
      go_roundw
      case rel => exact ⟨1, by omega, by go_num, c0, c1, c2, hg⟩
      case measure => simp [intOf]
    · go_wp2
      go_quiet ((go_at_call 19; exact quiet_left (CL.out _ _ _ _ _ (by omega) (by omega) (by omega) (by omega))))
      go_wp2
      go_roundw
      case rel => exact ⟨2, by omega, by go_num, c0, c1, c2, hg⟩
      case measure => simp [intOf]
    · go_wp2
      go_quiet ((go_at_call 19; exact quiet_left (CL.out _ _ _ _ _ (by omega) (by omega) (by omega) (by omega))))
      go_wp2
      go_roundw
      case rel => exact ⟨3, by omega, by go_num, c0, c1, c2, hg⟩
      case measure => simp [intOf]
    · go_wp2_with (first | (go_at_call 19; refine (CL.out _ _ _ _ _ (by omega) (by omega) (by omega) (by omega)).mono ?_; rintro e w' ⟨rfl, rfl⟩) | (go_at_call 14; refine (known_any _).mono ?_; rintro e w' ⟨rfl, rfl⟩))
      go_ret
      exact ⟨rfl, hg⟩
set_option maxRecDepth 100000 in
set_option maxHeartbeats 4000000 in
theorem core32 (P : Int → Bool → Int → Int → Int)
    (CL : Hid (∀ n b v u w, 0 ≤ v → v ≤ 18446744073709551615 → 0 ≤ u → u ≤ 18446744073709551615 → Calls Try.prog 19 #[.int .i64 n, .bool b, .int .u64 v, .int .u64 u] w fun e w' => e = .returned (.int .u64 (P n b v u)) ∧ w = w'))
    (a1 a2 : Int) (K : Nat) (hK : K ≤ 30) (hA : 0 ≤ a1 ∧ a1 ≤ 18446744073709551615) (hw0 : 0 ≤ IntKind.u64.wrap a2) (hk : IntKind.u64.wrap a2 % 31 = K)
    (b6 : 0 ≤ P 6 false a1 K ∧ P 6 false a1 K ≤ 18446744073709551615) (b7 : 0 ≤ P 7 false a1 K ∧ P 7 false a1 K ≤ 18446744073709551615) (b12 : 0 ≤ P 12 false a1 K ∧ P 12 false a1 K ≤ 18446744073709551615)
    (n6 : (P 6 false a1 ((K : Int) + 1) != P 6 false (P 6 false a1 K) 1) = false) (n7 : (P 7 false a1 ((K : Int) + 1) != P 7 false (P 7 false a1 K) 1) = false) (n12 : (P 12 false a1 ((K : Int) + 1) != P 12 false (P 12 false a1 K) 1) = false)
    (m6 : (P 6 false a1 ((K : Int) + 32) != P 6 false a1 K) = false) (m7 : (P 7 false a1 ((K : Int) + 32) != P 7 false a1 K) = false) (m12 : (P 12 false a1 ((K : Int) + 32) != P 12 false a1 K) = false)
    (e1 : (P 6 false a1 K == P 2 false a1 (2 ^ K)) = true) (e2 : (P 7 false a1 K == P 3 false a1 (2 ^ K)) = true) (hp0 : (0 : Int) < 2 ^ K) (hp1 : (2 : Int) ^ K ≤ 9223372036854775808) (w : World) :
    Calls Try.prog 8 #[.bool false, .int .u64 a1, .int .i64 a2] w fun e w' => e = .returned (.bool true) ∧ Grown w w' := by
  go_enter Try.func8, Try.ntmps8
  go_wp2
  go_loopw [10] (fun i wr => ∃ k : Nat, k ≤ 3 ∧ i = .int .i64 k ∧ wr.cell? ⟨w.heap.size, 0, none⟩ = some (.int .i64 6) ∧ wr.cell? ⟨w.heap.size, 1, none⟩ = some (.int .i64 7) ∧ wr.cell? ⟨w.heap.size, 2, none⟩ = some (.int .i64 12) ∧ Grown w wr) (fun i _ => 3 - (intOf i).toNat)
  case atStart => exact ⟨0, Nat.zero_le _, rfl, by simp [go_sem], by simp [go_sem], by simp [go_sem], (Grown.refl _).alloc _ _⟩
  case round =>
    obtain ⟨k, hk3, rfl, c0, c1, c2, hg⟩ := hrel
    have hc : k = 0 ∨ k = 1 ∨ k = 2 ∨ k = 3 := by omega
    rcases hc with rfl | rfl | rfl | rfl
    · go_wp2
      go_quiet ((go_at_call 19; exact quiet_left (CL.out _ _ _ _ _ (by omega) (by omega) (by omega) (by omega))))
      go_wp2
      go_roundw
      case rel => exact ⟨1, by omega, by go_num, c0, c1, c2, hg⟩
      case measure => simp [intOf]
    · go_wp2
      go_quiet ((go_at_call 19; exact quiet_left (CL.out _ _ _ _ _ (by omega) (by omega) (by omega) (by omega))))
      go_wp2
      go_roundw
      case rel => exact ⟨2, by omega, by go_num, c0, c1, c2, hg⟩
      case measure => simp [intOf]
    · go_wp2
      go_quiet ((go_at_call 19; exact quiet_left (CL.out _ _ _ _ _ (by omega) (by omega) (by omega) (by omega))))
      go_wp2
      go_roundw
      case rel => exact ⟨3, by omega, by go_num, c0, c1, c2, hg⟩
      case measure => simp [intOf]
    · go_wp2_with (first | (go_at_call 19; refine (CL.out _ _ _ _ _ (by omega) (by omega) (by omega) (by omega)).mono ?_; rintro e w' ⟨rfl, rfl⟩) | (go_at_call 14; refine (known_any _).mono ?_; rintro e w' ⟨rfl, rfl⟩))
      go_ret
      exact ⟨rfl, hg⟩

set_option maxRecDepth 100000 in
set_option maxHeartbeats 4000000 in
theorem walk (a0 : Bool) (a1 : Int) (a2 : Int) (w1 : (Lit.int .u64 a1).wf = true) (w2 : (Lit.int .i64 a2).wf = true) (w : World) :
    Calls Try.prog 8 #[.bool a0, .int .u64 a1, .int .i64 a2] w fun e w' => e = .returned (.bool true) ∧ Grown w w' := by
  have hA := bounds_u64 w1
  have hw0 := wrap_lo a2
  have CL := Lib.hid fun n b v u w g1 g2 g3 g4 => lawalu_any n b v u g1 g2 g3 g4 w
  cases a0
  · obtain ⟨K, hK⟩ := Int.eq_ofNat_of_zero_le (show 0 ≤ IntKind.u64.wrap a2 % 31 by omega)
    have hK1 : K ≤ 30 := by omega
    have hp := two_pow_pos K
    have hp1 := pow_lt63 K (by omega)
    have bd : ∀ op, 0 ≤ aluV op false a1 K ∧ aluV op false a1 K ≤ 18446744073709551615 := fun op => aluV_bd op false a1 K hA.1 hA.2 (by omega) (by omega)
    exact core32 aluV CL a1 a2 K hK1 hA hw0 hK (bd 6) (bd 7) (bd 12)
      (by rw [next6n a1 K hK1]; exact bne_self_eq_false _) (by rw [next7n a1 K hK1]; exact bne_self_eq_false _) (by rw [next12n a1 K hK1]; exact bne_self_eq_false _)
      (by rw [round32 6 a1 K (by omega) (by omega) (by decide)]; exact bne_self_eq_false _) (by rw [round32 7 a1 K (by omega) (by omega) (by decide)]; exact bne_self_eq_false _) (by rw [round32 12 a1 K (by omega) (by omega) (by decide)]; exact bne_self_eq_false _)
      (by rw [muln a1 K (by omega)]; exact beq_self_eq_true _) (by rw [quon a1 K (by omega)]; exact beq_self_eq_true _) hp hp1 w
  · obtain ⟨K, hK⟩ := Int.eq_ofNat_of_zero_le (show 0 ≤ IntKind.u64.wrap a2 % 63 by omega)
    have hK1 : K ≤ 62 := by omega
    have hp := two_pow_pos K
    have hp1 := pow_lt63 K (by omega)
    have bd : ∀ op, 0 ≤ aluV op true a1 K ∧ aluV op true a1 K ≤ 18446744073709551615 := fun op => aluV_bd op true a1 K hA.1 hA.2 (by omega) (by omega)
    exact core64 aluV CL a1 a2 K hK1 hA hw0 hK (bd 6) (bd 7) (bd 12)
      (by rw [next6w a1 K hK1]; exact bne_self_eq_false _) (by rw [next7w a1 K hK1]; exact bne_self_eq_false _) (by rw [next12w a1 K hK1 hA.1 hA.2]; exact bne_self_eq_false _)
      (by rw [round64 6 a1 K (by decide)]; exact bne_self_eq_false _) (by rw [round64 7 a1 K (by decide)]; exact bne_self_eq_false _) (by rw [round64 12 a1 K (by decide)]; exact bne_self_eq_false _)
      (by rw [mulw a1 K (by omega)]; exact beq_self_eq_true _) (by rw [quow a1 K (by omega)]; exact beq_self_eq_true _) hp hp1 w

set_option maxRecDepth 100000 in
theorem lifted (os : Os) (started : os.Started) (H : Type) (enc : TypeId × Value → H) :
    ReturnsInHanded {} Try.checked os 8 .any (Rows.wordShiftsSpec.pre6 enc Try.prog Try.f8 Rows.wordShiftsRow.domain false) (Rows.wordShiftsSpec.post enc Try.prog Try.f8 false true false false) := by
  refine returnsInHanded_of_change (C := Try.checked) own started (by kernel_rfl) Try.func8
    (ChangeSpec.witness6 (enc := enc) (C := Try.checked) false ⟨#[], #[.bool false, .int .u64 0, .int .i64 0], []⟩ 8 (by kernel_rfl) (by kernel_rfl) (by kernel_rfl) (by kernel_rfl)) ?_
  intro W base args ds gs before hval0 hW hcnd _
  have hval : ∀ (j : Nat) t v, Try.f8.params[j]? = some t → args[j]? = some v → Value.okWide Try.prog W .any base t v := hval0
  have hW' := hW
  obtain ⟨p, q, hA0, hV, rfl, hfz, hnd⟩ := hW
  have hA : DataW.TrodAll enc Try.prog W 0 (fun _ => true) true Try.f8.params.toList args.toList ds p := hA0
  rw [Try.params8] at hA hval
  obtain ⟨v0, vs0, d0, ds0, p0, q0, hargs, rfl, rfl, h0, r0⟩ := trodAll_cons hA
  obtain ⟨v1, vs1, d1, ds1, p1, q1, rfl, rfl, rfl, h1, r1⟩ := trodAll_cons r0
  obtain ⟨v2, vs2, d2, ds2, p2, q2, rfl, rfl, rfl, h2, r2⟩ := trodAll_cons r1
  obtain ⟨rfl, rfl, rfl⟩ := trodAll_nil r2
  obtain rfl : args = #[v0, v1, v2] := by cases args; simp_all
  obtain ⟨rfl, rfl⟩ := trodVars_none hV
  obtain ⟨a0, rfl, rfl, rfl⟩ := open_bool Try.underlying4 (hval 0 4 v0 rfl rfl) h0
  obtain ⟨a1, rfl, rfl, rfl, w1⟩ := open_int Try.underlying22 (hval 1 22 v1 rfl rfl) h1
  obtain ⟨a2, rfl, rfl, rfl, w2⟩ := open_int Try.underlying3 (hval 2 3 v2 rfl rfl) h2
  clear hA0 hval0
  simp only [List.append_nil] at hW'
  refine (walk a0 a1 a2 w1 w2 W).mono fun e W' ⟨he, hg⟩ => ?_
  subst he
  exact ⟨_, rfl, post_of_same (pa := []) (pv := []) hW' (fun _ _ _ => (trodAll_cons_mk (shut_bool Try.underlying4 _) trodAll_mk0)) (fun sp _ => (trodAll_cons_mk (shut_bool Try.underlying4 _) (trodAll_cons_mk (shut_int Try.underlying22 w1) (trodAll_cons_mk (shut_int Try.underlying3 w2) trodAll_mk0)))) (fun _ _ => rfl) rfl
    (hg.frame _) hg.2.1 (ok_one (by kernel_rfl) rfl (okWide_bool_mk Try.underlying4 _))⟩

theorem over : Rows.wordShiftsRow.holds Try.pinned (OpenSpec.ofChange Rows.wordShiftsSpec) :=
  OpenClaim.holds_of_wide 8 Try.f8 rfl rfl rfl rfl rfl rfl rfl ⟨rfl, rfl, rfl, rfl, rfl⟩ rfl rfl rfl rfl rfl (by kernel_rfl) Try.func8 (by kernel_rfl)
    (of_decide_eq_true (by kernel_rfl)) (by unfold Func.isWrapper; first | (rw [if_pos (by decide +kernel)]; kernel_rfl) | (rw [if_neg (by decide +kernel)]; exact ⟨rfl, rfl⟩))
    (fun os started H enc _ => lifted os started H enc)

theorem proved : Rows.WordShiftsSaid :=
  over
#print axioms proved
end Go.Proofs.Ytopgjjcljapjoaa.wordShifts
