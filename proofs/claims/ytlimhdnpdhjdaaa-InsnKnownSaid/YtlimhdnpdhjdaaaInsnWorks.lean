/-
  What each statement of layer 2 asks besides (works): contract.
-/
import Derived.Test.YtlimhdnpdhjdaaaKitInsns2
namespace Go.Proofs.Ytlimhdnpdhjdaaa
open Go.RowKit Wi Ow
set_option linter.unusedVariables false
set_option linter.unusedSimpArgs false

def wkL : List In := [⟨183, 1, 0, 0, -1⟩, ⟨24, 2, 0, 0, 4294967301⟩, ⟨123, 10, 1, -8, 0⟩]
def wkB : List Int := [183, 1, 0, 0, 255, 255, 255, 255, 24, 2, 0, 0, 5, 0, 0, 0, 0, 0, 0, 0, 1, 0, 0, 0, 123, 26, 248, 255, 0, 0, 0, 0]
theorem wk_putE : putE wkL = 0 := by decide +kernel
theorem wk_putO : putO wkL = wkB := by decide +kernel
theorem wk_getE : getE wkB = 0 := by decide +kernel
theorem wk_getO : getO wkB = wkL := by decide +kernel
theorem wk_isB : isB wkB := by unfold isB; decide +kernel
theorem wk_fits : ∀ x ∈ wkL, x.fits := by
  have h : ∀ x ∈ wkL, (-9223372036854775808 ≤ x.op ∧ x.op ≤ 9223372036854775807) ∧ (-9223372036854775808 ≤ x.dst ∧ x.dst ≤ 9223372036854775807) ∧ (-9223372036854775808 ≤ x.src ∧ x.src ≤ 9223372036854775807) ∧ (-9223372036854775808 ≤ x.off ∧ x.off ≤ 9223372036854775807) ∧ (-9223372036854775808 ≤ x.imm ∧ x.imm ≤ 9223372036854775807) := by decide +kernel
  exact h
theorem rd_new {w : World} {t : TypeId} {cs : Array Value} {xs : List Value} {B : Nat} (hx : xs = cs.toList) (hB : w.heap.size < B) : Rd (w.alloc (.cells cs t)) B (some ⟨w.heap.size, 0, none⟩) xs := fun _ => ⟨_, rfl, hB, by subst hx; exact new_cells w t cs⟩
set_option maxRecDepth 100000 in
set_option maxHeartbeats 2000000 in
theorem works_any (w : World) : Calls Try.prog 17 #[] w fun e w' => e = .returned (.bool true) ∧ Below w.heap.size w w' := by
  go_enter Try.func17, Try.ntmps17
  go_wp2_with fail
  have RL : Rd (w.alloc (.cells #[.int .i64 183, .int .i64 1, .int .i64 0, .int .i64 0, .int .i64 (-1), .int .i64 24, .int .i64 2, .int .i64 0, .int .i64 0, .int .i64 4294967301, .int .i64 123, .int .i64 10, .int .i64 1, .int .i64 (-8), .int .i64 0] 23)) (w.alloc (.cells #[.int .i64 183, .int .i64 1, .int .i64 0, .int .i64 0, .int .i64 (-1), .int .i64 24, .int .i64 2, .int .i64 0, .int .i64 0, .int .i64 4294967301, .int .i64 123, .int .i64 10, .int .i64 1, .int .i64 (-8), .int .i64 0] 23)).heap.size (some ⟨w.heap.size, 0, none⟩) (iv wkL) := rd_new rfl (by simp)
  have B0 := Lib.hid ((Below.refl w.heap.size w).alloc (Nat.le_refl _) (.cells #[.int .i64 183, .int .i64 1, .int .i64 0, .int .i64 0, .int .i64 (-1), .int .i64 24, .int .i64 2, .int .i64 0, .int .i64 0, .int .i64 4294967301, .int .i64 123, .int .i64 10, .int .i64 1, .int .i64 (-8), .int .i64 0] 23))
  generalize (w.alloc (.cells #[.int .i64 183, .int .i64 1, .int .i64 0, .int .i64 0, .int .i64 (-1), .int .i64 24, .int .i64 2, .int .i64 0, .int .i64 0, .int .i64 4294967301, .int .i64 123, .int .i64 10, .int .i64 1, .int .i64 (-8), .int .i64 0] 23)) = w0 at *
  generalize (some (⟨w.heap.size, 0, none⟩ : Addr)) = AL at *
  have HRL := Lib.hid RL
  clear RL
  refine (put_any AL 3 3 wkL rfl wk_fits (by omega) _ HRL.out).mono ?_
  rintro e w1 ⟨vb, rfl, q1, q2⟩
  rw [wk_putO] at q1
  rw [wk_putE]
  obtain ⟨Ab, cb, rfl, hcb, hmb, hAb⟩ := own_form q1
  have RB := Lib.hid (Rd.of_own q1)
  have HRL1 := Lib.hid ((HRL.out.below q2).mono q2.size)
  have B1 := Lib.hid (below_then B0.out q2 (Nat.le_refl _))
  clear q1 q2 hAb HRL B0
  unfold maxLen at hmb
  go_wp2_with fail
  refine (get_any Ab 32 cb wkB rfl hcb hmb wk_isB _ RB.out).mono ?_
  rintro e w2 ⟨vx, rfl, q1, q2⟩
  rw [wk_getO] at q1
  rw [wk_getE]
  obtain ⟨Ax, cx, rfl, hcx, hmx, hAx⟩ := own_form q1
  have RX := Lib.hid (Rd.of_own q1)
  have HRL2 := Lib.hid ((HRL1.out.below q2).mono q2.size)
  have RB2 := Lib.hid ((RB.out.below q2).mono q2.size)
  have B2 := Lib.hid (below_then B1.out q2 (Nat.le_refl _))
  clear q1 q2 hAx HRL1 RB B1
  go_wp2_with fail
  have RW := Lib.hid (rd_new (w := w2) (t := 5) (cs := #[.int .u8 183, .int .u8 1, .int .u8 0, .int .u8 0, .int .u8 255, .int .u8 255, .int .u8 255, .int .u8 255, .int .u8 24, .int .u8 2, .int .u8 0, .int .u8 0, .int .u8 5, .int .u8 0, .int .u8 0, .int .u8 0, .int .u8 0, .int .u8 0, .int .u8 0, .int .u8 0, .int .u8 1, .int .u8 0, .int .u8 0, .int .u8 0, .int .u8 123, .int .u8 26, .int .u8 248, .int .u8 255, .int .u8 0, .int .u8 0, .int .u8 0, .int .u8 0]) (xs := bv wkB) (B := (w2.alloc (.cells #[.int .u8 183, .int .u8 1, .int .u8 0, .int .u8 0, .int .u8 255, .int .u8 255, .int .u8 255, .int .u8 255, .int .u8 24, .int .u8 2, .int .u8 0, .int .u8 0, .int .u8 5, .int .u8 0, .int .u8 0, .int .u8 0, .int .u8 0, .int .u8 0, .int .u8 0, .int .u8 0, .int .u8 1, .int .u8 0, .int .u8 0, .int .u8 0, .int .u8 123, .int .u8 26, .int .u8 248, .int .u8 255, .int .u8 0, .int .u8 0, .int .u8 0, .int .u8 0] 5)).heap.size) rfl (by simp))
  have RB3 := Lib.hid ((RB2.out.alloc (Nat.le_refl _) (.cells #[.int .u8 183, .int .u8 1, .int .u8 0, .int .u8 0, .int .u8 255, .int .u8 255, .int .u8 255, .int .u8 255, .int .u8 24, .int .u8 2, .int .u8 0, .int .u8 0, .int .u8 5, .int .u8 0, .int .u8 0, .int .u8 0, .int .u8 0, .int .u8 0, .int .u8 0, .int .u8 0, .int .u8 1, .int .u8 0, .int .u8 0, .int .u8 0, .int .u8 123, .int .u8 26, .int .u8 248, .int .u8 255, .int .u8 0, .int .u8 0, .int .u8 0, .int .u8 0] 5)).mono (show w2.heap.size ≤ (w2.alloc (.cells #[.int .u8 183, .int .u8 1, .int .u8 0, .int .u8 0, .int .u8 255, .int .u8 255, .int .u8 255, .int .u8 255, .int .u8 24, .int .u8 2, .int .u8 0, .int .u8 0, .int .u8 5, .int .u8 0, .int .u8 0, .int .u8 0, .int .u8 0, .int .u8 0, .int .u8 0, .int .u8 0, .int .u8 1, .int .u8 0, .int .u8 0, .int .u8 0, .int .u8 123, .int .u8 26, .int .u8 248, .int .u8 255, .int .u8 0, .int .u8 0, .int .u8 0, .int .u8 0] 5)).heap.size by simp))
  have RX3 := Lib.hid ((RX.out.alloc (Nat.le_refl _) (.cells #[.int .u8 183, .int .u8 1, .int .u8 0, .int .u8 0, .int .u8 255, .int .u8 255, .int .u8 255, .int .u8 255, .int .u8 24, .int .u8 2, .int .u8 0, .int .u8 0, .int .u8 5, .int .u8 0, .int .u8 0, .int .u8 0, .int .u8 0, .int .u8 0, .int .u8 0, .int .u8 0, .int .u8 1, .int .u8 0, .int .u8 0, .int .u8 0, .int .u8 123, .int .u8 26, .int .u8 248, .int .u8 255, .int .u8 0, .int .u8 0, .int .u8 0, .int .u8 0] 5)).mono (show w2.heap.size ≤ (w2.alloc (.cells #[.int .u8 183, .int .u8 1, .int .u8 0, .int .u8 0, .int .u8 255, .int .u8 255, .int .u8 255, .int .u8 255, .int .u8 24, .int .u8 2, .int .u8 0, .int .u8 0, .int .u8 5, .int .u8 0, .int .u8 0, .int .u8 0, .int .u8 0, .int .u8 0, .int .u8 0, .int .u8 0, .int .u8 1, .int .u8 0, .int .u8 0, .int .u8 0, .int .u8 123, .int .u8 26, .int .u8 248, .int .u8 255, .int .u8 0, .int .u8 0, .int .u8 0, .int .u8 0] 5)).heap.size by simp))
  have RL3 := Lib.hid ((HRL2.out.alloc (Nat.le_refl _) (.cells #[.int .u8 183, .int .u8 1, .int .u8 0, .int .u8 0, .int .u8 255, .int .u8 255, .int .u8 255, .int .u8 255, .int .u8 24, .int .u8 2, .int .u8 0, .int .u8 0, .int .u8 5, .int .u8 0, .int .u8 0, .int .u8 0, .int .u8 0, .int .u8 0, .int .u8 0, .int .u8 0, .int .u8 1, .int .u8 0, .int .u8 0, .int .u8 0, .int .u8 123, .int .u8 26, .int .u8 248, .int .u8 255, .int .u8 0, .int .u8 0, .int .u8 0, .int .u8 0] 5)).mono (show w2.heap.size ≤ (w2.alloc (.cells #[.int .u8 183, .int .u8 1, .int .u8 0, .int .u8 0, .int .u8 255, .int .u8 255, .int .u8 255, .int .u8 255, .int .u8 24, .int .u8 2, .int .u8 0, .int .u8 0, .int .u8 5, .int .u8 0, .int .u8 0, .int .u8 0, .int .u8 0, .int .u8 0, .int .u8 0, .int .u8 0, .int .u8 1, .int .u8 0, .int .u8 0, .int .u8 0, .int .u8 123, .int .u8 26, .int .u8 248, .int .u8 255, .int .u8 0, .int .u8 0, .int .u8 0, .int .u8 0] 5)).heap.size by simp))
  have B3 := Lib.hid (B2.out.alloc B2.out.size (.cells #[.int .u8 183, .int .u8 1, .int .u8 0, .int .u8 0, .int .u8 255, .int .u8 255, .int .u8 255, .int .u8 255, .int .u8 24, .int .u8 2, .int .u8 0, .int .u8 0, .int .u8 5, .int .u8 0, .int .u8 0, .int .u8 0, .int .u8 0, .int .u8 0, .int .u8 0, .int .u8 0, .int .u8 1, .int .u8 0, .int .u8 0, .int .u8 0, .int .u8 123, .int .u8 26, .int .u8 248, .int .u8 255, .int .u8 0, .int .u8 0, .int .u8 0, .int .u8 0] 5))
  generalize (w2.alloc (.cells #[.int .u8 183, .int .u8 1, .int .u8 0, .int .u8 0, .int .u8 255, .int .u8 255, .int .u8 255, .int .u8 255, .int .u8 24, .int .u8 2, .int .u8 0, .int .u8 0, .int .u8 5, .int .u8 0, .int .u8 0, .int .u8 0, .int .u8 0, .int .u8 0, .int .u8 0, .int .u8 0, .int .u8 1, .int .u8 0, .int .u8 0, .int .u8 0, .int .u8 123, .int .u8 26, .int .u8 248, .int .u8 255, .int .u8 0, .int .u8 0, .int .u8 0, .int .u8 0] 5)) = w3 at *
  generalize (some (⟨w2.heap.size, 0, none⟩ : Addr)) = AW at *
  clear RB2 RX HRL2 B2
  refine (samebytes_any Ab AW 32 32 cb 32 wkB wkB rfl rfl (by omega) (by omega) w3 RB3.out RW.out).mono ?_
  rintro e w4 ⟨rfl, q⟩
  rw [decide_eq_true rfl]
  have RX4 := Lib.hid ((RX3.out.below q).mono q.size)
  have RL4 := Lib.hid ((RL3.out.below q).mono q.size)
  have B4 := Lib.hid (below_then B3.out q (Nat.le_refl _))
  clear q RB3 RW RX3 RL3 B3
  go_wp2_with fail
  refine (sameinsns_any Ax AL 3 3 cx 3 wkL wkL rfl rfl (by omega) (by omega) w4 RX4.out RL4.out).mono ?_
  rintro e w5 ⟨rfl, q⟩
  rw [decide_eq_true rfl]
  have B5 := Lib.hid (below_then B4.out q (Nat.le_refl _))
  clear q
  go_wp2
  go_ret
  exact ⟨rfl, B5.out⟩
end Go.Proofs.Ytlimhdnpdhjdaaa
