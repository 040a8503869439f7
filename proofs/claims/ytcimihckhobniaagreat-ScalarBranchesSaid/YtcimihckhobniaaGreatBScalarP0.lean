/-
  Small facts for the program's layer 5: ends that are in order, and slices.Contains over five bools. No conditions.
-/
import Derived.Test.YtcimihckhobniaaGreatBScalarMath6
import Derived.Test.YtcimihckhobniaaGreatBReg
import Derived.Test.YtcimihckhobniaaGreatBGrow
import Derived.Test.YtcimihckhobniaaGreatProg
import Derived.WalkKit
import Derived.LoopTactic
namespace Go.Proofs.YtcimihckhobniaaGreat.Sc
open Go.RowKit Tn Ow Sp
set_option linter.unusedVariables false
set_option linter.unusedSimpArgs false
set_option maxRecDepth 100000
theorem ok0U : okU ⟨0, 0⟩ := by unfold okU; decide
theorem meetU_all {a b : E} (ha : okU a) : okU (meetE a b) := by
  cases h : metE a b
  · unfold metE at h; unfold meetE; rw [if_neg (by simpa using h)]; exact ok0U
  · exact meetU_ok ha h
theorem Gw.pure {P : Program} {f : FuncId} {args : Array Value} {w : World} {v : Value} (h : Calls P f args w fun e w' => e = .returned v ∧ w = w') :
    Calls P f args w fun e w' => e = .returned v ∧ Below w.heap.size w w' := h.mono fun e w' ⟨h1, h2⟩ => ⟨h1, by subst h2; exact Below.refl _ _⟩
def zeroC : C := ⟨⟨0#64, 0#64⟩, ⟨0, 0⟩, ⟨0, 0⟩⟩
theorem wrap_us {x : E} (h : okS x) : IntKind.u64.wrap x.lo = us x.lo := by
  unfold okS at h
  rw [IntKind.wrap_u64]; unfold us; split <;> omega
/-! ### slices.Contains -/
def upTo (f : Nat → Bool) (k : Nat) : Prop := ∀ j, j < k → f j = true
def foundI (f : Nat → Bool) (n : Int) : Prop := (n = -1 ∧ upTo f 5) ∨ (0 ≤ n ∧ n < 5 ∧ f n.toNat = false)
theorem index5 (f : Nat → Bool) (d : Nat) (w : World) (hc : ∀ j, j < 5 → w.cell? ⟨d, j, none⟩ = some (.bool (f j))) :
    Calls Tryz.prog 171 #[.slice (some ⟨d, 0, none⟩) 5 5, .bool false] w fun e w' => (∃ n : Int, e = .returned (.int .i64 n) ∧ foundI f n) ∧ w = w' := by
  have HC := Lib.hid hc
  clear hc
  go_enter Tryz.func171, Tryz.ntmps171
  go_wp2
  go_loop [5, 8] (fun x i => ∃ k : Nat, k ≤ 5 ∧ i = .int .i64 k ∧ upTo f k) (fun _ i => 5 - (intOf i).toNat)
  case atStart => exact ⟨0, by omega, rfl, fun j h => absurd h (by omega)⟩
  case round =>
    obtain ⟨k, hk, rfl, hu⟩ := hrel
    by_cases hlt : k < 5
    · have c0 := HC.out k hlt
      have hu2 := Lib.hid hu
      clear hu
      cases hf : f k
      · rw [hf] at c0
        have HF := Lib.hid hf
        clear hf
        go_wp2
        go_ret
        exact ⟨⟨(k : Int), rfl, .inr ⟨by omega, by omega, by simpa using HF.out⟩⟩, rfl⟩
      · rw [hf] at c0
        have HF := Lib.hid hf
        clear hf
        go_wp2
        go_round
        case rel => exact ⟨k + 1, by omega, by go_num, fun j hj => by rcases Nat.lt_succ_iff_lt_or_eq.1 hj with h | h; exact hu2.out j h; rw [h]; exact HF.out⟩
        case measure => simp [intOf]; omega
    · have hu2 := Lib.hid hu
      clear hu
      obtain rfl : k = 5 := by omega
      go_wp2
      go_ret
      exact ⟨⟨-1, rfl, .inl ⟨rfl, hu2.out⟩⟩, rfl⟩
theorem contains5 (b0 b1 b2 b3 b4 : Bool) (d : Nat) (w : World) (h0 : w.cell? ⟨d, 0, none⟩ = some (.bool b0)) (h1 : w.cell? ⟨d, 1, none⟩ = some (.bool b1)) (h2 : w.cell? ⟨d, 2, none⟩ = some (.bool b2))
    (h3 : w.cell? ⟨d, 3, none⟩ = some (.bool b3)) (h4 : w.cell? ⟨d, 4, none⟩ = some (.bool b4)) :
    Calls Tryz.prog 106 #[.slice (some ⟨d, 0, none⟩) 5 5, .bool false] w fun e w' => e = .returned (.bool (!(b0 && b1 && b2 && b3 && b4))) ∧ Below w.heap.size w w' := by
  have hi := index5 (fun j => if j = 0 then b0 else if j = 1 then b1 else if j = 2 then b2 else if j = 3 then b3 else b4) d w (by
    intro j hj
    rcases (by omega : j = 0 ∨ j = 1 ∨ j = 2 ∨ j = 3 ∨ j = 4) with rfl | rfl | rfl | rfl | rfl <;> simpa using by assumption)
  have HI := Lib.hid hi
  clear hi h0 h1 h2 h3 h4
  refine Gw.pure ?_
  go_enter Tryz.func106, Tryz.ntmps106
  go_wp2_with fail
  refine HI.out.mono ?_
  rintro e w' ⟨⟨n, rfl, hn⟩, rfl⟩
  have HN := Lib.hid hn
  clear hn
  go_wp2
  go_ret
  refine ⟨?_, rfl⟩
  have hn := HN.out
  congr 2
  unfold foundI upTo at hn
  rcases hn with ⟨rfl, h⟩ | ⟨g0, g1, h⟩
  · have e0 := h 0 (by omega); have e1 := h 1 (by omega); have e2 := h 2 (by omega); have e3 := h 3 (by omega); have e4 := h 4 (by omega)
    simp at e0 e1 e2 e3 e4
    simp [e0, e1, e2, e3, e4]
  · rcases (by omega : n = 0 ∨ n = 1 ∨ n = 2 ∨ n = 3 ∨ n = 4) with rfl | rfl | rfl | rfl | rfl <;> simp at h <;> simp [h]
end Go.Proofs.YtcimihckhobniaaGreat.Sc
