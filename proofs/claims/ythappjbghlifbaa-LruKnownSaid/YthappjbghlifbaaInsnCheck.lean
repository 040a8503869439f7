/-
  What the program's package insn tells of an instruction (Check, Size, Width and the tests that they call): contracts. Conditions: the numbers are of 64 bits.
-/
import Derived.Test.YthappjbghlifbaaInsnUse
import Derived.Below
namespace Go.Proofs.Ythappjbghlifbaa.K2
set_option maxRecDepth 100000
open Go.RowKit Wi
set_option linter.unusedVariables false

theorem u8bit (u k : Int) (h1 : 0 ≤ u) (h2 : u ≤ 63) (hk : k = 1 ∨ k = 2 ∨ k = 4 ∨ k = 8 ∨ k = 16 ∨ k = 32) : bits BinOp.and IntKind.u8 u k = if ub u k then k else 0 := by
  obtain ⟨n, rfl⟩ := Int.eq_ofNat_of_zero_le h1
  have h : ∀ n : Fin 64, (bits BinOp.and IntKind.u8 ((n.val : Nat) : Int) 1 = if ub ((n.val : Nat) : Int) 1 then 1 else 0) ∧ (bits BinOp.and IntKind.u8 ((n.val : Nat) : Int) 2 = if ub ((n.val : Nat) : Int) 2 then 2 else 0) ∧ (bits BinOp.and IntKind.u8 ((n.val : Nat) : Int) 4 = if ub ((n.val : Nat) : Int) 4 then 4 else 0) ∧ (bits BinOp.and IntKind.u8 ((n.val : Nat) : Int) 8 = if ub ((n.val : Nat) : Int) 8 then 8 else 0) ∧ (bits BinOp.and IntKind.u8 ((n.val : Nat) : Int) 16 = if ub ((n.val : Nat) : Int) 16 then 16 else 0) ∧ (bits BinOp.and IntKind.u8 ((n.val : Nat) : Int) 32 = if ub ((n.val : Nat) : Int) 32 then 32 else 0) := by decide +kernel
  obtain ⟨a1, a2, a3, a4, a5, a6⟩ := h ⟨n, by omega⟩
  rcases hk with rfl | rfl | rfl | rfl | rfl | rfl
  · exact a1
  · exact a2
  · exact a3
  · exact a4
  · exact a5
  · exact a6
theorem useV_bd (op : Int) : 0 ≤ useV op ∧ useV op ≤ 63 := by have := useV_cases op; omega

def zu (u n : Int) : Bool := (u != 0) || n == 0
theorem zu_bit (u k n : Int) (h1 : 0 ≤ u) (h2 : u ≤ 63) (hk : k = 1 ∨ k = 2 ∨ k = 4 ∨ k = 8) : zu (bits BinOp.and IntKind.u8 u k) n = (ub u k || n == 0) := by
  rw [u8bit u k h1 h2 (by omega)]
  unfold zu
  cases ub u k
  · simp
  · have : k ≠ 0 := by omega
    simp [this]

theorem bcell {W w1 : World} (hb : Below W.heap.size W w1) : (∀ b o, b < W.heap.size → w1.cell? ⟨b, o, none⟩ = W.cell? ⟨b, o, none⟩) ∧ (∀ b o, b < W.heap.size → w1.frozen? ⟨b, o, none⟩ = W.frozen? ⟨b, o, none⟩) :=
  ⟨fun b o h => hb.cell (p := ⟨b, o, none⟩) h, fun b o h => hb.frozen (p := ⟨b, o, none⟩) h⟩
theorem below_box {w w1 : World} {o : Obj} (hb : Below (w.alloc o).heap.size (w.alloc o) w1) : Below w.heap.size w w1 :=
  ((Below.refl _ _).alloc (Nat.le_refl _) _).trans (hb.mono (by simp))
theorem below_then {B : Nat} {w w1 w2 : World} (h1 : Below B w w1) (h2 : Below w1.heap.size w1 w2) (hB : B ≤ w.heap.size) : Below B w w2 :=
  h1.trans (h2.mono (by have := h1.size; omega))
end Go.Proofs.Ythappjbghlifbaa.K2
