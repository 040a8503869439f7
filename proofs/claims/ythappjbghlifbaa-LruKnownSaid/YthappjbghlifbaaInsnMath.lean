/-
  Plain mathematics of layer 2: which operations there are and what each uses, when an instruction is right. No program.
-/
import GoSem.Claim
import Derived.KernelRfl
import Derived.WalkKit
namespace Go.Proofs.Ythappjbghlifbaa
set_option maxRecDepth 100000
namespace Wi
set_option linter.unusedVariables false

/-- The bits of what an operation uses: 1 Dst, 2 Src, 4 Off, 8 Imm, 16 writes Dst, 32 it is one. -/
def arV (op : Int) : Int := if op / 16 = 8 then (if op / 8 % 2 = 0 then 49 else 0) else if op / 16 ≤ 12 then (if op / 8 % 2 = 0 then 57 else 51) else 0
def pjV (op : Int) : Int := if op = 5 then 36 else if op = 133 then 40 else if op = 149 then 32 else 0
def jcV (op : Int) : Int := if op / 16 = 0 ∨ op / 16 = 8 ∨ op / 16 = 9 ∨ 13 < op / 16 then 0 else if op / 8 % 2 = 0 then 45 else 39
def useV (op : Int) : Int :=
  if op < 0 ∨ 255 < op then 0
  else if op % 8 = 0 then (if op = 24 then 59 else 0)
  else if op % 8 = 1 then (if op / 32 = 3 then 55 else 0)
  else if op % 8 = 2 then (if op / 32 = 3 then 45 else 0)
  else if op % 8 = 3 then (if op / 32 = 3 then 39 else 0)
  else if op % 8 = 4 then (if op / 16 = 13 then 57 else arV op)
  else if op % 8 = 7 then arV op
  else if op % 8 = 5 then (if pjV op = 0 then jcV op else pjV op)
  else jcV op

theorem arV_cases (op : Int) : arV op = 0 ∨ arV op = 49 ∨ arV op = 51 ∨ arV op = 57 := by unfold arV; split <;> (try split) <;> (try split) <;> simp
theorem pjV_cases (op : Int) : pjV op = 0 ∨ pjV op = 36 ∨ pjV op = 40 ∨ pjV op = 32 := by unfold pjV; (repeat' split) <;> omega
theorem jcV_cases (op : Int) : jcV op = 0 ∨ jcV op = 45 ∨ jcV op = 39 := by unfold jcV; (repeat' split) <;> omega
theorem useV_cases (op : Int) : useV op = 0 ∨ useV op = 59 ∨ useV op = 55 ∨ useV op = 45 ∨ useV op = 39 ∨ useV op = 57 ∨ useV op = 49 ∨ useV op = 51 ∨ useV op = 36 ∨ useV op = 40 ∨ useV op = 32 := by
  have h1 := arV_cases op
  have h2 := pjV_cases op
  have h3 := jcV_cases op
  unfold useV
  repeat' split
  all_goals omega

/-- A bit of that. -/
def ub (u k : Int) : Bool := u / k % 2 == 1
def isReg (n : Int) : Bool := decide (0 ≤ n ∧ n < 11)
def regOk (u dst src : Int) : Bool := !(ub u 16 && dst == 10) && (isReg dst && isReg src)
def numOk (op off imm : Int) : Bool := decide (-32768 ≤ off ∧ off ≤ 32767) && (op == 24 || decide (-2147483648 ≤ imm ∧ imm ≤ 2147483647))
def zeroOk (u dst src off imm : Int) : Bool := (ub u 1 || dst == 0) && (ub u 2 || src == 0) && (ub u 4 || off == 0) && (ub u 8 || imm == 0)
def meanOk (op src imm : Int) : Bool := if op = 24 then (src == 0 || (src == 1 && decide (1 ≤ imm ∧ imm ≤ 8))) else if op = 212 ∨ op = 220 then (imm == 16 || imm == 32 || imm == 64) else true
def chkV (op dst src off imm : Int) : Int :=
  if ub (useV op) 32 = false then 4 else if regOk (useV op) dst src = false then 5 else if numOk op off imm = false then 15
  else if (zeroOk (useV op) dst src off imm && meanOk op src imm) = false then 6 else 0
def sizeV (op : Int) : Int := if op = 24 then 2 else 1
def widthV (op : Int) : Int := if op / 32 = 3 ∧ 0 < op % 8 ∧ op % 8 < 4 then (if op / 8 % 4 = 0 then 4 else if op / 8 % 4 = 1 then 2 else if op / 8 % 4 = 2 then 1 else 8) else 0

theorem and7 (op : Int) (h1 : 0 ≤ op) (h2 : op ≤ 255) : bits BinOp.and IntKind.i64 op 7 = op % 8 := by
  obtain ⟨n, rfl⟩ := Int.eq_ofNat_of_zero_le h1
  have h : ∀ n : Fin 256, bits BinOp.and IntKind.i64 ((n.val : Nat) : Int) 7 = ((n.val : Nat) : Int) % 8 := by decide +kernel
  exact h ⟨n, by omega⟩
theorem and8 (op : Int) (h1 : 0 ≤ op) (h2 : op ≤ 255) : bits BinOp.and IntKind.i64 op 8 = 8 * (op / 8 % 2) := by
  obtain ⟨n, rfl⟩ := Int.eq_ofNat_of_zero_le h1
  have h : ∀ n : Fin 256, bits BinOp.and IntKind.i64 ((n.val : Nat) : Int) 8 = 8 * (((n.val : Nat) : Int) / 8 % 2) := by decide +kernel
  exact h ⟨n, by omega⟩
theorem not31 (op : Int) (h1 : 0 ≤ op) (h2 : op ≤ 255) : bits BinOp.andNot IntKind.i64 op 31 = 32 * (op / 32) := by
  obtain ⟨n, rfl⟩ := Int.eq_ofNat_of_zero_le h1
  have h : ∀ n : Fin 256, bits BinOp.andNot IntKind.i64 ((n.val : Nat) : Int) 31 = 32 * (((n.val : Nat) : Int) / 32) := by decide +kernel
  exact h ⟨n, by omega⟩
theorem split24 (x y : BitVec 64) : x.toNat ≤ (x &&& ~~~y).toNat + (x &&& y).toNat := by
  have h0 : (x &&& ~~~y) &&& (x &&& y) = 0#64 := by
    ext i hi
    simp only [BitVec.getElem_and, BitVec.getElem_not, BitVec.getElem_zero]
    cases x[i] <;> cases y[i] <;> rfl
  have h1 : (x &&& ~~~y) + (x &&& y) = x := by
    rw [BitVec.add_eq_or_of_and_eq_zero _ _ h0]
    ext i hi
    simp only [BitVec.getElem_and, BitVec.getElem_not, BitVec.getElem_or]
    cases x[i] <;> cases y[i] <;> rfl
  have h2 := congrArg BitVec.toNat h1
  rw [BitVec.toNat_add] at h2
  have h3 := Nat.mod_le ((x &&& ~~~y).toNat + (x &&& y).toNat) (2 ^ 64)
  omega
theorem far24 (op : Int) (h1 : -9223372036854775808 ≤ op) (h2 : op ≤ 9223372036854775807) (h : op < 0 ∨ 255 < op) : bits BinOp.andNot IntKind.i64 op 24 < 0 ∨ 231 < bits BinOp.andNot IntKind.i64 op 24 := by
  have e : bits BinOp.andNot IntKind.i64 op 24 = IntKind.i64.wrap ((BitVec.ofInt 64 op &&& ~~~ (24#64)).toNat : Int) := rfl
  have hs := split24 (BitVec.ofInt 64 op) 24#64
  have h24 : (BitVec.ofInt 64 op &&& 24#64).toNat ≤ 24 := by
    rw [BitVec.toNat_and]; exact Nat.and_le_right
  have hn : 256 ≤ (BitVec.ofInt 64 op).toNat := by
    rw [BitVec.toNat_ofInt]
    omega
  have hl : (BitVec.ofInt 64 op &&& ~~~ (24#64)).toNat < 18446744073709551616 := (BitVec.ofInt 64 op &&& ~~~ (24#64)).isLt
  rw [e, IntKind.wrap_i64]
  omega
theorem not24 (op : Int) (h1 : 0 ≤ op) (h2 : op ≤ 255) : bits BinOp.andNot IntKind.i64 op 24 = op - 8 * (op / 8 % 4) := by
  obtain ⟨n, rfl⟩ := Int.eq_ofNat_of_zero_le h1
  have h : ∀ n : Fin 256, bits BinOp.andNot IntKind.i64 ((n.val : Nat) : Int) 24 = ((n.val : Nat) : Int) - 8 * (((n.val : Nat) : Int) / 8 % 4) := by decide +kernel
  exact h ⟨n, by omega⟩
theorem and24 (op : Int) (h1 : 0 ≤ op) (h2 : op ≤ 255) : bits BinOp.and IntKind.i64 op 24 = 8 * (op / 8 % 4) := by
  obtain ⟨n, rfl⟩ := Int.eq_ofNat_of_zero_le h1
  have h : ∀ n : Fin 256, bits BinOp.and IntKind.i64 ((n.val : Nat) : Int) 24 = 8 * (((n.val : Nat) : Int) / 8 % 4) := by decide +kernel
  exact h ⟨n, by omega⟩
end Wi
end Go.Proofs.Ythappjbghlifbaa
