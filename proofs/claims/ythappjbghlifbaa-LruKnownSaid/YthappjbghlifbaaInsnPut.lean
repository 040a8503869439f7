/-
  What the program's package insn appends (appendLowest, appendInsn): contracts. Conditions: the numbers are of 64 bits; the slice is the calls' own.
-/
import Derived.Test.YthappjbghlifbaaInsnCheck
import Derived.Test.YthappjbghlifbaaInsnBytes
import Derived.Test.YthappjbghlifbaaOwn
namespace Go.Proofs.Ythappjbghlifbaa.K2
set_option maxRecDepth 100000
open Go.RowKit Wi Ow
set_option linter.unusedVariables false
set_option linter.unusedSimpArgs false

theorem byte_info : (Try.prog.info? 5).map (fun i => (i.zero, i.size, i.bytes)) = some (some (.int .u8 0), 1, 1) := by kernel_rfl
def bv (l : List Int) : List Value := l.map (Value.int .u8)
theorem bv_len (l : List Int) : (bv l).length = l.length := by unfold bv; simp
theorem bv_app (l m : List Int) : bv (l ++ m) = bv l ++ bv m := by unfold bv; simp
theorem bv_one (l : List Int) : ∀ u ∈ bv l, u.oneCell' = true := ints_oneCell _ _

/-- One append behind a block for what is appended. -/
theorem apd_step {w wr w1 : World} {o : Obj} {vb b v' : Value} (ha : Apd w wr vb b) (hg : (wr.alloc o).grownBy w1 b.ownBlock) (hat : v'.ownBlock = b.ownBlock ∨ v'.ownBlock = some (wr.heap.size + 1)) : Apd w w1 vb v' :=
  (ha.trans (Apd.alloc wr o b)).trans (own_apd_of hg (by simpa using hat))
theorem reg_byte (src dst : Int) (h1 : 0 ≤ src) (h2 : src ≤ 10) (h3 : 0 ≤ dst) (h4 : dst ≤ 10) : bits BinOp.or IntKind.i64 (src * 16) dst = 16 * src + dst := by
  obtain ⟨a, rfl⟩ := Int.eq_ofNat_of_zero_le h1
  obtain ⟨b, rfl⟩ := Int.eq_ofNat_of_zero_le h3
  have h : ∀ a b : Fin 11, bits BinOp.or IntKind.i64 (((a.val : Nat) : Int) * 16) ((b.val : Nat) : Int) = 16 * ((a.val : Nat) : Int) + ((b.val : Nat) : Int) := by decide +kernel
  exact h ⟨a, by omega⟩ ⟨b, by omega⟩
end Go.Proofs.Ythappjbghlifbaa.K2
