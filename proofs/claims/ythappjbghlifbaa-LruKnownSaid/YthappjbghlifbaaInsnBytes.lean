/-
  Plain mathematics of layer 2: an instruction's bytes. No program.
-/
import Derived.Test.YthappjbghlifbaaInsnMath
namespace Go.Proofs.Ythappjbghlifbaa
set_option maxRecDepth 100000
namespace Wi
set_option linter.unusedVariables false

/-- A number k bytes down. -/
def shv (v : Int) (k : Nat) : Int := v / 256 ^ k
theorem shv_zero (v : Int) : shv v 0 = v := by unfold shv; simp
theorem shv_succ (v : Int) (k : Nat) : shv v (k + 1) = shv v k / 256 := by
  unfold shv; rw [Int.pow_succ, Int.ediv_ediv_of_nonneg]; exact Int.le_of_lt (Int.pow_pos (by decide))
theorem shv_bd (v : Int) (k : Nat) (h1 : -9223372036854775808 ≤ v) (h2 : v ≤ 9223372036854775807) : -9223372036854775808 ≤ shv v k ∧ shv v k ≤ 9223372036854775807 := by
  induction k with
  | zero => rw [shv_zero]; exact ⟨h1, h2⟩
  | succ k ih => rw [shv_succ]; omega
/-- A number's lowest n bytes, the lowest first. -/
def lowB (v : Int) (n : Nat) : List Int := (List.range n).map fun k => shv v k % 256
theorem lowB_zero (v : Int) : lowB v 0 = [] := rfl
theorem lowB_succ (v : Int) (k : Nat) : lowB v (k + 1) = lowB v k ++ [shv v k % 256] := by unfold lowB; rw [List.range_succ, List.map_append]; rfl
theorem lowB_len (v : Int) (n : Nat) : (lowB v n).length = n := by unfold lowB; simp

/-- An instruction. -/
structure In where
  op : Int
  dst : Int
  src : Int
  off : Int
  imm : Int
deriving DecidableEq
def In.chk (x : In) : Int := chkV x.op x.dst x.src x.off x.imm
def In.cells (x : In) : List Value := [.int .i64 x.op, .int .i64 x.dst, .int .i64 x.src, .int .i64 x.off, .int .i64 x.imm]
def In.val (x : In) : Value := .agg #[.int .i64 x.op, .int .i64 x.dst, .int .i64 x.src, .int .i64 x.off, .int .i64 x.imm]
def i64 (n : Int) : Prop := -9223372036854775808 ≤ n ∧ n ≤ 9223372036854775807
def In.fits (x : In) : Prop := i64 x.op ∧ i64 x.dst ∧ i64 x.src ∧ i64 x.off ∧ i64 x.imm
/-- Its bytes. -/
def oneB (op dst src off imm : Int) : List Int := [op, 16 * src + dst] ++ lowB off 2 ++ lowB imm 4 ++ (if op = 24 then lowB 0 4 ++ lowB (imm / 4294967296) 4 else [])
def In.bytes (x : In) : List Int := oneB x.op x.dst x.src x.off x.imm
theorem oneB_len (op dst src off imm : Int) : (oneB op dst src off imm).length = 8 * (sizeV op).toNat := by
  unfold oneB sizeV
  split <;> simp [lowB_len]
/-- What is right of an instruction's fields. -/
theorem chk_regs (op dst src off imm : Int) (h : chkV op dst src off imm = 0) : 0 ≤ op ∧ op ≤ 255 ∧ 0 ≤ dst ∧ dst ≤ 10 ∧ 0 ≤ src ∧ src ≤ 10 ∧ -32768 ≤ off ∧ off ≤ 32767 ∧ (op = 24 ∨ (-2147483648 ≤ imm ∧ imm ≤ 2147483647)) := by
  unfold chkV at h
  split at h
  · omega
  · rename_i h0
    have hop : 0 ≤ op ∧ op ≤ 255 := by
      refine Classical.byContradiction fun hn => h0 ?_
      have : useV op = 0 := if_pos (by omega)
      rw [this]; rfl
    split at h
    · omega
    · rename_i h1
      split at h
      · omega
      · rename_i h2
        simp only [Bool.not_eq_false] at h1 h2
        simp only [regOk, isReg, Bool.and_eq_true, decide_eq_true_eq] at h1
        simp only [numOk, Bool.and_eq_true, Bool.or_eq_true, decide_eq_true_eq, beq_iff_eq] at h2
        omega
/-- Instructions as bytes: what is wrong; the bytes. -/
def firstE : List In → Int
  | [] => 0
  | x :: r => if x.chk = 0 then firstE r else x.chk
def putE (L : List In) : Int := if 256 < L.length then 9 else firstE L
def putB (L : List In) : List Int := L.flatMap In.bytes
def putO (L : List In) : List Int := if putE L = 0 then putB L else []
theorem putE_few (L : List In) (h : L.length ≤ 256) : putE L = firstE L := if_neg (by omega)
theorem putO_ok (L : List In) (h : L.length ≤ 256) (e : firstE L = 0) : putO L = putB L := by unfold putO; rw [putE_few L h, if_pos e]
theorem putO_bad (L : List In) (h : L.length ≤ 256) (e : firstE L ≠ 0) : putO L = [] := by unfold putO; rw [putE_few L h, if_neg e]
def iv (L : List In) : List Value := L.flatMap In.cells
theorem iv_len (L : List In) : (iv L).length = 5 * L.length := by
  induction L with
  | nil => rfl
  | cons x r ih => unfold iv at *; rw [List.flatMap_cons, List.length_append, ih]; simp [In.cells]; omega
theorem iv_app (L M : List In) : iv (L ++ M) = iv L ++ iv M := by unfold iv; simp
theorem iv_at (L : List In) (k : Nat) (hk : k < L.length) : (iv L)[5 * k]? = some (.int .i64 L[k].op) ∧ (iv L)[5 * k + 1]? = some (.int .i64 L[k].dst) ∧ (iv L)[5 * k + 2]? = some (.int .i64 L[k].src) ∧ (iv L)[5 * k + 3]? = some (.int .i64 L[k].off) ∧ (iv L)[5 * k + 4]? = some (.int .i64 L[k].imm) := by
  induction L generalizing k with
  | nil => simp at hk
  | cons x r ih =>
    cases k with
    | zero => simp [iv, In.cells]
    | succ k =>
      have h := ih k (by simpa using hk)
      have e : iv (x :: r) = x.cells ++ iv r := rfl
      have hl : x.cells.length = 5 := rfl
      rw [e, List.getElem?_append_right (by omega), List.getElem?_append_right (by omega), List.getElem?_append_right (by omega), List.getElem?_append_right (by omega), List.getElem?_append_right (by omega), hl]
      simp only [List.getElem_cons_succ]
      refine ⟨?_, ?_, ?_, ?_, ?_⟩
      · rw [← h.1]; congr 1
      · rw [← h.2.1]; congr 1
      · rw [← h.2.2.1]; congr 1
      · rw [← h.2.2.2.1]; congr 1
      · rw [← h.2.2.2.2]; congr 1
theorem putB_snoc (L : List In) (k : Nat) (hk : k < L.length) : putB (L.take (k + 1)) = putB (L.take k) ++ L[k].bytes := by
  unfold putB; rw [List.take_succ_eq_append_getElem hk, List.flatMap_append]; simp
theorem firstE_drop (L : List In) (k : Nat) (hk : k < L.length) : firstE (L.drop k) = if L[k].chk = 0 then firstE (L.drop (k + 1)) else L[k].chk := by
  rw [List.drop_eq_getElem_cons hk]; rfl
theorem bytes_le (x : In) : x.bytes.length ≤ 16 := by
  unfold In.bytes; rw [oneB_len]; unfold sizeV; split <;> omega
theorem putB_le (L : List In) : (putB L).length ≤ 16 * L.length := by
  induction L with
  | nil => simp [putB]
  | cons x r ih => unfold putB at *; rw [List.flatMap_cons, List.length_append, List.length_cons]; have := bytes_le x; omega
end Wi
end Go.Proofs.Ythappjbghlifbaa
