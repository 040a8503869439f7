/-
  Contracts of package tnum with the answer named, and of the document's, for the statements of layer 3; what numbers alone give. Conditions: as there.
-/
import Derived.Test.YtjjiancacokaiaaTnumOpen
import Derived.Test.YtjjiancacokaiaaTnumRefM
import Derived.Test.YtjjiancacokaiaaTnumRefS
namespace Go.Proofs.Ytjjiancacokaiaa
open Go.RowKit Tn Ow
set_option linter.unusedVariables false
set_option linter.unusedSimpArgs false
theorem or_alone (v w : BitVec 64) : orT (ofT v) (ofT w) = ofT (v ||| w) := by unfold orT ofT; simp
theorem and_alone (v w : BitVec 64) : andT (ofT v) (ofT w) = ofT (v &&& w) := by
  unfold andT ofT
  refine T.eq rfl (bt_ext fun i hi => ?_)
  simp only [BitVec.getLsbD_or, BitVec.getLsbD_and, BitVec.getLsbD_not, hi, decide_true, Bool.true_and, BitVec.getLsbD_zero, Bool.or_false]
  cases v.getLsbD i <;> cases w.getLsbD i <;> rfl
theorem xor_alone (v w : BitVec 64) : xorT (ofT v) (ofT w) = ofT (v ^^^ w) := by unfold xorT exc ofT; simp [and_ones]
theorem lsh_alone (v : BitVec 64) (k : Nat) : lshT (ofT v) k = ofT (v <<< k) := by unfold lshT ofT; simp
theorem rsh_alone (v : BitVec 64) (k : Nat) : rshT (ofT v) k = ofT (v >>> k) := by unfold rshT ofT; simp
theorem ar_alone (v : BitVec 64) (k : Nat) : arT (ofT v) k = ofT (v.sshiftRight k) := by
  unfold arT ofT
  refine T.eq rfl (bt_ext fun i hi => ?_)
  rw [bA _ _ i hi]
  cases h : fA k i <;> simp [h]
theorem ar32_alone (v : BitVec 64) (k : Nat) : ar32T (ofT v) k = ofT (dn32 v k) := by
  unfold ar32T ofT
  refine T.eq rfl (bt_ext fun i hi => ?_)
  rw [bA32 _ _ i hi]
  cases h : fA32 k i <;> simp [h]
theorem join_to (a b r : T) (h : joinT a b = r) (w : World) :
    Calls Try.prog 23 #[.agg #[.int .u64 (bi a.v), .int .u64 (bi a.m)], .agg #[.int .u64 (bi b.v), .int .u64 (bi b.m)]] w fun e w' => e = .returned (.agg #[.int .u64 (bi r.v), .int .u64 (bi r.m)]) ∧ Below w.heap.size w w' := by subst h; exact join_any a b w
theorem add_to (a b r : T) (h : addT a b = r) (w : World) :
    Calls Try.prog 26 #[.agg #[.int .u64 (bi a.v), .int .u64 (bi a.m)], .agg #[.int .u64 (bi b.v), .int .u64 (bi b.m)]] w fun e w' => e = .returned (.agg #[.int .u64 (bi r.v), .int .u64 (bi r.m)]) ∧ Below w.heap.size w w' := by subst h; exact add_any a b w
theorem sub_to (a b r : T) (h : subT a b = r) (w : World) :
    Calls Try.prog 28 #[.agg #[.int .u64 (bi a.v), .int .u64 (bi a.m)], .agg #[.int .u64 (bi b.v), .int .u64 (bi b.m)]] w fun e w' => e = .returned (.agg #[.int .u64 (bi r.v), .int .u64 (bi r.m)]) ∧ Below w.heap.size w w' := by subst h; exact sub_any a b w
theorem mul_to (a b r : T) (h : mulT a b = r) (w : World) :
    Calls Try.prog 30 #[.agg #[.int .u64 (bi a.v), .int .u64 (bi a.m)], .agg #[.int .u64 (bi b.v), .int .u64 (bi b.m)]] w fun e w' => e = .returned (.agg #[.int .u64 (bi r.v), .int .u64 (bi r.m)]) ∧ Below w.heap.size w w' := by subst h; exact mul_any a b w
theorem and_to (a b r : T) (h : andT a b = r) (w : World) :
    Calls Try.prog 32 #[.agg #[.int .u64 (bi a.v), .int .u64 (bi a.m)], .agg #[.int .u64 (bi b.v), .int .u64 (bi b.m)]] w fun e w' => e = .returned (.agg #[.int .u64 (bi r.v), .int .u64 (bi r.m)]) ∧ Below w.heap.size w w' := by subst h; exact and_any a b w
theorem or_to (a b r : T) (h : orT a b = r) (w : World) :
    Calls Try.prog 34 #[.agg #[.int .u64 (bi a.v), .int .u64 (bi a.m)], .agg #[.int .u64 (bi b.v), .int .u64 (bi b.m)]] w fun e w' => e = .returned (.agg #[.int .u64 (bi r.v), .int .u64 (bi r.m)]) ∧ Below w.heap.size w w' := by subst h; exact or_any a b w
theorem xor_to (a b r : T) (h : xorT a b = r) (w : World) :
    Calls Try.prog 36 #[.agg #[.int .u64 (bi a.v), .int .u64 (bi a.m)], .agg #[.int .u64 (bi b.v), .int .u64 (bi b.m)]] w fun e w' => e = .returned (.agg #[.int .u64 (bi r.v), .int .u64 (bi r.m)]) ∧ Below w.heap.size w w' := by subst h; exact xor_any a b w
theorem lsh_to (a r : T) (n : Int) (k : Nat) (hk : n % 64 = (k : Int)) (hn : -9223372036854775808 ≤ n ∧ n ≤ 9223372036854775807) (h : lshT a k = r) (w : World) :
    Calls Try.prog 38 #[.agg #[.int .u64 (bi a.v), .int .u64 (bi a.m)], .int .i64 n] w fun e w' => e = .returned (.agg #[.int .u64 (bi r.v), .int .u64 (bi r.m)]) ∧ Below w.heap.size w w' := by subst h; exact lsh_any a n k hk hn w
theorem rsh_to (a r : T) (n : Int) (k : Nat) (hk : n % 64 = (k : Int)) (hn : -9223372036854775808 ≤ n ∧ n ≤ 9223372036854775807) (h : rshT a k = r) (w : World) :
    Calls Try.prog 40 #[.agg #[.int .u64 (bi a.v), .int .u64 (bi a.m)], .int .i64 n] w fun e w' => e = .returned (.agg #[.int .u64 (bi r.v), .int .u64 (bi r.m)]) ∧ Below w.heap.size w w' := by subst h; exact rsh_any a n k hk hn w
theorem ar_to (a r : T) (n : Int) (k : Nat) (hk : n % 64 = (k : Int)) (hn : -9223372036854775808 ≤ n ∧ n ≤ 9223372036854775807) (h : arT a k = r) (w : World) :
    Calls Try.prog 42 #[.agg #[.int .u64 (bi a.v), .int .u64 (bi a.m)], .int .i64 n, .int .i64 64] w fun e w' => e = .returned (.agg #[.int .u64 (bi r.v), .int .u64 (bi r.m)]) ∧ Below w.heap.size w w' := by subst h; exact ar_any a n k hk hn w
theorem ar32_to (a r : T) (n : Int) (k : Nat) (hk : n % 32 = (k : Int)) (hn : -9223372036854775808 ≤ n ∧ n ≤ 9223372036854775807) (h : ar32T a k = r) (w : World) :
    Calls Try.prog 42 #[.agg #[.int .u64 (bi a.v), .int .u64 (bi a.m)], .int .i64 n, .int .i64 32] w fun e w' => e = .returned (.agg #[.int .u64 (bi r.v), .int .u64 (bi r.m)]) ∧ Below w.heap.size w w' := by subst h; exact ar32_any a n k hk hn w
/-- Arsh with whatever number of bits. -/
theorem arsh_all (a : T) (n p : Int) (hn : -9223372036854775808 ≤ n ∧ n ≤ 9223372036854775807) (w : World) :
    Calls Try.prog 42 #[.agg #[.int .u64 (bi a.v), .int .u64 (bi a.m)], .int .i64 n, .int .i64 p] w fun e w' => e = .returned (.agg #[.int .u64 (bi (if p = 64 then arT a (n % 64).toNat else if p = 32 then ar32T a (n % 32).toNat else anyT).v), .int .u64 (bi (if p = 64 then arT a (n % 64).toNat else if p = 32 then ar32T a (n % 32).toNat else anyT).m)]) ∧ Below w.heap.size w w' := by
  by_cases h1 : p = 64
  · subst h1
    exact ar_any a n (n % 64).toNat (by omega) hn w
  · by_cases h2 : p = 32
    · subst h2
      exact ar32_any a n (n % 32).toNat (by omega) hn w
    · rw [if_neg h1, if_neg h2]
      exact arany_any a n p h2 h1 w
theorem refjoin_to (a b r : T) (h : joinT a b = r) (w : World) :
    Calls Try.prog 24 #[.agg #[.int .u64 (bi a.v), .int .u64 (bi a.m)], .agg #[.int .u64 (bi b.v), .int .u64 (bi b.m)]] w fun e w' => e = .returned (.agg #[.int .u64 (bi r.v), .int .u64 (bi r.m)]) ∧ Below w.heap.size w w' := by subst h; exact refjoin_any a b w
theorem refadd_to (a b r : T) (h : addT a b = r) (w : World) :
    Calls Try.prog 27 #[.agg #[.int .u64 (bi a.v), .int .u64 (bi a.m)], .agg #[.int .u64 (bi b.v), .int .u64 (bi b.m)]] w fun e w' => e = .returned (.agg #[.int .u64 (bi r.v), .int .u64 (bi r.m)]) ∧ Below w.heap.size w w' := by subst h; exact refadd_any a b w
theorem refsub_to (a b r : T) (h : subT a b = r) (w : World) :
    Calls Try.prog 29 #[.agg #[.int .u64 (bi a.v), .int .u64 (bi a.m)], .agg #[.int .u64 (bi b.v), .int .u64 (bi b.m)]] w fun e w' => e = .returned (.agg #[.int .u64 (bi r.v), .int .u64 (bi r.m)]) ∧ Below w.heap.size w w' := by subst h; exact refsub_any a b w
theorem refmul_to (a b r : T) (h : mulT a b = r) (w : World) :
    Calls Try.prog 31 #[.agg #[.int .u64 (bi a.v), .int .u64 (bi a.m)], .agg #[.int .u64 (bi b.v), .int .u64 (bi b.m)]] w fun e w' => e = .returned (.agg #[.int .u64 (bi r.v), .int .u64 (bi r.m)]) ∧ Below w.heap.size w w' := by subst h; exact refmul_any a b w
theorem refand_to (a b r : T) (h : andT a b = r) (w : World) :
    Calls Try.prog 33 #[.agg #[.int .u64 (bi a.v), .int .u64 (bi a.m)], .agg #[.int .u64 (bi b.v), .int .u64 (bi b.m)]] w fun e w' => e = .returned (.agg #[.int .u64 (bi r.v), .int .u64 (bi r.m)]) ∧ Below w.heap.size w w' := by subst h; exact refand_any a b w
theorem refor_to (a b r : T) (h : orT a b = r) (w : World) :
    Calls Try.prog 35 #[.agg #[.int .u64 (bi a.v), .int .u64 (bi a.m)], .agg #[.int .u64 (bi b.v), .int .u64 (bi b.m)]] w fun e w' => e = .returned (.agg #[.int .u64 (bi r.v), .int .u64 (bi r.m)]) ∧ Below w.heap.size w w' := by subst h; exact refor_any a b w
theorem refxor_to (a b r : T) (h : xorT a b = r) (w : World) :
    Calls Try.prog 37 #[.agg #[.int .u64 (bi a.v), .int .u64 (bi a.m)], .agg #[.int .u64 (bi b.v), .int .u64 (bi b.m)]] w fun e w' => e = .returned (.agg #[.int .u64 (bi r.v), .int .u64 (bi r.m)]) ∧ Below w.heap.size w w' := by subst h; exact refxor_any a b w
theorem reflsh_to (a r : T) (n : Int) (k : Nat) (hk : n % 64 = (k : Int)) (hn : -9223372036854775808 ≤ n ∧ n ≤ 9223372036854775807) (h : lshT a k = r) (w : World) :
    Calls Try.prog 39 #[.agg #[.int .u64 (bi a.v), .int .u64 (bi a.m)], .int .i64 n] w fun e w' => e = .returned (.agg #[.int .u64 (bi r.v), .int .u64 (bi r.m)]) ∧ Below w.heap.size w w' := by subst h; exact reflsh_any a n k hk hn w
theorem refrsh_to (a r : T) (n : Int) (k : Nat) (hk : n % 64 = (k : Int)) (hn : -9223372036854775808 ≤ n ∧ n ≤ 9223372036854775807) (h : rshT a k = r) (w : World) :
    Calls Try.prog 41 #[.agg #[.int .u64 (bi a.v), .int .u64 (bi a.m)], .int .i64 n] w fun e w' => e = .returned (.agg #[.int .u64 (bi r.v), .int .u64 (bi r.m)]) ∧ Below w.heap.size w w' := by subst h; exact refrsh_any a n k hk hn w
theorem refar_to (a r : T) (n : Int) (k : Nat) (hk : n % 64 = (k : Int)) (hn : -9223372036854775808 ≤ n ∧ n ≤ 9223372036854775807) (h : arT a k = r) (w : World) :
    Calls Try.prog 43 #[.agg #[.int .u64 (bi a.v), .int .u64 (bi a.m)], .int .i64 n, .int .i64 64] w fun e w' => e = .returned (.agg #[.int .u64 (bi r.v), .int .u64 (bi r.m)]) ∧ Below w.heap.size w w' := by subst h; exact refar_any a n k hk hn w
theorem refar32_to (a r : T) (n : Int) (k : Nat) (hk : n % 32 = (k : Int)) (hn : -9223372036854775808 ≤ n ∧ n ≤ 9223372036854775807) (h : ar32T a k = r) (w : World) :
    Calls Try.prog 43 #[.agg #[.int .u64 (bi a.v), .int .u64 (bi a.m)], .int .i64 n, .int .i64 32] w fun e w' => e = .returned (.agg #[.int .u64 (bi r.v), .int .u64 (bi r.m)]) ∧ Below w.heap.size w w' := by subst h; exact refar32_any a n k hk hn w
/-- Arsh with whatever number of bits. -/
theorem refarsh_all (a : T) (n p : Int) (hn : -9223372036854775808 ≤ n ∧ n ≤ 9223372036854775807) (w : World) :
    Calls Try.prog 43 #[.agg #[.int .u64 (bi a.v), .int .u64 (bi a.m)], .int .i64 n, .int .i64 p] w fun e w' => e = .returned (.agg #[.int .u64 (bi (if p = 64 then arT a (n % 64).toNat else if p = 32 then ar32T a (n % 32).toNat else anyT).v), .int .u64 (bi (if p = 64 then arT a (n % 64).toNat else if p = 32 then ar32T a (n % 32).toNat else anyT).m)]) ∧ Below w.heap.size w w' := by
  by_cases h1 : p = 64
  · subst h1
    exact refar_any a n (n % 64).toNat (by omega) hn w
  · by_cases h2 : p = 32
    · subst h2
      exact refar32_any a n (n % 32).toNat (by omega) hn w
    · rw [if_neg h1, if_neg h2]
      exact refarany_any a n p h2 h1 w
/-- The world behind a new block. -/
theorem new_bk {w w1 : World} (h : Below w.heap.size w w1) (t : T) : Bk (w1.alloc (.cells #[.int .u64 (bi t.v), .int .u64 (bi t.m)] 24)) w1.heap.size 24 #[.int .u64 (bi t.v), .int .u64 (bi t.m)] ∧ Below w.heap.size w (w1.alloc (.cells #[.int .u64 (bi t.v), .int .u64 (bi t.m)] 24)) :=
  ⟨Bk.new _ _ _, h.alloc h.size _⟩
theorem bk_al {w : World} {g : Nat} {cs : Array Value} (h : Bk w g 24 cs) (o : Obj) : Bk (w.alloc o) g 24 cs := h.alloc o
theorem wrap_bd (n : Int) : 0 ≤ IntKind.u64.wrap n ∧ IntKind.u64.wrap n ≤ 18446744073709551615 := by rw [IntKind.wrap_u64]; omega
theorem wrap64k (n : Int) (k : Nat) (h : n % 64 = (k : Int)) : IntKind.u64.wrap n % 64 = (k : Int) := by rw [IntKind.wrap_u64]; omega
theorem wrap32k (n : Int) (k : Nat) (h : n % 32 = (k : Int)) : IntKind.u64.wrap n % 32 = (k : Int) := by rw [IntKind.wrap_u64]; omega
theorem of_is (x : BitVec 64) (r : T) (h : ofT x = r) (w : World) :
    Calls Try.prog 15 #[.int .u64 (bi x)] w fun e w' => e = .returned (.agg #[.int .u64 (bi r.v), .int .u64 (bi r.m)]) ∧ Below w.heap.size w w' := by subst h; exact of_any x w
end Go.Proofs.Ytjjiancacokaiaa
