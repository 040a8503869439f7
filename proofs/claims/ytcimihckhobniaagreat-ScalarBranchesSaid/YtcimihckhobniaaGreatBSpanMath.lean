/-
  Numbers from one to another: what package span tells, as plain mathematics, and what follows. Nothing of the program is named here.
-/
import Derived.Test.YtcimihckhobniaaGreatBTnumInt
namespace Go.Proofs.YtcimihckhobniaaGreat.Sp
open Tn
set_option linter.unusedVariables false
set_option linter.unusedSimpArgs false

structure E where
  lo : Int
  hi : Int
theorem E.eq {a b : E} (h1 : a.lo = b.lo) (h2 : a.hi = b.hi) : a = b := by cases a; cases b; simp at h1 h2; subst h1 h2; rfl
def okU (a : E) : Prop := 0 ≤ a.lo ∧ a.lo ≤ a.hi ∧ a.hi ≤ 18446744073709551615
def okS (a : E) : Prop := -9223372036854775808 ≤ a.lo ∧ a.lo ≤ a.hi ∧ a.hi ≤ 9223372036854775807
def uAll : E := ⟨0, 18446744073709551615⟩
def sAll : E := ⟨-9223372036854775808, 9223372036854775807⟩
def ofE (v : Int) : E := ⟨v, v⟩
def inE (a : E) (v : Int) : Bool := decide (a.lo ≤ v ∧ v ≤ a.hi)
theorem inE_iff (a : E) (v : Int) : inE a v = true ↔ a.lo ≤ v ∧ v ≤ a.hi := by unfold inE; simp
def withE (a b : E) : Bool := decide (b.lo ≤ a.lo ∧ a.hi ≤ b.hi)
theorem withE_iff (a b : E) : withE a b = true ↔ b.lo ≤ a.lo ∧ a.hi ≤ b.hi := by unfold withE; simp
def sortE (x y : Int) : E := ⟨min x y, max x y⟩
def metE (a b : E) : Bool := decide (max a.lo b.lo ≤ min a.hi b.hi)
def meetE (a b : E) : E := if max a.lo b.lo ≤ min a.hi b.hi then ⟨max a.lo b.lo, min a.hi b.hi⟩ else ⟨0, 0⟩
def andI (x y : Int) : Int := ((x.toNat &&& y.toNat : Nat) : Int)
def xorI (x y : Int) : Int := ((x.toNat ^^^ y.toNat : Nat) : Int)
def ln (n : Nat) : Nat := if n = 0 then 0 else n.log2 + 1
def sg (v : Int) : Int := if v < 9223372036854775808 then v else v - 18446744073709551616
def us (v : Int) : Int := if v < 0 then v + 18446744073709551616 else v
def toS (u : E) : E := if (u.lo < 9223372036854775808 ↔ u.hi < 9223372036854775808) then ⟨sg u.lo, sg u.hi⟩ else sAll
def toU (s : E) : E := if s.lo < 0 ∧ 0 ≤ s.hi then uAll else ⟨us s.lo, us s.hi⟩
/-- How many of the lowest bits of the ends are not the same from there on. -/
def dif (u : E) : Nat := ln (u.lo.toNat ^^^ u.hi.toNat)
def toT (u : E) : T := ⟨BitVec.ofNat 64 (u.lo.toNat - u.lo.toNat % 2 ^ dif u), BitVec.ofNat 64 (2 ^ dif u - 1)⟩
def hib : BitVec 64 := 9223372036854775808#64
def fromU (t : T) : E := ⟨bi t.v, bi (t.v + t.m)⟩
def fromS (t : T) : E := if bi t.m < 9223372036854775808 then ⟨sg (bi t.v), sg (bi (t.v + t.m))⟩ else ⟨sg (bi (t.v ||| hib)), sg (bi ((t.v + t.m) &&& ~~~hib))⟩

/-! ### How many bits a number has -/
theorem ln_lt (n : Nat) : n < 2 ^ ln n := by
  unfold ln
  split
  · subst n; decide
  · exact Nat.lt_log2_self
theorem ln_le {n k : Nat} (h : n < 2 ^ k) : ln n ≤ k := by
  unfold ln
  split
  · exact Nat.zero_le _
  · rename_i hn
    exact (Nat.log2_lt hn).2 h
theorem le_ln {n k : Nat} (h : 2 ^ k ≤ n) : k < ln n := by
  unfold ln
  have hn : n ≠ 0 := by have := Nat.two_pow_pos k; omega
  rw [if_neg hn]
  have := (Nat.le_log2 hn).2 h
  omega
theorem ln_eq {n k : Nat} (h1 : n < 2 ^ (k + 1)) (h2 : 2 ^ k ≤ n) : ln n = k + 1 := by
  have := ln_le h1
  have := le_ln h2
  omega
theorem ln_add {n : Nat} (j : Nat) (h : n / 2 ^ j ≠ 0) : ln n = ln (n / 2 ^ j) + j := by
  have h1 : 2 ^ j ≤ n := by
    rcases Nat.lt_or_ge n (2 ^ j) with h2 | h2
    · exact absurd (Nat.div_eq_of_lt h2) h
    · exact h2
  obtain ⟨m, hm⟩ : ∃ m, ln (n / 2 ^ j) = m + 1 := by
    unfold ln; rw [if_neg h]; exact ⟨_, rfl⟩
  have a1 := ln_lt (n / 2 ^ j)
  rw [hm] at a1 ⊢
  have a2 : 2 ^ m ≤ n / 2 ^ j := by
    rcases Nat.lt_or_ge (n / 2 ^ j) (2 ^ m) with h2 | h2
    · have := ln_le h2; omega
    · exact h2
  have b1 : n < 2 ^ (m + 1) * 2 ^ j := (Nat.div_lt_iff_lt_mul (Nat.two_pow_pos j)).1 a1
  have b2 : 2 ^ m * 2 ^ j ≤ n := (Nat.le_div_iff_mul_le (Nat.two_pow_pos j)).1 a2
  rw [← Nat.pow_add] at b1 b2
  rw [show m + 1 + j = m + j + 1 by omega] at b1 ⊢
  exact ln_eq b1 b2
theorem ln_64 {n : Nat} (h : n < 18446744073709551616) : ln n ≤ 64 := ln_le h
theorem pow_cast (k : Nat) : ((2 ^ k : Nat) : Int) = 2 ^ k := by push_cast; rfl
theorem pow_pos' (k : Nat) : (0 : Int) < 2 ^ k := Int.pow_pos (by decide)
/-! ### Bits -/
theorem bi_toN (x : BitVec 64) : (bi x).toNat = x.toNat := by unfold bi; exact Int.toNat_natCast _
theorem bits_and (x y : Int) (h0 : 0 ≤ x) (h1 : x ≤ 18446744073709551615) (h2 : 0 ≤ y) (h3 : y ≤ 18446744073709551615) : bits .and .u64 x y = andI x y := by
  obtain ⟨p, rfl⟩ := bi_of x h0 h1
  obtain ⟨q, rfl⟩ := bi_of y h2 h3
  rw [bi_and]; unfold andI; rw [bi_toN, bi_toN]; unfold bi; rw [BitVec.toNat_and]
theorem bits_xor (x y : Int) (h0 : 0 ≤ x) (h1 : x ≤ 18446744073709551615) (h2 : 0 ≤ y) (h3 : y ≤ 18446744073709551615) : bits .xor .u64 x y = xorI x y := by
  obtain ⟨p, rfl⟩ := bi_of x h0 h1
  obtain ⟨q, rfl⟩ := bi_of y h2 h3
  rw [bi_xor]; unfold xorI; rw [bi_toN, bi_toN]; unfold bi; rw [BitVec.toNat_xor]
theorem xorI_bd (x y : Int) (hx : x ≤ 18446744073709551615) (hy : y ≤ 18446744073709551615) : 0 ≤ xorI x y ∧ xorI x y ≤ 18446744073709551615 := by
  unfold xorI
  have k : x.toNat ^^^ y.toNat < 2 ^ 64 := Nat.xor_lt_two_pow (by simp only [Nat.reducePow]; omega) (by simp only [Nat.reducePow]; omega)
  simp only [Nat.reducePow] at k
  omega
end Go.Proofs.YtcimihckhobniaaGreat.Sp
