/-
  Texts of layer 5 and of those below it, put together: contracts and plain mathematics that ScalarSwap needs.
-/
import Derived.WalkKit
import Derived.Laws.BitsAllLaws
import Derived.Below
namespace Go.Proofs.YtcimihckhobniaaGreat.Tn
set_option linter.unusedVariables false
set_option linter.unusedSimpArgs false

/-- A tnum: the bits that are not in the mask are the value's. -/
structure T where
  v : BitVec 64
  m : BitVec 64
theorem T.eq {a b : T} (h1 : a.v = b.v) (h2 : a.m = b.m) : a = b := by cases a; cases b; simp at h1 h2; subst h1 h2; rfl

theorem bt_ext {x y : BitVec 64} (h : ∀ i, i < 64 → x.getLsbD i = y.getLsbD i) : x = y := BitVec.eq_of_getLsbD_eq (fun i hi => h i hi)
theorem zero_iff (x : BitVec 64) : x = 0#64 ↔ ∀ i, i < 64 → x.getLsbD i = false :=
  ⟨fun h i hi => by subst h; simp, fun h => bt_ext fun i hi => by rw [h i hi]; simp⟩

def exc (v m : BitVec 64) : T := ⟨v &&& ~~~m, m⟩
def mayT (t : T) : Prop := t.v &&& t.m = 0#64
theorem may_iff (t : T) : mayT t ↔ ∀ i, i < 64 → t.m.getLsbD i = true → t.v.getLsbD i = false := by
  unfold mayT
  rw [zero_iff]
  refine forall_congr' fun i => forall_congr' fun hi => ?_
  rw [BitVec.getLsbD_and]
  cases t.v.getLsbD i <;> cases t.m.getLsbD i <;> simp
theorem may_exc (v m : BitVec 64) : mayT (exc v m) := by
  rw [may_iff]
  intro i hi h
  unfold exc at h ⊢
  simp at h ⊢
  simp [h]
def ofT (v : BitVec 64) : T := ⟨v, 0#64⟩
def anyT : T := ⟨0#64, BitVec.allOnes 64⟩
theorem may_of (v : BitVec 64) : mayT (ofT v) := by unfold mayT ofT; simp
theorem may_any : mayT anyT := by unfold mayT anyT; simp
def inT (t : T) (x : BitVec 64) : Bool := ((x ^^^ t.v) &&& ~~~t.m) == 0#64
def joinT (a b : T) : T := exc a.v (a.m ||| b.m ||| (a.v ^^^ b.v))
def sameT (a b : T) : Bool := a.v == b.v && a.m == b.m
theorem same_iff (a b : T) : sameT a b = true ↔ a = b := by
  unfold sameT
  rw [Bool.and_eq_true, beq_iff_eq, beq_iff_eq]
  exact ⟨fun h => T.eq h.1 h.2, fun h => by subst h; exact ⟨rfl, rfl⟩⟩
def withT (a b : T) : Bool := sameT (joinT a b) b
theorem with_iff (a b : T) (hb : mayT b) : withT a b = true ↔ ∀ i, i < 64 → b.m.getLsbD i = false → a.m.getLsbD i = false ∧ a.v.getLsbD i = b.v.getLsbD i := by
  rw [may_iff] at hb
  unfold withT
  rw [same_iff]
  constructor
  · intro h i hi h1
    have e1 := congrArg (fun t : T => t.m.getLsbD i) h
    unfold joinT exc at e1
    simp [h1] at e1
    exact e1
  · intro h
    refine T.eq (bt_ext fun i hi => ?_) (bt_ext fun i hi => ?_)
    · have h1 := h i hi
      have h2 := hb i hi
      unfold joinT exc
      simp only [BitVec.getLsbD_and, BitVec.getLsbD_or, BitVec.getLsbD_xor, BitVec.getLsbD_not, hi, decide_true, Bool.true_and]
      revert h1 h2
      cases a.v.getLsbD i <;> cases a.m.getLsbD i <;> cases b.v.getLsbD i <;> cases b.m.getLsbD i <;> simp
    · have h1 := h i hi
      unfold joinT exc
      simp only [BitVec.getLsbD_and, BitVec.getLsbD_or, BitVec.getLsbD_xor, BitVec.getLsbD_not, hi, decide_true, Bool.true_and]
      revert h1
      cases a.v.getLsbD i <;> cases a.m.getLsbD i <;> cases b.v.getLsbD i <;> cases b.m.getLsbD i <;> simp
def meetOk (a b : T) : Bool := ((a.v ^^^ b.v) &&& ~~~(a.m ||| b.m)) == 0#64
theorem meet_iff (a b : T) : meetOk a b = true ↔ ∀ i, i < 64 → a.m.getLsbD i = false → b.m.getLsbD i = false → a.v.getLsbD i = b.v.getLsbD i := by
  unfold meetOk
  rw [beq_iff_eq, zero_iff]
  refine forall_congr' fun i => forall_congr' fun hi => ?_
  rw [BitVec.getLsbD_and, BitVec.getLsbD_xor, BitVec.getLsbD_not, BitVec.getLsbD_or]
  simp only [hi, decide_true, Bool.true_and]
  cases a.v.getLsbD i <;> cases a.m.getLsbD i <;> cases b.v.getLsbD i <;> cases b.m.getLsbD i <;> simp
def meetT (a b : T) : T := if meetOk a b then exc (a.v ||| b.v) (a.m &&& b.m) else ⟨0#64, 0#64⟩

/-! ### Sums -/
/-! ### Differences: a number turned, and a sum -/
/-! ### Products -/
theorem may_mask (m : BitVec 64) : mayT ⟨0#64, m⟩ := by unfold mayT; simp
/-! ### Bit by bit -/
/-! ### Shifts and cuts: what moves bits -/
def cutT (a : T) (c : BitVec 64) : T := ⟨a.v &&& c, a.m &&& c⟩
/-! ### What holds of lattices -/
theorem meet_yes {a b : T} (h : meetOk a b = true) : meetT a b = exc (a.v ||| b.v) (a.m &&& b.m) := by unfold meetT; rw [h]; rfl
theorem meet_no {a b : T} (h : meetOk a b = false) : meetT a b = ⟨0#64, 0#64⟩ := by unfold meetT; rw [h]; rfl
theorem may_meet (a b : T) : mayT (meetT a b) := by unfold meetT; split; exact may_exc _ _; exact may_mask _
theorem meet_bits {a b : T} (ha : mayT a) (hb : mayT b) (h : meetOk a b = true) (i : Nat) (hi : i < 64) :
    (a.m.getLsbD i = false → (meetT a b).m.getLsbD i = false ∧ (meetT a b).v.getLsbD i = a.v.getLsbD i) ∧ (b.m.getLsbD i = false → (meetT a b).m.getLsbD i = false ∧ (meetT a b).v.getLsbD i = b.v.getLsbD i) ∧ ((meetT a b).m.getLsbD i = false → a.m.getLsbD i = false ∨ b.m.getLsbD i = false) := by
  have h1 := (meet_iff a b).1 h i hi
  have h2 := (may_iff a).1 ha i hi
  have h3 := (may_iff b).1 hb i hi
  rw [meet_yes h]
  unfold exc
  simp only [BitVec.getLsbD_or, BitVec.getLsbD_and, BitVec.getLsbD_not, hi, decide_true, Bool.true_and]
  revert h1 h2 h3
  cases a.v.getLsbD i <;> cases a.m.getLsbD i <;> cases b.v.getLsbD i <;> cases b.m.getLsbD i <;> simp
theorem meet_left {a b : T} (ha : mayT a) (hb : mayT b) (h : meetOk a b = true) : withT (meetT a b) a = true := by
  rw [with_iff _ _ ha]
  intro i hi h1
  exact (meet_bits ha hb h i hi).1 h1
theorem meet_right {a b : T} (ha : mayT a) (hb : mayT b) (h : meetOk a b = true) : withT (meetT a b) b = true := by
  rw [with_iff _ _ hb]
  intro i hi h1
  exact (meet_bits ha hb h i hi).2.1 h1
/-! ### Who knows more is told more -/
theorem with_self {a : T} (ha : mayT a) : withT a a = true := by
  rw [with_iff _ _ ha]; intro i hi h; exact ⟨h, rfl⟩
end Go.Proofs.YtcimihckhobniaaGreat.Tn
namespace Go.Proofs.YtcimihckhobniaaGreat.Tn
open Go.RowKit
set_option linter.unusedVariables false
set_option linter.unusedSimpArgs false

def bi (x : BitVec 64) : Int := (x.toNat : Int)
theorem bi_bd (x : BitVec 64) : 0 ≤ bi x ∧ bi x ≤ 18446744073709551615 := by unfold bi; have := x.isLt; omega
theorem bi_of (n : Int) (h0 : 0 ≤ n) (h1 : n ≤ 18446744073709551615) : ∃ x, n = bi x := by
  refine ⟨BitVec.ofNat 64 n.toNat, ?_⟩
  unfold bi
  rw [BitVec.toNat_ofNat]
  omega
theorem bi_inj {x y : BitVec 64} : bi x = bi y ↔ x = y := by
  unfold bi
  rw [← BitVec.toNat_inj]
  omega
theorem bi_eq (x y : BitVec 64) : (bi x == bi y) = (x == y) := by
  rw [Bool.eq_iff_iff, beq_iff_eq, beq_iff_eq, bi_inj]
theorem bi_zero : bi 0#64 = 0 := rfl
theorem bi_ones : bi (BitVec.allOnes 64) = 18446744073709551615 := by unfold bi; rw [BitVec.toNat_allOnes]; rfl
theorem bi_eq0 (x : BitVec 64) : (bi x == 0) = (x == 0#64) := by rw [← bi_zero, bi_eq]
theorem bi_ofInt (x : BitVec 64) : BitVec.ofInt IntKind.u64.bits (bi x) = x := by
  apply BitVec.eq_of_toNat_eq
  rw [BitVec.toNat_ofInt]
  show (((x.toNat : Nat) : Int) % 18446744073709551616).toNat = x.toNat
  have h : x.toNat < 18446744073709551616 := x.isLt
  generalize x.toNat = n at h ⊢
  omega
theorem bi_wrap (x : BitVec 64) : IntKind.u64.wrap (x.toNat : Int) = bi x := by
  rw [IntKind.wrap_u64]
  unfold bi
  have := x.isLt
  omega
theorem bi_and (x y : BitVec 64) : bits .and .u64 (bi x) (bi y) = bi (x &&& y) := by
  unfold bits
  rw [bi_ofInt, bi_ofInt]
  exact bi_wrap _
theorem bi_or (x y : BitVec 64) : bits .or .u64 (bi x) (bi y) = bi (x ||| y) := by
  unfold bits
  rw [bi_ofInt, bi_ofInt]
  exact bi_wrap _
theorem bi_xor (x y : BitVec 64) : bits .xor .u64 (bi x) (bi y) = bi (x ^^^ y) := by
  unfold bits
  rw [bi_ofInt, bi_ofInt]
  exact bi_wrap _
theorem bi_andNot (x y : BitVec 64) : bits .andNot .u64 (bi x) (bi y) = bi (x &&& ~~~y) := by
  unfold bits
  rw [bi_ofInt, bi_ofInt]
  exact bi_wrap _
theorem bi_add (x y : BitVec 64) : (bi x + bi y) % 18446744073709551616 = bi (x + y) := by
  unfold bi
  rw [BitVec.toNat_add]
  omega
theorem bi_sub (x y : BitVec 64) : (bi x - bi y) % 18446744073709551616 = bi (x - y) := by
  unfold bi
  rw [BitVec.toNat_sub]
  have := x.isLt
  have := y.isLt
  omega
theorem bi_mul (x y : BitVec 64) : (bi x * bi y) % 18446744073709551616 = bi (x * y) := by
  unfold bi
  rw [BitVec.toNat_mul, show (2 : Nat) ^ 64 = 18446744073709551616 from rfl, Int.natCast_emod, Int.natCast_mul]
  rfl
theorem bi_bit (x : BitVec 64) (k : Nat) : bi x / 2 ^ k % 2 = if x.getLsbD k then 1 else 0 := by
  unfold bi
  rw [← BitVec.testBit_toNat, Nat.testBit_eq_decide_div_mod_eq]
  have e : ((x.toNat : Int) / 2 ^ k % 2) = ((x.toNat / 2 ^ k % 2 : Nat) : Int) := by push_cast; rfl
  rw [e]
  by_cases h : x.toNat / 2 ^ k % 2 = 1
  · simp [h]
  · have h0 : x.toNat / 2 ^ k % 2 = 0 := by omega
    simp [h0]
theorem biw_add (x y : BitVec 64) : IntKind.u64.wrap (bi x + bi y) = bi (x + y) := by rw [IntKind.wrap_u64]; exact bi_add x y
theorem biw_sub (x y : BitVec 64) : IntKind.u64.wrap (bi x - bi y) = bi (x - y) := by rw [IntKind.wrap_u64]; exact bi_sub x y
theorem biw_mul (x y : BitVec 64) : IntKind.u64.wrap (bi x * bi y) = bi (x * y) := by rw [IntKind.wrap_u64]; exact bi_mul x y
/-! ### A number made bit by bit -/
end Go.Proofs.YtcimihckhobniaaGreat.Tn
namespace Go.Proofs.YtcimihckhobniaaGreat.Sp
open Tn
set_option linter.unusedVariables false
set_option linter.unusedSimpArgs false

structure E where
  lo : Int
  hi : Int
theorem E.eq {a b : E} (h1 : a.lo = b.lo) (h2 : a.hi = b.hi) : a = b := by cases a; cases b; simp at h1 h2; subst h1 h2; rfl
def okU (a : E) : Prop := 0 ≤ a.lo ∧ a.lo ≤ a.hi ∧ a.hi ≤ 18446744073709551615
def okS (a : E) : Prop := -9223372036854775808 ≤ a.lo ∧ a.lo ≤ a.hi ∧ a.hi ≤ 9223372036854775807
def uAll : E := ⟨0, 18446744073709551615⟩
def sAll : E := ⟨-9223372036854775808, 9223372036854775807⟩
def ofE (v : Int) : E := ⟨v, v⟩
def inE (a : E) (v : Int) : Bool := decide (a.lo ≤ v ∧ v ≤ a.hi)
theorem inE_iff (a : E) (v : Int) : inE a v = true ↔ a.lo ≤ v ∧ v ≤ a.hi := by unfold inE; simp
def withE (a b : E) : Bool := decide (b.lo ≤ a.lo ∧ a.hi ≤ b.hi)
theorem withE_iff (a b : E) : withE a b = true ↔ b.lo ≤ a.lo ∧ a.hi ≤ b.hi := by unfold withE; simp
def sortE (x y : Int) : E := ⟨min x y, max x y⟩
def metE (a b : E) : Bool := decide (max a.lo b.lo ≤ min a.hi b.hi)
def meetE (a b : E) : E := if max a.lo b.lo ≤ min a.hi b.hi then ⟨max a.lo b.lo, min a.hi b.hi⟩ else ⟨0, 0⟩
def andI (x y : Int) : Int := ((x.toNat &&& y.toNat : Nat) : Int)
def xorI (x y : Int) : Int := ((x.toNat ^^^ y.toNat : Nat) : Int)
def ln (n : Nat) : Nat := if n = 0 then 0 else n.log2 + 1
def sg (v : Int) : Int := if v < 9223372036854775808 then v else v - 18446744073709551616
def us (v : Int) : Int := if v < 0 then v + 18446744073709551616 else v
def toS (u : E) : E := if (u.lo < 9223372036854775808 ↔ u.hi < 9223372036854775808) then ⟨sg u.lo, sg u.hi⟩ else sAll
def toU (s : E) : E := if s.lo < 0 ∧ 0 ≤ s.hi then uAll else ⟨us s.lo, us s.hi⟩
/-- How many of the lowest bits of the ends are not the same from there on. -/
def dif (u : E) : Nat := ln (u.lo.toNat ^^^ u.hi.toNat)
def toT (u : E) : T := ⟨BitVec.ofNat 64 (u.lo.toNat - u.lo.toNat % 2 ^ dif u), BitVec.ofNat 64 (2 ^ dif u - 1)⟩
def hib : BitVec 64 := 9223372036854775808#64
def fromU (t : T) : E := ⟨bi t.v, bi (t.v + t.m)⟩
def fromS (t : T) : E := if bi t.m < 9223372036854775808 then ⟨sg (bi t.v), sg (bi (t.v + t.m))⟩ else ⟨sg (bi (t.v ||| hib)), sg (bi ((t.v + t.m) &&& ~~~hib))⟩

/-! ### How many bits a number has -/
theorem ln_lt (n : Nat) : n < 2 ^ ln n := by
  unfold ln
  split
  · subst n; decide
  · exact Nat.lt_log2_self
theorem ln_le {n k : Nat} (h : n < 2 ^ k) : ln n ≤ k := by
  unfold ln
  split
  · exact Nat.zero_le _
  · rename_i hn
    exact (Nat.log2_lt hn).2 h
theorem le_ln {n k : Nat} (h : 2 ^ k ≤ n) : k < ln n := by
  unfold ln
  have hn : n ≠ 0 := by have := Nat.two_pow_pos k; omega
  rw [if_neg hn]
  have := (Nat.le_log2 hn).2 h
  omega
theorem ln_eq {n k : Nat} (h1 : n < 2 ^ (k + 1)) (h2 : 2 ^ k ≤ n) : ln n = k + 1 := by
  have := ln_le h1
  have := le_ln h2
  omega
theorem ln_add {n : Nat} (j : Nat) (h : n / 2 ^ j ≠ 0) : ln n = ln (n / 2 ^ j) + j := by
  have h1 : 2 ^ j ≤ n := by
    rcases Nat.lt_or_ge n (2 ^ j) with h2 | h2
    · exact absurd (Nat.div_eq_of_lt h2) h
    · exact h2
  obtain ⟨m, hm⟩ : ∃ m, ln (n / 2 ^ j) = m + 1 := by
    unfold ln; rw [if_neg h]; exact ⟨_, rfl⟩
  have a1 := ln_lt (n / 2 ^ j)
  rw [hm] at a1 ⊢
  have a2 : 2 ^ m ≤ n / 2 ^ j := by
    rcases Nat.lt_or_ge (n / 2 ^ j) (2 ^ m) with h2 | h2
    · have := ln_le h2; omega
    · exact h2
  have b1 : n < 2 ^ (m + 1) * 2 ^ j := (Nat.div_lt_iff_lt_mul (Nat.two_pow_pos j)).1 a1
  have b2 : 2 ^ m * 2 ^ j ≤ n := (Nat.le_div_iff_mul_le (Nat.two_pow_pos j)).1 a2
  rw [← Nat.pow_add] at b1 b2
  rw [show m + 1 + j = m + j + 1 by omega] at b1 ⊢
  exact ln_eq b1 b2
theorem ln_64 {n : Nat} (h : n < 18446744073709551616) : ln n ≤ 64 := ln_le h
theorem pow_cast (k : Nat) : ((2 ^ k : Nat) : Int) = 2 ^ k := by push_cast; rfl
theorem pow_pos' (k : Nat) : (0 : Int) < 2 ^ k := Int.pow_pos (by decide)
/-! ### Bits -/
theorem bi_toN (x : BitVec 64) : (bi x).toNat = x.toNat := by unfold bi; exact Int.toNat_natCast _
theorem bits_and (x y : Int) (h0 : 0 ≤ x) (h1 : x ≤ 18446744073709551615) (h2 : 0 ≤ y) (h3 : y ≤ 18446744073709551615) : bits .and .u64 x y = andI x y := by
  obtain ⟨p, rfl⟩ := bi_of x h0 h1
  obtain ⟨q, rfl⟩ := bi_of y h2 h3
  rw [bi_and]; unfold andI; rw [bi_toN, bi_toN]; unfold bi; rw [BitVec.toNat_and]
theorem bits_xor (x y : Int) (h0 : 0 ≤ x) (h1 : x ≤ 18446744073709551615) (h2 : 0 ≤ y) (h3 : y ≤ 18446744073709551615) : bits .xor .u64 x y = xorI x y := by
  obtain ⟨p, rfl⟩ := bi_of x h0 h1
  obtain ⟨q, rfl⟩ := bi_of y h2 h3
  rw [bi_xor]; unfold xorI; rw [bi_toN, bi_toN]; unfold bi; rw [BitVec.toNat_xor]
theorem xorI_bd (x y : Int) (hx : x ≤ 18446744073709551615) (hy : y ≤ 18446744073709551615) : 0 ≤ xorI x y ∧ xorI x y ≤ 18446744073709551615 := by
  unfold xorI
  have k : x.toNat ^^^ y.toNat < 2 ^ 64 := Nat.xor_lt_two_pow (by simp only [Nat.reducePow]; omega) (by simp only [Nat.reducePow]; omega)
  simp only [Nat.reducePow] at k
  omega
end Go.Proofs.YtcimihckhobniaaGreat.Sp
namespace Go.Proofs.YtcimihckhobniaaGreat.Sp
open Tn
set_option linter.unusedVariables false
set_option linter.unusedSimpArgs false

theorem okU_all : okU uAll := by unfold okU uAll; simp
theorem okS_all : okS sAll := by unfold okS sAll; simp
section
variable {a b : E} {x y : Int}
theorem sg_bd (v : Int) (h0 : 0 ≤ v) (h1 : v ≤ 18446744073709551615) : -9223372036854775808 ≤ sg v ∧ sg v ≤ 9223372036854775807 := by unfold sg; split <;> omega
theorem us_bd (v : Int) (h0 : -9223372036854775808 ≤ v) (h1 : v ≤ 9223372036854775807) : 0 ≤ us v ∧ us v ≤ 18446744073709551615 := by unfold us; split <;> omega
theorem div_pow_bd (v : Int) (k : Nat) (h0 : -9223372036854775808 ≤ v) (h1 : v ≤ 9223372036854775807) : -9223372036854775808 ≤ v / 2 ^ k ∧ v / 2 ^ k ≤ 9223372036854775807 := by
  have hp := pow_pos' k
  have c := Int.mul_ediv_add_emod v (2 ^ k)
  have m0 := Int.emod_nonneg v (show (2 : Int) ^ k ≠ 0 by omega)
  have m1 := Int.emod_lt_of_pos v hp
  constructor
  · rcases Int.lt_or_le v 0 with h | h
    · have : -9223372036854775808 * 2 ^ k ≤ v := by
        have : (-9223372036854775808 : Int) * 2 ^ k ≤ -9223372036854775808 * 1 := Int.mul_le_mul_of_nonpos_left (by omega) (by omega)
        omega
      exact (Int.le_ediv_iff_mul_le hp).2 this
    · have := Int.ediv_nonneg h (show (0 : Int) ≤ 2 ^ k by omega); omega
  · rcases Int.lt_or_le v 0 with h | h
    · have := Int.ediv_neg_of_neg_of_pos h hp; omega
    · have := Int.ediv_le_self (2 ^ k) h; omega
end
/-! ### Numbers alone -/
theorem okU_of (x : Int) (h0 : 0 ≤ x) (h1 : x ≤ 18446744073709551615) : okU (ofE x) := ⟨h0, Int.le_refl _, h1⟩
theorem okS_of (x : Int) (h0 : -9223372036854775808 ≤ x) (h1 : x ≤ 9223372036854775807) : okS (ofE x) := ⟨h0, Int.le_refl _, h1⟩
end Go.Proofs.YtcimihckhobniaaGreat.Sp
namespace Go.Proofs.YtcimihckhobniaaGreat.Sp
open Tn
set_option linter.unusedVariables false
set_option linter.unusedSimpArgs false

theorem hi_and (x : Int) (h0 : 0 ≤ x) (h1 : x ≤ 18446744073709551615) : (bits .and .u64 x 9223372036854775808 = 0) ↔ x < 9223372036854775808 := by
  rw [bits_and x _ h0 h1 (by decide) (by decide)]
  unfold andI
  have e : x.toNat &&& (9223372036854775808 : Int).toNat = if x.toNat.testBit 63 then 9223372036854775808 else 0 := by
    rw [show (9223372036854775808 : Int).toNat = 2 ^ 63 from rfl]
    apply Nat.eq_of_testBit_eq
    intro i
    rw [Nat.testBit_and, Nat.testBit_two_pow]
    by_cases hi : 63 = i
    · subst hi
      cases x.toNat.testBit 63 <;> rfl
    · rw [decide_eq_false hi, Bool.and_false]
      split
      · exact ((Nat.testBit_two_pow (n := 63) (m := i)).trans (decide_eq_false hi)).symm
      · exact (Nat.zero_testBit i).symm
  rw [e, Nat.testBit_eq_decide_div_mod_eq]
  simp only [Nat.reducePow]
  by_cases h : x < 9223372036854775808
  · rw [if_neg (by simp; omega)]; simp [h]
  · rw [if_pos (by simp; omega)]; simp [h]
theorem hi_xor (x y : Int) (h0 : 0 ≤ x) (h1 : x ≤ 18446744073709551615) (h2 : 0 ≤ y) (h3 : y ≤ 18446744073709551615) :
    (bits .and .u64 (bits .xor .u64 x y) 9223372036854775808 = 0) ↔ (x < 9223372036854775808 ↔ y < 9223372036854775808) := by
  have hb := xorI_bd x y h1 h3
  rw [bits_xor x y h0 h1 h2 h3, hi_and _ hb.1 hb.2]
  have t := Nat.testBit_xor x.toNat y.toNat 63
  rw [Nat.testBit_eq_decide_div_mod_eq, Nat.testBit_eq_decide_div_mod_eq, Nat.testBit_eq_decide_div_mod_eq] at t
  unfold xorI at hb ⊢
  generalize x.toNat ^^^ y.toNat = z at *
  simp only [Nat.reducePow] at t
  by_cases a : x < 9223372036854775808 <;> by_cases b : y < 9223372036854775808
  · rw [decide_eq_false (p := x.toNat / 9223372036854775808 % 2 = 1) (by omega), decide_eq_false (p := y.toNat / 9223372036854775808 % 2 = 1) (by omega)] at t
    have := of_decide_eq_false (show decide (z / 9223372036854775808 % 2 = 1) = false from t)
    omega
  · rw [decide_eq_false (p := x.toNat / 9223372036854775808 % 2 = 1) (by omega), decide_eq_true (p := y.toNat / 9223372036854775808 % 2 = 1) (by omega)] at t
    have := of_decide_eq_true (show decide (z / 9223372036854775808 % 2 = 1) = true from t)
    omega
  · rw [decide_eq_true (p := x.toNat / 9223372036854775808 % 2 = 1) (by omega), decide_eq_false (p := y.toNat / 9223372036854775808 % 2 = 1) (by omega)] at t
    have := of_decide_eq_true (show decide (z / 9223372036854775808 % 2 = 1) = true from t)
    omega
  · rw [decide_eq_true (p := x.toNat / 9223372036854775808 % 2 = 1) (by omega), decide_eq_true (p := y.toNat / 9223372036854775808 % 2 = 1) (by omega)] at t
    have := of_decide_eq_false (show decide (z / 9223372036854775808 % 2 = 1) = false from t)
    omega
/-! ### The bits that both ends share -/
theorem dif_le {u : E} (h : okU u) : dif u ≤ 64 := by
  unfold dif okU at *
  refine ln_64 ?_
  have k : u.lo.toNat ^^^ u.hi.toNat < 2 ^ 64 := Nat.xor_lt_two_pow (by simp only [Nat.reducePow]; omega) (by simp only [Nat.reducePow]; omega)
  exact k
theorem div_xor (x y k : Nat) : x / 2 ^ k = y / 2 ^ k ↔ x ^^^ y < 2 ^ k := by
  have e : (x ^^^ y) / 2 ^ k = x / 2 ^ k ^^^ y / 2 ^ k := Nat.xor_div_two_pow
  constructor
  · intro h
    rw [h, Nat.xor_self] at e
    exact (Nat.div_eq_zero_iff_lt (Nat.two_pow_pos k)).1 e
  · intro h
    rw [Nat.div_eq_of_lt h] at e
    have g : x / 2 ^ k = (x / 2 ^ k ^^^ y / 2 ^ k) ^^^ y / 2 ^ k := by rw [Nat.xor_assoc, Nat.xor_self, Nat.xor_zero]
    rw [← e, Nat.zero_xor] at g
    exact g
theorem dif_iff (u : E) (k : Nat) : u.lo.toNat / 2 ^ k = u.hi.toNat / 2 ^ k ↔ dif u ≤ k := by
  rw [div_xor]
  constructor
  · intro h; exact ln_le h
  · intro h; exact Nat.lt_of_lt_of_le (ln_lt _) (Nat.pow_le_pow_right (by decide) h)
theorem toT_v {u : E} (h : okU u) : bi (toT u).v = u.lo - u.lo % 2 ^ dif u := by
  unfold okU at h
  unfold toT bi
  dsimp only
  have hm := Nat.mod_le u.lo.toNat (2 ^ dif u)
  have hn : u.lo.toNat < 18446744073709551616 := by omega
  rw [BitVec.toNat_ofNat, Nat.mod_eq_of_lt (by simp only [Nat.reducePow]; omega)]
  have e : ((u.lo.toNat % 2 ^ dif u : Nat) : Int) = u.lo % 2 ^ dif u := by
    rw [Int.natCast_emod, pow_cast, Int.toNat_of_nonneg h.1]
  omega
theorem toT_m {u : E} (h : okU u) : bi (toT u).m = 2 ^ dif u - 1 := by
  have hd := dif_le h
  unfold toT bi
  dsimp only
  have h1 := Nat.two_pow_pos (dif u)
  have h2 : (2 : Nat) ^ dif u ≤ 2 ^ 64 := Nat.pow_le_pow_right (by decide) hd
  simp only [Nat.reducePow] at h2
  rw [BitVec.toNat_ofNat, Nat.mod_eq_of_lt (by simp only [Nat.reducePow]; omega), ← pow_cast]
  omega
theorem low_ones (x : BitVec 64) (k : Nat) (hk : k ≤ 64) : (x &&& ~~~(BitVec.ofNat 64 (2 ^ k - 1))).toNat = x.toNat - x.toNat % 2 ^ k := by
  have e : x &&& BitVec.ofNat 64 (2 ^ k - 1) = BitVec.ofNat 64 (x.toNat % 2 ^ k) := by
    apply BitVec.eq_of_toNat_eq
    rw [BitVec.toNat_and, BitVec.toNat_ofNat, BitVec.toNat_ofNat]
    have h1 : (2 : Nat) ^ k ≤ 2 ^ 64 := Nat.pow_le_pow_right (by decide) hk
    have h2 := Nat.two_pow_pos k
    have h3 : x.toNat % 2 ^ k ≤ x.toNat := Nat.mod_le _ _
    have h4 := x.isLt
    rw [Nat.mod_eq_of_lt (show 2 ^ k - 1 < 2 ^ 64 by omega), Nat.mod_eq_of_lt (show x.toNat % 2 ^ k < 2 ^ 64 by omega)]
    exact Nat.and_two_pow_sub_one_eq_mod _ _
  have s : x = (x &&& ~~~(BitVec.ofNat 64 (2 ^ k - 1))) + (x &&& BitVec.ofNat 64 (2 ^ k - 1)) := by
    rw [BitVec.add_eq_or_of_and_eq_zero]
    · refine bt_ext fun i hi => ?_
      simp only [BitVec.getLsbD_or, BitVec.getLsbD_and, BitVec.getLsbD_not, hi, decide_true, Bool.true_and]
      cases x.getLsbD i <;> cases (BitVec.ofNat 64 (2 ^ k - 1)).getLsbD i <;> rfl
    · refine bt_ext fun i hi => ?_
      simp only [BitVec.getLsbD_and, BitVec.getLsbD_not, hi, decide_true, Bool.true_and, BitVec.getLsbD_zero]
      cases x.getLsbD i <;> cases (BitVec.ofNat 64 (2 ^ k - 1)).getLsbD i <;> rfl
  have t : x.toNat = (x &&& ~~~(BitVec.ofNat 64 (2 ^ k - 1))).toNat + x.toNat % 2 ^ k := by
    have h9 : (x &&& BitVec.ofNat 64 (2 ^ k - 1)).toNat = x.toNat % 2 ^ k := by
      rw [e, BitVec.toNat_ofNat]
      have h3 : x.toNat % 2 ^ k ≤ x.toNat := Nat.mod_le _ _
      have h4 := x.isLt
      exact Nat.mod_eq_of_lt (by omega)
    have h10 : (x &&& ~~~(BitVec.ofNat 64 (2 ^ k - 1))).toNat + (x &&& BitVec.ofNat 64 (2 ^ k - 1)).toNat = x.toNat := by
      rw [BitVec.toNat_and, BitVec.toNat_not, BitVec.toNat_and]
      have g := congrArg BitVec.toNat s
      rw [BitVec.toNat_add_of_and_eq_zero] at g
      · rw [BitVec.toNat_and, BitVec.toNat_not, BitVec.toNat_and] at g; exact g.symm
      · refine bt_ext fun i hi => ?_
        simp only [BitVec.getLsbD_and, BitVec.getLsbD_not, hi, decide_true, Bool.true_and, BitVec.getLsbD_zero]
        cases x.getLsbD i <;> cases (BitVec.ofNat 64 (2 ^ k - 1)).getLsbD i <;> rfl
    omega
  omega
theorem bits_low (x : Int) (k : Nat) (hk : k ≤ 64) (h0 : 0 ≤ x) (h1 : x ≤ 18446744073709551615) : bits .andNot .u64 x (2 ^ k - 1) = x - x % 2 ^ k := by
  obtain ⟨p, rfl⟩ := bi_of x h0 h1
  have e : (2 : Int) ^ k - 1 = bi (BitVec.ofNat 64 (2 ^ k - 1)) := by
    unfold bi
    have h2 : (2 : Nat) ^ k ≤ 2 ^ 64 := Nat.pow_le_pow_right (by decide) hk
    have h3 := Nat.two_pow_pos k
    rw [BitVec.toNat_ofNat, Nat.mod_eq_of_lt (by omega), ← pow_cast]
    omega
  rw [e, bi_andNot]
  unfold bi
  rw [low_ones p k hk, ← pow_cast, ← Int.natCast_emod]
  have := Nat.mod_le p.toNat (2 ^ k)
  omega
/-- All numbers between ends have the bits that the ends share. -/
theorem share {u : E} (h : okU u) {x : Int} (hx : inE u x = true) : x - x % 2 ^ dif u = u.lo - u.lo % 2 ^ dif u := by
  rw [inE_iff] at hx
  unfold okU at h
  have hp := pow_pos' (dif u)
  have e := (dif_iff u (dif u)).2 (Nat.le_refl _)
  have e2 : u.lo / 2 ^ dif u = u.hi / 2 ^ dif u := by
    have g := congrArg (fun n : Nat => (n : Int)) e
    rw [Int.natCast_ediv, Int.natCast_ediv, pow_cast, Int.toNat_of_nonneg h.1, Int.toNat_of_nonneg (by omega)] at g
    exact g
  have l1 := Int.ediv_le_ediv hp hx.1
  have l2 := Int.ediv_le_ediv hp hx.2
  have e3 : x / 2 ^ dif u = u.lo / 2 ^ dif u := by omega
  have c1 := Int.mul_ediv_add_emod x (2 ^ dif u)
  have c2 := Int.mul_ediv_add_emod u.lo (2 ^ dif u)
  rw [e3] at c1
  omega
end Go.Proofs.YtcimihckhobniaaGreat.Sp
namespace Go.Proofs.YtcimihckhobniaaGreat.Sp
open Tn
set_option linter.unusedVariables false
set_option linter.unusedSimpArgs false
/-! ### Whichever bits are taken -/
end Go.Proofs.YtcimihckhobniaaGreat.Sp
namespace Go.Proofs.YtcimihckhobniaaGreat.Sc
open Tn Sp
set_option linter.unusedVariables false
set_option linter.unusedSimpArgs false
structure C where
  t : T
  u : E
  s : E
theorem C.eq {a b : C} (h1 : a.t = b.t) (h2 : a.u = b.u) (h3 : a.s = b.s) : a = b := by cases a; cases b; simp at h1 h2 h3; subst h1 h2 h3; rfl
def mayC (x : C) : Prop := mayT x.t ∧ okU x.u ∧ okS x.s
def inC (x : C) (v : BitVec 64) : Bool := inT x.t v && (inE x.u (bi v) && inE x.s (sg (bi v)))
theorem mk_may {t : T} {u s : E} (h1 : mayT t) (h2 : okU u) (h3 : okS s) : mayC ⟨t, u, s⟩ := And.intro h1 (And.intro h2 h3)
def withC (a b : C) : Bool := withT a.t b.t && (withE a.u b.u && withE a.s b.s)
theorem withC_iff (a b : C) : withC a b = true ↔ withT a.t b.t = true ∧ withE a.u b.u = true ∧ withE a.s b.s = true := by unfold withC; simp
theorem mk_with {t t2 : T} {u s u2 s2 : E} (h1 : withT t t2 = true) (h2 : withE u u2 = true) (h3 : withE s s2 = true) : withC ⟨t, u, s⟩ ⟨t2, u2, s2⟩ = true := (withC_iff _ _).2 (And.intro h1 (And.intro h2 h3))
def ofC (v : BitVec 64) : C := ⟨ofT v, ofE (bi v), ofE (sg (bi v))⟩
def anyC : C := ⟨anyT, uAll, sAll⟩
def onesC (n : Nat) : BitVec 64 := BitVec.ofNat 64 (2 ^ (8 * n) - 1)
def uptoC (n : Int) : C := if 8 ≤ n then anyC else if n < 1 then ofC 0#64 else ⟨⟨0#64, onesC n.toNat⟩, ⟨0, bi (onesC n.toNat)⟩, ⟨0, bi (onesC n.toNat)⟩⟩
def aloneC (x : C) : Bool := decide (x.u.lo = x.u.hi) || (x.t.m == 0#64 || decide (x.s.lo = x.s.hi))
def oneC (x : C) : Int := if x.u.lo = x.u.hi then x.u.lo else if x.t.m = 0#64 then bi x.t.v else if x.s.lo = x.s.hi then us x.s.lo else 0
def sortC (x : C) : C := ⟨exc x.t.v x.t.m, sortE x.u.lo x.u.hi, sortE x.s.lo x.s.hi⟩

theorem sg_bi (v : BitVec 64) : -9223372036854775808 ≤ sg (bi v) ∧ sg (bi v) ≤ 9223372036854775807 := sg_bd _ (bi_bd v).1 (bi_bd v).2
theorem may_ofC (v : BitVec 64) : mayC (ofC v) := And.intro (may_of v) (And.intro (okU_of _ (bi_bd v).1 (bi_bd v).2) (okS_of _ (sg_bi v).1 (sg_bi v).2))
theorem may_anyC : mayC anyC := mk_may may_any okU_all okS_all
/-! ### What both have -/
theorem withE_refl (a : E) : withE a a = true := by rw [withE_iff]; omega
theorem withE_trans {a b c : E} (h : withE a b = true) (g : withE b c = true) : withE a c = true := by rw [withE_iff] at *; omega
theorem withC_refl {a : C} (ha : mayC a) : withC a a = true := by
  rw [withC_iff]; exact ⟨with_self ha.1, withE_refl _, withE_refl _⟩
theorem meetE_eq {a b : E} (h : metE a b = true) : meetE a b = ⟨max a.lo b.lo, min a.hi b.hi⟩ := by
  unfold metE at h; unfold meetE; rw [if_pos (of_decide_eq_true h)]
theorem meetE_left {a b : E} (h : metE a b = true) : withE (meetE a b) a = true := by rw [meetE_eq h, withE_iff]; dsimp only; omega
theorem meetE_right {a b : E} (h : metE a b = true) : withE (meetE a b) b = true := by rw [meetE_eq h, withE_iff]; dsimp only; omega
theorem meetU_ok {a b : E} (ha : okU a) (h : metE a b = true) : okU (meetE a b) := by
  rw [meetE_eq h]; have h2 := of_decide_eq_true h; unfold okU at *; dsimp only; omega
theorem meetS_ok {a b : E} (ha : okS a) (h : metE a b = true) : okS (meetE a b) := by
  rw [meetE_eq h]; have h2 := of_decide_eq_true h; unfold okS at *; dsimp only; omega
/-! ### What one part tells of another -/
theorem toT_low {u : E} (hu : okU u) {v : BitVec 64} (h : inE u (bi v) = true) : v &&& ~~~(toT u).m = (toT u).v := by
  have hk := dif_le hu
  have e1 := low_ones v (dif u) hk
  have e2 := toT_v hu
  have e3 := share hu h
  have e4 : (toT u).m = BitVec.ofNat 64 (2 ^ dif u - 1) := rfl
  rw [e4]
  rw [← bi_inj, e2, ← e3]
  unfold bi
  rw [e1]
  have := Nat.mod_le v.toNat (2 ^ dif u)
  rw [Int.ofNat_sub this, Int.natCast_emod, pow_cast]
theorem bi_lo {u : E} (hu : okU u) : ∃ v : BitVec 64, bi v = u.lo := by
  unfold okU at hu
  obtain ⟨v, hv⟩ := bi_of u.lo (by omega) (by omega)
  exact ⟨v, hv.symm⟩
theorem may_toT {u : E} (hu : okU u) : mayT (toT u) := by
  obtain ⟨v, hv⟩ := bi_lo hu
  have h : inE u (bi v) = true := by rw [inE_iff, hv]; unfold okU at hu; omega
  unfold mayT
  rw [← toT_low hu h, zero_iff]
  intro i hi
  simp only [BitVec.getLsbD_and, BitVec.getLsbD_not]
  cases (toT u).m.getLsbD i <;> simp
/-! ### P5.2 -/
def onceC (x : C) : Option C :=
  if metE x.u (toU x.s) && metE (meetE x.u (toU x.s)) (fromU x.t) && metE x.s (toS (meetE (meetE x.u (toU x.s)) (fromU x.t))) && metE (meetE x.s (toS (meetE (meetE x.u (toU x.s)) (fromU x.t)))) (fromS x.t) && meetOk x.t (toT (meetE (meetE x.u (toU x.s)) (fromU x.t)))
  then some ⟨meetT x.t (toT (meetE (meetE x.u (toU x.s)) (fromU x.t))), meetE (meetE x.u (toU x.s)) (fromU x.t), meetE (meetE x.s (toS (meetE (meetE x.u (toU x.s)) (fromU x.t)))) (fromS x.t)⟩ else none
def normC (x : C) : Option C := (onceC x).bind onceC
theorem once_less {x y : C} (hx : mayC x) (h : onceC x = some y) : mayC y ∧ withC y x = true := by
  unfold onceC at h
  split at h
  · rename_i g
    simp only [Bool.and_eq_true] at g
    obtain ⟨⟨⟨⟨g1, g2⟩, g3⟩, g4⟩, g5⟩ := g
    injection h with h
    subst h
    have o1 := meetU_ok hx.2.1 g1
    have o2 := meetU_ok o1 g2
    have o3 := meetS_ok hx.2.2 g3
    have o4 := meetS_ok o3 g4
    exact And.intro (mk_may (may_meet _ _) o2 o4) (mk_with (meet_left hx.1 (may_toT o2) g5) (withE_trans (meetE_left g2) (meetE_left g1)) (withE_trans (meetE_left g4) (meetE_left g3)))
  · cases h
/-! ### The lower half; parts, settled -/
end Go.Proofs.YtcimihckhobniaaGreat.Sc
namespace Go.Proofs.YtcimihckhobniaaGreat.Wd
open Go.RowKit

/-! ### 1. Bits of an integer -/
def bitV (a : Int) (k : Nat) : Int := a / 2 ^ k % 2
theorem two_pow_pos (k : Nat) : (0 : Int) < 2 ^ k := Int.pow_pos (by decide)
theorem two_pow_le (k n : Nat) (h : k ≤ n) : (2 : Int) ^ k ≤ 2 ^ n := by
  have := Nat.pow_le_pow_right (n := 2) (by decide) h
  exact_mod_cast this
theorem pow64 : (2 : Int) ^ 64 = 18446744073709551616 := by decide
/-! ### 2. Sums, and all bits turned, bit by bit -/
/-! ### 3. Products -/
/-! ### 4. Quotients -/
end Go.Proofs.YtcimihckhobniaaGreat.Wd
namespace Go.Proofs.YtcimihckhobniaaGreat.Wd
open Go.RowKit

/-! ### 5. Shifted down, a bit coming in -/
def sgnW (w : Nat) (a : Int) : Int := a - bitV a (w - 1) * 2 ^ w
/-! ### 6. Bit by bit -/
def orV (a b : Int) : Int := ((a.toNat ||| b.toNat : Nat) : Int)
def andV (a b : Int) : Int := ((a.toNat &&& b.toNat : Nat) : Int)
def xorV (a b : Int) : Int := ((a.toNat ^^^ b.toNat : Nat) : Int)
theorem natlt (a : Int) (n : Nat) (h0 : 0 ≤ a) (h : a < 2 ^ n) : a.toNat < 2 ^ n := by
  obtain ⟨A, rfl⟩ := Int.eq_ofNat_of_zero_le h0
  rw [Int.toNat_natCast]; exact_mod_cast h
theorem orV_bd (a b : Int) (n : Nat) (ha : 0 ≤ a) (hb : 0 ≤ b) (ha1 : a < 2 ^ n) (hb1 : b < 2 ^ n) : 0 ≤ orV a b ∧ orV a b < 2 ^ n := by
  refine ⟨Int.natCast_nonneg _, ?_⟩
  have := Nat.or_lt_two_pow (natlt a n ha ha1) (natlt b n hb hb1)
  unfold orV; exact_mod_cast this
theorem xorV_bd (a b : Int) (n : Nat) (ha : 0 ≤ a) (hb : 0 ≤ b) (ha1 : a < 2 ^ n) (hb1 : b < 2 ^ n) : 0 ≤ xorV a b ∧ xorV a b < 2 ^ n := by
  refine ⟨Int.natCast_nonneg _, ?_⟩
  have := Nat.xor_lt_two_pow (natlt a n ha ha1) (natlt b n hb hb1)
  unfold xorV; exact_mod_cast this
theorem andV_bd (a b : Int) (n : Nat) (hb : 0 ≤ b) (hb1 : b < 2 ^ n) : 0 ≤ andV a b ∧ andV a b < 2 ^ n := by
  refine ⟨Int.natCast_nonneg _, ?_⟩
  have := Nat.and_lt_two_pow a.toNat (natlt b n hb hb1)
  unfold andV; exact_mod_cast this
/-! ### 7. Orders -/
end Go.Proofs.YtcimihckhobniaaGreat.Wd
