/-
  Numbers from one to another: whatever numbers are of them, what is made of these is of what is told. Nothing of the program is named here.
-/
import Derived.Test.YthjjfginenpfjaaSpanMath
namespace Go.Proofs.Ythjjfginenpfjaa.Sp
open Tn
set_option linter.unusedVariables false
set_option linter.unusedSimpArgs false

theorem okU_all : okU uAll := by unfold okU uAll; simp
theorem okS_all : okS sAll := by unfold okS sAll; simp
theorem in_all {v : Int} (h0 : 0 ≤ v) (h1 : v ≤ 18446744073709551615) : inE uAll v = true := by rw [inE_iff]; exact ⟨h0, h1⟩
theorem in_sall {v : Int} (h0 : -9223372036854775808 ≤ v) (h1 : v ≤ 9223372036854775807) : inE sAll v = true := by rw [inE_iff]; exact ⟨h0, h1⟩
section
variable {a b : E} {x y : Int}
theorem uadd_sound (ha : okU a) (hb : okU b) (hx : inE a x = true) (hy : inE b y = true) : inE (uAdd a b) ((x + y) % 18446744073709551616) = true := by
  rw [inE_iff] at hx hy
  unfold okU at ha hb
  unfold uAdd
  split
  · rw [inE_iff]; dsimp only; omega
  · exact in_all (by omega) (by omega)
theorem usub_sound (ha : okU a) (hb : okU b) (hx : inE a x = true) (hy : inE b y = true) : inE (uSub a b) ((x - y) % 18446744073709551616) = true := by
  rw [inE_iff] at hx hy
  unfold okU at ha hb
  unfold uSub
  split
  · rw [inE_iff]; dsimp only; omega
  · exact in_all (by omega) (by omega)
theorem umul_sound (ha : okU a) (hb : okU b) (hx : inE a x = true) (hy : inE b y = true) : inE (uMul a b) ((x * y) % 18446744073709551616) = true := by
  rw [inE_iff] at hx hy
  unfold okU at ha hb
  unfold uMul
  split
  · rw [inE_iff]
    dsimp only
    have h1 : x * y ≤ a.hi * b.hi := Int.mul_le_mul hx.2 hy.2 (by omega) (by omega)
    have h2 : a.lo * b.lo ≤ x * y := Int.mul_le_mul hx.1 hy.1 (by omega) (by omega)
    have h3 : 0 ≤ a.lo * b.lo := Int.mul_nonneg (by omega) (by omega)
    omega
  · exact in_all (by omega) (by omega)
theorem udiv_sound (ha : okU a) (hb : okU b) (hx : inE a x = true) (hy : inE b y = true) : inE (uDiv a b) (if y = 0 then 0 else x / y) = true := by
  rw [inE_iff] at hx hy
  unfold okU at ha hb
  unfold uDiv
  split
  · rename_i h
    obtain rfl : y = b.lo := by omega
    rw [if_neg h.2, inE_iff]
    exact ⟨Int.ediv_le_ediv (by omega) hx.1, Int.ediv_le_ediv (by omega) hx.2⟩
  · rw [inE_iff]
    dsimp only
    split
    · omega
    · have h1 := Int.ediv_nonneg (show 0 ≤ x by omega) (show 0 ≤ y by omega)
      have h2 := Int.ediv_le_self y (show 0 ≤ x by omega)
      omega
theorem umod_sound (ha : okU a) (hb : okU b) (hx : inE a x = true) (hy : inE b y = true) : inE (uMod a b) (if y = 0 then x else x % y) = true := by
  rw [inE_iff] at hx hy
  unfold okU at ha hb
  unfold uMod
  split
  · rename_i h
    obtain rfl : y = b.lo := by omega
    rw [if_neg h.2]
    have h1 := Int.emod_nonneg x h.2
    have h2 := Int.emod_lt_of_pos x (show 0 < b.lo by omega)
    split
    · rw [Int.emod_eq_of_lt (by omega) (by omega), inE_iff]; exact hx
    · split
      · obtain rfl : x = a.lo := by omega
        rw [inE_iff]; exact ⟨Int.le_refl _, Int.le_refl _⟩
      · rw [inE_iff]; dsimp only; omega
  · rw [inE_iff]
    dsimp only
    split
    · omega
    · rename_i h2
      have h1 := Int.emod_nonneg x h2
      have h3 : x % y ≤ x := by
        rcases Int.lt_or_le x y with h | h
        · rw [Int.emod_eq_of_lt (by omega) h]; exact Int.le_refl _
        · have := Int.emod_lt_of_pos x (show 0 < y by omega); omega
      omega
theorem uand_sound (ha : okU a) (hb : okU b) (hx : inE a x = true) (hy : inE b y = true) : inE (uAnd a b) (andI x y) = true := by
  rw [inE_iff] at hx hy
  unfold okU at ha hb
  unfold uAnd
  have h0 := andI_bd x y
  have h1 := andI_left x y (by omega)
  have h2 := andI_right x y (by omega)
  split
  · obtain rfl : x = a.lo := by omega
    obtain rfl : y = b.lo := by omega
    rw [inE_iff]; exact ⟨Int.le_refl _, Int.le_refl _⟩
  · rw [inE_iff]; dsimp only; omega
theorem uor_sound (ha : okU a) (hb : okU b) (hx : inE a x = true) (hy : inE b y = true) : inE (uOr a b) (orI x y) = true := by
  rw [inE_iff] at hx hy
  unfold okU at ha hb
  unfold uOr
  have h1 := orI_left x y (by omega)
  have h2 := orI_right x y (by omega)
  have h3 := orI_fl x y a.hi b.hi hx.2 hy.2 (by omega) (by omega)
  split
  · obtain rfl : x = a.lo := by omega
    obtain rfl : y = b.lo := by omega
    rw [inE_iff]; exact ⟨Int.le_refl _, Int.le_refl _⟩
  · rw [inE_iff]; dsimp only; omega
theorem ulsh_sound (ha : okU a) (hx : inE a x = true) (k : Nat) : inE (uLsh a k) ((x * 2 ^ k) % 18446744073709551616) = true := by
  rw [inE_iff] at hx
  unfold okU at ha
  unfold uLsh
  have hp := pow_pos' k
  split
  · rw [inE_iff]
    dsimp only
    have h1 : x * 2 ^ k ≤ a.hi * 2 ^ k := Int.mul_le_mul_of_nonneg_right hx.2 (by omega)
    have h2 : a.lo * 2 ^ k ≤ x * 2 ^ k := Int.mul_le_mul_of_nonneg_right hx.1 (by omega)
    have h3 : 0 ≤ a.lo * 2 ^ k := Int.mul_nonneg (by omega) (by omega)
    omega
  · exact in_all (by omega) (by omega)
theorem rsh_sound' (hx : inE a x = true) (k : Nat) : inE (rsh a k) (x / 2 ^ k) = true := by
  rw [inE_iff] at hx ⊢
  have hp := pow_pos' k
  exact ⟨Int.ediv_le_ediv hp hx.1, Int.ediv_le_ediv hp hx.2⟩
theorem ucut_sound (ha : okU a) (hx : inE a x = true) : inE (uCut a) (x % 4294967296) = true := by
  rw [inE_iff] at hx
  unfold okU at ha
  unfold uCut
  split
  · rw [inE_iff]; dsimp only; omega
  · rw [inE_iff]; dsimp only; omega
theorem sg_bd (v : Int) (h0 : 0 ≤ v) (h1 : v ≤ 18446744073709551615) : -9223372036854775808 ≤ sg v ∧ sg v ≤ 9223372036854775807 := by unfold sg; split <;> omega
theorem us_bd (v : Int) (h0 : -9223372036854775808 ≤ v) (h1 : v ≤ 9223372036854775807) : 0 ≤ us v ∧ us v ≤ 18446744073709551615 := by unfold us; split <;> omega
theorem sg_us (v : Int) (h0 : -9223372036854775808 ≤ v) (h1 : v ≤ 9223372036854775807) : sg (us v) = v := by unfold us sg; split <;> split <;> omega
theorem us_sg (v : Int) (h0 : 0 ≤ v) (h1 : v ≤ 18446744073709551615) : us (sg v) = v := by unfold us sg; split <;> split <;> omega
theorem toS_sound (ha : okU a) (hx : inE a x = true) : inE (toS a) (sg x) = true := by
  rw [inE_iff] at hx
  unfold okU at ha
  unfold toS
  split
  · rw [inE_iff]; dsimp only; unfold sg; split <;> split <;> split <;> omega
  · have := sg_bd x (by omega) (by omega); exact in_sall this.1 this.2
theorem toU_sound (ha : okS a) (hx : inE a x = true) : inE (toU a) (us x) = true := by
  rw [inE_iff] at hx
  unfold okS at ha
  unfold toU
  split
  · have := us_bd x (by omega) (by omega); exact in_all this.1 this.2
  · rw [inE_iff]; dsimp only; unfold us; split <;> split <;> split <;> omega
theorem sadd_sound (ha : okS a) (hb : okS b) (hx : inE a x = true) (hy : inE b y = true) : inE (sAdd a b) (sg ((us x + us y) % 18446744073709551616)) = true := by
  rw [inE_iff] at hx hy
  unfold okS at ha hb
  unfold sAdd
  have h1 := us_bd x (by omega) (by omega)
  have h2 := us_bd y (by omega) (by omega)
  split
  · rw [inE_iff]; dsimp only
    have e : sg ((us x + us y) % 18446744073709551616) = x + y := by unfold sg us; split <;> split <;> split <;> omega
    rw [e]; omega
  · have := sg_bd ((us x + us y) % 18446744073709551616) (by omega) (by omega); exact in_sall this.1 this.2
theorem ssub_sound (ha : okS a) (hb : okS b) (hx : inE a x = true) (hy : inE b y = true) : inE (sSub a b) (sg ((us x - us y) % 18446744073709551616)) = true := by
  rw [inE_iff] at hx hy
  unfold okS at ha hb
  unfold sSub
  have h1 := us_bd x (by omega) (by omega)
  have h2 := us_bd y (by omega) (by omega)
  split
  · rw [inE_iff]; dsimp only
    have e : sg ((us x - us y) % 18446744073709551616) = x - y := by unfold sg us; split <;> split <;> split <;> omega
    rw [e]; omega
  · have := sg_bd ((us x - us y) % 18446744073709551616) (by omega) (by omega); exact in_sall this.1 this.2
theorem div_pow_bd (v : Int) (k : Nat) (h0 : -9223372036854775808 ≤ v) (h1 : v ≤ 9223372036854775807) : -9223372036854775808 ≤ v / 2 ^ k ∧ v / 2 ^ k ≤ 9223372036854775807 := by
  have hp := pow_pos' k
  have c := Int.mul_ediv_add_emod v (2 ^ k)
  have m0 := Int.emod_nonneg v (show (2 : Int) ^ k ≠ 0 by omega)
  have m1 := Int.emod_lt_of_pos v hp
  constructor
  · rcases Int.lt_or_le v 0 with h | h
    · have : -9223372036854775808 * 2 ^ k ≤ v := by
        have : (-9223372036854775808 : Int) * 2 ^ k ≤ -9223372036854775808 * 1 := Int.mul_le_mul_of_nonpos_left (by omega) (by omega)
        omega
      exact (Int.le_ediv_iff_mul_le hp).2 this
    · have := Int.ediv_nonneg h (show (0 : Int) ≤ 2 ^ k by omega); omega
  · rcases Int.lt_or_le v 0 with h | h
    · have := Int.ediv_neg_of_neg_of_pos h hp; omega
    · have := Int.ediv_le_self (2 ^ k) h; omega
theorem div_pow_u (v : Int) (k : Nat) (h0 : 0 ≤ v) (h1 : v ≤ 18446744073709551615) : 0 ≤ v / 2 ^ k ∧ v / 2 ^ k ≤ 18446744073709551615 := by
  have hp := pow_pos' k
  have h2 := Int.ediv_nonneg h0 (show (0 : Int) ≤ 2 ^ k by omega)
  have h3 := Int.ediv_le_self (2 ^ k) h0
  omega
end
/-! ### Numbers alone -/
theorem alone_add (x y : Int) (h : x + y ≤ 18446744073709551615) : uAdd (ofE x) (ofE y) = ofE (x + y) := by unfold uAdd ofE; rw [if_pos h]
theorem alone_sub (x y : Int) (h : y ≤ x) : uSub (ofE x) (ofE y) = ofE (x - y) := by unfold uSub ofE; rw [if_pos h]
theorem alone_and (x y : Int) : uAnd (ofE x) (ofE y) = ofE (andI x y) := by unfold uAnd ofE; rw [if_pos ⟨rfl, rfl⟩]
theorem alone_or (x y : Int) : uOr (ofE x) (ofE y) = ofE (orI x y) := by unfold uOr ofE; rw [if_pos ⟨rfl, rfl⟩]
theorem alone_rsh (x : Int) (k : Nat) : rsh (ofE x) k = ofE (x / 2 ^ k) := rfl
theorem alone_cut (x : Int) : uCut (ofE x) = ofE (x % 4294967296) := by unfold uCut ofE; rw [if_pos rfl]
theorem alone_toS (x : Int) : toS (ofE x) = ofE (sg x) := by unfold toS ofE; rw [if_pos Iff.rfl]
theorem alone_toU (x : Int) : toU (ofE x) = ofE (us x) := by unfold toU ofE; rw [if_neg (by dsimp only; omega)]
theorem alone_toT (x : BitVec 64) : toT (ofE (bi x)) = ofT x := by
  have e : dif (ofE (bi x)) = 0 := by unfold dif ofE; rw [Nat.xor_self]; rfl
  unfold toT
  rw [e]
  refine T.eq ?_ ?_
  · show BitVec.ofNat 64 ((bi x).toNat - (bi x).toNat % 2 ^ 0) = x
    rw [bi_toN, Nat.pow_zero, Nat.mod_one, Nat.sub_zero]
    exact BitVec.eq_of_toNat_eq (by rw [BitVec.toNat_ofNat]; exact Nat.mod_eq_of_lt x.isLt)
  · rfl
theorem alone_div (x y : Int) (h : y ≠ 0) : uDiv (ofE x) (ofE y) = ofE (x / y) := by unfold uDiv ofE; rw [if_pos ⟨rfl, h⟩]
theorem alone_mod (x y : Int) (h0 : 0 ≤ x) (h : y ≠ 0) : uMod (ofE x) (ofE y) = ofE (x % y) := by
  unfold uMod ofE
  rw [if_pos ⟨rfl, h⟩]
  dsimp only
  split
  · rw [Int.emod_eq_of_lt h0 (by omega)]
  · rw [if_pos rfl]
theorem okU_of (x : Int) (h0 : 0 ≤ x) (h1 : x ≤ 18446744073709551615) : okU (ofE x) := ⟨h0, Int.le_refl _, h1⟩
theorem okS_of (x : Int) (h0 : -9223372036854775808 ≤ x) (h1 : x ≤ 9223372036854775807) : okS (ofE x) := ⟨h0, Int.le_refl _, h1⟩
end Go.Proofs.Ythjjfginenpfjaa.Sp
