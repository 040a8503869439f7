/-
  Texts of layer 5 and of those below it, put together: contracts and plain mathematics that ScalarSwap needs.
-/
import Derived.Test.YtcimihckhobniaaGreatXM0
import Derived.Deep.RegionHeld3
namespace Go.Proofs.YtcimihckhobniaaGreat.Wd
open Go.RowKit

def quoV (a b : Int) : Int := if b = 0 then 0 else a / b
def remV (a b : Int) : Int := if b = 0 then a else a % b
/-- P1.1, of numbers of w bits. -/
def aluG (w : Nat) (op a b : Int) : Int :=
  if op = 0 then (a + b) % 2 ^ w else if op = 1 then (a - b) % 2 ^ w else if op = 2 then a * b % 2 ^ w
  else if op = 3 then quoV a b else if op = 9 then remV a b
  else if op = 4 then orV a b else if op = 5 then andV a b else if op = 10 then xorV a b
  else if op = 6 then a * 2 ^ (b % w).toNat % 2 ^ w else if op = 7 then a / 2 ^ (b % w).toNat
  else if op = 12 then sgnW w a / 2 ^ (b % w).toNat % 2 ^ w
  else if op = 8 then (-a) % 2 ^ w else if op = 11 then b else 0
def aluV (op : Int) (wide : Bool) (a b : Int) : Int := if wide then aluG 64 op a b else aluG 32 op (a % 4294967296) (b % 4294967296)
def aluOk (op : Int) : Bool := decide (0 ≤ op ∧ op ≤ 12)
/-- What the program makes of numbers, their sign and their shift. -/
def calcV (op a b s k : Int) : Int :=
  if op = 0 then IntKind.u64.wrap (a + b) else if op = 1 then IntKind.u64.wrap (a - b) else if op = 2 then IntKind.u64.wrap (a * b)
  else if op = 3 then quoV a b else if op = 9 then remV a b
  else if op = 4 then bits .or .u64 a b else if op = 5 then bits .and .u64 a b else if op = 10 then bits .xor .u64 a b
  else if op = 6 then IntKind.u64.wrap (a * 2 ^ k.toNat) else if op = 7 then a / 2 ^ k.toNat
  else if op = 12 then IntKind.u64.wrap (s / 2 ^ k.toNat)
  else if op = 8 then IntKind.u64.wrap (-a) else if op = 11 then b else 0

theorem p32 : (2 : Int) ^ 32 = 4294967296 := by decide
theorem sgn64 (a : Int) (h0 : 0 ≤ a) (h1 : a ≤ 18446744073709551615) : wrap64 a = sgnW 64 a := by
  unfold sgnW bitV wrap64
  have : (2 : Int) ^ (64 - 1) = 9223372036854775808 := by decide
  rw [this, pow64]; omega
theorem sgn32 (a : Int) : wrap64 (wrap32 a) = sgnW 32 (a % 4294967296) := by
  unfold sgnW bitV wrap64 wrap32
  have : (2 : Int) ^ (32 - 1) = 2147483648 := by decide
  rw [this, p32]; omega
theorem mod_mod32 (x : Int) : x % 18446744073709551616 % 4294967296 = x % 4294967296 := by omega
theorem quoV_bd (a b : Int) (h0 : 0 ≤ a) (h3 : 0 ≤ b) : 0 ≤ quoV a b ∧ quoV a b ≤ a := by
  unfold quoV; split
  · omega
  · exact IntWalk.tdiv_le a b h0 (by omega)
theorem remV_bd (a b : Int) (h0 : 0 ≤ a) (h3 : 0 ≤ b) : 0 ≤ remV a b ∧ remV a b ≤ a := by
  unfold remV; split
  · omega
  · refine ⟨Int.emod_nonneg _ (by omega), ?_⟩
    have h1 := Int.mul_ediv_add_emod a b
    have h2 : 0 ≤ b * (a / b) := Int.mul_nonneg (by omega) (Int.ediv_nonneg h0 (by omega))
    omega
theorem div_pow_bd (a : Int) (k : Nat) (h0 : 0 ≤ a) : 0 ≤ a / 2 ^ k ∧ a / 2 ^ k ≤ a :=
  ⟨Int.ediv_nonneg h0 (Int.le_of_lt (two_pow_pos k)), Int.ediv_le_self _ h0⟩

theorem code64 (op a b : Int) (h1 : 0 ≤ a) (h2 : a ≤ 18446744073709551615) (h3 : 0 ≤ b) (h4 : b ≤ 18446744073709551615) :
    calcV op a b (wrap64 a) (b % 64) = aluG 64 op a b := by
  unfold calcV aluG
  simp only [IntKind.wrap_u64, pow64, sgn64 a h1 h2]
  rw [u64_or a b h1 (by omega) h3 (by omega), u64_and a b h1 (by omega) h3 (by omega), u64_xor a b h1 (by omega) h3 (by omega)]
  rfl
theorem code32 (op a b : Int) :
    calcV op (a % 4294967296) (b % 4294967296) (wrap64 (wrap32 a)) (b % 32) % 4294967296 = aluG 32 op (a % 4294967296) (b % 4294967296) := by
  rw [sgn32]
  have ek : b % 32 = b % 4294967296 % 32 := by omega
  rw [ek]
  have ha : 0 ≤ a % 4294967296 ∧ a % 4294967296 < 4294967296 := by omega
  have hb : 0 ≤ b % 4294967296 ∧ b % 4294967296 < 4294967296 := by omega
  generalize a % 4294967296 = A at *
  generalize b % 4294967296 = B at *
  unfold calcV aluG
  simp only [IntKind.wrap_u64, p32]
  rw [u64_or A B ha.1 (by omega) hb.1 (by omega), u64_and A B ha.1 (by omega) hb.1 (by omega), u64_xor A B ha.1 (by omega) hb.1 (by omega)]
  have small : ∀ x : Int, 0 ≤ x ∧ x < 4294967296 → x % 4294967296 = x := fun x h => by omega
  have hq := quoV_bd A B ha.1 hb.1
  have hr := remV_bd A B ha.1 hb.1
  have ho := orV_bd A B 32 ha.1 hb.1 (by rw [p32]; exact ha.2) (by rw [p32]; exact hb.2)
  have hx := xorV_bd A B 32 ha.1 hb.1 (by rw [p32]; exact ha.2) (by rw [p32]; exact hb.2)
  have hn := andV_bd A B 32 hb.1 (by rw [p32]; exact hb.2)
  have hd := div_pow_bd A (B % 32).toNat ha.1
  rw [p32] at ho hx hn
  have itm : ∀ (c : Prop) [Decidable c] (x y m : Int), (if c then x else y) % m = if c then x % m else y % m := fun c _ x y m => by split <;> rfl
  have eo : ((A.toNat ||| B.toNat : Nat) : Int) = orV A B := rfl
  have en : ((A.toNat &&& B.toNat : Nat) : Int) = andV A B := rfl
  have ex : ((A.toNat ^^^ B.toNat : Nat) : Int) = xorV A B := rfl
  rw [eo, en, ex]
  simp only [itm, mod_mod32]
  rw [small (quoV A B) (by omega), small (remV A B) (by omega), small (orV A B) ho, small (andV A B) hn, small (xorV A B) hx, small (A / 2 ^ (B % 32).toNat) (by omega), small B hb]
  rfl

theorem calcV_bd (op a b s k : Int) (h1 : 0 ≤ a) (h2 : a ≤ 18446744073709551615) (h3 : 0 ≤ b) (h4 : b ≤ 18446744073709551615) :
    0 ≤ calcV op a b s k ∧ calcV op a b s k ≤ 18446744073709551615 := by
  have hq := quoV_bd a b h1 h3
  have hr := remV_bd a b h1 h3
  have ho := orV_bd a b 64 h1 h3 (by rw [pow64]; omega) (by rw [pow64]; omega)
  have hx := xorV_bd a b 64 h1 h3 (by rw [pow64]; omega) (by rw [pow64]; omega)
  have hn := andV_bd a b 64 h3 (by rw [pow64]; omega)
  have hd := div_pow_bd a k.toNat h1
  rw [pow64] at ho hx hn
  have eo : bits .or .u64 a b = orV a b := u64_or a b h1 (by omega) h3 (by omega)
  have en : bits .and .u64 a b = andV a b := u64_and a b h1 (by omega) h3 (by omega)
  have ex : bits .xor .u64 a b = xorV a b := u64_xor a b h1 (by omega) h3 (by omega)
  have hw : ∀ x : Int, 0 ≤ IntKind.u64.wrap x ∧ IntKind.u64.wrap x ≤ 18446744073709551615 := fun x => by rw [IntKind.wrap_u64]; omega
  have itp : ∀ (c : Prop) [Decidable c] (x y : Int), (0 ≤ x ∧ x ≤ 18446744073709551615) → (0 ≤ y ∧ y ≤ 18446744073709551615) → (0 ≤ (if c then x else y) ∧ (if c then x else y) ≤ 18446744073709551615) := fun c _ x y hx hy => by split <;> assumption
  unfold calcV
  rw [eo, en, ex]
  refine itp _ _ _ (hw _) (itp _ _ _ (hw _) (itp _ _ _ (hw _) (itp _ _ _ (by omega) (itp _ _ _ (by omega) (itp _ _ _ (by omega) (itp _ _ _ (by omega) (itp _ _ _ (by omega) (itp _ _ _ (hw _) (itp _ _ _ (by omega) (itp _ _ _ (hw _) (itp _ _ _ (hw _) (itp _ _ _ ⟨h3, h4⟩ (by omega)))))))))))))

/-! ### What is made bit by bit -/
/-! ### Comparisons -/
def cmpV (op a b s t : Int) : Bool :=
  if op = 1 then a == b else if op = 5 then a != b else if op = 2 then decide (b < a) else if op = 3 then decide (b ≤ a)
  else if op = 10 then decide (a < b) else if op = 11 then decide (a ≤ b) else if op = 6 then decide (t < s) else if op = 7 then decide (t ≤ s)
  else if op = 12 then decide (s < t) else if op = 13 then decide (s ≤ t) else if op = 4 then andV a b != 0 else false
def jumpV (op : Int) (wide : Bool) (a b : Int) : Bool :=
  if wide then cmpV op a b (sgnW 64 a) (sgnW 64 b) else cmpV op (a % 4294967296) (b % 4294967296) (sgnW 32 (a % 4294967296)) (sgnW 32 (b % 4294967296))
def jumpOk (op : Int) : Bool := decide ((1 ≤ op ∧ op ≤ 7) ∨ (10 ≤ op ∧ op ≤ 13))
end Go.Proofs.YtcimihckhobniaaGreat.Wd
namespace Go.Proofs.YtcimihckhobniaaGreat.Sc
open Tn Sp Wd Go.RowKit
set_option linter.unusedVariables false
set_option linter.unusedSimpArgs false

theorem one_bd {x : C} (hx : mayC x) : 0 ≤ oneC x ∧ oneC x ≤ 18446744073709551615 := by
  have h2 := hx.2.1
  have h3 := hx.2.2
  unfold okU at h2; unfold okS at h3
  unfold oneC
  split
  · omega
  · split
    · exact bi_bd _
    · split
      · exact us_bd _ (by omega) (by omega)
      · omega
def numC (n : Int) : C := ofC (BitVec.ofInt 64 n)
/-! ### The parts of an operation -/
section
variable {a b : C} {v w : BitVec 64}
theorem remV_bd (a b : Int) (h0 : 0 ≤ a) (h3 : 0 ≤ b) : 0 ≤ remV a b ∧ remV a b ≤ a := by
  unfold remV; split
  · omega
  · have := Int.emod_nonneg a (show b ≠ 0 by omega)
    refine ⟨this, ?_⟩
    rcases Int.lt_or_le a b with h | h
    · rw [Int.emod_eq_of_lt h0 h]; exact Int.le_refl _
    · have := Int.emod_lt_of_pos a (show 0 < b by omega); omega
end
end Go.Proofs.YtcimihckhobniaaGreat.Sc
namespace Go.Proofs.YtcimihckhobniaaGreat.Wd
open Go.RowKit

end Go.Proofs.YtcimihckhobniaaGreat.Wd
namespace Go.Proofs.YtcimihckhobniaaGreat.Wd
open Go.RowKit
set_option linter.unusedVariables false

/-! ### What is the operation at a width -/
theorem w0 (a b : Int) : aluV 0 true a b = (a + b) % 18446744073709551616 := rfl
theorem n0 (a b : Int) : aluV 0 false a b = (a % 4294967296 + b % 4294967296) % 4294967296 := rfl
theorem w1 (a b : Int) : aluV 1 true a b = (a - b) % 18446744073709551616 := rfl
theorem n1 (a b : Int) : aluV 1 false a b = (a % 4294967296 - b % 4294967296) % 4294967296 := rfl
theorem w2 (a b : Int) : aluV 2 true a b = a * b % 18446744073709551616 := rfl
theorem n2 (a b : Int) : aluV 2 false a b = (a % 4294967296) * (b % 4294967296) % 4294967296 := rfl
theorem w3 (a b : Int) : aluV 3 true a b = quoV a b := rfl
theorem n3 (a b : Int) : aluV 3 false a b = quoV (a % 4294967296) (b % 4294967296) := rfl
theorem n9 (a b : Int) : aluV 9 false a b = remV (a % 4294967296) (b % 4294967296) := rfl
theorem n4 (a b : Int) : aluV 4 false a b = orV (a % 4294967296) (b % 4294967296) := rfl
theorem n5 (a b : Int) : aluV 5 false a b = andV (a % 4294967296) (b % 4294967296) := rfl
theorem n10 (a b : Int) : aluV 10 false a b = xorV (a % 4294967296) (b % 4294967296) := rfl
theorem n8 (a b : Int) : aluV 8 false a b = (-(a % 4294967296)) % 4294967296 := rfl
theorem n11 (a b : Int) : aluV 11 false a b = b % 4294967296 := rfl

/-! ### P1.4 -/
/-! ### Narrow operations -/
/-! ### Shifts, one by one -/
theorem n6 (a b : Int) : aluV 6 false a b = (a % 4294967296) * 2 ^ (b % 4294967296 % 32).toNat % 4294967296 := rfl
theorem n7 (a b : Int) : aluV 7 false a b = (a % 4294967296) / 2 ^ (b % 4294967296 % 32).toNat := rfl
theorem n12 (a b : Int) : aluV 12 false a b = sgnW 32 (a % 4294967296) / 2 ^ (b % 4294967296 % 32).toNat % 4294967296 := rfl
/-! ### Orders -/
end Go.Proofs.YtcimihckhobniaaGreat.Wd
namespace Go.Proofs.YtcimihckhobniaaGreat.Sc
open Tn Sp Wd Go.RowKit
set_option linter.unusedVariables false
set_option linter.unusedSimpArgs false

section
variable {a b : C} {v w : BitVec 64}
/-! ### What may be -/
/-! ### P5.3 is sound -/
end
end Go.Proofs.YtcimihckhobniaaGreat.Sc
namespace Go.Proofs.YtcimihckhobniaaGreat.Wd
open Go.RowKit

/-- The lowest k of m bytes of v, laid from the highest of m places down. -/
def revO (m v : Nat) : Nat → Nat
  | 0 => 0
  | k + 1 => revO m v k ||| v / 2 ^ (8 * k) % 2 ^ 8 * 2 ^ (8 * (m - 1 - k))
theorem testBit_mul_pow (a i j : Nat) : (a * 2 ^ i).testBit j = (decide (i ≤ j) && a.testBit (j - i)) := by
  rw [Nat.mul_comm, Nat.testBit_two_pow_mul]
theorem revO_bit (m v k j : Nat) (hk : k ≤ m) : (revO m v k).testBit j = (decide (8 * (m - k) ≤ j ∧ j < 8 * m) && v.testBit (8 * (m - 1 - j / 8) + j % 8)) := by
  induction k with
  | zero =>
    have h : ¬ (8 * (m - 0) ≤ j ∧ j < 8 * m) := by omega
    rw [decide_eq_false h, Bool.false_and]; exact Nat.zero_testBit j
  | succ k ih =>
    simp only [revO]
    rw [Nat.testBit_or, ih (by omega), testBit_mul_pow, Nat.testBit_mod_two_pow, Nat.testBit_div_two_pow]
    by_cases h1 : 8 * (m - k) ≤ j ∧ j < 8 * m
    · have h2 : 8 * (m - (k + 1)) ≤ j ∧ j < 8 * m := by omega
      have h3 : ¬ (j - 8 * (m - 1 - k) < 8) := by omega
      rw [decide_eq_true h1, decide_eq_true h2, decide_eq_false h3, Bool.false_and, Bool.and_false, Bool.or_false]
    · by_cases h2 : 8 * (m - (k + 1)) ≤ j ∧ j < 8 * m
      · have h3 : j - 8 * (m - 1 - k) < 8 := by omega
        have h4 : 8 * (m - 1 - k) ≤ j := by omega
        have h5 : j - 8 * (m - 1 - k) + 8 * k = 8 * (m - 1 - j / 8) + j % 8 := by omega
        rw [decide_eq_false h1, decide_eq_true h2, decide_eq_true h3, decide_eq_true h4, h5, Bool.false_and, Bool.false_or, Bool.true_and, Bool.true_and]
      · rw [decide_eq_false h1, decide_eq_false h2, Bool.false_and, Bool.false_or]
        by_cases h4 : 8 * (m - 1 - k) ≤ j
        · have h5 : ¬ (j - 8 * (m - 1 - k) < 8) := by omega
          rw [decide_eq_true h4, decide_eq_false h5, Bool.false_and, Bool.true_and]
        · rw [decide_eq_false h4, Bool.false_and]
theorem revO_lt (m v k : Nat) (hk : k ≤ m) : revO m v k < 2 ^ (8 * m) := by
  apply Nat.lt_pow_two_of_testBit
  intro i hi
  rw [revO_bit m v k i hk]
  have : ¬ (8 * (m - k) ≤ i ∧ i < 8 * m) := by omega
  simp [this]
def revN (m v : Nat) : Nat := revO m v m
theorem revN_bit (m v j : Nat) : (revN m v).testBit j = (decide (j < 8 * m) && v.testBit (8 * (m - 1 - j / 8) + j % 8)) := by
  unfold revN; rw [revO_bit m v m j (Nat.le_refl _)]
  congr 1; simp
theorem revN_lt (m v : Nat) : revN m v < 2 ^ (8 * m) := revO_lt m v m (Nat.le_refl _)
/-! ### As the library turns them: neighbours, then pairs, then fours -/
def swp (s M W x : Nat) : Nat := (x / 2 ^ s &&& M) ||| ((x &&& M) * 2 ^ s % 2 ^ W)
theorem swp_bit (s M W x j : Nat) : (swp s M W x).testBit j = ((x.testBit (j + s) && M.testBit j) || (decide (j < W) && (decide (s ≤ j) && (x.testBit (j - s) && M.testBit (j - s))))) := by
  unfold swp
  rw [Nat.testBit_or, Nat.testBit_and, Nat.testBit_div_two_pow, Nat.testBit_mod_two_pow, testBit_mul_pow, Nat.testBit_and]
theorem swp8 (M W x j : Nat) (hM : ∀ i, i < W → M.testBit i = decide (i / 8 % 2 = 0)) (hj : j < W) : (swp 8 M W x).testBit j = x.testBit (if j / 8 % 2 = 0 then j + 8 else j - 8) := by
  rw [swp_bit, hM j hj]
  by_cases h : j / 8 % 2 = 0
  · by_cases h8 : 8 ≤ j
    · have g : ¬ ((j - 8) / 8 % 2 = 0) := by omega
      rw [hM (j - 8) (by omega)]; simp [h, g]
    · simp [h, h8]
  · have h8 : 8 ≤ j := by omega
    have g : (j - 8) / 8 % 2 = 0 := by omega
    rw [hM (j - 8) (by omega)]; simp [h, g, h8, hj]
theorem swp16 (M W x j : Nat) (hM : ∀ i, i < W → M.testBit i = decide (i / 16 % 2 = 0)) (hj : j < W) : (swp 16 M W x).testBit j = x.testBit (if j / 16 % 2 = 0 then j + 16 else j - 16) := by
  rw [swp_bit, hM j hj]
  by_cases h : j / 16 % 2 = 0
  · by_cases h8 : 16 ≤ j
    · have g : ¬ ((j - 16) / 16 % 2 = 0) := by omega
      rw [hM (j - 16) (by omega)]; simp [h, g]
    · simp [h, h8]
  · have h8 : 16 ≤ j := by omega
    have g : (j - 16) / 16 % 2 = 0 := by omega
    rw [hM (j - 16) (by omega)]; simp [h, g, h8, hj]
def hlf (s W x : Nat) : Nat := x / 2 ^ s ||| x * 2 ^ s % 2 ^ W
theorem hlf_bit (s W x j : Nat) (hW : W = 2 * s) (hx : x < 2 ^ W) (hj : j < W) : (hlf s W x).testBit j = x.testBit (if j < s then j + s else j - s) := by
  unfold hlf
  rw [Nat.testBit_or, Nat.testBit_div_two_pow, Nat.testBit_mod_two_pow, testBit_mul_pow]
  by_cases h : j < s
  · have h1 : ¬ s ≤ j := by omega
    simp [h, h1]
  · have h1 : s ≤ j := by omega
    have h2 : x.testBit (j + s) = false := Nat.testBit_lt_two_pow (Nat.lt_of_lt_of_le hx (Nat.pow_le_pow_right (by decide) (by omega)))
    simp [h, h1, h2, hj]
theorem m3bits : ∀ i, i < 64 → (71777214294589695 : Nat).testBit i = decide (i / 8 % 2 = 0) := by
  have h : ∀ i : Fin 64, (71777214294589695 : Nat).testBit i = decide (i.val / 8 % 2 = 0) := by decide
  exact fun i hi => h ⟨i, hi⟩
theorem m4bits : ∀ i, i < 64 → (281470681808895 : Nat).testBit i = decide (i / 16 % 2 = 0) := by
  have h : ∀ i : Fin 64, (281470681808895 : Nat).testBit i = decide (i.val / 16 % 2 = 0) := by decide
  exact fun i hi => h ⟨i, hi⟩
theorem m2bits : ∀ i, i < 32 → (16711935 : Nat).testBit i = decide (i / 8 % 2 = 0) := by
  have h : ∀ i : Fin 32, (16711935 : Nat).testBit i = decide (i.val / 8 % 2 = 0) := by decide
  exact fun i hi => h ⟨i, hi⟩
theorem swp_lt (s M W x : Nat) (hM : M < 2 ^ W) : swp s M W x < 2 ^ W :=
  Nat.or_lt_two_pow (Nat.and_lt_two_pow _ hM) (Nat.mod_lt _ (Nat.two_pow_pos W))
theorem hlf_lt (s W x : Nat) (hx : x < 2 ^ W) : hlf s W x < 2 ^ W :=
  Nat.or_lt_two_pow (Nat.lt_of_le_of_lt (Nat.div_le_self _ _) hx) (Nat.mod_lt _ (Nat.two_pow_pos W))
theorem eq_of_low (x y W : Nat) (hx : x < 2 ^ W) (hy : y < 2 ^ W) (h : ∀ j, j < W → x.testBit j = y.testBit j) : x = y := by
  apply Nat.eq_of_testBit_eq
  intro j
  by_cases hj : j < W
  · exact h j hj
  · have e : ∀ z, z < 2 ^ W → z.testBit j = false := fun z hz => Nat.testBit_lt_two_pow (Nat.lt_of_lt_of_le hz (Nat.pow_le_pow_right (by decide) (by omega)))
    rw [e x hx, e y hy]
theorem lib16 (x : Nat) (hx : x < 2 ^ 16) : hlf 8 16 x = revN 2 x := by
  refine eq_of_low _ _ 16 (hlf_lt 8 16 x hx) (revN_lt 2 x) fun j hj => ?_
  rw [hlf_bit 8 16 x j rfl hx hj, revN_bit]
  have h : j < 8 * 2 := hj
  simp only [h, decide_true, Bool.true_and]
  congr 1; split <;> omega
theorem lib32 (x : Nat) : hlf 16 32 (swp 8 16711935 32 x) = revN 4 x := by
  have h1 := swp_lt 8 16711935 32 x (by decide)
  refine eq_of_low _ _ 32 (hlf_lt 16 32 _ h1) (revN_lt 4 x) fun j hj => ?_
  rw [hlf_bit 16 32 _ j rfl h1 hj, swp8 _ 32 _ _ m2bits (by split <;> omega), revN_bit]
  have h : j < 8 * 4 := hj
  simp only [h, decide_true, Bool.true_and]
  congr 1; split <;> split <;> omega
theorem lib64 (x : Nat) : hlf 32 64 (swp 16 281470681808895 64 (swp 8 71777214294589695 64 x)) = revN 8 x := by
  have h1 := swp_lt 8 71777214294589695 64 x (by decide)
  have h2 := swp_lt 16 281470681808895 64 (swp 8 71777214294589695 64 x) (by decide)
  refine eq_of_low _ _ 64 (hlf_lt 32 64 _ h2) (revN_lt 8 x) fun j hj => ?_
  have a1 : (if j < 32 then j + 32 else j - 32) < 64 := by split <;> omega
  rw [hlf_bit 32 64 _ j rfl h2 hj, swp16 _ 64 _ _ m4bits a1]
  generalize hp : (if j < 32 then j + 32 else j - 32) = p at *
  have a2 : (if p / 16 % 2 = 0 then p + 16 else p - 16) < 64 := by split <;> omega
  rw [swp8 _ 64 _ _ m3bits a2, revN_bit]
  have h : j < 8 * 8 := hj
  simp only [h, decide_true, Bool.true_and]
  congr 1
  generalize hq : (if p / 16 % 2 = 0 then p + 16 else p - 16) = q at *
  have hp' : p = j + 32 ∧ j < 32 ∨ p = j - 32 ∧ 32 ≤ j := by split at hp <;> omega
  have hq' : q = p + 16 ∧ p / 16 % 2 = 0 ∨ q = p - 16 ∧ p / 16 % 2 = 1 := by split at hq <;> omega
  split <;> omega

/-! ### P1.2 -/
def swapV (n : Int) (high : Bool) (v : Int) : Int :=
  if n = 16 then (if high then ((revN 2 v.toNat : Nat) : Int) else v % 65536)
  else if n = 32 then (if high then ((revN 4 v.toNat : Nat) : Int) else v % 4294967296)
  else if n = 64 then (if high then ((revN 8 v.toNat : Nat) : Int) else v)
  else 0
def swapOk (n : Int) : Bool := decide (n = 16 ∨ n = 32 ∨ n = 64)
theorem revN_low (m v : Nat) : revN m (v % 2 ^ (8 * m)) = revN m v := by
  apply Nat.eq_of_testBit_eq
  intro j
  rw [revN_bit, revN_bit, Nat.testBit_mod_two_pow]
  by_cases h : j < 8 * m
  · have h1 : 8 * (m - 1 - j / 8) + j % 8 < 8 * m := by omega
    rw [decide_eq_true h1, Bool.true_and]
  · rw [decide_eq_false h, Bool.false_and, Bool.false_and]

/-! ### As the walk writes it -/
theorem rb16 (a : Int) (h1 : 0 ≤ a) (h2 : a ≤ 65535) : bits .or .u16 (a / 256) (IntKind.u16.wrap (a * 256)) = ((revN 2 a.toNat : Nat) : Int) := by
  obtain ⟨A, rfl⟩ := Int.eq_ofNat_of_zero_le h1
  have hA : A < 2 ^ 16 := by omega
  rw [Int.toNat_natCast, ← lib16 A hA]
  have e1 : (A : Int) / 256 = ((A / 2 ^ 8 : Nat) : Int) := by omega
  have e2 : IntKind.u16.wrap ((A : Int) * 256) = ((A * 2 ^ 8 % 2 ^ 16 : Nat) : Int) := by rw [IntKind.wrap_u16]; omega
  rw [e1, e2, u16_or_nat _ _ (by omega) (by omega)]; rfl
theorem rb32 (a : Int) (h1 : 0 ≤ a) (h2 : a ≤ 4294967295) :
    bits .or .u32 (bits .or .u32 (bits .and .u32 (a / 256) 16711935) (bits .and .u32 a 16711935 * 256 % 4294967296) / 65536)
      (bits .or .u32 (bits .and .u32 (a / 256) 16711935) (bits .and .u32 a 16711935 * 256 % 4294967296) * 65536 % 4294967296) = ((revN 4 a.toNat : Nat) : Int) := by
  obtain ⟨A, rfl⟩ := Int.eq_ofNat_of_zero_le h1
  have hA : A < 4294967296 := by omega
  rw [Int.toNat_natCast, ← lib32 A]
  have em : (16711935 : Int) = ((16711935 : Nat) : Int) := rfl
  have e1 : (A : Int) / 256 = ((A / 2 ^ 8 : Nat) : Int) := by omega
  have hn : A &&& 16711935 < 4294967296 := by have := Nat.and_lt_two_pow A (show 16711935 < 2 ^ 32 by decide); omega
  have e2 : bits .and .u32 (A : Int) 16711935 * 256 % 4294967296 = (((A &&& 16711935) * 2 ^ 8 % 2 ^ 32 : Nat) : Int) := by rw [em, u32_and_nat _ _ hA (by decide)]; omega
  have e3 : bits .and .u32 ((A : Int) / 256) 16711935 = ((A / 2 ^ 8 &&& 16711935 : Nat) : Int) := by rw [e1, em, u32_and_nat _ _ (by omega) (by decide)]
  have hl := swp_lt 8 16711935 32 A (by decide)
  have e4 : bits .or .u32 (bits .and .u32 ((A : Int) / 256) 16711935) (bits .and .u32 (A : Int) 16711935 * 256 % 4294967296) = ((swp 8 16711935 32 A : Nat) : Int) := by
    rw [e2, e3, u32_or_nat _ _ (by have := Nat.and_lt_two_pow (A / 2 ^ 8) (show 16711935 < 2 ^ 32 by decide); omega) (by omega)]; rfl
  rw [e4]
  generalize swp 8 16711935 32 A = B at *
  have e5 : (B : Int) / 65536 = ((B / 2 ^ 16 : Nat) : Int) := by omega
  have e6 : (B : Int) * 65536 % 4294967296 = ((B * 2 ^ 16 % 2 ^ 32 : Nat) : Int) := by omega
  rw [e5, e6, u32_or_nat _ _ (by omega) (by omega)]; rfl
theorem step64 (s M : Nat) (S : Int) (hS : S = ((2 ^ s : Nat) : Int)) (A : Nat) (hA : A < 18446744073709551616) (hM : M < 18446744073709551616) :
    bits .or .u64 (bits .and .u64 ((A : Int) / S) (M : Int)) (IntKind.u64.wrap (bits .and .u64 (A : Int) (M : Int) * S)) = ((swp s M 64 A : Nat) : Int) := by
  have hd : A / 2 ^ s < 18446744073709551616 := Nat.lt_of_le_of_lt (Nat.div_le_self _ _) hA
  have e1 : (A : Int) / S = ((A / 2 ^ s : Nat) : Int) := by rw [hS]; exact (Int.natCast_ediv A (2 ^ s)).symm
  have e2 : IntKind.u64.wrap (bits .and .u64 (A : Int) (M : Int) * S) = (((A &&& M) * 2 ^ s % 2 ^ 64 : Nat) : Int) := by
    rw [u64_and_nat _ _ hA hM, hS, IntKind.wrap_u64, ← Int.natCast_mul]; omega
  rw [e1, e2, u64_and_nat _ _ hd hM, u64_or_nat _ _ (by have := Nat.and_lt_two_pow (A / 2 ^ s) (show M < 2 ^ 64 by omega); omega) (by omega)]; rfl
theorem rb64 (a : Int) (h1 : 0 ≤ a) (h2 : a ≤ 18446744073709551615) (y z : Int)
    (hy : y = bits .or .u64 (bits .and .u64 (a / 256) 71777214294589695) (IntKind.u64.wrap (bits .and .u64 a 71777214294589695 * 256)))
    (hz : z = bits .or .u64 (bits .and .u64 (y / 65536) 281470681808895) (IntKind.u64.wrap (bits .and .u64 y 281470681808895 * 65536))) :
    bits .or .u64 (z / 4294967296) (IntKind.u64.wrap (z * 4294967296)) = ((revN 8 a.toNat : Nat) : Int) := by
  obtain ⟨A, rfl⟩ := Int.eq_ofNat_of_zero_le h1
  have hA : A < 18446744073709551616 := by omega
  rw [Int.toNat_natCast, ← lib64 A]
  have l1 := swp_lt 8 71777214294589695 64 A (by decide)
  have e1 : y = ((swp 8 71777214294589695 64 A : Nat) : Int) := by rw [hy]; exact step64 8 71777214294589695 256 rfl A hA (by decide)
  rw [e1] at hz
  generalize swp 8 71777214294589695 64 A = B at *
  have l2 := swp_lt 16 281470681808895 64 B (by decide)
  have e2 : z = ((swp 16 281470681808895 64 B : Nat) : Int) := by rw [hz]; exact step64 16 281470681808895 65536 rfl B (by omega) (by decide)
  rw [e2]
  generalize swp 16 281470681808895 64 B = C at *
  have e5 : (C : Int) / 4294967296 = ((C / 2 ^ 32 : Nat) : Int) := by omega
  have e6 : IntKind.u64.wrap ((C : Int) * 4294967296) = ((C * 2 ^ 32 % 2 ^ 64 : Nat) : Int) := by rw [IntKind.wrap_u64]; omega
  rw [e5, e6, u64_or_nat _ _ (by omega) (by omega)]; rfl
end Go.Proofs.YtcimihckhobniaaGreat.Wd
namespace Go.Proofs.YtcimihckhobniaaGreat.Sc
open Tn Sp Wd Go.RowKit
set_option linter.unusedVariables false
set_option linter.unusedSimpArgs false

/-! ### Numbers of so many bytes -/
/-! ### P5.4 -/
def swapC (n : Int) (high : Bool) (a : C) : C :=
  if swapOk n = false then anyC else if aloneC a then numC (swapV n high (oneC a)) else if n = 64 ∧ high = false then a else uptoC (n / 8)
theorem rev_bd (m v : Nat) : revN m v < 2 ^ (8 * m) := revN_lt m v
end Go.Proofs.YtcimihckhobniaaGreat.Sc
namespace Go.Proofs.YtcimihckhobniaaGreat.Sc
open Tn Sp Wd Go.RowKit
set_option linter.unusedVariables false
set_option linter.unusedSimpArgs false

/-! ### One below another -/
def lowE (d : Int) (a b : E) : E := ⟨a.lo, min a.hi (b.hi - d)⟩
def highE (d : Int) (a b : E) : E := ⟨max b.lo (a.lo + d), b.hi⟩
def belowE (lo hi d : Int) (a b : E) : Bool := decide (lo + d ≤ b.hi ∧ a.lo ≤ hi - d ∧ a.lo ≤ min a.hi (b.hi - d) ∧ max b.lo (a.lo + d) ≤ b.hi)
theorem low_with (d : Int) (a b : E) : withE (lowE d a b) a = true := by rw [withE_iff]; unfold lowE; dsimp only; omega
theorem high_with (d : Int) (a b : E) : withE (highE d a b) b = true := by rw [withE_iff]; unfold highE; dsimp only; omega
theorem lowU_ok {lo hi d : Int} {a b : E} (ha : okU a) (h : belowE lo hi d a b = true) : okU (lowE d a b) := by
  have h := of_decide_eq_true h; unfold okU at *; unfold lowE; dsimp only; omega
theorem highU_ok {lo hi d : Int} {a b : E} (hb : okU b) (h : belowE lo hi d a b = true) : okU (highE d a b) := by
  have h := of_decide_eq_true h; unfold okU at *; unfold highE; dsimp only; omega
theorem lowS_ok {lo hi d : Int} {a b : E} (ha : okS a) (h : belowE lo hi d a b = true) : okS (lowE d a b) := by
  have h := of_decide_eq_true h; unfold okS at *; unfold lowE; dsimp only; omega
theorem highS_ok {lo hi d : Int} {a b : E} (hb : okS b) (h : belowE lo hi d a b = true) : okS (highE d a b) := by
  have h := of_decide_eq_true h; unfold okS at *; unfold highE; dsimp only; omega
def lessU (d : Int) (a b : C) : Option (C × C) :=
  if belowE 0 18446744073709551615 d a.u b.u then some (⟨a.t, lowE d a.u b.u, a.s⟩, ⟨b.t, highE d a.u b.u, b.s⟩) else none
def lessS (d : Int) (a b : C) : Option (C × C) :=
  if belowE (-9223372036854775808) 9223372036854775807 d a.s b.s then some (⟨a.t, a.u, lowE d a.s b.s⟩, ⟨b.t, b.u, highE d a.s b.s⟩) else none
def swp2 (x : Option (C × C)) : Option (C × C) := x.map fun p => (p.2, p.1)
/-- What is taught may be and is within what was known. -/
def lessOk (a b : C) (o : Option (C × C)) : Prop := ∀ p q, o = some (p, q) → (mayC p ∧ withC p a = true) ∧ mayC q ∧ withC q b = true
theorem ok_swp {a b : C} {o : Option (C × C)} (h : lessOk a b o) : lessOk b a (swp2 o) := by
  intro p q e
  unfold swp2 at e
  cases o with
  | none => cases e
  | some z =>
    obtain ⟨x, y⟩ := z
    injection e with e
    injection e with e1 e2
    subst e1 e2
    exact And.symm (h _ _ rfl)
section
variable {a b : C} {v w : BitVec 64}
theorem lessU_ok (d : Int) (ha : mayC a) (hb : mayC b) : lessOk a b (lessU d a b) := by
  intro p q e
  unfold lessU at e
  split at e
  · rename_i h
    injection e with e
    injection e with e1 e2
    subst e1 e2
    exact And.intro (And.intro (mk_may ha.1 (lowU_ok ha.2.1 h) ha.2.2) ((withC_iff _ _).2 (And.intro (with_self ha.1) (And.intro (low_with _ _ _) (withE_refl _)))))
      (And.intro (mk_may hb.1 (highU_ok hb.2.1 h) hb.2.2) ((withC_iff _ _).2 (And.intro (with_self hb.1) (And.intro (high_with _ _ _) (withE_refl _)))))
  · cases e
theorem lessS_ok (d : Int) (ha : mayC a) (hb : mayC b) : lessOk a b (lessS d a b) := by
  intro p q e
  unfold lessS at e
  split at e
  · rename_i h
    injection e with e
    injection e with e1 e2
    subst e1 e2
    exact And.intro (And.intro (mk_may ha.1 ha.2.1 (lowS_ok ha.2.2 h)) ((withC_iff _ _).2 (And.intro (with_self ha.1) (And.intro (withE_refl _) (low_with _ _ _)))))
      (And.intro (mk_may hb.1 hb.2.1 (highS_ok hb.2.2 h)) ((withC_iff _ _).2 (And.intro (with_self hb.1) (And.intro (withE_refl _) (high_with _ _ _)))))
  · cases e
/-! ### Both are one number; they are not -/
def meetC (a b : C) : Option C :=
  if meetOk a.t b.t && (metE a.u b.u && metE a.s b.s) then some ⟨meetT a.t b.t, meetE a.u b.u, meetE a.s b.s⟩ else none
def bothC (a b : C) : Option (C × C) := (meetC a b).map fun p => (p, p)
theorem both_ok (ha : mayC a) (hb : mayC b) : lessOk a b (bothC a b) := by
  intro p q e
  unfold bothC meetC at e
  split at e
  · rename_i h
    simp only [Bool.and_eq_true] at h
    injection e with e
    injection e with e1 e2
    subst e1 e2
    have m := mk_may (may_meet a.t b.t) (meetU_ok ha.2.1 h.2.1) (meetS_ok ha.2.2 h.2.2)
    exact And.intro (And.intro m ((withC_iff _ _).2 (And.intro (meet_left ha.1 hb.1 h.1) (And.intro (meetE_left h.2.1) (meetE_left h.2.2)))))
      (And.intro m ((withC_iff _ _).2 (And.intro (meet_right ha.1 hb.1 h.1) (And.intro (meetE_right h.2.1) (meetE_right h.2.2)))))
  · cases e
def woE (a : E) (v : Int) : E := if a.lo = v then ⟨v + 1, a.hi⟩ else if a.hi = v then ⟨a.lo, v - 1⟩ else a
def woC (a : C) (v : Int) : Option C :=
  if (a.u.lo = a.u.hi ∧ a.u.lo = v) ∨ (a.s.lo = a.s.hi ∧ a.s.lo = sg v) then none else some ⟨a.t, woE a.u v, woE a.s (sg v)⟩
theorem wo_with {a : E} {v : Int} : withE (woE a v) a = true := by
  rw [withE_iff]; unfold woE; split
  · dsimp only; omega
  · split
    · dsimp only; omega
    · omega
theorem wo_lo {a : E} {v : Int} (h : a.lo ≤ a.hi) (n : ¬ (a.lo = a.hi ∧ a.lo = v)) : (woE a v).lo ≤ (woE a v).hi := by
  unfold woE; split
  · dsimp only; omega
  · split
    · dsimp only; omega
    · omega
theorem wo_less {p : C} {v : Int} (ha : mayC a) (e : woC a v = some p) : mayC p ∧ withC p a = true := by
  unfold woC at e
  split at e
  · cases e
  · rename_i h
    injection e with e
    subst e
    have w1 := (withE_iff _ _).1 (wo_with (a := a.u) (v := v))
    have w2 := (withE_iff _ _).1 (wo_with (a := a.s) (v := sg v))
    have l1 := wo_lo ha.2.1.2.1 (fun g => h (Or.inl g))
    have l2 := wo_lo ha.2.2.2.1 (fun g => h (Or.inr g))
    refine And.intro (mk_may ha.1 ?_ ?_) ((withC_iff _ _).2 (And.intro (with_self ha.1) (And.intro wo_with wo_with)))
    · have := ha.2.1; unfold okU at *; omega
    · have := ha.2.2; unfold okS at *; omega
/-- Not one number: what is left of a, if b is a number alone, and of b, if a is. -/
def offC (a b : C) : Option (C × C) :=
  match (if aloneC b then woC a (oneC b) else some a), (if aloneC a then woC b (oneC a) else some b) with
  | some p, some q => some (p, q)
  | _, _ => none
theorem off_ok (ha : mayC a) (hb : mayC b) : lessOk a b (offC a b) := by
  intro p q e
  unfold offC at e
  have h1 : ∀ p, (if aloneC b then woC a (oneC b) else some a) = some p → mayC p ∧ withC p a = true := by
    intro p g
    split at g
    · exact wo_less ha g
    · injection g with g; subst g; exact And.intro ha (withC_refl ha)
  have h2 : ∀ q, (if aloneC a then woC b (oneC a) else some b) = some q → mayC q ∧ withC q b = true := by
    intro p g
    split at g
    · exact wo_less hb g
    · injection g with g; subst g; exact And.intro hb (withC_refl hb)
  split at e
  · rename_i x y g1 g2
    injection e with e
    injection e with e1 e2
    subst e1 e2
    exact And.intro (h1 _ g1) (h2 _ g2)
  · cases e
/-! ### No bit of both -/
def noT (a : C) (m : Int) : Option C := if meetOk a.t ⟨0#64, ~~~(BitVec.ofInt 64 m)⟩ then some ⟨meetT a.t ⟨0#64, ~~~(BitVec.ofInt 64 m)⟩, a.u, a.s⟩ else none
def setC (a b : C) : Option (C × C) :=
  match (if aloneC b then noT a (oneC b) else some a), (if aloneC a then noT b (oneC a) else some b) with
  | some p, some q => some (p, q)
  | _, _ => none
theorem no_less {p : C} {m : Int} (ha : mayC a) (e : noT a m = some p) : mayC p ∧ withC p a = true := by
  unfold noT at e
  split at e
  · rename_i h
    injection e with e
    subst e
    exact And.intro (mk_may (may_meet _ _) ha.2.1 ha.2.2) ((withC_iff _ _).2 (And.intro (meet_left ha.1 (may_mask _) h) (And.intro (withE_refl _) (withE_refl _))))
  · cases e
theorem set_ok (ha : mayC a) (hb : mayC b) : lessOk a b (setC a b) := by
  intro p q e
  unfold setC at e
  have h1 : ∀ p, (if aloneC b then noT a (oneC b) else some a) = some p → mayC p ∧ withC p a = true := by
    intro p g
    split at g
    · exact no_less ha g
    · injection g with g; subst g; exact And.intro ha (withC_refl ha)
  have h2 : ∀ q, (if aloneC a then noT b (oneC a) else some b) = some q → mayC q ∧ withC q b = true := by
    intro p g
    split at g
    · exact no_less hb g
    · injection g with g; subst g; exact And.intro hb (withC_refl hb)
  split at e
  · rename_i x y g1 g2
    injection e with e
    injection e with e1 e2
    subst e1 e2
    exact And.intro (h1 _ g1) (h2 _ g2)
  · cases e
end
end Go.Proofs.YtcimihckhobniaaGreat.Sc
namespace Go.Proofs.YtcimihckhobniaaGreat.Sc
open Tn Sp Wd Go.RowKit
set_option linter.unusedVariables false
set_option linter.unusedSimpArgs false

def counterI (op : Int) : Int :=
  if op = 1 then 5 else if op = 5 then 1 else if op = 2 then 11 else if op = 11 then 2 else if op = 3 then 10 else if op = 10 then 3 else if op = 6 then 13 else if op = 13 then 6 else if op = 7 then 12 else if op = 12 then 7 else 0
def learnC (op : Int) (set : Bool) (a b : C) : Option (C × C) :=
  if set then setC a b else if op = 1 then bothC a b else if op = 5 then offC a b
  else if op = 10 then lessU 1 a b else if op = 11 then lessU 0 a b else if op = 2 then swp2 (lessU 1 b a) else if op = 3 then swp2 (lessU 0 b a)
  else if op = 12 then lessS 1 a b else if op = 13 then lessS 0 a b else if op = 6 then swp2 (lessS 1 b a) else if op = 7 then swp2 (lessS 0 b a) else some (a, b)
def signedJ (op : Int) : Bool := decide (op = 6 ∨ op = 7 ∨ op = 12 ∨ op = 13)
def wideJ (op : Int) (a b : C) : Bool := !withC a (uptoC 4) || (!withC b (uptoC 4) || (signedJ op && (decide (2147483648 ≤ a.u.hi) || decide (2147483648 ≤ b.u.hi))))
def normP (p : C × C) : Option (C × C) := match normC p.1, normC p.2 with
  | some x, some y => some (x, y)
  | _, _ => none
def branchC (op : Int) (wide taken : Bool) (a b : C) : Option (C × C) :=
  if jumpOk op = false then some (a, b)
  else if aloneC a && aloneC b then (if jumpV op wide (oneC a) (oneC b) == taken then some (a, b) else none)
  else if !wide && wideJ op a b then some (a, b)
  else (learnC (if taken then op else counterI op) (decide (op = 4) && !taken) a b).bind normP
section
variable {a b : C} {v w : BitVec 64}
theorem same_ok (ha : mayC a) (hb : mayC b) : lessOk a b (some (a, b)) := by
  intro p q e
  injection e with e
  injection e with e1 e2
  subst e1 e2
  exact And.intro (And.intro ha (withC_refl ha)) (And.intro hb (withC_refl hb))
theorem learn_ok (op : Int) (set : Bool) (ha : mayC a) (hb : mayC b) : lessOk a b (learnC op set a b) := by
  unfold learnC
  split
  · exact set_ok ha hb
  · split
    · exact both_ok ha hb
    · split
      · exact off_ok ha hb
      · split
        · exact lessU_ok 1 ha hb
        · split
          · exact lessU_ok 0 ha hb
          · split
            · exact ok_swp (lessU_ok 1 hb ha)
            · split
              · exact ok_swp (lessU_ok 0 hb ha)
              · split
                · exact lessS_ok 1 ha hb
                · split
                  · exact lessS_ok 0 ha hb
                  · split
                    · exact ok_swp (lessS_ok 1 hb ha)
                    · split
                      · exact ok_swp (lessS_ok 0 hb ha)
                      · exact same_ok ha hb
theorem jump_cases {op : Int} (h : jumpOk op = true) : op = 1 ∨ op = 2 ∨ op = 3 ∨ op = 4 ∨ op = 5 ∨ op = 6 ∨ op = 7 ∨ op = 10 ∨ op = 11 ∨ op = 12 ∨ op = 13 := by
  have := of_decide_eq_true h; omega
end
end Go.Proofs.YtcimihckhobniaaGreat.Sc
namespace Go.Proofs.YtcimihckhobniaaGreat
theorem ptA {α : Type} {l : List α} {i : Nat} {x : α} : l.toArray.setIfInBounds i x = (l.set i x).toArray := List.setIfInBounds_toArray l i x
theorem ptB {α : Type} {l : List α} {x y : α} : (x :: l).set 0 y = y :: l := rfl
theorem ptC {α : Type} {l : List α} {i : Nat} {x y : α} : (x :: l).set (i + 1) y = x :: l.set i y := rfl
section
variable {P : Program} {ops : Array Oper} {Q : Exit → Act → World → Prop} {md : Region.Mode} {S : World → Prop}
theorem tq (i : Nat) (v : Value) {o : Oper} {fuel : Nat} {l : Array Bool} {a : Act} {w : World} (hl : ops.toList[i]? = some o)
    (hb : (Region.noSelect ops && Region.free md ops l i && (Region.ready md ops l).contains i) = true)
    (hQ : ∀ c a w, Q (.panic c) (a.put o.dst v) w → Q (.panic c) a w) (hw : Region.wanted o (yielded ops a.tmps) = true) (hS : S w)
    (hy : ∀ w, S w → (execOp a.eval o).run P w = .ok (.value v) w)
    (h : wpAnyH P md ops Q S fuel (l.setIfInBounds i true) (a.put o.dst v) w) : wpAnyH P md ops Q S (fuel + 1) l a w := by
  simp only [Bool.and_eq_true] at hb
  exact wpAnyH_take (Array.getElem?_toList.symm.trans hl) hb.1.1 hb.1.2 hb.2 hQ (Or.inl ⟨hw, hy⟩) hS h
theorem tu (i : Nat) {o : Oper} {fuel : Nat} {l : Array Bool} {a : Act} {w : World} (hl : ops.toList[i]? = some o)
    (hb : (Region.noSelect ops && Region.free md ops l i && (Region.ready md ops l).contains i) = true)
    (hQ : ∀ c a w, Q (.panic c) (a.put o.dst undef) w → Q (.panic c) a w) (hw : Region.wanted o (yielded ops a.tmps) = false) (hS : S w)
    (h : wpAnyH P md ops Q S fuel (l.setIfInBounds i true) (a.put o.dst undef) w) : wpAnyH P md ops Q S (fuel + 1) l a w := by
  simp only [Bool.and_eq_true] at hb
  exact wpAnyH_take (Array.getElem?_toList.symm.trans hl) hb.1.1 hb.1.2 hb.2 hQ (Or.inr ⟨hw, rfl⟩) hS h
end
end Go.Proofs.YtcimihckhobniaaGreat
