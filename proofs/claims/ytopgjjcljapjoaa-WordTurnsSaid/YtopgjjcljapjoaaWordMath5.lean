/-
  Plain mathematics of layer 1, fifth part: bytes the other way round. Nothing of the program is named here.
-/
import Derived.Test.YtopgjjcljapjoaaWordMath4
namespace Go.Proofs.Ytopgjjcljapjoaa.Wd
open Go.RowKit

/-- The lowest k of m bytes of v, laid from the highest of m places down. -/
def revO (m v : Nat) : Nat → Nat
  | 0 => 0
  | k + 1 => revO m v k ||| v / 2 ^ (8 * k) % 2 ^ 8 * 2 ^ (8 * (m - 1 - k))
theorem testBit_mul_pow (a i j : Nat) : (a * 2 ^ i).testBit j = (decide (i ≤ j) && a.testBit (j - i)) := by
  rw [Nat.mul_comm, Nat.testBit_two_pow_mul]
theorem revO_bit (m v k j : Nat) (hk : k ≤ m) : (revO m v k).testBit j = (decide (8 * (m - k) ≤ j ∧ j < 8 * m) && v.testBit (8 * (m - 1 - j / 8) + j % 8)) := by
  induction k with
  | zero =>
    have h : ¬ (8 * (m - 0) ≤ j ∧ j < 8 * m) := by omega
    rw [decide_eq_false h, Bool.false_and]; exact Nat.zero_testBit j
  | succ k ih =>
    simp only [revO]
    rw [Nat.testBit_or, ih (by omega), testBit_mul_pow, Nat.testBit_mod_two_pow, Nat.testBit_div_two_pow]
    by_cases h1 : 8 * (m - k) ≤ j ∧ j < 8 * m
    · have h2 : 8 * (m - (k + 1)) ≤ j ∧ j < 8 * m := by omega
      have h3 : ¬ (j - 8 * (m - 1 - k) < 8) := by omega
      rw [decide_eq_true h1, decide_eq_true h2, decide_eq_false h3, Bool.false_and, Bool.and_false, Bool.or_false]
    · by_cases h2 : 8 * (m - (k + 1)) ≤ j ∧ j < 8 * m
      · have h3 : j - 8 * (m - 1 - k) < 8 := by omega
        have h4 : 8 * (m - 1 - k) ≤ j := by omega
        have h5 : j - 8 * (m - 1 - k) + 8 * k = 8 * (m - 1 - j / 8) + j % 8 := by omega
        rw [decide_eq_false h1, decide_eq_true h2, decide_eq_true h3, decide_eq_true h4, h5, Bool.false_and, Bool.false_or, Bool.true_and, Bool.true_and]
      · rw [decide_eq_false h1, decide_eq_false h2, Bool.false_and, Bool.false_or]
        by_cases h4 : 8 * (m - 1 - k) ≤ j
        · have h5 : ¬ (j - 8 * (m - 1 - k) < 8) := by omega
          rw [decide_eq_true h4, decide_eq_false h5, Bool.false_and, Bool.true_and]
        · rw [decide_eq_false h4, Bool.false_and]
theorem revO_lt (m v k : Nat) (hk : k ≤ m) : revO m v k < 2 ^ (8 * m) := by
  apply Nat.lt_pow_two_of_testBit
  intro i hi
  rw [revO_bit m v k i hk]
  have : ¬ (8 * (m - k) ≤ i ∧ i < 8 * m) := by omega
  simp [this]
def revN (m v : Nat) : Nat := revO m v m
theorem revN_bit (m v j : Nat) : (revN m v).testBit j = (decide (j < 8 * m) && v.testBit (8 * (m - 1 - j / 8) + j % 8)) := by
  unfold revN; rw [revO_bit m v m j (Nat.le_refl _)]
  congr 1; simp
theorem revN_lt (m v : Nat) : revN m v < 2 ^ (8 * m) := revO_lt m v m (Nat.le_refl _)
theorem revN_twice (m v : Nat) : revN m (revN m v) = v % 2 ^ (8 * m) := by
  apply Nat.eq_of_testBit_eq
  intro j
  rw [revN_bit, revN_bit, Nat.testBit_mod_two_pow]
  by_cases h : j < 8 * m
  · have h1 : 8 * (m - 1 - j / 8) + j % 8 < 8 * m := by omega
    have h2 : 8 * (m - 1 - (8 * (m - 1 - j / 8) + j % 8) / 8) + (8 * (m - 1 - j / 8) + j % 8) % 8 = j := by omega
    simp only [h, h1, h2, decide_true, Bool.true_and]
  · simp only [h, decide_false, Bool.false_and]

/-! ### As the library turns them: neighbours, then pairs, then fours -/
def swp (s M W x : Nat) : Nat := (x / 2 ^ s &&& M) ||| ((x &&& M) * 2 ^ s % 2 ^ W)
theorem swp_bit (s M W x j : Nat) : (swp s M W x).testBit j = ((x.testBit (j + s) && M.testBit j) || (decide (j < W) && (decide (s ≤ j) && (x.testBit (j - s) && M.testBit (j - s))))) := by
  unfold swp
  rw [Nat.testBit_or, Nat.testBit_and, Nat.testBit_div_two_pow, Nat.testBit_mod_two_pow, testBit_mul_pow, Nat.testBit_and]
theorem swp8 (M W x j : Nat) (hM : ∀ i, i < W → M.testBit i = decide (i / 8 % 2 = 0)) (hj : j < W) : (swp 8 M W x).testBit j = x.testBit (if j / 8 % 2 = 0 then j + 8 else j - 8) := by
  rw [swp_bit, hM j hj]
  by_cases h : j / 8 % 2 = 0
  · by_cases h8 : 8 ≤ j
    · have g : ¬ ((j - 8) / 8 % 2 = 0) := by omega
      rw [hM (j - 8) (by omega)]; simp [h, g]
    · simp [h, h8]
  · have h8 : 8 ≤ j := by omega
    have g : (j - 8) / 8 % 2 = 0 := by omega
    rw [hM (j - 8) (by omega)]; simp [h, g, h8, hj]
theorem swp16 (M W x j : Nat) (hM : ∀ i, i < W → M.testBit i = decide (i / 16 % 2 = 0)) (hj : j < W) : (swp 16 M W x).testBit j = x.testBit (if j / 16 % 2 = 0 then j + 16 else j - 16) := by
  rw [swp_bit, hM j hj]
  by_cases h : j / 16 % 2 = 0
  · by_cases h8 : 16 ≤ j
    · have g : ¬ ((j - 16) / 16 % 2 = 0) := by omega
      rw [hM (j - 16) (by omega)]; simp [h, g]
    · simp [h, h8]
  · have h8 : 16 ≤ j := by omega
    have g : (j - 16) / 16 % 2 = 0 := by omega
    rw [hM (j - 16) (by omega)]; simp [h, g, h8, hj]
def hlf (s W x : Nat) : Nat := x / 2 ^ s ||| x * 2 ^ s % 2 ^ W
theorem hlf_bit (s W x j : Nat) (hW : W = 2 * s) (hx : x < 2 ^ W) (hj : j < W) : (hlf s W x).testBit j = x.testBit (if j < s then j + s else j - s) := by
  unfold hlf
  rw [Nat.testBit_or, Nat.testBit_div_two_pow, Nat.testBit_mod_two_pow, testBit_mul_pow]
  by_cases h : j < s
  · have h1 : ¬ s ≤ j := by omega
    simp [h, h1]
  · have h1 : s ≤ j := by omega
    have h2 : x.testBit (j + s) = false := Nat.testBit_lt_two_pow (Nat.lt_of_lt_of_le hx (Nat.pow_le_pow_right (by decide) (by omega)))
    simp [h, h1, h2, hj]
theorem m3bits : ∀ i, i < 64 → (71777214294589695 : Nat).testBit i = decide (i / 8 % 2 = 0) := by
  have h : ∀ i : Fin 64, (71777214294589695 : Nat).testBit i = decide (i.val / 8 % 2 = 0) := by decide
  exact fun i hi => h ⟨i, hi⟩
theorem m4bits : ∀ i, i < 64 → (281470681808895 : Nat).testBit i = decide (i / 16 % 2 = 0) := by
  have h : ∀ i : Fin 64, (281470681808895 : Nat).testBit i = decide (i.val / 16 % 2 = 0) := by decide
  exact fun i hi => h ⟨i, hi⟩
theorem m2bits : ∀ i, i < 32 → (16711935 : Nat).testBit i = decide (i / 8 % 2 = 0) := by
  have h : ∀ i : Fin 32, (16711935 : Nat).testBit i = decide (i.val / 8 % 2 = 0) := by decide
  exact fun i hi => h ⟨i, hi⟩
theorem swp_lt (s M W x : Nat) (hM : M < 2 ^ W) : swp s M W x < 2 ^ W :=
  Nat.or_lt_two_pow (Nat.and_lt_two_pow _ hM) (Nat.mod_lt _ (Nat.two_pow_pos W))
theorem hlf_lt (s W x : Nat) (hx : x < 2 ^ W) : hlf s W x < 2 ^ W :=
  Nat.or_lt_two_pow (Nat.lt_of_le_of_lt (Nat.div_le_self _ _) hx) (Nat.mod_lt _ (Nat.two_pow_pos W))
theorem eq_of_low (x y W : Nat) (hx : x < 2 ^ W) (hy : y < 2 ^ W) (h : ∀ j, j < W → x.testBit j = y.testBit j) : x = y := by
  apply Nat.eq_of_testBit_eq
  intro j
  by_cases hj : j < W
  · exact h j hj
  · have e : ∀ z, z < 2 ^ W → z.testBit j = false := fun z hz => Nat.testBit_lt_two_pow (Nat.lt_of_lt_of_le hz (Nat.pow_le_pow_right (by decide) (by omega)))
    rw [e x hx, e y hy]
theorem lib16 (x : Nat) (hx : x < 2 ^ 16) : hlf 8 16 x = revN 2 x := by
  refine eq_of_low _ _ 16 (hlf_lt 8 16 x hx) (revN_lt 2 x) fun j hj => ?_
  rw [hlf_bit 8 16 x j rfl hx hj, revN_bit]
  have h : j < 8 * 2 := hj
  simp only [h, decide_true, Bool.true_and]
  congr 1; split <;> omega
theorem lib32 (x : Nat) : hlf 16 32 (swp 8 16711935 32 x) = revN 4 x := by
  have h1 := swp_lt 8 16711935 32 x (by decide)
  refine eq_of_low _ _ 32 (hlf_lt 16 32 _ h1) (revN_lt 4 x) fun j hj => ?_
  rw [hlf_bit 16 32 _ j rfl h1 hj, swp8 _ 32 _ _ m2bits (by split <;> omega), revN_bit]
  have h : j < 8 * 4 := hj
  simp only [h, decide_true, Bool.true_and]
  congr 1; split <;> split <;> omega
theorem lib64 (x : Nat) : hlf 32 64 (swp 16 281470681808895 64 (swp 8 71777214294589695 64 x)) = revN 8 x := by
  have h1 := swp_lt 8 71777214294589695 64 x (by decide)
  have h2 := swp_lt 16 281470681808895 64 (swp 8 71777214294589695 64 x) (by decide)
  refine eq_of_low _ _ 64 (hlf_lt 32 64 _ h2) (revN_lt 8 x) fun j hj => ?_
  have a1 : (if j < 32 then j + 32 else j - 32) < 64 := by split <;> omega
  rw [hlf_bit 32 64 _ j rfl h2 hj, swp16 _ 64 _ _ m4bits a1]
  generalize hp : (if j < 32 then j + 32 else j - 32) = p at *
  have a2 : (if p / 16 % 2 = 0 then p + 16 else p - 16) < 64 := by split <;> omega
  rw [swp8 _ 64 _ _ m3bits a2, revN_bit]
  have h : j < 8 * 8 := hj
  simp only [h, decide_true, Bool.true_and]
  congr 1
  generalize hq : (if p / 16 % 2 = 0 then p + 16 else p - 16) = q at *
  have hp' : p = j + 32 ∧ j < 32 ∨ p = j - 32 ∧ 32 ≤ j := by split at hp <;> omega
  have hq' : q = p + 16 ∧ p / 16 % 2 = 0 ∨ q = p - 16 ∧ p / 16 % 2 = 1 := by split at hq <;> omega
  split <;> omega

/-! ### P1.2 -/
def swapV (n : Int) (high : Bool) (v : Int) : Int :=
  if n = 16 then (if high then ((revN 2 v.toNat : Nat) : Int) else v % 65536)
  else if n = 32 then (if high then ((revN 4 v.toNat : Nat) : Int) else v % 4294967296)
  else if n = 64 then (if high then ((revN 8 v.toNat : Nat) : Int) else v)
  else 0
def swapOk (n : Int) : Bool := decide (n = 16 ∨ n = 32 ∨ n = 64)
theorem revN_low (m v : Nat) : revN m (v % 2 ^ (8 * m)) = revN m v := by
  apply Nat.eq_of_testBit_eq
  intro j
  rw [revN_bit, revN_bit, Nat.testBit_mod_two_pow]
  by_cases h : j < 8 * m
  · have h1 : 8 * (m - 1 - j / 8) + j % 8 < 8 * m := by omega
    rw [decide_eq_true h1, Bool.true_and]
  · rw [decide_eq_false h, Bool.false_and, Bool.false_and]

/-! ### As the walk writes it -/
theorem rb16 (a : Int) (h1 : 0 ≤ a) (h2 : a ≤ 65535) : bits .or .u16 (a / 256) (IntKind.u16.wrap (a * 256)) = ((revN 2 a.toNat : Nat) : Int) := by
  obtain ⟨A, rfl⟩ := Int.eq_ofNat_of_zero_le h1
  have hA : A < 2 ^ 16 := by omega
  rw [Int.toNat_natCast, ← lib16 A hA]
  have e1 : (A : Int) / 256 = ((A / 2 ^ 8 : Nat) : Int) := by omega
  have e2 : IntKind.u16.wrap ((A : Int) * 256) = ((A * 2 ^ 8 % 2 ^ 16 : Nat) : Int) := by rw [IntKind.wrap_u16]; omega
  rw [e1, e2, u16_or_nat _ _ (by omega) (by omega)]; rfl
theorem rb32 (a : Int) (h1 : 0 ≤ a) (h2 : a ≤ 4294967295) :
    bits .or .u32 (bits .or .u32 (bits .and .u32 (a / 256) 16711935) (bits .and .u32 a 16711935 * 256 % 4294967296) / 65536)
      (bits .or .u32 (bits .and .u32 (a / 256) 16711935) (bits .and .u32 a 16711935 * 256 % 4294967296) * 65536 % 4294967296) = ((revN 4 a.toNat : Nat) : Int) := by
  obtain ⟨A, rfl⟩ := Int.eq_ofNat_of_zero_le h1
  have hA : A < 4294967296 := by omega
  rw [Int.toNat_natCast, ← lib32 A]
  have em : (16711935 : Int) = ((16711935 : Nat) : Int) := rfl
  have e1 : (A : Int) / 256 = ((A / 2 ^ 8 : Nat) : Int) := by omega
  have hn : A &&& 16711935 < 4294967296 := by have := Nat.and_lt_two_pow A (show 16711935 < 2 ^ 32 by decide); omega
  have e2 : bits .and .u32 (A : Int) 16711935 * 256 % 4294967296 = (((A &&& 16711935) * 2 ^ 8 % 2 ^ 32 : Nat) : Int) := by rw [em, u32_and_nat _ _ hA (by decide)]; omega
  have e3 : bits .and .u32 ((A : Int) / 256) 16711935 = ((A / 2 ^ 8 &&& 16711935 : Nat) : Int) := by rw [e1, em, u32_and_nat _ _ (by omega) (by decide)]
  have hl := swp_lt 8 16711935 32 A (by decide)
  have e4 : bits .or .u32 (bits .and .u32 ((A : Int) / 256) 16711935) (bits .and .u32 (A : Int) 16711935 * 256 % 4294967296) = ((swp 8 16711935 32 A : Nat) : Int) := by
    rw [e2, e3, u32_or_nat _ _ (by have := Nat.and_lt_two_pow (A / 2 ^ 8) (show 16711935 < 2 ^ 32 by decide); omega) (by omega)]; rfl
  rw [e4]
  generalize swp 8 16711935 32 A = B at *
  have e5 : (B : Int) / 65536 = ((B / 2 ^ 16 : Nat) : Int) := by omega
  have e6 : (B : Int) * 65536 % 4294967296 = ((B * 2 ^ 16 % 2 ^ 32 : Nat) : Int) := by omega
  rw [e5, e6, u32_or_nat _ _ (by omega) (by omega)]; rfl
theorem step64 (s M : Nat) (S : Int) (hS : S = ((2 ^ s : Nat) : Int)) (A : Nat) (hA : A < 18446744073709551616) (hM : M < 18446744073709551616) :
    bits .or .u64 (bits .and .u64 ((A : Int) / S) (M : Int)) (IntKind.u64.wrap (bits .and .u64 (A : Int) (M : Int) * S)) = ((swp s M 64 A : Nat) : Int) := by
  have hd : A / 2 ^ s < 18446744073709551616 := Nat.lt_of_le_of_lt (Nat.div_le_self _ _) hA
  have e1 : (A : Int) / S = ((A / 2 ^ s : Nat) : Int) := by rw [hS]; exact (Int.natCast_ediv A (2 ^ s)).symm
  have e2 : IntKind.u64.wrap (bits .and .u64 (A : Int) (M : Int) * S) = (((A &&& M) * 2 ^ s % 2 ^ 64 : Nat) : Int) := by
    rw [u64_and_nat _ _ hA hM, hS, IntKind.wrap_u64, ← Int.natCast_mul]; omega
  rw [e1, e2, u64_and_nat _ _ hd hM, u64_or_nat _ _ (by have := Nat.and_lt_two_pow (A / 2 ^ s) (show M < 2 ^ 64 by omega); omega) (by omega)]; rfl
theorem rb64 (a : Int) (h1 : 0 ≤ a) (h2 : a ≤ 18446744073709551615) (y z : Int)
    (hy : y = bits .or .u64 (bits .and .u64 (a / 256) 71777214294589695) (IntKind.u64.wrap (bits .and .u64 a 71777214294589695 * 256)))
    (hz : z = bits .or .u64 (bits .and .u64 (y / 65536) 281470681808895) (IntKind.u64.wrap (bits .and .u64 y 281470681808895 * 65536))) :
    bits .or .u64 (z / 4294967296) (IntKind.u64.wrap (z * 4294967296)) = ((revN 8 a.toNat : Nat) : Int) := by
  obtain ⟨A, rfl⟩ := Int.eq_ofNat_of_zero_le h1
  have hA : A < 18446744073709551616 := by omega
  rw [Int.toNat_natCast, ← lib64 A]
  have l1 := swp_lt 8 71777214294589695 64 A (by decide)
  have e1 : y = ((swp 8 71777214294589695 64 A : Nat) : Int) := by rw [hy]; exact step64 8 71777214294589695 256 rfl A hA (by decide)
  rw [e1] at hz
  generalize swp 8 71777214294589695 64 A = B at *
  have l2 := swp_lt 16 281470681808895 64 B (by decide)
  have e2 : z = ((swp 16 281470681808895 64 B : Nat) : Int) := by rw [hz]; exact step64 16 281470681808895 65536 rfl B (by omega) (by decide)
  rw [e2]
  generalize swp 16 281470681808895 64 B = C at *
  have e5 : (C : Int) / 4294967296 = ((C / 2 ^ 32 : Nat) : Int) := by omega
  have e6 : IntKind.u64.wrap ((C : Int) * 4294967296) = ((C * 2 ^ 32 % 2 ^ 64 : Nat) : Int) := by rw [IntKind.wrap_u64]; omega
  rw [e5, e6, u64_or_nat _ _ (by omega) (by omega)]; rfl
end Go.Proofs.Ytopgjjcljapjoaa.Wd
