/-
  Whole numbers as floats: sums of small whole numbers, their size without a sign, and back. No program.
-/
import Derived.Test.YthdgdkjaeebbcaaPhaseTab
namespace Go.Proofs.Ythdgdkjaeebbcaa
set_option maxRecDepth 100000
namespace Ph
set_option linter.unusedVariables false
theorem sh (n : Nat) {a b c : Nat} (h : a + b = c) : n <<< a <<< b = n <<< c := by rw [← Nat.shiftLeft_add, h]
theorem sh_add (a b c : Nat) : a <<< c + b <<< c = (a + b) <<< c := by rw [Nat.shiftLeft_eq, Nat.shiftLeft_eq, Nat.shiftLeft_eq, Nat.add_mul]
theorem sum_num {m n : Nat} {i j base : Int} (hb : min i j = base) (x y : Nat) (hx : m <<< (i - base).toNat = x) (hy : n <<< (j - base).toNat = y) :
    (Ieee.Datum.number false m i).sum (.number false n j) = some (.number false (x + y) base) := by
  subst hb hx hy
  unfold Ieee.Datum.sum Ieee.signed
  simp only [Bool.false_eq_true, if_false, Bool.and_false]
  generalize m <<< (i - min i j).toNat = x
  generalize n <<< (j - min i j).toNat = y
  rw [show ((x : Int) + (y : Int)).natAbs = x + y by omega]
  congr 2
  split
  · rfl
  · simp; omega
set_option maxRecDepth 4000 in
theorem sum_dat {a b : Nat} (h : a + b < 304) : ((dat a).sum (dat b)).map FloatKind.f64.format.write = some (fr ((a + b : Nat) : Int)) := by
  have w0 := t_write0 ⟨a + b, h⟩
  have la := t_log ⟨a, by omega⟩
  have lb := t_log ⟨b, by omega⟩
  dsimp only at w0 la lb
  obtain ⟨K, hK⟩ : ∃ K : Nat, K = 1074 := ⟨_, rfl⟩
  have w2 : FloatKind.f64.format.write (.number false ((a + b) <<< K) (-(K : Int))) = fr ((a + b : Nat) : Int) := by rw [hK]; exact w0
  have hd : ∀ n : Nat, dat n = if n = 0 then .number false 0 (-(K : Int)) else .number false (n <<< (52 - n.log2)) ((n.log2 : Int) - 52) := by intro n; rw [hK]; rfl
  clear w0
  rw [hd, hd]
  by_cases ha : a = 0
  · subst ha
    rw [if_pos rfl]
    by_cases hb : b = 0
    · subst hb
      rw [if_pos rfl, sum_num (base := -(K : Int)) (by omega) 0 0 (by rw [Nat.zero_shiftLeft]) (by rw [Nat.zero_shiftLeft]), Option.map_some, ← w2]
      simp only [Nat.add_zero, Nat.zero_shiftLeft]
    · rw [if_neg hb, sum_num (base := -(K : Int)) (by omega) 0 (b <<< K) (by simp) (sh _ (by omega)), Option.map_some, ← w2]
      simp only [Nat.zero_add]
  · rw [if_neg ha]
    by_cases hb : b = 0
    · subst hb
      rw [if_pos rfl, sum_num (base := -(K : Int)) (by omega) (a <<< K) 0 (sh _ (by omega)) (by simp), Option.map_some, ← w2]
      simp only [Nat.add_zero]
    · rw [if_neg hb]
      have key : ∀ j : Nat, j ≤ 8 → min ((a.log2 : Int) - 52) ((b.log2 : Int) - 52) = -(52 - j : Nat) →
          ((Ieee.Datum.number false (a <<< (52 - a.log2)) ((a.log2 : Int) - 52)).sum (.number false (b <<< (52 - b.log2)) ((b.log2 : Int) - 52))).map FloatKind.f64.format.write = some (fr ((a + b : Nat) : Int)) := by
        intro j hj hm
        have w1 := t_write ⟨a + b, h⟩ ⟨j, by omega⟩
        dsimp only at w1
        rw [sum_num hm (a <<< (52 - j)) (b <<< (52 - j)) (sh _ (by omega)) (sh _ (by omega)), Option.map_some, sh_add, w1]
      by_cases hl : a.log2 ≤ b.log2
      · exact key a.log2 la (by omega)
      · exact key b.log2 lb (by omega)
theorem add_fr {a b : Nat} (h : a + b < 304) : FloatKind.f64.format.add (fr (a : Int)) (fr (b : Int)) = some (fr ((a + b : Nat) : Int)) := by
  unfold Ieee.Format.add
  rw [t_read ⟨a, by omega⟩, t_read ⟨b, by omega⟩]
  exact sum_dat h
/-- All that later texts know of floats: fl n are the bits of the whole number n. -/
structure Fl (fl : Int → Nat) : Prop where
  zero : fl 0 = 0
  one : fl 1 = 4607182418800017408
  minus : fl (-1) = 13830554455654793216
  add : ∀ a b : Nat, a + b < 304 → FloatKind.f64.format.add (fl a) (fl b) = some (fl ((a + b : Nat) : Int))
  step : ∀ a d : Int, a.natAbs ≤ 303 → d.natAbs ≤ 1 → FloatKind.f64.format.add (fl a) (fl d) = some (fl (a + d))
  int : ∀ a : Nat, a < 304 → floatToIntVal .f64 (fl a) .i64 = some (a : Int)
  abs : ∀ a : Int, a.natAbs ≤ 304 → bits .andNot .u64 (fl a : Nat) 9223372036854775808 = ((fl (a.natAbs : Nat) : Nat) : Int)
theorem fl_ex : ∃ fl : Int → Nat, Fl fl := by
  refine ⟨fr, by decide +kernel, by decide +kernel, by decide +kernel, fun a b h => add_fr h, fun a d ha hd => ?_, fun a ha => t_int ⟨a, ha⟩, fun a ha => ?_⟩
  · have h := t_step ⟨(a + 303).toNat, by omega⟩ ⟨(d + 1).toNat, by omega⟩
    dsimp only at h
    rw [show (((a + 303).toNat : Nat) : Int) - 303 = a by omega, show (((d + 1).toNat : Nat) : Int) - 1 = d by omega] at h
    exact h
  · have h := t_abs ⟨(a + 304).toNat, by omega⟩
    dsimp only at h
    rw [show (((a + 304).toNat : Nat) : Int) - 304 = a by omega] at h
    exact h
noncomputable def fl : Int → Nat := Classical.choose fl_ex
theorem fl_is : Fl fl := Classical.choose_spec fl_ex
end Ph
end Go.Proofs.Ythdgdkjaeebbcaa
