/-
  Texts of layer 5 and of those below it, put together: contracts and plain mathematics that ScalarSets needs.
-/
import Derived.Test.YtcimihckhobniaaGreatZM0
import Derived.Deep.RegionHeld3
import Derived.WalkKit
import Derived.WalkSpells
import Derived.Below
import Derived.Laws.OwnMore
import Derived.Maps.AppendAt
import Derived.Deep.Draws
import Derived.Lib.Hide
import Derived.Handy
namespace Go.Proofs.YtcimihckhobniaaGreat.Wd
open Go.RowKit

def quoV (a b : Int) : Int := if b = 0 then 0 else a / b
def remV (a b : Int) : Int := if b = 0 then a else a % b
/-- P1.1, of numbers of w bits. -/
def aluG (w : Nat) (op a b : Int) : Int :=
  if op = 0 then (a + b) % 2 ^ w else if op = 1 then (a - b) % 2 ^ w else if op = 2 then a * b % 2 ^ w
  else if op = 3 then quoV a b else if op = 9 then remV a b
  else if op = 4 then orV a b else if op = 5 then andV a b else if op = 10 then xorV a b
  else if op = 6 then a * 2 ^ (b % w).toNat % 2 ^ w else if op = 7 then a / 2 ^ (b % w).toNat
  else if op = 12 then sgnW w a / 2 ^ (b % w).toNat % 2 ^ w
  else if op = 8 then (-a) % 2 ^ w else if op = 11 then b else 0
def aluV (op : Int) (wide : Bool) (a b : Int) : Int := if wide then aluG 64 op a b else aluG 32 op (a % 4294967296) (b % 4294967296)
def aluOk (op : Int) : Bool := decide (0 ≤ op ∧ op ≤ 12)
/-- What the program makes of numbers, their sign and their shift. -/
def calcV (op a b s k : Int) : Int :=
  if op = 0 then IntKind.u64.wrap (a + b) else if op = 1 then IntKind.u64.wrap (a - b) else if op = 2 then IntKind.u64.wrap (a * b)
  else if op = 3 then quoV a b else if op = 9 then remV a b
  else if op = 4 then bits .or .u64 a b else if op = 5 then bits .and .u64 a b else if op = 10 then bits .xor .u64 a b
  else if op = 6 then IntKind.u64.wrap (a * 2 ^ k.toNat) else if op = 7 then a / 2 ^ k.toNat
  else if op = 12 then IntKind.u64.wrap (s / 2 ^ k.toNat)
  else if op = 8 then IntKind.u64.wrap (-a) else if op = 11 then b else 0

theorem p32 : (2 : Int) ^ 32 = 4294967296 := by decide
theorem sgn64 (a : Int) (h0 : 0 ≤ a) (h1 : a ≤ 18446744073709551615) : wrap64 a = sgnW 64 a := by
  unfold sgnW bitV wrap64
  have : (2 : Int) ^ (64 - 1) = 9223372036854775808 := by decide
  rw [this, pow64]; omega
theorem sgn32 (a : Int) : wrap64 (wrap32 a) = sgnW 32 (a % 4294967296) := by
  unfold sgnW bitV wrap64 wrap32
  have : (2 : Int) ^ (32 - 1) = 2147483648 := by decide
  rw [this, p32]; omega
theorem mod_mod32 (x : Int) : x % 18446744073709551616 % 4294967296 = x % 4294967296 := by omega
theorem quoV_bd (a b : Int) (h0 : 0 ≤ a) (h3 : 0 ≤ b) : 0 ≤ quoV a b ∧ quoV a b ≤ a := by
  unfold quoV; split
  · omega
  · exact IntWalk.tdiv_le a b h0 (by omega)
theorem remV_bd (a b : Int) (h0 : 0 ≤ a) (h3 : 0 ≤ b) : 0 ≤ remV a b ∧ remV a b ≤ a := by
  unfold remV; split
  · omega
  · refine ⟨Int.emod_nonneg _ (by omega), ?_⟩
    have h1 := Int.mul_ediv_add_emod a b
    have h2 : 0 ≤ b * (a / b) := Int.mul_nonneg (by omega) (Int.ediv_nonneg h0 (by omega))
    omega
theorem div_pow_bd (a : Int) (k : Nat) (h0 : 0 ≤ a) : 0 ≤ a / 2 ^ k ∧ a / 2 ^ k ≤ a :=
  ⟨Int.ediv_nonneg h0 (Int.le_of_lt (two_pow_pos k)), Int.ediv_le_self _ h0⟩

theorem code64 (op a b : Int) (h1 : 0 ≤ a) (h2 : a ≤ 18446744073709551615) (h3 : 0 ≤ b) (h4 : b ≤ 18446744073709551615) :
    calcV op a b (wrap64 a) (b % 64) = aluG 64 op a b := by
  unfold calcV aluG
  simp only [IntKind.wrap_u64, pow64, sgn64 a h1 h2]
  rw [u64_or a b h1 (by omega) h3 (by omega), u64_and a b h1 (by omega) h3 (by omega), u64_xor a b h1 (by omega) h3 (by omega)]
  rfl
theorem code32 (op a b : Int) :
    calcV op (a % 4294967296) (b % 4294967296) (wrap64 (wrap32 a)) (b % 32) % 4294967296 = aluG 32 op (a % 4294967296) (b % 4294967296) := by
  rw [sgn32]
  have ek : b % 32 = b % 4294967296 % 32 := by omega
  rw [ek]
  have ha : 0 ≤ a % 4294967296 ∧ a % 4294967296 < 4294967296 := by omega
  have hb : 0 ≤ b % 4294967296 ∧ b % 4294967296 < 4294967296 := by omega
  generalize a % 4294967296 = A at *
  generalize b % 4294967296 = B at *
  unfold calcV aluG
  simp only [IntKind.wrap_u64, p32]
  rw [u64_or A B ha.1 (by omega) hb.1 (by omega), u64_and A B ha.1 (by omega) hb.1 (by omega), u64_xor A B ha.1 (by omega) hb.1 (by omega)]
  have small : ∀ x : Int, 0 ≤ x ∧ x < 4294967296 → x % 4294967296 = x := fun x h => by omega
  have hq := quoV_bd A B ha.1 hb.1
  have hr := remV_bd A B ha.1 hb.1
  have ho := orV_bd A B 32 ha.1 hb.1 (by rw [p32]; exact ha.2) (by rw [p32]; exact hb.2)
  have hx := xorV_bd A B 32 ha.1 hb.1 (by rw [p32]; exact ha.2) (by rw [p32]; exact hb.2)
  have hn := andV_bd A B 32 hb.1 (by rw [p32]; exact hb.2)
  have hd := div_pow_bd A (B % 32).toNat ha.1
  rw [p32] at ho hx hn
  have itm : ∀ (c : Prop) [Decidable c] (x y m : Int), (if c then x else y) % m = if c then x % m else y % m := fun c _ x y m => by split <;> rfl
  have eo : ((A.toNat ||| B.toNat : Nat) : Int) = orV A B := rfl
  have en : ((A.toNat &&& B.toNat : Nat) : Int) = andV A B := rfl
  have ex : ((A.toNat ^^^ B.toNat : Nat) : Int) = xorV A B := rfl
  rw [eo, en, ex]
  simp only [itm, mod_mod32]
  rw [small (quoV A B) (by omega), small (remV A B) (by omega), small (orV A B) ho, small (andV A B) hn, small (xorV A B) hx, small (A / 2 ^ (B % 32).toNat) (by omega), small B hb]
  rfl

theorem calcV_bd (op a b s k : Int) (h1 : 0 ≤ a) (h2 : a ≤ 18446744073709551615) (h3 : 0 ≤ b) (h4 : b ≤ 18446744073709551615) :
    0 ≤ calcV op a b s k ∧ calcV op a b s k ≤ 18446744073709551615 := by
  have hq := quoV_bd a b h1 h3
  have hr := remV_bd a b h1 h3
  have ho := orV_bd a b 64 h1 h3 (by rw [pow64]; omega) (by rw [pow64]; omega)
  have hx := xorV_bd a b 64 h1 h3 (by rw [pow64]; omega) (by rw [pow64]; omega)
  have hn := andV_bd a b 64 h3 (by rw [pow64]; omega)
  have hd := div_pow_bd a k.toNat h1
  rw [pow64] at ho hx hn
  have eo : bits .or .u64 a b = orV a b := u64_or a b h1 (by omega) h3 (by omega)
  have en : bits .and .u64 a b = andV a b := u64_and a b h1 (by omega) h3 (by omega)
  have ex : bits .xor .u64 a b = xorV a b := u64_xor a b h1 (by omega) h3 (by omega)
  have hw : ∀ x : Int, 0 ≤ IntKind.u64.wrap x ∧ IntKind.u64.wrap x ≤ 18446744073709551615 := fun x => by rw [IntKind.wrap_u64]; omega
  have itp : ∀ (c : Prop) [Decidable c] (x y : Int), (0 ≤ x ∧ x ≤ 18446744073709551615) → (0 ≤ y ∧ y ≤ 18446744073709551615) → (0 ≤ (if c then x else y) ∧ (if c then x else y) ≤ 18446744073709551615) := fun c _ x y hx hy => by split <;> assumption
  unfold calcV
  rw [eo, en, ex]
  refine itp _ _ _ (hw _) (itp _ _ _ (hw _) (itp _ _ _ (hw _) (itp _ _ _ (by omega) (itp _ _ _ (by omega) (itp _ _ _ (by omega) (itp _ _ _ (by omega) (itp _ _ _ (by omega) (itp _ _ _ (hw _) (itp _ _ _ (by omega) (itp _ _ _ (hw _) (itp _ _ _ (hw _) (itp _ _ _ ⟨h3, h4⟩ (by omega)))))))))))))

/-! ### What is made bit by bit -/
/-! ### Comparisons -/
def cmpV (op a b s t : Int) : Bool :=
  if op = 1 then a == b else if op = 5 then a != b else if op = 2 then decide (b < a) else if op = 3 then decide (b ≤ a)
  else if op = 10 then decide (a < b) else if op = 11 then decide (a ≤ b) else if op = 6 then decide (t < s) else if op = 7 then decide (t ≤ s)
  else if op = 12 then decide (s < t) else if op = 13 then decide (s ≤ t) else if op = 4 then andV a b != 0 else false
def jumpV (op : Int) (wide : Bool) (a b : Int) : Bool :=
  if wide then cmpV op a b (sgnW 64 a) (sgnW 64 b) else cmpV op (a % 4294967296) (b % 4294967296) (sgnW 32 (a % 4294967296)) (sgnW 32 (b % 4294967296))
def jumpOk (op : Int) : Bool := decide ((1 ≤ op ∧ op ≤ 7) ∨ (10 ≤ op ∧ op ≤ 13))
end Go.Proofs.YtcimihckhobniaaGreat.Wd
namespace Go.Proofs.YtcimihckhobniaaGreat.Sc
open Tn Sp Wd Go.RowKit
set_option linter.unusedVariables false
set_option linter.unusedSimpArgs false

theorem one_bd {x : C} (hx : mayC x) : 0 ≤ oneC x ∧ oneC x ≤ 18446744073709551615 := by
  have h2 := hx.2.1
  have h3 := hx.2.2
  unfold okU at h2; unfold okS at h3
  unfold oneC
  split
  · omega
  · split
    · exact bi_bd _
    · split
      · exact us_bd _ (by omega) (by omega)
      · omega
/-! ### The parts of an operation -/
section
variable {a b : C} {v w : BitVec 64}
theorem remV_bd (a b : Int) (h0 : 0 ≤ a) (h3 : 0 ≤ b) : 0 ≤ remV a b ∧ remV a b ≤ a := by
  unfold remV; split
  · omega
  · have := Int.emod_nonneg a (show b ≠ 0 by omega)
    refine ⟨this, ?_⟩
    rcases Int.lt_or_le a b with h | h
    · rw [Int.emod_eq_of_lt h0 h]; exact Int.le_refl _
    · have := Int.emod_lt_of_pos a (show 0 < b by omega); omega
end
end Go.Proofs.YtcimihckhobniaaGreat.Sc
namespace Go.Proofs.YtcimihckhobniaaGreat.Wd
open Go.RowKit

end Go.Proofs.YtcimihckhobniaaGreat.Wd
namespace Go.Proofs.YtcimihckhobniaaGreat.Wd
open Go.RowKit
set_option linter.unusedVariables false

/-! ### What is the operation at a width -/
theorem w0 (a b : Int) : aluV 0 true a b = (a + b) % 18446744073709551616 := rfl
theorem n0 (a b : Int) : aluV 0 false a b = (a % 4294967296 + b % 4294967296) % 4294967296 := rfl
theorem w1 (a b : Int) : aluV 1 true a b = (a - b) % 18446744073709551616 := rfl
theorem n1 (a b : Int) : aluV 1 false a b = (a % 4294967296 - b % 4294967296) % 4294967296 := rfl
theorem w2 (a b : Int) : aluV 2 true a b = a * b % 18446744073709551616 := rfl
theorem n2 (a b : Int) : aluV 2 false a b = (a % 4294967296) * (b % 4294967296) % 4294967296 := rfl
theorem w3 (a b : Int) : aluV 3 true a b = quoV a b := rfl
theorem n3 (a b : Int) : aluV 3 false a b = quoV (a % 4294967296) (b % 4294967296) := rfl
theorem w9 (a b : Int) : aluV 9 true a b = remV a b := rfl
theorem n9 (a b : Int) : aluV 9 false a b = remV (a % 4294967296) (b % 4294967296) := rfl
theorem n4 (a b : Int) : aluV 4 false a b = orV (a % 4294967296) (b % 4294967296) := rfl
theorem w5 (a b : Int) : aluV 5 true a b = andV a b := rfl
theorem n5 (a b : Int) : aluV 5 false a b = andV (a % 4294967296) (b % 4294967296) := rfl
theorem n10 (a b : Int) : aluV 10 false a b = xorV (a % 4294967296) (b % 4294967296) := rfl
theorem n8 (a b : Int) : aluV 8 false a b = (-(a % 4294967296)) % 4294967296 := rfl
theorem n11 (a b : Int) : aluV 11 false a b = b % 4294967296 := rfl

/-! ### P1.4 -/
/-! ### Narrow operations -/
/-! ### Shifts, one by one -/
theorem n6 (a b : Int) : aluV 6 false a b = (a % 4294967296) * 2 ^ (b % 4294967296 % 32).toNat % 4294967296 := rfl
theorem n7 (a b : Int) : aluV 7 false a b = (a % 4294967296) / 2 ^ (b % 4294967296 % 32).toNat := rfl
theorem n12 (a b : Int) : aluV 12 false a b = sgnW 32 (a % 4294967296) / 2 ^ (b % 4294967296 % 32).toNat % 4294967296 := rfl
/-! ### Orders -/
def ua (wide : Bool) (a : Int) : Int := if wide then a else a % 4294967296
def sa (wide : Bool) (a : Int) : Int := if wide then sgnW 64 a else sgnW 32 (a % 4294967296)
theorem jv (op : Int) (wide : Bool) (a b : Int) : jumpV op wide a b = cmpV op (ua wide a) (ua wide b) (sa wide a) (sa wide b) := by cases wide <;> rfl
end Go.Proofs.YtcimihckhobniaaGreat.Wd
namespace Go.Proofs.YtcimihckhobniaaGreat.Sc
open Tn Sp Wd Go.RowKit
set_option linter.unusedVariables false
set_option linter.unusedSimpArgs false

section
variable {a b : C} {v w : BitVec 64}
/-! ### What may be -/
/-! ### P5.3 is sound -/
end
end Go.Proofs.YtcimihckhobniaaGreat.Sc
namespace Go.Proofs.YtcimihckhobniaaGreat.Wd
open Go.RowKit

/-- The lowest k of m bytes of v, laid from the highest of m places down. -/
def revO (m v : Nat) : Nat → Nat
  | 0 => 0
  | k + 1 => revO m v k ||| v / 2 ^ (8 * k) % 2 ^ 8 * 2 ^ (8 * (m - 1 - k))
def revN (m v : Nat) : Nat := revO m v m
/-! ### As the library turns them: neighbours, then pairs, then fours -/
/-! ### P1.2 -/
def swapV (n : Int) (high : Bool) (v : Int) : Int :=
  if n = 16 then (if high then ((revN 2 v.toNat : Nat) : Int) else v % 65536)
  else if n = 32 then (if high then ((revN 4 v.toNat : Nat) : Int) else v % 4294967296)
  else if n = 64 then (if high then ((revN 8 v.toNat : Nat) : Int) else v)
  else 0
/-! ### As the walk writes it -/
end Go.Proofs.YtcimihckhobniaaGreat.Wd
namespace Go.Proofs.YtcimihckhobniaaGreat.Sc
open Tn Sp Wd Go.RowKit
set_option linter.unusedVariables false
set_option linter.unusedSimpArgs false

/-! ### Numbers of so many bytes -/
/-! ### P5.4 -/
end Go.Proofs.YtcimihckhobniaaGreat.Sc
namespace Go.Proofs.YtcimihckhobniaaGreat.Sc
open Tn Sp Wd Go.RowKit
set_option linter.unusedVariables false
set_option linter.unusedSimpArgs false

/-! ### One below another -/
def lowE (d : Int) (a b : E) : E := ⟨a.lo, min a.hi (b.hi - d)⟩
def highE (d : Int) (a b : E) : E := ⟨max b.lo (a.lo + d), b.hi⟩
def belowE (lo hi d : Int) (a b : E) : Bool := decide (lo + d ≤ b.hi ∧ a.lo ≤ hi - d ∧ a.lo ≤ min a.hi (b.hi - d) ∧ max b.lo (a.lo + d) ≤ b.hi)
theorem low_with (d : Int) (a b : E) : withE (lowE d a b) a = true := by rw [withE_iff]; unfold lowE; dsimp only; omega
theorem high_with (d : Int) (a b : E) : withE (highE d a b) b = true := by rw [withE_iff]; unfold highE; dsimp only; omega
theorem lowU_ok {lo hi d : Int} {a b : E} (ha : okU a) (h : belowE lo hi d a b = true) : okU (lowE d a b) := by
  have h := of_decide_eq_true h; unfold okU at *; unfold lowE; dsimp only; omega
theorem highU_ok {lo hi d : Int} {a b : E} (hb : okU b) (h : belowE lo hi d a b = true) : okU (highE d a b) := by
  have h := of_decide_eq_true h; unfold okU at *; unfold highE; dsimp only; omega
theorem lowS_ok {lo hi d : Int} {a b : E} (ha : okS a) (h : belowE lo hi d a b = true) : okS (lowE d a b) := by
  have h := of_decide_eq_true h; unfold okS at *; unfold lowE; dsimp only; omega
theorem highS_ok {lo hi d : Int} {a b : E} (hb : okS b) (h : belowE lo hi d a b = true) : okS (highE d a b) := by
  have h := of_decide_eq_true h; unfold okS at *; unfold highE; dsimp only; omega
def lessU (d : Int) (a b : C) : Option (C × C) :=
  if belowE 0 18446744073709551615 d a.u b.u then some (⟨a.t, lowE d a.u b.u, a.s⟩, ⟨b.t, highE d a.u b.u, b.s⟩) else none
def lessS (d : Int) (a b : C) : Option (C × C) :=
  if belowE (-9223372036854775808) 9223372036854775807 d a.s b.s then some (⟨a.t, a.u, lowE d a.s b.s⟩, ⟨b.t, b.u, highE d a.s b.s⟩) else none
def swp2 (x : Option (C × C)) : Option (C × C) := x.map fun p => (p.2, p.1)
/-- What is taught may be and is within what was known. -/
def lessOk (a b : C) (o : Option (C × C)) : Prop := ∀ p q, o = some (p, q) → (mayC p ∧ withC p a = true) ∧ mayC q ∧ withC q b = true
theorem ok_swp {a b : C} {o : Option (C × C)} (h : lessOk a b o) : lessOk b a (swp2 o) := by
  intro p q e
  unfold swp2 at e
  cases o with
  | none => cases e
  | some z =>
    obtain ⟨x, y⟩ := z
    injection e with e
    injection e with e1 e2
    subst e1 e2
    exact And.symm (h _ _ rfl)
section
variable {a b : C} {v w : BitVec 64}
theorem lessU_ok (d : Int) (ha : mayC a) (hb : mayC b) : lessOk a b (lessU d a b) := by
  intro p q e
  unfold lessU at e
  split at e
  · rename_i h
    injection e with e
    injection e with e1 e2
    subst e1 e2
    exact And.intro (And.intro (mk_may ha.1 (lowU_ok ha.2.1 h) ha.2.2) ((withC_iff _ _).2 (And.intro (with_self ha.1) (And.intro (low_with _ _ _) (withE_refl _)))))
      (And.intro (mk_may hb.1 (highU_ok hb.2.1 h) hb.2.2) ((withC_iff _ _).2 (And.intro (with_self hb.1) (And.intro (high_with _ _ _) (withE_refl _)))))
  · cases e
theorem lessS_ok (d : Int) (ha : mayC a) (hb : mayC b) : lessOk a b (lessS d a b) := by
  intro p q e
  unfold lessS at e
  split at e
  · rename_i h
    injection e with e
    injection e with e1 e2
    subst e1 e2
    exact And.intro (And.intro (mk_may ha.1 ha.2.1 (lowS_ok ha.2.2 h)) ((withC_iff _ _).2 (And.intro (with_self ha.1) (And.intro (withE_refl _) (low_with _ _ _)))))
      (And.intro (mk_may hb.1 hb.2.1 (highS_ok hb.2.2 h)) ((withC_iff _ _).2 (And.intro (with_self hb.1) (And.intro (withE_refl _) (high_with _ _ _)))))
  · cases e
/-! ### Both are one number; they are not -/
def meetC (a b : C) : Option C :=
  if meetOk a.t b.t && (metE a.u b.u && metE a.s b.s) then some ⟨meetT a.t b.t, meetE a.u b.u, meetE a.s b.s⟩ else none
def bothC (a b : C) : Option (C × C) := (meetC a b).map fun p => (p, p)
theorem both_ok (ha : mayC a) (hb : mayC b) : lessOk a b (bothC a b) := by
  intro p q e
  unfold bothC meetC at e
  split at e
  · rename_i h
    simp only [Bool.and_eq_true] at h
    injection e with e
    injection e with e1 e2
    subst e1 e2
    have m := mk_may (may_meet a.t b.t) (meetU_ok ha.2.1 h.2.1) (meetS_ok ha.2.2 h.2.2)
    exact And.intro (And.intro m ((withC_iff _ _).2 (And.intro (meet_left ha.1 hb.1 h.1) (And.intro (meetE_left h.2.1) (meetE_left h.2.2)))))
      (And.intro m ((withC_iff _ _).2 (And.intro (meet_right ha.1 hb.1 h.1) (And.intro (meetE_right h.2.1) (meetE_right h.2.2)))))
  · cases e
def woE (a : E) (v : Int) : E := if a.lo = v then ⟨v + 1, a.hi⟩ else if a.hi = v then ⟨a.lo, v - 1⟩ else a
def woC (a : C) (v : Int) : Option C :=
  if (a.u.lo = a.u.hi ∧ a.u.lo = v) ∨ (a.s.lo = a.s.hi ∧ a.s.lo = sg v) then none else some ⟨a.t, woE a.u v, woE a.s (sg v)⟩
theorem wo_with {a : E} {v : Int} : withE (woE a v) a = true := by
  rw [withE_iff]; unfold woE; split
  · dsimp only; omega
  · split
    · dsimp only; omega
    · omega
theorem wo_lo {a : E} {v : Int} (h : a.lo ≤ a.hi) (n : ¬ (a.lo = a.hi ∧ a.lo = v)) : (woE a v).lo ≤ (woE a v).hi := by
  unfold woE; split
  · dsimp only; omega
  · split
    · dsimp only; omega
    · omega
theorem wo_less {p : C} {v : Int} (ha : mayC a) (e : woC a v = some p) : mayC p ∧ withC p a = true := by
  unfold woC at e
  split at e
  · cases e
  · rename_i h
    injection e with e
    subst e
    have w1 := (withE_iff _ _).1 (wo_with (a := a.u) (v := v))
    have w2 := (withE_iff _ _).1 (wo_with (a := a.s) (v := sg v))
    have l1 := wo_lo ha.2.1.2.1 (fun g => h (Or.inl g))
    have l2 := wo_lo ha.2.2.2.1 (fun g => h (Or.inr g))
    refine And.intro (mk_may ha.1 ?_ ?_) ((withC_iff _ _).2 (And.intro (with_self ha.1) (And.intro wo_with wo_with)))
    · have := ha.2.1; unfold okU at *; omega
    · have := ha.2.2; unfold okS at *; omega
/-- Not one number: what is left of a, if b is a number alone, and of b, if a is. -/
def offC (a b : C) : Option (C × C) :=
  match (if aloneC b then woC a (oneC b) else some a), (if aloneC a then woC b (oneC a) else some b) with
  | some p, some q => some (p, q)
  | _, _ => none
theorem off_ok (ha : mayC a) (hb : mayC b) : lessOk a b (offC a b) := by
  intro p q e
  unfold offC at e
  have h1 : ∀ p, (if aloneC b then woC a (oneC b) else some a) = some p → mayC p ∧ withC p a = true := by
    intro p g
    split at g
    · exact wo_less ha g
    · injection g with g; subst g; exact And.intro ha (withC_refl ha)
  have h2 : ∀ q, (if aloneC a then woC b (oneC a) else some b) = some q → mayC q ∧ withC q b = true := by
    intro p g
    split at g
    · exact wo_less hb g
    · injection g with g; subst g; exact And.intro hb (withC_refl hb)
  split at e
  · rename_i x y g1 g2
    injection e with e
    injection e with e1 e2
    subst e1 e2
    exact And.intro (h1 _ g1) (h2 _ g2)
  · cases e
/-! ### No bit of both -/
def noT (a : C) (m : Int) : Option C := if meetOk a.t ⟨0#64, ~~~(BitVec.ofInt 64 m)⟩ then some ⟨meetT a.t ⟨0#64, ~~~(BitVec.ofInt 64 m)⟩, a.u, a.s⟩ else none
def setC (a b : C) : Option (C × C) :=
  match (if aloneC b then noT a (oneC b) else some a), (if aloneC a then noT b (oneC a) else some b) with
  | some p, some q => some (p, q)
  | _, _ => none
theorem no_less {p : C} {m : Int} (ha : mayC a) (e : noT a m = some p) : mayC p ∧ withC p a = true := by
  unfold noT at e
  split at e
  · rename_i h
    injection e with e
    subst e
    exact And.intro (mk_may (may_meet _ _) ha.2.1 ha.2.2) ((withC_iff _ _).2 (And.intro (meet_left ha.1 (may_mask _) h) (And.intro (withE_refl _) (withE_refl _))))
  · cases e
theorem set_ok (ha : mayC a) (hb : mayC b) : lessOk a b (setC a b) := by
  intro p q e
  unfold setC at e
  have h1 : ∀ p, (if aloneC b then noT a (oneC b) else some a) = some p → mayC p ∧ withC p a = true := by
    intro p g
    split at g
    · exact no_less ha g
    · injection g with g; subst g; exact And.intro ha (withC_refl ha)
  have h2 : ∀ q, (if aloneC a then noT b (oneC a) else some b) = some q → mayC q ∧ withC q b = true := by
    intro p g
    split at g
    · exact no_less hb g
    · injection g with g; subst g; exact And.intro hb (withC_refl hb)
  split at e
  · rename_i x y g1 g2
    injection e with e
    injection e with e1 e2
    subst e1 e2
    exact And.intro (h1 _ g1) (h2 _ g2)
  · cases e
end
end Go.Proofs.YtcimihckhobniaaGreat.Sc
namespace Go.Proofs.YtcimihckhobniaaGreat.Sc
open Tn Sp Wd Go.RowKit
set_option linter.unusedVariables false
set_option linter.unusedSimpArgs false

def counterI (op : Int) : Int :=
  if op = 1 then 5 else if op = 5 then 1 else if op = 2 then 11 else if op = 11 then 2 else if op = 3 then 10 else if op = 10 then 3 else if op = 6 then 13 else if op = 13 then 6 else if op = 7 then 12 else if op = 12 then 7 else 0
def learnC (op : Int) (set : Bool) (a b : C) : Option (C × C) :=
  if set then setC a b else if op = 1 then bothC a b else if op = 5 then offC a b
  else if op = 10 then lessU 1 a b else if op = 11 then lessU 0 a b else if op = 2 then swp2 (lessU 1 b a) else if op = 3 then swp2 (lessU 0 b a)
  else if op = 12 then lessS 1 a b else if op = 13 then lessS 0 a b else if op = 6 then swp2 (lessS 1 b a) else if op = 7 then swp2 (lessS 0 b a) else some (a, b)
def signedJ (op : Int) : Bool := decide (op = 6 ∨ op = 7 ∨ op = 12 ∨ op = 13)
def wideJ (op : Int) (a b : C) : Bool := !withC a (uptoC 4) || (!withC b (uptoC 4) || (signedJ op && (decide (2147483648 ≤ a.u.hi) || decide (2147483648 ≤ b.u.hi))))
def normP (p : C × C) : Option (C × C) := match normC p.1, normC p.2 with
  | some x, some y => some (x, y)
  | _, _ => none
def branchC (op : Int) (wide taken : Bool) (a b : C) : Option (C × C) :=
  if jumpOk op = false then some (a, b)
  else if aloneC a && aloneC b then (if jumpV op wide (oneC a) (oneC b) == taken then some (a, b) else none)
  else if !wide && wideJ op a b then some (a, b)
  else (learnC (if taken then op else counterI op) (decide (op = 4) && !taken) a b).bind normP
section
variable {a b : C} {v w : BitVec 64}
theorem same_ok (ha : mayC a) (hb : mayC b) : lessOk a b (some (a, b)) := by
  intro p q e
  injection e with e
  injection e with e1 e2
  subst e1 e2
  exact And.intro (And.intro ha (withC_refl ha)) (And.intro hb (withC_refl hb))
theorem learn_ok (op : Int) (set : Bool) (ha : mayC a) (hb : mayC b) : lessOk a b (learnC op set a b) := by
  unfold learnC
  split
  · exact set_ok ha hb
  · split
    · exact both_ok ha hb
    · split
      · exact off_ok ha hb
      · split
        · exact lessU_ok 1 ha hb
        · split
          · exact lessU_ok 0 ha hb
          · split
            · exact ok_swp (lessU_ok 1 hb ha)
            · split
              · exact ok_swp (lessU_ok 0 hb ha)
              · split
                · exact lessS_ok 1 ha hb
                · split
                  · exact lessS_ok 0 ha hb
                  · split
                    · exact ok_swp (lessS_ok 1 hb ha)
                    · split
                      · exact ok_swp (lessS_ok 0 hb ha)
                      · exact same_ok ha hb
theorem jump_cases {op : Int} (h : jumpOk op = true) : op = 1 ∨ op = 2 ∨ op = 3 ∨ op = 4 ∨ op = 5 ∨ op = 6 ∨ op = 7 ∨ op = 10 ∨ op = 11 ∨ op = 12 ∨ op = 13 := by
  have := of_decide_eq_true h; omega
end
end Go.Proofs.YtcimihckhobniaaGreat.Sc
namespace Go.Proofs.YtcimihckhobniaaGreat
theorem ptA {α : Type} {l : List α} {i : Nat} {x : α} : l.toArray.setIfInBounds i x = (l.set i x).toArray := List.setIfInBounds_toArray l i x
theorem ptB {α : Type} {l : List α} {x y : α} : (x :: l).set 0 y = y :: l := rfl
theorem ptC {α : Type} {l : List α} {i : Nat} {x y : α} : (x :: l).set (i + 1) y = x :: l.set i y := rfl
section
variable {P : Program} {ops : Array Oper} {Q : Exit → Act → World → Prop} {md : Region.Mode} {S : World → Prop}
theorem tq (i : Nat) (v : Value) {o : Oper} {fuel : Nat} {l : Array Bool} {a : Act} {w : World} (hl : ops.toList[i]? = some o)
    (hb : (Region.noSelect ops && Region.free md ops l i && (Region.ready md ops l).contains i) = true)
    (hQ : ∀ c a w, Q (.panic c) (a.put o.dst v) w → Q (.panic c) a w) (hw : Region.wanted o (yielded ops a.tmps) = true) (hS : S w)
    (hy : ∀ w, S w → (execOp a.eval o).run P w = .ok (.value v) w)
    (h : wpAnyH P md ops Q S fuel (l.setIfInBounds i true) (a.put o.dst v) w) : wpAnyH P md ops Q S (fuel + 1) l a w := by
  simp only [Bool.and_eq_true] at hb
  exact wpAnyH_take (Array.getElem?_toList.symm.trans hl) hb.1.1 hb.1.2 hb.2 hQ (Or.inl ⟨hw, hy⟩) hS h
theorem tu (i : Nat) {o : Oper} {fuel : Nat} {l : Array Bool} {a : Act} {w : World} (hl : ops.toList[i]? = some o)
    (hb : (Region.noSelect ops && Region.free md ops l i && (Region.ready md ops l).contains i) = true)
    (hQ : ∀ c a w, Q (.panic c) (a.put o.dst undef) w → Q (.panic c) a w) (hw : Region.wanted o (yielded ops a.tmps) = false) (hS : S w)
    (h : wpAnyH P md ops Q S fuel (l.setIfInBounds i true) (a.put o.dst undef) w) : wpAnyH P md ops Q S (fuel + 1) l a w := by
  simp only [Bool.and_eq_true] at hb
  exact wpAnyH_take (Array.getElem?_toList.symm.trans hl) hb.1.1 hb.1.2 hb.2 hQ (Or.inr ⟨hw, rfl⟩) hS h
theorem tr (i : Nat) {o : Oper} {fuel : Nat} {l : Array Bool} {a : Act} {w : World} {rs : List Nat} (ho : ops.toList[i]? = some o)
    (h : ∀ K' : Act → World → Prop, Shut (∀ a w, S w → (S w → wpAnyH P md ops Q S fuel (l.setIfInBounds i true) a w) → K' a w) → if Region.wanted o (yielded ops a.tmps) = true then Oper.wp P o a w K' Q else K' (a.put o.dst undef) w)
    (hs : AllReadyH P md ops Q S fuel l a w rs) : AllReadyH P md ops Q S fuel l a w (i :: rs) := AllReadyH.cons (Array.getElem?_toList.symm.trans ho) h hs
theorem tc (i : Nat) {o : Oper} {fuel : Nat} {l : Array Bool} {a : Act} {w : World} (ho : ops.toList[i]? = some o) (hr : Region.ready md ops l = [i])
    (h : ∀ K' : Act → World → Prop, Shut (∀ a w, S w → (S w → wpAnyH P md ops Q S fuel (l.setIfInBounds i true) a w) → K' a w) → if Region.wanted o (yielded ops a.tmps) = true then Oper.wp P o a w K' Q else K' (a.put o.dst undef) w) :
    wpAnyH P md ops Q S (fuel + 1) l a w := wpAnyH_ready hr (by simp) (tr i ho h AllReadyH.nil)
end
end Go.Proofs.YtcimihckhobniaaGreat
namespace Go.Proofs.YtcimihckhobniaaGreat
namespace Ow
open Go.RowKit
set_option linter.unusedVariables false

/-- From v in w appends have made v' in w': but for v's own row nothing that was there is changed; v' lies in that row, or in a new one. -/
structure Apd (w w' : World) (v v' : Value) : Prop where
  grown : w.grownBy w' v.ownBlock
  at_ : v'.ownBlock = v.ownBlock ∨ ∃ g, v'.ownBlock = some g ∧ w.heap.size ≤ g

theorem Apd.refl (w : World) (v : Value) : Apd w w v v := ⟨World.grownBy.refl _ _, .inl rfl⟩
theorem Apd.trans {a b c : World} {v v1 v2 : Value} (h : Apd a b v v1) (k : Apd b c v1 v2) : Apd a c v v2 := by
  refine ⟨⟨k.grown.os.trans h.grown.os, k.grown.tape.trans h.grown.tape, k.grown.output.trans h.grown.output, Nat.le_trans h.grown.size k.grown.size, fun j hj hne => ?_⟩, ?_⟩
  · have h1 := h.grown.block j hj hne
    refine (k.grown.block j (Nat.lt_of_lt_of_le hj h.grown.size) ?_).trans h1
    rcases h.at_ with e | ⟨g, e, hg⟩
    · rw [e]; exact hne
    · rw [e]; intro he; injection he with he; omega
  · have hs := h.grown.size
    rcases k.at_ with e | ⟨g, e, hg⟩
    · rcases h.at_ with e' | ⟨g, e', hg⟩
      · exact .inl (e.trans e')
      · exact .inr ⟨g, e.trans e', hg⟩
    · exact .inr ⟨g, e, by omega⟩
theorem Apd.alloc (w : World) (o : Obj) (v : Value) : Apd w (w.alloc o) v v := ⟨World.grownBy_alloc w o _, .inl rfl⟩
theorem Apd.below {B : Nat} {w w' : World} {v v' : Value} (h : Apd w w' v v') (hB : B ≤ w.heap.size) (hv : ∀ k, v.ownBlock = some k → B ≤ k) : Below B w w' :=
  (Below.refl _ _).grown h.grown hB hv
theorem Apd.size {w w' : World} {v v' : Value} (h : Apd w w' v v') : w.heap.size ≤ w'.heap.size := h.grown.size
/-- A block that is not v's own reads as it did. -/
theorem Apd.cell {w w' : World} {v v' : Value} (h : Apd w w' v v') {p : Addr} (hp : p.block < w.heap.size) (hne : v.ownBlock ≠ some p.block) : w'.cell? p = w.cell? p :=
  World.cell?_of_block (h.grown.block p.block hp (fun e => hne e.symm))
theorem Apd.frozen {w w' : World} {v v' : Value} (h : Apd w w' v v') {p : Addr} (hp : p.block < w.heap.size) (hne : v.ownBlock ≠ some p.block) : w'.frozen? p = w.frozen? p :=
  World.frozen?_of_block (h.grown.block p.block hp (fun e => hne e.symm))

section
variable {w w' : World} {base : Nat} {e : TypeId} {size n : Nat} {v : Value} {xs : List Value}
end

/-- The slice at A reads as the cells xs; they lie below block B. -/
def Rd (w : World) (B : Nat) (A : Option Addr) (xs : List Value) : Prop :=
  0 < xs.length → ∃ ad, A = some ad ∧ ad.block < B ∧ ∀ j u, xs[j]? = some u → w.cell? (ad.add j) = some u

theorem add_block (a : Addr) (n : Nat) : (a.add n).block = a.block := by unfold Addr.add; split <;> rfl
section
variable {w w' : World} {B B' : Nat} {A : Option Addr} {xs : List Value}
theorem Rd.nil : Rd w B A [] := fun h => absurd h (by simp)
theorem Rd.keep (h : Rd w B A xs) (hk : ∀ p : Addr, p.block < B → w'.cell? p = w.cell? p) : Rd w' B A xs := fun hx => by
  obtain ⟨ad, e, hb, hc⟩ := h hx
  exact ⟨ad, e, hb, fun j u hu => (hk _ (by rw [add_block]; exact hb)).trans (hc j u hu)⟩
theorem Rd.mono (h : Rd w B A xs) (hB : B ≤ B') : Rd w B' A xs := fun hx => by
  obtain ⟨ad, e, hb, hc⟩ := h hx
  exact ⟨ad, e, by omega, hc⟩
theorem Rd.below (h : Rd w B A xs) (hb : Below B w w') : Rd w' B A xs := h.keep fun _ hp => hb.cell hp
theorem Rd.alloc (h : Rd w B A xs) (hB : B ≤ w.heap.size) (o : Obj) : Rd (w.alloc o) B A xs := h.keep fun p hp => World.cell?_alloc_lt w o p (by omega)
theorem Rd.take (h : Rd w B A xs) (n : Nat) : Rd w B A (xs.take n) := fun hx => by
  rw [List.length_take] at hx
  obtain ⟨ad, e, hb, hc⟩ := h (by omega)
  refine ⟨ad, e, hb, fun j u hu => hc j u ?_⟩
  rw [List.getElem?_take] at hu
  split at hu
  · exact hu
  · cases hu
theorem Rd.at_ (h : Rd w B A xs) {k : Nat} (hk : k < xs.length) : ∃ ad, A = some ad ∧ ad.block < B ∧ w.cell? (ad.add k) = some xs[k] := by
  obtain ⟨ad, e, hb, hc⟩ := h (by omega)
  exact ⟨ad, e, hb, hc k _ (List.getElem?_eq_getElem hk)⟩
end
/-- A block that is known whole. -/
def Bk (w : World) (b : Nat) (t : TypeId) (cs : Array Value) : Prop := w.heap[b]? = some (.cells cs t (0, 0))
section
variable {w w' : World} {b : Nat} {t : TypeId} {cs : Array Value}
theorem Bk.lt (h : Bk w b t cs) : b < w.heap.size := lt_of_block h
theorem Bk.new (w : World) (t : TypeId) (cs : Array Value) : Bk (w.alloc (.cells cs t)) w.heap.size t cs := heap_alloc_new w _
theorem Bk.cell (h : Bk w b t cs) (i : Nat) : w.cell? ⟨b, i, none⟩ = cs[i]? := cell_of_row w b i cs t (0, 0) h
theorem Bk.frozen (h : Bk w b t cs) (i : Nat) : w.frozen? ⟨b, i, none⟩ = false := frozen_of_row w b i cs t h
theorem Bk.drew (h : Bk w b t cs) : Bk w.drew b t cs := h
theorem Bk.below {B : Nat} (h : Bk w b t cs) (hb : Below B w w') (hB : b < B) : Bk w' b t cs := (hb.block b hB).trans h
theorem Bk.alloc (h : Bk w b t cs) (o : Obj) : Bk (w.alloc o) b t cs := (Below.heap_alloc w o b h.lt).trans h
theorem Bk.far (h : Bk w b t cs) {p : Addr} (hp : b ≠ p.block) (u : Value) : Bk (w.setCell p u) b t cs := (Below.heap_setCell w p u b hp).trans h
theorem Bk.set_ (h : Bk w b t cs) (i : Nat) (u : Value) : Bk (w.setCell ⟨b, i, none⟩ u) b t (cs.setIfInBounds i u) := heap_setCell_same w b i cs t u h
end
end Ow
end Go.Proofs.YtcimihckhobniaaGreat
namespace Go.Proofs.YtcimihckhobniaaGreat.Rg
open Go.RowKit Ow
set_option linter.unusedVariables false
def findR (n : Nat) : Code → Option Code
  | .region id ops d => if id = n then some (.region id ops d) else none
  | .loop c => findR n c
  | .seq a b => (findR n a).or (findR n b)
  | .block _ c => findR n c
  | .scope c => findR n c
  | .cond _ a b => (findR n a).or (findR n b)
  | _ => none
theorem bth {B : Nat} {w w1 w2 : World} (h1 : Below B w w1) (h2 : Below w1.heap.size w1 w2) (hB : B ≤ w.heap.size) : Below B w w2 := h1.trans (h2.mono (by have := h1.size; omega))
theorem kc {w0 w1 : World} {p : Addr} {v : Value} (q1 : Below w0.heap.size w0 w1) (h : w0.cell? p = some v) : w1.cell? p = some v :=
  (q1.cell (World.block_lt_of_cell? w0 _ h)).trans h
theorem bkk {w w1 : World} {r : Nat} {t : TypeId} {cs : Array Value} (h : Bk w r t cs) (qb : Below w.heap.size w w1) : Bk w1 r t cs := h.below qb h.lt
theorem grow1 (z : World) (o : Obj) : Below z.heap.size z (z.alloc o) := (Below.refl _ _).alloc (Nat.le_refl _) o
theorem cs2 {w : World} {p : Addr} {d : Nat} {u v : Value} (h : p.block ≠ d) : ((w.setCell ⟨d, 0, none⟩ u).setCell ⟨d, 1, none⟩ v).cell? p = w.cell? p :=
  (World.cell?_setCell_far _ _ _ _ (Ne.symm h)).trans (World.cell?_setCell_far _ _ _ _ (Ne.symm h))
theorem bs2 {B : Nat} {w w1 : World} {d : Nat} {u v : Value} (h : Below B w w1) (hd : B ≤ d) : Below B w ((w1.setCell ⟨d, 0, none⟩ u).setCell ⟨d, 1, none⟩ v) :=
  (h.setCell (p := ⟨d, 0, none⟩) hd u).setCell (p := ⟨d, 1, none⟩) hd v
theorem kp4 {B : Nat} {w W w2 : World} {p0 p1 p2 p3 : Addr} {y0 y1 y2 y3 : Value} (hB : B ≤ w.heap.size) (hb : Below W.heap.size W w2) (hh : W.cell? p0 = some y0 ∧ W.cell? p1 = some y1 ∧ W.cell? p2 = some y2 ∧ W.cell? p3 = some y3 ∧ Below B w W) :
    w2.cell? p0 = some y0 ∧ w2.cell? p1 = some y1 ∧ w2.cell? p2 = some y2 ∧ w2.cell? p3 = some y3 ∧ Below B w w2 := by
  obtain ⟨a0, a1, a2, a3, H⟩ := hh
  exact ⟨kc hb a0, kc hb a1, kc hb a2, kc hb a3, bth H hb hB⟩
theorem ks4 {B d : Nat} {w W : World} {u v : Value} {p0 p1 p2 p3 : Addr} {y0 y1 y2 y3 : Value} (n0 : p0.block ≠ d) (n1 : p1.block ≠ d) (n2 : p2.block ≠ d) (n3 : p3.block ≠ d) (hd : B ≤ d) (hh : W.cell? p0 = some y0 ∧ W.cell? p1 = some y1 ∧ W.cell? p2 = some y2 ∧ W.cell? p3 = some y3 ∧ Below B w W) :
    ((W.setCell ⟨d, 0, none⟩ u).setCell ⟨d, 1, none⟩ v).cell? p0 = some y0 ∧ ((W.setCell ⟨d, 0, none⟩ u).setCell ⟨d, 1, none⟩ v).cell? p1 = some y1 ∧ ((W.setCell ⟨d, 0, none⟩ u).setCell ⟨d, 1, none⟩ v).cell? p2 = some y2 ∧ ((W.setCell ⟨d, 0, none⟩ u).setCell ⟨d, 1, none⟩ v).cell? p3 = some y3 ∧ Below B w ((W.setCell ⟨d, 0, none⟩ u).setCell ⟨d, 1, none⟩ v) := by
  obtain ⟨a0, a1, a2, a3, H⟩ := hh
  exact ⟨(cs2 n0).trans a0, (cs2 n1).trans a1, (cs2 n2).trans a2, (cs2 n3).trans a3, bs2 H hd⟩
end Go.Proofs.YtcimihckhobniaaGreat.Rg
