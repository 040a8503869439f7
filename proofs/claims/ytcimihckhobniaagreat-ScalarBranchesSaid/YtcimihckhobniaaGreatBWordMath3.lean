/-
  Plain mathematics of layer 1, third part: what the document says of Alu and Jump (aluV, jumpV), and that both the program's and the bit by bit answer's formulas are it. Nothing of the program is named here.
-/
import Derived.Test.YtcimihckhobniaaGreatBWordMath2
namespace Go.Proofs.YtcimihckhobniaaGreat.Wd
open Go.RowKit

def quoV (a b : Int) : Int := if b = 0 then 0 else a / b
def remV (a b : Int) : Int := if b = 0 then a else a % b
/-- P1.1, of numbers of w bits. -/
def aluG (w : Nat) (op a b : Int) : Int :=
  if op = 0 then (a + b) % 2 ^ w else if op = 1 then (a - b) % 2 ^ w else if op = 2 then a * b % 2 ^ w
  else if op = 3 then quoV a b else if op = 9 then remV a b
  else if op = 4 then orV a b else if op = 5 then andV a b else if op = 10 then xorV a b
  else if op = 6 then a * 2 ^ (b % w).toNat % 2 ^ w else if op = 7 then a / 2 ^ (b % w).toNat
  else if op = 12 then sgnW w a / 2 ^ (b % w).toNat % 2 ^ w
  else if op = 8 then (-a) % 2 ^ w else if op = 11 then b else 0
def aluV (op : Int) (wide : Bool) (a b : Int) : Int := if wide then aluG 64 op a b else aluG 32 op (a % 4294967296) (b % 4294967296)
def aluOk (op : Int) : Bool := decide (0 ≤ op ∧ op ≤ 12)
/-- What the program makes of numbers, their sign and their shift. -/
def calcV (op a b s k : Int) : Int :=
  if op = 0 then IntKind.u64.wrap (a + b) else if op = 1 then IntKind.u64.wrap (a - b) else if op = 2 then IntKind.u64.wrap (a * b)
  else if op = 3 then quoV a b else if op = 9 then remV a b
  else if op = 4 then bits .or .u64 a b else if op = 5 then bits .and .u64 a b else if op = 10 then bits .xor .u64 a b
  else if op = 6 then IntKind.u64.wrap (a * 2 ^ k.toNat) else if op = 7 then a / 2 ^ k.toNat
  else if op = 12 then IntKind.u64.wrap (s / 2 ^ k.toNat)
  else if op = 8 then IntKind.u64.wrap (-a) else if op = 11 then b else 0

theorem p32 : (2 : Int) ^ 32 = 4294967296 := by decide
theorem sgn64 (a : Int) (h0 : 0 ≤ a) (h1 : a ≤ 18446744073709551615) : wrap64 a = sgnW 64 a := by
  unfold sgnW bitV wrap64
  have : (2 : Int) ^ (64 - 1) = 9223372036854775808 := by decide
  rw [this, pow64]; omega
theorem sgn32 (a : Int) : wrap64 (wrap32 a) = sgnW 32 (a % 4294967296) := by
  unfold sgnW bitV wrap64 wrap32
  have : (2 : Int) ^ (32 - 1) = 2147483648 := by decide
  rw [this, p32]; omega
theorem mod_mod32 (x : Int) : x % 18446744073709551616 % 4294967296 = x % 4294967296 := by omega
theorem quoV_bd (a b : Int) (h0 : 0 ≤ a) (h3 : 0 ≤ b) : 0 ≤ quoV a b ∧ quoV a b ≤ a := by
  unfold quoV; split
  · omega
  · exact IntWalk.tdiv_le a b h0 (by omega)
theorem remV_bd (a b : Int) (h0 : 0 ≤ a) (h3 : 0 ≤ b) : 0 ≤ remV a b ∧ remV a b ≤ a := by
  unfold remV; split
  · omega
  · refine ⟨Int.emod_nonneg _ (by omega), ?_⟩
    have h1 := Int.mul_ediv_add_emod a b
    have h2 : 0 ≤ b * (a / b) := Int.mul_nonneg (by omega) (Int.ediv_nonneg h0 (by omega))
    omega
theorem div_pow_bd (a : Int) (k : Nat) (h0 : 0 ≤ a) : 0 ≤ a / 2 ^ k ∧ a / 2 ^ k ≤ a :=
  ⟨Int.ediv_nonneg h0 (Int.le_of_lt (two_pow_pos k)), Int.ediv_le_self _ h0⟩

theorem code64 (op a b : Int) (h1 : 0 ≤ a) (h2 : a ≤ 18446744073709551615) (h3 : 0 ≤ b) (h4 : b ≤ 18446744073709551615) :
    calcV op a b (wrap64 a) (b % 64) = aluG 64 op a b := by
  unfold calcV aluG
  simp only [IntKind.wrap_u64, pow64, sgn64 a h1 h2]
  rw [u64_or a b h1 (by omega) h3 (by omega), u64_and a b h1 (by omega) h3 (by omega), u64_xor a b h1 (by omega) h3 (by omega)]
  rfl
theorem code32 (op a b : Int) :
    calcV op (a % 4294967296) (b % 4294967296) (wrap64 (wrap32 a)) (b % 32) % 4294967296 = aluG 32 op (a % 4294967296) (b % 4294967296) := by
  rw [sgn32]
  have ek : b % 32 = b % 4294967296 % 32 := by omega
  rw [ek]
  have ha : 0 ≤ a % 4294967296 ∧ a % 4294967296 < 4294967296 := by omega
  have hb : 0 ≤ b % 4294967296 ∧ b % 4294967296 < 4294967296 := by omega
  generalize a % 4294967296 = A at *
  generalize b % 4294967296 = B at *
  unfold calcV aluG
  simp only [IntKind.wrap_u64, p32]
  rw [u64_or A B ha.1 (by omega) hb.1 (by omega), u64_and A B ha.1 (by omega) hb.1 (by omega), u64_xor A B ha.1 (by omega) hb.1 (by omega)]
  have small : ∀ x : Int, 0 ≤ x ∧ x < 4294967296 → x % 4294967296 = x := fun x h => by omega
  have hq := quoV_bd A B ha.1 hb.1
  have hr := remV_bd A B ha.1 hb.1
  have ho := orV_bd A B 32 ha.1 hb.1 (by rw [p32]; exact ha.2) (by rw [p32]; exact hb.2)
  have hx := xorV_bd A B 32 ha.1 hb.1 (by rw [p32]; exact ha.2) (by rw [p32]; exact hb.2)
  have hn := andV_bd A B 32 hb.1 (by rw [p32]; exact hb.2)
  have hd := div_pow_bd A (B % 32).toNat ha.1
  rw [p32] at ho hx hn
  have itm : ∀ (c : Prop) [Decidable c] (x y m : Int), (if c then x else y) % m = if c then x % m else y % m := fun c _ x y m => by split <;> rfl
  have eo : ((A.toNat ||| B.toNat : Nat) : Int) = orV A B := rfl
  have en : ((A.toNat &&& B.toNat : Nat) : Int) = andV A B := rfl
  have ex : ((A.toNat ^^^ B.toNat : Nat) : Int) = xorV A B := rfl
  rw [eo, en, ex]
  simp only [itm, mod_mod32]
  rw [small (quoV A B) (by omega), small (remV A B) (by omega), small (orV A B) ho, small (andV A B) hn, small (xorV A B) hx, small (A / 2 ^ (B % 32).toNat) (by omega), small B hb]
  rfl

theorem calcV_bd (op a b s k : Int) (h1 : 0 ≤ a) (h2 : a ≤ 18446744073709551615) (h3 : 0 ≤ b) (h4 : b ≤ 18446744073709551615) :
    0 ≤ calcV op a b s k ∧ calcV op a b s k ≤ 18446744073709551615 := by
  have hq := quoV_bd a b h1 h3
  have hr := remV_bd a b h1 h3
  have ho := orV_bd a b 64 h1 h3 (by rw [pow64]; omega) (by rw [pow64]; omega)
  have hx := xorV_bd a b 64 h1 h3 (by rw [pow64]; omega) (by rw [pow64]; omega)
  have hn := andV_bd a b 64 h3 (by rw [pow64]; omega)
  have hd := div_pow_bd a k.toNat h1
  rw [pow64] at ho hx hn
  have eo : bits .or .u64 a b = orV a b := u64_or a b h1 (by omega) h3 (by omega)
  have en : bits .and .u64 a b = andV a b := u64_and a b h1 (by omega) h3 (by omega)
  have ex : bits .xor .u64 a b = xorV a b := u64_xor a b h1 (by omega) h3 (by omega)
  have hw : ∀ x : Int, 0 ≤ IntKind.u64.wrap x ∧ IntKind.u64.wrap x ≤ 18446744073709551615 := fun x => by rw [IntKind.wrap_u64]; omega
  have itp : ∀ (c : Prop) [Decidable c] (x y : Int), (0 ≤ x ∧ x ≤ 18446744073709551615) → (0 ≤ y ∧ y ≤ 18446744073709551615) → (0 ≤ (if c then x else y) ∧ (if c then x else y) ≤ 18446744073709551615) := fun c _ x y hx hy => by split <;> assumption
  unfold calcV
  rw [eo, en, ex]
  refine itp _ _ _ (hw _) (itp _ _ _ (hw _) (itp _ _ _ (hw _) (itp _ _ _ (by omega) (itp _ _ _ (by omega) (itp _ _ _ (by omega) (itp _ _ _ (by omega) (itp _ _ _ (by omega) (itp _ _ _ (hw _) (itp _ _ _ (by omega) (itp _ _ _ (hw _) (itp _ _ _ (hw _) (itp _ _ _ ⟨h3, h4⟩ (by omega)))))))))))))

/-! ### What is made bit by bit -/
/-! ### Comparisons -/
def cmpV (op a b s t : Int) : Bool :=
  if op = 1 then a == b else if op = 5 then a != b else if op = 2 then decide (b < a) else if op = 3 then decide (b ≤ a)
  else if op = 10 then decide (a < b) else if op = 11 then decide (a ≤ b) else if op = 6 then decide (t < s) else if op = 7 then decide (t ≤ s)
  else if op = 12 then decide (s < t) else if op = 13 then decide (s ≤ t) else if op = 4 then andV a b != 0 else false
def jumpV (op : Int) (wide : Bool) (a b : Int) : Bool :=
  if wide then cmpV op a b (sgnW 64 a) (sgnW 64 b) else cmpV op (a % 4294967296) (b % 4294967296) (sgnW 32 (a % 4294967296)) (sgnW 32 (b % 4294967296))
def jumpOk (op : Int) : Bool := decide ((1 ≤ op ∧ op ≤ 7) ∨ (10 ≤ op ∧ op ≤ 13))
end Go.Proofs.YtcimihckhobniaaGreat.Wd
