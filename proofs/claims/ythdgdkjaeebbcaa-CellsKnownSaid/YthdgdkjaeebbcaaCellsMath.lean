/-
  Numbers out of bytes, the lowest first. No program, no conditions.
-/
import Derived.WalkKit
namespace Go.Proofs.Ythdgdkjaeebbcaa
set_option maxRecDepth 100000
open Go.RowKit
def leV (l : List Int) : Int := l.foldr (fun b v => b + 256 * v) 0
theorem leV_nil : leV [] = 0 := rfl
theorem leV_cons (b : Int) (l : List Int) : leV (b :: l) = b + 256 * leV l := rfl
theorem leV_snoc (l : List Int) (b : Int) : leV (l ++ [b]) = leV l + 256 ^ l.length * b := by
  induction l with
  | nil => simp [leV]
  | cons c l ih =>
    rw [List.cons_append, leV_cons, leV_cons, ih, List.length_cons, Int.pow_succ, Int.mul_add, Int.mul_comm (256 ^ l.length) 256, Int.mul_assoc]
    omega
theorem leV_bd (l : List Int) (h : ∀ b ∈ l, 0 ≤ b ∧ b ≤ 255) : 0 ≤ leV l ∧ leV l < 256 ^ l.length := by
  induction l with
  | nil => simp [leV]
  | cons c l ih =>
    have h1 := ih fun b hb => h b (by simp [hb])
    have h2 := h c (by simp)
    rw [leV_cons, List.length_cons, Int.pow_succ]
    omega
theorem or_step (k : Nat) (hk : k < 8) (v b : Int) (hv : 0 ≤ v ∧ v < 256 ^ k) (hb : 0 ≤ b ∧ b ≤ 255) : bits .or .u64 v (b * 256 ^ k) = v + 256 ^ k * b := by
  obtain ⟨x, rfl⟩ := Int.eq_ofNat_of_zero_le hv.1
  obtain ⟨y, rfl⟩ := Int.eq_ofNat_of_zero_le hb.1
  have e : ((256 : Int) ^ k) = ((256 ^ k : Nat) : Int) := by simp
  have h256 : (256 : Nat) ^ k = 2 ^ (8 * k) := by rw [Nat.pow_mul]
  have hx : x < 2 ^ (8 * k) := by rw [← h256]; have := hv.2; rw [e] at this; omega
  have hp : 2 ^ (8 * k) ≤ 2 ^ 56 := Nat.pow_le_pow_right (by omega) (by omega)
  have hy : y * 2 ^ (8 * k) ≤ 255 * 2 ^ 56 := Nat.mul_le_mul (by omega) hp
  have hq : (2 : Nat) ^ 56 = 72057594037927936 := by decide
  rw [e, h256]
  have h : bits .or .u64 (x : Int) ((y : Int) * ((2 ^ (8 * k) : Nat) : Int)) = IntKind.u64.wrap ((BitVec.ofInt 64 (x : Int) ||| BitVec.ofInt 64 ((y : Int) * ((2 ^ (8 * k) : Nat) : Int))).toNat : Int) := rfl
  rw [h, BitVec.toNat_or, BitVec.toNat_ofInt, BitVec.toNat_ofInt]
  have e1 : ((x : Int) % ((2 ^ 64 : Nat) : Int)).toNat = x := by
    have : ((x : Int) % ((2 ^ 64 : Nat) : Int)) = x := Int.emod_eq_of_lt (by omega) (by omega)
    rw [this]; rfl
  have e2 : (((y : Int) * ((2 ^ (8 * k) : Nat) : Int)) % ((2 ^ 64 : Nat) : Int)).toNat = 2 ^ (8 * k) * y := by
    rw [← Int.natCast_mul]
    have : (((y * 2 ^ (8 * k) : Nat) : Int) % ((2 ^ 64 : Nat) : Int)) = ((y * 2 ^ (8 * k) : Nat) : Int) := Int.emod_eq_of_lt (by omega) (by omega)
    rw [this, Int.toNat_natCast, Nat.mul_comm]
  rw [e1, e2, Nat.or_comm, ← Nat.two_pow_add_eq_or_of_lt hx, IntKind.wrap_u64]
  have e3 : ((2 ^ (8 * k) * y + x : Nat) : Int) = (x : Int) + ((2 ^ (8 * k) : Nat) : Int) * y := by push_cast; omega
  rw [e3]
  have h9 : 2 ^ (8 * k) * y ≤ 255 * 2 ^ 56 := by rw [Nat.mul_comm]; exact hy
  have h10 : ((2 ^ (8 * k) : Nat) : Int) * (y : Int) = ((2 ^ (8 * k) * y : Nat) : Int) := by push_cast; rfl
  rw [h10]
  omega
theorem or_step2 (k : Nat) (hk : k < 8) (v b : Int) (hv : 0 ≤ v ∧ v < 256 ^ k) (hb : 0 ≤ b ∧ b ≤ 255) : bits .or .u64 v (IntKind.u64.wrap (b * 2 ^ (8 * k))) = v + 256 ^ k * b := by
  have e : (2 : Int) ^ (8 * k) = 256 ^ k := by rw [Int.pow_mul]; rfl
  have hp : (0 : Int) < 256 ^ k := Int.pow_pos (by decide)
  have hp2 : (256 : Int) ^ k ≤ 256 ^ 7 := by
    rcases (by omega : k = 0 ∨ k = 1 ∨ k = 2 ∨ k = 3 ∨ k = 4 ∨ k = 5 ∨ k = 6 ∨ k = 7) with rfl | rfl | rfl | rfl | rfl | rfl | rfl | rfl <;> decide
  have h1 : b * 256 ^ k ≤ 255 * 256 ^ 7 := Int.mul_le_mul hb.2 hp2 (by omega) (by decide)
  have h2 : 0 ≤ b * 256 ^ k := Int.mul_nonneg hb.1 (by omega)
  have h3 : (255 : Int) * 256 ^ 7 = 18374686479671623680 := by decide
  rw [e, IntKind.wrap_u64, Int.emod_eq_of_lt h2 (by omega)]
  exact or_step k hk v b hv hb
end Go.Proofs.Ythdgdkjaeebbcaa
