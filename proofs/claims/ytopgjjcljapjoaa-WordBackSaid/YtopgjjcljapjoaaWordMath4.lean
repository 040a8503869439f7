/-
  Plain mathematics of layer 1, fourth part: each operation, as it is made bit by bit, is what the document says of it (aluV), wide and narrow. Nothing of the program is named here.
-/
import Derived.Test.YtopgjjcljapjoaaWordMath3
namespace Go.Proofs.Ytopgjjcljapjoaa.Wd
open Go.RowKit

def downV (a n w inn : Int) : Int := downO a n.toNat w.toNat inn w.toNat
theorem downV_bd (a n w inn : Int) (hw : w ≤ 64) (h0 : 0 ≤ inn) (h1 : inn ≤ 1) : 0 ≤ downV a n w inn ∧ downV a n w inn ≤ 18446744073709551615 := downO_le a _ _ inn _ (by omega) h0 h1
theorem lt64 (a : Int) (h : a ≤ 18446744073709551615) : a < 2 ^ 64 := by rw [pow64]; omega
theorem lt32 (a : Int) : a % 4294967296 < 2 ^ 32 := by rw [p32]; omega
theorem addV_mod (a b c : Int) : addV a b c % 2 ^ 64 = addV a b c := by rw [pow64]; unfold addV; omega
theorem wide0 (a b : Int) : addV a b 0 = aluV 0 true a b := by
  rw [← addV_mod, ref0 64 (.inl rfl)]; rfl
theorem wide1 (a b : Int) : addV a (notV b) 1 = aluV 1 true a b := by
  rw [← addV_mod, ref1 64 (.inl rfl)]; rfl
theorem wide8 (a b : Int) : addV 0 (notV a) 1 = aluV 8 true a b := by
  rw [← addV_mod, ref8 64 (.inl rfl)]; rfl
theorem wide2 (a b : Int) (h1 : 0 ≤ a) (h2 : a ≤ 18446744073709551615) : mulO a b 64 = aluV 2 true a b := by
  have e : mulO a b 64 = mulO a b 64 % 2 ^ 64 := by rw [pow64]; unfold mulO; omega
  rw [e, ref2 64 (.inl rfl) a b h1 h2]; rfl
theorem wide3 (a b : Int) (h : 1 ≤ b) : a / b = aluV 3 true a b := (if_neg (show ¬ b = 0 by omega)).symm
theorem wide9 (a b : Int) (h : 1 ≤ b) : a % b = aluV 9 true a b := (if_neg (show ¬ b = 0 by omega)).symm
theorem wide6 (a b : Int) : IntKind.u64.wrap (a * 2 ^ (b % 64).toNat) = aluV 6 true a b := by
  have e : IntKind.u64.wrap (a * 2 ^ (b % 64).toNat) = IntKind.u64.wrap (a * 2 ^ (b % 64).toNat) % 2 ^ 64 := by rw [pow64, IntKind.wrap_u64]; omega
  rw [e, ref6 64 (.inl rfl)]; rfl
theorem wide7 (a b : Int) (h1 : 0 ≤ a) (h2 : a ≤ 18446744073709551615) : downV a (b % 64) 64 0 = aluV 7 true a b := ref7 a _ 64 h1 (lt64 a h2)
theorem wide12 (a b : Int) (h1 : 0 ≤ a) (h2 : a ≤ 18446744073709551615) : downV a (b % 64) 64 (bitV a 63) = aluV 12 true a b := ref12 a _ 64 h1 (lt64 a h2)
theorem thin0 (a b : Int) : addV (a % 4294967296) (b % 4294967296) 0 % 4294967296 = aluV 0 false a b := by
  have := ref0 32 (.inr rfl) (a % 4294967296) (b % 4294967296)
  rw [p32] at this; rw [this, ← p32]; rfl
theorem thin1 (a b : Int) : addV (a % 4294967296) (notV (b % 4294967296)) 1 % 4294967296 = aluV 1 false a b := by
  have := ref1 32 (.inr rfl) (a % 4294967296) (b % 4294967296)
  rw [p32] at this; rw [this, ← p32]; rfl
theorem thin8 (a b : Int) : addV 0 (notV (a % 4294967296)) 1 % 4294967296 = aluV 8 false a b := by
  have := ref8 32 (.inr rfl) (a % 4294967296)
  rw [p32] at this; rw [this, ← p32]; rfl
theorem thin2 (a b : Int) : mulO (a % 4294967296) (b % 4294967296) 64 % 4294967296 = aluV 2 false a b := by
  have := ref2 32 (.inr rfl) (a % 4294967296) (b % 4294967296) (by omega) (by omega)
  rw [p32] at this; rw [this, ← p32]; rfl
theorem small32 (x : Int) (h : 0 ≤ x) (h1 : x < 4294967296) : x % 4294967296 = x := by omega
theorem thin3 (a b : Int) (h : 1 ≤ b % 4294967296) : a % 4294967296 / (b % 4294967296) % 4294967296 = aluV 3 false a b := by
  have hd := IntWalk.tdiv_le (a % 4294967296) (b % 4294967296) (by omega) h
  rw [small32 _ hd.1 (by omega)]
  exact (if_neg (show ¬ b % 4294967296 = 0 by omega)).symm
theorem thin9 (a b : Int) (h : 1 ≤ b % 4294967296) : a % 4294967296 % (b % 4294967296) % 4294967296 = aluV 9 false a b := by
  have hd := remV_bd (a % 4294967296) (b % 4294967296) (by omega) (by omega)
  have e : remV (a % 4294967296) (b % 4294967296) = a % 4294967296 % (b % 4294967296) := if_neg (by omega)
  rw [e] at hd
  rw [small32 _ hd.1 (by omega)]
  exact e.symm
theorem thin3z (a b : Int) (h : b % 4294967296 = 0) : 0 = aluV 3 false a b := (if_pos h).symm
theorem thin9z (a b : Int) (h : b % 4294967296 = 0) : a % 4294967296 = aluV 9 false a b := (if_pos h).symm
theorem wide3z (a : Int) : 0 = aluV 3 true a 0 := rfl
theorem wide9z (a : Int) : a = aluV 9 true a 0 := rfl
theorem thin4 (a b : Int) : orV (a % 4294967296) (b % 4294967296) % 4294967296 = aluV 4 false a b := by
  have := orV_bd (a % 4294967296) (b % 4294967296) 32 (by omega) (by omega) (lt32 a) (lt32 b)
  rw [p32] at this; rw [small32 _ this.1 this.2]; rfl
theorem thin5 (a b : Int) : andV (a % 4294967296) (b % 4294967296) % 4294967296 = aluV 5 false a b := by
  have := andV_bd (a % 4294967296) (b % 4294967296) 32 (by omega) (lt32 b)
  rw [p32] at this; rw [small32 _ this.1 this.2]; rfl
theorem thin10 (a b : Int) : xorV (a % 4294967296) (b % 4294967296) % 4294967296 = aluV 10 false a b := by
  have := xorV_bd (a % 4294967296) (b % 4294967296) 32 (by omega) (by omega) (lt32 a) (lt32 b)
  rw [p32] at this; rw [small32 _ this.1 this.2]; rfl
theorem mod3232 (b : Int) : b % 32 = b % 4294967296 % 32 := by omega
theorem thin6 (a b : Int) : IntKind.u64.wrap (a % 4294967296 * 2 ^ (b % 32).toNat) % 4294967296 = aluV 6 false a b := by
  rw [mod3232]
  have := ref6 32 (.inr rfl) (a % 4294967296 * 2 ^ (b % 4294967296 % 32).toNat)
  rw [p32] at this; rw [this, ← p32]; rfl
theorem thin7 (a b : Int) : downV (a % 4294967296) (b % 32) 32 0 % 4294967296 = aluV 7 false a b := by
  rw [mod3232]
  have e : downV (a % 4294967296) (b % 4294967296 % 32) 32 0 = a % 4294967296 / 2 ^ (b % 4294967296 % 32).toNat := ref7 (a % 4294967296) _ 32 (by omega) (lt32 a)
  have := div_pow_bd (a % 4294967296) (b % 4294967296 % 32).toNat (by omega)
  rw [e, small32 _ this.1 (by omega)]; rfl
theorem thin12 (a b : Int) : downV (a % 4294967296) (b % 32) 32 (bitV (a % 4294967296) 31) % 4294967296 = aluV 12 false a b := by
  rw [mod3232]
  have e : downV (a % 4294967296) (b % 4294967296 % 32) 32 (bitV (a % 4294967296) 31) = sgnW 32 (a % 4294967296) / 2 ^ (b % 4294967296 % 32).toNat % 2 ^ 32 := ref12 (a % 4294967296) _ 32 (by omega) (lt32 a)
  have := mod_bd (sgnW 32 (a % 4294967296) / 2 ^ (b % 4294967296 % 32).toNat) 32
  rw [e, small32 _ this.1 (by rw [← p32]; exact this.2)]; rfl
theorem thin11 (a b : Int) : b % 4294967296 = aluV 11 false a b := rfl
theorem aluV_none (op : Int) (wide : Bool) (a b : Int) (h : aluOk op = false) : aluV op wide a b = 0 := by
  have hn : ¬ (0 ≤ op ∧ op ≤ 12) := by simpa [aluOk] using h
  have g : ∀ w x y, aluG w op x y = 0 := by
    intro w x y; unfold aluG
    iterate 13 rw [if_neg (by omega)]
  unfold aluV; cases wide <;> simp [g]
end Go.Proofs.Ytopgjjcljapjoaa.Wd
