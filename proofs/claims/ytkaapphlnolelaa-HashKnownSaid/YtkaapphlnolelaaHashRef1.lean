/-
  Layer 10's document: Sum, cut: contracts. Conditions: none.
-/
import Derived.Test.YtkaapphlnolelaaHashMath
import Derived.Test.YtkaapphlnolelaaRole
import Derived.Test.YtkaapphlnolelaaKitBytes
import Derived.Test.YtkaapphlnolelaaBrief
import Derived.WalkKit
import Derived.WalkSpells
import Derived.WalkLawsBesides
import Derived.Handy
import Derived.WalkMore
import Derived.IntWalk
import Derived.Deep.LoopGhost
import Derived.Lib.Hide
namespace Go.Proofs.Ytkaapphlnolelaa
open Go.RowKit Ow Ro K2 Hm
set_option linter.unusedVariables false
set_option linter.unusedSimpArgs false
def cutN (n high : Int) : Int := if n < 1 then 1 else if high < n then high else n
theorem rt_i10 {k : IntKind} {a b : Int} (h : a = b) : Ending.returned (.int k a) = .returned (.int k b) := by rw [h]
theorem rcut10_any (n high : Int) (w : World) : Calls Try.prog 36 #[.int .i64 n, .int .i64 high] w fun e w' => e = .returned (.int .i64 (cutN n high)) ∧ w = w' := by
  unfold cutN
  by_cases c1 : n < 1
  · rw [if_pos c1]
    go_enter Try.func36, Try.ntmps36
    go_wp2
    go_ret
    exact ⟨rfl, rfl⟩
  · rw [if_neg c1]
    by_cases c2 : high < n
    · rw [if_pos c2]
      go_enter Try.func36, Try.ntmps36
      go_wp2
      go_ret
      exact ⟨rfl, rfl⟩
    · rw [if_neg c2]
      go_enter Try.func36, Try.ntmps36
      go_wp2
      go_ret
      exact ⟨rfl, rfl⟩
theorem stp_is (s : Nat) (k : Int) (hs : s < 4294967296) (h0 : 0 ≤ k) (h1 : k ≤ 255) :
    bits .xor .u64 ((s : Int) % 256) k = (((s % 256) ^^^ k.toNat : Nat) : Int) ∧ (s : Int) - (s : Int) % 256 + (((s % 256) ^^^ k.toNat : Nat) : Int) = ((s ^^^ k.toNat : Nat) : Int) ∧ s ^^^ k.toNat < 4294967296 ∧ ((s ^^^ k.toNat : Nat) : Int) * 16777619 % 4294967296 = (stp s k : Nat) := by
  obtain ⟨b, rfl⟩ : ∃ b : Nat, k = (b : Int) := ⟨k.toNat, by omega⟩
  have hb : b < 256 := by omega
  rw [show ((b : Int)).toNat = b by omega]
  have hx := xor_low s b hb
  have hb32 : b < 4294967296 := by omega
  have hl : s ^^^ b < 4294967296 := by
    have := Nat.xor_lt_two_pow (x := s) (y := b) (n := 32) (by simpa using hs) (by simpa using hb32)
    simpa using this
  refine ⟨?_, ?_, hl, ?_⟩
  · rw [show (s : Int) % 256 = ((s % 256 : Nat) : Int) by omega]
    exact xor64 _ _ (by omega) (by omega)
  · rw [← hx]
    generalize (s % 256) ^^^ b = y
    omega
  · unfold stp
    rw [show ((b : Int)).toNat = b by omega]
    generalize s ^^^ b = y
    omega
set_option maxHeartbeats 2000000 in
theorem rsum10_any (a : Option Addr) (n cp : Nat) (xs : List Int) (hn : xs.length = n) (h1 : n ≤ 1000000) (hb : ∀ b ∈ xs, 0 ≤ b ∧ b ≤ 255) (w : World) (hx : Rd w w.heap.size a (bv xs)) :
    Calls Try.prog 11 #[.slice a n cp] w fun e w' => e = .returned (.int .u32 (fnv xs : Nat)) ∧ w = w' := by
  have HN := Lib.hid hn
  have HX := Lib.hid hx
  have HB := Lib.hid hb
  clear hn hx hb
  go_enter Try.func11, Try.ntmps11
  go_wp2
  go_loopw [3, 4] (fun s i wr => ∃ k : Nat, k ≤ n ∧ i = .int .i64 k ∧ s = .int .u64 (fnv (xs.take k) : Nat) ∧ w = wr) (fun _ i _ => n - (intOf i).toNat)
  case atStart => exact ⟨0, Nat.zero_le _, rfl, by rw [List.take_zero, fnv_nil]; rfl, rfl⟩
  case round =>
    obtain ⟨k, hk, rfl, rfl, rfl⟩ := hrel
    by_cases hlt : k < n
    · have hkx : k < xs.length := by rw [HN.out]; exact hlt
      have HS := Lib.hid (fnv_succ xs k hkx)
      obtain ⟨ad, rfl, _, hc⟩ := HX.out (by rw [bv_len]; omega)
      have hcell : w.cell? (ad.add k) = some (.int .u8 xs[k]) := hc k _ (by unfold bv; rw [List.getElem?_map, List.getElem?_eq_getElem hkx]; rfl)
      obtain ⟨b0, b1⟩ := HB.out _ (List.getElem_mem hkx)
      have hsl := fnv_lt (xs.take k)
      clear hc
      generalize xs[k] = x at *
      generalize fnv (xs.take k) = s at *
      obtain ⟨e1, e2, e3, e4⟩ := stp_is s x hsl b0 b1
      have hl5 := stp_lt s x
      have hy : (s % 256) ^^^ x.toNat < 256 := Nat.xor_lt_two_pow (n := 8) (Nat.mod_lt _ (by decide)) (by omega)
      obtain ⟨r5, hr5⟩ : ∃ r, stp s x = r := ⟨_, rfl⟩
      rw [hr5] at e4 hl5 HS
      generalize (s % 256) ^^^ x.toNat = y at *
      generalize s ^^^ x.toNat = z at *
      clear hr5 hkx
      go_wp2
      go_roundw
      case rel => exact ⟨k + 1, by omega, by go_num, by rw [HS.out, e4], trivial⟩
      case measure => simp [intOf]; omega
    · obtain rfl : k = n := by omega
      have hs := fnv_lt xs
      rw [List.take_of_length_le (by rw [HN.out]; exact Nat.le_refl _)]
      have HW : IntKind.u32.wrap (fnv xs : Nat) = (fnv xs : Nat) := by rw [IntKind.wrap_u32]; omega
      go_wp2
      go_ret
      exact ⟨rt_i10 (by first | exact HW | omega), rfl⟩
end Go.Proofs.Ytkaapphlnolelaa
