/-
  The statements' kit: Row (n bytes, each another one): contract. Conditions: 1000 bytes at most.
-/
import Derived.Test.YtkaapphlnolelaaKitBytes
namespace Go.Proofs.Ytkaapphlnolelaa
set_option maxRecDepth 100000
open Go.RowKit Ow K2
set_option linter.unusedVariables false
set_option linter.unusedSimpArgs false
def rowB (n : Nat) : List Int := (List.range n).map fun (i : Nat) => (3 + 5 * (i : Int)) % 256
theorem rowB_len (n : Nat) : (rowB n).length = n := by unfold rowB; simp
theorem rowB_succ (n : Nat) : rowB (n + 1) = rowB n ++ [(3 + 5 * (n : Int)) % 256] := by unfold rowB; rw [List.range_succ, List.map_append]; rfl
theorem rowB_ok (n : Nat) : ∀ b ∈ rowB n, 0 ≤ b ∧ b ≤ 255 := by
  intro b hb
  unfold rowB at hb
  obtain ⟨i, _, rfl⟩ := List.mem_map.1 hb
  omega
set_option maxHeartbeats 1000000 in
theorem row_any (n : Nat) (h1 : n ≤ 1000) (w : World) :
    Calls Try.prog 32 #[.int .i64 n] w fun e w' => ∃ v, e = .returned v ∧ OwnB w v w' (rowB n) := by
  obtain ⟨i0, hi0, hz0, hz1, hz2⟩ := info_parts byte_info
  go_enter Try.func32, Try.ntmps32
  go_wp2
  go_loopw [3, 4] (fun b i wr => ∃ k : Nat, k ≤ n ∧ i = .int .i64 k ∧ Hid (OwnB w b wr (rowB k))) (fun _ i _ => n - (intOf i).toNat)
  case atStart => exact ⟨0, Nat.zero_le _, rfl, Lib.hid ⟨World.ownsRow_nil _ _ _ _, Below.refl _ _⟩⟩
  case round =>
    obtain ⟨k, hk, rfl, hO⟩ := hrel
    by_cases hlt : k < n
    · have HLE : Hid ((rowB k).length = k) := Lib.hid (rowB_len k)
      have hu : IntKind.u8.wrap (3 + 5 * (k : Int)) = (3 + 5 * (k : Int)) % 256 := by rw [IntKind.wrap_u8]
      have HSU := Lib.hid (rowB_succ k)
      generalize (3 + 5 * (k : Int)) % 256 = x at *
      go_wp2_with (at_builtin; refine wpList_append_own_at _ rfl (.tmp 10) (.tmp 15) _ rfl w.heap.size 5 i0 _ 1 1 Try.underlying22 hi0 hz0 hz1 hz2 rfl (by decide) _ _ _ rfl (hO.out.own.alloc _) ⟨wr.heap.size, 0, none⟩ 1 1 _ rfl rfl (cell_one_new _ _ _) ?a2 ?a3 ?a4 ?a5 ?_)
      case a2 => intro u hu; simp at hu; subst hu; rfl
      case a3 => have := HLE.out; unfold maxLen; omega
      case a4 => have := HLE.out; omega
      case a5 => have := hO.out.below.size; simp; omega
      intro v1 w1 hown1 hg1 _ hat1
      have R1 : Hid (OwnB w v1 w1 (rowB (k + 1))) := Lib.hid (by rw [HSU.out]; exact hO.out.step hown1 rfl hg1)
      clear hown1 hg1 hat1 hO
      go_wp2
      go_roundw
      case rel => exact ⟨k + 1, by omega, by go_num, R1⟩
      case measure => simp [intOf]; omega
    · obtain rfl : k = n := by omega
      go_wp2
      go_ret
      exact ⟨_, rfl, hO.out⟩
end Go.Proofs.Ytkaapphlnolelaa
