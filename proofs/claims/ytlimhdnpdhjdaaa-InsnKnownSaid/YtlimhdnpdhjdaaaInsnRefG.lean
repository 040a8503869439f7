/-
  What the document's answer of layer 2 reads off bytes (signed): contract. Conditions: two, four or eight bytes.
-/
import Derived.Test.YtlimhdnpdhjdaaaInsnRefs
import Derived.Test.YtlimhdnpdhjdaaaKitInsns2
import Derived.Test.YtlimhdnpdhjdaaaInsnGets
namespace Go.Proofs.Ytlimhdnpdhjdaaa
open Go.RowKit Wi Ow
set_option linter.unusedVariables false
set_option linter.unusedSimpArgs false

/-- So many bytes as a number with its sign. -/
def sgV (xs : List Int) : Int := if xs.length = 2 then s16 (leN xs) else if xs.length = 4 then s32 (leN xs) else s64 (leN xs)
theorem s64_step (a b : Int) : wrap64 (wrap64 (s64 a * 256) + b) = s64 (b + 256 * a) := by unfold wrap64 s64; omega
theorem leN_drop (xs : List Int) (k : Nat) (hk : k < xs.length) : leN (xs.drop k) = xs[k] + 256 * leN (xs.drop (k + 1)) := by
  rw [List.drop_eq_getElem_cons hk]; rfl
theorem sg_end2 (a b : Int) (ha : 0 ≤ a ∧ a ≤ 255) (hb : 0 ≤ b ∧ b ≤ 255) : s16 (leN [a, b]) = if 128 ≤ b then s64 (leN [a, b]) - 65536 else s64 (leN [a, b]) := by
  simp only [leN]; unfold s16 s64; split <;> omega
theorem sg_end4 (a b c d : Int) (ha : 0 ≤ a ∧ a ≤ 255) (hb : 0 ≤ b ∧ b ≤ 255) (hc : 0 ≤ c ∧ c ≤ 255) (hd : 0 ≤ d ∧ d ≤ 255) : s32 (leN [a, b, c, d]) = if 128 ≤ d then s64 (leN [a, b, c, d]) - 4294967296 else s64 (leN [a, b, c, d]) := by
  simp only [leN]; unfold s32 s64; split <;> omega
set_option maxHeartbeats 1000000 in
theorem signed_loop (A : Option Addr) (n c : Nat) (xs : List Int) (hn : xs.length = n) (h8 : n = 2 ∨ n = 4 ∨ n = 8) (hx : isB xs) (w : World) (hr : Rd w w.heap.size A (bv xs)) :
    Calls Try.prog 45 #[.slice A n c] w fun e w' => e = .returned (.int .i64 (sgV xs)) ∧ w = w' := by
  obtain ⟨ad, rfl, hab, hcl⟩ := hr (by rw [bv_len]; omega)
  have HCL := Lib.hid hcl
  have HN := Lib.hid hn
  have HX := Lib.hid hx
  clear hcl hn hx
  have hn8 : n ≤ 8 := by omega
  have hn1 : 2 ≤ n := by omega
  have H8 := Lib.hid h8
  clear h8
  go_enter Try.func45, Try.ntmps45
  go_wp2
  go_loop [3, 4] (fun v i => ∃ k : Nat, k ≤ n ∧ i = .int .i64 ((k : Int) - 1) ∧ v = .int .i64 (s64 (leN (xs.drop k)))) (fun _ i => (intOf i + 1).toNat)
  case atStart => exact ⟨n, Nat.le_refl _, rfl, by rw [List.drop_eq_nil_of_le (by rw [HN.out]; omega)]; rfl⟩
  case round =>
    obtain ⟨k, hk, rfl, rfl⟩ := hrel
    by_cases h0 : k = 0
    · subst h0
      have e : (((0 : Nat) : Int) - 1) = -1 := rfl
      rw [e, List.drop_zero]
      have HVV := Lib.hid (Eq.refl (sgV xs))
      obtain ⟨l, hl⟩ : ∃ l, l = s64 (leN xs) := ⟨_, rfl⟩
      rw [← hl]
      have HLL := Lib.hid hl
      clear hl e
      rcases H8.out with h | h | h
      · subst h
        obtain ⟨p, q, rfl⟩ : ∃ p q, xs = [p, q] := by
          have h2 := HN.out
          match xs, h2 with
          | [p, q], _ => exact ⟨p, q, rfl⟩
        have q0 := HX.out p (by simp)
        have q1 := HX.out q (by simp)
        have hc : w.cell? ⟨ad.block, ad.off + 1, none⟩ = some (.int .u8 q) := HCL.out 1 _ rfl
        have HG := Lib.hid (sg_end2 p q q0 q1)
        have hl1 : 0 ≤ l ∧ l < 65536 := by rw [HLL.out]; simp only [leN]; unfold s64; omega
        by_cases hbig : 128 ≤ q
        · go_wp2
          go_ret
          exact ⟨rt_i (by rw [show sgV [p, q] = _ from HG.out, if_pos hbig, ← HLL.out]), rfl⟩
        · go_wp2
          go_ret
          exact ⟨rt_i (by rw [show sgV [p, q] = _ from HG.out, if_neg (by omega), ← HLL.out]), rfl⟩
      · subst h
        obtain ⟨p, q, r, s, rfl⟩ : ∃ p q r s, xs = [p, q, r, s] := by
          have h2 := HN.out
          match xs, h2 with
          | [p, q, r, s], _ => exact ⟨p, q, r, s, rfl⟩
        have q0 := HX.out p (by simp)
        have q1 := HX.out q (by simp)
        have q2 := HX.out r (by simp)
        have q3 := HX.out s (by simp)
        have hc : w.cell? ⟨ad.block, ad.off + 3, none⟩ = some (.int .u8 s) := HCL.out 3 _ rfl
        have HG := Lib.hid (sg_end4 p q r s q0 q1 q2 q3)
        have hl1 : 0 ≤ l ∧ l < 4294967296 := by rw [HLL.out]; simp only [leN]; unfold s64; omega
        by_cases hbig : 128 ≤ s
        · go_wp2
          go_ret
          exact ⟨rt_i (by rw [show sgV [p, q, r, s] = _ from HG.out, if_pos hbig, ← HLL.out]), rfl⟩
        · go_wp2
          go_ret
          exact ⟨rt_i (by rw [show sgV [p, q, r, s] = _ from HG.out, if_neg (by omega), ← HLL.out]), rfl⟩
      · subst h
        go_wp2
        go_ret
        have hs : sgV xs = s64 (leN xs) := by unfold sgV; rw [HN.out]; rfl
        exact ⟨rt_i (by rw [hs]; exact HLL.out), rfl⟩
    · obtain ⟨j, rfl⟩ : ∃ j, k = j + 1 := ⟨k - 1, by omega⟩
      have e : (((j + 1 : Nat) : Int) - 1) = (j : Int) := by omega
      rw [e]
      have hjl : j < xs.length := by rw [HN.out]; omega
      have hc := HCL.out j _ (bv_get xs j hjl)
      have hb := HX.out xs[j] (List.getElem_mem hjl)
      have HD := Lib.hid (leN_drop xs j hjl)
      generalize xs[j] = b at *
      clear hjl e h0
      have hjn : j < n := by omega
      go_wp2
      go_round
      case rel => exact ⟨j, by omega, rfl, by rw [HD.out, s64_step]⟩
      case measure => simp [intOf]
end Go.Proofs.Ytlimhdnpdhjdaaa
