/-
  Layer 11: the statements' own list of keys of one byte: has, ahead: contracts. Conditions: 100000 at most.
-/
import Derived.Test.YthappjbghlifbaaLruOpen
import Derived.Deep.OwnRows
namespace Go.Proofs.Ythappjbghlifbaa
set_option maxRecDepth 100000
open Go.RowKit Ow Ro K2
set_option linter.unusedVariables false
set_option linter.unusedSimpArgs false
/-- Is a key there? -/
def HasP (xs : List Int) (k : Int) (w : World) (e : Ending) (w' : World) : Prop := ∃ b : Bool, e = .returned (.bool b) ∧ (b = true ↔ k ∈ xs) ∧ w' = w
theorem has_c (a : Option Addr) (n c : Nat) (xs : List Int) (hn : xs.length = n) (h1 : n ≤ 100000) (k : Int) (w : World) (hx : Rd w w.heap.size a (bv xs)) :
    Calls Try.prog 21 #[.slice a n c, .int .u8 k] w (HasP xs k w) := by
  have HN := Lib.hid hn
  have HX := Lib.hid hx
  clear hn hx
  go_enter Try.func21, Try.ntmps21
  go_wp2
  go_loopw [5] (fun i wr => ∃ j : Nat, j ≤ n ∧ i = .int .i64 j ∧ w = wr ∧ Hid (∀ x ∈ xs.take j, x ≠ k)) (fun i _ => n - (intOf i).toNat)
  case atStart => exact ⟨0, Nat.zero_le _, rfl, rfl, Lib.hid (fun x h => by simp at h)⟩
  case round =>
    obtain ⟨j, hj, rfl, rfl, HI⟩ := hrel
    by_cases hlt : j < n
    · have hkx : j < xs.length := by rw [HN.out]; exact hlt
      obtain ⟨ad, rfl, _, hcx⟩ := HX.out (by rw [bv_len]; omega)
      have cx := hcx j _ (bv_get xs j hkx)
      have HT := Lib.hid (List.take_succ_eq_append_getElem hkx)
      have HM := Lib.hid (List.getElem_mem hkx)
      generalize xs[j] = x at *
      clear hcx hkx
      have i1 : (j : Int) < (n : Int) := by omega
      have i2 : (0 : Int) ≤ (j : Int) := by omega
      by_cases he : x = k
      · have i3 : (x == k) = true := by simp [he]
        have HR : Hid (k ∈ xs) := Lib.hid (by rw [← he]; exact HM.out)
        clear he
        go_wp2
        go_ret
        exact ⟨true, rfl, ⟨fun _ => HR.out, fun _ => rfl⟩, rfl⟩
      · have i3 : (x == k) = false := by rw [beq_eq_false_iff_ne]; exact he
        have HI2 : Hid (∀ x ∈ xs.take (j + 1), x ≠ k) := Lib.hid (by
          rw [HT.out]
          intro y hy
          rcases List.mem_append.1 hy with h | h
          · exact HI.out y h
          · rw [List.mem_singleton] at h; rw [h]; exact he)
        clear he
        go_wp2
        go_roundw
        case rel => exact ⟨j + 1, by omega, by go_num, trivial, HI2⟩
        case measure => simp [intOf]; omega
    · have i1 : ¬ (j : Int) < (n : Int) := by omega
      have HR : Hid (¬ k ∈ xs) := Lib.hid (by
        have h := HI.out
        rw [List.take_of_length_le (by rw [HN.out]; omega)] at h
        exact fun h2 => h k h2 rfl)
      go_wp2
      go_ret
      exact ⟨false, rfl, ⟨(fun h => by cases h), fun h => absurd h HR.out⟩, rfl⟩
def aheadL (xs : List Int) (k : Int) : List Int := k :: xs.filter fun x => x != k
set_option maxHeartbeats 1000000 in
theorem ahead_c (a : Option Addr) (n c : Nat) (xs : List Int) (hn : xs.length = n) (h1 : n ≤ 100000) (k : Int) (w : World) (hx : Rd w w.heap.size a (bv xs)) :
    Calls Try.prog 19 #[.slice a n c, .int .u8 k] w fun e w' => ∃ v, e = .returned v ∧ OwnB w v w' (aheadL xs k) := by
  obtain ⟨i0, hi0, hz0, hz1, hz2⟩ := info_parts byte_info
  have HN := Lib.hid hn
  have HX := Lib.hid hx
  have H0 : Hid (OwnB w (.slice (some ⟨w.heap.size, 0, none⟩) 1 1) (w.alloc (.cells #[.int .u8 k] 5)) (aheadL (xs.take 0) k)) := Lib.hid ⟨World.ownsRow_lit (base := w.heap.size) (e := 5) (size := 1) w #[.int .u8 k] 1 (Nat.le_refl _) (by unfold maxLen; omega) rfl, (Below.refl _ _).alloc (Nat.le_refl _) _⟩
  clear hn hx
  go_enter Try.func19, Try.ntmps19
  go_wp2
  go_loopw [5, 6] (fun b i wr => ∃ j : Nat, j ≤ n ∧ i = .int .i64 j ∧ Hid (OwnB w b wr (aheadL (xs.take j) k))) (fun _ i _ => n - (intOf i).toNat)
  case atStart => exact ⟨0, Nat.zero_le _, rfl, H0⟩
  case round =>
    clear H0
    obtain ⟨j, hj, rfl, hO⟩ := hrel
    by_cases hlt : j < n
    · have hkx : j < xs.length := by rw [HN.out]; exact hlt
      obtain ⟨ad, rfl, _, hcx⟩ := (HX.out.below hO.out.below) (by rw [bv_len]; omega)
      have cx := hcx j _ (bv_get xs j hkx)
      have HT := Lib.hid (List.take_succ_eq_append_getElem hkx)
      have HLE : Hid ((aheadL (xs.take j) k).length ≤ j + 1) := Lib.hid (by
        unfold aheadL
        have h2 := List.length_filter_le (fun x => x != k) (xs.take j)
        rw [List.length_take] at h2
        rw [List.length_cons]
        omega)
      generalize xs[j] = x at *
      clear hcx hkx
      have i1 : (j : Int) < (n : Int) := by omega
      have i2 : (0 : Int) ≤ (j : Int) := by omega
      by_cases he : x = k
      · have i3 : (x != k) = false := by simp [he]
        have R : Hid (OwnB w u5 wr (aheadL (xs.take (j + 1)) k)) := Lib.hid (by
          have : aheadL (xs.take (j + 1)) k = aheadL (xs.take j) k := by unfold aheadL; rw [HT.out, List.filter_append]; simp [he]
          rw [this]
          exact hO.out)
        clear he hO
        go_wp2
        go_roundw
        case rel => exact ⟨j + 1, by omega, by go_num, R⟩
        case measure => simp [intOf]; omega
      · have i3 : (x != k) = true := by simp [he]
        have HS : Hid (aheadL (xs.take (j + 1)) k = aheadL (xs.take j) k ++ [x]) := Lib.hid (by unfold aheadL; rw [HT.out, List.filter_append]; simp [he])
        clear he
        go_wp2_with (at_builtin; refine wpList_append_own_at _ rfl (.tmp 21) (.tmp 26) _ rfl w.heap.size 5 i0 _ 1 1 Try.underlying27 hi0 hz0 hz1 hz2 rfl (by decide) _ _ _ rfl (hO.out.own.alloc _) ⟨wr.heap.size, 0, none⟩ 1 1 _ rfl rfl (cell_one_new _ _ _) ?a2 ?a3 ?a4 ?a5 ?_)
        case a2 => intro u hu; simp at hu; subst hu; rfl
        case a3 => have := HLE.out; unfold maxLen; omega
        case a4 => have := HLE.out; omega
        case a5 => have := hO.out.below.size; simp; omega
        intro v1 w1 hown1 hg1 _ hat1
        have R1 := Lib.hid (hO.out.step hown1 rfl hg1)
        clear hown1 hg1 hat1 hO
        go_wp2
        go_roundw
        case rel => exact ⟨j + 1, by omega, by go_num, Lib.hid (by rw [HS.out]; exact R1.out)⟩
        case measure => simp [intOf]; omega
    · have i1 : ¬ (j : Int) < (n : Int) := by omega
      have e3 : xs.take j = xs := List.take_of_length_le (by rw [HN.out]; omega)
      have R : Hid (OwnB w u5 wr (aheadL xs k)) := Lib.hid (by have := hO.out; rwa [e3] at this)
      clear e3 hO
      go_wp2
      go_ret
      exact ⟨_, rfl, R.out⟩
end Go.Proofs.Ythappjbghlifbaa
