/-
  Layer 10's program: within, Sum, bits.Len, bytes.Equal: contracts. Conditions: bits.Len below 256.
-/
import Derived.Test.YtkaapphlnolelaaHashTab
import Derived.Laws.BytesArg
import Derived.Lib.Bytes
namespace Go.Proofs.Ytkaapphlnolelaa
set_option maxRecDepth 100000
open Go.RowKit Ow Ro K2 Hm
set_option linter.unusedVariables false
set_option linter.unusedSimpArgs false
theorem max_is (n : Int) : max n 1 = if n < 1 then 1 else n := by omega
theorem within_p (n high : Int) (hh : 1 ≤ high) (w : World) : Calls Try.prog 34 #[.int .i64 n, .int .i64 high] w fun e w' => e = .returned (.int .i64 (cutN n high)) ∧ w = w' := by
  unfold cutN
  go_enter Try.func34, Try.ntmps34
  go_wp2
  all_goals go_ret
  all_goals exact ⟨rt_i10 (by (repeat' split) <;> omega), rfl⟩
theorem stp_p (s : Nat) (k : Int) (hs : s < 4294967296) (h0 : 0 ≤ k) (h1 : k ≤ 255) :
    bits .xor .u32 (s : Int) k = ((s ^^^ k.toNat : Nat) : Int) ∧ s ^^^ k.toNat < 4294967296 ∧ ((s ^^^ k.toNat : Nat) : Int) * 16777619 % 4294967296 = (stp s k : Nat) := by
  obtain ⟨b, rfl⟩ : ∃ b : Nat, k = (b : Int) := ⟨k.toNat, by omega⟩
  have h := stp_is s (b : Int) hs h0 h1
  rw [show ((b : Int)).toNat = b by omega] at h ⊢
  exact ⟨xor32 s b hs (by omega), h.2.2.1, h.2.2.2⟩
set_option maxHeartbeats 2000000 in
theorem sum_p (a : Option Addr) (n cp : Nat) (xs : List Int) (hn : xs.length = n) (h1 : n ≤ 1000000) (hb : ∀ b ∈ xs, 0 ≤ b ∧ b ≤ 255) (w : World) (hx : Rd w w.heap.size a (bv xs)) :
    Calls Try.prog 10 #[.slice a n cp] w fun e w' => e = .returned (.int .u32 (fnv xs : Nat)) ∧ w = w' := by
  have HN := Lib.hid hn
  have HX := Lib.hid hx
  have HB := Lib.hid hb
  clear hn hx hb
  go_enter Try.func10, Try.ntmps10
  go_wp2
  go_loopw [3, 5, 8] (fun s x i wr => ∃ k : Nat, k ≤ n ∧ i = .int .i64 k ∧ s = .int .u32 (fnv (xs.take k) : Nat) ∧ w = wr) (fun _ _ i _ => n - (intOf i).toNat)
  case atStart => exact ⟨0, Nat.zero_le _, rfl, by rw [List.take_zero, fnv_nil]; rfl, rfl⟩
  case round =>
    obtain ⟨k, hk, rfl, rfl, rfl⟩ := hrel
    by_cases hlt : k < n
    · have hkx : k < xs.length := by rw [HN.out]; exact hlt
      have HS := Lib.hid (fnv_succ xs k hkx)
      obtain ⟨ad, rfl, _, hc⟩ := HX.out (by rw [bv_len]; omega)
      have hcell : w.cell? (ad.add k) = some (.int .u8 xs[k]) := hc k _ (by unfold bv; rw [List.getElem?_map, List.getElem?_eq_getElem hkx]; rfl)
      obtain ⟨b0, b1⟩ := HB.out _ (List.getElem_mem hkx)
      have hsl := fnv_lt (xs.take k)
      clear hc
      generalize xs[k] = x at *
      generalize fnv (xs.take k) = s at *
      obtain ⟨e2, e3, e4⟩ := stp_p s x hsl b0 b1
      have hl5 := stp_lt s x
      obtain ⟨r5, hr5⟩ : ∃ r, stp s x = r := ⟨_, rfl⟩
      rw [hr5] at e4 hl5 HS
      generalize s ^^^ x.toNat = z at *
      clear hr5 hkx
      go_wp2
      go_roundw
      case rel => exact ⟨k + 1, by omega, by go_num, by rw [HS.out, e4], trivial⟩
      case measure => simp [intOf]; omega
    · obtain rfl : k = n := by omega
      have hs := fnv_lt xs
      rw [List.take_of_length_le (by rw [HN.out]; exact Nat.le_refl _)]
      go_wp2
      go_ret
      exact ⟨rfl, rfl⟩
def lenTab : ByteArray := { data := #[0, 1, 2, 2, 3, 3, 3, 3, 4, 4, 4, 4, 4, 4, 4, 4, 5, 5, 5, 5, 5, 5, 5, 5, 5, 5, 5, 5, 5, 5, 5, 5, 6, 6, 6, 6, 6, 6, 6, 6, 6, 6, 6, 6, 6, 6, 6, 6, 6, 6, 6, 6, 6, 6, 6, 6, 6, 6, 6, 6, 6, 6, 6, 6, 7, 7, 7, 7, 7, 7, 7, 7, 7, 7, 7, 7, 7, 7, 7, 7, 7, 7, 7, 7, 7, 7, 7, 7, 7, 7, 7, 7, 7, 7, 7, 7, 7, 7, 7, 7, 7, 7, 7, 7, 7, 7, 7, 7, 7, 7, 7, 7, 7, 7, 7, 7, 7, 7, 7, 7, 7, 7, 7, 7, 7, 7, 7, 7, 8, 8, 8, 8, 8, 8, 8, 8, 8, 8, 8, 8, 8, 8, 8, 8, 8, 8, 8, 8, 8, 8, 8, 8, 8, 8, 8, 8, 8, 8, 8, 8, 8, 8, 8, 8, 8, 8, 8, 8, 8, 8, 8, 8, 8, 8, 8, 8, 8, 8, 8, 8, 8, 8, 8, 8, 8, 8, 8, 8, 8, 8, 8, 8, 8, 8, 8, 8, 8, 8, 8, 8, 8, 8, 8, 8, 8, 8, 8, 8, 8, 8, 8, 8, 8, 8, 8, 8, 8, 8, 8, 8, 8, 8, 8, 8, 8, 8, 8, 8, 8, 8, 8, 8, 8, 8, 8, 8, 8, 8, 8, 8, 8, 8, 8, 8, 8, 8, 8, 8, 8, 8, 8, 8, 8, 8, 8, 8] }
def ln8 (x : Nat) : Nat := if x < 1 then 0 else if x < 2 then 1 else if x < 4 then 2 else if x < 8 then 3 else if x < 16 then 4 else if x < 32 then 5 else if x < 64 then 6 else if x < 128 then 7 else 8
theorem tab_size : lenTab.size = 256 := by decide +kernel
theorem tab_all : ∀ i : Fin 256, (lenTab[i.val]'(by rw [tab_size]; exact i.isLt)).toNat = ln8 i.val := by decide +kernel
theorem tab_at (i : Nat) (h : i < lenTab.size) : lenTab[i].toNat = ln8 i := tab_all ⟨i, by rw [tab_size] at h; exact h⟩
theorem ln8_le (x : Nat) : ln8 x ≤ 8 := by unfold ln8; (repeat' split) <;> omega
theorem len64_p (x : Int) (h0 : 0 ≤ x) (h1 : x < 256) (w : World) :
    Calls Try.prog 42 #[.int .u64 x] w fun e w' => e = .returned (.int .i64 (ln8 x.toNat : Nat)) ∧ w = w' := by
  go_enter Try.func42, Try.ntmps42
  go_wp2_with fail
  go_returns
  refine ⟨rt_i10 ?_, rfl⟩
  refine (congrArg (fun (n : Nat) => wrap64 (wrap64 (n : Int))) (tab_at x.toNat (by rw [tab_size]; omega))).trans ?_
  have := ln8_le x.toNat
  have hw : wrap64 ((ln8 x.toNat : Nat) : Int) = ((ln8 x.toNat : Nat) : Int) := by unfold wrap64; omega
  rw [hw, hw]
theorem len_p (x : Int) (h0 : 0 ≤ x) (h1 : x < 256) (w : World) :
    Calls Try.prog 35 #[.int .u64 x] w fun e w' => e = .returned (.int .i64 (ln8 x.toNat : Nat)) ∧ w = w' := by
  have C := Lib.hid (len64_p x h0 h1)
  go_enter Try.func35, Try.ntmps35
  go_wp2_with fail
  refine (C.out _).mono ?_
  rintro e w' ⟨rfl, rfl⟩
  go_wp2
  go_ret
  exact ⟨rfl, rfl⟩
/-! ### Bytes held against one another -/
theorem loads_rd {w : World} {B : Nat} {xs : List Int} {a : Addr} (h : Rd w B (some a) (bv xs)) : (loadCells a xs.length).run Try.prog w = .ok (xs.map (Value.int .u8)).toArray w := by
  have h1 := run_loadCells_list (P := Try.prog) w a (xs.map (Value.int .u8)) (fun j v hj => by
    have hl : 0 < (bv xs).length := by
      have := (List.getElem?_eq_some_iff.1 hj).1
      rw [bv_len]
      rw [List.length_map] at this
      omega
    obtain ⟨ad, e, _, hc⟩ := h hl
    injection e with e
    subst e
    exact hc j v hj)
  rwa [List.length_map] at h1
theorem conv_rd {w : World} {B : Nat} {xs : List Int} {a : Option Addr} {n : Nat} (hn : xs.length = n) (h : Rd w B a (bv xs)) (c : Nat) :
    (convert 22 9 (.slice a n c)).run Try.prog w = .ok (.string (strOfNums xs)) w := by
  subst hn
  rw [run_convert_bytes_string w _ _ 5 a _ c Try.underlying22 Try.underlying5 Try.underlying9]
  cases a with
  | none =>
    have h0 : xs = [] := by
      cases xs with
      | nil => rfl
      | cons x xs => obtain ⟨ad, e, _⟩ := h (by rw [bv_len]; simp); cases e
    subst h0
    simp [Conv.bytesToString]
    rfl
  | some ad =>
    rw [run_bytesToString w ad xs.length c xs (loads_rd h), foldl_push_bytes]
    simp [strOfNums, ByteArray.empty, ByteArray.emptyWithCapacity]
    rfl
theorem str_inj {xs ys : List Int} (hx : ∀ b ∈ xs, 0 ≤ b ∧ b ≤ 255) (hy : ∀ b ∈ ys, 0 ≤ b ∧ b ≤ 255) (h : Lib.bytesOf xs = Lib.bytesOf ys) : xs = ys := by
  have h1 := h
  unfold Lib.bytesOf at h1
  clear h
  induction xs generalizing ys with
  | nil => cases ys with
    | nil => rfl
    | cons y ys => simp at h1
  | cons x xs ih => cases ys with
    | nil => simp at h1
    | cons y ys =>
      rw [List.map_cons, List.map_cons] at h1
      injection h1 with h1 h2
      have a := hx x (by simp)
      have b := hy y (by simp)
      have e := congrArg UInt8.toNat h1
      simp only [UInt8.toNat_ofNat'] at e
      rw [ih (fun z hz => hx z (by simp [hz])) (fun z hz => hy z (by simp [hz])) h2, show x = y by omega]
theorem equal_p (A B : Option Addr) (n m c d : Nat) (xs ys : List Int) (hn : xs.length = n) (hm : ys.length = m) (hbx : ∀ b ∈ xs, 0 ≤ b ∧ b ≤ 255) (hby : ∀ b ∈ ys, 0 ≤ b ∧ b ≤ 255) (w : World) (hx : Rd w w.heap.size A (bv xs)) (hy : Rd w w.heap.size B (bv ys)) :
    Calls Try.prog 44 #[.slice A n c, .slice B m d] w fun e w' => e = .returned (.bool (decide (xs = ys))) ∧ w = w' := by
  have c1 := conv_rd hn hx c
  have c2 := conv_rd hm hy d
  have HE : Hid (((strOfNums xs).toList == (strOfNums ys).toList) = decide (xs = ys)) := Lib.hid (by
    rw [Lib.strOfNums_toList, Lib.strOfNums_toList]
    by_cases e : xs = ys
    · subst e; simp
    · rw [decide_eq_false e, beq_eq_false_iff_ne]
      exact fun h => e (str_inj hbx hby h))
  clear hn hm hbx hby hx hy
  generalize strOfNums xs = s at *
  generalize strOfNums ys = t at *
  go_enter Try.func44, Try.ntmps44
  go_wp2
  go_ret
  exact ⟨rt_b HE.out, rfl⟩
end Go.Proofs.Ytkaapphlnolelaa
