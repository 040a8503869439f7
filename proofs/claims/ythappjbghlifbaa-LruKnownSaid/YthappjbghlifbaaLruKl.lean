/-
  Layer 11: maps that are filled one by one: mathematics; the map and a key: contracts. No conditions.
-/
import Derived.Test.YthappjbghlifbaaLruAll
namespace Go.Proofs.Ythappjbghlifbaa
set_option maxRecDepth 100000
open Go.RowKit Ow Ro K2
set_option linter.unusedVariables false
set_option linter.unusedSimpArgs false
/-- Key number i. -/
def keyK (n i : Nat) : List Int := (List.replicate n (0 : Int)).set 0 (i : Int)
def rowsK (n : Nat) : Nat → KO
  | 0 => []
  | k + 1 => (keyK n k, (k : Int)) :: rowsK n k
/-- The keys behind k Puts, m at most. -/
def ordK (n m k : Nat) : KO := (rowsK n k).take m
theorem rowsK_len (n k : Nat) : (rowsK n k).length = k := by
  induction k with
  | zero => rfl
  | succ k ih => unfold rowsK; rw [List.length_cons, ih]
theorem keyK_len (n i : Nat) : (keyK n i).length = n := by unfold keyK; simp
theorem keyK_by (n i : Nat) (hi : i ≤ 255) : ∀ b ∈ keyK n i, 0 ≤ b ∧ b ≤ 255 := fun b hb => by
  unfold keyK at hb
  rcases List.mem_or_eq_of_mem_set hb with h | h
  · rw [List.eq_of_mem_replicate h]; omega
  · omega
theorem keyK_inj {n i j : Nat} (hn : 1 ≤ n) (h : keyK n i = keyK n j) : i = j := by
  obtain ⟨m, rfl⟩ : ∃ m, n = m + 1 := ⟨n - 1, by omega⟩
  unfold keyK at h
  rw [List.replicate_succ, List.set_cons_zero, List.set_cons_zero] at h
  injection h with h _
  omega
theorem rowsK_mem {n k : Nat} {e : List Int × Int} (h : e ∈ rowsK n k) : ∃ i, i < k ∧ e.1 = keyK n i := by
  induction k with
  | zero => cases h
  | succ k ih =>
    unfold rowsK at h
    rcases List.mem_cons.1 h with rfl | h
    · exact ⟨k, by omega, rfl⟩
    · obtain ⟨i, hi, he⟩ := ih h
      exact ⟨i, by omega, he⟩
theorem rowsK_last (n k : Nat) : rowsK n (k + 1) = (rowsK n (k + 1)).dropLast ++ [(keyK n 0, 0)] := by
  induction k with
  | zero => rfl
  | succ k ih =>
    have e : rowsK n (k + 1 + 1) = (keyK n (k + 1), ((k + 1 : Nat) : Int)) :: rowsK n (k + 1) := rfl
    rw [e, ih]
    generalize (rowsK n (k + 1)).dropLast = l
    rw [← List.cons_append, List.dropLast_concat]
theorem ordK_put {n m k : Nat} (hn : 1 ≤ n) (hm : 1 ≤ m) (hk : k ≤ m) :
    aput (n : Nat) (m : Nat) (ordK n m k) (keyK n k) (k : Nat) = (if k = m then (keyK n 0, 0) else ([], 0), 0, ordK n m (k + 1)) := by
  have hg : ¬ (aget (ordK n m k) (keyK n k)).isSome = true := by
    unfold aget
    cases hf : (ordK n m k).find? fun e => e.1 == keyK n k with
    | none => simp
    | some e =>
      exfalso
      have h1 := List.find?_some hf
      have h2 := List.mem_of_find?_eq_some hf
      unfold ordK at h2
      obtain ⟨i, hi, he⟩ := rowsK_mem (List.mem_of_mem_take h2)
      rw [he, beq_iff_eq] at h1
      have := keyK_inj hn h1
      omega
  have hl : (ordK n m k).length = k := by unfold ordK; rw [List.length_take, rowsK_len]; omega
  have h0 : ordK n m k = rowsK n k := by unfold ordK; rw [List.take_of_length_le (by rw [rowsK_len]; exact hk)]
  unfold aput
  rw [if_pos (by rw [keyK_len]), if_neg hg, hl]
  by_cases h : k = m
  · subst h
    rw [if_pos rfl, if_pos rfl]
    obtain ⟨j, rfl⟩ : ∃ j, k = j + 1 := ⟨k - 1, by omega⟩
    have hL := rowsK_last n j
    have e2 : ordK n (j + 1) (j + 1 + 1) = (keyK n (j + 1), ((j + 1 : Nat) : Int)) :: (rowsK n (j + 1)).dropLast := by
      unfold ordK
      show ((keyK n (j + 1), ((j + 1 : Nat) : Int)) :: rowsK n (j + 1)).take (j + 1) = _
      rw [List.take_succ_cons, List.dropLast_eq_take, rowsK_len]
      rfl
    rw [e2, h0]
    congr 1
    rw [hL, List.getLast?_concat]
    rfl
  · rw [if_neg (by omega), if_neg h, h0]
    congr 2
    unfold ordK
    rw [List.take_of_length_le (by rw [rowsK_len]; omega)]
    rfl
theorem ordK_len (n m : Nat) : (ordK n m (m + 1)).length = m := by unfold ordK; rw [List.length_take, rowsK_len]; omega
/-! ### The map and a key -/
def KN (w : World) (X : Nat) (K M : Int) (o : KO) (z : World) : Prop := ∃ A, Lay w A z ∧ PL 0 A X K M o
def KNR (w : World) (X : Nat) (K M : Int) (o : KO) (v : Value) (ks : List Int) (z : World) : Prop := ∃ A, Lay w A z ∧ PL 0 A X K M o ∧ Row A (80, 0) 5 1 v ks.length (bv ks)
section
variable {w z z' : World} {X : Nat} {K M : Int} {o : KO} {v : Value} {ks : List Int}
theorem KN.grow (h : KN w X K M o z) (hb : Below z.heap.size z z') : KN w X K M o z' := by
  obtain ⟨A, h1, h2⟩ := h
  exact ⟨A, h1.grow hb, h2⟩
theorem KN.below (h : KN w X K M o z) : Below w.heap.size w z := by
  obtain ⟨A, h1, _⟩ := h
  exact h1.below
theorem KN.row (h : KN w X K M o z) (hb : Below z.heap.size z z') (ho : z'.ownsRow z.heap.size 5 1 v ks.length (bv ks)) : KNR w X K M o v ks z' := by
  obtain ⟨A, h1, h2⟩ := h
  obtain ⟨A2, l2, r2, f2⟩ := h1.newRow (80, 0) hb ho (Nat.le_refl _)
  exact ⟨A2, l2, h2.keep (f2 _ (by simp)) (f2 _ (by simp)), r2⟩
theorem KN.lit (h : KN w X K M o z) (b : Int) : KNR w X K M o (.slice (some ⟨z.heap.size, 0, none⟩) 1 1) [b] (z.alloc (.cells #[.int .u8 b] 5)) := by
  obtain ⟨A, h1, h2⟩ := h
  obtain ⟨A1, l1, k1, f1⟩ := lit_new h1 0 b
  exact ⟨A1, l1, h2.keep (f1 _ (by simp)) (f1 _ (by simp)), k1⟩
theorem KNR.set0 {ad : Addr} {n : Nat} (h : KNR w X K M o (.slice (some ad) n n) (List.replicate n 0) z) (hn : 1 ≤ n) (i : Nat) :
    (z.cell? ad).isSome = true ∧ z.frozen? ad = false ∧ KNR w X K M o (.slice (some ad) n n) (keyK n i) (z.setCell ad (.int .u8 (i : Nat))) := by
  obtain ⟨A, h1, h2, h3⟩ := h
  rw [List.length_replicate] at h3
  obtain ⟨g, rfl⟩ := own_ad (h3.own h1)
  have hat := own_at (h3.own h1) 0 (by omega)
  obtain ⟨A3, l3, r3, f3⟩ := h3.put h1 0 (.int .u8 (i : Nat))
  rw [add_zero_at] at hat l3
  refine ⟨by rw [hat.1, List.getElem?_eq_getElem (by rw [bv_len, List.length_replicate]; omega)]; rfl, hat.2, A3, l3, h2.keep (f3 _ (by simp)) (f3 _ (by simp)), ?_⟩
  rw [keyK_len]
  have e : bv (keyK n i) = (bv (List.replicate n 0)).set 0 (.int .u8 (i : Nat)) := by unfold keyK bv; rw [List.map_set]
  rw [e]
  exact r3
theorem KNR.put {a : Option Addr} {n c : Nat} (h : KNR w X K M o (.slice a n c) ks z) (hn : ks.length = n) (hby : ∀ x ∈ ks, 0 ≤ x ∧ x ≤ 255) (ce : Int) :
    Calls Try.prog 17 #[.pointer (some ⟨X, 0, none⟩), .slice a n c, .int .i64 ce] z fun e z' => ∃ ua uc, e = putV (.slice ua (aput K M o ks ce).1.1.length uc) (aput K M o ks ce).1.2 (aput K M o ks ce).2.1 ∧ KN w X K M (aput K M o ks ce).2.2 z' := by
  obtain ⟨A, l, h2, h3⟩ := h
  rw [hn] at h3
  refine (pput_c l h2 a n c ks hn hby (KDp.of (h3.reads (w0 := w)) (by simp) (by simp) (by simp) (by simp)) ce).mono fun e z' q => ?_
  obtain ⟨u, A', he, l2, p2, g2, f2⟩ := q
  obtain ⟨ua, uc, rfl⟩ := g2.form
  exact ⟨ua, uc, he, A', l2, p2⟩
theorem KN.size (h : KN w X K M o z) (a : Option Addr) (n c : Nat) (hn : ¬ (n : Int) = K) (ce : Int) :
    Calls Try.prog 17 #[.pointer (some ⟨X, 0, none⟩), .slice a n c, .int .i64 ce] z fun e z' => ∃ ua uc, e = putV (.slice ua 0 uc) 0 14 ∧ KN w X K M o z' := by
  obtain ⟨A, l, h2⟩ := h
  refine (pput_size l h2 a n c ce hn).mono fun e z' q => ?_
  obtain ⟨u, A', he, l2, p2, g2, f2⟩ := q
  obtain ⟨ua, uc, rfl⟩ := g2.form
  exact ⟨ua, uc, he, A', l2, p2⟩
theorem KNR.del {a : Option Addr} {n c : Nat} (h : KNR w X K M o (.slice a n c) ks z) (hn : ks.length = n) (hby : ∀ x ∈ ks, 0 ≤ x ∧ x ≤ 255) :
    Calls Try.prog 23 #[.pointer (some ⟨X, 0, none⟩), .slice a n c] z fun e z' => e = .returned (agetV (aget o ks)) ∧ KN w X K M (awo o ks) z' := by
  obtain ⟨A, l, h2, h3⟩ := h
  rw [hn] at h3
  refine (pdel_c l h2 a n c ks hn hby ((h3.reads (w0 := w)).rd l)).mono fun e z' q => ?_
  obtain ⟨he, A', l2, p2, f2⟩ := q
  exact ⟨he, A', l2, p2⟩
theorem KN.plen (h : KN w X K M o z) : Calls Try.prog 11 #[.pointer (some ⟨X, 0, none⟩)] z fun e z' => e = .returned (.int .i64 (o.length : Nat)) ∧ z' = z := by
  obtain ⟨A, h1, h2⟩ := h
  exact plen_c h1 h2
theorem KN.new (w : World) (a b : Int) : Calls Try.prog 7 #[.int .i64 a, .int .i64 b] w fun e w' => ∃ X, e = .returned (.pointer (some ⟨X, 0, none⟩)) ∧ KN w X (max 1 (min a 16)) (max 1 (min b 64)) [] w' := by
  refine (pnew_c 0 (Lay.start w) a b).mono fun e w' q => ?_
  obtain ⟨X, he, A', l, p, f⟩ := q
  exact ⟨X, he, A', l, p⟩
end
def kA : KO := [([97], 1), ([99], 3)]
theorem ka1 : aput 1 2 [] [99] 3 = (([], 0), 0, [([99], 3)]) := by kernel_rfl
theorem ka2 : aput 1 2 [([99], 3)] [97] 1 = (([], 0), 0, kA) := by kernel_rfl
theorem ka3 : aput 1 2 kA [97] 9 = (([], 0), 11, kA) := by kernel_rfl
theorem ka4 : aget kA [97] = some 1 := by kernel_rfl
theorem ka5 : awo kA [97] = [([99], 3)] := by kernel_rfl
theorem ka6 : aget [([99], 3)] [97] = none := by kernel_rfl
theorem ka7 : awo [([99], 3)] [97] = [([99], 3)] := by kernel_rfl
end Go.Proofs.Ythappjbghlifbaa
