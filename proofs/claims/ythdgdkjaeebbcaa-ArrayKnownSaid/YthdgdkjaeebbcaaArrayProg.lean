/-
  Layer 9's program: within, New, Cell, Len: contracts. Conditions: 900 cells at most.
-/
import Derived.Test.YthdgdkjaeebbcaaCellsHas
namespace Go.Proofs.Ythdgdkjaeebbcaa
set_option maxRecDepth 100000
open Go.RowKit Ow Ph Ro K2
set_option linter.unusedVariables false
set_option linter.unusedSimpArgs false
/-- A number, at least 1 and at most 64. -/
def cl64 (n : Int) : Nat := (min (max n 1) 64).toNat
theorem cl64_ge (n : Int) : 1 ≤ cl64 n := by unfold cl64; omega
theorem cl64_le (n : Int) : cl64 n ≤ 64 := by unfold cl64; omega
theorem rt_i9 {k : IntKind} {a b : Int} (h : a = b) : Ending.returned (.int k a) = .returned (.int k b) := by rw [h]
theorem within_any (n : Int) (h1 : -9223372036854775808 ≤ n) (h2 : n ≤ 9223372036854775807) (w : World) :
    Calls Try.prog 58 #[.int .i64 n, .int .i64 64] w fun e w' => e = .returned (.int .i64 (cl64 n : Nat)) ∧ w = w' := by
  have q1 : n ≤ 1 → (cl64 n : Int) = 1 := by unfold cl64; omega
  have q2 : 1 ≤ n → n ≤ 64 → (cl64 n : Int) = n := by unfold cl64; omega
  have q3 : 64 ≤ n → (cl64 n : Int) = 64 := by unfold cl64; omega
  generalize (cl64 n : Int) = y at *
  go_enter Try.func58, Try.ntmps58
  go_wp2
  all_goals
    go_ret
    exact ⟨rt_i9 (by omega), rfl⟩
/-- A block of a list's header and the list's own row: an array of either side. -/
def ArrAt (t : TypeId) (r : Nat) (A : Ac) (k G : Nat) (xs : List Nat) : Prop := ∃ v, A (r, k) = some (G, .cells #[v] t) ∧ Row A (r + 1, k) 3 1 v xs.length (dv xs)
theorem ArrAt.keep {t : TypeId} {r k G : Nat} {A A' : Ac} {xs : List Nat} (h : ArrAt t r A k G xs) (h1 : A' (r, k) = A (r, k)) (h2 : A' (r + 1, k) = A (r + 1, k)) : ArrAt t r A' k G xs := by
  obtain ⟨v, h3, h4⟩ := h
  exact ⟨v, h1.trans h3, h4.keep h2⟩
def cellA (xs : List Nat) (i : Int) : Int × Bool := if 0 ≤ i ∧ i < xs.length then ((xs.getD i.toNat 0 : Nat), true) else (0, false)
def atV (x : Int × Bool) : Value := .tuple #[.int .i64 x.1, .bool x.2]
theorem arrlen_c {w0 w : World} {A : Ac} {k G : Nat} {xs : List Nat} (hl : Lay w0 A w) (h : ArrAt 86 20 A k G xs) :
    Calls Try.prog 33 #[.pointer (some ⟨G, 0, none⟩)] w fun e w' => e = .returned (.int .i64 (xs.length : Nat)) ∧ w = w' := by
  obtain ⟨v, h1, h2⟩ := h
  obtain ⟨a, cap, rfl, _, _, _⟩ := h2.form2
  have k0 : w.cell? ⟨G, 0, none⟩ = some (.slice a xs.length cap) := (hl.bk h1).cell 0
  clear hl h1 h2
  go_enter Try.func33, Try.ntmps33
  go_wp2
  go_ret
  exact ⟨rfl, rfl⟩
theorem arrcell_c {w0 w : World} {A : Ac} {k G : Nat} {xs : List Nat} (hl : Lay w0 A w) (h : ArrAt 86 20 A k G xs) (i : Int) (i1 : -9223372036854775808 ≤ i) (i2 : i ≤ 9223372036854775807) :
    Calls Try.prog 35 #[.pointer (some ⟨G, 0, none⟩), .int .i64 i] w fun e w' => e = .returned (atV (cellA xs i)) ∧ w = w' := by
  obtain ⟨v, h1, h2⟩ := h
  have hown := h2.own hl
  obtain ⟨a, cap, rfl, _, _, hnone⟩ := h2.form2
  have k0 : w.cell? ⟨G, 0, none⟩ = some (.slice a xs.length cap) := (hl.bk h1).cell 0
  unfold cellA
  by_cases c1 : i < 0
  · rw [if_neg (by omega)]
    clear hl h1 h2 hown hnone
    go_enter Try.func35, Try.ntmps35
    go_wp2
    go_ret2
    exact ⟨rfl, rfl⟩
  · by_cases c2 : i < (xs.length : Int)
    · rw [if_pos (by omega)]
      obtain ⟨j, rfl⟩ : ∃ j : Nat, i = (j : Int) := ⟨i.toNat, by omega⟩
      have hj : j < xs.length := by omega
      obtain ⟨ad, rfl⟩ : ∃ ad, a = some ad := by
        cases a with
        | none => have := (hnone rfl).1; omega
        | some ad => exact ⟨ad, rfl⟩
      have hc : w.cell? (ad.add j) = some (.int .i64 (xs.getD j 0 : Nat)) := by
        rw [(own_at hown j hj).1]
        unfold dv
        rw [List.getElem?_map, List.getElem?_eq_getElem hj, List.getD_eq_getElem?_getD, List.getElem?_eq_getElem hj]
        rfl
      have c3 : (0 : Int) ≤ (j : Int) := by omega
      clear hl h1 h2 hown hnone
      rw [show ((j : Int)).toNat = j by omega]
      generalize xs.getD j 0 = y at *
      generalize xs.length = n at *
      go_enter Try.func35, Try.ntmps35
      go_wp2
      go_ret2
      exact ⟨rfl, rfl⟩
    · rw [if_neg (by omega)]
      clear hl h1 h2 hown hnone
      generalize xs.length = n at *
      go_enter Try.func35, Try.ntmps35
      go_wp2
      go_ret2
      exact ⟨rfl, rfl⟩
end Go.Proofs.Ythdgdkjaeebbcaa
