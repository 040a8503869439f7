/-
  What layer 6's statements ask at last (works): a jump over one instruction is told as it should be. No conditions.
-/
import Derived.Test.YtenddhhaelnnnaaFlowLow
namespace Go.Proofs.Ytenddhhaelnnnaa
open Go.RowKit Wi Ow Fl
set_option linter.unusedVariables false
set_option linter.unusedSimpArgs false

theorem rd_own {w : World} {base : Nat} {e : TypeId} {size n cap : Nat} {A : Option Addr} {xs : List Value} (h : w.ownsRow base e size (.slice A n cap) n xs) : Rd w w.heap.size A xs := Rd.of_own h
theorem bool_at {w : World} {base n cap : Nat} {ad : Addr} {H : List Bool} {j : Nat} {b : Bool} (h : w.ownsRow base 4 1 (.slice (some ad) n cap) n (ov H)) (hj : j < n) (hH : H[j]? = some b) : w.cell? (ad.add j) = some (.bool b) := by
  rw [(own_at h j hj).1]
  unfold ov
  rw [List.getElem?_map, hH]
  rfl
theorem bool_false {n : Nat} {H : List Bool} (hl : H.length = n) {j : Nat} (hj : j < n) (h : ¬ H[j]? = some true) : H[j]? = some false := by
  have e : H[j]? = some H[j] := List.getElem?_eq_getElem (by omega)
  cases hb : H[j]
  · rw [e, hb]
  · exact absurd (by rw [e, hb]) h
/-- A row of our own that is not empty lies somewhere. -/
theorem own_some {w : World} {base n : Nat} {e : TypeId} {size : Nat} {v : Value} {xs : List Value} (h : w.ownsRow base e size v n xs) (h0 : 0 < n) : ∃ ad cap, v = .slice (some ad) n cap ∧ n ≤ cap ∧ cap ≤ 9223372036854775807 := by
  obtain ⟨A, cap, rfl, h1, h2, h3⟩ := own_form h
  obtain ⟨g, rfl, _⟩ := h3 h0
  exact ⟨_, cap, rfl, h1, by unfold maxLen at h2; omega⟩
/-- What the walk of works keeps: the program and its targets. -/
structure Wk (w : World) (ad : Addr) (cp : Nat) (w1 : World) : Prop where
  own : w1.ownsRow (w.heap.size + 1) 3 1 (.slice (some ad) 4 cp) 4 (zv [-1, 3, -1, -1])
  below : Below (w.heap.size + 1) (w.alloc (.cells (iv L4).toArray 42)) w1
theorem Wk.next {w w1 w2 : World} {ad : Addr} {cp : Nat} (h : Wk w ad cp w1) (hb : Below w1.heap.size w1 w2) : Wk w ad cp w2 :=
  ⟨own_below h.own hb, h.below.trans (hb.mono (by have := h.below.size; simp at this; omega))⟩
theorem Wk.box {w w1 w2 : World} {ad : Addr} {cp : Nat} {o : Obj} (h : Wk w ad cp w1) (hb : Below (w1.alloc o).heap.size (w1.alloc o) w2) : Wk w ad cp w2 :=
  h.next (below_box hb)
theorem Wk.rd {w w1 : World} {ad : Addr} {cp : Nat} (h : Wk w ad cp w1) : Rd w1 w1.heap.size (some ad) (zv [-1, 3, -1, -1]) := Rd.of_own h.own
theorem Wk.prog {w w1 : World} {ad : Addr} {cp : Nat} (h : Wk w ad cp w1) : Rd w1 w1.heap.size (some ⟨w.heap.size, 0, none⟩) (iv L4) := by
  have h1 := rd_new w 42 (iv L4).toArray
  have hs := h.below.size
  simp at hs
  exact ((h1.mono (by simp)).below (B := w.heap.size + 1) h.below).mono (by omega)
theorem Wk.end_ {w w1 : World} {ad : Addr} {cp : Nat} (h : Wk w ad cp w1) : Below w.heap.size w w1 := ((Below.refl _ _).alloc (Nat.le_refl _) _).trans (h.below.mono (by omega))
theorem next4 (A B : Option Addr) (w : World) (cp : Nat) (hL : Rd w w.heap.size A (iv L4)) (hT : Rd w w.heap.size B (zv [-1, 3, -1, -1])) :
    Calls Try.prog 14 #[.slice A 4 4, .slice B 4 cp, .int .i64 1] w fun e w' => ∃ v, e = .returned v ∧ OwnZ w v w' [2, 3] := by
  have h := next_in A B 4 4 4 cp L4 [-1, 3, -1, -1] 1 rfl ok4 rfl (by decide) (by decide) (by decide) w hL hT
  have e : nxt L4 [-1, 3, -1, -1] ((1 : Nat) : Int) = [2, 3] := n4
  rw [e] at h
  exact h
set_option maxHeartbeats 4000000 in
theorem works_any (w : World) : Calls Try.prog 8 #[] w fun e w' => e = .returned (.bool true) ∧ Below w.heap.size w w' := by
  have R4 : Hid (∀ w2 : World, Below (w.heap.size + 1) (w.alloc (.cells (iv L4).toArray 42)) w2 → Rd w2 w2.heap.size (some ⟨w.heap.size, 0, none⟩) (iv L4)) := Lib.hid fun w2 hb => by
    have h := rd_new w 42 (iv L4).toArray
    have hs := hb.size
    simp at hs
    exact ((h.mono (by simp)).below (B := w.heap.size + 1) hb).mono (by omega)
  go_enter Try.func8, Try.ntmps8
  go_wp2_with fail
  refine (targets_any (some ⟨w.heap.size, 0, none⟩) 4 4 L4 rfl ok4 (by decide) _ (R4.out _ (Below.refl _ _))).mono ?_
  rintro e w1 ⟨v, r, rfl, q, hg⟩
  obtain ⟨rfl, o1⟩ : r = 0 ∧ w1.ownsRow (w.alloc (.cells (iv L4).toArray 42)).heap.size 3 1 v 4 (zv [-1, 3, -1, -1]) := by
    rcases hg with ⟨_, h1, h2⟩ | ⟨h, _⟩
    · rw [t4] at h2; exact ⟨h1, h2⟩
    · exact absurd good4 h
  clear hg
  obtain ⟨ad, cp, rfl, hcp, hmp⟩ := own_some o1 (by decide)
  have W1 : Hid (Wk w ad cp w1) := Lib.hid ⟨by simpa using o1, by simpa using q⟩
  clear o1 q R4
  go_wp2_with fail
  refine (sameints_any (some ad) (some ⟨w1.heap.size, 0, none⟩) 4 4 cp 4 [-1, 3, -1, -1] [-1, 3, -1, -1] rfl rfl (by decide) (by decide) _ ((W1.out.rd.alloc (Nat.le_refl _) _).mono (by simp)) (rd_new w1 3 #[.int .i64 (-1), .int .i64 3, .int .i64 (-1), .int .i64 (-1)])).mono ?_
  rintro e w2 ⟨rfl, q⟩
  have W2 := Lib.hid (W1.out.box q)
  clear q W1
  go_wp2_with fail
  refine (next4 _ _ w2 cp W2.out.prog W2.out.rd).mono ?_
  rintro e w3 ⟨v3, rfl, q⟩
  have W3 := Lib.hid (W2.out.next q.below)
  obtain ⟨ad3, cp3, rfl, hcp3, hmp3⟩ := own_some q.own (by decide)
  have O3 := Lib.hid q.own
  clear q W2
  go_wp2_with fail
  refine (sameints_any (some ad3) (some ⟨w3.heap.size, 0, none⟩) 2 2 cp3 2 [2, 3] [2, 3] rfl rfl (by decide) (by decide) _ (((rd_own O3.out).alloc (Nat.le_refl _) _).mono (by simp)) (rd_new w3 3 #[.int .i64 2, .int .i64 3])).mono ?_
  rintro e w4 ⟨rfl, q⟩
  have W4 := Lib.hid (W3.out.box q)
  clear q W3 O3
  go_wp2_with fail
  refine (heads_any _ _ 4 4 4 cp [-1, 3, -1, -1] rfl (by decide) (by decide) w4 W4.out.rd).mono ?_
  rintro e w5 ⟨v5, H5, rfl, o5, q, hl5, hh5⟩
  have W5 := Lib.hid (W4.out.next q)
  obtain ⟨ad5, cp5, rfl, hcp5, hmp5⟩ := own_some o5 (by decide)
  have c5 : w5.cell? ⟨ad5.block, ad5.off + 3, none⟩ = some (.bool true) := bool_at o5 (j := 3) (by decide) ((hh5 3).2 (by rw [h4]; simp))
  clear q W4 o5 hh5 hl5
  go_wp2_with fail
  refine (heads_any _ _ 4 4 4 cp [-1, 3, -1, -1] rfl (by decide) (by decide) w5 W5.out.rd).mono ?_
  rintro e w6 ⟨v6, H6, rfl, o6, q, hl6, hh6⟩
  have W6 := Lib.hid (W5.out.next q)
  obtain ⟨ad6, cp6, rfl, hcp6, hmp6⟩ := own_some o6 (by decide)
  have c6 : w6.cell? ⟨ad6.block, ad6.off + 2, none⟩ = some (.bool false) := bool_at o6 (j := 2) (by decide) (bool_false hl6 (j := 2) (by decide) (fun h => by have := (hh6 2).1 h; rw [h4] at this; simp at this))
  clear q W5 o6 hh6 hl6 c5
  go_wp2_with fail
  refine (reached_any _ _ 4 4 4 cp L4 [-1, 3, -1, -1] rfl ok4 rfl (by decide) (by decide) (by decide) w6 W6.out.prog W6.out.rd).mono ?_
  rintro e w7 ⟨v7, R7, rfl, o7, f7, q⟩
  have W7 := Lib.hid (W6.out.next q)
  obtain ⟨ad7, cp7, rfl, hcp7, hmp7⟩ := own_some o7 (by decide)
  have c7 : w7.cell? ⟨ad7.block, ad7.off + 2, none⟩ = some (.bool true) := bool_at o7 (j := 2) (by decide) ((f7.mark 2 (by decide)).2 reach4)
  clear q W6 o7 f7 c6
  go_wp2
  go_ret
  exact ⟨rfl, W7.out.end_⟩
end Go.Proofs.Ytenddhhaelnnnaa
