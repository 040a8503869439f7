/-
  Layer 10, for HashKnown: a list of calls that a statement makes itself (roles 90, 91). No conditions.
-/
import Derived.Test.YtkaapphlnolelaaHashOpen
import Derived.Test.YtkaapphlnolelaaKitRow
namespace Go.Proofs.Ytkaapphlnolelaa
set_option maxRecDepth 100000
open Go.RowKit Ow Ro K2 Hm
set_option linter.unusedVariables false
set_option linter.unusedSimpArgs false
def KL (w9 : World) (n : Nat) (L : List Opn) (v : Value) (w : World) : Prop :=
  ∃ A, Lay w9 A w ∧ Row A (90, 0) 36 3 v L.length (opv L) ∧ ∀ x ∈ L, x.fits ∧ ∃ i, i < n ∧ Reads w9 A (91, i) x.a (bv x.bs)
def KL2 (w9 : World) (n : Nat) (L : List Opn) (v : Value) (g : Nat) (bs : List Int) (w : World) : Prop :=
  ∃ A, Lay w9 A w ∧ Row A (90, 0) 36 3 v L.length (opv L) ∧ (∀ x ∈ L, x.fits ∧ ∃ i, i < n ∧ Reads w9 A (91, i) x.a (bv x.bs)) ∧ A (91, n) = some (g, .cells (bv bs).toArray 5)
section
variable {w9 w w' : World} {n g : Nat} {L : List Opn} {v v' : Value} {bs : List Int}
theorem KL.grow (h : KL w9 n L v w) (hb : Below w.heap.size w w') : KL w9 n L v w' := by
  obtain ⟨A, h1, h2⟩ := h
  exact ⟨A, h1.grow hb, h2⟩
theorem KL.below (h : KL w9 n L v w) : Below w9.heap.size w9 w := by
  obtain ⟨A, h1, h2⟩ := h
  exact h1.below
theorem KL.drew (h : KL w9 n L v w) : KL w9 n L v w.drew := by
  obtain ⟨A, h1, h2⟩ := h
  exact ⟨A, h1.drew, h2⟩
theorem KL.start (hb : Below w9.heap.size w9 w) : KL w9 0 [] (.slice none 0 0) w := ⟨_, lay_none hb, Row.nil _ _ _ _, fun x h => by cases h⟩
theorem KL.made (h : KL w9 n L v w) (bs : List Int) : KL2 w9 n L v w.heap.size bs (w.alloc (.cells (bv bs).toArray 5)) := by
  obtain ⟨A, h1, h2, h3⟩ := h
  refine ⟨_, h1.new (91, n) ((Below.refl _ _).alloc (Nat.le_refl _) _) (Nat.le_refl _) (heap_alloc_new w _), h2.keep (up_other _ _ _ (by simp)), fun x hx => ?_, up_same _ _ _ _⟩
  obtain ⟨a, i, hi, b⟩ := h3 x hx
  exact ⟨a, i, hi, b.keep (up_other _ _ _ (by simp; omega))⟩
theorem KL2.grow (h : KL2 w9 n L v g bs w) (hb : Below w.heap.size w w') : KL2 w9 n L v g bs w' := by
  obtain ⟨A, h1, h2⟩ := h
  exact ⟨A, h1.grow hb, h2⟩
theorem KL2.cell (h : KL2 w9 n L v g bs w) (i : Nat) : w.cell? ⟨g, i, none⟩ = (bv bs)[i]? ∧ w.frozen? ⟨g, i, none⟩ = false := by
  obtain ⟨A, h1, h2, h3, h4⟩ := h
  have hb := h1.bk h4
  refine ⟨?_, hb.frozen i⟩
  rw [hb.cell i, List.getElem?_toArray]
theorem KL2.set (h : KL2 w9 n L v g bs w) (i : Nat) (u : Int) : KL2 w9 n L v g (bs.set i u) (w.setCell ⟨g, i, none⟩ (.int .u8 u)) := by
  obtain ⟨A, h1, h2, h3, h4⟩ := h
  refine ⟨_, h1.set_ h4 i (.int .u8 u), h2.keep (up_other _ _ _ (by simp)), fun x hx => ?_, ?_⟩
  · obtain ⟨a, i, hi, b⟩ := h3 x hx
    exact ⟨a, i, hi, b.keep (up_other _ _ _ (by simp; omega))⟩
  · rw [up_same]
    have e : (bv bs).toArray.setIfInBounds i (.int .u8 u) = (bv (bs.set i u)).toArray := by
      rw [List.setIfInBounds_toArray]
      unfold bv
      rw [List.map_set]
    rw [e]
theorem KL2.own (h : KL2 w9 n L v g bs w) : w.ownsRow w9.heap.size 36 3 v L.length (opv L) ∧ w9.heap.size ≤ w.heap.size := by
  obtain ⟨A, h1, h2, h3⟩ := h
  exact ⟨h2.own h1, h1.below.size⟩
theorem reads_key {A : Ac} {r : Rl} (h : A r = some (g, .cells (bv bs).toArray 5)) (m : Nat) : Reads w9 A r (some ⟨g, m, none⟩) (bv (bs.drop m)) := fun _ => by
  refine ⟨_, rfl, .inr ⟨_, h, fun w' hw j u hu => ?_⟩⟩
  have hb : Bk w' g 5 (bv bs).toArray := hw
  have e0 : (⟨g, m, none⟩ : Addr).add j = ⟨g, m + j, none⟩ := by unfold Addr.add; split <;> simp_all
  rw [e0, hb.cell, List.getElem?_toArray]
  unfold bv at hu ⊢
  rw [List.map_drop, List.getElem?_drop] at hu
  exact hu
theorem KL2.app (h : KL2 w9 n L v g bs w) (X : List Opn) (hX : ∀ x ∈ X, x.fits ∧ (x.bs = [] ∨ ∃ m, x.a = some ⟨g, m, none⟩ ∧ x.bs = bs.drop m)) {k : Nat} (hk : k = X.length) (ho : w'.ownsRow w9.heap.size 36 3 v' (L.length + k) (opv L ++ opv X)) (hg : w.grownBy w' v.ownBlock) (hat : v'.ownBlock = v.ownBlock ∨ ∃ g, v'.ownBlock = some g ∧ w.heap.size ≤ g) :
    KL w9 (n + 1) (L ++ X) v' w' := by
  obtain ⟨A, h1, h2, h3, h4⟩ := h
  obtain ⟨A2, l2, r2, f2⟩ := h1.took h2 hg ho hat
  refine ⟨A2, l2, ?_, fun x hx => ?_⟩
  · have e : opv (L ++ X) = opv L ++ opv X := by unfold opv; rw [List.flatMap_append]
    rw [e, List.length_append, ← hk]
    exact r2
  · rcases List.mem_append.1 hx with h | h
    · obtain ⟨a, i, hi, b⟩ := h3 x h
      exact ⟨a, i, by omega, b.keep (f2 _ (by simp))⟩
    · obtain ⟨a, b⟩ := hX x h
      refine ⟨a, n, Nat.lt_succ_self _, ?_⟩
      rcases b with b | ⟨m, e1, e2⟩
      · rw [b]; exact fun h => absurd h (by simp [bv])
      · rw [e1, e2]
        exact (reads_key (w9 := w9) h4 m).keep (f2 _ (by simp))
theorem KL.form (h : KL w9 n L v w) : ∃ a c, v = .slice a L.length c ∧ L.length ≤ c ∧ c ≤ maxLen := by
  obtain ⟨A, h1, h2, h3⟩ := h
  obtain ⟨a, c, e, q1, q2, _⟩ := h2.form2
  exact ⟨a, c, e, q1, q2⟩
theorem KL.ops {a : Option Addr} {c m : Nat} (h : KL w9 n L (.slice a m c) w) (k : Nat) : OpsAt w w.heap.size a (L.take k) ∧ ∀ x ∈ L.take k, x.fits := by
  obtain ⟨A, h1, h2, h3⟩ := h
  obtain ⟨a', c', e, _⟩ := h2.form2
  simp only [Value.slice.injEq] at e
  obtain ⟨rfl, rfl, rfl⟩ := e
  refine ⟨⟨?_, fun x hx => ?_⟩, fun x hx => (h3 x (List.mem_of_mem_take hx)).1⟩
  · have hr := ((h2.reads (w0 := w9)).rd h1).take (3 * k)
    have e1 : (opv L).take (3 * k) = opv (L.take k) := by
      by_cases hk : k ≤ L.length
      · have e2 : opv L = opv (L.take k) ++ opv (L.drop k) := by
          have : opv (L.take k ++ L.drop k) = opv (L.take k) ++ opv (L.drop k) := by unfold opv; rw [List.flatMap_append]
          rw [List.take_append_drop] at this
          exact this
        have e3 : (opv (L.take k)).length = 3 * k := by rw [opv_len, List.length_take]; omega
        rw [e2, ← e3, List.take_left]
      · rw [List.take_of_length_le (by rw [opv_len]; omega), List.take_of_length_le (by omega)]
    rw [e1] at hr
    exact hr
  · obtain ⟨_, i, _, b⟩ := h3 x (List.mem_of_mem_take hx)
    exact b.rd h1
end
theorem made_bytes (n : Nat) : madeCells #[.int .u8 0] (n * 1) = (bv (List.replicate n 0)).toArray := by
  rw [Nat.mul_one]
  have := toList_madeCells_one (.int .u8 0) n
  have e : (madeCells #[Value.int .u8 0] n).toList.toArray = madeCells #[Value.int .u8 0] n := Array.toArray_toList
  rw [← e, this]
  unfold bv
  rw [List.map_replicate]
theorem xor8_bd (a b : Int) : 0 ≤ bits .xor .u8 a b ∧ bits .xor .u8 a b ≤ 255 := by
  unfold bits
  rw [IntKind.wrap_u8]
  omega
theorem set_bd {bs : List Int} (h : ∀ b ∈ bs, 0 ≤ b ∧ b ≤ 255) (i : Nat) {u : Int} (hu : 0 ≤ u ∧ u ≤ 255) : ∀ b ∈ bs.set i u, 0 ≤ b ∧ b ≤ 255 := fun b hb => by
  rcases List.mem_or_eq_of_mem_set hb with h1 | rfl
  · exact h b h1
  · exact hu
end Go.Proofs.Ytkaapphlnolelaa
