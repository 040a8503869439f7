/-
  Layer 11: the program beside the statement's own list of keys of one byte: contracts. No conditions.
-/
import Derived.Test.YthappjbghlifbaaLruAll
import Derived.Test.YthappjbghlifbaaLruPet
namespace Go.Proofs.Ythappjbghlifbaa
set_option maxRecDepth 100000
open Go.RowKit Ow Ro K2
set_option linter.unusedVariables false
set_option linter.unusedSimpArgs false
/-- The map, the list. -/
def GS (w : World) (X : Nat) (M : Int) (o : KO) (v : Value) (xs : List Int) (z : World) : Prop := ∃ A, Lay w A z ∧ PL 0 A X 1 M o ∧ Row A (82, 0) 5 1 v xs.length (bv xs)
/-- .. and a key that was just written down. -/
def GSK (w : World) (X : Nat) (M : Int) (o : KO) (v : Value) (xs : List Int) (g : Nat) (b : Int) (z : World) : Prop := ∃ A, Lay w A z ∧ PL 0 A X 1 M o ∧ Row A (82, 0) 5 1 v xs.length (bv xs) ∧ K1 A 0 g b
/-- .. and who went. -/
def GSG (w : World) (X : Nat) (M : Int) (o : KO) (v : Value) (xs : List Int) (u : Value) (ys : List Int) (z : World) : Prop := ∃ A, Lay w A z ∧ PL 0 A X 1 M o ∧ Row A (82, 0) 5 1 v xs.length (bv xs) ∧ Gone A u ys
section
variable {w z z' : World} {X g : Nat} {M b : Int} {o : KO} {v u : Value} {xs ys : List Int}
theorem GS.grow (h : GS w X M o v xs z) (hb : Below z.heap.size z z') : GS w X M o v xs z' := by
  obtain ⟨A, h1, h2⟩ := h
  exact ⟨A, h1.grow hb, h2⟩
theorem GS.below (h : GS w X M o v xs z) : Below w.heap.size w z := by
  obtain ⟨A, h1, _⟩ := h
  exact h1.below
theorem GSG.below (h : GSG w X M o v xs u ys z) : Below w.heap.size w z := by
  obtain ⟨A, h1, _⟩ := h
  exact h1.below
theorem GSG.gs (h : GSG w X M o v xs u ys z) : GS w X M o v xs z := by
  obtain ⟨A, h1, h2, h3, _⟩ := h
  exact ⟨A, h1, h2, h3⟩
theorem GS.good (h : GS w X M o v xs z) : OG 1 M o := by
  obtain ⟨A, h1, ⟨v, hx⟩, h3⟩ := h
  exact hx.good
theorem GS.form (h : GS w X M o v xs z) : ∃ a c, v = .slice a xs.length c ∧ xs.length ≤ c ∧ c ≤ maxLen := by
  obtain ⟨A, h1, h2, h3⟩ := h
  obtain ⟨a, c, e, h4, h5, _⟩ := h3.form2
  exact ⟨a, c, e, h4, h5⟩
theorem GS.rd {a : Option Addr} {n c : Nat} (h : GS w X M o (.slice a n c) xs z) : Rd z z.heap.size a (bv xs) := by
  obtain ⟨A, h1, h2, h3⟩ := h
  obtain ⟨a', c', e, _⟩ := h3.form2
  simp only [Value.slice.injEq] at e
  obtain ⟨rfl, rfl, rfl⟩ := e
  exact (h3.reads (w0 := w)).rd h1
theorem GS.lit (h : GS w X M o v xs z) (b : Int) : GSK w X M o v xs z.heap.size b (z.alloc (.cells #[.int .u8 b] 5)) := by
  obtain ⟨A, h1, h2, h3⟩ := h
  obtain ⟨A1, l1, k1, f1⟩ := lit_new h1 0 b
  exact ⟨A1, l1, h2.keep (f1 _ (by simp)) (f1 _ (by simp)), h3.keep (f1 _ (by simp)), k1⟩
theorem GSK.find (h : GSK w X M o v xs g b z) (hb : 0 ≤ b ∧ b ≤ 255) :
    Calls Try.prog 18 #[.pointer (some ⟨X, 0, none⟩), .slice (some ⟨g, 0, none⟩) 1 1] z fun e z' => e = .returned (agetV (aget o [b])) ∧ GS w X M (afind o [b]) v xs z' := by
  obtain ⟨A, h1, h2, h3, h4⟩ := h
  refine (pfind_c h1 h2 (some ⟨g, 0, none⟩) 1 1 [b] rfl (fun x hx => by rw [List.mem_singleton] at hx; rw [hx]; exact hb) ((Row.reads h4).rd h1)).mono fun e z' q => ?_
  obtain ⟨he, A', l2, p2, f2⟩ := q
  exact ⟨he, A', l2, p2, h3.keep (fg_dl f2.fg _ (by simp))⟩
theorem GSK.peek (h : GSK w X M o v xs g b z) (hb : 0 ≤ b ∧ b ≤ 255) :
    Calls Try.prog 20 #[.pointer (some ⟨X, 0, none⟩), .slice (some ⟨g, 0, none⟩) 1 1] z fun e z' => e = .returned (agetV (aget o [b])) ∧ GS w X M o v xs z' := by
  obtain ⟨A, h1, h2, h3, h4⟩ := h
  exact (ppeek_c h1 h2 (some ⟨g, 0, none⟩) 1 1 [b] rfl (fun x hx => by rw [List.mem_singleton] at hx; rw [hx]; exact hb) ((Row.reads h4).rd h1)).mono fun e z' q => ⟨q.1, A, h1.grow q.2, h2, h3⟩
theorem GSK.put (h : GSK w X M o v xs g b z) (hb : 0 ≤ b ∧ b ≤ 255) (c : Int) :
    Calls Try.prog 17 #[.pointer (some ⟨X, 0, none⟩), .slice (some ⟨g, 0, none⟩) 1 1, .int .i64 c] z fun e z' => ∃ u, e = putV u (aput 1 M o [b] c).1.2 (aput 1 M o [b] c).2.1 ∧ GSG w X M (aput 1 M o [b] c).2.2 v xs u (aput 1 M o [b] c).1.1 z' := by
  obtain ⟨A, h1, h2, h3, h4⟩ := h
  refine (pput_c h1 h2 (some ⟨g, 0, none⟩) 1 1 [b] rfl (fun x hx => by rw [List.mem_singleton] at hx; rw [hx]; exact hb) (KDp.of (Row.reads h4) (by simp) (by simp) (by simp) (by simp)) c).mono fun e z' q => ?_
  obtain ⟨u, A', he, l2, p2, g2, f2⟩ := q
  exact ⟨u, he, A', l2, p2, h3.keep (fg_dl f2 _ (by simp)), g2⟩
theorem GS.ahead {a : Option Addr} {n c : Nat} (h : GS w X M o (.slice a n c) xs z) (hn : xs.length = n) (h1 : n ≤ 100000) (k : Int) :
    Calls Try.prog 19 #[.slice a n c, .int .u8 k] z fun e z' => ∃ v', e = .returned v' ∧ GS w X M o v' (aheadL xs k) z' := by
  have hr := h.rd
  obtain ⟨A, l1, h2, h3⟩ := h
  refine (ahead_c a n c xs hn h1 k z hr).mono fun e z' q => ?_
  obtain ⟨v', he, q⟩ := q
  obtain ⟨A2, l2, r2, f2⟩ := l1.newRow (82, 0) q.below q.own (Nat.le_refl _)
  exact ⟨v', he, A2, l2, h2.keep (f2 _ (by simp)) (f2 _ (by simp)), r2⟩
/-- The list without its last one. -/
theorem GS.cut {a : Option Addr} {n c : Nat} (h : GS w X M o (.slice a n c) xs z) (hn : xs.length = n) (h1 : 1 ≤ n) : GS w X M o (.slice a (n - 1) c) xs.dropLast z := by
  obtain ⟨A, l1, h2, h3⟩ := h
  refine ⟨A, l1, h2, ⟨by rw [bv_len]; omega, ?_⟩⟩
  rcases h3.2 with ⟨e, e2⟩ | ⟨g, cap, cur, e, hr, c1, c2, c3, c4⟩
  · omega
  · simp only [Value.slice.injEq] at e
    obtain ⟨rfl, _, rfl⟩ := e
    refine .inr ⟨g, c, cur, by rw [List.length_dropLast, hn], hr, by rw [List.length_dropLast]; omega, c2, c3, ?_⟩
    have e1 : (bv xs).take (xs.length - 1) = bv xs.dropLast := by unfold bv; rw [← List.map_take, List.dropLast_eq_take]
    rw [← e1, ← c4, List.take_take, List.length_dropLast]
    congr 1
    omega
/-- The list's last one, and who went, to be read. -/
theorem GS.last {a : Option Addr} {n c : Nat} (h : GS w X M o (.slice a n c) xs z) (hn : xs.length = n) (h1 : 1 ≤ n) : ∃ g, a = some ⟨g, 0, none⟩ ∧ z.cell? ⟨g, n - 1, none⟩ = some (.int .u8 (xs.getD (n - 1) 0)) := by
  obtain ⟨A, l1, h2, h3⟩ := h
  have hr := fun a c (h3 : Row A (82, 0) 5 1 (.slice a n c) n (bv xs)) => (h3.reads (w0 := w)).rd l1
  rcases h3.2 with ⟨e, e2⟩ | ⟨g, cap, cur, e, _⟩
  · omega
  · simp only [Value.slice.injEq] at e
    obtain ⟨rfl, _, rfl⟩ := e
    rw [hn] at h3
    obtain ⟨ad, e, _, hc⟩ := hr _ _ h3 (by rw [bv_len]; omega)
    injection e with e
    subst e
    refine ⟨g, rfl, ?_⟩
    have := hc (n - 1) _ (bv_get xs (n - 1) (by omega))
    rw [add_zero_at] at this
    rw [this, List.getD_eq_getElem?_getD, List.getElem?_eq_getElem (by omega)]
    rfl
theorem GSG.one {y : Int} (h : GSG w X M o v xs u [y] z) : ∃ g c, u = .slice (some ⟨g, 0, none⟩) 1 c ∧ z.cell? ⟨g, 0, none⟩ = some (.int .u8 y) := by
  obtain ⟨A, l1, h2, h3, h4⟩ := h
  rcases h4 with ⟨e, _⟩ | ⟨g, cap, cur, rfl, hr, c1, c2, c3, c4, c5⟩
  · cases e
  · refine ⟨g, cap, rfl, ?_⟩
    rw [cell_of_row z g 0 _ _ _ (l1.obj hr)]
    have h5 : (cur.toList.take 1)[0]? = (bv [y])[0]? := by rw [← c4]; rfl
    rw [List.getElem?_take, if_pos (by omega), Array.getElem?_toList] at h5
    rw [h5]
    rfl
theorem GSG.none_ (h : GSG w X M o v xs u [] z) : ∃ a c, u = .slice a 0 c := by
  obtain ⟨A, l1, h2, h3, h4⟩ := h
  obtain ⟨a, c, e⟩ := h4.form
  exact ⟨a, c, e⟩
theorem GS.plen (h : GS w X M o v xs z) :
    Calls Try.prog 11 #[.pointer (some ⟨X, 0, none⟩)] z fun e z' => e = .returned (.int .i64 (o.length : Nat)) ∧ z' = z := by
  obtain ⟨A, h1, h2, h3⟩ := h
  exact plen_c h1 h2
/-- The keys, beside the list. -/
def GZ (w : World) (X : Nat) (M : Int) (o : KO) (v : Value) (xs : List Int) (ad : Addr) (z : World) : Prop := GS w X M o v xs z ∧ ∃ vs, Rd z z.heap.size (some ad) vs ∧ vs.length = xs.length ∧ ∀ i (hi : i < xs.length), ∃ g c, vs[i]? = some (.slice (some ⟨g, 0, none⟩) 1 c) ∧ z.cell? ⟨g, 0, none⟩ = some (.int .u8 xs[i])
theorem GS.keys (h : GS w X M o v xs z) (hk : o.map (·.1) = xs.map fun b => [b]) :
    Calls Try.prog 13 #[.pointer (some ⟨X, 0, none⟩)] z fun e z' => ∃ ad, e = .returned (.slice (some ad) xs.length xs.length) ∧ GZ w X M o v xs ad z' := by
  obtain ⟨A, h1, h2, h3⟩ := h
  refine (pkeys_c h1 h2).mono fun e z' q => ?_
  obtain ⟨ad, he, hz⟩ := q
  rw [hk] at he hz
  rw [List.length_map] at he hz
  obtain ⟨A', vs, k1, k2, k3, k4, k5⟩ := hz
  rw [List.length_map] at k3 k4
  refine ⟨ad, he, ⟨A', k1, h2.keep (k2 _ (by simp) (by simp) (by simp)) (k2 _ (by simp) (by simp) (by simp)), h3.keep (k2 _ (by simp) (by simp) (by simp))⟩, vs, (k3.reads (w0 := w)).rd k1, k4, fun i hi => ?_⟩
  obtain ⟨u, e1, g, cap, cur, rfl, hr, c1, c2, c3, c4, c5⟩ := k5 i [xs[i]] hi (by rw [List.getElem?_map, List.getElem?_eq_getElem hi]; rfl)
  refine ⟨g, cap, e1, ?_⟩
  rw [cell_of_row z' g 0 _ _ _ (k1.obj hr)]
  have h5 : (cur.toList.take 1)[0]? = (bv [xs[i]])[0]? := by rw [← c4]; rfl
  rw [List.getElem?_take, if_pos (by omega), Array.getElem?_toList] at h5
  rw [h5]
  rfl
end
end Go.Proofs.Ythappjbghlifbaa
