/-
  Layer 11: the keys of both, held against one another and written over: contracts. Conditions: 99000 uses.
-/
import Derived.Test.YthappjbghlifbaaLruDoes
namespace Go.Proofs.Ythappjbghlifbaa
set_option maxRecDepth 100000
open Go.RowKit Ow Ro K2
set_option linter.unusedVariables false
set_option linter.unusedSimpArgs false
theorem ops_cell {w : World} {a : Option Addr} {B : Nat} {L : List Opn} (h : Rd w B a (opv L)) (k r : Nat) (hk : k < L.length) (hr : r < 3) : ∃ ad, a = some ad ∧ ad.block < B ∧ w.cell? (ad.add (3 * k + r)) = L[k].cells[r]? := by
  obtain ⟨ad, e, hb, hc⟩ := h (by rw [opv_len]; omega)
  refine ⟨ad, e, hb, ?_⟩
  have hl : L[k].cells.length = 3 := rfl
  have h1 : L[k].cells[r]? = some (L[k].cells[r]'(by rw [hl]; exact hr)) := List.getElem?_eq_getElem _
  rw [h1]
  exact hc _ _ (by rw [opv_get L k r hk hr, h1])
/-- Both, and the program's keys, but the first ones. -/
def TZ (w0 : World) (X Y : Nat) (K M : Int) (o : KO) (b : Nat) (G : List (List Int)) (ad : Addr) (j : Nat) (z : World) : Prop :=
  ∃ A vs, Lay w0 A z ∧ PL 0 A X K M o ∧ DL A Y K M o b ∧ Row A (65, 0) 27 1 (.slice (some ad) G.length G.length) G.length vs ∧ vs.length = G.length ∧ ∀ i bs, j ≤ i → G[i]? = some bs → ∃ u, vs[i]? = some u ∧ RowZ A (66, i) u bs.length (bv bs)
section
variable {w0 z z' : World} {X Y : Nat} {K M : Int} {o : KO} {b : Nat} {G : List (List Int)} {ad : Addr} {j : Nat}
theorem TZ.grow (h : TZ w0 X Y K M o b G ad j z) (hb : Below z.heap.size z z') : TZ w0 X Y K M o b G ad j z' := by
  obtain ⟨A, vs, h1, h2⟩ := h
  exact ⟨A, vs, h1.grow hb, h2⟩
theorem TZ.tw (h : TZ w0 X Y K M o b G ad j z) : TW w0 X Y K M o b z := by
  obtain ⟨A, vs, h1, h2, h3, _⟩ := h
  exact ⟨A, h1, h2, h3⟩
theorem TW.good (h : TW w0 X Y K M o b z) : OG K M o := by
  obtain ⟨A, h1, ⟨v, hx⟩, h3⟩ := h
  exact hx.good
theorem TW.keys (h : TW w0 X Y K M o b z) :
    Calls Try.prog 13 #[.pointer (some ⟨X, 0, none⟩)] z fun e z' => ∃ ad, e = .returned (.slice (some ad) o.length o.length) ∧ TZ w0 X Y K M o b (o.map (·.1)) ad 0 z' := by
  obtain ⟨A, h1, h2, h3⟩ := h
  refine (pkeys_c h1 h2).mono fun e z' q => ?_
  obtain ⟨ad, he, A', vs, k1, k2, k3, k4, k5⟩ := q
  exact ⟨ad, by rw [List.length_map] at he; exact he, A', vs, k1, h2.keep (k2 _ (by simp) (by simp) (by simp)) (k2 _ (by simp) (by simp) (by simp)), h3.keep (fun x a b => k2 x (by omega) (by omega) (by omega)), k3, k4, fun i bs _ hi => k5 i bs (List.getElem?_eq_some_iff.1 hi).1 hi⟩
theorem TZ.rkeys (h : TZ w0 X Y K M o b G ad j z) (hb : b ≤ 100000) :
    Calls Try.prog 15 #[.pointer (some ⟨Y, 0, none⟩)] z fun e z' => ∃ ra rc, e = .returned (.slice ra o.length rc) ∧ TZ w0 X Y K M o b G ad j z' ∧ Txt z' z'.heap.size ra (o.map (·.1)) := by
  have hg := h.tw.good
  obtain ⟨A, vs, h1, h2, h3, h4, h5, h6⟩ := h
  refine (dkeys_c h1 h3 hg.M2 hb).mono fun e z' q => ?_
  obtain ⟨v, he, hk⟩ := q
  have hk0 := hk
  obtain ⟨A', us, k1, k2, k3, k4, k5⟩ := hk
  obtain ⟨ra, rc, rfl, _⟩ := k3.form2
  refine ⟨ra, rc, by rw [List.length_map] at he; exact he, ⟨A', vs, k1, h2.keep (k2 _ (by simp) (by simp)) (k2 _ (by simp) (by simp)), h3.keep (fun x a b => k2 x (by omega) (by omega)), h4.keep (k2 _ (by simp) (by simp)), h5, fun i bs hi hG => ?_⟩, Txt.of_KI hk0⟩
  obtain ⟨u, e1, e2⟩ := h6 i bs hi hG
  exact ⟨u, e1, e2.keep (k2 _ (by simp) (by simp))⟩
theorem TZ.txt (h : TZ w0 X Y K M o b G ad 0 z) : Txt z z.heap.size (some ad) G := by
  obtain ⟨A, vs, h1, h2, h3, h4, h5, h6⟩ := h
  refine ⟨vs, (h4.reads (w0 := w0)).rd h1, h5, fun j bs hj => ?_⟩
  obtain ⟨u, e1, e2⟩ := h6 j bs (Nat.zero_le _) hj
  obtain ⟨a2, c2, rfl, _⟩ := e2.form
  exact ⟨a2, c2, e1, (e2.reads (w0 := w0)).rd h1⟩
/-- A key of the list, written over. -/
theorem TZ.spoil (h : TZ w0 X Y K M o b G ad j z) (hj : j < G.length) (hk : ∀ g ∈ G, g.length ≤ 1000) : ∃ a n c, z.cell? (ad.add j) = some (.slice a n c) ∧
    Calls Try.prog 16 #[.slice a n c] z fun e z' => e = .returned (.tuple #[]) ∧ TZ w0 X Y K M o b G ad (j + 1) z' := by
  obtain ⟨A, vs, h1, h2, h3, h4, h5, h6⟩ := h
  obtain ⟨u, e1, e2⟩ := h6 j _ (Nat.le_refl _) (List.getElem?_eq_getElem hj)
  have hl := hk _ (List.getElem_mem hj)
  have hat := own_at (h4.own h1) j hj
  obtain ⟨a, c, rfl, _⟩ := e2.form
  refine ⟨a, _, c, hat.1.trans e1, (spoil_z h1 e2 (by omega)).mono fun e z' q => ?_⟩
  obtain ⟨q1, A', l2, f2⟩ := q
  refine ⟨q1, A', vs, l2, h2.keep (f2 _ (by simp)) (f2 _ (by simp)), h3.keep (fun x a b => f2 x (fun e => by rw [e] at a; simp at a)), h4.keep (f2 _ (by simp)), h5, fun i bs hi hG => ?_⟩
  obtain ⟨u, e3, e4⟩ := h6 i bs (by omega) hG
  exact ⟨u, e3, e4.keep (f2 _ (by simp; omega))⟩
theorem TW.plen (h : TW w0 X Y K M o b z) :
    Calls Try.prog 11 #[.pointer (some ⟨X, 0, none⟩)] z fun e z' => e = .returned (.int .i64 (o.length : Nat)) ∧ z' = z := by
  obtain ⟨A, h1, h2, h3⟩ := h
  exact plen_c h1 h2
theorem TW.rlen (h : TW w0 X Y K M o b z) :
    Calls Try.prog 12 #[.pointer (some ⟨Y, 0, none⟩)] z fun e z' => e = .returned (.int .i64 (o.length : Nat)) ∧ z' = z := by
  obtain ⟨A, h1, h2, h3⟩ := h
  exact dlen_c h1 h3
theorem keys_len (h : OG K M o) : o.length ≤ 1000 ∧ ∀ g ∈ o.map (·.1), g.length ≤ 1000 := by
  have h1 := h.small
  have h2 := h.M2
  have h3 := h.K2
  refine ⟨by omega, fun g hg => ?_⟩
  obtain ⟨e, he, rfl⟩ := List.mem_map.1 hg
  have := h.len e he
  omega
/-- Both are made. -/
theorem new_both (w : World) (key most : Int) :
    Calls Try.prog 7 #[.int .i64 key, .int .i64 most] w fun e w' => ∃ X, e = .returned (.pointer (some ⟨X, 0, none⟩)) ∧
      Calls Try.prog 8 #[.int .i64 key, .int .i64 most] w' fun e w2 => ∃ Y, e = .returned (.pointer (some ⟨Y, 0, none⟩)) ∧ TW w X Y (max 1 (min key 16)) (max 1 (min most 64)) [] 0 w2 := by
  refine (pnew_c 0 (Lay.start w) key most).mono fun e w' q => ?_
  obtain ⟨X, he, A1, l1, p1, f1⟩ := q
  refine ⟨X, he, (dnew_c l1 key most).mono fun e w2 q => ?_⟩
  obtain ⟨Y, he2, A2, l2, d2, f2⟩ := q
  exact ⟨Y, he2, A2, l2, p1.keep (fd_low f2 _ (by simp)) (fd_low f2 _ (by simp)), d2⟩
end
end Go.Proofs.Ythappjbghlifbaa
