/-
  What the document's cells do: Drop, Sweep: contracts. Conditions: 1000 cells at most, of 64 bytes at most, written 300 times at most.
-/
import Derived.Test.YthdgdkjaeebbcaaCellsRef3
namespace Go.Proofs.Ythdgdkjaeebbcaa
set_option maxRecDepth 100000
open Go.RowKit Ow Ph Ro K2
set_option linter.unusedVariables false
set_option linter.unusedSimpArgs false
section
variable {w0 w : World} {A A' : Ac} {X : Nat} {v : Value} {l : List R3} {L : List Cl}
theorem RSx.changed (h : RSx w0 A X v l L) {k : Nat} {t' : R3} (hk : k < l.length) (h1 : A' (10, 0) = some (X, .cells #[v] 38)) (h2 : Row A' (11, 0) 74 5 v (l.set k t').length (rflat (l.set k t')))
    (h3 : RAt w0 A' (k + 1) t') (h4 : ∀ x : Rl, 10 ≤ x.1 → x.1 < 20 → x ≠ (10, 0) → x ≠ (11, 0) → x ≠ (12, k + 1) → x ≠ (13, k + 1) → A' x = A x) : RSx w0 A' X v (l.set k t') (L.set k t'.2.2) := by
  refine ⟨h1, h2, ?_, fun j t hj => ?_⟩
  · rw [List.map_set, h.are]
  · by_cases e : k = j
    · subst e
      rw [List.getElem?_set_self hk] at hj
      injection hj with hj
      subst hj
      exact h3
    · rw [List.getElem?_set_ne e] at hj
      exact (h.at_ j t hj).keep (h4 _ (by simp) (by simp) (by simp) (by simp) (by simp; omega) (by simp)) (h4 _ (by simp) (by simp) (by simp) (by simp) (by simp) (by simp; omega))
end
def RBoolP (w0 : World) (A : Ac) (X : Nat) (x : Bool × List Cl) (e : Ending) (w' : World) : Prop := e = .returned (.bool x.1) ∧ RDid w0 A X x.2 w'
theorem RDid.same {w0 w : World} {A : Ac} {X : Nat} {L : List Cl} (hl : Lay w0 A w) (h : RS w0 A X L) : RDid w0 A X L w := ⟨A, hl, h, Fr2.refl A⟩
theorem ne20 {x r : Rl} (hx : ¬ (10 ≤ x.1 ∧ x.1 < 20)) (hr : 10 ≤ r.1 ∧ r.1 < 20) : x ≠ r := fun e => hx (by rw [e]; exact hr)
/-- One field of one cell is set. -/
theorem rset_c {w0 w : World} {A : Ac} {X : Nat} {L : List Cl} (hl : Lay w0 A w) (h : RS w0 A X L) {id : Int} {c : Cl} (hg : gt L id = some c) (r : Nat) (hr : r < 5) (u : Value) (c' : Cl) (hb : c'.bs = c.bs) (ht : c'.ts = c.ts)
    (hc : ∀ s b : Value, (rcells (s, b, c)).set r u = rcells (s, b, c')) :
    ∃ (k : Nat) (ad : Addr) (n cap : Nat), id = (k : Int) + 1 ∧ k < n ∧ n = L.length ∧ n ≤ cap ∧ cap ≤ maxLen ∧ w.cell? ⟨X, 0, none⟩ = some (.slice (some ad) n cap) ∧ (∃ y, w.cell? (ad.add (k * 5 + r)) = some y) ∧ w.frozen? (ad.add (k * 5 + r)) = false ∧
      RDid w0 A X (L.set (id.toNat - 1) c') (w.setCell (ad.add (k * 5 + r)) u) := by
  obtain ⟨k, h5, h8, h6, h7⟩ := gt_yes hg
  obtain ⟨v, l, hx⟩ := h
  have hll := hx.len
  have hkl : k < l.length := by omega
  have hnth := hx.nth k hkl
  rw [h6] at hnth
  injection hnth with hnth
  obtain ⟨ad, cap, e, c1, c2, hcl⟩ := hx.get hl k hkl
  rcases hlk : l[k] with ⟨s, b, c0⟩
  have hat := hx.at_ k _ (List.getElem?_eq_getElem hkl)
  rw [hlk] at hat hcl hnth
  dsimp only at hnth
  subst hnth
  obtain ⟨A', p1, p2, p3, p4⟩ := hx.put hl hkl hr e u (s, b, c') (by rw [hlk]; exact hc s b)
  have hat' : RAt w0 A (k + 1) (s, b, c') := ⟨by dsimp only; rw [hb]; exact hat.row, by dsimp only; rw [ht]; exact hat.beat⟩
  have hch := hx.changed (A' := A') hkl p2 p3 (hat'.keep (p4 _ (by simp)) (p4 _ (by simp))) (fun x _ _ _ h9 _ _ => p4 x h9)
  have hk : id.toNat - 1 = k := by omega
  have hy : ∃ y, w.cell? (ad.add (k * 5 + r)) = some y := by
    have h9 : (rcells (s, b, c))[r]? = some ((rcells (s, b, c))[r]'(by rw [rcells_len]; exact hr)) := List.getElem?_eq_getElem _
    exact ⟨_, (hcl r hr).1.trans h9⟩
  refine ⟨k, ad, l.length, cap, h5, hkl, hll, c1, c2, by rw [← e]; exact (hl.bk hx.head).cell 0, hy, (hcl r hr).2, A', p1, ?_, fun x hx => p4 x (ne20 hx (by simp))⟩
  rw [hk]
  exact ⟨v, _, hch⟩
theorem rdrop_c {w0 w : World} {A : Ac} {X : Nat} {L : List Cl} (hl : Lay w0 A w) (h : RS w0 A X L) (hn : L.length ≤ 1000) (id : Int) (h1 : -9223372036854775808 ≤ id) (h2 : id ≤ 9223372036854775807) :
    Calls Try.prog 46 #[.pointer (some ⟨X, 0, none⟩), .int .i64 id] w (RBoolP w0 A X (drC L id)) := by
  have CT := there_c hl h hn id h1 h2
  have HS := Lib.hid (RDid.same hl h)
  cases hg : gt L id with
  | none =>
    rw [hg] at CT
    have e : drC L id = (false, L) := by unfold drC; rw [hg]
    rw [e]
    clear hl h hg e h1
    go_enter Try.func46, Try.ntmps46
    go_wp2_with ((with_reducible refine CT.mono ?_); rintro e w' ⟨rfl, rfl⟩; rw [show (none : Option Cl).isSome = false from rfl])
    go_ret
    exact ⟨rfl, HS.out⟩
  | some c =>
    rw [hg] at CT
    obtain ⟨k, ad, n, cap, s, b, hk, k1, k2, k3, k4, x0, hat, q0, q1, q2, q3, q4⟩ := h.look hl hg
    cases hgn : c.gone with
    | true =>
      have e : drC L id = (false, L) := by unfold drC; rw [hg]; simp [hgn]
      rw [e]
      rw [hgn] at q3
      subst hk
      have i1 : (k : Int) < (n : Int) := by omega
      have i0 : (0 : Int) ≤ (k : Int) := by omega
      have i3 : (n : Int) ≤ 1000 := by omega
      clear hl h hg e h1 h2 k2 hat
      go_enter Try.func46, Try.ntmps46
      go_wp2_with ((with_reducible refine CT.mono ?_); rintro e w' ⟨rfl, rfl⟩; rw [show (some c).isSome = true from rfl])
      go_ret
      exact ⟨rfl, HS.out⟩
    | false =>
      have e : drC L id = (true, L.set (id.toNat - 1) { c with gone := true }) := by unfold drC; rw [hg]; simp [hgn]
      rw [e]
      rw [hgn] at q3
      obtain ⟨k', ad', n', cap', hk', _, hn', _, _, x0', hy, hf, hd⟩ := rset_c hl h hg 3 (by omega) (.bool true) { c with gone := true } rfl rfl (fun s b => rfl)
      obtain rfl : k = k' := by omega
      obtain rfl : n = n' := by omega
      rw [x0] at x0'
      simp only [Option.some.injEq, Value.slice.injEq] at x0'
      obtain ⟨rfl, _, rfl⟩ := x0'
      obtain ⟨LL, hLL⟩ : ∃ LL, LL = L.set (id.toNat - 1) { c with gone := true } := ⟨_, rfl⟩
      rw [← hLL] at hd ⊢
      subst hk
      have i1 : (k : Int) < (n : Int) := by omega
      have i0 : (0 : Int) ≤ (k : Int) := by omega
      have i3 : (n : Int) ≤ 1000 := by omega
      rw [← add_next _ _ _ (by omega)] at hf hd
      have HD := Lib.hid hd
      clear hl h hg e h1 h2 k2 hat hy hk' hn' hd hLL HS
      go_enter Try.func46, Try.ntmps46
      go_wp2_with ((with_reducible refine CT.mono ?_); rintro e w' ⟨rfl, rfl⟩; rw [show (some c).isSome = true from rfl])
      generalize (w.setCell ⟨(ad.add (k * 5)).block, (ad.add (k * 5)).off + 3, none⟩ (.bool true)) = z9 at *
      go_ret
      exact ⟨rfl, HD.out⟩
end Go.Proofs.Ythdgdkjaeebbcaa
