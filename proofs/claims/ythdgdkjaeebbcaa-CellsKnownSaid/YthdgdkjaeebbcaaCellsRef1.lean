/-
  What the document's cells tell: contracts of what changes nothing. Conditions: 1000 cells at most, of 64 bytes at most, written 300 times at most.
-/
import Derived.Test.YthdgdkjaeebbcaaCellsRMem
import Derived.Test.YthdgdkjaeebbcaaCellsCount
import Derived.Test.YthdgdkjaeebbcaaBrief
import Derived.WalkKit
import Derived.WalkSpells
import Derived.WalkLawsBesides
import Derived.Handy
import Derived.WalkMore
import Derived.IntWalk
namespace Go.Proofs.Ythdgdkjaeebbcaa
set_option maxRecDepth 100000
open Go.RowKit Ow Ph Ro K2
set_option linter.unusedVariables false
set_option linter.unusedSimpArgs false
/-- Where a number is not there. -/
theorem gt_no {L : List Cl} {id : Int} (h : gt L id = none) : id < 1 ∨ (1 ≤ id ∧ (L.length : Int) < id) ∨ ∃ (k : Nat) (c : Cl), id = (k : Int) + 1 ∧ L[k]? = some c ∧ c.swept = true := by
  by_cases h1 : id < 1
  · exact .inl h1
  · by_cases h2 : (L.length : Int) < id
    · exact .inr (.inl ⟨by omega, h2⟩)
    · refine .inr (.inr ⟨(id - 1).toNat, ?_⟩)
      have hk : (id - 1).toNat < L.length := by omega
      refine ⟨L[(id - 1).toNat], by omega, List.getElem?_eq_getElem hk, ?_⟩
      unfold gt at h
      rw [if_pos (by omega), List.getElem?_eq_getElem hk] at h
      generalize L[(id - 1).toNat] = c at *
      cases hs : c.swept with
      | true => rfl
      | false => simp [Option.filter, hs] at h
theorem gt_yes {L : List Cl} {id : Int} {c : Cl} (h : gt L id = some c) : ∃ k : Nat, id = (k : Int) + 1 ∧ k < L.length ∧ L[k]? = some c ∧ c.swept = false := by
  obtain ⟨h1, h2, h3, h4⟩ := gt_some h
  exact ⟨(id - 1).toNat, by omega, h2, h3, h4⟩
def RNewP (w0 : World) (A : Ac) (e : Ending) (w' : World) : Prop := ∃ X, e = .returned (.pointer (some ⟨X, 0, none⟩)) ∧ RDid w0 A X [] w'
theorem rnew_c {w0 w : World} {A : Ac} (hl : Lay w0 A w) : Calls Try.prog 14 #[] w (RNewP w0 A) := by
  have HP : Hid (RDid w0 A w.heap.size [] (w.alloc (.cells #[.slice none 0 0] 38))) := Lib.hid (by
    have h1 := hl.new (10, 0) (o := .cells #[.slice none 0 0] 38) ((Below.refl _ _).alloc (Nat.le_refl _) _) (Nat.le_refl _) (heap_alloc_new w _)
    refine ⟨_, h1, ⟨.slice none 0 0, [], up_same _ _ _ _, Row.nil _ _ _ _, rfl, fun k t h => by simp at h⟩, fun x hx => up_other _ _ _ (fun e => hx (by rw [e]; simp))⟩)
  clear hl
  go_enter Try.func14, Try.ntmps14
  go_wp2
  go_ret
  exact ⟨_, rfl, HP.out⟩
set_option maxRecDepth 100000 in
theorem there_c {w0 w : World} {A : Ac} {X : Nat} {L : List Cl} (hl : Lay w0 A w) (h : RS w0 A X L) (hn : L.length ≤ 1000) (id : Int) (h1 : -9223372036854775808 ≤ id) (h2 : id ≤ 9223372036854775807) :
    Calls Try.prog 60 #[.pointer (some ⟨X, 0, none⟩), .int .i64 id] w fun e w' => e = .returned (.bool (gt L id).isSome) ∧ w = w' := by
  obtain ⟨v, l, hx⟩ := h
  have hll := hx.len
  obtain ⟨a, cap, rfl, c1, c2, _⟩ := hx.row.form2
  have x0 : w.cell? ⟨X, 0, none⟩ = some (.slice a l.length cap) := (hl.bk hx.head).cell 0
  have go : ∀ (k : Nat) (c : Cl), id = (k : Int) + 1 → L[k]? = some c → Calls Try.prog 60 #[.pointer (some ⟨X, 0, none⟩), .int .i64 id] w fun e w' => e = .returned (.bool (!c.swept)) ∧ w = w' := by
    intro k c hid hk
    subst hid
    have hkl : k < l.length := by have := (List.getElem?_eq_some_iff.1 hk).1; omega
    have hnth := hx.nth k hkl
    rw [hk] at hnth
    injection hnth with hnth
    obtain ⟨ad, cap', e, _, _, hc⟩ := hx.get hl k hkl
    simp only [Value.slice.injEq] at e
    obtain ⟨rfl, _, rfl⟩ := e
    have q4 := (hc 4 (by omega)).1
    rw [← add_next _ _ _ (by omega)] at q4
    have e4 : (rcells l[k])[4]? = some (.bool l[k].2.2.swept) := rfl
    rw [e4, ← hnth] at q4
    have i1 : (k : Int) < (l.length : Int) := by omega
    have i0 : (0 : Int) ≤ (k : Int) := by omega
    have i3 : (l.length : Int) ≤ 1000 := by omega
    clear hl hx hc e4 hnth hk
    generalize l.length = m at *
    generalize c.swept = sw at *
    clear hkl hll hn h1 h2
    go_enter Try.func60, Try.ntmps60
    go_wp2
    all_goals
      go_ret
      exact ⟨rfl, rfl⟩
  cases hg : gt L id with
  | none =>
    rcases gt_no hg with h3 | ⟨h3, h4⟩ | ⟨k, c, h5, h6, h7⟩
    · clear go hl hx hg
      go_enter Try.func60, Try.ntmps60
      go_wp2
      go_ret
      exact ⟨rfl, rfl⟩
    · have h5 : (l.length : Int) < id := by omega
      clear go hl hx hg h4
      generalize l.length = m at *
      clear hll
      go_enter Try.func60, Try.ntmps60
      go_wp2
      go_ret
      exact ⟨rfl, rfl⟩
    · have := go k c h5 h6
      rw [h7] at this
      exact this
  | some c =>
    obtain ⟨k, h5, _, h6, h7⟩ := gt_yes hg
    have := go k c h5 h6
    rw [h7] at this
    exact this
/-- What lies at a number that is there. -/
theorem RS.look {w0 w : World} {A : Ac} {X : Nat} {L : List Cl} (h : RS w0 A X L) (hl : Lay w0 A w) {id : Int} {c : Cl} (hg : gt L id = some c) :
    ∃ (k : Nat) (ad : Addr) (n cap : Nat) (s b : Value), id = (k : Int) + 1 ∧ k < n ∧ n = L.length ∧ n ≤ cap ∧ cap ≤ maxLen ∧ w.cell? ⟨X, 0, none⟩ = some (.slice (some ad) n cap) ∧ RAt w0 A (k + 1) (s, b, c) ∧
      w.cell? (ad.add (k * 5)) = some s ∧ w.cell? ⟨(ad.add (k * 5)).block, (ad.add (k * 5)).off + 1, none⟩ = some (.int .i64 (c.ts.length : Nat)) ∧ w.cell? ⟨(ad.add (k * 5)).block, (ad.add (k * 5)).off + 2, none⟩ = some b ∧
      w.cell? ⟨(ad.add (k * 5)).block, (ad.add (k * 5)).off + 3, none⟩ = some (.bool c.gone) ∧ w.cell? ⟨(ad.add (k * 5)).block, (ad.add (k * 5)).off + 4, none⟩ = some (.bool c.swept) := by
  obtain ⟨k, h5, h8, h6, h7⟩ := gt_yes hg
  obtain ⟨v, l, hx⟩ := h
  have hll := hx.len
  have hkl : k < l.length := by omega
  have hnth := hx.nth k hkl
  rw [h6] at hnth
  injection hnth with hnth
  obtain ⟨ad, cap, rfl, c1, c2, hc⟩ := hx.get hl k hkl
  have hat := hx.at_ k _ (List.getElem?_eq_getElem hkl)
  rcases hr : l[k] with ⟨s, b, c'⟩
  rw [hr] at hat hc hnth
  dsimp only at hnth
  subst hnth
  have q0 := (hc 0 (by omega)).1
  have q1 := (hc 1 (by omega)).1
  have q2 := (hc 2 (by omega)).1
  have q3 := (hc 3 (by omega)).1
  have q4 := (hc 4 (by omega)).1
  rw [← add_next _ _ _ (by omega)] at q1 q2 q3 q4
  exact ⟨k, ad, l.length, cap, s, b, h5, hkl, hll, c1, c2, (hl.bk hx.head).cell 0, hat, q0, q1, q2, q3, q4⟩
theorem rsize_c {w0 w : World} {A : Ac} {X : Nat} {L : List Cl} (hl : Lay w0 A w) (h : RS w0 A X L) (hn : L.length ≤ 1000) (id : Int) (h1 : -9223372036854775808 ≤ id) (h2 : id ≤ 9223372036854775807) :
    Calls Try.prog 37 #[.pointer (some ⟨X, 0, none⟩), .int .i64 id] w fun e w' => e = .returned (.int .i64 (szC L id : Nat)) ∧ w = w' := by
  have CT := there_c hl h hn id h1 h2
  unfold szC
  cases hg : gt L id with
  | none =>
    rw [hg] at CT
    clear hl h hg
    go_enter Try.func37, Try.ntmps37
    go_wp2_with ((with_reducible refine CT.mono ?_); rintro e w' ⟨rfl, rfl⟩; rw [show (none : Option Cl).isSome = false from rfl])
    go_ret
    exact ⟨rfl, rfl⟩
  | some c =>
    rw [hg] at CT
    obtain ⟨k, ad, n, cap, s, b, rfl, k1, k2, k3, k4, x0, hat, q0, q1, q2, q3, q4⟩ := h.look hl hg
    obtain ⟨a, cap2, e, c1, c2, c3⟩ := hat.row.form2
    dsimp only at e c1
    subst e
    have i1 : (k : Int) < (n : Int) := by omega
    have i0 : (0 : Int) ≤ (k : Int) := by omega
    clear hl h hg hat k2 c3
    simp only [Option.map_some, Option.getD_some]
    generalize c.bs.length = m at *
    go_enter Try.func37, Try.ntmps37
    go_wp2_with ((with_reducible refine CT.mono ?_); rintro e w' ⟨rfl, rfl⟩; rw [show (some c).isSome = true from rfl])
    go_ret
    exact ⟨rfl, rfl⟩
theorem rversion_c {w0 w : World} {A : Ac} {X : Nat} {L : List Cl} (hl : Lay w0 A w) (h : RS w0 A X L) (hn : L.length ≤ 1000) (id : Int) (h1 : -9223372036854775808 ≤ id) (h2 : id ≤ 9223372036854775807) :
    Calls Try.prog 50 #[.pointer (some ⟨X, 0, none⟩), .int .i64 id] w fun e w' => e = .returned (.int .i64 (vsC L id : Nat)) ∧ w = w' := by
  have CT := there_c hl h hn id h1 h2
  unfold vsC
  cases hg : gt L id with
  | none =>
    rw [hg] at CT
    clear hl h hg
    go_enter Try.func50, Try.ntmps50
    go_wp2_with ((with_reducible refine CT.mono ?_); rintro e w' ⟨rfl, rfl⟩; rw [show (none : Option Cl).isSome = false from rfl])
    go_ret
    exact ⟨rfl, rfl⟩
  | some c =>
    rw [hg] at CT
    obtain ⟨k, ad, n, cap, s, b, rfl, k1, k2, k3, k4, x0, hat, q0, q1, q2, q3, q4⟩ := h.look hl hg
    have i1 : (k : Int) < (n : Int) := by omega
    have i0 : (0 : Int) ≤ (k : Int) := by omega
    have i3 : (n : Int) ≤ 1000 := by omega
    clear k2
    simp only [Option.map_some, Option.getD_some]
    clear hl h hg hat h1 h2
    generalize c.ts.length = m at *
    go_enter Try.func50, Try.ntmps50
    go_wp2_with ((with_reducible refine CT.mono ?_); rintro e w' ⟨rfl, rfl⟩; rw [show (some c).isSome = true from rfl])
    go_ret
    exact ⟨rfl, rfl⟩
theorem rbytes_c {w0 w : World} {A : Ac} {X n0 : Nat} {L : List Cl} (hl : Lay w0 A w) (h : RS w0 A X L) (ho : OkL n0 L) (hn : L.length ≤ 1000) (id : Int) (h1 : -9223372036854775808 ≤ id) (h2 : id ≤ 9223372036854775807) :
    Calls Try.prog 38 #[.pointer (some ⟨X, 0, none⟩), .int .i64 id] w fun e w' => ∃ v, e = .returned v ∧ OwnB w v w' (bsC L id) := by
  have CT := there_c hl h hn id h1 h2
  unfold bsC
  cases hg : gt L id with
  | none =>
    rw [hg] at CT
    clear hl h hg
    go_enter Try.func38, Try.ntmps38
    go_wp2_with ((with_reducible refine CT.mono ?_); rintro e w' ⟨rfl, rfl⟩; rw [show (none : Option Cl).isSome = false from rfl])
    go_ret
    exact ⟨_, rfl, World.ownsRow_nil _ _ _ _, Below.refl _ _⟩
  | some c =>
    rw [hg] at CT
    obtain ⟨k, ad, n, cap, s, b, rfl, k1, k2, k3, k4, x0, hat, q0, q1, q2, q3, q4⟩ := h.look hl hg
    have i1 : (k : Int) < (n : Int) := by omega
    have i0 : (0 : Int) ≤ (k : Int) := by omega
    have i3 : (n : Int) ≤ 1000 := by omega
    clear k2
    simp only [Option.map_some, Option.getD_some]
    have hle := (gt_ok ho hg).len
    obtain ⟨a, cap2, e, c1, c2, c3⟩ := hat.row.form2
    dsimp only at e c1
    subst e
    have CC := fun z hz => copyb_any a c.bs.length cap2 c.bs rfl (by omega) z hz
    have HX := Lib.hid ((hat.row.reads (w0 := w0)).rd hl)
    clear hl h hg hat h1 h2 c3 ho
    go_enter Try.func38, Try.ntmps38
    go_wp2_with ((with_reducible refine CT.mono ?_); rintro e w' ⟨rfl, rfl⟩; rw [show (some c).isSome = true from rfl])
    with_reducible refine (CC _ HX.out).mono ?_
    rintro e w' ⟨v, rfl, q⟩
    have Q := Lib.hid q
    clear q
    go_wp2
    go_ret
    exact ⟨_, rfl, Q.out⟩
theorem rsteady_c {w0 w : World} {A : Ac} {X n0 : Nat} {L : List Cl} (hl : Lay w0 A w) (h : RS w0 A X L) (ho : OkL n0 L) (hn0 : n0 ≤ 300) (hn : L.length ≤ 1000) (id now : Int) (h1 : -9223372036854775808 ≤ id) (h2 : id ≤ 9223372036854775807) (hnow : i64 now) :
    Calls Try.prog 52 #[.pointer (some ⟨X, 0, none⟩), .int .i64 id, .int .i64 now] w fun e w' => e = .returned (.bool (stV L id now)) ∧ Below w.heap.size w w' := by
  have CT := there_c hl h hn id h1 h2
  unfold stV
  cases hg : gt L id with
  | none =>
    rw [hg] at CT
    clear hl h hg
    go_enter Try.func52, Try.ntmps52
    go_wp2_with ((with_reducible refine CT.mono ?_); rintro e w' ⟨rfl, rfl⟩; rw [show (none : Option Cl).isSome = false from rfl])
    go_ret
    exact ⟨rfl, Below.refl _ _⟩
  | some c =>
    rw [hg] at CT
    obtain ⟨k, ad, n, cap, s, b, rfl, k1, k2, k3, k4, x0, hat, q0, q1, q2, q3, q4⟩ := h.look hl hg
    have i1 : (k : Int) < (n : Int) := by omega
    have i0 : (0 : Int) ≤ (k : Int) := by omega
    have i3 : (n : Int) ≤ 1000 := by omega
    clear k2
    simp only [Option.map_some, Option.getD_some]
    have hok := gt_ok ho hg
    have hof := hok.often
    obtain ⟨a, m2, e, hrd, _⟩ := hat.beat
    dsimp only at e hrd
    subst e
    have CC := fun z hz => PR.rsteady_any a m2 c.ts.length c.ts now rfl (by omega) hok.times hnow z hz
    have HX := Lib.hid (hrd.rd hl)
    clear hl h hg hat h1 h2 ho hok hrd

    go_enter Try.func52, Try.ntmps52
    go_wp2_with ((with_reducible refine CT.mono ?_); rintro e w' ⟨rfl, rfl⟩; rw [show (some c).isSome = true from rfl])
    with_reducible refine (CC _ HX.out).mono ?_
    rintro e w' ⟨rfl, q⟩
    have Q := Lib.hid q
    clear q
    go_wp2
    go_ret
    exact ⟨rfl, Q.out⟩
end Go.Proofs.Ythdgdkjaeebbcaa
