/-
  Layer 10's document: Del: contract. Conditions: as place has.
-/
import Derived.Test.YtkaapphlnolelaaHashRef3
namespace Go.Proofs.Ytkaapphlnolelaa
open Go.RowKit Ow Ro K2 Hm
set_option linter.unusedVariables false
set_option linter.unusedSimpArgs false
def HDid (w0 : World) (A : Ac) (X : Nat) (K M : Int) (T : List Pl) (w : World) : Prop := ∃ A', Lay w0 A' w ∧ HS A' X K M T ∧ ∀ x : Rl, ¬ (50 ≤ x.1 ∧ x.1 < 60) → A' x = A x
def delT (T : List Pl) : Option Nat → List Pl
  | none => T
  | some p => T.set p ⟨2, [], 0⟩
theorem HS.look3 {w0 w : World} {A : Ac} {X : Nat} {K M : Int} {T : List Pl} (h : HS A X K M T) (hl : Lay w0 A w) {k : Nat} {t : Pl} (hk : T[k]? = some t) :
    ∃ (ad : Addr) (cap : Nat), w.cell? ⟨X, 0, none⟩ = some (.slice (some ad) T.length cap) ∧ (∃ u0 u1, w.cell? (ad.add (k * 3)) = some u0 ∧ w.cell? ⟨(ad.add (k * 3)).block, (ad.add (k * 3)).off + 1, none⟩ = some u1) ∧ w.cell? ⟨(ad.add (k * 3)).block, (ad.add (k * 3)).off + 2, none⟩ = some (.int .i64 t.cell) ∧
      w.frozen? (ad.add (k * 3)) = false ∧ w.frozen? ⟨(ad.add (k * 3)).block, (ad.add (k * 3)).off + 1, none⟩ = false ∧ w.frozen? ⟨(ad.add (k * 3)).block, (ad.add (k * 3)).off + 2, none⟩ = false ∧
      ∃ A', Lay w0 A' (((w.setCell (ad.add (k * 3)) (.int .i64 2)).setCell ⟨(ad.add (k * 3)).block, (ad.add (k * 3)).off + 1, none⟩ (.slice none 0 0)).setCell ⟨(ad.add (k * 3)).block, (ad.add (k * 3)).off + 2, none⟩ (.int .i64 0)) ∧ HS A' X K M (T.set k ⟨2, [], 0⟩) ∧ ∀ x, x ≠ (51, 0) → A' x = A x := by
  obtain ⟨v, l, hx⟩ := h
  have hll := hx.len
  have hkT := (List.getElem?_eq_some_iff.1 hk).1
  have hkl : k < l.length := by omega
  have hnth := hx.nth k hkl
  rw [hk] at hnth
  injection hnth with hnth
  obtain ⟨ad, cap, rfl, c1, c2, hc⟩ := hx.get hl k hkl
  have h3 := hx.put3 hl hkl (fun _ _ => rfl) (.slice none 0 0) ⟨2, [], 0⟩ (Row.nil _ _ _ _)
  have q0 := hc 0 (by omega)
  have q1 := hc 1 (by omega)
  have q2 := hc 2 (by omega)
  unfold st3 at h3
  dsimp only at h3
  have hh := hx.head
  rw [hll] at hh
  rcases hr : l[k] with ⟨s, t'⟩
  rw [hr] at q0 q1 q2 hnth
  dsimp only at hnth
  subst hnth
  rw [← add_next ad (k * 3) 1 (by omega)] at q1 h3
  rw [← add_next ad (k * 3) 2 (by omega)] at q2 h3
  exact ⟨ad, cap, (hl.bk hh).cell 0, ⟨_, _, q0.1, q1.1⟩, q2.1, q0.2, q1.2, q2.2, h3⟩
def DelP (w0 : World) (A : Ac) (X : Nat) (K M : Int) (T : List Pl) (r : Option Nat) (e : Ending) (w' : World) : Prop := e = .returned (fdV T r) ∧ HDid w0 A X K M (delT T r) w'
theorem rdel_c {w0 w : World} {A : Ac} {X : Nat} {K M : Int} {T : List Pl} (hl : Lay w0 A w) (h : HS A X K M T) (hn : T.length ≤ 1000) (hn1 : 1 ≤ T.length) (a : Option Addr) (nk ck : Nat) (ks : List Int) (hkn : ks.length = nk) (hk6 : nk ≤ 100000) (hkb : ∀ b ∈ ks, 0 ≤ b ∧ b ≤ 255) (hrd : Rd w w.heap.size a (bv ks)) :
    Calls Try.prog 21 #[.pointer (some ⟨X, 0, none⟩), .slice a nk ck] w (DelP w0 A X K M T (plc T K ks)) := by
  have PC := Lib.hid (place_c hl h hn hn1 a nk ck ks hkn hk6 hkb hrd)
  obtain ⟨r, hr⟩ : ∃ r, plc T K ks = r := ⟨_, rfl⟩
  rw [hr] at PC ⊢
  have HL := Lib.hid hl
  have HH := Lib.hid h
  cases r with
  | none =>
    clear hl h hrd
    go_enter Try.func21, Try.ntmps21
    go_wp2_with fail
    with_reducible refine PC.out.mono ?_
    rintro e w1 ⟨rfl, q⟩
    have HD : Hid (HDid w0 A X K M (delT T none) w1) := Lib.hid ⟨A, HL.out.grow q, HH.out, fun _ _ => rfl⟩
    clear q
    unfold plcV
    go_wp2
    go_ret2
    exact ⟨rfl, HD.out⟩
  | some p =>
    obtain ⟨hp, t, ht, _, _⟩ := plc_lt hr
    have HT := Lib.hid ht
    have hc : (T.getD p ⟨0, [], 0⟩).cell = t.cell := by rw [List.getD_eq_getElem?_getD, ht]; rfl
    obtain ⟨n, hnn⟩ : ∃ n, T.length = n := ⟨_, rfl⟩
    have HN := Lib.hid hnn
    rw [hnn] at hp
    have p1 : (p : Int) < (n : Int) := by omega
    have p0 : (0 : Int) ≤ (p : Int) := by omega
    have p2 : ¬ (p : Int) < 0 := by omega
    unfold DelP fdV
    dsimp only
    rw [hc]
    clear hl h hrd ht hr hc hn hn1 hnn
    go_enter Try.func21, Try.ntmps21
    go_wp2_with fail
    with_reducible refine PC.out.mono ?_
    rintro e w1 ⟨rfl, q⟩
    obtain ⟨ad, cp, e0, ⟨u0, u1, e1, e2⟩, e3, f0, f1, f2, h3⟩ := HH.out.look3 (HL.out.grow q) HT.out
    rw [HN.out] at e0
    have g1 : (w1.setCell (ad.add (p * 3)) (.int .i64 2)).cell? ⟨(ad.add (p * 3)).block, (ad.add (p * 3)).off + 1, none⟩ = some u1 := by
      rw [World.cell?_setCell_other _ _ _ _ (fun e => by have := congrArg Addr.off e; simp at this)]; exact e2
    have g2 : ((w1.setCell (ad.add (p * 3)) (.int .i64 2)).setCell ⟨(ad.add (p * 3)).block, (ad.add (p * 3)).off + 1, none⟩ (.slice none 0 0)).cell? ⟨(ad.add (p * 3)).block, (ad.add (p * 3)).off + 2, none⟩ = some (.int .i64 t.cell) := by
      rw [World.cell?_setCell_other _ _ _ _ (fun e => by have := congrArg Addr.off e; simp at this), World.cell?_setCell_other _ _ _ _ (fun e => by have := congrArg Addr.off e; simp at this)]; exact e3
    have HD : Hid (HDid w0 A X K M (delT T (some p)) (((w1.setCell (ad.add (p * 3)) (.int .i64 2)).setCell ⟨(ad.add (p * 3)).block, (ad.add (p * 3)).off + 1, none⟩ (.slice none 0 0)).setCell ⟨(ad.add (p * 3)).block, (ad.add (p * 3)).off + 2, none⟩ (.int .i64 0))) := Lib.hid (by
      obtain ⟨A', h4, h5, h6⟩ := h3
      exact ⟨A', h4, h5, fun x hx => h6 x (fun e => by rw [e] at hx; simp at hx)⟩)
    clear q h3
    unfold plcV
    go_wp2
    go_ret2
    exact ⟨rfl, HD.out⟩
end Go.Proofs.Ytkaapphlnolelaa
