/-
  Layer 11's document: at, Peek, Len: contracts. Conditions: 1000 rows, keys of 100000 bytes at most.
-/
import Derived.Test.YthappjbghlifbaaLruMem
namespace Go.Proofs.Ythappjbghlifbaa
set_option maxRecDepth 100000
open Go.RowKit Ow Ro K2
set_option linter.unusedVariables false
set_option linter.unusedSimpArgs false
set_option maxHeartbeats 1000000 in
theorem lat_c {w0 w : World} {A : Ac} {X : Nat} {K M U : Int} {v : Value} {l : List Rw} {t : Nat} (hl : Lay w0 A w) (h : LS A X K M U v l t) (hlen : l.length ≤ 1000) (ax : Option Addr) (n cx : Nat) (ks : List Int) (hn : ks.length = n) (hn2 : n ≤ 100000) (hr : Rd w w.heap.size ax (bv ks)) :
    Calls Try.prog 38 #[.pointer (some ⟨X, 0, none⟩), .slice ax n cx] w fun e w' => e = .returned (.int .i64 (lixV (lix l ks))) ∧ Below w.heap.size w w' := by
  obtain ⟨av, cv, rfl, c8, c9⟩ := h.form
  have HL := Lib.hid hl
  have HH := Lib.hid h
  have HN := Lib.hid hn
  have HR := Lib.hid hr
  obtain ⟨m, hm⟩ : ∃ m, l.length = m := ⟨_, rfl⟩
  have HM := Lib.hid hm
  rw [hm] at hlen c8
  clear hl h hn hr hm
  go_enter Try.func38, Try.ntmps38
  go_wp2
  go_loopw [5] (fun i wr => ∃ j : Nat, j ≤ m ∧ i = .int .i64 j ∧ Hid (Below w.heap.size w wr) ∧ Hid (∀ (i : Nat) (e : Rw), i < j → l[i]? = some e → e.k ≠ ks)) (fun i _ => m - (intOf i).toNat)
  case atStart => exact ⟨0, Nat.zero_le _, rfl, Lib.hid (Below.refl _ _), Lib.hid (fun i e h => by omega)⟩
  case round =>
    obtain ⟨j, hj, rfl, HB, HI⟩ := hrel
    have x3 := (HH.out.hd (HL.out.grow HB.out)).c3
    rw [HM.out] at x3
    by_cases hlt : j < m
    · have i1 : (j : Int) < (m : Int) := by omega
      have i2 : (0 : Int) ≤ (j : Int) := by omega
      have hje : l[j]? = some (l[j]'(by rw [HM.out]; exact hlt)) := List.getElem?_eq_getElem _
      generalize l[j]'(by rw [HM.out]; exact hlt) = x at *
      have hxk := (HH.out.keys x (List.mem_of_getElem? hje)).2.1
      obtain ⟨ad, cap, a, c, e1, e2, _, _, c0, _, _, _, hrd⟩ := HH.out.look (HL.out.grow HB.out) hje
      simp only [Value.slice.injEq] at e1
      obtain ⟨rfl, _, rfl⟩ := e1
      have HJ := Lib.hid hje
      have HRX := Lib.hid hrd
      have HRK := Lib.hid ((HR.out.below HB.out).mono HB.out.size)
      obtain ⟨q, hq⟩ : ∃ q, x.k.length = q := ⟨_, rfl⟩
      have HQ := Lib.hid hq
      rw [hq] at c0 hxk
      clear hje hrd hq e2
      go_wp2_with fail
      with_reducible refine (samebytes_any a ax q n c cx x.k ks HQ.out HN.out (by omega) (by omega) _ HRX.out HRK.out).mono ?_
      rintro e z ⟨rfl, qq⟩
      have HB2 := Lib.hid (HB.out.trans (qq.mono HB.out.size))
      clear qq x3 c0
      by_cases he : x.k = ks
      · have hd : decide (x.k = ks) = true := decide_eq_true he
        have HA : Hid (lix l ks = some j) := Lib.hid (lix_some HJ.out he HI.out)
        clear he
        go_wp2
        go_ret
        rw [HA.out]
        exact ⟨rfl, HB2.out⟩
      · have hd : decide (x.k = ks) = false := decide_eq_false he
        have HI2 : Hid (∀ (i : Nat) (e : Rw), i < j + 1 → l[i]? = some e → e.k ≠ ks) := Lib.hid (fun i e hi h => by
          by_cases e' : i = j
          · subst e'
            rw [HJ.out] at h
            injection h with h
            subst h
            exact he
          · exact HI.out i e (by omega) h)
        clear he
        go_wp2
        go_roundw
        case rel => exact ⟨j + 1, by omega, by go_num, HB2, HI2⟩
        case measure => simp [intOf]; omega
    · have i1 : ¬ (j : Int) < (m : Int) := by omega
      obtain rfl : j = m := by omega
      have HA : Hid (lix l ks = none) := Lib.hid (lix_none fun i e h => HI.out i e (by have := (List.getElem?_eq_some_iff.1 h).1; have := HM.out; omega) h)
      go_wp2
      go_ret
      rw [HA.out]
      exact ⟨rfl, HB.out⟩
def lpkV (l : List Rw) : Option Nat → Value
  | none => .tuple #[.int .i64 0, .bool false]
  | some p => .tuple #[.int .i64 (l.getD p ⟨.slice none 0 0, [], 0, 0, 0⟩).c, .bool true]
theorem lpeek_c {w0 w : World} {A : Ac} {X : Nat} {K M U : Int} {v : Value} {l : List Rw} {t : Nat} (hl : Lay w0 A w) (h : LS A X K M U v l t) (hlen : l.length ≤ 1000) (ax : Option Addr) (n cx : Nat) (ks : List Int) (hn : ks.length = n) (hn2 : n ≤ 100000) (hr : Rd w w.heap.size ax (bv ks)) :
    Calls Try.prog 29 #[.pointer (some ⟨X, 0, none⟩), .slice ax n cx] w fun e w' => e = .returned (lpkV l (lix l ks)) ∧ Below w.heap.size w w' := by
  have PC := Lib.hid (lat_c hl h hlen ax n cx ks hn hn2 hr)
  obtain ⟨r, hr2⟩ : ∃ r, lix l ks = r := ⟨_, rfl⟩
  rw [hr2] at PC ⊢
  cases r with
  | none =>
    clear hl h hr
    go_enter Try.func29, Try.ntmps29
    go_wp2_with fail
    with_reducible refine PC.out.mono ?_
    rintro e w1 ⟨rfl, q⟩
    have HQ := Lib.hid q
    clear q
    unfold lixV
    go_wp2
    go_ret2
    exact ⟨rfl, HQ.out⟩
  | some p =>
    obtain ⟨x, hx, _⟩ := lix_get hr2
    have hp := (List.getElem?_eq_some_iff.1 hx).1
    obtain ⟨av, cv, rfl, c8, c9⟩ := h.form
    have HL := Lib.hid hl
    have HH := Lib.hid h
    have HX := Lib.hid hx
    have hc : (l.getD p ⟨.slice none 0 0, [], 0, 0, 0⟩).c = x.c := by rw [List.getD_eq_getElem?_getD, hx]; rfl
    obtain ⟨m, hm⟩ : ∃ m, l.length = m := ⟨_, rfl⟩
    have HM := Lib.hid hm
    rw [hm] at hlen c8 hp
    have p1 : (p : Int) < (m : Int) := by omega
    have p0 : (0 : Int) ≤ (p : Int) := by omega
    have p2 : ¬ (p : Int) < 0 := by omega
    unfold lpkV
    dsimp only
    rw [hc]
    clear hl h hr hx hr2 hc hm
    go_enter Try.func29, Try.ntmps29
    go_wp2_with fail
    with_reducible refine PC.out.mono ?_
    rintro e w1 ⟨rfl, q⟩
    have HQ := Lib.hid q
    have x3 := (HH.out.hd (HL.out.grow q)).c3
    obtain ⟨ad, cap, a, c, e1, e2, _, _, c0, c1, _, _, _⟩ := HH.out.look (HL.out.grow q) HX.out
    simp only [Value.slice.injEq] at e1
    obtain ⟨rfl, _, rfl⟩ := e1
    rw [HM.out] at x3
    clear q e2
    unfold lixV
    go_wp2
    go_ret2
    exact ⟨rfl, HQ.out⟩
theorem llen_c {w0 w : World} {A : Ac} {X : Nat} {K M U : Int} {v : Value} {l : List Rw} {t : Nat} (hl : Lay w0 A w) (h : LS A X K M U v l t) :
    Calls Try.prog 12 #[.pointer (some ⟨X, 0, none⟩)] w fun e w' => e = .returned (.int .i64 (l.length : Nat)) ∧ w' = w := by
  obtain ⟨av, cv, rfl, c8, c9⟩ := h.form
  have x3 := (h.hd hl).c3
  clear hl h
  generalize l.length = m at *
  go_enter Try.func12, Try.ntmps12
  go_wp2
  go_ret
  exact ⟨rfl, rfl⟩
end Go.Proofs.Ythappjbghlifbaa
