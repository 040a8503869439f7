/-
  Layer 11's document: Find, Del: contracts. Conditions: 1000 rows, 1000000 uses at most; the key is none of the rows' own memory.
-/
import Derived.Test.YthappjbghlifbaaLruRef2
namespace Go.Proofs.Ythappjbghlifbaa
set_option maxRecDepth 100000
open Go.RowKit Ow Ro K2
set_option linter.unusedVariables false
set_option linter.unusedSimpArgs false
/-- A key that is read, whatever becomes of the rows. -/
def KR (w0 : World) (A : Ac) (ax : Option Addr) (ks : List Int) : Prop := ∀ (A' : Ac) (z : World), Lay w0 A' z → (∀ x : Rl, x ≠ (100, 0) → x ≠ (101, 0) → A' x = A x) → Rd z z.heap.size ax (bv ks)
theorem LSd.grow {w0 z z' : World} {A : Ac} {X : Nat} {K M U : Int} {v : Value} {l : List Rw} {t : Nat} (h : LSd w0 A X K M U v l t z) (hb : Below z.heap.size z z') : LSd w0 A X K M U v l t z' := by
  obtain ⟨A', h1, h2⟩ := h
  exact ⟨A', h1.grow hb, h2⟩
def rw0 : Rw := ⟨.slice none 0 0, [], 0, 0, 0⟩
def usd (x : Rw) (u : Int) : Rw := ⟨x.v, x.k, x.c, u, x.id⟩
/-- The rows behind a Find. -/
def lfdL (l : List Rw) (U : Int) : Option Nat → List Rw
  | none => l
  | some p => l.set p (usd (l.getD p rw0) (U + 1))
def lfdU (U : Int) : Option Nat → Int
  | none => U
  | some _ => U + 1
theorem lix_keys (m : List Rw) (ks : List Int) : lix m ks = (m.map fun e => e.k).findIdx? (fun b => b == ks) := by
  unfold lix
  rw [List.findIdx?_map]
  rfl
theorem keys_used {l : List Rw} {p : Nat} {x : Rw} (hx : l[p]? = some x) (u : Int) : (l.set p (usd x u)).map (fun e => e.k) = l.map (fun e => e.k) := by
  rw [List.map_set]
  apply List.ext_getElem?
  intro i
  by_cases e : p = i
  · subst e
    have hp := (List.getElem?_eq_some_iff.1 hx).1
    rw [List.getElem?_set_self (by simpa using hp), List.getElem?_map, hx]
    rfl
  · rw [List.getElem?_set_ne e]
theorem lix_used {l : List Rw} {ks : List Int} {p : Nat} {x : Rw} (hx : l[p]? = some x) (u : Int) : lix (l.set p (usd x u)) ks = lix l ks := by
  rw [lix_keys, lix_keys, keys_used hx]
theorem lpkV_some {l : List Rw} {p : Nat} {x : Rw} (hx : l[p]? = some x) : lpkV l (some p) = .tuple #[.int .i64 x.c, .bool true] := by
  show Value.tuple #[.int .i64 (l.getD p ⟨.slice none 0 0, [], 0, 0, 0⟩).c, .bool true] = _
  rw [List.getD_eq_getElem?_getD, hx]
  rfl
theorem lpkV_none (l : List Rw) : lpkV l none = .tuple #[.int .i64 0, .bool false] := rfl
set_option maxHeartbeats 1000000 in
theorem lfind_c {w0 w : World} {A : Ac} {X : Nat} {K M U : Int} {v : Value} {l : List Rw} {t : Nat} (hl : Lay w0 A w) (h : LS A X K M U v l t) (hlen : l.length ≤ 1000) (hU : 0 ≤ U ∧ U ≤ 1000000) (ax : Option Addr) (n cx : Nat) (ks : List Int) (hn : ks.length = n) (hn2 : n ≤ 100000) (hr : KR w0 A ax ks) :
    Calls Try.prog 28 #[.pointer (some ⟨X, 0, none⟩), .slice ax n cx] w fun e w' => e = .returned (lpkV l (lix l ks)) ∧ LSd w0 A X K M (lfdU U (lix l ks)) v (lfdL l U (lix l ks)) t w' := by
  have PC := Lib.hid (lat_c hl h hlen ax n cx ks hn hn2 (hr A w hl (fun _ _ _ => rfl)))
  have HL := Lib.hid hl
  have HH := Lib.hid h
  have HR := Lib.hid hr
  have HN := Lib.hid hn
  obtain ⟨r, hr2⟩ : ∃ r, lix l ks = r := ⟨_, rfl⟩
  have HX := Lib.hid hr2
  rw [hr2] at PC ⊢
  clear hl h hr hn hr2
  cases r with
  | none =>
    rw [lpkV_none]
    go_enter Try.func28, Try.ntmps28
    go_wp2_with fail
    with_reducible refine PC.out.mono ?_
    rintro e w1 ⟨rfl, q⟩
    have HL1 := Lib.hid (HL.out.grow q)
    have PK := Lib.hid (lpeek_c HL1.out HH.out hlen ax n cx ks HN.out hn2 (HR.out A w1 HL1.out (fun _ _ _ => rfl)))
    rw [HX.out] at PK
    clear q
    unfold lixV
    rw [lpkV_none] at PK
    go_wp2_with fail
    with_reducible refine PK.out.mono ?_
    rintro e w2 ⟨rfl, q⟩
    have HE : Hid (LSd w0 A X K M (lfdU U none) v (lfdL l U none) t w2) := Lib.hid ⟨A, HL1.out.grow q, HH.out, fun _ _ _ => rfl⟩
    clear q
    go_wp2
    go_ret2
    exact ⟨rfl, HE.out⟩
  | some p =>
    obtain ⟨x, hx, _⟩ := lix_get HX.out
    have hp := (List.getElem?_eq_some_iff.1 hx).1
    have HP := Lib.hid hx
    have hgd : l.getD p rw0 = x := by rw [List.getD_eq_getElem?_getD, hx]; rfl
    have p2 : (p : Int) ≥ 0 := by omega
    rw [lpkV_some hx]
    unfold lfdU lfdL
    dsimp only
    rw [hgd]
    clear hx hgd
    go_enter Try.func28, Try.ntmps28
    go_wp2_with fail
    with_reducible refine PC.out.mono ?_
    rintro e w1 ⟨rfl, q⟩
    have HL1 := Lib.hid (HL.out.grow q)
    clear q
    unfold lixV
    go_wp2_with fail
    with_reducible refine (luse_c HL1.out HH.out hU HP.out).mono ?_
    rintro e w2 ⟨rfl, q⟩
    obtain ⟨A2, l2, h2, f2⟩ := q
    have h3 : LS A2 X K M (U + 1) v (l.set p (usd x (U + 1))) t := h2
    have PK := Lib.hid (lpeek_c l2 h3 (by rw [List.length_set]; exact hlen) ax n cx ks HN.out hn2 (HR.out A2 w2 l2 f2))
    have hx2 : (l.set p (usd x (U + 1)))[p]? = some (usd x (U + 1)) := List.getElem?_set_self hp
    rw [lix_used HP.out, HX.out, lpkV_some hx2] at PK
    have HE : Hid (∀ z, Below w2.heap.size w2 z → LSd w0 A X K M (U + 1) v (l.set p (usd x (U + 1))) t z) := Lib.hid fun z hz => ⟨A2, l2.grow hz, h3, f2⟩
    clear l2 h2 h3 f2 hx2
    go_wp2_with fail
    with_reducible refine PK.out.mono ?_
    rintro e w3 ⟨rfl, q⟩
    have HE2 := Lib.hid (HE.out w3 q)
    clear q HE
    unfold usd
    dsimp only
    go_wp2
    go_ret2
    exact ⟨rfl, HE2.out⟩
/-- The rows behind a Del. -/
def ldlL (l : List Rw) : Option Nat → List Rw
  | none => l
  | some p => l.eraseIdx p
set_option maxHeartbeats 1000000 in
theorem ldel_c {w0 w : World} {A : Ac} {X : Nat} {K M U : Int} {v : Value} {l : List Rw} {t : Nat} (hl : Lay w0 A w) (h : LS A X K M U v l t) (hlen : l.length ≤ 1000) (ax : Option Addr) (n cx : Nat) (ks : List Int) (hn : ks.length = n) (hn2 : n ≤ 100000) (hr : Rd w w.heap.size ax (bv ks)) :
    Calls Try.prog 30 #[.pointer (some ⟨X, 0, none⟩), .slice ax n cx] w fun e w' => e = .returned (lpkV l (lix l ks)) ∧ ∃ v', LSd w0 A X K M U v' (ldlL l (lix l ks)) t w' := by
  have PC := Lib.hid (lat_c hl h hlen ax n cx ks hn hn2 hr)
  obtain ⟨av, cv, rfl, c8, c9⟩ := h.form
  have HL := Lib.hid hl
  have HH := Lib.hid h
  obtain ⟨r, hr2⟩ : ∃ r, lix l ks = r := ⟨_, rfl⟩
  have HX := Lib.hid hr2
  rw [hr2] at PC ⊢
  clear hl h hr hn hr2
  cases r with
  | none =>
    rw [lpkV_none]
    go_enter Try.func30, Try.ntmps30
    go_wp2_with fail
    with_reducible refine PC.out.mono ?_
    rintro e w1 ⟨rfl, q⟩
    have HE : Hid (LSd w0 A X K M U (.slice av l.length cv) (ldlL l none) t w1) := Lib.hid ⟨A, HL.out.grow q, HH.out, fun _ _ _ => rfl⟩
    clear q
    unfold lixV
    go_wp2
    go_ret2
    exact ⟨rfl, _, HE.out⟩
  | some p =>
    obtain ⟨x, hx, _⟩ := lix_get HX.out
    have hp := (List.getElem?_eq_some_iff.1 hx).1
    have HP := Lib.hid hx
    obtain ⟨m, hm⟩ : ∃ m, l.length = m := ⟨_, rfl⟩
    have HM := Lib.hid hm
    rw [hm] at hlen c8 hp
    have p1 : (p : Int) < (m : Int) := by omega
    have p0 : (0 : Int) ≤ (p : Int) := by omega
    have p2 : ¬ (p : Int) < 0 := by omega
    rw [lpkV_some hx]
    unfold ldlL
    dsimp only
    clear hx hm
    go_enter Try.func30, Try.ntmps30
    go_wp2_with fail
    with_reducible refine PC.out.mono ?_
    rintro e w1 ⟨rfl, q⟩
    have HL1 := Lib.hid (HL.out.grow q)
    have x3 := (HH.out.hd HL1.out).c3
    obtain ⟨ad, cap, a, c, e1, e2, _, _, c0, c1, _, _, _⟩ := HH.out.look HL1.out HP.out
    simp only [Value.slice.injEq] at e1
    obtain ⟨rfl, _, rfl⟩ := e1
    rw [HM.out] at x3
    clear q e2
    unfold lixV
    go_wp2_with fail
    with_reducible refine (lwithout_c HL1.out HH.out (by rw [HM.out]; exact hlen) p).mono ?_
    rintro e w2 ⟨v2, rfl, q⟩
    obtain ⟨a2, k2, rfl⟩ := q.form
    have d := HH.out.hd (HL1.out.grow q.below)
    have y3 := d.c3
    have z3 := d.f3
    have HE : Hid (LSd w0 A X K M U (.slice a2 (l.eraseIdx p).length k2) (l.eraseIdx p) t (w2.setCell ⟨X, 3, none⟩ (.slice a2 (l.eraseIdx p).length k2))) := Lib.hid (HH.out.swap HL1.out q (fun e he => List.mem_of_mem_eraseIdx he))
    rw [HM.out] at y3
    clear q d x3 c0 c1
    go_wp2
    go_ret2
    exact ⟨rfl, _, HE.out⟩
end Go.Proofs.Ythappjbghlifbaa
