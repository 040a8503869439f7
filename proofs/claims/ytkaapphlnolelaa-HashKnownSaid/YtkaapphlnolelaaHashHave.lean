/-
  Layer 10: the statements' own list of keys and cells in memory (roles 85, 86); at: contract. Conditions: 1000 keys, 1000 bytes each at most.
-/
import Derived.Test.YtkaapphlnolelaaHashAbs
namespace Go.Proofs.Ytkaapphlnolelaa
set_option maxRecDepth 100000
open Go.RowKit Ow Ro K2 Hm
set_option linter.unusedVariables false
set_option linter.unusedSimpArgs false
structure He where
  v : Value
  k : List Int
  c : Int
  id : Nat
def hcells (t : He) : List Value := [t.v, .int .i64 t.c]
def hflat (l : List He) : List Value := l.flatMap hcells
theorem hcells_len (t : He) : (hcells t).length = 2 := rfl
theorem hflat_cons (t : He) (l : List He) : hflat (t :: l) = hcells t ++ hflat l := by unfold hflat; rw [List.flatMap_cons]
theorem hflat_len (l : List He) : (hflat l).length = l.length * 2 := by
  induction l with
  | nil => rfl
  | cons t l ih => rw [hflat_cons, List.length_append, ih, hcells_len, List.length_cons]; omega
theorem hflat_get (l : List He) (k r : Nat) (hk : k < l.length) (hr : r < 2) : (hflat l)[k * 2 + r]? = (hcells l[k])[r]? := by
  induction l generalizing k with
  | nil => simp at hk
  | cons t l ih =>
    rw [hflat_cons]
    cases k with
    | zero => rw [List.getElem?_append_left (by rw [hcells_len]; omega)]; simp
    | succ k =>
      rw [List.getElem?_append_right (by rw [hcells_len]; omega), hcells_len, show (k + 1) * 2 + r - 2 = k * 2 + r by omega]
      simpa using ih k (by simpa using hk)
theorem hflat_set (l : List He) (k r : Nat) (hk : k < l.length) (hr : r < 2) (v : Value) (t' : He) (ht : (hcells l[k]).set r v = hcells t') : (hflat l).set (k * 2 + r) v = hflat (l.set k t') := by
  induction l generalizing k with
  | nil => simp at hk
  | cons t l ih =>
    cases k with
    | zero =>
      rw [List.set_cons_zero, hflat_cons, hflat_cons, List.set_append_left _ _ (by rw [hcells_len]; omega), Nat.zero_mul, Nat.zero_add]
      simp only [List.getElem_cons_zero] at ht
      rw [ht]
    | succ k =>
      rw [List.set_cons_succ, hflat_cons, hflat_cons, List.set_append_right _ _ (by rw [hcells_len]; omega), hcells_len, show (k + 1) * 2 + r - 2 = k * 2 + r by omega, ih k (by simpa using hk) (by simpa using ht)]
theorem hflat_app (l m : List He) : hflat (l ++ m) = hflat l ++ hflat m := by unfold hflat; rw [List.flatMap_append]
theorem hflat_take (l : List He) (n : Nat) (hn : n ≤ l.length) : (hflat l).take (n * 2) = hflat (l.take n) := by
  have h := hflat_app (l.take n) (l.drop n)
  rw [List.take_append_drop] at h
  rw [h, List.take_append_of_le_length (by rw [hflat_len, List.length_take]; omega), List.take_of_length_le (by rw [hflat_len, List.length_take]; omega)]
/-- The list of keys and cells. -/
structure HV (A : Ac) (v : Value) (l : List He) (t : Nat) : Prop where
  row : Row A (85, 0) 51 2 v l.length (hflat l)
  keys : ∀ e ∈ l, e.id < t ∧ e.k.length ≤ 1000 ∧ (∀ b ∈ e.k, 0 ≤ b ∧ b ≤ 255) ∧ Row A (86, e.id) 5 1 e.v e.k.length (bv e.k)
def hk (l : List He) : List KC := l.map fun e => (e.k, e.c)
theorem hk_mem {l : List He} {k : List Int} {c : Int} : (k, c) ∈ hk l ↔ ∃ e ∈ l, e.k = k ∧ e.c = c := by
  unfold hk
  rw [List.mem_map]
  constructor
  · rintro ⟨e, he, h⟩
    injection h with h1 h2
    exact ⟨e, he, h1, h2⟩
  · rintro ⟨e, he, h1, h2⟩
    exact ⟨e, he, by rw [h1, h2]⟩
section
variable {w0 w w' : World} {A A' : Ac} {v : Value} {l : List He} {t : Nat}
theorem HV.keep (h : HV A v l t) (he : ∀ x : Rl, 85 ≤ x.1 → x.1 ≤ 86 → A' x = A x) : HV A' v l t :=
  ⟨h.row.keep (he _ (by simp) (by simp)), fun e hm => by
    obtain ⟨a, b, c, d⟩ := h.keys e hm
    exact ⟨a, b, c, d.keep (he _ (by simp) (by simp))⟩⟩
theorem HV.nil (A : Ac) (t : Nat) : HV A (.slice none 0 0) [] t := ⟨Row.nil _ _ _ _, fun e h => by cases h⟩
theorem HV.look (h : HV A v l t) (hl : Lay w0 A w) {j : Nat} {e : He} (hj : l[j]? = some e) :
    ∃ (ad : Addr) (cap : Nat) (a : Option Addr) (c : Nat), v = .slice (some ad) l.length cap ∧ e.v = .slice a e.k.length c ∧ ad.block < w.heap.size ∧
      w.cell? (ad.add (j * 2)) = some (.slice a e.k.length c) ∧ w.cell? ⟨(ad.add (j * 2)).block, (ad.add (j * 2)).off + 1, none⟩ = some (.int .i64 e.c) ∧ w.frozen? (ad.add (j * 2)) = false ∧ w.frozen? ⟨(ad.add (j * 2)).block, (ad.add (j * 2)).off + 1, none⟩ = false ∧ Rd w w.heap.size a (bv e.k) := by
  have hjl := (List.getElem?_eq_some_iff.1 hj).1
  have hje := (List.getElem?_eq_some_iff.1 hj).2
  obtain ⟨k1, k2, k3, k4⟩ := h.keys e (List.mem_of_getElem? hj)
  obtain ⟨a, c, hv, _⟩ := k4.form2
  have hr := k4
  rw [hv] at hr
  have ho := h.row.own hl
  rcases h.row.2 with ⟨_, h0⟩ | ⟨g, cap, cur, rfl, hA, _⟩
  · omega
  · refine ⟨⟨g, 0, none⟩, cap, a, c, rfl, hv, lt_of_block (hl.obj hA), ?_⟩
    have g0 := hflat_get l j 0 hjl (by omega)
    have g1 := hflat_get l j 1 hjl (by omega)
    rw [hje] at g0 g1
    have c0 := ho.cellAt (j * 2 + 0) (by omega)
    have c1 := ho.cellAt (j * 2 + 1) (by omega)
    rw [g0] at c0
    rw [g1] at c1
    rw [add_zero_at]
    refine ⟨?_, c1, ho.frozenAt _, ho.frozenAt _, (hr.reads (w0 := w0)).rd hl⟩
    rw [← hv]
    exact c0
theorem HV.form (h : HV A v l t) : ∃ a cap, v = .slice a l.length cap ∧ l.length ≤ cap ∧ cap ≤ maxLen := by
  obtain ⟨a, cap, e, h1, h2, _⟩ := h.row.form2
  exact ⟨a, cap, e, h1, h2⟩
end
/-- Where a key is in the list. -/
def AtP (l : List He) (k : List Int) (e : Ending) : Prop := ∃ r : Int, e = .returned (.int .i64 r) ∧ ((r = -1 ∧ ∀ c, (k, c) ∉ hk l) ∨ ∃ (j : Nat) (x : He), r = (j : Int) ∧ l[j]? = some x ∧ x.k = k)
set_option maxHeartbeats 1000000 in
theorem at_c {w0 w : World} {A : Ac} {v : Value} {l : List He} {t : Nat} (hl : Lay w0 A w) (h : HV A v l t) (hlen : l.length ≤ 1000) (ax : Option Addr) (n cx : Nat) (ks : List Int) (hn : ks.length = n) (hn2 : n ≤ 100000) (hr : Rd w w.heap.size ax (bv ks)) :
    Calls Try.prog 29 #[v, .slice ax n cx] w fun e w' => AtP l ks e ∧ Below w.heap.size w w' := by
  obtain ⟨av, cv, rfl, _⟩ := h.form
  have HL := Lib.hid hl
  have HH := Lib.hid h
  have HN := Lib.hid hn
  have HR := Lib.hid hr
  obtain ⟨m, hm⟩ : ∃ m, l.length = m := ⟨_, rfl⟩
  have HM := Lib.hid hm
  rw [hm] at hlen ⊢
  clear hl h hn hr hm
  go_enter Try.func29, Try.ntmps29
  go_wp2
  go_loopw [5] (fun i wr => ∃ j : Nat, j ≤ m ∧ i = .int .i64 j ∧ Hid (Below w.heap.size w wr) ∧ Hid (∀ i (e : He), i < j → l[i]? = some e → e.k ≠ ks)) (fun i _ => m - (intOf i).toNat)
  case atStart => exact ⟨0, Nat.zero_le _, rfl, Lib.hid (Below.refl _ _), Lib.hid (fun i e h => by omega)⟩
  case round =>
    obtain ⟨j, hj, rfl, HB, HI⟩ := hrel
    by_cases hlt : j < m
    · have i1 : (j : Int) < (m : Int) := by omega
      have i2 : (0 : Int) ≤ (j : Int) := by omega
      have hje : l[j]? = some (l[j]'(by rw [HM.out]; exact hlt)) := List.getElem?_eq_getElem _
      generalize l[j]'(by rw [HM.out]; exact hlt) = x at *
      have hxk := (HH.out.keys x (List.mem_of_getElem? hje)).2.1
      obtain ⟨ad, cap, a, c, e1, e2, _, c0, _, _, _, hrd⟩ := HH.out.look (HL.out.grow HB.out) hje
      simp only [Value.slice.injEq] at e1
      obtain ⟨rfl, _, rfl⟩ := e1
      have HJ := Lib.hid hje
      have HRX := Lib.hid hrd
      have HRK := Lib.hid ((HR.out.below HB.out).mono HB.out.size)
      obtain ⟨q, hq⟩ : ∃ q, x.k.length = q := ⟨_, rfl⟩
      have HQ := Lib.hid hq
      rw [hq] at c0 hxk
      clear hje hrd hq e2
      go_wp2_with fail
      with_reducible refine (samebytes_any a ax q n c cx x.k ks HQ.out HN.out (by omega) (by omega) _ HRX.out HRK.out).mono ?_
      rintro e z ⟨rfl, qq⟩
      have HB2 := Lib.hid (HB.out.trans (qq.mono HB.out.size))
      clear qq
      by_cases he : x.k = ks
      · have hd : decide (x.k = ks) = true := decide_eq_true he
        have HA : Hid (∃ (j2 : Nat) (x2 : He), (j : Int) = (j2 : Int) ∧ l[j2]? = some x2 ∧ x2.k = ks) := Lib.hid ⟨j, x, rfl, HJ.out, he⟩
        clear he
        go_wp2
        go_ret
        exact ⟨⟨_, rfl, .inr HA.out⟩, HB2.out⟩
      · have hd : decide (x.k = ks) = false := decide_eq_false he
        have HI2 : Hid (∀ i (e : He), i < j + 1 → l[i]? = some e → e.k ≠ ks) := Lib.hid (fun i e hi h => by
          by_cases e' : i = j
          · subst e'
            rw [HJ.out] at h
            injection h with h
            subst h
            exact he
          · exact HI.out i e (by omega) h)
        clear he
        go_wp2
        go_roundw
        case rel => exact ⟨j + 1, by omega, by go_num, HB2, HI2⟩
        case measure => simp [intOf]; omega
    · have i1 : ¬ (j : Int) < (m : Int) := by omega
      obtain rfl : j = m := by omega
      have HA : Hid (∀ c, (ks, c) ∉ hk l) := Lib.hid (fun c hc => by
        obtain ⟨e, he, h1, _⟩ := hk_mem.1 hc
        obtain ⟨i, hi, rfl⟩ := List.getElem_of_mem he
        exact HI.out i _ (by rw [← HM.out]; exact hi) (List.getElem?_eq_getElem hi) h1)
      go_wp2
      go_ret
      exact ⟨⟨-1, rfl, .inl ⟨rfl, HA.out⟩⟩, HB.out⟩
end Go.Proofs.Ytkaapphlnolelaa
