/-
  Layer 10's document: Find: contract; a place is another one. Conditions: as place has.
-/
import Derived.Test.YtkaapphlnolelaaHashRef2
namespace Go.Proofs.Ytkaapphlnolelaa
open Go.RowKit Ow Ro K2 Hm
set_option linter.unusedVariables false
set_option linter.unusedSimpArgs false
def fdV (T : List Pl) : Option Nat → Value
  | none => .tuple #[.int .i64 0, .bool false]
  | some p => .tuple #[.int .i64 (T.getD p ⟨0, [], 0⟩).cell, .bool true]
theorem plc_lt {T : List Pl} {K : Int} {k : List Int} {q : Nat} (h : plc T K k = some q) : q < T.length ∧ ∃ t, T[q]? = some t ∧ t.is = 1 ∧ t.bs = k := by
  unfold plc at h
  split at h
  · exact fnd_lt _ _ _ h
  · cases h
theorem find_c {w0 w : World} {A : Ac} {X : Nat} {K M : Int} {T : List Pl} (hl : Lay w0 A w) (h : HS A X K M T) (hn : T.length ≤ 1000) (hn1 : 1 ≤ T.length) (a : Option Addr) (nk ck : Nat) (ks : List Int) (hkn : ks.length = nk) (hk6 : nk ≤ 100000) (hkb : ∀ b ∈ ks, 0 ≤ b ∧ b ≤ 255) (hrd : Rd w w.heap.size a (bv ks)) :
    Calls Try.prog 19 #[.pointer (some ⟨X, 0, none⟩), .slice a nk ck] w fun e w' => e = .returned (fdV T (plc T K ks)) ∧ Below w.heap.size w w' := by
  have PC := Lib.hid (place_c hl h hn hn1 a nk ck ks hkn hk6 hkb hrd)
  obtain ⟨r, hr⟩ : ∃ r, plc T K ks = r := ⟨_, rfl⟩
  rw [hr] at PC ⊢
  cases r with
  | none =>
    clear hl h hrd
    go_enter Try.func19, Try.ntmps19
    go_wp2_with fail
    with_reducible refine PC.out.mono ?_
    rintro e w1 ⟨rfl, q⟩
    have HQ := Lib.hid q
    clear q
    unfold plcV
    go_wp2
    go_ret2
    exact ⟨rfl, HQ.out⟩
  | some p =>
    obtain ⟨hp, t, ht, _, _⟩ := plc_lt hr
    have HL := Lib.hid hl
    have HH := Lib.hid h
    have HT := Lib.hid ht
    have hc : (T.getD p ⟨0, [], 0⟩).cell = t.cell := by rw [List.getD_eq_getElem?_getD, ht]; rfl
    obtain ⟨n, hnn⟩ : ∃ n, T.length = n := ⟨_, rfl⟩
    have HN := Lib.hid hnn
    rw [hnn] at hp
    have p1 : (p : Int) < (n : Int) := by omega
    have p0 : (0 : Int) ≤ (p : Int) := by omega
    have p2 : ¬ (p : Int) < 0 := by omega
    unfold fdV
    dsimp only
    rw [hc]
    clear hl h hrd ht hr hc hn hn1 hnn
    go_enter Try.func19, Try.ntmps19
    go_wp2_with fail
    with_reducible refine PC.out.mono ?_
    rintro e w1 ⟨rfl, q⟩
    have HQ := Lib.hid q
    obtain ⟨ad, cp, ak, ckk, d1, d2, e0, e1, e2, e3, e4, e5, e6, e7, e8⟩ := HH.out.look (HL.out.grow q) HT.out
    rw [HN.out] at e0
    clear q e8 d1 d2
    unfold plcV
    go_wp2
    go_ret2
    exact ⟨rfl, HQ.out⟩
/-- The world behind a store of a whole place. -/
def st3 (w : World) (ad : Addr) (k : Nat) (v : Value) (p : Pl) : World :=
  ((w.setCell (ad.add (k * 3 + 0)) (.int .i64 (p.is : Nat))).setCell (ad.add (k * 3 + 1)) v).setCell (ad.add (k * 3 + 2)) (.int .i64 p.cell)
theorem HSx.put1 {w0 w : World} {A A2 : Ac} {v : Value} {l : List P3} {ad : Addr} {cap : Nat} (hr : Row A (51, 0) 70 3 (.slice (some ad) l.length cap) l.length (pflat l)) (hl : Lay w0 A w) {k r : Nat} (hk : k < l.length) (hr3 : r < 3) (u : Value) (t' : P3) (ht : (pcells l[k]).set r u = pcells t') :
    ∃ A', Lay w0 A' (w.setCell (ad.add (k * 3 + r)) u) ∧ Row A' (51, 0) 70 3 (.slice (some ad) (l.set k t').length cap) (l.set k t').length (pflat (l.set k t')) ∧ ∀ x, x ≠ (51, 0) → A' x = A x := by
  have ho := hr.own hl
  rcases ho.2 with ⟨e, _⟩ | ⟨g, cap', cur, e, _⟩
  · cases e
  · simp only [Value.slice.injEq, Option.some.injEq] at e
    obtain ⟨rfl, _⟩ := e
    obtain ⟨h1, h2⟩ := ho.stored (k * 3 + r) u
    rw [pflat_set l k r hk hr3 u t' ht] at h1
    rw [add_zero_at]
    obtain ⟨A', h3, h4, h5⟩ := hl.took hr h2 h1 (.inl rfl)
    exact ⟨A', h3, by rw [List.length_set]; exact h4, h5⟩
/-- A place is another one, whose key has its row already. -/
theorem HSx.put3 {w0 w : World} {A A2 : Ac} {X : Nat} {K M : Int} {l : List P3} {T : List Pl} {ad : Addr} {cap : Nat} (hx : HSx A X K M (.slice (some ad) l.length cap) l T) (hl : Lay w0 A2 w) {k : Nat} (hk : k < l.length) (hA : ∀ x, x ≠ (52, k) → A2 x = A x) (v : Value) (p : Pl) (hr : Row A2 (52, k) 5 1 v p.bs.length (bv p.bs)) :
    ∃ A', Lay w0 A' (st3 w ad k v p) ∧ HS A' X K M (T.set k p) ∧ ∀ x, x ≠ (51, 0) → A' x = A2 x := by
  rcases hlk : l[k] with ⟨s, t⟩
  have r0 := hx.row.keep (A' := A2) (hA _ (by simp))
  obtain ⟨A3, a1, a2, a3⟩ := HSx.put1 (v := s) (A2 := A2) r0 hl hk (r := 0) (by omega) (.int .i64 (p.is : Nat)) (s, ⟨p.is, t.bs, t.cell⟩) (by rw [hlk]; rfl)
  obtain ⟨A4, b1, b2, b3⟩ := HSx.put1 (v := s) (A2 := A2) a2 a1 (k := k) (by rw [List.length_set]; exact hk) (r := 1) (by omega) v (v, ⟨p.is, p.bs, t.cell⟩) (by rw [List.getElem_set_self]; rfl)
  obtain ⟨A5, d1, d2, d3⟩ := HSx.put1 (v := s) (A2 := A2) b2 b1 (k := k) (by rw [List.length_set, List.length_set]; exact hk) (r := 2) (by omega) (.int .i64 p.cell) (v, p) (by rw [List.getElem_set_self]; rfl)
  have fr : ∀ x, x ≠ (51, 0) → A5 x = A2 x := fun x hx => (d3 x hx).trans ((b3 x hx).trans (a3 x hx))
  rw [List.set_set, List.set_set] at d2
  refine ⟨A5, d1, ⟨_, l.set k (v, p), ?_, d2, ?_, fun j t' hj => ?_⟩, fr⟩
  · rw [fr _ (by simp), hA _ (by simp), List.length_set]; exact hx.head
  · rw [List.map_set, hx.are]
  · by_cases e : j = k
    · subst e
      rw [List.getElem?_set_self hk] at hj
      injection hj with hj
      subst hj
      exact hr.keep (fr _ (by simp))
    · rw [List.getElem?_set_ne (fun h => e h.symm)] at hj
      exact (hx.at_ j t' hj).keep (by rw [fr _ (by simp), hA _ (by simp; exact e)])
end Go.Proofs.Ytkaapphlnolelaa
