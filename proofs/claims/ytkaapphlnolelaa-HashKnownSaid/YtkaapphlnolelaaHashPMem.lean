/-
  Layer 10's program in memory: its places and the row of its keys' bytes (roles 73, 74, 75); piece, Len: contracts. Conditions: 1000 places, keys of 1000 bytes at most.
-/
import Derived.Test.YtkaapphlnolelaaHashP1
namespace Go.Proofs.Ytkaapphlnolelaa
set_option maxRecDepth 100000
open Go.RowKit Ow Ro K2 Hm
set_option linter.unusedVariables false
set_option linter.unusedSimpArgs false
def qcells (t : Pl) : List Value := [.int .i64 (t.is : Nat), .int .i64 t.cell]
def qflat (l : List Pl) : List Value := l.flatMap qcells
theorem qcells_len (t : Pl) : (qcells t).length = 2 := rfl
theorem qflat_cons (t : Pl) (l : List Pl) : qflat (t :: l) = qcells t ++ qflat l := by unfold qflat; rw [List.flatMap_cons]
theorem qflat_len (l : List Pl) : (qflat l).length = l.length * 2 := by
  induction l with
  | nil => rfl
  | cons t l ih => rw [qflat_cons, List.length_append, ih, qcells_len, List.length_cons]; omega
theorem qflat_get (l : List Pl) (k r : Nat) (hk : k < l.length) (hr : r < 2) : (qflat l)[k * 2 + r]? = (qcells l[k])[r]? := by
  induction l generalizing k with
  | nil => simp at hk
  | cons t l ih =>
    rw [qflat_cons]
    cases k with
    | zero => rw [List.getElem?_append_left (by rw [qcells_len]; omega)]; simp
    | succ k =>
      rw [List.getElem?_append_right (by rw [qcells_len]; omega), qcells_len, show (k + 1) * 2 + r - 2 = k * 2 + r by omega]
      simpa using ih k (by simpa using hk)
theorem qflat_set (l : List Pl) (k r : Nat) (hk : k < l.length) (hr : r < 2) (v : Value) (t' : Pl) (ht : (qcells l[k]).set r v = qcells t') : (qflat l).set (k * 2 + r) v = qflat (l.set k t') := by
  induction l generalizing k with
  | nil => simp at hk
  | cons t l ih =>
    cases k with
    | zero =>
      rw [List.set_cons_zero, qflat_cons, qflat_cons, List.set_append_left _ _ (by rw [qcells_len]; omega), Nat.zero_mul, Nat.zero_add]
      simp only [List.getElem_cons_zero] at ht
      rw [ht]
    | succ k =>
      rw [List.set_cons_succ, qflat_cons, qflat_cons, List.set_append_right _ _ (by rw [qcells_len]; omega), qcells_len, show (k + 1) * 2 + r - 2 = k * 2 + r by omega, ih k (by simpa using hk) (by simpa using ht)]
/-- A key's piece of the row. -/
def pcs (R : List Int) (K p : Nat) : List Int := (R.drop (p * K)).take K
structure HPx (A : Ac) (X K : Nat) (M : Int) (T : List Pl) (vr vp : Value) (R : List Int) : Prop where
  head : A (73, 0) = some (X, .cells #[.int .i64 (K : Nat), .int .i64 M, vr, vp, .int .i64 ((keysT T).length : Nat)] 60)
  places : Row A (74, 0) 67 2 vp T.length (qflat T)
  row : Row A (75, 0) 5 1 vr (T.length * K) (bv R)
  len : R.length = T.length * K
  byte : ∀ b ∈ R, 0 ≤ b ∧ b ≤ 255
  keys : ∀ p t, T[p]? = some t → t.is = 1 → t.bs = pcs R K p
def HP (A : Ac) (X K : Nat) (M : Int) (T : List Pl) : Prop := ∃ vr vp R, HPx A X K M T vr vp R
section
variable {w0 w : World} {A A' : Ac} {X K : Nat} {M : Int} {vr vp : Value} {T : List Pl} {R : List Int} {p : Nat} {t : Pl}
theorem HPx.keep (h : HPx A X K M T vr vp R) (he : ∀ x : Rl, 73 ≤ x.1 → x.1 < 76 → A' x = A x) : HPx A' X K M T vr vp R :=
  ⟨(he _ (by simp) (by simp)).trans h.head, h.places.keep (he _ (by simp) (by simp)), h.row.keep (he _ (by simp) (by simp)), h.len, h.byte, h.keys⟩
theorem HP.keep (h : HP A X K M T) (he : ∀ x : Rl, 73 ≤ x.1 → x.1 < 76 → A' x = A x) : HP A' X K M T := by
  obtain ⟨vr, vp, R, hx⟩ := h
  exact ⟨vr, vp, R, hx.keep he⟩
theorem pcs_len (h : R.length = T.length * K) (hp : p < T.length) : (pcs R K p).length = K ∧ p * K + K ≤ R.length := by
  have h1 : (p + 1) * K ≤ T.length * K := Nat.mul_le_mul_right K hp
  rw [Nat.succ_mul] at h1
  unfold pcs
  rw [List.length_take, List.length_drop]
  omega
theorem pcs_byte (h : ∀ b ∈ R, 0 ≤ b ∧ b ≤ 255) : ∀ b ∈ pcs R K p, 0 ≤ b ∧ b ≤ 255 := fun b hb => h b (List.mem_of_mem_drop (List.mem_of_mem_take hb))
theorem pcs_rd {ad : Addr} (h : Rd w w.heap.size (some ad) (bv R)) (hl : p * K + K ≤ R.length) : Rd w w.heap.size (some (ad.add (p * K))) (bv (pcs R K p)) := fun hx => by
  have h0 : 0 < (pcs R K p).length := by rw [bv_len] at hx; exact hx
  have h1 : (pcs R K p).length ≤ K := by unfold pcs; rw [List.length_take]; omega
  obtain ⟨ad', e, hb, hc⟩ := h (by rw [bv_len]; omega)
  injection e with e
  subst e
  refine ⟨_, rfl, by rw [add_block]; exact hb, fun j u hu => ?_⟩
  rw [add_twice]
  apply hc
  unfold bv pcs at hu
  unfold bv
  rw [List.getElem?_map, List.getElem?_take] at hu
  split at hu
  · rw [List.getElem?_drop] at hu
    rw [List.getElem?_map]
    exact hu
  · cases hu
/-- What is to be read of the head, and of a place, in whatever world that has come behind. -/
def Seen (X K : Nat) (M : Int) (T : List Pl) (R : List Int) (ar ap : Addr) (cr cp : Nat) (w : World) : Prop :=
    w.cell? ⟨X, 0, none⟩ = some (.int .i64 (K : Nat)) ∧ w.cell? ⟨X, 1, none⟩ = some (.int .i64 M) ∧ w.cell? ⟨X, 2, none⟩ = some (.slice (some ar) (T.length * K) cr) ∧ w.cell? ⟨X, 3, none⟩ = some (.slice (some ap) T.length cp) ∧ w.cell? ⟨X, 4, none⟩ = some (.int .i64 ((keysT T).length : Nat)) ∧ w.frozen? ⟨X, 4, none⟩ = false ∧
    Rd w w.heap.size (some ar) (bv R) ∧ (∀ p t, T[p]? = some t → w.cell? (ap.add (p * 2)) = some (.int .i64 (t.is : Nat)) ∧ w.cell? ⟨(ap.add (p * 2)).block, (ap.add (p * 2)).off + 1, none⟩ = some (.int .i64 t.cell) ∧ w.frozen? (ap.add (p * 2)) = false ∧ w.frozen? ⟨(ap.add (p * 2)).block, (ap.add (p * 2)).off + 1, none⟩ = false)
theorem HPx.look (h : HPx A X K M T vr vp R) (hl : Lay w0 A w) (hn : 1 ≤ T.length) (hK : 1 ≤ K) : X < w.heap.size ∧ ∃ (ar ap : Addr) (cr cp : Nat), vr = .slice (some ar) (T.length * K) cr ∧ vp = .slice (some ap) T.length cp ∧ T.length * K ≤ cr ∧ cr ≤ maxLen ∧ T.length ≤ cp ∧ cp ≤ maxLen ∧
    ∀ w', Below w.heap.size w w' → Seen X K M T R ar ap cr cp w' := by
  have hnk : 1 ≤ T.length * K := Nat.mul_pos hn hK
  refine ⟨lt_of_block (hl.obj h.head), ?_⟩
  obtain ⟨a1, cp, rfl, b1, b2, b3⟩ := h.places.form2
  obtain ⟨a2, cr, rfl, d1, d2, d3⟩ := h.row.form2
  cases a1 with
  | none => have := (b3 rfl).1; omega
  | some ap =>
    cases a2 with
    | none => have := (d3 rfl).1; omega
    | some ar =>
      refine ⟨ar, ap, cr, cp, rfl, rfl, d1, d2, b1, b2, fun w' hw' => ?_⟩
      have hl := hl.grow hw'
      have hb := hl.bk h.head
      refine ⟨hb.cell 0, hb.cell 1, hb.cell 2, hb.cell 3, hb.cell 4, hb.frozen 4, (h.row.reads (w0 := w0)).rd hl, fun p t hp => ?_⟩
      have hpl := (List.getElem?_eq_some_iff.1 hp).1
      have hpt := (List.getElem?_eq_some_iff.1 hp).2
      have ho := h.places.own hl
      rcases ho.2 with ⟨e, _⟩ | ⟨g, cap', cur, e, _⟩
      · cases e
      · simp only [Value.slice.injEq, Option.some.injEq] at e
        obtain ⟨rfl, _⟩ := e
        have g0 := qflat_get T p 0 hpl (by omega)
        have g1 := qflat_get T p 1 hpl (by omega)
        rw [hpt] at g0 g1
        have c0 := ho.cellAt (p * 2 + 0) (by omega)
        have c1 := ho.cellAt (p * 2 + 1) (by omega)
        rw [g0] at c0
        rw [g1] at c1
        rw [add_zero_at]
        exact ⟨c0, c1, ho.frozenAt _, ho.frozenAt _⟩
end
theorem plen_p {w0 w : World} {A : Ac} {X K : Nat} {M : Int} {T : List Pl} (hl : Lay w0 A w) (h : HP A X K M T) :
    Calls Try.prog 24 #[.pointer (some ⟨X, 0, none⟩)] w fun e w' => e = .returned (.int .i64 ((keysT T).length : Nat)) ∧ w = w' := by
  obtain ⟨vr, vp, R, hx⟩ := h
  have c4 := (hl.bk hx.head).cell 4
  have c4' : w.cell? ⟨X, 4, none⟩ = some (.int .i64 ((keysT T).length : Nat)) := c4
  clear hl hx c4
  go_enter Try.func24, Try.ntmps24
  go_wp2
  go_ret
  exact ⟨rfl, rfl⟩
/-- A place's piece of the row. -/
def PieceP (w : World) (ar : Addr) (K p : Nat) (e : Ending) (w' : World) : Prop := e = .returned (.slice (some (ar.add (p * K))) K K) ∧ ∃ m, w' = w.drewN m
theorem piece_p (X K p n cr : Nat) (ar : Addr) (w : World) (hp : p < n) (hn : n ≤ 1000) (hK : 1 ≤ K) (hK2 : K ≤ 1000) (hcr : n * K ≤ cr) (hcm : cr ≤ maxLen) (c0 : w.cell? ⟨X, 0, none⟩ = some (.int .i64 (K : Nat))) (c2 : w.cell? ⟨X, 2, none⟩ = some (.slice (some ar) (n * K) cr)) :
    Calls Try.prog 38 #[.pointer (some ⟨X, 0, none⟩), .int .i64 (p : Nat)] w (PieceP w ar K p) := by
  have h1 : (p + 1) * K ≤ n * K := Nat.mul_le_mul_right K hp
  have h2 : n * K ≤ 1000 * 1000 := Nat.mul_le_mul hn hK2
  have e1 : (p + 1) * K = p * K + K := Nat.succ_mul p K
  have i1 : (p : Int) * (K : Int) = ((p * K : Nat) : Int) := by simp
  have i2 : ((p : Int) + 1) * (K : Int) = ((p * K + K : Nat) : Int) := by rw [← e1]; simp
  rw [e1] at h1
  clear e1
  unfold PieceP
  generalize n * K = N at *
  generalize p * K = q at *
  go_enter Try.func38, Try.ntmps38
  go_wp2_with fail
  go_quiet (fail)
  go_wp2
  go_ret
  refine ⟨?_, _, rfl⟩
  show Ending.returned (.slice (some (ar.add q)) (q + K - q) (q + K - q)) = _
  rw [Nat.add_sub_cancel_left]
end Go.Proofs.Ytkaapphlnolelaa
