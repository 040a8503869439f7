/-
  How a list of calls that comes in is read: for the rows' own steps of layer 8's statements.
-/
import Derived.Test.YthdgdkjaeebbcaaCellsOpen
namespace Go.Proofs.Ythdgdkjaeebbcaa
set_option maxRecDepth 100000
open Go.RowKit Ow Ro K2
open Go.ChangeShapes Go.WideShapes Go.Deep
set_option linter.unusedVariables false
set_option linter.unusedSimpArgs false
/-- A call. -/
structure Opn where
  kind : Int
  id : Int
  off : Int
  size : Int
  now : Int
  v : Int
  a : Option Addr
  n : Nat
  c : Nat
  bs : List Int
def Opn.cells (x : Opn) : List Value := [.int .i64 x.kind, .int .i64 x.id, .int .i64 x.off, .int .i64 x.size, .int .i64 x.now, .int .u64 x.v, .slice x.a x.n x.c]
def Opn.val (x : Opn) : Value := .agg #[.int .i64 x.kind, .int .i64 x.id, .int .i64 x.off, .int .i64 x.size, .int .i64 x.now, .int .u64 x.v, .slice x.a x.n x.c]
structure Opn.fits (x : Opn) : Prop where
  kind : i64 x.kind
  id : i64 x.id
  off : i64 x.off
  size : i64 x.size
  now : i64 x.now
  v1 : 0 ≤ x.v
  v2 : x.v ≤ 18446744073709551615
  len : x.bs.length = x.n
  bytes : ∀ b ∈ x.bs, 0 ≤ b ∧ b ≤ 255
  room : x.n ≤ x.c
  most : x.c ≤ 9223372036854775807
  nil : x.a = none → x.n = 0 ∧ x.c = 0
def opv (L : List Opn) : List Value := L.flatMap Opn.cells
theorem opv_len (L : List Opn) : (opv L).length = 7 * L.length := by
  unfold opv
  rw [List.length_flatMap]
  have : (L.map fun x => x.cells.length) = L.map fun _ => 7 := List.map_congr_left fun x _ => rfl
  rw [this]
  clear this
  induction L with
  | nil => rfl
  | cons x L ih => rw [List.map_cons, List.sum_cons, ih, List.length_cons]; omega
theorem opv_get (L : List Opn) (k r : Nat) (hk : k < L.length) (hr : r < 7) : (opv L)[7 * k + r]? = L[k].cells[r]? := by
  induction L generalizing k with
  | nil => simp at hk
  | cons x L ih =>
    have hl : x.cells.length = 7 := rfl
    have e : opv (x :: L) = x.cells ++ opv L := by unfold opv; rw [List.flatMap_cons]
    rw [e]
    cases k with
    | zero =>
      rw [List.getElem?_append_left (by rw [hl]; omega)]
      simp
    | succ k =>
      rw [List.getElem?_append_right (by rw [hl]; omega), hl, show 7 * (k + 1) + r - 7 = 7 * k + r by omega]
      simpa using ih k (by simpa using hk)
/-- The calls lie there, and their bytes. -/
structure OpsAt (w : World) (B : Nat) (a : Option Addr) (L : List Opn) : Prop where
  row : Rd w B a (opv L)
  bytes : ∀ x ∈ L, Rd w B x.a (bv x.bs)
theorem OpsAt.below {w w' : World} {B : Nat} {a : Option Addr} {L : List Opn} (h : OpsAt w B a L) (hb : Below B w w') : OpsAt w' B a L := ⟨h.row.below hb, fun x hx => (h.bytes x hx).below hb⟩
section
variable {H : Type} {enc : TypeId × Value → H} {w : World} {base : Nat} {spare : Nat → Bool} {held : Bool}
theorem bytes_of {fuel : Nat} {cs : List Value} {y : DataW H × List MemPlace} (h : DataW.trod enc Try.prog w base spare held fuel 31 cs = some y) :
    ∃ (a : Option Addr) (len cap : Nat) (l : List Int), cs = [.slice a len cap] ∧ l.length = len ∧ (∀ b ∈ l, 0 ≤ b ∧ b ≤ 255) ∧ len ≤ cap ∧ cap ≤ 9223372036854775807 ∧ (a = none → len = 0 ∧ cap = 0) ∧ Rd w w.heap.size a (bv l) := by
  have h0 := h
  rcases open_ints Try.underlying31 Try.underlying5 (by kernel_rfl) h with ⟨hcs, _⟩ | ⟨x, l, c, zs, hcs, _, hl, hm, hz, _, hcell, hwz⟩
  · subst hcs
    exact ⟨none, 0, 0, [], rfl, rfl, fun _ h => by simp at h, Nat.le_refl _, by omega, fun _ => ⟨rfl, rfl⟩, Rd.nil⟩
  · subst hcs
    obtain ⟨l', h1, h2, h3, h4, h5, h6⟩ := open_bytes (a := some x) (len := l) (cap := c) (d := y.1) (p := y.2) ⟨fuel, h0⟩
    exact ⟨_, _, _, l', rfl, h1, h2, h3, h4, h5, h6⟩
/-- The cells of a call that comes in. -/
theorem op_of {fuel : Nat} {cs : List Value} {y : DataW H × List MemPlace} (h : DataW.trod enc Try.prog w base spare held fuel 33 cs = some y) : ∃ x : Opn, cs = x.cells ∧ x.fits ∧ Rd w w.heap.size x.a (bv x.bs) := by
  obtain ⟨xs, n, _, _, hlen, hxl, hf⟩ := DataW.trod_struct Try.underlying33 h
  have h7 : cs.length = 7 := hlen.trans (by kernel_rfl)
  match cs, h7 with
  | [c0, c1, c2, c3, c4, c5, c6], _ =>
    match xs, hxl with
    | [y0, y1, y2, y3, y4, y5, y6], _ =>
      have g1 : Try.prog.cellsOf 3 = 1 := by kernel_rfl
      have g2 : Try.prog.cellsOf 30 = 1 := by kernel_rfl
      have g3 : Try.prog.cellsOf 31 = 1 := by kernel_rfl
      have k0 := hf 0 _ rfl
      have k1 := hf 1 _ rfl
      have k2 := hf 2 _ rfl
      have k3 := hf 3 _ rfl
      have k4 := hf 4 _ rfl
      have k5 := hf 5 _ rfl
      have k6 := hf 6 _ rfl
      simp [g1, g2, g3] at k0 k1 k2 k3 k4 k5 k6
      obtain ⟨n0, e0, _, w0⟩ := DataW.trod_int Try.underlying3 k0
      obtain ⟨n1, e1, _, w1⟩ := DataW.trod_int Try.underlying3 k1
      obtain ⟨n2, e2, _, w2⟩ := DataW.trod_int Try.underlying3 k2
      obtain ⟨n3, e3, _, w3⟩ := DataW.trod_int Try.underlying3 k3
      obtain ⟨n4, e4, _, w4⟩ := DataW.trod_int Try.underlying3 k4
      obtain ⟨n5, e5, _, w5⟩ := DataW.trod_int Try.underlying30 k5
      obtain ⟨a, len, cap, l, e6, h1, h2, h3, h4, h5, h6⟩ := bytes_of k6
      simp at e0 e1 e2 e3 e4 e5 e6
      subst e0 e1 e2 e3 e4 e5 e6
      exact ⟨⟨n0, n1, n2, n3, n4, n5, a, len, cap, l⟩, rfl, ⟨bounds_i64 w0, bounds_i64 w1, bounds_i64 w2, bounds_i64 w3, bounds_i64 w4, (bounds_u64 w5).1, (bounds_u64 w5).2, h1, h2, h3, h4, h5⟩, h6⟩
/-- A list of calls that comes in. -/
theorem open_ops {a : Option Addr} {len cap : Nat} {d : DataW H} {p : List MemPlace} (h : DataW.Trod enc Try.prog w base spare held 22 (.slice a len cap) d p) :
    ∃ L : List Opn, L.length = len ∧ (∀ x ∈ L, x.fits) ∧ len ≤ cap ∧ cap ≤ 9223372036854775807 ∧ OpsAt w w.heap.size a L := by
  obtain ⟨fuel, hf⟩ := h
  rcases open_slice Try.underlying22 hf with ⟨hcs, _⟩ | ⟨ad, l, c, m, n, D, Pl, hcs, _, hl, hm, hmm, _, hi⟩
  · simp [Value.cells] at hcs
    obtain ⟨rfl, rfl, rfl⟩ := hcs
    exact ⟨[], rfl, fun _ h => by simp at h, Nat.le_refl _, by omega, Rd.nil, fun _ h => by simp at h⟩
  · simp [Value.cells] at hcs
    obtain ⟨rfl, rfl, rfl⟩ := hcs
    have hlm : len ≤ m := by rw [hmm]; split <;> omega
    have g7 : Try.prog.cellsOf 33 = 7 := by kernel_rfl
    have hx : ∀ i, ∃ x : Opn, i < len → (x.fits ∧ Rd w w.heap.size x.a (bv x.bs)) ∧ ∀ r, r < 7 → w.cell? (ad.add (7 * i + r)) = x.cells[r]? := fun i => by
      by_cases hlt : i < len
      · obtain ⟨cs', hc, ht⟩ := hi i (by omega)
        rw [g7] at hc
        obtain ⟨_, _, hat⟩ := World.cells?_some hc
        obtain ⟨x, rfl, hfit⟩ := op_of ht
        refine ⟨x, fun _ => ⟨hfit, fun r hr => ?_⟩⟩
        rw [← hat r hr, add_twice, Nat.mul_comm]
      · exact ⟨⟨0, 0, 0, 0, 0, 0, none, 0, 0, []⟩, fun h => absurd h hlt⟩
    refine ⟨(List.range len).map fun i => Classical.choose (hx i), by simp, fun x hxm => ?_, hl, by unfold maxLen at hm; omega, fun hpos => ?_, fun x hxm => ?_⟩
    · obtain ⟨i, hir, rfl⟩ := List.mem_map.1 hxm
      exact (Classical.choose_spec (hx i) (List.mem_range.1 hir)).1.1
    · have hcell : ∀ j u, (opv ((List.range len).map fun i => Classical.choose (hx i)))[j]? = some u → w.cell? (ad.add j) = some u := by
        intro j u hu
        have hj : j < 7 * len := by
          have h1 := (List.getElem?_eq_some_iff.1 hu).1
          rw [opv_len] at h1
          simpa using h1
        have hk : j / 7 < len := by omega
        have hsp := (Classical.choose_spec (hx (j / 7)) hk).2 (j % 7) (by omega)
        have hg := opv_get ((List.range len).map fun i => Classical.choose (hx i)) (j / 7) (j % 7) (by simpa using hk) (by omega)
        rw [show 7 * (j / 7) + j % 7 = j by omega] at hsp hg
        rw [hsp, ← hu, hg]
        simp
      refine ⟨ad, rfl, ?_, hcell⟩
      have h0 := List.getElem?_eq_getElem hpos
      have h1 := World.block_lt_of_cell? w _ (hcell 0 _ h0)
      rw [add_block] at h1
      exact h1
    · obtain ⟨i, hir, rfl⟩ := List.mem_map.1 hxm
      exact (Classical.choose_spec (hx i) (List.mem_range.1 hir)).1.2
end
end Go.Proofs.Ythdgdkjaeebbcaa
