/-
  A round of the statement CellsApart: the program's cells, the call, and what was told, beside one another. Conditions: as the contracts have.
-/
import Derived.Test.YthdgdkjaeebbcaaCellsLong
namespace Go.Proofs.Ythdgdkjaeebbcaa
set_option maxRecDepth 100000
open Go.RowKit Ow Ph Ro K2
set_option linter.unusedVariables false
set_option linter.unusedSimpArgs false
structure Rn (w0 : World) (P : Nat) (L : List Cl) (g : Nat) (x : Opn) (v : Value) (xs : List Int) (w : World) : Prop where
  ex : ∃ A, Lay w0 A w ∧ PS A P L ∧ A (31, 0) = some (g, .cells x.cells.toArray 33) ∧ Row A (30, 0) 5 1 v xs.length (bv xs)
section
variable {w0 w w' : World} {P g n : Nat} {L : List Cl} {x : Opn} {v : Value} {xs : List Int}
theorem Rn.grow (h : Rn w0 P L g x v xs w) (hb : Below w.heap.size w w') : Rn w0 P L g x v xs w' := by
  obtain ⟨A, h1, h2, h3, h4⟩ := h.ex
  exact ⟨A, h1.grow hb, h2, h3, h4⟩
theorem Rn.has (h : Rn w0 P L g x v xs w) : Has w0 P L w := by
  obtain ⟨A, h1, h2, h3, h4⟩ := h.ex
  exact ⟨A, h1, h2⟩
theorem Rn.cells (h : Rn w0 P L g x v xs w) : w.cell? ⟨g, 0, none⟩ = some (.int .i64 x.kind) ∧ w.cell? ⟨g, 1, none⟩ = some (.int .i64 x.id) ∧ w.cell? ⟨g, 2, none⟩ = some (.int .i64 x.off) ∧ w.cell? ⟨g, 3, none⟩ = some (.int .i64 x.size) ∧ w.cell? ⟨g, 4, none⟩ = some (.int .i64 x.now) ∧ w.cell? ⟨g, 5, none⟩ = some (.int .u64 x.v) ∧ w.cell? ⟨g, 6, none⟩ = some (.slice x.a x.n x.c) := by
  obtain ⟨A, h1, h2, h3, h4⟩ := h.ex
  exact bk7 (h1.bk h3)
theorem Rn.form (h : Rn w0 P L g x v xs w) : ∃ a c, v = .slice a xs.length c := by
  obtain ⟨A, h1, h2, h3, h4⟩ := h.ex
  obtain ⟨a, c, e, _⟩ := h4.form2
  exact ⟨a, c, e⟩
theorem Rn.was {a : Option Addr} {m c : Nat} (h : Rn w0 P L g x (.slice a m c) xs w) (hm : xs.length = m) : Rd w w.heap.size a (bv xs) := by
  obtain ⟨A, h1, h2, h3, h4⟩ := h.ex
  rw [hm] at h4
  exact (h4.reads (w0 := w0)).rd h1
theorem Rn.start (h : Has w0 P L w) (hb : Below w.heap.size w w') (hg : w'.heap[w.heap.size]? = some (.cells x.cells.toArray 33)) (ho : OkL n L) (id : Int) :
    Calls Try.prog 19 #[.pointer (some ⟨P, 0, none⟩), .int .i64 id] w' fun e w2 => ∃ v, e = .returned v ∧ Rn w0 P L w.heap.size x v (bsC L id) w2 := by
  obtain ⟨A, h1, h2⟩ := h
  have h3 := h1.new (31, 0) hb (Nat.le_refl _) hg
  have h4 : PS (A.up (31, 0) w.heap.size (.cells x.cells.toArray 33)) P L := h2.keep fun y hy => up_other _ _ _ (fun e => by rw [e] at hy; simp at hy)
  refine (bytes_any h3 h4 ho id).mono fun e w2 hv => ?_
  obtain ⟨v, he, q⟩ := hv
  obtain ⟨A', h5, h6, h7⟩ := h3.newRow (30, 0) q.below q.own (Nat.le_refl _)
  exact ⟨v, he, A', h5, h4.keep fun y hy => h7 y (fun e => by rw [e] at hy; simp at hy), (h7 _ (by simp)).trans (up_same _ _ _ _), h6⟩
def RnP (w0 : World) (P : Nat) (g : Nat) (x : Opn) (v : Value) (xs : List Int) (r : Bool × List Cl) (e : Ending) (w' : World) : Prop := e = .returned (.bool r.1) ∧ Rn w0 P r.2 g x v xs w'
theorem Rn.does (h : Rn w0 P L g x v xs w) (ho : OkL n L) (hn : n ≤ 300) (hx : x.fits) (hr : Rd w0 w0.heap.size x.a (bv x.bs)) :
    Calls Try.prog 21 #[.pointer (some ⟨P, 0, none⟩), .agg #[.int .i64 x.kind, .int .i64 x.id, .int .i64 x.off, .int .i64 x.size, .int .i64 x.now, .int .u64 x.v, .slice x.a x.n x.c]] w (RnP w0 P g x v xs (stepL L x)) := by
  obtain ⟨A, h1, h2, h3, h4⟩ := h.ex
  refine (does_c h1 h2 ho hn x hx hr).mono fun e w2 hv => ?_
  obtain ⟨he, A', h5, h6, h7⟩ := hv
  exact ⟨he, A', h5, h6, (h7 _ (by simp)).trans h3, h4.keep (h7 _ (by simp))⟩
end
end Go.Proofs.Ythdgdkjaeebbcaa
