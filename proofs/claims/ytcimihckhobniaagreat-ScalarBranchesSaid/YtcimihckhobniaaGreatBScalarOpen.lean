/-
  How scalars that come in are read: for the rows' own steps of layer 5's statements.
-/
import Derived.Test.YtcimihckhobniaaGreatBSpanOpen
import Derived.Test.YtcimihckhobniaaGreatBScalarMath
namespace Go.Proofs.YtcimihckhobniaaGreat
open Go.RowKit Tn Ow Sp Sc
open Go.ChangeShapes Go.WideShapes Go.Deep
set_option linter.unusedVariables false
set_option linter.unusedSimpArgs false
set_option maxRecDepth 100000
def inX (x : C) : Prop := inU x.u ∧ inS x.s
section
variable {H : Type} {enc : TypeId × Value → H} {w : World} {base : Nat} {spare : Nat → Bool} {held : Bool}
theorem sc_of {fuel : Nat} {cs : List Value} {y : DataW H × List MemPlace} (h : DataW.trod enc Tryz.prog w base spare held fuel 30 cs = some y) :
    ∃ x : C, inX x ∧ cs = [.int .u64 (bi x.t.v), .int .u64 (bi x.t.m), .int .u64 x.u.lo, .int .u64 x.u.hi, .int .i64 x.s.lo, .int .i64 x.s.hi] := by
  obtain ⟨xs, n, _, _, hlen, hxl, hf⟩ := DataW.trod_struct Tryz.underlying30 h
  have h2 : cs.length = 6 := hlen.trans (by kernel_rfl)
  match cs, h2 with
  | [c0, c1, c2, c3, c4, c5], _ =>
    match xs, hxl with
    | [y0, y1, y2], _ =>
      have g1 : Tryz.prog.cellsOf 24 = 2 := by kernel_rfl
      have g2 : Tryz.prog.cellsOf 26 = 2 := by kernel_rfl
      have g3 : Tryz.prog.cellsOf 28 = 2 := by kernel_rfl
      have k0 := hf 0 _ rfl
      have k1 := hf 1 _ rfl
      have k2 := hf 2 _ rfl
      simp [g1] at k0
      simp [g2] at k1
      simp [g3] at k2
      obtain ⟨t, e0⟩ := tn_of k0
      obtain ⟨u, hu, e1⟩ := u_of k1
      obtain ⟨s, hs, e2⟩ := s_of k2
      simp at e0 e1 e2
      obtain ⟨rfl, rfl⟩ := e0
      obtain ⟨rfl, rfl⟩ := e1
      obtain ⟨rfl, rfl⟩ := e2
      exact ⟨⟨t, u, s⟩, ⟨hu, hs⟩, rfl⟩
theorem open_sc {r : Reach} {b0 : Nat} {v : Value} {d : DataW H} {p : List MemPlace} (hv : Value.okWide Tryz.prog w r b0 30 v) (h : DataW.Trod enc Tryz.prog w base spare held 30 v d p) :
    ∃ x : C, inX x ∧ v = .agg #[.int .u64 (bi x.t.v), .int .u64 (bi x.t.m), .int .u64 x.u.lo, .int .u64 x.u.hi, .int .i64 x.s.lo, .int .i64 x.s.hi] := by
  obtain ⟨cs, rfl, _⟩ := okWide_struct Tryz.underlying30 hv
  obtain ⟨fuel, hf⟩ := h
  obtain ⟨x, hx, e⟩ := sc_of hf
  refine ⟨x, hx, ?_⟩
  obtain ⟨l⟩ := cs
  simp [Value.cells] at e
  subst e
  rfl
end
end Go.Proofs.YtcimihckhobniaaGreat
