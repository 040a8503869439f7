/-
  How ends and tnums that come in are read: for the rows' own steps of layer 4's statements.
-/
import Derived.Test.YtcimihckhobniaaGreatBSpanA
import Derived.Deep.Slices
import Derived.Deep.Fields
import Derived.OpenShut
import Derived.ProofKit
namespace Go.Proofs.YtcimihckhobniaaGreat
set_option maxRecDepth 100000
open Go.RowKit Tn Ow Sp
open Go.ChangeShapes Go.WideShapes Go.Deep
set_option linter.unusedVariables false
set_option linter.unusedSimpArgs false
def inU (x : E) : Prop := (0 ≤ x.lo ∧ x.lo ≤ 18446744073709551615) ∧ 0 ≤ x.hi ∧ x.hi ≤ 18446744073709551615
def inS (x : E) : Prop := (-9223372036854775808 ≤ x.lo ∧ x.lo ≤ 9223372036854775807) ∧ -9223372036854775808 ≤ x.hi ∧ x.hi ≤ 9223372036854775807
section
variable {H : Type} {enc : TypeId × Value → H} {w : World} {base : Nat} {spare : Nat → Bool} {held : Bool}
theorem u_of {fuel : Nat} {cs : List Value} {y : DataW H × List MemPlace} (h : DataW.trod enc Tryz.prog w base spare held fuel 26 cs = some y) : ∃ x : E, inU x ∧ cs = [.int .u64 x.lo, .int .u64 x.hi] := by
  obtain ⟨xs, n, _, _, hlen, hxl, hf⟩ := DataW.trod_struct Tryz.underlying26 h
  have h2 : cs.length = 2 := hlen.trans (by kernel_rfl)
  match cs, h2 with
  | [c0, c1], _ =>
    match xs, hxl with
    | [y0, y1], _ =>
      have g1 : Tryz.prog.cellsOf 22 = 1 := by kernel_rfl
      have k0 := hf 0 _ rfl
      have k1 := hf 1 _ rfl
      simp [g1] at k0 k1
      obtain ⟨n0, e0, _, w0⟩ := DataW.trod_int Tryz.underlying22 k0
      obtain ⟨n1, e1, _, w1⟩ := DataW.trod_int Tryz.underlying22 k1
      simp at e0 e1
      subst e0 e1
      exact ⟨⟨n0, n1⟩, ⟨⟨(bounds_u64 w0).1, (bounds_u64 w0).2⟩, (bounds_u64 w1).1, (bounds_u64 w1).2⟩, rfl⟩
theorem s_of {fuel : Nat} {cs : List Value} {y : DataW H × List MemPlace} (h : DataW.trod enc Tryz.prog w base spare held fuel 28 cs = some y) : ∃ x : E, inS x ∧ cs = [.int .i64 x.lo, .int .i64 x.hi] := by
  obtain ⟨xs, n, _, _, hlen, hxl, hf⟩ := DataW.trod_struct Tryz.underlying28 h
  have h2 : cs.length = 2 := hlen.trans (by kernel_rfl)
  match cs, h2 with
  | [c0, c1], _ =>
    match xs, hxl with
    | [y0, y1], _ =>
      have g1 : Tryz.prog.cellsOf 2 = 1 := by kernel_rfl
      have k0 := hf 0 _ rfl
      have k1 := hf 1 _ rfl
      simp [g1] at k0 k1
      obtain ⟨n0, e0, _, w0⟩ := DataW.trod_int Tryz.underlying2 k0
      obtain ⟨n1, e1, _, w1⟩ := DataW.trod_int Tryz.underlying2 k1
      simp at e0 e1
      subst e0 e1
      exact ⟨⟨n0, n1⟩, ⟨⟨(bounds_i64 w0).1, (bounds_i64 w0).2⟩, (bounds_i64 w1).1, (bounds_i64 w1).2⟩, rfl⟩
/-- The cells of a tnum that comes in. -/
theorem tn_of {fuel : Nat} {cs : List Value} {y : DataW H × List MemPlace} (h : DataW.trod enc Tryz.prog w base spare held fuel 24 cs = some y) : ∃ x : T, cs = [.int .u64 (bi x.v), .int .u64 (bi x.m)] := by
  obtain ⟨xs, n, _, _, hlen, hxl, hf⟩ := DataW.trod_struct Tryz.underlying24 h
  have h2 : cs.length = 2 := hlen.trans (by kernel_rfl)
  match cs, h2 with
  | [c0, c1], _ =>
    match xs, hxl with
    | [y0, y1], _ =>
      have g1 : Tryz.prog.cellsOf 22 = 1 := by kernel_rfl
      have k0 := hf 0 _ rfl
      have k1 := hf 1 _ rfl
      simp [g1] at k0 k1
      obtain ⟨n0, e0, _, w0⟩ := DataW.trod_int Tryz.underlying22 k0
      obtain ⟨n1, e1, _, w1⟩ := DataW.trod_int Tryz.underlying22 k1
      simp at e0 e1
      subst e0 e1
      obtain ⟨p, rfl⟩ := bi_of n0 (bounds_u64 w0).1 (bounds_u64 w0).2
      obtain ⟨q, rfl⟩ := bi_of n1 (bounds_u64 w1).1 (bounds_u64 w1).2
      exact ⟨⟨p, q⟩, rfl⟩
theorem u64_bi {n : Int} (h : (Lit.int .u64 n).wf = true) : ∃ x : BitVec 64, n = bi x := bi_of n (bounds_u64 h).1 (bounds_u64 h).2
end
end Go.Proofs.YtcimihckhobniaaGreat
