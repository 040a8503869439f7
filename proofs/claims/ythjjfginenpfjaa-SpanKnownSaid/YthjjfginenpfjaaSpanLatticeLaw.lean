/-
  Proved: the statement SpanLattice: a number is of what both have just if it is of both; it is of what has both, if it is of one; whatever has both is within all that have, without a sign; and so with one. No conditions.
-/
import Derived.Test.YthjjfginenpfjaaRows
import Derived.Test.YthjjfginenpfjaaSpanTo
import Derived.Deep.RegionHeld3
import Derived.Deep.DeepCutAuto
import Derived.WalkKit
import Derived.ProofKit
import Derived.OpenShut
import Derived.ChangeOld
import Derived.Below
import Derived.Handy
namespace Go.Proofs.Ythjjfginenpfjaa.spanLattice
open Go.ChangeShapes Go.WideShapes Go.ChangeAt Go.RowKit Tn Ow Sp
set_option linter.unusedVariables false
set_option linter.unusedSimpArgs false

theorem own : ownKnob Try.prog.godebug = none := by kernel_rfl
theorem laidOut : laidOutB Try.prog = true := by kernel_rfl

theorem meet_in9 {a b : E} (v : Int) (h : metE a b = true) : inE (meetE a b) v = (inE a v && inE b v) := by
  unfold metE at h
  have h2 := of_decide_eq_true h
  unfold meetE inE
  rw [if_pos h2, ← Bool.decide_and, decide_eq_decide]
  dsimp only
  omega
theorem meet_no9 {a b : E} (v : Int) (h : metE a b = false) (g : inE a v = true) : inE b v = false := by
  unfold metE at h
  have h2 := of_decide_eq_false h
  rw [inE_iff] at g
  unfold inE
  exact decide_eq_false (by omega)
theorem join_in9 {a b : E} (v : Int) (h : inE a v = true ∨ inE b v = true) : inE (joinE a b) v = true := by
  rw [inE_iff, inE_iff] at h
  rw [inE_iff]
  simp only [joinE]
  omega
theorem with_in9 {a b : E} (v : Int) (h : withE a b = true) (g : inE a v = true) : inE b v = true := by
  rw [withE_iff] at h; rw [inE_iff] at g ⊢; omega
theorem with_j1 (a b : E) : withE a (joinE a b) = true := by rw [withE_iff]; simp only [joinE]; omega
theorem with_j2 (a b : E) : withE b (joinE a b) = true := by rw [withE_iff]; simp only [joinE]; omega
theorem with_m1 {a b : E} (h : metE a b = true) : withE (meetE a b) a = true := by
  unfold metE at h; have h2 := of_decide_eq_true h; unfold meetE; rw [if_pos h2, withE_iff]; dsimp only; omega
theorem with_m2 {a b : E} (h : metE a b = true) : withE (meetE a b) b = true := by
  unfold metE at h; have h2 := of_decide_eq_true h; unfold meetE; rw [if_pos h2, withE_iff]; dsimp only; omega
theorem with_jc {a b c : E} (h : withE a c = true) : withE (joinE a b) c = withE b c := by
  rw [withE_iff] at h; unfold withE; rw [decide_eq_decide]; simp only [joinE]; omega
theorem ps {α : Type} {l : List α} {i : Nat} {x : α} : l.toArray.setIfInBounds i x = (l.set i x).toArray := List.setIfInBounds_toArray l i x
theorem p0 {α : Type} {l : List α} {x y : α} : (x :: l).set 0 y = y :: l := rfl
theorem p1 {α : Type} {l : List α} {i : Nat} {x y : α} : (x :: l).set (i + 1) y = x :: l.set i y := rfl
section
variable {P : Program} {ops : Array Oper} {Q : Exit → Act → World → Prop} {md : Region.Mode} {S : World → Prop}
theorem tq (i : Nat) (v : Value) {o : Oper} {fuel : Nat} {l : Array Bool} {a : Act} {w : World} (hl : ops.toList[i]? = some o)
    (hb : (Region.noSelect ops && Region.free md ops l i && (Region.ready md ops l).contains i) = true)
    (hQ : ∀ c a w, Q (.panic c) (a.put o.dst v) w → Q (.panic c) a w) (hw : Region.wanted o (yielded ops a.tmps) = true) (hS : S w)
    (hy : ∀ w, S w → (execOp a.eval o).run P w = .ok (.value v) w)
    (h : wpAnyH P md ops Q S fuel (l.setIfInBounds i true) (a.put o.dst v) w) : wpAnyH P md ops Q S (fuel + 1) l a w := by
  simp only [Bool.and_eq_true] at hb
  have hi : ops[i]? = some o := Array.getElem?_toList.symm.trans hl
  exact wpAnyH_take hi hb.1.1 hb.1.2 hb.2 hQ (Or.inl ⟨hw, hy⟩) hS h
theorem tu (i : Nat) {o : Oper} {fuel : Nat} {l : Array Bool} {a : Act} {w : World} (hl : ops.toList[i]? = some o)
    (hb : (Region.noSelect ops && Region.free md ops l i && (Region.ready md ops l).contains i) = true)
    (hQ : ∀ c a w, Q (.panic c) (a.put o.dst undef) w → Q (.panic c) a w) (hw : Region.wanted o (yielded ops a.tmps) = false) (hS : S w)
    (h : wpAnyH P md ops Q S fuel (l.setIfInBounds i true) (a.put o.dst undef) w) : wpAnyH P md ops Q S (fuel + 1) l a w := by
  simp only [Bool.and_eq_true] at hb
  have hi : ops[i]? = some o := Array.getElem?_toList.symm.trans hl
  exact wpAnyH_take hi hb.1.1 hb.1.2 hb.2 hQ (Or.inr ⟨hw, rfl⟩) hS h
theorem tc (i : Nat) {o : Oper} {fuel : Nat} {l : Array Bool} {a : Act} {w : World} (ho : ops.toList[i]? = some o) (hr : Region.ready md ops l = [i])
    (h : ∀ K' : Act → World → Prop, Shut (∀ a w, S w → (S w → wpAnyH P md ops Q S fuel (l.setIfInBounds i true) a w) → K' a w) → if Region.wanted o (yielded ops a.tmps) = true then Oper.wp P o a w K' Q else K' (a.put o.dst undef) w) :
    wpAnyH P md ops Q S (fuel + 1) l a w := wpAnyH_ready hr (by simp) (AllReadyH.cons (Array.getElem?_toList.symm.trans ho) h AllReadyH.nil)
end
theorem cell_al {w : World} {p : Addr} {v : Value} (h : w.cell? p = some v) (o : Obj) : (w.alloc o).cell? p = some v := (World.cell?_alloc_lt w o p (World.block_lt_of_cell? w _ h)).trans h
theorem keep10 {w W w2 : World} {p0 p1 p2 p3 p4 p5 p6 p7 p8 p9 : Addr} {y0 y1 y2 y3 y4 y5 y6 y7 y8 y9 : Value} (hb : Below W.heap.size W w2) (hh : W.cell? p0 = some y0 ∧ W.cell? p1 = some y1 ∧ W.cell? p2 = some y2 ∧ W.cell? p3 = some y3 ∧ W.cell? p4 = some y4 ∧ W.cell? p5 = some y5 ∧ W.cell? p6 = some y6 ∧ W.cell? p7 = some y7 ∧ W.cell? p8 = some y8 ∧ W.cell? p9 = some y9 ∧ Below w.heap.size w W) :
    w2.cell? p0 = some y0 ∧ w2.cell? p1 = some y1 ∧ w2.cell? p2 = some y2 ∧ w2.cell? p3 = some y3 ∧ w2.cell? p4 = some y4 ∧ w2.cell? p5 = some y5 ∧ w2.cell? p6 = some y6 ∧ w2.cell? p7 = some y7 ∧ w2.cell? p8 = some y8 ∧ w2.cell? p9 = some y9 ∧ Below w.heap.size w w2 := by
  obtain ⟨a0, a1, a2, a3, a4, a5, a6, a7, a8, a9, B⟩ := hh
  exact ⟨keep1 hb a0, keep1 hb a1, keep1 hb a2, keep1 hb a3, keep1 hb a4, keep1 hb a5, keep1 hb a6, keep1 hb a7, keep1 hb a8, keep1 hb a9, below_then B hb (Nat.le_refl _)⟩
theorem keep12 {w W w2 : World} {p0 p1 p2 p3 p4 p5 p6 p7 p8 p9 p10 p11 : Addr} {y0 y1 y2 y3 y4 y5 y6 y7 y8 y9 y10 y11 : Value} (hb : Below W.heap.size W w2) (hh : W.cell? p0 = some y0 ∧ W.cell? p1 = some y1 ∧ W.cell? p2 = some y2 ∧ W.cell? p3 = some y3 ∧ W.cell? p4 = some y4 ∧ W.cell? p5 = some y5 ∧ W.cell? p6 = some y6 ∧ W.cell? p7 = some y7 ∧ W.cell? p8 = some y8 ∧ W.cell? p9 = some y9 ∧ W.cell? p10 = some y10 ∧ W.cell? p11 = some y11 ∧ Below w.heap.size w W) :
    w2.cell? p0 = some y0 ∧ w2.cell? p1 = some y1 ∧ w2.cell? p2 = some y2 ∧ w2.cell? p3 = some y3 ∧ w2.cell? p4 = some y4 ∧ w2.cell? p5 = some y5 ∧ w2.cell? p6 = some y6 ∧ w2.cell? p7 = some y7 ∧ w2.cell? p8 = some y8 ∧ w2.cell? p9 = some y9 ∧ w2.cell? p10 = some y10 ∧ w2.cell? p11 = some y11 ∧ Below w.heap.size w w2 := by
  obtain ⟨a0, a1, a2, a3, a4, a5, a6, a7, a8, a9, a10, a11, B⟩ := hh
  exact ⟨keep1 hb a0, keep1 hb a1, keep1 hb a2, keep1 hb a3, keep1 hb a4, keep1 hb a5, keep1 hb a6, keep1 hb a7, keep1 hb a8, keep1 hb a9, keep1 hb a10, keep1 hb a11, below_then B hb (Nat.le_refl _)⟩
theorem keep14 {w W w2 : World} {p0 p1 p2 p3 p4 p5 p6 p7 p8 p9 p10 p11 p12 p13 : Addr} {y0 y1 y2 y3 y4 y5 y6 y7 y8 y9 y10 y11 y12 y13 : Value} (hb : Below W.heap.size W w2) (hh : W.cell? p0 = some y0 ∧ W.cell? p1 = some y1 ∧ W.cell? p2 = some y2 ∧ W.cell? p3 = some y3 ∧ W.cell? p4 = some y4 ∧ W.cell? p5 = some y5 ∧ W.cell? p6 = some y6 ∧ W.cell? p7 = some y7 ∧ W.cell? p8 = some y8 ∧ W.cell? p9 = some y9 ∧ W.cell? p10 = some y10 ∧ W.cell? p11 = some y11 ∧ W.cell? p12 = some y12 ∧ W.cell? p13 = some y13 ∧ Below w.heap.size w W) :
    w2.cell? p0 = some y0 ∧ w2.cell? p1 = some y1 ∧ w2.cell? p2 = some y2 ∧ w2.cell? p3 = some y3 ∧ w2.cell? p4 = some y4 ∧ w2.cell? p5 = some y5 ∧ w2.cell? p6 = some y6 ∧ w2.cell? p7 = some y7 ∧ w2.cell? p8 = some y8 ∧ w2.cell? p9 = some y9 ∧ w2.cell? p10 = some y10 ∧ w2.cell? p11 = some y11 ∧ w2.cell? p12 = some y12 ∧ w2.cell? p13 = some y13 ∧ Below w.heap.size w w2 := by
  obtain ⟨a0, a1, a2, a3, a4, a5, a6, a7, a8, a9, a10, a11, a12, a13, B⟩ := hh
  exact ⟨keep1 hb a0, keep1 hb a1, keep1 hb a2, keep1 hb a3, keep1 hb a4, keep1 hb a5, keep1 hb a6, keep1 hb a7, keep1 hb a8, keep1 hb a9, keep1 hb a10, keep1 hb a11, keep1 hb a12, keep1 hb a13, below_then B hb (Nat.le_refl _)⟩

set_option maxRecDepth 100000 in
set_option maxHeartbeats 100000000 in
theorem walk (x0 : E) (x1 : E) (x2 : E) (n3 : Int) (w : World) (f0 : inU x0) (f1 : inU x1) (f2 : inU x2) (w3 : (Lit.int .u64 n3).wf = true) :
    Calls Try.prog 9 #[.agg #[.int .u64 x0.lo, .int .u64 x0.hi], .agg #[.int .u64 x1.lo, .int .u64 x1.hi], .agg #[.int .u64 x2.lo, .int .u64 x2.hi], .int .u64 n3] w fun e w' => e = .returned (.bool true) ∧ Below w.heap.size w w' := by
  have h3 := bounds_u64 w3
  have H3 := Lib.hid h3
  clear w3
  obtain ⟨a, ea⟩ : ∃ a : E, sortE x0.lo x0.hi = a := ⟨_, rfl⟩
  have EA := Lib.hid ea
  have OA := Lib.hid (show okU a by rw [← ea]; exact ok_sortU f0)
  clear ea
  obtain ⟨b, eb⟩ : ∃ a : E, sortE x1.lo x1.hi = a := ⟨_, rfl⟩
  have EB := Lib.hid eb
  have OB := Lib.hid (show okU b by rw [← eb]; exact ok_sortU f1)
  clear eb
  obtain ⟨c, ec⟩ : ∃ a : E, sortE x2.lo x2.hi = a := ⟨_, rfl⟩
  have EC := Lib.hid ec
  have OC := Lib.hid (show okU c by rw [← ec]; exact ok_sortU f2)
  clear ec
  obtain ⟨m, em⟩ : ∃ r : E, meetE a b = r := ⟨_, rfl⟩
  obtain ⟨o, eo⟩ : ∃ r : Bool, metE a b = r := ⟨_, rfl⟩
  obtain ⟨j, ej⟩ : ∃ r : E, joinE a b = r := ⟨_, rfl⟩
  have EM := Lib.hid em
  have EO := Lib.hid eo
  have EJ := Lib.hid ej
  have MI := Lib.hid (show o = true → inE m n3 = (inE a n3 && inE b n3) by intro h; rw [← em]; exact meet_in9 n3 (eo.trans h))
  have MN := Lib.hid (show o = false → inE a n3 = true → inE b n3 = false by intro h g; exact meet_no9 n3 (eo.trans h) g)
  have JI := Lib.hid (show inE a n3 = true ∨ inE b n3 = true → inE j n3 = true by intro h; rw [← ej]; exact join_in9 n3 h)
  have J1 := Lib.hid (show withE a j = true by rw [← ej]; exact with_j1 a b)
  have J2 := Lib.hid (show withE b j = true by rw [← ej]; exact with_j2 a b)
  have M1 := Lib.hid (show o = true → withE m a = true by intro h; rw [← em]; exact with_m1 (eo.trans h))
  have M2 := Lib.hid (show o = true → withE m b = true by intro h; rw [← em]; exact with_m2 (eo.trans h))
  have JC := Lib.hid (show withE a c = true → withE j c = withE b c by intro h; rw [← ej]; exact with_jc h)
  clear em eo ej
  go_enter Try.func9, Try.ntmps9
  go_wp2_with fail
  have K0 := (((Bk.new w 24 #[.int .u64 x0.lo, .int .u64 x0.hi]).alloc (.cells #[.int .u64 x1.lo, .int .u64 x1.hi] 24)).alloc (.cells #[.int .u64 x2.lo, .int .u64 x2.hi] 24))
  have K1 := ((Bk.new (w.alloc (.cells #[.int .u64 x0.lo, .int .u64 x0.hi] 24)) 24 #[.int .u64 x1.lo, .int .u64 x1.hi]).alloc (.cells #[.int .u64 x2.lo, .int .u64 x2.hi] 24))
  rw [World.size_alloc] at K1
  have K2 := (Bk.new ((w.alloc (.cells #[.int .u64 x0.lo, .int .u64 x0.hi] 24)).alloc (.cells #[.int .u64 x1.lo, .int .u64 x1.hi] 24)) 24 #[.int .u64 x2.lo, .int .u64 x2.hi])
  rw [World.size_alloc, World.size_alloc] at K2
  have B0 : Below w.heap.size w (((w.alloc (.cells #[.int .u64 x0.lo, .int .u64 x0.hi] 24)).alloc (.cells #[.int .u64 x1.lo, .int .u64 x1.hi] 24)).alloc (.cells #[.int .u64 x2.lo, .int .u64 x2.hi] 24)) := by go_grown
  generalize (((w.alloc (.cells #[.int .u64 x0.lo, .int .u64 x0.hi] 24)).alloc (.cells #[.int .u64 x1.lo, .int .u64 x1.hi] 24)).alloc (.cells #[.int .u64 x2.lo, .int .u64 x2.hi] 24)) = w0 at *
  have H0 := Lib.hid K0
  have H1 := Lib.hid K1
  have H2 := Lib.hid K2
  have HB := Lib.hid B0
  clear K0 K1 K2 B0
  have P := H0
  clear H0
  obtain ⟨cP0, cP1⟩ := tcells P.out
  have Q := H1
  clear H1
  obtain ⟨cQ0, cQ1⟩ := tcells Q.out
  have R := H2
  clear H2
  obtain ⟨cR0, cR1⟩ := tcells R.out
  with_reducible refine (us_to x0 x1 a b EA.out EB.out _).mono ?_
  rintro e w1 ⟨rfl, qb⟩
  replace P := Lib.hid (P.out.below qb P.out.lt)
  replace Q := Lib.hid (Q.out.below qb Q.out.lt)
  replace R := Lib.hid (R.out.below qb R.out.lt)
  replace HB := Lib.hid (below_then HB.out qb (Nat.le_refl _))
  clear qb cP0 cP1 cQ0 cQ1 cR0 cR1
  obtain ⟨cP0, cP1⟩ := tcells P.out
  obtain ⟨cQ0, cQ1⟩ := tcells Q.out
  obtain ⟨cR0, cR1⟩ := tcells R.out
  obtain ⟨dP0, dP1⟩ := tcells ((P.out.alloc (.cells #[.int .u64 a.lo, .int .u64 a.hi] 24)).alloc (.cells #[.int .u64 b.lo, .int .u64 b.hi] 24))
  obtain ⟨dQ0, dQ1⟩ := tcells ((Q.out.alloc (.cells #[.int .u64 a.lo, .int .u64 a.hi] 24)).alloc (.cells #[.int .u64 b.lo, .int .u64 b.hi] 24))
  obtain ⟨dR0, dR1⟩ := tcells ((R.out.alloc (.cells #[.int .u64 a.lo, .int .u64 a.hi] 24)).alloc (.cells #[.int .u64 b.lo, .int .u64 b.hi] 24))
  go_wp2_with fail
  clear dP0 dP1 dQ0 dQ1 dR0 dR1
  replace P := Lib.hid ((P.out.alloc (.cells #[.int .u64 a.lo, .int .u64 a.hi] 24)).alloc (.cells #[.int .u64 b.lo, .int .u64 b.hi] 24))
  replace Q := Lib.hid ((Q.out.alloc (.cells #[.int .u64 a.lo, .int .u64 a.hi] 24)).alloc (.cells #[.int .u64 b.lo, .int .u64 b.hi] 24))
  replace R := Lib.hid ((R.out.alloc (.cells #[.int .u64 a.lo, .int .u64 a.hi] 24)).alloc (.cells #[.int .u64 b.lo, .int .u64 b.hi] 24))
  have A0 := ((Bk.new w1 24 #[.int .u64 a.lo, .int .u64 a.hi]).alloc (.cells #[.int .u64 b.lo, .int .u64 b.hi] 24))
  have A := Lib.hid A0
  clear A0
  have B0 := (Bk.new (w1.alloc (.cells #[.int .u64 a.lo, .int .u64 a.hi] 24)) 24 #[.int .u64 b.lo, .int .u64 b.hi])
  rw [World.size_alloc] at B0
  have B := Lib.hid B0
  clear B0
  replace HB := Lib.hid (below_al (below_al HB.out (.cells #[.int .u64 a.lo, .int .u64 a.hi] 24)) (.cells #[.int .u64 b.lo, .int .u64 b.hi] 24))
  clear cP0 cP1 cQ0 cQ1 cR0 cR1
  generalize ((w1.alloc (.cells #[.int .u64 a.lo, .int .u64 a.hi] 24)).alloc (.cells #[.int .u64 b.lo, .int .u64 b.hi] 24)) = v1 at *
  obtain ⟨cP0, cP1⟩ := tcells P.out
  obtain ⟨cQ0, cQ1⟩ := tcells Q.out
  obtain ⟨cR0, cR1⟩ := tcells R.out
  obtain ⟨cA0, cA1⟩ := tcells A.out
  obtain ⟨cB0, cB1⟩ := tcells B.out
  with_reducible refine (us_to x2 x2 c c EC.out EC.out _).mono ?_
  rintro e w2 ⟨rfl, qb⟩
  replace P := Lib.hid (P.out.below qb P.out.lt)
  replace Q := Lib.hid (Q.out.below qb Q.out.lt)
  replace R := Lib.hid (R.out.below qb R.out.lt)
  replace A := Lib.hid (A.out.below qb A.out.lt)
  replace B := Lib.hid (B.out.below qb B.out.lt)
  replace HB := Lib.hid (below_then HB.out qb (Nat.le_refl _))
  clear qb cP0 cP1 cQ0 cQ1 cR0 cR1 cA0 cA1 cB0 cB1
  obtain ⟨cP0, cP1⟩ := tcells P.out
  obtain ⟨cQ0, cQ1⟩ := tcells Q.out
  obtain ⟨cR0, cR1⟩ := tcells R.out
  obtain ⟨cA0, cA1⟩ := tcells A.out
  obtain ⟨cB0, cB1⟩ := tcells B.out
  obtain ⟨dP0, dP1⟩ := tcells ((P.out.alloc (.cells #[.int .u64 c.lo, .int .u64 c.hi] 24)).alloc (.cells #[.int .u64 c.lo, .int .u64 c.hi] 24))
  obtain ⟨dQ0, dQ1⟩ := tcells ((Q.out.alloc (.cells #[.int .u64 c.lo, .int .u64 c.hi] 24)).alloc (.cells #[.int .u64 c.lo, .int .u64 c.hi] 24))
  obtain ⟨dR0, dR1⟩ := tcells ((R.out.alloc (.cells #[.int .u64 c.lo, .int .u64 c.hi] 24)).alloc (.cells #[.int .u64 c.lo, .int .u64 c.hi] 24))
  obtain ⟨dA0, dA1⟩ := tcells ((A.out.alloc (.cells #[.int .u64 c.lo, .int .u64 c.hi] 24)).alloc (.cells #[.int .u64 c.lo, .int .u64 c.hi] 24))
  obtain ⟨dB0, dB1⟩ := tcells ((B.out.alloc (.cells #[.int .u64 c.lo, .int .u64 c.hi] 24)).alloc (.cells #[.int .u64 c.lo, .int .u64 c.hi] 24))
  go_wp2_with fail
  clear dP0 dP1 dQ0 dQ1 dR0 dR1 dA0 dA1 dB0 dB1
  replace P := Lib.hid ((P.out.alloc (.cells #[.int .u64 c.lo, .int .u64 c.hi] 24)).alloc (.cells #[.int .u64 c.lo, .int .u64 c.hi] 24))
  replace Q := Lib.hid ((Q.out.alloc (.cells #[.int .u64 c.lo, .int .u64 c.hi] 24)).alloc (.cells #[.int .u64 c.lo, .int .u64 c.hi] 24))
  replace R := Lib.hid ((R.out.alloc (.cells #[.int .u64 c.lo, .int .u64 c.hi] 24)).alloc (.cells #[.int .u64 c.lo, .int .u64 c.hi] 24))
  replace A := Lib.hid ((A.out.alloc (.cells #[.int .u64 c.lo, .int .u64 c.hi] 24)).alloc (.cells #[.int .u64 c.lo, .int .u64 c.hi] 24))
  replace B := Lib.hid ((B.out.alloc (.cells #[.int .u64 c.lo, .int .u64 c.hi] 24)).alloc (.cells #[.int .u64 c.lo, .int .u64 c.hi] 24))
  have C0 := ((Bk.new w2 24 #[.int .u64 c.lo, .int .u64 c.hi]).alloc (.cells #[.int .u64 c.lo, .int .u64 c.hi] 24))
  have C := Lib.hid C0
  clear C0
  have D0 := (Bk.new (w2.alloc (.cells #[.int .u64 c.lo, .int .u64 c.hi] 24)) 24 #[.int .u64 c.lo, .int .u64 c.hi])
  rw [World.size_alloc] at D0
  have D := Lib.hid D0
  clear D0
  replace HB := Lib.hid (below_al (below_al HB.out (.cells #[.int .u64 c.lo, .int .u64 c.hi] 24)) (.cells #[.int .u64 c.lo, .int .u64 c.hi] 24))
  clear cP0 cP1 cQ0 cQ1 cR0 cR1 cA0 cA1 cB0 cB1
  generalize ((w2.alloc (.cells #[.int .u64 c.lo, .int .u64 c.hi] 24)).alloc (.cells #[.int .u64 c.lo, .int .u64 c.hi] 24)) = v2 at *
  obtain ⟨cP0, cP1⟩ := tcells P.out
  obtain ⟨cQ0, cQ1⟩ := tcells Q.out
  obtain ⟨cR0, cR1⟩ := tcells R.out
  obtain ⟨cA0, cA1⟩ := tcells A.out
  obtain ⟨cB0, cB1⟩ := tcells B.out
  obtain ⟨cC0, cC1⟩ := tcells C.out
  obtain ⟨cD0, cD1⟩ := tcells D.out
  clear R cR0 cR1
  clear D cD0 cD1
  with_reducible refine (umee_to a b m o EM.out EO.out _).mono ?_
  rintro e w3 ⟨rfl, qb⟩
  replace P := Lib.hid (P.out.below qb P.out.lt)
  replace Q := Lib.hid (Q.out.below qb Q.out.lt)
  replace A := Lib.hid (A.out.below qb A.out.lt)
  replace B := Lib.hid (B.out.below qb B.out.lt)
  replace C := Lib.hid (C.out.below qb C.out.lt)
  replace HB := Lib.hid (below_then HB.out qb (Nat.le_refl _))
  clear qb cP0 cP1 cQ0 cQ1 cA0 cA1 cB0 cB1 cC0 cC1
  obtain ⟨cP0, cP1⟩ := tcells P.out
  obtain ⟨cQ0, cQ1⟩ := tcells Q.out
  obtain ⟨cA0, cA1⟩ := tcells A.out
  obtain ⟨cB0, cB1⟩ := tcells B.out
  obtain ⟨cC0, cC1⟩ := tcells C.out
  obtain ⟨dP0, dP1⟩ := tcells (P.out.alloc (.cells #[.int .u64 m.lo, .int .u64 m.hi] 24))
  obtain ⟨dQ0, dQ1⟩ := tcells (Q.out.alloc (.cells #[.int .u64 m.lo, .int .u64 m.hi] 24))
  obtain ⟨dA0, dA1⟩ := tcells (A.out.alloc (.cells #[.int .u64 m.lo, .int .u64 m.hi] 24))
  obtain ⟨dB0, dB1⟩ := tcells (B.out.alloc (.cells #[.int .u64 m.lo, .int .u64 m.hi] 24))
  obtain ⟨dC0, dC1⟩ := tcells (C.out.alloc (.cells #[.int .u64 m.lo, .int .u64 m.hi] 24))
  go_wp2_with fail
  clear dP0 dP1 dQ0 dQ1 dA0 dA1 dB0 dB1 dC0 dC1
  replace P := Lib.hid (P.out.alloc (.cells #[.int .u64 m.lo, .int .u64 m.hi] 24))
  replace Q := Lib.hid (Q.out.alloc (.cells #[.int .u64 m.lo, .int .u64 m.hi] 24))
  replace A := Lib.hid (A.out.alloc (.cells #[.int .u64 m.lo, .int .u64 m.hi] 24))
  replace B := Lib.hid (B.out.alloc (.cells #[.int .u64 m.lo, .int .u64 m.hi] 24))
  replace C := Lib.hid (C.out.alloc (.cells #[.int .u64 m.lo, .int .u64 m.hi] 24))
  have M0 := (Bk.new w3 24 #[.int .u64 m.lo, .int .u64 m.hi])
  have M := Lib.hid M0
  clear M0
  replace HB := Lib.hid (below_al HB.out (.cells #[.int .u64 m.lo, .int .u64 m.hi] 24))
  clear cP0 cP1 cQ0 cQ1 cA0 cA1 cB0 cB1 cC0 cC1
  generalize (w3.alloc (.cells #[.int .u64 m.lo, .int .u64 m.hi] 24)) = v3 at *
  obtain ⟨cP0, cP1⟩ := tcells P.out
  obtain ⟨cQ0, cQ1⟩ := tcells Q.out
  obtain ⟨cA0, cA1⟩ := tcells A.out
  obtain ⟨cB0, cB1⟩ := tcells B.out
  obtain ⟨cC0, cC1⟩ := tcells C.out
  obtain ⟨cM0, cM1⟩ := tcells M.out
  with_reducible refine (ujoi_to a b j EJ.out _).mono ?_
  rintro e w4 ⟨rfl, qb⟩
  replace P := Lib.hid (P.out.below qb P.out.lt)
  replace Q := Lib.hid (Q.out.below qb Q.out.lt)
  replace A := Lib.hid (A.out.below qb A.out.lt)
  replace B := Lib.hid (B.out.below qb B.out.lt)
  replace C := Lib.hid (C.out.below qb C.out.lt)
  replace M := Lib.hid (M.out.below qb M.out.lt)
  replace HB := Lib.hid (below_then HB.out qb (Nat.le_refl _))
  clear qb cP0 cP1 cQ0 cQ1 cA0 cA1 cB0 cB1 cC0 cC1 cM0 cM1
  obtain ⟨cP0, cP1⟩ := tcells P.out
  obtain ⟨cQ0, cQ1⟩ := tcells Q.out
  obtain ⟨cA0, cA1⟩ := tcells A.out
  obtain ⟨cB0, cB1⟩ := tcells B.out
  obtain ⟨cC0, cC1⟩ := tcells C.out
  obtain ⟨cM0, cM1⟩ := tcells M.out
  obtain ⟨dP0, dP1⟩ := tcells (P.out.alloc (.cells #[.int .u64 j.lo, .int .u64 j.hi] 24))
  obtain ⟨dQ0, dQ1⟩ := tcells (Q.out.alloc (.cells #[.int .u64 j.lo, .int .u64 j.hi] 24))
  obtain ⟨dA0, dA1⟩ := tcells (A.out.alloc (.cells #[.int .u64 j.lo, .int .u64 j.hi] 24))
  obtain ⟨dB0, dB1⟩ := tcells (B.out.alloc (.cells #[.int .u64 j.lo, .int .u64 j.hi] 24))
  obtain ⟨dC0, dC1⟩ := tcells (C.out.alloc (.cells #[.int .u64 j.lo, .int .u64 j.hi] 24))
  obtain ⟨dM0, dM1⟩ := tcells (M.out.alloc (.cells #[.int .u64 j.lo, .int .u64 j.hi] 24))
  go_upto_region 5 with (fail)
  clear dP0 dP1 dQ0 dQ1 dA0 dA1 dB0 dB1 dC0 dC1 dM0 dM1
  replace P := Lib.hid (P.out.alloc (.cells #[.int .u64 j.lo, .int .u64 j.hi] 24))
  replace Q := Lib.hid (Q.out.alloc (.cells #[.int .u64 j.lo, .int .u64 j.hi] 24))
  replace A := Lib.hid (A.out.alloc (.cells #[.int .u64 j.lo, .int .u64 j.hi] 24))
  replace B := Lib.hid (B.out.alloc (.cells #[.int .u64 j.lo, .int .u64 j.hi] 24))
  replace C := Lib.hid (C.out.alloc (.cells #[.int .u64 j.lo, .int .u64 j.hi] 24))
  replace M := Lib.hid (M.out.alloc (.cells #[.int .u64 j.lo, .int .u64 j.hi] 24))
  have J0 := (Bk.new w4 24 #[.int .u64 j.lo, .int .u64 j.hi])
  have J := Lib.hid J0
  clear J0
  replace HB := Lib.hid (below_al HB.out (.cells #[.int .u64 j.lo, .int .u64 j.hi] 24))
  clear cP0 cP1 cQ0 cQ1 cA0 cA1 cB0 cB1 cC0 cC1 cM0 cM1
  generalize (w4.alloc (.cells #[.int .u64 j.lo, .int .u64 j.hi] 24)) = v4 at *
  obtain ⟨cP0, cP1⟩ := tcells P.out
  obtain ⟨cQ0, cQ1⟩ := tcells Q.out
  obtain ⟨cA0, cA1⟩ := tcells A.out
  obtain ⟨cB0, cB1⟩ := tcells B.out
  obtain ⟨cC0, cC1⟩ := tcells C.out
  obtain ⟨cM0, cM1⟩ := tcells M.out
  obtain ⟨cJ0, cJ1⟩ := tcells J.out
  go_cut [72] (fun s72 wx => s72 = .bool false ∧ Hid (wx.cell? ⟨w.heap.size, 0, none⟩ = some (.int .u64 x0.lo) ∧ wx.cell? ⟨w.heap.size, 1, none⟩ = some (.int .u64 x0.hi) ∧ wx.cell? ⟨w.heap.size + 1, 0, none⟩ = some (.int .u64 x1.lo) ∧ wx.cell? ⟨w.heap.size + 1, 1, none⟩ = some (.int .u64 x1.hi) ∧ wx.cell? ⟨w1.heap.size, 0, none⟩ = some (.int .u64 a.lo) ∧ wx.cell? ⟨w1.heap.size, 1, none⟩ = some (.int .u64 a.hi) ∧ wx.cell? ⟨w1.heap.size + 1, 0, none⟩ = some (.int .u64 b.lo) ∧ wx.cell? ⟨w1.heap.size + 1, 1, none⟩ = some (.int .u64 b.hi) ∧ wx.cell? ⟨w2.heap.size, 0, none⟩ = some (.int .u64 c.lo) ∧ wx.cell? ⟨w2.heap.size, 1, none⟩ = some (.int .u64 c.hi) ∧ wx.cell? ⟨w3.heap.size, 0, none⟩ = some (.int .u64 m.lo) ∧ wx.cell? ⟨w3.heap.size, 1, none⟩ = some (.int .u64 m.hi) ∧ wx.cell? ⟨w4.heap.size, 0, none⟩ = some (.int .u64 j.lo) ∧ wx.cell? ⟨w4.heap.size, 1, none⟩ = some (.int .u64 j.hi)) ∧ Hid (Below w.heap.size w wx))
  case first =>
    cases hpa : inE a n3 <;> cases hpb : inE b n3 <;> cases o
    · as_aux_lemma =>
     have HPA := Lib.hid hpa
     have HPB := Lib.hid hpb
     clear hpa hpb
     refine wp_region_held_drew (S := fun w' => w'.cell? ⟨w.heap.size, 0, none⟩ = some (.int .u64 x0.lo) ∧ w'.cell? ⟨w.heap.size, 1, none⟩ = some (.int .u64 x0.hi) ∧ w'.cell? ⟨w.heap.size + 1, 0, none⟩ = some (.int .u64 x1.lo) ∧ w'.cell? ⟨w.heap.size + 1, 1, none⟩ = some (.int .u64 x1.hi) ∧ w'.cell? ⟨w1.heap.size, 0, none⟩ = some (.int .u64 a.lo) ∧ w'.cell? ⟨w1.heap.size, 1, none⟩ = some (.int .u64 a.hi) ∧ w'.cell? ⟨w1.heap.size + 1, 0, none⟩ = some (.int .u64 b.lo) ∧ w'.cell? ⟨w1.heap.size + 1, 1, none⟩ = some (.int .u64 b.hi) ∧ w'.cell? ⟨w2.heap.size, 0, none⟩ = some (.int .u64 c.lo) ∧ w'.cell? ⟨w2.heap.size, 1, none⟩ = some (.int .u64 c.hi) ∧ w'.cell? ⟨w3.heap.size, 0, none⟩ = some (.int .u64 m.lo) ∧ w'.cell? ⟨w3.heap.size, 1, none⟩ = some (.int .u64 m.hi) ∧ w'.cell? ⟨w4.heap.size, 0, none⟩ = some (.int .u64 j.lo) ∧ w'.cell? ⟨w4.heap.size, 1, none⟩ = some (.int .u64 j.hi) ∧ Below w.heap.size w w') (by kernel_rfl) ⟨cP0, cP1, cQ0, cQ1, cA0, cA1, cB0, cB1, cC0, cC1, cM0, cM1, cJ0, cJ1, HB.out.drew⟩ (fun g => ?_)
     refine tq 0 ?_ rfl (by kernel_rfl) (fun _ _ _ h => h) (by rfl) g ?_ ?_
     rotate_left
     · intro w9 h; (try dsimp only at h); go_simp; try with_reducible rfl
     try simp only [Act.put, ps, p0, p1]
     refine tq 1 ?_ rfl (by kernel_rfl) (fun _ _ _ h => h) (by rfl) g ?_ ?_
     rotate_left
     · intro w9 h; (try dsimp only at h); go_simp; try with_reducible rfl
     try simp only [Act.put, ps, p0, p1]
     refine tu 2 rfl (by kernel_rfl) (fun _ _ _ h => h) (by rfl) g ?_
     try simp only [Act.put, ps, p0, p1]
     refine tu 3 rfl (by kernel_rfl) (fun _ _ _ h => h) (by rfl) g ?_
     try simp only [Act.put, ps, p0, p1]
     refine tu 4 rfl (by kernel_rfl) (fun _ _ _ h => h) (by rfl) g ?_
     try simp only [Act.put, ps, p0, p1]
     refine tq 5 ?_ rfl (by kernel_rfl) (fun _ _ _ h => h) (by rfl) g ?_ ?_
     rotate_left
     · intro w9 h; (try dsimp only at h); go_simp; try with_reducible rfl
     try simp only [Act.put, ps, p0, p1]
     refine tq 6 ?_ rfl (by kernel_rfl) (fun _ _ _ h => h) (by rfl) g ?_ ?_
     rotate_left
     · intro w9 h; (try dsimp only at h); go_simp; try with_reducible rfl
     try simp only [Act.put, ps, p0, p1]
     refine tq 7 ?_ rfl (by kernel_rfl) (fun _ _ _ h => h) (by rfl) g ?_ ?_
     rotate_left
     · intro w9 h; (try dsimp only at h); go_simp; try with_reducible rfl
     try simp only [Act.put, ps, p0, p1]
     refine tc 8 rfl (by kernel_rfl) (fun K hK => ?_)
     go_simp
     (go_at_call 15; with_reducible refine (uin_to a n3 false HPA.out _).mono ?_; rintro e z1 ⟨rfl, qb⟩)
     refine hK.out _ _ (keep14 qb g) (fun g1 => ?_)
     clear hK K qb
     try simp only [Act.put, ps, p0, p1]
     refine tq 9 ?_ rfl (by kernel_rfl) (fun _ _ _ h => h) (by rfl) g1 ?_ ?_
     rotate_left
     · intro w9 h; (try dsimp only at h); go_simp; try with_reducible rfl
     try simp only [Act.put, ps, p0, p1]
     refine tu 10 rfl (by kernel_rfl) (fun _ _ _ h => h) (by rfl) g1 ?_
     try simp only [Act.put, ps, p0, p1]
     refine tu 11 rfl (by kernel_rfl) (fun _ _ _ h => h) (by rfl) g1 ?_
     try simp only [Act.put, ps, p0, p1]
     refine tu 12 rfl (by kernel_rfl) (fun _ _ _ h => h) (by rfl) g1 ?_
     try simp only [Act.put, ps, p0, p1]
     refine tq 13 ?_ rfl (by kernel_rfl) (fun _ _ _ h => h) (by rfl) g1 ?_ ?_
     rotate_left
     · intro w9 h; (try dsimp only at h); go_simp; try with_reducible rfl
     try simp only [Act.put, ps, p0, p1]
     refine tq 14 ?_ rfl (by kernel_rfl) (fun _ _ _ h => h) (by rfl) g1 ?_ ?_
     rotate_left
     · intro w9 h; (try dsimp only at h); go_simp; try with_reducible rfl
     try simp only [Act.put, ps, p0, p1]
     refine tq 15 ?_ rfl (by kernel_rfl) (fun _ _ _ h => h) (by rfl) g1 ?_ ?_
     rotate_left
     · intro w9 h; (try dsimp only at h); go_simp; try with_reducible rfl
     try simp only [Act.put, ps, p0, p1]
     refine tq 16 ?_ rfl (by kernel_rfl) (fun _ _ _ h => h) (by rfl) g1 ?_ ?_
     rotate_left
     · intro w9 h; (try dsimp only at h); go_simp; try with_reducible rfl
     try simp only [Act.put, ps, p0, p1]
     refine tq 17 ?_ rfl (by kernel_rfl) (fun _ _ _ h => h) (by rfl) g1 ?_ ?_
     rotate_left
     · intro w9 h; (try dsimp only at h); go_simp; try with_reducible rfl
     try simp only [Act.put, ps, p0, p1]
     refine tc 18 rfl (by kernel_rfl) (fun K hK => ?_)
     go_simp
     (go_at_call 15; with_reducible refine (uin_to a n3 false HPA.out _).mono ?_; rintro e z2 ⟨rfl, qb⟩)
     refine hK.out _ _ (keep14 qb g1) (fun g2 => ?_)
     clear hK K qb g1
     try simp only [Act.put, ps, p0, p1]
     refine tq 19 ?_ rfl (by kernel_rfl) (fun _ _ _ h => h) (by rfl) g2 ?_ ?_
     rotate_left
     · intro w9 h; (try dsimp only at h); go_simp; try with_reducible rfl
     try simp only [Act.put, ps, p0, p1]
     refine tq 20 ?_ rfl (by kernel_rfl) (fun _ _ _ h => h) (by rfl) g2 ?_ ?_
     rotate_left
     · intro w9 h; (try dsimp only at h); go_simp; try with_reducible rfl
     try simp only [Act.put, ps, p0, p1]
     refine tq 21 ?_ rfl (by kernel_rfl) (fun _ _ _ h => h) (by rfl) g2 ?_ ?_
     rotate_left
     · intro w9 h; (try dsimp only at h); go_simp; try with_reducible rfl
     try simp only [Act.put, ps, p0, p1]
     refine tc 22 rfl (by kernel_rfl) (fun K hK => ?_)
     go_simp
     (go_at_call 15; with_reducible refine (uin_to b n3 false HPB.out _).mono ?_; rintro e z3 ⟨rfl, qb⟩)
     refine hK.out _ _ (keep14 qb g2) (fun g3 => ?_)
     clear hK K qb g2
     try simp only [Act.put, ps, p0, p1]
     refine tq 23 ?_ rfl (by kernel_rfl) (fun _ _ _ h => h) (by rfl) g3 ?_ ?_
     rotate_left
     · intro w9 h; (try dsimp only at h); go_simp; try with_reducible rfl
     try simp only [Act.put, ps, p0, p1]
     refine tq 24 ?_ rfl (by kernel_rfl) (fun _ _ _ h => h) (by rfl) g3 ?_ ?_
     rotate_left
     · intro w9 h; (try dsimp only at h); go_simp; try with_reducible rfl
     try simp only [Act.put, ps, p0, p1]
     refine tu 25 rfl (by kernel_rfl) (fun _ _ _ h => h) (by rfl) g3 ?_
     try simp only [Act.put, ps, p0, p1]
     refine tu 26 rfl (by kernel_rfl) (fun _ _ _ h => h) (by rfl) g3 ?_
     try simp only [Act.put, ps, p0, p1]
     refine tu 27 rfl (by kernel_rfl) (fun _ _ _ h => h) (by rfl) g3 ?_
     try simp only [Act.put, ps, p0, p1]
     refine tu 28 rfl (by kernel_rfl) (fun _ _ _ h => h) (by rfl) g3 ?_
     try simp only [Act.put, ps, p0, p1]
     refine tq 29 ?_ rfl (by kernel_rfl) (fun _ _ _ h => h) (by rfl) g3 ?_ ?_
     rotate_left
     · intro w9 h; (try dsimp only at h); go_simp; try with_reducible rfl
     try simp only [Act.put, ps, p0, p1]
     refine tq 30 ?_ rfl (by kernel_rfl) (fun _ _ _ h => h) (by rfl) g3 ?_ ?_
     rotate_left
     · intro w9 h; (try dsimp only at h); go_simp; try with_reducible rfl
     try simp only [Act.put, ps, p0, p1]
     refine wpAnyH_done (by kernel_rfl) ?_ _
     go_wp2_with fail
     go_meet
     exact ⟨rfl, Lib.hid ⟨g3.1, g3.2.1, g3.2.2.1, g3.2.2.2.1, g3.2.2.2.2.1, g3.2.2.2.2.2.1, g3.2.2.2.2.2.2.1, g3.2.2.2.2.2.2.2.1, g3.2.2.2.2.2.2.2.2.1, g3.2.2.2.2.2.2.2.2.2.1, g3.2.2.2.2.2.2.2.2.2.2.1, g3.2.2.2.2.2.2.2.2.2.2.2.1, g3.2.2.2.2.2.2.2.2.2.2.2.2.1, g3.2.2.2.2.2.2.2.2.2.2.2.2.2.1⟩, Lib.hid g3.2.2.2.2.2.2.2.2.2.2.2.2.2.2⟩
    · as_aux_lemma =>
     have HPA := Lib.hid hpa
     have HPB := Lib.hid hpb
     have HIM := Lib.hid (show inE m n3 = false by rw [MI.out rfl, hpa, hpb]; rfl)
     clear hpa hpb
     refine wp_region_held_drew (S := fun w' => w'.cell? ⟨w.heap.size, 0, none⟩ = some (.int .u64 x0.lo) ∧ w'.cell? ⟨w.heap.size, 1, none⟩ = some (.int .u64 x0.hi) ∧ w'.cell? ⟨w.heap.size + 1, 0, none⟩ = some (.int .u64 x1.lo) ∧ w'.cell? ⟨w.heap.size + 1, 1, none⟩ = some (.int .u64 x1.hi) ∧ w'.cell? ⟨w1.heap.size, 0, none⟩ = some (.int .u64 a.lo) ∧ w'.cell? ⟨w1.heap.size, 1, none⟩ = some (.int .u64 a.hi) ∧ w'.cell? ⟨w1.heap.size + 1, 0, none⟩ = some (.int .u64 b.lo) ∧ w'.cell? ⟨w1.heap.size + 1, 1, none⟩ = some (.int .u64 b.hi) ∧ w'.cell? ⟨w2.heap.size, 0, none⟩ = some (.int .u64 c.lo) ∧ w'.cell? ⟨w2.heap.size, 1, none⟩ = some (.int .u64 c.hi) ∧ w'.cell? ⟨w3.heap.size, 0, none⟩ = some (.int .u64 m.lo) ∧ w'.cell? ⟨w3.heap.size, 1, none⟩ = some (.int .u64 m.hi) ∧ w'.cell? ⟨w4.heap.size, 0, none⟩ = some (.int .u64 j.lo) ∧ w'.cell? ⟨w4.heap.size, 1, none⟩ = some (.int .u64 j.hi) ∧ Below w.heap.size w w') (by kernel_rfl) ⟨cP0, cP1, cQ0, cQ1, cA0, cA1, cB0, cB1, cC0, cC1, cM0, cM1, cJ0, cJ1, HB.out.drew⟩ (fun g => ?_)
     refine tq 0 ?_ rfl (by kernel_rfl) (fun _ _ _ h => h) (by rfl) g ?_ ?_
     rotate_left
     · intro w9 h; (try dsimp only at h); go_simp; try with_reducible rfl
     try simp only [Act.put, ps, p0, p1]
     refine tq 1 ?_ rfl (by kernel_rfl) (fun _ _ _ h => h) (by rfl) g ?_ ?_
     rotate_left
     · intro w9 h; (try dsimp only at h); go_simp; try with_reducible rfl
     try simp only [Act.put, ps, p0, p1]
     refine tq 2 ?_ rfl (by kernel_rfl) (fun _ _ _ h => h) (by rfl) g ?_ ?_
     rotate_left
     · intro w9 h; (try dsimp only at h); go_simp; try with_reducible rfl
     try simp only [Act.put, ps, p0, p1]
     refine tq 3 ?_ rfl (by kernel_rfl) (fun _ _ _ h => h) (by rfl) g ?_ ?_
     rotate_left
     · intro w9 h; (try dsimp only at h); go_simp; try with_reducible rfl
     try simp only [Act.put, ps, p0, p1]
     refine tq 6 ?_ rfl (by kernel_rfl) (fun _ _ _ h => h) (by rfl) g ?_ ?_
     rotate_left
     · intro w9 h; (try dsimp only at h); go_simp; try with_reducible rfl
     try simp only [Act.put, ps, p0, p1]
     refine tq 7 ?_ rfl (by kernel_rfl) (fun _ _ _ h => h) (by rfl) g ?_ ?_
     rotate_left
     · intro w9 h; (try dsimp only at h); go_simp; try with_reducible rfl
     try simp only [Act.put, ps, p0, p1]
     refine tc 4 rfl (by kernel_rfl) (fun K hK => ?_)
     go_simp
     (go_at_call 15; with_reducible refine (uin_to m n3 false HIM.out _).mono ?_; rintro e z1 ⟨rfl, qb⟩)
     refine hK.out _ _ (keep14 qb g) (fun g1 => ?_)
     clear hK K qb
     try simp only [Act.put, ps, p0, p1]
     refine tq 5 ?_ rfl (by kernel_rfl) (fun _ _ _ h => h) (by rfl) g1 ?_ ?_
     rotate_left
     · intro w9 h; (try dsimp only at h); go_simp; try with_reducible rfl
     try simp only [Act.put, ps, p0, p1]
     refine tc 8 rfl (by kernel_rfl) (fun K hK => ?_)
     go_simp
     (go_at_call 15; with_reducible refine (uin_to a n3 false HPA.out _).mono ?_; rintro e z2 ⟨rfl, qb⟩)
     refine hK.out _ _ (keep14 qb g1) (fun g2 => ?_)
     clear hK K qb g1
     try simp only [Act.put, ps, p0, p1]
     refine tq 9 ?_ rfl (by kernel_rfl) (fun _ _ _ h => h) (by rfl) g2 ?_ ?_
     rotate_left
     · intro w9 h; (try dsimp only at h); go_simp; try with_reducible rfl
     try simp only [Act.put, ps, p0, p1]
     refine tu 10 rfl (by kernel_rfl) (fun _ _ _ h => h) (by rfl) g2 ?_
     try simp only [Act.put, ps, p0, p1]
     refine tu 11 rfl (by kernel_rfl) (fun _ _ _ h => h) (by rfl) g2 ?_
     try simp only [Act.put, ps, p0, p1]
     refine tu 12 rfl (by kernel_rfl) (fun _ _ _ h => h) (by rfl) g2 ?_
     try simp only [Act.put, ps, p0, p1]
     refine tq 13 ?_ rfl (by kernel_rfl) (fun _ _ _ h => h) (by rfl) g2 ?_ ?_
     rotate_left
     · intro w9 h; (try dsimp only at h); go_simp; try with_reducible rfl
     try simp only [Act.put, ps, p0, p1]
     refine tq 14 ?_ rfl (by kernel_rfl) (fun _ _ _ h => h) (by rfl) g2 ?_ ?_
     rotate_left
     · intro w9 h; (try dsimp only at h); go_simp; try with_reducible rfl
     try simp only [Act.put, ps, p0, p1]
     refine tq 15 ?_ rfl (by kernel_rfl) (fun _ _ _ h => h) (by rfl) g2 ?_ ?_
     rotate_left
     · intro w9 h; (try dsimp only at h); go_simp; try with_reducible rfl
     try simp only [Act.put, ps, p0, p1]
     refine tq 16 ?_ rfl (by kernel_rfl) (fun _ _ _ h => h) (by rfl) g2 ?_ ?_
     rotate_left
     · intro w9 h; (try dsimp only at h); go_simp; try with_reducible rfl
     try simp only [Act.put, ps, p0, p1]
     refine tq 17 ?_ rfl (by kernel_rfl) (fun _ _ _ h => h) (by rfl) g2 ?_ ?_
     rotate_left
     · intro w9 h; (try dsimp only at h); go_simp; try with_reducible rfl
     try simp only [Act.put, ps, p0, p1]
     refine tc 18 rfl (by kernel_rfl) (fun K hK => ?_)
     go_simp
     (go_at_call 15; with_reducible refine (uin_to a n3 false HPA.out _).mono ?_; rintro e z3 ⟨rfl, qb⟩)
     refine hK.out _ _ (keep14 qb g2) (fun g3 => ?_)
     clear hK K qb g2
     try simp only [Act.put, ps, p0, p1]
     refine tq 19 ?_ rfl (by kernel_rfl) (fun _ _ _ h => h) (by rfl) g3 ?_ ?_
     rotate_left
     · intro w9 h; (try dsimp only at h); go_simp; try with_reducible rfl
     try simp only [Act.put, ps, p0, p1]
     refine tq 20 ?_ rfl (by kernel_rfl) (fun _ _ _ h => h) (by rfl) g3 ?_ ?_
     rotate_left
     · intro w9 h; (try dsimp only at h); go_simp; try with_reducible rfl
     try simp only [Act.put, ps, p0, p1]
     refine tq 21 ?_ rfl (by kernel_rfl) (fun _ _ _ h => h) (by rfl) g3 ?_ ?_
     rotate_left
     · intro w9 h; (try dsimp only at h); go_simp; try with_reducible rfl
     try simp only [Act.put, ps, p0, p1]
     refine tc 22 rfl (by kernel_rfl) (fun K hK => ?_)
     go_simp
     (go_at_call 15; with_reducible refine (uin_to b n3 false HPB.out _).mono ?_; rintro e z4 ⟨rfl, qb⟩)
     refine hK.out _ _ (keep14 qb g3) (fun g4 => ?_)
     clear hK K qb g3
     try simp only [Act.put, ps, p0, p1]
     refine tq 23 ?_ rfl (by kernel_rfl) (fun _ _ _ h => h) (by rfl) g4 ?_ ?_
     rotate_left
     · intro w9 h; (try dsimp only at h); go_simp; try with_reducible rfl
     try simp only [Act.put, ps, p0, p1]
     refine tq 24 ?_ rfl (by kernel_rfl) (fun _ _ _ h => h) (by rfl) g4 ?_ ?_
     rotate_left
     · intro w9 h; (try dsimp only at h); go_simp; try with_reducible rfl
     try simp only [Act.put, ps, p0, p1]
     refine tu 25 rfl (by kernel_rfl) (fun _ _ _ h => h) (by rfl) g4 ?_
     try simp only [Act.put, ps, p0, p1]
     refine tu 26 rfl (by kernel_rfl) (fun _ _ _ h => h) (by rfl) g4 ?_
     try simp only [Act.put, ps, p0, p1]
     refine tu 27 rfl (by kernel_rfl) (fun _ _ _ h => h) (by rfl) g4 ?_
     try simp only [Act.put, ps, p0, p1]
     refine tu 28 rfl (by kernel_rfl) (fun _ _ _ h => h) (by rfl) g4 ?_
     try simp only [Act.put, ps, p0, p1]
     refine tq 29 ?_ rfl (by kernel_rfl) (fun _ _ _ h => h) (by rfl) g4 ?_ ?_
     rotate_left
     · intro w9 h; (try dsimp only at h); go_simp; try with_reducible rfl
     try simp only [Act.put, ps, p0, p1]
     refine tq 30 ?_ rfl (by kernel_rfl) (fun _ _ _ h => h) (by rfl) g4 ?_ ?_
     rotate_left
     · intro w9 h; (try dsimp only at h); go_simp; try with_reducible rfl
     try simp only [Act.put, ps, p0, p1]
     refine wpAnyH_done (by kernel_rfl) ?_ _
     go_wp2_with fail
     go_meet
     exact ⟨rfl, Lib.hid ⟨g4.1, g4.2.1, g4.2.2.1, g4.2.2.2.1, g4.2.2.2.2.1, g4.2.2.2.2.2.1, g4.2.2.2.2.2.2.1, g4.2.2.2.2.2.2.2.1, g4.2.2.2.2.2.2.2.2.1, g4.2.2.2.2.2.2.2.2.2.1, g4.2.2.2.2.2.2.2.2.2.2.1, g4.2.2.2.2.2.2.2.2.2.2.2.1, g4.2.2.2.2.2.2.2.2.2.2.2.2.1, g4.2.2.2.2.2.2.2.2.2.2.2.2.2.1⟩, Lib.hid g4.2.2.2.2.2.2.2.2.2.2.2.2.2.2⟩
    · as_aux_lemma =>
     have HPA := Lib.hid hpa
     have HPB := Lib.hid hpb
     have HPJ := Lib.hid (JI.out (Or.inr hpb))
     clear hpa hpb
     refine wp_region_held_drew (S := fun w' => w'.cell? ⟨w.heap.size, 0, none⟩ = some (.int .u64 x0.lo) ∧ w'.cell? ⟨w.heap.size, 1, none⟩ = some (.int .u64 x0.hi) ∧ w'.cell? ⟨w.heap.size + 1, 0, none⟩ = some (.int .u64 x1.lo) ∧ w'.cell? ⟨w.heap.size + 1, 1, none⟩ = some (.int .u64 x1.hi) ∧ w'.cell? ⟨w1.heap.size, 0, none⟩ = some (.int .u64 a.lo) ∧ w'.cell? ⟨w1.heap.size, 1, none⟩ = some (.int .u64 a.hi) ∧ w'.cell? ⟨w1.heap.size + 1, 0, none⟩ = some (.int .u64 b.lo) ∧ w'.cell? ⟨w1.heap.size + 1, 1, none⟩ = some (.int .u64 b.hi) ∧ w'.cell? ⟨w2.heap.size, 0, none⟩ = some (.int .u64 c.lo) ∧ w'.cell? ⟨w2.heap.size, 1, none⟩ = some (.int .u64 c.hi) ∧ w'.cell? ⟨w3.heap.size, 0, none⟩ = some (.int .u64 m.lo) ∧ w'.cell? ⟨w3.heap.size, 1, none⟩ = some (.int .u64 m.hi) ∧ w'.cell? ⟨w4.heap.size, 0, none⟩ = some (.int .u64 j.lo) ∧ w'.cell? ⟨w4.heap.size, 1, none⟩ = some (.int .u64 j.hi) ∧ Below w.heap.size w w') (by kernel_rfl) ⟨cP0, cP1, cQ0, cQ1, cA0, cA1, cB0, cB1, cC0, cC1, cM0, cM1, cJ0, cJ1, HB.out.drew⟩ (fun g => ?_)
     refine tq 0 ?_ rfl (by kernel_rfl) (fun _ _ _ h => h) (by rfl) g ?_ ?_
     rotate_left
     · intro w9 h; (try dsimp only at h); go_simp; try with_reducible rfl
     try simp only [Act.put, ps, p0, p1]
     refine tq 1 ?_ rfl (by kernel_rfl) (fun _ _ _ h => h) (by rfl) g ?_ ?_
     rotate_left
     · intro w9 h; (try dsimp only at h); go_simp; try with_reducible rfl
     try simp only [Act.put, ps, p0, p1]
     refine tu 2 rfl (by kernel_rfl) (fun _ _ _ h => h) (by rfl) g ?_
     try simp only [Act.put, ps, p0, p1]
     refine tu 3 rfl (by kernel_rfl) (fun _ _ _ h => h) (by rfl) g ?_
     try simp only [Act.put, ps, p0, p1]
     refine tu 4 rfl (by kernel_rfl) (fun _ _ _ h => h) (by rfl) g ?_
     try simp only [Act.put, ps, p0, p1]
     refine tq 5 ?_ rfl (by kernel_rfl) (fun _ _ _ h => h) (by rfl) g ?_ ?_
     rotate_left
     · intro w9 h; (try dsimp only at h); go_simp; try with_reducible rfl
     try simp only [Act.put, ps, p0, p1]
     refine tq 6 ?_ rfl (by kernel_rfl) (fun _ _ _ h => h) (by rfl) g ?_ ?_
     rotate_left
     · intro w9 h; (try dsimp only at h); go_simp; try with_reducible rfl
     try simp only [Act.put, ps, p0, p1]
     refine tq 7 ?_ rfl (by kernel_rfl) (fun _ _ _ h => h) (by rfl) g ?_ ?_
     rotate_left
     · intro w9 h; (try dsimp only at h); go_simp; try with_reducible rfl
     try simp only [Act.put, ps, p0, p1]
     refine tc 8 rfl (by kernel_rfl) (fun K hK => ?_)
     go_simp
     (go_at_call 15; with_reducible refine (uin_to a n3 false HPA.out _).mono ?_; rintro e z1 ⟨rfl, qb⟩)
     refine hK.out _ _ (keep14 qb g) (fun g1 => ?_)
     clear hK K qb
     try simp only [Act.put, ps, p0, p1]
     refine tq 9 ?_ rfl (by kernel_rfl) (fun _ _ _ h => h) (by rfl) g1 ?_ ?_
     rotate_left
     · intro w9 h; (try dsimp only at h); go_simp; try with_reducible rfl
     try simp only [Act.put, ps, p0, p1]
     refine tu 10 rfl (by kernel_rfl) (fun _ _ _ h => h) (by rfl) g1 ?_
     try simp only [Act.put, ps, p0, p1]
     refine tu 11 rfl (by kernel_rfl) (fun _ _ _ h => h) (by rfl) g1 ?_
     try simp only [Act.put, ps, p0, p1]
     refine tu 12 rfl (by kernel_rfl) (fun _ _ _ h => h) (by rfl) g1 ?_
     try simp only [Act.put, ps, p0, p1]
     refine tq 13 ?_ rfl (by kernel_rfl) (fun _ _ _ h => h) (by rfl) g1 ?_ ?_
     rotate_left
     · intro w9 h; (try dsimp only at h); go_simp; try with_reducible rfl
     try simp only [Act.put, ps, p0, p1]
     refine tq 14 ?_ rfl (by kernel_rfl) (fun _ _ _ h => h) (by rfl) g1 ?_ ?_
     rotate_left
     · intro w9 h; (try dsimp only at h); go_simp; try with_reducible rfl
     try simp only [Act.put, ps, p0, p1]
     refine tq 15 ?_ rfl (by kernel_rfl) (fun _ _ _ h => h) (by rfl) g1 ?_ ?_
     rotate_left
     · intro w9 h; (try dsimp only at h); go_simp; try with_reducible rfl
     try simp only [Act.put, ps, p0, p1]
     refine tq 16 ?_ rfl (by kernel_rfl) (fun _ _ _ h => h) (by rfl) g1 ?_ ?_
     rotate_left
     · intro w9 h; (try dsimp only at h); go_simp; try with_reducible rfl
     try simp only [Act.put, ps, p0, p1]
     refine tq 17 ?_ rfl (by kernel_rfl) (fun _ _ _ h => h) (by rfl) g1 ?_ ?_
     rotate_left
     · intro w9 h; (try dsimp only at h); go_simp; try with_reducible rfl
     try simp only [Act.put, ps, p0, p1]
     refine tc 18 rfl (by kernel_rfl) (fun K hK => ?_)
     go_simp
     (go_at_call 15; with_reducible refine (uin_to a n3 false HPA.out _).mono ?_; rintro e z2 ⟨rfl, qb⟩)
     refine hK.out _ _ (keep14 qb g1) (fun g2 => ?_)
     clear hK K qb g1
     try simp only [Act.put, ps, p0, p1]
     refine tq 19 ?_ rfl (by kernel_rfl) (fun _ _ _ h => h) (by rfl) g2 ?_ ?_
     rotate_left
     · intro w9 h; (try dsimp only at h); go_simp; try with_reducible rfl
     try simp only [Act.put, ps, p0, p1]
     refine tq 20 ?_ rfl (by kernel_rfl) (fun _ _ _ h => h) (by rfl) g2 ?_ ?_
     rotate_left
     · intro w9 h; (try dsimp only at h); go_simp; try with_reducible rfl
     try simp only [Act.put, ps, p0, p1]
     refine tq 21 ?_ rfl (by kernel_rfl) (fun _ _ _ h => h) (by rfl) g2 ?_ ?_
     rotate_left
     · intro w9 h; (try dsimp only at h); go_simp; try with_reducible rfl
     try simp only [Act.put, ps, p0, p1]
     refine tc 22 rfl (by kernel_rfl) (fun K hK => ?_)
     go_simp
     (go_at_call 15; with_reducible refine (uin_to b n3 true HPB.out _).mono ?_; rintro e z3 ⟨rfl, qb⟩)
     refine hK.out _ _ (keep14 qb g2) (fun g3 => ?_)
     clear hK K qb g2
     try simp only [Act.put, ps, p0, p1]
     refine tq 23 ?_ rfl (by kernel_rfl) (fun _ _ _ h => h) (by rfl) g3 ?_ ?_
     rotate_left
     · intro w9 h; (try dsimp only at h); go_simp; try with_reducible rfl
     try simp only [Act.put, ps, p0, p1]
     refine tq 24 ?_ rfl (by kernel_rfl) (fun _ _ _ h => h) (by rfl) g3 ?_ ?_
     rotate_left
     · intro w9 h; (try dsimp only at h); go_simp; try with_reducible rfl
     try simp only [Act.put, ps, p0, p1]
     refine tq 25 ?_ rfl (by kernel_rfl) (fun _ _ _ h => h) (by rfl) g3 ?_ ?_
     rotate_left
     · intro w9 h; (try dsimp only at h); go_simp; try with_reducible rfl
     try simp only [Act.put, ps, p0, p1]
     refine tq 26 ?_ rfl (by kernel_rfl) (fun _ _ _ h => h) (by rfl) g3 ?_ ?_
     rotate_left
     · intro w9 h; (try dsimp only at h); go_simp; try with_reducible rfl
     try simp only [Act.put, ps, p0, p1]
     refine tc 27 rfl (by kernel_rfl) (fun K hK => ?_)
     go_simp
     (go_at_call 15; with_reducible refine (uin_to j n3 true HPJ.out _).mono ?_; rintro e z4 ⟨rfl, qb⟩)
     refine hK.out _ _ (keep14 qb g3) (fun g4 => ?_)
     clear hK K qb g3
     try simp only [Act.put, ps, p0, p1]
     refine tq 28 ?_ rfl (by kernel_rfl) (fun _ _ _ h => h) (by rfl) g4 ?_ ?_
     rotate_left
     · intro w9 h; (try dsimp only at h); go_simp; try with_reducible rfl
     try simp only [Act.put, ps, p0, p1]
     refine tq 29 ?_ rfl (by kernel_rfl) (fun _ _ _ h => h) (by rfl) g4 ?_ ?_
     rotate_left
     · intro w9 h; (try dsimp only at h); go_simp; try with_reducible rfl
     try simp only [Act.put, ps, p0, p1]
     refine tq 30 ?_ rfl (by kernel_rfl) (fun _ _ _ h => h) (by rfl) g4 ?_ ?_
     rotate_left
     · intro w9 h; (try dsimp only at h); go_simp; try with_reducible rfl
     try simp only [Act.put, ps, p0, p1]
     refine wpAnyH_done (by kernel_rfl) ?_ _
     go_wp2_with fail
     go_meet
     exact ⟨rfl, Lib.hid ⟨g4.1, g4.2.1, g4.2.2.1, g4.2.2.2.1, g4.2.2.2.2.1, g4.2.2.2.2.2.1, g4.2.2.2.2.2.2.1, g4.2.2.2.2.2.2.2.1, g4.2.2.2.2.2.2.2.2.1, g4.2.2.2.2.2.2.2.2.2.1, g4.2.2.2.2.2.2.2.2.2.2.1, g4.2.2.2.2.2.2.2.2.2.2.2.1, g4.2.2.2.2.2.2.2.2.2.2.2.2.1, g4.2.2.2.2.2.2.2.2.2.2.2.2.2.1⟩, Lib.hid g4.2.2.2.2.2.2.2.2.2.2.2.2.2.2⟩
    · as_aux_lemma =>
     have HPA := Lib.hid hpa
     have HPB := Lib.hid hpb
     have HIM := Lib.hid (show inE m n3 = false by rw [MI.out rfl, hpa, hpb]; rfl)
     have HPJ := Lib.hid (JI.out (Or.inr hpb))
     clear hpa hpb
     refine wp_region_held_drew (S := fun w' => w'.cell? ⟨w.heap.size, 0, none⟩ = some (.int .u64 x0.lo) ∧ w'.cell? ⟨w.heap.size, 1, none⟩ = some (.int .u64 x0.hi) ∧ w'.cell? ⟨w.heap.size + 1, 0, none⟩ = some (.int .u64 x1.lo) ∧ w'.cell? ⟨w.heap.size + 1, 1, none⟩ = some (.int .u64 x1.hi) ∧ w'.cell? ⟨w1.heap.size, 0, none⟩ = some (.int .u64 a.lo) ∧ w'.cell? ⟨w1.heap.size, 1, none⟩ = some (.int .u64 a.hi) ∧ w'.cell? ⟨w1.heap.size + 1, 0, none⟩ = some (.int .u64 b.lo) ∧ w'.cell? ⟨w1.heap.size + 1, 1, none⟩ = some (.int .u64 b.hi) ∧ w'.cell? ⟨w2.heap.size, 0, none⟩ = some (.int .u64 c.lo) ∧ w'.cell? ⟨w2.heap.size, 1, none⟩ = some (.int .u64 c.hi) ∧ w'.cell? ⟨w3.heap.size, 0, none⟩ = some (.int .u64 m.lo) ∧ w'.cell? ⟨w3.heap.size, 1, none⟩ = some (.int .u64 m.hi) ∧ w'.cell? ⟨w4.heap.size, 0, none⟩ = some (.int .u64 j.lo) ∧ w'.cell? ⟨w4.heap.size, 1, none⟩ = some (.int .u64 j.hi) ∧ Below w.heap.size w w') (by kernel_rfl) ⟨cP0, cP1, cQ0, cQ1, cA0, cA1, cB0, cB1, cC0, cC1, cM0, cM1, cJ0, cJ1, HB.out.drew⟩ (fun g => ?_)
     refine tq 0 ?_ rfl (by kernel_rfl) (fun _ _ _ h => h) (by rfl) g ?_ ?_
     rotate_left
     · intro w9 h; (try dsimp only at h); go_simp; try with_reducible rfl
     try simp only [Act.put, ps, p0, p1]
     refine tq 1 ?_ rfl (by kernel_rfl) (fun _ _ _ h => h) (by rfl) g ?_ ?_
     rotate_left
     · intro w9 h; (try dsimp only at h); go_simp; try with_reducible rfl
     try simp only [Act.put, ps, p0, p1]
     refine tq 2 ?_ rfl (by kernel_rfl) (fun _ _ _ h => h) (by rfl) g ?_ ?_
     rotate_left
     · intro w9 h; (try dsimp only at h); go_simp; try with_reducible rfl
     try simp only [Act.put, ps, p0, p1]
     refine tq 3 ?_ rfl (by kernel_rfl) (fun _ _ _ h => h) (by rfl) g ?_ ?_
     rotate_left
     · intro w9 h; (try dsimp only at h); go_simp; try with_reducible rfl
     try simp only [Act.put, ps, p0, p1]
     refine tq 6 ?_ rfl (by kernel_rfl) (fun _ _ _ h => h) (by rfl) g ?_ ?_
     rotate_left
     · intro w9 h; (try dsimp only at h); go_simp; try with_reducible rfl
     try simp only [Act.put, ps, p0, p1]
     refine tq 7 ?_ rfl (by kernel_rfl) (fun _ _ _ h => h) (by rfl) g ?_ ?_
     rotate_left
     · intro w9 h; (try dsimp only at h); go_simp; try with_reducible rfl
     try simp only [Act.put, ps, p0, p1]
     refine tc 4 rfl (by kernel_rfl) (fun K hK => ?_)
     go_simp
     (go_at_call 15; with_reducible refine (uin_to m n3 false HIM.out _).mono ?_; rintro e z1 ⟨rfl, qb⟩)
     refine hK.out _ _ (keep14 qb g) (fun g1 => ?_)
     clear hK K qb
     try simp only [Act.put, ps, p0, p1]
     refine tq 5 ?_ rfl (by kernel_rfl) (fun _ _ _ h => h) (by rfl) g1 ?_ ?_
     rotate_left
     · intro w9 h; (try dsimp only at h); go_simp; try with_reducible rfl
     try simp only [Act.put, ps, p0, p1]
     refine tc 8 rfl (by kernel_rfl) (fun K hK => ?_)
     go_simp
     (go_at_call 15; with_reducible refine (uin_to a n3 false HPA.out _).mono ?_; rintro e z2 ⟨rfl, qb⟩)
     refine hK.out _ _ (keep14 qb g1) (fun g2 => ?_)
     clear hK K qb g1
     try simp only [Act.put, ps, p0, p1]
     refine tq 9 ?_ rfl (by kernel_rfl) (fun _ _ _ h => h) (by rfl) g2 ?_ ?_
     rotate_left
     · intro w9 h; (try dsimp only at h); go_simp; try with_reducible rfl
     try simp only [Act.put, ps, p0, p1]
     refine tu 10 rfl (by kernel_rfl) (fun _ _ _ h => h) (by rfl) g2 ?_
     try simp only [Act.put, ps, p0, p1]
     refine tu 11 rfl (by kernel_rfl) (fun _ _ _ h => h) (by rfl) g2 ?_
     try simp only [Act.put, ps, p0, p1]
     refine tu 12 rfl (by kernel_rfl) (fun _ _ _ h => h) (by rfl) g2 ?_
     try simp only [Act.put, ps, p0, p1]
     refine tq 13 ?_ rfl (by kernel_rfl) (fun _ _ _ h => h) (by rfl) g2 ?_ ?_
     rotate_left
     · intro w9 h; (try dsimp only at h); go_simp; try with_reducible rfl
     try simp only [Act.put, ps, p0, p1]
     refine tq 14 ?_ rfl (by kernel_rfl) (fun _ _ _ h => h) (by rfl) g2 ?_ ?_
     rotate_left
     · intro w9 h; (try dsimp only at h); go_simp; try with_reducible rfl
     try simp only [Act.put, ps, p0, p1]
     refine tq 15 ?_ rfl (by kernel_rfl) (fun _ _ _ h => h) (by rfl) g2 ?_ ?_
     rotate_left
     · intro w9 h; (try dsimp only at h); go_simp; try with_reducible rfl
     try simp only [Act.put, ps, p0, p1]
     refine tq 16 ?_ rfl (by kernel_rfl) (fun _ _ _ h => h) (by rfl) g2 ?_ ?_
     rotate_left
     · intro w9 h; (try dsimp only at h); go_simp; try with_reducible rfl
     try simp only [Act.put, ps, p0, p1]
     refine tq 17 ?_ rfl (by kernel_rfl) (fun _ _ _ h => h) (by rfl) g2 ?_ ?_
     rotate_left
     · intro w9 h; (try dsimp only at h); go_simp; try with_reducible rfl
     try simp only [Act.put, ps, p0, p1]
     refine tc 18 rfl (by kernel_rfl) (fun K hK => ?_)
     go_simp
     (go_at_call 15; with_reducible refine (uin_to a n3 false HPA.out _).mono ?_; rintro e z3 ⟨rfl, qb⟩)
     refine hK.out _ _ (keep14 qb g2) (fun g3 => ?_)
     clear hK K qb g2
     try simp only [Act.put, ps, p0, p1]
     refine tq 19 ?_ rfl (by kernel_rfl) (fun _ _ _ h => h) (by rfl) g3 ?_ ?_
     rotate_left
     · intro w9 h; (try dsimp only at h); go_simp; try with_reducible rfl
     try simp only [Act.put, ps, p0, p1]
     refine tq 20 ?_ rfl (by kernel_rfl) (fun _ _ _ h => h) (by rfl) g3 ?_ ?_
     rotate_left
     · intro w9 h; (try dsimp only at h); go_simp; try with_reducible rfl
     try simp only [Act.put, ps, p0, p1]
     refine tq 21 ?_ rfl (by kernel_rfl) (fun _ _ _ h => h) (by rfl) g3 ?_ ?_
     rotate_left
     · intro w9 h; (try dsimp only at h); go_simp; try with_reducible rfl
     try simp only [Act.put, ps, p0, p1]
     refine tc 22 rfl (by kernel_rfl) (fun K hK => ?_)
     go_simp
     (go_at_call 15; with_reducible refine (uin_to b n3 true HPB.out _).mono ?_; rintro e z4 ⟨rfl, qb⟩)
     refine hK.out _ _ (keep14 qb g3) (fun g4 => ?_)
     clear hK K qb g3
     try simp only [Act.put, ps, p0, p1]
     refine tq 23 ?_ rfl (by kernel_rfl) (fun _ _ _ h => h) (by rfl) g4 ?_ ?_
     rotate_left
     · intro w9 h; (try dsimp only at h); go_simp; try with_reducible rfl
     try simp only [Act.put, ps, p0, p1]
     refine tq 24 ?_ rfl (by kernel_rfl) (fun _ _ _ h => h) (by rfl) g4 ?_ ?_
     rotate_left
     · intro w9 h; (try dsimp only at h); go_simp; try with_reducible rfl
     try simp only [Act.put, ps, p0, p1]
     refine tq 25 ?_ rfl (by kernel_rfl) (fun _ _ _ h => h) (by rfl) g4 ?_ ?_
     rotate_left
     · intro w9 h; (try dsimp only at h); go_simp; try with_reducible rfl
     try simp only [Act.put, ps, p0, p1]
     refine tq 26 ?_ rfl (by kernel_rfl) (fun _ _ _ h => h) (by rfl) g4 ?_ ?_
     rotate_left
     · intro w9 h; (try dsimp only at h); go_simp; try with_reducible rfl
     try simp only [Act.put, ps, p0, p1]
     refine tc 27 rfl (by kernel_rfl) (fun K hK => ?_)
     go_simp
     (go_at_call 15; with_reducible refine (uin_to j n3 true HPJ.out _).mono ?_; rintro e z5 ⟨rfl, qb⟩)
     refine hK.out _ _ (keep14 qb g4) (fun g5 => ?_)
     clear hK K qb g4
     try simp only [Act.put, ps, p0, p1]
     refine tq 28 ?_ rfl (by kernel_rfl) (fun _ _ _ h => h) (by rfl) g5 ?_ ?_
     rotate_left
     · intro w9 h; (try dsimp only at h); go_simp; try with_reducible rfl
     try simp only [Act.put, ps, p0, p1]
     refine tq 29 ?_ rfl (by kernel_rfl) (fun _ _ _ h => h) (by rfl) g5 ?_ ?_
     rotate_left
     · intro w9 h; (try dsimp only at h); go_simp; try with_reducible rfl
     try simp only [Act.put, ps, p0, p1]
     refine tq 30 ?_ rfl (by kernel_rfl) (fun _ _ _ h => h) (by rfl) g5 ?_ ?_
     rotate_left
     · intro w9 h; (try dsimp only at h); go_simp; try with_reducible rfl
     try simp only [Act.put, ps, p0, p1]
     refine wpAnyH_done (by kernel_rfl) ?_ _
     go_wp2_with fail
     go_meet
     exact ⟨rfl, Lib.hid ⟨g5.1, g5.2.1, g5.2.2.1, g5.2.2.2.1, g5.2.2.2.2.1, g5.2.2.2.2.2.1, g5.2.2.2.2.2.2.1, g5.2.2.2.2.2.2.2.1, g5.2.2.2.2.2.2.2.2.1, g5.2.2.2.2.2.2.2.2.2.1, g5.2.2.2.2.2.2.2.2.2.2.1, g5.2.2.2.2.2.2.2.2.2.2.2.1, g5.2.2.2.2.2.2.2.2.2.2.2.2.1, g5.2.2.2.2.2.2.2.2.2.2.2.2.2.1⟩, Lib.hid g5.2.2.2.2.2.2.2.2.2.2.2.2.2.2⟩
    · as_aux_lemma =>
     have HPA := Lib.hid hpa
     have HPB := Lib.hid hpb
     have HPJ := Lib.hid (JI.out (Or.inl hpa))
     clear hpa hpb
     refine wp_region_held_drew (S := fun w' => w'.cell? ⟨w.heap.size, 0, none⟩ = some (.int .u64 x0.lo) ∧ w'.cell? ⟨w.heap.size, 1, none⟩ = some (.int .u64 x0.hi) ∧ w'.cell? ⟨w.heap.size + 1, 0, none⟩ = some (.int .u64 x1.lo) ∧ w'.cell? ⟨w.heap.size + 1, 1, none⟩ = some (.int .u64 x1.hi) ∧ w'.cell? ⟨w1.heap.size, 0, none⟩ = some (.int .u64 a.lo) ∧ w'.cell? ⟨w1.heap.size, 1, none⟩ = some (.int .u64 a.hi) ∧ w'.cell? ⟨w1.heap.size + 1, 0, none⟩ = some (.int .u64 b.lo) ∧ w'.cell? ⟨w1.heap.size + 1, 1, none⟩ = some (.int .u64 b.hi) ∧ w'.cell? ⟨w2.heap.size, 0, none⟩ = some (.int .u64 c.lo) ∧ w'.cell? ⟨w2.heap.size, 1, none⟩ = some (.int .u64 c.hi) ∧ w'.cell? ⟨w3.heap.size, 0, none⟩ = some (.int .u64 m.lo) ∧ w'.cell? ⟨w3.heap.size, 1, none⟩ = some (.int .u64 m.hi) ∧ w'.cell? ⟨w4.heap.size, 0, none⟩ = some (.int .u64 j.lo) ∧ w'.cell? ⟨w4.heap.size, 1, none⟩ = some (.int .u64 j.hi) ∧ Below w.heap.size w w') (by kernel_rfl) ⟨cP0, cP1, cQ0, cQ1, cA0, cA1, cB0, cB1, cC0, cC1, cM0, cM1, cJ0, cJ1, HB.out.drew⟩ (fun g => ?_)
     refine tq 0 ?_ rfl (by kernel_rfl) (fun _ _ _ h => h) (by rfl) g ?_ ?_
     rotate_left
     · intro w9 h; (try dsimp only at h); go_simp; try with_reducible rfl
     try simp only [Act.put, ps, p0, p1]
     refine tq 1 ?_ rfl (by kernel_rfl) (fun _ _ _ h => h) (by rfl) g ?_ ?_
     rotate_left
     · intro w9 h; (try dsimp only at h); go_simp; try with_reducible rfl
     try simp only [Act.put, ps, p0, p1]
     refine tu 2 rfl (by kernel_rfl) (fun _ _ _ h => h) (by rfl) g ?_
     try simp only [Act.put, ps, p0, p1]
     refine tu 3 rfl (by kernel_rfl) (fun _ _ _ h => h) (by rfl) g ?_
     try simp only [Act.put, ps, p0, p1]
     refine tu 4 rfl (by kernel_rfl) (fun _ _ _ h => h) (by rfl) g ?_
     try simp only [Act.put, ps, p0, p1]
     refine tq 5 ?_ rfl (by kernel_rfl) (fun _ _ _ h => h) (by rfl) g ?_ ?_
     rotate_left
     · intro w9 h; (try dsimp only at h); go_simp; try with_reducible rfl
     try simp only [Act.put, ps, p0, p1]
     refine tq 6 ?_ rfl (by kernel_rfl) (fun _ _ _ h => h) (by rfl) g ?_ ?_
     rotate_left
     · intro w9 h; (try dsimp only at h); go_simp; try with_reducible rfl
     try simp only [Act.put, ps, p0, p1]
     refine tq 7 ?_ rfl (by kernel_rfl) (fun _ _ _ h => h) (by rfl) g ?_ ?_
     rotate_left
     · intro w9 h; (try dsimp only at h); go_simp; try with_reducible rfl
     try simp only [Act.put, ps, p0, p1]
     refine tc 8 rfl (by kernel_rfl) (fun K hK => ?_)
     go_simp
     (go_at_call 15; with_reducible refine (uin_to a n3 true HPA.out _).mono ?_; rintro e z1 ⟨rfl, qb⟩)
     refine hK.out _ _ (keep14 qb g) (fun g1 => ?_)
     clear hK K qb
     try simp only [Act.put, ps, p0, p1]
     refine tq 9 ?_ rfl (by kernel_rfl) (fun _ _ _ h => h) (by rfl) g1 ?_ ?_
     rotate_left
     · intro w9 h; (try dsimp only at h); go_simp; try with_reducible rfl
     try simp only [Act.put, ps, p0, p1]
     refine tq 10 ?_ rfl (by kernel_rfl) (fun _ _ _ h => h) (by rfl) g1 ?_ ?_
     rotate_left
     · intro w9 h; (try dsimp only at h); go_simp; try with_reducible rfl
     try simp only [Act.put, ps, p0, p1]
     refine tq 11 ?_ rfl (by kernel_rfl) (fun _ _ _ h => h) (by rfl) g1 ?_ ?_
     rotate_left
     · intro w9 h; (try dsimp only at h); go_simp; try with_reducible rfl
     try simp only [Act.put, ps, p0, p1]
     refine tc 12 rfl (by kernel_rfl) (fun K hK => ?_)
     go_simp
     (go_at_call 15; with_reducible refine (uin_to b n3 false HPB.out _).mono ?_; rintro e z2 ⟨rfl, qb⟩)
     refine hK.out _ _ (keep14 qb g1) (fun g2 => ?_)
     clear hK K qb g1
     try simp only [Act.put, ps, p0, p1]
     refine tq 13 ?_ rfl (by kernel_rfl) (fun _ _ _ h => h) (by rfl) g2 ?_ ?_
     rotate_left
     · intro w9 h; (try dsimp only at h); go_simp; try with_reducible rfl
     try simp only [Act.put, ps, p0, p1]
     refine tq 14 ?_ rfl (by kernel_rfl) (fun _ _ _ h => h) (by rfl) g2 ?_ ?_
     rotate_left
     · intro w9 h; (try dsimp only at h); go_simp; try with_reducible rfl
     try simp only [Act.put, ps, p0, p1]
     refine tq 15 ?_ rfl (by kernel_rfl) (fun _ _ _ h => h) (by rfl) g2 ?_ ?_
     rotate_left
     · intro w9 h; (try dsimp only at h); go_simp; try with_reducible rfl
     try simp only [Act.put, ps, p0, p1]
     refine tq 16 ?_ rfl (by kernel_rfl) (fun _ _ _ h => h) (by rfl) g2 ?_ ?_
     rotate_left
     · intro w9 h; (try dsimp only at h); go_simp; try with_reducible rfl
     try simp only [Act.put, ps, p0, p1]
     refine tq 17 ?_ rfl (by kernel_rfl) (fun _ _ _ h => h) (by rfl) g2 ?_ ?_
     rotate_left
     · intro w9 h; (try dsimp only at h); go_simp; try with_reducible rfl
     try simp only [Act.put, ps, p0, p1]
     refine tc 18 rfl (by kernel_rfl) (fun K hK => ?_)
     go_simp
     (go_at_call 15; with_reducible refine (uin_to a n3 true HPA.out _).mono ?_; rintro e z3 ⟨rfl, qb⟩)
     refine hK.out _ _ (keep14 qb g2) (fun g3 => ?_)
     clear hK K qb g2
     try simp only [Act.put, ps, p0, p1]
     refine tq 19 ?_ rfl (by kernel_rfl) (fun _ _ _ h => h) (by rfl) g3 ?_ ?_
     rotate_left
     · intro w9 h; (try dsimp only at h); go_simp; try with_reducible rfl
     try simp only [Act.put, ps, p0, p1]
     refine tu 20 rfl (by kernel_rfl) (fun _ _ _ h => h) (by rfl) g3 ?_
     try simp only [Act.put, ps, p0, p1]
     refine tu 21 rfl (by kernel_rfl) (fun _ _ _ h => h) (by rfl) g3 ?_
     try simp only [Act.put, ps, p0, p1]
     refine tu 22 rfl (by kernel_rfl) (fun _ _ _ h => h) (by rfl) g3 ?_
     try simp only [Act.put, ps, p0, p1]
     refine tq 23 ?_ rfl (by kernel_rfl) (fun _ _ _ h => h) (by rfl) g3 ?_ ?_
     rotate_left
     · intro w9 h; (try dsimp only at h); go_simp; try with_reducible rfl
     try simp only [Act.put, ps, p0, p1]
     refine tq 24 ?_ rfl (by kernel_rfl) (fun _ _ _ h => h) (by rfl) g3 ?_ ?_
     rotate_left
     · intro w9 h; (try dsimp only at h); go_simp; try with_reducible rfl
     try simp only [Act.put, ps, p0, p1]
     refine tq 25 ?_ rfl (by kernel_rfl) (fun _ _ _ h => h) (by rfl) g3 ?_ ?_
     rotate_left
     · intro w9 h; (try dsimp only at h); go_simp; try with_reducible rfl
     try simp only [Act.put, ps, p0, p1]
     refine tq 26 ?_ rfl (by kernel_rfl) (fun _ _ _ h => h) (by rfl) g3 ?_ ?_
     rotate_left
     · intro w9 h; (try dsimp only at h); go_simp; try with_reducible rfl
     try simp only [Act.put, ps, p0, p1]
     refine tc 27 rfl (by kernel_rfl) (fun K hK => ?_)
     go_simp
     (go_at_call 15; with_reducible refine (uin_to j n3 true HPJ.out _).mono ?_; rintro e z4 ⟨rfl, qb⟩)
     refine hK.out _ _ (keep14 qb g3) (fun g4 => ?_)
     clear hK K qb g3
     try simp only [Act.put, ps, p0, p1]
     refine tq 28 ?_ rfl (by kernel_rfl) (fun _ _ _ h => h) (by rfl) g4 ?_ ?_
     rotate_left
     · intro w9 h; (try dsimp only at h); go_simp; try with_reducible rfl
     try simp only [Act.put, ps, p0, p1]
     refine tq 29 ?_ rfl (by kernel_rfl) (fun _ _ _ h => h) (by rfl) g4 ?_ ?_
     rotate_left
     · intro w9 h; (try dsimp only at h); go_simp; try with_reducible rfl
     try simp only [Act.put, ps, p0, p1]
     refine tq 30 ?_ rfl (by kernel_rfl) (fun _ _ _ h => h) (by rfl) g4 ?_ ?_
     rotate_left
     · intro w9 h; (try dsimp only at h); go_simp; try with_reducible rfl
     try simp only [Act.put, ps, p0, p1]
     refine wpAnyH_done (by kernel_rfl) ?_ _
     go_wp2_with fail
     go_meet
     exact ⟨rfl, Lib.hid ⟨g4.1, g4.2.1, g4.2.2.1, g4.2.2.2.1, g4.2.2.2.2.1, g4.2.2.2.2.2.1, g4.2.2.2.2.2.2.1, g4.2.2.2.2.2.2.2.1, g4.2.2.2.2.2.2.2.2.1, g4.2.2.2.2.2.2.2.2.2.1, g4.2.2.2.2.2.2.2.2.2.2.1, g4.2.2.2.2.2.2.2.2.2.2.2.1, g4.2.2.2.2.2.2.2.2.2.2.2.2.1, g4.2.2.2.2.2.2.2.2.2.2.2.2.2.1⟩, Lib.hid g4.2.2.2.2.2.2.2.2.2.2.2.2.2.2⟩
    · as_aux_lemma =>
     have HPA := Lib.hid hpa
     have HPB := Lib.hid hpb
     have HIM := Lib.hid (show inE m n3 = false by rw [MI.out rfl, hpa, hpb]; rfl)
     have HPJ := Lib.hid (JI.out (Or.inl hpa))
     clear hpa hpb
     refine wp_region_held_drew (S := fun w' => w'.cell? ⟨w.heap.size, 0, none⟩ = some (.int .u64 x0.lo) ∧ w'.cell? ⟨w.heap.size, 1, none⟩ = some (.int .u64 x0.hi) ∧ w'.cell? ⟨w.heap.size + 1, 0, none⟩ = some (.int .u64 x1.lo) ∧ w'.cell? ⟨w.heap.size + 1, 1, none⟩ = some (.int .u64 x1.hi) ∧ w'.cell? ⟨w1.heap.size, 0, none⟩ = some (.int .u64 a.lo) ∧ w'.cell? ⟨w1.heap.size, 1, none⟩ = some (.int .u64 a.hi) ∧ w'.cell? ⟨w1.heap.size + 1, 0, none⟩ = some (.int .u64 b.lo) ∧ w'.cell? ⟨w1.heap.size + 1, 1, none⟩ = some (.int .u64 b.hi) ∧ w'.cell? ⟨w2.heap.size, 0, none⟩ = some (.int .u64 c.lo) ∧ w'.cell? ⟨w2.heap.size, 1, none⟩ = some (.int .u64 c.hi) ∧ w'.cell? ⟨w3.heap.size, 0, none⟩ = some (.int .u64 m.lo) ∧ w'.cell? ⟨w3.heap.size, 1, none⟩ = some (.int .u64 m.hi) ∧ w'.cell? ⟨w4.heap.size, 0, none⟩ = some (.int .u64 j.lo) ∧ w'.cell? ⟨w4.heap.size, 1, none⟩ = some (.int .u64 j.hi) ∧ Below w.heap.size w w') (by kernel_rfl) ⟨cP0, cP1, cQ0, cQ1, cA0, cA1, cB0, cB1, cC0, cC1, cM0, cM1, cJ0, cJ1, HB.out.drew⟩ (fun g => ?_)
     refine tq 0 ?_ rfl (by kernel_rfl) (fun _ _ _ h => h) (by rfl) g ?_ ?_
     rotate_left
     · intro w9 h; (try dsimp only at h); go_simp; try with_reducible rfl
     try simp only [Act.put, ps, p0, p1]
     refine tq 1 ?_ rfl (by kernel_rfl) (fun _ _ _ h => h) (by rfl) g ?_ ?_
     rotate_left
     · intro w9 h; (try dsimp only at h); go_simp; try with_reducible rfl
     try simp only [Act.put, ps, p0, p1]
     refine tq 2 ?_ rfl (by kernel_rfl) (fun _ _ _ h => h) (by rfl) g ?_ ?_
     rotate_left
     · intro w9 h; (try dsimp only at h); go_simp; try with_reducible rfl
     try simp only [Act.put, ps, p0, p1]
     refine tq 3 ?_ rfl (by kernel_rfl) (fun _ _ _ h => h) (by rfl) g ?_ ?_
     rotate_left
     · intro w9 h; (try dsimp only at h); go_simp; try with_reducible rfl
     try simp only [Act.put, ps, p0, p1]
     refine tq 6 ?_ rfl (by kernel_rfl) (fun _ _ _ h => h) (by rfl) g ?_ ?_
     rotate_left
     · intro w9 h; (try dsimp only at h); go_simp; try with_reducible rfl
     try simp only [Act.put, ps, p0, p1]
     refine tq 7 ?_ rfl (by kernel_rfl) (fun _ _ _ h => h) (by rfl) g ?_ ?_
     rotate_left
     · intro w9 h; (try dsimp only at h); go_simp; try with_reducible rfl
     try simp only [Act.put, ps, p0, p1]
     refine tc 4 rfl (by kernel_rfl) (fun K hK => ?_)
     go_simp
     (go_at_call 15; with_reducible refine (uin_to m n3 false HIM.out _).mono ?_; rintro e z1 ⟨rfl, qb⟩)
     refine hK.out _ _ (keep14 qb g) (fun g1 => ?_)
     clear hK K qb
     try simp only [Act.put, ps, p0, p1]
     refine tq 5 ?_ rfl (by kernel_rfl) (fun _ _ _ h => h) (by rfl) g1 ?_ ?_
     rotate_left
     · intro w9 h; (try dsimp only at h); go_simp; try with_reducible rfl
     try simp only [Act.put, ps, p0, p1]
     refine tc 8 rfl (by kernel_rfl) (fun K hK => ?_)
     go_simp
     (go_at_call 15; with_reducible refine (uin_to a n3 true HPA.out _).mono ?_; rintro e z2 ⟨rfl, qb⟩)
     refine hK.out _ _ (keep14 qb g1) (fun g2 => ?_)
     clear hK K qb g1
     try simp only [Act.put, ps, p0, p1]
     refine tq 9 ?_ rfl (by kernel_rfl) (fun _ _ _ h => h) (by rfl) g2 ?_ ?_
     rotate_left
     · intro w9 h; (try dsimp only at h); go_simp; try with_reducible rfl
     try simp only [Act.put, ps, p0, p1]
     refine tq 10 ?_ rfl (by kernel_rfl) (fun _ _ _ h => h) (by rfl) g2 ?_ ?_
     rotate_left
     · intro w9 h; (try dsimp only at h); go_simp; try with_reducible rfl
     try simp only [Act.put, ps, p0, p1]
     refine tq 11 ?_ rfl (by kernel_rfl) (fun _ _ _ h => h) (by rfl) g2 ?_ ?_
     rotate_left
     · intro w9 h; (try dsimp only at h); go_simp; try with_reducible rfl
     try simp only [Act.put, ps, p0, p1]
     refine tc 12 rfl (by kernel_rfl) (fun K hK => ?_)
     go_simp
     (go_at_call 15; with_reducible refine (uin_to b n3 false HPB.out _).mono ?_; rintro e z3 ⟨rfl, qb⟩)
     refine hK.out _ _ (keep14 qb g2) (fun g3 => ?_)
     clear hK K qb g2
     try simp only [Act.put, ps, p0, p1]
     refine tq 13 ?_ rfl (by kernel_rfl) (fun _ _ _ h => h) (by rfl) g3 ?_ ?_
     rotate_left
     · intro w9 h; (try dsimp only at h); go_simp; try with_reducible rfl
     try simp only [Act.put, ps, p0, p1]
     refine tq 14 ?_ rfl (by kernel_rfl) (fun _ _ _ h => h) (by rfl) g3 ?_ ?_
     rotate_left
     · intro w9 h; (try dsimp only at h); go_simp; try with_reducible rfl
     try simp only [Act.put, ps, p0, p1]
     refine tq 15 ?_ rfl (by kernel_rfl) (fun _ _ _ h => h) (by rfl) g3 ?_ ?_
     rotate_left
     · intro w9 h; (try dsimp only at h); go_simp; try with_reducible rfl
     try simp only [Act.put, ps, p0, p1]
     refine tq 16 ?_ rfl (by kernel_rfl) (fun _ _ _ h => h) (by rfl) g3 ?_ ?_
     rotate_left
     · intro w9 h; (try dsimp only at h); go_simp; try with_reducible rfl
     try simp only [Act.put, ps, p0, p1]
     refine tq 17 ?_ rfl (by kernel_rfl) (fun _ _ _ h => h) (by rfl) g3 ?_ ?_
     rotate_left
     · intro w9 h; (try dsimp only at h); go_simp; try with_reducible rfl
     try simp only [Act.put, ps, p0, p1]
     refine tc 18 rfl (by kernel_rfl) (fun K hK => ?_)
     go_simp
     (go_at_call 15; with_reducible refine (uin_to a n3 true HPA.out _).mono ?_; rintro e z4 ⟨rfl, qb⟩)
     refine hK.out _ _ (keep14 qb g3) (fun g4 => ?_)
     clear hK K qb g3
     try simp only [Act.put, ps, p0, p1]
     refine tq 19 ?_ rfl (by kernel_rfl) (fun _ _ _ h => h) (by rfl) g4 ?_ ?_
     rotate_left
     · intro w9 h; (try dsimp only at h); go_simp; try with_reducible rfl
     try simp only [Act.put, ps, p0, p1]
     refine tu 20 rfl (by kernel_rfl) (fun _ _ _ h => h) (by rfl) g4 ?_
     try simp only [Act.put, ps, p0, p1]
     refine tu 21 rfl (by kernel_rfl) (fun _ _ _ h => h) (by rfl) g4 ?_
     try simp only [Act.put, ps, p0, p1]
     refine tu 22 rfl (by kernel_rfl) (fun _ _ _ h => h) (by rfl) g4 ?_
     try simp only [Act.put, ps, p0, p1]
     refine tq 23 ?_ rfl (by kernel_rfl) (fun _ _ _ h => h) (by rfl) g4 ?_ ?_
     rotate_left
     · intro w9 h; (try dsimp only at h); go_simp; try with_reducible rfl
     try simp only [Act.put, ps, p0, p1]
     refine tq 24 ?_ rfl (by kernel_rfl) (fun _ _ _ h => h) (by rfl) g4 ?_ ?_
     rotate_left
     · intro w9 h; (try dsimp only at h); go_simp; try with_reducible rfl
     try simp only [Act.put, ps, p0, p1]
     refine tq 25 ?_ rfl (by kernel_rfl) (fun _ _ _ h => h) (by rfl) g4 ?_ ?_
     rotate_left
     · intro w9 h; (try dsimp only at h); go_simp; try with_reducible rfl
     try simp only [Act.put, ps, p0, p1]
     refine tq 26 ?_ rfl (by kernel_rfl) (fun _ _ _ h => h) (by rfl) g4 ?_ ?_
     rotate_left
     · intro w9 h; (try dsimp only at h); go_simp; try with_reducible rfl
     try simp only [Act.put, ps, p0, p1]
     refine tc 27 rfl (by kernel_rfl) (fun K hK => ?_)
     go_simp
     (go_at_call 15; with_reducible refine (uin_to j n3 true HPJ.out _).mono ?_; rintro e z5 ⟨rfl, qb⟩)
     refine hK.out _ _ (keep14 qb g4) (fun g5 => ?_)
     clear hK K qb g4
     try simp only [Act.put, ps, p0, p1]
     refine tq 28 ?_ rfl (by kernel_rfl) (fun _ _ _ h => h) (by rfl) g5 ?_ ?_
     rotate_left
     · intro w9 h; (try dsimp only at h); go_simp; try with_reducible rfl
     try simp only [Act.put, ps, p0, p1]
     refine tq 29 ?_ rfl (by kernel_rfl) (fun _ _ _ h => h) (by rfl) g5 ?_ ?_
     rotate_left
     · intro w9 h; (try dsimp only at h); go_simp; try with_reducible rfl
     try simp only [Act.put, ps, p0, p1]
     refine tq 30 ?_ rfl (by kernel_rfl) (fun _ _ _ h => h) (by rfl) g5 ?_ ?_
     rotate_left
     · intro w9 h; (try dsimp only at h); go_simp; try with_reducible rfl
     try simp only [Act.put, ps, p0, p1]
     refine wpAnyH_done (by kernel_rfl) ?_ _
     go_wp2_with fail
     go_meet
     exact ⟨rfl, Lib.hid ⟨g5.1, g5.2.1, g5.2.2.1, g5.2.2.2.1, g5.2.2.2.2.1, g5.2.2.2.2.2.1, g5.2.2.2.2.2.2.1, g5.2.2.2.2.2.2.2.1, g5.2.2.2.2.2.2.2.2.1, g5.2.2.2.2.2.2.2.2.2.1, g5.2.2.2.2.2.2.2.2.2.2.1, g5.2.2.2.2.2.2.2.2.2.2.2.1, g5.2.2.2.2.2.2.2.2.2.2.2.2.1, g5.2.2.2.2.2.2.2.2.2.2.2.2.2.1⟩, Lib.hid g5.2.2.2.2.2.2.2.2.2.2.2.2.2.2⟩
    · exact absurd ((MN.out rfl hpa).symm.trans hpb) (by decide)
    · as_aux_lemma =>
     have HPA := Lib.hid hpa
     have HPB := Lib.hid hpb
     have HIM := Lib.hid (show inE m n3 = true by rw [MI.out rfl, hpa, hpb]; rfl)
     have HPJ := Lib.hid (JI.out (Or.inl hpa))
     clear hpa hpb
     refine wp_region_held_drew (S := fun w' => w'.cell? ⟨w.heap.size, 0, none⟩ = some (.int .u64 x0.lo) ∧ w'.cell? ⟨w.heap.size, 1, none⟩ = some (.int .u64 x0.hi) ∧ w'.cell? ⟨w.heap.size + 1, 0, none⟩ = some (.int .u64 x1.lo) ∧ w'.cell? ⟨w.heap.size + 1, 1, none⟩ = some (.int .u64 x1.hi) ∧ w'.cell? ⟨w1.heap.size, 0, none⟩ = some (.int .u64 a.lo) ∧ w'.cell? ⟨w1.heap.size, 1, none⟩ = some (.int .u64 a.hi) ∧ w'.cell? ⟨w1.heap.size + 1, 0, none⟩ = some (.int .u64 b.lo) ∧ w'.cell? ⟨w1.heap.size + 1, 1, none⟩ = some (.int .u64 b.hi) ∧ w'.cell? ⟨w2.heap.size, 0, none⟩ = some (.int .u64 c.lo) ∧ w'.cell? ⟨w2.heap.size, 1, none⟩ = some (.int .u64 c.hi) ∧ w'.cell? ⟨w3.heap.size, 0, none⟩ = some (.int .u64 m.lo) ∧ w'.cell? ⟨w3.heap.size, 1, none⟩ = some (.int .u64 m.hi) ∧ w'.cell? ⟨w4.heap.size, 0, none⟩ = some (.int .u64 j.lo) ∧ w'.cell? ⟨w4.heap.size, 1, none⟩ = some (.int .u64 j.hi) ∧ Below w.heap.size w w') (by kernel_rfl) ⟨cP0, cP1, cQ0, cQ1, cA0, cA1, cB0, cB1, cC0, cC1, cM0, cM1, cJ0, cJ1, HB.out.drew⟩ (fun g => ?_)
     refine tq 0 ?_ rfl (by kernel_rfl) (fun _ _ _ h => h) (by rfl) g ?_ ?_
     rotate_left
     · intro w9 h; (try dsimp only at h); go_simp; try with_reducible rfl
     try simp only [Act.put, ps, p0, p1]
     refine tq 1 ?_ rfl (by kernel_rfl) (fun _ _ _ h => h) (by rfl) g ?_ ?_
     rotate_left
     · intro w9 h; (try dsimp only at h); go_simp; try with_reducible rfl
     try simp only [Act.put, ps, p0, p1]
     refine tq 2 ?_ rfl (by kernel_rfl) (fun _ _ _ h => h) (by rfl) g ?_ ?_
     rotate_left
     · intro w9 h; (try dsimp only at h); go_simp; try with_reducible rfl
     try simp only [Act.put, ps, p0, p1]
     refine tq 3 ?_ rfl (by kernel_rfl) (fun _ _ _ h => h) (by rfl) g ?_ ?_
     rotate_left
     · intro w9 h; (try dsimp only at h); go_simp; try with_reducible rfl
     try simp only [Act.put, ps, p0, p1]
     refine tq 6 ?_ rfl (by kernel_rfl) (fun _ _ _ h => h) (by rfl) g ?_ ?_
     rotate_left
     · intro w9 h; (try dsimp only at h); go_simp; try with_reducible rfl
     try simp only [Act.put, ps, p0, p1]
     refine tq 7 ?_ rfl (by kernel_rfl) (fun _ _ _ h => h) (by rfl) g ?_ ?_
     rotate_left
     · intro w9 h; (try dsimp only at h); go_simp; try with_reducible rfl
     try simp only [Act.put, ps, p0, p1]
     refine tc 4 rfl (by kernel_rfl) (fun K hK => ?_)
     go_simp
     (go_at_call 15; with_reducible refine (uin_to m n3 true HIM.out _).mono ?_; rintro e z1 ⟨rfl, qb⟩)
     refine hK.out _ _ (keep14 qb g) (fun g1 => ?_)
     clear hK K qb
     try simp only [Act.put, ps, p0, p1]
     refine tq 5 ?_ rfl (by kernel_rfl) (fun _ _ _ h => h) (by rfl) g1 ?_ ?_
     rotate_left
     · intro w9 h; (try dsimp only at h); go_simp; try with_reducible rfl
     try simp only [Act.put, ps, p0, p1]
     refine tc 8 rfl (by kernel_rfl) (fun K hK => ?_)
     go_simp
     (go_at_call 15; with_reducible refine (uin_to a n3 true HPA.out _).mono ?_; rintro e z2 ⟨rfl, qb⟩)
     refine hK.out _ _ (keep14 qb g1) (fun g2 => ?_)
     clear hK K qb g1
     try simp only [Act.put, ps, p0, p1]
     refine tq 9 ?_ rfl (by kernel_rfl) (fun _ _ _ h => h) (by rfl) g2 ?_ ?_
     rotate_left
     · intro w9 h; (try dsimp only at h); go_simp; try with_reducible rfl
     try simp only [Act.put, ps, p0, p1]
     refine tq 10 ?_ rfl (by kernel_rfl) (fun _ _ _ h => h) (by rfl) g2 ?_ ?_
     rotate_left
     · intro w9 h; (try dsimp only at h); go_simp; try with_reducible rfl
     try simp only [Act.put, ps, p0, p1]
     refine tq 11 ?_ rfl (by kernel_rfl) (fun _ _ _ h => h) (by rfl) g2 ?_ ?_
     rotate_left
     · intro w9 h; (try dsimp only at h); go_simp; try with_reducible rfl
     try simp only [Act.put, ps, p0, p1]
     refine tc 12 rfl (by kernel_rfl) (fun K hK => ?_)
     go_simp
     (go_at_call 15; with_reducible refine (uin_to b n3 true HPB.out _).mono ?_; rintro e z3 ⟨rfl, qb⟩)
     refine hK.out _ _ (keep14 qb g2) (fun g3 => ?_)
     clear hK K qb g2
     try simp only [Act.put, ps, p0, p1]
     refine tq 13 ?_ rfl (by kernel_rfl) (fun _ _ _ h => h) (by rfl) g3 ?_ ?_
     rotate_left
     · intro w9 h; (try dsimp only at h); go_simp; try with_reducible rfl
     try simp only [Act.put, ps, p0, p1]
     refine tq 14 ?_ rfl (by kernel_rfl) (fun _ _ _ h => h) (by rfl) g3 ?_ ?_
     rotate_left
     · intro w9 h; (try dsimp only at h); go_simp; try with_reducible rfl
     try simp only [Act.put, ps, p0, p1]
     refine tq 15 ?_ rfl (by kernel_rfl) (fun _ _ _ h => h) (by rfl) g3 ?_ ?_
     rotate_left
     · intro w9 h; (try dsimp only at h); go_simp; try with_reducible rfl
     try simp only [Act.put, ps, p0, p1]
     refine tq 16 ?_ rfl (by kernel_rfl) (fun _ _ _ h => h) (by rfl) g3 ?_ ?_
     rotate_left
     · intro w9 h; (try dsimp only at h); go_simp; try with_reducible rfl
     try simp only [Act.put, ps, p0, p1]
     refine tq 17 ?_ rfl (by kernel_rfl) (fun _ _ _ h => h) (by rfl) g3 ?_ ?_
     rotate_left
     · intro w9 h; (try dsimp only at h); go_simp; try with_reducible rfl
     try simp only [Act.put, ps, p0, p1]
     refine tc 18 rfl (by kernel_rfl) (fun K hK => ?_)
     go_simp
     (go_at_call 15; with_reducible refine (uin_to a n3 true HPA.out _).mono ?_; rintro e z4 ⟨rfl, qb⟩)
     refine hK.out _ _ (keep14 qb g3) (fun g4 => ?_)
     clear hK K qb g3
     try simp only [Act.put, ps, p0, p1]
     refine tq 19 ?_ rfl (by kernel_rfl) (fun _ _ _ h => h) (by rfl) g4 ?_ ?_
     rotate_left
     · intro w9 h; (try dsimp only at h); go_simp; try with_reducible rfl
     try simp only [Act.put, ps, p0, p1]
     refine tu 20 rfl (by kernel_rfl) (fun _ _ _ h => h) (by rfl) g4 ?_
     try simp only [Act.put, ps, p0, p1]
     refine tu 21 rfl (by kernel_rfl) (fun _ _ _ h => h) (by rfl) g4 ?_
     try simp only [Act.put, ps, p0, p1]
     refine tu 22 rfl (by kernel_rfl) (fun _ _ _ h => h) (by rfl) g4 ?_
     try simp only [Act.put, ps, p0, p1]
     refine tq 23 ?_ rfl (by kernel_rfl) (fun _ _ _ h => h) (by rfl) g4 ?_ ?_
     rotate_left
     · intro w9 h; (try dsimp only at h); go_simp; try with_reducible rfl
     try simp only [Act.put, ps, p0, p1]
     refine tq 24 ?_ rfl (by kernel_rfl) (fun _ _ _ h => h) (by rfl) g4 ?_ ?_
     rotate_left
     · intro w9 h; (try dsimp only at h); go_simp; try with_reducible rfl
     try simp only [Act.put, ps, p0, p1]
     refine tq 25 ?_ rfl (by kernel_rfl) (fun _ _ _ h => h) (by rfl) g4 ?_ ?_
     rotate_left
     · intro w9 h; (try dsimp only at h); go_simp; try with_reducible rfl
     try simp only [Act.put, ps, p0, p1]
     refine tq 26 ?_ rfl (by kernel_rfl) (fun _ _ _ h => h) (by rfl) g4 ?_ ?_
     rotate_left
     · intro w9 h; (try dsimp only at h); go_simp; try with_reducible rfl
     try simp only [Act.put, ps, p0, p1]
     refine tc 27 rfl (by kernel_rfl) (fun K hK => ?_)
     go_simp
     (go_at_call 15; with_reducible refine (uin_to j n3 true HPJ.out _).mono ?_; rintro e z5 ⟨rfl, qb⟩)
     refine hK.out _ _ (keep14 qb g4) (fun g5 => ?_)
     clear hK K qb g4
     try simp only [Act.put, ps, p0, p1]
     refine tq 28 ?_ rfl (by kernel_rfl) (fun _ _ _ h => h) (by rfl) g5 ?_ ?_
     rotate_left
     · intro w9 h; (try dsimp only at h); go_simp; try with_reducible rfl
     try simp only [Act.put, ps, p0, p1]
     refine tq 29 ?_ rfl (by kernel_rfl) (fun _ _ _ h => h) (by rfl) g5 ?_ ?_
     rotate_left
     · intro w9 h; (try dsimp only at h); go_simp; try with_reducible rfl
     try simp only [Act.put, ps, p0, p1]
     refine tq 30 ?_ rfl (by kernel_rfl) (fun _ _ _ h => h) (by rfl) g5 ?_ ?_
     rotate_left
     · intro w9 h; (try dsimp only at h); go_simp; try with_reducible rfl
     try simp only [Act.put, ps, p0, p1]
     refine wpAnyH_done (by kernel_rfl) ?_ _
     go_wp2_with fail
     go_meet
     exact ⟨rfl, Lib.hid ⟨g5.1, g5.2.1, g5.2.2.1, g5.2.2.2.1, g5.2.2.2.2.1, g5.2.2.2.2.2.1, g5.2.2.2.2.2.2.1, g5.2.2.2.2.2.2.2.1, g5.2.2.2.2.2.2.2.2.1, g5.2.2.2.2.2.2.2.2.2.1, g5.2.2.2.2.2.2.2.2.2.2.1, g5.2.2.2.2.2.2.2.2.2.2.2.1, g5.2.2.2.2.2.2.2.2.2.2.2.2.1, g5.2.2.2.2.2.2.2.2.2.2.2.2.2.1⟩, Lib.hid g5.2.2.2.2.2.2.2.2.2.2.2.2.2.2⟩
  case rest =>
    clear HB cP0 cP1 cQ0 cQ1 cA0 cA1 cB0 cB1 cC0 cC1 cM0 cM1 cJ0 cJ1 P Q A B C M J MI MN JI
    obtain ⟨rfl, HC, HB⟩ := hcut
    obtain ⟨cP0, cP1, cQ0, cQ1, cA0, cA1, cB0, cB1, cC0, cC1, cM0, cM1, cJ0, cJ1⟩ := HC.out
    clear HC
    go_upto_region 7 with (fail)
    go_cut [113] (fun s113 wx => s113 = .bool false ∧ Hid (wx.cell? ⟨w.heap.size, 0, none⟩ = some (.int .u64 x0.lo) ∧ wx.cell? ⟨w.heap.size, 1, none⟩ = some (.int .u64 x0.hi) ∧ wx.cell? ⟨w.heap.size + 1, 0, none⟩ = some (.int .u64 x1.lo) ∧ wx.cell? ⟨w.heap.size + 1, 1, none⟩ = some (.int .u64 x1.hi) ∧ wx.cell? ⟨w1.heap.size, 0, none⟩ = some (.int .u64 a.lo) ∧ wx.cell? ⟨w1.heap.size, 1, none⟩ = some (.int .u64 a.hi) ∧ wx.cell? ⟨w1.heap.size + 1, 0, none⟩ = some (.int .u64 b.lo) ∧ wx.cell? ⟨w1.heap.size + 1, 1, none⟩ = some (.int .u64 b.hi) ∧ wx.cell? ⟨w2.heap.size, 0, none⟩ = some (.int .u64 c.lo) ∧ wx.cell? ⟨w2.heap.size, 1, none⟩ = some (.int .u64 c.hi) ∧ wx.cell? ⟨w4.heap.size, 0, none⟩ = some (.int .u64 j.lo) ∧ wx.cell? ⟨w4.heap.size, 1, none⟩ = some (.int .u64 j.hi)) ∧ Hid (Below w.heap.size w wx))
    case first =>
      cases hab : withE a b <;> cases hpa : inE a n3 <;> cases o
      · have HAB := Lib.hid hab
        have HPA := Lib.hid hpa
        clear hab hpa
        go_wp2_with fail
        with_reducible refine (uwith_to a b false HAB.out _).mono ?_
        rintro e w5 ⟨rfl, qb⟩
        replace cP0 := keep1 qb cP0
        replace cP1 := keep1 qb cP1
        replace cQ0 := keep1 qb cQ0
        replace cQ1 := keep1 qb cQ1
        replace cA0 := keep1 qb cA0
        replace cA1 := keep1 qb cA1
        replace cB0 := keep1 qb cB0
        replace cB1 := keep1 qb cB1
        replace cC0 := keep1 qb cC0
        replace cC1 := keep1 qb cC1
        replace cM0 := keep1 qb cM0
        replace cM1 := keep1 qb cM1
        replace cJ0 := keep1 qb cJ0
        replace cJ1 := keep1 qb cJ1
        replace HB := Lib.hid (below_then HB.out qb (Nat.le_refl _))
        clear qb
        go_wp2_with fail
        with_reducible refine (uwith_to a j true J1.out _).mono ?_
        rintro e w6 ⟨rfl, qb⟩
        replace cP0 := keep1 qb cP0
        replace cP1 := keep1 qb cP1
        replace cQ0 := keep1 qb cQ0
        replace cQ1 := keep1 qb cQ1
        replace cA0 := keep1 qb cA0
        replace cA1 := keep1 qb cA1
        replace cB0 := keep1 qb cB0
        replace cB1 := keep1 qb cB1
        replace cC0 := keep1 qb cC0
        replace cC1 := keep1 qb cC1
        replace cM0 := keep1 qb cM0
        replace cM1 := keep1 qb cM1
        replace cJ0 := keep1 qb cJ0
        replace cJ1 := keep1 qb cJ1
        replace HB := Lib.hid (below_then HB.out qb (Nat.le_refl _))
        clear qb
        go_wp2_with fail
        with_reducible refine (uwith_to b j true J2.out _).mono ?_
        rintro e w7 ⟨rfl, qb⟩
        replace cP0 := keep1 qb cP0
        replace cP1 := keep1 qb cP1
        replace cQ0 := keep1 qb cQ0
        replace cQ1 := keep1 qb cQ1
        replace cA0 := keep1 qb cA0
        replace cA1 := keep1 qb cA1
        replace cB0 := keep1 qb cB0
        replace cB1 := keep1 qb cB1
        replace cC0 := keep1 qb cC0
        replace cC1 := keep1 qb cC1
        replace cM0 := keep1 qb cM0
        replace cM1 := keep1 qb cM1
        replace cJ0 := keep1 qb cJ0
        replace cJ1 := keep1 qb cJ1
        replace HB := Lib.hid (below_then HB.out qb (Nat.le_refl _))
        clear qb
        go_wp2_with fail
        go_meet
        exact ⟨rfl, Lib.hid ⟨cP0, cP1, cQ0, cQ1, cA0, cA1, cB0, cB1, cC0, cC1, cJ0, cJ1⟩, HB⟩
      · have HAB := Lib.hid hab
        have HPA := Lib.hid hpa
        clear hab hpa
        go_wp2_with fail
        with_reducible refine (uwith_to a b false HAB.out _).mono ?_
        rintro e w5 ⟨rfl, qb⟩
        replace cP0 := keep1 qb cP0
        replace cP1 := keep1 qb cP1
        replace cQ0 := keep1 qb cQ0
        replace cQ1 := keep1 qb cQ1
        replace cA0 := keep1 qb cA0
        replace cA1 := keep1 qb cA1
        replace cB0 := keep1 qb cB0
        replace cB1 := keep1 qb cB1
        replace cC0 := keep1 qb cC0
        replace cC1 := keep1 qb cC1
        replace cM0 := keep1 qb cM0
        replace cM1 := keep1 qb cM1
        replace cJ0 := keep1 qb cJ0
        replace cJ1 := keep1 qb cJ1
        replace HB := Lib.hid (below_then HB.out qb (Nat.le_refl _))
        clear qb
        go_wp2_with fail
        with_reducible refine (uwith_to a j true J1.out _).mono ?_
        rintro e w6 ⟨rfl, qb⟩
        replace cP0 := keep1 qb cP0
        replace cP1 := keep1 qb cP1
        replace cQ0 := keep1 qb cQ0
        replace cQ1 := keep1 qb cQ1
        replace cA0 := keep1 qb cA0
        replace cA1 := keep1 qb cA1
        replace cB0 := keep1 qb cB0
        replace cB1 := keep1 qb cB1
        replace cC0 := keep1 qb cC0
        replace cC1 := keep1 qb cC1
        replace cM0 := keep1 qb cM0
        replace cM1 := keep1 qb cM1
        replace cJ0 := keep1 qb cJ0
        replace cJ1 := keep1 qb cJ1
        replace HB := Lib.hid (below_then HB.out qb (Nat.le_refl _))
        clear qb
        go_wp2_with fail
        with_reducible refine (uwith_to b j true J2.out _).mono ?_
        rintro e w7 ⟨rfl, qb⟩
        replace cP0 := keep1 qb cP0
        replace cP1 := keep1 qb cP1
        replace cQ0 := keep1 qb cQ0
        replace cQ1 := keep1 qb cQ1
        replace cA0 := keep1 qb cA0
        replace cA1 := keep1 qb cA1
        replace cB0 := keep1 qb cB0
        replace cB1 := keep1 qb cB1
        replace cC0 := keep1 qb cC0
        replace cC1 := keep1 qb cC1
        replace cM0 := keep1 qb cM0
        replace cM1 := keep1 qb cM1
        replace cJ0 := keep1 qb cJ0
        replace cJ1 := keep1 qb cJ1
        replace HB := Lib.hid (below_then HB.out qb (Nat.le_refl _))
        clear qb
        go_wp2_with fail
        with_reducible refine (uwith_to m a true (M1.out (by first | trivial | rfl)) _).mono ?_
        rintro e w8 ⟨rfl, qb⟩
        replace cP0 := keep1 qb cP0
        replace cP1 := keep1 qb cP1
        replace cQ0 := keep1 qb cQ0
        replace cQ1 := keep1 qb cQ1
        replace cA0 := keep1 qb cA0
        replace cA1 := keep1 qb cA1
        replace cB0 := keep1 qb cB0
        replace cB1 := keep1 qb cB1
        replace cC0 := keep1 qb cC0
        replace cC1 := keep1 qb cC1
        replace cM0 := keep1 qb cM0
        replace cM1 := keep1 qb cM1
        replace cJ0 := keep1 qb cJ0
        replace cJ1 := keep1 qb cJ1
        replace HB := Lib.hid (below_then HB.out qb (Nat.le_refl _))
        clear qb
        go_wp2_with fail
        with_reducible refine (uwith_to m b true (M2.out (by first | trivial | rfl)) _).mono ?_
        rintro e w9 ⟨rfl, qb⟩
        replace cP0 := keep1 qb cP0
        replace cP1 := keep1 qb cP1
        replace cQ0 := keep1 qb cQ0
        replace cQ1 := keep1 qb cQ1
        replace cA0 := keep1 qb cA0
        replace cA1 := keep1 qb cA1
        replace cB0 := keep1 qb cB0
        replace cB1 := keep1 qb cB1
        replace cC0 := keep1 qb cC0
        replace cC1 := keep1 qb cC1
        replace cM0 := keep1 qb cM0
        replace cM1 := keep1 qb cM1
        replace cJ0 := keep1 qb cJ0
        replace cJ1 := keep1 qb cJ1
        replace HB := Lib.hid (below_then HB.out qb (Nat.le_refl _))
        clear qb
        go_wp2_with fail
        go_meet
        exact ⟨rfl, Lib.hid ⟨cP0, cP1, cQ0, cQ1, cA0, cA1, cB0, cB1, cC0, cC1, cJ0, cJ1⟩, HB⟩
      · have HAB := Lib.hid hab
        have HPA := Lib.hid hpa
        clear hab hpa
        go_wp2_with fail
        with_reducible refine (uwith_to a b false HAB.out _).mono ?_
        rintro e w5 ⟨rfl, qb⟩
        replace cP0 := keep1 qb cP0
        replace cP1 := keep1 qb cP1
        replace cQ0 := keep1 qb cQ0
        replace cQ1 := keep1 qb cQ1
        replace cA0 := keep1 qb cA0
        replace cA1 := keep1 qb cA1
        replace cB0 := keep1 qb cB0
        replace cB1 := keep1 qb cB1
        replace cC0 := keep1 qb cC0
        replace cC1 := keep1 qb cC1
        replace cM0 := keep1 qb cM0
        replace cM1 := keep1 qb cM1
        replace cJ0 := keep1 qb cJ0
        replace cJ1 := keep1 qb cJ1
        replace HB := Lib.hid (below_then HB.out qb (Nat.le_refl _))
        clear qb
        go_wp2_with fail
        with_reducible refine (uwith_to a j true J1.out _).mono ?_
        rintro e w6 ⟨rfl, qb⟩
        replace cP0 := keep1 qb cP0
        replace cP1 := keep1 qb cP1
        replace cQ0 := keep1 qb cQ0
        replace cQ1 := keep1 qb cQ1
        replace cA0 := keep1 qb cA0
        replace cA1 := keep1 qb cA1
        replace cB0 := keep1 qb cB0
        replace cB1 := keep1 qb cB1
        replace cC0 := keep1 qb cC0
        replace cC1 := keep1 qb cC1
        replace cM0 := keep1 qb cM0
        replace cM1 := keep1 qb cM1
        replace cJ0 := keep1 qb cJ0
        replace cJ1 := keep1 qb cJ1
        replace HB := Lib.hid (below_then HB.out qb (Nat.le_refl _))
        clear qb
        go_wp2_with fail
        with_reducible refine (uwith_to b j true J2.out _).mono ?_
        rintro e w7 ⟨rfl, qb⟩
        replace cP0 := keep1 qb cP0
        replace cP1 := keep1 qb cP1
        replace cQ0 := keep1 qb cQ0
        replace cQ1 := keep1 qb cQ1
        replace cA0 := keep1 qb cA0
        replace cA1 := keep1 qb cA1
        replace cB0 := keep1 qb cB0
        replace cB1 := keep1 qb cB1
        replace cC0 := keep1 qb cC0
        replace cC1 := keep1 qb cC1
        replace cM0 := keep1 qb cM0
        replace cM1 := keep1 qb cM1
        replace cJ0 := keep1 qb cJ0
        replace cJ1 := keep1 qb cJ1
        replace HB := Lib.hid (below_then HB.out qb (Nat.le_refl _))
        clear qb
        go_wp2_with fail
        go_meet
        exact ⟨rfl, Lib.hid ⟨cP0, cP1, cQ0, cQ1, cA0, cA1, cB0, cB1, cC0, cC1, cJ0, cJ1⟩, HB⟩
      · have HAB := Lib.hid hab
        have HPA := Lib.hid hpa
        clear hab hpa
        go_wp2_with fail
        with_reducible refine (uwith_to a b false HAB.out _).mono ?_
        rintro e w5 ⟨rfl, qb⟩
        replace cP0 := keep1 qb cP0
        replace cP1 := keep1 qb cP1
        replace cQ0 := keep1 qb cQ0
        replace cQ1 := keep1 qb cQ1
        replace cA0 := keep1 qb cA0
        replace cA1 := keep1 qb cA1
        replace cB0 := keep1 qb cB0
        replace cB1 := keep1 qb cB1
        replace cC0 := keep1 qb cC0
        replace cC1 := keep1 qb cC1
        replace cM0 := keep1 qb cM0
        replace cM1 := keep1 qb cM1
        replace cJ0 := keep1 qb cJ0
        replace cJ1 := keep1 qb cJ1
        replace HB := Lib.hid (below_then HB.out qb (Nat.le_refl _))
        clear qb
        go_wp2_with fail
        with_reducible refine (uwith_to a j true J1.out _).mono ?_
        rintro e w6 ⟨rfl, qb⟩
        replace cP0 := keep1 qb cP0
        replace cP1 := keep1 qb cP1
        replace cQ0 := keep1 qb cQ0
        replace cQ1 := keep1 qb cQ1
        replace cA0 := keep1 qb cA0
        replace cA1 := keep1 qb cA1
        replace cB0 := keep1 qb cB0
        replace cB1 := keep1 qb cB1
        replace cC0 := keep1 qb cC0
        replace cC1 := keep1 qb cC1
        replace cM0 := keep1 qb cM0
        replace cM1 := keep1 qb cM1
        replace cJ0 := keep1 qb cJ0
        replace cJ1 := keep1 qb cJ1
        replace HB := Lib.hid (below_then HB.out qb (Nat.le_refl _))
        clear qb
        go_wp2_with fail
        with_reducible refine (uwith_to b j true J2.out _).mono ?_
        rintro e w7 ⟨rfl, qb⟩
        replace cP0 := keep1 qb cP0
        replace cP1 := keep1 qb cP1
        replace cQ0 := keep1 qb cQ0
        replace cQ1 := keep1 qb cQ1
        replace cA0 := keep1 qb cA0
        replace cA1 := keep1 qb cA1
        replace cB0 := keep1 qb cB0
        replace cB1 := keep1 qb cB1
        replace cC0 := keep1 qb cC0
        replace cC1 := keep1 qb cC1
        replace cM0 := keep1 qb cM0
        replace cM1 := keep1 qb cM1
        replace cJ0 := keep1 qb cJ0
        replace cJ1 := keep1 qb cJ1
        replace HB := Lib.hid (below_then HB.out qb (Nat.le_refl _))
        clear qb
        go_wp2_with fail
        with_reducible refine (uwith_to m a true (M1.out (by first | trivial | rfl)) _).mono ?_
        rintro e w8 ⟨rfl, qb⟩
        replace cP0 := keep1 qb cP0
        replace cP1 := keep1 qb cP1
        replace cQ0 := keep1 qb cQ0
        replace cQ1 := keep1 qb cQ1
        replace cA0 := keep1 qb cA0
        replace cA1 := keep1 qb cA1
        replace cB0 := keep1 qb cB0
        replace cB1 := keep1 qb cB1
        replace cC0 := keep1 qb cC0
        replace cC1 := keep1 qb cC1
        replace cM0 := keep1 qb cM0
        replace cM1 := keep1 qb cM1
        replace cJ0 := keep1 qb cJ0
        replace cJ1 := keep1 qb cJ1
        replace HB := Lib.hid (below_then HB.out qb (Nat.le_refl _))
        clear qb
        go_wp2_with fail
        with_reducible refine (uwith_to m b true (M2.out (by first | trivial | rfl)) _).mono ?_
        rintro e w9 ⟨rfl, qb⟩
        replace cP0 := keep1 qb cP0
        replace cP1 := keep1 qb cP1
        replace cQ0 := keep1 qb cQ0
        replace cQ1 := keep1 qb cQ1
        replace cA0 := keep1 qb cA0
        replace cA1 := keep1 qb cA1
        replace cB0 := keep1 qb cB0
        replace cB1 := keep1 qb cB1
        replace cC0 := keep1 qb cC0
        replace cC1 := keep1 qb cC1
        replace cM0 := keep1 qb cM0
        replace cM1 := keep1 qb cM1
        replace cJ0 := keep1 qb cJ0
        replace cJ1 := keep1 qb cJ1
        replace HB := Lib.hid (below_then HB.out qb (Nat.le_refl _))
        clear qb
        go_wp2_with fail
        go_meet
        exact ⟨rfl, Lib.hid ⟨cP0, cP1, cQ0, cQ1, cA0, cA1, cB0, cB1, cC0, cC1, cJ0, cJ1⟩, HB⟩
      · have HAB := Lib.hid hab
        have HPA := Lib.hid hpa
        clear hab hpa
        go_wp2_with fail
        with_reducible refine (uwith_to a b true HAB.out _).mono ?_
        rintro e w5 ⟨rfl, qb⟩
        replace cP0 := keep1 qb cP0
        replace cP1 := keep1 qb cP1
        replace cQ0 := keep1 qb cQ0
        replace cQ1 := keep1 qb cQ1
        replace cA0 := keep1 qb cA0
        replace cA1 := keep1 qb cA1
        replace cB0 := keep1 qb cB0
        replace cB1 := keep1 qb cB1
        replace cC0 := keep1 qb cC0
        replace cC1 := keep1 qb cC1
        replace cM0 := keep1 qb cM0
        replace cM1 := keep1 qb cM1
        replace cJ0 := keep1 qb cJ0
        replace cJ1 := keep1 qb cJ1
        replace HB := Lib.hid (below_then HB.out qb (Nat.le_refl _))
        clear qb
        go_wp2_with fail
        with_reducible refine (uin_to a n3 false HPA.out _).mono ?_
        rintro e w6 ⟨rfl, qb⟩
        replace cP0 := keep1 qb cP0
        replace cP1 := keep1 qb cP1
        replace cQ0 := keep1 qb cQ0
        replace cQ1 := keep1 qb cQ1
        replace cA0 := keep1 qb cA0
        replace cA1 := keep1 qb cA1
        replace cB0 := keep1 qb cB0
        replace cB1 := keep1 qb cB1
        replace cC0 := keep1 qb cC0
        replace cC1 := keep1 qb cC1
        replace cM0 := keep1 qb cM0
        replace cM1 := keep1 qb cM1
        replace cJ0 := keep1 qb cJ0
        replace cJ1 := keep1 qb cJ1
        replace HB := Lib.hid (below_then HB.out qb (Nat.le_refl _))
        clear qb
        go_wp2_with fail
        with_reducible refine (uwith_to a j true J1.out _).mono ?_
        rintro e w7 ⟨rfl, qb⟩
        replace cP0 := keep1 qb cP0
        replace cP1 := keep1 qb cP1
        replace cQ0 := keep1 qb cQ0
        replace cQ1 := keep1 qb cQ1
        replace cA0 := keep1 qb cA0
        replace cA1 := keep1 qb cA1
        replace cB0 := keep1 qb cB0
        replace cB1 := keep1 qb cB1
        replace cC0 := keep1 qb cC0
        replace cC1 := keep1 qb cC1
        replace cM0 := keep1 qb cM0
        replace cM1 := keep1 qb cM1
        replace cJ0 := keep1 qb cJ0
        replace cJ1 := keep1 qb cJ1
        replace HB := Lib.hid (below_then HB.out qb (Nat.le_refl _))
        clear qb
        go_wp2_with fail
        with_reducible refine (uwith_to b j true J2.out _).mono ?_
        rintro e w8 ⟨rfl, qb⟩
        replace cP0 := keep1 qb cP0
        replace cP1 := keep1 qb cP1
        replace cQ0 := keep1 qb cQ0
        replace cQ1 := keep1 qb cQ1
        replace cA0 := keep1 qb cA0
        replace cA1 := keep1 qb cA1
        replace cB0 := keep1 qb cB0
        replace cB1 := keep1 qb cB1
        replace cC0 := keep1 qb cC0
        replace cC1 := keep1 qb cC1
        replace cM0 := keep1 qb cM0
        replace cM1 := keep1 qb cM1
        replace cJ0 := keep1 qb cJ0
        replace cJ1 := keep1 qb cJ1
        replace HB := Lib.hid (below_then HB.out qb (Nat.le_refl _))
        clear qb
        go_wp2_with fail
        go_meet
        exact ⟨rfl, Lib.hid ⟨cP0, cP1, cQ0, cQ1, cA0, cA1, cB0, cB1, cC0, cC1, cJ0, cJ1⟩, HB⟩
      · have HAB := Lib.hid hab
        have HPA := Lib.hid hpa
        clear hab hpa
        go_wp2_with fail
        with_reducible refine (uwith_to a b true HAB.out _).mono ?_
        rintro e w5 ⟨rfl, qb⟩
        replace cP0 := keep1 qb cP0
        replace cP1 := keep1 qb cP1
        replace cQ0 := keep1 qb cQ0
        replace cQ1 := keep1 qb cQ1
        replace cA0 := keep1 qb cA0
        replace cA1 := keep1 qb cA1
        replace cB0 := keep1 qb cB0
        replace cB1 := keep1 qb cB1
        replace cC0 := keep1 qb cC0
        replace cC1 := keep1 qb cC1
        replace cM0 := keep1 qb cM0
        replace cM1 := keep1 qb cM1
        replace cJ0 := keep1 qb cJ0
        replace cJ1 := keep1 qb cJ1
        replace HB := Lib.hid (below_then HB.out qb (Nat.le_refl _))
        clear qb
        go_wp2_with fail
        with_reducible refine (uin_to a n3 false HPA.out _).mono ?_
        rintro e w6 ⟨rfl, qb⟩
        replace cP0 := keep1 qb cP0
        replace cP1 := keep1 qb cP1
        replace cQ0 := keep1 qb cQ0
        replace cQ1 := keep1 qb cQ1
        replace cA0 := keep1 qb cA0
        replace cA1 := keep1 qb cA1
        replace cB0 := keep1 qb cB0
        replace cB1 := keep1 qb cB1
        replace cC0 := keep1 qb cC0
        replace cC1 := keep1 qb cC1
        replace cM0 := keep1 qb cM0
        replace cM1 := keep1 qb cM1
        replace cJ0 := keep1 qb cJ0
        replace cJ1 := keep1 qb cJ1
        replace HB := Lib.hid (below_then HB.out qb (Nat.le_refl _))
        clear qb
        go_wp2_with fail
        with_reducible refine (uwith_to a j true J1.out _).mono ?_
        rintro e w7 ⟨rfl, qb⟩
        replace cP0 := keep1 qb cP0
        replace cP1 := keep1 qb cP1
        replace cQ0 := keep1 qb cQ0
        replace cQ1 := keep1 qb cQ1
        replace cA0 := keep1 qb cA0
        replace cA1 := keep1 qb cA1
        replace cB0 := keep1 qb cB0
        replace cB1 := keep1 qb cB1
        replace cC0 := keep1 qb cC0
        replace cC1 := keep1 qb cC1
        replace cM0 := keep1 qb cM0
        replace cM1 := keep1 qb cM1
        replace cJ0 := keep1 qb cJ0
        replace cJ1 := keep1 qb cJ1
        replace HB := Lib.hid (below_then HB.out qb (Nat.le_refl _))
        clear qb
        go_wp2_with fail
        with_reducible refine (uwith_to b j true J2.out _).mono ?_
        rintro e w8 ⟨rfl, qb⟩
        replace cP0 := keep1 qb cP0
        replace cP1 := keep1 qb cP1
        replace cQ0 := keep1 qb cQ0
        replace cQ1 := keep1 qb cQ1
        replace cA0 := keep1 qb cA0
        replace cA1 := keep1 qb cA1
        replace cB0 := keep1 qb cB0
        replace cB1 := keep1 qb cB1
        replace cC0 := keep1 qb cC0
        replace cC1 := keep1 qb cC1
        replace cM0 := keep1 qb cM0
        replace cM1 := keep1 qb cM1
        replace cJ0 := keep1 qb cJ0
        replace cJ1 := keep1 qb cJ1
        replace HB := Lib.hid (below_then HB.out qb (Nat.le_refl _))
        clear qb
        go_wp2_with fail
        with_reducible refine (uwith_to m a true (M1.out (by first | trivial | rfl)) _).mono ?_
        rintro e w9 ⟨rfl, qb⟩
        replace cP0 := keep1 qb cP0
        replace cP1 := keep1 qb cP1
        replace cQ0 := keep1 qb cQ0
        replace cQ1 := keep1 qb cQ1
        replace cA0 := keep1 qb cA0
        replace cA1 := keep1 qb cA1
        replace cB0 := keep1 qb cB0
        replace cB1 := keep1 qb cB1
        replace cC0 := keep1 qb cC0
        replace cC1 := keep1 qb cC1
        replace cM0 := keep1 qb cM0
        replace cM1 := keep1 qb cM1
        replace cJ0 := keep1 qb cJ0
        replace cJ1 := keep1 qb cJ1
        replace HB := Lib.hid (below_then HB.out qb (Nat.le_refl _))
        clear qb
        go_wp2_with fail
        with_reducible refine (uwith_to m b true (M2.out (by first | trivial | rfl)) _).mono ?_
        rintro e w10 ⟨rfl, qb⟩
        replace cP0 := keep1 qb cP0
        replace cP1 := keep1 qb cP1
        replace cQ0 := keep1 qb cQ0
        replace cQ1 := keep1 qb cQ1
        replace cA0 := keep1 qb cA0
        replace cA1 := keep1 qb cA1
        replace cB0 := keep1 qb cB0
        replace cB1 := keep1 qb cB1
        replace cC0 := keep1 qb cC0
        replace cC1 := keep1 qb cC1
        replace cM0 := keep1 qb cM0
        replace cM1 := keep1 qb cM1
        replace cJ0 := keep1 qb cJ0
        replace cJ1 := keep1 qb cJ1
        replace HB := Lib.hid (below_then HB.out qb (Nat.le_refl _))
        clear qb
        go_wp2_with fail
        go_meet
        exact ⟨rfl, Lib.hid ⟨cP0, cP1, cQ0, cQ1, cA0, cA1, cB0, cB1, cC0, cC1, cJ0, cJ1⟩, HB⟩
      · have HAB := Lib.hid hab
        have HPA := Lib.hid hpa
        have HPB := Lib.hid (with_in9 n3 hab hpa)
        clear hab hpa
        go_wp2_with fail
        with_reducible refine (uwith_to a b true HAB.out _).mono ?_
        rintro e w5 ⟨rfl, qb⟩
        replace cP0 := keep1 qb cP0
        replace cP1 := keep1 qb cP1
        replace cQ0 := keep1 qb cQ0
        replace cQ1 := keep1 qb cQ1
        replace cA0 := keep1 qb cA0
        replace cA1 := keep1 qb cA1
        replace cB0 := keep1 qb cB0
        replace cB1 := keep1 qb cB1
        replace cC0 := keep1 qb cC0
        replace cC1 := keep1 qb cC1
        replace cM0 := keep1 qb cM0
        replace cM1 := keep1 qb cM1
        replace cJ0 := keep1 qb cJ0
        replace cJ1 := keep1 qb cJ1
        replace HB := Lib.hid (below_then HB.out qb (Nat.le_refl _))
        clear qb
        go_wp2_with fail
        with_reducible refine (uin_to a n3 true HPA.out _).mono ?_
        rintro e w6 ⟨rfl, qb⟩
        replace cP0 := keep1 qb cP0
        replace cP1 := keep1 qb cP1
        replace cQ0 := keep1 qb cQ0
        replace cQ1 := keep1 qb cQ1
        replace cA0 := keep1 qb cA0
        replace cA1 := keep1 qb cA1
        replace cB0 := keep1 qb cB0
        replace cB1 := keep1 qb cB1
        replace cC0 := keep1 qb cC0
        replace cC1 := keep1 qb cC1
        replace cM0 := keep1 qb cM0
        replace cM1 := keep1 qb cM1
        replace cJ0 := keep1 qb cJ0
        replace cJ1 := keep1 qb cJ1
        replace HB := Lib.hid (below_then HB.out qb (Nat.le_refl _))
        clear qb
        go_wp2_with fail
        with_reducible refine (uin_to b n3 true HPB.out _).mono ?_
        rintro e w7 ⟨rfl, qb⟩
        replace cP0 := keep1 qb cP0
        replace cP1 := keep1 qb cP1
        replace cQ0 := keep1 qb cQ0
        replace cQ1 := keep1 qb cQ1
        replace cA0 := keep1 qb cA0
        replace cA1 := keep1 qb cA1
        replace cB0 := keep1 qb cB0
        replace cB1 := keep1 qb cB1
        replace cC0 := keep1 qb cC0
        replace cC1 := keep1 qb cC1
        replace cM0 := keep1 qb cM0
        replace cM1 := keep1 qb cM1
        replace cJ0 := keep1 qb cJ0
        replace cJ1 := keep1 qb cJ1
        replace HB := Lib.hid (below_then HB.out qb (Nat.le_refl _))
        clear qb
        go_wp2_with fail
        with_reducible refine (uwith_to a j true J1.out _).mono ?_
        rintro e w8 ⟨rfl, qb⟩
        replace cP0 := keep1 qb cP0
        replace cP1 := keep1 qb cP1
        replace cQ0 := keep1 qb cQ0
        replace cQ1 := keep1 qb cQ1
        replace cA0 := keep1 qb cA0
        replace cA1 := keep1 qb cA1
        replace cB0 := keep1 qb cB0
        replace cB1 := keep1 qb cB1
        replace cC0 := keep1 qb cC0
        replace cC1 := keep1 qb cC1
        replace cM0 := keep1 qb cM0
        replace cM1 := keep1 qb cM1
        replace cJ0 := keep1 qb cJ0
        replace cJ1 := keep1 qb cJ1
        replace HB := Lib.hid (below_then HB.out qb (Nat.le_refl _))
        clear qb
        go_wp2_with fail
        with_reducible refine (uwith_to b j true J2.out _).mono ?_
        rintro e w9 ⟨rfl, qb⟩
        replace cP0 := keep1 qb cP0
        replace cP1 := keep1 qb cP1
        replace cQ0 := keep1 qb cQ0
        replace cQ1 := keep1 qb cQ1
        replace cA0 := keep1 qb cA0
        replace cA1 := keep1 qb cA1
        replace cB0 := keep1 qb cB0
        replace cB1 := keep1 qb cB1
        replace cC0 := keep1 qb cC0
        replace cC1 := keep1 qb cC1
        replace cM0 := keep1 qb cM0
        replace cM1 := keep1 qb cM1
        replace cJ0 := keep1 qb cJ0
        replace cJ1 := keep1 qb cJ1
        replace HB := Lib.hid (below_then HB.out qb (Nat.le_refl _))
        clear qb
        go_wp2_with fail
        go_meet
        exact ⟨rfl, Lib.hid ⟨cP0, cP1, cQ0, cQ1, cA0, cA1, cB0, cB1, cC0, cC1, cJ0, cJ1⟩, HB⟩
      · have HAB := Lib.hid hab
        have HPA := Lib.hid hpa
        have HPB := Lib.hid (with_in9 n3 hab hpa)
        clear hab hpa
        go_wp2_with fail
        with_reducible refine (uwith_to a b true HAB.out _).mono ?_
        rintro e w5 ⟨rfl, qb⟩
        replace cP0 := keep1 qb cP0
        replace cP1 := keep1 qb cP1
        replace cQ0 := keep1 qb cQ0
        replace cQ1 := keep1 qb cQ1
        replace cA0 := keep1 qb cA0
        replace cA1 := keep1 qb cA1
        replace cB0 := keep1 qb cB0
        replace cB1 := keep1 qb cB1
        replace cC0 := keep1 qb cC0
        replace cC1 := keep1 qb cC1
        replace cM0 := keep1 qb cM0
        replace cM1 := keep1 qb cM1
        replace cJ0 := keep1 qb cJ0
        replace cJ1 := keep1 qb cJ1
        replace HB := Lib.hid (below_then HB.out qb (Nat.le_refl _))
        clear qb
        go_wp2_with fail
        with_reducible refine (uin_to a n3 true HPA.out _).mono ?_
        rintro e w6 ⟨rfl, qb⟩
        replace cP0 := keep1 qb cP0
        replace cP1 := keep1 qb cP1
        replace cQ0 := keep1 qb cQ0
        replace cQ1 := keep1 qb cQ1
        replace cA0 := keep1 qb cA0
        replace cA1 := keep1 qb cA1
        replace cB0 := keep1 qb cB0
        replace cB1 := keep1 qb cB1
        replace cC0 := keep1 qb cC0
        replace cC1 := keep1 qb cC1
        replace cM0 := keep1 qb cM0
        replace cM1 := keep1 qb cM1
        replace cJ0 := keep1 qb cJ0
        replace cJ1 := keep1 qb cJ1
        replace HB := Lib.hid (below_then HB.out qb (Nat.le_refl _))
        clear qb
        go_wp2_with fail
        with_reducible refine (uin_to b n3 true HPB.out _).mono ?_
        rintro e w7 ⟨rfl, qb⟩
        replace cP0 := keep1 qb cP0
        replace cP1 := keep1 qb cP1
        replace cQ0 := keep1 qb cQ0
        replace cQ1 := keep1 qb cQ1
        replace cA0 := keep1 qb cA0
        replace cA1 := keep1 qb cA1
        replace cB0 := keep1 qb cB0
        replace cB1 := keep1 qb cB1
        replace cC0 := keep1 qb cC0
        replace cC1 := keep1 qb cC1
        replace cM0 := keep1 qb cM0
        replace cM1 := keep1 qb cM1
        replace cJ0 := keep1 qb cJ0
        replace cJ1 := keep1 qb cJ1
        replace HB := Lib.hid (below_then HB.out qb (Nat.le_refl _))
        clear qb
        go_wp2_with fail
        with_reducible refine (uwith_to a j true J1.out _).mono ?_
        rintro e w8 ⟨rfl, qb⟩
        replace cP0 := keep1 qb cP0
        replace cP1 := keep1 qb cP1
        replace cQ0 := keep1 qb cQ0
        replace cQ1 := keep1 qb cQ1
        replace cA0 := keep1 qb cA0
        replace cA1 := keep1 qb cA1
        replace cB0 := keep1 qb cB0
        replace cB1 := keep1 qb cB1
        replace cC0 := keep1 qb cC0
        replace cC1 := keep1 qb cC1
        replace cM0 := keep1 qb cM0
        replace cM1 := keep1 qb cM1
        replace cJ0 := keep1 qb cJ0
        replace cJ1 := keep1 qb cJ1
        replace HB := Lib.hid (below_then HB.out qb (Nat.le_refl _))
        clear qb
        go_wp2_with fail
        with_reducible refine (uwith_to b j true J2.out _).mono ?_
        rintro e w9 ⟨rfl, qb⟩
        replace cP0 := keep1 qb cP0
        replace cP1 := keep1 qb cP1
        replace cQ0 := keep1 qb cQ0
        replace cQ1 := keep1 qb cQ1
        replace cA0 := keep1 qb cA0
        replace cA1 := keep1 qb cA1
        replace cB0 := keep1 qb cB0
        replace cB1 := keep1 qb cB1
        replace cC0 := keep1 qb cC0
        replace cC1 := keep1 qb cC1
        replace cM0 := keep1 qb cM0
        replace cM1 := keep1 qb cM1
        replace cJ0 := keep1 qb cJ0
        replace cJ1 := keep1 qb cJ1
        replace HB := Lib.hid (below_then HB.out qb (Nat.le_refl _))
        clear qb
        go_wp2_with fail
        with_reducible refine (uwith_to m a true (M1.out (by first | trivial | rfl)) _).mono ?_
        rintro e w10 ⟨rfl, qb⟩
        replace cP0 := keep1 qb cP0
        replace cP1 := keep1 qb cP1
        replace cQ0 := keep1 qb cQ0
        replace cQ1 := keep1 qb cQ1
        replace cA0 := keep1 qb cA0
        replace cA1 := keep1 qb cA1
        replace cB0 := keep1 qb cB0
        replace cB1 := keep1 qb cB1
        replace cC0 := keep1 qb cC0
        replace cC1 := keep1 qb cC1
        replace cM0 := keep1 qb cM0
        replace cM1 := keep1 qb cM1
        replace cJ0 := keep1 qb cJ0
        replace cJ1 := keep1 qb cJ1
        replace HB := Lib.hid (below_then HB.out qb (Nat.le_refl _))
        clear qb
        go_wp2_with fail
        with_reducible refine (uwith_to m b true (M2.out (by first | trivial | rfl)) _).mono ?_
        rintro e w11 ⟨rfl, qb⟩
        replace cP0 := keep1 qb cP0
        replace cP1 := keep1 qb cP1
        replace cQ0 := keep1 qb cQ0
        replace cQ1 := keep1 qb cQ1
        replace cA0 := keep1 qb cA0
        replace cA1 := keep1 qb cA1
        replace cB0 := keep1 qb cB0
        replace cB1 := keep1 qb cB1
        replace cC0 := keep1 qb cC0
        replace cC1 := keep1 qb cC1
        replace cM0 := keep1 qb cM0
        replace cM1 := keep1 qb cM1
        replace cJ0 := keep1 qb cJ0
        replace cJ1 := keep1 qb cJ1
        replace HB := Lib.hid (below_then HB.out qb (Nat.le_refl _))
        clear qb
        go_wp2_with fail
        go_meet
        exact ⟨rfl, Lib.hid ⟨cP0, cP1, cQ0, cQ1, cA0, cA1, cB0, cB1, cC0, cC1, cJ0, cJ1⟩, HB⟩
    case rest =>
      clear HB cP0 cP1 cQ0 cQ1 cA0 cA1 cB0 cB1 cC0 cC1 cM0 cM1 cJ0 cJ1 J1 J2 M1 M2
      obtain ⟨rfl, HC, HB⟩ := hcut
      obtain ⟨cP0, cP1, cQ0, cQ1, cA0, cA1, cB0, cB1, cC0, cC1, cJ0, cJ1⟩ := HC.out
      clear HC
      go_upto_region 9 with (fail)
      go_cut [125] (fun s125 wx => s125 = .bool false ∧ Hid (wx.cell? ⟨w.heap.size, 0, none⟩ = some (.int .u64 x0.lo) ∧ wx.cell? ⟨w.heap.size, 1, none⟩ = some (.int .u64 x0.hi) ∧ wx.cell? ⟨w.heap.size + 1, 0, none⟩ = some (.int .u64 x1.lo) ∧ wx.cell? ⟨w.heap.size + 1, 1, none⟩ = some (.int .u64 x1.hi)) ∧ Hid (Below w.heap.size w wx))
      case first =>
        cases hac : withE a c
        · have HAC := Lib.hid hac
          clear hac
          refine wp_region_held_drew (S := fun w' => w'.cell? ⟨w.heap.size, 0, none⟩ = some (.int .u64 x0.lo) ∧ w'.cell? ⟨w.heap.size, 1, none⟩ = some (.int .u64 x0.hi) ∧ w'.cell? ⟨w.heap.size + 1, 0, none⟩ = some (.int .u64 x1.lo) ∧ w'.cell? ⟨w.heap.size + 1, 1, none⟩ = some (.int .u64 x1.hi) ∧ w'.cell? ⟨w1.heap.size, 0, none⟩ = some (.int .u64 a.lo) ∧ w'.cell? ⟨w1.heap.size, 1, none⟩ = some (.int .u64 a.hi) ∧ w'.cell? ⟨w1.heap.size + 1, 0, none⟩ = some (.int .u64 b.lo) ∧ w'.cell? ⟨w1.heap.size + 1, 1, none⟩ = some (.int .u64 b.hi) ∧ w'.cell? ⟨w2.heap.size, 0, none⟩ = some (.int .u64 c.lo) ∧ w'.cell? ⟨w2.heap.size, 1, none⟩ = some (.int .u64 c.hi) ∧ w'.cell? ⟨w4.heap.size, 0, none⟩ = some (.int .u64 j.lo) ∧ w'.cell? ⟨w4.heap.size, 1, none⟩ = some (.int .u64 j.hi) ∧ Below w.heap.size w w') (by kernel_rfl) ⟨cP0, cP1, cQ0, cQ1, cA0, cA1, cB0, cB1, cC0, cC1, cJ0, cJ1, HB.out.drew⟩ (fun g => ?_)
          refine tq 0 ?_ rfl (by kernel_rfl) (fun _ _ _ h => h) (by rfl) g ?_ ?_
          rotate_left
          · intro w9 h; (try dsimp only at h); go_simp; try with_reducible rfl
          try simp only [Act.put, ps, p0, p1]
          refine tq 1 ?_ rfl (by kernel_rfl) (fun _ _ _ h => h) (by rfl) g ?_ ?_
          rotate_left
          · intro w9 h; (try dsimp only at h); go_simp; try with_reducible rfl
          try simp only [Act.put, ps, p0, p1]
          refine tc 2 rfl (by kernel_rfl) (fun K hK => ?_)
          go_simp
          (go_at_call 17; with_reducible refine (uwith_to a c false HAC.out _).mono ?_; rintro e z1 ⟨rfl, qb⟩)
          refine hK.out _ _ (keep12 qb g) (fun g1 => ?_)
          clear hK K qb
          try simp only [Act.put, ps, p0, p1]
          refine tq 3 ?_ rfl (by kernel_rfl) (fun _ _ _ h => h) (by rfl) g1 ?_ ?_
          rotate_left
          · intro w9 h; (try dsimp only at h); go_simp; try with_reducible rfl
          try simp only [Act.put, ps, p0, p1]
          refine tu 4 rfl (by kernel_rfl) (fun _ _ _ h => h) (by rfl) g1 ?_
          try simp only [Act.put, ps, p0, p1]
          refine tu 5 rfl (by kernel_rfl) (fun _ _ _ h => h) (by rfl) g1 ?_
          try simp only [Act.put, ps, p0, p1]
          refine tu 6 rfl (by kernel_rfl) (fun _ _ _ h => h) (by rfl) g1 ?_
          try simp only [Act.put, ps, p0, p1]
          refine tu 7 rfl (by kernel_rfl) (fun _ _ _ h => h) (by rfl) g1 ?_
          try simp only [Act.put, ps, p0, p1]
          refine tu 8 rfl (by kernel_rfl) (fun _ _ _ h => h) (by rfl) g1 ?_
          try simp only [Act.put, ps, p0, p1]
          refine tu 9 rfl (by kernel_rfl) (fun _ _ _ h => h) (by rfl) g1 ?_
          try simp only [Act.put, ps, p0, p1]
          refine tu 10 rfl (by kernel_rfl) (fun _ _ _ h => h) (by rfl) g1 ?_
          try simp only [Act.put, ps, p0, p1]
          refine tq 11 ?_ rfl (by kernel_rfl) (fun _ _ _ h => h) (by rfl) g1 ?_ ?_
          rotate_left
          · intro w9 h; (try dsimp only at h); go_simp; try with_reducible rfl
          try simp only [Act.put, ps, p0, p1]
          refine wpAnyH_done (by kernel_rfl) ?_ _
          go_wp2_with fail
          go_meet
          exact ⟨rfl, Lib.hid ⟨g1.1, g1.2.1, g1.2.2.1, g1.2.2.2.1⟩, Lib.hid g1.2.2.2.2.2.2.2.2.2.2.2.2⟩
        · obtain ⟨q, hq⟩ : ∃ q, withE b c = q := ⟨_, rfl⟩
          have HQ := Lib.hid hq
          have HJ := Lib.hid ((JC.out hac).trans hq)
          clear hq
          have HAC := Lib.hid hac
          clear hac
          refine wp_region_held_drew (S := fun w' => w'.cell? ⟨w.heap.size, 0, none⟩ = some (.int .u64 x0.lo) ∧ w'.cell? ⟨w.heap.size, 1, none⟩ = some (.int .u64 x0.hi) ∧ w'.cell? ⟨w.heap.size + 1, 0, none⟩ = some (.int .u64 x1.lo) ∧ w'.cell? ⟨w.heap.size + 1, 1, none⟩ = some (.int .u64 x1.hi) ∧ w'.cell? ⟨w1.heap.size, 0, none⟩ = some (.int .u64 a.lo) ∧ w'.cell? ⟨w1.heap.size, 1, none⟩ = some (.int .u64 a.hi) ∧ w'.cell? ⟨w1.heap.size + 1, 0, none⟩ = some (.int .u64 b.lo) ∧ w'.cell? ⟨w1.heap.size + 1, 1, none⟩ = some (.int .u64 b.hi) ∧ w'.cell? ⟨w2.heap.size, 0, none⟩ = some (.int .u64 c.lo) ∧ w'.cell? ⟨w2.heap.size, 1, none⟩ = some (.int .u64 c.hi) ∧ w'.cell? ⟨w4.heap.size, 0, none⟩ = some (.int .u64 j.lo) ∧ w'.cell? ⟨w4.heap.size, 1, none⟩ = some (.int .u64 j.hi) ∧ Below w.heap.size w w') (by kernel_rfl) ⟨cP0, cP1, cQ0, cQ1, cA0, cA1, cB0, cB1, cC0, cC1, cJ0, cJ1, HB.out.drew⟩ (fun g => ?_)
          refine tq 0 ?_ rfl (by kernel_rfl) (fun _ _ _ h => h) (by rfl) g ?_ ?_
          rotate_left
          · intro w9 h; (try dsimp only at h); go_simp; try with_reducible rfl
          try simp only [Act.put, ps, p0, p1]
          refine tq 1 ?_ rfl (by kernel_rfl) (fun _ _ _ h => h) (by rfl) g ?_ ?_
          rotate_left
          · intro w9 h; (try dsimp only at h); go_simp; try with_reducible rfl
          try simp only [Act.put, ps, p0, p1]
          refine tc 2 rfl (by kernel_rfl) (fun K hK => ?_)
          go_simp
          (go_at_call 17; with_reducible refine (uwith_to a c true HAC.out _).mono ?_; rintro e z1 ⟨rfl, qb⟩)
          refine hK.out _ _ (keep12 qb g) (fun g1 => ?_)
          clear hK K qb
          try simp only [Act.put, ps, p0, p1]
          refine tq 3 ?_ rfl (by kernel_rfl) (fun _ _ _ h => h) (by rfl) g1 ?_ ?_
          rotate_left
          · intro w9 h; (try dsimp only at h); go_simp; try with_reducible rfl
          try simp only [Act.put, ps, p0, p1]
          refine tq 4 ?_ rfl (by kernel_rfl) (fun _ _ _ h => h) (by rfl) g1 ?_ ?_
          rotate_left
          · intro w9 h; (try dsimp only at h); go_simp; try with_reducible rfl
          try simp only [Act.put, ps, p0, p1]
          refine tq 5 ?_ rfl (by kernel_rfl) (fun _ _ _ h => h) (by rfl) g1 ?_ ?_
          rotate_left
          · intro w9 h; (try dsimp only at h); go_simp; try with_reducible rfl
          try simp only [Act.put, ps, p0, p1]
          refine tq 7 ?_ rfl (by kernel_rfl) (fun _ _ _ h => h) (by rfl) g1 ?_ ?_
          rotate_left
          · intro w9 h; (try dsimp only at h); go_simp; try with_reducible rfl
          try simp only [Act.put, ps, p0, p1]
          refine tq 8 ?_ rfl (by kernel_rfl) (fun _ _ _ h => h) (by rfl) g1 ?_ ?_
          rotate_left
          · intro w9 h; (try dsimp only at h); go_simp; try with_reducible rfl
          try simp only [Act.put, ps, p0, p1]
          refine tc 6 rfl (by kernel_rfl) (fun K hK => ?_)
          go_simp
          (go_at_call 17; with_reducible refine (uwith_to b c q HQ.out _).mono ?_; rintro e z2 ⟨rfl, qb⟩)
          refine hK.out _ _ (keep12 qb g1) (fun g2 => ?_)
          clear hK K qb g1
          try simp only [Act.put, ps, p0, p1]
          refine tc 9 rfl (by kernel_rfl) (fun K hK => ?_)
          go_simp
          (go_at_call 17; with_reducible refine (uwith_to j c q HJ.out _).mono ?_; rintro e z3 ⟨rfl, qb⟩)
          refine hK.out _ _ (keep12 qb g2) (fun g3 => ?_)
          clear hK K qb g2
          try simp only [Act.put, ps, p0, p1]
          refine tq 10 ?_ rfl (by kernel_rfl) (fun _ _ _ h => h) (by rfl) g3 ?_ ?_
          rotate_left
          · intro w9 h; (try dsimp only at h); go_simp; try with_reducible rfl
          try simp only [Act.put, ps, p0, p1]
          refine tq 11 ?_ rfl (by kernel_rfl) (fun _ _ _ h => h) (by rfl) g3 ?_ ?_
          rotate_left
          · intro w9 h; (try dsimp only at h); go_simp; try with_reducible rfl
          try simp only [Act.put, ps, p0, p1]
          refine wpAnyH_done (by kernel_rfl) ?_ _
          go_wp2_with fail
          go_meet
          exact ⟨rfl, Lib.hid ⟨g3.1, g3.2.1, g3.2.2.1, g3.2.2.2.1⟩, Lib.hid g3.2.2.2.2.2.2.2.2.2.2.2.2⟩
      case rest =>
        clear HB cP0 cP1 cQ0 cQ1 cA0 cA1 cB0 cB1 cC0 cC1 cJ0 cJ1 JC
        obtain ⟨rfl, HC, HB⟩ := hcut
        obtain ⟨cP0, cP1, cQ0, cQ1⟩ := HC.out
        clear HC
        obtain ⟨y, ey⟩ : ∃ y : E, sortE (wrap64 x0.lo) (wrap64 x0.hi) = y := ⟨_, rfl⟩
        obtain ⟨z, ez⟩ : ∃ y : E, sortE (wrap64 x1.lo) (wrap64 x1.hi) = y := ⟨_, rfl⟩
        have EY := Lib.hid ey
        have EZ := Lib.hid ez
        clear ey ez
        obtain ⟨n, en⟩ : ∃ r : E, meetE y z = r := ⟨_, rfl⟩
        obtain ⟨p, ep⟩ : ∃ r : Bool, metE y z = r := ⟨_, rfl⟩
        obtain ⟨k, ek⟩ : ∃ r : E, joinE y z = r := ⟨_, rfl⟩
        have EN := Lib.hid en
        have EP := Lib.hid ep
        have EK := Lib.hid ek
        have NI := Lib.hid (show p = true → inE n (sg n3) = (inE y (sg n3) && inE z (sg n3)) by intro h; rw [← en]; exact meet_in9 _ (ep.trans h))
        have NN := Lib.hid (show p = false → inE y (sg n3) = true → inE z (sg n3) = false by intro h g; exact meet_no9 _ (ep.trans h) g)
        have KI := Lib.hid (show inE y (sg n3) = true ∨ inE z (sg n3) = true → inE k (sg n3) = true by intro h; rw [← ek]; exact join_in9 _ h)
        have K1 := Lib.hid (show withE y k = true by rw [← ek]; exact with_j1 y z)
        have K2 := Lib.hid (show withE z k = true by rw [← ek]; exact with_j2 y z)
        clear en ep ek
        unfold inU at f0 f1
        go_wp2_with fail
        with_reducible refine (ss_to ⟨wrap64 x0.lo, wrap64 x0.hi⟩ ⟨wrap64 x1.lo, wrap64 x1.hi⟩ y z EY.out EZ.out _).mono ?_
        rintro e w5 ⟨rfl, qb⟩
        replace cP0 := keep1 qb cP0
        replace cP1 := keep1 qb cP1
        replace cQ0 := keep1 qb cQ0
        replace cQ1 := keep1 qb cQ1
        replace HB := Lib.hid (below_then HB.out qb (Nat.le_refl _))
        clear qb
        have dP0 := (cell_al (cell_al cP0 (.cells #[.int .i64 y.lo, .int .i64 y.hi] 35)) (.cells #[.int .i64 z.lo, .int .i64 z.hi] 35))
        have dP1 := (cell_al (cell_al cP1 (.cells #[.int .i64 y.lo, .int .i64 y.hi] 35)) (.cells #[.int .i64 z.lo, .int .i64 z.hi] 35))
        have dQ0 := (cell_al (cell_al cQ0 (.cells #[.int .i64 y.lo, .int .i64 y.hi] 35)) (.cells #[.int .i64 z.lo, .int .i64 z.hi] 35))
        have dQ1 := (cell_al (cell_al cQ1 (.cells #[.int .i64 y.lo, .int .i64 y.hi] 35)) (.cells #[.int .i64 z.lo, .int .i64 z.hi] 35))
        go_wp2_with fail
        have Y0 := ((Bk.new w5 35 #[.int .i64 y.lo, .int .i64 y.hi]).alloc (.cells #[.int .i64 z.lo, .int .i64 z.hi] 35))
        obtain ⟨cY0, cY1⟩ := tcells Y0
        clear Y0
        have Z0 := (Bk.new (w5.alloc (.cells #[.int .i64 y.lo, .int .i64 y.hi] 35)) 35 #[.int .i64 z.lo, .int .i64 z.hi])
        rw [World.size_alloc] at Z0
        obtain ⟨cZ0, cZ1⟩ := tcells Z0
        clear Z0
        clear cP0 cP1
        have cP0 := dP0
        have cP1 := dP1
        clear dP0 dP1
        clear cQ0 cQ1
        have cQ0 := dQ0
        have cQ1 := dQ1
        clear dQ0 dQ1
        replace HB := Lib.hid (below_al (below_al HB.out (.cells #[.int .i64 y.lo, .int .i64 y.hi] 35)) (.cells #[.int .i64 z.lo, .int .i64 z.hi] 35))
        generalize ((w5.alloc (.cells #[.int .i64 y.lo, .int .i64 y.hi] 35)).alloc (.cells #[.int .i64 z.lo, .int .i64 z.hi] 35)) = v5 at *
        clear cP0 cP1
        clear cQ0 cQ1
        with_reducible refine (smee_to y z n p EN.out EP.out _).mono ?_
        rintro e w6 ⟨rfl, qb⟩
        replace cY0 := keep1 qb cY0
        replace cY1 := keep1 qb cY1
        replace cZ0 := keep1 qb cZ0
        replace cZ1 := keep1 qb cZ1
        replace HB := Lib.hid (below_then HB.out qb (Nat.le_refl _))
        clear qb
        have dY0 := (cell_al cY0 (.cells #[.int .i64 n.lo, .int .i64 n.hi] 35))
        have dY1 := (cell_al cY1 (.cells #[.int .i64 n.lo, .int .i64 n.hi] 35))
        have dZ0 := (cell_al cZ0 (.cells #[.int .i64 n.lo, .int .i64 n.hi] 35))
        have dZ1 := (cell_al cZ1 (.cells #[.int .i64 n.lo, .int .i64 n.hi] 35))
        go_wp2_with fail
        have N0 := (Bk.new w6 35 #[.int .i64 n.lo, .int .i64 n.hi])
        obtain ⟨cN0, cN1⟩ := tcells N0
        clear N0
        clear cY0 cY1
        have cY0 := dY0
        have cY1 := dY1
        clear dY0 dY1
        clear cZ0 cZ1
        have cZ0 := dZ0
        have cZ1 := dZ1
        clear dZ0 dZ1
        replace HB := Lib.hid (below_al HB.out (.cells #[.int .i64 n.lo, .int .i64 n.hi] 35))
        generalize (w6.alloc (.cells #[.int .i64 n.lo, .int .i64 n.hi] 35)) = v6 at *
        with_reducible refine (sjoi_to y z k EK.out _).mono ?_
        rintro e w7 ⟨rfl, qb⟩
        replace cY0 := keep1 qb cY0
        replace cY1 := keep1 qb cY1
        replace cZ0 := keep1 qb cZ0
        replace cZ1 := keep1 qb cZ1
        replace cN0 := keep1 qb cN0
        replace cN1 := keep1 qb cN1
        replace HB := Lib.hid (below_then HB.out qb (Nat.le_refl _))
        clear qb
        have dY0 := (cell_al cY0 (.cells #[.int .i64 k.lo, .int .i64 k.hi] 35))
        have dY1 := (cell_al cY1 (.cells #[.int .i64 k.lo, .int .i64 k.hi] 35))
        have dZ0 := (cell_al cZ0 (.cells #[.int .i64 k.lo, .int .i64 k.hi] 35))
        have dZ1 := (cell_al cZ1 (.cells #[.int .i64 k.lo, .int .i64 k.hi] 35))
        have dN0 := (cell_al cN0 (.cells #[.int .i64 k.lo, .int .i64 k.hi] 35))
        have dN1 := (cell_al cN1 (.cells #[.int .i64 k.lo, .int .i64 k.hi] 35))
        go_wp2_with fail
        have K0 := (Bk.new w7 35 #[.int .i64 k.lo, .int .i64 k.hi])
        obtain ⟨cK0, cK1⟩ := tcells K0
        clear K0
        clear cY0 cY1
        have cY0 := dY0
        have cY1 := dY1
        clear dY0 dY1
        clear cZ0 cZ1
        have cZ0 := dZ0
        have cZ1 := dZ1
        clear dZ0 dZ1
        clear cN0 cN1
        have cN0 := dN0
        have cN1 := dN1
        clear dN0 dN1
        replace HB := Lib.hid (below_al HB.out (.cells #[.int .i64 k.lo, .int .i64 k.hi] 35))
        generalize (w7.alloc (.cells #[.int .i64 k.lo, .int .i64 k.hi] 35)) = v7 at *
        cases hps : inE y (sg n3) <;> cases hpt : inE z (sg n3) <;> cases p
        · as_aux_lemma =>
         have HPA := Lib.hid hps
         have HPB := Lib.hid hpt
         clear hps hpt
         refine wp_region_held_drew (S := fun w' => w'.cell? ⟨w5.heap.size, 0, none⟩ = some (.int .i64 y.lo) ∧ w'.cell? ⟨w5.heap.size, 1, none⟩ = some (.int .i64 y.hi) ∧ w'.cell? ⟨w5.heap.size + 1, 0, none⟩ = some (.int .i64 z.lo) ∧ w'.cell? ⟨w5.heap.size + 1, 1, none⟩ = some (.int .i64 z.hi) ∧ w'.cell? ⟨w6.heap.size, 0, none⟩ = some (.int .i64 n.lo) ∧ w'.cell? ⟨w6.heap.size, 1, none⟩ = some (.int .i64 n.hi) ∧ w'.cell? ⟨w7.heap.size, 0, none⟩ = some (.int .i64 k.lo) ∧ w'.cell? ⟨w7.heap.size, 1, none⟩ = some (.int .i64 k.hi) ∧ Below w.heap.size w w') (by kernel_rfl) ⟨cY0, cY1, cZ0, cZ1, cN0, cN1, cK0, cK1, HB.out.drew⟩ (fun g => ?_)
         refine tq 0 ?_ rfl (by kernel_rfl) (fun _ _ _ h => h) (by rfl) g ?_ ?_
         rotate_left
         · intro w9 h; (try dsimp only at h); go_simp; try with_reducible rfl
         try simp only [Act.put, ps, p0, p1]
         refine tq 1 ?_ rfl (by kernel_rfl) (fun _ _ _ h => h) (by rfl) g ?_ ?_
         rotate_left
         · intro w9 h; (try dsimp only at h); go_simp; try with_reducible rfl
         try simp only [Act.put, ps, p0, p1]
         refine tu 2 rfl (by kernel_rfl) (fun _ _ _ h => h) (by rfl) g ?_
         try simp only [Act.put, ps, p0, p1]
         refine tu 3 rfl (by kernel_rfl) (fun _ _ _ h => h) (by rfl) g ?_
         try simp only [Act.put, ps, p0, p1]
         refine tu 4 rfl (by kernel_rfl) (fun _ _ _ h => h) (by rfl) g ?_
         try simp only [Act.put, ps, p0, p1]
         refine tq 5 ?_ rfl (by kernel_rfl) (fun _ _ _ h => h) (by rfl) g ?_ ?_
         rotate_left
         · intro w9 h; (try dsimp only at h); go_simp; try with_reducible rfl
         try simp only [Act.put, ps, p0, p1]
         refine tq 6 ?_ rfl (by kernel_rfl) (fun _ _ _ h => h) (by rfl) g ?_ ?_
         rotate_left
         · intro w9 h; (try dsimp only at h); go_simp; try with_reducible rfl
         try simp only [Act.put, ps, p0, p1]
         refine tq 7 ?_ rfl (by kernel_rfl) (fun _ _ _ h => h) (by rfl) g ?_ ?_
         rotate_left
         · intro w9 h; (try dsimp only at h); go_simp; try with_reducible rfl
         try simp only [Act.put, ps, p0, p1]
         refine tc 8 rfl (by kernel_rfl) (fun K hK => ?_)
         go_simp
         (go_at_call 53; with_reducible refine (sin_to y n3 false H3.out HPA.out _).mono ?_; rintro e z1 ⟨rfl, qb⟩)
         refine hK.out _ _ (keep8 qb g) (fun g1 => ?_)
         clear hK K qb
         try simp only [Act.put, ps, p0, p1]
         refine tq 9 ?_ rfl (by kernel_rfl) (fun _ _ _ h => h) (by rfl) g1 ?_ ?_
         rotate_left
         · intro w9 h; (try dsimp only at h); go_simp; try with_reducible rfl
         try simp only [Act.put, ps, p0, p1]
         refine tu 10 rfl (by kernel_rfl) (fun _ _ _ h => h) (by rfl) g1 ?_
         try simp only [Act.put, ps, p0, p1]
         refine tu 11 rfl (by kernel_rfl) (fun _ _ _ h => h) (by rfl) g1 ?_
         try simp only [Act.put, ps, p0, p1]
         refine tu 12 rfl (by kernel_rfl) (fun _ _ _ h => h) (by rfl) g1 ?_
         try simp only [Act.put, ps, p0, p1]
         refine tq 13 ?_ rfl (by kernel_rfl) (fun _ _ _ h => h) (by rfl) g1 ?_ ?_
         rotate_left
         · intro w9 h; (try dsimp only at h); go_simp; try with_reducible rfl
         try simp only [Act.put, ps, p0, p1]
         refine tq 14 ?_ rfl (by kernel_rfl) (fun _ _ _ h => h) (by rfl) g1 ?_ ?_
         rotate_left
         · intro w9 h; (try dsimp only at h); go_simp; try with_reducible rfl
         try simp only [Act.put, ps, p0, p1]
         refine tq 15 ?_ rfl (by kernel_rfl) (fun _ _ _ h => h) (by rfl) g1 ?_ ?_
         rotate_left
         · intro w9 h; (try dsimp only at h); go_simp; try with_reducible rfl
         try simp only [Act.put, ps, p0, p1]
         refine tq 16 ?_ rfl (by kernel_rfl) (fun _ _ _ h => h) (by rfl) g1 ?_ ?_
         rotate_left
         · intro w9 h; (try dsimp only at h); go_simp; try with_reducible rfl
         try simp only [Act.put, ps, p0, p1]
         refine tq 17 ?_ rfl (by kernel_rfl) (fun _ _ _ h => h) (by rfl) g1 ?_ ?_
         rotate_left
         · intro w9 h; (try dsimp only at h); go_simp; try with_reducible rfl
         try simp only [Act.put, ps, p0, p1]
         refine tc 18 rfl (by kernel_rfl) (fun K hK => ?_)
         go_simp
         (go_at_call 53; with_reducible refine (sin_to y n3 false H3.out HPA.out _).mono ?_; rintro e z2 ⟨rfl, qb⟩)
         refine hK.out _ _ (keep8 qb g1) (fun g2 => ?_)
         clear hK K qb g1
         try simp only [Act.put, ps, p0, p1]
         refine tq 19 ?_ rfl (by kernel_rfl) (fun _ _ _ h => h) (by rfl) g2 ?_ ?_
         rotate_left
         · intro w9 h; (try dsimp only at h); go_simp; try with_reducible rfl
         try simp only [Act.put, ps, p0, p1]
         refine tq 20 ?_ rfl (by kernel_rfl) (fun _ _ _ h => h) (by rfl) g2 ?_ ?_
         rotate_left
         · intro w9 h; (try dsimp only at h); go_simp; try with_reducible rfl
         try simp only [Act.put, ps, p0, p1]
         refine tu 21 rfl (by kernel_rfl) (fun _ _ _ h => h) (by rfl) g2 ?_
         try simp only [Act.put, ps, p0, p1]
         refine tu 22 rfl (by kernel_rfl) (fun _ _ _ h => h) (by rfl) g2 ?_
         try simp only [Act.put, ps, p0, p1]
         refine tu 23 rfl (by kernel_rfl) (fun _ _ _ h => h) (by rfl) g2 ?_
         try simp only [Act.put, ps, p0, p1]
         refine tq 24 ?_ rfl (by kernel_rfl) (fun _ _ _ h => h) (by rfl) g2 ?_ ?_
         rotate_left
         · intro w9 h; (try dsimp only at h); go_simp; try with_reducible rfl
         try simp only [Act.put, ps, p0, p1]
         refine tq 25 ?_ rfl (by kernel_rfl) (fun _ _ _ h => h) (by rfl) g2 ?_ ?_
         rotate_left
         · intro w9 h; (try dsimp only at h); go_simp; try with_reducible rfl
         try simp only [Act.put, ps, p0, p1]
         refine tq 26 ?_ rfl (by kernel_rfl) (fun _ _ _ h => h) (by rfl) g2 ?_ ?_
         rotate_left
         · intro w9 h; (try dsimp only at h); go_simp; try with_reducible rfl
         try simp only [Act.put, ps, p0, p1]
         refine tq 27 ?_ rfl (by kernel_rfl) (fun _ _ _ h => h) (by rfl) g2 ?_ ?_
         rotate_left
         · intro w9 h; (try dsimp only at h); go_simp; try with_reducible rfl
         try simp only [Act.put, ps, p0, p1]
         refine tq 28 ?_ rfl (by kernel_rfl) (fun _ _ _ h => h) (by rfl) g2 ?_ ?_
         rotate_left
         · intro w9 h; (try dsimp only at h); go_simp; try with_reducible rfl
         try simp only [Act.put, ps, p0, p1]
         refine tc 29 rfl (by kernel_rfl) (fun K hK => ?_)
         go_simp
         (go_at_call 55; with_reducible refine (swith_to y k true K1.out _).mono ?_; rintro e z3 ⟨rfl, qb⟩)
         refine hK.out _ _ (keep8 qb g2) (fun g3 => ?_)
         clear hK K qb g2
         try simp only [Act.put, ps, p0, p1]
         refine tq 30 ?_ rfl (by kernel_rfl) (fun _ _ _ h => h) (by rfl) g3 ?_ ?_
         rotate_left
         · intro w9 h; (try dsimp only at h); go_simp; try with_reducible rfl
         try simp only [Act.put, ps, p0, p1]
         refine tq 31 ?_ rfl (by kernel_rfl) (fun _ _ _ h => h) (by rfl) g3 ?_ ?_
         rotate_left
         · intro w9 h; (try dsimp only at h); go_simp; try with_reducible rfl
         try simp only [Act.put, ps, p0, p1]
         refine tq 32 ?_ rfl (by kernel_rfl) (fun _ _ _ h => h) (by rfl) g3 ?_ ?_
         rotate_left
         · intro w9 h; (try dsimp only at h); go_simp; try with_reducible rfl
         try simp only [Act.put, ps, p0, p1]
         refine tq 33 ?_ rfl (by kernel_rfl) (fun _ _ _ h => h) (by rfl) g3 ?_ ?_
         rotate_left
         · intro w9 h; (try dsimp only at h); go_simp; try with_reducible rfl
         try simp only [Act.put, ps, p0, p1]
         refine tc 34 rfl (by kernel_rfl) (fun K hK => ?_)
         go_simp
         (go_at_call 55; with_reducible refine (swith_to z k true K2.out _).mono ?_; rintro e z4 ⟨rfl, qb⟩)
         refine hK.out _ _ (keep8 qb g3) (fun g4 => ?_)
         clear hK K qb g3
         try simp only [Act.put, ps, p0, p1]
         refine tq 35 ?_ rfl (by kernel_rfl) (fun _ _ _ h => h) (by rfl) g4 ?_ ?_
         rotate_left
         · intro w9 h; (try dsimp only at h); go_simp; try with_reducible rfl
         try simp only [Act.put, ps, p0, p1]
         refine tq 36 ?_ rfl (by kernel_rfl) (fun _ _ _ h => h) (by rfl) g4 ?_ ?_
         rotate_left
         · intro w9 h; (try dsimp only at h); go_simp; try with_reducible rfl
         try simp only [Act.put, ps, p0, p1]
         refine tc 37 rfl (by kernel_rfl) (fun K hK => ?_)
         go_simp
         (go_at_call 49; with_reducible refine (works_any _).mono ?_; rintro e z5 ⟨rfl, qb⟩)
         refine hK.out _ _ (keep8 qb g4) (fun g5 => ?_)
         clear hK K qb g4
         try simp only [Act.put, ps, p0, p1]
         refine tq 38 ?_ rfl (by kernel_rfl) (fun _ _ _ h => h) (by rfl) g5 ?_ ?_
         rotate_left
         · intro w9 h; (try dsimp only at h); go_simp; try with_reducible rfl
         try simp only [Act.put, ps, p0, p1]
         refine tq 39 ?_ rfl (by kernel_rfl) (fun _ _ _ h => h) (by rfl) g5 ?_ ?_
         rotate_left
         · intro w9 h; (try dsimp only at h); go_simp; try with_reducible rfl
         try simp only [Act.put, ps, p0, p1]
         refine wpAnyH_done (by kernel_rfl) ?_ _
         have BB := Lib.hid g5.2.2.2.2.2.2.2.2
         go_wp2
         go_returns
         exact ⟨rfl, BB.out⟩
        · as_aux_lemma =>
         have HPA := Lib.hid hps
         have HPB := Lib.hid hpt
         have HIM := Lib.hid (show inE n (sg n3) = false by rw [NI.out rfl, hps, hpt]; rfl)
         clear hps hpt
         refine wp_region_held_drew (S := fun w' => w'.cell? ⟨w5.heap.size, 0, none⟩ = some (.int .i64 y.lo) ∧ w'.cell? ⟨w5.heap.size, 1, none⟩ = some (.int .i64 y.hi) ∧ w'.cell? ⟨w5.heap.size + 1, 0, none⟩ = some (.int .i64 z.lo) ∧ w'.cell? ⟨w5.heap.size + 1, 1, none⟩ = some (.int .i64 z.hi) ∧ w'.cell? ⟨w6.heap.size, 0, none⟩ = some (.int .i64 n.lo) ∧ w'.cell? ⟨w6.heap.size, 1, none⟩ = some (.int .i64 n.hi) ∧ w'.cell? ⟨w7.heap.size, 0, none⟩ = some (.int .i64 k.lo) ∧ w'.cell? ⟨w7.heap.size, 1, none⟩ = some (.int .i64 k.hi) ∧ Below w.heap.size w w') (by kernel_rfl) ⟨cY0, cY1, cZ0, cZ1, cN0, cN1, cK0, cK1, HB.out.drew⟩ (fun g => ?_)
         refine tq 0 ?_ rfl (by kernel_rfl) (fun _ _ _ h => h) (by rfl) g ?_ ?_
         rotate_left
         · intro w9 h; (try dsimp only at h); go_simp; try with_reducible rfl
         try simp only [Act.put, ps, p0, p1]
         refine tq 1 ?_ rfl (by kernel_rfl) (fun _ _ _ h => h) (by rfl) g ?_ ?_
         rotate_left
         · intro w9 h; (try dsimp only at h); go_simp; try with_reducible rfl
         try simp only [Act.put, ps, p0, p1]
         refine tq 2 ?_ rfl (by kernel_rfl) (fun _ _ _ h => h) (by rfl) g ?_ ?_
         rotate_left
         · intro w9 h; (try dsimp only at h); go_simp; try with_reducible rfl
         try simp only [Act.put, ps, p0, p1]
         refine tq 3 ?_ rfl (by kernel_rfl) (fun _ _ _ h => h) (by rfl) g ?_ ?_
         rotate_left
         · intro w9 h; (try dsimp only at h); go_simp; try with_reducible rfl
         try simp only [Act.put, ps, p0, p1]
         refine tq 6 ?_ rfl (by kernel_rfl) (fun _ _ _ h => h) (by rfl) g ?_ ?_
         rotate_left
         · intro w9 h; (try dsimp only at h); go_simp; try with_reducible rfl
         try simp only [Act.put, ps, p0, p1]
         refine tq 7 ?_ rfl (by kernel_rfl) (fun _ _ _ h => h) (by rfl) g ?_ ?_
         rotate_left
         · intro w9 h; (try dsimp only at h); go_simp; try with_reducible rfl
         try simp only [Act.put, ps, p0, p1]
         refine tc 4 rfl (by kernel_rfl) (fun K hK => ?_)
         go_simp
         (go_at_call 53; with_reducible refine (sin_to n n3 false H3.out HIM.out _).mono ?_; rintro e z1 ⟨rfl, qb⟩)
         refine hK.out _ _ (keep8 qb g) (fun g1 => ?_)
         clear hK K qb
         try simp only [Act.put, ps, p0, p1]
         refine tq 5 ?_ rfl (by kernel_rfl) (fun _ _ _ h => h) (by rfl) g1 ?_ ?_
         rotate_left
         · intro w9 h; (try dsimp only at h); go_simp; try with_reducible rfl
         try simp only [Act.put, ps, p0, p1]
         refine tc 8 rfl (by kernel_rfl) (fun K hK => ?_)
         go_simp
         (go_at_call 53; with_reducible refine (sin_to y n3 false H3.out HPA.out _).mono ?_; rintro e z2 ⟨rfl, qb⟩)
         refine hK.out _ _ (keep8 qb g1) (fun g2 => ?_)
         clear hK K qb g1
         try simp only [Act.put, ps, p0, p1]
         refine tq 9 ?_ rfl (by kernel_rfl) (fun _ _ _ h => h) (by rfl) g2 ?_ ?_
         rotate_left
         · intro w9 h; (try dsimp only at h); go_simp; try with_reducible rfl
         try simp only [Act.put, ps, p0, p1]
         refine tu 10 rfl (by kernel_rfl) (fun _ _ _ h => h) (by rfl) g2 ?_
         try simp only [Act.put, ps, p0, p1]
         refine tu 11 rfl (by kernel_rfl) (fun _ _ _ h => h) (by rfl) g2 ?_
         try simp only [Act.put, ps, p0, p1]
         refine tu 12 rfl (by kernel_rfl) (fun _ _ _ h => h) (by rfl) g2 ?_
         try simp only [Act.put, ps, p0, p1]
         refine tq 13 ?_ rfl (by kernel_rfl) (fun _ _ _ h => h) (by rfl) g2 ?_ ?_
         rotate_left
         · intro w9 h; (try dsimp only at h); go_simp; try with_reducible rfl
         try simp only [Act.put, ps, p0, p1]
         refine tq 14 ?_ rfl (by kernel_rfl) (fun _ _ _ h => h) (by rfl) g2 ?_ ?_
         rotate_left
         · intro w9 h; (try dsimp only at h); go_simp; try with_reducible rfl
         try simp only [Act.put, ps, p0, p1]
         refine tq 15 ?_ rfl (by kernel_rfl) (fun _ _ _ h => h) (by rfl) g2 ?_ ?_
         rotate_left
         · intro w9 h; (try dsimp only at h); go_simp; try with_reducible rfl
         try simp only [Act.put, ps, p0, p1]
         refine tq 16 ?_ rfl (by kernel_rfl) (fun _ _ _ h => h) (by rfl) g2 ?_ ?_
         rotate_left
         · intro w9 h; (try dsimp only at h); go_simp; try with_reducible rfl
         try simp only [Act.put, ps, p0, p1]
         refine tq 17 ?_ rfl (by kernel_rfl) (fun _ _ _ h => h) (by rfl) g2 ?_ ?_
         rotate_left
         · intro w9 h; (try dsimp only at h); go_simp; try with_reducible rfl
         try simp only [Act.put, ps, p0, p1]
         refine tc 18 rfl (by kernel_rfl) (fun K hK => ?_)
         go_simp
         (go_at_call 53; with_reducible refine (sin_to y n3 false H3.out HPA.out _).mono ?_; rintro e z3 ⟨rfl, qb⟩)
         refine hK.out _ _ (keep8 qb g2) (fun g3 => ?_)
         clear hK K qb g2
         try simp only [Act.put, ps, p0, p1]
         refine tq 19 ?_ rfl (by kernel_rfl) (fun _ _ _ h => h) (by rfl) g3 ?_ ?_
         rotate_left
         · intro w9 h; (try dsimp only at h); go_simp; try with_reducible rfl
         try simp only [Act.put, ps, p0, p1]
         refine tq 20 ?_ rfl (by kernel_rfl) (fun _ _ _ h => h) (by rfl) g3 ?_ ?_
         rotate_left
         · intro w9 h; (try dsimp only at h); go_simp; try with_reducible rfl
         try simp only [Act.put, ps, p0, p1]
         refine tu 21 rfl (by kernel_rfl) (fun _ _ _ h => h) (by rfl) g3 ?_
         try simp only [Act.put, ps, p0, p1]
         refine tu 22 rfl (by kernel_rfl) (fun _ _ _ h => h) (by rfl) g3 ?_
         try simp only [Act.put, ps, p0, p1]
         refine tu 23 rfl (by kernel_rfl) (fun _ _ _ h => h) (by rfl) g3 ?_
         try simp only [Act.put, ps, p0, p1]
         refine tq 24 ?_ rfl (by kernel_rfl) (fun _ _ _ h => h) (by rfl) g3 ?_ ?_
         rotate_left
         · intro w9 h; (try dsimp only at h); go_simp; try with_reducible rfl
         try simp only [Act.put, ps, p0, p1]
         refine tq 25 ?_ rfl (by kernel_rfl) (fun _ _ _ h => h) (by rfl) g3 ?_ ?_
         rotate_left
         · intro w9 h; (try dsimp only at h); go_simp; try with_reducible rfl
         try simp only [Act.put, ps, p0, p1]
         refine tq 26 ?_ rfl (by kernel_rfl) (fun _ _ _ h => h) (by rfl) g3 ?_ ?_
         rotate_left
         · intro w9 h; (try dsimp only at h); go_simp; try with_reducible rfl
         try simp only [Act.put, ps, p0, p1]
         refine tq 27 ?_ rfl (by kernel_rfl) (fun _ _ _ h => h) (by rfl) g3 ?_ ?_
         rotate_left
         · intro w9 h; (try dsimp only at h); go_simp; try with_reducible rfl
         try simp only [Act.put, ps, p0, p1]
         refine tq 28 ?_ rfl (by kernel_rfl) (fun _ _ _ h => h) (by rfl) g3 ?_ ?_
         rotate_left
         · intro w9 h; (try dsimp only at h); go_simp; try with_reducible rfl
         try simp only [Act.put, ps, p0, p1]
         refine tc 29 rfl (by kernel_rfl) (fun K hK => ?_)
         go_simp
         (go_at_call 55; with_reducible refine (swith_to y k true K1.out _).mono ?_; rintro e z4 ⟨rfl, qb⟩)
         refine hK.out _ _ (keep8 qb g3) (fun g4 => ?_)
         clear hK K qb g3
         try simp only [Act.put, ps, p0, p1]
         refine tq 30 ?_ rfl (by kernel_rfl) (fun _ _ _ h => h) (by rfl) g4 ?_ ?_
         rotate_left
         · intro w9 h; (try dsimp only at h); go_simp; try with_reducible rfl
         try simp only [Act.put, ps, p0, p1]
         refine tq 31 ?_ rfl (by kernel_rfl) (fun _ _ _ h => h) (by rfl) g4 ?_ ?_
         rotate_left
         · intro w9 h; (try dsimp only at h); go_simp; try with_reducible rfl
         try simp only [Act.put, ps, p0, p1]
         refine tq 32 ?_ rfl (by kernel_rfl) (fun _ _ _ h => h) (by rfl) g4 ?_ ?_
         rotate_left
         · intro w9 h; (try dsimp only at h); go_simp; try with_reducible rfl
         try simp only [Act.put, ps, p0, p1]
         refine tq 33 ?_ rfl (by kernel_rfl) (fun _ _ _ h => h) (by rfl) g4 ?_ ?_
         rotate_left
         · intro w9 h; (try dsimp only at h); go_simp; try with_reducible rfl
         try simp only [Act.put, ps, p0, p1]
         refine tc 34 rfl (by kernel_rfl) (fun K hK => ?_)
         go_simp
         (go_at_call 55; with_reducible refine (swith_to z k true K2.out _).mono ?_; rintro e z5 ⟨rfl, qb⟩)
         refine hK.out _ _ (keep8 qb g4) (fun g5 => ?_)
         clear hK K qb g4
         try simp only [Act.put, ps, p0, p1]
         refine tq 35 ?_ rfl (by kernel_rfl) (fun _ _ _ h => h) (by rfl) g5 ?_ ?_
         rotate_left
         · intro w9 h; (try dsimp only at h); go_simp; try with_reducible rfl
         try simp only [Act.put, ps, p0, p1]
         refine tq 36 ?_ rfl (by kernel_rfl) (fun _ _ _ h => h) (by rfl) g5 ?_ ?_
         rotate_left
         · intro w9 h; (try dsimp only at h); go_simp; try with_reducible rfl
         try simp only [Act.put, ps, p0, p1]
         refine tc 37 rfl (by kernel_rfl) (fun K hK => ?_)
         go_simp
         (go_at_call 49; with_reducible refine (works_any _).mono ?_; rintro e z6 ⟨rfl, qb⟩)
         refine hK.out _ _ (keep8 qb g5) (fun g6 => ?_)
         clear hK K qb g5
         try simp only [Act.put, ps, p0, p1]
         refine tq 38 ?_ rfl (by kernel_rfl) (fun _ _ _ h => h) (by rfl) g6 ?_ ?_
         rotate_left
         · intro w9 h; (try dsimp only at h); go_simp; try with_reducible rfl
         try simp only [Act.put, ps, p0, p1]
         refine tq 39 ?_ rfl (by kernel_rfl) (fun _ _ _ h => h) (by rfl) g6 ?_ ?_
         rotate_left
         · intro w9 h; (try dsimp only at h); go_simp; try with_reducible rfl
         try simp only [Act.put, ps, p0, p1]
         refine wpAnyH_done (by kernel_rfl) ?_ _
         have BB := Lib.hid g6.2.2.2.2.2.2.2.2
         go_wp2
         go_returns
         exact ⟨rfl, BB.out⟩
        · as_aux_lemma =>
         have HPA := Lib.hid hps
         have HPB := Lib.hid hpt
         clear hps hpt
         refine wp_region_held_drew (S := fun w' => w'.cell? ⟨w5.heap.size, 0, none⟩ = some (.int .i64 y.lo) ∧ w'.cell? ⟨w5.heap.size, 1, none⟩ = some (.int .i64 y.hi) ∧ w'.cell? ⟨w5.heap.size + 1, 0, none⟩ = some (.int .i64 z.lo) ∧ w'.cell? ⟨w5.heap.size + 1, 1, none⟩ = some (.int .i64 z.hi) ∧ w'.cell? ⟨w6.heap.size, 0, none⟩ = some (.int .i64 n.lo) ∧ w'.cell? ⟨w6.heap.size, 1, none⟩ = some (.int .i64 n.hi) ∧ w'.cell? ⟨w7.heap.size, 0, none⟩ = some (.int .i64 k.lo) ∧ w'.cell? ⟨w7.heap.size, 1, none⟩ = some (.int .i64 k.hi) ∧ Below w.heap.size w w') (by kernel_rfl) ⟨cY0, cY1, cZ0, cZ1, cN0, cN1, cK0, cK1, HB.out.drew⟩ (fun g => ?_)
         refine tq 0 ?_ rfl (by kernel_rfl) (fun _ _ _ h => h) (by rfl) g ?_ ?_
         rotate_left
         · intro w9 h; (try dsimp only at h); go_simp; try with_reducible rfl
         try simp only [Act.put, ps, p0, p1]
         refine tq 1 ?_ rfl (by kernel_rfl) (fun _ _ _ h => h) (by rfl) g ?_ ?_
         rotate_left
         · intro w9 h; (try dsimp only at h); go_simp; try with_reducible rfl
         try simp only [Act.put, ps, p0, p1]
         refine tu 2 rfl (by kernel_rfl) (fun _ _ _ h => h) (by rfl) g ?_
         try simp only [Act.put, ps, p0, p1]
         refine tu 3 rfl (by kernel_rfl) (fun _ _ _ h => h) (by rfl) g ?_
         try simp only [Act.put, ps, p0, p1]
         refine tu 4 rfl (by kernel_rfl) (fun _ _ _ h => h) (by rfl) g ?_
         try simp only [Act.put, ps, p0, p1]
         refine tq 5 ?_ rfl (by kernel_rfl) (fun _ _ _ h => h) (by rfl) g ?_ ?_
         rotate_left
         · intro w9 h; (try dsimp only at h); go_simp; try with_reducible rfl
         try simp only [Act.put, ps, p0, p1]
         refine tq 6 ?_ rfl (by kernel_rfl) (fun _ _ _ h => h) (by rfl) g ?_ ?_
         rotate_left
         · intro w9 h; (try dsimp only at h); go_simp; try with_reducible rfl
         try simp only [Act.put, ps, p0, p1]
         refine tq 7 ?_ rfl (by kernel_rfl) (fun _ _ _ h => h) (by rfl) g ?_ ?_
         rotate_left
         · intro w9 h; (try dsimp only at h); go_simp; try with_reducible rfl
         try simp only [Act.put, ps, p0, p1]
         refine tc 8 rfl (by kernel_rfl) (fun K hK => ?_)
         go_simp
         (go_at_call 53; with_reducible refine (sin_to y n3 false H3.out HPA.out _).mono ?_; rintro e z1 ⟨rfl, qb⟩)
         refine hK.out _ _ (keep8 qb g) (fun g1 => ?_)
         clear hK K qb
         try simp only [Act.put, ps, p0, p1]
         refine tq 9 ?_ rfl (by kernel_rfl) (fun _ _ _ h => h) (by rfl) g1 ?_ ?_
         rotate_left
         · intro w9 h; (try dsimp only at h); go_simp; try with_reducible rfl
         try simp only [Act.put, ps, p0, p1]
         refine tu 10 rfl (by kernel_rfl) (fun _ _ _ h => h) (by rfl) g1 ?_
         try simp only [Act.put, ps, p0, p1]
         refine tu 11 rfl (by kernel_rfl) (fun _ _ _ h => h) (by rfl) g1 ?_
         try simp only [Act.put, ps, p0, p1]
         refine tu 12 rfl (by kernel_rfl) (fun _ _ _ h => h) (by rfl) g1 ?_
         try simp only [Act.put, ps, p0, p1]
         refine tq 13 ?_ rfl (by kernel_rfl) (fun _ _ _ h => h) (by rfl) g1 ?_ ?_
         rotate_left
         · intro w9 h; (try dsimp only at h); go_simp; try with_reducible rfl
         try simp only [Act.put, ps, p0, p1]
         refine tq 14 ?_ rfl (by kernel_rfl) (fun _ _ _ h => h) (by rfl) g1 ?_ ?_
         rotate_left
         · intro w9 h; (try dsimp only at h); go_simp; try with_reducible rfl
         try simp only [Act.put, ps, p0, p1]
         refine tq 15 ?_ rfl (by kernel_rfl) (fun _ _ _ h => h) (by rfl) g1 ?_ ?_
         rotate_left
         · intro w9 h; (try dsimp only at h); go_simp; try with_reducible rfl
         try simp only [Act.put, ps, p0, p1]
         refine tq 16 ?_ rfl (by kernel_rfl) (fun _ _ _ h => h) (by rfl) g1 ?_ ?_
         rotate_left
         · intro w9 h; (try dsimp only at h); go_simp; try with_reducible rfl
         try simp only [Act.put, ps, p0, p1]
         refine tq 17 ?_ rfl (by kernel_rfl) (fun _ _ _ h => h) (by rfl) g1 ?_ ?_
         rotate_left
         · intro w9 h; (try dsimp only at h); go_simp; try with_reducible rfl
         try simp only [Act.put, ps, p0, p1]
         refine tc 18 rfl (by kernel_rfl) (fun K hK => ?_)
         go_simp
         (go_at_call 53; with_reducible refine (sin_to y n3 false H3.out HPA.out _).mono ?_; rintro e z2 ⟨rfl, qb⟩)
         refine hK.out _ _ (keep8 qb g1) (fun g2 => ?_)
         clear hK K qb g1
         try simp only [Act.put, ps, p0, p1]
         refine tq 19 ?_ rfl (by kernel_rfl) (fun _ _ _ h => h) (by rfl) g2 ?_ ?_
         rotate_left
         · intro w9 h; (try dsimp only at h); go_simp; try with_reducible rfl
         try simp only [Act.put, ps, p0, p1]
         refine tq 20 ?_ rfl (by kernel_rfl) (fun _ _ _ h => h) (by rfl) g2 ?_ ?_
         rotate_left
         · intro w9 h; (try dsimp only at h); go_simp; try with_reducible rfl
         try simp only [Act.put, ps, p0, p1]
         refine tu 21 rfl (by kernel_rfl) (fun _ _ _ h => h) (by rfl) g2 ?_
         try simp only [Act.put, ps, p0, p1]
         refine tu 22 rfl (by kernel_rfl) (fun _ _ _ h => h) (by rfl) g2 ?_
         try simp only [Act.put, ps, p0, p1]
         refine tu 23 rfl (by kernel_rfl) (fun _ _ _ h => h) (by rfl) g2 ?_
         try simp only [Act.put, ps, p0, p1]
         refine tq 24 ?_ rfl (by kernel_rfl) (fun _ _ _ h => h) (by rfl) g2 ?_ ?_
         rotate_left
         · intro w9 h; (try dsimp only at h); go_simp; try with_reducible rfl
         try simp only [Act.put, ps, p0, p1]
         refine tq 25 ?_ rfl (by kernel_rfl) (fun _ _ _ h => h) (by rfl) g2 ?_ ?_
         rotate_left
         · intro w9 h; (try dsimp only at h); go_simp; try with_reducible rfl
         try simp only [Act.put, ps, p0, p1]
         refine tq 26 ?_ rfl (by kernel_rfl) (fun _ _ _ h => h) (by rfl) g2 ?_ ?_
         rotate_left
         · intro w9 h; (try dsimp only at h); go_simp; try with_reducible rfl
         try simp only [Act.put, ps, p0, p1]
         refine tq 27 ?_ rfl (by kernel_rfl) (fun _ _ _ h => h) (by rfl) g2 ?_ ?_
         rotate_left
         · intro w9 h; (try dsimp only at h); go_simp; try with_reducible rfl
         try simp only [Act.put, ps, p0, p1]
         refine tq 28 ?_ rfl (by kernel_rfl) (fun _ _ _ h => h) (by rfl) g2 ?_ ?_
         rotate_left
         · intro w9 h; (try dsimp only at h); go_simp; try with_reducible rfl
         try simp only [Act.put, ps, p0, p1]
         refine tc 29 rfl (by kernel_rfl) (fun K hK => ?_)
         go_simp
         (go_at_call 55; with_reducible refine (swith_to y k true K1.out _).mono ?_; rintro e z3 ⟨rfl, qb⟩)
         refine hK.out _ _ (keep8 qb g2) (fun g3 => ?_)
         clear hK K qb g2
         try simp only [Act.put, ps, p0, p1]
         refine tq 30 ?_ rfl (by kernel_rfl) (fun _ _ _ h => h) (by rfl) g3 ?_ ?_
         rotate_left
         · intro w9 h; (try dsimp only at h); go_simp; try with_reducible rfl
         try simp only [Act.put, ps, p0, p1]
         refine tq 31 ?_ rfl (by kernel_rfl) (fun _ _ _ h => h) (by rfl) g3 ?_ ?_
         rotate_left
         · intro w9 h; (try dsimp only at h); go_simp; try with_reducible rfl
         try simp only [Act.put, ps, p0, p1]
         refine tq 32 ?_ rfl (by kernel_rfl) (fun _ _ _ h => h) (by rfl) g3 ?_ ?_
         rotate_left
         · intro w9 h; (try dsimp only at h); go_simp; try with_reducible rfl
         try simp only [Act.put, ps, p0, p1]
         refine tq 33 ?_ rfl (by kernel_rfl) (fun _ _ _ h => h) (by rfl) g3 ?_ ?_
         rotate_left
         · intro w9 h; (try dsimp only at h); go_simp; try with_reducible rfl
         try simp only [Act.put, ps, p0, p1]
         refine tc 34 rfl (by kernel_rfl) (fun K hK => ?_)
         go_simp
         (go_at_call 55; with_reducible refine (swith_to z k true K2.out _).mono ?_; rintro e z4 ⟨rfl, qb⟩)
         refine hK.out _ _ (keep8 qb g3) (fun g4 => ?_)
         clear hK K qb g3
         try simp only [Act.put, ps, p0, p1]
         refine tq 35 ?_ rfl (by kernel_rfl) (fun _ _ _ h => h) (by rfl) g4 ?_ ?_
         rotate_left
         · intro w9 h; (try dsimp only at h); go_simp; try with_reducible rfl
         try simp only [Act.put, ps, p0, p1]
         refine tq 36 ?_ rfl (by kernel_rfl) (fun _ _ _ h => h) (by rfl) g4 ?_ ?_
         rotate_left
         · intro w9 h; (try dsimp only at h); go_simp; try with_reducible rfl
         try simp only [Act.put, ps, p0, p1]
         refine tc 37 rfl (by kernel_rfl) (fun K hK => ?_)
         go_simp
         (go_at_call 49; with_reducible refine (works_any _).mono ?_; rintro e z5 ⟨rfl, qb⟩)
         refine hK.out _ _ (keep8 qb g4) (fun g5 => ?_)
         clear hK K qb g4
         try simp only [Act.put, ps, p0, p1]
         refine tq 38 ?_ rfl (by kernel_rfl) (fun _ _ _ h => h) (by rfl) g5 ?_ ?_
         rotate_left
         · intro w9 h; (try dsimp only at h); go_simp; try with_reducible rfl
         try simp only [Act.put, ps, p0, p1]
         refine tq 39 ?_ rfl (by kernel_rfl) (fun _ _ _ h => h) (by rfl) g5 ?_ ?_
         rotate_left
         · intro w9 h; (try dsimp only at h); go_simp; try with_reducible rfl
         try simp only [Act.put, ps, p0, p1]
         refine wpAnyH_done (by kernel_rfl) ?_ _
         have BB := Lib.hid g5.2.2.2.2.2.2.2.2
         go_wp2
         go_returns
         exact ⟨rfl, BB.out⟩
        · as_aux_lemma =>
         have HPA := Lib.hid hps
         have HPB := Lib.hid hpt
         have HIM := Lib.hid (show inE n (sg n3) = false by rw [NI.out rfl, hps, hpt]; rfl)
         clear hps hpt
         refine wp_region_held_drew (S := fun w' => w'.cell? ⟨w5.heap.size, 0, none⟩ = some (.int .i64 y.lo) ∧ w'.cell? ⟨w5.heap.size, 1, none⟩ = some (.int .i64 y.hi) ∧ w'.cell? ⟨w5.heap.size + 1, 0, none⟩ = some (.int .i64 z.lo) ∧ w'.cell? ⟨w5.heap.size + 1, 1, none⟩ = some (.int .i64 z.hi) ∧ w'.cell? ⟨w6.heap.size, 0, none⟩ = some (.int .i64 n.lo) ∧ w'.cell? ⟨w6.heap.size, 1, none⟩ = some (.int .i64 n.hi) ∧ w'.cell? ⟨w7.heap.size, 0, none⟩ = some (.int .i64 k.lo) ∧ w'.cell? ⟨w7.heap.size, 1, none⟩ = some (.int .i64 k.hi) ∧ Below w.heap.size w w') (by kernel_rfl) ⟨cY0, cY1, cZ0, cZ1, cN0, cN1, cK0, cK1, HB.out.drew⟩ (fun g => ?_)
         refine tq 0 ?_ rfl (by kernel_rfl) (fun _ _ _ h => h) (by rfl) g ?_ ?_
         rotate_left
         · intro w9 h; (try dsimp only at h); go_simp; try with_reducible rfl
         try simp only [Act.put, ps, p0, p1]
         refine tq 1 ?_ rfl (by kernel_rfl) (fun _ _ _ h => h) (by rfl) g ?_ ?_
         rotate_left
         · intro w9 h; (try dsimp only at h); go_simp; try with_reducible rfl
         try simp only [Act.put, ps, p0, p1]
         refine tq 2 ?_ rfl (by kernel_rfl) (fun _ _ _ h => h) (by rfl) g ?_ ?_
         rotate_left
         · intro w9 h; (try dsimp only at h); go_simp; try with_reducible rfl
         try simp only [Act.put, ps, p0, p1]
         refine tq 3 ?_ rfl (by kernel_rfl) (fun _ _ _ h => h) (by rfl) g ?_ ?_
         rotate_left
         · intro w9 h; (try dsimp only at h); go_simp; try with_reducible rfl
         try simp only [Act.put, ps, p0, p1]
         refine tq 6 ?_ rfl (by kernel_rfl) (fun _ _ _ h => h) (by rfl) g ?_ ?_
         rotate_left
         · intro w9 h; (try dsimp only at h); go_simp; try with_reducible rfl
         try simp only [Act.put, ps, p0, p1]
         refine tq 7 ?_ rfl (by kernel_rfl) (fun _ _ _ h => h) (by rfl) g ?_ ?_
         rotate_left
         · intro w9 h; (try dsimp only at h); go_simp; try with_reducible rfl
         try simp only [Act.put, ps, p0, p1]
         refine tc 4 rfl (by kernel_rfl) (fun K hK => ?_)
         go_simp
         (go_at_call 53; with_reducible refine (sin_to n n3 false H3.out HIM.out _).mono ?_; rintro e z1 ⟨rfl, qb⟩)
         refine hK.out _ _ (keep8 qb g) (fun g1 => ?_)
         clear hK K qb
         try simp only [Act.put, ps, p0, p1]
         refine tq 5 ?_ rfl (by kernel_rfl) (fun _ _ _ h => h) (by rfl) g1 ?_ ?_
         rotate_left
         · intro w9 h; (try dsimp only at h); go_simp; try with_reducible rfl
         try simp only [Act.put, ps, p0, p1]
         refine tc 8 rfl (by kernel_rfl) (fun K hK => ?_)
         go_simp
         (go_at_call 53; with_reducible refine (sin_to y n3 false H3.out HPA.out _).mono ?_; rintro e z2 ⟨rfl, qb⟩)
         refine hK.out _ _ (keep8 qb g1) (fun g2 => ?_)
         clear hK K qb g1
         try simp only [Act.put, ps, p0, p1]
         refine tq 9 ?_ rfl (by kernel_rfl) (fun _ _ _ h => h) (by rfl) g2 ?_ ?_
         rotate_left
         · intro w9 h; (try dsimp only at h); go_simp; try with_reducible rfl
         try simp only [Act.put, ps, p0, p1]
         refine tu 10 rfl (by kernel_rfl) (fun _ _ _ h => h) (by rfl) g2 ?_
         try simp only [Act.put, ps, p0, p1]
         refine tu 11 rfl (by kernel_rfl) (fun _ _ _ h => h) (by rfl) g2 ?_
         try simp only [Act.put, ps, p0, p1]
         refine tu 12 rfl (by kernel_rfl) (fun _ _ _ h => h) (by rfl) g2 ?_
         try simp only [Act.put, ps, p0, p1]
         refine tq 13 ?_ rfl (by kernel_rfl) (fun _ _ _ h => h) (by rfl) g2 ?_ ?_
         rotate_left
         · intro w9 h; (try dsimp only at h); go_simp; try with_reducible rfl
         try simp only [Act.put, ps, p0, p1]
         refine tq 14 ?_ rfl (by kernel_rfl) (fun _ _ _ h => h) (by rfl) g2 ?_ ?_
         rotate_left
         · intro w9 h; (try dsimp only at h); go_simp; try with_reducible rfl
         try simp only [Act.put, ps, p0, p1]
         refine tq 15 ?_ rfl (by kernel_rfl) (fun _ _ _ h => h) (by rfl) g2 ?_ ?_
         rotate_left
         · intro w9 h; (try dsimp only at h); go_simp; try with_reducible rfl
         try simp only [Act.put, ps, p0, p1]
         refine tq 16 ?_ rfl (by kernel_rfl) (fun _ _ _ h => h) (by rfl) g2 ?_ ?_
         rotate_left
         · intro w9 h; (try dsimp only at h); go_simp; try with_reducible rfl
         try simp only [Act.put, ps, p0, p1]
         refine tq 17 ?_ rfl (by kernel_rfl) (fun _ _ _ h => h) (by rfl) g2 ?_ ?_
         rotate_left
         · intro w9 h; (try dsimp only at h); go_simp; try with_reducible rfl
         try simp only [Act.put, ps, p0, p1]
         refine tc 18 rfl (by kernel_rfl) (fun K hK => ?_)
         go_simp
         (go_at_call 53; with_reducible refine (sin_to y n3 false H3.out HPA.out _).mono ?_; rintro e z3 ⟨rfl, qb⟩)
         refine hK.out _ _ (keep8 qb g2) (fun g3 => ?_)
         clear hK K qb g2
         try simp only [Act.put, ps, p0, p1]
         refine tq 19 ?_ rfl (by kernel_rfl) (fun _ _ _ h => h) (by rfl) g3 ?_ ?_
         rotate_left
         · intro w9 h; (try dsimp only at h); go_simp; try with_reducible rfl
         try simp only [Act.put, ps, p0, p1]
         refine tq 20 ?_ rfl (by kernel_rfl) (fun _ _ _ h => h) (by rfl) g3 ?_ ?_
         rotate_left
         · intro w9 h; (try dsimp only at h); go_simp; try with_reducible rfl
         try simp only [Act.put, ps, p0, p1]
         refine tu 21 rfl (by kernel_rfl) (fun _ _ _ h => h) (by rfl) g3 ?_
         try simp only [Act.put, ps, p0, p1]
         refine tu 22 rfl (by kernel_rfl) (fun _ _ _ h => h) (by rfl) g3 ?_
         try simp only [Act.put, ps, p0, p1]
         refine tu 23 rfl (by kernel_rfl) (fun _ _ _ h => h) (by rfl) g3 ?_
         try simp only [Act.put, ps, p0, p1]
         refine tq 24 ?_ rfl (by kernel_rfl) (fun _ _ _ h => h) (by rfl) g3 ?_ ?_
         rotate_left
         · intro w9 h; (try dsimp only at h); go_simp; try with_reducible rfl
         try simp only [Act.put, ps, p0, p1]
         refine tq 25 ?_ rfl (by kernel_rfl) (fun _ _ _ h => h) (by rfl) g3 ?_ ?_
         rotate_left
         · intro w9 h; (try dsimp only at h); go_simp; try with_reducible rfl
         try simp only [Act.put, ps, p0, p1]
         refine tq 26 ?_ rfl (by kernel_rfl) (fun _ _ _ h => h) (by rfl) g3 ?_ ?_
         rotate_left
         · intro w9 h; (try dsimp only at h); go_simp; try with_reducible rfl
         try simp only [Act.put, ps, p0, p1]
         refine tq 27 ?_ rfl (by kernel_rfl) (fun _ _ _ h => h) (by rfl) g3 ?_ ?_
         rotate_left
         · intro w9 h; (try dsimp only at h); go_simp; try with_reducible rfl
         try simp only [Act.put, ps, p0, p1]
         refine tq 28 ?_ rfl (by kernel_rfl) (fun _ _ _ h => h) (by rfl) g3 ?_ ?_
         rotate_left
         · intro w9 h; (try dsimp only at h); go_simp; try with_reducible rfl
         try simp only [Act.put, ps, p0, p1]
         refine tc 29 rfl (by kernel_rfl) (fun K hK => ?_)
         go_simp
         (go_at_call 55; with_reducible refine (swith_to y k true K1.out _).mono ?_; rintro e z4 ⟨rfl, qb⟩)
         refine hK.out _ _ (keep8 qb g3) (fun g4 => ?_)
         clear hK K qb g3
         try simp only [Act.put, ps, p0, p1]
         refine tq 30 ?_ rfl (by kernel_rfl) (fun _ _ _ h => h) (by rfl) g4 ?_ ?_
         rotate_left
         · intro w9 h; (try dsimp only at h); go_simp; try with_reducible rfl
         try simp only [Act.put, ps, p0, p1]
         refine tq 31 ?_ rfl (by kernel_rfl) (fun _ _ _ h => h) (by rfl) g4 ?_ ?_
         rotate_left
         · intro w9 h; (try dsimp only at h); go_simp; try with_reducible rfl
         try simp only [Act.put, ps, p0, p1]
         refine tq 32 ?_ rfl (by kernel_rfl) (fun _ _ _ h => h) (by rfl) g4 ?_ ?_
         rotate_left
         · intro w9 h; (try dsimp only at h); go_simp; try with_reducible rfl
         try simp only [Act.put, ps, p0, p1]
         refine tq 33 ?_ rfl (by kernel_rfl) (fun _ _ _ h => h) (by rfl) g4 ?_ ?_
         rotate_left
         · intro w9 h; (try dsimp only at h); go_simp; try with_reducible rfl
         try simp only [Act.put, ps, p0, p1]
         refine tc 34 rfl (by kernel_rfl) (fun K hK => ?_)
         go_simp
         (go_at_call 55; with_reducible refine (swith_to z k true K2.out _).mono ?_; rintro e z5 ⟨rfl, qb⟩)
         refine hK.out _ _ (keep8 qb g4) (fun g5 => ?_)
         clear hK K qb g4
         try simp only [Act.put, ps, p0, p1]
         refine tq 35 ?_ rfl (by kernel_rfl) (fun _ _ _ h => h) (by rfl) g5 ?_ ?_
         rotate_left
         · intro w9 h; (try dsimp only at h); go_simp; try with_reducible rfl
         try simp only [Act.put, ps, p0, p1]
         refine tq 36 ?_ rfl (by kernel_rfl) (fun _ _ _ h => h) (by rfl) g5 ?_ ?_
         rotate_left
         · intro w9 h; (try dsimp only at h); go_simp; try with_reducible rfl
         try simp only [Act.put, ps, p0, p1]
         refine tc 37 rfl (by kernel_rfl) (fun K hK => ?_)
         go_simp
         (go_at_call 49; with_reducible refine (works_any _).mono ?_; rintro e z6 ⟨rfl, qb⟩)
         refine hK.out _ _ (keep8 qb g5) (fun g6 => ?_)
         clear hK K qb g5
         try simp only [Act.put, ps, p0, p1]
         refine tq 38 ?_ rfl (by kernel_rfl) (fun _ _ _ h => h) (by rfl) g6 ?_ ?_
         rotate_left
         · intro w9 h; (try dsimp only at h); go_simp; try with_reducible rfl
         try simp only [Act.put, ps, p0, p1]
         refine tq 39 ?_ rfl (by kernel_rfl) (fun _ _ _ h => h) (by rfl) g6 ?_ ?_
         rotate_left
         · intro w9 h; (try dsimp only at h); go_simp; try with_reducible rfl
         try simp only [Act.put, ps, p0, p1]
         refine wpAnyH_done (by kernel_rfl) ?_ _
         have BB := Lib.hid g6.2.2.2.2.2.2.2.2
         go_wp2
         go_returns
         exact ⟨rfl, BB.out⟩
        · as_aux_lemma =>
         have HPA := Lib.hid hps
         have HPB := Lib.hid hpt
         have HPJ := Lib.hid (KI.out (Or.inl hps))
         clear hps hpt
         refine wp_region_held_drew (S := fun w' => w'.cell? ⟨w5.heap.size, 0, none⟩ = some (.int .i64 y.lo) ∧ w'.cell? ⟨w5.heap.size, 1, none⟩ = some (.int .i64 y.hi) ∧ w'.cell? ⟨w5.heap.size + 1, 0, none⟩ = some (.int .i64 z.lo) ∧ w'.cell? ⟨w5.heap.size + 1, 1, none⟩ = some (.int .i64 z.hi) ∧ w'.cell? ⟨w6.heap.size, 0, none⟩ = some (.int .i64 n.lo) ∧ w'.cell? ⟨w6.heap.size, 1, none⟩ = some (.int .i64 n.hi) ∧ w'.cell? ⟨w7.heap.size, 0, none⟩ = some (.int .i64 k.lo) ∧ w'.cell? ⟨w7.heap.size, 1, none⟩ = some (.int .i64 k.hi) ∧ Below w.heap.size w w') (by kernel_rfl) ⟨cY0, cY1, cZ0, cZ1, cN0, cN1, cK0, cK1, HB.out.drew⟩ (fun g => ?_)
         refine tq 0 ?_ rfl (by kernel_rfl) (fun _ _ _ h => h) (by rfl) g ?_ ?_
         rotate_left
         · intro w9 h; (try dsimp only at h); go_simp; try with_reducible rfl
         try simp only [Act.put, ps, p0, p1]
         refine tq 1 ?_ rfl (by kernel_rfl) (fun _ _ _ h => h) (by rfl) g ?_ ?_
         rotate_left
         · intro w9 h; (try dsimp only at h); go_simp; try with_reducible rfl
         try simp only [Act.put, ps, p0, p1]
         refine tu 2 rfl (by kernel_rfl) (fun _ _ _ h => h) (by rfl) g ?_
         try simp only [Act.put, ps, p0, p1]
         refine tu 3 rfl (by kernel_rfl) (fun _ _ _ h => h) (by rfl) g ?_
         try simp only [Act.put, ps, p0, p1]
         refine tu 4 rfl (by kernel_rfl) (fun _ _ _ h => h) (by rfl) g ?_
         try simp only [Act.put, ps, p0, p1]
         refine tq 5 ?_ rfl (by kernel_rfl) (fun _ _ _ h => h) (by rfl) g ?_ ?_
         rotate_left
         · intro w9 h; (try dsimp only at h); go_simp; try with_reducible rfl
         try simp only [Act.put, ps, p0, p1]
         refine tq 6 ?_ rfl (by kernel_rfl) (fun _ _ _ h => h) (by rfl) g ?_ ?_
         rotate_left
         · intro w9 h; (try dsimp only at h); go_simp; try with_reducible rfl
         try simp only [Act.put, ps, p0, p1]
         refine tq 7 ?_ rfl (by kernel_rfl) (fun _ _ _ h => h) (by rfl) g ?_ ?_
         rotate_left
         · intro w9 h; (try dsimp only at h); go_simp; try with_reducible rfl
         try simp only [Act.put, ps, p0, p1]
         refine tc 8 rfl (by kernel_rfl) (fun K hK => ?_)
         go_simp
         (go_at_call 53; with_reducible refine (sin_to y n3 true H3.out HPA.out _).mono ?_; rintro e z1 ⟨rfl, qb⟩)
         refine hK.out _ _ (keep8 qb g) (fun g1 => ?_)
         clear hK K qb
         try simp only [Act.put, ps, p0, p1]
         refine tq 9 ?_ rfl (by kernel_rfl) (fun _ _ _ h => h) (by rfl) g1 ?_ ?_
         rotate_left
         · intro w9 h; (try dsimp only at h); go_simp; try with_reducible rfl
         try simp only [Act.put, ps, p0, p1]
         refine tq 10 ?_ rfl (by kernel_rfl) (fun _ _ _ h => h) (by rfl) g1 ?_ ?_
         rotate_left
         · intro w9 h; (try dsimp only at h); go_simp; try with_reducible rfl
         try simp only [Act.put, ps, p0, p1]
         refine tq 11 ?_ rfl (by kernel_rfl) (fun _ _ _ h => h) (by rfl) g1 ?_ ?_
         rotate_left
         · intro w9 h; (try dsimp only at h); go_simp; try with_reducible rfl
         try simp only [Act.put, ps, p0, p1]
         refine tc 12 rfl (by kernel_rfl) (fun K hK => ?_)
         go_simp
         (go_at_call 53; with_reducible refine (sin_to z n3 false H3.out HPB.out _).mono ?_; rintro e z2 ⟨rfl, qb⟩)
         refine hK.out _ _ (keep8 qb g1) (fun g2 => ?_)
         clear hK K qb g1
         try simp only [Act.put, ps, p0, p1]
         refine tq 13 ?_ rfl (by kernel_rfl) (fun _ _ _ h => h) (by rfl) g2 ?_ ?_
         rotate_left
         · intro w9 h; (try dsimp only at h); go_simp; try with_reducible rfl
         try simp only [Act.put, ps, p0, p1]
         refine tq 14 ?_ rfl (by kernel_rfl) (fun _ _ _ h => h) (by rfl) g2 ?_ ?_
         rotate_left
         · intro w9 h; (try dsimp only at h); go_simp; try with_reducible rfl
         try simp only [Act.put, ps, p0, p1]
         refine tq 15 ?_ rfl (by kernel_rfl) (fun _ _ _ h => h) (by rfl) g2 ?_ ?_
         rotate_left
         · intro w9 h; (try dsimp only at h); go_simp; try with_reducible rfl
         try simp only [Act.put, ps, p0, p1]
         refine tq 16 ?_ rfl (by kernel_rfl) (fun _ _ _ h => h) (by rfl) g2 ?_ ?_
         rotate_left
         · intro w9 h; (try dsimp only at h); go_simp; try with_reducible rfl
         try simp only [Act.put, ps, p0, p1]
         refine tq 17 ?_ rfl (by kernel_rfl) (fun _ _ _ h => h) (by rfl) g2 ?_ ?_
         rotate_left
         · intro w9 h; (try dsimp only at h); go_simp; try with_reducible rfl
         try simp only [Act.put, ps, p0, p1]
         refine tc 18 rfl (by kernel_rfl) (fun K hK => ?_)
         go_simp
         (go_at_call 53; with_reducible refine (sin_to y n3 true H3.out HPA.out _).mono ?_; rintro e z3 ⟨rfl, qb⟩)
         refine hK.out _ _ (keep8 qb g2) (fun g3 => ?_)
         clear hK K qb g2
         try simp only [Act.put, ps, p0, p1]
         refine tq 19 ?_ rfl (by kernel_rfl) (fun _ _ _ h => h) (by rfl) g3 ?_ ?_
         rotate_left
         · intro w9 h; (try dsimp only at h); go_simp; try with_reducible rfl
         try simp only [Act.put, ps, p0, p1]
         refine tq 20 ?_ rfl (by kernel_rfl) (fun _ _ _ h => h) (by rfl) g3 ?_ ?_
         rotate_left
         · intro w9 h; (try dsimp only at h); go_simp; try with_reducible rfl
         try simp only [Act.put, ps, p0, p1]
         refine tq 21 ?_ rfl (by kernel_rfl) (fun _ _ _ h => h) (by rfl) g3 ?_ ?_
         rotate_left
         · intro w9 h; (try dsimp only at h); go_simp; try with_reducible rfl
         try simp only [Act.put, ps, p0, p1]
         refine tq 22 ?_ rfl (by kernel_rfl) (fun _ _ _ h => h) (by rfl) g3 ?_ ?_
         rotate_left
         · intro w9 h; (try dsimp only at h); go_simp; try with_reducible rfl
         try simp only [Act.put, ps, p0, p1]
         refine tc 23 rfl (by kernel_rfl) (fun K hK => ?_)
         go_simp
         (go_at_call 53; with_reducible refine (sin_to k n3 true H3.out HPJ.out _).mono ?_; rintro e z4 ⟨rfl, qb⟩)
         refine hK.out _ _ (keep8 qb g3) (fun g4 => ?_)
         clear hK K qb g3
         try simp only [Act.put, ps, p0, p1]
         refine tq 24 ?_ rfl (by kernel_rfl) (fun _ _ _ h => h) (by rfl) g4 ?_ ?_
         rotate_left
         · intro w9 h; (try dsimp only at h); go_simp; try with_reducible rfl
         try simp only [Act.put, ps, p0, p1]
         refine tq 25 ?_ rfl (by kernel_rfl) (fun _ _ _ h => h) (by rfl) g4 ?_ ?_
         rotate_left
         · intro w9 h; (try dsimp only at h); go_simp; try with_reducible rfl
         try simp only [Act.put, ps, p0, p1]
         refine tq 26 ?_ rfl (by kernel_rfl) (fun _ _ _ h => h) (by rfl) g4 ?_ ?_
         rotate_left
         · intro w9 h; (try dsimp only at h); go_simp; try with_reducible rfl
         try simp only [Act.put, ps, p0, p1]
         refine tq 27 ?_ rfl (by kernel_rfl) (fun _ _ _ h => h) (by rfl) g4 ?_ ?_
         rotate_left
         · intro w9 h; (try dsimp only at h); go_simp; try with_reducible rfl
         try simp only [Act.put, ps, p0, p1]
         refine tq 28 ?_ rfl (by kernel_rfl) (fun _ _ _ h => h) (by rfl) g4 ?_ ?_
         rotate_left
         · intro w9 h; (try dsimp only at h); go_simp; try with_reducible rfl
         try simp only [Act.put, ps, p0, p1]
         refine tc 29 rfl (by kernel_rfl) (fun K hK => ?_)
         go_simp
         (go_at_call 55; with_reducible refine (swith_to y k true K1.out _).mono ?_; rintro e z5 ⟨rfl, qb⟩)
         refine hK.out _ _ (keep8 qb g4) (fun g5 => ?_)
         clear hK K qb g4
         try simp only [Act.put, ps, p0, p1]
         refine tq 30 ?_ rfl (by kernel_rfl) (fun _ _ _ h => h) (by rfl) g5 ?_ ?_
         rotate_left
         · intro w9 h; (try dsimp only at h); go_simp; try with_reducible rfl
         try simp only [Act.put, ps, p0, p1]
         refine tq 31 ?_ rfl (by kernel_rfl) (fun _ _ _ h => h) (by rfl) g5 ?_ ?_
         rotate_left
         · intro w9 h; (try dsimp only at h); go_simp; try with_reducible rfl
         try simp only [Act.put, ps, p0, p1]
         refine tq 32 ?_ rfl (by kernel_rfl) (fun _ _ _ h => h) (by rfl) g5 ?_ ?_
         rotate_left
         · intro w9 h; (try dsimp only at h); go_simp; try with_reducible rfl
         try simp only [Act.put, ps, p0, p1]
         refine tq 33 ?_ rfl (by kernel_rfl) (fun _ _ _ h => h) (by rfl) g5 ?_ ?_
         rotate_left
         · intro w9 h; (try dsimp only at h); go_simp; try with_reducible rfl
         try simp only [Act.put, ps, p0, p1]
         refine tc 34 rfl (by kernel_rfl) (fun K hK => ?_)
         go_simp
         (go_at_call 55; with_reducible refine (swith_to z k true K2.out _).mono ?_; rintro e z6 ⟨rfl, qb⟩)
         refine hK.out _ _ (keep8 qb g5) (fun g6 => ?_)
         clear hK K qb g5
         try simp only [Act.put, ps, p0, p1]
         refine tq 35 ?_ rfl (by kernel_rfl) (fun _ _ _ h => h) (by rfl) g6 ?_ ?_
         rotate_left
         · intro w9 h; (try dsimp only at h); go_simp; try with_reducible rfl
         try simp only [Act.put, ps, p0, p1]
         refine tq 36 ?_ rfl (by kernel_rfl) (fun _ _ _ h => h) (by rfl) g6 ?_ ?_
         rotate_left
         · intro w9 h; (try dsimp only at h); go_simp; try with_reducible rfl
         try simp only [Act.put, ps, p0, p1]
         refine tc 37 rfl (by kernel_rfl) (fun K hK => ?_)
         go_simp
         (go_at_call 49; with_reducible refine (works_any _).mono ?_; rintro e z7 ⟨rfl, qb⟩)
         refine hK.out _ _ (keep8 qb g6) (fun g7 => ?_)
         clear hK K qb g6
         try simp only [Act.put, ps, p0, p1]
         refine tq 38 ?_ rfl (by kernel_rfl) (fun _ _ _ h => h) (by rfl) g7 ?_ ?_
         rotate_left
         · intro w9 h; (try dsimp only at h); go_simp; try with_reducible rfl
         try simp only [Act.put, ps, p0, p1]
         refine tq 39 ?_ rfl (by kernel_rfl) (fun _ _ _ h => h) (by rfl) g7 ?_ ?_
         rotate_left
         · intro w9 h; (try dsimp only at h); go_simp; try with_reducible rfl
         try simp only [Act.put, ps, p0, p1]
         refine wpAnyH_done (by kernel_rfl) ?_ _
         have BB := Lib.hid g7.2.2.2.2.2.2.2.2
         go_wp2
         go_returns
         exact ⟨rfl, BB.out⟩
        · as_aux_lemma =>
         have HPA := Lib.hid hps
         have HPB := Lib.hid hpt
         have HIM := Lib.hid (show inE n (sg n3) = false by rw [NI.out rfl, hps, hpt]; rfl)
         have HPJ := Lib.hid (KI.out (Or.inl hps))
         clear hps hpt
         refine wp_region_held_drew (S := fun w' => w'.cell? ⟨w5.heap.size, 0, none⟩ = some (.int .i64 y.lo) ∧ w'.cell? ⟨w5.heap.size, 1, none⟩ = some (.int .i64 y.hi) ∧ w'.cell? ⟨w5.heap.size + 1, 0, none⟩ = some (.int .i64 z.lo) ∧ w'.cell? ⟨w5.heap.size + 1, 1, none⟩ = some (.int .i64 z.hi) ∧ w'.cell? ⟨w6.heap.size, 0, none⟩ = some (.int .i64 n.lo) ∧ w'.cell? ⟨w6.heap.size, 1, none⟩ = some (.int .i64 n.hi) ∧ w'.cell? ⟨w7.heap.size, 0, none⟩ = some (.int .i64 k.lo) ∧ w'.cell? ⟨w7.heap.size, 1, none⟩ = some (.int .i64 k.hi) ∧ Below w.heap.size w w') (by kernel_rfl) ⟨cY0, cY1, cZ0, cZ1, cN0, cN1, cK0, cK1, HB.out.drew⟩ (fun g => ?_)
         refine tq 0 ?_ rfl (by kernel_rfl) (fun _ _ _ h => h) (by rfl) g ?_ ?_
         rotate_left
         · intro w9 h; (try dsimp only at h); go_simp; try with_reducible rfl
         try simp only [Act.put, ps, p0, p1]
         refine tq 1 ?_ rfl (by kernel_rfl) (fun _ _ _ h => h) (by rfl) g ?_ ?_
         rotate_left
         · intro w9 h; (try dsimp only at h); go_simp; try with_reducible rfl
         try simp only [Act.put, ps, p0, p1]
         refine tq 2 ?_ rfl (by kernel_rfl) (fun _ _ _ h => h) (by rfl) g ?_ ?_
         rotate_left
         · intro w9 h; (try dsimp only at h); go_simp; try with_reducible rfl
         try simp only [Act.put, ps, p0, p1]
         refine tq 3 ?_ rfl (by kernel_rfl) (fun _ _ _ h => h) (by rfl) g ?_ ?_
         rotate_left
         · intro w9 h; (try dsimp only at h); go_simp; try with_reducible rfl
         try simp only [Act.put, ps, p0, p1]
         refine tq 6 ?_ rfl (by kernel_rfl) (fun _ _ _ h => h) (by rfl) g ?_ ?_
         rotate_left
         · intro w9 h; (try dsimp only at h); go_simp; try with_reducible rfl
         try simp only [Act.put, ps, p0, p1]
         refine tq 7 ?_ rfl (by kernel_rfl) (fun _ _ _ h => h) (by rfl) g ?_ ?_
         rotate_left
         · intro w9 h; (try dsimp only at h); go_simp; try with_reducible rfl
         try simp only [Act.put, ps, p0, p1]
         refine tc 4 rfl (by kernel_rfl) (fun K hK => ?_)
         go_simp
         (go_at_call 53; with_reducible refine (sin_to n n3 false H3.out HIM.out _).mono ?_; rintro e z1 ⟨rfl, qb⟩)
         refine hK.out _ _ (keep8 qb g) (fun g1 => ?_)
         clear hK K qb
         try simp only [Act.put, ps, p0, p1]
         refine tq 5 ?_ rfl (by kernel_rfl) (fun _ _ _ h => h) (by rfl) g1 ?_ ?_
         rotate_left
         · intro w9 h; (try dsimp only at h); go_simp; try with_reducible rfl
         try simp only [Act.put, ps, p0, p1]
         refine tc 8 rfl (by kernel_rfl) (fun K hK => ?_)
         go_simp
         (go_at_call 53; with_reducible refine (sin_to y n3 true H3.out HPA.out _).mono ?_; rintro e z2 ⟨rfl, qb⟩)
         refine hK.out _ _ (keep8 qb g1) (fun g2 => ?_)
         clear hK K qb g1
         try simp only [Act.put, ps, p0, p1]
         refine tq 9 ?_ rfl (by kernel_rfl) (fun _ _ _ h => h) (by rfl) g2 ?_ ?_
         rotate_left
         · intro w9 h; (try dsimp only at h); go_simp; try with_reducible rfl
         try simp only [Act.put, ps, p0, p1]
         refine tq 10 ?_ rfl (by kernel_rfl) (fun _ _ _ h => h) (by rfl) g2 ?_ ?_
         rotate_left
         · intro w9 h; (try dsimp only at h); go_simp; try with_reducible rfl
         try simp only [Act.put, ps, p0, p1]
         refine tq 11 ?_ rfl (by kernel_rfl) (fun _ _ _ h => h) (by rfl) g2 ?_ ?_
         rotate_left
         · intro w9 h; (try dsimp only at h); go_simp; try with_reducible rfl
         try simp only [Act.put, ps, p0, p1]
         refine tc 12 rfl (by kernel_rfl) (fun K hK => ?_)
         go_simp
         (go_at_call 53; with_reducible refine (sin_to z n3 false H3.out HPB.out _).mono ?_; rintro e z3 ⟨rfl, qb⟩)
         refine hK.out _ _ (keep8 qb g2) (fun g3 => ?_)
         clear hK K qb g2
         try simp only [Act.put, ps, p0, p1]
         refine tq 13 ?_ rfl (by kernel_rfl) (fun _ _ _ h => h) (by rfl) g3 ?_ ?_
         rotate_left
         · intro w9 h; (try dsimp only at h); go_simp; try with_reducible rfl
         try simp only [Act.put, ps, p0, p1]
         refine tq 14 ?_ rfl (by kernel_rfl) (fun _ _ _ h => h) (by rfl) g3 ?_ ?_
         rotate_left
         · intro w9 h; (try dsimp only at h); go_simp; try with_reducible rfl
         try simp only [Act.put, ps, p0, p1]
         refine tq 15 ?_ rfl (by kernel_rfl) (fun _ _ _ h => h) (by rfl) g3 ?_ ?_
         rotate_left
         · intro w9 h; (try dsimp only at h); go_simp; try with_reducible rfl
         try simp only [Act.put, ps, p0, p1]
         refine tq 16 ?_ rfl (by kernel_rfl) (fun _ _ _ h => h) (by rfl) g3 ?_ ?_
         rotate_left
         · intro w9 h; (try dsimp only at h); go_simp; try with_reducible rfl
         try simp only [Act.put, ps, p0, p1]
         refine tq 17 ?_ rfl (by kernel_rfl) (fun _ _ _ h => h) (by rfl) g3 ?_ ?_
         rotate_left
         · intro w9 h; (try dsimp only at h); go_simp; try with_reducible rfl
         try simp only [Act.put, ps, p0, p1]
         refine tc 18 rfl (by kernel_rfl) (fun K hK => ?_)
         go_simp
         (go_at_call 53; with_reducible refine (sin_to y n3 true H3.out HPA.out _).mono ?_; rintro e z4 ⟨rfl, qb⟩)
         refine hK.out _ _ (keep8 qb g3) (fun g4 => ?_)
         clear hK K qb g3
         try simp only [Act.put, ps, p0, p1]
         refine tq 19 ?_ rfl (by kernel_rfl) (fun _ _ _ h => h) (by rfl) g4 ?_ ?_
         rotate_left
         · intro w9 h; (try dsimp only at h); go_simp; try with_reducible rfl
         try simp only [Act.put, ps, p0, p1]
         refine tq 20 ?_ rfl (by kernel_rfl) (fun _ _ _ h => h) (by rfl) g4 ?_ ?_
         rotate_left
         · intro w9 h; (try dsimp only at h); go_simp; try with_reducible rfl
         try simp only [Act.put, ps, p0, p1]
         refine tq 21 ?_ rfl (by kernel_rfl) (fun _ _ _ h => h) (by rfl) g4 ?_ ?_
         rotate_left
         · intro w9 h; (try dsimp only at h); go_simp; try with_reducible rfl
         try simp only [Act.put, ps, p0, p1]
         refine tq 22 ?_ rfl (by kernel_rfl) (fun _ _ _ h => h) (by rfl) g4 ?_ ?_
         rotate_left
         · intro w9 h; (try dsimp only at h); go_simp; try with_reducible rfl
         try simp only [Act.put, ps, p0, p1]
         refine tc 23 rfl (by kernel_rfl) (fun K hK => ?_)
         go_simp
         (go_at_call 53; with_reducible refine (sin_to k n3 true H3.out HPJ.out _).mono ?_; rintro e z5 ⟨rfl, qb⟩)
         refine hK.out _ _ (keep8 qb g4) (fun g5 => ?_)
         clear hK K qb g4
         try simp only [Act.put, ps, p0, p1]
         refine tq 24 ?_ rfl (by kernel_rfl) (fun _ _ _ h => h) (by rfl) g5 ?_ ?_
         rotate_left
         · intro w9 h; (try dsimp only at h); go_simp; try with_reducible rfl
         try simp only [Act.put, ps, p0, p1]
         refine tq 25 ?_ rfl (by kernel_rfl) (fun _ _ _ h => h) (by rfl) g5 ?_ ?_
         rotate_left
         · intro w9 h; (try dsimp only at h); go_simp; try with_reducible rfl
         try simp only [Act.put, ps, p0, p1]
         refine tq 26 ?_ rfl (by kernel_rfl) (fun _ _ _ h => h) (by rfl) g5 ?_ ?_
         rotate_left
         · intro w9 h; (try dsimp only at h); go_simp; try with_reducible rfl
         try simp only [Act.put, ps, p0, p1]
         refine tq 27 ?_ rfl (by kernel_rfl) (fun _ _ _ h => h) (by rfl) g5 ?_ ?_
         rotate_left
         · intro w9 h; (try dsimp only at h); go_simp; try with_reducible rfl
         try simp only [Act.put, ps, p0, p1]
         refine tq 28 ?_ rfl (by kernel_rfl) (fun _ _ _ h => h) (by rfl) g5 ?_ ?_
         rotate_left
         · intro w9 h; (try dsimp only at h); go_simp; try with_reducible rfl
         try simp only [Act.put, ps, p0, p1]
         refine tc 29 rfl (by kernel_rfl) (fun K hK => ?_)
         go_simp
         (go_at_call 55; with_reducible refine (swith_to y k true K1.out _).mono ?_; rintro e z6 ⟨rfl, qb⟩)
         refine hK.out _ _ (keep8 qb g5) (fun g6 => ?_)
         clear hK K qb g5
         try simp only [Act.put, ps, p0, p1]
         refine tq 30 ?_ rfl (by kernel_rfl) (fun _ _ _ h => h) (by rfl) g6 ?_ ?_
         rotate_left
         · intro w9 h; (try dsimp only at h); go_simp; try with_reducible rfl
         try simp only [Act.put, ps, p0, p1]
         refine tq 31 ?_ rfl (by kernel_rfl) (fun _ _ _ h => h) (by rfl) g6 ?_ ?_
         rotate_left
         · intro w9 h; (try dsimp only at h); go_simp; try with_reducible rfl
         try simp only [Act.put, ps, p0, p1]
         refine tq 32 ?_ rfl (by kernel_rfl) (fun _ _ _ h => h) (by rfl) g6 ?_ ?_
         rotate_left
         · intro w9 h; (try dsimp only at h); go_simp; try with_reducible rfl
         try simp only [Act.put, ps, p0, p1]
         refine tq 33 ?_ rfl (by kernel_rfl) (fun _ _ _ h => h) (by rfl) g6 ?_ ?_
         rotate_left
         · intro w9 h; (try dsimp only at h); go_simp; try with_reducible rfl
         try simp only [Act.put, ps, p0, p1]
         refine tc 34 rfl (by kernel_rfl) (fun K hK => ?_)
         go_simp
         (go_at_call 55; with_reducible refine (swith_to z k true K2.out _).mono ?_; rintro e z7 ⟨rfl, qb⟩)
         refine hK.out _ _ (keep8 qb g6) (fun g7 => ?_)
         clear hK K qb g6
         try simp only [Act.put, ps, p0, p1]
         refine tq 35 ?_ rfl (by kernel_rfl) (fun _ _ _ h => h) (by rfl) g7 ?_ ?_
         rotate_left
         · intro w9 h; (try dsimp only at h); go_simp; try with_reducible rfl
         try simp only [Act.put, ps, p0, p1]
         refine tq 36 ?_ rfl (by kernel_rfl) (fun _ _ _ h => h) (by rfl) g7 ?_ ?_
         rotate_left
         · intro w9 h; (try dsimp only at h); go_simp; try with_reducible rfl
         try simp only [Act.put, ps, p0, p1]
         refine tc 37 rfl (by kernel_rfl) (fun K hK => ?_)
         go_simp
         (go_at_call 49; with_reducible refine (works_any _).mono ?_; rintro e z8 ⟨rfl, qb⟩)
         refine hK.out _ _ (keep8 qb g7) (fun g8 => ?_)
         clear hK K qb g7
         try simp only [Act.put, ps, p0, p1]
         refine tq 38 ?_ rfl (by kernel_rfl) (fun _ _ _ h => h) (by rfl) g8 ?_ ?_
         rotate_left
         · intro w9 h; (try dsimp only at h); go_simp; try with_reducible rfl
         try simp only [Act.put, ps, p0, p1]
         refine tq 39 ?_ rfl (by kernel_rfl) (fun _ _ _ h => h) (by rfl) g8 ?_ ?_
         rotate_left
         · intro w9 h; (try dsimp only at h); go_simp; try with_reducible rfl
         try simp only [Act.put, ps, p0, p1]
         refine wpAnyH_done (by kernel_rfl) ?_ _
         have BB := Lib.hid g8.2.2.2.2.2.2.2.2
         go_wp2
         go_returns
         exact ⟨rfl, BB.out⟩
        · exact absurd ((NN.out rfl hps).symm.trans hpt) (by decide)
        · as_aux_lemma =>
         have HPA := Lib.hid hps
         have HPB := Lib.hid hpt
         have HIM := Lib.hid (show inE n (sg n3) = true by rw [NI.out rfl, hps, hpt]; rfl)
         have HPJ := Lib.hid (KI.out (Or.inl hps))
         clear hps hpt
         refine wp_region_held_drew (S := fun w' => w'.cell? ⟨w5.heap.size, 0, none⟩ = some (.int .i64 y.lo) ∧ w'.cell? ⟨w5.heap.size, 1, none⟩ = some (.int .i64 y.hi) ∧ w'.cell? ⟨w5.heap.size + 1, 0, none⟩ = some (.int .i64 z.lo) ∧ w'.cell? ⟨w5.heap.size + 1, 1, none⟩ = some (.int .i64 z.hi) ∧ w'.cell? ⟨w6.heap.size, 0, none⟩ = some (.int .i64 n.lo) ∧ w'.cell? ⟨w6.heap.size, 1, none⟩ = some (.int .i64 n.hi) ∧ w'.cell? ⟨w7.heap.size, 0, none⟩ = some (.int .i64 k.lo) ∧ w'.cell? ⟨w7.heap.size, 1, none⟩ = some (.int .i64 k.hi) ∧ Below w.heap.size w w') (by kernel_rfl) ⟨cY0, cY1, cZ0, cZ1, cN0, cN1, cK0, cK1, HB.out.drew⟩ (fun g => ?_)
         refine tq 0 ?_ rfl (by kernel_rfl) (fun _ _ _ h => h) (by rfl) g ?_ ?_
         rotate_left
         · intro w9 h; (try dsimp only at h); go_simp; try with_reducible rfl
         try simp only [Act.put, ps, p0, p1]
         refine tq 1 ?_ rfl (by kernel_rfl) (fun _ _ _ h => h) (by rfl) g ?_ ?_
         rotate_left
         · intro w9 h; (try dsimp only at h); go_simp; try with_reducible rfl
         try simp only [Act.put, ps, p0, p1]
         refine tq 2 ?_ rfl (by kernel_rfl) (fun _ _ _ h => h) (by rfl) g ?_ ?_
         rotate_left
         · intro w9 h; (try dsimp only at h); go_simp; try with_reducible rfl
         try simp only [Act.put, ps, p0, p1]
         refine tq 3 ?_ rfl (by kernel_rfl) (fun _ _ _ h => h) (by rfl) g ?_ ?_
         rotate_left
         · intro w9 h; (try dsimp only at h); go_simp; try with_reducible rfl
         try simp only [Act.put, ps, p0, p1]
         refine tq 6 ?_ rfl (by kernel_rfl) (fun _ _ _ h => h) (by rfl) g ?_ ?_
         rotate_left
         · intro w9 h; (try dsimp only at h); go_simp; try with_reducible rfl
         try simp only [Act.put, ps, p0, p1]
         refine tq 7 ?_ rfl (by kernel_rfl) (fun _ _ _ h => h) (by rfl) g ?_ ?_
         rotate_left
         · intro w9 h; (try dsimp only at h); go_simp; try with_reducible rfl
         try simp only [Act.put, ps, p0, p1]
         refine tc 4 rfl (by kernel_rfl) (fun K hK => ?_)
         go_simp
         (go_at_call 53; with_reducible refine (sin_to n n3 true H3.out HIM.out _).mono ?_; rintro e z1 ⟨rfl, qb⟩)
         refine hK.out _ _ (keep8 qb g) (fun g1 => ?_)
         clear hK K qb
         try simp only [Act.put, ps, p0, p1]
         refine tq 5 ?_ rfl (by kernel_rfl) (fun _ _ _ h => h) (by rfl) g1 ?_ ?_
         rotate_left
         · intro w9 h; (try dsimp only at h); go_simp; try with_reducible rfl
         try simp only [Act.put, ps, p0, p1]
         refine tc 8 rfl (by kernel_rfl) (fun K hK => ?_)
         go_simp
         (go_at_call 53; with_reducible refine (sin_to y n3 true H3.out HPA.out _).mono ?_; rintro e z2 ⟨rfl, qb⟩)
         refine hK.out _ _ (keep8 qb g1) (fun g2 => ?_)
         clear hK K qb g1
         try simp only [Act.put, ps, p0, p1]
         refine tq 9 ?_ rfl (by kernel_rfl) (fun _ _ _ h => h) (by rfl) g2 ?_ ?_
         rotate_left
         · intro w9 h; (try dsimp only at h); go_simp; try with_reducible rfl
         try simp only [Act.put, ps, p0, p1]
         refine tq 10 ?_ rfl (by kernel_rfl) (fun _ _ _ h => h) (by rfl) g2 ?_ ?_
         rotate_left
         · intro w9 h; (try dsimp only at h); go_simp; try with_reducible rfl
         try simp only [Act.put, ps, p0, p1]
         refine tq 11 ?_ rfl (by kernel_rfl) (fun _ _ _ h => h) (by rfl) g2 ?_ ?_
         rotate_left
         · intro w9 h; (try dsimp only at h); go_simp; try with_reducible rfl
         try simp only [Act.put, ps, p0, p1]
         refine tc 12 rfl (by kernel_rfl) (fun K hK => ?_)
         go_simp
         (go_at_call 53; with_reducible refine (sin_to z n3 true H3.out HPB.out _).mono ?_; rintro e z3 ⟨rfl, qb⟩)
         refine hK.out _ _ (keep8 qb g2) (fun g3 => ?_)
         clear hK K qb g2
         try simp only [Act.put, ps, p0, p1]
         refine tq 13 ?_ rfl (by kernel_rfl) (fun _ _ _ h => h) (by rfl) g3 ?_ ?_
         rotate_left
         · intro w9 h; (try dsimp only at h); go_simp; try with_reducible rfl
         try simp only [Act.put, ps, p0, p1]
         refine tq 14 ?_ rfl (by kernel_rfl) (fun _ _ _ h => h) (by rfl) g3 ?_ ?_
         rotate_left
         · intro w9 h; (try dsimp only at h); go_simp; try with_reducible rfl
         try simp only [Act.put, ps, p0, p1]
         refine tq 15 ?_ rfl (by kernel_rfl) (fun _ _ _ h => h) (by rfl) g3 ?_ ?_
         rotate_left
         · intro w9 h; (try dsimp only at h); go_simp; try with_reducible rfl
         try simp only [Act.put, ps, p0, p1]
         refine tq 16 ?_ rfl (by kernel_rfl) (fun _ _ _ h => h) (by rfl) g3 ?_ ?_
         rotate_left
         · intro w9 h; (try dsimp only at h); go_simp; try with_reducible rfl
         try simp only [Act.put, ps, p0, p1]
         refine tq 17 ?_ rfl (by kernel_rfl) (fun _ _ _ h => h) (by rfl) g3 ?_ ?_
         rotate_left
         · intro w9 h; (try dsimp only at h); go_simp; try with_reducible rfl
         try simp only [Act.put, ps, p0, p1]
         refine tc 18 rfl (by kernel_rfl) (fun K hK => ?_)
         go_simp
         (go_at_call 53; with_reducible refine (sin_to y n3 true H3.out HPA.out _).mono ?_; rintro e z4 ⟨rfl, qb⟩)
         refine hK.out _ _ (keep8 qb g3) (fun g4 => ?_)
         clear hK K qb g3
         try simp only [Act.put, ps, p0, p1]
         refine tq 19 ?_ rfl (by kernel_rfl) (fun _ _ _ h => h) (by rfl) g4 ?_ ?_
         rotate_left
         · intro w9 h; (try dsimp only at h); go_simp; try with_reducible rfl
         try simp only [Act.put, ps, p0, p1]
         refine tq 20 ?_ rfl (by kernel_rfl) (fun _ _ _ h => h) (by rfl) g4 ?_ ?_
         rotate_left
         · intro w9 h; (try dsimp only at h); go_simp; try with_reducible rfl
         try simp only [Act.put, ps, p0, p1]
         refine tq 21 ?_ rfl (by kernel_rfl) (fun _ _ _ h => h) (by rfl) g4 ?_ ?_
         rotate_left
         · intro w9 h; (try dsimp only at h); go_simp; try with_reducible rfl
         try simp only [Act.put, ps, p0, p1]
         refine tq 22 ?_ rfl (by kernel_rfl) (fun _ _ _ h => h) (by rfl) g4 ?_ ?_
         rotate_left
         · intro w9 h; (try dsimp only at h); go_simp; try with_reducible rfl
         try simp only [Act.put, ps, p0, p1]
         refine tc 23 rfl (by kernel_rfl) (fun K hK => ?_)
         go_simp
         (go_at_call 53; with_reducible refine (sin_to k n3 true H3.out HPJ.out _).mono ?_; rintro e z5 ⟨rfl, qb⟩)
         refine hK.out _ _ (keep8 qb g4) (fun g5 => ?_)
         clear hK K qb g4
         try simp only [Act.put, ps, p0, p1]
         refine tq 24 ?_ rfl (by kernel_rfl) (fun _ _ _ h => h) (by rfl) g5 ?_ ?_
         rotate_left
         · intro w9 h; (try dsimp only at h); go_simp; try with_reducible rfl
         try simp only [Act.put, ps, p0, p1]
         refine tq 25 ?_ rfl (by kernel_rfl) (fun _ _ _ h => h) (by rfl) g5 ?_ ?_
         rotate_left
         · intro w9 h; (try dsimp only at h); go_simp; try with_reducible rfl
         try simp only [Act.put, ps, p0, p1]
         refine tq 26 ?_ rfl (by kernel_rfl) (fun _ _ _ h => h) (by rfl) g5 ?_ ?_
         rotate_left
         · intro w9 h; (try dsimp only at h); go_simp; try with_reducible rfl
         try simp only [Act.put, ps, p0, p1]
         refine tq 27 ?_ rfl (by kernel_rfl) (fun _ _ _ h => h) (by rfl) g5 ?_ ?_
         rotate_left
         · intro w9 h; (try dsimp only at h); go_simp; try with_reducible rfl
         try simp only [Act.put, ps, p0, p1]
         refine tq 28 ?_ rfl (by kernel_rfl) (fun _ _ _ h => h) (by rfl) g5 ?_ ?_
         rotate_left
         · intro w9 h; (try dsimp only at h); go_simp; try with_reducible rfl
         try simp only [Act.put, ps, p0, p1]
         refine tc 29 rfl (by kernel_rfl) (fun K hK => ?_)
         go_simp
         (go_at_call 55; with_reducible refine (swith_to y k true K1.out _).mono ?_; rintro e z6 ⟨rfl, qb⟩)
         refine hK.out _ _ (keep8 qb g5) (fun g6 => ?_)
         clear hK K qb g5
         try simp only [Act.put, ps, p0, p1]
         refine tq 30 ?_ rfl (by kernel_rfl) (fun _ _ _ h => h) (by rfl) g6 ?_ ?_
         rotate_left
         · intro w9 h; (try dsimp only at h); go_simp; try with_reducible rfl
         try simp only [Act.put, ps, p0, p1]
         refine tq 31 ?_ rfl (by kernel_rfl) (fun _ _ _ h => h) (by rfl) g6 ?_ ?_
         rotate_left
         · intro w9 h; (try dsimp only at h); go_simp; try with_reducible rfl
         try simp only [Act.put, ps, p0, p1]
         refine tq 32 ?_ rfl (by kernel_rfl) (fun _ _ _ h => h) (by rfl) g6 ?_ ?_
         rotate_left
         · intro w9 h; (try dsimp only at h); go_simp; try with_reducible rfl
         try simp only [Act.put, ps, p0, p1]
         refine tq 33 ?_ rfl (by kernel_rfl) (fun _ _ _ h => h) (by rfl) g6 ?_ ?_
         rotate_left
         · intro w9 h; (try dsimp only at h); go_simp; try with_reducible rfl
         try simp only [Act.put, ps, p0, p1]
         refine tc 34 rfl (by kernel_rfl) (fun K hK => ?_)
         go_simp
         (go_at_call 55; with_reducible refine (swith_to z k true K2.out _).mono ?_; rintro e z7 ⟨rfl, qb⟩)
         refine hK.out _ _ (keep8 qb g6) (fun g7 => ?_)
         clear hK K qb g6
         try simp only [Act.put, ps, p0, p1]
         refine tq 35 ?_ rfl (by kernel_rfl) (fun _ _ _ h => h) (by rfl) g7 ?_ ?_
         rotate_left
         · intro w9 h; (try dsimp only at h); go_simp; try with_reducible rfl
         try simp only [Act.put, ps, p0, p1]
         refine tq 36 ?_ rfl (by kernel_rfl) (fun _ _ _ h => h) (by rfl) g7 ?_ ?_
         rotate_left
         · intro w9 h; (try dsimp only at h); go_simp; try with_reducible rfl
         try simp only [Act.put, ps, p0, p1]
         refine tc 37 rfl (by kernel_rfl) (fun K hK => ?_)
         go_simp
         (go_at_call 49; with_reducible refine (works_any _).mono ?_; rintro e z8 ⟨rfl, qb⟩)
         refine hK.out _ _ (keep8 qb g7) (fun g8 => ?_)
         clear hK K qb g7
         try simp only [Act.put, ps, p0, p1]
         refine tq 38 ?_ rfl (by kernel_rfl) (fun _ _ _ h => h) (by rfl) g8 ?_ ?_
         rotate_left
         · intro w9 h; (try dsimp only at h); go_simp; try with_reducible rfl
         try simp only [Act.put, ps, p0, p1]
         refine tq 39 ?_ rfl (by kernel_rfl) (fun _ _ _ h => h) (by rfl) g8 ?_ ?_
         rotate_left
         · intro w9 h; (try dsimp only at h); go_simp; try with_reducible rfl
         try simp only [Act.put, ps, p0, p1]
         refine wpAnyH_done (by kernel_rfl) ?_ _
         have BB := Lib.hid g8.2.2.2.2.2.2.2.2
         go_wp2
         go_returns
         exact ⟨rfl, BB.out⟩

set_option maxRecDepth 100000 in
theorem lifted (os : Os) (started : os.Started) (H : Type) (enc : TypeId × Value → H) :
    ReturnsInHanded {} Try.checked os 9 .any (Rows.spanLatticeSpec.pre6 enc Try.prog Try.f9 Rows.spanLatticeRow.domain false) (Rows.spanLatticeSpec.post enc Try.prog Try.f9 false true false false) := by
  refine returnsInHanded_of_change (C := Try.checked) own started (by kernel_rfl) Try.func9
    (ChangeSpec.witness6 (enc := enc) (C := Try.checked) false ⟨#[], #[.agg #[.int .u64 0, .int .u64 0], .agg #[.int .u64 0, .int .u64 0], .agg #[.int .u64 0, .int .u64 0], .int .u64 0], []⟩ 8 (by kernel_rfl) (by kernel_rfl) (by kernel_rfl) (by kernel_rfl)) ?_
  intro W base args ds gs before hval0 hW hcnd _
  have hval : ∀ (j : Nat) t v, Try.f9.params[j]? = some t → args[j]? = some v → Value.okWide Try.prog W .any base t v := hval0
  have hW' := hW
  obtain ⟨p, q, hA0, hV, rfl, hfz, hnd⟩ := hW
  have hA : DataW.TrodAll enc Try.prog W 0 (fun _ => true) true Try.f9.params.toList args.toList ds p := hA0
  rw [Try.params9] at hA hval
  obtain ⟨v0, vs0, d0, ds0, p0, q0, hargs, rfl, rfl, h0, r0⟩ := trodAll_cons hA
  obtain ⟨v1, vs1, d1, ds1, p1, q1, rfl, rfl, rfl, h1, r1⟩ := trodAll_cons r0
  obtain ⟨v2, vs2, d2, ds2, p2, q2, rfl, rfl, rfl, h2, r2⟩ := trodAll_cons r1
  obtain ⟨v3, vs3, d3, ds3, p3, q3, rfl, rfl, rfl, h3, r3⟩ := trodAll_cons r2
  obtain ⟨rfl, rfl, rfl⟩ := trodAll_nil r3
  obtain rfl : args = #[v0, v1, v2, v3] := by cases args; simp_all
  obtain ⟨rfl, rfl⟩ := trodVars_none hV
  have k0 := h0
  have lt0 : ∀ x ∈ p0, x.block < W.heap.size := by obtain ⟨m, hm⟩ := k0; exact DataW.trod_lt m _ _ _ hm
  obtain ⟨x0, f0, rfl⟩ := open_u (hval 0 24 v0 rfl rfl) h0
  have k1 := h1
  have lt1 : ∀ x ∈ p1, x.block < W.heap.size := by obtain ⟨m, hm⟩ := k1; exact DataW.trod_lt m _ _ _ hm
  obtain ⟨x1, f1, rfl⟩ := open_u (hval 1 24 v1 rfl rfl) h1
  have k2 := h2
  have lt2 : ∀ x ∈ p2, x.block < W.heap.size := by obtain ⟨m, hm⟩ := k2; exact DataW.trod_lt m _ _ _ hm
  obtain ⟨x2, f2, rfl⟩ := open_u (hval 2 24 v2 rfl rfl) h2
  obtain ⟨n3, rfl, rfl, rfl, w3⟩ := open_int Try.underlying22 (hval 3 22 v3 rfl rfl) h3
  clear hA0 hval0
  refine (walk x0 x1 x2 n3 W f0 f1 f2 w3).mono fun e W' ⟨he, bel⟩ => ?_
  subst he
  exact ⟨_, rfl, _, _, _, [], _, [], hW', trodAll_mk1 (shut_bool Try.underlying4 _), (trodAll_cons_mk (Below.trod laidOut (by kernel_rfl) (of_decide_eq_true (by kernel_rfl)) k0 bel lt0) (trodAll_cons_mk (Below.trod laidOut (by kernel_rfl) (of_decide_eq_true (by kernel_rfl)) k1 bel lt1) (trodAll_cons_mk (Below.trod laidOut (by kernel_rfl) (of_decide_eq_true (by kernel_rfl)) k2 bel lt2) (trodAll_cons_mk (shut_int Try.underlying22 w3) trodAll_mk0)))), rfl, bel.frame _, fun h => by cases h⟩

theorem over : Rows.spanLatticeRow.holds Try.pinned (OpenSpec.ofChange Rows.spanLatticeSpec) :=
  OpenClaim.holds_of_wide 9 Try.f9 rfl rfl rfl rfl rfl rfl rfl ⟨rfl, rfl, rfl, rfl, rfl⟩ rfl rfl rfl rfl rfl (by kernel_rfl) Try.func9 (by kernel_rfl)
    (of_decide_eq_true (by kernel_rfl)) (by unfold Func.isWrapper; first | (rw [if_pos (by decide +kernel)]; kernel_rfl) | (rw [if_neg (by decide +kernel)]; exact ⟨rfl, rfl⟩))
    (fun os started H enc _ => lifted os started H enc)

theorem proved : Rows.SpanLatticeSaid := over
#print axioms proved
end Go.Proofs.Ythjjfginenpfjaa.spanLattice
