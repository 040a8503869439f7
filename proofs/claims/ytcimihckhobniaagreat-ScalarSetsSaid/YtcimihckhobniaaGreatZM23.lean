/-
  Texts of layer 5 and of those below it, put together: contracts and plain mathematics that ScalarSets needs.
-/
import Derived.Test.YtcimihckhobniaaGreatZM1
import Derived.Test.YtcimihckhobniaaGreatZM19
import Derived.Test.YtcimihckhobniaaGreatZM21
import Derived.Test.YtcimihckhobniaaGreatZM22
import Derived.Test.YtcimihckhobniaaGreatZM20
namespace Go.Proofs.YtcimihckhobniaaGreat.Sc
open Go.RowKit Tn Ow Sp
set_option linter.unusedVariables false
set_option linter.unusedSimpArgs false
set_option maxRecDepth 100000
theorem refin_to (a : T) (v : BitVec 64) (r : Bool) (h : inT a v = r) (w : World) :
    Calls Tryz.prog 60 #[.agg #[.int .u64 (bi a.v), .int .u64 (bi a.m)], .int .u64 (bi v)] w fun e w' => e = .returned (.bool r) ∧ Below w.heap.size w w' := by subst h; exact L3.refin_any a v w
theorem refwithin_to (a b : T) (r : Bool) (hb : mayT b) (h : withT a b = r) (w : World) :
    Calls Tryz.prog 66 #[.agg #[.int .u64 (bi a.v), .int .u64 (bi a.m)], .agg #[.int .u64 (bi b.v), .int .u64 (bi b.m)]] w fun e w' => e = .returned (.bool r) ∧ Below w.heap.size w w' := by subst h; exact L3.refwithin_any a b hb w
theorem bset6 {w : World} {r : Nat} {t : TypeId} {x0 x1 x2 x3 x4 x5 : Value} (h : Bk w r t #[x0, x1, x2, x3, x4, x5]) (u0 u1 u2 u3 u4 u5 : Value) :
    Bk ((((((w.setCell ⟨r, 0, none⟩ u0).setCell ⟨r, 1, none⟩ u1).setCell ⟨r, 2, none⟩ u2).setCell ⟨r, 3, none⟩ u3).setCell ⟨r, 4, none⟩ u4).setCell ⟨r, 5, none⟩ u5) r t #[u0, u1, u2, u3, u4, u5] :=
  (((((h.set_ 0 u0).set_ 1 u1).set_ 2 u2).set_ 3 u3).set_ 4 u4).set_ 5 u5
theorem below6 {w w1 : World} {r : Nat} {u0 u1 u2 u3 u4 u5 : Value} (h : Below w.heap.size w w1) (hr : w.heap.size ≤ r) :
    Below w.heap.size w ((((((w1.setCell ⟨r, 0, none⟩ u0).setCell ⟨r, 1, none⟩ u1).setCell ⟨r, 2, none⟩ u2).setCell ⟨r, 3, none⟩ u3).setCell ⟨r, 4, none⟩ u4).setCell ⟨r, 5, none⟩ u5) :=
  (((((h.setCell (p := ⟨r, 0, none⟩) hr u0).setCell (p := ⟨r, 1, none⟩) hr u1).setCell (p := ⟨r, 2, none⟩) hr u2).setCell (p := ⟨r, 3, none⟩) hr u3).setCell (p := ⟨r, 4, none⟩) hr u4).setCell (p := ⟨r, 5, none⟩) hr u5
theorem beqd (a b : Int) : (a == b) = decide (a = b) := by by_cases h : a = b <;> simp [h]
theorem rsin_to5 (a : E) (v : BitVec 64) (r : Bool) (h : inE a (sg (bi v)) = r) (w : World) :
    Calls Tryz.prog 62 #[.agg #[.int .i64 a.lo, .int .i64 a.hi], .int .u64 (bi v)] w fun e w' => e = .returned (.bool r) ∧ Below w.heap.size w w' := by subst h; exact rsin_any a (bi v) (bi_bd v).1 (bi_bd v).2 w
theorem ruwith_to5 (a b : E) (r : Bool) (ha : okU a) (h : withE a b = r) (w : World) :
    Calls Tryz.prog 67 #[.agg #[.int .u64 a.lo, .int .u64 a.hi], .agg #[.int .u64 b.lo, .int .u64 b.hi]] w fun e w' => e = .returned (.bool r) ∧ Below w.heap.size w w' := by subst h; exact ruwith_any a b ha w
theorem rswith_to5 (a b : E) (r : Bool) (h : withE a b = r) (w : World) :
    Calls Tryz.prog 68 #[.agg #[.int .i64 a.lo, .int .i64 a.hi], .agg #[.int .i64 b.lo, .int .i64 b.hi]] w fun e w' => e = .returned (.bool r) ∧ Below w.heap.size w w' := by subst h; exact rswith_any a b w
set_option maxHeartbeats 4000000 in
theorem rof5 (v : BitVec 64) (w : World) :
    Calls Tryz.prog 18 #[.int .u64 (bi v)] w fun e w' => e = .returned (.agg #[.int .u64 (bi (ofC v).t.v), .int .u64 (bi (ofC v).t.m), .int .u64 (ofC v).u.lo, .int .u64 (ofC v).u.hi, .int .i64 (ofC v).s.lo, .int .i64 (ofC v).s.hi]) ∧ Below w.heap.size w w' := by
  go_enter Tryz.func18, Tryz.ntmps18
  go_wp2_with fail
  have R := (Bk.new w 30 #[.int .u64 0, .int .u64 0, .int .u64 0, .int .u64 0, .int .i64 0, .int .i64 0])
  have HB : Below w.heap.size w (w.alloc (.cells #[.int .u64 0, .int .u64 0, .int .u64 0, .int .u64 0, .int .i64 0, .int .i64 0] 30)) := by go_grown
  generalize (w.alloc (.cells #[.int .u64 0, .int .u64 0, .int .u64 0, .int .u64 0, .int .i64 0, .int .i64 0] 30)) = w0 at *
  replace R := Lib.hid R
  replace HB := Lib.hid HB
  have r0 := R.out.cell 0
  have r1 := R.out.cell 1
  have r2 := R.out.cell 2
  have r3 := R.out.cell 3
  have r4 := R.out.cell 4
  have r5 := R.out.cell 5
  have f0 := R.out.frozen 0
  have f1 := R.out.frozen 1
  have f2 := R.out.frozen 2
  have f3 := R.out.frozen 3
  have f4 := R.out.frozen 4
  have f5 := R.out.frozen 5
  clear r0 r1 r2 r3 r4 r5 f0 f1 f2 f3 f4 f5
  with_reducible refine (L3.refof_any v _).mono ?_
  rintro e w1 ⟨rfl, qb⟩
  replace R := Lib.hid (Rg.bkk R.out qb)
  replace HB := Lib.hid (Rg.bth HB.out qb (Nat.le_refl _))
  clear qb
  have r0 := R.out.cell 0
  have r1 := R.out.cell 1
  have r2 := R.out.cell 2
  have r3 := R.out.cell 3
  have r4 := R.out.cell 4
  have r5 := R.out.cell 5
  have f0 := R.out.frozen 0
  have f1 := R.out.frozen 1
  have f2 := R.out.frozen 2
  have f3 := R.out.frozen 3
  have f4 := R.out.frozen 4
  have f5 := R.out.frozen 5
  go_wp2_with fail
  clear r0 r1 r2 r3 r4 r5 f0 f1 f2 f3 f4 f5
  with_reducible refine (ruof_any (bi v) _).mono ?_
  rintro e w2 ⟨rfl, qb⟩
  replace R := Lib.hid (Rg.bkk R.out qb)
  replace HB := Lib.hid (Rg.bth HB.out qb (Nat.le_refl _))
  clear qb
  have r0 := R.out.cell 0
  have r1 := R.out.cell 1
  have r2 := R.out.cell 2
  have r3 := R.out.cell 3
  have r4 := R.out.cell 4
  have r5 := R.out.cell 5
  have f0 := R.out.frozen 0
  have f1 := R.out.frozen 1
  have f2 := R.out.frozen 2
  have f3 := R.out.frozen 3
  have f4 := R.out.frozen 4
  have f5 := R.out.frozen 5
  go_wp2_with fail
  clear r0 r1 r2 r3 r4 r5 f0 f1 f2 f3 f4 f5
  with_reducible refine (rsof_any (bi v) (bi_bd v).1 (bi_bd v).2 _).mono ?_
  rintro e w3 ⟨rfl, qb⟩
  replace R := Lib.hid (Rg.bkk R.out qb)
  replace HB := Lib.hid (Rg.bth HB.out qb (Nat.le_refl _))
  clear qb
  have r0 := R.out.cell 0
  have r1 := R.out.cell 1
  have r2 := R.out.cell 2
  have r3 := R.out.cell 3
  have r4 := R.out.cell 4
  have r5 := R.out.cell 5
  have f0 := R.out.frozen 0
  have f1 := R.out.frozen 1
  have f2 := R.out.frozen 2
  have f3 := R.out.frozen 3
  have f4 := R.out.frozen 4
  have f5 := R.out.frozen 5
  go_wp2_with fail
  have BB := bset6 R.out
  have g0 := fun u0 u1 u2 u3 u4 u5 => (BB u0 u1 u2 u3 u4 u5).cell 0
  have g1 := fun u0 u1 u2 u3 u4 u5 => (BB u0 u1 u2 u3 u4 u5).cell 1
  have g2 := fun u0 u1 u2 u3 u4 u5 => (BB u0 u1 u2 u3 u4 u5).cell 2
  have g3 := fun u0 u1 u2 u3 u4 u5 => (BB u0 u1 u2 u3 u4 u5).cell 3
  have g4 := fun u0 u1 u2 u3 u4 u5 => (BB u0 u1 u2 u3 u4 u5).cell 4
  have g5 := fun u0 u1 u2 u3 u4 u5 => (BB u0 u1 u2 u3 u4 u5).cell 5
  refine bodyPost_ret (by simp [results, Tryz.results18, g0, g1, g2, g3, g4, g5, go_sem]; try rfl) rfl ?_
  exact ⟨rfl, below6 HB.out (by omega)⟩
set_option maxHeartbeats 4000000 in
theorem rany5  (w : World) :
    Calls Tryz.prog 20 #[] w fun e w' => e = .returned (.agg #[.int .u64 (bi anyC.t.v), .int .u64 (bi anyC.t.m), .int .u64 anyC.u.lo, .int .u64 anyC.u.hi, .int .i64 anyC.s.lo, .int .i64 anyC.s.hi]) ∧ Below w.heap.size w w' := by
  go_enter Tryz.func20, Tryz.ntmps20
  go_wp2_with fail
  have R := (Bk.new w 30 #[.int .u64 0, .int .u64 0, .int .u64 0, .int .u64 0, .int .i64 0, .int .i64 0])
  have HB : Below w.heap.size w (w.alloc (.cells #[.int .u64 0, .int .u64 0, .int .u64 0, .int .u64 0, .int .i64 0, .int .i64 0] 30)) := by go_grown
  generalize (w.alloc (.cells #[.int .u64 0, .int .u64 0, .int .u64 0, .int .u64 0, .int .i64 0, .int .i64 0] 30)) = w0 at *
  replace R := Lib.hid R
  replace HB := Lib.hid HB
  have r0 := R.out.cell 0
  have r1 := R.out.cell 1
  have r2 := R.out.cell 2
  have r3 := R.out.cell 3
  have r4 := R.out.cell 4
  have r5 := R.out.cell 5
  have f0 := R.out.frozen 0
  have f1 := R.out.frozen 1
  have f2 := R.out.frozen 2
  have f3 := R.out.frozen 3
  have f4 := R.out.frozen 4
  have f5 := R.out.frozen 5
  clear r0 r1 r2 r3 r4 r5 f0 f1 f2 f3 f4 f5
  with_reducible refine (L3.refany_any _).mono ?_
  rintro e w1 ⟨rfl, qb⟩
  replace R := Lib.hid (Rg.bkk R.out qb)
  replace HB := Lib.hid (Rg.bth HB.out qb (Nat.le_refl _))
  clear qb
  have r0 := R.out.cell 0
  have r1 := R.out.cell 1
  have r2 := R.out.cell 2
  have r3 := R.out.cell 3
  have r4 := R.out.cell 4
  have r5 := R.out.cell 5
  have f0 := R.out.frozen 0
  have f1 := R.out.frozen 1
  have f2 := R.out.frozen 2
  have f3 := R.out.frozen 3
  have f4 := R.out.frozen 4
  have f5 := R.out.frozen 5
  go_wp2_with fail
  clear r0 r1 r2 r3 r4 r5 f0 f1 f2 f3 f4 f5
  with_reducible refine (ruall_any _).mono ?_
  rintro e w2 ⟨rfl, qb⟩
  replace R := Lib.hid (Rg.bkk R.out qb)
  replace HB := Lib.hid (Rg.bth HB.out qb (Nat.le_refl _))
  clear qb
  have r0 := R.out.cell 0
  have r1 := R.out.cell 1
  have r2 := R.out.cell 2
  have r3 := R.out.cell 3
  have r4 := R.out.cell 4
  have r5 := R.out.cell 5
  have f0 := R.out.frozen 0
  have f1 := R.out.frozen 1
  have f2 := R.out.frozen 2
  have f3 := R.out.frozen 3
  have f4 := R.out.frozen 4
  have f5 := R.out.frozen 5
  go_wp2_with fail
  clear r0 r1 r2 r3 r4 r5 f0 f1 f2 f3 f4 f5
  with_reducible refine (rsall_any _).mono ?_
  rintro e w3 ⟨rfl, qb⟩
  replace R := Lib.hid (Rg.bkk R.out qb)
  replace HB := Lib.hid (Rg.bth HB.out qb (Nat.le_refl _))
  clear qb
  have r0 := R.out.cell 0
  have r1 := R.out.cell 1
  have r2 := R.out.cell 2
  have r3 := R.out.cell 3
  have r4 := R.out.cell 4
  have r5 := R.out.cell 5
  have f0 := R.out.frozen 0
  have f1 := R.out.frozen 1
  have f2 := R.out.frozen 2
  have f3 := R.out.frozen 3
  have f4 := R.out.frozen 4
  have f5 := R.out.frozen 5
  go_wp2_with fail
  have BB := bset6 R.out
  have g0 := fun u0 u1 u2 u3 u4 u5 => (BB u0 u1 u2 u3 u4 u5).cell 0
  have g1 := fun u0 u1 u2 u3 u4 u5 => (BB u0 u1 u2 u3 u4 u5).cell 1
  have g2 := fun u0 u1 u2 u3 u4 u5 => (BB u0 u1 u2 u3 u4 u5).cell 2
  have g3 := fun u0 u1 u2 u3 u4 u5 => (BB u0 u1 u2 u3 u4 u5).cell 3
  have g4 := fun u0 u1 u2 u3 u4 u5 => (BB u0 u1 u2 u3 u4 u5).cell 4
  have g5 := fun u0 u1 u2 u3 u4 u5 => (BB u0 u1 u2 u3 u4 u5).cell 5
  refine bodyPost_ret (by simp [results, Tryz.results20, g0, g1, g2, g3, g4, g5, go_sem]; try rfl) rfl ?_
  exact ⟨rfl, below6 HB.out (by omega)⟩
set_option maxHeartbeats 4000000 in
theorem rin5 (x : C) (v : BitVec 64) (w : World) :
    Calls Tryz.prog 24 #[.agg #[.int .u64 (bi x.t.v), .int .u64 (bi x.t.m), .int .u64 x.u.lo, .int .u64 x.u.hi, .int .i64 x.s.lo, .int .i64 x.s.hi], .int .u64 (bi v)] w fun e w' => e = .returned (.bool (inC x v)) ∧ Below w.heap.size w w' := by
  obtain ⟨o0, ho0⟩ : ∃ o : Bool, inT x.t v = o := ⟨_, rfl⟩
  obtain ⟨o1, ho1⟩ : ∃ o : Bool, inE x.u (bi v) = o := ⟨_, rfl⟩
  obtain ⟨o2, ho2⟩ : ∃ o : Bool, inE x.s (sg (bi v)) = o := ⟨_, rfl⟩
  have q : inC x v = (o0 && (o1 && o2)) := by rw [← ho0, ← ho1, ← ho2]; rfl
  rw [q]
  have H0 := Lib.hid ho0
  have H1 := Lib.hid ho1
  have H2 := Lib.hid ho2
  clear ho0 ho1 ho2 q
  go_enter Tryz.func24, Tryz.ntmps24
  go_wp2_with fail
  have X := (Bk.new w 30 #[.int .u64 (bi x.t.v), .int .u64 (bi x.t.m), .int .u64 x.u.lo, .int .u64 x.u.hi, .int .i64 x.s.lo, .int .i64 x.s.hi])
  have HB : Below w.heap.size w (w.alloc (.cells #[.int .u64 (bi x.t.v), .int .u64 (bi x.t.m), .int .u64 x.u.lo, .int .u64 x.u.hi, .int .i64 x.s.lo, .int .i64 x.s.hi] 30)) := by go_grown
  generalize (w.alloc (.cells #[.int .u64 (bi x.t.v), .int .u64 (bi x.t.m), .int .u64 x.u.lo, .int .u64 x.u.hi, .int .i64 x.s.lo, .int .i64 x.s.hi] 30)) = w0 at *
  replace X := Lib.hid X
  replace HB := Lib.hid HB
  have x0 := X.out.cell 0
  have x1 := X.out.cell 1
  have x2 := X.out.cell 2
  have x3 := X.out.cell 3
  have x4 := X.out.cell 4
  have x5 := X.out.cell 5
  clear x0 x1 x2 x3 x4 x5
  with_reducible refine (refin_to x.t v o0 H0.out _).mono ?_
  rintro e w1 ⟨rfl, qb⟩
  replace X := Lib.hid (Rg.bkk X.out qb)
  replace HB := Lib.hid (Rg.bth HB.out qb (Nat.le_refl _))
  clear qb
  have x0 := X.out.cell 0
  have x1 := X.out.cell 1
  have x2 := X.out.cell 2
  have x3 := X.out.cell 3
  have x4 := X.out.cell 4
  have x5 := X.out.cell 5
  cases o0
  · go_wp2
    first | go_returns | go_ret
    exact ⟨rfl, HB.out⟩
  · go_wp2_with fail
    clear x0 x1 x2 x3 x4 x5
    with_reducible refine (ruin_to x.u (bi v) o1 H1.out _).mono ?_
    rintro e w2 ⟨rfl, qb⟩
    replace X := Lib.hid (Rg.bkk X.out qb)
    replace HB := Lib.hid (Rg.bth HB.out qb (Nat.le_refl _))
    clear qb
    have x0 := X.out.cell 0
    have x1 := X.out.cell 1
    have x2 := X.out.cell 2
    have x3 := X.out.cell 3
    have x4 := X.out.cell 4
    have x5 := X.out.cell 5
    cases o1
    · go_wp2
      first | go_returns | go_ret
      exact ⟨rfl, HB.out⟩
    · go_wp2_with fail
      clear x0 x1 x2 x3 x4 x5
      with_reducible refine (rsin_to5 x.s v o2 H2.out _).mono ?_
      rintro e w3 ⟨rfl, qb⟩
      replace X := Lib.hid (Rg.bkk X.out qb)
      replace HB := Lib.hid (Rg.bth HB.out qb (Nat.le_refl _))
      clear qb
      have x0 := X.out.cell 0
      have x1 := X.out.cell 1
      have x2 := X.out.cell 2
      have x3 := X.out.cell 3
      have x4 := X.out.cell 4
      have x5 := X.out.cell 5
      cases o2
      · go_wp2
        first | go_returns | go_ret
        exact ⟨rfl, HB.out⟩
      · go_wp2
        first | go_returns | go_ret
        exact ⟨rfl, HB.out⟩
set_option maxHeartbeats 4000000 in
theorem rwith5 (a b : C) (ha : mayC a) (hb : mayC b) (w : World) :
    Calls Tryz.prog 26 #[.agg #[.int .u64 (bi a.t.v), .int .u64 (bi a.t.m), .int .u64 a.u.lo, .int .u64 a.u.hi, .int .i64 a.s.lo, .int .i64 a.s.hi], .agg #[.int .u64 (bi b.t.v), .int .u64 (bi b.t.m), .int .u64 b.u.lo, .int .u64 b.u.hi, .int .i64 b.s.lo, .int .i64 b.s.hi]] w fun e w' => e = .returned (.bool (withC a b)) ∧ Below w.heap.size w w' := by
  obtain ⟨ta, ua, sa⟩ := ha
  obtain ⟨tb, ub, sb⟩ := hb
  obtain ⟨o0, ho0⟩ : ∃ o : Bool, withT a.t b.t = o := ⟨_, rfl⟩
  obtain ⟨o1, ho1⟩ : ∃ o : Bool, withE a.u b.u = o := ⟨_, rfl⟩
  obtain ⟨o2, ho2⟩ : ∃ o : Bool, withE a.s b.s = o := ⟨_, rfl⟩
  have q : withC a b = (o0 && (o1 && o2)) := by rw [← ho0, ← ho1, ← ho2]; rfl
  rw [q]
  have H0 := Lib.hid ho0
  have H1 := Lib.hid ho1
  have H2 := Lib.hid ho2
  clear ho0 ho1 ho2 q
  go_enter Tryz.func26, Tryz.ntmps26
  go_wp2_with fail
  have A := ((Bk.new w 30 #[.int .u64 (bi a.t.v), .int .u64 (bi a.t.m), .int .u64 a.u.lo, .int .u64 a.u.hi, .int .i64 a.s.lo, .int .i64 a.s.hi]).alloc (.cells #[.int .u64 (bi b.t.v), .int .u64 (bi b.t.m), .int .u64 b.u.lo, .int .u64 b.u.hi, .int .i64 b.s.lo, .int .i64 b.s.hi] 30))
  have B := (Bk.new (w.alloc (.cells #[.int .u64 (bi a.t.v), .int .u64 (bi a.t.m), .int .u64 a.u.lo, .int .u64 a.u.hi, .int .i64 a.s.lo, .int .i64 a.s.hi] 30)) 30 #[.int .u64 (bi b.t.v), .int .u64 (bi b.t.m), .int .u64 b.u.lo, .int .u64 b.u.hi, .int .i64 b.s.lo, .int .i64 b.s.hi])
  rw [World.size_alloc] at B
  have HB : Below w.heap.size w ((w.alloc (.cells #[.int .u64 (bi a.t.v), .int .u64 (bi a.t.m), .int .u64 a.u.lo, .int .u64 a.u.hi, .int .i64 a.s.lo, .int .i64 a.s.hi] 30)).alloc (.cells #[.int .u64 (bi b.t.v), .int .u64 (bi b.t.m), .int .u64 b.u.lo, .int .u64 b.u.hi, .int .i64 b.s.lo, .int .i64 b.s.hi] 30)) := by go_grown
  generalize ((w.alloc (.cells #[.int .u64 (bi a.t.v), .int .u64 (bi a.t.m), .int .u64 a.u.lo, .int .u64 a.u.hi, .int .i64 a.s.lo, .int .i64 a.s.hi] 30)).alloc (.cells #[.int .u64 (bi b.t.v), .int .u64 (bi b.t.m), .int .u64 b.u.lo, .int .u64 b.u.hi, .int .i64 b.s.lo, .int .i64 b.s.hi] 30)) = w0 at *
  replace A := Lib.hid A
  replace B := Lib.hid B
  replace HB := Lib.hid HB
  have a0 := A.out.cell 0
  have a1 := A.out.cell 1
  have a2 := A.out.cell 2
  have a3 := A.out.cell 3
  have a4 := A.out.cell 4
  have a5 := A.out.cell 5
  have b0 := B.out.cell 0
  have b1 := B.out.cell 1
  have b2 := B.out.cell 2
  have b3 := B.out.cell 3
  have b4 := B.out.cell 4
  have b5 := B.out.cell 5
  clear a0 a1 a2 a3 a4 a5 b0 b1 b2 b3 b4 b5
  with_reducible refine (refwithin_to a.t b.t o0 tb H0.out _).mono ?_
  rintro e w1 ⟨rfl, qb⟩
  replace A := Lib.hid (Rg.bkk A.out qb)
  replace B := Lib.hid (Rg.bkk B.out qb)
  replace HB := Lib.hid (Rg.bth HB.out qb (Nat.le_refl _))
  clear qb
  have a0 := A.out.cell 0
  have a1 := A.out.cell 1
  have a2 := A.out.cell 2
  have a3 := A.out.cell 3
  have a4 := A.out.cell 4
  have a5 := A.out.cell 5
  have b0 := B.out.cell 0
  have b1 := B.out.cell 1
  have b2 := B.out.cell 2
  have b3 := B.out.cell 3
  have b4 := B.out.cell 4
  have b5 := B.out.cell 5
  cases o0
  · go_wp2
    first | go_returns | go_ret
    exact ⟨rfl, HB.out⟩
  · go_wp2_with fail
    clear a0 a1 a2 a3 a4 a5 b0 b1 b2 b3 b4 b5
    with_reducible refine (ruwith_to5 a.u b.u o1 ua H1.out _).mono ?_
    rintro e w2 ⟨rfl, qb⟩
    replace A := Lib.hid (Rg.bkk A.out qb)
    replace B := Lib.hid (Rg.bkk B.out qb)
    replace HB := Lib.hid (Rg.bth HB.out qb (Nat.le_refl _))
    clear qb
    have a0 := A.out.cell 0
    have a1 := A.out.cell 1
    have a2 := A.out.cell 2
    have a3 := A.out.cell 3
    have a4 := A.out.cell 4
    have a5 := A.out.cell 5
    have b0 := B.out.cell 0
    have b1 := B.out.cell 1
    have b2 := B.out.cell 2
    have b3 := B.out.cell 3
    have b4 := B.out.cell 4
    have b5 := B.out.cell 5
    cases o1
    · go_wp2
      first | go_returns | go_ret
      exact ⟨rfl, HB.out⟩
    · go_wp2_with fail
      clear a0 a1 a2 a3 a4 a5 b0 b1 b2 b3 b4 b5
      with_reducible refine (rswith_to5 a.s b.s o2 H2.out _).mono ?_
      rintro e w3 ⟨rfl, qb⟩
      replace A := Lib.hid (Rg.bkk A.out qb)
      replace B := Lib.hid (Rg.bkk B.out qb)
      replace HB := Lib.hid (Rg.bth HB.out qb (Nat.le_refl _))
      clear qb
      have a0 := A.out.cell 0
      have a1 := A.out.cell 1
      have a2 := A.out.cell 2
      have a3 := A.out.cell 3
      have a4 := A.out.cell 4
      have a5 := A.out.cell 5
      have b0 := B.out.cell 0
      have b1 := B.out.cell 1
      have b2 := B.out.cell 2
      have b3 := B.out.cell 3
      have b4 := B.out.cell 4
      have b5 := B.out.cell 5
      cases o2
      · go_wp2
        first | go_returns | go_ret
        exact ⟨rfl, HB.out⟩
      · go_wp2
        first | go_returns | go_ret
        exact ⟨rfl, HB.out⟩
set_option maxHeartbeats 4000000 in
theorem ris5 (x : C) (hx : mayC x) (w : World) :
    Calls Tryz.prog 14 #[.agg #[.int .u64 (bi x.t.v), .int .u64 (bi x.t.m), .int .u64 x.u.lo, .int .u64 x.u.hi, .int .i64 x.s.lo, .int .i64 x.s.hi]] w fun e w' => e = .returned (.tuple #[.int .u64 (oneC x), .bool (aloneC x)]) ∧ Below w.heap.size w w' := by
  obtain ⟨q1, hq1⟩ : ∃ o : Bool, (x.u.lo == x.u.hi) = o := ⟨_, rfl⟩
  obtain ⟨q2, hq2⟩ : ∃ o : Bool, (bi x.t.m == 0) = o := ⟨_, rfl⟩
  obtain ⟨q3, hq3⟩ : ∃ o : Bool, (x.s.lo == x.s.hi) = o := ⟨_, rfl⟩
  have e1 : aloneC x = (q1 || (q2 || q3)) := by
    rw [← hq1, ← hq2, ← hq3, bi_eq0]; unfold aloneC; rw [beqd, beqd]
  have e2 : oneC x = if q1 then x.u.lo else if q2 then bi x.t.v else if q3 then us x.s.lo else 0 := by
    rw [← hq1, ← hq2, ← hq3, bi_eq0]; unfold oneC; simp only [beq_iff_eq]
  rw [e1, e2]
  have WU : IntKind.u64.wrap x.s.lo = us x.s.lo := by
    have hs := hx.2.2
    unfold okS at hs
    rw [IntKind.wrap_u64]; unfold us; split <;> omega
  clear e1 e2
  cases q1 <;> cases q2 <;> cases q3 <;> (go_enter Tryz.func14, Tryz.ntmps14; go_wp2; first | go_returns | go_ret)
  all_goals exact ⟨by first | rfl | (simp [WU]; done), by go_grown⟩
end Go.Proofs.YtcimihckhobniaaGreat.Sc
namespace Go.Proofs.YtcimihckhobniaaGreat.Sc
open Go.RowKit Tn Ow Sp
set_option linter.unusedVariables false
set_option linter.unusedSimpArgs false
set_option maxRecDepth 100000
theorem cs6 {w : World} {p : Addr} {r : Nat} {v0 v1 v2 v3 v4 v5 : Value} (h : p.block ≠ r) : ((((((w.setCell ⟨r, 0, none⟩ v0).setCell ⟨r, 1, none⟩ v1).setCell ⟨r, 2, none⟩ v2).setCell ⟨r, 3, none⟩ v3).setCell ⟨r, 4, none⟩ v4).setCell ⟨r, 5, none⟩ v5).cell? p = w.cell? p := by
  have n := Ne.symm h
  rw [World.cell?_setCell_far _ _ _ _ n, World.cell?_setCell_far _ _ _ _ n, World.cell?_setCell_far _ _ _ _ n, World.cell?_setCell_far _ _ _ _ n, World.cell?_setCell_far _ _ _ _ n, World.cell?_setCell_far _ _ _ _ n]
theorem bs6 {B : Nat} {w w1 : World} {r : Nat} {v0 v1 v2 v3 v4 v5 : Value} (h : Below B w w1) (hr : B ≤ r) : Below B w ((((((w1.setCell ⟨r, 0, none⟩ v0).setCell ⟨r, 1, none⟩ v1).setCell ⟨r, 2, none⟩ v2).setCell ⟨r, 3, none⟩ v3).setCell ⟨r, 4, none⟩ v4).setCell ⟨r, 5, none⟩ v5) :=
  (((((h.setCell (p := ⟨r, 0, none⟩) hr v0).setCell (p := ⟨r, 1, none⟩) hr v1).setCell (p := ⟨r, 2, none⟩) hr v2).setCell (p := ⟨r, 3, none⟩) hr v3).setCell (p := ⟨r, 4, none⟩) hr v4).setCell (p := ⟨r, 5, none⟩) hr v5
theorem kx12 {B r : Nat} {t : TypeId} {w W w2 : World} {p0 p1 p2 p3 p4 p5 p6 p7 p8 p9 p10 p11 : Addr} {y0 y1 y2 y3 y4 y5 y6 y7 y8 y9 y10 y11 : Value} (hB : B ≤ w.heap.size) (hb : Below W.heap.size W w2) (hh : W.cell? p0 = some y0 ∧ W.cell? p1 = some y1 ∧ W.cell? p2 = some y2 ∧ W.cell? p3 = some y3 ∧ W.cell? p4 = some y4 ∧ W.cell? p5 = some y5 ∧ W.cell? p6 = some y6 ∧ W.cell? p7 = some y7 ∧ W.cell? p8 = some y8 ∧ W.cell? p9 = some y9 ∧ W.cell? p10 = some y10 ∧ W.cell? p11 = some y11 ∧ (∃ x0 x1 x2 x3 x4 x5 : Value, Bk W r t #[x0, x1, x2, x3, x4, x5]) ∧ Below B w W) :
    w2.cell? p0 = some y0 ∧ w2.cell? p1 = some y1 ∧ w2.cell? p2 = some y2 ∧ w2.cell? p3 = some y3 ∧ w2.cell? p4 = some y4 ∧ w2.cell? p5 = some y5 ∧ w2.cell? p6 = some y6 ∧ w2.cell? p7 = some y7 ∧ w2.cell? p8 = some y8 ∧ w2.cell? p9 = some y9 ∧ w2.cell? p10 = some y10 ∧ w2.cell? p11 = some y11 ∧ (∃ x0 x1 x2 x3 x4 x5 : Value, Bk w2 r t #[x0, x1, x2, x3, x4, x5]) ∧ Below B w w2 := by
  obtain ⟨a0, a1, a2, a3, a4, a5, a6, a7, a8, a9, a10, a11, ⟨x0, x1, x2, x3, x4, x5, R⟩, H⟩ := hh
  exact ⟨Rg.kc hb a0, Rg.kc hb a1, Rg.kc hb a2, Rg.kc hb a3, Rg.kc hb a4, Rg.kc hb a5, Rg.kc hb a6, Rg.kc hb a7, Rg.kc hb a8, Rg.kc hb a9, Rg.kc hb a10, Rg.kc hb a11, ⟨x0, x1, x2, x3, x4, x5, Rg.bkk R hb⟩, Rg.bth H hb hB⟩
theorem sx12 {B r : Nat} {t : TypeId} {w W : World} {v0 v1 v2 v3 v4 v5 : Value} {p0 p1 p2 p3 p4 p5 p6 p7 p8 p9 p10 p11 : Addr} {y0 y1 y2 y3 y4 y5 y6 y7 y8 y9 y10 y11 : Value} (n0 : p0.block ≠ r) (n1 : p1.block ≠ r) (n2 : p2.block ≠ r) (n3 : p3.block ≠ r) (n4 : p4.block ≠ r) (n5 : p5.block ≠ r) (n6 : p6.block ≠ r) (n7 : p7.block ≠ r) (n8 : p8.block ≠ r) (n9 : p9.block ≠ r) (n10 : p10.block ≠ r) (n11 : p11.block ≠ r) (hr : B ≤ r) (hh : W.cell? p0 = some y0 ∧ W.cell? p1 = some y1 ∧ W.cell? p2 = some y2 ∧ W.cell? p3 = some y3 ∧ W.cell? p4 = some y4 ∧ W.cell? p5 = some y5 ∧ W.cell? p6 = some y6 ∧ W.cell? p7 = some y7 ∧ W.cell? p8 = some y8 ∧ W.cell? p9 = some y9 ∧ W.cell? p10 = some y10 ∧ W.cell? p11 = some y11 ∧ (∃ x0 x1 x2 x3 x4 x5 : Value, Bk W r t #[x0, x1, x2, x3, x4, x5]) ∧ Below B w W) :
    ((((((W.setCell ⟨r, 0, none⟩ v0).setCell ⟨r, 1, none⟩ v1).setCell ⟨r, 2, none⟩ v2).setCell ⟨r, 3, none⟩ v3).setCell ⟨r, 4, none⟩ v4).setCell ⟨r, 5, none⟩ v5).cell? p0 = some y0 ∧ ((((((W.setCell ⟨r, 0, none⟩ v0).setCell ⟨r, 1, none⟩ v1).setCell ⟨r, 2, none⟩ v2).setCell ⟨r, 3, none⟩ v3).setCell ⟨r, 4, none⟩ v4).setCell ⟨r, 5, none⟩ v5).cell? p1 = some y1 ∧ ((((((W.setCell ⟨r, 0, none⟩ v0).setCell ⟨r, 1, none⟩ v1).setCell ⟨r, 2, none⟩ v2).setCell ⟨r, 3, none⟩ v3).setCell ⟨r, 4, none⟩ v4).setCell ⟨r, 5, none⟩ v5).cell? p2 = some y2 ∧ ((((((W.setCell ⟨r, 0, none⟩ v0).setCell ⟨r, 1, none⟩ v1).setCell ⟨r, 2, none⟩ v2).setCell ⟨r, 3, none⟩ v3).setCell ⟨r, 4, none⟩ v4).setCell ⟨r, 5, none⟩ v5).cell? p3 = some y3 ∧ ((((((W.setCell ⟨r, 0, none⟩ v0).setCell ⟨r, 1, none⟩ v1).setCell ⟨r, 2, none⟩ v2).setCell ⟨r, 3, none⟩ v3).setCell ⟨r, 4, none⟩ v4).setCell ⟨r, 5, none⟩ v5).cell? p4 = some y4 ∧ ((((((W.setCell ⟨r, 0, none⟩ v0).setCell ⟨r, 1, none⟩ v1).setCell ⟨r, 2, none⟩ v2).setCell ⟨r, 3, none⟩ v3).setCell ⟨r, 4, none⟩ v4).setCell ⟨r, 5, none⟩ v5).cell? p5 = some y5 ∧ ((((((W.setCell ⟨r, 0, none⟩ v0).setCell ⟨r, 1, none⟩ v1).setCell ⟨r, 2, none⟩ v2).setCell ⟨r, 3, none⟩ v3).setCell ⟨r, 4, none⟩ v4).setCell ⟨r, 5, none⟩ v5).cell? p6 = some y6 ∧ ((((((W.setCell ⟨r, 0, none⟩ v0).setCell ⟨r, 1, none⟩ v1).setCell ⟨r, 2, none⟩ v2).setCell ⟨r, 3, none⟩ v3).setCell ⟨r, 4, none⟩ v4).setCell ⟨r, 5, none⟩ v5).cell? p7 = some y7 ∧ ((((((W.setCell ⟨r, 0, none⟩ v0).setCell ⟨r, 1, none⟩ v1).setCell ⟨r, 2, none⟩ v2).setCell ⟨r, 3, none⟩ v3).setCell ⟨r, 4, none⟩ v4).setCell ⟨r, 5, none⟩ v5).cell? p8 = some y8 ∧ ((((((W.setCell ⟨r, 0, none⟩ v0).setCell ⟨r, 1, none⟩ v1).setCell ⟨r, 2, none⟩ v2).setCell ⟨r, 3, none⟩ v3).setCell ⟨r, 4, none⟩ v4).setCell ⟨r, 5, none⟩ v5).cell? p9 = some y9 ∧ ((((((W.setCell ⟨r, 0, none⟩ v0).setCell ⟨r, 1, none⟩ v1).setCell ⟨r, 2, none⟩ v2).setCell ⟨r, 3, none⟩ v3).setCell ⟨r, 4, none⟩ v4).setCell ⟨r, 5, none⟩ v5).cell? p10 = some y10 ∧ ((((((W.setCell ⟨r, 0, none⟩ v0).setCell ⟨r, 1, none⟩ v1).setCell ⟨r, 2, none⟩ v2).setCell ⟨r, 3, none⟩ v3).setCell ⟨r, 4, none⟩ v4).setCell ⟨r, 5, none⟩ v5).cell? p11 = some y11 ∧ (∃ x0 x1 x2 x3 x4 x5 : Value, Bk ((((((W.setCell ⟨r, 0, none⟩ v0).setCell ⟨r, 1, none⟩ v1).setCell ⟨r, 2, none⟩ v2).setCell ⟨r, 3, none⟩ v3).setCell ⟨r, 4, none⟩ v4).setCell ⟨r, 5, none⟩ v5) r t #[x0, x1, x2, x3, x4, x5]) ∧ Below B w ((((((W.setCell ⟨r, 0, none⟩ v0).setCell ⟨r, 1, none⟩ v1).setCell ⟨r, 2, none⟩ v2).setCell ⟨r, 3, none⟩ v3).setCell ⟨r, 4, none⟩ v4).setCell ⟨r, 5, none⟩ v5) := by
  obtain ⟨a0, a1, a2, a3, a4, a5, a6, a7, a8, a9, a10, a11, ⟨x0, x1, x2, x3, x4, x5, R⟩, H⟩ := hh
  exact ⟨(cs6 n0).trans a0, (cs6 n1).trans a1, (cs6 n2).trans a2, (cs6 n3).trans a3, (cs6 n4).trans a4, (cs6 n5).trans a5, (cs6 n6).trans a6, (cs6 n7).trans a7, (cs6 n8).trans a8, (cs6 n9).trans a9, (cs6 n10).trans a10, (cs6 n11).trans a11, ⟨v0, v1, v2, v3, v4, v5, bset6 R _ _ _ _ _ _⟩, bs6 H hr⟩
noncomputable def join1C : Code := (Tryz.f28.body.bind (Rg.findR 1)).getD .skip
set_option maxHeartbeats 20000000 in
theorem join1 {K : Act → World → Prop} {Q0 : Exit → Act → World → Prop} {ga gb r B : Nat} {a b : C} {u0 u1 u5 u6 u7 u8 u9 u10 u11 u12 u13 u14 u15 u16 u17 u18 u19 u20 : Value} {w y : World}
    (hQ : ∀ c a d v w, Q0 (.panic c) (Act.put a d v) w → Q0 (.panic c) a w)  (hw : B ≤ w.heap.size) (hr : B ≤ r) (nga : ga ≠ r) (ngb : gb ≠ r) (HB : Below B w y) (bga : Bk y ga 30 #[.int .u64 (bi a.t.v),.int .u64 (bi a.t.m),.int .u64 a.u.lo,.int .u64 a.u.hi,.int .i64 a.s.lo,.int .i64 a.s.hi]) (bgb : Bk y gb 30 #[.int .u64 (bi b.t.v),.int .u64 (bi b.t.m),.int .u64 b.u.lo,.int .u64 b.u.hi,.int .i64 b.s.lo,.int .i64 b.s.hi]) (hR : ∃ x0 x1 x2 x3 x4 x5 : Value, Bk y r 30 #[x0, x1, x2, x3, x4, x5])
    (hK : ∀ (t5 t6 t7 t8 t9 t10 t11 t12 t13 t14 t15 t16 t17 t18 t19 t20 : Value) (z : World), Bk z r 30 #[.int .u64 (bi (joinC a b).t.v), .int .u64 (bi (joinC a b).t.m), .int .u64 (joinC a b).u.lo, .int .u64 (joinC a b).u.hi, .int .i64 (joinC a b).s.lo, .int .i64 (joinC a b).s.hi] → Below B w z → K ⟨#[u0, u1, .pointer (some ⟨ga, 0, none⟩), .pointer (some ⟨gb, 0, none⟩), .pointer (some ⟨r, 0, none⟩), t5, t6, t7, t8, t9, t10, t11, t12, t13, t14, t15, t16, t17, t18, t19, t20], []⟩ z) :
    join1C.wp Tryz.prog (Exit.then K Q0) ⟨#[u0, u1, .pointer (some ⟨ga, 0, none⟩), .pointer (some ⟨gb, 0, none⟩), .pointer (some ⟨r, 0, none⟩), u5, u6, u7, u8, u9, u10, u11, u12, u13, u14, u15, u16, u17, u18, u19, u20], []⟩ y := by
  have HK := Lib.hid hK
  clear hK
  have hq : ∀ c a d v w, Exit.then K Q0 (.panic c) (Act.put a d v) w → Exit.then K Q0 (.panic c) a w := hQ
  conv => arg 2; whnf
  refine wp_region_held_drew (S := fun w' => w'.cell? ⟨ga, 0, none⟩ = some (.int .u64 (bi a.t.v)) ∧ w'.cell? ⟨ga, 1, none⟩ = some (.int .u64 (bi a.t.m)) ∧ w'.cell? ⟨ga, 2, none⟩ = some (.int .u64 a.u.lo) ∧ w'.cell? ⟨ga, 3, none⟩ = some (.int .u64 a.u.hi) ∧ w'.cell? ⟨ga, 4, none⟩ = some (.int .i64 a.s.lo) ∧ w'.cell? ⟨ga, 5, none⟩ = some (.int .i64 a.s.hi) ∧ w'.cell? ⟨gb, 0, none⟩ = some (.int .u64 (bi b.t.v)) ∧ w'.cell? ⟨gb, 1, none⟩ = some (.int .u64 (bi b.t.m)) ∧ w'.cell? ⟨gb, 2, none⟩ = some (.int .u64 b.u.lo) ∧ w'.cell? ⟨gb, 3, none⟩ = some (.int .u64 b.u.hi) ∧ w'.cell? ⟨gb, 4, none⟩ = some (.int .i64 b.s.lo) ∧ w'.cell? ⟨gb, 5, none⟩ = some (.int .i64 b.s.hi) ∧ (∃ x0 x1 x2 x3 x4 x5 : Value, Bk w' r 30 #[x0, x1, x2, x3, x4, x5]) ∧ Below B w w') (by kernel_rfl) ⟨bga.cell 0, bga.cell 1, bga.cell 2, bga.cell 3, bga.cell 4, bga.cell 5, bgb.cell 0, bgb.cell 1, bgb.cell 2, bgb.cell 3, bgb.cell 4, bgb.cell 5, hR, HB.drew⟩ (fun g => ?_)
  generalize y.drew = z0 at *
  clear hR HB bga bgb
  refine tq 0 ?_ rfl (by kernel_rfl) (fun c a w => hq c a _ _ w) (by rfl) g ?_ ?_; rotate_left
  · intro w9 h; go_simp; try with_reducible rfl
  simp only [Act.put, ptA, ptB, ptC]
  refine tq 1 ?_ rfl (by kernel_rfl) (fun c a w => hq c a _ _ w) (by rfl) g ?_ ?_; rotate_left
  · intro w9 h; go_simp; try with_reducible rfl
  simp only [Act.put, ptA, ptB, ptC]
  refine tq 2 ?_ rfl (by kernel_rfl) (fun c a w => hq c a _ _ w) (by rfl) g ?_ ?_; rotate_left
  · intro w9 h; go_simp; try with_reducible rfl
  simp only [Act.put, ptA, ptB, ptC]
  refine tq 3 ?_ rfl (by kernel_rfl) (fun c a w => hq c a _ _ w) (by rfl) g ?_ ?_; rotate_left
  · intro w9 h; go_simp; try with_reducible rfl
  simp only [Act.put, ptA, ptB, ptC]
  refine tq 5 ?_ rfl (by kernel_rfl) (fun c a w => hq c a _ _ w) (by rfl) g ?_ ?_; rotate_left
  · intro w9 h; go_simp; try with_reducible rfl
  simp only [Act.put, ptA, ptB, ptC]
  refine tq 6 ?_ rfl (by kernel_rfl) (fun c a w => hq c a _ _ w) (by rfl) g ?_ ?_; rotate_left
  · intro w9 h; go_simp; try with_reducible rfl
  simp only [Act.put, ptA, ptB, ptC]
  refine tq 7 ?_ rfl (by kernel_rfl) (fun c a w => hq c a _ _ w) (by rfl) g ?_ ?_; rotate_left
  · intro w9 h; go_simp; try with_reducible rfl
  simp only [Act.put, ptA, ptB, ptC]
  refine tq 8 ?_ rfl (by kernel_rfl) (fun c a w => hq c a _ _ w) (by rfl) g ?_ ?_; rotate_left
  · intro w9 h; go_simp; try with_reducible rfl
  simp only [Act.put, ptA, ptB, ptC]
  refine tq 10 ?_ rfl (by kernel_rfl) (fun c a w => hq c a _ _ w) (by rfl) g ?_ ?_; rotate_left
  · intro w9 h; go_simp; try with_reducible rfl
  simp only [Act.put, ptA, ptB, ptC]
  refine tq 11 ?_ rfl (by kernel_rfl) (fun c a w => hq c a _ _ w) (by rfl) g ?_ ?_; rotate_left
  · intro w9 h; go_simp; try with_reducible rfl
  simp only [Act.put, ptA, ptB, ptC]
  refine tq 12 ?_ rfl (by kernel_rfl) (fun c a w => hq c a _ _ w) (by rfl) g ?_ ?_; rotate_left
  · intro w9 h; go_simp; try with_reducible rfl
  simp only [Act.put, ptA, ptB, ptC]
  refine tq 13 ?_ rfl (by kernel_rfl) (fun c a w => hq c a _ _ w) (by rfl) g ?_ ?_; rotate_left
  · intro w9 h; go_simp; try with_reducible rfl
  simp only [Act.put, ptA, ptB, ptC]
  refine tc 4 rfl (by kernel_rfl) (fun K9 hK => ?_)
  go_simp
  (go_at_call 72; with_reducible refine (L3.refjoin_any a.t b.t _).mono ?_; rintro e z1 ⟨rfl, qb⟩)
  refine hK.out _ _ (kx12 hw qb g) (fun g1 => ?_)
  clear hK K9 qb g
  refine tc 9 rfl (by kernel_rfl) (fun K9 hK => ?_)
  go_simp
  (go_at_call 73; with_reducible refine (rujoin_any a.u b.u _).mono ?_; rintro e z2 ⟨rfl, qb⟩)
  refine hK.out _ _ (kx12 hw qb g1) (fun g2 => ?_)
  clear hK K9 qb g1
  refine tc 14 rfl (by kernel_rfl) (fun K9 hK => ?_)
  go_simp
  (go_at_call 74; with_reducible refine (rsjoin_any a.s b.s _).mono ?_; rintro e z3 ⟨rfl, qb⟩)
  refine hK.out _ _ (kx12 hw qb g2) (fun g3 => ?_)
  clear hK K9 qb g2
  refine tq 15 ?_ rfl (by kernel_rfl) (fun c a w => hq c a _ _ w) (by rfl) g3 ?_ ?_; rotate_left
  · intro w9 h; go_simp; try with_reducible rfl
  simp only [Act.put, ptA, ptB, ptC]
  obtain ⟨x0, x1, x2, x3, x4, x5, RR⟩ := g3.2.2.2.2.2.2.2.2.2.2.2.2.1
  have d0 := RR.cell 0
  have d1 := RR.cell 1
  have d2 := RR.cell 2
  have d3 := RR.cell 3
  have d4 := RR.cell 4
  have d5 := RR.cell 5
  have e0 := RR.frozen 0
  have e1 := RR.frozen 1
  have e2 := RR.frozen 2
  have e3 := RR.frozen 3
  have e4 := RR.frozen 4
  have e5 := RR.frozen 5
  refine tc 16 rfl (by kernel_rfl) (fun K9 hK => ?_)
  go_simp
  refine hK.out _ _ (sx12 nga nga nga nga nga nga ngb ngb ngb ngb ngb ngb hr g3) (fun g9 => ?_)
  clear hK K9
  refine wpAnyH_done (by kernel_rfl) ?_ _
  exact HK.out _ _ _ _ _ _ _ _ _ _ _ _ _ _ _ _ _ (bset6 RR _ _ _ _ _ _) g9.2.2.2.2.2.2.2.2.2.2.2.2.2
set_option maxHeartbeats 4000000 in
theorem rjoin5 (a b : C) (w : World) :
    Calls Tryz.prog 28 #[.agg #[.int .u64 (bi a.t.v), .int .u64 (bi a.t.m), .int .u64 a.u.lo, .int .u64 a.u.hi, .int .i64 a.s.lo, .int .i64 a.s.hi], .agg #[.int .u64 (bi b.t.v), .int .u64 (bi b.t.m), .int .u64 b.u.lo, .int .u64 b.u.hi, .int .i64 b.s.lo, .int .i64 b.s.hi]] w fun e w' => e = .returned (.agg #[.int .u64 (bi (joinC a b).t.v), .int .u64 (bi (joinC a b).t.m), .int .u64 (joinC a b).u.lo, .int .u64 (joinC a b).u.hi, .int .i64 (joinC a b).s.lo, .int .i64 (joinC a b).s.hi]) ∧ Below w.heap.size w w' := by
  go_enter Tryz.func28, Tryz.ntmps28
  go_wp2_with fail
  have A := (((Bk.new w 30 #[.int .u64 (bi a.t.v), .int .u64 (bi a.t.m), .int .u64 a.u.lo, .int .u64 a.u.hi, .int .i64 a.s.lo, .int .i64 a.s.hi]).alloc (.cells #[.int .u64 (bi b.t.v), .int .u64 (bi b.t.m), .int .u64 b.u.lo, .int .u64 b.u.hi, .int .i64 b.s.lo, .int .i64 b.s.hi] 30)).alloc (.cells #[.int .u64 0, .int .u64 0, .int .u64 0, .int .u64 0, .int .i64 0, .int .i64 0] 30))
  have B := ((Bk.new (w.alloc (.cells #[.int .u64 (bi a.t.v), .int .u64 (bi a.t.m), .int .u64 a.u.lo, .int .u64 a.u.hi, .int .i64 a.s.lo, .int .i64 a.s.hi] 30)) 30 #[.int .u64 (bi b.t.v), .int .u64 (bi b.t.m), .int .u64 b.u.lo, .int .u64 b.u.hi, .int .i64 b.s.lo, .int .i64 b.s.hi]).alloc (.cells #[.int .u64 0, .int .u64 0, .int .u64 0, .int .u64 0, .int .i64 0, .int .i64 0] 30))
  rw [World.size_alloc] at B
  have R := (Bk.new ((w.alloc (.cells #[.int .u64 (bi a.t.v), .int .u64 (bi a.t.m), .int .u64 a.u.lo, .int .u64 a.u.hi, .int .i64 a.s.lo, .int .i64 a.s.hi] 30)).alloc (.cells #[.int .u64 (bi b.t.v), .int .u64 (bi b.t.m), .int .u64 b.u.lo, .int .u64 b.u.hi, .int .i64 b.s.lo, .int .i64 b.s.hi] 30)) 30 #[.int .u64 0, .int .u64 0, .int .u64 0, .int .u64 0, .int .i64 0, .int .i64 0])
  rw [World.size_alloc, World.size_alloc] at R
  have HB : Below w.heap.size w (((w.alloc (.cells #[.int .u64 (bi a.t.v), .int .u64 (bi a.t.m), .int .u64 a.u.lo, .int .u64 a.u.hi, .int .i64 a.s.lo, .int .i64 a.s.hi] 30)).alloc (.cells #[.int .u64 (bi b.t.v), .int .u64 (bi b.t.m), .int .u64 b.u.lo, .int .u64 b.u.hi, .int .i64 b.s.lo, .int .i64 b.s.hi] 30)).alloc (.cells #[.int .u64 0, .int .u64 0, .int .u64 0, .int .u64 0, .int .i64 0, .int .i64 0] 30)) := by go_grown
  generalize (((w.alloc (.cells #[.int .u64 (bi a.t.v), .int .u64 (bi a.t.m), .int .u64 a.u.lo, .int .u64 a.u.hi, .int .i64 a.s.lo, .int .i64 a.s.hi] 30)).alloc (.cells #[.int .u64 (bi b.t.v), .int .u64 (bi b.t.m), .int .u64 b.u.lo, .int .u64 b.u.hi, .int .i64 b.s.lo, .int .i64 b.s.hi] 30)).alloc (.cells #[.int .u64 0, .int .u64 0, .int .u64 0, .int .u64 0, .int .i64 0, .int .i64 0] 30)) = w0 at *
  replace A := Lib.hid A
  replace B := Lib.hid B
  replace R := Lib.hid R
  replace HB := Lib.hid HB
  have a0 := A.out.cell 0
  have a1 := A.out.cell 1
  have a2 := A.out.cell 2
  have a3 := A.out.cell 3
  have a4 := A.out.cell 4
  have a5 := A.out.cell 5
  have b0 := B.out.cell 0
  have b1 := B.out.cell 1
  have b2 := B.out.cell 2
  have b3 := B.out.cell 3
  have b4 := B.out.cell 4
  have b5 := B.out.cell 5
  have r0 := R.out.cell 0
  have r1 := R.out.cell 1
  have r2 := R.out.cell 2
  have r3 := R.out.cell 3
  have r4 := R.out.cell 4
  have r5 := R.out.cell 5
  have f0 := R.out.frozen 0
  have f1 := R.out.frozen 1
  have f2 := R.out.frozen 2
  have f3 := R.out.frozen 3
  have f4 := R.out.frozen 4
  have f5 := R.out.frozen 5
  clear a0 a1 a2 a3 a4 a5 b0 b1 b2 b3 b4 b5 r0 r1 r2 r3 r4 r5 f0 f1 f2 f3 f4 f5
  refine join1 (fun _ _ d _ _ h => by cases d <;> exact h) (Nat.le_refl _) (by omega) (by omega) (by omega) HB.out A.out B.out ⟨_, _, _, _, _, _, R.out⟩ ?_
  intro t5 t6 t7 t8 t9 t10 t11 t12 t13 t14 t15 t16 t17 t18 t19 t20 z RR HZ
  try dsimp only
  have g0 := RR.cell 0
  have g1 := RR.cell 1
  have g2 := RR.cell 2
  have g3 := RR.cell 3
  have g4 := RR.cell 4
  have g5 := RR.cell 5
  go_wp2
  refine bodyPost_ret (by simp [results, Tryz.results28, g0, g1, g2, g3, g4, g5, go_sem]; try rfl) rfl ?_
  exact ⟨rfl, HZ⟩
end Go.Proofs.YtcimihckhobniaaGreat.Sc
