/-
  Proved: the statement TnumLattice: Join has both tnums and is within whatever has both; Meet has just the numbers that both have, and is none where there is no such number. No conditions.
-/
import Derived.Test.YtjjiancacokaiaaRows
import Derived.Test.YtjjiancacokaiaaTnumTo2
import Derived.Deep.RegionHeld3
import Derived.Deep.DeepCutAuto
import Derived.WalkKit
import Derived.ProofKit
import Derived.OpenShut
import Derived.ChangeOld
import Derived.Below
import Derived.Handy
namespace Go.Proofs.Ytjjiancacokaiaa.tnumLattice
open Go.ChangeShapes Go.WideShapes Go.ChangeAt Go.RowKit Tn Ow
set_option linter.unusedVariables false
set_option linter.unusedSimpArgs false

theorem own : ownKnob Try.prog.godebug = none := by kernel_rfl
theorem laidOut : laidOutB Try.prog = true := by kernel_rfl

theorem sixk {w W w2 : World} {p0 p1 p2 p3 p4 p5 : Addr} {y0 y1 y2 y3 y4 y5 : Value} (hb : Below W.heap.size W w2) (hh : W.cell? p0 = some y0 ∧ W.cell? p1 = some y1 ∧ W.cell? p2 = some y2 ∧ W.cell? p3 = some y3 ∧ W.cell? p4 = some y4 ∧ W.cell? p5 = some y5 ∧ Below w.heap.size w W) :
    w2.cell? p0 = some y0 ∧ w2.cell? p1 = some y1 ∧ w2.cell? p2 = some y2 ∧ w2.cell? p3 = some y3 ∧ w2.cell? p4 = some y4 ∧ w2.cell? p5 = some y5 ∧ Below w.heap.size w w2 := by
  obtain ⟨a0, a1, a2, a3, a4, a5, B⟩ := hh
  exact ⟨keep1 hb a0, keep1 hb a1, keep1 hb a2, keep1 hb a3, keep1 hb a4, keep1 hb a5, below_then B hb (Nat.le_refl _)⟩
theorem kmeet0 (a b : T) (h : meetOk a b = false) (w : World) :
    Calls Try.prog 13 #[.agg #[.int .u64 (bi a.v), .int .u64 (bi a.m)], .agg #[.int .u64 (bi b.v), .int .u64 (bi b.m)]] w fun e w' => e = .returned (.tuple #[.agg #[.int .u64 0, .int .u64 0], .bool false]) ∧ Below w.heap.size w w' := by
  have h9 := meet_to a b ⟨0#64, 0#64⟩ false (meet_no h) h w
  exact h9
theorem new_bkz {w w1 : World} (h : Below w.heap.size w w1) : Bk (w1.alloc (.cells #[.int .u64 0, .int .u64 0] 24)) w1.heap.size 24 #[.int .u64 0, .int .u64 0] ∧ Below w.heap.size w (w1.alloc (.cells #[.int .u64 0, .int .u64 0] 24)) :=
  ⟨Bk.new _ _ _, h.alloc h.size _⟩

set_option maxRecDepth 100000 in
set_option maxHeartbeats 4000000 in
theorem walk (x0 : T) (x1 : T) (x2 : T) (u3 : BitVec 64) (w : World) :
    Calls Try.prog 9 #[.agg #[.int .u64 (bi x0.v), .int .u64 (bi x0.m)], .agg #[.int .u64 (bi x1.v), .int .u64 (bi x1.m)], .agg #[.int .u64 (bi x2.v), .int .u64 (bi x2.m)], .int .u64 (bi u3)] w fun e w' => e = .returned (.bool true) ∧ Below w.heap.size w w' := by
  obtain ⟨a, ea⟩ : ∃ a : T, exc x0.v x0.m = a := ⟨_, rfl⟩
  have EA := Lib.hid ea
  have MA := Lib.hid (show mayT a by rw [← ea]; exact may_exc _ _)
  clear ea
  obtain ⟨b, eb⟩ : ∃ a : T, exc x1.v x1.m = a := ⟨_, rfl⟩
  have EB := Lib.hid eb
  have MB := Lib.hid (show mayT b by rw [← eb]; exact may_exc _ _)
  clear eb
  obtain ⟨c, ec⟩ : ∃ a : T, exc x2.v x2.m = a := ⟨_, rfl⟩
  have EC := Lib.hid ec
  have MC := Lib.hid (show mayT c by rw [← ec]; exact may_exc _ _)
  clear ec
  obtain ⟨x, ex⟩ : ∃ x, oneT a u3 = x := ⟨_, rfl⟩
  have EX := Lib.hid ex
  have IX := Lib.hid (show inT a x = true by rw [← ex]; exact in_one a u3)
  clear ex
  obtain ⟨j, ej⟩ : ∃ j : T, joinT a b = j := ⟨_, rfl⟩
  have EJ := Lib.hid ej
  have JM := may_dec j (by rw [← ej]; exact may_join a b)
  have JA := Lib.hid (show withT a j = true by rw [← ej]; exact join_left a b)
  have JB := Lib.hid (show withT b j = true by rw [← ej]; exact join_right a b)
  have JC := Lib.hid (show withT a c = true → withT b c = true → withT j c = true by intro h8 h9; rw [← ej]; exact join_least MC.out h8 h9)
  clear ej
  have h0 := bi_bd x
  have h1 := bi_bd u3
  have h2 := bi_bd j.v
  have h3 := bi_bd j.m
  have JZ : (bits .and .u64 (bi j.v) (bi j.m) != 0) = false := by rw [bne, JM]; rfl
  clear JM
  go_enter Try.func9, Try.ntmps9
  go_wp2_with fail
  have K0 := (((Bk.new w 24 #[.int .u64 (bi x0.v), .int .u64 (bi x0.m)]).alloc (.cells #[.int .u64 (bi x1.v), .int .u64 (bi x1.m)] 24)).alloc (.cells #[.int .u64 (bi x2.v), .int .u64 (bi x2.m)] 24))
  have K1 := ((Bk.new (w.alloc (.cells #[.int .u64 (bi x0.v), .int .u64 (bi x0.m)] 24)) 24 #[.int .u64 (bi x1.v), .int .u64 (bi x1.m)]).alloc (.cells #[.int .u64 (bi x2.v), .int .u64 (bi x2.m)] 24))
  rw [World.size_alloc] at K1
  have K2 := (Bk.new ((w.alloc (.cells #[.int .u64 (bi x0.v), .int .u64 (bi x0.m)] 24)).alloc (.cells #[.int .u64 (bi x1.v), .int .u64 (bi x1.m)] 24)) 24 #[.int .u64 (bi x2.v), .int .u64 (bi x2.m)])
  rw [World.size_alloc, World.size_alloc] at K2
  have B0 : Below w.heap.size w (((w.alloc (.cells #[.int .u64 (bi x0.v), .int .u64 (bi x0.m)] 24)).alloc (.cells #[.int .u64 (bi x1.v), .int .u64 (bi x1.m)] 24)).alloc (.cells #[.int .u64 (bi x2.v), .int .u64 (bi x2.m)] 24)) := by go_grown
  generalize (((w.alloc (.cells #[.int .u64 (bi x0.v), .int .u64 (bi x0.m)] 24)).alloc (.cells #[.int .u64 (bi x1.v), .int .u64 (bi x1.m)] 24)).alloc (.cells #[.int .u64 (bi x2.v), .int .u64 (bi x2.m)] 24)) = w0 at *
  have H0 := Lib.hid K0
  have H1 := Lib.hid K1
  have H2 := Lib.hid K2
  have HB := Lib.hid B0
  clear K0 K1 K2 B0
  have A := H0
  clear H0
  have B := H1
  clear H1
  have C := H2
  clear H2
  obtain ⟨cA0, cA1⟩ := tcells A.out
  obtain ⟨cB0, cB1⟩ := tcells B.out
  obtain ⟨cC0, cC1⟩ := tcells C.out
  with_reducible refine (may_to x0 a EA.out _).mono ?_
  rintro e w1 ⟨rfl, qb⟩
  replace A := Lib.hid (bk_keep A.out qb)
  replace B := Lib.hid (bk_keep B.out qb)
  replace C := Lib.hid (bk_keep C.out qb)
  replace HB := Lib.hid (below_then HB.out qb (Nat.le_refl _))
  clear qb cA0 cA1 cB0 cB1 cC0 cC1
  obtain ⟨cA0, cA1⟩ := tcells A.out
  obtain ⟨cB0, cB1⟩ := tcells B.out
  obtain ⟨cC0, cC1⟩ := tcells C.out
  have fA0 := A.out.frozen 0
  have fA1 := A.out.frozen 1
  go_wp2_with fail
  replace A := Lib.hid (bk_st A.out a)
  replace B := Lib.hid (bk_fr (r := w.heap.size) B.out (by omega) a)
  replace C := Lib.hid (bk_fr (r := w.heap.size) C.out (by omega) a)
  replace HB := Lib.hid (below_st (r := w.heap.size) HB.out (by omega) a)
  clear fA0 fA1 cA0 cA1 cB0 cB1 cC0 cC1
  generalize World.setCell (World.setCell w1 ⟨w.heap.size, 0, none⟩ (.int .u64 (bi a.v))) ⟨w.heap.size, 1, none⟩ (.int .u64 (bi a.m)) = v1 at *
  obtain ⟨cA0, cA1⟩ := tcells A.out
  obtain ⟨cB0, cB1⟩ := tcells B.out
  obtain ⟨cC0, cC1⟩ := tcells C.out
  with_reducible refine (may_to x1 b EB.out _).mono ?_
  rintro e w2 ⟨rfl, qb⟩
  replace A := Lib.hid (bk_keep A.out qb)
  replace B := Lib.hid (bk_keep B.out qb)
  replace C := Lib.hid (bk_keep C.out qb)
  replace HB := Lib.hid (below_then HB.out qb (Nat.le_refl _))
  clear qb cA0 cA1 cB0 cB1 cC0 cC1
  obtain ⟨cA0, cA1⟩ := tcells A.out
  obtain ⟨cB0, cB1⟩ := tcells B.out
  obtain ⟨cC0, cC1⟩ := tcells C.out
  have fB0 := B.out.frozen 0
  have fB1 := B.out.frozen 1
  go_wp2_with fail
  replace A := Lib.hid (bk_fr (r := (w.heap.size + 1)) A.out (by omega) b)
  replace B := Lib.hid (bk_st B.out b)
  replace C := Lib.hid (bk_fr (r := (w.heap.size + 1)) C.out (by omega) b)
  replace HB := Lib.hid (below_st (r := (w.heap.size + 1)) HB.out (by omega) b)
  clear fB0 fB1 cA0 cA1 cB0 cB1 cC0 cC1
  generalize World.setCell (World.setCell w2 ⟨(w.heap.size + 1), 0, none⟩ (.int .u64 (bi b.v))) ⟨(w.heap.size + 1), 1, none⟩ (.int .u64 (bi b.m)) = v2 at *
  obtain ⟨cA0, cA1⟩ := tcells A.out
  obtain ⟨cB0, cB1⟩ := tcells B.out
  obtain ⟨cC0, cC1⟩ := tcells C.out
  with_reducible refine (may_to x2 c EC.out _).mono ?_
  rintro e w3 ⟨rfl, qb⟩
  replace A := Lib.hid (bk_keep A.out qb)
  replace B := Lib.hid (bk_keep B.out qb)
  replace C := Lib.hid (bk_keep C.out qb)
  replace HB := Lib.hid (below_then HB.out qb (Nat.le_refl _))
  clear qb cA0 cA1 cB0 cB1 cC0 cC1
  obtain ⟨cA0, cA1⟩ := tcells A.out
  obtain ⟨cB0, cB1⟩ := tcells B.out
  obtain ⟨cC0, cC1⟩ := tcells C.out
  have fC0 := C.out.frozen 0
  have fC1 := C.out.frozen 1
  go_wp2_with fail
  replace A := Lib.hid (bk_fr (r := (w.heap.size + 1 + 1)) A.out (by omega) c)
  replace B := Lib.hid (bk_fr (r := (w.heap.size + 1 + 1)) B.out (by omega) c)
  replace C := Lib.hid (bk_st C.out c)
  replace HB := Lib.hid (below_st (r := (w.heap.size + 1 + 1)) HB.out (by omega) c)
  clear fC0 fC1 cA0 cA1 cB0 cB1 cC0 cC1
  generalize World.setCell (World.setCell w3 ⟨(w.heap.size + 1 + 1), 0, none⟩ (.int .u64 (bi c.v))) ⟨(w.heap.size + 1 + 1), 1, none⟩ (.int .u64 (bi c.m)) = v3 at *
  obtain ⟨cA0, cA1⟩ := tcells A.out
  obtain ⟨cB0, cB1⟩ := tcells B.out
  obtain ⟨cC0, cC1⟩ := tcells C.out
  with_reducible refine (join_to a b j EJ.out _).mono ?_
  rintro e w4 ⟨rfl, qb⟩
  replace A := Lib.hid (bk_keep A.out qb)
  replace B := Lib.hid (bk_keep B.out qb)
  replace C := Lib.hid (bk_keep C.out qb)
  replace HB := Lib.hid (below_then HB.out qb (Nat.le_refl _))
  clear qb cA0 cA1 cB0 cB1 cC0 cC1
  obtain ⟨cA0, cA1⟩ := tcells A.out
  obtain ⟨cB0, cB1⟩ := tcells B.out
  obtain ⟨cC0, cC1⟩ := tcells C.out
  go_upto_region 5 with (fail)
  have D0 := new_bk HB.out j
  replace A := Lib.hid (bk_al A.out (.cells #[.int .u64 (bi j.v), .int .u64 (bi j.m)] 24))
  replace B := Lib.hid (bk_al B.out (.cells #[.int .u64 (bi j.v), .int .u64 (bi j.m)] 24))
  replace C := Lib.hid (bk_al C.out (.cells #[.int .u64 (bi j.v), .int .u64 (bi j.m)] 24))
  have D := Lib.hid D0.1
  replace HB := Lib.hid D0.2
  clear D0 cA0 cA1 cB0 cB1 cC0 cC1
  generalize World.alloc w4 (.cells #[.int .u64 (bi j.v), .int .u64 (bi j.m)] 24) = v4 at *
  go_cut [55] (fun s55 wx => s55 = .bool false ∧ Hid (Bk wx w.heap.size 24 #[.int .u64 (bi a.v), .int .u64 (bi a.m)]) ∧ Hid (Bk wx (w.heap.size + 1) 24 #[.int .u64 (bi b.v), .int .u64 (bi b.m)]) ∧ Hid (Below w.heap.size w wx))
  case first =>
    obtain ⟨cA0, cA1⟩ := tcells A.out
    obtain ⟨cB0, cB1⟩ := tcells B.out
    obtain ⟨cC0, cC1⟩ := tcells C.out
    obtain ⟨cD0, cD1⟩ := tcells D.out
    go_wp2_with fail
    with_reducible refine (within_to a j true JA.out _).mono ?_
    rintro e w5 ⟨rfl, qb⟩
    replace A := Lib.hid (bk_keep A.out qb)
    replace B := Lib.hid (bk_keep B.out qb)
    replace C := Lib.hid (bk_keep C.out qb)
    replace D := Lib.hid (bk_keep D.out qb)
    replace HB := Lib.hid (below_then HB.out qb (Nat.le_refl _))
    clear qb cA0 cA1 cB0 cB1 cC0 cC1 cD0 cD1
    obtain ⟨cA0, cA1⟩ := tcells A.out
    obtain ⟨cB0, cB1⟩ := tcells B.out
    obtain ⟨cC0, cC1⟩ := tcells C.out
    obtain ⟨cD0, cD1⟩ := tcells D.out
    go_wp2_with fail
    with_reducible refine (within_to b j true JB.out _).mono ?_
    rintro e w6 ⟨rfl, qb⟩
    replace A := Lib.hid (bk_keep A.out qb)
    replace B := Lib.hid (bk_keep B.out qb)
    replace C := Lib.hid (bk_keep C.out qb)
    replace D := Lib.hid (bk_keep D.out qb)
    replace HB := Lib.hid (below_then HB.out qb (Nat.le_refl _))
    clear qb cA0 cA1 cB0 cB1 cC0 cC1 cD0 cD1
    obtain ⟨cA0, cA1⟩ := tcells A.out
    obtain ⟨cB0, cB1⟩ := tcells B.out
    obtain ⟨cC0, cC1⟩ := tcells C.out
    obtain ⟨cD0, cD1⟩ := tcells D.out
    cases hp : withT a c
    · skip
      go_wp2_with fail
      with_reducible refine (within_to a c false hp _).mono ?_
      rintro e w7 ⟨rfl, qb⟩
      replace A := Lib.hid (bk_keep A.out qb)
      replace B := Lib.hid (bk_keep B.out qb)
      replace C := Lib.hid (bk_keep C.out qb)
      replace D := Lib.hid (bk_keep D.out qb)
      replace HB := Lib.hid (below_then HB.out qb (Nat.le_refl _))
      clear qb cA0 cA1 cB0 cB1 cC0 cC1 cD0 cD1
      obtain ⟨cA0, cA1⟩ := tcells A.out
      obtain ⟨cB0, cB1⟩ := tcells B.out
      obtain ⟨cC0, cC1⟩ := tcells C.out
      obtain ⟨cD0, cD1⟩ := tcells D.out
      go_wp2_with fail
      go_meet
      exact ⟨rfl, A, B, HB⟩
    · cases hq : withT b c
      · skip
        go_wp2_with fail
        with_reducible refine (within_to a c true hp _).mono ?_
        rintro e w7 ⟨rfl, qb⟩
        replace A := Lib.hid (bk_keep A.out qb)
        replace B := Lib.hid (bk_keep B.out qb)
        replace C := Lib.hid (bk_keep C.out qb)
        replace D := Lib.hid (bk_keep D.out qb)
        replace HB := Lib.hid (below_then HB.out qb (Nat.le_refl _))
        clear qb cA0 cA1 cB0 cB1 cC0 cC1 cD0 cD1
        obtain ⟨cA0, cA1⟩ := tcells A.out
        obtain ⟨cB0, cB1⟩ := tcells B.out
        obtain ⟨cC0, cC1⟩ := tcells C.out
        obtain ⟨cD0, cD1⟩ := tcells D.out
        go_wp2_with fail
        with_reducible refine (within_to b c false hq _).mono ?_
        rintro e w8 ⟨rfl, qb⟩
        replace A := Lib.hid (bk_keep A.out qb)
        replace B := Lib.hid (bk_keep B.out qb)
        replace C := Lib.hid (bk_keep C.out qb)
        replace D := Lib.hid (bk_keep D.out qb)
        replace HB := Lib.hid (below_then HB.out qb (Nat.le_refl _))
        clear qb cA0 cA1 cB0 cB1 cC0 cC1 cD0 cD1
        obtain ⟨cA0, cA1⟩ := tcells A.out
        obtain ⟨cB0, cB1⟩ := tcells B.out
        obtain ⟨cC0, cC1⟩ := tcells C.out
        obtain ⟨cD0, cD1⟩ := tcells D.out
        go_wp2_with fail
        go_meet
        exact ⟨rfl, A, B, HB⟩
      · skip
        go_wp2_with fail
        with_reducible refine (within_to a c true hp _).mono ?_
        rintro e w7 ⟨rfl, qb⟩
        replace A := Lib.hid (bk_keep A.out qb)
        replace B := Lib.hid (bk_keep B.out qb)
        replace C := Lib.hid (bk_keep C.out qb)
        replace D := Lib.hid (bk_keep D.out qb)
        replace HB := Lib.hid (below_then HB.out qb (Nat.le_refl _))
        clear qb cA0 cA1 cB0 cB1 cC0 cC1 cD0 cD1
        obtain ⟨cA0, cA1⟩ := tcells A.out
        obtain ⟨cB0, cB1⟩ := tcells B.out
        obtain ⟨cC0, cC1⟩ := tcells C.out
        obtain ⟨cD0, cD1⟩ := tcells D.out
        go_wp2_with fail
        with_reducible refine (within_to b c true hq _).mono ?_
        rintro e w8 ⟨rfl, qb⟩
        replace A := Lib.hid (bk_keep A.out qb)
        replace B := Lib.hid (bk_keep B.out qb)
        replace C := Lib.hid (bk_keep C.out qb)
        replace D := Lib.hid (bk_keep D.out qb)
        replace HB := Lib.hid (below_then HB.out qb (Nat.le_refl _))
        clear qb cA0 cA1 cB0 cB1 cC0 cC1 cD0 cD1
        obtain ⟨cA0, cA1⟩ := tcells A.out
        obtain ⟨cB0, cB1⟩ := tcells B.out
        obtain ⟨cC0, cC1⟩ := tcells C.out
        obtain ⟨cD0, cD1⟩ := tcells D.out
        go_wp2_with fail
        with_reducible refine (within_to j c true (JC.out hp hq) _).mono ?_
        rintro e w9 ⟨rfl, qb⟩
        replace A := Lib.hid (bk_keep A.out qb)
        replace B := Lib.hid (bk_keep B.out qb)
        replace C := Lib.hid (bk_keep C.out qb)
        replace D := Lib.hid (bk_keep D.out qb)
        replace HB := Lib.hid (below_then HB.out qb (Nat.le_refl _))
        clear qb cA0 cA1 cB0 cB1 cC0 cC1 cD0 cD1
        obtain ⟨cA0, cA1⟩ := tcells A.out
        obtain ⟨cB0, cB1⟩ := tcells B.out
        obtain ⟨cC0, cC1⟩ := tcells C.out
        obtain ⟨cD0, cD1⟩ := tcells D.out
        go_wp2_with fail
        go_meet
        exact ⟨rfl, A, B, HB⟩
  case rest =>
    clear A B C D HB JA JB JC JZ
    obtain ⟨rfl, A, B, HB⟩ := hcut
    obtain ⟨cA0, cA1⟩ := tcells A.out
    obtain ⟨cB0, cB1⟩ := tcells B.out
    cases ho : meetOk a b
    · have HO := Lib.hid ho
      clear ho
      have q1 := kql
      have q2 := kguard .eql
      go_wp2_with fail
      with_reducible refine (kmeet0 a b HO.out _).mono ?_
      rintro e w21 ⟨rfl, qb⟩
      replace A := Lib.hid (bk_keep A.out qb)
      replace B := Lib.hid (bk_keep B.out qb)
      replace HB := Lib.hid (below_then HB.out qb (Nat.le_refl _))
      clear qb cA0 cA1 cB0 cB1
      obtain ⟨cA0, cA1⟩ := tcells A.out
      obtain ⟨cB0, cB1⟩ := tcells B.out
      obtain ⟨dA0, dA1⟩ := tcells (bk_al A.out (.cells #[.int .u64 0, .int .u64 0] 24))
      obtain ⟨dB0, dB1⟩ := tcells (bk_al B.out (.cells #[.int .u64 0, .int .u64 0] 24))
      go_wp2_with fail
      clear dA0 dA1 dB0 dB1
      have M0 := new_bkz HB.out
      replace A := Lib.hid (bk_al A.out (.cells #[.int .u64 0, .int .u64 0] 24))
      replace B := Lib.hid (bk_al B.out (.cells #[.int .u64 0, .int .u64 0] 24))
      have M := Lib.hid M0.1
      replace HB := Lib.hid M0.2
      clear M0 cA0 cA1 cB0 cB1
      generalize World.alloc w21 (.cells #[.int .u64 0, .int .u64 0] 24) = v21 at *
      obtain ⟨cA0, cA1⟩ := tcells A.out
      obtain ⟨cB0, cB1⟩ := tcells B.out
      obtain ⟨cM0, cM1⟩ := tcells M.out
      with_reducible refine (one_to a u3 x EX.out _).mono ?_
      rintro e w22 ⟨rfl, qb⟩
      replace A := Lib.hid (bk_keep A.out qb)
      replace B := Lib.hid (bk_keep B.out qb)
      replace M := Lib.hid (bk_keep M.out qb)
      replace HB := Lib.hid (below_then HB.out qb (Nat.le_refl _))
      clear qb cA0 cA1 cB0 cB1 cM0 cM1
      obtain ⟨cA0, cA1⟩ := tcells A.out
      obtain ⟨cB0, cB1⟩ := tcells B.out
      obtain ⟨cM0, cM1⟩ := tcells M.out
      cases hp : inT a u3
      · skip
        go_wp2_with fail
        with_reducible refine (in_to a u3 false hp _).mono ?_
        rintro e w23 ⟨rfl, qb⟩
        replace A := Lib.hid (bk_keep A.out qb)
        replace B := Lib.hid (bk_keep B.out qb)
        replace M := Lib.hid (bk_keep M.out qb)
        replace HB := Lib.hid (below_then HB.out qb (Nat.le_refl _))
        clear qb cA0 cA1 cB0 cB1 cM0 cM1
        obtain ⟨cA0, cA1⟩ := tcells A.out
        obtain ⟨cB0, cB1⟩ := tcells B.out
        obtain ⟨cM0, cM1⟩ := tcells M.out
        go_wp2_with fail
        with_reducible refine (in_to b x false (meet_none HO.out x IX.out) _).mono ?_
        rintro e w24 ⟨rfl, qb⟩
        replace A := Lib.hid (bk_keep A.out qb)
        replace B := Lib.hid (bk_keep B.out qb)
        replace M := Lib.hid (bk_keep M.out qb)
        replace HB := Lib.hid (below_then HB.out qb (Nat.le_refl _))
        clear qb cA0 cA1 cB0 cB1 cM0 cM1
        obtain ⟨cA0, cA1⟩ := tcells A.out
        obtain ⟨cB0, cB1⟩ := tcells B.out
        obtain ⟨cM0, cM1⟩ := tcells M.out
        go_wp2_with fail
        with_reducible refine (known_any _).mono ?_
        rintro e w25 ⟨rfl, qb⟩
        replace A := Lib.hid (bk_keep A.out qb)
        replace B := Lib.hid (bk_keep B.out qb)
        replace M := Lib.hid (bk_keep M.out qb)
        replace HB := Lib.hid (below_then HB.out qb (Nat.le_refl _))
        clear qb cA0 cA1 cB0 cB1 cM0 cM1
        obtain ⟨cA0, cA1⟩ := tcells A.out
        obtain ⟨cB0, cB1⟩ := tcells B.out
        obtain ⟨cM0, cM1⟩ := tcells M.out
        go_wp2_with fail
        go_returns
        exact ⟨rfl, HB.out⟩
      · skip
        go_wp2_with fail
        with_reducible refine (in_to a u3 true hp _).mono ?_
        rintro e w23 ⟨rfl, qb⟩
        replace A := Lib.hid (bk_keep A.out qb)
        replace B := Lib.hid (bk_keep B.out qb)
        replace M := Lib.hid (bk_keep M.out qb)
        replace HB := Lib.hid (below_then HB.out qb (Nat.le_refl _))
        clear qb cA0 cA1 cB0 cB1 cM0 cM1
        obtain ⟨cA0, cA1⟩ := tcells A.out
        obtain ⟨cB0, cB1⟩ := tcells B.out
        obtain ⟨cM0, cM1⟩ := tcells M.out
        go_wp2_with fail
        with_reducible refine (in_to b u3 false (meet_none HO.out u3 hp) _).mono ?_
        rintro e w24 ⟨rfl, qb⟩
        replace A := Lib.hid (bk_keep A.out qb)
        replace B := Lib.hid (bk_keep B.out qb)
        replace M := Lib.hid (bk_keep M.out qb)
        replace HB := Lib.hid (below_then HB.out qb (Nat.le_refl _))
        clear qb cA0 cA1 cB0 cB1 cM0 cM1
        obtain ⟨cA0, cA1⟩ := tcells A.out
        obtain ⟨cB0, cB1⟩ := tcells B.out
        obtain ⟨cM0, cM1⟩ := tcells M.out
        go_wp2_with fail
        with_reducible refine (in_to b x false (meet_none HO.out x IX.out) _).mono ?_
        rintro e w25 ⟨rfl, qb⟩
        replace A := Lib.hid (bk_keep A.out qb)
        replace B := Lib.hid (bk_keep B.out qb)
        replace M := Lib.hid (bk_keep M.out qb)
        replace HB := Lib.hid (below_then HB.out qb (Nat.le_refl _))
        clear qb cA0 cA1 cB0 cB1 cM0 cM1
        obtain ⟨cA0, cA1⟩ := tcells A.out
        obtain ⟨cB0, cB1⟩ := tcells B.out
        obtain ⟨cM0, cM1⟩ := tcells M.out
        go_wp2_with fail
        with_reducible refine (known_any _).mono ?_
        rintro e w26 ⟨rfl, qb⟩
        replace A := Lib.hid (bk_keep A.out qb)
        replace B := Lib.hid (bk_keep B.out qb)
        replace M := Lib.hid (bk_keep M.out qb)
        replace HB := Lib.hid (below_then HB.out qb (Nat.le_refl _))
        clear qb cA0 cA1 cB0 cB1 cM0 cM1
        obtain ⟨cA0, cA1⟩ := tcells A.out
        obtain ⟨cB0, cB1⟩ := tcells B.out
        obtain ⟨cM0, cM1⟩ := tcells M.out
        go_wp2_with fail
        go_returns
        exact ⟨rfl, HB.out⟩
    · have HO := Lib.hid ho
      obtain ⟨r, hr⟩ : ∃ r : T, meetT a b = r := ⟨_, rfl⟩
      have HR := Lib.hid hr
      have RM := may_dec r (by rw [← hr]; exact may_meet a b)
      have RA := Lib.hid (show withT r a = true by rw [← hr]; exact meet_left MA.out MB.out ho)
      have RB := Lib.hid (show withT r b = true by rw [← hr]; exact meet_right MA.out MB.out ho)
      have RI := Lib.hid (show ∀ z, inT r z = (inT a z && inT b z) by intro z; rw [← hr]; exact meet_in MA.out MB.out ho z)
      clear hr ho
      have h4 := bi_bd r.v
      have h5 := bi_bd r.m
      go_wp2_with fail
      with_reducible refine (meet_to a b r true HR.out HO.out _).mono ?_
      rintro e w41 ⟨rfl, qb⟩
      replace A := Lib.hid (bk_keep A.out qb)
      replace B := Lib.hid (bk_keep B.out qb)
      replace HB := Lib.hid (below_then HB.out qb (Nat.le_refl _))
      clear qb cA0 cA1 cB0 cB1
      obtain ⟨cA0, cA1⟩ := tcells A.out
      obtain ⟨cB0, cB1⟩ := tcells B.out
      obtain ⟨dA0, dA1⟩ := tcells (bk_al A.out (.cells #[.int .u64 (bi r.v), .int .u64 (bi r.m)] 24))
      obtain ⟨dB0, dB1⟩ := tcells (bk_al B.out (.cells #[.int .u64 (bi r.v), .int .u64 (bi r.m)] 24))
      go_wp2_with fail
      clear dA0 dA1 dB0 dB1
      have M0 := new_bk HB.out r
      replace A := Lib.hid (bk_al A.out (.cells #[.int .u64 (bi r.v), .int .u64 (bi r.m)] 24))
      replace B := Lib.hid (bk_al B.out (.cells #[.int .u64 (bi r.v), .int .u64 (bi r.m)] 24))
      have M := Lib.hid M0.1
      replace HB := Lib.hid M0.2
      clear M0 cA0 cA1 cB0 cB1
      generalize World.alloc w41 (.cells #[.int .u64 (bi r.v), .int .u64 (bi r.m)] 24) = v41 at *
      obtain ⟨cA0, cA1⟩ := tcells A.out
      obtain ⟨cB0, cB1⟩ := tcells B.out
      obtain ⟨cM0, cM1⟩ := tcells M.out
      with_reducible refine (one_to a u3 x EX.out _).mono ?_
      rintro e w42 ⟨rfl, qb⟩
      replace A := Lib.hid (bk_keep A.out qb)
      replace B := Lib.hid (bk_keep B.out qb)
      replace M := Lib.hid (bk_keep M.out qb)
      replace HB := Lib.hid (below_then HB.out qb (Nat.le_refl _))
      clear qb cA0 cA1 cB0 cB1 cM0 cM1
      obtain ⟨cA0, cA1⟩ := tcells A.out
      obtain ⟨cB0, cB1⟩ := tcells B.out
      obtain ⟨cM0, cM1⟩ := tcells M.out
      obtain ⟨s, hs⟩ : ∃ s : Bool, inT b x = s := ⟨_, rfl⟩
      have HS := Lib.hid hs
      have HX := Lib.hid (show inT r x = s by rw [RI.out, IX.out, hs]; rfl)
      clear hs
      go_wp2_with fail
      cases hp : inT a u3
      · have HP := Lib.hid hp
        have HV := Lib.hid (show inT r u3 = false by rw [RI.out, hp]; rfl)
        clear hp
        refine wp_region_held_drew (S := fun w' => w'.cell? ⟨w.heap.size, 0, none⟩ = some (.int .u64 (bi a.v)) ∧ w'.cell? ⟨w.heap.size, 1, none⟩ = some (.int .u64 (bi a.m)) ∧ w'.cell? ⟨w.heap.size + 1, 0, none⟩ = some (.int .u64 (bi b.v)) ∧ w'.cell? ⟨w.heap.size + 1, 1, none⟩ = some (.int .u64 (bi b.m)) ∧ w'.cell? ⟨w41.heap.size, 0, none⟩ = some (.int .u64 (bi r.v)) ∧ w'.cell? ⟨w41.heap.size, 1, none⟩ = some (.int .u64 (bi r.m)) ∧ Below w.heap.size w w') (by kernel_rfl) ?_ (fun hHeld => ?_)
        · exact ⟨cA0, cA1, cB0, cB1, cM0, cM1, HB.out.drew⟩
        refine wpAnyH_take (i := 0) (oi := { dst := some 90, op := Op.fieldAddr 24 (Operand.tmp 10) 0, type := 0, pos := "outright.go:86", after := #[], guard := none }) (v := ?_) rfl (by kernel_rfl) (by kernel_rfl) (by kernel_rfl) (fun _ _ _ h => h) (Or.inl ⟨by rfl, ?_⟩) hHeld ?_
        rotate_left
        · intro w9 hSw
          try dsimp only at hSw
          go_simp
          try with_reducible rfl
        try simp only [Act.put, List.setIfInBounds_toArray, List.set_cons_zero, List.set_cons_succ]
        refine wpAnyH_take (i := 1) (oi := { dst := some 91, op := Op.load 22 (Operand.tmp 90), type := 22, pos := "outright.go:86", after := #[{ on := 0, ground := Ground.data }], guard := none }) (v := ?_) rfl (by kernel_rfl) (by kernel_rfl) (by kernel_rfl) (fun _ _ _ h => h) (Or.inl ⟨by rfl, ?_⟩) hHeld ?_
        rotate_left
        · intro w9 hSw
          try dsimp only at hSw
          go_simp
          try with_reducible rfl
        try simp only [Act.put, List.setIfInBounds_toArray, List.set_cons_zero, List.set_cons_succ]
        refine wpAnyH_take (i := 2) (oi := { dst := some 92, op := Op.fieldAddr 24 (Operand.tmp 10) 1, type := 0, pos := "outright.go:86", after := #[], guard := none }) (v := ?_) rfl (by kernel_rfl) (by kernel_rfl) (by kernel_rfl) (fun _ _ _ h => h) (Or.inl ⟨by rfl, ?_⟩) hHeld ?_
        rotate_left
        · intro w9 hSw
          try dsimp only at hSw
          go_simp
          try with_reducible rfl
        try simp only [Act.put, List.setIfInBounds_toArray, List.set_cons_zero, List.set_cons_succ]
        refine wpAnyH_take (i := 3) (oi := { dst := some 93, op := Op.load 22 (Operand.tmp 92), type := 22, pos := "outright.go:86", after := #[{ on := 2, ground := Ground.data }], guard := none }) (v := ?_) rfl (by kernel_rfl) (by kernel_rfl) (by kernel_rfl) (fun _ _ _ h => h) (Or.inl ⟨by rfl, ?_⟩) hHeld ?_
        rotate_left
        · intro w9 hSw
          try dsimp only at hSw
          go_simp
          try with_reducible rfl
        try simp only [Act.put, List.setIfInBounds_toArray, List.set_cons_zero, List.set_cons_succ]
        refine wpAnyH_take (i := 4) (oi := { dst := some 94, op := Op.binOp BinOp.and 22 (Operand.tmp 91) (Operand.tmp 93) 22, type := 22, pos := "outright.go:86", after := #[{ on := 1, ground := Ground.data }, { on := 3, ground := Ground.data }], guard := none }) (v := ?_) rfl (by kernel_rfl) (by kernel_rfl) (by kernel_rfl) (fun _ _ _ h => h) (Or.inl ⟨by rfl, ?_⟩) hHeld ?_
        rotate_left
        · intro w9 hSw
          try dsimp only at hSw
          go_simp
          try with_reducible rfl
        try simp only [Act.put, List.setIfInBounds_toArray, List.set_cons_zero, List.set_cons_succ]
        refine wpAnyH_take (i := 5) (oi := { dst := some 95, op := Op.binOp BinOp.eql 22 (Operand.tmp 94) (Operand.const (Value.int IntKind.u64 0)) 22, type := 4, pos := "outright.go:86", after := #[{ on := 4, ground := Ground.data }], guard := none }) (v := ?_) rfl (by kernel_rfl) (by kernel_rfl) (by kernel_rfl) (fun _ _ _ h => h) (Or.inl ⟨by rfl, ?_⟩) hHeld ?_
        rotate_left
        · intro w9 hSw
          try dsimp only at hSw
          go_simp
          try with_reducible rfl
        try simp only [Act.put, List.setIfInBounds_toArray, List.set_cons_zero, List.set_cons_succ]
        refine wpAnyH_take (i := 6) (oi := { dst := some 96, op := Op.move (Operand.tmp 95), type := 4, pos := "outright.go:86", after := #[{ on := 5, ground := Ground.data }], guard := none }) (v := ?_) rfl (by kernel_rfl) (by kernel_rfl) (by kernel_rfl) (fun _ _ _ h => h) (Or.inl ⟨by rfl, ?_⟩) hHeld ?_
        rotate_left
        · intro w9 hSw
          try dsimp only at hSw
          go_simp
          try with_reducible rfl
        try simp only [Act.put, List.setIfInBounds_toArray, List.set_cons_zero, List.set_cons_succ]
        refine wpAnyH_take (i := 7) (oi := { dst := some 97, op := Op.load 24 (Operand.tmp 10), type := 24, pos := "outright.go:86", after := #[{ on := 6, ground := Ground.guard }], guard := some (6, true) }) (v := ?_) rfl (by kernel_rfl) (by kernel_rfl) (by kernel_rfl) (fun _ _ _ h => h) (Or.inl ⟨by rfl, ?_⟩) hHeld ?_
        rotate_left
        · intro w9 hSw
          try dsimp only at hSw
          go_simp
          try with_reducible rfl
        try simp only [Act.put, List.setIfInBounds_toArray, List.set_cons_zero, List.set_cons_succ]
        refine wpAnyH_take (i := 8) (oi := { dst := some 98, op := Op.load 24 (Operand.tmp 4), type := 24, pos := "outright.go:86", after := #[{ on := 6, ground := Ground.guard }], guard := some (6, true) }) (v := ?_) rfl (by kernel_rfl) (by kernel_rfl) (by kernel_rfl) (fun _ _ _ h => h) (Or.inl ⟨by rfl, ?_⟩) hHeld ?_
        rotate_left
        · intro w9 hSw
          try dsimp only at hSw
          go_simp
          try with_reducible rfl
        try simp only [Act.put, List.setIfInBounds_toArray, List.set_cons_zero, List.set_cons_succ]
        refine wpAnyH_ready (rs := [9]) (by kernel_rfl) (by simp) ?_
        refine AllReadyH.cons (o := { dst := some 99, op := Op.call { callee := Callee.value (Operand.func 21), args := #[Operand.tmp 97, Operand.tmp 98], argTypes := #[24, 24] }, type := 4, pos := "outright.go:86", after := #[{ on := 7, ground := Ground.data }, { on := 8, ground := Ground.data }, { on := 6, ground := Ground.chain }, { on := 6, ground := Ground.guard }], guard := some (6, true) }) rfl (fun K hK => ?_) AllReadyH.nil
        go_simp
        (go_at_call 21; with_reducible refine (within_to r a true RA.out _).mono ?_; rintro e z1 ⟨rfl, qb⟩)
        refine hK.out _ _ ?_ (fun g1 => ?_)
        · exact sixk qb hHeld
        clear hK K qb
        skip
        try simp only [Act.put, List.setIfInBounds_toArray, List.set_cons_zero, List.set_cons_succ]
        refine wpAnyH_take (i := 10) (oi := { dst := some 100, op := Op.pick (Operand.tmp 96) (Operand.tmp 99) (Operand.const (Value.bool false)), type := 4, pos := "outright.go:86", after := #[{ on := 6, ground := Ground.data }, { on := 9, ground := Ground.data }], guard := none }) (v := ?_) rfl (by kernel_rfl) (by kernel_rfl) (by kernel_rfl) (fun _ _ _ h => h) (Or.inl ⟨by rfl, ?_⟩) g1 ?_
        rotate_left
        · intro w9 hSw
          try dsimp only at hSw
          go_simp
          try with_reducible rfl
        try simp only [Act.put, List.setIfInBounds_toArray, List.set_cons_zero, List.set_cons_succ]
        refine wpAnyH_take (i := 11) (oi := { dst := some 101, op := Op.move (Operand.tmp 100), type := 4, pos := "outright.go:86", after := #[{ on := 10, ground := Ground.data }, { on := 9, ground := Ground.chain }], guard := none }) (v := ?_) rfl (by kernel_rfl) (by kernel_rfl) (by kernel_rfl) (fun _ _ _ h => h) (Or.inl ⟨by rfl, ?_⟩) g1 ?_
        rotate_left
        · intro w9 hSw
          try dsimp only at hSw
          go_simp
          try with_reducible rfl
        try simp only [Act.put, List.setIfInBounds_toArray, List.set_cons_zero, List.set_cons_succ]
        refine wpAnyH_take (i := 12) (oi := { dst := some 102, op := Op.load 24 (Operand.tmp 10), type := 24, pos := "outright.go:86", after := #[{ on := 11, ground := Ground.guard }], guard := some (11, true) }) (v := ?_) rfl (by kernel_rfl) (by kernel_rfl) (by kernel_rfl) (fun _ _ _ h => h) (Or.inl ⟨by rfl, ?_⟩) g1 ?_
        rotate_left
        · intro w9 hSw
          try dsimp only at hSw
          go_simp
          try with_reducible rfl
        try simp only [Act.put, List.setIfInBounds_toArray, List.set_cons_zero, List.set_cons_succ]
        refine wpAnyH_take (i := 13) (oi := { dst := some 103, op := Op.load 24 (Operand.tmp 5), type := 24, pos := "outright.go:86", after := #[{ on := 11, ground := Ground.guard }], guard := some (11, true) }) (v := ?_) rfl (by kernel_rfl) (by kernel_rfl) (by kernel_rfl) (fun _ _ _ h => h) (Or.inl ⟨by rfl, ?_⟩) g1 ?_
        rotate_left
        · intro w9 hSw
          try dsimp only at hSw
          go_simp
          try with_reducible rfl
        try simp only [Act.put, List.setIfInBounds_toArray, List.set_cons_zero, List.set_cons_succ]
        refine wpAnyH_ready (rs := [14]) (by kernel_rfl) (by simp) ?_
        refine AllReadyH.cons (o := { dst := some 104, op := Op.call { callee := Callee.value (Operand.func 21), args := #[Operand.tmp 102, Operand.tmp 103], argTypes := #[24, 24] }, type := 4, pos := "outright.go:86", after := #[{ on := 12, ground := Ground.data }, { on := 13, ground := Ground.data }, { on := 11, ground := Ground.chain }, { on := 11, ground := Ground.guard }], guard := some (11, true) }) rfl (fun K hK => ?_) AllReadyH.nil
        go_simp
        (go_at_call 21; with_reducible refine (within_to r b true RB.out _).mono ?_; rintro e z2 ⟨rfl, qb⟩)
        refine hK.out _ _ ?_ (fun g2 => ?_)
        · exact sixk qb g1
        clear hK K qb
        clear g1
        try simp only [Act.put, List.setIfInBounds_toArray, List.set_cons_zero, List.set_cons_succ]
        refine wpAnyH_take (i := 15) (oi := { dst := some 105, op := Op.pick (Operand.tmp 101) (Operand.tmp 104) (Operand.const (Value.bool false)), type := 4, pos := "outright.go:86", after := #[{ on := 11, ground := Ground.data }, { on := 14, ground := Ground.data }], guard := none }) (v := ?_) rfl (by kernel_rfl) (by kernel_rfl) (by kernel_rfl) (fun _ _ _ h => h) (Or.inl ⟨by rfl, ?_⟩) g2 ?_
        rotate_left
        · intro w9 hSw
          try dsimp only at hSw
          go_simp
          try with_reducible rfl
        try simp only [Act.put, List.setIfInBounds_toArray, List.set_cons_zero, List.set_cons_succ]
        refine wpAnyH_take (i := 16) (oi := { dst := some 106, op := Op.move (Operand.tmp 105), type := 4, pos := "outright.go:86", after := #[{ on := 15, ground := Ground.data }, { on := 14, ground := Ground.chain }], guard := none }) (v := ?_) rfl (by kernel_rfl) (by kernel_rfl) (by kernel_rfl) (fun _ _ _ h => h) (Or.inl ⟨by rfl, ?_⟩) g2 ?_
        rotate_left
        · intro w9 hSw
          try dsimp only at hSw
          go_simp
          try with_reducible rfl
        try simp only [Act.put, List.setIfInBounds_toArray, List.set_cons_zero, List.set_cons_succ]
        refine wpAnyH_take (i := 17) (oi := { dst := some 107, op := Op.load 24 (Operand.tmp 10), type := 24, pos := "outright.go:86", after := #[{ on := 16, ground := Ground.guard }], guard := some (16, true) }) (v := ?_) rfl (by kernel_rfl) (by kernel_rfl) (by kernel_rfl) (fun _ _ _ h => h) (Or.inl ⟨by rfl, ?_⟩) g2 ?_
        rotate_left
        · intro w9 hSw
          try dsimp only at hSw
          go_simp
          try with_reducible rfl
        try simp only [Act.put, List.setIfInBounds_toArray, List.set_cons_zero, List.set_cons_succ]
        refine wpAnyH_take (i := 18) (oi := { dst := some 108, op := Op.move (Operand.tmp 3), type := 22, pos := "outright.go:86", after := #[{ on := 16, ground := Ground.guard }], guard := some (16, true) }) (v := ?_) rfl (by kernel_rfl) (by kernel_rfl) (by kernel_rfl) (fun _ _ _ h => h) (Or.inl ⟨by rfl, ?_⟩) g2 ?_
        rotate_left
        · intro w9 hSw
          try dsimp only at hSw
          go_simp
          try with_reducible rfl
        try simp only [Act.put, List.setIfInBounds_toArray, List.set_cons_zero, List.set_cons_succ]
        refine wpAnyH_take (i := 20) (oi := { dst := some 110, op := Op.load 24 (Operand.tmp 4), type := 24, pos := "outright.go:86", after := #[{ on := 16, ground := Ground.guard }], guard := some (16, true) }) (v := ?_) rfl (by kernel_rfl) (by kernel_rfl) (by kernel_rfl) (fun _ _ _ h => h) (Or.inl ⟨by rfl, ?_⟩) g2 ?_
        rotate_left
        · intro w9 hSw
          try dsimp only at hSw
          go_simp
          try with_reducible rfl
        try simp only [Act.put, List.setIfInBounds_toArray, List.set_cons_zero, List.set_cons_succ]
        refine wpAnyH_take (i := 21) (oi := { dst := some 111, op := Op.move (Operand.tmp 3), type := 22, pos := "outright.go:86", after := #[{ on := 16, ground := Ground.guard }], guard := some (16, true) }) (v := ?_) rfl (by kernel_rfl) (by kernel_rfl) (by kernel_rfl) (fun _ _ _ h => h) (Or.inl ⟨by rfl, ?_⟩) g2 ?_
        rotate_left
        · intro w9 hSw
          try dsimp only at hSw
          go_simp
          try with_reducible rfl
        try simp only [Act.put, List.setIfInBounds_toArray, List.set_cons_zero, List.set_cons_succ]
        refine wpAnyH_ready (rs := [19]) (by kernel_rfl) (by simp) ?_
        refine AllReadyH.cons (o := { dst := some 109, op := Op.call { callee := Callee.value (Operand.func 19), args := #[Operand.tmp 107, Operand.tmp 108], argTypes := #[24, 22] }, type := 4, pos := "outright.go:86", after := #[{ on := 17, ground := Ground.data }, { on := 18, ground := Ground.data }, { on := 16, ground := Ground.chain }, { on := 16, ground := Ground.guard }], guard := some (16, true) }) rfl (fun K hK => ?_) AllReadyH.nil
        go_simp
        (go_at_call 19; with_reducible refine (in_to r u3 false HV.out _).mono ?_; rintro e z3 ⟨rfl, qb⟩)
        refine hK.out _ _ ?_ (fun g3 => ?_)
        · exact sixk qb g2
        clear hK K qb
        clear g2
        try simp only [Act.put, List.setIfInBounds_toArray, List.set_cons_zero, List.set_cons_succ]
        refine wpAnyH_ready (rs := [22]) (by kernel_rfl) (by simp) ?_
        refine AllReadyH.cons (o := { dst := some 112, op := Op.call { callee := Callee.value (Operand.func 19), args := #[Operand.tmp 110, Operand.tmp 111], argTypes := #[24, 22] }, type := 4, pos := "outright.go:86", after := #[{ on := 20, ground := Ground.data }, { on := 21, ground := Ground.data }, { on := 19, ground := Ground.chain }, { on := 16, ground := Ground.guard }], guard := some (16, true) }) rfl (fun K hK => ?_) AllReadyH.nil
        go_simp
        (go_at_call 19; with_reducible refine (in_to a u3 false HP.out _).mono ?_; rintro e z4 ⟨rfl, qb⟩)
        refine hK.out _ _ ?_ (fun g4 => ?_)
        · exact sixk qb g3
        clear hK K qb
        clear g3
        try simp only [Act.put, List.setIfInBounds_toArray, List.set_cons_zero, List.set_cons_succ]
        refine wpAnyH_take (i := 23) (oi := { dst := some 113, op := Op.move (Operand.tmp 112), type := 4, pos := "outright.go:86", after := #[{ on := 22, ground := Ground.data }, { on := 22, ground := Ground.chain }, { on := 16, ground := Ground.guard }], guard := some (16, true) }) (v := ?_) rfl (by kernel_rfl) (by kernel_rfl) (by kernel_rfl) (fun _ _ _ h => h) (Or.inl ⟨by rfl, ?_⟩) g4 ?_
        rotate_left
        · intro w9 hSw
          try dsimp only at hSw
          go_simp
          try with_reducible rfl
        try simp only [Act.put, List.setIfInBounds_toArray, List.set_cons_zero, List.set_cons_succ]
        refine wpAnyH_take (i := 24) (oi := { dst := some 114, op := Op.load 24 (Operand.tmp 5), type := 24, pos := "outright.go:86", after := #[{ on := 23, ground := Ground.guard }], guard := some (23, true) }) (v := undef) rfl (by kernel_rfl) (by kernel_rfl) (by kernel_rfl) (fun _ _ _ h => h) (Or.inr ⟨by rfl, rfl⟩) g4 ?_
        try simp only [Act.put, List.setIfInBounds_toArray, List.set_cons_zero, List.set_cons_succ]
        refine wpAnyH_take (i := 25) (oi := { dst := some 115, op := Op.move (Operand.tmp 3), type := 22, pos := "outright.go:86", after := #[{ on := 23, ground := Ground.guard }], guard := some (23, true) }) (v := undef) rfl (by kernel_rfl) (by kernel_rfl) (by kernel_rfl) (fun _ _ _ h => h) (Or.inr ⟨by rfl, rfl⟩) g4 ?_
        try simp only [Act.put, List.setIfInBounds_toArray, List.set_cons_zero, List.set_cons_succ]
        refine wpAnyH_take (i := 26) (oi := { dst := some 116, op := Op.call { callee := Callee.value (Operand.func 19), args := #[Operand.tmp 114, Operand.tmp 115], argTypes := #[24, 22] }, type := 4, pos := "outright.go:86", after := #[{ on := 24, ground := Ground.data }, { on := 25, ground := Ground.data }, { on := 23, ground := Ground.chain }, { on := 23, ground := Ground.guard }], guard := some (23, true) }) (v := undef) rfl (by kernel_rfl) (by kernel_rfl) (by kernel_rfl) (fun _ _ _ h => h) (Or.inr ⟨by rfl, rfl⟩) g4 ?_
        try simp only [Act.put, List.setIfInBounds_toArray, List.set_cons_zero, List.set_cons_succ]
        refine wpAnyH_take (i := 27) (oi := { dst := some 117, op := Op.pick (Operand.tmp 113) (Operand.tmp 116) (Operand.const (Value.bool false)), type := 4, pos := "outright.go:86", after := #[{ on := 23, ground := Ground.data }, { on := 26, ground := Ground.data }, { on := 16, ground := Ground.guard }], guard := some (16, true) }) (v := ?_) rfl (by kernel_rfl) (by kernel_rfl) (by kernel_rfl) (fun _ _ _ h => h) (Or.inl ⟨by rfl, ?_⟩) g4 ?_
        rotate_left
        · intro w9 hSw
          try dsimp only at hSw
          go_simp
          try with_reducible rfl
        try simp only [Act.put, List.setIfInBounds_toArray, List.set_cons_zero, List.set_cons_succ]
        refine wpAnyH_take (i := 28) (oi := { dst := some 118, op := Op.binOp BinOp.eql 4 (Operand.tmp 109) (Operand.tmp 117) 4, type := 4, pos := "outright.go:86", after := #[{ on := 19, ground := Ground.data }, { on := 27, ground := Ground.data }, { on := 16, ground := Ground.guard }], guard := some (16, true) }) (v := ?_) rfl (by kernel_rfl) (by kernel_rfl) (by kernel_rfl) (fun _ _ _ h => h) (Or.inl ⟨by rfl, ?_⟩) g4 ?_
        rotate_left
        · intro w9 hSw
          try dsimp only at hSw
          go_simp
          try with_reducible rfl
        try simp only [Act.put, List.setIfInBounds_toArray, List.set_cons_zero, List.set_cons_succ]
        refine wpAnyH_take (i := 29) (oi := { dst := some 119, op := Op.pick (Operand.tmp 106) (Operand.tmp 118) (Operand.const (Value.bool false)), type := 4, pos := "outright.go:86", after := #[{ on := 16, ground := Ground.data }, { on := 28, ground := Ground.data }], guard := none }) (v := ?_) rfl (by kernel_rfl) (by kernel_rfl) (by kernel_rfl) (fun _ _ _ h => h) (Or.inl ⟨by rfl, ?_⟩) g4 ?_
        rotate_left
        · intro w9 hSw
          try dsimp only at hSw
          go_simp
          try with_reducible rfl
        try simp only [Act.put, List.setIfInBounds_toArray, List.set_cons_zero, List.set_cons_succ]
        refine wpAnyH_take (i := 30) (oi := { dst := some 120, op := Op.move (Operand.tmp 119), type := 4, pos := "outright.go:86", after := #[{ on := 29, ground := Ground.data }, { on := 26, ground := Ground.chain }], guard := none }) (v := ?_) rfl (by kernel_rfl) (by kernel_rfl) (by kernel_rfl) (fun _ _ _ h => h) (Or.inl ⟨by rfl, ?_⟩) g4 ?_
        rotate_left
        · intro w9 hSw
          try dsimp only at hSw
          go_simp
          try with_reducible rfl
        try simp only [Act.put, List.setIfInBounds_toArray, List.set_cons_zero, List.set_cons_succ]
        refine wpAnyH_take (i := 31) (oi := { dst := some 121, op := Op.load 24 (Operand.tmp 10), type := 24, pos := "outright.go:86", after := #[{ on := 30, ground := Ground.guard }], guard := some (30, true) }) (v := ?_) rfl (by kernel_rfl) (by kernel_rfl) (by kernel_rfl) (fun _ _ _ h => h) (Or.inl ⟨by rfl, ?_⟩) g4 ?_
        rotate_left
        · intro w9 hSw
          try dsimp only at hSw
          go_simp
          try with_reducible rfl
        try simp only [Act.put, List.setIfInBounds_toArray, List.set_cons_zero, List.set_cons_succ]
        refine wpAnyH_take (i := 32) (oi := { dst := some 122, op := Op.move (Operand.tmp 12), type := 22, pos := "outright.go:86", after := #[{ on := 30, ground := Ground.guard }], guard := some (30, true) }) (v := ?_) rfl (by kernel_rfl) (by kernel_rfl) (by kernel_rfl) (fun _ _ _ h => h) (Or.inl ⟨by rfl, ?_⟩) g4 ?_
        rotate_left
        · intro w9 hSw
          try dsimp only at hSw
          go_simp
          try with_reducible rfl
        try simp only [Act.put, List.setIfInBounds_toArray, List.set_cons_zero, List.set_cons_succ]
        refine wpAnyH_take (i := 34) (oi := { dst := some 124, op := Op.load 24 (Operand.tmp 5), type := 24, pos := "outright.go:86", after := #[{ on := 30, ground := Ground.guard }], guard := some (30, true) }) (v := ?_) rfl (by kernel_rfl) (by kernel_rfl) (by kernel_rfl) (fun _ _ _ h => h) (Or.inl ⟨by rfl, ?_⟩) g4 ?_
        rotate_left
        · intro w9 hSw
          try dsimp only at hSw
          go_simp
          try with_reducible rfl
        try simp only [Act.put, List.setIfInBounds_toArray, List.set_cons_zero, List.set_cons_succ]
        refine wpAnyH_take (i := 35) (oi := { dst := some 125, op := Op.move (Operand.tmp 12), type := 22, pos := "outright.go:86", after := #[{ on := 30, ground := Ground.guard }], guard := some (30, true) }) (v := ?_) rfl (by kernel_rfl) (by kernel_rfl) (by kernel_rfl) (fun _ _ _ h => h) (Or.inl ⟨by rfl, ?_⟩) g4 ?_
        rotate_left
        · intro w9 hSw
          try dsimp only at hSw
          go_simp
          try with_reducible rfl
        try simp only [Act.put, List.setIfInBounds_toArray, List.set_cons_zero, List.set_cons_succ]
        refine wpAnyH_ready (rs := [33]) (by kernel_rfl) (by simp) ?_
        refine AllReadyH.cons (o := { dst := some 123, op := Op.call { callee := Callee.value (Operand.func 19), args := #[Operand.tmp 121, Operand.tmp 122], argTypes := #[24, 22] }, type := 4, pos := "outright.go:86", after := #[{ on := 31, ground := Ground.data }, { on := 32, ground := Ground.data }, { on := 30, ground := Ground.chain }, { on := 30, ground := Ground.guard }], guard := some (30, true) }) rfl (fun K hK => ?_) AllReadyH.nil
        go_simp
        (go_at_call 19; with_reducible refine (in_to r x s HX.out _).mono ?_; rintro e z5 ⟨rfl, qb⟩)
        refine hK.out _ _ ?_ (fun g5 => ?_)
        · exact sixk qb g4
        clear hK K qb
        clear g4
        try simp only [Act.put, List.setIfInBounds_toArray, List.set_cons_zero, List.set_cons_succ]
        refine wpAnyH_ready (rs := [36]) (by kernel_rfl) (by simp) ?_
        refine AllReadyH.cons (o := { dst := some 126, op := Op.call { callee := Callee.value (Operand.func 19), args := #[Operand.tmp 124, Operand.tmp 125], argTypes := #[24, 22] }, type := 4, pos := "outright.go:86", after := #[{ on := 34, ground := Ground.data }, { on := 35, ground := Ground.data }, { on := 33, ground := Ground.chain }, { on := 30, ground := Ground.guard }], guard := some (30, true) }) rfl (fun K hK => ?_) AllReadyH.nil
        go_simp
        (go_at_call 19; with_reducible refine (in_to b x s HS.out _).mono ?_; rintro e z6 ⟨rfl, qb⟩)
        refine hK.out _ _ ?_ (fun g6 => ?_)
        · exact sixk qb g5
        clear hK K qb
        clear g5
        try simp only [Act.put, List.setIfInBounds_toArray, List.set_cons_zero, List.set_cons_succ]
        refine wpAnyH_take (i := 37) (oi := { dst := some 127, op := Op.binOp BinOp.eql 4 (Operand.tmp 123) (Operand.tmp 126) 4, type := 4, pos := "outright.go:86", after := #[{ on := 33, ground := Ground.data }, { on := 36, ground := Ground.data }, { on := 30, ground := Ground.guard }], guard := some (30, true) }) (v := ?_) rfl (by kernel_rfl) (by kernel_rfl) (by kernel_rfl) (fun _ _ _ h => h) (Or.inl ⟨by rfl, ?_⟩) g6 ?_
        rotate_left
        · intro w9 hSw
          try dsimp only at hSw
          go_simp
          try with_reducible rfl
        try simp only [Act.put, List.setIfInBounds_toArray, List.set_cons_zero, List.set_cons_succ]
        refine wpAnyH_take (i := 38) (oi := { dst := some 128, op := Op.pick (Operand.tmp 120) (Operand.tmp 127) (Operand.const (Value.bool false)), type := 4, pos := "outright.go:86", after := #[{ on := 30, ground := Ground.data }, { on := 37, ground := Ground.data }], guard := none }) (v := ?_) rfl (by kernel_rfl) (by kernel_rfl) (by kernel_rfl) (fun _ _ _ h => h) (Or.inl ⟨by rfl, ?_⟩) g6 ?_
        rotate_left
        · intro w9 hSw
          try dsimp only at hSw
          go_simp
          try with_reducible rfl
        try simp only [Act.put, List.setIfInBounds_toArray, List.set_cons_zero, List.set_cons_succ]
        refine wpAnyH_take (i := 39) (oi := { dst := some 129, op := Op.move (Operand.tmp 128), type := 4, pos := "outright.go:86", after := #[{ on := 38, ground := Ground.data }, { on := 36, ground := Ground.chain }], guard := none }) (v := ?_) rfl (by kernel_rfl) (by kernel_rfl) (by kernel_rfl) (fun _ _ _ h => h) (Or.inl ⟨by rfl, ?_⟩) g6 ?_
        rotate_left
        · intro w9 hSw
          try dsimp only at hSw
          go_simp
          try with_reducible rfl
        try simp only [Act.put, List.setIfInBounds_toArray, List.set_cons_zero, List.set_cons_succ]
        refine wpAnyH_ready (rs := [40]) (by kernel_rfl) (by simp) ?_
        refine AllReadyH.cons (o := { dst := some 130, op := Op.call { callee := Callee.value (Operand.func 25), args := #[], argTypes := #[] }, type := 4, pos := "outright.go:86", after := #[{ on := 39, ground := Ground.chain }, { on := 39, ground := Ground.guard }], guard := some (39, true) }) rfl (fun K hK => ?_) AllReadyH.nil
        go_simp
        (go_at_call 25; with_reducible refine (known_any _).mono ?_; rintro e z7 ⟨rfl, qb⟩)
        refine hK.out _ _ ?_ (fun g7 => ?_)
        · exact sixk qb g6
        clear hK K qb
        clear g6
        try simp only [Act.put, List.setIfInBounds_toArray, List.set_cons_zero, List.set_cons_succ]
        refine wpAnyH_take (i := 41) (oi := { dst := some 131, op := Op.pick (Operand.tmp 129) (Operand.tmp 130) (Operand.const (Value.bool false)), type := 4, pos := "outright.go:86", after := #[{ on := 39, ground := Ground.data }, { on := 40, ground := Ground.data }], guard := none }) (v := ?_) rfl (by kernel_rfl) (by kernel_rfl) (by kernel_rfl) (fun _ _ _ h => h) (Or.inl ⟨by rfl, ?_⟩) g7 ?_
        rotate_left
        · intro w9 hSw
          try dsimp only at hSw
          go_simp
          try with_reducible rfl
        try simp only [Act.put, List.setIfInBounds_toArray, List.set_cons_zero, List.set_cons_succ]
        refine wpAnyH_take (i := 42) (oi := { dst := some 8, op := Op.assign (Operand.tmp 131), type := 4, pos := "outright.go:86", after := #[{ on := 41, ground := Ground.data }, { on := 40, ground := Ground.chain }, { on := 0, ground := Ground.phase }, { on := 1, ground := Ground.phase }, { on := 2, ground := Ground.phase }, { on := 3, ground := Ground.phase }, { on := 4, ground := Ground.phase }, { on := 5, ground := Ground.phase }, { on := 6, ground := Ground.phase }, { on := 7, ground := Ground.phase }, { on := 8, ground := Ground.phase }, { on := 9, ground := Ground.phase }, { on := 10, ground := Ground.phase }, { on := 11, ground := Ground.phase }, { on := 12, ground := Ground.phase }, { on := 13, ground := Ground.phase }, { on := 14, ground := Ground.phase }, { on := 15, ground := Ground.phase }, { on := 16, ground := Ground.phase }, { on := 17, ground := Ground.phase }, { on := 18, ground := Ground.phase }, { on := 19, ground := Ground.phase }, { on := 20, ground := Ground.phase }, { on := 21, ground := Ground.phase }, { on := 22, ground := Ground.phase }, { on := 23, ground := Ground.phase }, { on := 24, ground := Ground.phase }, { on := 25, ground := Ground.phase }, { on := 26, ground := Ground.phase }, { on := 27, ground := Ground.phase }, { on := 28, ground := Ground.phase }, { on := 29, ground := Ground.phase }, { on := 30, ground := Ground.phase }, { on := 31, ground := Ground.phase }, { on := 32, ground := Ground.phase }, { on := 33, ground := Ground.phase }, { on := 34, ground := Ground.phase }, { on := 35, ground := Ground.phase }, { on := 36, ground := Ground.phase }, { on := 37, ground := Ground.phase }, { on := 38, ground := Ground.phase }, { on := 39, ground := Ground.phase }, { on := 40, ground := Ground.phase }, { on := 41, ground := Ground.phase }], guard := none }) (v := ?_) rfl (by kernel_rfl) (by kernel_rfl) (by kernel_rfl) (fun _ _ _ h => h) (Or.inl ⟨by rfl, ?_⟩) g7 ?_
        rotate_left
        · intro w9 hSw
          try dsimp only at hSw
          go_simp
          try with_reducible rfl
        try simp only [Act.put, List.setIfInBounds_toArray, List.set_cons_zero, List.set_cons_succ]
        refine wpAnyH_done (by kernel_rfl) ?_ _
        have BB := Lib.hid g7.2.2.2.2.2.2
        go_wp2
        go_returns
        exact ⟨rfl, BB.out⟩
      · have HP := Lib.hid hp
        obtain ⟨q, hq⟩ : ∃ q : Bool, inT b u3 = q := ⟨_, rfl⟩
        have HQ := Lib.hid hq
        have HV := Lib.hid (show inT r u3 = q by rw [RI.out, hp, hq]; rfl)
        clear hp hq
        go_region_held3 (fun w' => w'.cell? ⟨w.heap.size, 0, none⟩ = some (.int .u64 (bi a.v)) ∧ w'.cell? ⟨w.heap.size, 1, none⟩ = some (.int .u64 (bi a.m)) ∧ w'.cell? ⟨w.heap.size + 1, 0, none⟩ = some (.int .u64 (bi b.v)) ∧ w'.cell? ⟨w.heap.size + 1, 1, none⟩ = some (.int .u64 (bi b.m)) ∧ w'.cell? ⟨w41.heap.size, 0, none⟩ = some (.int .u64 (bi r.v)) ∧ w'.cell? ⟨w41.heap.size, 1, none⟩ = some (.int .u64 (bi r.m)) ∧ Below w.heap.size w w')
          (first | exact ⟨cA0, cA1, cB0, cB1, cM0, cM1, HB.out.drew⟩ | exact sixk qb (by assumption) | exact sixk qb ⟨by assumption, by assumption, by assumption, by assumption, by assumption, by assumption, by assumption⟩ | exact sixk qb ⟨cA0, cA1, cB0, cB1, cM0, cM1, HB.out.drew⟩)
          (first | (go_at_call 21; with_reducible refine (within_to r a true RA.out _).mono ?_; rintro e w2 ⟨rfl, qb⟩) | (go_at_call 21; with_reducible refine (within_to r b true RB.out _).mono ?_; rintro e w2 ⟨rfl, qb⟩) | (go_at_call 19; with_reducible refine (in_to r u3 q HV.out _).mono ?_; rintro e w2 ⟨rfl, qb⟩) | (go_at_call 19; with_reducible refine (in_to a u3 true HP.out _).mono ?_; rintro e w2 ⟨rfl, qb⟩) | (go_at_call 19; with_reducible refine (in_to b u3 q HQ.out _).mono ?_; rintro e w2 ⟨rfl, qb⟩) | (go_at_call 19; with_reducible refine (in_to r x s HX.out _).mono ?_; rintro e w2 ⟨rfl, qb⟩) | (go_at_call 19; with_reducible refine (in_to b x s HS.out _).mono ?_; rintro e w2 ⟨rfl, qb⟩) | (go_at_call 25; with_reducible refine (known_any _).mono ?_; rintro e w2 ⟨rfl, qb⟩))
        have BB : Hid (Below w.heap.size w w2) := by
          rename_i hH
          exact Lib.hid hH.2.2.2.2.2.2
        clear qb
        go_wp2
        go_returns
        exact ⟨rfl, BB.out⟩

set_option maxRecDepth 100000 in
theorem lifted (os : Os) (started : os.Started) (H : Type) (enc : TypeId × Value → H) :
    ReturnsInHanded {} Try.checked os 9 .any (Rows.tnumLatticeSpec.pre6 enc Try.prog Try.f9 Rows.tnumLatticeRow.domain false) (Rows.tnumLatticeSpec.post enc Try.prog Try.f9 false true false false) := by
  refine returnsInHanded_of_change (C := Try.checked) own started (by kernel_rfl) Try.func9
    (ChangeSpec.witness6 (enc := enc) (C := Try.checked) false ⟨#[], #[.agg #[.int .u64 0, .int .u64 0], .agg #[.int .u64 0, .int .u64 0], .agg #[.int .u64 0, .int .u64 0], .int .u64 0], []⟩ 8 (by kernel_rfl) (by kernel_rfl) (by kernel_rfl) (by kernel_rfl)) ?_
  intro W base args ds gs before hval0 hW hcnd _
  have hval : ∀ (j : Nat) t v, Try.f9.params[j]? = some t → args[j]? = some v → Value.okWide Try.prog W .any base t v := hval0
  have hW' := hW
  obtain ⟨p, q, hA0, hV, rfl, hfz, hnd⟩ := hW
  have hA : DataW.TrodAll enc Try.prog W 0 (fun _ => true) true Try.f9.params.toList args.toList ds p := hA0
  rw [Try.params9] at hA hval
  obtain ⟨v0, vs0, d0, ds0, p0, q0, hargs, rfl, rfl, h0, r0⟩ := trodAll_cons hA
  obtain ⟨v1, vs1, d1, ds1, p1, q1, rfl, rfl, rfl, h1, r1⟩ := trodAll_cons r0
  obtain ⟨v2, vs2, d2, ds2, p2, q2, rfl, rfl, rfl, h2, r2⟩ := trodAll_cons r1
  obtain ⟨v3, vs3, d3, ds3, p3, q3, rfl, rfl, rfl, h3, r3⟩ := trodAll_cons r2
  obtain ⟨rfl, rfl, rfl⟩ := trodAll_nil r3
  obtain rfl : args = #[v0, v1, v2, v3] := by cases args; simp_all
  obtain ⟨rfl, rfl⟩ := trodVars_none hV
  have k0 := h0
  have lt0 : ∀ x ∈ p0, x.block < W.heap.size := by obtain ⟨m, hm⟩ := k0; exact DataW.trod_lt m _ _ _ hm
  obtain ⟨x0, rfl⟩ := open_tn (hval 0 24 v0 rfl rfl) h0
  have k1 := h1
  have lt1 : ∀ x ∈ p1, x.block < W.heap.size := by obtain ⟨m, hm⟩ := k1; exact DataW.trod_lt m _ _ _ hm
  obtain ⟨x1, rfl⟩ := open_tn (hval 1 24 v1 rfl rfl) h1
  have k2 := h2
  have lt2 : ∀ x ∈ p2, x.block < W.heap.size := by obtain ⟨m, hm⟩ := k2; exact DataW.trod_lt m _ _ _ hm
  obtain ⟨x2, rfl⟩ := open_tn (hval 2 24 v2 rfl rfl) h2
  obtain ⟨n3, rfl, rfl, rfl, w3⟩ := open_int Try.underlying22 (hval 3 22 v3 rfl rfl) h3
  have ww3 := w3
  obtain ⟨u3, rfl⟩ := u64_bi w3
  clear hA0 hval0
  refine (walk x0 x1 x2 u3 W    ).mono fun e W' ⟨he, bel⟩ => ?_
  subst he
  exact ⟨_, rfl, _, _, _, [], _, [], hW', trodAll_mk1 (shut_bool Try.underlying4 _), (trodAll_cons_mk (Below.trod laidOut (by kernel_rfl) (of_decide_eq_true (by kernel_rfl)) k0 bel lt0) (trodAll_cons_mk (Below.trod laidOut (by kernel_rfl) (of_decide_eq_true (by kernel_rfl)) k1 bel lt1) (trodAll_cons_mk (Below.trod laidOut (by kernel_rfl) (of_decide_eq_true (by kernel_rfl)) k2 bel lt2) (trodAll_cons_mk (shut_int Try.underlying22 ww3) trodAll_mk0)))), rfl, bel.frame _, fun h => by cases h⟩

theorem over : Rows.tnumLatticeRow.holds Try.pinned (OpenSpec.ofChange Rows.tnumLatticeSpec) :=
  OpenClaim.holds_of_wide 9 Try.f9 rfl rfl rfl rfl rfl rfl rfl ⟨rfl, rfl, rfl, rfl, rfl⟩ rfl rfl rfl rfl rfl (by kernel_rfl) Try.func9 (by kernel_rfl)
    (of_decide_eq_true (by kernel_rfl)) (by unfold Func.isWrapper; first | (rw [if_pos (by decide +kernel)]; kernel_rfl) | (rw [if_neg (by decide +kernel)]; exact ⟨rfl, rfl⟩))
    (fun os started H enc _ => lifted os started H enc)

theorem proved : Rows.TnumLatticeSaid := over
#print axioms proved
end Go.Proofs.Ytjjiancacokaiaa.tnumLattice
