/-
  Proved: the statement TnumSound: whatever numbers are of two tnums that may be, what an operation makes of them is of what is told of the tnums, and that may be. No conditions.
-/
import Derived.Test.YtjjiancacokaiaaRows
import Derived.Test.YtjjiancacokaiaaTnumTo2
import Derived.Deep.RegionHeld3
import Derived.WalkKit
import Derived.ProofKit
import Derived.OpenShut
import Derived.ChangeOld
import Derived.Below
import Derived.Handy
namespace Go.Proofs.Ytjjiancacokaiaa.tnumSound
open Go.ChangeShapes Go.WideShapes Go.ChangeAt Go.RowKit Tn Ow
set_option linter.unusedVariables false
set_option linter.unusedSimpArgs false

theorem own : ownKnob Try.prog.godebug = none := by kernel_rfl
theorem laidOut : laidOutB Try.prog = true := by kernel_rfl



set_option maxRecDepth 100000 in
set_option maxHeartbeats 4000000 in
theorem walk (x0 : T) (x1 : T) (u2 : BitVec 64) (u3 : BitVec 64) (n4 : Int) (w : World) (w4 : (Lit.int .i64 n4).wf = true) :
    Calls Try.prog 6 #[.agg #[.int .u64 (bi x0.v), .int .u64 (bi x0.m)], .agg #[.int .u64 (bi x1.v), .int .u64 (bi x1.m)], .int .u64 (bi u2), .int .u64 (bi u3), .int .i64 n4] w fun e w' => e = .returned (.bool true) ∧ Below w.heap.size w w' := by
  have hn := bounds_i64 w4
  obtain ⟨k, hk⟩ : ∃ k : Nat, n4 % 64 = (k : Int) := ⟨(n4 % 64).toNat, by omega⟩
  obtain ⟨j, hj⟩ : ∃ j : Nat, n4 % 32 = (j : Int) := ⟨(n4 % 32).toNat, by omega⟩
  have Z64 := Lib.hid (wrap64k n4 k hk)
  have Z32 := Lib.hid (wrap32k n4 j hj)
  have HK := Lib.hid hk
  have HJ := Lib.hid hj
  have HN := Lib.hid hn
  clear hk hj w4
  obtain ⟨a, ea⟩ : ∃ a : T, exc x0.v x0.m = a := ⟨_, rfl⟩
  obtain ⟨b, eb⟩ : ∃ b : T, exc x1.v x1.m = b := ⟨_, rfl⟩
  have EA := Lib.hid ea
  have EB := Lib.hid eb
  have MA := Lib.hid (show mayT a by rw [← ea]; exact may_exc _ _)
  have MB := Lib.hid (show mayT b by rw [← eb]; exact may_exc _ _)
  clear ea eb
  obtain ⟨x, ex⟩ : ∃ x, oneT a u2 = x := ⟨_, rfl⟩
  obtain ⟨y, ey⟩ : ∃ y, oneT b u3 = y := ⟨_, rfl⟩
  have EX := Lib.hid ex
  have EY := Lib.hid ey
  have IX := Lib.hid (show inT a x = true by rw [← ex]; exact in_one a u2)
  have IY := Lib.hid (show inT b y = true by rw [← ey]; exact in_one b u3)
  clear ex ey
  have h0 := bi_bd x
  have h1 := bi_bd y
  have h2 := bi_bd u2
  have h3 := bi_bd u3
  have hz := wrap_bd n4
  go_enter Try.func6, Try.ntmps6
  go_wp2_with fail
  have K0 := ((Bk.new w 24 #[.int .u64 (bi x0.v), .int .u64 (bi x0.m)]).alloc (.cells #[.int .u64 (bi x1.v), .int .u64 (bi x1.m)] 24))
  have K1 := (Bk.new (w.alloc (.cells #[.int .u64 (bi x0.v), .int .u64 (bi x0.m)] 24)) 24 #[.int .u64 (bi x1.v), .int .u64 (bi x1.m)])
  rw [World.size_alloc] at K1
  have B0 : Below w.heap.size w ((w.alloc (.cells #[.int .u64 (bi x0.v), .int .u64 (bi x0.m)] 24)).alloc (.cells #[.int .u64 (bi x1.v), .int .u64 (bi x1.m)] 24)) := by go_grown
  generalize ((w.alloc (.cells #[.int .u64 (bi x0.v), .int .u64 (bi x0.m)] 24)).alloc (.cells #[.int .u64 (bi x1.v), .int .u64 (bi x1.m)] 24)) = w0 at *
  have H0 := Lib.hid K0
  have H1 := Lib.hid K1
  have HB := Lib.hid B0
  clear K0 K1 B0
  have A := H0
  clear H0
  have B := H1
  clear H1
  obtain ⟨cA0, cA1⟩ := tcells A.out
  obtain ⟨cB0, cB1⟩ := tcells B.out
  with_reducible refine (may_to x0 a EA.out _).mono ?_
  rintro e w1 ⟨rfl, qb⟩
  replace A := Lib.hid (bk_keep A.out qb)
  replace B := Lib.hid (bk_keep B.out qb)
  replace HB := Lib.hid (below_then HB.out qb (Nat.le_refl _))
  clear qb cA0 cA1 cB0 cB1
  obtain ⟨cA0, cA1⟩ := tcells A.out
  obtain ⟨cB0, cB1⟩ := tcells B.out
  have fA0 := A.out.frozen 0
  have fA1 := A.out.frozen 1
  go_wp2_with fail
  replace A := Lib.hid (bk_st A.out a)
  replace B := Lib.hid (bk_fr (r := w.heap.size) B.out (by omega) a)
  replace HB := Lib.hid (below_st (r := w.heap.size) HB.out (by omega) a)
  clear fA0 fA1 cA0 cA1 cB0 cB1
  generalize World.setCell (World.setCell w1 ⟨w.heap.size, 0, none⟩ (.int .u64 (bi a.v))) ⟨w.heap.size, 1, none⟩ (.int .u64 (bi a.m)) = v1 at *
  obtain ⟨cA0, cA1⟩ := tcells A.out
  obtain ⟨cB0, cB1⟩ := tcells B.out
  with_reducible refine (may_to x1 b EB.out _).mono ?_
  rintro e w2 ⟨rfl, qb⟩
  replace A := Lib.hid (bk_keep A.out qb)
  replace B := Lib.hid (bk_keep B.out qb)
  replace HB := Lib.hid (below_then HB.out qb (Nat.le_refl _))
  clear qb cA0 cA1 cB0 cB1
  obtain ⟨cA0, cA1⟩ := tcells A.out
  obtain ⟨cB0, cB1⟩ := tcells B.out
  have fB0 := B.out.frozen 0
  have fB1 := B.out.frozen 1
  go_wp2_with fail
  replace A := Lib.hid (bk_fr (r := (w.heap.size + 1)) A.out (by omega) b)
  replace B := Lib.hid (bk_st B.out b)
  replace HB := Lib.hid (below_st (r := (w.heap.size + 1)) HB.out (by omega) b)
  clear fB0 fB1 cA0 cA1 cB0 cB1
  generalize World.setCell (World.setCell w2 ⟨(w.heap.size + 1), 0, none⟩ (.int .u64 (bi b.v))) ⟨(w.heap.size + 1), 1, none⟩ (.int .u64 (bi b.m)) = v2 at *
  obtain ⟨cA0, cA1⟩ := tcells A.out
  obtain ⟨cB0, cB1⟩ := tcells B.out
  with_reducible refine (one_to a u2 x EX.out _).mono ?_
  rintro e w3 ⟨rfl, qb⟩
  replace A := Lib.hid (bk_keep A.out qb)
  replace B := Lib.hid (bk_keep B.out qb)
  replace HB := Lib.hid (below_then HB.out qb (Nat.le_refl _))
  clear qb cA0 cA1 cB0 cB1
  obtain ⟨cA0, cA1⟩ := tcells A.out
  obtain ⟨cB0, cB1⟩ := tcells B.out
  go_wp2_with fail
  with_reducible refine (one_to b u3 y EY.out _).mono ?_
  rintro e w4 ⟨rfl, qb⟩
  replace A := Lib.hid (bk_keep A.out qb)
  replace B := Lib.hid (bk_keep B.out qb)
  replace HB := Lib.hid (below_then HB.out qb (Nat.le_refl _))
  clear qb cA0 cA1 cB0 cB1
  obtain ⟨cA0, cA1⟩ := tcells A.out
  obtain ⟨cB0, cB1⟩ := tcells B.out
  go_wp2_with fail
  with_reducible refine (add_any a b _).mono ?_
  rintro e w5 ⟨rfl, qb⟩
  replace A := Lib.hid (bk_keep A.out qb)
  replace B := Lib.hid (bk_keep B.out qb)
  replace HB := Lib.hid (below_then HB.out qb (Nat.le_refl _))
  clear qb cA0 cA1 cB0 cB1
  obtain ⟨cA0, cA1⟩ := tcells A.out
  obtain ⟨cB0, cB1⟩ := tcells B.out
  go_wp2_with fail
  with_reducible refine (alu_is 0 (bi x) (bi y) (bi (x + y)) (av0 x y) h0 h1 _).mono ?_
  rintro e w' ⟨rfl, rfl⟩
  go_wp2_with fail
  with_reducible refine (has_any (addT a b) (x + y) (may_add _ _) (add_sound MA.out MB.out IX.out IY.out) _).mono ?_
  rintro e w6 ⟨rfl, qb⟩
  replace A := Lib.hid (bk_keep A.out qb)
  replace B := Lib.hid (bk_keep B.out qb)
  replace HB := Lib.hid (below_then HB.out qb (Nat.le_refl _))
  clear qb cA0 cA1 cB0 cB1
  obtain ⟨cA0, cA1⟩ := tcells A.out
  obtain ⟨cB0, cB1⟩ := tcells B.out
  go_wp2_with fail
  with_reducible refine (sub_any a b _).mono ?_
  rintro e w7 ⟨rfl, qb⟩
  replace A := Lib.hid (bk_keep A.out qb)
  replace B := Lib.hid (bk_keep B.out qb)
  replace HB := Lib.hid (below_then HB.out qb (Nat.le_refl _))
  clear qb cA0 cA1 cB0 cB1
  obtain ⟨cA0, cA1⟩ := tcells A.out
  obtain ⟨cB0, cB1⟩ := tcells B.out
  go_wp2_with fail
  with_reducible refine (alu_is 1 (bi x) (bi y) (bi (x - y)) (av1 x y) h0 h1 _).mono ?_
  rintro e w' ⟨rfl, rfl⟩
  go_wp2_with fail
  with_reducible refine (has_any (subT a b) (x - y) (may_sub _ _) (sub_sound MA.out MB.out IX.out IY.out) _).mono ?_
  rintro e w8 ⟨rfl, qb⟩
  replace A := Lib.hid (bk_keep A.out qb)
  replace B := Lib.hid (bk_keep B.out qb)
  replace HB := Lib.hid (below_then HB.out qb (Nat.le_refl _))
  clear qb cA0 cA1 cB0 cB1
  obtain ⟨cA0, cA1⟩ := tcells A.out
  obtain ⟨cB0, cB1⟩ := tcells B.out
  go_wp2_with fail
  with_reducible refine (mul_any a b _).mono ?_
  rintro e w9 ⟨rfl, qb⟩
  replace A := Lib.hid (bk_keep A.out qb)
  replace B := Lib.hid (bk_keep B.out qb)
  replace HB := Lib.hid (below_then HB.out qb (Nat.le_refl _))
  clear qb cA0 cA1 cB0 cB1
  obtain ⟨cA0, cA1⟩ := tcells A.out
  obtain ⟨cB0, cB1⟩ := tcells B.out
  go_wp2_with fail
  with_reducible refine (alu_is 2 (bi x) (bi y) (bi (x * y)) (av2 x y) h0 h1 _).mono ?_
  rintro e w' ⟨rfl, rfl⟩
  go_wp2_with fail
  with_reducible refine (has_any (mulT a b) (x * y) (may_mul _ _) (mul_sound MA.out MB.out IX.out IY.out) _).mono ?_
  rintro e w10 ⟨rfl, qb⟩
  replace A := Lib.hid (bk_keep A.out qb)
  replace B := Lib.hid (bk_keep B.out qb)
  replace HB := Lib.hid (below_then HB.out qb (Nat.le_refl _))
  clear qb cA0 cA1 cB0 cB1
  obtain ⟨cA0, cA1⟩ := tcells A.out
  obtain ⟨cB0, cB1⟩ := tcells B.out
  go_wp2_with fail
  with_reducible refine (or_any a b _).mono ?_
  rintro e w11 ⟨rfl, qb⟩
  replace A := Lib.hid (bk_keep A.out qb)
  replace B := Lib.hid (bk_keep B.out qb)
  replace HB := Lib.hid (below_then HB.out qb (Nat.le_refl _))
  clear qb cA0 cA1 cB0 cB1
  obtain ⟨cA0, cA1⟩ := tcells A.out
  obtain ⟨cB0, cB1⟩ := tcells B.out
  go_wp2_with fail
  with_reducible refine (alu_is 4 (bi x) (bi y) (bi (x ||| y)) (av4 x y) h0 h1 _).mono ?_
  rintro e w' ⟨rfl, rfl⟩
  go_wp2_with fail
  with_reducible refine (has_any (orT a b) (x ||| y) (may_or _ _) (or_sound MA.out MB.out IX.out IY.out) _).mono ?_
  rintro e w12 ⟨rfl, qb⟩
  replace A := Lib.hid (bk_keep A.out qb)
  replace B := Lib.hid (bk_keep B.out qb)
  replace HB := Lib.hid (below_then HB.out qb (Nat.le_refl _))
  clear qb cA0 cA1 cB0 cB1
  obtain ⟨cA0, cA1⟩ := tcells A.out
  obtain ⟨cB0, cB1⟩ := tcells B.out
  go_wp2_with fail
  with_reducible refine (and_any a b _).mono ?_
  rintro e w13 ⟨rfl, qb⟩
  replace A := Lib.hid (bk_keep A.out qb)
  replace B := Lib.hid (bk_keep B.out qb)
  replace HB := Lib.hid (below_then HB.out qb (Nat.le_refl _))
  clear qb cA0 cA1 cB0 cB1
  obtain ⟨cA0, cA1⟩ := tcells A.out
  obtain ⟨cB0, cB1⟩ := tcells B.out
  go_wp2_with fail
  with_reducible refine (alu_is 5 (bi x) (bi y) (bi (x &&& y)) (av5 x y) h0 h1 _).mono ?_
  rintro e w' ⟨rfl, rfl⟩
  go_wp2_with fail
  with_reducible refine (has_any (andT a b) (x &&& y) (may_and _ _) (and_sound MA.out MB.out IX.out IY.out) _).mono ?_
  rintro e w14 ⟨rfl, qb⟩
  replace A := Lib.hid (bk_keep A.out qb)
  replace B := Lib.hid (bk_keep B.out qb)
  replace HB := Lib.hid (below_then HB.out qb (Nat.le_refl _))
  clear qb cA0 cA1 cB0 cB1
  obtain ⟨cA0, cA1⟩ := tcells A.out
  obtain ⟨cB0, cB1⟩ := tcells B.out
  go_wp2_with fail
  with_reducible refine (xor_any a b _).mono ?_
  rintro e w15 ⟨rfl, qb⟩
  replace A := Lib.hid (bk_keep A.out qb)
  replace B := Lib.hid (bk_keep B.out qb)
  replace HB := Lib.hid (below_then HB.out qb (Nat.le_refl _))
  clear qb cA0 cA1 cB0 cB1
  obtain ⟨cA0, cA1⟩ := tcells A.out
  obtain ⟨cB0, cB1⟩ := tcells B.out
  go_wp2_with fail
  with_reducible refine (alu_is 10 (bi x) (bi y) (bi (x ^^^ y)) (av10 x y) h0 h1 _).mono ?_
  rintro e w' ⟨rfl, rfl⟩
  go_wp2_with fail
  with_reducible refine (has_any (xorT a b) (x ^^^ y) (may_xor _ _) (xor_sound IX.out IY.out) _).mono ?_
  rintro e w16 ⟨rfl, qb⟩
  replace A := Lib.hid (bk_keep A.out qb)
  replace B := Lib.hid (bk_keep B.out qb)
  replace HB := Lib.hid (below_then HB.out qb (Nat.le_refl _))
  clear qb cA0 cA1 cB0 cB1
  obtain ⟨cA0, cA1⟩ := tcells A.out
  obtain ⟨cB0, cB1⟩ := tcells B.out
  go_wp2_with fail
  with_reducible refine (alun_is (bi x) (IntKind.u64.wrap n4) (bi (dn32 x j)) (av12n x _ j hz.1 hz.2 Z32.out) h0 hz _).mono ?_
  rintro e w' ⟨rfl, rfl⟩
  go_wp2_with fail
  with_reducible refine (lsh_any a n4 k HK.out HN.out _).mono ?_
  rintro e w17 ⟨rfl, qb⟩
  replace A := Lib.hid (bk_keep A.out qb)
  replace B := Lib.hid (bk_keep B.out qb)
  replace HB := Lib.hid (below_then HB.out qb (Nat.le_refl _))
  clear qb cA0 cA1 cB0 cB1
  obtain ⟨cA0, cA1⟩ := tcells A.out
  obtain ⟨cB0, cB1⟩ := tcells B.out
  go_wp2_with fail
  with_reducible refine (alu_is 6 (bi x) (IntKind.u64.wrap n4) (bi (x <<< k)) (av6 x _ k Z64.out) h0 hz _).mono ?_
  rintro e w' ⟨rfl, rfl⟩
  go_wp2_with fail
  with_reducible refine (has_any (lshT a k) (x <<< k) (may_lsh MA.out k) (lsh_sound k IX.out) _).mono ?_
  rintro e w18 ⟨rfl, qb⟩
  replace A := Lib.hid (bk_keep A.out qb)
  replace B := Lib.hid (bk_keep B.out qb)
  replace HB := Lib.hid (below_then HB.out qb (Nat.le_refl _))
  clear qb cA0 cA1 cB0 cB1
  obtain ⟨cA0, cA1⟩ := tcells A.out
  obtain ⟨cB0, cB1⟩ := tcells B.out
  go_wp2_with fail
  with_reducible refine (rsh_any a n4 k HK.out HN.out _).mono ?_
  rintro e w19 ⟨rfl, qb⟩
  replace A := Lib.hid (bk_keep A.out qb)
  replace B := Lib.hid (bk_keep B.out qb)
  replace HB := Lib.hid (below_then HB.out qb (Nat.le_refl _))
  clear qb cA0 cA1 cB0 cB1
  obtain ⟨cA0, cA1⟩ := tcells A.out
  obtain ⟨cB0, cB1⟩ := tcells B.out
  go_wp2_with fail
  with_reducible refine (alu_is 7 (bi x) (IntKind.u64.wrap n4) (bi (x >>> k)) (av7 x _ k Z64.out) h0 hz _).mono ?_
  rintro e w' ⟨rfl, rfl⟩
  go_wp2_with fail
  with_reducible refine (has_any (rshT a k) (x >>> k) (may_rsh MA.out k) (rsh_sound k IX.out) _).mono ?_
  rintro e w20 ⟨rfl, qb⟩
  replace A := Lib.hid (bk_keep A.out qb)
  replace B := Lib.hid (bk_keep B.out qb)
  replace HB := Lib.hid (below_then HB.out qb (Nat.le_refl _))
  clear qb cA0 cA1 cB0 cB1
  obtain ⟨cA0, cA1⟩ := tcells A.out
  obtain ⟨cB0, cB1⟩ := tcells B.out
  go_wp2_with fail
  with_reducible refine (ar_any a n4 k HK.out HN.out _).mono ?_
  rintro e w21 ⟨rfl, qb⟩
  replace A := Lib.hid (bk_keep A.out qb)
  replace B := Lib.hid (bk_keep B.out qb)
  replace HB := Lib.hid (below_then HB.out qb (Nat.le_refl _))
  clear qb cA0 cA1 cB0 cB1
  obtain ⟨cA0, cA1⟩ := tcells A.out
  obtain ⟨cB0, cB1⟩ := tcells B.out
  go_wp2_with fail
  with_reducible refine (alu_is 12 (bi x) (IntKind.u64.wrap n4) (bi (x.sshiftRight k)) (av12 x _ k Z64.out) h0 hz _).mono ?_
  rintro e w' ⟨rfl, rfl⟩
  go_wp2_with fail
  with_reducible refine (has_any (arT a k) (x.sshiftRight k) (may_ar MA.out k) (ar_sound k IX.out) _).mono ?_
  rintro e w22 ⟨rfl, qb⟩
  replace A := Lib.hid (bk_keep A.out qb)
  replace B := Lib.hid (bk_keep B.out qb)
  replace HB := Lib.hid (below_then HB.out qb (Nat.le_refl _))
  clear qb cA0 cA1 cB0 cB1
  obtain ⟨cA0, cA1⟩ := tcells A.out
  obtain ⟨cB0, cB1⟩ := tcells B.out
  go_wp2_with fail
  with_reducible refine (ar32_any a n4 j HJ.out HN.out _).mono ?_
  rintro e w23 ⟨rfl, qb⟩
  replace A := Lib.hid (bk_keep A.out qb)
  replace B := Lib.hid (bk_keep B.out qb)
  replace HB := Lib.hid (below_then HB.out qb (Nat.le_refl _))
  clear qb cA0 cA1 cB0 cB1
  obtain ⟨cA0, cA1⟩ := tcells A.out
  obtain ⟨cB0, cB1⟩ := tcells B.out
  go_wp2_with fail
  with_reducible refine (has_any (ar32T a j) (dn32 x j) (may_ar32 MA.out j) (ar32_sound j IX.out) _).mono ?_
  rintro e w24 ⟨rfl, qb⟩
  replace A := Lib.hid (bk_keep A.out qb)
  replace B := Lib.hid (bk_keep B.out qb)
  replace HB := Lib.hid (below_then HB.out qb (Nat.le_refl _))
  clear qb cA0 cA1 cB0 cB1
  obtain ⟨cA0, cA1⟩ := tcells A.out
  obtain ⟨cB0, cB1⟩ := tcells B.out
  go_wp2_with fail
  go_loopw [16] (fun i wr => ∃ m : Int, 1 ≤ m ∧ m ≤ 8 ∧ i = .int .i64 m ∧ Hid (Bk wr w.heap.size 24 #[.int .u64 (bi a.v), .int .u64 (bi a.m)]) ∧ Hid (Below w.heap.size w wr)) (fun i _ => 8 - (intOf i).toNat)
  case atStart => exact ⟨1, by omega, by omega, rfl, A, HB⟩
  case round =>
    clear A B HB cA0 cA1 cB0 cB1
    obtain ⟨m, hm1, hm2, rfl, A, HB⟩ := hrel
    obtain ⟨cA0, cA1⟩ := tcells A.out
    by_cases hlt : m < 8
    · have C1 := cut_ok a m (by omega) (by omega) MA.out
      have C2 := cut_has a x m (by omega) (by omega) IX.out
      obtain ⟨g1, g2, g3, g4, g6, g5⟩ := cut_spell x m (by omega) (by omega)
      have m1 : (-9223372036854775808 : Int) ≤ m ∧ m ≤ 9223372036854775807 := by omega
      have m2 : (0 : Int) ≤ 8 * m := by omega
      have m3 : 8 * m ≤ 64 := by omega
      have C1H := Lib.hid C1
      have C2H := Lib.hid C2
      clear C1 C2
      go_wp2_with fail
      go_region_held3 (fun w' => w'.cell? ⟨w.heap.size, 0, none⟩ = some (.int .u64 (bi a.v)) ∧ w'.cell? ⟨w.heap.size, 1, none⟩ = some (.int .u64 (bi a.m)) ∧ Below w.heap.size w w')
        (first | exact ⟨cA0, cA1, HB.out.drew⟩ | exact two_keep qb (by assumption) | exact two_keep qb ⟨by assumption, by assumption, by assumption⟩ | exact two_keep qb ⟨cA0, cA1, HB.out.drew⟩)
        (first | (go_at_call 44; refine (cut_any a m m1 _).mono ?_; rintro e w2 ⟨rfl, qb⟩) | (go_at_call 47; refine (has_at (cutN a m) (x &&& maskN m) _ (by first | rfl | exact g5) C1H.out C2H.out _).mono ?_; rintro e w2 ⟨rfl, qb⟩))
      rename_i w8 q8 hH
      have BB := Lib.hid hH.2.2
      have AA := Lib.hid (bk_keep (bk_keep (w := wr.drew) A.out q8) qb)
      clear hH q8 qb g1 g2 g3 g4 g5 g6 m1 m2 m3 cA0 cA1 A HB C1H C2H
      go_wp2_with fail
      go_roundw
      case rel => exact ⟨m + 1, by omega, by omega, by first | rfl | go_num, AA, BB⟩
      case measure => simp [intOf]; omega
    · obtain rfl : m = 8 := by omega
      go_wp2_with fail
      with_reducible refine (cut_to a a 8 (by decide) (cutN_all a) _).mono ?_
      rintro e w25 ⟨rfl, qb⟩
      replace A := Lib.hid (bk_keep A.out qb)
      replace HB := Lib.hid (below_then HB.out qb (Nat.le_refl _))
      clear qb cA0 cA1
      obtain ⟨cA0, cA1⟩ := tcells A.out
      go_wp2_with fail
      with_reducible refine (has_any a x MA.out IX.out _).mono ?_
      rintro e w26 ⟨rfl, qb⟩
      replace A := Lib.hid (bk_keep A.out qb)
      replace HB := Lib.hid (below_then HB.out qb (Nat.le_refl _))
      clear qb cA0 cA1
      obtain ⟨cA0, cA1⟩ := tcells A.out
      go_wp2_with fail
      with_reducible refine (known_any _).mono ?_
      rintro e w27 ⟨rfl, qb⟩
      replace A := Lib.hid (bk_keep A.out qb)
      replace HB := Lib.hid (below_then HB.out qb (Nat.le_refl _))
      clear qb cA0 cA1
      obtain ⟨cA0, cA1⟩ := tcells A.out
      go_wp2_with fail
      go_returns
      exact ⟨rfl, HB.out⟩

set_option maxRecDepth 100000 in
theorem lifted (os : Os) (started : os.Started) (H : Type) (enc : TypeId × Value → H) :
    ReturnsInHanded {} Try.checked os 6 .any (Rows.tnumSoundSpec.pre6 enc Try.prog Try.f6 Rows.tnumSoundRow.domain false) (Rows.tnumSoundSpec.post enc Try.prog Try.f6 false true false false) := by
  refine returnsInHanded_of_change (C := Try.checked) own started (by kernel_rfl) Try.func6
    (ChangeSpec.witness6 (enc := enc) (C := Try.checked) false ⟨#[], #[.agg #[.int .u64 0, .int .u64 0], .agg #[.int .u64 0, .int .u64 0], .int .u64 0, .int .u64 0, .int .i64 0], []⟩ 8 (by kernel_rfl) (by kernel_rfl) (by kernel_rfl) (by kernel_rfl)) ?_
  intro W base args ds gs before hval0 hW hcnd _
  have hval : ∀ (j : Nat) t v, Try.f6.params[j]? = some t → args[j]? = some v → Value.okWide Try.prog W .any base t v := hval0
  have hW' := hW
  obtain ⟨p, q, hA0, hV, rfl, hfz, hnd⟩ := hW
  have hA : DataW.TrodAll enc Try.prog W 0 (fun _ => true) true Try.f6.params.toList args.toList ds p := hA0
  rw [Try.params6] at hA hval
  obtain ⟨v0, vs0, d0, ds0, p0, q0, hargs, rfl, rfl, h0, r0⟩ := trodAll_cons hA
  obtain ⟨v1, vs1, d1, ds1, p1, q1, rfl, rfl, rfl, h1, r1⟩ := trodAll_cons r0
  obtain ⟨v2, vs2, d2, ds2, p2, q2, rfl, rfl, rfl, h2, r2⟩ := trodAll_cons r1
  obtain ⟨v3, vs3, d3, ds3, p3, q3, rfl, rfl, rfl, h3, r3⟩ := trodAll_cons r2
  obtain ⟨v4, vs4, d4, ds4, p4, q4, rfl, rfl, rfl, h4, r4⟩ := trodAll_cons r3
  obtain ⟨rfl, rfl, rfl⟩ := trodAll_nil r4
  obtain rfl : args = #[v0, v1, v2, v3, v4] := by cases args; simp_all
  obtain ⟨rfl, rfl⟩ := trodVars_none hV
  have k0 := h0
  have lt0 : ∀ x ∈ p0, x.block < W.heap.size := by obtain ⟨m, hm⟩ := k0; exact DataW.trod_lt m _ _ _ hm
  obtain ⟨x0, rfl⟩ := open_tn (hval 0 24 v0 rfl rfl) h0
  have k1 := h1
  have lt1 : ∀ x ∈ p1, x.block < W.heap.size := by obtain ⟨m, hm⟩ := k1; exact DataW.trod_lt m _ _ _ hm
  obtain ⟨x1, rfl⟩ := open_tn (hval 1 24 v1 rfl rfl) h1
  obtain ⟨n2, rfl, rfl, rfl, w2⟩ := open_int Try.underlying22 (hval 2 22 v2 rfl rfl) h2
  have ww2 := w2
  obtain ⟨u2, rfl⟩ := u64_bi w2
  obtain ⟨n3, rfl, rfl, rfl, w3⟩ := open_int Try.underlying22 (hval 3 22 v3 rfl rfl) h3
  have ww3 := w3
  obtain ⟨u3, rfl⟩ := u64_bi w3
  obtain ⟨n4, rfl, rfl, rfl, w4⟩ := open_int Try.underlying3 (hval 4 3 v4 rfl rfl) h4
  clear hA0 hval0
  refine (walk x0 x1 u2 u3 n4 W     w4).mono fun e W' ⟨he, bel⟩ => ?_
  subst he
  exact ⟨_, rfl, _, _, _, [], _, [], hW', trodAll_mk1 (shut_bool Try.underlying4 _), (trodAll_cons_mk (Below.trod laidOut (by kernel_rfl) (of_decide_eq_true (by kernel_rfl)) k0 bel lt0) (trodAll_cons_mk (Below.trod laidOut (by kernel_rfl) (of_decide_eq_true (by kernel_rfl)) k1 bel lt1) (trodAll_cons_mk (shut_int Try.underlying22 ww2) (trodAll_cons_mk (shut_int Try.underlying22 ww3) (trodAll_cons_mk (shut_int Try.underlying3 w4) trodAll_mk0))))), rfl, bel.frame _, fun h => by cases h⟩

theorem over : Rows.tnumSoundRow.holds Try.pinned (OpenSpec.ofChange Rows.tnumSoundSpec) :=
  OpenClaim.holds_of_wide 6 Try.f6 rfl rfl rfl rfl rfl rfl rfl ⟨rfl, rfl, rfl, rfl, rfl⟩ rfl rfl rfl rfl rfl (by kernel_rfl) Try.func6 (by kernel_rfl)
    (of_decide_eq_true (by kernel_rfl)) (by unfold Func.isWrapper; first | (rw [if_pos (by decide +kernel)]; kernel_rfl) | (rw [if_neg (by decide +kernel)]; exact ⟨rfl, rfl⟩))
    (fun os started H enc _ => lifted os started H enc)

theorem proved : Rows.TnumSoundSaid := over
#print axioms proved
end Go.Proofs.Ytjjiancacokaiaa.tnumSound
