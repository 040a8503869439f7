/-
  Proved: the statement SpanSigns: whatever numbers with a sign are between ends, what is made of them is of what is told. No conditions.
-/
import Derived.Test.YthjjfginenpfjaaRows
import Derived.Test.YthjjfginenpfjaaSpanTo
import Derived.WalkKit
import Derived.ProofKit
import Derived.OpenShut
import Derived.ChangeOld
import Derived.Below
import Derived.Handy
namespace Go.Proofs.Ythjjfginenpfjaa.spanSigns
open Go.ChangeShapes Go.WideShapes Go.ChangeAt Go.RowKit Tn Ow Sp
set_option linter.unusedVariables false
set_option linter.unusedSimpArgs false

theorem own : ownKnob Try.prog.godebug = none := by kernel_rfl
theorem laidOut : laidOutB Try.prog = true := by kernel_rfl

theorem wr_bd (n : Int) : 0 ≤ IntKind.u64.wrap n ∧ IntKind.u64.wrap n ≤ 18446744073709551615 := by rw [IntKind.wrap_u64]; omega
theorem in_us {a : E} {s : Int} (ha : okS a) (h : inE a s = true) : 0 ≤ us s ∧ us s ≤ 18446744073709551615 := by
  rw [inE_iff] at h; unfold okS at ha; exact us_bd s (by omega) (by omega)
theorem in_sg {a : E} {s : Int} (ha : okS a) (h : inE a s = true) : sg (us s) = s := by
  rw [inE_iff] at h; unfold okS at ha; exact sg_us s (by omega) (by omega)
theorem and63 (n : Int) : bits .and .i64 n 63 = n % 64 := by
  unfold bits
  have e : (BitVec.ofInt IntKind.i64.bits n &&& BitVec.ofInt IntKind.i64.bits 63).toNat = (n % 64).toNat := by
    show ((BitVec.ofInt 64 n) &&& (63#64)).toNat = _
    rw [BitVec.toNat_and, BitVec.toNat_ofInt]
    have e2 := Nat.and_two_pow_sub_one_eq_mod (n % ((2 ^ 64 : Nat) : Int)).toNat 6
    simp only [Nat.reducePow, Nat.reduceSub] at e2 ⊢
    show (n % ((18446744073709551616 : Nat) : Int)).toNat &&& 63 = _
    rw [e2]
    omega
  show IntKind.i64.wrap (((BitVec.ofInt IntKind.i64.bits n &&& BitVec.ofInt IntKind.i64.bits 63).toNat : Nat) : Int) = _
  rw [e]
  rw [IntKind.wrap_i64]
  omega
theorem kk (k : Nat) (h : k ≤ 63) : min (IntKind.u64.wrap (k : Int)).toNat 64 = k := by rw [IntKind.wrap_u64]; omega
theorem wr_sg {a : E} {s : Int} (ha : okS a) (h : inE a s = true) : wrap64 (us s) = s := by
  rw [inE_iff] at h; unfold okS at ha; rw [sg_wrap _ (us_bd s (by omega) (by omega)).1 (us_bd s (by omega) (by omega)).2]; exact sg_us s (by omega) (by omega)
theorem wr_us {a : E} {s : Int} (ha : okS a) (h : inE a s = true) (k : Nat) : sg (IntKind.u64.wrap (s / 2 ^ k)) = s / 2 ^ k := by
  rw [inE_iff] at h; unfold okS at ha
  have b := div_pow_bd s k (by omega) (by omega)
  rw [us_wrap _ b.1 b.2]; exact sg_us _ b.1 b.2

set_option maxRecDepth 100000 in
set_option maxHeartbeats 4000000 in
theorem walk (x0 : E) (x1 : E) (n2 : Int) (n3 : Int) (n4 : Int) (w : World) (f0 : inS x0) (f1 : inS x1) (w2 : (Lit.int .i64 n2).wf = true) (w3 : (Lit.int .u64 n3).wf = true) (w4 : (Lit.int .u64 n4).wf = true) :
    Calls Try.prog 7 #[.agg #[.int .i64 x0.lo, .int .i64 x0.hi], .agg #[.int .i64 x1.lo, .int .i64 x1.hi], .int .i64 n2, .int .u64 n3, .int .u64 n4] w fun e w' => e = .returned (.bool true) ∧ Below w.heap.size w w' := by
  have hn := bounds_i64 w2
  have h3 := bounds_u64 w3
  have h4 := bounds_u64 w4
  obtain ⟨k, hk⟩ : ∃ k : Nat, n2 % 64 = (k : Int) := ⟨(n2 % 64).toNat, by omega⟩
  have HK := Lib.hid hk
  have hk0 := hk
  have H3 := Lib.hid h3
  have H4 := Lib.hid h4
  clear hk w2 w3 w4
  obtain ⟨a, ea⟩ : ∃ a : E, sortE x0.lo x0.hi = a := ⟨_, rfl⟩
  have EA := Lib.hid ea
  have OA := Lib.hid (show okS a by rw [← ea]; exact ok_sortS f0)
  clear ea
  obtain ⟨b, eb⟩ : ∃ a : E, sortE x1.lo x1.hi = a := ⟨_, rfl⟩
  have EB := Lib.hid eb
  have OB := Lib.hid (show okS b by rw [← eb]; exact ok_sortS f1)
  clear eb
  obtain ⟨sx, esx⟩ : ∃ s, softI a n3 = s := ⟨_, rfl⟩
  have IX := Lib.hid (show inE a sx = true by rw [← esx]; exact soft_in a n3 OA.out h3.1 h3.2)
  obtain ⟨sy, esy⟩ : ∃ s, softI b n4 = s := ⟨_, rfl⟩
  have IY := Lib.hid (show inE b sy = true by rw [← esy]; exact soft_in b n4 OB.out h4.1 h4.2)
  obtain ⟨x, ex⟩ : ∃ x, us sx = x := ⟨_, rfl⟩
  have XX := Lib.hid (show us (softI a n3) = x by rw [esx]; exact ex)
  obtain ⟨y, ey⟩ : ∃ x, us sy = x := ⟨_, rfl⟩
  have YY := Lib.hid (show us (softI b n4) = y by rw [esy]; exact ey)
  have EX := Lib.hid ex
  have EY := Lib.hid ey
  have BX := Lib.hid (show 0 ≤ x ∧ x ≤ 18446744073709551615 by rw [← ex]; exact in_us OA.out IX.out)
  have BY := Lib.hid (show 0 ≤ y ∧ y ≤ 18446744073709551615 by rw [← ey]; exact in_us OB.out IY.out)
  have R1 := Lib.hid (show inE a (sg x) = true by rw [← ex, in_sg OA.out IX.out]; exact IX.out)
  have R2 := Lib.hid (show inE (sAdd a b) (sg (IntKind.u64.wrap (x + y))) = true by rw [IntKind.wrap_u64, ← ex, ← ey]; exact sadd_sound OA.out OB.out IX.out IY.out)
  have R3 := Lib.hid (show inE (sSub a b) (sg (IntKind.u64.wrap (x - y))) = true by rw [IntKind.wrap_u64, ← ex, ← ey]; exact ssub_sound OA.out OB.out IX.out IY.out)
  have R4 := Lib.hid (show inE (rsh a k) (sg (IntKind.u64.wrap (wrap64 x / 2 ^ min (IntKind.u64.wrap (bits BinOp.and IntKind.i64 n2 63)).toNat 64))) = true by rw [and63, hk0, kk k (by omega), ← ex, wr_sg OA.out IX.out, wr_us OA.out IX.out k]; exact rsh_sound' IX.out k)
  have R5 := Lib.hid (show inE (toU a) x = true by rw [← ex]; exact toU_sound OA.out IX.out)
  clear hk0
  have bx := BX.out
  have by_ := BY.out
  clear esx esy ex ey h3 h4
  go_enter Try.func7, Try.ntmps7
  go_wp2_with fail
  have K0 := ((Bk.new w 35 #[.int .i64 x0.lo, .int .i64 x0.hi]).alloc (.cells #[.int .i64 x1.lo, .int .i64 x1.hi] 35))
  have K1 := (Bk.new (w.alloc (.cells #[.int .i64 x0.lo, .int .i64 x0.hi] 35)) 35 #[.int .i64 x1.lo, .int .i64 x1.hi])
  rw [World.size_alloc] at K1
  have B0 : Below w.heap.size w ((w.alloc (.cells #[.int .i64 x0.lo, .int .i64 x0.hi] 35)).alloc (.cells #[.int .i64 x1.lo, .int .i64 x1.hi] 35)) := by go_grown
  generalize ((w.alloc (.cells #[.int .i64 x0.lo, .int .i64 x0.hi] 35)).alloc (.cells #[.int .i64 x1.lo, .int .i64 x1.hi] 35)) = w0 at *
  have H0 := Lib.hid K0
  have H1 := Lib.hid K1
  have HB := Lib.hid B0
  clear K0 K1 B0
  have P := H0
  clear H0
  obtain ⟨cP0, cP1⟩ := tcells P.out
  have Q := H1
  clear H1
  obtain ⟨cQ0, cQ1⟩ := tcells Q.out
  with_reducible refine (ss_to x0 x1 a b EA.out EB.out _).mono ?_
  rintro e w1 ⟨rfl, qb⟩
  replace P := Lib.hid (P.out.below qb P.out.lt)
  replace Q := Lib.hid (Q.out.below qb Q.out.lt)
  replace HB := Lib.hid (below_then HB.out qb (Nat.le_refl _))
  clear qb cP0 cP1 cQ0 cQ1
  obtain ⟨cP0, cP1⟩ := tcells P.out
  obtain ⟨cQ0, cQ1⟩ := tcells Q.out
  obtain ⟨dP0, dP1⟩ := tcells ((P.out.alloc (.cells #[.int .i64 a.lo, .int .i64 a.hi] 35)).alloc (.cells #[.int .i64 b.lo, .int .i64 b.hi] 35))
  obtain ⟨dQ0, dQ1⟩ := tcells ((Q.out.alloc (.cells #[.int .i64 a.lo, .int .i64 a.hi] 35)).alloc (.cells #[.int .i64 b.lo, .int .i64 b.hi] 35))
  go_wp2_with fail
  clear dP0 dP1 dQ0 dQ1
  replace P := Lib.hid ((P.out.alloc (.cells #[.int .i64 a.lo, .int .i64 a.hi] 35)).alloc (.cells #[.int .i64 b.lo, .int .i64 b.hi] 35))
  replace Q := Lib.hid ((Q.out.alloc (.cells #[.int .i64 a.lo, .int .i64 a.hi] 35)).alloc (.cells #[.int .i64 b.lo, .int .i64 b.hi] 35))
  have A0 := ((Bk.new w1 35 #[.int .i64 a.lo, .int .i64 a.hi]).alloc (.cells #[.int .i64 b.lo, .int .i64 b.hi] 35))
  have A := Lib.hid A0
  clear A0
  have B0 := (Bk.new (w1.alloc (.cells #[.int .i64 a.lo, .int .i64 a.hi] 35)) 35 #[.int .i64 b.lo, .int .i64 b.hi])
  rw [World.size_alloc] at B0
  have B := Lib.hid B0
  clear B0
  replace HB := Lib.hid (below_al (below_al HB.out (.cells #[.int .i64 a.lo, .int .i64 a.hi] 35)) (.cells #[.int .i64 b.lo, .int .i64 b.hi] 35))
  clear cP0 cP1 cQ0 cQ1
  generalize ((w1.alloc (.cells #[.int .i64 a.lo, .int .i64 a.hi] 35)).alloc (.cells #[.int .i64 b.lo, .int .i64 b.hi] 35)) = v1 at *
  obtain ⟨cP0, cP1⟩ := tcells P.out
  obtain ⟨cQ0, cQ1⟩ := tcells Q.out
  obtain ⟨cA0, cA1⟩ := tcells A.out
  obtain ⟨cB0, cB1⟩ := tcells B.out
  with_reducible refine (soft_to a n3 x OA.out H3.out XX.out _).mono ?_
  rintro e w2 ⟨rfl, qb⟩
  replace P := Lib.hid (P.out.below qb P.out.lt)
  replace Q := Lib.hid (Q.out.below qb Q.out.lt)
  replace A := Lib.hid (A.out.below qb A.out.lt)
  replace B := Lib.hid (B.out.below qb B.out.lt)
  replace HB := Lib.hid (below_then HB.out qb (Nat.le_refl _))
  clear qb cP0 cP1 cQ0 cQ1 cA0 cA1 cB0 cB1
  obtain ⟨cP0, cP1⟩ := tcells P.out
  obtain ⟨cQ0, cQ1⟩ := tcells Q.out
  obtain ⟨cA0, cA1⟩ := tcells A.out
  obtain ⟨cB0, cB1⟩ := tcells B.out
  go_wp2_with fail
  with_reducible refine (soft_to b n4 y OB.out H4.out YY.out _).mono ?_
  rintro e w3 ⟨rfl, qb⟩
  replace P := Lib.hid (P.out.below qb P.out.lt)
  replace Q := Lib.hid (Q.out.below qb Q.out.lt)
  replace A := Lib.hid (A.out.below qb A.out.lt)
  replace B := Lib.hid (B.out.below qb B.out.lt)
  replace HB := Lib.hid (below_then HB.out qb (Nat.le_refl _))
  clear qb cP0 cP1 cQ0 cQ1 cA0 cA1 cB0 cB1
  obtain ⟨cP0, cP1⟩ := tcells P.out
  obtain ⟨cQ0, cQ1⟩ := tcells Q.out
  obtain ⟨cA0, cA1⟩ := tcells A.out
  obtain ⟨cB0, cB1⟩ := tcells B.out
  go_wp2_with fail
  with_reducible refine (sin_to a x true BX.out R1.out _).mono ?_
  rintro e w4 ⟨rfl, qb⟩
  replace P := Lib.hid (P.out.below qb P.out.lt)
  replace Q := Lib.hid (Q.out.below qb Q.out.lt)
  replace A := Lib.hid (A.out.below qb A.out.lt)
  replace B := Lib.hid (B.out.below qb B.out.lt)
  replace HB := Lib.hid (below_then HB.out qb (Nat.le_refl _))
  clear qb cP0 cP1 cQ0 cQ1 cA0 cA1 cB0 cB1
  obtain ⟨cP0, cP1⟩ := tcells P.out
  obtain ⟨cQ0, cQ1⟩ := tcells Q.out
  obtain ⟨cA0, cA1⟩ := tcells A.out
  obtain ⟨cB0, cB1⟩ := tcells B.out
  go_wp2_with fail
  with_reducible refine (sadd_any a b OA.out OB.out _).mono ?_
  rintro e w5 ⟨rfl, qb⟩
  replace P := Lib.hid (P.out.below qb P.out.lt)
  replace Q := Lib.hid (Q.out.below qb Q.out.lt)
  replace A := Lib.hid (A.out.below qb A.out.lt)
  replace B := Lib.hid (B.out.below qb B.out.lt)
  replace HB := Lib.hid (below_then HB.out qb (Nat.le_refl _))
  clear qb cP0 cP1 cQ0 cQ1 cA0 cA1 cB0 cB1
  obtain ⟨cP0, cP1⟩ := tcells P.out
  obtain ⟨cQ0, cQ1⟩ := tcells Q.out
  obtain ⟨cA0, cA1⟩ := tcells A.out
  obtain ⟨cB0, cB1⟩ := tcells B.out
  go_wp2_with fail
  with_reducible refine (sin_to (sAdd a b) (IntKind.u64.wrap (x + y)) true (wr_bd _) R2.out _).mono ?_
  rintro e w6 ⟨rfl, qb⟩
  replace P := Lib.hid (P.out.below qb P.out.lt)
  replace Q := Lib.hid (Q.out.below qb Q.out.lt)
  replace A := Lib.hid (A.out.below qb A.out.lt)
  replace B := Lib.hid (B.out.below qb B.out.lt)
  replace HB := Lib.hid (below_then HB.out qb (Nat.le_refl _))
  clear qb cP0 cP1 cQ0 cQ1 cA0 cA1 cB0 cB1
  obtain ⟨cP0, cP1⟩ := tcells P.out
  obtain ⟨cQ0, cQ1⟩ := tcells Q.out
  obtain ⟨cA0, cA1⟩ := tcells A.out
  obtain ⟨cB0, cB1⟩ := tcells B.out
  go_wp2_with fail
  with_reducible refine (ssub_any a b OA.out OB.out _).mono ?_
  rintro e w7 ⟨rfl, qb⟩
  replace P := Lib.hid (P.out.below qb P.out.lt)
  replace Q := Lib.hid (Q.out.below qb Q.out.lt)
  replace A := Lib.hid (A.out.below qb A.out.lt)
  replace B := Lib.hid (B.out.below qb B.out.lt)
  replace HB := Lib.hid (below_then HB.out qb (Nat.le_refl _))
  clear qb cP0 cP1 cQ0 cQ1 cA0 cA1 cB0 cB1
  obtain ⟨cP0, cP1⟩ := tcells P.out
  obtain ⟨cQ0, cQ1⟩ := tcells Q.out
  obtain ⟨cA0, cA1⟩ := tcells A.out
  obtain ⟨cB0, cB1⟩ := tcells B.out
  go_wp2_with fail
  with_reducible refine (sin_to (sSub a b) (IntKind.u64.wrap (x - y)) true (wr_bd _) R3.out _).mono ?_
  rintro e w8 ⟨rfl, qb⟩
  replace P := Lib.hid (P.out.below qb P.out.lt)
  replace Q := Lib.hid (Q.out.below qb Q.out.lt)
  replace A := Lib.hid (A.out.below qb A.out.lt)
  replace B := Lib.hid (B.out.below qb B.out.lt)
  replace HB := Lib.hid (below_then HB.out qb (Nat.le_refl _))
  clear qb cP0 cP1 cQ0 cQ1 cA0 cA1 cB0 cB1
  obtain ⟨cP0, cP1⟩ := tcells P.out
  obtain ⟨cQ0, cQ1⟩ := tcells Q.out
  obtain ⟨cA0, cA1⟩ := tcells A.out
  obtain ⟨cB0, cB1⟩ := tcells B.out
  go_wp2_with fail
  with_reducible refine (srsh_any a n2 k HK.out OA.out _).mono ?_
  rintro e w9 ⟨rfl, qb⟩
  replace P := Lib.hid (P.out.below qb P.out.lt)
  replace Q := Lib.hid (Q.out.below qb Q.out.lt)
  replace A := Lib.hid (A.out.below qb A.out.lt)
  replace B := Lib.hid (B.out.below qb B.out.lt)
  replace HB := Lib.hid (below_then HB.out qb (Nat.le_refl _))
  clear qb cP0 cP1 cQ0 cQ1 cA0 cA1 cB0 cB1
  obtain ⟨cP0, cP1⟩ := tcells P.out
  obtain ⟨cQ0, cQ1⟩ := tcells Q.out
  obtain ⟨cA0, cA1⟩ := tcells A.out
  obtain ⟨cB0, cB1⟩ := tcells B.out
  go_wp2_with fail
  with_reducible refine (sin_to (rsh a k) (IntKind.u64.wrap (wrap64 x / 2 ^ min (IntKind.u64.wrap (bits BinOp.and IntKind.i64 n2 63)).toNat 64)) true (wr_bd _) R4.out _).mono ?_
  rintro e w10 ⟨rfl, qb⟩
  replace P := Lib.hid (P.out.below qb P.out.lt)
  replace Q := Lib.hid (Q.out.below qb Q.out.lt)
  replace A := Lib.hid (A.out.below qb A.out.lt)
  replace B := Lib.hid (B.out.below qb B.out.lt)
  replace HB := Lib.hid (below_then HB.out qb (Nat.le_refl _))
  clear qb cP0 cP1 cQ0 cQ1 cA0 cA1 cB0 cB1
  obtain ⟨cP0, cP1⟩ := tcells P.out
  obtain ⟨cQ0, cQ1⟩ := tcells Q.out
  obtain ⟨cA0, cA1⟩ := tcells A.out
  obtain ⟨cB0, cB1⟩ := tcells B.out
  go_wp2_with fail
  with_reducible refine (tou_any a OA.out _).mono ?_
  rintro e w11 ⟨rfl, qb⟩
  replace P := Lib.hid (P.out.below qb P.out.lt)
  replace Q := Lib.hid (Q.out.below qb Q.out.lt)
  replace A := Lib.hid (A.out.below qb A.out.lt)
  replace B := Lib.hid (B.out.below qb B.out.lt)
  replace HB := Lib.hid (below_then HB.out qb (Nat.le_refl _))
  clear qb cP0 cP1 cQ0 cQ1 cA0 cA1 cB0 cB1
  obtain ⟨cP0, cP1⟩ := tcells P.out
  obtain ⟨cQ0, cQ1⟩ := tcells Q.out
  obtain ⟨cA0, cA1⟩ := tcells A.out
  obtain ⟨cB0, cB1⟩ := tcells B.out
  go_wp2_with fail
  with_reducible refine (uin_to (toU a) x true R5.out _).mono ?_
  rintro e w12 ⟨rfl, qb⟩
  replace P := Lib.hid (P.out.below qb P.out.lt)
  replace Q := Lib.hid (Q.out.below qb Q.out.lt)
  replace A := Lib.hid (A.out.below qb A.out.lt)
  replace B := Lib.hid (B.out.below qb B.out.lt)
  replace HB := Lib.hid (below_then HB.out qb (Nat.le_refl _))
  clear qb cP0 cP1 cQ0 cQ1 cA0 cA1 cB0 cB1
  obtain ⟨cP0, cP1⟩ := tcells P.out
  obtain ⟨cQ0, cQ1⟩ := tcells Q.out
  obtain ⟨cA0, cA1⟩ := tcells A.out
  obtain ⟨cB0, cB1⟩ := tcells B.out
  go_wp2_with fail
  with_reducible refine (works_any _).mono ?_
  rintro e w13 ⟨rfl, qb⟩
  replace P := Lib.hid (P.out.below qb P.out.lt)
  replace Q := Lib.hid (Q.out.below qb Q.out.lt)
  replace A := Lib.hid (A.out.below qb A.out.lt)
  replace B := Lib.hid (B.out.below qb B.out.lt)
  replace HB := Lib.hid (below_then HB.out qb (Nat.le_refl _))
  clear qb cP0 cP1 cQ0 cQ1 cA0 cA1 cB0 cB1
  obtain ⟨cP0, cP1⟩ := tcells P.out
  obtain ⟨cQ0, cQ1⟩ := tcells Q.out
  obtain ⟨cA0, cA1⟩ := tcells A.out
  obtain ⟨cB0, cB1⟩ := tcells B.out
  go_wp2_with fail
  go_returns
  exact ⟨rfl, HB.out⟩

set_option maxRecDepth 100000 in
theorem lifted (os : Os) (started : os.Started) (H : Type) (enc : TypeId × Value → H) :
    ReturnsInHanded {} Try.checked os 7 .any (Rows.spanSignsSpec.pre6 enc Try.prog Try.f7 Rows.spanSignsRow.domain false) (Rows.spanSignsSpec.post enc Try.prog Try.f7 false true false false) := by
  refine returnsInHanded_of_change (C := Try.checked) own started (by kernel_rfl) Try.func7
    (ChangeSpec.witness6 (enc := enc) (C := Try.checked) false ⟨#[], #[.agg #[.int .i64 0, .int .i64 0], .agg #[.int .i64 0, .int .i64 0], .int .i64 0, .int .u64 0, .int .u64 0], []⟩ 8 (by kernel_rfl) (by kernel_rfl) (by kernel_rfl) (by kernel_rfl)) ?_
  intro W base args ds gs before hval0 hW hcnd _
  have hval : ∀ (j : Nat) t v, Try.f7.params[j]? = some t → args[j]? = some v → Value.okWide Try.prog W .any base t v := hval0
  have hW' := hW
  obtain ⟨p, q, hA0, hV, rfl, hfz, hnd⟩ := hW
  have hA : DataW.TrodAll enc Try.prog W 0 (fun _ => true) true Try.f7.params.toList args.toList ds p := hA0
  rw [Try.params7] at hA hval
  obtain ⟨v0, vs0, d0, ds0, p0, q0, hargs, rfl, rfl, h0, r0⟩ := trodAll_cons hA
  obtain ⟨v1, vs1, d1, ds1, p1, q1, rfl, rfl, rfl, h1, r1⟩ := trodAll_cons r0
  obtain ⟨v2, vs2, d2, ds2, p2, q2, rfl, rfl, rfl, h2, r2⟩ := trodAll_cons r1
  obtain ⟨v3, vs3, d3, ds3, p3, q3, rfl, rfl, rfl, h3, r3⟩ := trodAll_cons r2
  obtain ⟨v4, vs4, d4, ds4, p4, q4, rfl, rfl, rfl, h4, r4⟩ := trodAll_cons r3
  obtain ⟨rfl, rfl, rfl⟩ := trodAll_nil r4
  obtain rfl : args = #[v0, v1, v2, v3, v4] := by cases args; simp_all
  obtain ⟨rfl, rfl⟩ := trodVars_none hV
  have k0 := h0
  have lt0 : ∀ x ∈ p0, x.block < W.heap.size := by obtain ⟨m, hm⟩ := k0; exact DataW.trod_lt m _ _ _ hm
  obtain ⟨x0, f0, rfl⟩ := open_s (hval 0 35 v0 rfl rfl) h0
  have k1 := h1
  have lt1 : ∀ x ∈ p1, x.block < W.heap.size := by obtain ⟨m, hm⟩ := k1; exact DataW.trod_lt m _ _ _ hm
  obtain ⟨x1, f1, rfl⟩ := open_s (hval 1 35 v1 rfl rfl) h1
  obtain ⟨n2, rfl, rfl, rfl, w2⟩ := open_int Try.underlying3 (hval 2 3 v2 rfl rfl) h2
  obtain ⟨n3, rfl, rfl, rfl, w3⟩ := open_int Try.underlying22 (hval 3 22 v3 rfl rfl) h3
  obtain ⟨n4, rfl, rfl, rfl, w4⟩ := open_int Try.underlying22 (hval 4 22 v4 rfl rfl) h4
  clear hA0 hval0
  refine (walk x0 x1 n2 n3 n4 W f0 f1 w2 w3 w4).mono fun e W' ⟨he, bel⟩ => ?_
  subst he
  exact ⟨_, rfl, _, _, _, [], _, [], hW', trodAll_mk1 (shut_bool Try.underlying4 _), (trodAll_cons_mk (Below.trod laidOut (by kernel_rfl) (of_decide_eq_true (by kernel_rfl)) k0 bel lt0) (trodAll_cons_mk (Below.trod laidOut (by kernel_rfl) (of_decide_eq_true (by kernel_rfl)) k1 bel lt1) (trodAll_cons_mk (shut_int Try.underlying3 w2) (trodAll_cons_mk (shut_int Try.underlying22 w3) (trodAll_cons_mk (shut_int Try.underlying22 w4) trodAll_mk0))))), rfl, bel.frame _, fun h => by cases h⟩

theorem over : Rows.spanSignsRow.holds Try.pinned (OpenSpec.ofChange Rows.spanSignsSpec) :=
  OpenClaim.holds_of_wide 7 Try.f7 rfl rfl rfl rfl rfl rfl rfl ⟨rfl, rfl, rfl, rfl, rfl⟩ rfl rfl rfl rfl rfl (by kernel_rfl) Try.func7 (by kernel_rfl)
    (of_decide_eq_true (by kernel_rfl)) (by unfold Func.isWrapper; first | (rw [if_pos (by decide +kernel)]; kernel_rfl) | (rw [if_neg (by decide +kernel)]; exact ⟨rfl, rfl⟩))
    (fun os started H enc _ => lifted os started H enc)

theorem proved : Rows.SpanSignsSaid := over
#print axioms proved
end Go.Proofs.Ythjjfginenpfjaa.spanSigns
