/-
  Proved: the statement SpanSound: whatever numbers are between ends, what is made of them is of what is told. No conditions.
-/
import Derived.Test.YthjjfginenpfjaaRows
import Derived.Test.YthjjfginenpfjaaSpanTo
import Derived.WalkKit
import Derived.ProofKit
import Derived.OpenShut
import Derived.ChangeOld
import Derived.Below
import Derived.Handy
namespace Go.Proofs.Ythjjfginenpfjaa.spanSound
open Go.ChangeShapes Go.WideShapes Go.ChangeAt Go.RowKit Tn Ow Sp
set_option linter.unusedVariables false
set_option linter.unusedSimpArgs false

theorem own : ownKnob Try.prog.godebug = none := by kernel_rfl
theorem laidOut : laidOutB Try.prog = true := by kernel_rfl

theorem wr_bd (n : Int) : 0 ≤ IntKind.u64.wrap n ∧ IntKind.u64.wrap n ≤ 18446744073709551615 := by rw [IntKind.wrap_u64]; omega
theorem in_us {a : E} {s : Int} (ha : okS a) (h : inE a s = true) : 0 ≤ us s ∧ us s ≤ 18446744073709551615 := by
  rw [inE_iff] at h; unfold okS at ha; exact us_bd s (by omega) (by omega)
theorem in_sg {a : E} {s : Int} (ha : okS a) (h : inE a s = true) : sg (us s) = s := by
  rw [inE_iff] at h; unfold okS at ha; exact sg_us s (by omega) (by omega)
theorem and63 (n : Int) : bits .and .i64 n 63 = n % 64 := by
  unfold bits
  have e : (BitVec.ofInt IntKind.i64.bits n &&& BitVec.ofInt IntKind.i64.bits 63).toNat = (n % 64).toNat := by
    show ((BitVec.ofInt 64 n) &&& (63#64)).toNat = _
    rw [BitVec.toNat_and, BitVec.toNat_ofInt]
    have e2 := Nat.and_two_pow_sub_one_eq_mod (n % ((2 ^ 64 : Nat) : Int)).toNat 6
    simp only [Nat.reducePow, Nat.reduceSub] at e2 ⊢
    show (n % ((18446744073709551616 : Nat) : Int)).toNat &&& 63 = _
    rw [e2]
    omega
  show IntKind.i64.wrap (((BitVec.ofInt IntKind.i64.bits n &&& BitVec.ofInt IntKind.i64.bits 63).toNat : Nat) : Int) = _
  rw [e]
  rw [IntKind.wrap_i64]
  omega
theorem kk (k : Nat) (h : k ≤ 63) : min (IntKind.u64.wrap (k : Int)).toNat 64 = k := by rw [IntKind.wrap_u64]; omega
theorem wr_sg {a : E} {s : Int} (ha : okS a) (h : inE a s = true) : wrap64 (us s) = s := by
  rw [inE_iff] at h; unfold okS at ha; rw [sg_wrap _ (us_bd s (by omega) (by omega)).1 (us_bd s (by omega) (by omega)).2]; exact sg_us s (by omega) (by omega)
theorem wr_us {a : E} {s : Int} (ha : okS a) (h : inE a s = true) (k : Nat) : sg (IntKind.u64.wrap (s / 2 ^ k)) = s / 2 ^ k := by
  rw [inE_iff] at h; unfold okS at ha
  have b := div_pow_bd s k (by omega) (by omega)
  rw [us_wrap _ b.1 b.2]; exact sg_us _ b.1 b.2
theorem in_bd {a : E} {x : Int} (ha : okU a) (h : inE a x = true) : 0 ≤ x ∧ x ≤ 18446744073709551615 := by rw [inE_iff] at h; unfold okU at ha; omega
theorem tot_low {a : E} {x : Int} (ha : okU a) (h : inE a x = true) : (bits BinOp.andNot IntKind.u64 x (bi (toT a).m) == bi (toT a).v) = true := by
  have b := in_bd ha h
  rw [toT_m ha, toT_v ha, bits_low x (dif a) (dif_le ha) b.1 b.2, share ha h]
  simp
theorem tot_may {a : E} (ha : okU a) : bits BinOp.and IntKind.u64 (bi (toT a).v) (bi (toT a).m) = 0 := by
  rw [bits_and _ _ (bi_bd _).1 (bi_bd _).2 (bi_bd _).1 (bi_bd _).2, toT_v ha, toT_m ha]
  unfold andI
  have hp := pow_pos' (dif a)
  have e1 : ((2 : Int) ^ dif a - 1).toNat = 2 ^ dif a - 1 := by rw [← pow_cast]; omega
  rw [e1, Nat.and_two_pow_sub_one_eq_mod]
  unfold okU at ha
  have c := Int.mul_ediv_add_emod a.lo (2 ^ dif a)
  have q := Int.ediv_nonneg ha.1 (Int.le_of_lt hp)
  have e2 : a.lo - a.lo % 2 ^ dif a = 2 ^ dif a * (a.lo / 2 ^ dif a) := by omega
  rw [e2, Int.toNat_mul (Int.le_of_lt hp) q, ← pow_cast, Int.toNat_natCast, Nat.mul_mod_right]
  rfl

set_option maxRecDepth 100000 in
set_option maxHeartbeats 4000000 in
theorem walk (x0 : E) (x1 : E) (n2 : Int) (n3 : Int) (n4 : Int) (w : World) (f0 : inU x0) (f1 : inU x1) (w2 : (Lit.int .i64 n2).wf = true) (w3 : (Lit.int .u64 n3).wf = true) (w4 : (Lit.int .u64 n4).wf = true) :
    Calls Try.prog 6 #[.agg #[.int .u64 x0.lo, .int .u64 x0.hi], .agg #[.int .u64 x1.lo, .int .u64 x1.hi], .int .i64 n2, .int .u64 n3, .int .u64 n4] w fun e w' => e = .returned (.bool true) ∧ Below w.heap.size w w' := by
  have hn := bounds_i64 w2
  have h3 := bounds_u64 w3
  have h4 := bounds_u64 w4
  obtain ⟨k, hk⟩ : ∃ k : Nat, n2 % 64 = (k : Int) := ⟨(n2 % 64).toNat, by omega⟩
  have HK := Lib.hid hk
  have H3 := Lib.hid h3
  have H4 := Lib.hid h4
  clear w2 w3 w4
  obtain ⟨a, ea⟩ : ∃ a : E, sortE x0.lo x0.hi = a := ⟨_, rfl⟩
  have EA := Lib.hid ea
  have OA := Lib.hid (show okU a by rw [← ea]; exact ok_sortU f0)
  clear ea
  obtain ⟨b, eb⟩ : ∃ a : E, sortE x1.lo x1.hi = a := ⟨_, rfl⟩
  have EB := Lib.hid eb
  have OB := Lib.hid (show okU b by rw [← eb]; exact ok_sortU f1)
  clear eb
  obtain ⟨x, ex⟩ : ∃ s, ofI a n3 = s := ⟨_, rfl⟩
  have IX := Lib.hid (show inE a x = true by rw [← ex]; exact of_in a n3 OA.out h3.1 h3.2)
  obtain ⟨y, ey⟩ : ∃ s, ofI b n4 = s := ⟨_, rfl⟩
  have IY := Lib.hid (show inE b y = true by rw [← ey]; exact of_in b n4 OB.out h4.1 h4.2)
  have XX := Lib.hid ex
  have YY := Lib.hid ey
  clear ex ey h3 h4
  have BX := Lib.hid (in_bd OA.out IX.out)
  have BY := Lib.hid (in_bd OB.out IY.out)
  have bx := BX.out
  have by_ := BY.out
  have R1 := Lib.hid (show inE a x = true from IX.out)
  have R2 := Lib.hid (show inE (uAdd a b) (IntKind.u64.wrap (x + y)) = true from by rw [IntKind.wrap_u64]; exact uadd_sound OA.out OB.out IX.out IY.out)
  have R3 := Lib.hid (show inE (uSub a b) (IntKind.u64.wrap (x - y)) = true from by rw [IntKind.wrap_u64]; exact usub_sound OA.out OB.out IX.out IY.out)
  have R4 := Lib.hid (show inE (uMul a b) (IntKind.u64.wrap (x * y)) = true from by rw [IntKind.wrap_u64]; exact umul_sound OA.out OB.out IX.out IY.out)
  have R7 := Lib.hid (show inE (uAnd a b) (bits BinOp.and IntKind.u64 x y) = true from by rw [bits_and x y bx.1 bx.2 by_.1 by_.2]; exact uand_sound OA.out OB.out IX.out IY.out)
  have R8 := Lib.hid (show inE (uOr a b) (bits BinOp.or IntKind.u64 x y) = true from by rw [bits_or x y bx.1 bx.2 by_.1 by_.2]; exact uor_sound OA.out OB.out IX.out IY.out)
  have R9 := Lib.hid (show inE (uLsh a k) (IntKind.u64.wrap (x * 2 ^ k)) = true from by rw [IntKind.wrap_u64]; exact ulsh_sound OA.out IX.out k)
  have RA := Lib.hid (show inE (rsh a k) (x / 2 ^ k) = true from rsh_sound' IX.out k)
  have RB := Lib.hid (show inE (uCut a) (x % 4294967296) = true from ucut_sound OA.out IX.out)
  have RC := Lib.hid (show inE (toS a) (sg x) = true from toS_sound OA.out IX.out)
  have mk : bits BinOp.and IntKind.i64 n2 63 = (k : Int) := (and63 n2).trans hk
  have kb : k ≤ 63 := by omega
  clear hk
  obtain ⟨t, et⟩ : ∃ t, toT a = t := ⟨_, rfl⟩
  have ET := Lib.hid et
  have z1 : (bits BinOp.andNot IntKind.u64 x (bi t.m) == bi t.v) = true := by rw [← et]; exact tot_low OA.out IX.out
  have z2 : (bits BinOp.and IntKind.u64 (bi t.v) (bi t.m) == 0) = true := by rw [← et, tot_may OA.out]; rfl
  clear et
  go_enter Try.func6, Try.ntmps6
  go_wp2_with fail
  have K0 := ((Bk.new w 24 #[.int .u64 x0.lo, .int .u64 x0.hi]).alloc (.cells #[.int .u64 x1.lo, .int .u64 x1.hi] 24))
  have K1 := (Bk.new (w.alloc (.cells #[.int .u64 x0.lo, .int .u64 x0.hi] 24)) 24 #[.int .u64 x1.lo, .int .u64 x1.hi])
  rw [World.size_alloc] at K1
  have B0 : Below w.heap.size w ((w.alloc (.cells #[.int .u64 x0.lo, .int .u64 x0.hi] 24)).alloc (.cells #[.int .u64 x1.lo, .int .u64 x1.hi] 24)) := by go_grown
  generalize ((w.alloc (.cells #[.int .u64 x0.lo, .int .u64 x0.hi] 24)).alloc (.cells #[.int .u64 x1.lo, .int .u64 x1.hi] 24)) = w0 at *
  have H0 := Lib.hid K0
  have H1 := Lib.hid K1
  have HB := Lib.hid B0
  clear K0 K1 B0
  have P := H0
  clear H0
  obtain ⟨cP0, cP1⟩ := tcells P.out
  have Q := H1
  clear H1
  obtain ⟨cQ0, cQ1⟩ := tcells Q.out
  with_reducible refine (us_to x0 x1 a b EA.out EB.out _).mono ?_
  rintro e w1 ⟨rfl, qb⟩
  replace P := Lib.hid (P.out.below qb P.out.lt)
  replace Q := Lib.hid (Q.out.below qb Q.out.lt)
  replace HB := Lib.hid (below_then HB.out qb (Nat.le_refl _))
  clear qb cP0 cP1 cQ0 cQ1
  obtain ⟨cP0, cP1⟩ := tcells P.out
  obtain ⟨cQ0, cQ1⟩ := tcells Q.out
  obtain ⟨dP0, dP1⟩ := tcells ((P.out.alloc (.cells #[.int .u64 a.lo, .int .u64 a.hi] 24)).alloc (.cells #[.int .u64 b.lo, .int .u64 b.hi] 24))
  obtain ⟨dQ0, dQ1⟩ := tcells ((Q.out.alloc (.cells #[.int .u64 a.lo, .int .u64 a.hi] 24)).alloc (.cells #[.int .u64 b.lo, .int .u64 b.hi] 24))
  go_wp2_with fail
  clear dP0 dP1 dQ0 dQ1
  replace P := Lib.hid ((P.out.alloc (.cells #[.int .u64 a.lo, .int .u64 a.hi] 24)).alloc (.cells #[.int .u64 b.lo, .int .u64 b.hi] 24))
  replace Q := Lib.hid ((Q.out.alloc (.cells #[.int .u64 a.lo, .int .u64 a.hi] 24)).alloc (.cells #[.int .u64 b.lo, .int .u64 b.hi] 24))
  have A0 := ((Bk.new w1 24 #[.int .u64 a.lo, .int .u64 a.hi]).alloc (.cells #[.int .u64 b.lo, .int .u64 b.hi] 24))
  have A := Lib.hid A0
  clear A0
  have B0 := (Bk.new (w1.alloc (.cells #[.int .u64 a.lo, .int .u64 a.hi] 24)) 24 #[.int .u64 b.lo, .int .u64 b.hi])
  rw [World.size_alloc] at B0
  have B := Lib.hid B0
  clear B0
  replace HB := Lib.hid (below_al (below_al HB.out (.cells #[.int .u64 a.lo, .int .u64 a.hi] 24)) (.cells #[.int .u64 b.lo, .int .u64 b.hi] 24))
  clear cP0 cP1 cQ0 cQ1
  generalize ((w1.alloc (.cells #[.int .u64 a.lo, .int .u64 a.hi] 24)).alloc (.cells #[.int .u64 b.lo, .int .u64 b.hi] 24)) = v1 at *
  obtain ⟨cP0, cP1⟩ := tcells P.out
  obtain ⟨cQ0, cQ1⟩ := tcells Q.out
  obtain ⟨cA0, cA1⟩ := tcells A.out
  obtain ⟨cB0, cB1⟩ := tcells B.out
  with_reducible refine (of_to a n3 x OA.out H3.out XX.out _).mono ?_
  rintro e w2 ⟨rfl, qb⟩
  replace P := Lib.hid (P.out.below qb P.out.lt)
  replace Q := Lib.hid (Q.out.below qb Q.out.lt)
  replace A := Lib.hid (A.out.below qb A.out.lt)
  replace B := Lib.hid (B.out.below qb B.out.lt)
  replace HB := Lib.hid (below_then HB.out qb (Nat.le_refl _))
  clear qb cP0 cP1 cQ0 cQ1 cA0 cA1 cB0 cB1
  obtain ⟨cP0, cP1⟩ := tcells P.out
  obtain ⟨cQ0, cQ1⟩ := tcells Q.out
  obtain ⟨cA0, cA1⟩ := tcells A.out
  obtain ⟨cB0, cB1⟩ := tcells B.out
  go_wp2_with fail
  by_cases hy : y = 0
  · have y1 : (y != 0) = false := by simp [hy]
    have RQ := Lib.hid (show inE (uDiv a b) 0 = true by have h := udiv_sound OA.out OB.out IX.out IY.out; rw [if_pos hy] at h; exact h)
    have RL := Lib.hid (show inE (uMod a b) x = true by have h := umod_sound OA.out OB.out IX.out IY.out; rw [if_pos hy] at h; exact h)
    clear hy
    with_reducible refine (of_to b n4 y OB.out H4.out YY.out _).mono ?_
    rintro e w3 ⟨rfl, qb⟩
    replace P := Lib.hid (P.out.below qb P.out.lt)
    replace Q := Lib.hid (Q.out.below qb Q.out.lt)
    replace A := Lib.hid (A.out.below qb A.out.lt)
    replace B := Lib.hid (B.out.below qb B.out.lt)
    replace HB := Lib.hid (below_then HB.out qb (Nat.le_refl _))
    clear qb cP0 cP1 cQ0 cQ1 cA0 cA1 cB0 cB1
    obtain ⟨cP0, cP1⟩ := tcells P.out
    obtain ⟨cQ0, cQ1⟩ := tcells Q.out
    obtain ⟨cA0, cA1⟩ := tcells A.out
    obtain ⟨cB0, cB1⟩ := tcells B.out
    go_wp2_with fail
    with_reducible refine (uin_to a x true R1.out _).mono ?_
    rintro e w4 ⟨rfl, qb⟩
    replace P := Lib.hid (P.out.below qb P.out.lt)
    replace Q := Lib.hid (Q.out.below qb Q.out.lt)
    replace A := Lib.hid (A.out.below qb A.out.lt)
    replace B := Lib.hid (B.out.below qb B.out.lt)
    replace HB := Lib.hid (below_then HB.out qb (Nat.le_refl _))
    clear qb cP0 cP1 cQ0 cQ1 cA0 cA1 cB0 cB1
    obtain ⟨cP0, cP1⟩ := tcells P.out
    obtain ⟨cQ0, cQ1⟩ := tcells Q.out
    obtain ⟨cA0, cA1⟩ := tcells A.out
    obtain ⟨cB0, cB1⟩ := tcells B.out
    go_wp2_with fail
    with_reducible refine (uadd_any a b OA.out OB.out _).mono ?_
    rintro e w5 ⟨rfl, qb⟩
    replace P := Lib.hid (P.out.below qb P.out.lt)
    replace Q := Lib.hid (Q.out.below qb Q.out.lt)
    replace A := Lib.hid (A.out.below qb A.out.lt)
    replace B := Lib.hid (B.out.below qb B.out.lt)
    replace HB := Lib.hid (below_then HB.out qb (Nat.le_refl _))
    clear qb cP0 cP1 cQ0 cQ1 cA0 cA1 cB0 cB1
    obtain ⟨cP0, cP1⟩ := tcells P.out
    obtain ⟨cQ0, cQ1⟩ := tcells Q.out
    obtain ⟨cA0, cA1⟩ := tcells A.out
    obtain ⟨cB0, cB1⟩ := tcells B.out
    go_wp2_with fail
    with_reducible refine (uin_to (uAdd a b) (IntKind.u64.wrap (x + y)) true R2.out _).mono ?_
    rintro e w6 ⟨rfl, qb⟩
    replace P := Lib.hid (P.out.below qb P.out.lt)
    replace Q := Lib.hid (Q.out.below qb Q.out.lt)
    replace A := Lib.hid (A.out.below qb A.out.lt)
    replace B := Lib.hid (B.out.below qb B.out.lt)
    replace HB := Lib.hid (below_then HB.out qb (Nat.le_refl _))
    clear qb cP0 cP1 cQ0 cQ1 cA0 cA1 cB0 cB1
    obtain ⟨cP0, cP1⟩ := tcells P.out
    obtain ⟨cQ0, cQ1⟩ := tcells Q.out
    obtain ⟨cA0, cA1⟩ := tcells A.out
    obtain ⟨cB0, cB1⟩ := tcells B.out
    go_wp2_with fail
    with_reducible refine (usub_any a b OA.out OB.out _).mono ?_
    rintro e w7 ⟨rfl, qb⟩
    replace P := Lib.hid (P.out.below qb P.out.lt)
    replace Q := Lib.hid (Q.out.below qb Q.out.lt)
    replace A := Lib.hid (A.out.below qb A.out.lt)
    replace B := Lib.hid (B.out.below qb B.out.lt)
    replace HB := Lib.hid (below_then HB.out qb (Nat.le_refl _))
    clear qb cP0 cP1 cQ0 cQ1 cA0 cA1 cB0 cB1
    obtain ⟨cP0, cP1⟩ := tcells P.out
    obtain ⟨cQ0, cQ1⟩ := tcells Q.out
    obtain ⟨cA0, cA1⟩ := tcells A.out
    obtain ⟨cB0, cB1⟩ := tcells B.out
    go_wp2_with fail
    with_reducible refine (uin_to (uSub a b) (IntKind.u64.wrap (x - y)) true R3.out _).mono ?_
    rintro e w8 ⟨rfl, qb⟩
    replace P := Lib.hid (P.out.below qb P.out.lt)
    replace Q := Lib.hid (Q.out.below qb Q.out.lt)
    replace A := Lib.hid (A.out.below qb A.out.lt)
    replace B := Lib.hid (B.out.below qb B.out.lt)
    replace HB := Lib.hid (below_then HB.out qb (Nat.le_refl _))
    clear qb cP0 cP1 cQ0 cQ1 cA0 cA1 cB0 cB1
    obtain ⟨cP0, cP1⟩ := tcells P.out
    obtain ⟨cQ0, cQ1⟩ := tcells Q.out
    obtain ⟨cA0, cA1⟩ := tcells A.out
    obtain ⟨cB0, cB1⟩ := tcells B.out
    go_wp2_with fail
    with_reducible refine (umul_any a b OA.out OB.out _).mono ?_
    rintro e w9 ⟨rfl, qb⟩
    replace P := Lib.hid (P.out.below qb P.out.lt)
    replace Q := Lib.hid (Q.out.below qb Q.out.lt)
    replace A := Lib.hid (A.out.below qb A.out.lt)
    replace B := Lib.hid (B.out.below qb B.out.lt)
    replace HB := Lib.hid (below_then HB.out qb (Nat.le_refl _))
    clear qb cP0 cP1 cQ0 cQ1 cA0 cA1 cB0 cB1
    obtain ⟨cP0, cP1⟩ := tcells P.out
    obtain ⟨cQ0, cQ1⟩ := tcells Q.out
    obtain ⟨cA0, cA1⟩ := tcells A.out
    obtain ⟨cB0, cB1⟩ := tcells B.out
    go_wp2_with fail
    with_reducible refine (uin_to (uMul a b) (IntKind.u64.wrap (x * y)) true R4.out _).mono ?_
    rintro e w10 ⟨rfl, qb⟩
    replace P := Lib.hid (P.out.below qb P.out.lt)
    replace Q := Lib.hid (Q.out.below qb Q.out.lt)
    replace A := Lib.hid (A.out.below qb A.out.lt)
    replace B := Lib.hid (B.out.below qb B.out.lt)
    replace HB := Lib.hid (below_then HB.out qb (Nat.le_refl _))
    clear qb cP0 cP1 cQ0 cQ1 cA0 cA1 cB0 cB1
    obtain ⟨cP0, cP1⟩ := tcells P.out
    obtain ⟨cQ0, cQ1⟩ := tcells Q.out
    obtain ⟨cA0, cA1⟩ := tcells A.out
    obtain ⟨cB0, cB1⟩ := tcells B.out
    go_wp2_with fail
    with_reducible refine (udiv_any a b OA.out OB.out _).mono ?_
    rintro e w11 ⟨rfl, qb⟩
    replace P := Lib.hid (P.out.below qb P.out.lt)
    replace Q := Lib.hid (Q.out.below qb Q.out.lt)
    replace A := Lib.hid (A.out.below qb A.out.lt)
    replace B := Lib.hid (B.out.below qb B.out.lt)
    replace HB := Lib.hid (below_then HB.out qb (Nat.le_refl _))
    clear qb cP0 cP1 cQ0 cQ1 cA0 cA1 cB0 cB1
    obtain ⟨cP0, cP1⟩ := tcells P.out
    obtain ⟨cQ0, cQ1⟩ := tcells Q.out
    obtain ⟨cA0, cA1⟩ := tcells A.out
    obtain ⟨cB0, cB1⟩ := tcells B.out
    go_wp2_with fail
    with_reducible refine (uin_to (uDiv a b) 0 true RQ.out _).mono ?_
    rintro e w12 ⟨rfl, qb⟩
    replace P := Lib.hid (P.out.below qb P.out.lt)
    replace Q := Lib.hid (Q.out.below qb Q.out.lt)
    replace A := Lib.hid (A.out.below qb A.out.lt)
    replace B := Lib.hid (B.out.below qb B.out.lt)
    replace HB := Lib.hid (below_then HB.out qb (Nat.le_refl _))
    clear qb cP0 cP1 cQ0 cQ1 cA0 cA1 cB0 cB1
    obtain ⟨cP0, cP1⟩ := tcells P.out
    obtain ⟨cQ0, cQ1⟩ := tcells Q.out
    obtain ⟨cA0, cA1⟩ := tcells A.out
    obtain ⟨cB0, cB1⟩ := tcells B.out
    go_wp2_with fail
    with_reducible refine (umod_any a b OA.out OB.out _).mono ?_
    rintro e w13 ⟨rfl, qb⟩
    replace P := Lib.hid (P.out.below qb P.out.lt)
    replace Q := Lib.hid (Q.out.below qb Q.out.lt)
    replace A := Lib.hid (A.out.below qb A.out.lt)
    replace B := Lib.hid (B.out.below qb B.out.lt)
    replace HB := Lib.hid (below_then HB.out qb (Nat.le_refl _))
    clear qb cP0 cP1 cQ0 cQ1 cA0 cA1 cB0 cB1
    obtain ⟨cP0, cP1⟩ := tcells P.out
    obtain ⟨cQ0, cQ1⟩ := tcells Q.out
    obtain ⟨cA0, cA1⟩ := tcells A.out
    obtain ⟨cB0, cB1⟩ := tcells B.out
    go_wp2_with fail
    with_reducible refine (uin_to (uMod a b) x true RL.out _).mono ?_
    rintro e w14 ⟨rfl, qb⟩
    replace P := Lib.hid (P.out.below qb P.out.lt)
    replace Q := Lib.hid (Q.out.below qb Q.out.lt)
    replace A := Lib.hid (A.out.below qb A.out.lt)
    replace B := Lib.hid (B.out.below qb B.out.lt)
    replace HB := Lib.hid (below_then HB.out qb (Nat.le_refl _))
    clear qb cP0 cP1 cQ0 cQ1 cA0 cA1 cB0 cB1
    obtain ⟨cP0, cP1⟩ := tcells P.out
    obtain ⟨cQ0, cQ1⟩ := tcells Q.out
    obtain ⟨cA0, cA1⟩ := tcells A.out
    obtain ⟨cB0, cB1⟩ := tcells B.out
    go_wp2_with fail
    with_reducible refine (uand_any a b OA.out OB.out _).mono ?_
    rintro e w15 ⟨rfl, qb⟩
    replace P := Lib.hid (P.out.below qb P.out.lt)
    replace Q := Lib.hid (Q.out.below qb Q.out.lt)
    replace A := Lib.hid (A.out.below qb A.out.lt)
    replace B := Lib.hid (B.out.below qb B.out.lt)
    replace HB := Lib.hid (below_then HB.out qb (Nat.le_refl _))
    clear qb cP0 cP1 cQ0 cQ1 cA0 cA1 cB0 cB1
    obtain ⟨cP0, cP1⟩ := tcells P.out
    obtain ⟨cQ0, cQ1⟩ := tcells Q.out
    obtain ⟨cA0, cA1⟩ := tcells A.out
    obtain ⟨cB0, cB1⟩ := tcells B.out
    go_wp2_with fail
    with_reducible refine (uin_to (uAnd a b) (bits BinOp.and IntKind.u64 x y) true R7.out _).mono ?_
    rintro e w16 ⟨rfl, qb⟩
    replace P := Lib.hid (P.out.below qb P.out.lt)
    replace Q := Lib.hid (Q.out.below qb Q.out.lt)
    replace A := Lib.hid (A.out.below qb A.out.lt)
    replace B := Lib.hid (B.out.below qb B.out.lt)
    replace HB := Lib.hid (below_then HB.out qb (Nat.le_refl _))
    clear qb cP0 cP1 cQ0 cQ1 cA0 cA1 cB0 cB1
    obtain ⟨cP0, cP1⟩ := tcells P.out
    obtain ⟨cQ0, cQ1⟩ := tcells Q.out
    obtain ⟨cA0, cA1⟩ := tcells A.out
    obtain ⟨cB0, cB1⟩ := tcells B.out
    go_wp2_with fail
    with_reducible refine (uor_any a b OA.out OB.out _).mono ?_
    rintro e w17 ⟨rfl, qb⟩
    replace P := Lib.hid (P.out.below qb P.out.lt)
    replace Q := Lib.hid (Q.out.below qb Q.out.lt)
    replace A := Lib.hid (A.out.below qb A.out.lt)
    replace B := Lib.hid (B.out.below qb B.out.lt)
    replace HB := Lib.hid (below_then HB.out qb (Nat.le_refl _))
    clear qb cP0 cP1 cQ0 cQ1 cA0 cA1 cB0 cB1
    obtain ⟨cP0, cP1⟩ := tcells P.out
    obtain ⟨cQ0, cQ1⟩ := tcells Q.out
    obtain ⟨cA0, cA1⟩ := tcells A.out
    obtain ⟨cB0, cB1⟩ := tcells B.out
    go_wp2_with fail
    with_reducible refine (uin_to (uOr a b) (bits BinOp.or IntKind.u64 x y) true R8.out _).mono ?_
    rintro e w18 ⟨rfl, qb⟩
    replace P := Lib.hid (P.out.below qb P.out.lt)
    replace Q := Lib.hid (Q.out.below qb Q.out.lt)
    replace A := Lib.hid (A.out.below qb A.out.lt)
    replace B := Lib.hid (B.out.below qb B.out.lt)
    replace HB := Lib.hid (below_then HB.out qb (Nat.le_refl _))
    clear qb cP0 cP1 cQ0 cQ1 cA0 cA1 cB0 cB1
    obtain ⟨cP0, cP1⟩ := tcells P.out
    obtain ⟨cQ0, cQ1⟩ := tcells Q.out
    obtain ⟨cA0, cA1⟩ := tcells A.out
    obtain ⟨cB0, cB1⟩ := tcells B.out
    go_wp2_with fail
    with_reducible refine (ulsh_any a n2 k HK.out OA.out _).mono ?_
    rintro e w19 ⟨rfl, qb⟩
    replace P := Lib.hid (P.out.below qb P.out.lt)
    replace Q := Lib.hid (Q.out.below qb Q.out.lt)
    replace A := Lib.hid (A.out.below qb A.out.lt)
    replace B := Lib.hid (B.out.below qb B.out.lt)
    replace HB := Lib.hid (below_then HB.out qb (Nat.le_refl _))
    clear qb cP0 cP1 cQ0 cQ1 cA0 cA1 cB0 cB1
    obtain ⟨cP0, cP1⟩ := tcells P.out
    obtain ⟨cQ0, cQ1⟩ := tcells Q.out
    obtain ⟨cA0, cA1⟩ := tcells A.out
    obtain ⟨cB0, cB1⟩ := tcells B.out
    go_wp2_with fail
    with_reducible refine (uin_to (uLsh a k) (IntKind.u64.wrap (x * 2 ^ k)) true R9.out _).mono ?_
    rintro e w20 ⟨rfl, qb⟩
    replace P := Lib.hid (P.out.below qb P.out.lt)
    replace Q := Lib.hid (Q.out.below qb Q.out.lt)
    replace A := Lib.hid (A.out.below qb A.out.lt)
    replace B := Lib.hid (B.out.below qb B.out.lt)
    replace HB := Lib.hid (below_then HB.out qb (Nat.le_refl _))
    clear qb cP0 cP1 cQ0 cQ1 cA0 cA1 cB0 cB1
    obtain ⟨cP0, cP1⟩ := tcells P.out
    obtain ⟨cQ0, cQ1⟩ := tcells Q.out
    obtain ⟨cA0, cA1⟩ := tcells A.out
    obtain ⟨cB0, cB1⟩ := tcells B.out
    go_wp2_with fail
    with_reducible refine (ursh_any a n2 k HK.out OA.out _).mono ?_
    rintro e w21 ⟨rfl, qb⟩
    replace P := Lib.hid (P.out.below qb P.out.lt)
    replace Q := Lib.hid (Q.out.below qb Q.out.lt)
    replace A := Lib.hid (A.out.below qb A.out.lt)
    replace B := Lib.hid (B.out.below qb B.out.lt)
    replace HB := Lib.hid (below_then HB.out qb (Nat.le_refl _))
    clear qb cP0 cP1 cQ0 cQ1 cA0 cA1 cB0 cB1
    obtain ⟨cP0, cP1⟩ := tcells P.out
    obtain ⟨cQ0, cQ1⟩ := tcells Q.out
    obtain ⟨cA0, cA1⟩ := tcells A.out
    obtain ⟨cB0, cB1⟩ := tcells B.out
    go_wp2_with fail
    with_reducible refine (uin_to (rsh a k) (x / 2 ^ k) true RA.out _).mono ?_
    rintro e w22 ⟨rfl, qb⟩
    replace P := Lib.hid (P.out.below qb P.out.lt)
    replace Q := Lib.hid (Q.out.below qb Q.out.lt)
    replace A := Lib.hid (A.out.below qb A.out.lt)
    replace B := Lib.hid (B.out.below qb B.out.lt)
    replace HB := Lib.hid (below_then HB.out qb (Nat.le_refl _))
    clear qb cP0 cP1 cQ0 cQ1 cA0 cA1 cB0 cB1
    obtain ⟨cP0, cP1⟩ := tcells P.out
    obtain ⟨cQ0, cQ1⟩ := tcells Q.out
    obtain ⟨cA0, cA1⟩ := tcells A.out
    obtain ⟨cB0, cB1⟩ := tcells B.out
    go_wp2_with fail
    with_reducible refine (ucut_any a OA.out _).mono ?_
    rintro e w23 ⟨rfl, qb⟩
    replace P := Lib.hid (P.out.below qb P.out.lt)
    replace Q := Lib.hid (Q.out.below qb Q.out.lt)
    replace A := Lib.hid (A.out.below qb A.out.lt)
    replace B := Lib.hid (B.out.below qb B.out.lt)
    replace HB := Lib.hid (below_then HB.out qb (Nat.le_refl _))
    clear qb cP0 cP1 cQ0 cQ1 cA0 cA1 cB0 cB1
    obtain ⟨cP0, cP1⟩ := tcells P.out
    obtain ⟨cQ0, cQ1⟩ := tcells Q.out
    obtain ⟨cA0, cA1⟩ := tcells A.out
    obtain ⟨cB0, cB1⟩ := tcells B.out
    go_wp2_with fail
    with_reducible refine (uin_to (uCut a) (x % 4294967296) true RB.out _).mono ?_
    rintro e w24 ⟨rfl, qb⟩
    replace P := Lib.hid (P.out.below qb P.out.lt)
    replace Q := Lib.hid (Q.out.below qb Q.out.lt)
    replace A := Lib.hid (A.out.below qb A.out.lt)
    replace B := Lib.hid (B.out.below qb B.out.lt)
    replace HB := Lib.hid (below_then HB.out qb (Nat.le_refl _))
    clear qb cP0 cP1 cQ0 cQ1 cA0 cA1 cB0 cB1
    obtain ⟨cP0, cP1⟩ := tcells P.out
    obtain ⟨cQ0, cQ1⟩ := tcells Q.out
    obtain ⟨cA0, cA1⟩ := tcells A.out
    obtain ⟨cB0, cB1⟩ := tcells B.out
    go_wp2_with fail
    with_reducible refine (tos_any a OA.out _).mono ?_
    rintro e w25 ⟨rfl, qb⟩
    replace P := Lib.hid (P.out.below qb P.out.lt)
    replace Q := Lib.hid (Q.out.below qb Q.out.lt)
    replace A := Lib.hid (A.out.below qb A.out.lt)
    replace B := Lib.hid (B.out.below qb B.out.lt)
    replace HB := Lib.hid (below_then HB.out qb (Nat.le_refl _))
    clear qb cP0 cP1 cQ0 cQ1 cA0 cA1 cB0 cB1
    obtain ⟨cP0, cP1⟩ := tcells P.out
    obtain ⟨cQ0, cQ1⟩ := tcells Q.out
    obtain ⟨cA0, cA1⟩ := tcells A.out
    obtain ⟨cB0, cB1⟩ := tcells B.out
    go_wp2_with fail
    with_reducible refine (sin_to (toS a) x true BX.out RC.out _).mono ?_
    rintro e w26 ⟨rfl, qb⟩
    replace P := Lib.hid (P.out.below qb P.out.lt)
    replace Q := Lib.hid (Q.out.below qb Q.out.lt)
    replace A := Lib.hid (A.out.below qb A.out.lt)
    replace B := Lib.hid (B.out.below qb B.out.lt)
    replace HB := Lib.hid (below_then HB.out qb (Nat.le_refl _))
    clear qb cP0 cP1 cQ0 cQ1 cA0 cA1 cB0 cB1
    obtain ⟨cP0, cP1⟩ := tcells P.out
    obtain ⟨cQ0, cQ1⟩ := tcells Q.out
    obtain ⟨cA0, cA1⟩ := tcells A.out
    obtain ⟨cB0, cB1⟩ := tcells B.out
    go_wp2_with fail
    with_reducible refine (tot_to a t OA.out ET.out _).mono ?_
    rintro e w27 ⟨rfl, qb⟩
    replace P := Lib.hid (P.out.below qb P.out.lt)
    replace Q := Lib.hid (Q.out.below qb Q.out.lt)
    replace A := Lib.hid (A.out.below qb A.out.lt)
    replace B := Lib.hid (B.out.below qb B.out.lt)
    replace HB := Lib.hid (below_then HB.out qb (Nat.le_refl _))
    clear qb cP0 cP1 cQ0 cQ1 cA0 cA1 cB0 cB1
    obtain ⟨cP0, cP1⟩ := tcells P.out
    obtain ⟨cQ0, cQ1⟩ := tcells Q.out
    obtain ⟨cA0, cA1⟩ := tcells A.out
    obtain ⟨cB0, cB1⟩ := tcells B.out
    obtain ⟨dP0, dP1⟩ := tcells (P.out.alloc (.cells #[.int .u64 (bi t.v), .int .u64 (bi t.m)] 38))
    obtain ⟨dQ0, dQ1⟩ := tcells (Q.out.alloc (.cells #[.int .u64 (bi t.v), .int .u64 (bi t.m)] 38))
    obtain ⟨dA0, dA1⟩ := tcells (A.out.alloc (.cells #[.int .u64 (bi t.v), .int .u64 (bi t.m)] 38))
    obtain ⟨dB0, dB1⟩ := tcells (B.out.alloc (.cells #[.int .u64 (bi t.v), .int .u64 (bi t.m)] 38))
    go_wp2_with fail
    clear dP0 dP1 dQ0 dQ1 dA0 dA1 dB0 dB1
    replace P := Lib.hid (P.out.alloc (.cells #[.int .u64 (bi t.v), .int .u64 (bi t.m)] 38))
    replace Q := Lib.hid (Q.out.alloc (.cells #[.int .u64 (bi t.v), .int .u64 (bi t.m)] 38))
    replace A := Lib.hid (A.out.alloc (.cells #[.int .u64 (bi t.v), .int .u64 (bi t.m)] 38))
    replace B := Lib.hid (B.out.alloc (.cells #[.int .u64 (bi t.v), .int .u64 (bi t.m)] 38))
    have T0 := (Bk.new w27 38 #[.int .u64 (bi t.v), .int .u64 (bi t.m)])
    have T := Lib.hid T0
    clear T0
    replace HB := Lib.hid (below_al HB.out (.cells #[.int .u64 (bi t.v), .int .u64 (bi t.m)] 38))
    clear cP0 cP1 cQ0 cQ1 cA0 cA1 cB0 cB1
    generalize (w27.alloc (.cells #[.int .u64 (bi t.v), .int .u64 (bi t.m)] 38)) = v2 at *
    obtain ⟨cP0, cP1⟩ := tcells P.out
    obtain ⟨cQ0, cQ1⟩ := tcells Q.out
    obtain ⟨cA0, cA1⟩ := tcells A.out
    obtain ⟨cB0, cB1⟩ := tcells B.out
    obtain ⟨cT0, cT1⟩ := tcells T.out
    with_reducible refine (works_any _).mono ?_
    rintro e w28 ⟨rfl, qb⟩
    replace P := Lib.hid (P.out.below qb P.out.lt)
    replace Q := Lib.hid (Q.out.below qb Q.out.lt)
    replace A := Lib.hid (A.out.below qb A.out.lt)
    replace B := Lib.hid (B.out.below qb B.out.lt)
    replace T := Lib.hid (T.out.below qb T.out.lt)
    replace HB := Lib.hid (below_then HB.out qb (Nat.le_refl _))
    clear qb cP0 cP1 cQ0 cQ1 cA0 cA1 cB0 cB1 cT0 cT1
    obtain ⟨cP0, cP1⟩ := tcells P.out
    obtain ⟨cQ0, cQ1⟩ := tcells Q.out
    obtain ⟨cA0, cA1⟩ := tcells A.out
    obtain ⟨cB0, cB1⟩ := tcells B.out
    obtain ⟨cT0, cT1⟩ := tcells T.out
    go_wp2_with fail
    go_returns
    exact ⟨rfl, HB.out⟩
  · have y1 : (y != 0) = true := by simp [hy]
    have y2 : 0 < y := by omega
    have RQ := Lib.hid (show inE (uDiv a b) (x / y) = true by have h := udiv_sound OA.out OB.out IX.out IY.out; rw [if_neg hy] at h; exact h)
    have RL := Lib.hid (show inE (uMod a b) (x % y) = true by have h := umod_sound OA.out OB.out IX.out IY.out; rw [if_neg hy] at h; exact h)
    clear hy
    with_reducible refine (of_to b n4 y OB.out H4.out YY.out _).mono ?_
    rintro e w3 ⟨rfl, qb⟩
    replace P := Lib.hid (P.out.below qb P.out.lt)
    replace Q := Lib.hid (Q.out.below qb Q.out.lt)
    replace A := Lib.hid (A.out.below qb A.out.lt)
    replace B := Lib.hid (B.out.below qb B.out.lt)
    replace HB := Lib.hid (below_then HB.out qb (Nat.le_refl _))
    clear qb cP0 cP1 cQ0 cQ1 cA0 cA1 cB0 cB1
    obtain ⟨cP0, cP1⟩ := tcells P.out
    obtain ⟨cQ0, cQ1⟩ := tcells Q.out
    obtain ⟨cA0, cA1⟩ := tcells A.out
    obtain ⟨cB0, cB1⟩ := tcells B.out
    go_wp2_with fail
    with_reducible refine (uin_to a x true R1.out _).mono ?_
    rintro e w4 ⟨rfl, qb⟩
    replace P := Lib.hid (P.out.below qb P.out.lt)
    replace Q := Lib.hid (Q.out.below qb Q.out.lt)
    replace A := Lib.hid (A.out.below qb A.out.lt)
    replace B := Lib.hid (B.out.below qb B.out.lt)
    replace HB := Lib.hid (below_then HB.out qb (Nat.le_refl _))
    clear qb cP0 cP1 cQ0 cQ1 cA0 cA1 cB0 cB1
    obtain ⟨cP0, cP1⟩ := tcells P.out
    obtain ⟨cQ0, cQ1⟩ := tcells Q.out
    obtain ⟨cA0, cA1⟩ := tcells A.out
    obtain ⟨cB0, cB1⟩ := tcells B.out
    go_wp2_with fail
    with_reducible refine (uadd_any a b OA.out OB.out _).mono ?_
    rintro e w5 ⟨rfl, qb⟩
    replace P := Lib.hid (P.out.below qb P.out.lt)
    replace Q := Lib.hid (Q.out.below qb Q.out.lt)
    replace A := Lib.hid (A.out.below qb A.out.lt)
    replace B := Lib.hid (B.out.below qb B.out.lt)
    replace HB := Lib.hid (below_then HB.out qb (Nat.le_refl _))
    clear qb cP0 cP1 cQ0 cQ1 cA0 cA1 cB0 cB1
    obtain ⟨cP0, cP1⟩ := tcells P.out
    obtain ⟨cQ0, cQ1⟩ := tcells Q.out
    obtain ⟨cA0, cA1⟩ := tcells A.out
    obtain ⟨cB0, cB1⟩ := tcells B.out
    go_wp2_with fail
    with_reducible refine (uin_to (uAdd a b) (IntKind.u64.wrap (x + y)) true R2.out _).mono ?_
    rintro e w6 ⟨rfl, qb⟩
    replace P := Lib.hid (P.out.below qb P.out.lt)
    replace Q := Lib.hid (Q.out.below qb Q.out.lt)
    replace A := Lib.hid (A.out.below qb A.out.lt)
    replace B := Lib.hid (B.out.below qb B.out.lt)
    replace HB := Lib.hid (below_then HB.out qb (Nat.le_refl _))
    clear qb cP0 cP1 cQ0 cQ1 cA0 cA1 cB0 cB1
    obtain ⟨cP0, cP1⟩ := tcells P.out
    obtain ⟨cQ0, cQ1⟩ := tcells Q.out
    obtain ⟨cA0, cA1⟩ := tcells A.out
    obtain ⟨cB0, cB1⟩ := tcells B.out
    go_wp2_with fail
    with_reducible refine (usub_any a b OA.out OB.out _).mono ?_
    rintro e w7 ⟨rfl, qb⟩
    replace P := Lib.hid (P.out.below qb P.out.lt)
    replace Q := Lib.hid (Q.out.below qb Q.out.lt)
    replace A := Lib.hid (A.out.below qb A.out.lt)
    replace B := Lib.hid (B.out.below qb B.out.lt)
    replace HB := Lib.hid (below_then HB.out qb (Nat.le_refl _))
    clear qb cP0 cP1 cQ0 cQ1 cA0 cA1 cB0 cB1
    obtain ⟨cP0, cP1⟩ := tcells P.out
    obtain ⟨cQ0, cQ1⟩ := tcells Q.out
    obtain ⟨cA0, cA1⟩ := tcells A.out
    obtain ⟨cB0, cB1⟩ := tcells B.out
    go_wp2_with fail
    with_reducible refine (uin_to (uSub a b) (IntKind.u64.wrap (x - y)) true R3.out _).mono ?_
    rintro e w8 ⟨rfl, qb⟩
    replace P := Lib.hid (P.out.below qb P.out.lt)
    replace Q := Lib.hid (Q.out.below qb Q.out.lt)
    replace A := Lib.hid (A.out.below qb A.out.lt)
    replace B := Lib.hid (B.out.below qb B.out.lt)
    replace HB := Lib.hid (below_then HB.out qb (Nat.le_refl _))
    clear qb cP0 cP1 cQ0 cQ1 cA0 cA1 cB0 cB1
    obtain ⟨cP0, cP1⟩ := tcells P.out
    obtain ⟨cQ0, cQ1⟩ := tcells Q.out
    obtain ⟨cA0, cA1⟩ := tcells A.out
    obtain ⟨cB0, cB1⟩ := tcells B.out
    go_wp2_with fail
    with_reducible refine (umul_any a b OA.out OB.out _).mono ?_
    rintro e w9 ⟨rfl, qb⟩
    replace P := Lib.hid (P.out.below qb P.out.lt)
    replace Q := Lib.hid (Q.out.below qb Q.out.lt)
    replace A := Lib.hid (A.out.below qb A.out.lt)
    replace B := Lib.hid (B.out.below qb B.out.lt)
    replace HB := Lib.hid (below_then HB.out qb (Nat.le_refl _))
    clear qb cP0 cP1 cQ0 cQ1 cA0 cA1 cB0 cB1
    obtain ⟨cP0, cP1⟩ := tcells P.out
    obtain ⟨cQ0, cQ1⟩ := tcells Q.out
    obtain ⟨cA0, cA1⟩ := tcells A.out
    obtain ⟨cB0, cB1⟩ := tcells B.out
    go_wp2_with fail
    with_reducible refine (uin_to (uMul a b) (IntKind.u64.wrap (x * y)) true R4.out _).mono ?_
    rintro e w10 ⟨rfl, qb⟩
    replace P := Lib.hid (P.out.below qb P.out.lt)
    replace Q := Lib.hid (Q.out.below qb Q.out.lt)
    replace A := Lib.hid (A.out.below qb A.out.lt)
    replace B := Lib.hid (B.out.below qb B.out.lt)
    replace HB := Lib.hid (below_then HB.out qb (Nat.le_refl _))
    clear qb cP0 cP1 cQ0 cQ1 cA0 cA1 cB0 cB1
    obtain ⟨cP0, cP1⟩ := tcells P.out
    obtain ⟨cQ0, cQ1⟩ := tcells Q.out
    obtain ⟨cA0, cA1⟩ := tcells A.out
    obtain ⟨cB0, cB1⟩ := tcells B.out
    go_wp2_with fail
    with_reducible refine (udiv_any a b OA.out OB.out _).mono ?_
    rintro e w11 ⟨rfl, qb⟩
    replace P := Lib.hid (P.out.below qb P.out.lt)
    replace Q := Lib.hid (Q.out.below qb Q.out.lt)
    replace A := Lib.hid (A.out.below qb A.out.lt)
    replace B := Lib.hid (B.out.below qb B.out.lt)
    replace HB := Lib.hid (below_then HB.out qb (Nat.le_refl _))
    clear qb cP0 cP1 cQ0 cQ1 cA0 cA1 cB0 cB1
    obtain ⟨cP0, cP1⟩ := tcells P.out
    obtain ⟨cQ0, cQ1⟩ := tcells Q.out
    obtain ⟨cA0, cA1⟩ := tcells A.out
    obtain ⟨cB0, cB1⟩ := tcells B.out
    go_wp2_with fail
    with_reducible refine (uin_to (uDiv a b) (x / y) true RQ.out _).mono ?_
    rintro e w12 ⟨rfl, qb⟩
    replace P := Lib.hid (P.out.below qb P.out.lt)
    replace Q := Lib.hid (Q.out.below qb Q.out.lt)
    replace A := Lib.hid (A.out.below qb A.out.lt)
    replace B := Lib.hid (B.out.below qb B.out.lt)
    replace HB := Lib.hid (below_then HB.out qb (Nat.le_refl _))
    clear qb cP0 cP1 cQ0 cQ1 cA0 cA1 cB0 cB1
    obtain ⟨cP0, cP1⟩ := tcells P.out
    obtain ⟨cQ0, cQ1⟩ := tcells Q.out
    obtain ⟨cA0, cA1⟩ := tcells A.out
    obtain ⟨cB0, cB1⟩ := tcells B.out
    go_wp2_with fail
    with_reducible refine (umod_any a b OA.out OB.out _).mono ?_
    rintro e w13 ⟨rfl, qb⟩
    replace P := Lib.hid (P.out.below qb P.out.lt)
    replace Q := Lib.hid (Q.out.below qb Q.out.lt)
    replace A := Lib.hid (A.out.below qb A.out.lt)
    replace B := Lib.hid (B.out.below qb B.out.lt)
    replace HB := Lib.hid (below_then HB.out qb (Nat.le_refl _))
    clear qb cP0 cP1 cQ0 cQ1 cA0 cA1 cB0 cB1
    obtain ⟨cP0, cP1⟩ := tcells P.out
    obtain ⟨cQ0, cQ1⟩ := tcells Q.out
    obtain ⟨cA0, cA1⟩ := tcells A.out
    obtain ⟨cB0, cB1⟩ := tcells B.out
    go_wp2_with fail
    with_reducible refine (uin_to (uMod a b) (x % y) true RL.out _).mono ?_
    rintro e w14 ⟨rfl, qb⟩
    replace P := Lib.hid (P.out.below qb P.out.lt)
    replace Q := Lib.hid (Q.out.below qb Q.out.lt)
    replace A := Lib.hid (A.out.below qb A.out.lt)
    replace B := Lib.hid (B.out.below qb B.out.lt)
    replace HB := Lib.hid (below_then HB.out qb (Nat.le_refl _))
    clear qb cP0 cP1 cQ0 cQ1 cA0 cA1 cB0 cB1
    obtain ⟨cP0, cP1⟩ := tcells P.out
    obtain ⟨cQ0, cQ1⟩ := tcells Q.out
    obtain ⟨cA0, cA1⟩ := tcells A.out
    obtain ⟨cB0, cB1⟩ := tcells B.out
    go_wp2_with fail
    with_reducible refine (uand_any a b OA.out OB.out _).mono ?_
    rintro e w15 ⟨rfl, qb⟩
    replace P := Lib.hid (P.out.below qb P.out.lt)
    replace Q := Lib.hid (Q.out.below qb Q.out.lt)
    replace A := Lib.hid (A.out.below qb A.out.lt)
    replace B := Lib.hid (B.out.below qb B.out.lt)
    replace HB := Lib.hid (below_then HB.out qb (Nat.le_refl _))
    clear qb cP0 cP1 cQ0 cQ1 cA0 cA1 cB0 cB1
    obtain ⟨cP0, cP1⟩ := tcells P.out
    obtain ⟨cQ0, cQ1⟩ := tcells Q.out
    obtain ⟨cA0, cA1⟩ := tcells A.out
    obtain ⟨cB0, cB1⟩ := tcells B.out
    go_wp2_with fail
    with_reducible refine (uin_to (uAnd a b) (bits BinOp.and IntKind.u64 x y) true R7.out _).mono ?_
    rintro e w16 ⟨rfl, qb⟩
    replace P := Lib.hid (P.out.below qb P.out.lt)
    replace Q := Lib.hid (Q.out.below qb Q.out.lt)
    replace A := Lib.hid (A.out.below qb A.out.lt)
    replace B := Lib.hid (B.out.below qb B.out.lt)
    replace HB := Lib.hid (below_then HB.out qb (Nat.le_refl _))
    clear qb cP0 cP1 cQ0 cQ1 cA0 cA1 cB0 cB1
    obtain ⟨cP0, cP1⟩ := tcells P.out
    obtain ⟨cQ0, cQ1⟩ := tcells Q.out
    obtain ⟨cA0, cA1⟩ := tcells A.out
    obtain ⟨cB0, cB1⟩ := tcells B.out
    go_wp2_with fail
    with_reducible refine (uor_any a b OA.out OB.out _).mono ?_
    rintro e w17 ⟨rfl, qb⟩
    replace P := Lib.hid (P.out.below qb P.out.lt)
    replace Q := Lib.hid (Q.out.below qb Q.out.lt)
    replace A := Lib.hid (A.out.below qb A.out.lt)
    replace B := Lib.hid (B.out.below qb B.out.lt)
    replace HB := Lib.hid (below_then HB.out qb (Nat.le_refl _))
    clear qb cP0 cP1 cQ0 cQ1 cA0 cA1 cB0 cB1
    obtain ⟨cP0, cP1⟩ := tcells P.out
    obtain ⟨cQ0, cQ1⟩ := tcells Q.out
    obtain ⟨cA0, cA1⟩ := tcells A.out
    obtain ⟨cB0, cB1⟩ := tcells B.out
    go_wp2_with fail
    with_reducible refine (uin_to (uOr a b) (bits BinOp.or IntKind.u64 x y) true R8.out _).mono ?_
    rintro e w18 ⟨rfl, qb⟩
    replace P := Lib.hid (P.out.below qb P.out.lt)
    replace Q := Lib.hid (Q.out.below qb Q.out.lt)
    replace A := Lib.hid (A.out.below qb A.out.lt)
    replace B := Lib.hid (B.out.below qb B.out.lt)
    replace HB := Lib.hid (below_then HB.out qb (Nat.le_refl _))
    clear qb cP0 cP1 cQ0 cQ1 cA0 cA1 cB0 cB1
    obtain ⟨cP0, cP1⟩ := tcells P.out
    obtain ⟨cQ0, cQ1⟩ := tcells Q.out
    obtain ⟨cA0, cA1⟩ := tcells A.out
    obtain ⟨cB0, cB1⟩ := tcells B.out
    go_wp2_with fail
    with_reducible refine (ulsh_any a n2 k HK.out OA.out _).mono ?_
    rintro e w19 ⟨rfl, qb⟩
    replace P := Lib.hid (P.out.below qb P.out.lt)
    replace Q := Lib.hid (Q.out.below qb Q.out.lt)
    replace A := Lib.hid (A.out.below qb A.out.lt)
    replace B := Lib.hid (B.out.below qb B.out.lt)
    replace HB := Lib.hid (below_then HB.out qb (Nat.le_refl _))
    clear qb cP0 cP1 cQ0 cQ1 cA0 cA1 cB0 cB1
    obtain ⟨cP0, cP1⟩ := tcells P.out
    obtain ⟨cQ0, cQ1⟩ := tcells Q.out
    obtain ⟨cA0, cA1⟩ := tcells A.out
    obtain ⟨cB0, cB1⟩ := tcells B.out
    go_wp2_with fail
    with_reducible refine (uin_to (uLsh a k) (IntKind.u64.wrap (x * 2 ^ k)) true R9.out _).mono ?_
    rintro e w20 ⟨rfl, qb⟩
    replace P := Lib.hid (P.out.below qb P.out.lt)
    replace Q := Lib.hid (Q.out.below qb Q.out.lt)
    replace A := Lib.hid (A.out.below qb A.out.lt)
    replace B := Lib.hid (B.out.below qb B.out.lt)
    replace HB := Lib.hid (below_then HB.out qb (Nat.le_refl _))
    clear qb cP0 cP1 cQ0 cQ1 cA0 cA1 cB0 cB1
    obtain ⟨cP0, cP1⟩ := tcells P.out
    obtain ⟨cQ0, cQ1⟩ := tcells Q.out
    obtain ⟨cA0, cA1⟩ := tcells A.out
    obtain ⟨cB0, cB1⟩ := tcells B.out
    go_wp2_with fail
    with_reducible refine (ursh_any a n2 k HK.out OA.out _).mono ?_
    rintro e w21 ⟨rfl, qb⟩
    replace P := Lib.hid (P.out.below qb P.out.lt)
    replace Q := Lib.hid (Q.out.below qb Q.out.lt)
    replace A := Lib.hid (A.out.below qb A.out.lt)
    replace B := Lib.hid (B.out.below qb B.out.lt)
    replace HB := Lib.hid (below_then HB.out qb (Nat.le_refl _))
    clear qb cP0 cP1 cQ0 cQ1 cA0 cA1 cB0 cB1
    obtain ⟨cP0, cP1⟩ := tcells P.out
    obtain ⟨cQ0, cQ1⟩ := tcells Q.out
    obtain ⟨cA0, cA1⟩ := tcells A.out
    obtain ⟨cB0, cB1⟩ := tcells B.out
    go_wp2_with fail
    with_reducible refine (uin_to (rsh a k) (x / 2 ^ k) true RA.out _).mono ?_
    rintro e w22 ⟨rfl, qb⟩
    replace P := Lib.hid (P.out.below qb P.out.lt)
    replace Q := Lib.hid (Q.out.below qb Q.out.lt)
    replace A := Lib.hid (A.out.below qb A.out.lt)
    replace B := Lib.hid (B.out.below qb B.out.lt)
    replace HB := Lib.hid (below_then HB.out qb (Nat.le_refl _))
    clear qb cP0 cP1 cQ0 cQ1 cA0 cA1 cB0 cB1
    obtain ⟨cP0, cP1⟩ := tcells P.out
    obtain ⟨cQ0, cQ1⟩ := tcells Q.out
    obtain ⟨cA0, cA1⟩ := tcells A.out
    obtain ⟨cB0, cB1⟩ := tcells B.out
    go_wp2_with fail
    with_reducible refine (ucut_any a OA.out _).mono ?_
    rintro e w23 ⟨rfl, qb⟩
    replace P := Lib.hid (P.out.below qb P.out.lt)
    replace Q := Lib.hid (Q.out.below qb Q.out.lt)
    replace A := Lib.hid (A.out.below qb A.out.lt)
    replace B := Lib.hid (B.out.below qb B.out.lt)
    replace HB := Lib.hid (below_then HB.out qb (Nat.le_refl _))
    clear qb cP0 cP1 cQ0 cQ1 cA0 cA1 cB0 cB1
    obtain ⟨cP0, cP1⟩ := tcells P.out
    obtain ⟨cQ0, cQ1⟩ := tcells Q.out
    obtain ⟨cA0, cA1⟩ := tcells A.out
    obtain ⟨cB0, cB1⟩ := tcells B.out
    go_wp2_with fail
    with_reducible refine (uin_to (uCut a) (x % 4294967296) true RB.out _).mono ?_
    rintro e w24 ⟨rfl, qb⟩
    replace P := Lib.hid (P.out.below qb P.out.lt)
    replace Q := Lib.hid (Q.out.below qb Q.out.lt)
    replace A := Lib.hid (A.out.below qb A.out.lt)
    replace B := Lib.hid (B.out.below qb B.out.lt)
    replace HB := Lib.hid (below_then HB.out qb (Nat.le_refl _))
    clear qb cP0 cP1 cQ0 cQ1 cA0 cA1 cB0 cB1
    obtain ⟨cP0, cP1⟩ := tcells P.out
    obtain ⟨cQ0, cQ1⟩ := tcells Q.out
    obtain ⟨cA0, cA1⟩ := tcells A.out
    obtain ⟨cB0, cB1⟩ := tcells B.out
    go_wp2_with fail
    with_reducible refine (tos_any a OA.out _).mono ?_
    rintro e w25 ⟨rfl, qb⟩
    replace P := Lib.hid (P.out.below qb P.out.lt)
    replace Q := Lib.hid (Q.out.below qb Q.out.lt)
    replace A := Lib.hid (A.out.below qb A.out.lt)
    replace B := Lib.hid (B.out.below qb B.out.lt)
    replace HB := Lib.hid (below_then HB.out qb (Nat.le_refl _))
    clear qb cP0 cP1 cQ0 cQ1 cA0 cA1 cB0 cB1
    obtain ⟨cP0, cP1⟩ := tcells P.out
    obtain ⟨cQ0, cQ1⟩ := tcells Q.out
    obtain ⟨cA0, cA1⟩ := tcells A.out
    obtain ⟨cB0, cB1⟩ := tcells B.out
    go_wp2_with fail
    with_reducible refine (sin_to (toS a) x true BX.out RC.out _).mono ?_
    rintro e w26 ⟨rfl, qb⟩
    replace P := Lib.hid (P.out.below qb P.out.lt)
    replace Q := Lib.hid (Q.out.below qb Q.out.lt)
    replace A := Lib.hid (A.out.below qb A.out.lt)
    replace B := Lib.hid (B.out.below qb B.out.lt)
    replace HB := Lib.hid (below_then HB.out qb (Nat.le_refl _))
    clear qb cP0 cP1 cQ0 cQ1 cA0 cA1 cB0 cB1
    obtain ⟨cP0, cP1⟩ := tcells P.out
    obtain ⟨cQ0, cQ1⟩ := tcells Q.out
    obtain ⟨cA0, cA1⟩ := tcells A.out
    obtain ⟨cB0, cB1⟩ := tcells B.out
    go_wp2_with fail
    with_reducible refine (tot_to a t OA.out ET.out _).mono ?_
    rintro e w27 ⟨rfl, qb⟩
    replace P := Lib.hid (P.out.below qb P.out.lt)
    replace Q := Lib.hid (Q.out.below qb Q.out.lt)
    replace A := Lib.hid (A.out.below qb A.out.lt)
    replace B := Lib.hid (B.out.below qb B.out.lt)
    replace HB := Lib.hid (below_then HB.out qb (Nat.le_refl _))
    clear qb cP0 cP1 cQ0 cQ1 cA0 cA1 cB0 cB1
    obtain ⟨cP0, cP1⟩ := tcells P.out
    obtain ⟨cQ0, cQ1⟩ := tcells Q.out
    obtain ⟨cA0, cA1⟩ := tcells A.out
    obtain ⟨cB0, cB1⟩ := tcells B.out
    obtain ⟨dP0, dP1⟩ := tcells (P.out.alloc (.cells #[.int .u64 (bi t.v), .int .u64 (bi t.m)] 38))
    obtain ⟨dQ0, dQ1⟩ := tcells (Q.out.alloc (.cells #[.int .u64 (bi t.v), .int .u64 (bi t.m)] 38))
    obtain ⟨dA0, dA1⟩ := tcells (A.out.alloc (.cells #[.int .u64 (bi t.v), .int .u64 (bi t.m)] 38))
    obtain ⟨dB0, dB1⟩ := tcells (B.out.alloc (.cells #[.int .u64 (bi t.v), .int .u64 (bi t.m)] 38))
    go_wp2_with fail
    clear dP0 dP1 dQ0 dQ1 dA0 dA1 dB0 dB1
    replace P := Lib.hid (P.out.alloc (.cells #[.int .u64 (bi t.v), .int .u64 (bi t.m)] 38))
    replace Q := Lib.hid (Q.out.alloc (.cells #[.int .u64 (bi t.v), .int .u64 (bi t.m)] 38))
    replace A := Lib.hid (A.out.alloc (.cells #[.int .u64 (bi t.v), .int .u64 (bi t.m)] 38))
    replace B := Lib.hid (B.out.alloc (.cells #[.int .u64 (bi t.v), .int .u64 (bi t.m)] 38))
    have T0 := (Bk.new w27 38 #[.int .u64 (bi t.v), .int .u64 (bi t.m)])
    have T := Lib.hid T0
    clear T0
    replace HB := Lib.hid (below_al HB.out (.cells #[.int .u64 (bi t.v), .int .u64 (bi t.m)] 38))
    clear cP0 cP1 cQ0 cQ1 cA0 cA1 cB0 cB1
    generalize (w27.alloc (.cells #[.int .u64 (bi t.v), .int .u64 (bi t.m)] 38)) = v2 at *
    obtain ⟨cP0, cP1⟩ := tcells P.out
    obtain ⟨cQ0, cQ1⟩ := tcells Q.out
    obtain ⟨cA0, cA1⟩ := tcells A.out
    obtain ⟨cB0, cB1⟩ := tcells B.out
    obtain ⟨cT0, cT1⟩ := tcells T.out
    with_reducible refine (works_any _).mono ?_
    rintro e w28 ⟨rfl, qb⟩
    replace P := Lib.hid (P.out.below qb P.out.lt)
    replace Q := Lib.hid (Q.out.below qb Q.out.lt)
    replace A := Lib.hid (A.out.below qb A.out.lt)
    replace B := Lib.hid (B.out.below qb B.out.lt)
    replace T := Lib.hid (T.out.below qb T.out.lt)
    replace HB := Lib.hid (below_then HB.out qb (Nat.le_refl _))
    clear qb cP0 cP1 cQ0 cQ1 cA0 cA1 cB0 cB1 cT0 cT1
    obtain ⟨cP0, cP1⟩ := tcells P.out
    obtain ⟨cQ0, cQ1⟩ := tcells Q.out
    obtain ⟨cA0, cA1⟩ := tcells A.out
    obtain ⟨cB0, cB1⟩ := tcells B.out
    obtain ⟨cT0, cT1⟩ := tcells T.out
    go_wp2_with fail
    go_returns
    exact ⟨rfl, HB.out⟩

set_option maxRecDepth 100000 in
theorem lifted (os : Os) (started : os.Started) (H : Type) (enc : TypeId × Value → H) :
    ReturnsInHanded {} Try.checked os 6 .any (Rows.spanSoundSpec.pre6 enc Try.prog Try.f6 Rows.spanSoundRow.domain false) (Rows.spanSoundSpec.post enc Try.prog Try.f6 false true false false) := by
  refine returnsInHanded_of_change (C := Try.checked) own started (by kernel_rfl) Try.func6
    (ChangeSpec.witness6 (enc := enc) (C := Try.checked) false ⟨#[], #[.agg #[.int .u64 0, .int .u64 0], .agg #[.int .u64 0, .int .u64 0], .int .i64 0, .int .u64 0, .int .u64 0], []⟩ 8 (by kernel_rfl) (by kernel_rfl) (by kernel_rfl) (by kernel_rfl)) ?_
  intro W base args ds gs before hval0 hW hcnd _
  have hval : ∀ (j : Nat) t v, Try.f6.params[j]? = some t → args[j]? = some v → Value.okWide Try.prog W .any base t v := hval0
  have hW' := hW
  obtain ⟨p, q, hA0, hV, rfl, hfz, hnd⟩ := hW
  have hA : DataW.TrodAll enc Try.prog W 0 (fun _ => true) true Try.f6.params.toList args.toList ds p := hA0
  rw [Try.params6] at hA hval
  obtain ⟨v0, vs0, d0, ds0, p0, q0, hargs, rfl, rfl, h0, r0⟩ := trodAll_cons hA
  obtain ⟨v1, vs1, d1, ds1, p1, q1, rfl, rfl, rfl, h1, r1⟩ := trodAll_cons r0
  obtain ⟨v2, vs2, d2, ds2, p2, q2, rfl, rfl, rfl, h2, r2⟩ := trodAll_cons r1
  obtain ⟨v3, vs3, d3, ds3, p3, q3, rfl, rfl, rfl, h3, r3⟩ := trodAll_cons r2
  obtain ⟨v4, vs4, d4, ds4, p4, q4, rfl, rfl, rfl, h4, r4⟩ := trodAll_cons r3
  obtain ⟨rfl, rfl, rfl⟩ := trodAll_nil r4
  obtain rfl : args = #[v0, v1, v2, v3, v4] := by cases args; simp_all
  obtain ⟨rfl, rfl⟩ := trodVars_none hV
  have k0 := h0
  have lt0 : ∀ x ∈ p0, x.block < W.heap.size := by obtain ⟨m, hm⟩ := k0; exact DataW.trod_lt m _ _ _ hm
  obtain ⟨x0, f0, rfl⟩ := open_u (hval 0 24 v0 rfl rfl) h0
  have k1 := h1
  have lt1 : ∀ x ∈ p1, x.block < W.heap.size := by obtain ⟨m, hm⟩ := k1; exact DataW.trod_lt m _ _ _ hm
  obtain ⟨x1, f1, rfl⟩ := open_u (hval 1 24 v1 rfl rfl) h1
  obtain ⟨n2, rfl, rfl, rfl, w2⟩ := open_int Try.underlying3 (hval 2 3 v2 rfl rfl) h2
  obtain ⟨n3, rfl, rfl, rfl, w3⟩ := open_int Try.underlying22 (hval 3 22 v3 rfl rfl) h3
  obtain ⟨n4, rfl, rfl, rfl, w4⟩ := open_int Try.underlying22 (hval 4 22 v4 rfl rfl) h4
  clear hA0 hval0
  refine (walk x0 x1 n2 n3 n4 W f0 f1 w2 w3 w4).mono fun e W' ⟨he, bel⟩ => ?_
  subst he
  exact ⟨_, rfl, _, _, _, [], _, [], hW', trodAll_mk1 (shut_bool Try.underlying4 _), (trodAll_cons_mk (Below.trod laidOut (by kernel_rfl) (of_decide_eq_true (by kernel_rfl)) k0 bel lt0) (trodAll_cons_mk (Below.trod laidOut (by kernel_rfl) (of_decide_eq_true (by kernel_rfl)) k1 bel lt1) (trodAll_cons_mk (shut_int Try.underlying3 w2) (trodAll_cons_mk (shut_int Try.underlying22 w3) (trodAll_cons_mk (shut_int Try.underlying22 w4) trodAll_mk0))))), rfl, bel.frame _, fun h => by cases h⟩

theorem over : Rows.spanSoundRow.holds Try.pinned (OpenSpec.ofChange Rows.spanSoundSpec) :=
  OpenClaim.holds_of_wide 6 Try.f6 rfl rfl rfl rfl rfl rfl rfl ⟨rfl, rfl, rfl, rfl, rfl⟩ rfl rfl rfl rfl rfl (by kernel_rfl) Try.func6 (by kernel_rfl)
    (of_decide_eq_true (by kernel_rfl)) (by unfold Func.isWrapper; first | (rw [if_pos (by decide +kernel)]; kernel_rfl) | (rw [if_neg (by decide +kernel)]; exact ⟨rfl, rfl⟩))
    (fun os started H enc _ => lifted os started H enc)

theorem proved : Rows.SpanSoundSaid := over
#print axioms proved
end Go.Proofs.Ythjjfginenpfjaa.spanSound
