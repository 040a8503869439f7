/-
  Proved: the statement SpanTaken: whichever of the bits in a mask a number has besides a value, it is of what FromT tells, without a sign and with one; and its ends are such. No conditions.
-/
import Derived.Test.YthjjfginenpfjaaRows
import Derived.Test.YthjjfginenpfjaaSpanTo
import Derived.Test.YthjjfginenpfjaaSpanMath4
import Derived.WalkKit
import Derived.ProofKit
import Derived.OpenShut
import Derived.ChangeOld
import Derived.Below
import Derived.Handy
namespace Go.Proofs.Ythjjfginenpfjaa.spanTaken
open Go.ChangeShapes Go.WideShapes Go.ChangeAt Go.RowKit Tn Ow Sp
set_option linter.unusedVariables false
set_option linter.unusedSimpArgs false

theorem own : ownKnob Try.prog.godebug = none := by kernel_rfl
theorem laidOut : laidOutB Try.prog = true := by kernel_rfl

theorem wrap_sg (x : BitVec 64) : IntKind.u64.wrap (sg (bi x)) = bi x := by
  have h := bi_bd x
  have g := sg_bd _ h.1 h.2
  rw [us_wrap _ g.1 g.2, us_sg _ h.1 h.2]
theorem ends_of {v m : BitVec 64} (h : mayT ⟨v, m⟩) : ∃ f c d : BitVec 64, Hid (fromU ⟨v, m⟩ = ⟨bi v, bi f⟩) ∧ Hid (fromS ⟨v, m⟩ = ⟨sg (bi c), sg (bi d)⟩) ∧ Hid (v &&& ~~~m = v) ∧ Hid (f &&& ~~~m = v) ∧ Hid (c &&& ~~~m = v) ∧ Hid (d &&& ~~~m = v) := by
  by_cases hm : bi m < 9223372036854775808
  · exact ⟨v + m, v, v + m, Lib.hid rfl, Lib.hid (by unfold fromS; rw [if_pos hm]), Lib.hid (end_v h), Lib.hid (end_sum h), Lib.hid (end_v h), Lib.hid (end_sum h)⟩
  · have hm2 : 9223372036854775808 ≤ bi m := by omega
    exact ⟨v + m, v ||| hib, (v + m) &&& ~~~hib, Lib.hid rfl, Lib.hid (by unfold fromS; rw [if_neg hm]), Lib.hid (end_v h), Lib.hid (end_sum h), Lib.hid (end_low h hm2), Lib.hid (end_high h hm2)⟩

set_option maxRecDepth 100000 in
set_option maxHeartbeats 4000000 in
theorem walk (x0 : T) (u1 : BitVec 64) (w : World) :
    Calls Try.prog 8 #[.agg #[.int .u64 (bi x0.v), .int .u64 (bi x0.m)], .int .u64 (bi u1)] w fun e w' => e = .returned (.bool true) ∧ Below w.heap.size w w' := by
  obtain ⟨p, m⟩ := x0
  obtain ⟨v, ev⟩ : ∃ v, p &&& ~~~m = v := ⟨_, rfl⟩
  have hv : bits .andNot .u64 (bi p) (bi m) = bi v := by rw [bi_andNot, ev]
  have mt : mayT ⟨v, m⟩ := by rw [← ev]; exact may_exc p m
  clear ev
  obtain ⟨f, c, d, EU, ES, Z0, Z1, Z2, Z3⟩ := ends_of mt
  have z0 : (bits .andNot .u64 (bi v) (bi m) != bi v) = false := by rw [bi_andNot, Z0.out]; simp
  have z1 : (bits .andNot .u64 (bi f) (bi m) != bi v) = false := by rw [bi_andNot, Z1.out]; simp
  have z2 : (bits .andNot .u64 (bi c) (bi m) != bi v) = false := by rw [bi_andNot, Z2.out]; simp
  have z3 : (bits .andNot .u64 (bi d) (bi m) != bi v) = false := by rw [bi_andNot, Z3.out]; simp
  clear Z0 Z1 Z2 Z3
  have b0 := bi_bd p
  have b1 := bi_bd m
  have b2 := bi_bd v
  have b3 := bi_bd u1
  have wc : IntKind.u64.wrap (sg (bi c)) = bi c := wrap_sg c
  have wd : IntKind.u64.wrap (sg (bi d)) = bi d := wrap_sg d
  have qa : bits .and .u64 (bi u1) (bi m) = bi (u1 &&& m) := bi_and _ _
  obtain ⟨X, eX⟩ : ∃ X, oneT ⟨v, m⟩ u1 = X := ⟨_, rfl⟩
  have qo : bits .or .u64 (bi v) (bi (u1 &&& m)) = bi X := by rw [bi_or, ← eX]; rfl
  have bX := bi_bd X
  have RU := Lib.hid (show inE ⟨bi v, bi f⟩ (bi X) = true by rw [← EU.out, ← eX]; exact taken_u mt u1)
  have RS := Lib.hid (show inE ⟨sg (bi c), sg (bi d)⟩ (sg (bi X)) = true by rw [← ES.out, ← eX]; exact taken_s mt u1)
  have BX := Lib.hid bX
  clear eX mt
  go_enter Try.func8, Try.ntmps8
  go_wp2_with fail
  have K0 := (Bk.new w 38 #[.int .u64 (bi v), .int .u64 (bi m)])
  have B0 : Below w.heap.size w (w.alloc (.cells #[.int .u64 (bi v), .int .u64 (bi m)] 38)) := by go_grown
  generalize (w.alloc (.cells #[.int .u64 (bi v), .int .u64 (bi m)] 38)) = w0 at *
  have H0 := Lib.hid K0
  have HB := Lib.hid B0
  clear K0 B0
  have P := H0
  clear H0
  obtain ⟨cP0, cP1⟩ := tcells P.out
  with_reducible refine (fromt_to ⟨v, m⟩ ⟨bi v, bi f⟩ ⟨sg (bi c), sg (bi d)⟩ EU.out ES.out _).mono ?_
  rintro e w1 ⟨rfl, qb⟩
  replace P := Lib.hid (P.out.below qb P.out.lt)
  replace HB := Lib.hid (below_then HB.out qb (Nat.le_refl _))
  clear qb cP0 cP1
  obtain ⟨cP0, cP1⟩ := tcells P.out
  obtain ⟨dP0, dP1⟩ := tcells ((P.out.alloc (.cells #[.int .u64 (bi v), .int .u64 (bi f)] 24)).alloc (.cells #[.int .i64 (sg (bi c)), .int .i64 (sg (bi d))] 35))
  go_wp2_with fail
  clear dP0 dP1
  replace P := Lib.hid ((P.out.alloc (.cells #[.int .u64 (bi v), .int .u64 (bi f)] 24)).alloc (.cells #[.int .i64 (sg (bi c)), .int .i64 (sg (bi d))] 35))
  have A0 := ((Bk.new w1 24 #[.int .u64 (bi v), .int .u64 (bi f)]).alloc (.cells #[.int .i64 (sg (bi c)), .int .i64 (sg (bi d))] 35))
  have A := Lib.hid A0
  clear A0
  have B0 := (Bk.new (w1.alloc (.cells #[.int .u64 (bi v), .int .u64 (bi f)] 24)) 35 #[.int .i64 (sg (bi c)), .int .i64 (sg (bi d))])
  rw [World.size_alloc] at B0
  have B := Lib.hid B0
  clear B0
  replace HB := Lib.hid (below_al (below_al HB.out (.cells #[.int .u64 (bi v), .int .u64 (bi f)] 24)) (.cells #[.int .i64 (sg (bi c)), .int .i64 (sg (bi d))] 35))
  clear cP0 cP1
  have SZ := Lib.hid (show ((w1.alloc (.cells #[.int .u64 (bi v), .int .u64 (bi f)] 24)).alloc (.cells #[.int .i64 (sg (bi c)), .int .i64 (sg (bi d))] 35)).heap.size = w1.heap.size + 1 + 1 by simp only [World.size_alloc])
  generalize ((w1.alloc (.cells #[.int .u64 (bi v), .int .u64 (bi f)] 24)).alloc (.cells #[.int .i64 (sg (bi c)), .int .i64 (sg (bi d))] 35)) = v1 at *
  obtain ⟨cP0, cP1⟩ := tcells P.out
  obtain ⟨cA0, cA1⟩ := tcells A.out
  obtain ⟨cB0, cB1⟩ := tcells B.out
  have s0 := Bk.new v1 22 #[.int .u64 (bi v), .int .u64 (bi f), .int .u64 (bi c), .int .u64 (bi d)]
  rw [SZ.out] at s0
  replace P := Lib.hid (P.out.alloc (.cells #[.int .u64 (bi v), .int .u64 (bi f), .int .u64 (bi c), .int .u64 (bi d)] 22))
  replace A := Lib.hid (A.out.alloc (.cells #[.int .u64 (bi v), .int .u64 (bi f), .int .u64 (bi c), .int .u64 (bi d)] 22))
  replace B := Lib.hid (B.out.alloc (.cells #[.int .u64 (bi v), .int .u64 (bi f), .int .u64 (bi c), .int .u64 (bi d)] 22))
  replace HB := Lib.hid (below_al HB.out (.cells #[.int .u64 (bi v), .int .u64 (bi f), .int .u64 (bi c), .int .u64 (bi d)] 22))
  have SL := Lib.hid s0
  clear s0 cP0 cP1 cA0 cA1 cB0 cB1
  generalize v1.alloc (.cells #[.int .u64 (bi v), .int .u64 (bi f), .int .u64 (bi c), .int .u64 (bi d)] 22) = v2 at *
  go_loopw [9] (fun i wr => ∃ j : Int, 0 ≤ j ∧ j ≤ 4 ∧ i = .int .i64 j ∧ Hid (Bk wr (w.heap.size) 38 #[.int .u64 (bi v), .int .u64 (bi m)]) ∧ Hid (Bk wr (w1.heap.size) 24 #[.int .u64 (bi v), .int .u64 (bi f)]) ∧ Hid (Bk wr (w1.heap.size + 1) 35 #[.int .i64 (sg (bi c)), .int .i64 (sg (bi d))]) ∧ Hid (Bk wr (w1.heap.size + 1 + 1) 22 #[.int .u64 (bi v), .int .u64 (bi f), .int .u64 (bi c), .int .u64 (bi d)]) ∧ Hid (Below w.heap.size w wr)) (fun i _ => 4 - (intOf i).toNat)
  case atStart => exact ⟨0, by omega, by omega, rfl, P, A, B, SL, HB⟩
  case round =>
    clear P A B SL HB
    obtain ⟨j, hj0, hj1, rfl, P, A, B, SL, HB⟩ := hrel
    obtain ⟨cP0, cP1⟩ := tcells P.out
    obtain ⟨cA0, cA1⟩ := tcells A.out
    obtain ⟨cB0, cB1⟩ := tcells B.out
    have s0 := SL.out.cell 0
    have s1 := SL.out.cell 1
    have s2 := SL.out.cell 2
    have s3 := SL.out.cell 3
    simp only [List.getElem?_toArray, List.getElem?_cons_zero, List.getElem?_cons_succ] at s0 s1 s2 s3
    rcases (show j = 0 ∨ j = 1 ∨ j = 2 ∨ j = 3 ∨ j = 4 by omega) with rfl | rfl | rfl | rfl | rfl
    · go_wp2_with fail
      go_region
      go_wp2_with fail
      go_roundw
      case rel => exact ⟨1, by omega, by omega, by first | rfl | go_num, Lib.hid P.out.drew, Lib.hid A.out.drew, Lib.hid B.out.drew, Lib.hid SL.out.drew, Lib.hid HB.out.drew⟩
      case measure => simp [intOf]
    · go_wp2_with fail
      go_region
      go_wp2_with fail
      go_roundw
      case rel => exact ⟨2, by omega, by omega, by first | rfl | go_num, Lib.hid P.out.drew, Lib.hid A.out.drew, Lib.hid B.out.drew, Lib.hid SL.out.drew, Lib.hid HB.out.drew⟩
      case measure => simp [intOf]
    · go_wp2_with fail
      go_region
      go_wp2_with fail
      go_roundw
      case rel => exact ⟨3, by omega, by omega, by first | rfl | go_num, Lib.hid P.out.drew, Lib.hid A.out.drew, Lib.hid B.out.drew, Lib.hid SL.out.drew, Lib.hid HB.out.drew⟩
      case measure => simp [intOf]
    · go_wp2_with fail
      go_region
      go_wp2_with fail
      go_roundw
      case rel => exact ⟨4, by omega, by omega, by first | rfl | go_num, Lib.hid P.out.drew, Lib.hid A.out.drew, Lib.hid B.out.drew, Lib.hid SL.out.drew, Lib.hid HB.out.drew⟩
      case measure => simp [intOf]
    · go_wp2_with fail
      with_reducible refine (uin_to ⟨bi v, bi f⟩ (bi X) true RU.out _).mono ?_
      rintro e w2 ⟨rfl, qb⟩
      replace P := Lib.hid (P.out.below qb P.out.lt)
      replace A := Lib.hid (A.out.below qb A.out.lt)
      replace B := Lib.hid (B.out.below qb B.out.lt)
      replace HB := Lib.hid (below_then HB.out qb (Nat.le_refl _))
      clear qb cP0 cP1 cA0 cA1 cB0 cB1
      obtain ⟨cP0, cP1⟩ := tcells P.out
      obtain ⟨cA0, cA1⟩ := tcells A.out
      obtain ⟨cB0, cB1⟩ := tcells B.out
      go_wp2_with fail
      with_reducible refine (sin_to ⟨sg (bi c), sg (bi d)⟩ (bi X) true BX.out RS.out _).mono ?_
      rintro e w3 ⟨rfl, qb⟩
      replace P := Lib.hid (P.out.below qb P.out.lt)
      replace A := Lib.hid (A.out.below qb A.out.lt)
      replace B := Lib.hid (B.out.below qb B.out.lt)
      replace HB := Lib.hid (below_then HB.out qb (Nat.le_refl _))
      clear qb cP0 cP1 cA0 cA1 cB0 cB1
      obtain ⟨cP0, cP1⟩ := tcells P.out
      obtain ⟨cA0, cA1⟩ := tcells A.out
      obtain ⟨cB0, cB1⟩ := tcells B.out
      go_wp2_with fail
      with_reducible refine (works_any _).mono ?_
      rintro e w4 ⟨rfl, qb⟩
      replace P := Lib.hid (P.out.below qb P.out.lt)
      replace A := Lib.hid (A.out.below qb A.out.lt)
      replace B := Lib.hid (B.out.below qb B.out.lt)
      replace HB := Lib.hid (below_then HB.out qb (Nat.le_refl _))
      clear qb cP0 cP1 cA0 cA1 cB0 cB1
      obtain ⟨cP0, cP1⟩ := tcells P.out
      obtain ⟨cA0, cA1⟩ := tcells A.out
      obtain ⟨cB0, cB1⟩ := tcells B.out
      go_wp2_with fail
      go_returns
      exact ⟨rfl, HB.out⟩

set_option maxRecDepth 100000 in
theorem lifted (os : Os) (started : os.Started) (H : Type) (enc : TypeId × Value → H) :
    ReturnsInHanded {} Try.checked os 8 .any (Rows.spanTakenSpec.pre6 enc Try.prog Try.f8 Rows.spanTakenRow.domain false) (Rows.spanTakenSpec.post enc Try.prog Try.f8 false true false false) := by
  refine returnsInHanded_of_change (C := Try.checked) own started (by kernel_rfl) Try.func8
    (ChangeSpec.witness6 (enc := enc) (C := Try.checked) false ⟨#[], #[.agg #[.int .u64 0, .int .u64 0], .int .u64 0], []⟩ 8 (by kernel_rfl) (by kernel_rfl) (by kernel_rfl) (by kernel_rfl)) ?_
  intro W base args ds gs before hval0 hW hcnd _
  have hval : ∀ (j : Nat) t v, Try.f8.params[j]? = some t → args[j]? = some v → Value.okWide Try.prog W .any base t v := hval0
  have hW' := hW
  obtain ⟨p, q, hA0, hV, rfl, hfz, hnd⟩ := hW
  have hA : DataW.TrodAll enc Try.prog W 0 (fun _ => true) true Try.f8.params.toList args.toList ds p := hA0
  rw [Try.params8] at hA hval
  obtain ⟨v0, vs0, d0, ds0, p0, q0, hargs, rfl, rfl, h0, r0⟩ := trodAll_cons hA
  obtain ⟨v1, vs1, d1, ds1, p1, q1, rfl, rfl, rfl, h1, r1⟩ := trodAll_cons r0
  obtain ⟨rfl, rfl, rfl⟩ := trodAll_nil r1
  obtain rfl : args = #[v0, v1] := by cases args; simp_all
  obtain ⟨rfl, rfl⟩ := trodVars_none hV
  have k0 := h0
  have lt0 : ∀ x ∈ p0, x.block < W.heap.size := by obtain ⟨m, hm⟩ := k0; exact DataW.trod_lt m _ _ _ hm
  obtain ⟨x0, rfl⟩ := open_tn (hval 0 38 v0 rfl rfl) h0
  obtain ⟨n1, rfl, rfl, rfl, w1⟩ := open_int Try.underlying22 (hval 1 22 v1 rfl rfl) h1
  have ww1 := w1
  obtain ⟨u1, rfl⟩ := u64_bi w1
  clear hA0 hval0
  refine (walk x0 u1 W  ).mono fun e W' ⟨he, bel⟩ => ?_
  subst he
  exact ⟨_, rfl, _, _, _, [], _, [], hW', trodAll_mk1 (shut_bool Try.underlying4 _), (trodAll_cons_mk (Below.trod laidOut (by kernel_rfl) (of_decide_eq_true (by kernel_rfl)) k0 bel lt0) (trodAll_cons_mk (shut_int Try.underlying22 ww1) trodAll_mk0)), rfl, bel.frame _, fun h => by cases h⟩

theorem over : Rows.spanTakenRow.holds Try.pinned (OpenSpec.ofChange Rows.spanTakenSpec) :=
  OpenClaim.holds_of_wide 8 Try.f8 rfl rfl rfl rfl rfl rfl rfl ⟨rfl, rfl, rfl, rfl, rfl⟩ rfl rfl rfl rfl rfl (by kernel_rfl) Try.func8 (by kernel_rfl)
    (of_decide_eq_true (by kernel_rfl)) (by unfold Func.isWrapper; first | (rw [if_pos (by decide +kernel)]; kernel_rfl) | (rw [if_neg (by decide +kernel)]; exact ⟨rfl, rfl⟩))
    (fun os started H enc _ => lifted os started H enc)

theorem proved : Rows.SpanTakenSaid := over
#print axioms proved
end Go.Proofs.Ythjjfginenpfjaa.spanTaken
