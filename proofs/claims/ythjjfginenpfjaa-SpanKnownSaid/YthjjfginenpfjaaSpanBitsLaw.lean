/-
  Proved: the statement SpanBits: of any known bits the least and the greatest number are told as the document says, without a sign and with one. No conditions.
-/
import Derived.Test.YthjjfginenpfjaaRows
import Derived.Test.YthjjfginenpfjaaSpanTo
import Derived.Test.YthjjfginenpfjaaSpanR6
import Derived.WalkKit
import Derived.ProofKit
import Derived.OpenShut
import Derived.ChangeOld
import Derived.Below
import Derived.Handy
namespace Go.Proofs.Ythjjfginenpfjaa.spanBits
open Go.ChangeShapes Go.WideShapes Go.ChangeAt Go.RowKit Tn Ow Sp
set_option linter.unusedVariables false
set_option linter.unusedSimpArgs false

theorem own : ownKnob Try.prog.godebug = none := by kernel_rfl
theorem laidOut : laidOutB Try.prog = true := by kernel_rfl

theorem rfromt_to (t : T) (u s : E) (ht : mayT t) (h : fromU t = u) (g : fromS t = s) (w : World) :
    Calls Try.prog 72 #[.agg #[.int .u64 (bi t.v), .int .u64 (bi t.m)]] w fun e w' => e = .returned (.tuple #[.agg #[.int .u64 u.lo, .int .u64 u.hi], .agg #[.int .i64 s.lo, .int .i64 s.hi]]) ∧ Below w.heap.size w w' := by subst h g; exact rfromt_any t ht w

set_option maxRecDepth 100000 in
set_option maxHeartbeats 4000000 in
theorem walk (x0 : T) (w : World) :
    Calls Try.prog 5 #[.agg #[.int .u64 (bi x0.v), .int .u64 (bi x0.m)]] w fun e w' => e = .returned (.bool true) ∧ Below w.heap.size w w' := by
  obtain ⟨p, m⟩ := x0
  obtain ⟨v, ev⟩ : ∃ v, p &&& ~~~m = v := ⟨_, rfl⟩
  have hv : bits .andNot .u64 (bi p) (bi m) = bi v := by rw [bi_andNot, ev]
  have MT := Lib.hid (show mayT ⟨v, m⟩ by rw [← ev]; exact may_exc p m)
  clear ev
  obtain ⟨u, eu⟩ : ∃ u, fromU ⟨v, m⟩ = u := ⟨_, rfl⟩
  obtain ⟨s, es⟩ : ∃ s, fromS ⟨v, m⟩ = s := ⟨_, rfl⟩
  have EU := Lib.hid eu
  have ES := Lib.hid es
  have b0 := bi_bd p
  have b1 := bi_bd m
  have b2 := bi_bd v
  clear eu es
  have q1 := U_eql
  have q2 := U_guard .eql
  have q3 := S_eql
  have q4 := S_guard .eql
  go_enter Try.func5, Try.ntmps5
  go_wp2_with fail
  have K0 := (Bk.new w 38 #[.int .u64 (bi v), .int .u64 (bi m)])
  have B0 : Below w.heap.size w (w.alloc (.cells #[.int .u64 (bi v), .int .u64 (bi m)] 38)) := by go_grown
  generalize (w.alloc (.cells #[.int .u64 (bi v), .int .u64 (bi m)] 38)) = w0 at *
  have H0 := Lib.hid K0
  have HB := Lib.hid B0
  clear K0 B0
  have P := H0
  clear H0
  obtain ⟨cP0, cP1⟩ := tcells P.out
  with_reducible refine (fromt_to ⟨v, m⟩ u s EU.out ES.out _).mono ?_
  rintro e w1 ⟨rfl, qb⟩
  replace P := Lib.hid (P.out.below qb P.out.lt)
  replace HB := Lib.hid (below_then HB.out qb (Nat.le_refl _))
  clear qb cP0 cP1
  obtain ⟨cP0, cP1⟩ := tcells P.out
  obtain ⟨dP0, dP1⟩ := tcells ((P.out.alloc (.cells #[.int .u64 u.lo, .int .u64 u.hi] 24)).alloc (.cells #[.int .i64 s.lo, .int .i64 s.hi] 35))
  go_wp2_with fail
  clear dP0 dP1
  replace P := Lib.hid ((P.out.alloc (.cells #[.int .u64 u.lo, .int .u64 u.hi] 24)).alloc (.cells #[.int .i64 s.lo, .int .i64 s.hi] 35))
  have A0 := ((Bk.new w1 24 #[.int .u64 u.lo, .int .u64 u.hi]).alloc (.cells #[.int .i64 s.lo, .int .i64 s.hi] 35))
  have A := Lib.hid A0
  clear A0
  have B0 := (Bk.new (w1.alloc (.cells #[.int .u64 u.lo, .int .u64 u.hi] 24)) 35 #[.int .i64 s.lo, .int .i64 s.hi])
  rw [World.size_alloc] at B0
  have B := Lib.hid B0
  clear B0
  replace HB := Lib.hid (below_al (below_al HB.out (.cells #[.int .u64 u.lo, .int .u64 u.hi] 24)) (.cells #[.int .i64 s.lo, .int .i64 s.hi] 35))
  clear cP0 cP1
  generalize ((w1.alloc (.cells #[.int .u64 u.lo, .int .u64 u.hi] 24)).alloc (.cells #[.int .i64 s.lo, .int .i64 s.hi] 35)) = v1 at *
  obtain ⟨cP0, cP1⟩ := tcells P.out
  obtain ⟨cA0, cA1⟩ := tcells A.out
  obtain ⟨cB0, cB1⟩ := tcells B.out
  with_reducible refine (rfromt_to ⟨v, m⟩ u s MT.out EU.out ES.out _).mono ?_
  rintro e w2 ⟨rfl, qb⟩
  replace P := Lib.hid (P.out.below qb P.out.lt)
  replace A := Lib.hid (A.out.below qb A.out.lt)
  replace B := Lib.hid (B.out.below qb B.out.lt)
  replace HB := Lib.hid (below_then HB.out qb (Nat.le_refl _))
  clear qb cP0 cP1 cA0 cA1 cB0 cB1
  obtain ⟨cP0, cP1⟩ := tcells P.out
  obtain ⟨cA0, cA1⟩ := tcells A.out
  obtain ⟨cB0, cB1⟩ := tcells B.out
  obtain ⟨dP0, dP1⟩ := tcells ((P.out.alloc (.cells #[.int .u64 u.lo, .int .u64 u.hi] 24)).alloc (.cells #[.int .i64 s.lo, .int .i64 s.hi] 35))
  obtain ⟨dA0, dA1⟩ := tcells ((A.out.alloc (.cells #[.int .u64 u.lo, .int .u64 u.hi] 24)).alloc (.cells #[.int .i64 s.lo, .int .i64 s.hi] 35))
  obtain ⟨dB0, dB1⟩ := tcells ((B.out.alloc (.cells #[.int .u64 u.lo, .int .u64 u.hi] 24)).alloc (.cells #[.int .i64 s.lo, .int .i64 s.hi] 35))
  go_wp2_with fail
  clear dP0 dP1 dA0 dA1 dB0 dB1
  replace P := Lib.hid ((P.out.alloc (.cells #[.int .u64 u.lo, .int .u64 u.hi] 24)).alloc (.cells #[.int .i64 s.lo, .int .i64 s.hi] 35))
  replace A := Lib.hid ((A.out.alloc (.cells #[.int .u64 u.lo, .int .u64 u.hi] 24)).alloc (.cells #[.int .i64 s.lo, .int .i64 s.hi] 35))
  replace B := Lib.hid ((B.out.alloc (.cells #[.int .u64 u.lo, .int .u64 u.hi] 24)).alloc (.cells #[.int .i64 s.lo, .int .i64 s.hi] 35))
  have C0 := ((Bk.new w2 24 #[.int .u64 u.lo, .int .u64 u.hi]).alloc (.cells #[.int .i64 s.lo, .int .i64 s.hi] 35))
  have C := Lib.hid C0
  clear C0
  have D0 := (Bk.new (w2.alloc (.cells #[.int .u64 u.lo, .int .u64 u.hi] 24)) 35 #[.int .i64 s.lo, .int .i64 s.hi])
  rw [World.size_alloc] at D0
  have D := Lib.hid D0
  clear D0
  replace HB := Lib.hid (below_al (below_al HB.out (.cells #[.int .u64 u.lo, .int .u64 u.hi] 24)) (.cells #[.int .i64 s.lo, .int .i64 s.hi] 35))
  clear cP0 cP1 cA0 cA1 cB0 cB1
  generalize ((w2.alloc (.cells #[.int .u64 u.lo, .int .u64 u.hi] 24)).alloc (.cells #[.int .i64 s.lo, .int .i64 s.hi] 35)) = v2 at *
  obtain ⟨cP0, cP1⟩ := tcells P.out
  obtain ⟨cA0, cA1⟩ := tcells A.out
  obtain ⟨cB0, cB1⟩ := tcells B.out
  obtain ⟨cC0, cC1⟩ := tcells C.out
  obtain ⟨cD0, cD1⟩ := tcells D.out
  with_reducible refine (works_any _).mono ?_
  rintro e w3 ⟨rfl, qb⟩
  replace P := Lib.hid (P.out.below qb P.out.lt)
  replace A := Lib.hid (A.out.below qb A.out.lt)
  replace B := Lib.hid (B.out.below qb B.out.lt)
  replace C := Lib.hid (C.out.below qb C.out.lt)
  replace D := Lib.hid (D.out.below qb D.out.lt)
  replace HB := Lib.hid (below_then HB.out qb (Nat.le_refl _))
  clear qb cP0 cP1 cA0 cA1 cB0 cB1 cC0 cC1 cD0 cD1
  obtain ⟨cP0, cP1⟩ := tcells P.out
  obtain ⟨cA0, cA1⟩ := tcells A.out
  obtain ⟨cB0, cB1⟩ := tcells B.out
  obtain ⟨cC0, cC1⟩ := tcells C.out
  obtain ⟨cD0, cD1⟩ := tcells D.out
  go_wp2_with fail
  go_returns
  exact ⟨rfl, HB.out⟩

set_option maxRecDepth 100000 in
theorem lifted (os : Os) (started : os.Started) (H : Type) (enc : TypeId × Value → H) :
    ReturnsInHanded {} Try.checked os 5 .any (Rows.spanBitsSpec.pre6 enc Try.prog Try.f5 Rows.spanBitsRow.domain false) (Rows.spanBitsSpec.post enc Try.prog Try.f5 false true false false) := by
  refine returnsInHanded_of_change (C := Try.checked) own started (by kernel_rfl) Try.func5
    (ChangeSpec.witness6 (enc := enc) (C := Try.checked) false ⟨#[], #[.agg #[.int .u64 0, .int .u64 0]], []⟩ 8 (by kernel_rfl) (by kernel_rfl) (by kernel_rfl) (by kernel_rfl)) ?_
  intro W base args ds gs before hval0 hW hcnd _
  have hval : ∀ (j : Nat) t v, Try.f5.params[j]? = some t → args[j]? = some v → Value.okWide Try.prog W .any base t v := hval0
  have hW' := hW
  obtain ⟨p, q, hA0, hV, rfl, hfz, hnd⟩ := hW
  have hA : DataW.TrodAll enc Try.prog W 0 (fun _ => true) true Try.f5.params.toList args.toList ds p := hA0
  rw [Try.params5] at hA hval
  obtain ⟨v0, vs0, d0, ds0, p0, q0, hargs, rfl, rfl, h0, r0⟩ := trodAll_cons hA
  obtain ⟨rfl, rfl, rfl⟩ := trodAll_nil r0
  obtain rfl : args = #[v0] := by cases args; simp_all
  obtain ⟨rfl, rfl⟩ := trodVars_none hV
  have k0 := h0
  have lt0 : ∀ x ∈ p0, x.block < W.heap.size := by obtain ⟨m, hm⟩ := k0; exact DataW.trod_lt m _ _ _ hm
  obtain ⟨x0, rfl⟩ := open_tn (hval 0 38 v0 rfl rfl) h0
  clear hA0 hval0
  refine (walk x0 W ).mono fun e W' ⟨he, bel⟩ => ?_
  subst he
  exact ⟨_, rfl, _, _, _, [], _, [], hW', trodAll_mk1 (shut_bool Try.underlying4 _), (trodAll_cons_mk (Below.trod laidOut (by kernel_rfl) (of_decide_eq_true (by kernel_rfl)) k0 bel lt0) trodAll_mk0), rfl, bel.frame _, fun h => by cases h⟩

theorem over : Rows.spanBitsRow.holds Try.pinned (OpenSpec.ofChange Rows.spanBitsSpec) :=
  OpenClaim.holds_of_wide 5 Try.f5 rfl rfl rfl rfl rfl rfl rfl ⟨rfl, rfl, rfl, rfl, rfl⟩ rfl rfl rfl rfl rfl (by kernel_rfl) Try.func5 (by kernel_rfl)
    (of_decide_eq_true (by kernel_rfl)) (by unfold Func.isWrapper; first | (rw [if_pos (by decide +kernel)]; kernel_rfl) | (rw [if_neg (by decide +kernel)]; exact ⟨rfl, rfl⟩))
    (fun os started H enc _ => lifted os started H enc)

theorem proved : Rows.SpanBitsSaid := over
#print axioms proved
end Go.Proofs.Ythjjfginenpfjaa.spanBits
