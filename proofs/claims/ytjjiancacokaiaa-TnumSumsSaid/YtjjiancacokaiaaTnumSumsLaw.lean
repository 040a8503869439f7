/-
  Proved: the statement TnumSums: of any tnums that may be, sums, differences and products are what the document says. No conditions.
-/
import Derived.Test.YtjjiancacokaiaaRows
import Derived.Test.YtjjiancacokaiaaTnumTo2
import Derived.Deep.RegionHeld3
import Derived.WalkKit
import Derived.ProofKit
import Derived.OpenShut
import Derived.ChangeOld
import Derived.Below
import Derived.Handy
namespace Go.Proofs.Ytjjiancacokaiaa.tnumSums
open Go.ChangeShapes Go.WideShapes Go.ChangeAt Go.RowKit Tn Ow
set_option linter.unusedVariables false
set_option linter.unusedSimpArgs false

theorem own : ownKnob Try.prog.godebug = none := by kernel_rfl
theorem laidOut : laidOutB Try.prog = true := by kernel_rfl



set_option maxRecDepth 100000 in
set_option maxHeartbeats 4000000 in
theorem walk (x0 : T) (x1 : T) (w : World) :
    Calls Try.prog 4 #[.agg #[.int .u64 (bi x0.v), .int .u64 (bi x0.m)], .agg #[.int .u64 (bi x1.v), .int .u64 (bi x1.m)]] w fun e w' => e = .returned (.bool true) ∧ Below w.heap.size w w' := by
  obtain ⟨a, ea⟩ : ∃ a : T, exc x0.v x0.m = a := ⟨_, rfl⟩
  have EA := Lib.hid ea
  have MA := Lib.hid (show mayT a by rw [← ea]; exact may_exc _ _)
  clear ea
  obtain ⟨b, eb⟩ : ∃ a : T, exc x1.v x1.m = a := ⟨_, rfl⟩
  have EB := Lib.hid eb
  have MB := Lib.hid (show mayT b by rw [← eb]; exact may_exc _ _)
  clear eb
  have q1 := kql
  have q2 := kguard .eql
  go_enter Try.func4, Try.ntmps4
  go_wp2_with fail
  have K0 := ((Bk.new w 24 #[.int .u64 (bi x0.v), .int .u64 (bi x0.m)]).alloc (.cells #[.int .u64 (bi x1.v), .int .u64 (bi x1.m)] 24))
  have K1 := (Bk.new (w.alloc (.cells #[.int .u64 (bi x0.v), .int .u64 (bi x0.m)] 24)) 24 #[.int .u64 (bi x1.v), .int .u64 (bi x1.m)])
  rw [World.size_alloc] at K1
  have B0 : Below w.heap.size w ((w.alloc (.cells #[.int .u64 (bi x0.v), .int .u64 (bi x0.m)] 24)).alloc (.cells #[.int .u64 (bi x1.v), .int .u64 (bi x1.m)] 24)) := by go_grown
  generalize ((w.alloc (.cells #[.int .u64 (bi x0.v), .int .u64 (bi x0.m)] 24)).alloc (.cells #[.int .u64 (bi x1.v), .int .u64 (bi x1.m)] 24)) = w0 at *
  have H0 := Lib.hid K0
  have H1 := Lib.hid K1
  have HB := Lib.hid B0
  clear K0 K1 B0
  have A := H0
  clear H0
  have B := H1
  clear H1
  obtain ⟨cA0, cA1⟩ := tcells A.out
  obtain ⟨cB0, cB1⟩ := tcells B.out
  with_reducible refine (may_to x0 a EA.out _).mono ?_
  rintro e w1 ⟨rfl, qb⟩
  replace A := Lib.hid (bk_keep A.out qb)
  replace B := Lib.hid (bk_keep B.out qb)
  replace HB := Lib.hid (below_then HB.out qb (Nat.le_refl _))
  clear qb cA0 cA1 cB0 cB1
  obtain ⟨cA0, cA1⟩ := tcells A.out
  obtain ⟨cB0, cB1⟩ := tcells B.out
  have fA0 := A.out.frozen 0
  have fA1 := A.out.frozen 1
  go_wp2_with fail
  replace A := Lib.hid (bk_st A.out a)
  replace B := Lib.hid (bk_fr (r := w.heap.size) B.out (by omega) a)
  replace HB := Lib.hid (below_st (r := w.heap.size) HB.out (by omega) a)
  clear fA0 fA1 cA0 cA1 cB0 cB1
  generalize World.setCell (World.setCell w1 ⟨w.heap.size, 0, none⟩ (.int .u64 (bi a.v))) ⟨w.heap.size, 1, none⟩ (.int .u64 (bi a.m)) = v1 at *
  obtain ⟨cA0, cA1⟩ := tcells A.out
  obtain ⟨cB0, cB1⟩ := tcells B.out
  with_reducible refine (may_to x1 b EB.out _).mono ?_
  rintro e w2 ⟨rfl, qb⟩
  replace A := Lib.hid (bk_keep A.out qb)
  replace B := Lib.hid (bk_keep B.out qb)
  replace HB := Lib.hid (below_then HB.out qb (Nat.le_refl _))
  clear qb cA0 cA1 cB0 cB1
  obtain ⟨cA0, cA1⟩ := tcells A.out
  obtain ⟨cB0, cB1⟩ := tcells B.out
  have fB0 := B.out.frozen 0
  have fB1 := B.out.frozen 1
  go_wp2_with fail
  replace A := Lib.hid (bk_fr (r := (w.heap.size + 1)) A.out (by omega) b)
  replace B := Lib.hid (bk_st B.out b)
  replace HB := Lib.hid (below_st (r := (w.heap.size + 1)) HB.out (by omega) b)
  clear fB0 fB1 cA0 cA1 cB0 cB1
  generalize World.setCell (World.setCell w2 ⟨(w.heap.size + 1), 0, none⟩ (.int .u64 (bi b.v))) ⟨(w.heap.size + 1), 1, none⟩ (.int .u64 (bi b.m)) = v2 at *
  obtain ⟨cA0, cA1⟩ := tcells A.out
  obtain ⟨cB0, cB1⟩ := tcells B.out
  go_region_held3 (fun w' => w'.cell? ⟨w.heap.size, 0, none⟩ = some (.int .u64 (bi a.v)) ∧ w'.cell? ⟨w.heap.size, 1, none⟩ = some (.int .u64 (bi a.m)) ∧ w'.cell? ⟨w.heap.size + 1, 0, none⟩ = some (.int .u64 (bi b.v)) ∧ w'.cell? ⟨w.heap.size + 1, 1, none⟩ = some (.int .u64 (bi b.m)) ∧ Below w.heap.size w w')
    (first | exact ⟨cA0, cA1, cB0, cB1, HB.out.drew⟩ | exact four_keep qb (by assumption) | exact four_keep qb ⟨by assumption, by assumption, by assumption, by assumption, by assumption⟩ | exact four_keep qb ⟨cA0, cA1, cB0, cB1, HB.out.drew⟩)
    (first | (go_at_call 26; with_reducible refine (add_any a b _).mono ?_; rintro e w2 ⟨rfl, qb⟩) | (go_at_call 27; with_reducible refine (refadd_any a b _).mono ?_; rintro e w2 ⟨rfl, qb⟩) | (go_at_call 28; with_reducible refine (sub_any a b _).mono ?_; rintro e w2 ⟨rfl, qb⟩) | (go_at_call 29; with_reducible refine (refsub_any a b _).mono ?_; rintro e w2 ⟨rfl, qb⟩) | (go_at_call 30; with_reducible refine (mul_any a b _).mono ?_; rintro e w2 ⟨rfl, qb⟩) | (go_at_call 31; with_reducible refine (refmul_any a b _).mono ?_; rintro e w2 ⟨rfl, qb⟩) | (go_at_call 25; with_reducible refine (known_any _).mono ?_; rintro e w2 ⟨rfl, qb⟩))
  have BB : Hid (Below w.heap.size w w2) := by
    rename_i hH
    exact Lib.hid hH.2.2.2.2
  clear qb
  go_wp2
  go_returns
  exact ⟨rfl, BB.out⟩

set_option maxRecDepth 100000 in
theorem lifted (os : Os) (started : os.Started) (H : Type) (enc : TypeId × Value → H) :
    ReturnsInHanded {} Try.checked os 4 .any (Rows.tnumSumsSpec.pre6 enc Try.prog Try.f4 Rows.tnumSumsRow.domain false) (Rows.tnumSumsSpec.post enc Try.prog Try.f4 false true false false) := by
  refine returnsInHanded_of_change (C := Try.checked) own started (by kernel_rfl) Try.func4
    (ChangeSpec.witness6 (enc := enc) (C := Try.checked) false ⟨#[], #[.agg #[.int .u64 0, .int .u64 0], .agg #[.int .u64 0, .int .u64 0]], []⟩ 8 (by kernel_rfl) (by kernel_rfl) (by kernel_rfl) (by kernel_rfl)) ?_
  intro W base args ds gs before hval0 hW hcnd _
  have hval : ∀ (j : Nat) t v, Try.f4.params[j]? = some t → args[j]? = some v → Value.okWide Try.prog W .any base t v := hval0
  have hW' := hW
  obtain ⟨p, q, hA0, hV, rfl, hfz, hnd⟩ := hW
  have hA : DataW.TrodAll enc Try.prog W 0 (fun _ => true) true Try.f4.params.toList args.toList ds p := hA0
  rw [Try.params4] at hA hval
  obtain ⟨v0, vs0, d0, ds0, p0, q0, hargs, rfl, rfl, h0, r0⟩ := trodAll_cons hA
  obtain ⟨v1, vs1, d1, ds1, p1, q1, rfl, rfl, rfl, h1, r1⟩ := trodAll_cons r0
  obtain ⟨rfl, rfl, rfl⟩ := trodAll_nil r1
  obtain rfl : args = #[v0, v1] := by cases args; simp_all
  obtain ⟨rfl, rfl⟩ := trodVars_none hV
  have k0 := h0
  have lt0 : ∀ x ∈ p0, x.block < W.heap.size := by obtain ⟨m, hm⟩ := k0; exact DataW.trod_lt m _ _ _ hm
  obtain ⟨x0, rfl⟩ := open_tn (hval 0 24 v0 rfl rfl) h0
  have k1 := h1
  have lt1 : ∀ x ∈ p1, x.block < W.heap.size := by obtain ⟨m, hm⟩ := k1; exact DataW.trod_lt m _ _ _ hm
  obtain ⟨x1, rfl⟩ := open_tn (hval 1 24 v1 rfl rfl) h1
  clear hA0 hval0
  refine (walk x0 x1 W  ).mono fun e W' ⟨he, bel⟩ => ?_
  subst he
  exact ⟨_, rfl, _, _, _, [], _, [], hW', trodAll_mk1 (shut_bool Try.underlying4 _), (trodAll_cons_mk (Below.trod laidOut (by kernel_rfl) (of_decide_eq_true (by kernel_rfl)) k0 bel lt0) (trodAll_cons_mk (Below.trod laidOut (by kernel_rfl) (of_decide_eq_true (by kernel_rfl)) k1 bel lt1) trodAll_mk0)), rfl, bel.frame _, fun h => by cases h⟩

theorem over : Rows.tnumSumsRow.holds Try.pinned (OpenSpec.ofChange Rows.tnumSumsSpec) :=
  OpenClaim.holds_of_wide 4 Try.f4 rfl rfl rfl rfl rfl rfl rfl ⟨rfl, rfl, rfl, rfl, rfl⟩ rfl rfl rfl rfl rfl (by kernel_rfl) Try.func4 (by kernel_rfl)
    (of_decide_eq_true (by kernel_rfl)) (by unfold Func.isWrapper; first | (rw [if_pos (by decide +kernel)]; kernel_rfl) | (rw [if_neg (by decide +kernel)]; exact ⟨rfl, rfl⟩))
    (fun os started H enc _ => lifted os started H enc)

theorem proved : Rows.TnumSumsSaid := over
#print axioms proved
end Go.Proofs.Ytjjiancacokaiaa.tnumSums
