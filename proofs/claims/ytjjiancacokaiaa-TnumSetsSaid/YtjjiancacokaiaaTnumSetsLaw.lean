/-
  Proved: the statement TnumSets: of any tnums that may be, what is of them, within them, what has both and what both have is what the document says. No conditions.
-/
import Derived.Test.YtjjiancacokaiaaRows
import Derived.Test.YtjjiancacokaiaaTnumTo2
import Derived.Deep.RegionHeld3
import Derived.WalkKit
import Derived.ProofKit
import Derived.OpenShut
import Derived.ChangeOld
import Derived.Below
import Derived.Handy
namespace Go.Proofs.Ytjjiancacokaiaa.tnumSets
open Go.ChangeShapes Go.WideShapes Go.ChangeAt Go.RowKit Tn Ow
set_option linter.unusedVariables false
set_option linter.unusedSimpArgs false

theorem own : ownKnob Try.prog.godebug = none := by kernel_rfl
theorem laidOut : laidOutB Try.prog = true := by kernel_rfl

theorem eight_keep {w W w2 : World} {p0 p1 p2 p3 p4 p5 p6 p7 : Addr} {y0 y1 y2 y3 y4 y5 y6 y7 : Value} (hb : Below W.heap.size W w2) (hh : W.cell? p0 = some y0 ∧ W.cell? p1 = some y1 ∧ W.cell? p2 = some y2 ∧ W.cell? p3 = some y3 ∧ W.cell? p4 = some y4 ∧ W.cell? p5 = some y5 ∧ W.cell? p6 = some y6 ∧ W.cell? p7 = some y7 ∧ Below w.heap.size w W) :
    w2.cell? p0 = some y0 ∧ w2.cell? p1 = some y1 ∧ w2.cell? p2 = some y2 ∧ w2.cell? p3 = some y3 ∧ w2.cell? p4 = some y4 ∧ w2.cell? p5 = some y5 ∧ w2.cell? p6 = some y6 ∧ w2.cell? p7 = some y7 ∧ Below w.heap.size w w2 := by
  obtain ⟨a0, a1, a2, a3, a4, a5, a6, a7, B⟩ := hh
  exact ⟨keep1 hb a0, keep1 hb a1, keep1 hb a2, keep1 hb a3, keep1 hb a4, keep1 hb a5, keep1 hb a6, keep1 hb a7, below_then B hb (Nat.le_refl _)⟩

set_option maxRecDepth 100000 in
set_option maxHeartbeats 4000000 in
theorem walk (x0 : T) (x1 : T) (u2 : BitVec 64) (w : World) :
    Calls Try.prog 3 #[.agg #[.int .u64 (bi x0.v), .int .u64 (bi x0.m)], .agg #[.int .u64 (bi x1.v), .int .u64 (bi x1.m)], .int .u64 (bi u2)] w fun e w' => e = .returned (.bool true) ∧ Below w.heap.size w w' := by
  obtain ⟨a, ea⟩ : ∃ a : T, exc x0.v x0.m = a := ⟨_, rfl⟩
  have EA := Lib.hid ea
  have MA := Lib.hid (show mayT a by rw [← ea]; exact may_exc _ _)
  clear ea
  obtain ⟨b, eb⟩ : ∃ a : T, exc x1.v x1.m = a := ⟨_, rfl⟩
  have EB := Lib.hid eb
  have MB := Lib.hid (show mayT b by rw [← eb]; exact may_exc _ _)
  clear eb
  have q1 := kql
  have q2 := kguard .eql
  obtain ⟨r, hr⟩ : ∃ r : T, meetT a b = r := ⟨_, rfl⟩
  obtain ⟨o, ho⟩ : ∃ o : Bool, meetOk a b = o := ⟨_, rfl⟩
  obtain ⟨p, hp⟩ : ∃ o : Bool, inT a u2 = o := ⟨_, rfl⟩
  obtain ⟨s, hs⟩ : ∃ o : Bool, withT a b = o := ⟨_, rfl⟩
  have HR := Lib.hid hr
  have HO := Lib.hid ho
  have HP := Lib.hid hp
  have HS := Lib.hid hs
  clear hr ho hp hs
  have h0 := bi_bd u2
  go_enter Try.func3, Try.ntmps3
  go_wp2_with fail
  have K0 := ((Bk.new w 24 #[.int .u64 (bi x0.v), .int .u64 (bi x0.m)]).alloc (.cells #[.int .u64 (bi x1.v), .int .u64 (bi x1.m)] 24))
  have K1 := (Bk.new (w.alloc (.cells #[.int .u64 (bi x0.v), .int .u64 (bi x0.m)] 24)) 24 #[.int .u64 (bi x1.v), .int .u64 (bi x1.m)])
  rw [World.size_alloc] at K1
  have B0 : Below w.heap.size w ((w.alloc (.cells #[.int .u64 (bi x0.v), .int .u64 (bi x0.m)] 24)).alloc (.cells #[.int .u64 (bi x1.v), .int .u64 (bi x1.m)] 24)) := by go_grown
  generalize ((w.alloc (.cells #[.int .u64 (bi x0.v), .int .u64 (bi x0.m)] 24)).alloc (.cells #[.int .u64 (bi x1.v), .int .u64 (bi x1.m)] 24)) = w0 at *
  have H0 := Lib.hid K0
  have H1 := Lib.hid K1
  have HB := Lib.hid B0
  clear K0 K1 B0
  have A := H0
  clear H0
  have B := H1
  clear H1
  obtain ⟨cA0, cA1⟩ := tcells A.out
  obtain ⟨cB0, cB1⟩ := tcells B.out
  with_reducible refine (may_to x0 a EA.out _).mono ?_
  rintro e w1 ⟨rfl, qb⟩
  replace A := Lib.hid (bk_keep A.out qb)
  replace B := Lib.hid (bk_keep B.out qb)
  replace HB := Lib.hid (below_then HB.out qb (Nat.le_refl _))
  clear qb cA0 cA1 cB0 cB1
  obtain ⟨cA0, cA1⟩ := tcells A.out
  obtain ⟨cB0, cB1⟩ := tcells B.out
  have fA0 := A.out.frozen 0
  have fA1 := A.out.frozen 1
  go_wp2_with fail
  replace A := Lib.hid (bk_st A.out a)
  replace B := Lib.hid (bk_fr (r := w.heap.size) B.out (by omega) a)
  replace HB := Lib.hid (below_st (r := w.heap.size) HB.out (by omega) a)
  clear fA0 fA1 cA0 cA1 cB0 cB1
  generalize World.setCell (World.setCell w1 ⟨w.heap.size, 0, none⟩ (.int .u64 (bi a.v))) ⟨w.heap.size, 1, none⟩ (.int .u64 (bi a.m)) = v1 at *
  obtain ⟨cA0, cA1⟩ := tcells A.out
  obtain ⟨cB0, cB1⟩ := tcells B.out
  with_reducible refine (may_to x1 b EB.out _).mono ?_
  rintro e w2 ⟨rfl, qb⟩
  replace A := Lib.hid (bk_keep A.out qb)
  replace B := Lib.hid (bk_keep B.out qb)
  replace HB := Lib.hid (below_then HB.out qb (Nat.le_refl _))
  clear qb cA0 cA1 cB0 cB1
  obtain ⟨cA0, cA1⟩ := tcells A.out
  obtain ⟨cB0, cB1⟩ := tcells B.out
  have fB0 := B.out.frozen 0
  have fB1 := B.out.frozen 1
  go_wp2_with fail
  replace A := Lib.hid (bk_fr (r := (w.heap.size + 1)) A.out (by omega) b)
  replace B := Lib.hid (bk_st B.out b)
  replace HB := Lib.hid (below_st (r := (w.heap.size + 1)) HB.out (by omega) b)
  clear fB0 fB1 cA0 cA1 cB0 cB1
  generalize World.setCell (World.setCell w2 ⟨(w.heap.size + 1), 0, none⟩ (.int .u64 (bi b.v))) ⟨(w.heap.size + 1), 1, none⟩ (.int .u64 (bi b.m)) = v2 at *
  obtain ⟨cA0, cA1⟩ := tcells A.out
  obtain ⟨cB0, cB1⟩ := tcells B.out
  with_reducible refine (meet_to a b r o HR.out HO.out _).mono ?_
  rintro e w3 ⟨rfl, qb⟩
  replace A := Lib.hid (bk_keep A.out qb)
  replace B := Lib.hid (bk_keep B.out qb)
  replace HB := Lib.hid (below_then HB.out qb (Nat.le_refl _))
  clear qb cA0 cA1 cB0 cB1
  obtain ⟨cA0, cA1⟩ := tcells A.out
  obtain ⟨cB0, cB1⟩ := tcells B.out
  obtain ⟨dA0, dA1⟩ := tcells (bk_al A.out (.cells #[.int .u64 (bi r.v), .int .u64 (bi r.m)] 24))
  obtain ⟨dB0, dB1⟩ := tcells (bk_al B.out (.cells #[.int .u64 (bi r.v), .int .u64 (bi r.m)] 24))
  go_wp2_with fail
  clear dA0 dA1 dB0 dB1
  have C0 := new_bk HB.out r
  replace A := Lib.hid (bk_al A.out (.cells #[.int .u64 (bi r.v), .int .u64 (bi r.m)] 24))
  replace B := Lib.hid (bk_al B.out (.cells #[.int .u64 (bi r.v), .int .u64 (bi r.m)] 24))
  have C := Lib.hid C0.1
  replace HB := Lib.hid C0.2
  clear C0 cA0 cA1 cB0 cB1
  generalize World.alloc w3 (.cells #[.int .u64 (bi r.v), .int .u64 (bi r.m)] 24) = v3 at *
  obtain ⟨cA0, cA1⟩ := tcells A.out
  obtain ⟨cB0, cB1⟩ := tcells B.out
  obtain ⟨cC0, cC1⟩ := tcells C.out
  with_reducible refine (refmeet_to a b r o MA.out MB.out HR.out HO.out _).mono ?_
  rintro e w4 ⟨rfl, qb⟩
  replace A := Lib.hid (bk_keep A.out qb)
  replace B := Lib.hid (bk_keep B.out qb)
  replace C := Lib.hid (bk_keep C.out qb)
  replace HB := Lib.hid (below_then HB.out qb (Nat.le_refl _))
  clear qb cA0 cA1 cB0 cB1 cC0 cC1
  obtain ⟨cA0, cA1⟩ := tcells A.out
  obtain ⟨cB0, cB1⟩ := tcells B.out
  obtain ⟨cC0, cC1⟩ := tcells C.out
  obtain ⟨dA0, dA1⟩ := tcells (bk_al A.out (.cells #[.int .u64 (bi r.v), .int .u64 (bi r.m)] 24))
  obtain ⟨dB0, dB1⟩ := tcells (bk_al B.out (.cells #[.int .u64 (bi r.v), .int .u64 (bi r.m)] 24))
  obtain ⟨dC0, dC1⟩ := tcells (bk_al C.out (.cells #[.int .u64 (bi r.v), .int .u64 (bi r.m)] 24))
  go_wp2_with fail
  clear dA0 dA1 dB0 dB1 dC0 dC1
  have D0 := new_bk HB.out r
  replace A := Lib.hid (bk_al A.out (.cells #[.int .u64 (bi r.v), .int .u64 (bi r.m)] 24))
  replace B := Lib.hid (bk_al B.out (.cells #[.int .u64 (bi r.v), .int .u64 (bi r.m)] 24))
  replace C := Lib.hid (bk_al C.out (.cells #[.int .u64 (bi r.v), .int .u64 (bi r.m)] 24))
  have D := Lib.hid D0.1
  replace HB := Lib.hid D0.2
  clear D0 cA0 cA1 cB0 cB1 cC0 cC1
  generalize World.alloc w4 (.cells #[.int .u64 (bi r.v), .int .u64 (bi r.m)] 24) = v4 at *
  obtain ⟨cA0, cA1⟩ := tcells A.out
  obtain ⟨cB0, cB1⟩ := tcells B.out
  obtain ⟨cC0, cC1⟩ := tcells C.out
  obtain ⟨cD0, cD1⟩ := tcells D.out
  go_region_held3 (fun w' => w'.cell? ⟨w.heap.size, 0, none⟩ = some (.int .u64 (bi a.v)) ∧ w'.cell? ⟨w.heap.size, 1, none⟩ = some (.int .u64 (bi a.m)) ∧ w'.cell? ⟨w.heap.size + 1, 0, none⟩ = some (.int .u64 (bi b.v)) ∧ w'.cell? ⟨w.heap.size + 1, 1, none⟩ = some (.int .u64 (bi b.m)) ∧ w'.cell? ⟨w3.heap.size, 0, none⟩ = some (.int .u64 (bi r.v)) ∧ w'.cell? ⟨w3.heap.size, 1, none⟩ = some (.int .u64 (bi r.m)) ∧ w'.cell? ⟨w4.heap.size, 0, none⟩ = some (.int .u64 (bi r.v)) ∧ w'.cell? ⟨w4.heap.size, 1, none⟩ = some (.int .u64 (bi r.m)) ∧ Below w.heap.size w w')
    (first | exact ⟨cA0, cA1, cB0, cB1, cC0, cC1, cD0, cD1, HB.out.drew⟩ | exact eight_keep qb (by assumption) | exact eight_keep qb ⟨by assumption, by assumption, by assumption, by assumption, by assumption, by assumption, by assumption, by assumption, by assumption⟩ | exact eight_keep qb ⟨cA0, cA1, cB0, cB1, cC0, cC1, cD0, cD1, HB.out.drew⟩)
    (first | (go_at_call 15; with_reducible refine (of_any u2 _).mono ?_; rintro e w2 ⟨rfl, qb⟩) | (go_at_call 16; with_reducible refine (refof_any u2 _).mono ?_; rintro e w2 ⟨rfl, qb⟩) | (go_at_call 17; with_reducible refine (any_any _).mono ?_; rintro e w2 ⟨rfl, qb⟩) | (go_at_call 18; with_reducible refine (refany_any _).mono ?_; rintro e w2 ⟨rfl, qb⟩) | (go_at_call 19; with_reducible refine (in_to a u2 p HP.out _).mono ?_; rintro e w2 ⟨rfl, qb⟩) | (go_at_call 20; with_reducible refine (refin_to a u2 p HP.out _).mono ?_; rintro e w2 ⟨rfl, qb⟩) | (go_at_call 21; with_reducible refine (within_to a b s HS.out _).mono ?_; rintro e w2 ⟨rfl, qb⟩) | (go_at_call 22; with_reducible refine (refwithin_to a b s MB.out HS.out _).mono ?_; rintro e w2 ⟨rfl, qb⟩) | (go_at_call 23; with_reducible refine (join_any a b _).mono ?_; rintro e w2 ⟨rfl, qb⟩) | (go_at_call 24; with_reducible refine (refjoin_any a b _).mono ?_; rintro e w2 ⟨rfl, qb⟩) | (go_at_call 25; with_reducible refine (known_any _).mono ?_; rintro e w2 ⟨rfl, qb⟩))
  have BB : Hid (Below w.heap.size w w2) := by
    rename_i hH
    exact Lib.hid hH.2.2.2.2.2.2.2.2
  clear qb
  go_wp2
  go_returns
  exact ⟨rfl, BB.out⟩

set_option maxRecDepth 100000 in
theorem lifted (os : Os) (started : os.Started) (H : Type) (enc : TypeId × Value → H) :
    ReturnsInHanded {} Try.checked os 3 .any (Rows.tnumSetsSpec.pre6 enc Try.prog Try.f3 Rows.tnumSetsRow.domain false) (Rows.tnumSetsSpec.post enc Try.prog Try.f3 false true false false) := by
  refine returnsInHanded_of_change (C := Try.checked) own started (by kernel_rfl) Try.func3
    (ChangeSpec.witness6 (enc := enc) (C := Try.checked) false ⟨#[], #[.agg #[.int .u64 0, .int .u64 0], .agg #[.int .u64 0, .int .u64 0], .int .u64 0], []⟩ 8 (by kernel_rfl) (by kernel_rfl) (by kernel_rfl) (by kernel_rfl)) ?_
  intro W base args ds gs before hval0 hW hcnd _
  have hval : ∀ (j : Nat) t v, Try.f3.params[j]? = some t → args[j]? = some v → Value.okWide Try.prog W .any base t v := hval0
  have hW' := hW
  obtain ⟨p, q, hA0, hV, rfl, hfz, hnd⟩ := hW
  have hA : DataW.TrodAll enc Try.prog W 0 (fun _ => true) true Try.f3.params.toList args.toList ds p := hA0
  rw [Try.params3] at hA hval
  obtain ⟨v0, vs0, d0, ds0, p0, q0, hargs, rfl, rfl, h0, r0⟩ := trodAll_cons hA
  obtain ⟨v1, vs1, d1, ds1, p1, q1, rfl, rfl, rfl, h1, r1⟩ := trodAll_cons r0
  obtain ⟨v2, vs2, d2, ds2, p2, q2, rfl, rfl, rfl, h2, r2⟩ := trodAll_cons r1
  obtain ⟨rfl, rfl, rfl⟩ := trodAll_nil r2
  obtain rfl : args = #[v0, v1, v2] := by cases args; simp_all
  obtain ⟨rfl, rfl⟩ := trodVars_none hV
  have k0 := h0
  have lt0 : ∀ x ∈ p0, x.block < W.heap.size := by obtain ⟨m, hm⟩ := k0; exact DataW.trod_lt m _ _ _ hm
  obtain ⟨x0, rfl⟩ := open_tn (hval 0 24 v0 rfl rfl) h0
  have k1 := h1
  have lt1 : ∀ x ∈ p1, x.block < W.heap.size := by obtain ⟨m, hm⟩ := k1; exact DataW.trod_lt m _ _ _ hm
  obtain ⟨x1, rfl⟩ := open_tn (hval 1 24 v1 rfl rfl) h1
  obtain ⟨n2, rfl, rfl, rfl, w2⟩ := open_int Try.underlying22 (hval 2 22 v2 rfl rfl) h2
  have ww2 := w2
  obtain ⟨u2, rfl⟩ := u64_bi w2
  clear hA0 hval0
  refine (walk x0 x1 u2 W   ).mono fun e W' ⟨he, bel⟩ => ?_
  subst he
  exact ⟨_, rfl, _, _, _, [], _, [], hW', trodAll_mk1 (shut_bool Try.underlying4 _), (trodAll_cons_mk (Below.trod laidOut (by kernel_rfl) (of_decide_eq_true (by kernel_rfl)) k0 bel lt0) (trodAll_cons_mk (Below.trod laidOut (by kernel_rfl) (of_decide_eq_true (by kernel_rfl)) k1 bel lt1) (trodAll_cons_mk (shut_int Try.underlying22 ww2) trodAll_mk0))), rfl, bel.frame _, fun h => by cases h⟩

theorem over : Rows.tnumSetsRow.holds Try.pinned (OpenSpec.ofChange Rows.tnumSetsSpec) :=
  OpenClaim.holds_of_wide 3 Try.f3 rfl rfl rfl rfl rfl rfl rfl ⟨rfl, rfl, rfl, rfl, rfl⟩ rfl rfl rfl rfl rfl (by kernel_rfl) Try.func3 (by kernel_rfl)
    (of_decide_eq_true (by kernel_rfl)) (by unfold Func.isWrapper; first | (rw [if_pos (by decide +kernel)]; kernel_rfl) | (rw [if_neg (by decide +kernel)]; exact ⟨rfl, rfl⟩))
    (fun os started H enc _ => lifted os started H enc)

theorem proved : Rows.TnumSetsSaid := over
#print axioms proved
end Go.Proofs.Ytjjiancacokaiaa.tnumSets
