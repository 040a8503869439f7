/-
  Proved: the statement TnumBits: of any tnums that may be, any distance, bits and bytes, what is done bit by bit, shifts and cuts are what the document says. No conditions.
-/
import Derived.Test.YtjjiancacokaiaaRows
import Derived.Test.YtjjiancacokaiaaTnumTo2
import Derived.Deep.RegionHeld3
import Derived.WalkKit
import Derived.ProofKit
import Derived.OpenShut
import Derived.ChangeOld
import Derived.Below
import Derived.Handy
namespace Go.Proofs.Ytjjiancacokaiaa.tnumBits
open Go.ChangeShapes Go.WideShapes Go.ChangeAt Go.RowKit Tn Ow
set_option linter.unusedVariables false
set_option linter.unusedSimpArgs false

theorem own : ownKnob Try.prog.godebug = none := by kernel_rfl
theorem laidOut : laidOutB Try.prog = true := by kernel_rfl

def arshR (a : T) (n p : Int) : T := if p = 64 then arT a (n % 64).toNat else if p = 32 then ar32T a (n % 32).toNat else anyT
theorem arsh_to (a r : T) (n p : Int) (hn : -9223372036854775808 ≤ n ∧ n ≤ 9223372036854775807) (h : arshR a n p = r) (w : World) :
    Calls Try.prog 42 #[.agg #[.int .u64 (bi a.v), .int .u64 (bi a.m)], .int .i64 n, .int .i64 p] w fun e w' => e = .returned (.agg #[.int .u64 (bi r.v), .int .u64 (bi r.m)]) ∧ Below w.heap.size w w' := by subst h; exact arsh_all a n p hn w
theorem refarsh_to (a r : T) (n p : Int) (hn : -9223372036854775808 ≤ n ∧ n ≤ 9223372036854775807) (h : arshR a n p = r) (w : World) :
    Calls Try.prog 43 #[.agg #[.int .u64 (bi a.v), .int .u64 (bi a.m)], .int .i64 n, .int .i64 p] w fun e w' => e = .returned (.agg #[.int .u64 (bi r.v), .int .u64 (bi r.m)]) ∧ Below w.heap.size w w' := by subst h; exact refarsh_all a n p hn w
theorem kqn (a b : Int) (w : World) : (binOp .neq 24 (.agg #[.int .u64 a, .int .u64 b]) (.agg #[.int .u64 a, .int .u64 b])).run Try.prog w = .ok (.bool false) w := by
  rw [tn_neq0]; simp

set_option maxRecDepth 100000 in
set_option maxHeartbeats 4000000 in
theorem walk (x0 : T) (x1 : T) (n2 : Int) (n3 : Int) (w : World) (w2 : (Lit.int .i64 n2).wf = true) (w3 : (Lit.int .i64 n3).wf = true) :
    Calls Try.prog 5 #[.agg #[.int .u64 (bi x0.v), .int .u64 (bi x0.m)], .agg #[.int .u64 (bi x1.v), .int .u64 (bi x1.m)], .int .i64 n2, .int .i64 n3] w fun e w' => e = .returned (.bool true) ∧ Below w.heap.size w w' := by
  have hn := bounds_i64 w2
  have hb := bounds_i64 w3
  have HN := Lib.hid hn
  have HP := Lib.hid hb
  clear w2 w3
  obtain ⟨a, ea⟩ : ∃ a : T, exc x0.v x0.m = a := ⟨_, rfl⟩
  have EA := Lib.hid ea
  have MA := Lib.hid (show mayT a by rw [← ea]; exact may_exc _ _)
  clear ea
  obtain ⟨b, eb⟩ : ∃ a : T, exc x1.v x1.m = a := ⟨_, rfl⟩
  have EB := Lib.hid eb
  have MB := Lib.hid (show mayT b by rw [← eb]; exact may_exc _ _)
  clear eb
  have q1 := kql
  have q2 := kguard .eql
  have q3 := kqn
  have q4 := kguard .neq
  obtain ⟨k, hk⟩ : ∃ k : Nat, n2 % 64 = (k : Int) := ⟨(n2 % 64).toNat, by omega⟩
  have HK := Lib.hid hk
  clear hk
  obtain ⟨r, hr⟩ : ∃ r : T, arshR a n2 n3 = r := ⟨_, rfl⟩
  have HR := Lib.hid hr
  clear hr
  go_enter Try.func5, Try.ntmps5
  go_wp2_with fail
  have K0 := ((Bk.new w 24 #[.int .u64 (bi x0.v), .int .u64 (bi x0.m)]).alloc (.cells #[.int .u64 (bi x1.v), .int .u64 (bi x1.m)] 24))
  have K1 := (Bk.new (w.alloc (.cells #[.int .u64 (bi x0.v), .int .u64 (bi x0.m)] 24)) 24 #[.int .u64 (bi x1.v), .int .u64 (bi x1.m)])
  rw [World.size_alloc] at K1
  have B0 : Below w.heap.size w ((w.alloc (.cells #[.int .u64 (bi x0.v), .int .u64 (bi x0.m)] 24)).alloc (.cells #[.int .u64 (bi x1.v), .int .u64 (bi x1.m)] 24)) := by go_grown
  generalize ((w.alloc (.cells #[.int .u64 (bi x0.v), .int .u64 (bi x0.m)] 24)).alloc (.cells #[.int .u64 (bi x1.v), .int .u64 (bi x1.m)] 24)) = w0 at *
  have H0 := Lib.hid K0
  have H1 := Lib.hid K1
  have HB := Lib.hid B0
  clear K0 K1 B0
  have A := H0
  clear H0
  have B := H1
  clear H1
  obtain ⟨cA0, cA1⟩ := tcells A.out
  obtain ⟨cB0, cB1⟩ := tcells B.out
  with_reducible refine (may_to x0 a EA.out _).mono ?_
  rintro e w1 ⟨rfl, qb⟩
  replace A := Lib.hid (bk_keep A.out qb)
  replace B := Lib.hid (bk_keep B.out qb)
  replace HB := Lib.hid (below_then HB.out qb (Nat.le_refl _))
  clear qb cA0 cA1 cB0 cB1
  obtain ⟨cA0, cA1⟩ := tcells A.out
  obtain ⟨cB0, cB1⟩ := tcells B.out
  have fA0 := A.out.frozen 0
  have fA1 := A.out.frozen 1
  go_wp2_with fail
  replace A := Lib.hid (bk_st A.out a)
  replace B := Lib.hid (bk_fr (r := w.heap.size) B.out (by omega) a)
  replace HB := Lib.hid (below_st (r := w.heap.size) HB.out (by omega) a)
  clear fA0 fA1 cA0 cA1 cB0 cB1
  generalize World.setCell (World.setCell w1 ⟨w.heap.size, 0, none⟩ (.int .u64 (bi a.v))) ⟨w.heap.size, 1, none⟩ (.int .u64 (bi a.m)) = v1 at *
  obtain ⟨cA0, cA1⟩ := tcells A.out
  obtain ⟨cB0, cB1⟩ := tcells B.out
  with_reducible refine (may_to x1 b EB.out _).mono ?_
  rintro e w2 ⟨rfl, qb⟩
  replace A := Lib.hid (bk_keep A.out qb)
  replace B := Lib.hid (bk_keep B.out qb)
  replace HB := Lib.hid (below_then HB.out qb (Nat.le_refl _))
  clear qb cA0 cA1 cB0 cB1
  obtain ⟨cA0, cA1⟩ := tcells A.out
  obtain ⟨cB0, cB1⟩ := tcells B.out
  have fB0 := B.out.frozen 0
  have fB1 := B.out.frozen 1
  go_wp2_with fail
  replace A := Lib.hid (bk_fr (r := (w.heap.size + 1)) A.out (by omega) b)
  replace B := Lib.hid (bk_st B.out b)
  replace HB := Lib.hid (below_st (r := (w.heap.size + 1)) HB.out (by omega) b)
  clear fB0 fB1 cA0 cA1 cB0 cB1
  generalize World.setCell (World.setCell w2 ⟨(w.heap.size + 1), 0, none⟩ (.int .u64 (bi b.v))) ⟨(w.heap.size + 1), 1, none⟩ (.int .u64 (bi b.m)) = v2 at *
  obtain ⟨cA0, cA1⟩ := tcells A.out
  obtain ⟨cB0, cB1⟩ := tcells B.out
  go_region_held3 (fun w' => w'.cell? ⟨w.heap.size, 0, none⟩ = some (.int .u64 (bi a.v)) ∧ w'.cell? ⟨w.heap.size, 1, none⟩ = some (.int .u64 (bi a.m)) ∧ w'.cell? ⟨w.heap.size + 1, 0, none⟩ = some (.int .u64 (bi b.v)) ∧ w'.cell? ⟨w.heap.size + 1, 1, none⟩ = some (.int .u64 (bi b.m)) ∧ Below w.heap.size w w')
    (first | exact ⟨cA0, cA1, cB0, cB1, HB.out.drew⟩ | exact four_keep qb (by assumption) | exact four_keep qb ⟨by assumption, by assumption, by assumption, by assumption, by assumption⟩ | exact four_keep qb ⟨cA0, cA1, cB0, cB1, HB.out.drew⟩)
    (first | (go_at_call 32; with_reducible refine (and_any a b _).mono ?_; rintro e w2 ⟨rfl, qb⟩) | (go_at_call 33; with_reducible refine (refand_any a b _).mono ?_; rintro e w2 ⟨rfl, qb⟩) | (go_at_call 34; with_reducible refine (or_any a b _).mono ?_; rintro e w2 ⟨rfl, qb⟩) | (go_at_call 35; with_reducible refine (refor_any a b _).mono ?_; rintro e w2 ⟨rfl, qb⟩) | (go_at_call 36; with_reducible refine (xor_any a b _).mono ?_; rintro e w2 ⟨rfl, qb⟩) | (go_at_call 37; with_reducible refine (refxor_any a b _).mono ?_; rintro e w2 ⟨rfl, qb⟩))
  have BB : Hid (Below w.heap.size w w2) := by
    rename_i hH
    exact Lib.hid hH.2.2.2.2
  have KA : Hid (w2.cell? ⟨w.heap.size, 0, none⟩ = some (.int .u64 (bi a.v)) ∧ w2.cell? ⟨w.heap.size, 1, none⟩ = some (.int .u64 (bi a.m)) ∧ w2.cell? ⟨w.heap.size + 1, 0, none⟩ = some (.int .u64 (bi b.v)) ∧ w2.cell? ⟨w.heap.size + 1, 1, none⟩ = some (.int .u64 (bi b.m))) := by
    rename_i hH
    exact Lib.hid ⟨hH.1, hH.2.1, hH.2.2.1, hH.2.2.2.1⟩
  clear qb cA0 cA1 cB0 cB1 A B HB
  rename_i hH
  clear hH
  obtain ⟨cA0, cA1, cB0, cB1⟩ := KA.out
  have HB := BB
  clear BB KA
  go_wp2_with fail
  go_region_held3 (fun w' => w'.cell? ⟨w.heap.size, 0, none⟩ = some (.int .u64 (bi a.v)) ∧ w'.cell? ⟨w.heap.size, 1, none⟩ = some (.int .u64 (bi a.m)) ∧ w'.cell? ⟨w.heap.size + 1, 0, none⟩ = some (.int .u64 (bi b.v)) ∧ w'.cell? ⟨w.heap.size + 1, 1, none⟩ = some (.int .u64 (bi b.m)) ∧ Below w.heap.size w w')
    (first | exact ⟨cA0, cA1, cB0, cB1, HB.out.drew⟩ | exact four_keep qb (by assumption) | exact four_keep qb ⟨by assumption, by assumption, by assumption, by assumption, by assumption⟩ | exact four_keep qb ⟨cA0, cA1, cB0, cB1, HB.out.drew⟩)
    (first | (go_at_call 38; with_reducible refine (lsh_any a n2 k HK.out HN.out _).mono ?_; rintro e w2 ⟨rfl, qb⟩) | (go_at_call 39; with_reducible refine (reflsh_any a n2 k HK.out HN.out _).mono ?_; rintro e w2 ⟨rfl, qb⟩) | (go_at_call 40; with_reducible refine (rsh_any a n2 k HK.out HN.out _).mono ?_; rintro e w2 ⟨rfl, qb⟩) | (go_at_call 41; with_reducible refine (refrsh_any a n2 k HK.out HN.out _).mono ?_; rintro e w2 ⟨rfl, qb⟩) | (go_at_call 42; with_reducible refine (arsh_to a r n2 n3 HN.out HR.out _).mono ?_; rintro e w2 ⟨rfl, qb⟩) | (go_at_call 43; with_reducible refine (refarsh_to a r n2 n3 HN.out HR.out _).mono ?_; rintro e w2 ⟨rfl, qb⟩) | (go_at_call 44; with_reducible refine (cut_any a n3 HP.out _).mono ?_; rintro e w2 ⟨rfl, qb⟩) | (go_at_call 45; with_reducible refine (refcut_any a n3 HP.out _).mono ?_; rintro e w2 ⟨rfl, qb⟩) | (go_at_call 25; with_reducible refine (known_any _).mono ?_; rintro e w2 ⟨rfl, qb⟩))
  have BB : Hid (Below w.heap.size w w2) := by
    rename_i hH
    exact Lib.hid hH.2.2.2.2
  clear qb
  go_wp2
  go_returns
  exact ⟨rfl, BB.out⟩

set_option maxRecDepth 100000 in
theorem lifted (os : Os) (started : os.Started) (H : Type) (enc : TypeId × Value → H) :
    ReturnsInHanded {} Try.checked os 5 .any (Rows.tnumBitsSpec.pre6 enc Try.prog Try.f5 Rows.tnumBitsRow.domain false) (Rows.tnumBitsSpec.post enc Try.prog Try.f5 false true false false) := by
  refine returnsInHanded_of_change (C := Try.checked) own started (by kernel_rfl) Try.func5
    (ChangeSpec.witness6 (enc := enc) (C := Try.checked) false ⟨#[], #[.agg #[.int .u64 0, .int .u64 0], .agg #[.int .u64 0, .int .u64 0], .int .i64 0, .int .i64 0], []⟩ 8 (by kernel_rfl) (by kernel_rfl) (by kernel_rfl) (by kernel_rfl)) ?_
  intro W base args ds gs before hval0 hW hcnd _
  have hval : ∀ (j : Nat) t v, Try.f5.params[j]? = some t → args[j]? = some v → Value.okWide Try.prog W .any base t v := hval0
  have hW' := hW
  obtain ⟨p, q, hA0, hV, rfl, hfz, hnd⟩ := hW
  have hA : DataW.TrodAll enc Try.prog W 0 (fun _ => true) true Try.f5.params.toList args.toList ds p := hA0
  rw [Try.params5] at hA hval
  obtain ⟨v0, vs0, d0, ds0, p0, q0, hargs, rfl, rfl, h0, r0⟩ := trodAll_cons hA
  obtain ⟨v1, vs1, d1, ds1, p1, q1, rfl, rfl, rfl, h1, r1⟩ := trodAll_cons r0
  obtain ⟨v2, vs2, d2, ds2, p2, q2, rfl, rfl, rfl, h2, r2⟩ := trodAll_cons r1
  obtain ⟨v3, vs3, d3, ds3, p3, q3, rfl, rfl, rfl, h3, r3⟩ := trodAll_cons r2
  obtain ⟨rfl, rfl, rfl⟩ := trodAll_nil r3
  obtain rfl : args = #[v0, v1, v2, v3] := by cases args; simp_all
  obtain ⟨rfl, rfl⟩ := trodVars_none hV
  have k0 := h0
  have lt0 : ∀ x ∈ p0, x.block < W.heap.size := by obtain ⟨m, hm⟩ := k0; exact DataW.trod_lt m _ _ _ hm
  obtain ⟨x0, rfl⟩ := open_tn (hval 0 24 v0 rfl rfl) h0
  have k1 := h1
  have lt1 : ∀ x ∈ p1, x.block < W.heap.size := by obtain ⟨m, hm⟩ := k1; exact DataW.trod_lt m _ _ _ hm
  obtain ⟨x1, rfl⟩ := open_tn (hval 1 24 v1 rfl rfl) h1
  obtain ⟨n2, rfl, rfl, rfl, w2⟩ := open_int Try.underlying3 (hval 2 3 v2 rfl rfl) h2
  obtain ⟨n3, rfl, rfl, rfl, w3⟩ := open_int Try.underlying3 (hval 3 3 v3 rfl rfl) h3
  clear hA0 hval0
  refine (walk x0 x1 n2 n3 W   w2 w3).mono fun e W' ⟨he, bel⟩ => ?_
  subst he
  exact ⟨_, rfl, _, _, _, [], _, [], hW', trodAll_mk1 (shut_bool Try.underlying4 _), (trodAll_cons_mk (Below.trod laidOut (by kernel_rfl) (of_decide_eq_true (by kernel_rfl)) k0 bel lt0) (trodAll_cons_mk (Below.trod laidOut (by kernel_rfl) (of_decide_eq_true (by kernel_rfl)) k1 bel lt1) (trodAll_cons_mk (shut_int Try.underlying3 w2) (trodAll_cons_mk (shut_int Try.underlying3 w3) trodAll_mk0)))), rfl, bel.frame _, fun h => by cases h⟩

theorem over : Rows.tnumBitsRow.holds Try.pinned (OpenSpec.ofChange Rows.tnumBitsSpec) :=
  OpenClaim.holds_of_wide 5 Try.f5 rfl rfl rfl rfl rfl rfl rfl ⟨rfl, rfl, rfl, rfl, rfl⟩ rfl rfl rfl rfl rfl (by kernel_rfl) Try.func5 (by kernel_rfl)
    (of_decide_eq_true (by kernel_rfl)) (by unfold Func.isWrapper; first | (rw [if_pos (by decide +kernel)]; kernel_rfl) | (rw [if_neg (by decide +kernel)]; exact ⟨rfl, rfl⟩))
    (fun os started H enc _ => lifted os started H enc)

theorem proved : Rows.TnumBitsSaid := over
#print axioms proved
end Go.Proofs.Ytjjiancacokaiaa.tnumBits
