/-
  Proved: the statement TnumAlone: of numbers alone all operations of package tnum tell the number alone. No conditions.
-/
import Derived.Test.YtjjiancacokaiaaRows
import Derived.Test.YtjjiancacokaiaaTnumTo
import Derived.WalkKit
import Derived.ProofKit
import Derived.OpenShut
import Derived.ChangeOld
import Derived.Below
import Derived.Handy
namespace Go.Proofs.Ytjjiancacokaiaa.tnumAlone
open Go.ChangeShapes Go.WideShapes Go.ChangeAt Go.RowKit Tn Ow
set_option linter.unusedVariables false
set_option linter.unusedSimpArgs false

theorem own : ownKnob Try.prog.godebug = none := by kernel_rfl
theorem laidOut : laidOutB Try.prog = true := by kernel_rfl



set_option maxRecDepth 100000 in
set_option maxHeartbeats 4000000 in
theorem walk (u0 : BitVec 64) (u1 : BitVec 64) (n2 : Int) (w : World) (w2 : (Lit.int .i64 n2).wf = true) :
    Calls Try.prog 7 #[.int .u64 (bi u0), .int .u64 (bi u1), .int .i64 n2] w fun e w' => e = .returned (.bool true) ∧ Below w.heap.size w w' := by
  have hn := bounds_i64 w2
  obtain ⟨k, hk⟩ : ∃ k : Nat, n2 % 64 = (k : Int) := ⟨(n2 % 64).toNat, by omega⟩
  obtain ⟨j, hj⟩ : ∃ j : Nat, n2 % 32 = (j : Int) := ⟨(n2 % 32).toNat, by omega⟩
  have Z64 := Lib.hid (wrap64k n2 k hk)
  have Z32 := Lib.hid (wrap32k n2 j hj)
  have HK := Lib.hid hk
  have HJ := Lib.hid hj
  have HN := Lib.hid hn
  clear hk hj w2
  have h0 := bi_bd u0
  have h1 := bi_bd u1
  have hz := wrap_bd n2
  have HB := Lib.hid (Below.refl w.heap.size w)
  have q1 := kql
  have q2 := kguard .eql
  go_enter Try.func7, Try.ntmps7
  go_wp2_with fail
  with_reducible refine (of_any u0 _).mono ?_
  rintro e w1 ⟨rfl, qb⟩
  replace HB := Lib.hid (below_then HB.out qb (Nat.le_refl _))
  clear qb
  go_wp2_with fail
  have A0 := new_bk HB.out (ofT u0)
  have A := Lib.hid A0.1
  replace HB := Lib.hid A0.2
  clear A0
  generalize World.alloc w1 (.cells #[.int .u64 (bi (ofT u0).v), .int .u64 (bi (ofT u0).m)] 24) = v1 at *
  obtain ⟨cA0, cA1⟩ := tcells A.out
  with_reducible refine (of_any u1 _).mono ?_
  rintro e w2 ⟨rfl, qb⟩
  replace A := Lib.hid (bk_keep A.out qb)
  replace HB := Lib.hid (below_then HB.out qb (Nat.le_refl _))
  clear qb cA0 cA1
  obtain ⟨cA0, cA1⟩ := tcells A.out
  go_wp2_with fail
  have B0 := new_bk HB.out (ofT u1)
  replace A := Lib.hid (bk_al A.out (.cells #[.int .u64 (bi (ofT u1).v), .int .u64 (bi (ofT u1).m)] 24))
  have B := Lib.hid B0.1
  replace HB := Lib.hid B0.2
  clear B0 cA0 cA1
  generalize World.alloc w2 (.cells #[.int .u64 (bi (ofT u1).v), .int .u64 (bi (ofT u1).m)] 24) = v2 at *
  obtain ⟨cA0, cA1⟩ := tcells A.out
  obtain ⟨cB0, cB1⟩ := tcells B.out
  with_reducible refine (alun_is (bi u0) (IntKind.u64.wrap n2) (bi (dn32 u0 j)) (av12n u0 _ j hz.1 hz.2 Z32.out) h0 hz _).mono ?_
  rintro e w' ⟨rfl, rfl⟩
  go_wp2_with fail
  with_reducible refine (add_to (ofT u0) (ofT u1) (ofT (u0 + u1)) (add_alone u0 u1) _).mono ?_
  rintro e w3 ⟨rfl, qb⟩
  replace A := Lib.hid (bk_keep A.out qb)
  replace B := Lib.hid (bk_keep B.out qb)
  replace HB := Lib.hid (below_then HB.out qb (Nat.le_refl _))
  clear qb cA0 cA1 cB0 cB1
  obtain ⟨cA0, cA1⟩ := tcells A.out
  obtain ⟨cB0, cB1⟩ := tcells B.out
  go_wp2_with fail
  with_reducible refine (alu_is 0 (bi u0) (bi u1) (bi (u0 + u1)) (av0 u0 u1) h0 h1 _).mono ?_
  rintro e w' ⟨rfl, rfl⟩
  go_wp2_with fail
  with_reducible refine (of_any (u0 + u1) _).mono ?_
  rintro e w4 ⟨rfl, qb⟩
  replace A := Lib.hid (bk_keep A.out qb)
  replace B := Lib.hid (bk_keep B.out qb)
  replace HB := Lib.hid (below_then HB.out qb (Nat.le_refl _))
  clear qb cA0 cA1 cB0 cB1
  obtain ⟨cA0, cA1⟩ := tcells A.out
  obtain ⟨cB0, cB1⟩ := tcells B.out
  go_wp2_with fail
  with_reducible refine (sub_to (ofT u0) (ofT u1) (ofT (u0 - u1)) (sub_alone u0 u1) _).mono ?_
  rintro e w5 ⟨rfl, qb⟩
  replace A := Lib.hid (bk_keep A.out qb)
  replace B := Lib.hid (bk_keep B.out qb)
  replace HB := Lib.hid (below_then HB.out qb (Nat.le_refl _))
  clear qb cA0 cA1 cB0 cB1
  obtain ⟨cA0, cA1⟩ := tcells A.out
  obtain ⟨cB0, cB1⟩ := tcells B.out
  go_wp2_with fail
  with_reducible refine (alu_is 1 (bi u0) (bi u1) (bi (u0 - u1)) (av1 u0 u1) h0 h1 _).mono ?_
  rintro e w' ⟨rfl, rfl⟩
  go_wp2_with fail
  with_reducible refine (of_any (u0 - u1) _).mono ?_
  rintro e w6 ⟨rfl, qb⟩
  replace A := Lib.hid (bk_keep A.out qb)
  replace B := Lib.hid (bk_keep B.out qb)
  replace HB := Lib.hid (below_then HB.out qb (Nat.le_refl _))
  clear qb cA0 cA1 cB0 cB1
  obtain ⟨cA0, cA1⟩ := tcells A.out
  obtain ⟨cB0, cB1⟩ := tcells B.out
  go_wp2_with fail
  with_reducible refine (mul_to (ofT u0) (ofT u1) (ofT (u0 * u1)) (mul_alone u0 u1) _).mono ?_
  rintro e w7 ⟨rfl, qb⟩
  replace A := Lib.hid (bk_keep A.out qb)
  replace B := Lib.hid (bk_keep B.out qb)
  replace HB := Lib.hid (below_then HB.out qb (Nat.le_refl _))
  clear qb cA0 cA1 cB0 cB1
  obtain ⟨cA0, cA1⟩ := tcells A.out
  obtain ⟨cB0, cB1⟩ := tcells B.out
  go_wp2_with fail
  with_reducible refine (alu_is 2 (bi u0) (bi u1) (bi (u0 * u1)) (av2 u0 u1) h0 h1 _).mono ?_
  rintro e w' ⟨rfl, rfl⟩
  go_wp2_with fail
  with_reducible refine (of_any (u0 * u1) _).mono ?_
  rintro e w8 ⟨rfl, qb⟩
  replace A := Lib.hid (bk_keep A.out qb)
  replace B := Lib.hid (bk_keep B.out qb)
  replace HB := Lib.hid (below_then HB.out qb (Nat.le_refl _))
  clear qb cA0 cA1 cB0 cB1
  obtain ⟨cA0, cA1⟩ := tcells A.out
  obtain ⟨cB0, cB1⟩ := tcells B.out
  go_wp2_with fail
  with_reducible refine (or_to (ofT u0) (ofT u1) (ofT (u0 ||| u1)) (or_alone u0 u1) _).mono ?_
  rintro e w9 ⟨rfl, qb⟩
  replace A := Lib.hid (bk_keep A.out qb)
  replace B := Lib.hid (bk_keep B.out qb)
  replace HB := Lib.hid (below_then HB.out qb (Nat.le_refl _))
  clear qb cA0 cA1 cB0 cB1
  obtain ⟨cA0, cA1⟩ := tcells A.out
  obtain ⟨cB0, cB1⟩ := tcells B.out
  go_wp2_with fail
  with_reducible refine (alu_is 4 (bi u0) (bi u1) (bi (u0 ||| u1)) (av4 u0 u1) h0 h1 _).mono ?_
  rintro e w' ⟨rfl, rfl⟩
  go_wp2_with fail
  with_reducible refine (of_any (u0 ||| u1) _).mono ?_
  rintro e w10 ⟨rfl, qb⟩
  replace A := Lib.hid (bk_keep A.out qb)
  replace B := Lib.hid (bk_keep B.out qb)
  replace HB := Lib.hid (below_then HB.out qb (Nat.le_refl _))
  clear qb cA0 cA1 cB0 cB1
  obtain ⟨cA0, cA1⟩ := tcells A.out
  obtain ⟨cB0, cB1⟩ := tcells B.out
  go_wp2_with fail
  with_reducible refine (and_to (ofT u0) (ofT u1) (ofT (u0 &&& u1)) (and_alone u0 u1) _).mono ?_
  rintro e w11 ⟨rfl, qb⟩
  replace A := Lib.hid (bk_keep A.out qb)
  replace B := Lib.hid (bk_keep B.out qb)
  replace HB := Lib.hid (below_then HB.out qb (Nat.le_refl _))
  clear qb cA0 cA1 cB0 cB1
  obtain ⟨cA0, cA1⟩ := tcells A.out
  obtain ⟨cB0, cB1⟩ := tcells B.out
  go_wp2_with fail
  with_reducible refine (alu_is 5 (bi u0) (bi u1) (bi (u0 &&& u1)) (av5 u0 u1) h0 h1 _).mono ?_
  rintro e w' ⟨rfl, rfl⟩
  go_wp2_with fail
  with_reducible refine (of_any (u0 &&& u1) _).mono ?_
  rintro e w12 ⟨rfl, qb⟩
  replace A := Lib.hid (bk_keep A.out qb)
  replace B := Lib.hid (bk_keep B.out qb)
  replace HB := Lib.hid (below_then HB.out qb (Nat.le_refl _))
  clear qb cA0 cA1 cB0 cB1
  obtain ⟨cA0, cA1⟩ := tcells A.out
  obtain ⟨cB0, cB1⟩ := tcells B.out
  go_wp2_with fail
  with_reducible refine (xor_to (ofT u0) (ofT u1) (ofT (u0 ^^^ u1)) (xor_alone u0 u1) _).mono ?_
  rintro e w13 ⟨rfl, qb⟩
  replace A := Lib.hid (bk_keep A.out qb)
  replace B := Lib.hid (bk_keep B.out qb)
  replace HB := Lib.hid (below_then HB.out qb (Nat.le_refl _))
  clear qb cA0 cA1 cB0 cB1
  obtain ⟨cA0, cA1⟩ := tcells A.out
  obtain ⟨cB0, cB1⟩ := tcells B.out
  go_wp2_with fail
  with_reducible refine (alu_is 10 (bi u0) (bi u1) (bi (u0 ^^^ u1)) (av10 u0 u1) h0 h1 _).mono ?_
  rintro e w' ⟨rfl, rfl⟩
  go_wp2_with fail
  with_reducible refine (of_any (u0 ^^^ u1) _).mono ?_
  rintro e w14 ⟨rfl, qb⟩
  replace A := Lib.hid (bk_keep A.out qb)
  replace B := Lib.hid (bk_keep B.out qb)
  replace HB := Lib.hid (below_then HB.out qb (Nat.le_refl _))
  clear qb cA0 cA1 cB0 cB1
  obtain ⟨cA0, cA1⟩ := tcells A.out
  obtain ⟨cB0, cB1⟩ := tcells B.out
  go_wp2_with fail
  with_reducible refine (lsh_to (ofT u0) (ofT (u0 <<< k)) n2 k HK.out HN.out (lsh_alone u0 k) _).mono ?_
  rintro e w15 ⟨rfl, qb⟩
  replace A := Lib.hid (bk_keep A.out qb)
  replace B := Lib.hid (bk_keep B.out qb)
  replace HB := Lib.hid (below_then HB.out qb (Nat.le_refl _))
  clear qb cA0 cA1 cB0 cB1
  obtain ⟨cA0, cA1⟩ := tcells A.out
  obtain ⟨cB0, cB1⟩ := tcells B.out
  go_wp2_with fail
  with_reducible refine (alu_is 6 (bi u0) (IntKind.u64.wrap n2) (bi (u0 <<< k)) (av6 u0 _ k Z64.out) h0 hz _).mono ?_
  rintro e w' ⟨rfl, rfl⟩
  go_wp2_with fail
  with_reducible refine (of_any (u0 <<< k) _).mono ?_
  rintro e w16 ⟨rfl, qb⟩
  replace A := Lib.hid (bk_keep A.out qb)
  replace B := Lib.hid (bk_keep B.out qb)
  replace HB := Lib.hid (below_then HB.out qb (Nat.le_refl _))
  clear qb cA0 cA1 cB0 cB1
  obtain ⟨cA0, cA1⟩ := tcells A.out
  obtain ⟨cB0, cB1⟩ := tcells B.out
  go_wp2_with fail
  with_reducible refine (rsh_to (ofT u0) (ofT (u0 >>> k)) n2 k HK.out HN.out (rsh_alone u0 k) _).mono ?_
  rintro e w17 ⟨rfl, qb⟩
  replace A := Lib.hid (bk_keep A.out qb)
  replace B := Lib.hid (bk_keep B.out qb)
  replace HB := Lib.hid (below_then HB.out qb (Nat.le_refl _))
  clear qb cA0 cA1 cB0 cB1
  obtain ⟨cA0, cA1⟩ := tcells A.out
  obtain ⟨cB0, cB1⟩ := tcells B.out
  go_wp2_with fail
  with_reducible refine (alu_is 7 (bi u0) (IntKind.u64.wrap n2) (bi (u0 >>> k)) (av7 u0 _ k Z64.out) h0 hz _).mono ?_
  rintro e w' ⟨rfl, rfl⟩
  go_wp2_with fail
  with_reducible refine (of_any (u0 >>> k) _).mono ?_
  rintro e w18 ⟨rfl, qb⟩
  replace A := Lib.hid (bk_keep A.out qb)
  replace B := Lib.hid (bk_keep B.out qb)
  replace HB := Lib.hid (below_then HB.out qb (Nat.le_refl _))
  clear qb cA0 cA1 cB0 cB1
  obtain ⟨cA0, cA1⟩ := tcells A.out
  obtain ⟨cB0, cB1⟩ := tcells B.out
  go_wp2_with fail
  with_reducible refine (ar_to (ofT u0) (ofT (u0.sshiftRight k)) n2 k HK.out HN.out (ar_alone u0 k) _).mono ?_
  rintro e w19 ⟨rfl, qb⟩
  replace A := Lib.hid (bk_keep A.out qb)
  replace B := Lib.hid (bk_keep B.out qb)
  replace HB := Lib.hid (below_then HB.out qb (Nat.le_refl _))
  clear qb cA0 cA1 cB0 cB1
  obtain ⟨cA0, cA1⟩ := tcells A.out
  obtain ⟨cB0, cB1⟩ := tcells B.out
  go_wp2_with fail
  with_reducible refine (alu_is 12 (bi u0) (IntKind.u64.wrap n2) (bi (u0.sshiftRight k)) (av12 u0 _ k Z64.out) h0 hz _).mono ?_
  rintro e w' ⟨rfl, rfl⟩
  go_wp2_with fail
  with_reducible refine (of_any (u0.sshiftRight k) _).mono ?_
  rintro e w20 ⟨rfl, qb⟩
  replace A := Lib.hid (bk_keep A.out qb)
  replace B := Lib.hid (bk_keep B.out qb)
  replace HB := Lib.hid (below_then HB.out qb (Nat.le_refl _))
  clear qb cA0 cA1 cB0 cB1
  obtain ⟨cA0, cA1⟩ := tcells A.out
  obtain ⟨cB0, cB1⟩ := tcells B.out
  go_wp2_with fail
  with_reducible refine (ar32_to (ofT u0) (ofT (dn32 u0 j)) n2 j HJ.out HN.out (ar32_alone u0 j) _).mono ?_
  rintro e w21 ⟨rfl, qb⟩
  replace A := Lib.hid (bk_keep A.out qb)
  replace B := Lib.hid (bk_keep B.out qb)
  replace HB := Lib.hid (below_then HB.out qb (Nat.le_refl _))
  clear qb cA0 cA1 cB0 cB1
  obtain ⟨cA0, cA1⟩ := tcells A.out
  obtain ⟨cB0, cB1⟩ := tcells B.out
  go_wp2_with fail
  with_reducible refine (of_any (dn32 u0 j) _).mono ?_
  rintro e w22 ⟨rfl, qb⟩
  replace A := Lib.hid (bk_keep A.out qb)
  replace B := Lib.hid (bk_keep B.out qb)
  replace HB := Lib.hid (below_then HB.out qb (Nat.le_refl _))
  clear qb cA0 cA1 cB0 cB1
  obtain ⟨cA0, cA1⟩ := tcells A.out
  obtain ⟨cB0, cB1⟩ := tcells B.out
  go_wp2_with fail
  with_reducible refine (known_any _).mono ?_
  rintro e w23 ⟨rfl, qb⟩
  replace A := Lib.hid (bk_keep A.out qb)
  replace B := Lib.hid (bk_keep B.out qb)
  replace HB := Lib.hid (below_then HB.out qb (Nat.le_refl _))
  clear qb cA0 cA1 cB0 cB1
  obtain ⟨cA0, cA1⟩ := tcells A.out
  obtain ⟨cB0, cB1⟩ := tcells B.out
  go_wp2_with fail
  go_returns
  exact ⟨rfl, HB.out⟩

set_option maxRecDepth 100000 in
theorem lifted (os : Os) (started : os.Started) (H : Type) (enc : TypeId × Value → H) :
    ReturnsInHanded {} Try.checked os 7 .any (Rows.tnumAloneSpec.pre6 enc Try.prog Try.f7 Rows.tnumAloneRow.domain false) (Rows.tnumAloneSpec.post enc Try.prog Try.f7 false true false false) := by
  refine returnsInHanded_of_change (C := Try.checked) own started (by kernel_rfl) Try.func7
    (ChangeSpec.witness6 (enc := enc) (C := Try.checked) false ⟨#[], #[.int .u64 0, .int .u64 0, .int .i64 0], []⟩ 8 (by kernel_rfl) (by kernel_rfl) (by kernel_rfl) (by kernel_rfl)) ?_
  intro W base args ds gs before hval0 hW hcnd _
  have hval : ∀ (j : Nat) t v, Try.f7.params[j]? = some t → args[j]? = some v → Value.okWide Try.prog W .any base t v := hval0
  have hW' := hW
  obtain ⟨p, q, hA0, hV, rfl, hfz, hnd⟩ := hW
  have hA : DataW.TrodAll enc Try.prog W 0 (fun _ => true) true Try.f7.params.toList args.toList ds p := hA0
  rw [Try.params7] at hA hval
  obtain ⟨v0, vs0, d0, ds0, p0, q0, hargs, rfl, rfl, h0, r0⟩ := trodAll_cons hA
  obtain ⟨v1, vs1, d1, ds1, p1, q1, rfl, rfl, rfl, h1, r1⟩ := trodAll_cons r0
  obtain ⟨v2, vs2, d2, ds2, p2, q2, rfl, rfl, rfl, h2, r2⟩ := trodAll_cons r1
  obtain ⟨rfl, rfl, rfl⟩ := trodAll_nil r2
  obtain rfl : args = #[v0, v1, v2] := by cases args; simp_all
  obtain ⟨rfl, rfl⟩ := trodVars_none hV
  obtain ⟨n0, rfl, rfl, rfl, w0⟩ := open_int Try.underlying22 (hval 0 22 v0 rfl rfl) h0
  have ww0 := w0
  obtain ⟨u0, rfl⟩ := u64_bi w0
  obtain ⟨n1, rfl, rfl, rfl, w1⟩ := open_int Try.underlying22 (hval 1 22 v1 rfl rfl) h1
  have ww1 := w1
  obtain ⟨u1, rfl⟩ := u64_bi w1
  obtain ⟨n2, rfl, rfl, rfl, w2⟩ := open_int Try.underlying3 (hval 2 3 v2 rfl rfl) h2
  clear hA0 hval0
  refine (walk u0 u1 n2 W   w2).mono fun e W' ⟨he, bel⟩ => ?_
  subst he
  exact ⟨_, rfl, _, _, _, [], _, [], hW', trodAll_mk1 (shut_bool Try.underlying4 _), (trodAll_cons_mk (shut_int Try.underlying22 ww0) (trodAll_cons_mk (shut_int Try.underlying22 ww1) (trodAll_cons_mk (shut_int Try.underlying3 w2) trodAll_mk0))), rfl, bel.frame _, fun h => by cases h⟩

theorem over : Rows.tnumAloneRow.holds Try.pinned (OpenSpec.ofChange Rows.tnumAloneSpec) :=
  OpenClaim.holds_of_wide 7 Try.f7 rfl rfl rfl rfl rfl rfl rfl ⟨rfl, rfl, rfl, rfl, rfl⟩ rfl rfl rfl rfl rfl (by kernel_rfl) Try.func7 (by kernel_rfl)
    (of_decide_eq_true (by kernel_rfl)) (by unfold Func.isWrapper; first | (rw [if_pos (by decide +kernel)]; kernel_rfl) | (rw [if_neg (by decide +kernel)]; exact ⟨rfl, rfl⟩))
    (fun os started H enc _ => lifted os started H enc)

theorem proved : Rows.TnumAloneSaid := over
#print axioms proved
end Go.Proofs.Ytjjiancacokaiaa.tnumAlone
