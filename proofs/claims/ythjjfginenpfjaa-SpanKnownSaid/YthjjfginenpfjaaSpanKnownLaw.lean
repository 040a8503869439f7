/-
  Proved: the statement SpanKnown: ends about the ends of all numbers, each with each, and the chapter's examples are as the document says. No conditions.
-/
import Derived.Test.YthjjfginenpfjaaRows
import Derived.Test.YthjjfginenpfjaaSpanKnownR
import Derived.Test.YthjjfginenpfjaaSpanTo
import Derived.Test.YthjjfginenpfjaaSpanX
import Derived.WalkKit
import Derived.ProofKit
import Derived.OpenShut
import Derived.ChangeOld
import Derived.Below
import Derived.Handy
namespace Go.Proofs.Ythjjfginenpfjaa.spanKnown
open Go.ChangeShapes Go.WideShapes Go.ChangeAt Go.RowKit Tn Ow Sp
set_option linter.unusedVariables false
set_option linter.unusedSimpArgs false

theorem own : ownKnob Try.prog.godebug = none := by kernel_rfl
theorem laidOut : laidOutB Try.prog = true := by kernel_rfl

theorem from9 (w : World) : Calls Try.prog 71 #[.agg #[.int .u64 4, .int .u64 9223372036854775809]] w fun e w' => e = .returned (.tuple #[.agg #[.int .u64 4, .int .u64 9223372036854775813], .agg #[.int .i64 (-9223372036854775804), .int .i64 5]]) ∧ Below w.heap.size w w' := by
  have e1 : bi 4#64 = 4 := by decide +kernel
  have e2 : bi 9223372036854775809#64 = 9223372036854775809 := by decide +kernel
  have h := fromt_to ⟨4#64, 9223372036854775809#64⟩ ⟨4, 9223372036854775813⟩ ⟨-9223372036854775804, 5⟩ (E.eq (by decide +kernel) (by decide +kernel)) (E.eq (by decide +kernel) (by decide +kernel)) w
  dsimp only at h
  rw [e1, e2] at h
  exact h
theorem tot9 (w : World) : Calls Try.prog 43 #[.agg #[.int .u64 8, .int .u64 13]] w fun e w' => e = .returned (.agg #[.int .u64 8, .int .u64 7]) ∧ Below w.heap.size w w' := by
  have e1 : bi 8#64 = 8 := by decide +kernel
  have e2 : bi 7#64 = 7 := by decide +kernel
  have h := tot_to ⟨8, 13⟩ ⟨8#64, 7#64⟩ (by unfold okU; decide) (T.eq (by decide +kernel) (by decide +kernel)) w
  dsimp only at h
  rw [e1, e2] at h
  exact h

set_option maxRecDepth 100000 in
set_option maxHeartbeats 100000000 in
theorem walk (w : World) :
    Calls Try.prog 11 #[] w fun e w' => e = .returned (.bool true) ∧ Below w.heap.size w w' := by
  go_enter Try.func11, Try.ntmps11
  go_wp2_with fail
  have N := Lib.hid (Bk.new w 22 #[.int .u64 0, .int .u64 1, .int .u64 2, .int .u64 3, .int .u64 7, .int .u64 8, .int .u64 2147483647, .int .u64 2147483648, .int .u64 4294967295, .int .u64 4294967296, .int .u64 4294967301, .int .u64 9223372036854775807, .int .u64 9223372036854775808, .int .u64 9223372036854775809, .int .u64 18446744073709551613, .int .u64 18446744073709551614, .int .u64 18446744073709551615])
  have HB := Lib.hid (grow1 w (.cells #[.int .u64 0, .int .u64 1, .int .u64 2, .int .u64 3, .int .u64 7, .int .u64 8, .int .u64 2147483647, .int .u64 2147483648, .int .u64 4294967295, .int .u64 4294967296, .int .u64 4294967301, .int .u64 9223372036854775807, .int .u64 9223372036854775808, .int .u64 9223372036854775809, .int .u64 18446744073709551613, .int .u64 18446744073709551614, .int .u64 18446744073709551615] 22))
  generalize World.alloc w (.cells #[.int .u64 0, .int .u64 1, .int .u64 2, .int .u64 3, .int .u64 7, .int .u64 8, .int .u64 2147483647, .int .u64 2147483648, .int .u64 4294967295, .int .u64 4294967296, .int .u64 4294967301, .int .u64 9223372036854775807, .int .u64 9223372036854775808, .int .u64 9223372036854775809, .int .u64 18446744073709551613, .int .u64 18446744073709551614, .int .u64 18446744073709551615] 22) = v0 at *
  go_loopw [2] (fun s wr => ∃ i : Int, 0 ≤ i ∧ i ≤ 17 ∧ s = .int .i64 i ∧ Hid (Bk wr w.heap.size 22 #[.int .u64 0, .int .u64 1, .int .u64 2, .int .u64 3, .int .u64 7, .int .u64 8, .int .u64 2147483647, .int .u64 2147483648, .int .u64 4294967295, .int .u64 4294967296, .int .u64 4294967301, .int .u64 9223372036854775807, .int .u64 9223372036854775808, .int .u64 9223372036854775809, .int .u64 18446744073709551613, .int .u64 18446744073709551614, .int .u64 18446744073709551615]) ∧ Hid (Below w.heap.size w wr)) (fun s _ => 17 - (intOf s).toNat)
  case atStart => exact ⟨0, by omega, by omega, rfl, N, HB⟩
  case round =>
    clear N HB
    obtain ⟨i, i1, hi, rfl, N, HB⟩ := hrel
    by_cases i2 : i < 17
    · skip
      obtain ⟨ei, gi, ri⟩ := n_at i i1 i2
      have GI := Lib.hid gi
      have RI := Lib.hid ri
      clear gi ri
      go_wp2_with fail
      go_loopw [3] (fun s wr => ∃ k : Int, 0 ≤ k ∧ k ≤ 17 ∧ s = .int .i64 k ∧ Hid (Bk wr w.heap.size 22 #[.int .u64 0, .int .u64 1, .int .u64 2, .int .u64 3, .int .u64 7, .int .u64 8, .int .u64 2147483647, .int .u64 2147483648, .int .u64 4294967295, .int .u64 4294967296, .int .u64 4294967301, .int .u64 9223372036854775807, .int .u64 9223372036854775808, .int .u64 9223372036854775809, .int .u64 18446744073709551613, .int .u64 18446744073709551614, .int .u64 18446744073709551615]) ∧ Hid (Below w.heap.size w wr)) (fun s _ => 17 - (intOf s).toNat)
      case atStart => exact ⟨0, by omega, by omega, rfl, N, HB⟩
      case round =>
        clear N HB
        obtain ⟨k, k1, hk, rfl, N, HB⟩ := hrel
        by_cases k2 : k < 17
        · skip
          obtain ⟨ek, gk, rk⟩ := n_at k k1 k2
          have GK := Lib.hid gk
          have RK := Lib.hid rk
          clear gk rk
          go_wp2_with fail
          go_loopw [4] (fun s wr => ∃ j : Int, 0 ≤ j ∧ j ≤ 19 ∧ s = .int .i64 j ∧ Hid (Bk wr w.heap.size 22 #[.int .u64 0, .int .u64 1, .int .u64 2, .int .u64 3, .int .u64 7, .int .u64 8, .int .u64 2147483647, .int .u64 2147483648, .int .u64 4294967295, .int .u64 4294967296, .int .u64 4294967301, .int .u64 9223372036854775807, .int .u64 9223372036854775808, .int .u64 9223372036854775809, .int .u64 18446744073709551613, .int .u64 18446744073709551614, .int .u64 18446744073709551615]) ∧ Hid (Below w.heap.size w wr)) (fun s _ => 20 - (intOf s).toNat)
          case atStart => exact ⟨0, by omega, by omega, rfl, N, HB⟩
          case round =>
            clear N HB
            obtain ⟨j, j1, hj, rfl, N, HB⟩ := hrel
            by_cases j2 : j < 17
            · skip
              obtain ⟨ej, gj, rj⟩ := n_at j j1 j2
              have GJ := Lib.hid gj
              have RJ := Lib.hid rj
              clear gj rj
              obtain ⟨p, hp⟩ : ∃ p : Int, (j + k) % 17 = p := ⟨_, rfl⟩
              have p1 : 0 ≤ p := by omega
              have p2 : p < 17 := by omega
              obtain ⟨ep, gp, rp⟩ := n_at p p1 p2
              obtain ⟨q, hq⟩ : ∃ q : Int, (j + i) % 17 = q := ⟨_, rfl⟩
              have q1 : 0 ≤ q := by omega
              have q2 : q < 17 := by omega
              obtain ⟨eq, gq, rq⟩ := n_at q q1 q2
              obtain ⟨s1, ms1, mp⟩ := rem17 j1 j2 k1 k2 hp
              obtain ⟨s2, ms2, mq⟩ := rem17 j1 j2 i1 i2 hq
              obtain ⟨m1, n1, t1, t2, rn1⟩ := five i1 i2
              obtain ⟨m2, n2, t3, t4, rn2⟩ := five k1 k2
              obtain ⟨vi, mui, rui⟩ := sgn ei
              obtain ⟨vk, muk, ruk⟩ := sgn ek
              obtain ⟨vj, muj, ruj⟩ := sgn ej
              obtain ⟨vq, muq, ruq⟩ := sgn eq
              have GP := Lib.hid gp
              have GQ := Lib.hid gq
              have MS1 := Lib.hid ms1
              have MP := Lib.hid mp
              have MS2 := Lib.hid ms2
              have MQ := Lib.hid mq
              have T1 := Lib.hid t1
              have T2 := Lib.hid t2
              have T3 := Lib.hid t3
              have T4 := Lib.hid t4
              have RN1 := Lib.hid rn1
              have RN2 := Lib.hid rn2
              have MUI := Lib.hid mui
              have MUK := Lib.hid muk
              have MUJ := Lib.hid muj
              have MUQ := Lib.hid muq
              have RUI := Lib.hid rui
              have RUK := Lib.hid ruk
              have RUJ := Lib.hid ruj
              have RUQ := Lib.hid ruq
              have RP := Lib.hid rp
              have RQ := Lib.hid rq
              clear hp hq gp gq ms1 mp ms2 mq t1 t2 t3 t4 rn1 rn2 mui muk muj muq rui ruk ruj ruq rp rq
              go_wp2_with fail
              refine g11 (fun _ _ d _ _ h => by cases d <;> exact h) i1 i2 k1 k2 (n_cell N.out GI.out) (n_cell N.out GK.out) ?_
              intro t30 t31 t32 t33 t34 t35 t36 t37 t38 z G
              dsimp only
              have A := Lib.hid (Bk.new z 24 #[.int .u64 ei, .int .u64 ek])
              replace N := Lib.hid ((bkk N.out G).alloc (.cells #[.int .u64 ei, .int .u64 ek] 24))
              replace HB := Lib.hid (below_al (below_then HB.out G (Nat.le_refl _)) (.cells #[.int .u64 ei, .int .u64 ek] 24))
              clear G
              generalize z.alloc (.cells #[.int .u64 ei, .int .u64 ek] 24) = y1 at *
              generalize z.heap.size = b1 at *
              go_wp2_with fail
              refine g12 (fun _ _ d _ _ h => by cases d <;> exact h) j1 j2 p1 p2 MS1.out MP.out (n_cell N.out GJ.out) (n_cell N.out GP.out) ?_
              intro t39 t40 t41 t42 t43 t44 t45 t46 t47 t48 t49 t50 t51 t52 z G
              dsimp only
              have B := Lib.hid (Bk.new z 24 #[.int .u64 ej, .int .u64 ep])
              replace N := Lib.hid ((bkk N.out G).alloc (.cells #[.int .u64 ej, .int .u64 ep] 24))
              replace A := Lib.hid ((bkk A.out G).alloc (.cells #[.int .u64 ej, .int .u64 ep] 24))
              replace HB := Lib.hid (below_al (below_then HB.out G (Nat.le_refl _)) (.cells #[.int .u64 ej, .int .u64 ep] 24))
              clear G
              generalize z.alloc (.cells #[.int .u64 ej, .int .u64 ep] 24) = y2 at *
              generalize z.heap.size = b2 at *
              go_wp2_with fail
              refine g13 (fun _ _ d _ _ h => by cases d <;> exact h) i1 i2 k1 k2 MUI.out MUK.out (n_cell N.out GI.out) (n_cell N.out GK.out) ?_
              intro t53 t54 t55 t56 t57 t58 t59 t60 t61 t62 t63 z G
              dsimp only
              have C := Lib.hid (Bk.new z 35 #[.int .i64 vi, .int .i64 vk])
              replace N := Lib.hid ((bkk N.out G).alloc (.cells #[.int .i64 vi, .int .i64 vk] 35))
              replace A := Lib.hid ((bkk A.out G).alloc (.cells #[.int .i64 vi, .int .i64 vk] 35))
              replace B := Lib.hid ((bkk B.out G).alloc (.cells #[.int .i64 vi, .int .i64 vk] 35))
              replace HB := Lib.hid (below_al (below_then HB.out G (Nat.le_refl _)) (.cells #[.int .i64 vi, .int .i64 vk] 35))
              clear G
              generalize z.alloc (.cells #[.int .i64 vi, .int .i64 vk] 35) = y3 at *
              generalize z.heap.size = b3 at *
              go_wp2_with fail
              refine g14 (fun _ _ d _ _ h => by cases d <;> exact h) j1 j2 q1 q2 MS2.out MQ.out MUJ.out MUQ.out (n_cell N.out GJ.out) (n_cell N.out GQ.out) ?_
              intro t64 t65 t66 t67 t68 t69 t70 t71 t72 t73 t74 t75 t76 t77 t78 t79 z G
              dsimp only
              have D := Lib.hid (Bk.new z 35 #[.int .i64 vj, .int .i64 vq])
              replace N := Lib.hid ((bkk N.out G).alloc (.cells #[.int .i64 vj, .int .i64 vq] 35))
              replace A := Lib.hid ((bkk A.out G).alloc (.cells #[.int .i64 vj, .int .i64 vq] 35))
              replace B := Lib.hid ((bkk B.out G).alloc (.cells #[.int .i64 vj, .int .i64 vq] 35))
              replace C := Lib.hid ((bkk C.out G).alloc (.cells #[.int .i64 vj, .int .i64 vq] 35))
              replace HB := Lib.hid (below_al (below_then HB.out G (Nat.le_refl _)) (.cells #[.int .i64 vj, .int .i64 vq] 35))
              clear G
              generalize z.alloc (.cells #[.int .i64 vj, .int .i64 vq] 35) = y4 at *
              generalize z.heap.size = b4 at *
              go_wp2_with fail
              refine g15 (fun _ _ d _ _ h => by cases d <;> exact h) i1 i2 k1 k2 j1 j2 T1.out T2.out RN1.out T3.out T4.out RN2.out RI.out RK.out RJ.out RP.out RUI.out RUK.out RUJ.out RUQ.out (n_cell N.out GI.out) (n_cell N.out GK.out) (n_cell N.out GJ.out) (tcells A.out).1 (tcells A.out).2 (tcells B.out).1 (tcells B.out).2 (tcells C.out).1 (tcells C.out).2 (tcells D.out).1 (tcells D.out).2 ?_
              intro t80 t81 t82 t83 t84 t85 t86 t87 t88 t89 t90 t91 t92 t93 t94 t95 t96 t97 t98 t99 t100 t101 t102 t103 t104 t105 t106 t107 t108 t109 t110 t111 t112 t113 t114 t115 t116 t117 t118 t119 t120 t121 t122 t123 t124 t125 t126 t127 t128 t129 t130 t131 t132 t133 t134 t135 t136 t137 t138 t139 t140 t141 t142 t143 t144 t145 t146 t147 z G
              dsimp only
              replace N := Lib.hid (bkk N.out G)
              replace HB := Lib.hid (below_then HB.out G (Nat.le_refl _))
              clear G A B C D
              go_wp2_with fail
              go_roundw
              case rel => exact ⟨j + 3, by omega, by omega, by go_num, N, HB⟩
              case measure => simp [intOf]; omega
            · skip
              go_wp2_with fail
              refine g17 (fun _ _ d _ _ h => by cases d <;> exact h) i1 i2 k1 k2 RI.out RK.out (n_cell N.out GI.out) (n_cell N.out GK.out) ?_
              intro t149 t150 t151 t152 t153 t154 t155 t156 t157 t158 t159 t160 t161 t162 t163 t164 t165 t166 t167 t168 t169 t170 t171 t172 t173 t174 t175 t176 t177 t178 t179 t180 t181 t182 t183 t184 t185 t186 t187 t188 z G
              dsimp only
              replace N := Lib.hid (bkk N.out G)
              replace HB := Lib.hid (below_then HB.out G (Nat.le_refl _))
              clear G
              go_wp2_with fail
              go_roundw
              case rel => exact ⟨k + 1, by omega, by omega, by go_num, N, HB⟩
              case measure => simp [intOf]; omega
        · skip
          go_wp2_with fail
          go_roundw
          case rel => exact ⟨i + 1, by omega, by omega, by go_num, N, HB⟩
          case measure => simp [intOf]; omega
    · skip
      clear N
      go_wp2_with fail
      with_reducible refine (from9 _).mono ?_
      rintro e9 w1 ⟨rfl, qb⟩
      replace HB := Lib.hid (below_then HB.out qb (Nat.le_refl _))
      clear qb
      go_wp2_with fail
      with_reducible refine (tot9 _).mono ?_
      rintro e9 w2 ⟨rfl, qb⟩
      replace HB := Lib.hid (below_then (below_al (below_al HB.out _) _) qb (Nat.le_refl _))
      clear qb
      go_wp2_with fail
      with_reducible refine (works_any _).mono ?_
      rintro e9 w3 ⟨rfl, qb⟩
      replace HB := Lib.hid (below_then HB.out qb (Nat.le_refl _))
      clear qb
      go_wp2
      first | go_returns | go_ret
      exact ⟨rfl, HB.out⟩

set_option maxRecDepth 100000 in
theorem lifted (os : Os) (started : os.Started) (H : Type) (enc : TypeId × Value → H) :
    ReturnsInHanded {} Try.checked os 11 .any (Rows.spanKnownSpec.pre6 enc Try.prog Try.f11 Rows.spanKnownRow.domain false) (Rows.spanKnownSpec.post enc Try.prog Try.f11 false true false false) := by
  refine returnsInHanded_of_change (C := Try.checked) own started (by kernel_rfl) Try.func11
    (ChangeSpec.witness6 (enc := enc) (C := Try.checked) false ⟨#[], #[], []⟩ 8 (by kernel_rfl) (by kernel_rfl) (by kernel_rfl) (by kernel_rfl)) ?_
  intro W base args ds gs before hval0 hW hcnd _
  have hval : ∀ (j : Nat) t v, Try.f11.params[j]? = some t → args[j]? = some v → Value.okWide Try.prog W .any base t v := hval0
  have hW' := hW
  obtain ⟨p, q, hA0, hV, rfl, hfz, hnd⟩ := hW
  have hA : DataW.TrodAll enc Try.prog W 0 (fun _ => true) true Try.f11.params.toList args.toList ds p := hA0
  rw [Try.params11] at hA hval
  obtain ⟨hargs, rfl, rfl⟩ := trodAll_nil hA
  obtain rfl : args = #[] := by cases args; simp_all
  obtain ⟨rfl, rfl⟩ := trodVars_none hV
  clear hA0 hval0
  refine (walk  W ).mono fun e W' ⟨he, bel⟩ => ?_
  subst he
  exact ⟨_, rfl, _, _, _, [], _, [], hW', trodAll_mk1 (shut_bool Try.underlying4 _), trodAll_mk0, rfl, bel.frame _, fun h => by cases h⟩

theorem over : Rows.spanKnownRow.holds Try.pinned (OpenSpec.ofChange Rows.spanKnownSpec) :=
  OpenClaim.holds_of_wide 11 Try.f11 rfl rfl rfl rfl rfl rfl rfl ⟨rfl, rfl, rfl, rfl, rfl⟩ rfl rfl rfl rfl rfl (by kernel_rfl) Try.func11 (by kernel_rfl)
    (of_decide_eq_true (by kernel_rfl)) (by unfold Func.isWrapper; first | (rw [if_pos (by decide +kernel)]; kernel_rfl) | (rw [if_neg (by decide +kernel)]; exact ⟨rfl, rfl⟩))
    (fun os started H enc _ => lifted os started H enc)

theorem proved : Rows.SpanKnownSaid := over
#print axioms proved
end Go.Proofs.Ythjjfginenpfjaa.spanKnown
