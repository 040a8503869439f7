/-
  What the program's layer 5 tells: contracts, fifth part. Conditions: scalars may be, where that is said.
-/
import Derived.Test.YtcimihckhobniaaGreatZScalarP4
namespace Go.Proofs.YtcimihckhobniaaGreat.Sc
open Go.RowKit Tn Ow Sp
set_option linter.unusedVariables false
set_option linter.unusedSimpArgs false
set_option maxRecDepth 100000
noncomputable def without5_r0C : Code := (Tryz.f234.body.bind (Rg.findR 0)).getD .skip
set_option maxHeartbeats 4000000 in
theorem without5_r0 (x : C) (v : Int) (hv : 0 ≤ v ∧ v ≤ 18446744073709551615) {w0 : World}  {K : Act → World → Prop} {Q0 : Exit → Act → World → Prop} {u1 u2 u3 u4 u5 u6 u7 u8 u9 u10 u11 u12 u13 u14 u15 u16 : Value}
    (hQ : ∀ c a d v w, Q0 (.panic c) (Act.put a d v) w → Q0 (.panic c) a w)
    (hK : ∀ (d1_0 d1_1 : Nat) (z : World), Gw.Mem w0 [(d1_1, .cells #[.int .u64 0, .int .u64 0, .int .u64 0, .int .u64 0, .int .i64 0, .int .i64 0] 30), (d1_0, .cells #[.int .u64 (bi x.t.v), .int .u64 (bi x.t.m), .int .u64 x.u.lo, .int .u64 x.u.hi, .int .i64 x.s.lo, .int .i64 x.s.hi] 30)] z → K ⟨#[.agg #[.int .u64 (bi x.t.v), .int .u64 (bi x.t.m), .int .u64 x.u.lo, .int .u64 x.u.hi, .int .i64 x.s.lo, .int .i64 x.s.hi], u1, .pointer (some ⟨d1_0, 0, none⟩), u3, .pointer (some ⟨d1_1, 0, none⟩), u5, u6, u7, u8, u9, u10, u11, u12, u13, u14, u15, u16], []⟩ z) (wy : World) (M : Gw.Mem w0 [] wy) :
    without5_r0C.wp Tryz.prog (Exit.then K Q0) ⟨#[.agg #[.int .u64 (bi x.t.v), .int .u64 (bi x.t.m), .int .u64 x.u.lo, .int .u64 x.u.hi, .int .i64 x.s.lo, .int .i64 x.s.hi], u1, u2, u3, u4, u5, u6, u7, u8, u9, u10, u11, u12, u13, u14, u15, u16], []⟩ wy := by
  have HK := Lib.hid hK
  clear hK
  conv => arg 2; whnf
  refine Gw.line _ M ?_
  clear M wy
  refine Gw.ss ?_
  intro w M K' hK
  go_simp
  have M1 := M.alloc (.cells #[.int .u64 (bi x.t.v), .int .u64 (bi x.t.m), .int .u64 x.u.lo, .int .u64 x.u.hi, .int .i64 x.s.lo, .int .i64 x.s.hi] 30)
  generalize w.heap.size = d1_0 at M1 ⊢
  refine hK.out _ _ _ M1 ?_
  clear hK K' M1 M w
  try simp only [Act.put, ptA, ptB, ptC]
  refine Gw.ss ?_
  intro w M K' hK
  go_simp
  have M1 := M.alloc (.cells #[.int .u64 0, .int .u64 0, .int .u64 0, .int .u64 0, .int .i64 0, .int .i64 0] 30)
  generalize w.heap.size = d1_1 at M1 ⊢
  refine hK.out _ _ _ M1 ?_
  clear hK K' M1 M w
  try simp only [Act.put, ptA, ptB, ptC]
  exact fun z M => HK.out _ _ z M
noncomputable def without5_r1C : Code := (Tryz.f234.body.bind (Rg.findR 1)).getD .skip
set_option maxHeartbeats 4000000 in
theorem without5_r1 (x : C) (v : Int) (hv : 0 ≤ v ∧ v ≤ 18446744073709551615) {w0 : World}  {K : Act → World → Prop} {Q0 : Exit → Act → World → Prop} {d1_1 d1_0 : Nat} {u0 u3 u4 u5 u6 u7 u8 u9 u10 u11 u12 u13 u14 u15 u16 : Value}
    (hQ : ∀ c a d v w, Q0 (.panic c) (Act.put a d v) w → Q0 (.panic c) a w)
    (hK : ∀ (t5 t6 t7 t8 t9 : Value) (z : World), Gw.Mem w0 [(d1_1, .cells #[.int .u64 0, .int .u64 0, .int .u64 0, .int .u64 0, .int .i64 0, .int .i64 0] 30), (d1_0, .cells #[.int .u64 (bi x.t.v), .int .u64 (bi x.t.m), .int .u64 ((exE .u64 x.u v).lo), .int .u64 ((exE .u64 x.u v).hi), .int .i64 x.s.lo, .int .i64 x.s.hi] 30)] z → K ⟨#[u0, .int .u64 v, .pointer (some ⟨d1_0, 0, none⟩), u3, u4, t5, t6, t7, t8, t9, u10, u11, u12, u13, u14, u15, u16], []⟩ z) (wy : World) (M : Gw.Mem w0 [(d1_1, .cells #[.int .u64 0, .int .u64 0, .int .u64 0, .int .u64 0, .int .i64 0, .int .i64 0] 30), (d1_0, .cells #[.int .u64 (bi x.t.v), .int .u64 (bi x.t.m), .int .u64 x.u.lo, .int .u64 x.u.hi, .int .i64 x.s.lo, .int .i64 x.s.hi] 30)] wy) :
    without5_r1C.wp Tryz.prog (Exit.then K Q0) ⟨#[u0, .int .u64 v, .pointer (some ⟨d1_0, 0, none⟩), u3, u4, u5, u6, u7, u8, u9, u10, u11, u12, u13, u14, u15, u16], []⟩ wy := by
  have HK := Lib.hid hK
  clear hK
  conv => arg 2; whnf
  refine Gw.line _ M ?_
  clear M wy
  refine Gw.sw (.pointer (some ⟨d1_0, 2, none⟩)) ?_
  try simp only [Act.put, ptA, ptB, ptC]
  refine Gw.sq (.agg #[.int .u64 x.u.lo, .int .u64 x.u.hi]) ?_ ?_
  · intro w M; have c := M.c2 1 2 3; go_simp
  try simp only [Act.put, ptA, ptB, ptC]
  refine Gw.sw (.int .u64 v) ?_
  try simp only [Act.put, ptA, ptB, ptC]
  refine Gw.sk (.agg #[.int .u64 ((exE .u64 x.u v).lo), .int .u64 ((exE .u64 x.u v).hi)]) 241 #[.agg #[.int .u64 x.u.lo, .int .u64 x.u.hi], .int .u64 v] (fun w M => except_u64 x.u v w) ?_
  try simp only [Act.put, ptA, ptB, ptC]
  refine Gw.sw (.pointer (some ⟨d1_0, 2, none⟩)) ?_
  try simp only [Act.put, ptA, ptB, ptC]
  refine Gw.ss ?_
  intro w M K' hK
  have c := M.c2 1 2 3
  have f := M.f2 1 2 3
  go_simp
  refine hK.out _ _ _ ((M.set 1 2 _).set 1 3 _) ?_
  clear hK K' c f M w
  exact fun z M => HK.out _ _ _ _ _ z M
noncomputable def without5_r2C : Code := (Tryz.f234.body.bind (Rg.findR 2)).getD .skip
set_option maxHeartbeats 4000000 in
theorem without5_r2 (x : C) (v : Int) (hv : 0 ≤ v ∧ v ≤ 18446744073709551615) {w0 : World}  {K : Act → World → Prop} {Q0 : Exit → Act → World → Prop} {d1_1 d1_0 : Nat} {u0 u3 u4 u5 u6 u7 u8 u9 u10 u11 u12 u13 u14 u15 u16 : Value}
    (hQ : ∀ c a d v w, Q0 (.panic c) (Act.put a d v) w → Q0 (.panic c) a w)
    (hK : ∀ (t10 t11 t12 t13 t14 t15 : Value) (z : World), Gw.Mem w0 [(d1_1, .cells #[.int .u64 0, .int .u64 0, .int .u64 0, .int .u64 0, .int .i64 0, .int .i64 0] 30), (d1_0, .cells #[.int .u64 (bi x.t.v), .int .u64 (bi x.t.m), .int .u64 ((exE .u64 x.u v).lo), .int .u64 ((exE .u64 x.u v).hi), .int .i64 ((exE .i64 x.s (sg v)).lo), .int .i64 ((exE .i64 x.s (sg v)).hi)] 30)] z → K ⟨#[u0, .int .u64 v, .pointer (some ⟨d1_0, 0, none⟩), u3, u4, u5, u6, u7, u8, u9, t10, t11, t12, t13, t14, t15, u16], []⟩ z) (wy : World) (M : Gw.Mem w0 [(d1_1, .cells #[.int .u64 0, .int .u64 0, .int .u64 0, .int .u64 0, .int .i64 0, .int .i64 0] 30), (d1_0, .cells #[.int .u64 (bi x.t.v), .int .u64 (bi x.t.m), .int .u64 ((exE .u64 x.u v).lo), .int .u64 ((exE .u64 x.u v).hi), .int .i64 x.s.lo, .int .i64 x.s.hi] 30)] wy) :
    without5_r2C.wp Tryz.prog (Exit.then K Q0) ⟨#[u0, .int .u64 v, .pointer (some ⟨d1_0, 0, none⟩), u3, u4, u5, u6, u7, u8, u9, u10, u11, u12, u13, u14, u15, u16], []⟩ wy := by
  have HK := Lib.hid hK
  clear hK
  conv => arg 2; whnf
  refine Gw.line _ M ?_
  clear M wy
  refine Gw.sw (.pointer (some ⟨d1_0, 4, none⟩)) ?_
  try simp only [Act.put, ptA, ptB, ptC]
  refine Gw.sq (.agg #[.int .i64 x.s.lo, .int .i64 x.s.hi]) ?_ ?_
  · intro w M; have c := M.c2 1 4 5; go_simp
  try simp only [Act.put, ptA, ptB, ptC]
  refine Gw.sw (.int .u64 v) ?_
  try simp only [Act.put, ptA, ptB, ptC]
  refine Gw.sw (.int .i64 (sg v)) ?_ (hy := by intro w; have WU := wrap_sg5 hv; go_simp)
  try simp only [Act.put, ptA, ptB, ptC]
  refine Gw.sk (.agg #[.int .i64 ((exE .i64 x.s (sg v)).lo), .int .i64 ((exE .i64 x.s (sg v)).hi)]) 242 #[.agg #[.int .i64 x.s.lo, .int .i64 x.s.hi], .int .i64 (sg v)] (fun w M => except_i64 x.s (sg v) w) ?_
  try simp only [Act.put, ptA, ptB, ptC]
  refine Gw.sw (.pointer (some ⟨d1_0, 4, none⟩)) ?_
  try simp only [Act.put, ptA, ptB, ptC]
  refine Gw.ss ?_
  intro w M K' hK
  have c := M.c2 1 4 5
  have f := M.f2 1 4 5
  go_simp
  refine hK.out _ _ _ ((M.set 1 4 _).set 1 5 _) ?_
  clear hK K' c f M w
  exact fun z M => HK.out _ _ _ _ _ _ z M
noncomputable def without5_r3C : Code := (Tryz.f234.body.bind (Rg.findR 3)).getD .skip
set_option maxHeartbeats 4000000 in
theorem without5_r3 (x : C) (v : Int) (hv : 0 ≤ v ∧ v ≤ 18446744073709551615) {w0 : World}  {K : Act → World → Prop} {Q0 : Exit → Act → World → Prop} {d1_1 d1_0 : Nat} {u0 u1 u3 u5 u6 u7 u8 u9 u10 u11 u12 u13 u14 u15 u16 : Value}
    (hQ : ∀ c a d v w, Q0 (.panic c) (Act.put a d v) w → Q0 (.panic c) a w)
    (hK : ∀ (t16 : Value) (z : World), Gw.Mem w0 [(d1_1, .cells #[.int .u64 (bi x.t.v), .int .u64 (bi x.t.m), .int .u64 ((exE .u64 x.u v).lo), .int .u64 ((exE .u64 x.u v).hi), .int .i64 ((exE .i64 x.s (sg v)).lo), .int .i64 ((exE .i64 x.s (sg v)).hi)] 30), (d1_0, .cells #[.int .u64 (bi x.t.v), .int .u64 (bi x.t.m), .int .u64 ((exE .u64 x.u v).lo), .int .u64 ((exE .u64 x.u v).hi), .int .i64 ((exE .i64 x.s (sg v)).lo), .int .i64 ((exE .i64 x.s (sg v)).hi)] 30)] z → K ⟨#[u0, u1, .pointer (some ⟨d1_0, 0, none⟩), u3, .pointer (some ⟨d1_1, 0, none⟩), u5, u6, u7, u8, u9, u10, u11, u12, u13, u14, u15, t16], []⟩ z) (wy : World) (M : Gw.Mem w0 [(d1_1, .cells #[.int .u64 0, .int .u64 0, .int .u64 0, .int .u64 0, .int .i64 0, .int .i64 0] 30), (d1_0, .cells #[.int .u64 (bi x.t.v), .int .u64 (bi x.t.m), .int .u64 ((exE .u64 x.u v).lo), .int .u64 ((exE .u64 x.u v).hi), .int .i64 ((exE .i64 x.s (sg v)).lo), .int .i64 ((exE .i64 x.s (sg v)).hi)] 30)] wy) :
    without5_r3C.wp Tryz.prog (Exit.then K Q0) ⟨#[u0, u1, .pointer (some ⟨d1_0, 0, none⟩), u3, .pointer (some ⟨d1_1, 0, none⟩), u5, u6, u7, u8, u9, u10, u11, u12, u13, u14, u15, u16], []⟩ wy := by
  have HK := Lib.hid hK
  clear hK
  conv => arg 2; whnf
  refine Gw.line _ M ?_
  clear M wy
  refine Gw.sq (.agg #[.int .u64 (bi x.t.v), .int .u64 (bi x.t.m), .int .u64 ((exE .u64 x.u v).lo), .int .u64 ((exE .u64 x.u v).hi), .int .i64 ((exE .i64 x.s (sg v)).lo), .int .i64 ((exE .i64 x.s (sg v)).hi)]) ?_ ?_
  · intro w M; have c := M.c6 1; go_simp
  try simp only [Act.put, ptA, ptB, ptC]
  refine Gw.ss ?_
  intro w M K' hK
  have c := M.c6 0
  have f := M.f6 0
  go_simp
  refine hK.out _ _ _ ((((((M.set 0 0 _).set 0 1 _).set 0 2 _).set 0 3 _).set 0 4 _).set 0 5 _) ?_
  clear hK K' c f M w
  exact fun z M => HK.out _ z M
set_option maxHeartbeats 4000000 in
theorem without5 (x : C) (v : Int) (hv : 0 ≤ v ∧ v ≤ 18446744073709551615) (w : World) :
    Calls Tryz.prog 234 #[.agg #[.int .u64 (bi x.t.v), .int .u64 (bi x.t.m), .int .u64 x.u.lo, .int .u64 x.u.hi, .int .i64 x.s.lo, .int .i64 x.s.hi], .int .u64 v] w fun e w' => e = .returned (.agg #[.int .u64 (bi (⟨x.t, exE .u64 x.u v, exE .i64 x.s (sg v)⟩ : C).t.v), .int .u64 (bi (⟨x.t, exE .u64 x.u v, exE .i64 x.s (sg v)⟩ : C).t.m), .int .u64 ((⟨x.t, exE .u64 x.u v, exE .i64 x.s (sg v)⟩ : C).u.lo), .int .u64 ((⟨x.t, exE .u64 x.u v, exE .i64 x.s (sg v)⟩ : C).u.hi), .int .i64 ((⟨x.t, exE .u64 x.u v, exE .i64 x.s (sg v)⟩ : C).s.lo), .int .i64 ((⟨x.t, exE .u64 x.u v, exE .i64 x.s (sg v)⟩ : C).s.hi)]) ∧ Below w.heap.size w w' := by
  go_enter Tryz.func234, Tryz.ntmps234
  have M := Gw.Mem.nil w
  refine wp_seq (without5_r0 x v hv (fun _ _ d _ _ h => by cases d <;> exact h) ?_ _ M)
  clear M
  intro d1_0 d1_1 z1 M
  refine wp_seq (without5_r1 x v hv (fun _ _ d _ _ h => by cases d <;> exact h) ?_ _ M)
  clear M
  intro _ _ _ _ _ z2 M
  refine wp_seq (without5_r2 x v hv (fun _ _ d _ _ h => by cases d <;> exact h) ?_ _ M)
  clear M
  intro _ _ _ _ _ _ z3 M
  refine wp_seq (without5_r3 x v hv (fun _ _ d _ _ h => by cases d <;> exact h) ?_ _ M)
  clear M
  intro _ z4 M
  refine wp_ret ?_
  try simp only [Exit.inBlock, Exit.then]
  have g0 := M.cell 0 0
  have g1 := M.cell 0 1
  have g2 := M.cell 0 2
  have g3 := M.cell 0 3
  have g4 := M.cell 0 4
  have g5 := M.cell 0 5
  refine bodyPost_ret (by simp [results, Tryz.results234, g0, g1, g2, g3, g4, g5, go_sem]; try rfl) rfl ?_
  exact ⟨rfl, M.below⟩
def exC (x : C) (v : Int) : C := ⟨x.t, exE .u64 x.u v, exE .i64 x.s (sg v)⟩
noncomputable def nothing5_r0C : Code := (Tryz.f212.body.bind (Rg.findR 0)).getD .skip
set_option maxHeartbeats 4000000 in
theorem nothing5_r0 (a b : C) {w0 : World}  {K : Act → World → Prop} {Q0 : Exit → Act → World → Prop} {u2 u3 u4 u5 u6 u7 u8 : Value}
    (hQ : ∀ c a d v w, Q0 (.panic c) (Act.put a d v) w → Q0 (.panic c) a w)
    (hK : ∀ (t6 : Value) (d1_0 d1_1 d1_2 d1_3 : Nat) (z : World), Gw.Mem w0 [(d1_3, .cells #[.int .u64 0, .int .u64 0, .int .u64 0, .int .u64 0, .int .i64 0, .int .i64 0] 30), (d1_2, .cells #[.int .u64 0, .int .u64 0, .int .u64 0, .int .u64 0, .int .i64 0, .int .i64 0] 30), (d1_1, .cells #[.int .u64 (bi b.t.v), .int .u64 (bi b.t.m), .int .u64 b.u.lo, .int .u64 b.u.hi, .int .i64 b.s.lo, .int .i64 b.s.hi] 30), (d1_0, .cells #[.int .u64 (bi a.t.v), .int .u64 (bi a.t.m), .int .u64 a.u.lo, .int .u64 a.u.hi, .int .i64 a.s.lo, .int .i64 a.s.hi] 30)] z → K ⟨#[.agg #[.int .u64 (bi a.t.v), .int .u64 (bi a.t.m), .int .u64 a.u.lo, .int .u64 a.u.hi, .int .i64 a.s.lo, .int .i64 a.s.hi], .agg #[.int .u64 (bi b.t.v), .int .u64 (bi b.t.m), .int .u64 b.u.lo, .int .u64 b.u.hi, .int .i64 b.s.lo, .int .i64 b.s.hi], .pointer (some ⟨d1_0, 0, none⟩), .pointer (some ⟨d1_1, 0, none⟩), .pointer (some ⟨d1_2, 0, none⟩), .pointer (some ⟨d1_3, 0, none⟩), t6, u7, u8], []⟩ z) (wy : World) (M : Gw.Mem w0 [] wy) :
    nothing5_r0C.wp Tryz.prog (Exit.then K Q0) ⟨#[.agg #[.int .u64 (bi a.t.v), .int .u64 (bi a.t.m), .int .u64 a.u.lo, .int .u64 a.u.hi, .int .i64 a.s.lo, .int .i64 a.s.hi], .agg #[.int .u64 (bi b.t.v), .int .u64 (bi b.t.m), .int .u64 b.u.lo, .int .u64 b.u.hi, .int .i64 b.s.lo, .int .i64 b.s.hi], u2, u3, u4, u5, u6, u7, u8], []⟩ wy := by
  have HK := Lib.hid hK
  clear hK
  conv => arg 2; whnf
  refine Gw.line _ M ?_
  clear M wy
  refine Gw.ss ?_
  intro w M K' hK
  go_simp
  have M1 := M.alloc (.cells #[.int .u64 (bi a.t.v), .int .u64 (bi a.t.m), .int .u64 a.u.lo, .int .u64 a.u.hi, .int .i64 a.s.lo, .int .i64 a.s.hi] 30)
  generalize w.heap.size = d1_0 at M1 ⊢
  refine hK.out _ _ _ M1 ?_
  clear hK K' M1 M w
  try simp only [Act.put, ptA, ptB, ptC]
  refine Gw.ss ?_
  intro w M K' hK
  go_simp
  have M1 := M.alloc (.cells #[.int .u64 (bi b.t.v), .int .u64 (bi b.t.m), .int .u64 b.u.lo, .int .u64 b.u.hi, .int .i64 b.s.lo, .int .i64 b.s.hi] 30)
  generalize w.heap.size = d1_1 at M1 ⊢
  refine hK.out _ _ _ M1 ?_
  clear hK K' M1 M w
  try simp only [Act.put, ptA, ptB, ptC]
  refine Gw.ss ?_
  intro w M K' hK
  go_simp
  have M1 := M.alloc (.cells #[.int .u64 0, .int .u64 0, .int .u64 0, .int .u64 0, .int .i64 0, .int .i64 0] 30)
  generalize w.heap.size = d1_2 at M1 ⊢
  refine hK.out _ _ _ M1 ?_
  clear hK K' M1 M w
  try simp only [Act.put, ptA, ptB, ptC]
  refine Gw.ss ?_
  intro w M K' hK
  go_simp
  have M1 := M.alloc (.cells #[.int .u64 0, .int .u64 0, .int .u64 0, .int .u64 0, .int .i64 0, .int .i64 0] 30)
  generalize w.heap.size = d1_3 at M1 ⊢
  refine hK.out _ _ _ M1 ?_
  clear hK K' M1 M w
  try simp only [Act.put, ptA, ptB, ptC]
  refine Gw.sw (.bool false) ?_
  try simp only [Act.put, ptA, ptB, ptC]
  exact fun z M => HK.out _ _ _ _ _ z M
noncomputable def nothing5_r1C : Code := (Tryz.f212.body.bind (Rg.findR 1)).getD .skip
set_option maxHeartbeats 4000000 in
theorem nothing5_r1 (a b : C) {w0 : World}  {K : Act → World → Prop} {Q0 : Exit → Act → World → Prop} {d1_3 d1_2 d1_1 d1_0 : Nat} {u0 u1 u6 u7 u8 : Value}
    (hQ : ∀ c a d v w, Q0 (.panic c) (Act.put a d v) w → Q0 (.panic c) a w)
    (hK : ∀ (t7 t8 : Value) (z : World), Gw.Mem w0 [(d1_3, .cells #[.int .u64 (bi b.t.v), .int .u64 (bi b.t.m), .int .u64 b.u.lo, .int .u64 b.u.hi, .int .i64 b.s.lo, .int .i64 b.s.hi] 30), (d1_2, .cells #[.int .u64 (bi a.t.v), .int .u64 (bi a.t.m), .int .u64 a.u.lo, .int .u64 a.u.hi, .int .i64 a.s.lo, .int .i64 a.s.hi] 30), (d1_1, .cells #[.int .u64 (bi b.t.v), .int .u64 (bi b.t.m), .int .u64 b.u.lo, .int .u64 b.u.hi, .int .i64 b.s.lo, .int .i64 b.s.hi] 30), (d1_0, .cells #[.int .u64 (bi a.t.v), .int .u64 (bi a.t.m), .int .u64 a.u.lo, .int .u64 a.u.hi, .int .i64 a.s.lo, .int .i64 a.s.hi] 30)] z → K ⟨#[u0, u1, .pointer (some ⟨d1_0, 0, none⟩), .pointer (some ⟨d1_1, 0, none⟩), .pointer (some ⟨d1_2, 0, none⟩), .pointer (some ⟨d1_3, 0, none⟩), .bool true, t7, t8], []⟩ z) (wy : World) (M : Gw.Mem w0 [(d1_3, .cells #[.int .u64 0, .int .u64 0, .int .u64 0, .int .u64 0, .int .i64 0, .int .i64 0] 30), (d1_2, .cells #[.int .u64 0, .int .u64 0, .int .u64 0, .int .u64 0, .int .i64 0, .int .i64 0] 30), (d1_1, .cells #[.int .u64 (bi b.t.v), .int .u64 (bi b.t.m), .int .u64 b.u.lo, .int .u64 b.u.hi, .int .i64 b.s.lo, .int .i64 b.s.hi] 30), (d1_0, .cells #[.int .u64 (bi a.t.v), .int .u64 (bi a.t.m), .int .u64 a.u.lo, .int .u64 a.u.hi, .int .i64 a.s.lo, .int .i64 a.s.hi] 30)] wy) :
    nothing5_r1C.wp Tryz.prog (Exit.then K Q0) ⟨#[u0, u1, .pointer (some ⟨d1_0, 0, none⟩), .pointer (some ⟨d1_1, 0, none⟩), .pointer (some ⟨d1_2, 0, none⟩), .pointer (some ⟨d1_3, 0, none⟩), u6, u7, u8], []⟩ wy := by
  have HK := Lib.hid hK
  clear hK
  have hq : ∀ c a d v w, Exit.then K Q0 (.panic c) (Act.put a d v) w → Exit.then K Q0 (.panic c) a w := hQ
  conv => arg 2; whnf
  refine Gw.draw [2, 3] (Gw.Mem w0 [(d1_1, .cells #[.int .u64 (bi b.t.v), .int .u64 (bi b.t.m), .int .u64 b.u.lo, .int .u64 b.u.hi, .int .i64 b.s.lo, .int .i64 b.s.hi] 30), (d1_0, .cells #[.int .u64 (bi a.t.v), .int .u64 (bi a.t.m), .int .u64 a.u.lo, .int .u64 a.u.hi, .int .i64 a.s.lo, .int .i64 a.s.hi] 30)]) _ (by kernel_rfl) M.drew ?_
  have hG : ∀ z, Gw.Mem w0 [(d1_3, .cells #[.int .u64 0, .int .u64 0, .int .u64 0, .int .u64 0, .int .i64 0, .int .i64 0] 30), (d1_2, .cells #[.int .u64 0, .int .u64 0, .int .u64 0, .int .u64 0, .int .i64 0, .int .i64 0] 30), (d1_1, .cells #[.int .u64 (bi b.t.v), .int .u64 (bi b.t.m), .int .u64 b.u.lo, .int .u64 b.u.hi, .int .i64 b.s.lo, .int .i64 b.s.hi] 30), (d1_0, .cells #[.int .u64 (bi a.t.v), .int .u64 (bi a.t.m), .int .u64 a.u.lo, .int .u64 a.u.hi, .int .i64 a.s.lo, .int .i64 a.s.hi] 30)] z → Gw.Mem w0 [(d1_1, .cells #[.int .u64 (bi b.t.v), .int .u64 (bi b.t.m), .int .u64 b.u.lo, .int .u64 b.u.hi, .int .i64 b.s.lo, .int .i64 b.s.hi] 30), (d1_0, .cells #[.int .u64 (bi a.t.v), .int .u64 (bi a.t.m), .int .u64 a.u.lo, .int .u64 a.u.hi, .int .i64 a.s.lo, .int .i64 a.s.hi] 30)] z := fun _ h => h.sub (Gw.cd (Gw.cd (Gw.cc (Gw.cc Gw.cn))))
  clear M wy
  refine Gw.tg 0 (.agg #[.int .u64 (bi a.t.v), .int .u64 (bi a.t.m), .int .u64 a.u.lo, .int .u64 a.u.hi, .int .i64 a.s.lo, .int .i64 a.s.hi]) ?_ ?_
  · intro w M; have c := M.c6 1; go_simp
  try simp only [Act.put, ptA, ptB, ptC]
  refine Gw.tg 1 (.agg #[.int .u64 (bi b.t.v), .int .u64 (bi b.t.m), .int .u64 b.u.lo, .int .u64 b.u.hi, .int .i64 b.s.lo, .int .i64 b.s.hi]) ?_ ?_
  · intro w M; have c := M.c6 0; go_simp
  try simp only [Act.put, ptA, ptB, ptC]
  refine Gw.ts 2 rfl (by kernel_rfl) ?_
  intro w M K' hK
  have c := M.c6 1
  have f := M.f6 1
  go_simp
  refine hK.out _ _ _ Gw.Mem.stays (fun h => by cases h) (fun _ h => h.sub (Gw.cd (Gw.cd (Gw.cc (Gw.cc Gw.cn))))) ((((((M.set 1 0 _).set 1 1 _).set 1 2 _).set 1 3 _).set 1 4 _).set 1 5 _) ?_
  clear hK K' c f M w
  refine Gw.ts 3 rfl (by kernel_rfl) ?_
  intro w M K' hK
  have c := M.c6 0
  have f := M.f6 0
  go_simp
  refine hK.out _ _ _ Gw.Mem.stays (fun h => by cases h) (fun _ h => h.sub (Gw.cd (Gw.cd (Gw.cc (Gw.cc Gw.cn))))) ((((((M.set 0 0 _).set 0 1 _).set 0 2 _).set 0 3 _).set 0 4 _).set 0 5 _) ?_
  clear hK K' c f M w
  refine Gw.tw 4 (.bool true) ?_ (hG := (fun _ h => h.sub (Gw.cd (Gw.cd (Gw.cc (Gw.cc Gw.cn))))))
  try simp only [Act.put, ptA, ptB, ptC]
  exact Gw.td (by kernel_rfl) (fun z M => HK.out _ _ z M) _
set_option maxHeartbeats 4000000 in
theorem nothing5 (a b : C) (w : World) :
    Calls Tryz.prog 212 #[.agg #[.int .u64 (bi a.t.v), .int .u64 (bi a.t.m), .int .u64 a.u.lo, .int .u64 a.u.hi, .int .i64 a.s.lo, .int .i64 a.s.hi], .agg #[.int .u64 (bi b.t.v), .int .u64 (bi b.t.m), .int .u64 b.u.lo, .int .u64 b.u.hi, .int .i64 b.s.lo, .int .i64 b.s.hi]] w fun e w' => e = .returned (.tuple #[.agg #[.int .u64 (bi a.t.v), .int .u64 (bi a.t.m), .int .u64 a.u.lo, .int .u64 a.u.hi, .int .i64 a.s.lo, .int .i64 a.s.hi], .agg #[.int .u64 (bi b.t.v), .int .u64 (bi b.t.m), .int .u64 b.u.lo, .int .u64 b.u.hi, .int .i64 b.s.lo, .int .i64 b.s.hi], .bool true]) ∧ Below w.heap.size w w' := by
  go_enter Tryz.func212, Tryz.ntmps212
  have M := Gw.Mem.nil w
  refine wp_seq (nothing5_r0 a b (fun _ _ d _ _ h => by cases d <;> exact h) ?_ _ M)
  clear M
  intro _ d1_0 d1_1 d1_2 d1_3 z1 M
  refine wp_seq (nothing5_r1 a b (fun _ _ d _ _ h => by cases d <;> exact h) ?_ _ M)
  clear M
  intro _ _ z2 M
  refine wp_ret ?_
  try simp only [Exit.inBlock, Exit.then]
  have g0 := M.cell 1 0
  have g1 := M.cell 1 1
  have g2 := M.cell 1 2
  have g3 := M.cell 1 3
  have g4 := M.cell 1 4
  have g5 := M.cell 1 5
  have g6 := M.cell 0 0
  have g7 := M.cell 0 1
  have g8 := M.cell 0 2
  have g9 := M.cell 0 3
  have g10 := M.cell 0 4
  have g11 := M.cell 0 5
  refine bodyPost_ret (by simp [results, Tryz.results212, g0, g1, g2, g3, g4, g5, g6, g7, g8, g9, g10, g11, go_sem]; try rfl) rfl ?_
  exact ⟨rfl, M.below⟩
def mtC (a b : C) : C := ⟨meetT a.t b.t, meetE a.u b.u, meetE a.s b.s⟩
def mtB (a b : C) : Bool := meetOk a.t b.t && (metE a.u b.u && metE a.s b.s)
noncomputable def same5_r0C : Code := (Tryz.f209.body.bind (Rg.findR 0)).getD .skip
set_option maxHeartbeats 4000000 in
theorem same5_r0 (a b : C) {w0 : World}  {K : Act → World → Prop} {Q0 : Exit → Act → World → Prop} {u2 u3 u4 u5 u6 u7 u8 u9 u10 u11 u12 u13 u14 u15 u16 u17 u18 u19 u20 u21 u22 u23 u24 u25 u26 u27 u28 u29 u30 u31 u32 u33 u34 u35 u36 u37 u38 u39 u40 u41 u42 u43 u44 u45 u46 u47 u48 u49 u50 : Value}
    (hQ : ∀ c a d v w, Q0 (.panic c) (Act.put a d v) w → Q0 (.panic c) a w)
    (hK : ∀ (t6 : Value) (d1_0 d1_1 d1_2 d1_3 : Nat) (z : World), Gw.Mem w0 [(d1_3, .cells #[.int .u64 0, .int .u64 0, .int .u64 0, .int .u64 0, .int .i64 0, .int .i64 0] 30), (d1_2, .cells #[.int .u64 0, .int .u64 0, .int .u64 0, .int .u64 0, .int .i64 0, .int .i64 0] 30), (d1_1, .cells #[.int .u64 (bi b.t.v), .int .u64 (bi b.t.m), .int .u64 b.u.lo, .int .u64 b.u.hi, .int .i64 b.s.lo, .int .i64 b.s.hi] 30), (d1_0, .cells #[.int .u64 (bi a.t.v), .int .u64 (bi a.t.m), .int .u64 a.u.lo, .int .u64 a.u.hi, .int .i64 a.s.lo, .int .i64 a.s.hi] 30)] z → K ⟨#[.agg #[.int .u64 (bi a.t.v), .int .u64 (bi a.t.m), .int .u64 a.u.lo, .int .u64 a.u.hi, .int .i64 a.s.lo, .int .i64 a.s.hi], .agg #[.int .u64 (bi b.t.v), .int .u64 (bi b.t.m), .int .u64 b.u.lo, .int .u64 b.u.hi, .int .i64 b.s.lo, .int .i64 b.s.hi], .pointer (some ⟨d1_0, 0, none⟩), .pointer (some ⟨d1_1, 0, none⟩), .pointer (some ⟨d1_2, 0, none⟩), .pointer (some ⟨d1_3, 0, none⟩), t6, u7, u8, u9, u10, u11, u12, u13, u14, u15, u16, u17, u18, u19, u20, u21, u22, u23, u24, u25, u26, u27, u28, u29, u30, u31, u32, u33, u34, u35, u36, u37, u38, u39, u40, u41, u42, u43, u44, u45, u46, u47, u48, u49, u50], []⟩ z) (wy : World) (M : Gw.Mem w0 [] wy) :
    same5_r0C.wp Tryz.prog (Exit.then K Q0) ⟨#[.agg #[.int .u64 (bi a.t.v), .int .u64 (bi a.t.m), .int .u64 a.u.lo, .int .u64 a.u.hi, .int .i64 a.s.lo, .int .i64 a.s.hi], .agg #[.int .u64 (bi b.t.v), .int .u64 (bi b.t.m), .int .u64 b.u.lo, .int .u64 b.u.hi, .int .i64 b.s.lo, .int .i64 b.s.hi], u2, u3, u4, u5, u6, u7, u8, u9, u10, u11, u12, u13, u14, u15, u16, u17, u18, u19, u20, u21, u22, u23, u24, u25, u26, u27, u28, u29, u30, u31, u32, u33, u34, u35, u36, u37, u38, u39, u40, u41, u42, u43, u44, u45, u46, u47, u48, u49, u50], []⟩ wy := by
  have HK := Lib.hid hK
  clear hK
  conv => arg 2; whnf
  refine Gw.line _ M ?_
  clear M wy
  refine Gw.ss ?_
  intro w M K' hK
  go_simp
  have M1 := M.alloc (.cells #[.int .u64 (bi a.t.v), .int .u64 (bi a.t.m), .int .u64 a.u.lo, .int .u64 a.u.hi, .int .i64 a.s.lo, .int .i64 a.s.hi] 30)
  generalize w.heap.size = d1_0 at M1 ⊢
  refine hK.out _ _ _ M1 ?_
  clear hK K' M1 M w
  try simp only [Act.put, ptA, ptB, ptC]
  refine Gw.ss ?_
  intro w M K' hK
  go_simp
  have M1 := M.alloc (.cells #[.int .u64 (bi b.t.v), .int .u64 (bi b.t.m), .int .u64 b.u.lo, .int .u64 b.u.hi, .int .i64 b.s.lo, .int .i64 b.s.hi] 30)
  generalize w.heap.size = d1_1 at M1 ⊢
  refine hK.out _ _ _ M1 ?_
  clear hK K' M1 M w
  try simp only [Act.put, ptA, ptB, ptC]
  refine Gw.ss ?_
  intro w M K' hK
  go_simp
  have M1 := M.alloc (.cells #[.int .u64 0, .int .u64 0, .int .u64 0, .int .u64 0, .int .i64 0, .int .i64 0] 30)
  generalize w.heap.size = d1_2 at M1 ⊢
  refine hK.out _ _ _ M1 ?_
  clear hK K' M1 M w
  try simp only [Act.put, ptA, ptB, ptC]
  refine Gw.ss ?_
  intro w M K' hK
  go_simp
  have M1 := M.alloc (.cells #[.int .u64 0, .int .u64 0, .int .u64 0, .int .u64 0, .int .i64 0, .int .i64 0] 30)
  generalize w.heap.size = d1_3 at M1 ⊢
  refine hK.out _ _ _ M1 ?_
  clear hK K' M1 M w
  try simp only [Act.put, ptA, ptB, ptC]
  refine Gw.sw (.bool false) ?_
  try simp only [Act.put, ptA, ptB, ptC]
  exact fun z M => HK.out _ _ _ _ _ z M
noncomputable def same5_r1C : Code := (Tryz.f209.body.bind (Rg.findR 1)).getD .skip
set_option maxHeartbeats 4000000 in
theorem same5_r1 (a b : C) {w0 : World}  {K : Act → World → Prop} {Q0 : Exit → Act → World → Prop} {d1_3 d1_2 d1_1 d1_0 : Nat} {u0 u1 u4 u5 u6 u7 u8 u9 u10 u11 u12 u13 u14 u15 u16 u17 u18 u19 u20 u21 u22 u23 u24 u25 u26 u27 u28 u29 u30 u31 u32 u33 u34 u35 u36 u37 u38 u39 u40 u41 u42 u43 u44 u45 u46 u47 u48 u49 u50 : Value}
    (hQ : ∀ c a d v w, Q0 (.panic c) (Act.put a d v) w → Q0 (.panic c) a w)
    (hK : ∀ (t14 t15 t16 t17 t18 t19 t20 t21 : Value) (d2_8 : Nat) (z : World), Gw.Mem w0 [(d2_8, .cells #[.int .u64 (bi (meetT a.t b.t).v), .int .u64 (bi (meetT a.t b.t).m)] 24), (d1_3, .cells #[.int .u64 0, .int .u64 0, .int .u64 0, .int .u64 0, .int .i64 0, .int .i64 0] 30), (d1_2, .cells #[.int .u64 0, .int .u64 0, .int .u64 0, .int .u64 0, .int .i64 0, .int .i64 0] 30), (d1_1, .cells #[.int .u64 (bi b.t.v), .int .u64 (bi b.t.m), .int .u64 b.u.lo, .int .u64 b.u.hi, .int .i64 b.s.lo, .int .i64 b.s.hi] 30), (d1_0, .cells #[.int .u64 (bi a.t.v), .int .u64 (bi a.t.m), .int .u64 a.u.lo, .int .u64 a.u.hi, .int .i64 a.s.lo, .int .i64 a.s.hi] 30)] z → K ⟨#[u0, u1, .pointer (some ⟨d1_0, 0, none⟩), .pointer (some ⟨d1_1, 0, none⟩), u4, u5, u6, .pointer (some ⟨d2_8, 0, none⟩), .bool (meetOk a.t b.t), u9, u10, u11, u12, u13, t14, t15, t16, t17, t18, t19, t20, t21, u22, u23, u24, u25, u26, u27, u28, u29, u30, u31, u32, u33, u34, u35, u36, u37, u38, u39, u40, u41, u42, u43, u44, u45, u46, u47, u48, u49, u50], []⟩ z) (wy : World) (M : Gw.Mem w0 [(d1_3, .cells #[.int .u64 0, .int .u64 0, .int .u64 0, .int .u64 0, .int .i64 0, .int .i64 0] 30), (d1_2, .cells #[.int .u64 0, .int .u64 0, .int .u64 0, .int .u64 0, .int .i64 0, .int .i64 0] 30), (d1_1, .cells #[.int .u64 (bi b.t.v), .int .u64 (bi b.t.m), .int .u64 b.u.lo, .int .u64 b.u.hi, .int .i64 b.s.lo, .int .i64 b.s.hi] 30), (d1_0, .cells #[.int .u64 (bi a.t.v), .int .u64 (bi a.t.m), .int .u64 a.u.lo, .int .u64 a.u.hi, .int .i64 a.s.lo, .int .i64 a.s.hi] 30)] wy) :
    same5_r1C.wp Tryz.prog (Exit.then K Q0) ⟨#[u0, u1, .pointer (some ⟨d1_0, 0, none⟩), .pointer (some ⟨d1_1, 0, none⟩), u4, u5, u6, u7, u8, u9, u10, u11, u12, u13, u14, u15, u16, u17, u18, u19, u20, u21, u22, u23, u24, u25, u26, u27, u28, u29, u30, u31, u32, u33, u34, u35, u36, u37, u38, u39, u40, u41, u42, u43, u44, u45, u46, u47, u48, u49, u50], []⟩ wy := by
  have HK := Lib.hid hK
  clear hK
  conv => arg 2; whnf
  refine Gw.line _ M ?_
  clear M wy
  refine Gw.sw (.pointer (some ⟨d1_0, 0, none⟩)) ?_
  try simp only [Act.put, ptA, ptB, ptC]
  refine Gw.sq (.agg #[.int .u64 (bi a.t.v), .int .u64 (bi a.t.m)]) ?_ ?_
  · intro w M; have c := M.c2 3 0 1; go_simp
  try simp only [Act.put, ptA, ptB, ptC]
  refine Gw.sw (.pointer (some ⟨d1_1, 0, none⟩)) ?_
  try simp only [Act.put, ptA, ptB, ptC]
  refine Gw.sq (.agg #[.int .u64 (bi b.t.v), .int .u64 (bi b.t.m)]) ?_ ?_
  · intro w M; have c := M.c2 2 0 1; go_simp
  try simp only [Act.put, ptA, ptB, ptC]
  refine Gw.sk (.tuple #[.agg #[.int .u64 (bi (meetT a.t b.t).v), .int .u64 (bi (meetT a.t b.t).m)], .bool (meetOk a.t b.t)]) 104 #[.agg #[.int .u64 (bi a.t.v), .int .u64 (bi a.t.m)], .agg #[.int .u64 (bi b.t.v), .int .u64 (bi b.t.m)]] (fun w M => L3.meet_any a.t b.t w) ?_
  try simp only [Act.put, ptA, ptB, ptC]
  refine Gw.sw (.tuple #[.agg #[.int .u64 (bi (meetT a.t b.t).v), .int .u64 (bi (meetT a.t b.t).m)], .bool (meetOk a.t b.t)]) ?_
  try simp only [Act.put, ptA, ptB, ptC]
  refine Gw.sw (.agg #[.int .u64 (bi (meetT a.t b.t).v), .int .u64 (bi (meetT a.t b.t).m)]) ?_
  try simp only [Act.put, ptA, ptB, ptC]
  refine Gw.sw (.bool (meetOk a.t b.t)) ?_
  try simp only [Act.put, ptA, ptB, ptC]
  refine Gw.ss ?_
  intro w M K' hK
  go_simp
  have M1 := M.alloc (.cells #[.int .u64 0, .int .u64 0] 24)
  generalize w.heap.size = d2_8 at M1 ⊢
  refine hK.out _ _ _ M1 ?_
  clear hK K' M1 M w
  try simp only [Act.put, ptA, ptB, ptC]
  refine Gw.ss ?_
  intro w M K' hK
  have c := M.c2 0 0 1
  have f := M.f2 0 0 1
  go_simp
  refine hK.out _ _ _ ((M.set 0 0 _).set 0 1 _) ?_
  clear hK K' c f M w
  refine Gw.sw (.bool (meetOk a.t b.t)) ?_
  try simp only [Act.put, ptA, ptB, ptC]
  exact fun z M => HK.out _ _ _ _ _ _ _ _ _ z M
noncomputable def same5_r2C : Code := (Tryz.f209.body.bind (Rg.findR 2)).getD .skip
set_option maxHeartbeats 4000000 in
theorem same5_r2 (a b : C) {w0 : World}  {K : Act → World → Prop} {Q0 : Exit → Act → World → Prop} {d2_8 d1_3 d1_2 d1_1 d1_0 : Nat} {u0 u1 u4 u5 u6 u7 u8 u9 u10 u11 u12 u13 u14 u15 u16 u17 u18 u19 u20 u21 u22 u23 u24 u25 u26 u27 u28 u29 u30 u31 u32 u33 u34 u35 u36 u37 u38 u39 u40 u41 u42 u43 u44 u45 u46 u47 u48 u49 u50 : Value}
    (hQ : ∀ c a d v w, Q0 (.panic c) (Act.put a d v) w → Q0 (.panic c) a w)
    (hK : ∀ (t22 t23 t24 t25 t26 t27 t28 t29 : Value) (d3_8 : Nat) (z : World), Gw.Mem w0 [(d3_8, .cells #[.int .u64 ((meetE a.u b.u).lo), .int .u64 ((meetE a.u b.u).hi)] 26), (d2_8, .cells #[.int .u64 (bi (meetT a.t b.t).v), .int .u64 (bi (meetT a.t b.t).m)] 24), (d1_3, .cells #[.int .u64 0, .int .u64 0, .int .u64 0, .int .u64 0, .int .i64 0, .int .i64 0] 30), (d1_2, .cells #[.int .u64 0, .int .u64 0, .int .u64 0, .int .u64 0, .int .i64 0, .int .i64 0] 30), (d1_1, .cells #[.int .u64 (bi b.t.v), .int .u64 (bi b.t.m), .int .u64 b.u.lo, .int .u64 b.u.hi, .int .i64 b.s.lo, .int .i64 b.s.hi] 30), (d1_0, .cells #[.int .u64 (bi a.t.v), .int .u64 (bi a.t.m), .int .u64 a.u.lo, .int .u64 a.u.hi, .int .i64 a.s.lo, .int .i64 a.s.hi] 30)] z → K ⟨#[u0, u1, .pointer (some ⟨d1_0, 0, none⟩), .pointer (some ⟨d1_1, 0, none⟩), u4, u5, u6, u7, u8, .pointer (some ⟨d3_8, 0, none⟩), .bool (metE a.u b.u), u11, u12, u13, u14, u15, u16, u17, u18, u19, u20, u21, t22, t23, t24, t25, t26, t27, t28, t29, u30, u31, u32, u33, u34, u35, u36, u37, u38, u39, u40, u41, u42, u43, u44, u45, u46, u47, u48, u49, u50], []⟩ z) (wy : World) (M : Gw.Mem w0 [(d2_8, .cells #[.int .u64 (bi (meetT a.t b.t).v), .int .u64 (bi (meetT a.t b.t).m)] 24), (d1_3, .cells #[.int .u64 0, .int .u64 0, .int .u64 0, .int .u64 0, .int .i64 0, .int .i64 0] 30), (d1_2, .cells #[.int .u64 0, .int .u64 0, .int .u64 0, .int .u64 0, .int .i64 0, .int .i64 0] 30), (d1_1, .cells #[.int .u64 (bi b.t.v), .int .u64 (bi b.t.m), .int .u64 b.u.lo, .int .u64 b.u.hi, .int .i64 b.s.lo, .int .i64 b.s.hi] 30), (d1_0, .cells #[.int .u64 (bi a.t.v), .int .u64 (bi a.t.m), .int .u64 a.u.lo, .int .u64 a.u.hi, .int .i64 a.s.lo, .int .i64 a.s.hi] 30)] wy) :
    same5_r2C.wp Tryz.prog (Exit.then K Q0) ⟨#[u0, u1, .pointer (some ⟨d1_0, 0, none⟩), .pointer (some ⟨d1_1, 0, none⟩), u4, u5, u6, u7, u8, u9, u10, u11, u12, u13, u14, u15, u16, u17, u18, u19, u20, u21, u22, u23, u24, u25, u26, u27, u28, u29, u30, u31, u32, u33, u34, u35, u36, u37, u38, u39, u40, u41, u42, u43, u44, u45, u46, u47, u48, u49, u50], []⟩ wy := by
  have HK := Lib.hid hK
  clear hK
  conv => arg 2; whnf
  refine Gw.line _ M ?_
  clear M wy
  refine Gw.sw (.pointer (some ⟨d1_0, 2, none⟩)) ?_
  try simp only [Act.put, ptA, ptB, ptC]
  refine Gw.sq (.agg #[.int .u64 a.u.lo, .int .u64 a.u.hi]) ?_ ?_
  · intro w M; have c := M.c2 4 2 3; go_simp
  try simp only [Act.put, ptA, ptB, ptC]
  refine Gw.sw (.pointer (some ⟨d1_1, 2, none⟩)) ?_
  try simp only [Act.put, ptA, ptB, ptC]
  refine Gw.sq (.agg #[.int .u64 b.u.lo, .int .u64 b.u.hi]) ?_ ?_
  · intro w M; have c := M.c2 3 2 3; go_simp
  try simp only [Act.put, ptA, ptB, ptC]
  refine Gw.sk (.tuple #[.agg #[.int .u64 ((meetE a.u b.u).lo), .int .u64 ((meetE a.u b.u).hi)], .bool (metE a.u b.u)]) 100 #[.agg #[.int .u64 a.u.lo, .int .u64 a.u.hi], .agg #[.int .u64 b.u.lo, .int .u64 b.u.hi]] (fun w M => umee_any a.u b.u w) ?_
  try simp only [Act.put, ptA, ptB, ptC]
  refine Gw.sw (.tuple #[.agg #[.int .u64 ((meetE a.u b.u).lo), .int .u64 ((meetE a.u b.u).hi)], .bool (metE a.u b.u)]) ?_
  try simp only [Act.put, ptA, ptB, ptC]
  refine Gw.sw (.agg #[.int .u64 ((meetE a.u b.u).lo), .int .u64 ((meetE a.u b.u).hi)]) ?_
  try simp only [Act.put, ptA, ptB, ptC]
  refine Gw.sw (.bool (metE a.u b.u)) ?_
  try simp only [Act.put, ptA, ptB, ptC]
  refine Gw.ss ?_
  intro w M K' hK
  go_simp
  have M1 := M.alloc (.cells #[.int .u64 0, .int .u64 0] 26)
  generalize w.heap.size = d3_8 at M1 ⊢
  refine hK.out _ _ _ M1 ?_
  clear hK K' M1 M w
  try simp only [Act.put, ptA, ptB, ptC]
  refine Gw.ss ?_
  intro w M K' hK
  have c := M.c2 0 0 1
  have f := M.f2 0 0 1
  go_simp
  refine hK.out _ _ _ ((M.set 0 0 _).set 0 1 _) ?_
  clear hK K' c f M w
  refine Gw.sw (.bool (metE a.u b.u)) ?_
  try simp only [Act.put, ptA, ptB, ptC]
  exact fun z M => HK.out _ _ _ _ _ _ _ _ _ z M
noncomputable def same5_r3C : Code := (Tryz.f209.body.bind (Rg.findR 3)).getD .skip
set_option maxHeartbeats 4000000 in
theorem same5_r3 (a b : C) {w0 : World}  {K : Act → World → Prop} {Q0 : Exit → Act → World → Prop} {d3_8 d2_8 d1_3 d1_2 d1_1 d1_0 : Nat} {u0 u1 u4 u5 u6 u7 u8 u9 u10 u11 u12 u13 u14 u15 u16 u17 u18 u19 u20 u21 u22 u23 u24 u25 u26 u27 u28 u29 u30 u31 u32 u33 u34 u35 u36 u37 u38 u39 u40 u41 u42 u43 u44 u45 u46 u47 u48 u49 u50 : Value}
    (hQ : ∀ c a d v w, Q0 (.panic c) (Act.put a d v) w → Q0 (.panic c) a w)
    (hK : ∀ (t30 t31 t32 t33 t34 t35 t36 t37 : Value) (d4_8 : Nat) (z : World), Gw.Mem w0 [(d4_8, .cells #[.int .i64 ((meetE a.s b.s).lo), .int .i64 ((meetE a.s b.s).hi)] 28), (d3_8, .cells #[.int .u64 ((meetE a.u b.u).lo), .int .u64 ((meetE a.u b.u).hi)] 26), (d2_8, .cells #[.int .u64 (bi (meetT a.t b.t).v), .int .u64 (bi (meetT a.t b.t).m)] 24), (d1_3, .cells #[.int .u64 0, .int .u64 0, .int .u64 0, .int .u64 0, .int .i64 0, .int .i64 0] 30), (d1_2, .cells #[.int .u64 0, .int .u64 0, .int .u64 0, .int .u64 0, .int .i64 0, .int .i64 0] 30), (d1_1, .cells #[.int .u64 (bi b.t.v), .int .u64 (bi b.t.m), .int .u64 b.u.lo, .int .u64 b.u.hi, .int .i64 b.s.lo, .int .i64 b.s.hi] 30), (d1_0, .cells #[.int .u64 (bi a.t.v), .int .u64 (bi a.t.m), .int .u64 a.u.lo, .int .u64 a.u.hi, .int .i64 a.s.lo, .int .i64 a.s.hi] 30)] z → K ⟨#[u0, u1, .pointer (some ⟨d1_0, 0, none⟩), .pointer (some ⟨d1_1, 0, none⟩), u4, u5, u6, u7, u8, u9, u10, .pointer (some ⟨d4_8, 0, none⟩), .bool (metE a.s b.s), u13, u14, u15, u16, u17, u18, u19, u20, u21, u22, u23, u24, u25, u26, u27, u28, u29, t30, t31, t32, t33, t34, t35, t36, t37, u38, u39, u40, u41, u42, u43, u44, u45, u46, u47, u48, u49, u50], []⟩ z) (wy : World) (M : Gw.Mem w0 [(d3_8, .cells #[.int .u64 ((meetE a.u b.u).lo), .int .u64 ((meetE a.u b.u).hi)] 26), (d2_8, .cells #[.int .u64 (bi (meetT a.t b.t).v), .int .u64 (bi (meetT a.t b.t).m)] 24), (d1_3, .cells #[.int .u64 0, .int .u64 0, .int .u64 0, .int .u64 0, .int .i64 0, .int .i64 0] 30), (d1_2, .cells #[.int .u64 0, .int .u64 0, .int .u64 0, .int .u64 0, .int .i64 0, .int .i64 0] 30), (d1_1, .cells #[.int .u64 (bi b.t.v), .int .u64 (bi b.t.m), .int .u64 b.u.lo, .int .u64 b.u.hi, .int .i64 b.s.lo, .int .i64 b.s.hi] 30), (d1_0, .cells #[.int .u64 (bi a.t.v), .int .u64 (bi a.t.m), .int .u64 a.u.lo, .int .u64 a.u.hi, .int .i64 a.s.lo, .int .i64 a.s.hi] 30)] wy) :
    same5_r3C.wp Tryz.prog (Exit.then K Q0) ⟨#[u0, u1, .pointer (some ⟨d1_0, 0, none⟩), .pointer (some ⟨d1_1, 0, none⟩), u4, u5, u6, u7, u8, u9, u10, u11, u12, u13, u14, u15, u16, u17, u18, u19, u20, u21, u22, u23, u24, u25, u26, u27, u28, u29, u30, u31, u32, u33, u34, u35, u36, u37, u38, u39, u40, u41, u42, u43, u44, u45, u46, u47, u48, u49, u50], []⟩ wy := by
  have HK := Lib.hid hK
  clear hK
  conv => arg 2; whnf
  refine Gw.line _ M ?_
  clear M wy
  refine Gw.sw (.pointer (some ⟨d1_0, 4, none⟩)) ?_
  try simp only [Act.put, ptA, ptB, ptC]
  refine Gw.sq (.agg #[.int .i64 a.s.lo, .int .i64 a.s.hi]) ?_ ?_
  · intro w M; have c := M.c2 5 4 5; go_simp
  try simp only [Act.put, ptA, ptB, ptC]
  refine Gw.sw (.pointer (some ⟨d1_1, 4, none⟩)) ?_
  try simp only [Act.put, ptA, ptB, ptC]
  refine Gw.sq (.agg #[.int .i64 b.s.lo, .int .i64 b.s.hi]) ?_ ?_
  · intro w M; have c := M.c2 4 4 5; go_simp
  try simp only [Act.put, ptA, ptB, ptC]
  refine Gw.sk (.tuple #[.agg #[.int .i64 ((meetE a.s b.s).lo), .int .i64 ((meetE a.s b.s).hi)], .bool (metE a.s b.s)]) 102 #[.agg #[.int .i64 a.s.lo, .int .i64 a.s.hi], .agg #[.int .i64 b.s.lo, .int .i64 b.s.hi]] (fun w M => smee_any a.s b.s w) ?_
  try simp only [Act.put, ptA, ptB, ptC]
  refine Gw.sw (.tuple #[.agg #[.int .i64 ((meetE a.s b.s).lo), .int .i64 ((meetE a.s b.s).hi)], .bool (metE a.s b.s)]) ?_
  try simp only [Act.put, ptA, ptB, ptC]
  refine Gw.sw (.agg #[.int .i64 ((meetE a.s b.s).lo), .int .i64 ((meetE a.s b.s).hi)]) ?_
  try simp only [Act.put, ptA, ptB, ptC]
  refine Gw.sw (.bool (metE a.s b.s)) ?_
  try simp only [Act.put, ptA, ptB, ptC]
  refine Gw.ss ?_
  intro w M K' hK
  go_simp
  have M1 := M.alloc (.cells #[.int .i64 0, .int .i64 0] 28)
  generalize w.heap.size = d4_8 at M1 ⊢
  refine hK.out _ _ _ M1 ?_
  clear hK K' M1 M w
  try simp only [Act.put, ptA, ptB, ptC]
  refine Gw.ss ?_
  intro w M K' hK
  have c := M.c2 0 0 1
  have f := M.f2 0 0 1
  go_simp
  refine hK.out _ _ _ ((M.set 0 0 _).set 0 1 _) ?_
  clear hK K' c f M w
  refine Gw.sw (.bool (metE a.s b.s)) ?_
  try simp only [Act.put, ptA, ptB, ptC]
  exact fun z M => HK.out _ _ _ _ _ _ _ _ _ z M
noncomputable def same5_r4C : Code := (Tryz.f209.body.bind (Rg.findR 4)).getD .skip
set_option maxHeartbeats 4000000 in
theorem same5_r4 (a b : C) {w0 : World}  {K : Act → World → Prop} {Q0 : Exit → Act → World → Prop} {d4_8 d3_8 d2_8 d1_3 d1_2 d1_1 d1_0 : Nat} {u0 u1 u2 u3 u4 u5 u6 u8 u10 u12 u13 u14 u15 u16 u17 u18 u19 u20 u21 u22 u23 u24 u25 u26 u27 u28 u29 u30 u31 u32 u33 u34 u35 u36 u37 u38 u39 u40 u41 u42 u43 u44 u45 u46 u47 u48 u49 u50 : Value}
    (hQ : ∀ c a d v w, Q0 (.panic c) (Act.put a d v) w → Q0 (.panic c) a w)
    (hK : ∀ (t38 t39 t40 t41 : Value) (d5_4 : Nat) (z : World), Gw.Mem w0 [(d5_4, .cells #[.int .u64 (bi (meetT a.t b.t).v), .int .u64 (bi (meetT a.t b.t).m), .int .u64 ((meetE a.u b.u).lo), .int .u64 ((meetE a.u b.u).hi), .int .i64 ((meetE a.s b.s).lo), .int .i64 ((meetE a.s b.s).hi)] 30), (d4_8, .cells #[.int .i64 ((meetE a.s b.s).lo), .int .i64 ((meetE a.s b.s).hi)] 28), (d3_8, .cells #[.int .u64 ((meetE a.u b.u).lo), .int .u64 ((meetE a.u b.u).hi)] 26), (d2_8, .cells #[.int .u64 (bi (meetT a.t b.t).v), .int .u64 (bi (meetT a.t b.t).m)] 24), (d1_3, .cells #[.int .u64 0, .int .u64 0, .int .u64 0, .int .u64 0, .int .i64 0, .int .i64 0] 30), (d1_2, .cells #[.int .u64 0, .int .u64 0, .int .u64 0, .int .u64 0, .int .i64 0, .int .i64 0] 30), (d1_1, .cells #[.int .u64 (bi b.t.v), .int .u64 (bi b.t.m), .int .u64 b.u.lo, .int .u64 b.u.hi, .int .i64 b.s.lo, .int .i64 b.s.hi] 30), (d1_0, .cells #[.int .u64 (bi a.t.v), .int .u64 (bi a.t.m), .int .u64 a.u.lo, .int .u64 a.u.hi, .int .i64 a.s.lo, .int .i64 a.s.hi] 30)] z → K ⟨#[u0, u1, u2, u3, u4, u5, u6, .pointer (some ⟨d2_8, 0, none⟩), u8, .pointer (some ⟨d3_8, 0, none⟩), u10, .pointer (some ⟨d4_8, 0, none⟩), u12, .pointer (some ⟨d5_4, 0, none⟩), u14, u15, u16, u17, u18, u19, u20, u21, u22, u23, u24, u25, u26, u27, u28, u29, u30, u31, u32, u33, u34, u35, u36, u37, t38, t39, t40, t41, u42, u43, u44, u45, u46, u47, u48, u49, u50], []⟩ z) (wy : World) (M : Gw.Mem w0 [(d4_8, .cells #[.int .i64 ((meetE a.s b.s).lo), .int .i64 ((meetE a.s b.s).hi)] 28), (d3_8, .cells #[.int .u64 ((meetE a.u b.u).lo), .int .u64 ((meetE a.u b.u).hi)] 26), (d2_8, .cells #[.int .u64 (bi (meetT a.t b.t).v), .int .u64 (bi (meetT a.t b.t).m)] 24), (d1_3, .cells #[.int .u64 0, .int .u64 0, .int .u64 0, .int .u64 0, .int .i64 0, .int .i64 0] 30), (d1_2, .cells #[.int .u64 0, .int .u64 0, .int .u64 0, .int .u64 0, .int .i64 0, .int .i64 0] 30), (d1_1, .cells #[.int .u64 (bi b.t.v), .int .u64 (bi b.t.m), .int .u64 b.u.lo, .int .u64 b.u.hi, .int .i64 b.s.lo, .int .i64 b.s.hi] 30), (d1_0, .cells #[.int .u64 (bi a.t.v), .int .u64 (bi a.t.m), .int .u64 a.u.lo, .int .u64 a.u.hi, .int .i64 a.s.lo, .int .i64 a.s.hi] 30)] wy) :
    same5_r4C.wp Tryz.prog (Exit.then K Q0) ⟨#[u0, u1, u2, u3, u4, u5, u6, .pointer (some ⟨d2_8, 0, none⟩), u8, .pointer (some ⟨d3_8, 0, none⟩), u10, .pointer (some ⟨d4_8, 0, none⟩), u12, u13, u14, u15, u16, u17, u18, u19, u20, u21, u22, u23, u24, u25, u26, u27, u28, u29, u30, u31, u32, u33, u34, u35, u36, u37, u38, u39, u40, u41, u42, u43, u44, u45, u46, u47, u48, u49, u50], []⟩ wy := by
  have HK := Lib.hid hK
  clear hK
  conv => arg 2; whnf
  refine Gw.line _ M ?_
  clear M wy
  refine Gw.sq (.agg #[.int .u64 (bi (meetT a.t b.t).v), .int .u64 (bi (meetT a.t b.t).m)]) ?_ ?_
  · intro w M; have c := M.c2 2 0 1; go_simp
  try simp only [Act.put, ptA, ptB, ptC]
  refine Gw.sq (.agg #[.int .u64 ((meetE a.u b.u).lo), .int .u64 ((meetE a.u b.u).hi)]) ?_ ?_
  · intro w M; have c := M.c2 1 0 1; go_simp
  try simp only [Act.put, ptA, ptB, ptC]
  refine Gw.sq (.agg #[.int .i64 ((meetE a.s b.s).lo), .int .i64 ((meetE a.s b.s).hi)]) ?_ ?_
  · intro w M; have c := M.c2 0 0 1; go_simp
  try simp only [Act.put, ptA, ptB, ptC]
  refine Gw.sw (.agg #[.int .u64 (bi (meetT a.t b.t).v), .int .u64 (bi (meetT a.t b.t).m), .int .u64 ((meetE a.u b.u).lo), .int .u64 ((meetE a.u b.u).hi), .int .i64 ((meetE a.s b.s).lo), .int .i64 ((meetE a.s b.s).hi)]) ?_
  try simp only [Act.put, ptA, ptB, ptC]
  refine Gw.ss ?_
  intro w M K' hK
  go_simp
  have M1 := M.alloc (.cells #[.int .u64 0, .int .u64 0, .int .u64 0, .int .u64 0, .int .i64 0, .int .i64 0] 30)
  generalize w.heap.size = d5_4 at M1 ⊢
  refine hK.out _ _ _ M1 ?_
  clear hK K' M1 M w
  try simp only [Act.put, ptA, ptB, ptC]
  refine Gw.ss ?_
  intro w M K' hK
  have c := M.c6 0
  have f := M.f6 0
  go_simp
  refine hK.out _ _ _ ((((((M.set 0 0 _).set 0 1 _).set 0 2 _).set 0 3 _).set 0 4 _).set 0 5 _) ?_
  clear hK K' c f M w
  exact fun z M => HK.out _ _ _ _ _ z M
noncomputable def same5_r5C : Code := (Tryz.f209.body.bind (Rg.findR 5)).getD .skip
set_option maxHeartbeats 4000000 in
theorem same5_r5 (a b : C) {w0 : World}  {K : Act → World → Prop} {Q0 : Exit → Act → World → Prop} {d5_4 d4_8 d3_8 d2_8 d1_3 d1_2 d1_1 d1_0 : Nat} {u0 u1 u2 u3 u6 u7 u9 u11 u14 u15 u16 u17 u18 u19 u20 u21 u22 u23 u24 u25 u26 u27 u28 u29 u30 u31 u32 u33 u34 u35 u36 u37 u38 u39 u40 u41 u42 u43 u44 u45 u46 u47 u48 u49 u50 : Value}
    (hQ : ∀ c a d v w, Q0 (.panic c) (Act.put a d v) w → Q0 (.panic c) a w)
    (hK : ∀ (t42 t43 t44 t45 t46 t47 t48 t49 t50 t8 t10 : Value) (o6 : Bool) (_ : o6 = ((meetOk a.t b.t) && ((metE a.u b.u) && (metE a.s b.s)))) (z : World), Gw.Mem w0 [(d5_4, .cells #[.int .u64 (bi (meetT a.t b.t).v), .int .u64 (bi (meetT a.t b.t).m), .int .u64 ((meetE a.u b.u).lo), .int .u64 ((meetE a.u b.u).hi), .int .i64 ((meetE a.s b.s).lo), .int .i64 ((meetE a.s b.s).hi)] 30), (d4_8, .cells #[.int .i64 ((meetE a.s b.s).lo), .int .i64 ((meetE a.s b.s).hi)] 28), (d3_8, .cells #[.int .u64 ((meetE a.u b.u).lo), .int .u64 ((meetE a.u b.u).hi)] 26), (d2_8, .cells #[.int .u64 (bi (meetT a.t b.t).v), .int .u64 (bi (meetT a.t b.t).m)] 24), (d1_3, .cells #[.int .u64 (bi (meetT a.t b.t).v), .int .u64 (bi (meetT a.t b.t).m), .int .u64 ((meetE a.u b.u).lo), .int .u64 ((meetE a.u b.u).hi), .int .i64 ((meetE a.s b.s).lo), .int .i64 ((meetE a.s b.s).hi)] 30), (d1_2, .cells #[.int .u64 (bi (meetT a.t b.t).v), .int .u64 (bi (meetT a.t b.t).m), .int .u64 ((meetE a.u b.u).lo), .int .u64 ((meetE a.u b.u).hi), .int .i64 ((meetE a.s b.s).lo), .int .i64 ((meetE a.s b.s).hi)] 30), (d1_1, .cells #[.int .u64 (bi b.t.v), .int .u64 (bi b.t.m), .int .u64 b.u.lo, .int .u64 b.u.hi, .int .i64 b.s.lo, .int .i64 b.s.hi] 30), (d1_0, .cells #[.int .u64 (bi a.t.v), .int .u64 (bi a.t.m), .int .u64 a.u.lo, .int .u64 a.u.hi, .int .i64 a.s.lo, .int .i64 a.s.hi] 30)] z → K ⟨#[u0, u1, u2, u3, .pointer (some ⟨d1_2, 0, none⟩), .pointer (some ⟨d1_3, 0, none⟩), .bool o6, u7, t8, u9, t10, u11, .bool (metE a.s b.s), .pointer (some ⟨d5_4, 0, none⟩), u14, u15, u16, u17, u18, u19, u20, u21, u22, u23, u24, u25, u26, u27, u28, u29, u30, u31, u32, u33, u34, u35, u36, u37, u38, u39, u40, u41, t42, t43, t44, t45, t46, t47, t48, t49, t50], []⟩ z) (wy : World) (M : Gw.Mem w0 [(d5_4, .cells #[.int .u64 (bi (meetT a.t b.t).v), .int .u64 (bi (meetT a.t b.t).m), .int .u64 ((meetE a.u b.u).lo), .int .u64 ((meetE a.u b.u).hi), .int .i64 ((meetE a.s b.s).lo), .int .i64 ((meetE a.s b.s).hi)] 30), (d4_8, .cells #[.int .i64 ((meetE a.s b.s).lo), .int .i64 ((meetE a.s b.s).hi)] 28), (d3_8, .cells #[.int .u64 ((meetE a.u b.u).lo), .int .u64 ((meetE a.u b.u).hi)] 26), (d2_8, .cells #[.int .u64 (bi (meetT a.t b.t).v), .int .u64 (bi (meetT a.t b.t).m)] 24), (d1_3, .cells #[.int .u64 0, .int .u64 0, .int .u64 0, .int .u64 0, .int .i64 0, .int .i64 0] 30), (d1_2, .cells #[.int .u64 0, .int .u64 0, .int .u64 0, .int .u64 0, .int .i64 0, .int .i64 0] 30), (d1_1, .cells #[.int .u64 (bi b.t.v), .int .u64 (bi b.t.m), .int .u64 b.u.lo, .int .u64 b.u.hi, .int .i64 b.s.lo, .int .i64 b.s.hi] 30), (d1_0, .cells #[.int .u64 (bi a.t.v), .int .u64 (bi a.t.m), .int .u64 a.u.lo, .int .u64 a.u.hi, .int .i64 a.s.lo, .int .i64 a.s.hi] 30)] wy) :
    same5_r5C.wp Tryz.prog (Exit.then K Q0) ⟨#[u0, u1, u2, u3, .pointer (some ⟨d1_2, 0, none⟩), .pointer (some ⟨d1_3, 0, none⟩), u6, u7, .bool (meetOk a.t b.t), u9, .bool (metE a.u b.u), u11, .bool (metE a.s b.s), .pointer (some ⟨d5_4, 0, none⟩), u14, u15, u16, u17, u18, u19, u20, u21, u22, u23, u24, u25, u26, u27, u28, u29, u30, u31, u32, u33, u34, u35, u36, u37, u38, u39, u40, u41, u42, u43, u44, u45, u46, u47, u48, u49, u50], []⟩ wy := by
  have HK := Lib.hid hK
  clear hK
  have hq : ∀ c a d v w, Exit.then K Q0 (.panic c) (Act.put a d v) w → Exit.then K Q0 (.panic c) a w := hQ
  conv => arg 2; whnf
  refine Gw.draw [9, 10] (Gw.Mem w0 [(d5_4, .cells #[.int .u64 (bi (meetT a.t b.t).v), .int .u64 (bi (meetT a.t b.t).m), .int .u64 ((meetE a.u b.u).lo), .int .u64 ((meetE a.u b.u).hi), .int .i64 ((meetE a.s b.s).lo), .int .i64 ((meetE a.s b.s).hi)] 30), (d4_8, .cells #[.int .i64 ((meetE a.s b.s).lo), .int .i64 ((meetE a.s b.s).hi)] 28), (d3_8, .cells #[.int .u64 ((meetE a.u b.u).lo), .int .u64 ((meetE a.u b.u).hi)] 26), (d2_8, .cells #[.int .u64 (bi (meetT a.t b.t).v), .int .u64 (bi (meetT a.t b.t).m)] 24), (d1_1, .cells #[.int .u64 (bi b.t.v), .int .u64 (bi b.t.m), .int .u64 b.u.lo, .int .u64 b.u.hi, .int .i64 b.s.lo, .int .i64 b.s.hi] 30), (d1_0, .cells #[.int .u64 (bi a.t.v), .int .u64 (bi a.t.m), .int .u64 a.u.lo, .int .u64 a.u.hi, .int .i64 a.s.lo, .int .i64 a.s.hi] 30)]) _ (by kernel_rfl) M.drew ?_
  have hG : ∀ z, Gw.Mem w0 [(d5_4, .cells #[.int .u64 (bi (meetT a.t b.t).v), .int .u64 (bi (meetT a.t b.t).m), .int .u64 ((meetE a.u b.u).lo), .int .u64 ((meetE a.u b.u).hi), .int .i64 ((meetE a.s b.s).lo), .int .i64 ((meetE a.s b.s).hi)] 30), (d4_8, .cells #[.int .i64 ((meetE a.s b.s).lo), .int .i64 ((meetE a.s b.s).hi)] 28), (d3_8, .cells #[.int .u64 ((meetE a.u b.u).lo), .int .u64 ((meetE a.u b.u).hi)] 26), (d2_8, .cells #[.int .u64 (bi (meetT a.t b.t).v), .int .u64 (bi (meetT a.t b.t).m)] 24), (d1_3, .cells #[.int .u64 0, .int .u64 0, .int .u64 0, .int .u64 0, .int .i64 0, .int .i64 0] 30), (d1_2, .cells #[.int .u64 0, .int .u64 0, .int .u64 0, .int .u64 0, .int .i64 0, .int .i64 0] 30), (d1_1, .cells #[.int .u64 (bi b.t.v), .int .u64 (bi b.t.m), .int .u64 b.u.lo, .int .u64 b.u.hi, .int .i64 b.s.lo, .int .i64 b.s.hi] 30), (d1_0, .cells #[.int .u64 (bi a.t.v), .int .u64 (bi a.t.m), .int .u64 a.u.lo, .int .u64 a.u.hi, .int .i64 a.s.lo, .int .i64 a.s.hi] 30)] z → Gw.Mem w0 [(d5_4, .cells #[.int .u64 (bi (meetT a.t b.t).v), .int .u64 (bi (meetT a.t b.t).m), .int .u64 ((meetE a.u b.u).lo), .int .u64 ((meetE a.u b.u).hi), .int .i64 ((meetE a.s b.s).lo), .int .i64 ((meetE a.s b.s).hi)] 30), (d4_8, .cells #[.int .i64 ((meetE a.s b.s).lo), .int .i64 ((meetE a.s b.s).hi)] 28), (d3_8, .cells #[.int .u64 ((meetE a.u b.u).lo), .int .u64 ((meetE a.u b.u).hi)] 26), (d2_8, .cells #[.int .u64 (bi (meetT a.t b.t).v), .int .u64 (bi (meetT a.t b.t).m)] 24), (d1_1, .cells #[.int .u64 (bi b.t.v), .int .u64 (bi b.t.m), .int .u64 b.u.lo, .int .u64 b.u.hi, .int .i64 b.s.lo, .int .i64 b.s.hi] 30), (d1_0, .cells #[.int .u64 (bi a.t.v), .int .u64 (bi a.t.m), .int .u64 a.u.lo, .int .u64 a.u.hi, .int .i64 a.s.lo, .int .i64 a.s.hi] 30)] z := fun _ h => h.sub (Gw.cc (Gw.cc (Gw.cc (Gw.cc (Gw.cd (Gw.cd (Gw.cc (Gw.cc Gw.cn))))))))
  clear M wy
  refine Gw.tg 0 (.agg #[.int .u64 (bi (meetT a.t b.t).v), .int .u64 (bi (meetT a.t b.t).m), .int .u64 ((meetE a.u b.u).lo), .int .u64 ((meetE a.u b.u).hi), .int .i64 ((meetE a.s b.s).lo), .int .i64 ((meetE a.s b.s).hi)]) ?_ ?_
  · intro w M; have c := M.c6 0; go_simp
  try simp only [Act.put, ptA, ptB, ptC]
  refine Gw.tg 1 (.agg #[.int .u64 (bi (meetT a.t b.t).v), .int .u64 (bi (meetT a.t b.t).m), .int .u64 ((meetE a.u b.u).lo), .int .u64 ((meetE a.u b.u).hi), .int .i64 ((meetE a.s b.s).lo), .int .i64 ((meetE a.s b.s).hi)]) ?_ ?_
  · intro w M; have c := M.c6 0; go_simp
  try simp only [Act.put, ptA, ptB, ptC]
  refine Gw.tw 2 (.bool (meetOk a.t b.t)) ?_
  try simp only [Act.put, ptA, ptB, ptC]
  refine Gw.tw 3 (.bool (meetOk a.t b.t)) ?_
  try simp only [Act.put, ptA, ptB, ptC]
  cases hb0_5 : (meetOk a.t b.t)
  · try simp only [Bool.not_true, Bool.not_false]
    refine Gw.tu 4 ?_
    try simp only [Act.put, ptA, ptB, ptC]
    refine Gw.tw 5 (.bool false) ?_
    try simp only [Act.put, ptA, ptB, ptC]
    refine Gw.tw 6 (.bool false) ?_
    try simp only [Act.put, ptA, ptB, ptC]
    refine Gw.tu 7 ?_
    try simp only [Act.put, ptA, ptB, ptC]
    refine Gw.tw 8 (.bool false) ?_
    try simp only [Act.put, ptA, ptB, ptC]
    refine Gw.ts 9 rfl (by kernel_rfl) ?_
    intro w M K' hK
    have c := M.c6 5
    have f := M.f6 5
    go_simp
    refine hK.out _ _ _ Gw.Mem.stays (fun h => by cases h) (fun _ h => h.sub (Gw.cc (Gw.cc (Gw.cc (Gw.cc (Gw.cd (Gw.cd (Gw.cc (Gw.cc Gw.cn))))))))) ((((((M.set 5 0 _).set 5 1 _).set 5 2 _).set 5 3 _).set 5 4 _).set 5 5 _) ?_
    clear hK K' c f M w
    refine Gw.ts 10 rfl (by kernel_rfl) ?_
    intro w M K' hK
    have c := M.c6 4
    have f := M.f6 4
    go_simp
    refine hK.out _ _ _ Gw.Mem.stays (fun h => by cases h) (fun _ h => h.sub (Gw.cc (Gw.cc (Gw.cc (Gw.cc (Gw.cd (Gw.cd (Gw.cc (Gw.cc Gw.cn))))))))) ((((((M.set 4 0 _).set 4 1 _).set 4 2 _).set 4 3 _).set 4 4 _).set 4 5 _) ?_
    clear hK K' c f M w
    refine Gw.tw 11 (.bool false) ?_ (hG := (fun _ h => h.sub (Gw.cc (Gw.cc (Gw.cc (Gw.cc (Gw.cd (Gw.cd (Gw.cc (Gw.cc Gw.cn))))))))))
    try simp only [Act.put, ptA, ptB, ptC]
    exact Gw.td (by kernel_rfl) (fun z M => HK.out _ _ _ _ _ _ _ _ _ _ _ _ (by simp [hb0_5]) z M) _
  · try simp only [Bool.not_true, Bool.not_false]
    refine Gw.tw 4 (.bool (metE a.u b.u)) ?_
    try simp only [Act.put, ptA, ptB, ptC]
    refine Gw.tw 5 (.bool (metE a.u b.u)) ?_
    try simp only [Act.put, ptA, ptB, ptC]
    refine Gw.tw 6 (.bool (metE a.u b.u)) ?_
    try simp only [Act.put, ptA, ptB, ptC]
    cases hb1_5 : (metE a.u b.u)
    · try simp only [Bool.not_true, Bool.not_false]
      refine Gw.tu 7 ?_
      try simp only [Act.put, ptA, ptB, ptC]
      refine Gw.tw 8 (.bool false) ?_
      try simp only [Act.put, ptA, ptB, ptC]
      refine Gw.ts 9 rfl (by kernel_rfl) ?_
      intro w M K' hK
      have c := M.c6 5
      have f := M.f6 5
      go_simp
      refine hK.out _ _ _ Gw.Mem.stays (fun h => by cases h) (fun _ h => h.sub (Gw.cc (Gw.cc (Gw.cc (Gw.cc (Gw.cd (Gw.cd (Gw.cc (Gw.cc Gw.cn))))))))) ((((((M.set 5 0 _).set 5 1 _).set 5 2 _).set 5 3 _).set 5 4 _).set 5 5 _) ?_
      clear hK K' c f M w
      refine Gw.ts 10 rfl (by kernel_rfl) ?_
      intro w M K' hK
      have c := M.c6 4
      have f := M.f6 4
      go_simp
      refine hK.out _ _ _ Gw.Mem.stays (fun h => by cases h) (fun _ h => h.sub (Gw.cc (Gw.cc (Gw.cc (Gw.cc (Gw.cd (Gw.cd (Gw.cc (Gw.cc Gw.cn))))))))) ((((((M.set 4 0 _).set 4 1 _).set 4 2 _).set 4 3 _).set 4 4 _).set 4 5 _) ?_
      clear hK K' c f M w
      refine Gw.tw 11 (.bool false) ?_ (hG := (fun _ h => h.sub (Gw.cc (Gw.cc (Gw.cc (Gw.cc (Gw.cd (Gw.cd (Gw.cc (Gw.cc Gw.cn))))))))))
      try simp only [Act.put, ptA, ptB, ptC]
      exact Gw.td (by kernel_rfl) (fun z M => HK.out _ _ _ _ _ _ _ _ _ _ _ _ (by simp [hb0_5, hb1_5]) z M) _
    · try simp only [Bool.not_true, Bool.not_false]
      refine Gw.tw 7 (.bool (metE a.s b.s)) ?_
      try simp only [Act.put, ptA, ptB, ptC]
      refine Gw.tw 8 (.bool (metE a.s b.s)) ?_
      try simp only [Act.put, ptA, ptB, ptC]
      refine Gw.ts 9 rfl (by kernel_rfl) ?_
      intro w M K' hK
      have c := M.c6 5
      have f := M.f6 5
      go_simp
      refine hK.out _ _ _ Gw.Mem.stays (fun h => by cases h) (fun _ h => h.sub (Gw.cc (Gw.cc (Gw.cc (Gw.cc (Gw.cd (Gw.cd (Gw.cc (Gw.cc Gw.cn))))))))) ((((((M.set 5 0 _).set 5 1 _).set 5 2 _).set 5 3 _).set 5 4 _).set 5 5 _) ?_
      clear hK K' c f M w
      refine Gw.ts 10 rfl (by kernel_rfl) ?_
      intro w M K' hK
      have c := M.c6 4
      have f := M.f6 4
      go_simp
      refine hK.out _ _ _ Gw.Mem.stays (fun h => by cases h) (fun _ h => h.sub (Gw.cc (Gw.cc (Gw.cc (Gw.cc (Gw.cd (Gw.cd (Gw.cc (Gw.cc Gw.cn))))))))) ((((((M.set 4 0 _).set 4 1 _).set 4 2 _).set 4 3 _).set 4 4 _).set 4 5 _) ?_
      clear hK K' c f M w
      refine Gw.tw 11 (.bool (metE a.s b.s)) ?_ (hG := (fun _ h => h.sub (Gw.cc (Gw.cc (Gw.cc (Gw.cc (Gw.cd (Gw.cd (Gw.cc (Gw.cc Gw.cn))))))))))
      try simp only [Act.put, ptA, ptB, ptC]
      exact Gw.td (by kernel_rfl) (fun z M => HK.out _ _ _ _ _ _ _ _ _ _ _ _ (by simp [hb0_5, hb1_5]) z M) _
set_option maxHeartbeats 4000000 in
theorem same5 (a b : C) (w : World) :
    Calls Tryz.prog 209 #[.agg #[.int .u64 (bi a.t.v), .int .u64 (bi a.t.m), .int .u64 a.u.lo, .int .u64 a.u.hi, .int .i64 a.s.lo, .int .i64 a.s.hi], .agg #[.int .u64 (bi b.t.v), .int .u64 (bi b.t.m), .int .u64 b.u.lo, .int .u64 b.u.hi, .int .i64 b.s.lo, .int .i64 b.s.hi]] w fun e w' => e = .returned (.tuple #[.agg #[.int .u64 (bi (mtC a b).t.v), .int .u64 (bi (mtC a b).t.m), .int .u64 ((mtC a b).u.lo), .int .u64 ((mtC a b).u.hi), .int .i64 ((mtC a b).s.lo), .int .i64 ((mtC a b).s.hi)], .agg #[.int .u64 (bi (mtC a b).t.v), .int .u64 (bi (mtC a b).t.m), .int .u64 ((mtC a b).u.lo), .int .u64 ((mtC a b).u.hi), .int .i64 ((mtC a b).s.lo), .int .i64 ((mtC a b).s.hi)], .bool (mtB a b)]) ∧ Below w.heap.size w w' := by
  go_enter Tryz.func209, Tryz.ntmps209
  have M := Gw.Mem.nil w
  refine wp_seq (same5_r0 a b (fun _ _ d _ _ h => by cases d <;> exact h) ?_ _ M)
  clear M
  intro _ d1_0 d1_1 d1_2 d1_3 z1 M
  refine wp_seq (same5_r1 a b (fun _ _ d _ _ h => by cases d <;> exact h) ?_ _ M)
  clear M
  intro _ _ _ _ _ _ _ _ d2_8 z2 M
  refine wp_seq (same5_r2 a b (fun _ _ d _ _ h => by cases d <;> exact h) ?_ _ M)
  clear M
  intro _ _ _ _ _ _ _ _ d3_8 z3 M
  refine wp_seq (same5_r3 a b (fun _ _ d _ _ h => by cases d <;> exact h) ?_ _ M)
  clear M
  intro _ _ _ _ _ _ _ _ d4_8 z4 M
  refine wp_seq (same5_r4 a b (fun _ _ d _ _ h => by cases d <;> exact h) ?_ _ M)
  clear M
  intro _ _ _ _ d5_4 z5 M
  refine wp_seq (same5_r5 a b (fun _ _ d _ _ h => by cases d <;> exact h) ?_ _ M)
  clear M
  intro _ _ _ _ _ _ _ _ _ _ _ o6 e6 z6 M
  subst e6
  refine wp_ret ?_
  try simp only [Exit.inBlock, Exit.then]
  have g0 := M.cell 5 0
  have g1 := M.cell 5 1
  have g2 := M.cell 5 2
  have g3 := M.cell 5 3
  have g4 := M.cell 5 4
  have g5 := M.cell 5 5
  have g6 := M.cell 4 0
  have g7 := M.cell 4 1
  have g8 := M.cell 4 2
  have g9 := M.cell 4 3
  have g10 := M.cell 4 4
  have g11 := M.cell 4 5
  refine bodyPost_ret (by simp [results, Tryz.results209, g0, g1, g2, g3, g4, g5, g6, g7, g8, g9, g10, g11, go_sem]; try rfl) rfl ?_
  exact ⟨rfl, M.below⟩
def dfC (x y : C) : C := if aloneC y = true then exC x (oneC y) else x
noncomputable def different5_r0C : Code := (Tryz.f210.body.bind (Rg.findR 0)).getD .skip
set_option maxHeartbeats 4000000 in
theorem different5_r0 (a b : C) (ha : mayC a) (hb : mayC b) {w0 : World}  {K : Act → World → Prop} {Q0 : Exit → Act → World → Prop} {u2 u3 u4 u5 u6 u7 u8 u9 u10 u11 u12 u13 u14 u15 u16 u17 u18 u19 u20 u21 u22 u23 u24 u25 u26 u27 u28 u29 u30 : Value}
    (hQ : ∀ c a d v w, Q0 (.panic c) (Act.put a d v) w → Q0 (.panic c) a w)
    (hK : ∀ (t6 : Value) (d1_0 d1_1 d1_2 d1_3 : Nat) (z : World), Gw.Mem w0 [(d1_3, .cells #[.int .u64 0, .int .u64 0, .int .u64 0, .int .u64 0, .int .i64 0, .int .i64 0] 30), (d1_2, .cells #[.int .u64 0, .int .u64 0, .int .u64 0, .int .u64 0, .int .i64 0, .int .i64 0] 30), (d1_1, .cells #[.int .u64 (bi b.t.v), .int .u64 (bi b.t.m), .int .u64 b.u.lo, .int .u64 b.u.hi, .int .i64 b.s.lo, .int .i64 b.s.hi] 30), (d1_0, .cells #[.int .u64 (bi a.t.v), .int .u64 (bi a.t.m), .int .u64 a.u.lo, .int .u64 a.u.hi, .int .i64 a.s.lo, .int .i64 a.s.hi] 30)] z → K ⟨#[.agg #[.int .u64 (bi a.t.v), .int .u64 (bi a.t.m), .int .u64 a.u.lo, .int .u64 a.u.hi, .int .i64 a.s.lo, .int .i64 a.s.hi], .agg #[.int .u64 (bi b.t.v), .int .u64 (bi b.t.m), .int .u64 b.u.lo, .int .u64 b.u.hi, .int .i64 b.s.lo, .int .i64 b.s.hi], .pointer (some ⟨d1_0, 0, none⟩), .pointer (some ⟨d1_1, 0, none⟩), .pointer (some ⟨d1_2, 0, none⟩), .pointer (some ⟨d1_3, 0, none⟩), t6, u7, u8, u9, u10, u11, u12, u13, u14, u15, u16, u17, u18, u19, u20, u21, u22, u23, u24, u25, u26, u27, u28, u29, u30], []⟩ z) (wy : World) (M : Gw.Mem w0 [] wy) :
    different5_r0C.wp Tryz.prog (Exit.then K Q0) ⟨#[.agg #[.int .u64 (bi a.t.v), .int .u64 (bi a.t.m), .int .u64 a.u.lo, .int .u64 a.u.hi, .int .i64 a.s.lo, .int .i64 a.s.hi], .agg #[.int .u64 (bi b.t.v), .int .u64 (bi b.t.m), .int .u64 b.u.lo, .int .u64 b.u.hi, .int .i64 b.s.lo, .int .i64 b.s.hi], u2, u3, u4, u5, u6, u7, u8, u9, u10, u11, u12, u13, u14, u15, u16, u17, u18, u19, u20, u21, u22, u23, u24, u25, u26, u27, u28, u29, u30], []⟩ wy := by
  have HK := Lib.hid hK
  clear hK
  conv => arg 2; whnf
  refine Gw.line _ M ?_
  clear M wy
  refine Gw.ss ?_
  intro w M K' hK
  go_simp
  have M1 := M.alloc (.cells #[.int .u64 (bi a.t.v), .int .u64 (bi a.t.m), .int .u64 a.u.lo, .int .u64 a.u.hi, .int .i64 a.s.lo, .int .i64 a.s.hi] 30)
  generalize w.heap.size = d1_0 at M1 ⊢
  refine hK.out _ _ _ M1 ?_
  clear hK K' M1 M w
  try simp only [Act.put, ptA, ptB, ptC]
  refine Gw.ss ?_
  intro w M K' hK
  go_simp
  have M1 := M.alloc (.cells #[.int .u64 (bi b.t.v), .int .u64 (bi b.t.m), .int .u64 b.u.lo, .int .u64 b.u.hi, .int .i64 b.s.lo, .int .i64 b.s.hi] 30)
  generalize w.heap.size = d1_1 at M1 ⊢
  refine hK.out _ _ _ M1 ?_
  clear hK K' M1 M w
  try simp only [Act.put, ptA, ptB, ptC]
  refine Gw.ss ?_
  intro w M K' hK
  go_simp
  have M1 := M.alloc (.cells #[.int .u64 0, .int .u64 0, .int .u64 0, .int .u64 0, .int .i64 0, .int .i64 0] 30)
  generalize w.heap.size = d1_2 at M1 ⊢
  refine hK.out _ _ _ M1 ?_
  clear hK K' M1 M w
  try simp only [Act.put, ptA, ptB, ptC]
  refine Gw.ss ?_
  intro w M K' hK
  go_simp
  have M1 := M.alloc (.cells #[.int .u64 0, .int .u64 0, .int .u64 0, .int .u64 0, .int .i64 0, .int .i64 0] 30)
  generalize w.heap.size = d1_3 at M1 ⊢
  refine hK.out _ _ _ M1 ?_
  clear hK K' M1 M w
  try simp only [Act.put, ptA, ptB, ptC]
  refine Gw.sw (.bool false) ?_
  try simp only [Act.put, ptA, ptB, ptC]
  exact fun z M => HK.out _ _ _ _ _ z M
noncomputable def different5_r1C : Code := (Tryz.f210.body.bind (Rg.findR 1)).getD .skip
set_option maxHeartbeats 4000000 in
theorem different5_r1 (a b : C) (ha : mayC a) (hb : mayC b) {w0 : World}  {K : Act → World → Prop} {Q0 : Exit → Act → World → Prop} {d1_3 d1_2 d1_1 d1_0 : Nat} {u0 u1 u3 u4 u5 u6 u7 u8 u9 u10 u11 u12 u13 u14 u15 u16 u17 u18 u19 u20 u21 u22 u23 u24 u25 u26 u27 u28 u29 u30 : Value}
    (hQ : ∀ c a d v w, Q0 (.panic c) (Act.put a d v) w → Q0 (.panic c) a w)
    (hK : ∀ (t11 t12 t13 t14 t15 : Value) (z : World), Gw.Mem w0 [(d1_3, .cells #[.int .u64 0, .int .u64 0, .int .u64 0, .int .u64 0, .int .i64 0, .int .i64 0] 30), (d1_2, .cells #[.int .u64 0, .int .u64 0, .int .u64 0, .int .u64 0, .int .i64 0, .int .i64 0] 30), (d1_1, .cells #[.int .u64 (bi b.t.v), .int .u64 (bi b.t.m), .int .u64 b.u.lo, .int .u64 b.u.hi, .int .i64 b.s.lo, .int .i64 b.s.hi] 30), (d1_0, .cells #[.int .u64 (bi a.t.v), .int .u64 (bi a.t.m), .int .u64 a.u.lo, .int .u64 a.u.hi, .int .i64 a.s.lo, .int .i64 a.s.hi] 30)] z → K ⟨#[u0, u1, .pointer (some ⟨d1_0, 0, none⟩), u3, u4, u5, u6, .int .u64 (oneC a), .bool (aloneC a), u9, u10, t11, t12, t13, t14, t15, u16, u17, u18, u19, u20, u21, u22, u23, u24, u25, u26, u27, u28, u29, u30], []⟩ z) (wy : World) (M : Gw.Mem w0 [(d1_3, .cells #[.int .u64 0, .int .u64 0, .int .u64 0, .int .u64 0, .int .i64 0, .int .i64 0] 30), (d1_2, .cells #[.int .u64 0, .int .u64 0, .int .u64 0, .int .u64 0, .int .i64 0, .int .i64 0] 30), (d1_1, .cells #[.int .u64 (bi b.t.v), .int .u64 (bi b.t.m), .int .u64 b.u.lo, .int .u64 b.u.hi, .int .i64 b.s.lo, .int .i64 b.s.hi] 30), (d1_0, .cells #[.int .u64 (bi a.t.v), .int .u64 (bi a.t.m), .int .u64 a.u.lo, .int .u64 a.u.hi, .int .i64 a.s.lo, .int .i64 a.s.hi] 30)] wy) :
    different5_r1C.wp Tryz.prog (Exit.then K Q0) ⟨#[u0, u1, .pointer (some ⟨d1_0, 0, none⟩), u3, u4, u5, u6, u7, u8, u9, u10, u11, u12, u13, u14, u15, u16, u17, u18, u19, u20, u21, u22, u23, u24, u25, u26, u27, u28, u29, u30], []⟩ wy := by
  have HK := Lib.hid hK
  clear hK
  conv => arg 2; whnf
  refine Gw.line _ M ?_
  clear M wy
  refine Gw.sq (.agg #[.int .u64 (bi a.t.v), .int .u64 (bi a.t.m), .int .u64 a.u.lo, .int .u64 a.u.hi, .int .i64 a.s.lo, .int .i64 a.s.hi]) ?_ ?_
  · intro w M; have c := M.c6 3; go_simp
  try simp only [Act.put, ptA, ptB, ptC]
  refine Gw.sk (.tuple #[.int .u64 (oneC a), .bool (aloneC a)]) 13 #[.agg #[.int .u64 (bi a.t.v), .int .u64 (bi a.t.m), .int .u64 a.u.lo, .int .u64 a.u.hi, .int .i64 a.s.lo, .int .i64 a.s.hi]] (fun w M => is5 a ha w) ?_
  try simp only [Act.put, ptA, ptB, ptC]
  refine Gw.sw (.tuple #[.int .u64 (oneC a), .bool (aloneC a)]) ?_
  try simp only [Act.put, ptA, ptB, ptC]
  refine Gw.sw (.int .u64 (oneC a)) ?_
  try simp only [Act.put, ptA, ptB, ptC]
  refine Gw.sw (.bool (aloneC a)) ?_
  try simp only [Act.put, ptA, ptB, ptC]
  refine Gw.sw (.int .u64 (oneC a)) ?_
  try simp only [Act.put, ptA, ptB, ptC]
  refine Gw.sw (.bool (aloneC a)) ?_
  try simp only [Act.put, ptA, ptB, ptC]
  exact fun z M => HK.out _ _ _ _ _ z M
noncomputable def different5_r2C : Code := (Tryz.f210.body.bind (Rg.findR 2)).getD .skip
set_option maxHeartbeats 4000000 in
theorem different5_r2 (a b : C) (ha : mayC a) (hb : mayC b) {w0 : World}  {K : Act → World → Prop} {Q0 : Exit → Act → World → Prop} {d1_3 d1_2 d1_1 d1_0 : Nat} {u0 u1 u2 u4 u5 u6 u7 u8 u9 u10 u11 u12 u13 u14 u15 u16 u17 u18 u19 u20 u21 u22 u23 u24 u25 u26 u27 u28 u29 u30 : Value}
    (hQ : ∀ c a d v w, Q0 (.panic c) (Act.put a d v) w → Q0 (.panic c) a w)
    (hK : ∀ (t16 t17 t18 t19 t20 : Value) (z : World), Gw.Mem w0 [(d1_3, .cells #[.int .u64 0, .int .u64 0, .int .u64 0, .int .u64 0, .int .i64 0, .int .i64 0] 30), (d1_2, .cells #[.int .u64 0, .int .u64 0, .int .u64 0, .int .u64 0, .int .i64 0, .int .i64 0] 30), (d1_1, .cells #[.int .u64 (bi b.t.v), .int .u64 (bi b.t.m), .int .u64 b.u.lo, .int .u64 b.u.hi, .int .i64 b.s.lo, .int .i64 b.s.hi] 30), (d1_0, .cells #[.int .u64 (bi a.t.v), .int .u64 (bi a.t.m), .int .u64 a.u.lo, .int .u64 a.u.hi, .int .i64 a.s.lo, .int .i64 a.s.hi] 30)] z → K ⟨#[u0, u1, u2, .pointer (some ⟨d1_1, 0, none⟩), u4, u5, u6, u7, u8, .int .u64 (oneC b), .bool (aloneC b), u11, u12, u13, u14, u15, t16, t17, t18, t19, t20, u21, u22, u23, u24, u25, u26, u27, u28, u29, u30], []⟩ z) (wy : World) (M : Gw.Mem w0 [(d1_3, .cells #[.int .u64 0, .int .u64 0, .int .u64 0, .int .u64 0, .int .i64 0, .int .i64 0] 30), (d1_2, .cells #[.int .u64 0, .int .u64 0, .int .u64 0, .int .u64 0, .int .i64 0, .int .i64 0] 30), (d1_1, .cells #[.int .u64 (bi b.t.v), .int .u64 (bi b.t.m), .int .u64 b.u.lo, .int .u64 b.u.hi, .int .i64 b.s.lo, .int .i64 b.s.hi] 30), (d1_0, .cells #[.int .u64 (bi a.t.v), .int .u64 (bi a.t.m), .int .u64 a.u.lo, .int .u64 a.u.hi, .int .i64 a.s.lo, .int .i64 a.s.hi] 30)] wy) :
    different5_r2C.wp Tryz.prog (Exit.then K Q0) ⟨#[u0, u1, u2, .pointer (some ⟨d1_1, 0, none⟩), u4, u5, u6, u7, u8, u9, u10, u11, u12, u13, u14, u15, u16, u17, u18, u19, u20, u21, u22, u23, u24, u25, u26, u27, u28, u29, u30], []⟩ wy := by
  have HK := Lib.hid hK
  clear hK
  conv => arg 2; whnf
  refine Gw.line _ M ?_
  clear M wy
  refine Gw.sq (.agg #[.int .u64 (bi b.t.v), .int .u64 (bi b.t.m), .int .u64 b.u.lo, .int .u64 b.u.hi, .int .i64 b.s.lo, .int .i64 b.s.hi]) ?_ ?_
  · intro w M; have c := M.c6 2; go_simp
  try simp only [Act.put, ptA, ptB, ptC]
  refine Gw.sk (.tuple #[.int .u64 (oneC b), .bool (aloneC b)]) 13 #[.agg #[.int .u64 (bi b.t.v), .int .u64 (bi b.t.m), .int .u64 b.u.lo, .int .u64 b.u.hi, .int .i64 b.s.lo, .int .i64 b.s.hi]] (fun w M => is5 b hb w) ?_
  try simp only [Act.put, ptA, ptB, ptC]
  refine Gw.sw (.tuple #[.int .u64 (oneC b), .bool (aloneC b)]) ?_
  try simp only [Act.put, ptA, ptB, ptC]
  refine Gw.sw (.int .u64 (oneC b)) ?_
  try simp only [Act.put, ptA, ptB, ptC]
  refine Gw.sw (.bool (aloneC b)) ?_
  try simp only [Act.put, ptA, ptB, ptC]
  refine Gw.sw (.int .u64 (oneC b)) ?_
  try simp only [Act.put, ptA, ptB, ptC]
  refine Gw.sw (.bool (aloneC b)) ?_
  try simp only [Act.put, ptA, ptB, ptC]
  exact fun z M => HK.out _ _ _ _ _ z M
noncomputable def different5_r3C : Code := (Tryz.f210.body.bind (Rg.findR 3)).getD .skip
set_option maxHeartbeats 4000000 in
theorem different5_r3 (a b : C) (ha : mayC a) (hb : mayC b) {w0 : World}  {K : Act → World → Prop} {Q0 : Exit → Act → World → Prop} {d1_3 d1_2 d1_1 d1_0 : Nat} {u0 u1 u2 u3 u4 u5 u6 u7 u8 u9 u11 u12 u13 u14 u15 u16 u17 u18 u19 u20 u21 u22 u23 u24 u25 u26 u27 u28 u29 u30 : Value}
    (hQ : ∀ c a d v w, Q0 (.panic c) (Act.put a d v) w → Q0 (.panic c) a w)
    (hK : ∀ (z : World), Gw.Mem w0 [(d1_3, .cells #[.int .u64 0, .int .u64 0, .int .u64 0, .int .u64 0, .int .i64 0, .int .i64 0] 30), (d1_2, .cells #[.int .u64 0, .int .u64 0, .int .u64 0, .int .u64 0, .int .i64 0, .int .i64 0] 30), (d1_1, .cells #[.int .u64 (bi b.t.v), .int .u64 (bi b.t.m), .int .u64 b.u.lo, .int .u64 b.u.hi, .int .i64 b.s.lo, .int .i64 b.s.hi] 30), (d1_0, .cells #[.int .u64 (bi a.t.v), .int .u64 (bi a.t.m), .int .u64 a.u.lo, .int .u64 a.u.hi, .int .i64 a.s.lo, .int .i64 a.s.hi] 30)] z → K ⟨#[u0, u1, u2, u3, u4, u5, u6, u7, u8, u9, .bool (aloneC b), u11, u12, u13, u14, u15, u16, u17, u18, u19, u20, .bool (aloneC b), u22, u23, u24, u25, u26, u27, u28, u29, u30], []⟩ z) (wy : World) (M : Gw.Mem w0 [(d1_3, .cells #[.int .u64 0, .int .u64 0, .int .u64 0, .int .u64 0, .int .i64 0, .int .i64 0] 30), (d1_2, .cells #[.int .u64 0, .int .u64 0, .int .u64 0, .int .u64 0, .int .i64 0, .int .i64 0] 30), (d1_1, .cells #[.int .u64 (bi b.t.v), .int .u64 (bi b.t.m), .int .u64 b.u.lo, .int .u64 b.u.hi, .int .i64 b.s.lo, .int .i64 b.s.hi] 30), (d1_0, .cells #[.int .u64 (bi a.t.v), .int .u64 (bi a.t.m), .int .u64 a.u.lo, .int .u64 a.u.hi, .int .i64 a.s.lo, .int .i64 a.s.hi] 30)] wy) :
    different5_r3C.wp Tryz.prog (Exit.then K Q0) ⟨#[u0, u1, u2, u3, u4, u5, u6, u7, u8, u9, .bool (aloneC b), u11, u12, u13, u14, u15, u16, u17, u18, u19, u20, u21, u22, u23, u24, u25, u26, u27, u28, u29, u30], []⟩ wy := by
  have HK := Lib.hid hK
  clear hK
  conv => arg 2; whnf
  refine Gw.line _ M ?_
  clear M wy
  refine Gw.sw (.bool (aloneC b)) ?_
  try simp only [Act.put, ptA, ptB, ptC]
  exact fun z M => HK.out  z M
noncomputable def different5_r4C : Code := (Tryz.f210.body.bind (Rg.findR 4)).getD .skip
set_option maxHeartbeats 4000000 in
theorem different5_r4 (a b : C) (ha : mayC a) (hb : mayC b) {w0 : World}  {K : Act → World → Prop} {Q0 : Exit → Act → World → Prop} {d1_3 d1_2 d1_1 d1_0 : Nat} {u0 u1 u3 u4 u5 u6 u7 u8 u10 u11 u12 u13 u14 u15 u16 u17 u18 u19 u20 u21 u22 u23 u24 u25 u26 u27 u28 u29 u30 : Value}
    (hQ : ∀ c a d v w, Q0 (.panic c) (Act.put a d v) w → Q0 (.panic c) a w)
    (hK : ∀ (t22 t23 t24 : Value) (z : World), Gw.Mem w0 [(d1_3, .cells #[.int .u64 0, .int .u64 0, .int .u64 0, .int .u64 0, .int .i64 0, .int .i64 0] 30), (d1_2, .cells #[.int .u64 0, .int .u64 0, .int .u64 0, .int .u64 0, .int .i64 0, .int .i64 0] 30), (d1_1, .cells #[.int .u64 (bi b.t.v), .int .u64 (bi b.t.m), .int .u64 b.u.lo, .int .u64 b.u.hi, .int .i64 b.s.lo, .int .i64 b.s.hi] 30), (d1_0, .cells #[.int .u64 (bi (exC a (oneC b)).t.v), .int .u64 (bi (exC a (oneC b)).t.m), .int .u64 ((exC a (oneC b)).u.lo), .int .u64 ((exC a (oneC b)).u.hi), .int .i64 ((exC a (oneC b)).s.lo), .int .i64 ((exC a (oneC b)).s.hi)] 30)] z → K ⟨#[u0, u1, .pointer (some ⟨d1_0, 0, none⟩), u3, u4, u5, u6, u7, u8, .int .u64 (oneC b), u10, u11, u12, u13, u14, u15, u16, u17, u18, u19, u20, u21, t22, t23, t24, u25, u26, u27, u28, u29, u30], []⟩ z) (wy : World) (M : Gw.Mem w0 [(d1_3, .cells #[.int .u64 0, .int .u64 0, .int .u64 0, .int .u64 0, .int .i64 0, .int .i64 0] 30), (d1_2, .cells #[.int .u64 0, .int .u64 0, .int .u64 0, .int .u64 0, .int .i64 0, .int .i64 0] 30), (d1_1, .cells #[.int .u64 (bi b.t.v), .int .u64 (bi b.t.m), .int .u64 b.u.lo, .int .u64 b.u.hi, .int .i64 b.s.lo, .int .i64 b.s.hi] 30), (d1_0, .cells #[.int .u64 (bi a.t.v), .int .u64 (bi a.t.m), .int .u64 a.u.lo, .int .u64 a.u.hi, .int .i64 a.s.lo, .int .i64 a.s.hi] 30)] wy) :
    different5_r4C.wp Tryz.prog (Exit.then K Q0) ⟨#[u0, u1, .pointer (some ⟨d1_0, 0, none⟩), u3, u4, u5, u6, u7, u8, .int .u64 (oneC b), u10, u11, u12, u13, u14, u15, u16, u17, u18, u19, u20, u21, u22, u23, u24, u25, u26, u27, u28, u29, u30], []⟩ wy := by
  have HK := Lib.hid hK
  clear hK
  conv => arg 2; whnf
  refine Gw.line _ M ?_
  clear M wy
  refine Gw.sq (.agg #[.int .u64 (bi a.t.v), .int .u64 (bi a.t.m), .int .u64 a.u.lo, .int .u64 a.u.hi, .int .i64 a.s.lo, .int .i64 a.s.hi]) ?_ ?_
  · intro w M; have c := M.c6 3; go_simp
  try simp only [Act.put, ptA, ptB, ptC]
  refine Gw.sw (.int .u64 (oneC b)) ?_
  try simp only [Act.put, ptA, ptB, ptC]
  refine Gw.sk (.agg #[.int .u64 (bi (exC a (oneC b)).t.v), .int .u64 (bi (exC a (oneC b)).t.m), .int .u64 ((exC a (oneC b)).u.lo), .int .u64 ((exC a (oneC b)).u.hi), .int .i64 ((exC a (oneC b)).s.lo), .int .i64 ((exC a (oneC b)).s.hi)]) 234 #[.agg #[.int .u64 (bi a.t.v), .int .u64 (bi a.t.m), .int .u64 a.u.lo, .int .u64 a.u.hi, .int .i64 a.s.lo, .int .i64 a.s.hi], .int .u64 (oneC b)] (fun w M => without5 a (oneC b) (one_bd hb) w) ?_
  try simp only [Act.put, ptA, ptB, ptC]
  refine Gw.ss ?_
  intro w M K' hK
  have c := M.c6 3
  have f := M.f6 3
  go_simp
  refine hK.out _ _ _ ((((((M.set 3 0 _).set 3 1 _).set 3 2 _).set 3 3 _).set 3 4 _).set 3 5 _) ?_
  clear hK K' c f M w
  exact fun z M => HK.out _ _ _ z M
noncomputable def different5_r5C : Code := (Tryz.f210.body.bind (Rg.findR 5)).getD .skip
set_option maxHeartbeats 4000000 in
theorem different5_r5 (a b : C) (ha : mayC a) (hb : mayC b) {w0 : World}  {K : Act → World → Prop} {Q0 : Exit → Act → World → Prop} {d1_3 d1_2 d1_1 d1_0 : Nat} {u0 u1 u2 u3 u4 u5 u6 u7 u9 u10 u11 u12 u13 u14 u15 u16 u17 u18 u19 u20 u21 u22 u23 u24 u25 u26 u27 u28 u29 u30 : Value}
    (hQ : ∀ c a d v w, Q0 (.panic c) (Act.put a d v) w → Q0 (.panic c) a w)
    (hK : ∀ (z : World), Gw.Mem w0 [(d1_3, .cells #[.int .u64 0, .int .u64 0, .int .u64 0, .int .u64 0, .int .i64 0, .int .i64 0] 30), (d1_2, .cells #[.int .u64 0, .int .u64 0, .int .u64 0, .int .u64 0, .int .i64 0, .int .i64 0] 30), (d1_1, .cells #[.int .u64 (bi b.t.v), .int .u64 (bi b.t.m), .int .u64 b.u.lo, .int .u64 b.u.hi, .int .i64 b.s.lo, .int .i64 b.s.hi] 30), (d1_0, .cells #[.int .u64 (bi (exC a (oneC b)).t.v), .int .u64 (bi (exC a (oneC b)).t.m), .int .u64 ((exC a (oneC b)).u.lo), .int .u64 ((exC a (oneC b)).u.hi), .int .i64 ((exC a (oneC b)).s.lo), .int .i64 ((exC a (oneC b)).s.hi)] 30)] z → K ⟨#[u0, u1, u2, u3, u4, u5, u6, u7, .bool (aloneC a), u9, u10, u11, u12, u13, u14, u15, u16, u17, u18, u19, u20, u21, u22, u23, u24, .bool (aloneC a), u26, u27, u28, u29, u30], []⟩ z) (wy : World) (M : Gw.Mem w0 [(d1_3, .cells #[.int .u64 0, .int .u64 0, .int .u64 0, .int .u64 0, .int .i64 0, .int .i64 0] 30), (d1_2, .cells #[.int .u64 0, .int .u64 0, .int .u64 0, .int .u64 0, .int .i64 0, .int .i64 0] 30), (d1_1, .cells #[.int .u64 (bi b.t.v), .int .u64 (bi b.t.m), .int .u64 b.u.lo, .int .u64 b.u.hi, .int .i64 b.s.lo, .int .i64 b.s.hi] 30), (d1_0, .cells #[.int .u64 (bi (exC a (oneC b)).t.v), .int .u64 (bi (exC a (oneC b)).t.m), .int .u64 ((exC a (oneC b)).u.lo), .int .u64 ((exC a (oneC b)).u.hi), .int .i64 ((exC a (oneC b)).s.lo), .int .i64 ((exC a (oneC b)).s.hi)] 30)] wy) :
    different5_r5C.wp Tryz.prog (Exit.then K Q0) ⟨#[u0, u1, u2, u3, u4, u5, u6, u7, .bool (aloneC a), u9, u10, u11, u12, u13, u14, u15, u16, u17, u18, u19, u20, u21, u22, u23, u24, u25, u26, u27, u28, u29, u30], []⟩ wy := by
  have HK := Lib.hid hK
  clear hK
  conv => arg 2; whnf
  refine Gw.line _ M ?_
  clear M wy
  refine Gw.sw (.bool (aloneC a)) ?_
  try simp only [Act.put, ptA, ptB, ptC]
  exact fun z M => HK.out  z M
noncomputable def different5_r6C : Code := (Tryz.f210.body.bind (Rg.findR 6)).getD .skip
set_option maxHeartbeats 4000000 in
theorem different5_r6 (a b : C) (ha : mayC a) (hb : mayC b) {w0 : World}  {K : Act → World → Prop} {Q0 : Exit → Act → World → Prop} {d1_3 d1_2 d1_1 d1_0 : Nat} {u0 u1 u2 u4 u5 u6 u8 u9 u10 u11 u12 u13 u14 u15 u16 u17 u18 u19 u20 u21 u22 u23 u24 u25 u26 u27 u28 u29 u30 : Value}
    (hQ : ∀ c a d v w, Q0 (.panic c) (Act.put a d v) w → Q0 (.panic c) a w)
    (hK : ∀ (t26 t27 t28 : Value) (z : World), Gw.Mem w0 [(d1_3, .cells #[.int .u64 0, .int .u64 0, .int .u64 0, .int .u64 0, .int .i64 0, .int .i64 0] 30), (d1_2, .cells #[.int .u64 0, .int .u64 0, .int .u64 0, .int .u64 0, .int .i64 0, .int .i64 0] 30), (d1_1, .cells #[.int .u64 (bi (exC b (oneC a)).t.v), .int .u64 (bi (exC b (oneC a)).t.m), .int .u64 ((exC b (oneC a)).u.lo), .int .u64 ((exC b (oneC a)).u.hi), .int .i64 ((exC b (oneC a)).s.lo), .int .i64 ((exC b (oneC a)).s.hi)] 30), (d1_0, .cells #[.int .u64 (bi (exC a (oneC b)).t.v), .int .u64 (bi (exC a (oneC b)).t.m), .int .u64 ((exC a (oneC b)).u.lo), .int .u64 ((exC a (oneC b)).u.hi), .int .i64 ((exC a (oneC b)).s.lo), .int .i64 ((exC a (oneC b)).s.hi)] 30)] z → K ⟨#[u0, u1, u2, .pointer (some ⟨d1_1, 0, none⟩), u4, u5, u6, .int .u64 (oneC a), u8, u9, u10, u11, u12, u13, u14, u15, u16, u17, u18, u19, u20, u21, u22, u23, u24, u25, t26, t27, t28, u29, u30], []⟩ z) (wy : World) (M : Gw.Mem w0 [(d1_3, .cells #[.int .u64 0, .int .u64 0, .int .u64 0, .int .u64 0, .int .i64 0, .int .i64 0] 30), (d1_2, .cells #[.int .u64 0, .int .u64 0, .int .u64 0, .int .u64 0, .int .i64 0, .int .i64 0] 30), (d1_1, .cells #[.int .u64 (bi b.t.v), .int .u64 (bi b.t.m), .int .u64 b.u.lo, .int .u64 b.u.hi, .int .i64 b.s.lo, .int .i64 b.s.hi] 30), (d1_0, .cells #[.int .u64 (bi (exC a (oneC b)).t.v), .int .u64 (bi (exC a (oneC b)).t.m), .int .u64 ((exC a (oneC b)).u.lo), .int .u64 ((exC a (oneC b)).u.hi), .int .i64 ((exC a (oneC b)).s.lo), .int .i64 ((exC a (oneC b)).s.hi)] 30)] wy) :
    different5_r6C.wp Tryz.prog (Exit.then K Q0) ⟨#[u0, u1, u2, .pointer (some ⟨d1_1, 0, none⟩), u4, u5, u6, .int .u64 (oneC a), u8, u9, u10, u11, u12, u13, u14, u15, u16, u17, u18, u19, u20, u21, u22, u23, u24, u25, u26, u27, u28, u29, u30], []⟩ wy := by
  have HK := Lib.hid hK
  clear hK
  conv => arg 2; whnf
  refine Gw.line _ M ?_
  clear M wy
  refine Gw.sq (.agg #[.int .u64 (bi b.t.v), .int .u64 (bi b.t.m), .int .u64 b.u.lo, .int .u64 b.u.hi, .int .i64 b.s.lo, .int .i64 b.s.hi]) ?_ ?_
  · intro w M; have c := M.c6 2; go_simp
  try simp only [Act.put, ptA, ptB, ptC]
  refine Gw.sw (.int .u64 (oneC a)) ?_
  try simp only [Act.put, ptA, ptB, ptC]
  refine Gw.sk (.agg #[.int .u64 (bi (exC b (oneC a)).t.v), .int .u64 (bi (exC b (oneC a)).t.m), .int .u64 ((exC b (oneC a)).u.lo), .int .u64 ((exC b (oneC a)).u.hi), .int .i64 ((exC b (oneC a)).s.lo), .int .i64 ((exC b (oneC a)).s.hi)]) 234 #[.agg #[.int .u64 (bi b.t.v), .int .u64 (bi b.t.m), .int .u64 b.u.lo, .int .u64 b.u.hi, .int .i64 b.s.lo, .int .i64 b.s.hi], .int .u64 (oneC a)] (fun w M => without5 b (oneC a) (one_bd ha) w) ?_
  try simp only [Act.put, ptA, ptB, ptC]
  refine Gw.ss ?_
  intro w M K' hK
  have c := M.c6 2
  have f := M.f6 2
  go_simp
  refine hK.out _ _ _ ((((((M.set 2 0 _).set 2 1 _).set 2 2 _).set 2 3 _).set 2 4 _).set 2 5 _) ?_
  clear hK K' c f M w
  exact fun z M => HK.out _ _ _ z M
noncomputable def different5_r7C : Code := (Tryz.f210.body.bind (Rg.findR 7)).getD .skip
set_option maxHeartbeats 4000000 in
theorem different5_r7 (a b : C) (ha : mayC a) (hb : mayC b) {w0 : World}  {K : Act → World → Prop} {Q0 : Exit → Act → World → Prop} {d1_3 d1_2 d1_1 d1_0 : Nat} {u0 u1 u6 u7 u8 u9 u10 u11 u12 u13 u14 u15 u16 u17 u18 u19 u20 u21 u22 u23 u24 u25 u26 u27 u28 u29 u30 : Value}
    (hQ : ∀ c a d v w, Q0 (.panic c) (Act.put a d v) w → Q0 (.panic c) a w)
    (hK : ∀ (t29 t30 : Value) (z : World), Gw.Mem w0 [(d1_3, .cells #[.int .u64 (bi (exC b (oneC a)).t.v), .int .u64 (bi (exC b (oneC a)).t.m), .int .u64 ((exC b (oneC a)).u.lo), .int .u64 ((exC b (oneC a)).u.hi), .int .i64 ((exC b (oneC a)).s.lo), .int .i64 ((exC b (oneC a)).s.hi)] 30), (d1_2, .cells #[.int .u64 (bi (exC a (oneC b)).t.v), .int .u64 (bi (exC a (oneC b)).t.m), .int .u64 ((exC a (oneC b)).u.lo), .int .u64 ((exC a (oneC b)).u.hi), .int .i64 ((exC a (oneC b)).s.lo), .int .i64 ((exC a (oneC b)).s.hi)] 30), (d1_1, .cells #[.int .u64 (bi (exC b (oneC a)).t.v), .int .u64 (bi (exC b (oneC a)).t.m), .int .u64 ((exC b (oneC a)).u.lo), .int .u64 ((exC b (oneC a)).u.hi), .int .i64 ((exC b (oneC a)).s.lo), .int .i64 ((exC b (oneC a)).s.hi)] 30), (d1_0, .cells #[.int .u64 (bi (exC a (oneC b)).t.v), .int .u64 (bi (exC a (oneC b)).t.m), .int .u64 ((exC a (oneC b)).u.lo), .int .u64 ((exC a (oneC b)).u.hi), .int .i64 ((exC a (oneC b)).s.lo), .int .i64 ((exC a (oneC b)).s.hi)] 30)] z → K ⟨#[u0, u1, .pointer (some ⟨d1_0, 0, none⟩), .pointer (some ⟨d1_1, 0, none⟩), .pointer (some ⟨d1_2, 0, none⟩), .pointer (some ⟨d1_3, 0, none⟩), .bool true, u7, u8, u9, u10, u11, u12, u13, u14, u15, u16, u17, u18, u19, u20, u21, u22, u23, u24, u25, u26, u27, u28, t29, t30], []⟩ z) (wy : World) (M : Gw.Mem w0 [(d1_3, .cells #[.int .u64 0, .int .u64 0, .int .u64 0, .int .u64 0, .int .i64 0, .int .i64 0] 30), (d1_2, .cells #[.int .u64 0, .int .u64 0, .int .u64 0, .int .u64 0, .int .i64 0, .int .i64 0] 30), (d1_1, .cells #[.int .u64 (bi (exC b (oneC a)).t.v), .int .u64 (bi (exC b (oneC a)).t.m), .int .u64 ((exC b (oneC a)).u.lo), .int .u64 ((exC b (oneC a)).u.hi), .int .i64 ((exC b (oneC a)).s.lo), .int .i64 ((exC b (oneC a)).s.hi)] 30), (d1_0, .cells #[.int .u64 (bi (exC a (oneC b)).t.v), .int .u64 (bi (exC a (oneC b)).t.m), .int .u64 ((exC a (oneC b)).u.lo), .int .u64 ((exC a (oneC b)).u.hi), .int .i64 ((exC a (oneC b)).s.lo), .int .i64 ((exC a (oneC b)).s.hi)] 30)] wy) :
    different5_r7C.wp Tryz.prog (Exit.then K Q0) ⟨#[u0, u1, .pointer (some ⟨d1_0, 0, none⟩), .pointer (some ⟨d1_1, 0, none⟩), .pointer (some ⟨d1_2, 0, none⟩), .pointer (some ⟨d1_3, 0, none⟩), u6, u7, u8, u9, u10, u11, u12, u13, u14, u15, u16, u17, u18, u19, u20, u21, u22, u23, u24, u25, u26, u27, u28, u29, u30], []⟩ wy := by
  have HK := Lib.hid hK
  clear hK
  have hq : ∀ c a d v w, Exit.then K Q0 (.panic c) (Act.put a d v) w → Exit.then K Q0 (.panic c) a w := hQ
  conv => arg 2; whnf
  refine Gw.draw [2, 3] (Gw.Mem w0 [(d1_1, .cells #[.int .u64 (bi (exC b (oneC a)).t.v), .int .u64 (bi (exC b (oneC a)).t.m), .int .u64 ((exC b (oneC a)).u.lo), .int .u64 ((exC b (oneC a)).u.hi), .int .i64 ((exC b (oneC a)).s.lo), .int .i64 ((exC b (oneC a)).s.hi)] 30), (d1_0, .cells #[.int .u64 (bi (exC a (oneC b)).t.v), .int .u64 (bi (exC a (oneC b)).t.m), .int .u64 ((exC a (oneC b)).u.lo), .int .u64 ((exC a (oneC b)).u.hi), .int .i64 ((exC a (oneC b)).s.lo), .int .i64 ((exC a (oneC b)).s.hi)] 30)]) _ (by kernel_rfl) M.drew ?_
  have hG : ∀ z, Gw.Mem w0 [(d1_3, .cells #[.int .u64 0, .int .u64 0, .int .u64 0, .int .u64 0, .int .i64 0, .int .i64 0] 30), (d1_2, .cells #[.int .u64 0, .int .u64 0, .int .u64 0, .int .u64 0, .int .i64 0, .int .i64 0] 30), (d1_1, .cells #[.int .u64 (bi (exC b (oneC a)).t.v), .int .u64 (bi (exC b (oneC a)).t.m), .int .u64 ((exC b (oneC a)).u.lo), .int .u64 ((exC b (oneC a)).u.hi), .int .i64 ((exC b (oneC a)).s.lo), .int .i64 ((exC b (oneC a)).s.hi)] 30), (d1_0, .cells #[.int .u64 (bi (exC a (oneC b)).t.v), .int .u64 (bi (exC a (oneC b)).t.m), .int .u64 ((exC a (oneC b)).u.lo), .int .u64 ((exC a (oneC b)).u.hi), .int .i64 ((exC a (oneC b)).s.lo), .int .i64 ((exC a (oneC b)).s.hi)] 30)] z → Gw.Mem w0 [(d1_1, .cells #[.int .u64 (bi (exC b (oneC a)).t.v), .int .u64 (bi (exC b (oneC a)).t.m), .int .u64 ((exC b (oneC a)).u.lo), .int .u64 ((exC b (oneC a)).u.hi), .int .i64 ((exC b (oneC a)).s.lo), .int .i64 ((exC b (oneC a)).s.hi)] 30), (d1_0, .cells #[.int .u64 (bi (exC a (oneC b)).t.v), .int .u64 (bi (exC a (oneC b)).t.m), .int .u64 ((exC a (oneC b)).u.lo), .int .u64 ((exC a (oneC b)).u.hi), .int .i64 ((exC a (oneC b)).s.lo), .int .i64 ((exC a (oneC b)).s.hi)] 30)] z := fun _ h => h.sub (Gw.cd (Gw.cd (Gw.cc (Gw.cc Gw.cn))))
  clear M wy
  refine Gw.tg 0 (.agg #[.int .u64 (bi (exC a (oneC b)).t.v), .int .u64 (bi (exC a (oneC b)).t.m), .int .u64 ((exC a (oneC b)).u.lo), .int .u64 ((exC a (oneC b)).u.hi), .int .i64 ((exC a (oneC b)).s.lo), .int .i64 ((exC a (oneC b)).s.hi)]) ?_ ?_
  · intro w M; have c := M.c6 1; go_simp
  try simp only [Act.put, ptA, ptB, ptC]
  refine Gw.tg 1 (.agg #[.int .u64 (bi (exC b (oneC a)).t.v), .int .u64 (bi (exC b (oneC a)).t.m), .int .u64 ((exC b (oneC a)).u.lo), .int .u64 ((exC b (oneC a)).u.hi), .int .i64 ((exC b (oneC a)).s.lo), .int .i64 ((exC b (oneC a)).s.hi)]) ?_ ?_
  · intro w M; have c := M.c6 0; go_simp
  try simp only [Act.put, ptA, ptB, ptC]
  refine Gw.ts 2 rfl (by kernel_rfl) ?_
  intro w M K' hK
  have c := M.c6 1
  have f := M.f6 1
  go_simp
  refine hK.out _ _ _ Gw.Mem.stays (fun h => by cases h) (fun _ h => h.sub (Gw.cd (Gw.cd (Gw.cc (Gw.cc Gw.cn))))) ((((((M.set 1 0 _).set 1 1 _).set 1 2 _).set 1 3 _).set 1 4 _).set 1 5 _) ?_
  clear hK K' c f M w
  refine Gw.ts 3 rfl (by kernel_rfl) ?_
  intro w M K' hK
  have c := M.c6 0
  have f := M.f6 0
  go_simp
  refine hK.out _ _ _ Gw.Mem.stays (fun h => by cases h) (fun _ h => h.sub (Gw.cd (Gw.cd (Gw.cc (Gw.cc Gw.cn))))) ((((((M.set 0 0 _).set 0 1 _).set 0 2 _).set 0 3 _).set 0 4 _).set 0 5 _) ?_
  clear hK K' c f M w
  refine Gw.tw 4 (.bool true) ?_ (hG := (fun _ h => h.sub (Gw.cd (Gw.cd (Gw.cc (Gw.cc Gw.cn))))))
  try simp only [Act.put, ptA, ptB, ptC]
  exact Gw.td (by kernel_rfl) (fun z M => HK.out _ _ z M) _
noncomputable def different5_r7_9C : Code := (Tryz.f210.body.bind (Rg.findR 7)).getD .skip
set_option maxHeartbeats 4000000 in
theorem different5_r7_9 (a b : C) (ha : mayC a) (hb : mayC b) {w0 : World}  {K : Act → World → Prop} {Q0 : Exit → Act → World → Prop} {d1_3 d1_2 d1_1 d1_0 : Nat} {u0 u1 u6 u7 u8 u9 u10 u11 u12 u13 u14 u15 u16 u17 u18 u19 u20 u21 u22 u23 u24 u25 u26 u27 u28 u29 u30 : Value}
    (hQ : ∀ c a d v w, Q0 (.panic c) (Act.put a d v) w → Q0 (.panic c) a w)
    (hK : ∀ (t29 t30 : Value) (z : World), Gw.Mem w0 [(d1_3, .cells #[.int .u64 (bi b.t.v), .int .u64 (bi b.t.m), .int .u64 b.u.lo, .int .u64 b.u.hi, .int .i64 b.s.lo, .int .i64 b.s.hi] 30), (d1_2, .cells #[.int .u64 (bi (exC a (oneC b)).t.v), .int .u64 (bi (exC a (oneC b)).t.m), .int .u64 ((exC a (oneC b)).u.lo), .int .u64 ((exC a (oneC b)).u.hi), .int .i64 ((exC a (oneC b)).s.lo), .int .i64 ((exC a (oneC b)).s.hi)] 30), (d1_1, .cells #[.int .u64 (bi b.t.v), .int .u64 (bi b.t.m), .int .u64 b.u.lo, .int .u64 b.u.hi, .int .i64 b.s.lo, .int .i64 b.s.hi] 30), (d1_0, .cells #[.int .u64 (bi (exC a (oneC b)).t.v), .int .u64 (bi (exC a (oneC b)).t.m), .int .u64 ((exC a (oneC b)).u.lo), .int .u64 ((exC a (oneC b)).u.hi), .int .i64 ((exC a (oneC b)).s.lo), .int .i64 ((exC a (oneC b)).s.hi)] 30)] z → K ⟨#[u0, u1, .pointer (some ⟨d1_0, 0, none⟩), .pointer (some ⟨d1_1, 0, none⟩), .pointer (some ⟨d1_2, 0, none⟩), .pointer (some ⟨d1_3, 0, none⟩), .bool true, u7, u8, u9, u10, u11, u12, u13, u14, u15, u16, u17, u18, u19, u20, u21, u22, u23, u24, u25, u26, u27, u28, t29, t30], []⟩ z) (wy : World) (M : Gw.Mem w0 [(d1_3, .cells #[.int .u64 0, .int .u64 0, .int .u64 0, .int .u64 0, .int .i64 0, .int .i64 0] 30), (d1_2, .cells #[.int .u64 0, .int .u64 0, .int .u64 0, .int .u64 0, .int .i64 0, .int .i64 0] 30), (d1_1, .cells #[.int .u64 (bi b.t.v), .int .u64 (bi b.t.m), .int .u64 b.u.lo, .int .u64 b.u.hi, .int .i64 b.s.lo, .int .i64 b.s.hi] 30), (d1_0, .cells #[.int .u64 (bi (exC a (oneC b)).t.v), .int .u64 (bi (exC a (oneC b)).t.m), .int .u64 ((exC a (oneC b)).u.lo), .int .u64 ((exC a (oneC b)).u.hi), .int .i64 ((exC a (oneC b)).s.lo), .int .i64 ((exC a (oneC b)).s.hi)] 30)] wy) :
    different5_r7_9C.wp Tryz.prog (Exit.then K Q0) ⟨#[u0, u1, .pointer (some ⟨d1_0, 0, none⟩), .pointer (some ⟨d1_1, 0, none⟩), .pointer (some ⟨d1_2, 0, none⟩), .pointer (some ⟨d1_3, 0, none⟩), u6, u7, u8, u9, u10, u11, u12, u13, u14, u15, u16, u17, u18, u19, u20, u21, u22, u23, u24, u25, u26, u27, u28, u29, u30], []⟩ wy := by
  have HK := Lib.hid hK
  clear hK
  have hq : ∀ c a d v w, Exit.then K Q0 (.panic c) (Act.put a d v) w → Exit.then K Q0 (.panic c) a w := hQ
  conv => arg 2; whnf
  refine Gw.draw [2, 3] (Gw.Mem w0 [(d1_1, .cells #[.int .u64 (bi b.t.v), .int .u64 (bi b.t.m), .int .u64 b.u.lo, .int .u64 b.u.hi, .int .i64 b.s.lo, .int .i64 b.s.hi] 30), (d1_0, .cells #[.int .u64 (bi (exC a (oneC b)).t.v), .int .u64 (bi (exC a (oneC b)).t.m), .int .u64 ((exC a (oneC b)).u.lo), .int .u64 ((exC a (oneC b)).u.hi), .int .i64 ((exC a (oneC b)).s.lo), .int .i64 ((exC a (oneC b)).s.hi)] 30)]) _ (by kernel_rfl) M.drew ?_
  have hG : ∀ z, Gw.Mem w0 [(d1_3, .cells #[.int .u64 0, .int .u64 0, .int .u64 0, .int .u64 0, .int .i64 0, .int .i64 0] 30), (d1_2, .cells #[.int .u64 0, .int .u64 0, .int .u64 0, .int .u64 0, .int .i64 0, .int .i64 0] 30), (d1_1, .cells #[.int .u64 (bi b.t.v), .int .u64 (bi b.t.m), .int .u64 b.u.lo, .int .u64 b.u.hi, .int .i64 b.s.lo, .int .i64 b.s.hi] 30), (d1_0, .cells #[.int .u64 (bi (exC a (oneC b)).t.v), .int .u64 (bi (exC a (oneC b)).t.m), .int .u64 ((exC a (oneC b)).u.lo), .int .u64 ((exC a (oneC b)).u.hi), .int .i64 ((exC a (oneC b)).s.lo), .int .i64 ((exC a (oneC b)).s.hi)] 30)] z → Gw.Mem w0 [(d1_1, .cells #[.int .u64 (bi b.t.v), .int .u64 (bi b.t.m), .int .u64 b.u.lo, .int .u64 b.u.hi, .int .i64 b.s.lo, .int .i64 b.s.hi] 30), (d1_0, .cells #[.int .u64 (bi (exC a (oneC b)).t.v), .int .u64 (bi (exC a (oneC b)).t.m), .int .u64 ((exC a (oneC b)).u.lo), .int .u64 ((exC a (oneC b)).u.hi), .int .i64 ((exC a (oneC b)).s.lo), .int .i64 ((exC a (oneC b)).s.hi)] 30)] z := fun _ h => h.sub (Gw.cd (Gw.cd (Gw.cc (Gw.cc Gw.cn))))
  clear M wy
  refine Gw.tg 0 (.agg #[.int .u64 (bi (exC a (oneC b)).t.v), .int .u64 (bi (exC a (oneC b)).t.m), .int .u64 ((exC a (oneC b)).u.lo), .int .u64 ((exC a (oneC b)).u.hi), .int .i64 ((exC a (oneC b)).s.lo), .int .i64 ((exC a (oneC b)).s.hi)]) ?_ ?_
  · intro w M; have c := M.c6 1; go_simp
  try simp only [Act.put, ptA, ptB, ptC]
  refine Gw.tg 1 (.agg #[.int .u64 (bi b.t.v), .int .u64 (bi b.t.m), .int .u64 b.u.lo, .int .u64 b.u.hi, .int .i64 b.s.lo, .int .i64 b.s.hi]) ?_ ?_
  · intro w M; have c := M.c6 0; go_simp
  try simp only [Act.put, ptA, ptB, ptC]
  refine Gw.ts 2 rfl (by kernel_rfl) ?_
  intro w M K' hK
  have c := M.c6 1
  have f := M.f6 1
  go_simp
  refine hK.out _ _ _ Gw.Mem.stays (fun h => by cases h) (fun _ h => h.sub (Gw.cd (Gw.cd (Gw.cc (Gw.cc Gw.cn))))) ((((((M.set 1 0 _).set 1 1 _).set 1 2 _).set 1 3 _).set 1 4 _).set 1 5 _) ?_
  clear hK K' c f M w
  refine Gw.ts 3 rfl (by kernel_rfl) ?_
  intro w M K' hK
  have c := M.c6 0
  have f := M.f6 0
  go_simp
  refine hK.out _ _ _ Gw.Mem.stays (fun h => by cases h) (fun _ h => h.sub (Gw.cd (Gw.cd (Gw.cc (Gw.cc Gw.cn))))) ((((((M.set 0 0 _).set 0 1 _).set 0 2 _).set 0 3 _).set 0 4 _).set 0 5 _) ?_
  clear hK K' c f M w
  refine Gw.tw 4 (.bool true) ?_ (hG := (fun _ h => h.sub (Gw.cd (Gw.cd (Gw.cc (Gw.cc Gw.cn))))))
  try simp only [Act.put, ptA, ptB, ptC]
  exact Gw.td (by kernel_rfl) (fun z M => HK.out _ _ z M) _
noncomputable def different5_r5_10C : Code := (Tryz.f210.body.bind (Rg.findR 5)).getD .skip
set_option maxHeartbeats 4000000 in
theorem different5_r5_10 (a b : C) (ha : mayC a) (hb : mayC b) {w0 : World}  {K : Act → World → Prop} {Q0 : Exit → Act → World → Prop} {d1_3 d1_2 d1_1 d1_0 : Nat} {u0 u1 u2 u3 u4 u5 u6 u7 u9 u10 u11 u12 u13 u14 u15 u16 u17 u18 u19 u20 u21 u22 u23 u24 u25 u26 u27 u28 u29 u30 : Value}
    (hQ : ∀ c a d v w, Q0 (.panic c) (Act.put a d v) w → Q0 (.panic c) a w)
    (hK : ∀ (z : World), Gw.Mem w0 [(d1_3, .cells #[.int .u64 0, .int .u64 0, .int .u64 0, .int .u64 0, .int .i64 0, .int .i64 0] 30), (d1_2, .cells #[.int .u64 0, .int .u64 0, .int .u64 0, .int .u64 0, .int .i64 0, .int .i64 0] 30), (d1_1, .cells #[.int .u64 (bi b.t.v), .int .u64 (bi b.t.m), .int .u64 b.u.lo, .int .u64 b.u.hi, .int .i64 b.s.lo, .int .i64 b.s.hi] 30), (d1_0, .cells #[.int .u64 (bi a.t.v), .int .u64 (bi a.t.m), .int .u64 a.u.lo, .int .u64 a.u.hi, .int .i64 a.s.lo, .int .i64 a.s.hi] 30)] z → K ⟨#[u0, u1, u2, u3, u4, u5, u6, u7, .bool (aloneC a), u9, u10, u11, u12, u13, u14, u15, u16, u17, u18, u19, u20, u21, u22, u23, u24, .bool (aloneC a), u26, u27, u28, u29, u30], []⟩ z) (wy : World) (M : Gw.Mem w0 [(d1_3, .cells #[.int .u64 0, .int .u64 0, .int .u64 0, .int .u64 0, .int .i64 0, .int .i64 0] 30), (d1_2, .cells #[.int .u64 0, .int .u64 0, .int .u64 0, .int .u64 0, .int .i64 0, .int .i64 0] 30), (d1_1, .cells #[.int .u64 (bi b.t.v), .int .u64 (bi b.t.m), .int .u64 b.u.lo, .int .u64 b.u.hi, .int .i64 b.s.lo, .int .i64 b.s.hi] 30), (d1_0, .cells #[.int .u64 (bi a.t.v), .int .u64 (bi a.t.m), .int .u64 a.u.lo, .int .u64 a.u.hi, .int .i64 a.s.lo, .int .i64 a.s.hi] 30)] wy) :
    different5_r5_10C.wp Tryz.prog (Exit.then K Q0) ⟨#[u0, u1, u2, u3, u4, u5, u6, u7, .bool (aloneC a), u9, u10, u11, u12, u13, u14, u15, u16, u17, u18, u19, u20, u21, u22, u23, u24, u25, u26, u27, u28, u29, u30], []⟩ wy := by
  have HK := Lib.hid hK
  clear hK
  conv => arg 2; whnf
  refine Gw.line _ M ?_
  clear M wy
  refine Gw.sw (.bool (aloneC a)) ?_
  try simp only [Act.put, ptA, ptB, ptC]
  exact fun z M => HK.out  z M
noncomputable def different5_r6_11C : Code := (Tryz.f210.body.bind (Rg.findR 6)).getD .skip
set_option maxHeartbeats 4000000 in
theorem different5_r6_11 (a b : C) (ha : mayC a) (hb : mayC b) {w0 : World}  {K : Act → World → Prop} {Q0 : Exit → Act → World → Prop} {d1_3 d1_2 d1_1 d1_0 : Nat} {u0 u1 u2 u4 u5 u6 u8 u9 u10 u11 u12 u13 u14 u15 u16 u17 u18 u19 u20 u21 u22 u23 u24 u25 u26 u27 u28 u29 u30 : Value}
    (hQ : ∀ c a d v w, Q0 (.panic c) (Act.put a d v) w → Q0 (.panic c) a w)
    (hK : ∀ (t26 t27 t28 : Value) (z : World), Gw.Mem w0 [(d1_3, .cells #[.int .u64 0, .int .u64 0, .int .u64 0, .int .u64 0, .int .i64 0, .int .i64 0] 30), (d1_2, .cells #[.int .u64 0, .int .u64 0, .int .u64 0, .int .u64 0, .int .i64 0, .int .i64 0] 30), (d1_1, .cells #[.int .u64 (bi (exC b (oneC a)).t.v), .int .u64 (bi (exC b (oneC a)).t.m), .int .u64 ((exC b (oneC a)).u.lo), .int .u64 ((exC b (oneC a)).u.hi), .int .i64 ((exC b (oneC a)).s.lo), .int .i64 ((exC b (oneC a)).s.hi)] 30), (d1_0, .cells #[.int .u64 (bi a.t.v), .int .u64 (bi a.t.m), .int .u64 a.u.lo, .int .u64 a.u.hi, .int .i64 a.s.lo, .int .i64 a.s.hi] 30)] z → K ⟨#[u0, u1, u2, .pointer (some ⟨d1_1, 0, none⟩), u4, u5, u6, .int .u64 (oneC a), u8, u9, u10, u11, u12, u13, u14, u15, u16, u17, u18, u19, u20, u21, u22, u23, u24, u25, t26, t27, t28, u29, u30], []⟩ z) (wy : World) (M : Gw.Mem w0 [(d1_3, .cells #[.int .u64 0, .int .u64 0, .int .u64 0, .int .u64 0, .int .i64 0, .int .i64 0] 30), (d1_2, .cells #[.int .u64 0, .int .u64 0, .int .u64 0, .int .u64 0, .int .i64 0, .int .i64 0] 30), (d1_1, .cells #[.int .u64 (bi b.t.v), .int .u64 (bi b.t.m), .int .u64 b.u.lo, .int .u64 b.u.hi, .int .i64 b.s.lo, .int .i64 b.s.hi] 30), (d1_0, .cells #[.int .u64 (bi a.t.v), .int .u64 (bi a.t.m), .int .u64 a.u.lo, .int .u64 a.u.hi, .int .i64 a.s.lo, .int .i64 a.s.hi] 30)] wy) :
    different5_r6_11C.wp Tryz.prog (Exit.then K Q0) ⟨#[u0, u1, u2, .pointer (some ⟨d1_1, 0, none⟩), u4, u5, u6, .int .u64 (oneC a), u8, u9, u10, u11, u12, u13, u14, u15, u16, u17, u18, u19, u20, u21, u22, u23, u24, u25, u26, u27, u28, u29, u30], []⟩ wy := by
  have HK := Lib.hid hK
  clear hK
  conv => arg 2; whnf
  refine Gw.line _ M ?_
  clear M wy
  refine Gw.sq (.agg #[.int .u64 (bi b.t.v), .int .u64 (bi b.t.m), .int .u64 b.u.lo, .int .u64 b.u.hi, .int .i64 b.s.lo, .int .i64 b.s.hi]) ?_ ?_
  · intro w M; have c := M.c6 2; go_simp
  try simp only [Act.put, ptA, ptB, ptC]
  refine Gw.sw (.int .u64 (oneC a)) ?_
  try simp only [Act.put, ptA, ptB, ptC]
  refine Gw.sk (.agg #[.int .u64 (bi (exC b (oneC a)).t.v), .int .u64 (bi (exC b (oneC a)).t.m), .int .u64 ((exC b (oneC a)).u.lo), .int .u64 ((exC b (oneC a)).u.hi), .int .i64 ((exC b (oneC a)).s.lo), .int .i64 ((exC b (oneC a)).s.hi)]) 234 #[.agg #[.int .u64 (bi b.t.v), .int .u64 (bi b.t.m), .int .u64 b.u.lo, .int .u64 b.u.hi, .int .i64 b.s.lo, .int .i64 b.s.hi], .int .u64 (oneC a)] (fun w M => without5 b (oneC a) (one_bd ha) w) ?_
  try simp only [Act.put, ptA, ptB, ptC]
  refine Gw.ss ?_
  intro w M K' hK
  have c := M.c6 2
  have f := M.f6 2
  go_simp
  refine hK.out _ _ _ ((((((M.set 2 0 _).set 2 1 _).set 2 2 _).set 2 3 _).set 2 4 _).set 2 5 _) ?_
  clear hK K' c f M w
  exact fun z M => HK.out _ _ _ z M
noncomputable def different5_r7_12C : Code := (Tryz.f210.body.bind (Rg.findR 7)).getD .skip
set_option maxHeartbeats 4000000 in
theorem different5_r7_12 (a b : C) (ha : mayC a) (hb : mayC b) {w0 : World}  {K : Act → World → Prop} {Q0 : Exit → Act → World → Prop} {d1_3 d1_2 d1_1 d1_0 : Nat} {u0 u1 u6 u7 u8 u9 u10 u11 u12 u13 u14 u15 u16 u17 u18 u19 u20 u21 u22 u23 u24 u25 u26 u27 u28 u29 u30 : Value}
    (hQ : ∀ c a d v w, Q0 (.panic c) (Act.put a d v) w → Q0 (.panic c) a w)
    (hK : ∀ (t29 t30 : Value) (z : World), Gw.Mem w0 [(d1_3, .cells #[.int .u64 (bi (exC b (oneC a)).t.v), .int .u64 (bi (exC b (oneC a)).t.m), .int .u64 ((exC b (oneC a)).u.lo), .int .u64 ((exC b (oneC a)).u.hi), .int .i64 ((exC b (oneC a)).s.lo), .int .i64 ((exC b (oneC a)).s.hi)] 30), (d1_2, .cells #[.int .u64 (bi a.t.v), .int .u64 (bi a.t.m), .int .u64 a.u.lo, .int .u64 a.u.hi, .int .i64 a.s.lo, .int .i64 a.s.hi] 30), (d1_1, .cells #[.int .u64 (bi (exC b (oneC a)).t.v), .int .u64 (bi (exC b (oneC a)).t.m), .int .u64 ((exC b (oneC a)).u.lo), .int .u64 ((exC b (oneC a)).u.hi), .int .i64 ((exC b (oneC a)).s.lo), .int .i64 ((exC b (oneC a)).s.hi)] 30), (d1_0, .cells #[.int .u64 (bi a.t.v), .int .u64 (bi a.t.m), .int .u64 a.u.lo, .int .u64 a.u.hi, .int .i64 a.s.lo, .int .i64 a.s.hi] 30)] z → K ⟨#[u0, u1, .pointer (some ⟨d1_0, 0, none⟩), .pointer (some ⟨d1_1, 0, none⟩), .pointer (some ⟨d1_2, 0, none⟩), .pointer (some ⟨d1_3, 0, none⟩), .bool true, u7, u8, u9, u10, u11, u12, u13, u14, u15, u16, u17, u18, u19, u20, u21, u22, u23, u24, u25, u26, u27, u28, t29, t30], []⟩ z) (wy : World) (M : Gw.Mem w0 [(d1_3, .cells #[.int .u64 0, .int .u64 0, .int .u64 0, .int .u64 0, .int .i64 0, .int .i64 0] 30), (d1_2, .cells #[.int .u64 0, .int .u64 0, .int .u64 0, .int .u64 0, .int .i64 0, .int .i64 0] 30), (d1_1, .cells #[.int .u64 (bi (exC b (oneC a)).t.v), .int .u64 (bi (exC b (oneC a)).t.m), .int .u64 ((exC b (oneC a)).u.lo), .int .u64 ((exC b (oneC a)).u.hi), .int .i64 ((exC b (oneC a)).s.lo), .int .i64 ((exC b (oneC a)).s.hi)] 30), (d1_0, .cells #[.int .u64 (bi a.t.v), .int .u64 (bi a.t.m), .int .u64 a.u.lo, .int .u64 a.u.hi, .int .i64 a.s.lo, .int .i64 a.s.hi] 30)] wy) :
    different5_r7_12C.wp Tryz.prog (Exit.then K Q0) ⟨#[u0, u1, .pointer (some ⟨d1_0, 0, none⟩), .pointer (some ⟨d1_1, 0, none⟩), .pointer (some ⟨d1_2, 0, none⟩), .pointer (some ⟨d1_3, 0, none⟩), u6, u7, u8, u9, u10, u11, u12, u13, u14, u15, u16, u17, u18, u19, u20, u21, u22, u23, u24, u25, u26, u27, u28, u29, u30], []⟩ wy := by
  have HK := Lib.hid hK
  clear hK
  have hq : ∀ c a d v w, Exit.then K Q0 (.panic c) (Act.put a d v) w → Exit.then K Q0 (.panic c) a w := hQ
  conv => arg 2; whnf
  refine Gw.draw [2, 3] (Gw.Mem w0 [(d1_1, .cells #[.int .u64 (bi (exC b (oneC a)).t.v), .int .u64 (bi (exC b (oneC a)).t.m), .int .u64 ((exC b (oneC a)).u.lo), .int .u64 ((exC b (oneC a)).u.hi), .int .i64 ((exC b (oneC a)).s.lo), .int .i64 ((exC b (oneC a)).s.hi)] 30), (d1_0, .cells #[.int .u64 (bi a.t.v), .int .u64 (bi a.t.m), .int .u64 a.u.lo, .int .u64 a.u.hi, .int .i64 a.s.lo, .int .i64 a.s.hi] 30)]) _ (by kernel_rfl) M.drew ?_
  have hG : ∀ z, Gw.Mem w0 [(d1_3, .cells #[.int .u64 0, .int .u64 0, .int .u64 0, .int .u64 0, .int .i64 0, .int .i64 0] 30), (d1_2, .cells #[.int .u64 0, .int .u64 0, .int .u64 0, .int .u64 0, .int .i64 0, .int .i64 0] 30), (d1_1, .cells #[.int .u64 (bi (exC b (oneC a)).t.v), .int .u64 (bi (exC b (oneC a)).t.m), .int .u64 ((exC b (oneC a)).u.lo), .int .u64 ((exC b (oneC a)).u.hi), .int .i64 ((exC b (oneC a)).s.lo), .int .i64 ((exC b (oneC a)).s.hi)] 30), (d1_0, .cells #[.int .u64 (bi a.t.v), .int .u64 (bi a.t.m), .int .u64 a.u.lo, .int .u64 a.u.hi, .int .i64 a.s.lo, .int .i64 a.s.hi] 30)] z → Gw.Mem w0 [(d1_1, .cells #[.int .u64 (bi (exC b (oneC a)).t.v), .int .u64 (bi (exC b (oneC a)).t.m), .int .u64 ((exC b (oneC a)).u.lo), .int .u64 ((exC b (oneC a)).u.hi), .int .i64 ((exC b (oneC a)).s.lo), .int .i64 ((exC b (oneC a)).s.hi)] 30), (d1_0, .cells #[.int .u64 (bi a.t.v), .int .u64 (bi a.t.m), .int .u64 a.u.lo, .int .u64 a.u.hi, .int .i64 a.s.lo, .int .i64 a.s.hi] 30)] z := fun _ h => h.sub (Gw.cd (Gw.cd (Gw.cc (Gw.cc Gw.cn))))
  clear M wy
  refine Gw.tg 0 (.agg #[.int .u64 (bi a.t.v), .int .u64 (bi a.t.m), .int .u64 a.u.lo, .int .u64 a.u.hi, .int .i64 a.s.lo, .int .i64 a.s.hi]) ?_ ?_
  · intro w M; have c := M.c6 1; go_simp
  try simp only [Act.put, ptA, ptB, ptC]
  refine Gw.tg 1 (.agg #[.int .u64 (bi (exC b (oneC a)).t.v), .int .u64 (bi (exC b (oneC a)).t.m), .int .u64 ((exC b (oneC a)).u.lo), .int .u64 ((exC b (oneC a)).u.hi), .int .i64 ((exC b (oneC a)).s.lo), .int .i64 ((exC b (oneC a)).s.hi)]) ?_ ?_
  · intro w M; have c := M.c6 0; go_simp
  try simp only [Act.put, ptA, ptB, ptC]
  refine Gw.ts 2 rfl (by kernel_rfl) ?_
  intro w M K' hK
  have c := M.c6 1
  have f := M.f6 1
  go_simp
  refine hK.out _ _ _ Gw.Mem.stays (fun h => by cases h) (fun _ h => h.sub (Gw.cd (Gw.cd (Gw.cc (Gw.cc Gw.cn))))) ((((((M.set 1 0 _).set 1 1 _).set 1 2 _).set 1 3 _).set 1 4 _).set 1 5 _) ?_
  clear hK K' c f M w
  refine Gw.ts 3 rfl (by kernel_rfl) ?_
  intro w M K' hK
  have c := M.c6 0
  have f := M.f6 0
  go_simp
  refine hK.out _ _ _ Gw.Mem.stays (fun h => by cases h) (fun _ h => h.sub (Gw.cd (Gw.cd (Gw.cc (Gw.cc Gw.cn))))) ((((((M.set 0 0 _).set 0 1 _).set 0 2 _).set 0 3 _).set 0 4 _).set 0 5 _) ?_
  clear hK K' c f M w
  refine Gw.tw 4 (.bool true) ?_ (hG := (fun _ h => h.sub (Gw.cd (Gw.cd (Gw.cc (Gw.cc Gw.cn))))))
  try simp only [Act.put, ptA, ptB, ptC]
  exact Gw.td (by kernel_rfl) (fun z M => HK.out _ _ z M) _
noncomputable def different5_r7_13C : Code := (Tryz.f210.body.bind (Rg.findR 7)).getD .skip
set_option maxHeartbeats 4000000 in
theorem different5_r7_13 (a b : C) (ha : mayC a) (hb : mayC b) {w0 : World}  {K : Act → World → Prop} {Q0 : Exit → Act → World → Prop} {d1_3 d1_2 d1_1 d1_0 : Nat} {u0 u1 u6 u7 u8 u9 u10 u11 u12 u13 u14 u15 u16 u17 u18 u19 u20 u21 u22 u23 u24 u25 u26 u27 u28 u29 u30 : Value}
    (hQ : ∀ c a d v w, Q0 (.panic c) (Act.put a d v) w → Q0 (.panic c) a w)
    (hK : ∀ (t29 t30 : Value) (z : World), Gw.Mem w0 [(d1_3, .cells #[.int .u64 (bi b.t.v), .int .u64 (bi b.t.m), .int .u64 b.u.lo, .int .u64 b.u.hi, .int .i64 b.s.lo, .int .i64 b.s.hi] 30), (d1_2, .cells #[.int .u64 (bi a.t.v), .int .u64 (bi a.t.m), .int .u64 a.u.lo, .int .u64 a.u.hi, .int .i64 a.s.lo, .int .i64 a.s.hi] 30), (d1_1, .cells #[.int .u64 (bi b.t.v), .int .u64 (bi b.t.m), .int .u64 b.u.lo, .int .u64 b.u.hi, .int .i64 b.s.lo, .int .i64 b.s.hi] 30), (d1_0, .cells #[.int .u64 (bi a.t.v), .int .u64 (bi a.t.m), .int .u64 a.u.lo, .int .u64 a.u.hi, .int .i64 a.s.lo, .int .i64 a.s.hi] 30)] z → K ⟨#[u0, u1, .pointer (some ⟨d1_0, 0, none⟩), .pointer (some ⟨d1_1, 0, none⟩), .pointer (some ⟨d1_2, 0, none⟩), .pointer (some ⟨d1_3, 0, none⟩), .bool true, u7, u8, u9, u10, u11, u12, u13, u14, u15, u16, u17, u18, u19, u20, u21, u22, u23, u24, u25, u26, u27, u28, t29, t30], []⟩ z) (wy : World) (M : Gw.Mem w0 [(d1_3, .cells #[.int .u64 0, .int .u64 0, .int .u64 0, .int .u64 0, .int .i64 0, .int .i64 0] 30), (d1_2, .cells #[.int .u64 0, .int .u64 0, .int .u64 0, .int .u64 0, .int .i64 0, .int .i64 0] 30), (d1_1, .cells #[.int .u64 (bi b.t.v), .int .u64 (bi b.t.m), .int .u64 b.u.lo, .int .u64 b.u.hi, .int .i64 b.s.lo, .int .i64 b.s.hi] 30), (d1_0, .cells #[.int .u64 (bi a.t.v), .int .u64 (bi a.t.m), .int .u64 a.u.lo, .int .u64 a.u.hi, .int .i64 a.s.lo, .int .i64 a.s.hi] 30)] wy) :
    different5_r7_13C.wp Tryz.prog (Exit.then K Q0) ⟨#[u0, u1, .pointer (some ⟨d1_0, 0, none⟩), .pointer (some ⟨d1_1, 0, none⟩), .pointer (some ⟨d1_2, 0, none⟩), .pointer (some ⟨d1_3, 0, none⟩), u6, u7, u8, u9, u10, u11, u12, u13, u14, u15, u16, u17, u18, u19, u20, u21, u22, u23, u24, u25, u26, u27, u28, u29, u30], []⟩ wy := by
  have HK := Lib.hid hK
  clear hK
  have hq : ∀ c a d v w, Exit.then K Q0 (.panic c) (Act.put a d v) w → Exit.then K Q0 (.panic c) a w := hQ
  conv => arg 2; whnf
  refine Gw.draw [2, 3] (Gw.Mem w0 [(d1_1, .cells #[.int .u64 (bi b.t.v), .int .u64 (bi b.t.m), .int .u64 b.u.lo, .int .u64 b.u.hi, .int .i64 b.s.lo, .int .i64 b.s.hi] 30), (d1_0, .cells #[.int .u64 (bi a.t.v), .int .u64 (bi a.t.m), .int .u64 a.u.lo, .int .u64 a.u.hi, .int .i64 a.s.lo, .int .i64 a.s.hi] 30)]) _ (by kernel_rfl) M.drew ?_
  have hG : ∀ z, Gw.Mem w0 [(d1_3, .cells #[.int .u64 0, .int .u64 0, .int .u64 0, .int .u64 0, .int .i64 0, .int .i64 0] 30), (d1_2, .cells #[.int .u64 0, .int .u64 0, .int .u64 0, .int .u64 0, .int .i64 0, .int .i64 0] 30), (d1_1, .cells #[.int .u64 (bi b.t.v), .int .u64 (bi b.t.m), .int .u64 b.u.lo, .int .u64 b.u.hi, .int .i64 b.s.lo, .int .i64 b.s.hi] 30), (d1_0, .cells #[.int .u64 (bi a.t.v), .int .u64 (bi a.t.m), .int .u64 a.u.lo, .int .u64 a.u.hi, .int .i64 a.s.lo, .int .i64 a.s.hi] 30)] z → Gw.Mem w0 [(d1_1, .cells #[.int .u64 (bi b.t.v), .int .u64 (bi b.t.m), .int .u64 b.u.lo, .int .u64 b.u.hi, .int .i64 b.s.lo, .int .i64 b.s.hi] 30), (d1_0, .cells #[.int .u64 (bi a.t.v), .int .u64 (bi a.t.m), .int .u64 a.u.lo, .int .u64 a.u.hi, .int .i64 a.s.lo, .int .i64 a.s.hi] 30)] z := fun _ h => h.sub (Gw.cd (Gw.cd (Gw.cc (Gw.cc Gw.cn))))
  clear M wy
  refine Gw.tg 0 (.agg #[.int .u64 (bi a.t.v), .int .u64 (bi a.t.m), .int .u64 a.u.lo, .int .u64 a.u.hi, .int .i64 a.s.lo, .int .i64 a.s.hi]) ?_ ?_
  · intro w M; have c := M.c6 1; go_simp
  try simp only [Act.put, ptA, ptB, ptC]
  refine Gw.tg 1 (.agg #[.int .u64 (bi b.t.v), .int .u64 (bi b.t.m), .int .u64 b.u.lo, .int .u64 b.u.hi, .int .i64 b.s.lo, .int .i64 b.s.hi]) ?_ ?_
  · intro w M; have c := M.c6 0; go_simp
  try simp only [Act.put, ptA, ptB, ptC]
  refine Gw.ts 2 rfl (by kernel_rfl) ?_
  intro w M K' hK
  have c := M.c6 1
  have f := M.f6 1
  go_simp
  refine hK.out _ _ _ Gw.Mem.stays (fun h => by cases h) (fun _ h => h.sub (Gw.cd (Gw.cd (Gw.cc (Gw.cc Gw.cn))))) ((((((M.set 1 0 _).set 1 1 _).set 1 2 _).set 1 3 _).set 1 4 _).set 1 5 _) ?_
  clear hK K' c f M w
  refine Gw.ts 3 rfl (by kernel_rfl) ?_
  intro w M K' hK
  have c := M.c6 0
  have f := M.f6 0
  go_simp
  refine hK.out _ _ _ Gw.Mem.stays (fun h => by cases h) (fun _ h => h.sub (Gw.cd (Gw.cd (Gw.cc (Gw.cc Gw.cn))))) ((((((M.set 0 0 _).set 0 1 _).set 0 2 _).set 0 3 _).set 0 4 _).set 0 5 _) ?_
  clear hK K' c f M w
  refine Gw.tw 4 (.bool true) ?_ (hG := (fun _ h => h.sub (Gw.cd (Gw.cd (Gw.cc (Gw.cc Gw.cn))))))
  try simp only [Act.put, ptA, ptB, ptC]
  exact Gw.td (by kernel_rfl) (fun z M => HK.out _ _ z M) _
set_option maxHeartbeats 4000000 in
theorem different5 (a b : C) (ha : mayC a) (hb : mayC b) (w : World) :
    Calls Tryz.prog 210 #[.agg #[.int .u64 (bi a.t.v), .int .u64 (bi a.t.m), .int .u64 a.u.lo, .int .u64 a.u.hi, .int .i64 a.s.lo, .int .i64 a.s.hi], .agg #[.int .u64 (bi b.t.v), .int .u64 (bi b.t.m), .int .u64 b.u.lo, .int .u64 b.u.hi, .int .i64 b.s.lo, .int .i64 b.s.hi]] w fun e w' => e = .returned (.tuple #[.agg #[.int .u64 (bi (dfC a b).t.v), .int .u64 (bi (dfC a b).t.m), .int .u64 ((dfC a b).u.lo), .int .u64 ((dfC a b).u.hi), .int .i64 ((dfC a b).s.lo), .int .i64 ((dfC a b).s.hi)], .agg #[.int .u64 (bi (dfC b a).t.v), .int .u64 (bi (dfC b a).t.m), .int .u64 ((dfC b a).u.lo), .int .u64 ((dfC b a).u.hi), .int .i64 ((dfC b a).s.lo), .int .i64 ((dfC b a).s.hi)], .bool true]) ∧ Below w.heap.size w w' := by
  go_enter Tryz.func210, Tryz.ntmps210
  have M := Gw.Mem.nil w
  refine wp_seq (different5_r0 a b ha hb (fun _ _ d _ _ h => by cases d <;> exact h) ?_ _ M)
  clear M
  intro _ d1_0 d1_1 d1_2 d1_3 z1 M
  refine wp_seq (different5_r1 a b ha hb (fun _ _ d _ _ h => by cases d <;> exact h) ?_ _ M)
  clear M
  intro _ _ _ _ _ z2 M
  refine wp_seq (different5_r2 a b ha hb (fun _ _ d _ _ h => by cases d <;> exact h) ?_ _ M)
  clear M
  intro _ _ _ _ _ z3 M
  refine wp_seq ?_
  refine wp_seq (different5_r3 a b ha hb (fun _ _ d _ _ h => by cases d <;> exact h) ?_ _ M)
  clear M
  intro z4 M
  refine wp_cond_split (t := (aloneC b)) rfl (fun h0 => ?_) (fun h0 => ?_)
  · refine Gw.tail (different5_r4 a b ha hb (fun _ _ d _ _ h => by cases d <;> exact h) ?_ _ M)
    clear M
    intro _ _ _ z5 M
    try simp only [Exit.inBlock, Exit.then]
    refine wp_seq ?_
    refine wp_seq (different5_r5 a b ha hb (fun _ _ d _ _ h => by cases d <;> exact h) ?_ _ M)
    clear M
    intro z6 M
    refine wp_cond_split (t := (aloneC a)) rfl (fun h1 => ?_) (fun h1 => ?_)
    · refine Gw.tail (different5_r6 a b ha hb (fun _ _ d _ _ h => by cases d <;> exact h) ?_ _ M)
      clear M
      intro _ _ _ z7 M
      try simp only [Exit.inBlock, Exit.then]
      refine wp_seq (different5_r7 a b ha hb (fun _ _ d _ _ h => by cases d <;> exact h) ?_ _ M)
      clear M
      intro _ _ z8 M
      refine wp_ret ?_
      try simp only [Exit.inBlock, Exit.then]
      have g0 := M.cell 1 0
      have g1 := M.cell 1 1
      have g2 := M.cell 1 2
      have g3 := M.cell 1 3
      have g4 := M.cell 1 4
      have g5 := M.cell 1 5
      have g6 := M.cell 0 0
      have g7 := M.cell 0 1
      have g8 := M.cell 0 2
      have g9 := M.cell 0 3
      have g10 := M.cell 0 4
      have g11 := M.cell 0 5
      refine bodyPost_ret (by simp [results, Tryz.results210, g0, g1, g2, g3, g4, g5, g6, g7, g8, g9, g10, g11, go_sem]; try rfl) rfl ?_
      exact ⟨by unfold dfC; rw [if_pos h0, if_pos h1], M.below⟩
    · refine wp_skip ?_
      try simp only [Exit.inBlock, Exit.then]
      refine wp_seq (different5_r7_9 a b ha hb (fun _ _ d _ _ h => by cases d <;> exact h) ?_ _ M)
      clear M
      intro _ _ z9 M
      refine wp_ret ?_
      try simp only [Exit.inBlock, Exit.then]
      have g0 := M.cell 1 0
      have g1 := M.cell 1 1
      have g2 := M.cell 1 2
      have g3 := M.cell 1 3
      have g4 := M.cell 1 4
      have g5 := M.cell 1 5
      have g6 := M.cell 0 0
      have g7 := M.cell 0 1
      have g8 := M.cell 0 2
      have g9 := M.cell 0 3
      have g10 := M.cell 0 4
      have g11 := M.cell 0 5
      refine bodyPost_ret (by simp [results, Tryz.results210, g0, g1, g2, g3, g4, g5, g6, g7, g8, g9, g10, g11, go_sem]; try rfl) rfl ?_
      exact ⟨by unfold dfC; rw [if_pos h0, if_neg (by rw [h1]; decide)], M.below⟩
  · refine wp_skip ?_
    try simp only [Exit.inBlock, Exit.then]
    refine wp_seq ?_
    refine wp_seq (different5_r5_10 a b ha hb (fun _ _ d _ _ h => by cases d <;> exact h) ?_ _ M)
    clear M
    intro z10 M
    refine wp_cond_split (t := (aloneC a)) rfl (fun h1 => ?_) (fun h1 => ?_)
    · refine Gw.tail (different5_r6_11 a b ha hb (fun _ _ d _ _ h => by cases d <;> exact h) ?_ _ M)
      clear M
      intro _ _ _ z11 M
      try simp only [Exit.inBlock, Exit.then]
      refine wp_seq (different5_r7_12 a b ha hb (fun _ _ d _ _ h => by cases d <;> exact h) ?_ _ M)
      clear M
      intro _ _ z12 M
      refine wp_ret ?_
      try simp only [Exit.inBlock, Exit.then]
      have g0 := M.cell 1 0
      have g1 := M.cell 1 1
      have g2 := M.cell 1 2
      have g3 := M.cell 1 3
      have g4 := M.cell 1 4
      have g5 := M.cell 1 5
      have g6 := M.cell 0 0
      have g7 := M.cell 0 1
      have g8 := M.cell 0 2
      have g9 := M.cell 0 3
      have g10 := M.cell 0 4
      have g11 := M.cell 0 5
      refine bodyPost_ret (by simp [results, Tryz.results210, g0, g1, g2, g3, g4, g5, g6, g7, g8, g9, g10, g11, go_sem]; try rfl) rfl ?_
      exact ⟨by unfold dfC; rw [if_neg (by rw [h0]; decide), if_pos h1], M.below⟩
    · refine wp_skip ?_
      try simp only [Exit.inBlock, Exit.then]
      refine wp_seq (different5_r7_13 a b ha hb (fun _ _ d _ _ h => by cases d <;> exact h) ?_ _ M)
      clear M
      intro _ _ z13 M
      refine wp_ret ?_
      try simp only [Exit.inBlock, Exit.then]
      have g0 := M.cell 1 0
      have g1 := M.cell 1 1
      have g2 := M.cell 1 2
      have g3 := M.cell 1 3
      have g4 := M.cell 1 4
      have g5 := M.cell 1 5
      have g6 := M.cell 0 0
      have g7 := M.cell 0 1
      have g8 := M.cell 0 2
      have g9 := M.cell 0 3
      have g10 := M.cell 0 4
      have g11 := M.cell 0 5
      refine bodyPost_ret (by simp [results, Tryz.results210, g0, g1, g2, g3, g4, g5, g6, g7, g8, g9, g10, g11, go_sem]; try rfl) rfl ?_
      exact ⟨by unfold dfC; rw [if_neg (by rw [h0]; decide), if_neg (by rw [h1]; decide)], M.below⟩
end Go.Proofs.YtcimihckhobniaaGreat.Sc
