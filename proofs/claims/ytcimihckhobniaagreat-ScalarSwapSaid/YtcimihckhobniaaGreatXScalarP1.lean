/-
  What the program's layer 5 tells: contracts, first part. Conditions: scalars may be, where that is said.
-/
import Derived.Test.YtcimihckhobniaaGreatXM3
import Derived.Test.YtcimihckhobniaaGreatXM4
namespace Go.Proofs.YtcimihckhobniaaGreat.Sc
open Go.RowKit Tn Ow Sp
set_option linter.unusedVariables false
set_option linter.unusedSimpArgs false
set_option maxRecDepth 100000
noncomputable def of5_r0C : Code := (Tryz.f17.body.bind (Rg.findR 0)).getD .skip
set_option maxHeartbeats 4000000 in
theorem of5_r0 (v : BitVec 64) {w0 : World}  {K : Act → World → Prop} {Q0 : Exit → Act → World → Prop} {u0 u1 u2 u3 u4 u5 u6 u7 u8 u9 : Value}
    (hQ : ∀ c a d v w, Q0 (.panic c) (Act.put a d v) w → Q0 (.panic c) a w)
    (hK : ∀ (d1_0 : Nat) (z : World), Gw.Mem w0 [(d1_0, .cells #[.int .u64 0, .int .u64 0, .int .u64 0, .int .u64 0, .int .i64 0, .int .i64 0] 30)] z → K ⟨#[u0, u1, .pointer (some ⟨d1_0, 0, none⟩), u3, u4, u5, u6, u7, u8, u9], []⟩ z) (wy : World) (M : Gw.Mem w0 [] wy) :
    of5_r0C.wp Tryz.prog (Exit.then K Q0) ⟨#[u0, u1, u2, u3, u4, u5, u6, u7, u8, u9], []⟩ wy := by
  have HK := Lib.hid hK
  clear hK
  conv => arg 2; whnf
  refine Gw.line _ M ?_
  clear M wy
  refine Gw.ss ?_
  intro w M K' hK
  go_simp
  have M1 := M.alloc (.cells #[.int .u64 0, .int .u64 0, .int .u64 0, .int .u64 0, .int .i64 0, .int .i64 0] 30)
  generalize w.heap.size = d1_0 at M1 ⊢
  refine hK.out _ _ _ M1 ?_
  clear hK K' M1 M w
  try simp only [Act.put, ptA, ptB, ptC]
  exact fun z M => HK.out _ z M
noncomputable def of5_r1C : Code := (Tryz.f17.body.bind (Rg.findR 1)).getD .skip
set_option maxHeartbeats 4000000 in
theorem of5_r1 (v : BitVec 64) {w0 : World}  {K : Act → World → Prop} {Q0 : Exit → Act → World → Prop} {d1_0 : Nat} {u1 u3 u4 u5 u6 u7 u8 u9 : Value}
    (hQ : ∀ c a d v w, Q0 (.panic c) (Act.put a d v) w → Q0 (.panic c) a w)
    (hK : ∀ (t3 t4 t5 t6 t7 t8 t9 : Value) (z : World), Gw.Mem w0 [(d1_0, .cells #[.int .u64 (bi (ofT v).v), .int .u64 (bi (ofT v).m), .int .u64 ((ofE (bi v)).lo), .int .u64 ((ofE (bi v)).hi), .int .i64 ((ofE (sg (bi v))).lo), .int .i64 ((ofE (sg (bi v))).hi)] 30)] z → K ⟨#[.int .u64 (bi v), u1, .pointer (some ⟨d1_0, 0, none⟩), t3, t4, t5, t6, t7, t8, t9], []⟩ z) (wy : World) (M : Gw.Mem w0 [(d1_0, .cells #[.int .u64 0, .int .u64 0, .int .u64 0, .int .u64 0, .int .i64 0, .int .i64 0] 30)] wy) :
    of5_r1C.wp Tryz.prog (Exit.then K Q0) ⟨#[.int .u64 (bi v), u1, .pointer (some ⟨d1_0, 0, none⟩), u3, u4, u5, u6, u7, u8, u9], []⟩ wy := by
  have HK := Lib.hid hK
  clear hK
  conv => arg 2; whnf
  refine Gw.line _ M ?_
  clear M wy
  refine Gw.sw (.int .u64 (bi v)) ?_
  try simp only [Act.put, ptA, ptB, ptC]
  refine Gw.sk (.agg #[.int .u64 (bi (ofT v).v), .int .u64 (bi (ofT v).m)]) 43 #[.int .u64 (bi v)] (fun w M => L3.of_any v w) ?_
  try simp only [Act.put, ptA, ptB, ptC]
  refine Gw.sw (.int .u64 (bi v)) ?_
  try simp only [Act.put, ptA, ptB, ptC]
  refine Gw.sk (.agg #[.int .u64 ((ofE (bi v)).lo), .int .u64 ((ofE (bi v)).hi)]) 44 #[.int .u64 (bi v)] (fun w M => uof_any (bi v) w) ?_
  try simp only [Act.put, ptA, ptB, ptC]
  refine Gw.sw (.int .u64 (bi v)) ?_
  try simp only [Act.put, ptA, ptB, ptC]
  refine Gw.sk (.agg #[.int .i64 ((ofE (sg (bi v))).lo), .int .i64 ((ofE (sg (bi v))).hi)]) 45 #[.int .u64 (bi v)] (fun w M => sof_any (bi v) (bi_bd v).1 (bi_bd v).2 w) ?_
  try simp only [Act.put, ptA, ptB, ptC]
  refine Gw.sw (.agg #[.int .u64 (bi (ofT v).v), .int .u64 (bi (ofT v).m), .int .u64 ((ofE (bi v)).lo), .int .u64 ((ofE (bi v)).hi), .int .i64 ((ofE (sg (bi v))).lo), .int .i64 ((ofE (sg (bi v))).hi)]) ?_
  try simp only [Act.put, ptA, ptB, ptC]
  refine Gw.ss ?_
  intro w M K' hK
  have c := M.c6 0
  have f := M.f6 0
  go_simp
  refine hK.out _ _ _ ((((((M.set 0 0 _).set 0 1 _).set 0 2 _).set 0 3 _).set 0 4 _).set 0 5 _) ?_
  clear hK K' c f M w
  exact fun z M => HK.out _ _ _ _ _ _ _ z M
set_option maxHeartbeats 4000000 in
theorem of5 (v : BitVec 64) (w : World) :
    Calls Tryz.prog 17 #[.int .u64 (bi v)] w fun e w' => e = .returned (.agg #[.int .u64 (bi (ofC v).t.v), .int .u64 (bi (ofC v).t.m), .int .u64 ((ofC v).u.lo), .int .u64 ((ofC v).u.hi), .int .i64 ((ofC v).s.lo), .int .i64 ((ofC v).s.hi)]) ∧ Below w.heap.size w w' := by
  go_enter Tryz.func17, Tryz.ntmps17
  have M := Gw.Mem.nil w
  refine wp_seq (of5_r0 v (fun _ _ d _ _ h => by cases d <;> exact h) ?_ _ M)
  clear M
  intro d1_0 z1 M
  refine wp_seq (of5_r1 v (fun _ _ d _ _ h => by cases d <;> exact h) ?_ _ M)
  clear M
  intro _ _ _ _ _ _ _ z2 M
  refine wp_ret ?_
  try simp only [Exit.inBlock, Exit.then]
  have g0 := M.cell 0 0
  have g1 := M.cell 0 1
  have g2 := M.cell 0 2
  have g3 := M.cell 0 3
  have g4 := M.cell 0 4
  have g5 := M.cell 0 5
  refine bodyPost_ret (by simp [results, Tryz.results17, g0, g1, g2, g3, g4, g5, go_sem]; try rfl) rfl ?_
  exact ⟨rfl, M.below⟩
noncomputable def any5_r0C : Code := (Tryz.f19.body.bind (Rg.findR 0)).getD .skip
set_option maxHeartbeats 4000000 in
theorem any5_r0  {w0 : World}  {K : Act → World → Prop} {Q0 : Exit → Act → World → Prop} {u0 u1 u2 u3 u4 : Value}
    (hQ : ∀ c a d v w, Q0 (.panic c) (Act.put a d v) w → Q0 (.panic c) a w)
    (hK : ∀ (d1_0 : Nat) (z : World), Gw.Mem w0 [(d1_0, .cells #[.int .u64 0, .int .u64 0, .int .u64 0, .int .u64 0, .int .i64 0, .int .i64 0] 30)] z → K ⟨#[.pointer (some ⟨d1_0, 0, none⟩), u1, u2, u3, u4], []⟩ z) (wy : World) (M : Gw.Mem w0 [] wy) :
    any5_r0C.wp Tryz.prog (Exit.then K Q0) ⟨#[u0, u1, u2, u3, u4], []⟩ wy := by
  have HK := Lib.hid hK
  clear hK
  conv => arg 2; whnf
  refine Gw.line _ M ?_
  clear M wy
  refine Gw.ss ?_
  intro w M K' hK
  go_simp
  have M1 := M.alloc (.cells #[.int .u64 0, .int .u64 0, .int .u64 0, .int .u64 0, .int .i64 0, .int .i64 0] 30)
  generalize w.heap.size = d1_0 at M1 ⊢
  refine hK.out _ _ _ M1 ?_
  clear hK K' M1 M w
  try simp only [Act.put, ptA, ptB, ptC]
  exact fun z M => HK.out _ z M
noncomputable def any5_r1C : Code := (Tryz.f19.body.bind (Rg.findR 1)).getD .skip
set_option maxHeartbeats 4000000 in
theorem any5_r1  {w0 : World}  {K : Act → World → Prop} {Q0 : Exit → Act → World → Prop} {d1_0 : Nat} {u1 u2 u3 u4 : Value}
    (hQ : ∀ c a d v w, Q0 (.panic c) (Act.put a d v) w → Q0 (.panic c) a w)
    (hK : ∀ (t1 t2 t3 t4 : Value) (z : World), Gw.Mem w0 [(d1_0, .cells #[.int .u64 (bi anyT.v), .int .u64 (bi anyT.m), .int .u64 uAll.lo, .int .u64 uAll.hi, .int .i64 sAll.lo, .int .i64 sAll.hi] 30)] z → K ⟨#[.pointer (some ⟨d1_0, 0, none⟩), t1, t2, t3, t4], []⟩ z) (wy : World) (M : Gw.Mem w0 [(d1_0, .cells #[.int .u64 0, .int .u64 0, .int .u64 0, .int .u64 0, .int .i64 0, .int .i64 0] 30)] wy) :
    any5_r1C.wp Tryz.prog (Exit.then K Q0) ⟨#[.pointer (some ⟨d1_0, 0, none⟩), u1, u2, u3, u4], []⟩ wy := by
  have HK := Lib.hid hK
  clear hK
  conv => arg 2; whnf
  refine Gw.line _ M ?_
  clear M wy
  refine Gw.sk (.agg #[.int .u64 (bi anyT.v), .int .u64 (bi anyT.m)]) 49 #[] (fun w M => L3.any_any w) ?_
  try simp only [Act.put, ptA, ptB, ptC]
  refine Gw.sk (.agg #[.int .u64 uAll.lo, .int .u64 uAll.hi]) 50 #[] (fun w M => uall_any w) ?_
  try simp only [Act.put, ptA, ptB, ptC]
  refine Gw.sk (.agg #[.int .i64 sAll.lo, .int .i64 sAll.hi]) 51 #[] (fun w M => sall_any w) ?_
  try simp only [Act.put, ptA, ptB, ptC]
  refine Gw.sw (.agg #[.int .u64 (bi anyT.v), .int .u64 (bi anyT.m), .int .u64 uAll.lo, .int .u64 uAll.hi, .int .i64 sAll.lo, .int .i64 sAll.hi]) ?_
  try simp only [Act.put, ptA, ptB, ptC]
  refine Gw.ss ?_
  intro w M K' hK
  have c := M.c6 0
  have f := M.f6 0
  go_simp
  refine hK.out _ _ _ ((((((M.set 0 0 _).set 0 1 _).set 0 2 _).set 0 3 _).set 0 4 _).set 0 5 _) ?_
  clear hK K' c f M w
  exact fun z M => HK.out _ _ _ _ z M
set_option maxHeartbeats 4000000 in
theorem any5  (w : World) :
    Calls Tryz.prog 19 #[] w fun e w' => e = .returned (.agg #[.int .u64 (bi anyC.t.v), .int .u64 (bi anyC.t.m), .int .u64 anyC.u.lo, .int .u64 anyC.u.hi, .int .i64 anyC.s.lo, .int .i64 anyC.s.hi]) ∧ Below w.heap.size w w' := by
  go_enter Tryz.func19, Tryz.ntmps19
  have M := Gw.Mem.nil w
  refine wp_seq (any5_r0  (fun _ _ d _ _ h => by cases d <;> exact h) ?_ _ M)
  clear M
  intro d1_0 z1 M
  refine wp_seq (any5_r1  (fun _ _ d _ _ h => by cases d <;> exact h) ?_ _ M)
  clear M
  intro _ _ _ _ z2 M
  refine wp_ret ?_
  try simp only [Exit.inBlock, Exit.then]
  have g0 := M.cell 0 0
  have g1 := M.cell 0 1
  have g2 := M.cell 0 2
  have g3 := M.cell 0 3
  have g4 := M.cell 0 4
  have g5 := M.cell 0 5
  refine bodyPost_ret (by simp [results, Tryz.results19, g0, g1, g2, g3, g4, g5, go_sem]; try rfl) rfl ?_
  exact ⟨rfl, M.below⟩
noncomputable def in5_r0C : Code := (Tryz.f23.body.bind (Rg.findR 0)).getD .skip
set_option maxHeartbeats 4000000 in
theorem in5_r0 (x : C) (v : BitVec 64) {w0 : World}  {K : Act → World → Prop} {Q0 : Exit → Act → World → Prop} {u1 u2 u3 u4 u5 u6 u7 u8 u9 u10 u11 u12 u13 u14 u15 u16 u17 u18 u19 u20 : Value}
    (hQ : ∀ c a d v w, Q0 (.panic c) (Act.put a d v) w → Q0 (.panic c) a w)
    (hK : ∀ (t4 : Value) (d1_0 : Nat) (z : World), Gw.Mem w0 [(d1_0, .cells #[.int .u64 (bi x.t.v), .int .u64 (bi x.t.m), .int .u64 x.u.lo, .int .u64 x.u.hi, .int .i64 x.s.lo, .int .i64 x.s.hi] 30)] z → K ⟨#[.agg #[.int .u64 (bi x.t.v), .int .u64 (bi x.t.m), .int .u64 x.u.lo, .int .u64 x.u.hi, .int .i64 x.s.lo, .int .i64 x.s.hi], u1, .pointer (some ⟨d1_0, 0, none⟩), u3, t4, u5, u6, u7, u8, u9, u10, u11, u12, u13, u14, u15, u16, u17, u18, u19, u20], []⟩ z) (wy : World) (M : Gw.Mem w0 [] wy) :
    in5_r0C.wp Tryz.prog (Exit.then K Q0) ⟨#[.agg #[.int .u64 (bi x.t.v), .int .u64 (bi x.t.m), .int .u64 x.u.lo, .int .u64 x.u.hi, .int .i64 x.s.lo, .int .i64 x.s.hi], u1, u2, u3, u4, u5, u6, u7, u8, u9, u10, u11, u12, u13, u14, u15, u16, u17, u18, u19, u20], []⟩ wy := by
  have HK := Lib.hid hK
  clear hK
  conv => arg 2; whnf
  refine Gw.line _ M ?_
  clear M wy
  refine Gw.ss ?_
  intro w M K' hK
  go_simp
  have M1 := M.alloc (.cells #[.int .u64 (bi x.t.v), .int .u64 (bi x.t.m), .int .u64 x.u.lo, .int .u64 x.u.hi, .int .i64 x.s.lo, .int .i64 x.s.hi] 30)
  generalize w.heap.size = d1_0 at M1 ⊢
  refine hK.out _ _ _ M1 ?_
  clear hK K' M1 M w
  try simp only [Act.put, ptA, ptB, ptC]
  refine Gw.sw (.bool false) ?_
  try simp only [Act.put, ptA, ptB, ptC]
  exact fun z M => HK.out _ _ z M
noncomputable def in5_r1C : Code := (Tryz.f23.body.bind (Rg.findR 1)).getD .skip
set_option maxHeartbeats 4000000 in
theorem in5_r1 (x : C) (v : BitVec 64) {w0 : World}  {K : Act → World → Prop} {Q0 : Exit → Act → World → Prop} {d1_0 : Nat} {u0 u3 u4 u5 u6 u7 u8 u9 u10 u11 u12 u13 u14 u15 u16 u17 u18 u19 u20 : Value}
    (hQ : ∀ c a d v w, Q0 (.panic c) (Act.put a d v) w → Q0 (.panic c) a w)
    (hK : ∀ (t5 t6 t7 t8 t9 t10 t11 t12 t13 t14 t15 t16 t17 t18 t19 t20 : Value) (o4 : Bool) (_ : o4 = ((inT x.t v) && ((inE x.u (bi v)) && (inE x.s (sg (bi v)))))) (z : World), Gw.Mem w0 [(d1_0, .cells #[.int .u64 (bi x.t.v), .int .u64 (bi x.t.m), .int .u64 x.u.lo, .int .u64 x.u.hi, .int .i64 x.s.lo, .int .i64 x.s.hi] 30)] z → K ⟨#[u0, .int .u64 (bi v), .pointer (some ⟨d1_0, 0, none⟩), u3, .bool o4, t5, t6, t7, t8, t9, t10, t11, t12, t13, t14, t15, t16, t17, t18, t19, t20], []⟩ z) (wy : World) (M : Gw.Mem w0 [(d1_0, .cells #[.int .u64 (bi x.t.v), .int .u64 (bi x.t.m), .int .u64 x.u.lo, .int .u64 x.u.hi, .int .i64 x.s.lo, .int .i64 x.s.hi] 30)] wy) :
    in5_r1C.wp Tryz.prog (Exit.then K Q0) ⟨#[u0, .int .u64 (bi v), .pointer (some ⟨d1_0, 0, none⟩), u3, u4, u5, u6, u7, u8, u9, u10, u11, u12, u13, u14, u15, u16, u17, u18, u19, u20], []⟩ wy := by
  have HK := Lib.hid hK
  clear hK
  conv => arg 2; whnf
  refine Gw.line _ M ?_
  clear M wy
  refine Gw.sw (.pointer (some ⟨d1_0, 0, none⟩)) ?_
  try simp only [Act.put, ptA, ptB, ptC]
  refine Gw.sq (.agg #[.int .u64 (bi x.t.v), .int .u64 (bi x.t.m)]) ?_ ?_
  · intro w M; have c := M.c2 0 0 1; go_simp
  try simp only [Act.put, ptA, ptB, ptC]
  refine Gw.sw (.int .u64 (bi v)) ?_
  try simp only [Act.put, ptA, ptB, ptC]
  refine Gw.sk (.bool (inT x.t v)) 57 #[.agg #[.int .u64 (bi x.t.v), .int .u64 (bi x.t.m)], .int .u64 (bi v)] (fun w M => L3.in_any x.t v w) ?_
  try simp only [Act.put, ptA, ptB, ptC]
  refine Gw.sw (.bool (inT x.t v)) ?_
  try simp only [Act.put, ptA, ptB, ptC]
  cases hb0_1 : (inT x.t v)
  · try simp only [Bool.not_true, Bool.not_false]
    refine Gw.su ?_
    try simp only [Act.put, ptA, ptB, ptC]
    refine Gw.su ?_
    try simp only [Act.put, ptA, ptB, ptC]
    refine Gw.su ?_
    try simp only [Act.put, ptA, ptB, ptC]
    refine Gw.su ?_
    try simp only [Act.put, ptA, ptB, ptC]
    refine Gw.sw (.bool false) ?_
    try simp only [Act.put, ptA, ptB, ptC]
    refine Gw.sw (.bool false) ?_
    try simp only [Act.put, ptA, ptB, ptC]
    refine Gw.su ?_
    try simp only [Act.put, ptA, ptB, ptC]
    refine Gw.su ?_
    try simp only [Act.put, ptA, ptB, ptC]
    refine Gw.su ?_
    try simp only [Act.put, ptA, ptB, ptC]
    refine Gw.su ?_
    try simp only [Act.put, ptA, ptB, ptC]
    refine Gw.sw (.bool false) ?_
    try simp only [Act.put, ptA, ptB, ptC]
    refine Gw.sw (.bool false) ?_
    try simp only [Act.put, ptA, ptB, ptC]
    exact fun z M => HK.out _ _ _ _ _ _ _ _ _ _ _ _ _ _ _ _ _ (by simp [hb0_1]) z M
  · try simp only [Bool.not_true, Bool.not_false]
    refine Gw.sw (.pointer (some ⟨d1_0, 2, none⟩)) ?_
    try simp only [Act.put, ptA, ptB, ptC]
    refine Gw.sq (.agg #[.int .u64 x.u.lo, .int .u64 x.u.hi]) ?_ ?_
    · intro w M; have c := M.c2 0 2 3; go_simp
    try simp only [Act.put, ptA, ptB, ptC]
    refine Gw.sw (.int .u64 (bi v)) ?_
    try simp only [Act.put, ptA, ptB, ptC]
    refine Gw.sk (.bool (inE x.u (bi v))) 58 #[.agg #[.int .u64 x.u.lo, .int .u64 x.u.hi], .int .u64 (bi v)] (fun w M => uin_any x.u (bi v) w) ?_
    try simp only [Act.put, ptA, ptB, ptC]
    refine Gw.sw (.bool (inE x.u (bi v))) ?_
    try simp only [Act.put, ptA, ptB, ptC]
    refine Gw.sw (.bool (inE x.u (bi v))) ?_
    try simp only [Act.put, ptA, ptB, ptC]
    cases hb1_1 : (inE x.u (bi v))
    · try simp only [Bool.not_true, Bool.not_false]
      refine Gw.su ?_
      try simp only [Act.put, ptA, ptB, ptC]
      refine Gw.su ?_
      try simp only [Act.put, ptA, ptB, ptC]
      refine Gw.su ?_
      try simp only [Act.put, ptA, ptB, ptC]
      refine Gw.su ?_
      try simp only [Act.put, ptA, ptB, ptC]
      refine Gw.sw (.bool false) ?_
      try simp only [Act.put, ptA, ptB, ptC]
      refine Gw.sw (.bool false) ?_
      try simp only [Act.put, ptA, ptB, ptC]
      exact fun z M => HK.out _ _ _ _ _ _ _ _ _ _ _ _ _ _ _ _ _ (by simp [hb0_1, hb1_1]) z M
    · try simp only [Bool.not_true, Bool.not_false]
      refine Gw.sw (.pointer (some ⟨d1_0, 4, none⟩)) ?_
      try simp only [Act.put, ptA, ptB, ptC]
      refine Gw.sq (.agg #[.int .i64 x.s.lo, .int .i64 x.s.hi]) ?_ ?_
      · intro w M; have c := M.c2 0 4 5; go_simp
      try simp only [Act.put, ptA, ptB, ptC]
      refine Gw.sw (.int .u64 (bi v)) ?_
      try simp only [Act.put, ptA, ptB, ptC]
      refine Gw.sk (.bool (inE x.s (sg (bi v)))) 59 #[.agg #[.int .i64 x.s.lo, .int .i64 x.s.hi], .int .u64 (bi v)] (fun w M => sin_any x.s (bi v) (bi_bd v).1 (bi_bd v).2 w) ?_
      try simp only [Act.put, ptA, ptB, ptC]
      refine Gw.sw (.bool (inE x.s (sg (bi v)))) ?_
      try simp only [Act.put, ptA, ptB, ptC]
      refine Gw.sw (.bool (inE x.s (sg (bi v)))) ?_
      try simp only [Act.put, ptA, ptB, ptC]
      exact fun z M => HK.out _ _ _ _ _ _ _ _ _ _ _ _ _ _ _ _ _ (by simp [hb0_1, hb1_1]) z M
set_option maxHeartbeats 4000000 in
theorem in5 (x : C) (v : BitVec 64) (w : World) :
    Calls Tryz.prog 23 #[.agg #[.int .u64 (bi x.t.v), .int .u64 (bi x.t.m), .int .u64 x.u.lo, .int .u64 x.u.hi, .int .i64 x.s.lo, .int .i64 x.s.hi], .int .u64 (bi v)] w fun e w' => e = .returned (.bool (inC x v)) ∧ Below w.heap.size w w' := by
  go_enter Tryz.func23, Tryz.ntmps23
  have M := Gw.Mem.nil w
  refine wp_seq (in5_r0 x v (fun _ _ d _ _ h => by cases d <;> exact h) ?_ _ M)
  clear M
  intro _ d1_0 z1 M
  refine wp_seq (in5_r1 x v (fun _ _ d _ _ h => by cases d <;> exact h) ?_ _ M)
  clear M
  intro _ _ _ _ _ _ _ _ _ _ _ _ _ _ _ _ o4 e4 z2 M
  subst e4
  refine wp_ret ?_
  try simp only [Exit.inBlock, Exit.then]
  refine bodyPost_ret (by simp [results, Tryz.results23, go_sem]; try rfl) rfl ?_
  exact ⟨rfl, M.below⟩
noncomputable def with5_r0C : Code := (Tryz.f25.body.bind (Rg.findR 0)).getD .skip
set_option maxHeartbeats 4000000 in
theorem with5_r0 (a b : C) {w0 : World}  {K : Act → World → Prop} {Q0 : Exit → Act → World → Prop} {u2 u3 u4 u5 u6 u7 u8 u9 u10 u11 u12 u13 u14 u15 u16 u17 u18 u19 u20 u21 u22 u23 : Value}
    (hQ : ∀ c a d v w, Q0 (.panic c) (Act.put a d v) w → Q0 (.panic c) a w)
    (hK : ∀ (t4 : Value) (d1_0 d1_1 : Nat) (z : World), Gw.Mem w0 [(d1_1, .cells #[.int .u64 (bi b.t.v), .int .u64 (bi b.t.m), .int .u64 b.u.lo, .int .u64 b.u.hi, .int .i64 b.s.lo, .int .i64 b.s.hi] 30), (d1_0, .cells #[.int .u64 (bi a.t.v), .int .u64 (bi a.t.m), .int .u64 a.u.lo, .int .u64 a.u.hi, .int .i64 a.s.lo, .int .i64 a.s.hi] 30)] z → K ⟨#[.agg #[.int .u64 (bi a.t.v), .int .u64 (bi a.t.m), .int .u64 a.u.lo, .int .u64 a.u.hi, .int .i64 a.s.lo, .int .i64 a.s.hi], .agg #[.int .u64 (bi b.t.v), .int .u64 (bi b.t.m), .int .u64 b.u.lo, .int .u64 b.u.hi, .int .i64 b.s.lo, .int .i64 b.s.hi], .pointer (some ⟨d1_0, 0, none⟩), .pointer (some ⟨d1_1, 0, none⟩), t4, u5, u6, u7, u8, u9, u10, u11, u12, u13, u14, u15, u16, u17, u18, u19, u20, u21, u22, u23], []⟩ z) (wy : World) (M : Gw.Mem w0 [] wy) :
    with5_r0C.wp Tryz.prog (Exit.then K Q0) ⟨#[.agg #[.int .u64 (bi a.t.v), .int .u64 (bi a.t.m), .int .u64 a.u.lo, .int .u64 a.u.hi, .int .i64 a.s.lo, .int .i64 a.s.hi], .agg #[.int .u64 (bi b.t.v), .int .u64 (bi b.t.m), .int .u64 b.u.lo, .int .u64 b.u.hi, .int .i64 b.s.lo, .int .i64 b.s.hi], u2, u3, u4, u5, u6, u7, u8, u9, u10, u11, u12, u13, u14, u15, u16, u17, u18, u19, u20, u21, u22, u23], []⟩ wy := by
  have HK := Lib.hid hK
  clear hK
  conv => arg 2; whnf
  refine Gw.line _ M ?_
  clear M wy
  refine Gw.ss ?_
  intro w M K' hK
  go_simp
  have M1 := M.alloc (.cells #[.int .u64 (bi a.t.v), .int .u64 (bi a.t.m), .int .u64 a.u.lo, .int .u64 a.u.hi, .int .i64 a.s.lo, .int .i64 a.s.hi] 30)
  generalize w.heap.size = d1_0 at M1 ⊢
  refine hK.out _ _ _ M1 ?_
  clear hK K' M1 M w
  try simp only [Act.put, ptA, ptB, ptC]
  refine Gw.ss ?_
  intro w M K' hK
  go_simp
  have M1 := M.alloc (.cells #[.int .u64 (bi b.t.v), .int .u64 (bi b.t.m), .int .u64 b.u.lo, .int .u64 b.u.hi, .int .i64 b.s.lo, .int .i64 b.s.hi] 30)
  generalize w.heap.size = d1_1 at M1 ⊢
  refine hK.out _ _ _ M1 ?_
  clear hK K' M1 M w
  try simp only [Act.put, ptA, ptB, ptC]
  refine Gw.sw (.bool false) ?_
  try simp only [Act.put, ptA, ptB, ptC]
  exact fun z M => HK.out _ _ _ z M
noncomputable def with5_r1C : Code := (Tryz.f25.body.bind (Rg.findR 1)).getD .skip
set_option maxHeartbeats 4000000 in
theorem with5_r1 (a b : C) {w0 : World}  {K : Act → World → Prop} {Q0 : Exit → Act → World → Prop} {d1_1 d1_0 : Nat} {u0 u1 u4 u5 u6 u7 u8 u9 u10 u11 u12 u13 u14 u15 u16 u17 u18 u19 u20 u21 u22 u23 : Value}
    (hQ : ∀ c a d v w, Q0 (.panic c) (Act.put a d v) w → Q0 (.panic c) a w)
    (hK : ∀ (t5 t6 t7 t8 t9 t10 t11 t12 t13 t14 t15 t16 t17 t18 t19 t20 t21 t22 t23 : Value) (o4 : Bool) (_ : o4 = ((withT a.t b.t) && ((withE a.u b.u) && (withE a.s b.s)))) (z : World), Gw.Mem w0 [(d1_1, .cells #[.int .u64 (bi b.t.v), .int .u64 (bi b.t.m), .int .u64 b.u.lo, .int .u64 b.u.hi, .int .i64 b.s.lo, .int .i64 b.s.hi] 30), (d1_0, .cells #[.int .u64 (bi a.t.v), .int .u64 (bi a.t.m), .int .u64 a.u.lo, .int .u64 a.u.hi, .int .i64 a.s.lo, .int .i64 a.s.hi] 30)] z → K ⟨#[u0, u1, .pointer (some ⟨d1_0, 0, none⟩), .pointer (some ⟨d1_1, 0, none⟩), .bool o4, t5, t6, t7, t8, t9, t10, t11, t12, t13, t14, t15, t16, t17, t18, t19, t20, t21, t22, t23], []⟩ z) (wy : World) (M : Gw.Mem w0 [(d1_1, .cells #[.int .u64 (bi b.t.v), .int .u64 (bi b.t.m), .int .u64 b.u.lo, .int .u64 b.u.hi, .int .i64 b.s.lo, .int .i64 b.s.hi] 30), (d1_0, .cells #[.int .u64 (bi a.t.v), .int .u64 (bi a.t.m), .int .u64 a.u.lo, .int .u64 a.u.hi, .int .i64 a.s.lo, .int .i64 a.s.hi] 30)] wy) :
    with5_r1C.wp Tryz.prog (Exit.then K Q0) ⟨#[u0, u1, .pointer (some ⟨d1_0, 0, none⟩), .pointer (some ⟨d1_1, 0, none⟩), u4, u5, u6, u7, u8, u9, u10, u11, u12, u13, u14, u15, u16, u17, u18, u19, u20, u21, u22, u23], []⟩ wy := by
  have HK := Lib.hid hK
  clear hK
  conv => arg 2; whnf
  refine Gw.line _ M ?_
  clear M wy
  refine Gw.sw (.pointer (some ⟨d1_0, 0, none⟩)) ?_
  try simp only [Act.put, ptA, ptB, ptC]
  refine Gw.sq (.agg #[.int .u64 (bi a.t.v), .int .u64 (bi a.t.m)]) ?_ ?_
  · intro w M; have c := M.c2 1 0 1; go_simp
  try simp only [Act.put, ptA, ptB, ptC]
  refine Gw.sw (.pointer (some ⟨d1_1, 0, none⟩)) ?_
  try simp only [Act.put, ptA, ptB, ptC]
  refine Gw.sq (.agg #[.int .u64 (bi b.t.v), .int .u64 (bi b.t.m)]) ?_ ?_
  · intro w M; have c := M.c2 0 0 1; go_simp
  try simp only [Act.put, ptA, ptB, ptC]
  refine Gw.sk (.bool (withT a.t b.t)) 63 #[.agg #[.int .u64 (bi a.t.v), .int .u64 (bi a.t.m)], .agg #[.int .u64 (bi b.t.v), .int .u64 (bi b.t.m)]] (fun w M => L3.within_any a.t b.t w) ?_
  try simp only [Act.put, ptA, ptB, ptC]
  refine Gw.sw (.bool (withT a.t b.t)) ?_
  try simp only [Act.put, ptA, ptB, ptC]
  cases hb0_1 : (withT a.t b.t)
  · try simp only [Bool.not_true, Bool.not_false]
    refine Gw.su ?_
    try simp only [Act.put, ptA, ptB, ptC]
    refine Gw.su ?_
    try simp only [Act.put, ptA, ptB, ptC]
    refine Gw.su ?_
    try simp only [Act.put, ptA, ptB, ptC]
    refine Gw.su ?_
    try simp only [Act.put, ptA, ptB, ptC]
    refine Gw.su ?_
    try simp only [Act.put, ptA, ptB, ptC]
    refine Gw.sw (.bool false) ?_
    try simp only [Act.put, ptA, ptB, ptC]
    refine Gw.sw (.bool false) ?_
    try simp only [Act.put, ptA, ptB, ptC]
    refine Gw.su ?_
    try simp only [Act.put, ptA, ptB, ptC]
    refine Gw.su ?_
    try simp only [Act.put, ptA, ptB, ptC]
    refine Gw.su ?_
    try simp only [Act.put, ptA, ptB, ptC]
    refine Gw.su ?_
    try simp only [Act.put, ptA, ptB, ptC]
    refine Gw.su ?_
    try simp only [Act.put, ptA, ptB, ptC]
    refine Gw.sw (.bool false) ?_
    try simp only [Act.put, ptA, ptB, ptC]
    refine Gw.sw (.bool false) ?_
    try simp only [Act.put, ptA, ptB, ptC]
    exact fun z M => HK.out _ _ _ _ _ _ _ _ _ _ _ _ _ _ _ _ _ _ _ _ (by simp [hb0_1]) z M
  · try simp only [Bool.not_true, Bool.not_false]
    refine Gw.sw (.pointer (some ⟨d1_0, 2, none⟩)) ?_
    try simp only [Act.put, ptA, ptB, ptC]
    refine Gw.sq (.agg #[.int .u64 a.u.lo, .int .u64 a.u.hi]) ?_ ?_
    · intro w M; have c := M.c2 1 2 3; go_simp
    try simp only [Act.put, ptA, ptB, ptC]
    refine Gw.sw (.pointer (some ⟨d1_1, 2, none⟩)) ?_
    try simp only [Act.put, ptA, ptB, ptC]
    refine Gw.sq (.agg #[.int .u64 b.u.lo, .int .u64 b.u.hi]) ?_ ?_
    · intro w M; have c := M.c2 0 2 3; go_simp
    try simp only [Act.put, ptA, ptB, ptC]
    refine Gw.sk (.bool (withE a.u b.u)) 64 #[.agg #[.int .u64 a.u.lo, .int .u64 a.u.hi], .agg #[.int .u64 b.u.lo, .int .u64 b.u.hi]] (fun w M => uwith_any a.u b.u w) ?_
    try simp only [Act.put, ptA, ptB, ptC]
    refine Gw.sw (.bool (withE a.u b.u)) ?_
    try simp only [Act.put, ptA, ptB, ptC]
    refine Gw.sw (.bool (withE a.u b.u)) ?_
    try simp only [Act.put, ptA, ptB, ptC]
    cases hb1_1 : (withE a.u b.u)
    · try simp only [Bool.not_true, Bool.not_false]
      refine Gw.su ?_
      try simp only [Act.put, ptA, ptB, ptC]
      refine Gw.su ?_
      try simp only [Act.put, ptA, ptB, ptC]
      refine Gw.su ?_
      try simp only [Act.put, ptA, ptB, ptC]
      refine Gw.su ?_
      try simp only [Act.put, ptA, ptB, ptC]
      refine Gw.su ?_
      try simp only [Act.put, ptA, ptB, ptC]
      refine Gw.sw (.bool false) ?_
      try simp only [Act.put, ptA, ptB, ptC]
      refine Gw.sw (.bool false) ?_
      try simp only [Act.put, ptA, ptB, ptC]
      exact fun z M => HK.out _ _ _ _ _ _ _ _ _ _ _ _ _ _ _ _ _ _ _ _ (by simp [hb0_1, hb1_1]) z M
    · try simp only [Bool.not_true, Bool.not_false]
      refine Gw.sw (.pointer (some ⟨d1_0, 4, none⟩)) ?_
      try simp only [Act.put, ptA, ptB, ptC]
      refine Gw.sq (.agg #[.int .i64 a.s.lo, .int .i64 a.s.hi]) ?_ ?_
      · intro w M; have c := M.c2 1 4 5; go_simp
      try simp only [Act.put, ptA, ptB, ptC]
      refine Gw.sw (.pointer (some ⟨d1_1, 4, none⟩)) ?_
      try simp only [Act.put, ptA, ptB, ptC]
      refine Gw.sq (.agg #[.int .i64 b.s.lo, .int .i64 b.s.hi]) ?_ ?_
      · intro w M; have c := M.c2 0 4 5; go_simp
      try simp only [Act.put, ptA, ptB, ptC]
      refine Gw.sk (.bool (withE a.s b.s)) 65 #[.agg #[.int .i64 a.s.lo, .int .i64 a.s.hi], .agg #[.int .i64 b.s.lo, .int .i64 b.s.hi]] (fun w M => swith_any a.s b.s w) ?_
      try simp only [Act.put, ptA, ptB, ptC]
      refine Gw.sw (.bool (withE a.s b.s)) ?_
      try simp only [Act.put, ptA, ptB, ptC]
      refine Gw.sw (.bool (withE a.s b.s)) ?_
      try simp only [Act.put, ptA, ptB, ptC]
      exact fun z M => HK.out _ _ _ _ _ _ _ _ _ _ _ _ _ _ _ _ _ _ _ _ (by simp [hb0_1, hb1_1]) z M
set_option maxHeartbeats 4000000 in
theorem with5 (a b : C) (w : World) :
    Calls Tryz.prog 25 #[.agg #[.int .u64 (bi a.t.v), .int .u64 (bi a.t.m), .int .u64 a.u.lo, .int .u64 a.u.hi, .int .i64 a.s.lo, .int .i64 a.s.hi], .agg #[.int .u64 (bi b.t.v), .int .u64 (bi b.t.m), .int .u64 b.u.lo, .int .u64 b.u.hi, .int .i64 b.s.lo, .int .i64 b.s.hi]] w fun e w' => e = .returned (.bool (withC a b)) ∧ Below w.heap.size w w' := by
  go_enter Tryz.func25, Tryz.ntmps25
  have M := Gw.Mem.nil w
  refine wp_seq (with5_r0 a b (fun _ _ d _ _ h => by cases d <;> exact h) ?_ _ M)
  clear M
  intro _ d1_0 d1_1 z1 M
  refine wp_seq (with5_r1 a b (fun _ _ d _ _ h => by cases d <;> exact h) ?_ _ M)
  clear M
  intro _ _ _ _ _ _ _ _ _ _ _ _ _ _ _ _ _ _ _ o4 e4 z2 M
  subst e4
  refine wp_ret ?_
  try simp only [Exit.inBlock, Exit.then]
  refine bodyPost_ret (by simp [results, Tryz.results25, go_sem]; try rfl) rfl ?_
  exact ⟨rfl, M.below⟩
theorem is_end (x : C) : (Value.tuple #[.int .u64 (oneC x), .bool (aloneC x)]) = if (x.u.lo == x.u.hi) = true then .tuple #[.int .u64 x.u.lo, .bool true] else if ((bi x.t.m) == 0) = true then .tuple #[.int .u64 (bi x.t.v), .bool true]
    else if (x.s.lo == x.s.hi) = true then .tuple #[.int .u64 (us x.s.lo), .bool true] else .tuple #[.int .u64 0, .bool false] := by
  have e : ((bi x.t.m) == 0) = (x.t.m == 0#64) := by
    by_cases h : x.t.m = 0#64
    · rw [h]; rfl
    · have : ¬ bi x.t.m = 0 := fun g => h (by unfold bi at g; exact BitVec.eq_of_toNat_eq (by simpa using g))
      rw [beq_eq_false_iff_ne.2 this, beq_eq_false_iff_ne.2 h]
  rw [e]
  unfold oneC aloneC
  by_cases h1 : x.u.lo = x.u.hi <;> by_cases h2 : x.t.m = 0#64 <;> by_cases h3 : x.s.lo = x.s.hi <;> simp [h1, h2, h3]
noncomputable def is5_r0C : Code := (Tryz.f13.body.bind (Rg.findR 0)).getD .skip
set_option maxHeartbeats 4000000 in
theorem is5_r0 (x : C) (hx : mayC x) {w0 : World}  {K : Act → World → Prop} {Q0 : Exit → Act → World → Prop} {u1 u2 u3 u4 u5 u6 u7 u8 u9 u10 u11 u12 u13 u14 u15 u16 u17 u18 u19 u20 u21 u22 u23 u24 u25 u26 u27 u28 u29 u30 u31 u32 u33 u34 : Value}
    (hQ : ∀ c a d v w, Q0 (.panic c) (Act.put a d v) w → Q0 (.panic c) a w)
    (hK : ∀ (t2 t3 : Value) (d1_0 : Nat) (z : World), Gw.Mem w0 [(d1_0, .cells #[.int .u64 (bi x.t.v), .int .u64 (bi x.t.m), .int .u64 x.u.lo, .int .u64 x.u.hi, .int .i64 x.s.lo, .int .i64 x.s.hi] 30)] z → K ⟨#[.agg #[.int .u64 (bi x.t.v), .int .u64 (bi x.t.m), .int .u64 x.u.lo, .int .u64 x.u.hi, .int .i64 x.s.lo, .int .i64 x.s.hi], .pointer (some ⟨d1_0, 0, none⟩), t2, t3, u4, u5, u6, u7, u8, u9, u10, u11, u12, u13, u14, u15, u16, u17, u18, u19, u20, u21, u22, u23, u24, u25, u26, u27, u28, u29, u30, u31, u32, u33, u34], []⟩ z) (wy : World) (M : Gw.Mem w0 [] wy) :
    is5_r0C.wp Tryz.prog (Exit.then K Q0) ⟨#[.agg #[.int .u64 (bi x.t.v), .int .u64 (bi x.t.m), .int .u64 x.u.lo, .int .u64 x.u.hi, .int .i64 x.s.lo, .int .i64 x.s.hi], u1, u2, u3, u4, u5, u6, u7, u8, u9, u10, u11, u12, u13, u14, u15, u16, u17, u18, u19, u20, u21, u22, u23, u24, u25, u26, u27, u28, u29, u30, u31, u32, u33, u34], []⟩ wy := by
  have HK := Lib.hid hK
  clear hK
  conv => arg 2; whnf
  refine Gw.line _ M ?_
  clear M wy
  refine Gw.ss ?_
  intro w M K' hK
  go_simp
  have M1 := M.alloc (.cells #[.int .u64 (bi x.t.v), .int .u64 (bi x.t.m), .int .u64 x.u.lo, .int .u64 x.u.hi, .int .i64 x.s.lo, .int .i64 x.s.hi] 30)
  generalize w.heap.size = d1_0 at M1 ⊢
  refine hK.out _ _ _ M1 ?_
  clear hK K' M1 M w
  try simp only [Act.put, ptA, ptB, ptC]
  refine Gw.sw (.int .u64 0) ?_
  try simp only [Act.put, ptA, ptB, ptC]
  refine Gw.sw (.bool false) ?_
  try simp only [Act.put, ptA, ptB, ptC]
  exact fun z M => HK.out _ _ _ z M
noncomputable def is5_r1C : Code := (Tryz.f13.body.bind (Rg.findR 1)).getD .skip
set_option maxHeartbeats 4000000 in
theorem is5_r1 (x : C) (hx : mayC x) {w0 : World}  {K : Act → World → Prop} {Q0 : Exit → Act → World → Prop} {d1_0 : Nat} {u0 u2 u3 u4 u5 u6 u7 u8 u9 u10 u11 u12 u13 u14 u15 u16 u17 u18 u19 u20 u21 u22 u23 u24 u25 u26 u27 u28 u29 u30 u31 u32 u33 u34 : Value}
    (hQ : ∀ c a d v w, Q0 (.panic c) (Act.put a d v) w → Q0 (.panic c) a w)
    (hK : ∀ (t5 t6 t7 t8 t9 t10 t11 : Value) (z : World), Gw.Mem w0 [(d1_0, .cells #[.int .u64 (bi x.t.v), .int .u64 (bi x.t.m), .int .u64 x.u.lo, .int .u64 x.u.hi, .int .i64 x.s.lo, .int .i64 x.s.hi] 30)] z → K ⟨#[u0, .pointer (some ⟨d1_0, 0, none⟩), u2, u3, .bool (x.u.lo == x.u.hi), t5, t6, t7, t8, t9, t10, t11, u12, u13, u14, u15, u16, u17, u18, u19, u20, u21, u22, u23, u24, u25, u26, u27, u28, u29, u30, u31, u32, u33, u34], []⟩ z) (wy : World) (M : Gw.Mem w0 [(d1_0, .cells #[.int .u64 (bi x.t.v), .int .u64 (bi x.t.m), .int .u64 x.u.lo, .int .u64 x.u.hi, .int .i64 x.s.lo, .int .i64 x.s.hi] 30)] wy) :
    is5_r1C.wp Tryz.prog (Exit.then K Q0) ⟨#[u0, .pointer (some ⟨d1_0, 0, none⟩), u2, u3, u4, u5, u6, u7, u8, u9, u10, u11, u12, u13, u14, u15, u16, u17, u18, u19, u20, u21, u22, u23, u24, u25, u26, u27, u28, u29, u30, u31, u32, u33, u34], []⟩ wy := by
  have HK := Lib.hid hK
  clear hK
  conv => arg 2; whnf
  refine Gw.line _ M ?_
  clear M wy
  refine Gw.sw (.pointer (some ⟨d1_0, 2, none⟩)) ?_
  try simp only [Act.put, ptA, ptB, ptC]
  refine Gw.sw (.pointer (some ⟨d1_0, 2, none⟩)) ?_
  try simp only [Act.put, ptA, ptB, ptC]
  refine Gw.sq (.int .u64 x.u.lo) ?_ ?_
  · intro w M; have c := M.cell 0 2; go_simp
  try simp only [Act.put, ptA, ptB, ptC]
  refine Gw.sw (.pointer (some ⟨d1_0, 2, none⟩)) ?_
  try simp only [Act.put, ptA, ptB, ptC]
  refine Gw.sw (.pointer (some ⟨d1_0, 3, none⟩)) ?_
  try simp only [Act.put, ptA, ptB, ptC]
  refine Gw.sq (.int .u64 x.u.hi) ?_ ?_
  · intro w M; have c := M.cell 0 3; go_simp
  try simp only [Act.put, ptA, ptB, ptC]
  refine Gw.sw (.bool (x.u.lo == x.u.hi)) ?_
  try simp only [Act.put, ptA, ptB, ptC]
  refine Gw.sw (.bool (x.u.lo == x.u.hi)) ?_
  try simp only [Act.put, ptA, ptB, ptC]
  exact fun z M => HK.out _ _ _ _ _ _ _ z M
noncomputable def is5_r2C : Code := (Tryz.f13.body.bind (Rg.findR 2)).getD .skip
set_option maxHeartbeats 4000000 in
theorem is5_r2 (x : C) (hx : mayC x) {w0 : World}  {K : Act → World → Prop} {Q0 : Exit → Act → World → Prop} {d1_0 : Nat} {u0 u2 u3 u4 u5 u6 u7 u8 u9 u10 u11 u12 u13 u14 u15 u16 u17 u18 u19 u20 u21 u22 u23 u24 u25 u26 u27 u28 u29 u30 u31 u32 u33 u34 : Value}
    (hQ : ∀ c a d v w, Q0 (.panic c) (Act.put a d v) w → Q0 (.panic c) a w)
    (hK : ∀ (t12 t13 t14 : Value) (z : World), Gw.Mem w0 [(d1_0, .cells #[.int .u64 (bi x.t.v), .int .u64 (bi x.t.m), .int .u64 x.u.lo, .int .u64 x.u.hi, .int .i64 x.s.lo, .int .i64 x.s.hi] 30)] z → K ⟨#[u0, .pointer (some ⟨d1_0, 0, none⟩), .int .u64 x.u.lo, .bool true, u4, u5, u6, u7, u8, u9, u10, u11, t12, t13, t14, u15, u16, u17, u18, u19, u20, u21, u22, u23, u24, u25, u26, u27, u28, u29, u30, u31, u32, u33, u34], []⟩ z) (wy : World) (M : Gw.Mem w0 [(d1_0, .cells #[.int .u64 (bi x.t.v), .int .u64 (bi x.t.m), .int .u64 x.u.lo, .int .u64 x.u.hi, .int .i64 x.s.lo, .int .i64 x.s.hi] 30)] wy) :
    is5_r2C.wp Tryz.prog (Exit.then K Q0) ⟨#[u0, .pointer (some ⟨d1_0, 0, none⟩), u2, u3, u4, u5, u6, u7, u8, u9, u10, u11, u12, u13, u14, u15, u16, u17, u18, u19, u20, u21, u22, u23, u24, u25, u26, u27, u28, u29, u30, u31, u32, u33, u34], []⟩ wy := by
  have HK := Lib.hid hK
  clear hK
  conv => arg 2; whnf
  refine Gw.line _ M ?_
  clear M wy
  refine Gw.sw (.pointer (some ⟨d1_0, 2, none⟩)) ?_
  try simp only [Act.put, ptA, ptB, ptC]
  refine Gw.sw (.pointer (some ⟨d1_0, 2, none⟩)) ?_
  try simp only [Act.put, ptA, ptB, ptC]
  refine Gw.sq (.int .u64 x.u.lo) ?_ ?_
  · intro w M; have c := M.cell 0 2; go_simp
  try simp only [Act.put, ptA, ptB, ptC]
  refine Gw.sw (.int .u64 x.u.lo) ?_
  try simp only [Act.put, ptA, ptB, ptC]
  refine Gw.sw (.bool true) ?_
  try simp only [Act.put, ptA, ptB, ptC]
  exact fun z M => HK.out _ _ _ z M
noncomputable def is5_r3C : Code := (Tryz.f13.body.bind (Rg.findR 3)).getD .skip
set_option maxHeartbeats 4000000 in
theorem is5_r3 (x : C) (hx : mayC x) {w0 : World}  {K : Act → World → Prop} {Q0 : Exit → Act → World → Prop} {d1_0 : Nat} {u0 u2 u3 u4 u5 u6 u7 u8 u9 u10 u11 u12 u13 u14 u15 u16 u17 u18 u19 u20 u21 u22 u23 u24 u25 u26 u27 u28 u29 u30 u31 u32 u33 u34 : Value}
    (hQ : ∀ c a d v w, Q0 (.panic c) (Act.put a d v) w → Q0 (.panic c) a w)
    (hK : ∀ (t16 t17 t18 t19 : Value) (z : World), Gw.Mem w0 [(d1_0, .cells #[.int .u64 (bi x.t.v), .int .u64 (bi x.t.m), .int .u64 x.u.lo, .int .u64 x.u.hi, .int .i64 x.s.lo, .int .i64 x.s.hi] 30)] z → K ⟨#[u0, .pointer (some ⟨d1_0, 0, none⟩), u2, u3, u4, u5, u6, u7, u8, u9, u10, u11, u12, u13, u14, .bool ((bi x.t.m) == 0), t16, t17, t18, t19, u20, u21, u22, u23, u24, u25, u26, u27, u28, u29, u30, u31, u32, u33, u34], []⟩ z) (wy : World) (M : Gw.Mem w0 [(d1_0, .cells #[.int .u64 (bi x.t.v), .int .u64 (bi x.t.m), .int .u64 x.u.lo, .int .u64 x.u.hi, .int .i64 x.s.lo, .int .i64 x.s.hi] 30)] wy) :
    is5_r3C.wp Tryz.prog (Exit.then K Q0) ⟨#[u0, .pointer (some ⟨d1_0, 0, none⟩), u2, u3, u4, u5, u6, u7, u8, u9, u10, u11, u12, u13, u14, u15, u16, u17, u18, u19, u20, u21, u22, u23, u24, u25, u26, u27, u28, u29, u30, u31, u32, u33, u34], []⟩ wy := by
  have HK := Lib.hid hK
  clear hK
  conv => arg 2; whnf
  refine Gw.line _ M ?_
  clear M wy
  refine Gw.sw (.pointer (some ⟨d1_0, 0, none⟩)) ?_
  try simp only [Act.put, ptA, ptB, ptC]
  refine Gw.sw (.pointer (some ⟨d1_0, 1, none⟩)) ?_
  try simp only [Act.put, ptA, ptB, ptC]
  refine Gw.sq (.int .u64 (bi x.t.m)) ?_ ?_
  · intro w M; have c := M.cell 0 1; go_simp
  try simp only [Act.put, ptA, ptB, ptC]
  refine Gw.sw (.bool ((bi x.t.m) == 0)) ?_
  try simp only [Act.put, ptA, ptB, ptC]
  refine Gw.sw (.bool ((bi x.t.m) == 0)) ?_
  try simp only [Act.put, ptA, ptB, ptC]
  exact fun z M => HK.out _ _ _ _ z M
noncomputable def is5_r4C : Code := (Tryz.f13.body.bind (Rg.findR 4)).getD .skip
set_option maxHeartbeats 4000000 in
theorem is5_r4 (x : C) (hx : mayC x) {w0 : World}  {K : Act → World → Prop} {Q0 : Exit → Act → World → Prop} {d1_0 : Nat} {u0 u2 u3 u4 u5 u6 u7 u8 u9 u10 u11 u12 u13 u14 u15 u16 u17 u18 u19 u20 u21 u22 u23 u24 u25 u26 u27 u28 u29 u30 u31 u32 u33 u34 : Value}
    (hQ : ∀ c a d v w, Q0 (.panic c) (Act.put a d v) w → Q0 (.panic c) a w)
    (hK : ∀ (t20 t21 t22 : Value) (z : World), Gw.Mem w0 [(d1_0, .cells #[.int .u64 (bi x.t.v), .int .u64 (bi x.t.m), .int .u64 x.u.lo, .int .u64 x.u.hi, .int .i64 x.s.lo, .int .i64 x.s.hi] 30)] z → K ⟨#[u0, .pointer (some ⟨d1_0, 0, none⟩), .int .u64 (bi x.t.v), .bool true, u4, u5, u6, u7, u8, u9, u10, u11, u12, u13, u14, u15, u16, u17, u18, u19, t20, t21, t22, u23, u24, u25, u26, u27, u28, u29, u30, u31, u32, u33, u34], []⟩ z) (wy : World) (M : Gw.Mem w0 [(d1_0, .cells #[.int .u64 (bi x.t.v), .int .u64 (bi x.t.m), .int .u64 x.u.lo, .int .u64 x.u.hi, .int .i64 x.s.lo, .int .i64 x.s.hi] 30)] wy) :
    is5_r4C.wp Tryz.prog (Exit.then K Q0) ⟨#[u0, .pointer (some ⟨d1_0, 0, none⟩), u2, u3, u4, u5, u6, u7, u8, u9, u10, u11, u12, u13, u14, u15, u16, u17, u18, u19, u20, u21, u22, u23, u24, u25, u26, u27, u28, u29, u30, u31, u32, u33, u34], []⟩ wy := by
  have HK := Lib.hid hK
  clear hK
  conv => arg 2; whnf
  refine Gw.line _ M ?_
  clear M wy
  refine Gw.sw (.pointer (some ⟨d1_0, 0, none⟩)) ?_
  try simp only [Act.put, ptA, ptB, ptC]
  refine Gw.sw (.pointer (some ⟨d1_0, 0, none⟩)) ?_
  try simp only [Act.put, ptA, ptB, ptC]
  refine Gw.sq (.int .u64 (bi x.t.v)) ?_ ?_
  · intro w M; have c := M.cell 0 0; go_simp
  try simp only [Act.put, ptA, ptB, ptC]
  refine Gw.sw (.int .u64 (bi x.t.v)) ?_
  try simp only [Act.put, ptA, ptB, ptC]
  refine Gw.sw (.bool true) ?_
  try simp only [Act.put, ptA, ptB, ptC]
  exact fun z M => HK.out _ _ _ z M
noncomputable def is5_r5C : Code := (Tryz.f13.body.bind (Rg.findR 5)).getD .skip
set_option maxHeartbeats 4000000 in
theorem is5_r5 (x : C) (hx : mayC x) {w0 : World}  {K : Act → World → Prop} {Q0 : Exit → Act → World → Prop} {d1_0 : Nat} {u0 u2 u3 u4 u5 u6 u7 u8 u9 u10 u11 u12 u13 u14 u15 u16 u17 u18 u19 u20 u21 u22 u23 u24 u25 u26 u27 u28 u29 u30 u31 u32 u33 u34 : Value}
    (hQ : ∀ c a d v w, Q0 (.panic c) (Act.put a d v) w → Q0 (.panic c) a w)
    (hK : ∀ (t24 t25 t26 t27 t28 t29 t30 : Value) (z : World), Gw.Mem w0 [(d1_0, .cells #[.int .u64 (bi x.t.v), .int .u64 (bi x.t.m), .int .u64 x.u.lo, .int .u64 x.u.hi, .int .i64 x.s.lo, .int .i64 x.s.hi] 30)] z → K ⟨#[u0, .pointer (some ⟨d1_0, 0, none⟩), u2, u3, u4, u5, u6, u7, u8, u9, u10, u11, u12, u13, u14, u15, u16, u17, u18, u19, u20, u21, u22, .bool (x.s.lo == x.s.hi), t24, t25, t26, t27, t28, t29, t30, u31, u32, u33, u34], []⟩ z) (wy : World) (M : Gw.Mem w0 [(d1_0, .cells #[.int .u64 (bi x.t.v), .int .u64 (bi x.t.m), .int .u64 x.u.lo, .int .u64 x.u.hi, .int .i64 x.s.lo, .int .i64 x.s.hi] 30)] wy) :
    is5_r5C.wp Tryz.prog (Exit.then K Q0) ⟨#[u0, .pointer (some ⟨d1_0, 0, none⟩), u2, u3, u4, u5, u6, u7, u8, u9, u10, u11, u12, u13, u14, u15, u16, u17, u18, u19, u20, u21, u22, u23, u24, u25, u26, u27, u28, u29, u30, u31, u32, u33, u34], []⟩ wy := by
  have HK := Lib.hid hK
  clear hK
  conv => arg 2; whnf
  refine Gw.line _ M ?_
  clear M wy
  refine Gw.sw (.pointer (some ⟨d1_0, 4, none⟩)) ?_
  try simp only [Act.put, ptA, ptB, ptC]
  refine Gw.sw (.pointer (some ⟨d1_0, 4, none⟩)) ?_
  try simp only [Act.put, ptA, ptB, ptC]
  refine Gw.sq (.int .i64 x.s.lo) ?_ ?_
  · intro w M; have c := M.cell 0 4; go_simp
  try simp only [Act.put, ptA, ptB, ptC]
  refine Gw.sw (.pointer (some ⟨d1_0, 4, none⟩)) ?_
  try simp only [Act.put, ptA, ptB, ptC]
  refine Gw.sw (.pointer (some ⟨d1_0, 5, none⟩)) ?_
  try simp only [Act.put, ptA, ptB, ptC]
  refine Gw.sq (.int .i64 x.s.hi) ?_ ?_
  · intro w M; have c := M.cell 0 5; go_simp
  try simp only [Act.put, ptA, ptB, ptC]
  refine Gw.sw (.bool (x.s.lo == x.s.hi)) ?_
  try simp only [Act.put, ptA, ptB, ptC]
  refine Gw.sw (.bool (x.s.lo == x.s.hi)) ?_
  try simp only [Act.put, ptA, ptB, ptC]
  exact fun z M => HK.out _ _ _ _ _ _ _ z M
noncomputable def is5_r6C : Code := (Tryz.f13.body.bind (Rg.findR 6)).getD .skip
set_option maxHeartbeats 4000000 in
theorem is5_r6 (x : C) (hx : mayC x) {w0 : World}  {K : Act → World → Prop} {Q0 : Exit → Act → World → Prop} {d1_0 : Nat} {u0 u2 u3 u4 u5 u6 u7 u8 u9 u10 u11 u12 u13 u14 u15 u16 u17 u18 u19 u20 u21 u22 u23 u24 u25 u26 u27 u28 u29 u30 u31 u32 u33 u34 : Value}
    (hQ : ∀ c a d v w, Q0 (.panic c) (Act.put a d v) w → Q0 (.panic c) a w)
    (hK : ∀ (t31 t32 t33 t34 : Value) (z : World), Gw.Mem w0 [(d1_0, .cells #[.int .u64 (bi x.t.v), .int .u64 (bi x.t.m), .int .u64 x.u.lo, .int .u64 x.u.hi, .int .i64 x.s.lo, .int .i64 x.s.hi] 30)] z → K ⟨#[u0, .pointer (some ⟨d1_0, 0, none⟩), .int .u64 (us x.s.lo), .bool true, u4, u5, u6, u7, u8, u9, u10, u11, u12, u13, u14, u15, u16, u17, u18, u19, u20, u21, u22, u23, u24, u25, u26, u27, u28, u29, u30, t31, t32, t33, t34], []⟩ z) (wy : World) (M : Gw.Mem w0 [(d1_0, .cells #[.int .u64 (bi x.t.v), .int .u64 (bi x.t.m), .int .u64 x.u.lo, .int .u64 x.u.hi, .int .i64 x.s.lo, .int .i64 x.s.hi] 30)] wy) :
    is5_r6C.wp Tryz.prog (Exit.then K Q0) ⟨#[u0, .pointer (some ⟨d1_0, 0, none⟩), u2, u3, u4, u5, u6, u7, u8, u9, u10, u11, u12, u13, u14, u15, u16, u17, u18, u19, u20, u21, u22, u23, u24, u25, u26, u27, u28, u29, u30, u31, u32, u33, u34], []⟩ wy := by
  have HK := Lib.hid hK
  clear hK
  conv => arg 2; whnf
  refine Gw.line _ M ?_
  clear M wy
  refine Gw.sw (.pointer (some ⟨d1_0, 4, none⟩)) ?_
  try simp only [Act.put, ptA, ptB, ptC]
  refine Gw.sw (.pointer (some ⟨d1_0, 4, none⟩)) ?_
  try simp only [Act.put, ptA, ptB, ptC]
  refine Gw.sq (.int .i64 x.s.lo) ?_ ?_
  · intro w M; have c := M.cell 0 4; go_simp
  try simp only [Act.put, ptA, ptB, ptC]
  refine Gw.sw (.int .u64 (us x.s.lo)) ?_ (hy := by intro w; have WU := wrap_us hx.2.2; go_simp)
  try simp only [Act.put, ptA, ptB, ptC]
  refine Gw.sw (.int .u64 (us x.s.lo)) ?_
  try simp only [Act.put, ptA, ptB, ptC]
  refine Gw.sw (.bool true) ?_
  try simp only [Act.put, ptA, ptB, ptC]
  exact fun z M => HK.out _ _ _ _ z M
noncomputable def is5_r7C : Code := (Tryz.f13.body.bind (Rg.findR 7)).getD .skip
set_option maxHeartbeats 4000000 in
theorem is5_r7 (x : C) (hx : mayC x) {w0 : World}  {K : Act → World → Prop} {Q0 : Exit → Act → World → Prop} {d1_0 : Nat} {u0 u1 u2 u3 u4 u5 u6 u7 u8 u9 u10 u11 u12 u13 u14 u15 u16 u17 u18 u19 u20 u21 u22 u23 u24 u25 u26 u27 u28 u29 u30 u31 u32 u33 u34 : Value}
    (hQ : ∀ c a d v w, Q0 (.panic c) (Act.put a d v) w → Q0 (.panic c) a w)
    (hK : ∀ (z : World), Gw.Mem w0 [(d1_0, .cells #[.int .u64 (bi x.t.v), .int .u64 (bi x.t.m), .int .u64 x.u.lo, .int .u64 x.u.hi, .int .i64 x.s.lo, .int .i64 x.s.hi] 30)] z → K ⟨#[u0, u1, .int .u64 0, .bool false, u4, u5, u6, u7, u8, u9, u10, u11, u12, u13, u14, u15, u16, u17, u18, u19, u20, u21, u22, u23, u24, u25, u26, u27, u28, u29, u30, u31, u32, u33, u34], []⟩ z) (wy : World) (M : Gw.Mem w0 [(d1_0, .cells #[.int .u64 (bi x.t.v), .int .u64 (bi x.t.m), .int .u64 x.u.lo, .int .u64 x.u.hi, .int .i64 x.s.lo, .int .i64 x.s.hi] 30)] wy) :
    is5_r7C.wp Tryz.prog (Exit.then K Q0) ⟨#[u0, u1, u2, u3, u4, u5, u6, u7, u8, u9, u10, u11, u12, u13, u14, u15, u16, u17, u18, u19, u20, u21, u22, u23, u24, u25, u26, u27, u28, u29, u30, u31, u32, u33, u34], []⟩ wy := by
  have HK := Lib.hid hK
  clear hK
  conv => arg 2; whnf
  refine Gw.line _ M ?_
  clear M wy
  refine Gw.sw (.int .u64 0) ?_
  try simp only [Act.put, ptA, ptB, ptC]
  refine Gw.sw (.bool false) ?_
  try simp only [Act.put, ptA, ptB, ptC]
  exact fun z M => HK.out  z M
set_option maxHeartbeats 4000000 in
theorem is5 (x : C) (hx : mayC x) (w : World) :
    Calls Tryz.prog 13 #[.agg #[.int .u64 (bi x.t.v), .int .u64 (bi x.t.m), .int .u64 x.u.lo, .int .u64 x.u.hi, .int .i64 x.s.lo, .int .i64 x.s.hi]] w fun e w' => e = .returned (.tuple #[.int .u64 (oneC x), .bool (aloneC x)]) ∧ Below w.heap.size w w' := by
  go_enter Tryz.func13, Tryz.ntmps13
  have M := Gw.Mem.nil w
  refine wp_seq (is5_r0 x hx (fun _ _ d _ _ h => by cases d <;> exact h) ?_ _ M)
  clear M
  intro _ _ d1_0 z1 M
  refine wp_seq ?_
  refine wp_block ?_
  refine wp_seq (is5_r1 x hx (fun _ _ d _ _ h => by cases d <;> exact h) ?_ _ M)
  clear M
  intro _ _ _ _ _ _ _ z2 M
  refine wp_cond_split (t := (x.u.lo == x.u.hi)) rfl (fun h0 => ?_) (fun h0 => ?_)
  · refine wp_seq (is5_r2 x hx (fun _ _ d _ _ h => by cases d <;> exact h) ?_ _ M)
    clear M
    intro _ _ _ z3 M
    refine wp_ret ?_
    try simp only [Exit.inBlock, Exit.then]
    refine bodyPost_ret (by simp [results, Tryz.results13, go_sem]; try rfl) rfl ?_
    exact ⟨by rw [is_end, if_pos h0], M.below⟩
  · refine wp_seq (is5_r3 x hx (fun _ _ d _ _ h => by cases d <;> exact h) ?_ _ M)
    clear M
    intro _ _ _ _ z4 M
    refine wp_cond_split (t := ((bi x.t.m) == 0)) rfl (fun h1 => ?_) (fun h1 => ?_)
    · refine wp_seq (is5_r4 x hx (fun _ _ d _ _ h => by cases d <;> exact h) ?_ _ M)
      clear M
      intro _ _ _ z5 M
      refine wp_ret ?_
      try simp only [Exit.inBlock, Exit.then]
      refine bodyPost_ret (by simp [results, Tryz.results13, go_sem]; try rfl) rfl ?_
      exact ⟨by rw [is_end, if_neg (by rw [h0]; decide), if_pos h1], M.below⟩
    · refine wp_seq (is5_r5 x hx (fun _ _ d _ _ h => by cases d <;> exact h) ?_ _ M)
      clear M
      intro _ _ _ _ _ _ _ z6 M
      refine wp_cond_split (t := (x.s.lo == x.s.hi)) rfl (fun h2 => ?_) (fun h2 => ?_)
      · refine wp_seq (is5_r6 x hx (fun _ _ d _ _ h => by cases d <;> exact h) ?_ _ M)
        clear M
        intro _ _ _ _ z7 M
        refine wp_ret ?_
        try simp only [Exit.inBlock, Exit.then]
        refine bodyPost_ret (by simp [results, Tryz.results13, go_sem]; try rfl) rfl ?_
        exact ⟨by rw [is_end, if_neg (by rw [h0]; decide), if_neg (by rw [h1]; decide), if_pos h2], M.below⟩
      · refine wp_skip ?_
        try simp only [Exit.inBlock, Exit.then]
        refine wp_seq (is5_r7 x hx (fun _ _ d _ _ h => by cases d <;> exact h) ?_ _ M)
        clear M
        intro z8 M
        refine wp_ret ?_
        try simp only [Exit.inBlock, Exit.then]
        refine bodyPost_ret (by simp [results, Tryz.results13, go_sem]; try rfl) rfl ?_
        exact ⟨by rw [is_end, if_neg (by rw [h0]; decide), if_neg (by rw [h1]; decide), if_neg (by rw [h2]; decide)], M.below⟩
def tm1 (x : C) : E := meetE x.u (toU x.s)
def tm2 (x : C) : E := meetE (tm1 x) (fromU x.t)
def tm3 (x : C) : E := meetE x.s (toS (tm2 x))
def tm4 (x : C) : E := meetE (tm3 x) (fromS x.t)
def tm5 (x : C) : T := meetT x.t (toT (tm2 x))
theorem tm2_ok {x : C} (hx : mayC x) : okU (tm2 x) := meetU_all (meetU_all hx.2.1)
theorem once_tm (x : C) : onceC x = if (metE x.u (toU x.s) && metE (tm1 x) (fromU x.t) && metE x.s (toS (tm2 x)) && metE (tm3 x) (fromS x.t) && meetOk x.t (toT (tm2 x))) = true then some ⟨tm5 x, tm2 x, tm4 x⟩ else none := rfl
noncomputable def teach5_r0C : Code := (Tryz.f41.body.bind (Rg.findR 0)).getD .skip
set_option maxHeartbeats 4000000 in
theorem teach5_r0 (x : C) (hx : mayC x) {w0 : World}  {K : Act → World → Prop} {Q0 : Exit → Act → World → Prop} {u1 u2 u3 u4 u5 u6 u7 u8 u9 u10 u11 u12 u13 u14 u15 u16 u17 u18 u19 u20 u21 u22 u23 u24 u25 u26 u27 u28 u29 u30 u31 u32 u33 u34 u35 u36 u37 u38 u39 u40 u41 u42 u43 u44 u45 u46 u47 u48 u49 u50 u51 u52 u53 u54 u55 u56 u57 u58 u59 u60 u61 u62 u63 u64 u65 u66 u67 : Value}
    (hQ : ∀ c a d v w, Q0 (.panic c) (Act.put a d v) w → Q0 (.panic c) a w)
    (hK : ∀ (t3 : Value) (d1_0 d1_1 : Nat) (z : World), Gw.Mem w0 [(d1_1, .cells #[.int .u64 0, .int .u64 0, .int .u64 0, .int .u64 0, .int .i64 0, .int .i64 0] 30), (d1_0, .cells #[.int .u64 (bi x.t.v), .int .u64 (bi x.t.m), .int .u64 x.u.lo, .int .u64 x.u.hi, .int .i64 x.s.lo, .int .i64 x.s.hi] 30)] z → K ⟨#[.agg #[.int .u64 (bi x.t.v), .int .u64 (bi x.t.m), .int .u64 x.u.lo, .int .u64 x.u.hi, .int .i64 x.s.lo, .int .i64 x.s.hi], .pointer (some ⟨d1_0, 0, none⟩), .pointer (some ⟨d1_1, 0, none⟩), t3, u4, u5, u6, u7, u8, u9, u10, u11, u12, u13, u14, u15, u16, u17, u18, u19, u20, u21, u22, u23, u24, u25, u26, u27, u28, u29, u30, u31, u32, u33, u34, u35, u36, u37, u38, u39, u40, u41, u42, u43, u44, u45, u46, u47, u48, u49, u50, u51, u52, u53, u54, u55, u56, u57, u58, u59, u60, u61, u62, u63, u64, u65, u66, u67], []⟩ z) (wy : World) (M : Gw.Mem w0 [] wy) :
    teach5_r0C.wp Tryz.prog (Exit.then K Q0) ⟨#[.agg #[.int .u64 (bi x.t.v), .int .u64 (bi x.t.m), .int .u64 x.u.lo, .int .u64 x.u.hi, .int .i64 x.s.lo, .int .i64 x.s.hi], u1, u2, u3, u4, u5, u6, u7, u8, u9, u10, u11, u12, u13, u14, u15, u16, u17, u18, u19, u20, u21, u22, u23, u24, u25, u26, u27, u28, u29, u30, u31, u32, u33, u34, u35, u36, u37, u38, u39, u40, u41, u42, u43, u44, u45, u46, u47, u48, u49, u50, u51, u52, u53, u54, u55, u56, u57, u58, u59, u60, u61, u62, u63, u64, u65, u66, u67], []⟩ wy := by
  have HK := Lib.hid hK
  clear hK
  conv => arg 2; whnf
  refine Gw.line _ M ?_
  clear M wy
  refine Gw.ss ?_
  intro w M K' hK
  go_simp
  have M1 := M.alloc (.cells #[.int .u64 (bi x.t.v), .int .u64 (bi x.t.m), .int .u64 x.u.lo, .int .u64 x.u.hi, .int .i64 x.s.lo, .int .i64 x.s.hi] 30)
  generalize w.heap.size = d1_0 at M1 ⊢
  refine hK.out _ _ _ M1 ?_
  clear hK K' M1 M w
  try simp only [Act.put, ptA, ptB, ptC]
  refine Gw.ss ?_
  intro w M K' hK
  go_simp
  have M1 := M.alloc (.cells #[.int .u64 0, .int .u64 0, .int .u64 0, .int .u64 0, .int .i64 0, .int .i64 0] 30)
  generalize w.heap.size = d1_1 at M1 ⊢
  refine hK.out _ _ _ M1 ?_
  clear hK K' M1 M w
  try simp only [Act.put, ptA, ptB, ptC]
  refine Gw.sw (.bool false) ?_
  try simp only [Act.put, ptA, ptB, ptC]
  exact fun z M => HK.out _ _ _ z M
noncomputable def teach5_r1C : Code := (Tryz.f41.body.bind (Rg.findR 1)).getD .skip
set_option maxHeartbeats 4000000 in
theorem teach5_r1 (x : C) (hx : mayC x) {w0 : World}  {K : Act → World → Prop} {Q0 : Exit → Act → World → Prop} {d1_1 d1_0 : Nat} {u0 u2 u3 u4 u5 u6 u7 u8 u9 u10 u11 u12 u13 u14 u15 u16 u17 u18 u19 u20 u21 u22 u23 u24 u25 u26 u27 u28 u29 u30 u31 u32 u33 u34 u35 u36 u37 u38 u39 u40 u41 u42 u43 u44 u45 u46 u47 u48 u49 u50 u51 u52 u53 u54 u55 u56 u57 u58 u59 u60 u61 u62 u63 u64 u65 u66 u67 : Value}
    (hQ : ∀ c a d v w, Q0 (.panic c) (Act.put a d v) w → Q0 (.panic c) a w)
    (hK : ∀ (t7 t8 t9 t10 t11 t12 : Value) (d2_6 d2_7 : Nat) (z : World), Gw.Mem w0 [(d2_7, .cells #[.int .i64 ((fromS x.t).lo), .int .i64 ((fromS x.t).hi)] 28), (d2_6, .cells #[.int .u64 ((fromU x.t).lo), .int .u64 ((fromU x.t).hi)] 26), (d1_1, .cells #[.int .u64 0, .int .u64 0, .int .u64 0, .int .u64 0, .int .i64 0, .int .i64 0] 30), (d1_0, .cells #[.int .u64 (bi x.t.v), .int .u64 (bi x.t.m), .int .u64 x.u.lo, .int .u64 x.u.hi, .int .i64 x.s.lo, .int .i64 x.s.hi] 30)] z → K ⟨#[u0, .pointer (some ⟨d1_0, 0, none⟩), u2, u3, .pointer (some ⟨d2_6, 0, none⟩), .pointer (some ⟨d2_7, 0, none⟩), u6, t7, t8, t9, t10, t11, t12, u13, u14, u15, u16, u17, u18, u19, u20, u21, u22, u23, u24, u25, u26, u27, u28, u29, u30, u31, u32, u33, u34, u35, u36, u37, u38, u39, u40, u41, u42, u43, u44, u45, u46, u47, u48, u49, u50, u51, u52, u53, u54, u55, u56, u57, u58, u59, u60, u61, u62, u63, u64, u65, u66, u67], []⟩ z) (wy : World) (M : Gw.Mem w0 [(d1_1, .cells #[.int .u64 0, .int .u64 0, .int .u64 0, .int .u64 0, .int .i64 0, .int .i64 0] 30), (d1_0, .cells #[.int .u64 (bi x.t.v), .int .u64 (bi x.t.m), .int .u64 x.u.lo, .int .u64 x.u.hi, .int .i64 x.s.lo, .int .i64 x.s.hi] 30)] wy) :
    teach5_r1C.wp Tryz.prog (Exit.then K Q0) ⟨#[u0, .pointer (some ⟨d1_0, 0, none⟩), u2, u3, u4, u5, u6, u7, u8, u9, u10, u11, u12, u13, u14, u15, u16, u17, u18, u19, u20, u21, u22, u23, u24, u25, u26, u27, u28, u29, u30, u31, u32, u33, u34, u35, u36, u37, u38, u39, u40, u41, u42, u43, u44, u45, u46, u47, u48, u49, u50, u51, u52, u53, u54, u55, u56, u57, u58, u59, u60, u61, u62, u63, u64, u65, u66, u67], []⟩ wy := by
  have HK := Lib.hid hK
  clear hK
  conv => arg 2; whnf
  refine Gw.line _ M ?_
  clear M wy
  refine Gw.sw (.pointer (some ⟨d1_0, 0, none⟩)) ?_
  try simp only [Act.put, ptA, ptB, ptC]
  refine Gw.sq (.agg #[.int .u64 (bi x.t.v), .int .u64 (bi x.t.m)]) ?_ ?_
  · intro w M; have c := M.c2 1 0 1; go_simp
  try simp only [Act.put, ptA, ptB, ptC]
  refine Gw.sk (.tuple #[.agg #[.int .u64 ((fromU x.t).lo), .int .u64 ((fromU x.t).hi)], .agg #[.int .i64 ((fromS x.t).lo), .int .i64 ((fromS x.t).hi)]]) 56 #[.agg #[.int .u64 (bi x.t.v), .int .u64 (bi x.t.m)]] (fun w M => fromt_any x.t w) ?_
  try simp only [Act.put, ptA, ptB, ptC]
  refine Gw.sw (.tuple #[.agg #[.int .u64 ((fromU x.t).lo), .int .u64 ((fromU x.t).hi)], .agg #[.int .i64 ((fromS x.t).lo), .int .i64 ((fromS x.t).hi)]]) ?_
  try simp only [Act.put, ptA, ptB, ptC]
  refine Gw.sw (.agg #[.int .u64 ((fromU x.t).lo), .int .u64 ((fromU x.t).hi)]) ?_
  try simp only [Act.put, ptA, ptB, ptC]
  refine Gw.sw (.agg #[.int .i64 ((fromS x.t).lo), .int .i64 ((fromS x.t).hi)]) ?_
  try simp only [Act.put, ptA, ptB, ptC]
  refine Gw.ss ?_
  intro w M K' hK
  go_simp
  have M1 := M.alloc (.cells #[.int .u64 0, .int .u64 0] 26)
  generalize w.heap.size = d2_6 at M1 ⊢
  refine hK.out _ _ _ M1 ?_
  clear hK K' M1 M w
  try simp only [Act.put, ptA, ptB, ptC]
  refine Gw.ss ?_
  intro w M K' hK
  go_simp
  have M1 := M.alloc (.cells #[.int .i64 0, .int .i64 0] 28)
  generalize w.heap.size = d2_7 at M1 ⊢
  refine hK.out _ _ _ M1 ?_
  clear hK K' M1 M w
  try simp only [Act.put, ptA, ptB, ptC]
  refine Gw.ss ?_
  intro w M K' hK
  have c := M.c2 1 0 1
  have f := M.f2 1 0 1
  go_simp
  refine hK.out _ _ _ ((M.set 1 0 _).set 1 1 _) ?_
  clear hK K' c f M w
  refine Gw.ss ?_
  intro w M K' hK
  have c := M.c2 0 0 1
  have f := M.f2 0 0 1
  go_simp
  refine hK.out _ _ _ ((M.set 0 0 _).set 0 1 _) ?_
  clear hK K' c f M w
  exact fun z M => HK.out _ _ _ _ _ _ _ _ z M
noncomputable def teach5_r2C : Code := (Tryz.f41.body.bind (Rg.findR 2)).getD .skip
set_option maxHeartbeats 4000000 in
theorem teach5_r2 (x : C) (hx : mayC x) {w0 : World}  {K : Act → World → Prop} {Q0 : Exit → Act → World → Prop} {d2_7 d2_6 d1_1 d1_0 : Nat} {u0 u1 u2 u3 u4 u5 u6 u7 u8 u9 u10 u11 u12 u13 u14 u15 u16 u17 u18 u19 u20 u21 u22 u23 u24 u25 u26 u27 u28 u29 u30 u31 u32 u33 u34 u35 u36 u37 u38 u39 u40 u41 u42 u43 u44 u45 u46 u47 u48 u49 u50 u51 u52 u53 u54 u55 u56 u57 u58 u59 u60 u61 u62 u63 u64 u65 u66 u67 : Value}
    (hQ : ∀ c a d v w, Q0 (.panic c) (Act.put a d v) w → Q0 (.panic c) a w)
    (hK : ∀ (d3_0 : Nat) (z : World), Gw.Mem w0 [(d3_0, .cells #[.bool false, .bool false, .bool false, .bool false, .bool false] 105), (d2_7, .cells #[.int .i64 ((fromS x.t).lo), .int .i64 ((fromS x.t).hi)] 28), (d2_6, .cells #[.int .u64 ((fromU x.t).lo), .int .u64 ((fromU x.t).hi)] 26), (d1_1, .cells #[.int .u64 0, .int .u64 0, .int .u64 0, .int .u64 0, .int .i64 0, .int .i64 0] 30), (d1_0, .cells #[.int .u64 (bi x.t.v), .int .u64 (bi x.t.m), .int .u64 x.u.lo, .int .u64 x.u.hi, .int .i64 x.s.lo, .int .i64 x.s.hi] 30)] z → K ⟨#[u0, u1, u2, u3, u4, u5, .pointer (some ⟨d3_0, 0, none⟩), u7, u8, u9, u10, u11, u12, u13, u14, u15, u16, u17, u18, u19, u20, u21, u22, u23, u24, u25, u26, u27, u28, u29, u30, u31, u32, u33, u34, u35, u36, u37, u38, u39, u40, u41, u42, u43, u44, u45, u46, u47, u48, u49, u50, u51, u52, u53, u54, u55, u56, u57, u58, u59, u60, u61, u62, u63, u64, u65, u66, u67], []⟩ z) (wy : World) (M : Gw.Mem w0 [(d2_7, .cells #[.int .i64 ((fromS x.t).lo), .int .i64 ((fromS x.t).hi)] 28), (d2_6, .cells #[.int .u64 ((fromU x.t).lo), .int .u64 ((fromU x.t).hi)] 26), (d1_1, .cells #[.int .u64 0, .int .u64 0, .int .u64 0, .int .u64 0, .int .i64 0, .int .i64 0] 30), (d1_0, .cells #[.int .u64 (bi x.t.v), .int .u64 (bi x.t.m), .int .u64 x.u.lo, .int .u64 x.u.hi, .int .i64 x.s.lo, .int .i64 x.s.hi] 30)] wy) :
    teach5_r2C.wp Tryz.prog (Exit.then K Q0) ⟨#[u0, u1, u2, u3, u4, u5, u6, u7, u8, u9, u10, u11, u12, u13, u14, u15, u16, u17, u18, u19, u20, u21, u22, u23, u24, u25, u26, u27, u28, u29, u30, u31, u32, u33, u34, u35, u36, u37, u38, u39, u40, u41, u42, u43, u44, u45, u46, u47, u48, u49, u50, u51, u52, u53, u54, u55, u56, u57, u58, u59, u60, u61, u62, u63, u64, u65, u66, u67], []⟩ wy := by
  have HK := Lib.hid hK
  clear hK
  conv => arg 2; whnf
  refine Gw.line _ M ?_
  clear M wy
  refine Gw.ss ?_
  intro w M K' hK
  go_simp
  have M1 := M.alloc (.cells #[.bool false, .bool false, .bool false, .bool false, .bool false] 105)
  generalize w.heap.size = d3_0 at M1 ⊢
  refine hK.out _ _ _ M1 ?_
  clear hK K' M1 M w
  try simp only [Act.put, ptA, ptB, ptC]
  exact fun z M => HK.out _ z M
noncomputable def teach5_r3C : Code := (Tryz.f41.body.bind (Rg.findR 3)).getD .skip
set_option maxHeartbeats 4000000 in
theorem teach5_r3 (x : C) (hx : mayC x) {w0 : World}  {K : Act → World → Prop} {Q0 : Exit → Act → World → Prop} {d3_0 d2_7 d2_6 d1_1 d1_0 : Nat} {u0 u2 u3 u4 u5 u7 u8 u9 u10 u11 u12 u13 u14 u15 u16 u17 u18 u19 u20 u21 u22 u23 u24 u25 u26 u27 u28 u29 u30 u31 u32 u33 u34 u35 u36 u37 u38 u39 u40 u41 u42 u43 u44 u45 u46 u47 u48 u49 u50 u51 u52 u53 u54 u55 u56 u57 u58 u59 u60 u61 u62 u63 u64 u65 u66 u67 : Value}
    (hQ : ∀ c a d v w, Q0 (.panic c) (Act.put a d v) w → Q0 (.panic c) a w)
    (hK : ∀ (t13 t14 t15 t16 t17 t18 t19 t20 t21 t22 t23 : Value) (z : World), Gw.Mem w0 [(d3_0, .cells #[.bool (metE x.u (toU x.s)), .bool false, .bool false, .bool false, .bool false] 105), (d2_7, .cells #[.int .i64 ((fromS x.t).lo), .int .i64 ((fromS x.t).hi)] 28), (d2_6, .cells #[.int .u64 ((fromU x.t).lo), .int .u64 ((fromU x.t).hi)] 26), (d1_1, .cells #[.int .u64 0, .int .u64 0, .int .u64 0, .int .u64 0, .int .i64 0, .int .i64 0] 30), (d1_0, .cells #[.int .u64 (bi x.t.v), .int .u64 (bi x.t.m), .int .u64 ((tm1 x).lo), .int .u64 ((tm1 x).hi), .int .i64 x.s.lo, .int .i64 x.s.hi] 30)] z → K ⟨#[u0, .pointer (some ⟨d1_0, 0, none⟩), u2, u3, u4, u5, .pointer (some ⟨d3_0, 0, none⟩), u7, u8, u9, u10, u11, u12, t13, t14, t15, t16, t17, t18, t19, t20, t21, t22, t23, u24, u25, u26, u27, u28, u29, u30, u31, u32, u33, u34, u35, u36, u37, u38, u39, u40, u41, u42, u43, u44, u45, u46, u47, u48, u49, u50, u51, u52, u53, u54, u55, u56, u57, u58, u59, u60, u61, u62, u63, u64, u65, u66, u67], []⟩ z) (wy : World) (M : Gw.Mem w0 [(d3_0, .cells #[.bool false, .bool false, .bool false, .bool false, .bool false] 105), (d2_7, .cells #[.int .i64 ((fromS x.t).lo), .int .i64 ((fromS x.t).hi)] 28), (d2_6, .cells #[.int .u64 ((fromU x.t).lo), .int .u64 ((fromU x.t).hi)] 26), (d1_1, .cells #[.int .u64 0, .int .u64 0, .int .u64 0, .int .u64 0, .int .i64 0, .int .i64 0] 30), (d1_0, .cells #[.int .u64 (bi x.t.v), .int .u64 (bi x.t.m), .int .u64 x.u.lo, .int .u64 x.u.hi, .int .i64 x.s.lo, .int .i64 x.s.hi] 30)] wy) :
    teach5_r3C.wp Tryz.prog (Exit.then K Q0) ⟨#[u0, .pointer (some ⟨d1_0, 0, none⟩), u2, u3, u4, u5, .pointer (some ⟨d3_0, 0, none⟩), u7, u8, u9, u10, u11, u12, u13, u14, u15, u16, u17, u18, u19, u20, u21, u22, u23, u24, u25, u26, u27, u28, u29, u30, u31, u32, u33, u34, u35, u36, u37, u38, u39, u40, u41, u42, u43, u44, u45, u46, u47, u48, u49, u50, u51, u52, u53, u54, u55, u56, u57, u58, u59, u60, u61, u62, u63, u64, u65, u66, u67], []⟩ wy := by
  have HK := Lib.hid hK
  clear hK
  have hq : ∀ c a d v w, Exit.then K Q0 (.panic c) (Act.put a d v) w → Exit.then K Q0 (.panic c) a w := hQ
  conv => arg 2; whnf
  refine Gw.draw [10, 12] (Gw.Mem w0 [(d2_7, .cells #[.int .i64 ((fromS x.t).lo), .int .i64 ((fromS x.t).hi)] 28), (d2_6, .cells #[.int .u64 ((fromU x.t).lo), .int .u64 ((fromU x.t).hi)] 26), (d1_1, .cells #[.int .u64 0, .int .u64 0, .int .u64 0, .int .u64 0, .int .i64 0, .int .i64 0] 30)]) _ (by kernel_rfl) M.drew ?_
  have hG : ∀ z, Gw.Mem w0 [(d3_0, .cells #[.bool false, .bool false, .bool false, .bool false, .bool false] 105), (d2_7, .cells #[.int .i64 ((fromS x.t).lo), .int .i64 ((fromS x.t).hi)] 28), (d2_6, .cells #[.int .u64 ((fromU x.t).lo), .int .u64 ((fromU x.t).hi)] 26), (d1_1, .cells #[.int .u64 0, .int .u64 0, .int .u64 0, .int .u64 0, .int .i64 0, .int .i64 0] 30), (d1_0, .cells #[.int .u64 (bi x.t.v), .int .u64 (bi x.t.m), .int .u64 x.u.lo, .int .u64 x.u.hi, .int .i64 x.s.lo, .int .i64 x.s.hi] 30)] z → Gw.Mem w0 [(d2_7, .cells #[.int .i64 ((fromS x.t).lo), .int .i64 ((fromS x.t).hi)] 28), (d2_6, .cells #[.int .u64 ((fromU x.t).lo), .int .u64 ((fromU x.t).hi)] 26), (d1_1, .cells #[.int .u64 0, .int .u64 0, .int .u64 0, .int .u64 0, .int .i64 0, .int .i64 0] 30)] z := fun _ h => h.sub (Gw.cd (Gw.cc (Gw.cc (Gw.cc (Gw.cd Gw.cn)))))
  clear M wy
  refine Gw.tw 0 (.pointer (some ⟨d1_0, 2, none⟩)) ?_
  try simp only [Act.put, ptA, ptB, ptC]
  refine Gw.tq 1 (.agg #[.int .u64 x.u.lo, .int .u64 x.u.hi]) ?_ ?_
  · intro w M; have c := M.c2 4 2 3; go_simp
  try simp only [Act.put, ptA, ptB, ptC]
  refine Gw.tw 2 (.pointer (some ⟨d1_0, 4, none⟩)) ?_
  try simp only [Act.put, ptA, ptB, ptC]
  refine Gw.tq 3 (.agg #[.int .i64 x.s.lo, .int .i64 x.s.hi]) ?_ ?_
  · intro w M; have c := M.c2 4 4 5; go_simp
  try simp only [Act.put, ptA, ptB, ptC]
  refine Gw.tkw 4 (.agg #[.int .u64 ((toU x.s).lo), .int .u64 ((toU x.s).hi)]) 101 #[.agg #[.int .i64 x.s.lo, .int .i64 x.s.hi]] (fun w => tou_any x.s (hx).2.2 w) ?_
  try simp only [Act.put, ptA, ptB, ptC]
  refine Gw.tkw 5 (.tuple #[.agg #[.int .u64 ((tm1 x).lo), .int .u64 ((tm1 x).hi)], .bool (metE x.u (toU x.s))]) 100 #[.agg #[.int .u64 x.u.lo, .int .u64 x.u.hi], .agg #[.int .u64 ((toU x.s).lo), .int .u64 ((toU x.s).hi)]] (fun w => umee_any x.u (toU x.s) w) ?_
  try simp only [Act.put, ptA, ptB, ptC]
  refine Gw.tw 6 (.tuple #[.agg #[.int .u64 ((tm1 x).lo), .int .u64 ((tm1 x).hi)], .bool (metE x.u (toU x.s))]) ?_
  try simp only [Act.put, ptA, ptB, ptC]
  refine Gw.tw 7 (.agg #[.int .u64 ((tm1 x).lo), .int .u64 ((tm1 x).hi)]) ?_
  try simp only [Act.put, ptA, ptB, ptC]
  refine Gw.tw 8 (.bool (metE x.u (toU x.s))) ?_
  try simp only [Act.put, ptA, ptB, ptC]
  refine Gw.tw 9 (.pointer (some ⟨d1_0, 2, none⟩)) ?_
  try simp only [Act.put, ptA, ptB, ptC]
  refine Gw.ts 10 rfl (by kernel_rfl) ?_
  intro w M K' hK
  have c := M.c2 4 2 3
  have f := M.f2 4 2 3
  go_simp
  refine hK.out _ _ _ Gw.Mem.stays (fun h => by cases h) (fun _ h => h.sub (Gw.cd (Gw.cc (Gw.cc (Gw.cc (Gw.cd Gw.cn)))))) ((M.set 4 2 _).set 4 3 _) ?_
  clear hK K' c f M w
  refine Gw.tw 11 (.pointer (some ⟨d3_0, 0, none⟩)) ?_ (hG := (fun _ h => h.sub (Gw.cd (Gw.cc (Gw.cc (Gw.cc (Gw.cd Gw.cn)))))))
  try simp only [Act.put, ptA, ptB, ptC]
  refine Gw.ts 12 rfl (by kernel_rfl) ?_
  intro w M K' hK
  have c := M.cell 0 0
  have f := M.frozen 0 0
  go_simp
  refine hK.out _ _ _ Gw.Mem.stays (fun h => by cases h) (fun _ h => h.sub (Gw.cd (Gw.cc (Gw.cc (Gw.cc (Gw.cd Gw.cn)))))) (M.set 0 0 _) ?_
  clear hK K' c f M w
  exact Gw.td (by kernel_rfl) (fun z M => HK.out _ _ _ _ _ _ _ _ _ _ _ z M) _
noncomputable def teach5_r4C : Code := (Tryz.f41.body.bind (Rg.findR 4)).getD .skip
set_option maxHeartbeats 4000000 in
theorem teach5_r4 (x : C) (hx : mayC x) {w0 : World}  {K : Act → World → Prop} {Q0 : Exit → Act → World → Prop} {d3_0 d2_7 d2_6 d1_1 d1_0 : Nat} {u0 u2 u3 u5 u7 u8 u9 u10 u11 u12 u13 u14 u15 u16 u17 u18 u19 u20 u21 u22 u23 u24 u25 u26 u27 u28 u29 u30 u31 u32 u33 u34 u35 u36 u37 u38 u39 u40 u41 u42 u43 u44 u45 u46 u47 u48 u49 u50 u51 u52 u53 u54 u55 u56 u57 u58 u59 u60 u61 u62 u63 u64 u65 u66 u67 : Value}
    (hQ : ∀ c a d v w, Q0 (.panic c) (Act.put a d v) w → Q0 (.panic c) a w)
    (hK : ∀ (t24 t25 t26 t27 t28 t29 t30 t31 t32 : Value) (z : World), Gw.Mem w0 [(d3_0, .cells #[.bool (metE x.u (toU x.s)), .bool (metE (tm1 x) (fromU x.t)), .bool false, .bool false, .bool false] 105), (d2_7, .cells #[.int .i64 ((fromS x.t).lo), .int .i64 ((fromS x.t).hi)] 28), (d2_6, .cells #[.int .u64 ((fromU x.t).lo), .int .u64 ((fromU x.t).hi)] 26), (d1_1, .cells #[.int .u64 0, .int .u64 0, .int .u64 0, .int .u64 0, .int .i64 0, .int .i64 0] 30), (d1_0, .cells #[.int .u64 (bi x.t.v), .int .u64 (bi x.t.m), .int .u64 ((tm2 x).lo), .int .u64 ((tm2 x).hi), .int .i64 x.s.lo, .int .i64 x.s.hi] 30)] z → K ⟨#[u0, .pointer (some ⟨d1_0, 0, none⟩), u2, u3, .pointer (some ⟨d2_6, 0, none⟩), u5, .pointer (some ⟨d3_0, 0, none⟩), u7, u8, u9, u10, u11, u12, u13, u14, u15, u16, u17, u18, u19, u20, u21, u22, u23, t24, t25, t26, t27, t28, t29, t30, t31, t32, u33, u34, u35, u36, u37, u38, u39, u40, u41, u42, u43, u44, u45, u46, u47, u48, u49, u50, u51, u52, u53, u54, u55, u56, u57, u58, u59, u60, u61, u62, u63, u64, u65, u66, u67], []⟩ z) (wy : World) (M : Gw.Mem w0 [(d3_0, .cells #[.bool (metE x.u (toU x.s)), .bool false, .bool false, .bool false, .bool false] 105), (d2_7, .cells #[.int .i64 ((fromS x.t).lo), .int .i64 ((fromS x.t).hi)] 28), (d2_6, .cells #[.int .u64 ((fromU x.t).lo), .int .u64 ((fromU x.t).hi)] 26), (d1_1, .cells #[.int .u64 0, .int .u64 0, .int .u64 0, .int .u64 0, .int .i64 0, .int .i64 0] 30), (d1_0, .cells #[.int .u64 (bi x.t.v), .int .u64 (bi x.t.m), .int .u64 ((tm1 x).lo), .int .u64 ((tm1 x).hi), .int .i64 x.s.lo, .int .i64 x.s.hi] 30)] wy) :
    teach5_r4C.wp Tryz.prog (Exit.then K Q0) ⟨#[u0, .pointer (some ⟨d1_0, 0, none⟩), u2, u3, .pointer (some ⟨d2_6, 0, none⟩), u5, .pointer (some ⟨d3_0, 0, none⟩), u7, u8, u9, u10, u11, u12, u13, u14, u15, u16, u17, u18, u19, u20, u21, u22, u23, u24, u25, u26, u27, u28, u29, u30, u31, u32, u33, u34, u35, u36, u37, u38, u39, u40, u41, u42, u43, u44, u45, u46, u47, u48, u49, u50, u51, u52, u53, u54, u55, u56, u57, u58, u59, u60, u61, u62, u63, u64, u65, u66, u67], []⟩ wy := by
  have HK := Lib.hid hK
  clear hK
  conv => arg 2; whnf
  refine Gw.line _ M ?_
  clear M wy
  refine Gw.sw (.pointer (some ⟨d1_0, 2, none⟩)) ?_
  try simp only [Act.put, ptA, ptB, ptC]
  refine Gw.sq (.agg #[.int .u64 ((tm1 x).lo), .int .u64 ((tm1 x).hi)]) ?_ ?_
  · intro w M; have c := M.c2 4 2 3; go_simp
  try simp only [Act.put, ptA, ptB, ptC]
  refine Gw.sq (.agg #[.int .u64 ((fromU x.t).lo), .int .u64 ((fromU x.t).hi)]) ?_ ?_
  · intro w M; have c := M.c2 2 0 1; go_simp
  try simp only [Act.put, ptA, ptB, ptC]
  refine Gw.sk (.tuple #[.agg #[.int .u64 ((tm2 x).lo), .int .u64 ((tm2 x).hi)], .bool (metE (tm1 x) (fromU x.t))]) 100 #[.agg #[.int .u64 ((tm1 x).lo), .int .u64 ((tm1 x).hi)], .agg #[.int .u64 ((fromU x.t).lo), .int .u64 ((fromU x.t).hi)]] (fun w M => umee_any (tm1 x) (fromU x.t) w) ?_
  try simp only [Act.put, ptA, ptB, ptC]
  refine Gw.sw (.tuple #[.agg #[.int .u64 ((tm2 x).lo), .int .u64 ((tm2 x).hi)], .bool (metE (tm1 x) (fromU x.t))]) ?_
  try simp only [Act.put, ptA, ptB, ptC]
  refine Gw.sw (.agg #[.int .u64 ((tm2 x).lo), .int .u64 ((tm2 x).hi)]) ?_
  try simp only [Act.put, ptA, ptB, ptC]
  refine Gw.sw (.bool (metE (tm1 x) (fromU x.t))) ?_
  try simp only [Act.put, ptA, ptB, ptC]
  refine Gw.sw (.pointer (some ⟨d1_0, 2, none⟩)) ?_
  try simp only [Act.put, ptA, ptB, ptC]
  refine Gw.ss ?_
  intro w M K' hK
  have c := M.c2 4 2 3
  have f := M.f2 4 2 3
  go_simp
  refine hK.out _ _ _ ((M.set 4 2 _).set 4 3 _) ?_
  clear hK K' c f M w
  refine Gw.sw (.pointer (some ⟨d3_0, 1, none⟩)) ?_
  try simp only [Act.put, ptA, ptB, ptC]
  refine Gw.ss ?_
  intro w M K' hK
  have c := M.cell 0 1
  have f := M.frozen 0 1
  go_simp
  refine hK.out _ _ _ (M.set 0 1 _) ?_
  clear hK K' c f M w
  exact fun z M => HK.out _ _ _ _ _ _ _ _ _ z M
noncomputable def teach5_r5C : Code := (Tryz.f41.body.bind (Rg.findR 5)).getD .skip
set_option maxHeartbeats 4000000 in
theorem teach5_r5 (x : C) (hx : mayC x) {w0 : World}  {K : Act → World → Prop} {Q0 : Exit → Act → World → Prop} {d3_0 d2_7 d2_6 d1_1 d1_0 : Nat} {u0 u2 u3 u4 u5 u7 u8 u9 u10 u11 u12 u13 u14 u15 u16 u17 u18 u19 u20 u21 u22 u23 u24 u25 u26 u27 u28 u29 u30 u31 u32 u33 u34 u35 u36 u37 u38 u39 u40 u41 u42 u43 u44 u45 u46 u47 u48 u49 u50 u51 u52 u53 u54 u55 u56 u57 u58 u59 u60 u61 u62 u63 u64 u65 u66 u67 : Value}
    (hQ : ∀ c a d v w, Q0 (.panic c) (Act.put a d v) w → Q0 (.panic c) a w)
    (hK : ∀ (t33 t34 t35 t36 t37 t38 t39 t40 t41 t42 t43 : Value) (z : World), Gw.Mem w0 [(d3_0, .cells #[.bool (metE x.u (toU x.s)), .bool (metE (tm1 x) (fromU x.t)), .bool (metE x.s (toS (tm2 x))), .bool false, .bool false] 105), (d2_7, .cells #[.int .i64 ((fromS x.t).lo), .int .i64 ((fromS x.t).hi)] 28), (d2_6, .cells #[.int .u64 ((fromU x.t).lo), .int .u64 ((fromU x.t).hi)] 26), (d1_1, .cells #[.int .u64 0, .int .u64 0, .int .u64 0, .int .u64 0, .int .i64 0, .int .i64 0] 30), (d1_0, .cells #[.int .u64 (bi x.t.v), .int .u64 (bi x.t.m), .int .u64 ((tm2 x).lo), .int .u64 ((tm2 x).hi), .int .i64 ((tm3 x).lo), .int .i64 ((tm3 x).hi)] 30)] z → K ⟨#[u0, .pointer (some ⟨d1_0, 0, none⟩), u2, u3, u4, u5, .pointer (some ⟨d3_0, 0, none⟩), u7, u8, u9, u10, u11, u12, u13, u14, u15, u16, u17, u18, u19, u20, u21, u22, u23, u24, u25, u26, u27, u28, u29, u30, u31, u32, t33, t34, t35, t36, t37, t38, t39, t40, t41, t42, t43, u44, u45, u46, u47, u48, u49, u50, u51, u52, u53, u54, u55, u56, u57, u58, u59, u60, u61, u62, u63, u64, u65, u66, u67], []⟩ z) (wy : World) (M : Gw.Mem w0 [(d3_0, .cells #[.bool (metE x.u (toU x.s)), .bool (metE (tm1 x) (fromU x.t)), .bool false, .bool false, .bool false] 105), (d2_7, .cells #[.int .i64 ((fromS x.t).lo), .int .i64 ((fromS x.t).hi)] 28), (d2_6, .cells #[.int .u64 ((fromU x.t).lo), .int .u64 ((fromU x.t).hi)] 26), (d1_1, .cells #[.int .u64 0, .int .u64 0, .int .u64 0, .int .u64 0, .int .i64 0, .int .i64 0] 30), (d1_0, .cells #[.int .u64 (bi x.t.v), .int .u64 (bi x.t.m), .int .u64 ((tm2 x).lo), .int .u64 ((tm2 x).hi), .int .i64 x.s.lo, .int .i64 x.s.hi] 30)] wy) :
    teach5_r5C.wp Tryz.prog (Exit.then K Q0) ⟨#[u0, .pointer (some ⟨d1_0, 0, none⟩), u2, u3, u4, u5, .pointer (some ⟨d3_0, 0, none⟩), u7, u8, u9, u10, u11, u12, u13, u14, u15, u16, u17, u18, u19, u20, u21, u22, u23, u24, u25, u26, u27, u28, u29, u30, u31, u32, u33, u34, u35, u36, u37, u38, u39, u40, u41, u42, u43, u44, u45, u46, u47, u48, u49, u50, u51, u52, u53, u54, u55, u56, u57, u58, u59, u60, u61, u62, u63, u64, u65, u66, u67], []⟩ wy := by
  have HK := Lib.hid hK
  clear hK
  have hq : ∀ c a d v w, Exit.then K Q0 (.panic c) (Act.put a d v) w → Exit.then K Q0 (.panic c) a w := hQ
  conv => arg 2; whnf
  refine Gw.draw [10, 12] (Gw.Mem w0 [(d2_7, .cells #[.int .i64 ((fromS x.t).lo), .int .i64 ((fromS x.t).hi)] 28), (d2_6, .cells #[.int .u64 ((fromU x.t).lo), .int .u64 ((fromU x.t).hi)] 26), (d1_1, .cells #[.int .u64 0, .int .u64 0, .int .u64 0, .int .u64 0, .int .i64 0, .int .i64 0] 30)]) _ (by kernel_rfl) M.drew ?_
  have hG : ∀ z, Gw.Mem w0 [(d3_0, .cells #[.bool (metE x.u (toU x.s)), .bool (metE (tm1 x) (fromU x.t)), .bool false, .bool false, .bool false] 105), (d2_7, .cells #[.int .i64 ((fromS x.t).lo), .int .i64 ((fromS x.t).hi)] 28), (d2_6, .cells #[.int .u64 ((fromU x.t).lo), .int .u64 ((fromU x.t).hi)] 26), (d1_1, .cells #[.int .u64 0, .int .u64 0, .int .u64 0, .int .u64 0, .int .i64 0, .int .i64 0] 30), (d1_0, .cells #[.int .u64 (bi x.t.v), .int .u64 (bi x.t.m), .int .u64 ((tm2 x).lo), .int .u64 ((tm2 x).hi), .int .i64 x.s.lo, .int .i64 x.s.hi] 30)] z → Gw.Mem w0 [(d2_7, .cells #[.int .i64 ((fromS x.t).lo), .int .i64 ((fromS x.t).hi)] 28), (d2_6, .cells #[.int .u64 ((fromU x.t).lo), .int .u64 ((fromU x.t).hi)] 26), (d1_1, .cells #[.int .u64 0, .int .u64 0, .int .u64 0, .int .u64 0, .int .i64 0, .int .i64 0] 30)] z := fun _ h => h.sub (Gw.cd (Gw.cc (Gw.cc (Gw.cc (Gw.cd Gw.cn)))))
  clear M wy
  refine Gw.tw 0 (.pointer (some ⟨d1_0, 4, none⟩)) ?_
  try simp only [Act.put, ptA, ptB, ptC]
  refine Gw.tq 1 (.agg #[.int .i64 x.s.lo, .int .i64 x.s.hi]) ?_ ?_
  · intro w M; have c := M.c2 4 4 5; go_simp
  try simp only [Act.put, ptA, ptB, ptC]
  refine Gw.tw 2 (.pointer (some ⟨d1_0, 2, none⟩)) ?_
  try simp only [Act.put, ptA, ptB, ptC]
  refine Gw.tq 3 (.agg #[.int .u64 ((tm2 x).lo), .int .u64 ((tm2 x).hi)]) ?_ ?_
  · intro w M; have c := M.c2 4 2 3; go_simp
  try simp only [Act.put, ptA, ptB, ptC]
  refine Gw.tkw 4 (.agg #[.int .i64 ((toS (tm2 x)).lo), .int .i64 ((toS (tm2 x)).hi)]) 103 #[.agg #[.int .u64 ((tm2 x).lo), .int .u64 ((tm2 x).hi)]] (fun w => tos_any (tm2 x) (tm2_ok hx) w) ?_
  try simp only [Act.put, ptA, ptB, ptC]
  refine Gw.tkw 5 (.tuple #[.agg #[.int .i64 ((tm3 x).lo), .int .i64 ((tm3 x).hi)], .bool (metE x.s (toS (tm2 x)))]) 102 #[.agg #[.int .i64 x.s.lo, .int .i64 x.s.hi], .agg #[.int .i64 ((toS (tm2 x)).lo), .int .i64 ((toS (tm2 x)).hi)]] (fun w => smee_any x.s (toS (tm2 x)) w) ?_
  try simp only [Act.put, ptA, ptB, ptC]
  refine Gw.tw 6 (.tuple #[.agg #[.int .i64 ((tm3 x).lo), .int .i64 ((tm3 x).hi)], .bool (metE x.s (toS (tm2 x)))]) ?_
  try simp only [Act.put, ptA, ptB, ptC]
  refine Gw.tw 7 (.agg #[.int .i64 ((tm3 x).lo), .int .i64 ((tm3 x).hi)]) ?_
  try simp only [Act.put, ptA, ptB, ptC]
  refine Gw.tw 8 (.bool (metE x.s (toS (tm2 x)))) ?_
  try simp only [Act.put, ptA, ptB, ptC]
  refine Gw.tw 9 (.pointer (some ⟨d1_0, 4, none⟩)) ?_
  try simp only [Act.put, ptA, ptB, ptC]
  refine Gw.ts 10 rfl (by kernel_rfl) ?_
  intro w M K' hK
  have c := M.c2 4 4 5
  have f := M.f2 4 4 5
  go_simp
  refine hK.out _ _ _ Gw.Mem.stays (fun h => by cases h) (fun _ h => h.sub (Gw.cd (Gw.cc (Gw.cc (Gw.cc (Gw.cd Gw.cn)))))) ((M.set 4 4 _).set 4 5 _) ?_
  clear hK K' c f M w
  refine Gw.tw 11 (.pointer (some ⟨d3_0, 2, none⟩)) ?_ (hG := (fun _ h => h.sub (Gw.cd (Gw.cc (Gw.cc (Gw.cc (Gw.cd Gw.cn)))))))
  try simp only [Act.put, ptA, ptB, ptC]
  refine Gw.ts 12 rfl (by kernel_rfl) ?_
  intro w M K' hK
  have c := M.cell 0 2
  have f := M.frozen 0 2
  go_simp
  refine hK.out _ _ _ Gw.Mem.stays (fun h => by cases h) (fun _ h => h.sub (Gw.cd (Gw.cc (Gw.cc (Gw.cc (Gw.cd Gw.cn)))))) (M.set 0 2 _) ?_
  clear hK K' c f M w
  exact Gw.td (by kernel_rfl) (fun z M => HK.out _ _ _ _ _ _ _ _ _ _ _ z M) _
noncomputable def teach5_r6C : Code := (Tryz.f41.body.bind (Rg.findR 6)).getD .skip
set_option maxHeartbeats 4000000 in
theorem teach5_r6 (x : C) (hx : mayC x) {w0 : World}  {K : Act → World → Prop} {Q0 : Exit → Act → World → Prop} {d3_0 d2_7 d2_6 d1_1 d1_0 : Nat} {u0 u2 u3 u4 u7 u8 u9 u10 u11 u12 u13 u14 u15 u16 u17 u18 u19 u20 u21 u22 u23 u24 u25 u26 u27 u28 u29 u30 u31 u32 u33 u34 u35 u36 u37 u38 u39 u40 u41 u42 u43 u44 u45 u46 u47 u48 u49 u50 u51 u52 u53 u54 u55 u56 u57 u58 u59 u60 u61 u62 u63 u64 u65 u66 u67 : Value}
    (hQ : ∀ c a d v w, Q0 (.panic c) (Act.put a d v) w → Q0 (.panic c) a w)
    (hK : ∀ (t44 t45 t46 t47 t48 t49 t50 t51 t52 : Value) (z : World), Gw.Mem w0 [(d3_0, .cells #[.bool (metE x.u (toU x.s)), .bool (metE (tm1 x) (fromU x.t)), .bool (metE x.s (toS (tm2 x))), .bool (metE (tm3 x) (fromS x.t)), .bool false] 105), (d2_7, .cells #[.int .i64 ((fromS x.t).lo), .int .i64 ((fromS x.t).hi)] 28), (d2_6, .cells #[.int .u64 ((fromU x.t).lo), .int .u64 ((fromU x.t).hi)] 26), (d1_1, .cells #[.int .u64 0, .int .u64 0, .int .u64 0, .int .u64 0, .int .i64 0, .int .i64 0] 30), (d1_0, .cells #[.int .u64 (bi x.t.v), .int .u64 (bi x.t.m), .int .u64 ((tm2 x).lo), .int .u64 ((tm2 x).hi), .int .i64 ((tm4 x).lo), .int .i64 ((tm4 x).hi)] 30)] z → K ⟨#[u0, .pointer (some ⟨d1_0, 0, none⟩), u2, u3, u4, .pointer (some ⟨d2_7, 0, none⟩), .pointer (some ⟨d3_0, 0, none⟩), u7, u8, u9, u10, u11, u12, u13, u14, u15, u16, u17, u18, u19, u20, u21, u22, u23, u24, u25, u26, u27, u28, u29, u30, u31, u32, u33, u34, u35, u36, u37, u38, u39, u40, u41, u42, u43, t44, t45, t46, t47, t48, t49, t50, t51, t52, u53, u54, u55, u56, u57, u58, u59, u60, u61, u62, u63, u64, u65, u66, u67], []⟩ z) (wy : World) (M : Gw.Mem w0 [(d3_0, .cells #[.bool (metE x.u (toU x.s)), .bool (metE (tm1 x) (fromU x.t)), .bool (metE x.s (toS (tm2 x))), .bool false, .bool false] 105), (d2_7, .cells #[.int .i64 ((fromS x.t).lo), .int .i64 ((fromS x.t).hi)] 28), (d2_6, .cells #[.int .u64 ((fromU x.t).lo), .int .u64 ((fromU x.t).hi)] 26), (d1_1, .cells #[.int .u64 0, .int .u64 0, .int .u64 0, .int .u64 0, .int .i64 0, .int .i64 0] 30), (d1_0, .cells #[.int .u64 (bi x.t.v), .int .u64 (bi x.t.m), .int .u64 ((tm2 x).lo), .int .u64 ((tm2 x).hi), .int .i64 ((tm3 x).lo), .int .i64 ((tm3 x).hi)] 30)] wy) :
    teach5_r6C.wp Tryz.prog (Exit.then K Q0) ⟨#[u0, .pointer (some ⟨d1_0, 0, none⟩), u2, u3, u4, .pointer (some ⟨d2_7, 0, none⟩), .pointer (some ⟨d3_0, 0, none⟩), u7, u8, u9, u10, u11, u12, u13, u14, u15, u16, u17, u18, u19, u20, u21, u22, u23, u24, u25, u26, u27, u28, u29, u30, u31, u32, u33, u34, u35, u36, u37, u38, u39, u40, u41, u42, u43, u44, u45, u46, u47, u48, u49, u50, u51, u52, u53, u54, u55, u56, u57, u58, u59, u60, u61, u62, u63, u64, u65, u66, u67], []⟩ wy := by
  have HK := Lib.hid hK
  clear hK
  conv => arg 2; whnf
  refine Gw.line _ M ?_
  clear M wy
  refine Gw.sw (.pointer (some ⟨d1_0, 4, none⟩)) ?_
  try simp only [Act.put, ptA, ptB, ptC]
  refine Gw.sq (.agg #[.int .i64 ((tm3 x).lo), .int .i64 ((tm3 x).hi)]) ?_ ?_
  · intro w M; have c := M.c2 4 4 5; go_simp
  try simp only [Act.put, ptA, ptB, ptC]
  refine Gw.sq (.agg #[.int .i64 ((fromS x.t).lo), .int .i64 ((fromS x.t).hi)]) ?_ ?_
  · intro w M; have c := M.c2 1 0 1; go_simp
  try simp only [Act.put, ptA, ptB, ptC]
  refine Gw.sk (.tuple #[.agg #[.int .i64 ((tm4 x).lo), .int .i64 ((tm4 x).hi)], .bool (metE (tm3 x) (fromS x.t))]) 102 #[.agg #[.int .i64 ((tm3 x).lo), .int .i64 ((tm3 x).hi)], .agg #[.int .i64 ((fromS x.t).lo), .int .i64 ((fromS x.t).hi)]] (fun w M => smee_any (tm3 x) (fromS x.t) w) ?_
  try simp only [Act.put, ptA, ptB, ptC]
  refine Gw.sw (.tuple #[.agg #[.int .i64 ((tm4 x).lo), .int .i64 ((tm4 x).hi)], .bool (metE (tm3 x) (fromS x.t))]) ?_
  try simp only [Act.put, ptA, ptB, ptC]
  refine Gw.sw (.agg #[.int .i64 ((tm4 x).lo), .int .i64 ((tm4 x).hi)]) ?_
  try simp only [Act.put, ptA, ptB, ptC]
  refine Gw.sw (.bool (metE (tm3 x) (fromS x.t))) ?_
  try simp only [Act.put, ptA, ptB, ptC]
  refine Gw.sw (.pointer (some ⟨d1_0, 4, none⟩)) ?_
  try simp only [Act.put, ptA, ptB, ptC]
  refine Gw.ss ?_
  intro w M K' hK
  have c := M.c2 4 4 5
  have f := M.f2 4 4 5
  go_simp
  refine hK.out _ _ _ ((M.set 4 4 _).set 4 5 _) ?_
  clear hK K' c f M w
  refine Gw.sw (.pointer (some ⟨d3_0, 3, none⟩)) ?_
  try simp only [Act.put, ptA, ptB, ptC]
  refine Gw.ss ?_
  intro w M K' hK
  have c := M.cell 0 3
  have f := M.frozen 0 3
  go_simp
  refine hK.out _ _ _ (M.set 0 3 _) ?_
  clear hK K' c f M w
  exact fun z M => HK.out _ _ _ _ _ _ _ _ _ z M
noncomputable def teach5_r7C : Code := (Tryz.f41.body.bind (Rg.findR 7)).getD .skip
set_option maxHeartbeats 4000000 in
theorem teach5_r7 (x : C) (hx : mayC x) {w0 : World}  {K : Act → World → Prop} {Q0 : Exit → Act → World → Prop} {d3_0 d2_7 d2_6 d1_1 d1_0 : Nat} {u0 u2 u3 u4 u5 u7 u8 u9 u10 u11 u12 u13 u14 u15 u16 u17 u18 u19 u20 u21 u22 u23 u24 u25 u26 u27 u28 u29 u30 u31 u32 u33 u34 u35 u36 u37 u38 u39 u40 u41 u42 u43 u44 u45 u46 u47 u48 u49 u50 u51 u52 u53 u54 u55 u56 u57 u58 u59 u60 u61 u62 u63 u64 u65 u66 u67 : Value}
    (hQ : ∀ c a d v w, Q0 (.panic c) (Act.put a d v) w → Q0 (.panic c) a w)
    (hK : ∀ (t53 t54 t55 t56 t57 t58 t59 t60 t61 t62 t63 : Value) (z : World), Gw.Mem w0 [(d3_0, .cells #[.bool (metE x.u (toU x.s)), .bool (metE (tm1 x) (fromU x.t)), .bool (metE x.s (toS (tm2 x))), .bool (metE (tm3 x) (fromS x.t)), .bool (meetOk x.t (toT (tm2 x)))] 105), (d2_7, .cells #[.int .i64 ((fromS x.t).lo), .int .i64 ((fromS x.t).hi)] 28), (d2_6, .cells #[.int .u64 ((fromU x.t).lo), .int .u64 ((fromU x.t).hi)] 26), (d1_1, .cells #[.int .u64 0, .int .u64 0, .int .u64 0, .int .u64 0, .int .i64 0, .int .i64 0] 30), (d1_0, .cells #[.int .u64 (bi (tm5 x).v), .int .u64 (bi (tm5 x).m), .int .u64 ((tm2 x).lo), .int .u64 ((tm2 x).hi), .int .i64 ((tm4 x).lo), .int .i64 ((tm4 x).hi)] 30)] z → K ⟨#[u0, .pointer (some ⟨d1_0, 0, none⟩), u2, u3, u4, u5, .pointer (some ⟨d3_0, 0, none⟩), u7, u8, u9, u10, u11, u12, u13, u14, u15, u16, u17, u18, u19, u20, u21, u22, u23, u24, u25, u26, u27, u28, u29, u30, u31, u32, u33, u34, u35, u36, u37, u38, u39, u40, u41, u42, u43, u44, u45, u46, u47, u48, u49, u50, u51, u52, t53, t54, t55, t56, t57, t58, t59, t60, t61, t62, t63, u64, u65, u66, u67], []⟩ z) (wy : World) (M : Gw.Mem w0 [(d3_0, .cells #[.bool (metE x.u (toU x.s)), .bool (metE (tm1 x) (fromU x.t)), .bool (metE x.s (toS (tm2 x))), .bool (metE (tm3 x) (fromS x.t)), .bool false] 105), (d2_7, .cells #[.int .i64 ((fromS x.t).lo), .int .i64 ((fromS x.t).hi)] 28), (d2_6, .cells #[.int .u64 ((fromU x.t).lo), .int .u64 ((fromU x.t).hi)] 26), (d1_1, .cells #[.int .u64 0, .int .u64 0, .int .u64 0, .int .u64 0, .int .i64 0, .int .i64 0] 30), (d1_0, .cells #[.int .u64 (bi x.t.v), .int .u64 (bi x.t.m), .int .u64 ((tm2 x).lo), .int .u64 ((tm2 x).hi), .int .i64 ((tm4 x).lo), .int .i64 ((tm4 x).hi)] 30)] wy) :
    teach5_r7C.wp Tryz.prog (Exit.then K Q0) ⟨#[u0, .pointer (some ⟨d1_0, 0, none⟩), u2, u3, u4, u5, .pointer (some ⟨d3_0, 0, none⟩), u7, u8, u9, u10, u11, u12, u13, u14, u15, u16, u17, u18, u19, u20, u21, u22, u23, u24, u25, u26, u27, u28, u29, u30, u31, u32, u33, u34, u35, u36, u37, u38, u39, u40, u41, u42, u43, u44, u45, u46, u47, u48, u49, u50, u51, u52, u53, u54, u55, u56, u57, u58, u59, u60, u61, u62, u63, u64, u65, u66, u67], []⟩ wy := by
  have HK := Lib.hid hK
  clear hK
  have hq : ∀ c a d v w, Exit.then K Q0 (.panic c) (Act.put a d v) w → Exit.then K Q0 (.panic c) a w := hQ
  conv => arg 2; whnf
  refine Gw.draw [10, 12] (Gw.Mem w0 [(d2_7, .cells #[.int .i64 ((fromS x.t).lo), .int .i64 ((fromS x.t).hi)] 28), (d2_6, .cells #[.int .u64 ((fromU x.t).lo), .int .u64 ((fromU x.t).hi)] 26), (d1_1, .cells #[.int .u64 0, .int .u64 0, .int .u64 0, .int .u64 0, .int .i64 0, .int .i64 0] 30)]) _ (by kernel_rfl) M.drew ?_
  have hG : ∀ z, Gw.Mem w0 [(d3_0, .cells #[.bool (metE x.u (toU x.s)), .bool (metE (tm1 x) (fromU x.t)), .bool (metE x.s (toS (tm2 x))), .bool (metE (tm3 x) (fromS x.t)), .bool false] 105), (d2_7, .cells #[.int .i64 ((fromS x.t).lo), .int .i64 ((fromS x.t).hi)] 28), (d2_6, .cells #[.int .u64 ((fromU x.t).lo), .int .u64 ((fromU x.t).hi)] 26), (d1_1, .cells #[.int .u64 0, .int .u64 0, .int .u64 0, .int .u64 0, .int .i64 0, .int .i64 0] 30), (d1_0, .cells #[.int .u64 (bi x.t.v), .int .u64 (bi x.t.m), .int .u64 ((tm2 x).lo), .int .u64 ((tm2 x).hi), .int .i64 ((tm4 x).lo), .int .i64 ((tm4 x).hi)] 30)] z → Gw.Mem w0 [(d2_7, .cells #[.int .i64 ((fromS x.t).lo), .int .i64 ((fromS x.t).hi)] 28), (d2_6, .cells #[.int .u64 ((fromU x.t).lo), .int .u64 ((fromU x.t).hi)] 26), (d1_1, .cells #[.int .u64 0, .int .u64 0, .int .u64 0, .int .u64 0, .int .i64 0, .int .i64 0] 30)] z := fun _ h => h.sub (Gw.cd (Gw.cc (Gw.cc (Gw.cc (Gw.cd Gw.cn)))))
  clear M wy
  refine Gw.tw 0 (.pointer (some ⟨d1_0, 0, none⟩)) ?_
  try simp only [Act.put, ptA, ptB, ptC]
  refine Gw.tq 1 (.agg #[.int .u64 (bi x.t.v), .int .u64 (bi x.t.m)]) ?_ ?_
  · intro w M; have c := M.c2 4 0 1; go_simp
  try simp only [Act.put, ptA, ptB, ptC]
  refine Gw.tw 2 (.pointer (some ⟨d1_0, 2, none⟩)) ?_
  try simp only [Act.put, ptA, ptB, ptC]
  refine Gw.tq 3 (.agg #[.int .u64 ((tm2 x).lo), .int .u64 ((tm2 x).hi)]) ?_ ?_
  · intro w M; have c := M.c2 4 2 3; go_simp
  try simp only [Act.put, ptA, ptB, ptC]
  refine Gw.tkw 4 (.agg #[.int .u64 (bi (toT (tm2 x)).v), .int .u64 (bi (toT (tm2 x)).m)]) 105 #[.agg #[.int .u64 ((tm2 x).lo), .int .u64 ((tm2 x).hi)]] (fun w => tot_any (tm2 x) (tm2_ok hx) w) ?_
  try simp only [Act.put, ptA, ptB, ptC]
  refine Gw.tkw 5 (.tuple #[.agg #[.int .u64 (bi (tm5 x).v), .int .u64 (bi (tm5 x).m)], .bool (meetOk x.t (toT (tm2 x)))]) 104 #[.agg #[.int .u64 (bi x.t.v), .int .u64 (bi x.t.m)], .agg #[.int .u64 (bi (toT (tm2 x)).v), .int .u64 (bi (toT (tm2 x)).m)]] (fun w => L3.meet_any x.t (toT (tm2 x)) w) ?_
  try simp only [Act.put, ptA, ptB, ptC]
  refine Gw.tw 6 (.tuple #[.agg #[.int .u64 (bi (tm5 x).v), .int .u64 (bi (tm5 x).m)], .bool (meetOk x.t (toT (tm2 x)))]) ?_
  try simp only [Act.put, ptA, ptB, ptC]
  refine Gw.tw 7 (.agg #[.int .u64 (bi (tm5 x).v), .int .u64 (bi (tm5 x).m)]) ?_
  try simp only [Act.put, ptA, ptB, ptC]
  refine Gw.tw 8 (.bool (meetOk x.t (toT (tm2 x)))) ?_
  try simp only [Act.put, ptA, ptB, ptC]
  refine Gw.tw 9 (.pointer (some ⟨d1_0, 0, none⟩)) ?_
  try simp only [Act.put, ptA, ptB, ptC]
  refine Gw.ts 10 rfl (by kernel_rfl) ?_
  intro w M K' hK
  have c := M.c2 4 0 1
  have f := M.f2 4 0 1
  go_simp
  refine hK.out _ _ _ Gw.Mem.stays (fun h => by cases h) (fun _ h => h.sub (Gw.cd (Gw.cc (Gw.cc (Gw.cc (Gw.cd Gw.cn)))))) ((M.set 4 0 _).set 4 1 _) ?_
  clear hK K' c f M w
  refine Gw.tw 11 (.pointer (some ⟨d3_0, 4, none⟩)) ?_ (hG := (fun _ h => h.sub (Gw.cd (Gw.cc (Gw.cc (Gw.cc (Gw.cd Gw.cn)))))))
  try simp only [Act.put, ptA, ptB, ptC]
  refine Gw.ts 12 rfl (by kernel_rfl) ?_
  intro w M K' hK
  have c := M.cell 0 4
  have f := M.frozen 0 4
  go_simp
  refine hK.out _ _ _ Gw.Mem.stays (fun h => by cases h) (fun _ h => h.sub (Gw.cd (Gw.cc (Gw.cc (Gw.cc (Gw.cd Gw.cn)))))) (M.set 0 4 _) ?_
  clear hK K' c f M w
  exact Gw.td (by kernel_rfl) (fun z M => HK.out _ _ _ _ _ _ _ _ _ _ _ z M) _
noncomputable def teach5_r8C : Code := (Tryz.f41.body.bind (Rg.findR 8)).getD .skip
set_option maxHeartbeats 4000000 in
theorem teach5_r8 (x : C) (hx : mayC x) {w0 : World}  {K : Act → World → Prop} {Q0 : Exit → Act → World → Prop} {d3_0 d2_7 d2_6 d1_1 d1_0 : Nat} {u0 u1 u2 u3 u4 u5 u7 u8 u9 u10 u11 u12 u13 u14 u15 u16 u17 u18 u19 u20 u21 u22 u23 u24 u25 u26 u27 u28 u29 u30 u31 u32 u33 u34 u35 u36 u37 u38 u39 u40 u41 u42 u43 u44 u45 u46 u47 u48 u49 u50 u51 u52 u53 u54 u55 u56 u57 u58 u59 u60 u61 u62 u63 u64 u65 u66 u67 : Value}
    (hQ : ∀ c a d v w, Q0 (.panic c) (Act.put a d v) w → Q0 (.panic c) a w)
    (hK : ∀ (t64 : Value) (z : World), Gw.Mem w0 [(d3_0, .cells #[.bool (metE x.u (toU x.s)), .bool (metE (tm1 x) (fromU x.t)), .bool (metE x.s (toS (tm2 x))), .bool (metE (tm3 x) (fromS x.t)), .bool (meetOk x.t (toT (tm2 x)))] 105), (d2_7, .cells #[.int .i64 ((fromS x.t).lo), .int .i64 ((fromS x.t).hi)] 28), (d2_6, .cells #[.int .u64 ((fromU x.t).lo), .int .u64 ((fromU x.t).hi)] 26), (d1_1, .cells #[.int .u64 0, .int .u64 0, .int .u64 0, .int .u64 0, .int .i64 0, .int .i64 0] 30), (d1_0, .cells #[.int .u64 (bi (tm5 x).v), .int .u64 (bi (tm5 x).m), .int .u64 ((tm2 x).lo), .int .u64 ((tm2 x).hi), .int .i64 ((tm4 x).lo), .int .i64 ((tm4 x).hi)] 30)] z → K ⟨#[u0, u1, u2, u3, u4, u5, .pointer (some ⟨d3_0, 0, none⟩), u7, u8, u9, u10, u11, u12, u13, u14, u15, u16, u17, u18, u19, u20, u21, u22, u23, u24, u25, u26, u27, u28, u29, u30, u31, u32, u33, u34, u35, u36, u37, u38, u39, u40, u41, u42, u43, u44, u45, u46, u47, u48, u49, u50, u51, u52, u53, u54, u55, u56, u57, u58, u59, u60, u61, u62, u63, t64, .bool (!((metE x.u (toU x.s)) && (metE (tm1 x) (fromU x.t)) && (metE x.s (toS (tm2 x))) && (metE (tm3 x) (fromS x.t)) && (meetOk x.t (toT (tm2 x))))), u66, u67], []⟩ z) (wy : World) (M : Gw.Mem w0 [(d3_0, .cells #[.bool (metE x.u (toU x.s)), .bool (metE (tm1 x) (fromU x.t)), .bool (metE x.s (toS (tm2 x))), .bool (metE (tm3 x) (fromS x.t)), .bool (meetOk x.t (toT (tm2 x)))] 105), (d2_7, .cells #[.int .i64 ((fromS x.t).lo), .int .i64 ((fromS x.t).hi)] 28), (d2_6, .cells #[.int .u64 ((fromU x.t).lo), .int .u64 ((fromU x.t).hi)] 26), (d1_1, .cells #[.int .u64 0, .int .u64 0, .int .u64 0, .int .u64 0, .int .i64 0, .int .i64 0] 30), (d1_0, .cells #[.int .u64 (bi (tm5 x).v), .int .u64 (bi (tm5 x).m), .int .u64 ((tm2 x).lo), .int .u64 ((tm2 x).hi), .int .i64 ((tm4 x).lo), .int .i64 ((tm4 x).hi)] 30)] wy) :
    teach5_r8C.wp Tryz.prog (Exit.then K Q0) ⟨#[u0, u1, u2, u3, u4, u5, .pointer (some ⟨d3_0, 0, none⟩), u7, u8, u9, u10, u11, u12, u13, u14, u15, u16, u17, u18, u19, u20, u21, u22, u23, u24, u25, u26, u27, u28, u29, u30, u31, u32, u33, u34, u35, u36, u37, u38, u39, u40, u41, u42, u43, u44, u45, u46, u47, u48, u49, u50, u51, u52, u53, u54, u55, u56, u57, u58, u59, u60, u61, u62, u63, u64, u65, u66, u67], []⟩ wy := by
  have HK := Lib.hid hK
  clear hK
  conv => arg 2; whnf
  refine Gw.line _ M ?_
  clear M wy
  refine Gw.sw (.slice (some ⟨d3_0, 0, none⟩) 5 5) ?_
  try simp only [Act.put, ptA, ptB, ptC]
  refine Gw.sk (.bool (!((metE x.u (toU x.s)) && (metE (tm1 x) (fromU x.t)) && (metE x.s (toS (tm2 x))) && (metE (tm3 x) (fromS x.t)) && (meetOk x.t (toT (tm2 x)))))) 106 #[.slice (some ⟨d3_0, 0, none⟩) 5 5, .bool false] (fun w M => contains5 (metE x.u (toU x.s)) (metE (tm1 x) (fromU x.t)) (metE x.s (toS (tm2 x))) (metE (tm3 x) (fromS x.t)) (meetOk x.t (toT (tm2 x))) _ w (M.cell 0 0) (M.cell 0 1) (M.cell 0 2) (M.cell 0 3) (M.cell 0 4)) ?_
  try simp only [Act.put, ptA, ptB, ptC]
  exact fun z M => HK.out _ z M
noncomputable def teach5_r9C : Code := (Tryz.f41.body.bind (Rg.findR 9)).getD .skip
set_option maxHeartbeats 4000000 in
theorem teach5_r9 (x : C) (hx : mayC x) {w0 : World}  {K : Act → World → Prop} {Q0 : Exit → Act → World → Prop} {d3_0 d2_7 d2_6 d1_1 d1_0 : Nat} {u0 u1 u3 u4 u5 u6 u7 u8 u9 u10 u11 u12 u13 u14 u15 u16 u17 u18 u19 u20 u21 u22 u23 u24 u25 u26 u27 u28 u29 u30 u31 u32 u33 u34 u35 u36 u37 u38 u39 u40 u41 u42 u43 u44 u45 u46 u47 u48 u49 u50 u51 u52 u53 u54 u55 u56 u57 u58 u59 u60 u61 u62 u63 u64 u65 u66 u67 : Value}
    (hQ : ∀ c a d v w, Q0 (.panic c) (Act.put a d v) w → Q0 (.panic c) a w)
    (hK : ∀ (t66 : Value) (z : World), Gw.Mem w0 [(d3_0, .cells #[.bool (metE x.u (toU x.s)), .bool (metE (tm1 x) (fromU x.t)), .bool (metE x.s (toS (tm2 x))), .bool (metE (tm3 x) (fromS x.t)), .bool (meetOk x.t (toT (tm2 x)))] 105), (d2_7, .cells #[.int .i64 ((fromS x.t).lo), .int .i64 ((fromS x.t).hi)] 28), (d2_6, .cells #[.int .u64 ((fromU x.t).lo), .int .u64 ((fromU x.t).hi)] 26), (d1_1, .cells #[.int .u64 0, .int .u64 0, .int .u64 0, .int .u64 0, .int .i64 0, .int .i64 0] 30), (d1_0, .cells #[.int .u64 (bi (tm5 x).v), .int .u64 (bi (tm5 x).m), .int .u64 ((tm2 x).lo), .int .u64 ((tm2 x).hi), .int .i64 ((tm4 x).lo), .int .i64 ((tm4 x).hi)] 30)] z → K ⟨#[u0, u1, .pointer (some ⟨d1_1, 0, none⟩), .bool false, u4, u5, u6, u7, u8, u9, u10, u11, u12, u13, u14, u15, u16, u17, u18, u19, u20, u21, u22, u23, u24, u25, u26, u27, u28, u29, u30, u31, u32, u33, u34, u35, u36, u37, u38, u39, u40, u41, u42, u43, u44, u45, u46, u47, u48, u49, u50, u51, u52, u53, u54, u55, u56, u57, u58, u59, u60, u61, u62, u63, u64, u65, t66, u67], []⟩ z) (wy : World) (M : Gw.Mem w0 [(d3_0, .cells #[.bool (metE x.u (toU x.s)), .bool (metE (tm1 x) (fromU x.t)), .bool (metE x.s (toS (tm2 x))), .bool (metE (tm3 x) (fromS x.t)), .bool (meetOk x.t (toT (tm2 x)))] 105), (d2_7, .cells #[.int .i64 ((fromS x.t).lo), .int .i64 ((fromS x.t).hi)] 28), (d2_6, .cells #[.int .u64 ((fromU x.t).lo), .int .u64 ((fromU x.t).hi)] 26), (d1_1, .cells #[.int .u64 0, .int .u64 0, .int .u64 0, .int .u64 0, .int .i64 0, .int .i64 0] 30), (d1_0, .cells #[.int .u64 (bi (tm5 x).v), .int .u64 (bi (tm5 x).m), .int .u64 ((tm2 x).lo), .int .u64 ((tm2 x).hi), .int .i64 ((tm4 x).lo), .int .i64 ((tm4 x).hi)] 30)] wy) :
    teach5_r9C.wp Tryz.prog (Exit.then K Q0) ⟨#[u0, u1, .pointer (some ⟨d1_1, 0, none⟩), u3, u4, u5, u6, u7, u8, u9, u10, u11, u12, u13, u14, u15, u16, u17, u18, u19, u20, u21, u22, u23, u24, u25, u26, u27, u28, u29, u30, u31, u32, u33, u34, u35, u36, u37, u38, u39, u40, u41, u42, u43, u44, u45, u46, u47, u48, u49, u50, u51, u52, u53, u54, u55, u56, u57, u58, u59, u60, u61, u62, u63, u64, u65, u66, u67], []⟩ wy := by
  have HK := Lib.hid hK
  clear hK
  conv => arg 2; whnf
  refine Gw.line _ M ?_
  clear M wy
  refine Gw.sw (.agg #[.int .u64 0, .int .u64 0, .int .u64 0, .int .u64 0, .int .i64 0, .int .i64 0]) ?_
  try simp only [Act.put, ptA, ptB, ptC]
  refine Gw.ss ?_
  intro w M K' hK
  have c := M.c6 3
  have f := M.f6 3
  go_simp
  refine hK.out _ _ _ ((((((M.set 3 0 _).set 3 1 _).set 3 2 _).set 3 3 _).set 3 4 _).set 3 5 _) ?_
  clear hK K' c f M w
  refine Gw.sw (.bool false) ?_
  try simp only [Act.put, ptA, ptB, ptC]
  exact fun z M => HK.out _ z M
noncomputable def teach5_r10C : Code := (Tryz.f41.body.bind (Rg.findR 10)).getD .skip
set_option maxHeartbeats 4000000 in
theorem teach5_r10 (x : C) (hx : mayC x) {w0 : World}  {K : Act → World → Prop} {Q0 : Exit → Act → World → Prop} {d3_0 d2_7 d2_6 d1_1 d1_0 : Nat} {u0 u3 u4 u5 u6 u7 u8 u9 u10 u11 u12 u13 u14 u15 u16 u17 u18 u19 u20 u21 u22 u23 u24 u25 u26 u27 u28 u29 u30 u31 u32 u33 u34 u35 u36 u37 u38 u39 u40 u41 u42 u43 u44 u45 u46 u47 u48 u49 u50 u51 u52 u53 u54 u55 u56 u57 u58 u59 u60 u61 u62 u63 u64 u65 u66 u67 : Value}
    (hQ : ∀ c a d v w, Q0 (.panic c) (Act.put a d v) w → Q0 (.panic c) a w)
    (hK : ∀ (t67 : Value) (z : World), Gw.Mem w0 [(d3_0, .cells #[.bool (metE x.u (toU x.s)), .bool (metE (tm1 x) (fromU x.t)), .bool (metE x.s (toS (tm2 x))), .bool (metE (tm3 x) (fromS x.t)), .bool (meetOk x.t (toT (tm2 x)))] 105), (d2_7, .cells #[.int .i64 ((fromS x.t).lo), .int .i64 ((fromS x.t).hi)] 28), (d2_6, .cells #[.int .u64 ((fromU x.t).lo), .int .u64 ((fromU x.t).hi)] 26), (d1_1, .cells #[.int .u64 (bi (tm5 x).v), .int .u64 (bi (tm5 x).m), .int .u64 ((tm2 x).lo), .int .u64 ((tm2 x).hi), .int .i64 ((tm4 x).lo), .int .i64 ((tm4 x).hi)] 30), (d1_0, .cells #[.int .u64 (bi (tm5 x).v), .int .u64 (bi (tm5 x).m), .int .u64 ((tm2 x).lo), .int .u64 ((tm2 x).hi), .int .i64 ((tm4 x).lo), .int .i64 ((tm4 x).hi)] 30)] z → K ⟨#[u0, .pointer (some ⟨d1_0, 0, none⟩), .pointer (some ⟨d1_1, 0, none⟩), .bool true, u4, u5, u6, u7, u8, u9, u10, u11, u12, u13, u14, u15, u16, u17, u18, u19, u20, u21, u22, u23, u24, u25, u26, u27, u28, u29, u30, u31, u32, u33, u34, u35, u36, u37, u38, u39, u40, u41, u42, u43, u44, u45, u46, u47, u48, u49, u50, u51, u52, u53, u54, u55, u56, u57, u58, u59, u60, u61, u62, u63, u64, u65, u66, t67], []⟩ z) (wy : World) (M : Gw.Mem w0 [(d3_0, .cells #[.bool (metE x.u (toU x.s)), .bool (metE (tm1 x) (fromU x.t)), .bool (metE x.s (toS (tm2 x))), .bool (metE (tm3 x) (fromS x.t)), .bool (meetOk x.t (toT (tm2 x)))] 105), (d2_7, .cells #[.int .i64 ((fromS x.t).lo), .int .i64 ((fromS x.t).hi)] 28), (d2_6, .cells #[.int .u64 ((fromU x.t).lo), .int .u64 ((fromU x.t).hi)] 26), (d1_1, .cells #[.int .u64 0, .int .u64 0, .int .u64 0, .int .u64 0, .int .i64 0, .int .i64 0] 30), (d1_0, .cells #[.int .u64 (bi (tm5 x).v), .int .u64 (bi (tm5 x).m), .int .u64 ((tm2 x).lo), .int .u64 ((tm2 x).hi), .int .i64 ((tm4 x).lo), .int .i64 ((tm4 x).hi)] 30)] wy) :
    teach5_r10C.wp Tryz.prog (Exit.then K Q0) ⟨#[u0, .pointer (some ⟨d1_0, 0, none⟩), .pointer (some ⟨d1_1, 0, none⟩), u3, u4, u5, u6, u7, u8, u9, u10, u11, u12, u13, u14, u15, u16, u17, u18, u19, u20, u21, u22, u23, u24, u25, u26, u27, u28, u29, u30, u31, u32, u33, u34, u35, u36, u37, u38, u39, u40, u41, u42, u43, u44, u45, u46, u47, u48, u49, u50, u51, u52, u53, u54, u55, u56, u57, u58, u59, u60, u61, u62, u63, u64, u65, u66, u67], []⟩ wy := by
  have HK := Lib.hid hK
  clear hK
  conv => arg 2; whnf
  refine Gw.line _ M ?_
  clear M wy
  refine Gw.sq (.agg #[.int .u64 (bi (tm5 x).v), .int .u64 (bi (tm5 x).m), .int .u64 ((tm2 x).lo), .int .u64 ((tm2 x).hi), .int .i64 ((tm4 x).lo), .int .i64 ((tm4 x).hi)]) ?_ ?_
  · intro w M; have c := M.c6 4; go_simp
  try simp only [Act.put, ptA, ptB, ptC]
  refine Gw.ss ?_
  intro w M K' hK
  have c := M.c6 3
  have f := M.f6 3
  go_simp
  refine hK.out _ _ _ ((((((M.set 3 0 _).set 3 1 _).set 3 2 _).set 3 3 _).set 3 4 _).set 3 5 _) ?_
  clear hK K' c f M w
  refine Gw.sw (.bool true) ?_
  try simp only [Act.put, ptA, ptB, ptC]
  exact fun z M => HK.out _ z M
set_option maxHeartbeats 4000000 in
theorem teach5 (x : C) (hx : mayC x) (w : World) :
    Calls Tryz.prog 41 #[.agg #[.int .u64 (bi x.t.v), .int .u64 (bi x.t.m), .int .u64 x.u.lo, .int .u64 x.u.hi, .int .i64 x.s.lo, .int .i64 x.s.hi]] w fun e w' => e = .returned (.tuple #[.agg #[.int .u64 (bi ((onceC x).getD zeroC).t.v), .int .u64 (bi ((onceC x).getD zeroC).t.m), .int .u64 (((onceC x).getD zeroC).u.lo), .int .u64 (((onceC x).getD zeroC).u.hi), .int .i64 (((onceC x).getD zeroC).s.lo), .int .i64 (((onceC x).getD zeroC).s.hi)], .bool ((onceC x).isSome)]) ∧ Below w.heap.size w w' := by
  go_enter Tryz.func41, Tryz.ntmps41
  have M := Gw.Mem.nil w
  refine wp_seq (teach5_r0 x hx (fun _ _ d _ _ h => by cases d <;> exact h) ?_ _ M)
  clear M
  intro _ d1_0 d1_1 z1 M
  refine wp_seq (teach5_r1 x hx (fun _ _ d _ _ h => by cases d <;> exact h) ?_ _ M)
  clear M
  intro _ _ _ _ _ _ d2_6 d2_7 z2 M
  refine wp_seq (teach5_r2 x hx (fun _ _ d _ _ h => by cases d <;> exact h) ?_ _ M)
  clear M
  intro d3_0 z3 M
  refine wp_seq (teach5_r3 x hx (fun _ _ d _ _ h => by cases d <;> exact h) ?_ _ M)
  clear M
  intro _ _ _ _ _ _ _ _ _ _ _ z4 M
  refine wp_seq (teach5_r4 x hx (fun _ _ d _ _ h => by cases d <;> exact h) ?_ _ M)
  clear M
  intro _ _ _ _ _ _ _ _ _ z5 M
  refine wp_seq (teach5_r5 x hx (fun _ _ d _ _ h => by cases d <;> exact h) ?_ _ M)
  clear M
  intro _ _ _ _ _ _ _ _ _ _ _ z6 M
  refine wp_seq (teach5_r6 x hx (fun _ _ d _ _ h => by cases d <;> exact h) ?_ _ M)
  clear M
  intro _ _ _ _ _ _ _ _ _ z7 M
  refine wp_seq (teach5_r7 x hx (fun _ _ d _ _ h => by cases d <;> exact h) ?_ _ M)
  clear M
  intro _ _ _ _ _ _ _ _ _ _ _ z8 M
  refine wp_seq ?_
  refine wp_seq (teach5_r8 x hx (fun _ _ d _ _ h => by cases d <;> exact h) ?_ _ M)
  clear M
  intro _ z9 M
  refine wp_cond_split (t := (!((metE x.u (toU x.s)) && (metE (tm1 x) (fromU x.t)) && (metE x.s (toS (tm2 x))) && (metE (tm3 x) (fromS x.t)) && (meetOk x.t (toT (tm2 x)))))) rfl (fun h0 => ?_) (fun h0 => ?_)
  · refine wp_seq (teach5_r9 x hx (fun _ _ d _ _ h => by cases d <;> exact h) ?_ _ M)
    clear M
    intro _ z10 M
    refine wp_ret ?_
    try simp only [Exit.inBlock, Exit.then]
    have g0 := M.cell 3 0
    have g1 := M.cell 3 1
    have g2 := M.cell 3 2
    have g3 := M.cell 3 3
    have g4 := M.cell 3 4
    have g5 := M.cell 3 5
    refine bodyPost_ret (by simp [results, Tryz.results41, g0, g1, g2, g3, g4, g5, go_sem]; try rfl) rfl ?_
    exact ⟨by rw [once_tm, if_neg (by intro g; rw [g] at h0; cases h0)]; rfl, M.below⟩
  · refine wp_skip ?_
    try simp only [Exit.inBlock, Exit.then]
    refine wp_seq (teach5_r10 x hx (fun _ _ d _ _ h => by cases d <;> exact h) ?_ _ M)
    clear M
    intro _ z11 M
    refine wp_ret ?_
    try simp only [Exit.inBlock, Exit.then]
    have g0 := M.cell 3 0
    have g1 := M.cell 3 1
    have g2 := M.cell 3 2
    have g3 := M.cell 3 3
    have g4 := M.cell 3 4
    have g5 := M.cell 3 5
    refine bodyPost_ret (by simp [results, Tryz.results41, g0, g1, g2, g3, g4, g5, go_sem]; try rfl) rfl ?_
    exact ⟨by rw [once_tm, if_pos (by simpa using h0)]; rfl, M.below⟩
end Go.Proofs.YtcimihckhobniaaGreat.Sc
