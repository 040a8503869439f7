/-
  Texts of layer 5 and of those below it, put together: contracts and plain mathematics that ScalarSets needs.
-/
import Derived.Test.YtcimihckhobniaaGreatZScalarP9
namespace Go.Proofs.YtcimihckhobniaaGreat.Sc
open Go.RowKit Tn Ow Sp
set_option linter.unusedVariables false
set_option linter.unusedSimpArgs false
set_option maxRecDepth 100000
def selC (r : Bool) (x : C) : C := bif r then x else zeroC
theorem where5 (r : Bool) (a b : C) (w : World) :
    Calls Tryz.prog 87 #[.bool r, .agg #[.int .u64 (bi a.t.v), .int .u64 (bi a.t.m), .int .u64 a.u.lo, .int .u64 a.u.hi, .int .i64 a.s.lo, .int .i64 a.s.hi], .agg #[.int .u64 (bi b.t.v), .int .u64 (bi b.t.m), .int .u64 b.u.lo, .int .u64 b.u.hi, .int .i64 b.s.lo, .int .i64 b.s.hi]] w fun e w' => e = .returned (.tuple #[.agg #[.int .u64 (bi (selC r a).t.v), .int .u64 (bi (selC r a).t.m), .int .u64 ((selC r a).u.lo), .int .u64 ((selC r a).u.hi), .int .i64 ((selC r a).s.lo), .int .i64 ((selC r a).s.hi)], .agg #[.int .u64 (bi (selC r b).t.v), .int .u64 (bi (selC r b).t.m), .int .u64 ((selC r b).u.lo), .int .u64 ((selC r b).u.hi), .int .i64 ((selC r b).s.lo), .int .i64 ((selC r b).s.hi)], .bool r]) ∧ Below w.heap.size w w' := by
  cases r
  · exact where_n a b w
  · exact where_y a b w
theorem sgn_j (op : Int) {r : Bool} (h : ((op == 6) || ((op == 7) || ((op == 12) || (op == 13)))) = r) : signedJ op = r := by
  rw [← h]; unfold signedJ; rw [Bool.eq_iff_iff]; simp
noncomputable def signed5_r0C : Code := (Tryz.f155.body.bind (Rg.findR 0)).getD .skip
set_option maxHeartbeats 4000000 in
theorem signed5_r0 (op : Int) {w0 : World}  {K : Act → World → Prop} {Q0 : Exit → Act → World → Prop} {u0 u1 u2 u3 u4 u5 u6 u7 u8 u9 u10 u11 u12 u13 u14 u15 u16 : Value}
    (hQ : ∀ c a d v w, Q0 (.panic c) (Act.put a d v) w → Q0 (.panic c) a w)
    (hK : ∀ (t2 : Value) (z : World), Gw.Mem w0 [] z → K ⟨#[u0, u1, t2, u3, u4, u5, u6, u7, u8, u9, u10, u11, u12, u13, u14, u15, u16], []⟩ z) (wy : World) (M : Gw.Mem w0 [] wy) :
    signed5_r0C.wp Tryz.prog (Exit.then K Q0) ⟨#[u0, u1, u2, u3, u4, u5, u6, u7, u8, u9, u10, u11, u12, u13, u14, u15, u16], []⟩ wy := by
  have HK := Lib.hid hK
  clear hK
  conv => arg 2; whnf
  refine Gw.line _ M ?_
  clear M wy
  refine Gw.sw (.bool false) ?_
  try simp only [Act.put, ptA, ptB, ptC]
  exact fun z M => HK.out _ z M
noncomputable def signed5_r1C : Code := (Tryz.f155.body.bind (Rg.findR 1)).getD .skip
set_option maxHeartbeats 4000000 in
theorem signed5_r1 (op : Int) {w0 : World}  {K : Act → World → Prop} {Q0 : Exit → Act → World → Prop} {u1 u2 u3 u4 u5 u6 u7 u8 u9 u10 u11 u12 u13 u14 u15 u16 : Value}
    (hQ : ∀ c a d v w, Q0 (.panic c) (Act.put a d v) w → Q0 (.panic c) a w)
    (hK : ∀ (t3 t4 t5 t6 t7 t8 t9 t10 t11 t12 t13 t14 t15 t16 : Value) (o2 : Bool) (_ : o2 = ((op == 6) || ((op == 7) || ((op == 12) || (op == 13))))) (z : World), Gw.Mem w0 [] z → K ⟨#[.int .i64 op, u1, .bool o2, t3, t4, t5, t6, t7, t8, t9, t10, t11, t12, t13, t14, t15, t16], []⟩ z) (wy : World) (M : Gw.Mem w0 [] wy) :
    signed5_r1C.wp Tryz.prog (Exit.then K Q0) ⟨#[.int .i64 op, u1, u2, u3, u4, u5, u6, u7, u8, u9, u10, u11, u12, u13, u14, u15, u16], []⟩ wy := by
  have HK := Lib.hid hK
  clear hK
  conv => arg 2; whnf
  refine Gw.line _ M ?_
  clear M wy
  refine Gw.sw (.int .i64 op) ?_
  try simp only [Act.put, ptA, ptB, ptC]
  refine Gw.sw (.bool (op == 6)) ?_
  try simp only [Act.put, ptA, ptB, ptC]
  refine Gw.sw (.bool (op == 6)) ?_
  try simp only [Act.put, ptA, ptB, ptC]
  cases hb0_1 : (op == 6)
  · try simp only [Bool.not_true, Bool.not_false]
    refine Gw.sw (.int .i64 op) ?_
    try simp only [Act.put, ptA, ptB, ptC]
    refine Gw.sw (.bool (op == 7)) ?_
    try simp only [Act.put, ptA, ptB, ptC]
    refine Gw.sw (.bool (op == 7)) ?_
    try simp only [Act.put, ptA, ptB, ptC]
    refine Gw.sw (.bool (op == 7)) ?_
    try simp only [Act.put, ptA, ptB, ptC]
    cases hb1_1 : (op == 7)
    · try simp only [Bool.not_true, Bool.not_false]
      refine Gw.sw (.int .i64 op) ?_
      try simp only [Act.put, ptA, ptB, ptC]
      refine Gw.sw (.bool (op == 12)) ?_
      try simp only [Act.put, ptA, ptB, ptC]
      refine Gw.sw (.bool (op == 12)) ?_
      try simp only [Act.put, ptA, ptB, ptC]
      refine Gw.sw (.bool (op == 12)) ?_
      try simp only [Act.put, ptA, ptB, ptC]
      cases hb2_1 : (op == 12)
      · try simp only [Bool.not_true, Bool.not_false]
        refine Gw.sw (.int .i64 op) ?_
        try simp only [Act.put, ptA, ptB, ptC]
        refine Gw.sw (.bool (op == 13)) ?_
        try simp only [Act.put, ptA, ptB, ptC]
        refine Gw.sw (.bool (op == 13)) ?_
        try simp only [Act.put, ptA, ptB, ptC]
        refine Gw.sw (.bool (op == 13)) ?_
        try simp only [Act.put, ptA, ptB, ptC]
        exact fun z M => HK.out _ _ _ _ _ _ _ _ _ _ _ _ _ _ _ (by simp [hb0_1, hb1_1, hb2_1]) z M
      · try simp only [Bool.not_true, Bool.not_false]
        refine Gw.su ?_
        try simp only [Act.put, ptA, ptB, ptC]
        refine Gw.su ?_
        try simp only [Act.put, ptA, ptB, ptC]
        refine Gw.sw (.bool true) ?_
        try simp only [Act.put, ptA, ptB, ptC]
        refine Gw.sw (.bool true) ?_
        try simp only [Act.put, ptA, ptB, ptC]
        exact fun z M => HK.out _ _ _ _ _ _ _ _ _ _ _ _ _ _ _ (by simp [hb0_1, hb1_1, hb2_1]) z M
    · try simp only [Bool.not_true, Bool.not_false]
      refine Gw.su ?_
      try simp only [Act.put, ptA, ptB, ptC]
      refine Gw.su ?_
      try simp only [Act.put, ptA, ptB, ptC]
      refine Gw.sw (.bool true) ?_
      try simp only [Act.put, ptA, ptB, ptC]
      refine Gw.sw (.bool true) ?_
      try simp only [Act.put, ptA, ptB, ptC]
      refine Gw.su ?_
      try simp only [Act.put, ptA, ptB, ptC]
      refine Gw.su ?_
      try simp only [Act.put, ptA, ptB, ptC]
      refine Gw.sw (.bool true) ?_
      try simp only [Act.put, ptA, ptB, ptC]
      refine Gw.sw (.bool true) ?_
      try simp only [Act.put, ptA, ptB, ptC]
      exact fun z M => HK.out _ _ _ _ _ _ _ _ _ _ _ _ _ _ _ (by simp [hb0_1, hb1_1]) z M
  · try simp only [Bool.not_true, Bool.not_false]
    refine Gw.su ?_
    try simp only [Act.put, ptA, ptB, ptC]
    refine Gw.su ?_
    try simp only [Act.put, ptA, ptB, ptC]
    refine Gw.sw (.bool true) ?_
    try simp only [Act.put, ptA, ptB, ptC]
    refine Gw.sw (.bool true) ?_
    try simp only [Act.put, ptA, ptB, ptC]
    refine Gw.su ?_
    try simp only [Act.put, ptA, ptB, ptC]
    refine Gw.su ?_
    try simp only [Act.put, ptA, ptB, ptC]
    refine Gw.sw (.bool true) ?_
    try simp only [Act.put, ptA, ptB, ptC]
    refine Gw.sw (.bool true) ?_
    try simp only [Act.put, ptA, ptB, ptC]
    refine Gw.su ?_
    try simp only [Act.put, ptA, ptB, ptC]
    refine Gw.su ?_
    try simp only [Act.put, ptA, ptB, ptC]
    refine Gw.sw (.bool true) ?_
    try simp only [Act.put, ptA, ptB, ptC]
    refine Gw.sw (.bool true) ?_
    try simp only [Act.put, ptA, ptB, ptC]
    exact fun z M => HK.out _ _ _ _ _ _ _ _ _ _ _ _ _ _ _ (by simp [hb0_1]) z M
set_option maxHeartbeats 4000000 in
theorem signed5 (op : Int) (w : World) :
    Calls Tryz.prog 155 #[.int .i64 op] w fun e w' => e = .returned (.bool (signedJ op)) ∧ Below w.heap.size w w' := by
  go_enter Tryz.func155, Tryz.ntmps155
  have M := Gw.Mem.nil w
  refine wp_seq (signed5_r0 op (fun _ _ d _ _ h => by cases d <;> exact h) ?_ _ M)
  clear M
  intro _ z1 M
  refine wp_seq (signed5_r1 op (fun _ _ d _ _ h => by cases d <;> exact h) ?_ _ M)
  clear M
  intro _ _ _ _ _ _ _ _ _ _ _ _ _ _ o2 e2 z2 M
  subst e2
  refine wp_ret ?_
  try simp only [Exit.inBlock, Exit.then]
  refine bodyPost_ret (by simp [results, Tryz.results155, go_sem]; try rfl) rfl ?_
  exact ⟨by rw [sgn_j op rfl], M.below⟩
theorem pl_1 {op : Int} {a b : C} (h : (!(withC a (uptoC 4)) || (!(withC b (uptoC 4)))) = true) : (!wideJ op a b) = false := by
  unfold wideJ; revert h; cases withC a (uptoC 4) <;> cases withC b (uptoC 4) <;> simp
theorem pl_2 {op : Int} {a b : C} (h : (!(withC a (uptoC 4)) || (!(withC b (uptoC 4)))) = false) : (!wideJ op a b) = (!(signedJ op) || (decide (a.u.hi < 2147483648) && decide (b.u.hi < 2147483648))) := by
  have e1 : decide (2147483648 ≤ a.u.hi) = !decide (a.u.hi < 2147483648) := by rw [Bool.eq_iff_iff]; simp
  have e2 : decide (2147483648 ≤ b.u.hi) = !decide (b.u.hi < 2147483648) := by rw [Bool.eq_iff_iff]; simp
  unfold wideJ; rw [e1, e2]; revert h; cases withC a (uptoC 4) <;> cases withC b (uptoC 4) <;> cases signedJ op <;> simp
noncomputable def plain5_r0C : Code := (Tryz.f88.body.bind (Rg.findR 0)).getD .skip
set_option maxHeartbeats 4000000 in
theorem plain5_r0 (op : Int) (a b : C) {w0 : World}  {K : Act → World → Prop} {Q0 : Exit → Act → World → Prop} {u0 u3 u4 u5 u6 u7 u8 u9 u10 u11 u12 u13 u14 u15 u16 u17 u18 u19 u20 u21 u22 u23 u24 u25 u26 u27 u28 u29 u30 u31 : Value}
    (hQ : ∀ c a d v w, Q0 (.panic c) (Act.put a d v) w → Q0 (.panic c) a w)
    (hK : ∀ (t6 : Value) (d1_0 d1_1 : Nat) (z : World), Gw.Mem w0 [(d1_1, .cells #[.int .u64 (bi b.t.v), .int .u64 (bi b.t.m), .int .u64 b.u.lo, .int .u64 b.u.hi, .int .i64 b.s.lo, .int .i64 b.s.hi] 30), (d1_0, .cells #[.int .u64 (bi a.t.v), .int .u64 (bi a.t.m), .int .u64 a.u.lo, .int .u64 a.u.hi, .int .i64 a.s.lo, .int .i64 a.s.hi] 30)] z → K ⟨#[u0, .agg #[.int .u64 (bi a.t.v), .int .u64 (bi a.t.m), .int .u64 a.u.lo, .int .u64 a.u.hi, .int .i64 a.s.lo, .int .i64 a.s.hi], .agg #[.int .u64 (bi b.t.v), .int .u64 (bi b.t.m), .int .u64 b.u.lo, .int .u64 b.u.hi, .int .i64 b.s.lo, .int .i64 b.s.hi], u3, .pointer (some ⟨d1_0, 0, none⟩), .pointer (some ⟨d1_1, 0, none⟩), t6, u7, u8, u9, u10, u11, u12, u13, u14, u15, u16, u17, u18, u19, u20, u21, u22, u23, u24, u25, u26, u27, u28, u29, u30, u31], []⟩ z) (wy : World) (M : Gw.Mem w0 [] wy) :
    plain5_r0C.wp Tryz.prog (Exit.then K Q0) ⟨#[u0, .agg #[.int .u64 (bi a.t.v), .int .u64 (bi a.t.m), .int .u64 a.u.lo, .int .u64 a.u.hi, .int .i64 a.s.lo, .int .i64 a.s.hi], .agg #[.int .u64 (bi b.t.v), .int .u64 (bi b.t.m), .int .u64 b.u.lo, .int .u64 b.u.hi, .int .i64 b.s.lo, .int .i64 b.s.hi], u3, u4, u5, u6, u7, u8, u9, u10, u11, u12, u13, u14, u15, u16, u17, u18, u19, u20, u21, u22, u23, u24, u25, u26, u27, u28, u29, u30, u31], []⟩ wy := by
  have HK := Lib.hid hK
  clear hK
  conv => arg 2; whnf
  refine Gw.line _ M ?_
  clear M wy
  refine Gw.ss ?_
  intro w M K' hK
  go_simp
  have M1 := M.alloc (.cells #[.int .u64 (bi a.t.v), .int .u64 (bi a.t.m), .int .u64 a.u.lo, .int .u64 a.u.hi, .int .i64 a.s.lo, .int .i64 a.s.hi] 30)
  generalize w.heap.size = d1_0 at M1 ⊢
  refine hK.out _ _ _ M1 ?_
  clear hK K' M1 M w
  try simp only [Act.put, ptA, ptB, ptC]
  refine Gw.ss ?_
  intro w M K' hK
  go_simp
  have M1 := M.alloc (.cells #[.int .u64 (bi b.t.v), .int .u64 (bi b.t.m), .int .u64 b.u.lo, .int .u64 b.u.hi, .int .i64 b.s.lo, .int .i64 b.s.hi] 30)
  generalize w.heap.size = d1_1 at M1 ⊢
  refine hK.out _ _ _ M1 ?_
  clear hK K' M1 M w
  try simp only [Act.put, ptA, ptB, ptC]
  refine Gw.sw (.bool false) ?_
  try simp only [Act.put, ptA, ptB, ptC]
  exact fun z M => HK.out _ _ _ z M
noncomputable def plain5_r1C : Code := (Tryz.f88.body.bind (Rg.findR 1)).getD .skip
set_option maxHeartbeats 4000000 in
theorem plain5_r1 (op : Int) (a b : C) {w0 : World}  {K : Act → World → Prop} {Q0 : Exit → Act → World → Prop} {d1_1 d1_0 : Nat} {u0 u1 u2 u3 u6 u7 u8 u9 u10 u11 u12 u13 u14 u15 u16 u17 u18 u19 u20 u21 u22 u23 u24 u25 u26 u27 u28 u29 u30 u31 : Value}
    (hQ : ∀ c a d v w, Q0 (.panic c) (Act.put a d v) w → Q0 (.panic c) a w)
    (hK : ∀ (t7 t8 t9 t10 t11 t12 t13 t14 t15 : Value) (o16 : Bool) (_ : o16 = (!(withC a (uptoC 4)) || (!(withC b (uptoC 4))))) (z : World), Gw.Mem w0 [(d1_1, .cells #[.int .u64 (bi b.t.v), .int .u64 (bi b.t.m), .int .u64 b.u.lo, .int .u64 b.u.hi, .int .i64 b.s.lo, .int .i64 b.s.hi] 30), (d1_0, .cells #[.int .u64 (bi a.t.v), .int .u64 (bi a.t.m), .int .u64 a.u.lo, .int .u64 a.u.hi, .int .i64 a.s.lo, .int .i64 a.s.hi] 30)] z → K ⟨#[u0, u1, u2, u3, .pointer (some ⟨d1_0, 0, none⟩), .pointer (some ⟨d1_1, 0, none⟩), u6, t7, t8, t9, t10, t11, t12, t13, t14, t15, .bool o16, u17, u18, u19, u20, u21, u22, u23, u24, u25, u26, u27, u28, u29, u30, u31], []⟩ z) (wy : World) (M : Gw.Mem w0 [(d1_1, .cells #[.int .u64 (bi b.t.v), .int .u64 (bi b.t.m), .int .u64 b.u.lo, .int .u64 b.u.hi, .int .i64 b.s.lo, .int .i64 b.s.hi] 30), (d1_0, .cells #[.int .u64 (bi a.t.v), .int .u64 (bi a.t.m), .int .u64 a.u.lo, .int .u64 a.u.hi, .int .i64 a.s.lo, .int .i64 a.s.hi] 30)] wy) :
    plain5_r1C.wp Tryz.prog (Exit.then K Q0) ⟨#[u0, u1, u2, u3, .pointer (some ⟨d1_0, 0, none⟩), .pointer (some ⟨d1_1, 0, none⟩), u6, u7, u8, u9, u10, u11, u12, u13, u14, u15, u16, u17, u18, u19, u20, u21, u22, u23, u24, u25, u26, u27, u28, u29, u30, u31], []⟩ wy := by
  have HK := Lib.hid hK
  clear hK
  have hq : ∀ c a d v w, Exit.then K Q0 (.panic c) (Act.put a d v) w → Exit.then K Q0 (.panic c) a w := hQ
  conv => arg 2; whnf
  refine Gw.draw0 _ (by kernel_rfl) M.drew ?_
  clear M wy
  refine Gw.tg 0 (.agg #[.int .u64 (bi a.t.v), .int .u64 (bi a.t.m), .int .u64 a.u.lo, .int .u64 a.u.hi, .int .i64 a.s.lo, .int .i64 a.s.hi]) ?_ ?_
  · intro w M; have c := M.c6 1; go_simp
  try simp only [Act.put, ptA, ptB, ptC]
  refine Gw.tkw 1 (.agg #[.int .u64 (bi (uptoC 4).t.v), .int .u64 (bi (uptoC 4).t.m), .int .u64 ((uptoC 4).u.lo), .int .u64 ((uptoC 4).u.hi), .int .i64 ((uptoC 4).s.lo), .int .i64 ((uptoC 4).s.hi)]) 21 #[.int .i64 4] (fun w => upto5 4 ⟨by decide, by decide⟩ w) ?_
  try simp only [Act.put, ptA, ptB, ptC]
  refine Gw.tkw 2 (.bool (withC a (uptoC 4))) 25 #[.agg #[.int .u64 (bi a.t.v), .int .u64 (bi a.t.m), .int .u64 a.u.lo, .int .u64 a.u.hi, .int .i64 a.s.lo, .int .i64 a.s.hi], .agg #[.int .u64 (bi (uptoC 4).t.v), .int .u64 (bi (uptoC 4).t.m), .int .u64 ((uptoC 4).u.lo), .int .u64 ((uptoC 4).u.hi), .int .i64 ((uptoC 4).s.lo), .int .i64 ((uptoC 4).s.hi)]] (fun w => with5 a (uptoC 4) w) ?_
  try simp only [Act.put, ptA, ptB, ptC]
  refine Gw.tw 3 (.bool (!(withC a (uptoC 4)))) ?_
  try simp only [Act.put, ptA, ptB, ptC]
  refine Gw.tw 4 (.bool (!(withC a (uptoC 4)))) ?_
  try simp only [Act.put, ptA, ptB, ptC]
  cases hb0_1 : (withC a (uptoC 4))
  · try simp only [Bool.not_true, Bool.not_false]
    refine Gw.tu 5 ?_
    try simp only [Act.put, ptA, ptB, ptC]
    refine Gw.tu 6 ?_
    try simp only [Act.put, ptA, ptB, ptC]
    refine Gw.tu 7 ?_
    try simp only [Act.put, ptA, ptB, ptC]
    refine Gw.tu 8 ?_
    try simp only [Act.put, ptA, ptB, ptC]
    refine Gw.tw 9 (.bool true) ?_
    try simp only [Act.put, ptA, ptB, ptC]
    exact Gw.td (by kernel_rfl) (fun z M => HK.out _ _ _ _ _ _ _ _ _ _ (by simp [hb0_1]) z M) _
  · try simp only [Bool.not_true, Bool.not_false]
    refine Gw.tg 5 (.agg #[.int .u64 (bi b.t.v), .int .u64 (bi b.t.m), .int .u64 b.u.lo, .int .u64 b.u.hi, .int .i64 b.s.lo, .int .i64 b.s.hi]) ?_ ?_
    · intro w M; have c := M.c6 0; go_simp
    try simp only [Act.put, ptA, ptB, ptC]
    refine Gw.tkw 6 (.agg #[.int .u64 (bi (uptoC 4).t.v), .int .u64 (bi (uptoC 4).t.m), .int .u64 ((uptoC 4).u.lo), .int .u64 ((uptoC 4).u.hi), .int .i64 ((uptoC 4).s.lo), .int .i64 ((uptoC 4).s.hi)]) 21 #[.int .i64 4] (fun w => upto5 4 ⟨by decide, by decide⟩ w) ?_
    try simp only [Act.put, ptA, ptB, ptC]
    refine Gw.tkw 7 (.bool (withC b (uptoC 4))) 25 #[.agg #[.int .u64 (bi b.t.v), .int .u64 (bi b.t.m), .int .u64 b.u.lo, .int .u64 b.u.hi, .int .i64 b.s.lo, .int .i64 b.s.hi], .agg #[.int .u64 (bi (uptoC 4).t.v), .int .u64 (bi (uptoC 4).t.m), .int .u64 ((uptoC 4).u.lo), .int .u64 ((uptoC 4).u.hi), .int .i64 ((uptoC 4).s.lo), .int .i64 ((uptoC 4).s.hi)]] (fun w => with5 b (uptoC 4) w) ?_
    try simp only [Act.put, ptA, ptB, ptC]
    refine Gw.tw 8 (.bool (!(withC b (uptoC 4)))) ?_
    try simp only [Act.put, ptA, ptB, ptC]
    refine Gw.tw 9 (.bool (!(withC b (uptoC 4)))) ?_
    try simp only [Act.put, ptA, ptB, ptC]
    exact Gw.td (by kernel_rfl) (fun z M => HK.out _ _ _ _ _ _ _ _ _ _ (by simp [hb0_1]) z M) _
noncomputable def plain5_r2C : Code := (Tryz.f88.body.bind (Rg.findR 2)).getD .skip
set_option maxHeartbeats 4000000 in
theorem plain5_r2 (op : Int) (a b : C) {w0 : World}  {K : Act → World → Prop} {Q0 : Exit → Act → World → Prop} {d1_1 d1_0 : Nat} {u0 u1 u2 u3 u4 u5 u6 u7 u8 u9 u10 u11 u12 u13 u14 u15 u16 u17 u18 u19 u20 u21 u22 u23 u24 u25 u26 u27 u28 u29 u30 u31 : Value}
    (hQ : ∀ c a d v w, Q0 (.panic c) (Act.put a d v) w → Q0 (.panic c) a w)
    (hK : ∀ (z : World), Gw.Mem w0 [(d1_1, .cells #[.int .u64 (bi b.t.v), .int .u64 (bi b.t.m), .int .u64 b.u.lo, .int .u64 b.u.hi, .int .i64 b.s.lo, .int .i64 b.s.hi] 30), (d1_0, .cells #[.int .u64 (bi a.t.v), .int .u64 (bi a.t.m), .int .u64 a.u.lo, .int .u64 a.u.hi, .int .i64 a.s.lo, .int .i64 a.s.hi] 30)] z → K ⟨#[u0, u1, u2, u3, u4, u5, .bool false, u7, u8, u9, u10, u11, u12, u13, u14, u15, u16, u17, u18, u19, u20, u21, u22, u23, u24, u25, u26, u27, u28, u29, u30, u31], []⟩ z) (wy : World) (M : Gw.Mem w0 [(d1_1, .cells #[.int .u64 (bi b.t.v), .int .u64 (bi b.t.m), .int .u64 b.u.lo, .int .u64 b.u.hi, .int .i64 b.s.lo, .int .i64 b.s.hi] 30), (d1_0, .cells #[.int .u64 (bi a.t.v), .int .u64 (bi a.t.m), .int .u64 a.u.lo, .int .u64 a.u.hi, .int .i64 a.s.lo, .int .i64 a.s.hi] 30)] wy) :
    plain5_r2C.wp Tryz.prog (Exit.then K Q0) ⟨#[u0, u1, u2, u3, u4, u5, u6, u7, u8, u9, u10, u11, u12, u13, u14, u15, u16, u17, u18, u19, u20, u21, u22, u23, u24, u25, u26, u27, u28, u29, u30, u31], []⟩ wy := by
  have HK := Lib.hid hK
  clear hK
  conv => arg 2; whnf
  refine Gw.line _ M ?_
  clear M wy
  refine Gw.sw (.bool false) ?_
  try simp only [Act.put, ptA, ptB, ptC]
  exact fun z M => HK.out  z M
noncomputable def plain5_r3C : Code := (Tryz.f88.body.bind (Rg.findR 3)).getD .skip
set_option maxHeartbeats 4000000 in
theorem plain5_r3 (op : Int) (a b : C) {w0 : World}  {K : Act → World → Prop} {Q0 : Exit → Act → World → Prop} {d1_1 d1_0 : Nat} {u1 u2 u3 u6 u7 u8 u9 u10 u11 u12 u13 u14 u15 u16 u17 u18 u19 u20 u21 u22 u23 u24 u25 u26 u27 u28 u29 u30 u31 : Value}
    (hQ : ∀ c a d v w, Q0 (.panic c) (Act.put a d v) w → Q0 (.panic c) a w)
    (hK : ∀ (t17 t18 t19 t20 t21 t22 t23 t24 t25 t26 t27 t28 t29 t30 t31 : Value) (o6 : Bool) (_ : o6 = (!(signedJ op) || ((decide (a.u.hi < 2147483648)) && (decide (b.u.hi < 2147483648))))) (z : World), Gw.Mem w0 [(d1_1, .cells #[.int .u64 (bi b.t.v), .int .u64 (bi b.t.m), .int .u64 b.u.lo, .int .u64 b.u.hi, .int .i64 b.s.lo, .int .i64 b.s.hi] 30), (d1_0, .cells #[.int .u64 (bi a.t.v), .int .u64 (bi a.t.m), .int .u64 a.u.lo, .int .u64 a.u.hi, .int .i64 a.s.lo, .int .i64 a.s.hi] 30)] z → K ⟨#[.int .i64 op, u1, u2, u3, .pointer (some ⟨d1_0, 0, none⟩), .pointer (some ⟨d1_1, 0, none⟩), .bool o6, u7, u8, u9, u10, u11, u12, u13, u14, u15, u16, t17, t18, t19, t20, t21, t22, t23, t24, t25, t26, t27, t28, t29, t30, t31], []⟩ z) (wy : World) (M : Gw.Mem w0 [(d1_1, .cells #[.int .u64 (bi b.t.v), .int .u64 (bi b.t.m), .int .u64 b.u.lo, .int .u64 b.u.hi, .int .i64 b.s.lo, .int .i64 b.s.hi] 30), (d1_0, .cells #[.int .u64 (bi a.t.v), .int .u64 (bi a.t.m), .int .u64 a.u.lo, .int .u64 a.u.hi, .int .i64 a.s.lo, .int .i64 a.s.hi] 30)] wy) :
    plain5_r3C.wp Tryz.prog (Exit.then K Q0) ⟨#[.int .i64 op, u1, u2, u3, .pointer (some ⟨d1_0, 0, none⟩), .pointer (some ⟨d1_1, 0, none⟩), u6, u7, u8, u9, u10, u11, u12, u13, u14, u15, u16, u17, u18, u19, u20, u21, u22, u23, u24, u25, u26, u27, u28, u29, u30, u31], []⟩ wy := by
  have HK := Lib.hid hK
  clear hK
  conv => arg 2; whnf
  refine Gw.line _ M ?_
  clear M wy
  refine Gw.sw (.int .i64 op) ?_
  try simp only [Act.put, ptA, ptB, ptC]
  refine Gw.sk (.bool (signedJ op)) 155 #[.int .i64 op] (fun w M => signed5 op w) ?_
  try simp only [Act.put, ptA, ptB, ptC]
  refine Gw.sw (.bool (!(signedJ op))) ?_
  try simp only [Act.put, ptA, ptB, ptC]
  refine Gw.sw (.bool (!(signedJ op))) ?_
  try simp only [Act.put, ptA, ptB, ptC]
  cases hb0_3 : (signedJ op)
  · try simp only [Bool.not_true, Bool.not_false]
    refine Gw.su ?_
    try simp only [Act.put, ptA, ptB, ptC]
    refine Gw.su ?_
    try simp only [Act.put, ptA, ptB, ptC]
    refine Gw.su ?_
    try simp only [Act.put, ptA, ptB, ptC]
    refine Gw.su ?_
    try simp only [Act.put, ptA, ptB, ptC]
    refine Gw.su ?_
    try simp only [Act.put, ptA, ptB, ptC]
    refine Gw.su ?_
    try simp only [Act.put, ptA, ptB, ptC]
    refine Gw.su ?_
    try simp only [Act.put, ptA, ptB, ptC]
    refine Gw.su ?_
    try simp only [Act.put, ptA, ptB, ptC]
    refine Gw.su ?_
    try simp only [Act.put, ptA, ptB, ptC]
    refine Gw.su ?_
    try simp only [Act.put, ptA, ptB, ptC]
    refine Gw.sw (.bool true) ?_
    try simp only [Act.put, ptA, ptB, ptC]
    refine Gw.sw (.bool true) ?_
    try simp only [Act.put, ptA, ptB, ptC]
    exact fun z M => HK.out _ _ _ _ _ _ _ _ _ _ _ _ _ _ _ _ (by simp [hb0_3]) z M
  · try simp only [Bool.not_true, Bool.not_false]
    refine Gw.sw (.pointer (some ⟨d1_0, 2, none⟩)) ?_
    try simp only [Act.put, ptA, ptB, ptC]
    refine Gw.sw (.pointer (some ⟨d1_0, 3, none⟩)) ?_
    try simp only [Act.put, ptA, ptB, ptC]
    refine Gw.sq (.int .u64 a.u.hi) ?_ ?_
    · intro w M; have c := M.cell 1 3; go_simp
    try simp only [Act.put, ptA, ptB, ptC]
    refine Gw.sw (.bool (decide (a.u.hi < 2147483648))) ?_
    try simp only [Act.put, ptA, ptB, ptC]
    refine Gw.sw (.bool (decide (a.u.hi < 2147483648))) ?_
    try simp only [Act.put, ptA, ptB, ptC]
    cases hb1_3 : decide (a.u.hi < 2147483648)
    · try simp only [Bool.not_true, Bool.not_false]
      refine Gw.su ?_
      try simp only [Act.put, ptA, ptB, ptC]
      refine Gw.su ?_
      try simp only [Act.put, ptA, ptB, ptC]
      refine Gw.su ?_
      try simp only [Act.put, ptA, ptB, ptC]
      refine Gw.su ?_
      try simp only [Act.put, ptA, ptB, ptC]
      refine Gw.sw (.bool false) ?_
      try simp only [Act.put, ptA, ptB, ptC]
      refine Gw.sw (.bool false) ?_
      try simp only [Act.put, ptA, ptB, ptC]
      refine Gw.sw (.bool false) ?_
      try simp only [Act.put, ptA, ptB, ptC]
      exact fun z M => HK.out _ _ _ _ _ _ _ _ _ _ _ _ _ _ _ _ (by simp [hb0_3, hb1_3]) z M
    · try simp only [Bool.not_true, Bool.not_false]
      refine Gw.sw (.pointer (some ⟨d1_1, 2, none⟩)) ?_
      try simp only [Act.put, ptA, ptB, ptC]
      refine Gw.sw (.pointer (some ⟨d1_1, 3, none⟩)) ?_
      try simp only [Act.put, ptA, ptB, ptC]
      refine Gw.sq (.int .u64 b.u.hi) ?_ ?_
      · intro w M; have c := M.cell 0 3; go_simp
      try simp only [Act.put, ptA, ptB, ptC]
      refine Gw.sw (.bool (decide (b.u.hi < 2147483648))) ?_
      try simp only [Act.put, ptA, ptB, ptC]
      refine Gw.sw (.bool (decide (b.u.hi < 2147483648))) ?_
      try simp only [Act.put, ptA, ptB, ptC]
      refine Gw.sw (.bool (decide (b.u.hi < 2147483648))) ?_
      try simp only [Act.put, ptA, ptB, ptC]
      refine Gw.sw (.bool (decide (b.u.hi < 2147483648))) ?_
      try simp only [Act.put, ptA, ptB, ptC]
      exact fun z M => HK.out _ _ _ _ _ _ _ _ _ _ _ _ _ _ _ _ (by simp [hb0_3, hb1_3]) z M
set_option maxHeartbeats 4000000 in
theorem plain5 (op : Int) (a b : C) (w : World) :
    Calls Tryz.prog 88 #[.int .i64 op, .agg #[.int .u64 (bi a.t.v), .int .u64 (bi a.t.m), .int .u64 a.u.lo, .int .u64 a.u.hi, .int .i64 a.s.lo, .int .i64 a.s.hi], .agg #[.int .u64 (bi b.t.v), .int .u64 (bi b.t.m), .int .u64 b.u.lo, .int .u64 b.u.hi, .int .i64 b.s.lo, .int .i64 b.s.hi]] w fun e w' => e = .returned (.bool (!wideJ op a b)) ∧ Below w.heap.size w w' := by
  go_enter Tryz.func88, Tryz.ntmps88
  have M := Gw.Mem.nil w
  refine wp_seq (plain5_r0 op a b (fun _ _ d _ _ h => by cases d <;> exact h) ?_ _ M)
  clear M
  intro _ d1_0 d1_1 z1 M
  refine wp_seq ?_
  refine wp_seq (plain5_r1 op a b (fun _ _ d _ _ h => by cases d <;> exact h) ?_ _ M)
  clear M
  intro _ _ _ _ _ _ _ _ _ o16 e16 z2 M
  subst e16
  refine wp_cond_split (t := (!(withC a (uptoC 4)) || (!(withC b (uptoC 4))))) rfl (fun h0 => ?_) (fun h0 => ?_)
  · refine wp_seq (plain5_r2 op a b (fun _ _ d _ _ h => by cases d <;> exact h) ?_ _ M)
    clear M
    intro z3 M
    refine wp_ret ?_
    try simp only [Exit.inBlock, Exit.then]
    refine bodyPost_ret (by simp [results, Tryz.results88, go_sem]; try rfl) rfl ?_
    exact ⟨by rw [pl_1 h0], M.below⟩
  · refine wp_skip ?_
    try simp only [Exit.inBlock, Exit.then]
    refine wp_seq (plain5_r3 op a b (fun _ _ d _ _ h => by cases d <;> exact h) ?_ _ M)
    clear M
    intro _ _ _ _ _ _ _ _ _ _ _ _ _ _ _ o6 e6 z4 M
    subst e6
    refine wp_ret ?_
    try simp only [Exit.inBlock, Exit.then]
    refine bodyPost_ret (by simp [results, Tryz.results88, go_sem]; try rfl) rfl ?_
    exact ⟨by rw [pl_2 h0], M.below⟩
theorem ls_call2 (op : Int) (taken : Bool) (hop : Wd.jumpOk op = true) (a b : C) (ha : mayC a) (hb : mayC b) (p q : C) (ok : Bool) (hls : lsR op taken a b = ((p, q), ok)) (n0 n1 n2 n3 n4 n5 n6 n7 n9 n10 n11 n12 : Nat) {w0 : World} (w : World) (M : Gw.Mem w0 (JL n0 n1 n2 n3 n4 n5 n6 n7 n9 n10 n11 n12) w) :
    Calls Tryz.prog (lsN op taken) (#[.agg #[.int .u64 (bi a.t.v), .int .u64 (bi a.t.m), .int .u64 a.u.lo, .int .u64 a.u.hi, .int .i64 a.s.lo, .int .i64 a.s.hi], .agg #[.int .u64 (bi b.t.v), .int .u64 (bi b.t.m), .int .u64 b.u.lo, .int .u64 b.u.hi, .int .i64 b.s.lo, .int .i64 b.s.hi]] ++ lsC op taken n0 n1 n2 n3 n4 n5 n6 n7 n9 n10 n11 n12) w fun e w' => e = .returned (.tuple #[.agg #[.int .u64 (bi p.t.v), .int .u64 (bi p.t.m), .int .u64 p.u.lo, .int .u64 p.u.hi, .int .i64 p.s.lo, .int .i64 p.s.hi], .agg #[.int .u64 (bi q.t.v), .int .u64 (bi q.t.m), .int .u64 q.u.lo, .int .u64 q.u.hi, .int .i64 q.s.lo, .int .i64 q.s.hi], .bool ok]) ∧ Below w.heap.size w w' := by
  have := ls_call op taken hop a b ha hb n0 n1 n2 n3 n4 n5 n6 n7 n9 n10 n11 n12 w M; rw [hls] at this; exact this
end Go.Proofs.YtcimihckhobniaaGreat.Sc
namespace Go.Proofs.YtcimihckhobniaaGreat.Sc
open Go.RowKit Tn Ow Sp
set_option linter.unusedVariables false
set_option linter.unusedSimpArgs false
set_option maxRecDepth 100000
theorem nb {x : Bool} (h : (!x) = false) : x = true := by simpa using h
theorem nt {x : Bool} (h : (!x) = true) : x = false := by simpa using h
theorem al_of {x y : Bool} (h : (x && y) = false) (g : y = true) : x = false := by rw [g] at h; simpa using h
theorem ap_u {d : Int} (hd : d = 0 ∨ d = 1) {h l : E} (hh : okU h) (hl : okU l) : apOk .u64 d h l = belowE 0 18446744073709551615 d l h ∧ (apOk .u64 d h l = true → apHi .u64 d h l = highE d l h ∧ apLo .u64 d h l = lowE d l h) := by
  unfold okU at hh hl
  have e1 : IntKind.u64.wrap (l.lo + d) = if l.lo + d ≤ 18446744073709551615 then l.lo + d else 0 := by rw [IntKind.wrap_u64]; split <;> omega
  have e2 : IntKind.u64.wrap (h.hi - d) = if 0 ≤ h.hi - d then h.hi - d else 18446744073709551615 := by rw [IntKind.wrap_u64]; split <;> omega
  refine ⟨?_, ?_⟩
  · unfold apOk belowE
    rw [e1, e2, Bool.eq_iff_iff]
    simp only [Bool.and_eq_true, Bool.not_eq_true', decide_eq_true_eq, decide_eq_false_iff_not]
    split <;> split <;> omega
  · intro g
    unfold apOk at g
    rw [e1, e2] at g
    simp only [Bool.and_eq_true, Bool.not_eq_true', decide_eq_true_eq, decide_eq_false_iff_not] at g
    unfold apHi apLo highE lowE
    rw [e1, e2]
    revert g
    split <;> split <;> intro g
    · exact ⟨rfl, rfl⟩
    all_goals exfalso; omega
theorem ap_s {d : Int} (hd : d = 0 ∨ d = 1) {h l : E} (hh : okS h) (hl : okS l) : apOk .i64 d h l = belowE (-9223372036854775808) 9223372036854775807 d l h ∧ (apOk .i64 d h l = true → apHi .i64 d h l = highE d l h ∧ apLo .i64 d h l = lowE d l h) := by
  unfold okS at hh hl
  have e1 : IntKind.i64.wrap (l.lo + d) = if l.lo + d ≤ 9223372036854775807 then l.lo + d else -9223372036854775808 := by rw [IntKind.wrap_i64]; split <;> omega
  have e2 : IntKind.i64.wrap (h.hi - d) = if -9223372036854775808 ≤ h.hi - d then h.hi - d else 9223372036854775807 := by rw [IntKind.wrap_i64]; split <;> omega
  refine ⟨?_, ?_⟩
  · unfold apOk belowE
    rw [e1, e2, Bool.eq_iff_iff]
    simp only [Bool.and_eq_true, Bool.not_eq_true', decide_eq_true_eq, decide_eq_false_iff_not]
    split <;> split <;> omega
  · intro g
    unfold apOk at g
    rw [e1, e2] at g
    simp only [Bool.and_eq_true, Bool.not_eq_true', decide_eq_true_eq, decide_eq_false_iff_not] at g
    unfold apHi apLo highE lowE
    rw [e1, e2]
    revert g
    split <;> split <;> intro g
    · exact ⟨rfl, rfl⟩
    all_goals exfalso; omega
theorem ex_u {x : E} (hx : okU x) (hn : ¬ x.lo = x.hi) (v : Int) : exE .u64 x v = woE x v := by
  unfold okU at hx
  unfold exE woE
  by_cases h : v = x.lo
  · have b1 : (v == x.lo) = true := by simpa using h
    rw [if_pos b1, if_pos h.symm, IntKind.wrap_u64]; congr 1; omega
  · have b1 : ¬ (v == x.lo) = true := by simpa using h
    rw [if_neg b1]
    by_cases h2 : v = x.hi
    · have b2 : (v == x.hi) = true := by simpa using h2
      rw [if_pos b2, if_neg (show ¬ x.lo = v from fun e => h e.symm), if_pos h2.symm, IntKind.wrap_u64]; congr 1; omega
    · have b2 : ¬ (v == x.hi) = true := by simpa using h2
      rw [if_neg b2, if_neg (show ¬ x.lo = v from fun e => h e.symm), if_neg (show ¬ x.hi = v from fun e => h2 e.symm)]
theorem ex_s {x : E} (hx : okS x) (hn : ¬ x.lo = x.hi) (v : Int) : exE .i64 x v = woE x v := by
  unfold okS at hx
  unfold exE woE
  by_cases h : v = x.lo
  · have b1 : (v == x.lo) = true := by simpa using h
    rw [if_pos b1, if_pos h.symm, IntKind.wrap_i64]; congr 1; omega
  · have b1 : ¬ (v == x.lo) = true := by simpa using h
    rw [if_neg b1]
    by_cases h2 : v = x.hi
    · have b2 : (v == x.hi) = true := by simpa using h2
      rw [if_pos b2, if_neg (show ¬ x.lo = v from fun e => h e.symm), if_pos h2.symm, IntKind.wrap_i64]; congr 1; omega
    · have b2 : ¬ (v == x.hi) = true := by simpa using h2
      rw [if_neg b2, if_neg (show ¬ x.lo = v from fun e => h e.symm), if_neg (show ¬ x.hi = v from fun e => h2 e.symm)]
theorem not_alone {x : C} (h : aloneC x = false) : ¬ x.u.lo = x.u.hi ∧ ¬ x.s.lo = x.s.hi := by
  unfold aloneC at h
  simp only [Bool.or_eq_false_iff, decide_eq_false_iff_not] at h
  exact ⟨h.1, h.2.2⟩
theorem ex_wo {x : C} (hx : mayC x) (h : aloneC x = false) (v : Int) : woC x v = some (exC x v) := by
  have hn := not_alone h
  unfold woC exC
  rw [if_neg (by rintro (g | g); exact hn.1 g.1; exact hn.2 g.1), ex_u hx.2.1 hn.1, ex_s hx.2.2 hn.2]
def optP (r : (C × C) × Bool) : Option (C × C) := if r.2 = true then some r.1 else none
theorem ls_both (a b : C) : bothC a b = optP ((mtC a b, mtC a b), mtB a b) := by
  unfold bothC meetC optP mtB mtC
  split <;> rfl
theorem ls_off {a b : C} (ha : mayC a) (hb : mayC b) (hal : (aloneC a && aloneC b) = false) : offC a b = optP ((dfC a b, dfC b a), true) := by
  unfold offC optP dfC
  cases h1 : aloneC a <;> cases h2 : aloneC b
  · rfl
  · simp [ex_wo ha h1]
  · simp [ex_wo hb h2]
  · rw [h1, h2] at hal; cases hal
theorem ls_set (a b : C) : setC a b = optP ((djC a b, djC b a), djB a b && djB b a) := by
  unfold setC optP djC djB noT noC noB
  cases h1 : aloneC a <;> cases h2 : aloneC b <;> simp <;> (repeat' split) <;> simp_all
theorem ls_lu {d : Int} (hd : d = 0 ∨ d = 1) {a b : C} (ha : mayC a) (hb : mayC b) : lessU d a b = optP ((above_u2 d b a, above_u1 d b a), apOk .u64 d b.u a.u) := by
  obtain ⟨e1, e2⟩ := ap_u hd hb.2.1 ha.2.1
  unfold lessU optP above_u1 above_u2
  rw [← e1]
  cases g : apOk .u64 d b.u a.u
  · rfl
  · obtain ⟨q1, q2⟩ := e2 g
    simp [q1, q2]
theorem ls_ls {d : Int} (hd : d = 0 ∨ d = 1) {a b : C} (ha : mayC a) (hb : mayC b) : lessS d a b = optP ((above_s2 d b a, above_s1 d b a), apOk .i64 d b.s a.s) := by
  obtain ⟨e1, e2⟩ := ap_s hd hb.2.2 ha.2.2
  unfold lessS optP above_s1 above_s2
  rw [← e1]
  cases g : apOk .i64 d b.s a.s
  · rfl
  · obtain ⟨q1, q2⟩ := e2 g
    simp [q1, q2]
theorem swp_opt {x y : C} {r : Bool} : swp2 (optP ((x, y), r)) = optP ((y, x), r) := by cases r <;> rfl
theorem ls_learn (op : Int) (taken : Bool) (hop : Wd.jumpOk op = true) {a b : C} (ha : mayC a) (hb : mayC b) (hal : (aloneC a && aloneC b) = false) :
    learnC (if taken = true then op else counterI op) (decide (op = 4) && !taken) a b = optP (lsR op taken a b) := by
  rcases jump_cases hop with rfl | rfl | rfl | rfl | rfl | rfl | rfl | rfl | rfl | rfl | rfl <;> cases taken
  · exact ls_off ha hb hal
  · exact ls_both a b
  · exact ls_lu (.inl rfl) ha hb
  · exact (congrArg swp2 (ls_lu (.inr rfl) hb ha)).trans swp_opt
  · exact ls_lu (.inr rfl) ha hb
  · exact (congrArg swp2 (ls_lu (.inl rfl) hb ha)).trans swp_opt
  · exact ls_set a b
  · rfl
  · exact ls_both a b
  · exact ls_off ha hb hal
  · exact ls_ls (.inl rfl) ha hb
  · exact (congrArg swp2 (ls_ls (.inr rfl) hb ha)).trans swp_opt
  · exact ls_ls (.inr rfl) ha hb
  · exact (congrArg swp2 (ls_ls (.inl rfl) hb ha)).trans swp_opt
  · exact (congrArg swp2 (ls_lu (.inl rfl) hb ha)).trans swp_opt
  · exact ls_lu (.inr rfl) ha hb
  · exact (congrArg swp2 (ls_lu (.inr rfl) hb ha)).trans swp_opt
  · exact ls_lu (.inl rfl) ha hb
  · exact (congrArg swp2 (ls_ls (.inl rfl) hb ha)).trans swp_opt
  · exact ls_ls (.inr rfl) ha hb
  · exact (congrArg swp2 (ls_ls (.inr rfl) hb ha)).trans swp_opt
  · exact ls_ls (.inl rfl) ha hb
def brV (o : Option (C × C)) : Value := .tuple #[.agg #[.int .u64 (bi ((o.getD (zeroC, zeroC)).1).t.v), .int .u64 (bi ((o.getD (zeroC, zeroC)).1).t.m), .int .u64 (((o.getD (zeroC, zeroC)).1).u.lo), .int .u64 (((o.getD (zeroC, zeroC)).1).u.hi), .int .i64 (((o.getD (zeroC, zeroC)).1).s.lo), .int .i64 (((o.getD (zeroC, zeroC)).1).s.hi)], .agg #[.int .u64 (bi ((o.getD (zeroC, zeroC)).2).t.v), .int .u64 (bi ((o.getD (zeroC, zeroC)).2).t.m), .int .u64 (((o.getD (zeroC, zeroC)).2).u.lo), .int .u64 (((o.getD (zeroC, zeroC)).2).u.hi), .int .i64 (((o.getD (zeroC, zeroC)).2).s.lo), .int .i64 (((o.getD (zeroC, zeroC)).2).s.hi)], .bool o.isSome]
theorem br_sel (r : Bool) (x y : C) : Value.tuple #[.agg #[.int .u64 (bi (selC r x).t.v), .int .u64 (bi (selC r x).t.m), .int .u64 ((selC r x).u.lo), .int .u64 ((selC r x).u.hi), .int .i64 ((selC r x).s.lo), .int .i64 ((selC r x).s.hi)], .agg #[.int .u64 (bi (selC r y).t.v), .int .u64 (bi (selC r y).t.m), .int .u64 ((selC r y).u.lo), .int .u64 ((selC r y).u.hi), .int .i64 ((selC r y).s.lo), .int .i64 ((selC r y).s.hi)], .bool r] = brV (if r = true then some (x, y) else none) := by cases r <;> rfl
section
variable {op : Int} {wide taken : Bool} {a b p q : C} {ok : Bool}
theorem br_1 (h0 : (!(Wd.jumpOk op)) = true) : branchC op wide taken a b = some (a, b) := by unfold branchC; rw [if_pos (nt h0)]
theorem br_2 (h0 : (!(Wd.jumpOk op)) = false) (h1 : ((aloneC a && aloneC b) && Wd.jumpOk op) = true) : branchC op wide taken a b = if ((bif (aloneC a && aloneC b) then Wd.jumpV op wide (oneC a) (oneC b) else false) == taken) = true then some (a, b) else none := by
  have g : (aloneC a && aloneC b) = true := by rw [Bool.and_eq_true] at h1; exact h1.1
  unfold branchC
  rw [if_neg (by rw [nb h0]; decide), if_pos g, g]
  rfl
theorem br_3 (h0 : (!(Wd.jumpOk op)) = false) (h1 : ((aloneC a && aloneC b) && Wd.jumpOk op) = false) (h2 : (!wide && (!(!wideJ op a b))) = true) : branchC op wide taken a b = some (a, b) := by
  unfold branchC
  rw [if_neg (by rw [nb h0]; decide), if_neg (by rw [al_of h1 (nb h0)]; decide), if_pos (by simpa using h2)]
theorem br_4 (ha : mayC a) (hb : mayC b) (hls : lsR op taken a b = ((p, q), ok)) (h0 : (!(Wd.jumpOk op)) = false) (h1 : ((aloneC a && aloneC b) && Wd.jumpOk op) = false) (h2 : (!wide && (!(!wideJ op a b))) = false) : branchC op wide taken a b = (optP ((p, q), ok)).bind normP := by
  unfold branchC
  rw [if_neg (by rw [nb h0]; decide), if_neg (by rw [al_of h1 (nb h0)]; decide), if_neg (by intro g; rw [Bool.not_not, g] at h2; cases h2), ls_learn op taken (nb h0) ha hb (al_of h1 (nb h0)), hls]
theorem no_n {x : Option C} (h : x.isSome = false) : x = none := by cases x <;> simp_all
theorem so_s {x : Option C} (h : x.isSome = true) : x = some (x.getD zeroC) := by cases x <;> simp_all
theorem ls_may (hop : Wd.jumpOk op = true) (ha : mayC a) (hb : mayC b) (hal : (aloneC a && aloneC b) = false) (hls : lsR op taken a b = ((p, q), ok)) (hok : ok = true) : mayC p ∧ mayC q := by
  have h := learn_ok (if taken = true then op else counterI op) (decide (op = 4) && !taken) ha hb
  rw [ls_learn op taken hop ha hb hal, hls, hok] at h
  obtain ⟨h1, h2⟩ := h p q rfl
  exact ⟨h1.1, h2.1⟩
end
end Go.Proofs.YtcimihckhobniaaGreat.Sc
