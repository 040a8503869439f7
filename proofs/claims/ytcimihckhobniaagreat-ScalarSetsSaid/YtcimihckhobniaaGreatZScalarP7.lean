/-
  What the program's layer 5 tells: contracts, seventh part: what makes what is learnt. Conditions: scalars may be, where that is said.
-/
import Derived.Test.YtcimihckhobniaaGreatZScalarP6
import Derived.Test.YtcimihckhobniaaGreatZGrowMap
namespace Go.Proofs.YtcimihckhobniaaGreat.Sc
open Go.RowKit Tn Ow Sp
set_option linter.unusedVariables false
set_option linter.unusedSimpArgs false
set_option maxRecDepth 100000
noncomputable def higher5_r0C : Code := (Tryz.f207.body.bind (Rg.findR 0)).getD .skip
set_option maxHeartbeats 4000000 in
theorem higher5_r0 (d : Int) {w0 : World}  {K : Act → World → Prop} {Q0 : Exit → Act → World → Prop} {u1 u2 u3 : Value}
    (hQ : ∀ c a d v w, Q0 (.panic c) (Act.put a d v) w → Q0 (.panic c) a w)
    (hK : ∀ (t2 : Value) (d1_0 : Nat) (z : World), Gw.Mem w0 [(d1_0, .cells #[.int .u64 d] 22)] z → K ⟨#[.int .u64 d, .pointer (some ⟨d1_0, 0, none⟩), t2, u3], []⟩ z) (wy : World) (M : Gw.Mem w0 [] wy) :
    higher5_r0C.wp Tryz.prog (Exit.then K Q0) ⟨#[.int .u64 d, u1, u2, u3], []⟩ wy := by
  have HK := Lib.hid hK
  clear hK
  conv => arg 2; whnf
  refine Gw.line _ M ?_
  clear M wy
  refine Gw.ss ?_
  intro w M K' hK
  go_simp
  have M1 := M.alloc (.cells #[.int .u64 d] 22)
  generalize w.heap.size = d1_0 at M1 ⊢
  refine hK.out _ _ _ M1 ?_
  clear hK K' M1 M w
  try simp only [Act.put, ptA, ptB, ptC]
  refine Gw.sw (.nilFunc) ?_
  try simp only [Act.put, ptA, ptB, ptC]
  exact fun z M => HK.out _ _ z M
noncomputable def higher5_r1C : Code := (Tryz.f207.body.bind (Rg.findR 1)).getD .skip
set_option maxHeartbeats 4000000 in
theorem higher5_r1 (d : Int) {w0 : World}  {K : Act → World → Prop} {Q0 : Exit → Act → World → Prop} {d1_0 : Nat} {u0 u2 u3 : Value}
    (hQ : ∀ c a d v w, Q0 (.panic c) (Act.put a d v) w → Q0 (.panic c) a w)
    (hK : ∀ (t3 : Value) (z : World), Gw.Mem w0 [(d1_0, .cells #[.int .u64 d] 22)] z → K ⟨#[u0, .pointer (some ⟨d1_0, 0, none⟩), .func (.func 230) #[] #[.pointer (some ⟨d1_0, 0, none⟩)], t3], []⟩ z) (wy : World) (M : Gw.Mem w0 [(d1_0, .cells #[.int .u64 d] 22)] wy) :
    higher5_r1C.wp Tryz.prog (Exit.then K Q0) ⟨#[u0, .pointer (some ⟨d1_0, 0, none⟩), u2, u3], []⟩ wy := by
  have HK := Lib.hid hK
  clear hK
  conv => arg 2; whnf
  refine Gw.line _ M ?_
  clear M wy
  refine Gw.sw (.func (.func 230) #[] #[.pointer (some ⟨d1_0, 0, none⟩)]) ?_
  try simp only [Act.put, ptA, ptB, ptC]
  refine Gw.sw (.func (.func 230) #[] #[.pointer (some ⟨d1_0, 0, none⟩)]) ?_
  try simp only [Act.put, ptA, ptB, ptC]
  exact fun z M => HK.out _ z M
set_option maxHeartbeats 4000000 in
theorem higher5 (d : Int) (w : World) :
    Calls Tryz.prog 207 #[.int .u64 d] w fun e w' => ∃ g, e = .returned (.func (.func 230) #[] #[.pointer (some ⟨g, 0, none⟩)]) ∧ Gw.Mem w [(g, .cells #[.int .u64 d] 22)] w' := by
  go_enter Tryz.func207, Tryz.ntmps207
  have M := Gw.Mem.nil w
  refine wp_seq (higher5_r0 d (fun _ _ d _ _ h => by cases d <;> exact h) ?_ _ M)
  clear M
  intro _ d1_0 z1 M
  refine wp_seq (higher5_r1 d (fun _ _ d _ _ h => by cases d <;> exact h) ?_ _ M)
  clear M
  intro _ z2 M
  refine wp_ret ?_
  try simp only [Exit.inBlock, Exit.then]
  refine bodyPost_ret (by simp [results, Tryz.results207, go_sem]; try rfl) rfl ?_
  exact ⟨_, rfl, M⟩
noncomputable def higherS5_r0C : Code := (Tryz.f208.body.bind (Rg.findR 0)).getD .skip
set_option maxHeartbeats 4000000 in
theorem higherS5_r0 (d : Int) {w0 : World}  {K : Act → World → Prop} {Q0 : Exit → Act → World → Prop} {u1 u2 u3 : Value}
    (hQ : ∀ c a d v w, Q0 (.panic c) (Act.put a d v) w → Q0 (.panic c) a w)
    (hK : ∀ (t2 : Value) (d1_0 : Nat) (z : World), Gw.Mem w0 [(d1_0, .cells #[.int .i64 d] 2)] z → K ⟨#[.int .i64 d, .pointer (some ⟨d1_0, 0, none⟩), t2, u3], []⟩ z) (wy : World) (M : Gw.Mem w0 [] wy) :
    higherS5_r0C.wp Tryz.prog (Exit.then K Q0) ⟨#[.int .i64 d, u1, u2, u3], []⟩ wy := by
  have HK := Lib.hid hK
  clear hK
  conv => arg 2; whnf
  refine Gw.line _ M ?_
  clear M wy
  refine Gw.ss ?_
  intro w M K' hK
  go_simp
  have M1 := M.alloc (.cells #[.int .i64 d] 2)
  generalize w.heap.size = d1_0 at M1 ⊢
  refine hK.out _ _ _ M1 ?_
  clear hK K' M1 M w
  try simp only [Act.put, ptA, ptB, ptC]
  refine Gw.sw (.nilFunc) ?_
  try simp only [Act.put, ptA, ptB, ptC]
  exact fun z M => HK.out _ _ z M
noncomputable def higherS5_r1C : Code := (Tryz.f208.body.bind (Rg.findR 1)).getD .skip
set_option maxHeartbeats 4000000 in
theorem higherS5_r1 (d : Int) {w0 : World}  {K : Act → World → Prop} {Q0 : Exit → Act → World → Prop} {d1_0 : Nat} {u0 u2 u3 : Value}
    (hQ : ∀ c a d v w, Q0 (.panic c) (Act.put a d v) w → Q0 (.panic c) a w)
    (hK : ∀ (t3 : Value) (z : World), Gw.Mem w0 [(d1_0, .cells #[.int .i64 d] 2)] z → K ⟨#[u0, .pointer (some ⟨d1_0, 0, none⟩), .func (.func 232) #[] #[.pointer (some ⟨d1_0, 0, none⟩)], t3], []⟩ z) (wy : World) (M : Gw.Mem w0 [(d1_0, .cells #[.int .i64 d] 2)] wy) :
    higherS5_r1C.wp Tryz.prog (Exit.then K Q0) ⟨#[u0, .pointer (some ⟨d1_0, 0, none⟩), u2, u3], []⟩ wy := by
  have HK := Lib.hid hK
  clear hK
  conv => arg 2; whnf
  refine Gw.line _ M ?_
  clear M wy
  refine Gw.sw (.func (.func 232) #[] #[.pointer (some ⟨d1_0, 0, none⟩)]) ?_
  try simp only [Act.put, ptA, ptB, ptC]
  refine Gw.sw (.func (.func 232) #[] #[.pointer (some ⟨d1_0, 0, none⟩)]) ?_
  try simp only [Act.put, ptA, ptB, ptC]
  exact fun z M => HK.out _ z M
set_option maxHeartbeats 4000000 in
theorem higherS5 (d : Int) (w : World) :
    Calls Tryz.prog 208 #[.int .i64 d] w fun e w' => ∃ g, e = .returned (.func (.func 232) #[] #[.pointer (some ⟨g, 0, none⟩)]) ∧ Gw.Mem w [(g, .cells #[.int .i64 d] 2)] w' := by
  go_enter Tryz.func208, Tryz.ntmps208
  have M := Gw.Mem.nil w
  refine wp_seq (higherS5_r0 d (fun _ _ d _ _ h => by cases d <;> exact h) ?_ _ M)
  clear M
  intro _ d1_0 z1 M
  refine wp_seq (higherS5_r1 d (fun _ _ d _ _ h => by cases d <;> exact h) ?_ _ M)
  clear M
  intro _ z2 M
  refine wp_ret ?_
  try simp only [Exit.inBlock, Exit.then]
  refine bodyPost_ret (by simp [results, Tryz.results208, go_sem]; try rfl) rfl ?_
  exact ⟨_, rfl, M⟩
noncomputable def turned5_r0C : Code := (Tryz.f211.body.bind (Rg.findR 0)).getD .skip
set_option maxHeartbeats 4000000 in
theorem turned5_r0 (n : FuncId) (cs : Array Value) {w0 : World}  {K : Act → World → Prop} {Q0 : Exit → Act → World → Prop} {u1 u2 u3 : Value}
    (hQ : ∀ c a d v w, Q0 (.panic c) (Act.put a d v) w → Q0 (.panic c) a w)
    (hK : ∀ (t2 : Value) (d1_0 : Nat) (z : World), Gw.Mem w0 [(d1_0, .cells #[.func (.func n) #[] cs] 92)] z → K ⟨#[.func (.func n) #[] cs, .pointer (some ⟨d1_0, 0, none⟩), t2, u3], []⟩ z) (wy : World) (M : Gw.Mem w0 [] wy) :
    turned5_r0C.wp Tryz.prog (Exit.then K Q0) ⟨#[.func (.func n) #[] cs, u1, u2, u3], []⟩ wy := by
  have HK := Lib.hid hK
  clear hK
  conv => arg 2; whnf
  refine Gw.line _ M ?_
  clear M wy
  refine Gw.ss ?_
  intro w M K' hK
  go_simp
  have M1 := M.alloc (.cells #[.func (.func n) #[] cs] 92)
  generalize w.heap.size = d1_0 at M1 ⊢
  refine hK.out _ _ _ M1 ?_
  clear hK K' M1 M w
  try simp only [Act.put, ptA, ptB, ptC]
  refine Gw.sw (.nilFunc) ?_
  try simp only [Act.put, ptA, ptB, ptC]
  exact fun z M => HK.out _ _ z M
noncomputable def turned5_r1C : Code := (Tryz.f211.body.bind (Rg.findR 1)).getD .skip
set_option maxHeartbeats 4000000 in
theorem turned5_r1 (n : FuncId) (cs : Array Value) {w0 : World}  {K : Act → World → Prop} {Q0 : Exit → Act → World → Prop} {d1_0 : Nat} {u0 u2 u3 : Value}
    (hQ : ∀ c a d v w, Q0 (.panic c) (Act.put a d v) w → Q0 (.panic c) a w)
    (hK : ∀ (t3 : Value) (z : World), Gw.Mem w0 [(d1_0, .cells #[.func (.func n) #[] cs] 92)] z → K ⟨#[u0, .pointer (some ⟨d1_0, 0, none⟩), .func (.func 235) #[] #[.pointer (some ⟨d1_0, 0, none⟩)], t3], []⟩ z) (wy : World) (M : Gw.Mem w0 [(d1_0, .cells #[.func (.func n) #[] cs] 92)] wy) :
    turned5_r1C.wp Tryz.prog (Exit.then K Q0) ⟨#[u0, .pointer (some ⟨d1_0, 0, none⟩), u2, u3], []⟩ wy := by
  have HK := Lib.hid hK
  clear hK
  conv => arg 2; whnf
  refine Gw.line _ M ?_
  clear M wy
  refine Gw.sw (.func (.func 235) #[] #[.pointer (some ⟨d1_0, 0, none⟩)]) ?_
  try simp only [Act.put, ptA, ptB, ptC]
  refine Gw.sw (.func (.func 235) #[] #[.pointer (some ⟨d1_0, 0, none⟩)]) ?_
  try simp only [Act.put, ptA, ptB, ptC]
  exact fun z M => HK.out _ z M
set_option maxHeartbeats 4000000 in
theorem turned5 (n : FuncId) (cs : Array Value) (w : World) :
    Calls Tryz.prog 211 #[.func (.func n) #[] cs] w fun e w' => ∃ g, e = .returned (.func (.func 235) #[] #[.pointer (some ⟨g, 0, none⟩)]) ∧ Gw.Mem w [(g, .cells #[.func (.func n) #[] cs] 92)] w' := by
  go_enter Tryz.func211, Tryz.ntmps211
  have M := Gw.Mem.nil w
  refine wp_seq (turned5_r0 n cs (fun _ _ d _ _ h => by cases d <;> exact h) ?_ _ M)
  clear M
  intro _ d1_0 z1 M
  refine wp_seq (turned5_r1 n cs (fun _ _ d _ _ h => by cases d <;> exact h) ?_ _ M)
  clear M
  intro _ z2 M
  refine wp_ret ?_
  try simp only [Exit.inBlock, Exit.then]
  refine bodyPost_ret (by simp [results, Tryz.results211, go_sem]; try rfl) rfl ?_
  exact ⟨_, rfl, M⟩
def above_u1 (d : Int) (a b : C) : C := ⟨a.t, apHi .u64 d a.u b.u, a.s⟩
def above_u2 (d : Int) (a b : C) : C := ⟨b.t, apLo .u64 d a.u b.u, b.s⟩
noncomputable def above_u_r0C : Code := (Tryz.f230.body.bind (Rg.findR 0)).getD .skip
set_option maxHeartbeats 4000000 in
theorem above_u_r0 (a b : C) (d : Int) (g : Nat) {w0 : World} (hg : w0.cell? ⟨g, 0, none⟩ = some (.int .u64 d)) {K : Act → World → Prop} {Q0 : Exit → Act → World → Prop} {u2 u3 u4 u5 u6 u7 u8 u9 u10 u11 u12 u13 u14 u15 u16 u17 u18 u19 u20 u21 u22 u23 u24 u25 u26 u27 : Value}
    (hQ : ∀ c a d v w, Q0 (.panic c) (Act.put a d v) w → Q0 (.panic c) a w)
    (hK : ∀ (t7 : Value) (d1_0 d1_1 d1_2 d1_3 : Nat) (z : World), Gw.Mem w0 [(d1_3, .cells #[.int .u64 0, .int .u64 0, .int .u64 0, .int .u64 0, .int .i64 0, .int .i64 0] 30), (d1_2, .cells #[.int .u64 0, .int .u64 0, .int .u64 0, .int .u64 0, .int .i64 0, .int .i64 0] 30), (d1_1, .cells #[.int .u64 (bi b.t.v), .int .u64 (bi b.t.m), .int .u64 b.u.lo, .int .u64 b.u.hi, .int .i64 b.s.lo, .int .i64 b.s.hi] 30), (d1_0, .cells #[.int .u64 (bi a.t.v), .int .u64 (bi a.t.m), .int .u64 a.u.lo, .int .u64 a.u.hi, .int .i64 a.s.lo, .int .i64 a.s.hi] 30)] z → K ⟨#[.agg #[.int .u64 (bi a.t.v), .int .u64 (bi a.t.m), .int .u64 a.u.lo, .int .u64 a.u.hi, .int .i64 a.s.lo, .int .i64 a.s.hi], .agg #[.int .u64 (bi b.t.v), .int .u64 (bi b.t.m), .int .u64 b.u.lo, .int .u64 b.u.hi, .int .i64 b.s.lo, .int .i64 b.s.hi], u2, .pointer (some ⟨d1_0, 0, none⟩), .pointer (some ⟨d1_1, 0, none⟩), .pointer (some ⟨d1_2, 0, none⟩), .pointer (some ⟨d1_3, 0, none⟩), t7, u8, u9, u10, u11, u12, u13, u14, u15, u16, u17, u18, u19, u20, u21, u22, u23, u24, u25, u26, u27], []⟩ z) (wy : World) (M : Gw.Mem w0 [] wy) :
    above_u_r0C.wp Tryz.prog (Exit.then K Q0) ⟨#[.agg #[.int .u64 (bi a.t.v), .int .u64 (bi a.t.m), .int .u64 a.u.lo, .int .u64 a.u.hi, .int .i64 a.s.lo, .int .i64 a.s.hi], .agg #[.int .u64 (bi b.t.v), .int .u64 (bi b.t.m), .int .u64 b.u.lo, .int .u64 b.u.hi, .int .i64 b.s.lo, .int .i64 b.s.hi], u2, u3, u4, u5, u6, u7, u8, u9, u10, u11, u12, u13, u14, u15, u16, u17, u18, u19, u20, u21, u22, u23, u24, u25, u26, u27], []⟩ wy := by
  have HK := Lib.hid hK
  clear hK
  conv => arg 2; whnf
  refine Gw.line _ M ?_
  clear M wy
  refine Gw.ss ?_
  intro w M K' hK
  go_simp
  have M1 := M.alloc (.cells #[.int .u64 (bi a.t.v), .int .u64 (bi a.t.m), .int .u64 a.u.lo, .int .u64 a.u.hi, .int .i64 a.s.lo, .int .i64 a.s.hi] 30)
  generalize w.heap.size = d1_0 at M1 ⊢
  refine hK.out _ _ _ M1 ?_
  clear hK K' M1 M w
  try simp only [Act.put, ptA, ptB, ptC]
  refine Gw.ss ?_
  intro w M K' hK
  go_simp
  have M1 := M.alloc (.cells #[.int .u64 (bi b.t.v), .int .u64 (bi b.t.m), .int .u64 b.u.lo, .int .u64 b.u.hi, .int .i64 b.s.lo, .int .i64 b.s.hi] 30)
  generalize w.heap.size = d1_1 at M1 ⊢
  refine hK.out _ _ _ M1 ?_
  clear hK K' M1 M w
  try simp only [Act.put, ptA, ptB, ptC]
  refine Gw.ss ?_
  intro w M K' hK
  go_simp
  have M1 := M.alloc (.cells #[.int .u64 0, .int .u64 0, .int .u64 0, .int .u64 0, .int .i64 0, .int .i64 0] 30)
  generalize w.heap.size = d1_2 at M1 ⊢
  refine hK.out _ _ _ M1 ?_
  clear hK K' M1 M w
  try simp only [Act.put, ptA, ptB, ptC]
  refine Gw.ss ?_
  intro w M K' hK
  go_simp
  have M1 := M.alloc (.cells #[.int .u64 0, .int .u64 0, .int .u64 0, .int .u64 0, .int .i64 0, .int .i64 0] 30)
  generalize w.heap.size = d1_3 at M1 ⊢
  refine hK.out _ _ _ M1 ?_
  clear hK K' M1 M w
  try simp only [Act.put, ptA, ptB, ptC]
  refine Gw.sw (.bool false) ?_
  try simp only [Act.put, ptA, ptB, ptC]
  exact fun z M => HK.out _ _ _ _ _ z M
noncomputable def above_u_r1C : Code := (Tryz.f230.body.bind (Rg.findR 1)).getD .skip
set_option maxHeartbeats 4000000 in
theorem above_u_r1 (a b : C) (d : Int) (g : Nat) {w0 : World} (hg : w0.cell? ⟨g, 0, none⟩ = some (.int .u64 d)) {K : Act → World → Prop} {Q0 : Exit → Act → World → Prop} {d1_3 d1_2 d1_1 d1_0 : Nat} {u0 u1 u5 u6 u7 u8 u9 u10 u11 u12 u13 u14 u15 u16 u17 u18 u19 u20 u21 u22 u23 u24 u25 u26 u27 : Value}
    (hQ : ∀ c a d v w, Q0 (.panic c) (Act.put a d v) w → Q0 (.panic c) a w)
    (hK : ∀ (t11 t12 t13 t14 t15 t16 t17 t18 t19 t20 : Value) (d2_10 d2_11 : Nat) (z : World), Gw.Mem w0 [(d2_11, .cells #[.int .u64 ((apLo .u64 d a.u b.u).lo), .int .u64 ((apLo .u64 d a.u b.u).hi)] 182), (d2_10, .cells #[.int .u64 ((apHi .u64 d a.u b.u).lo), .int .u64 ((apHi .u64 d a.u b.u).hi)] 182), (d1_3, .cells #[.int .u64 0, .int .u64 0, .int .u64 0, .int .u64 0, .int .i64 0, .int .i64 0] 30), (d1_2, .cells #[.int .u64 0, .int .u64 0, .int .u64 0, .int .u64 0, .int .i64 0, .int .i64 0] 30), (d1_1, .cells #[.int .u64 (bi b.t.v), .int .u64 (bi b.t.m), .int .u64 b.u.lo, .int .u64 b.u.hi, .int .i64 b.s.lo, .int .i64 b.s.hi] 30), (d1_0, .cells #[.int .u64 (bi a.t.v), .int .u64 (bi a.t.m), .int .u64 a.u.lo, .int .u64 a.u.hi, .int .i64 a.s.lo, .int .i64 a.s.hi] 30)] z → K ⟨#[u0, u1, .pointer (some ⟨g, 0, none⟩), .pointer (some ⟨d1_0, 0, none⟩), .pointer (some ⟨d1_1, 0, none⟩), u5, u6, u7, .pointer (some ⟨d2_10, 0, none⟩), .pointer (some ⟨d2_11, 0, none⟩), .bool (apOk .u64 d a.u b.u), t11, t12, t13, t14, t15, t16, t17, t18, t19, t20, u21, u22, u23, u24, u25, u26, u27], []⟩ z) (wy : World) (M : Gw.Mem w0 [(d1_3, .cells #[.int .u64 0, .int .u64 0, .int .u64 0, .int .u64 0, .int .i64 0, .int .i64 0] 30), (d1_2, .cells #[.int .u64 0, .int .u64 0, .int .u64 0, .int .u64 0, .int .i64 0, .int .i64 0] 30), (d1_1, .cells #[.int .u64 (bi b.t.v), .int .u64 (bi b.t.m), .int .u64 b.u.lo, .int .u64 b.u.hi, .int .i64 b.s.lo, .int .i64 b.s.hi] 30), (d1_0, .cells #[.int .u64 (bi a.t.v), .int .u64 (bi a.t.m), .int .u64 a.u.lo, .int .u64 a.u.hi, .int .i64 a.s.lo, .int .i64 a.s.hi] 30)] wy) :
    above_u_r1C.wp Tryz.prog (Exit.then K Q0) ⟨#[u0, u1, .pointer (some ⟨g, 0, none⟩), .pointer (some ⟨d1_0, 0, none⟩), .pointer (some ⟨d1_1, 0, none⟩), u5, u6, u7, u8, u9, u10, u11, u12, u13, u14, u15, u16, u17, u18, u19, u20, u21, u22, u23, u24, u25, u26, u27], []⟩ wy := by
  have HK := Lib.hid hK
  clear hK
  conv => arg 2; whnf
  refine Gw.line _ M ?_
  clear M wy
  refine Gw.sw (.pointer (some ⟨d1_0, 2, none⟩)) ?_
  try simp only [Act.put, ptA, ptB, ptC]
  refine Gw.sq (.agg #[.int .u64 a.u.lo, .int .u64 a.u.hi]) ?_ ?_
  · intro w M; have c := M.c2 3 2 3; go_simp
  try simp only [Act.put, ptA, ptB, ptC]
  refine Gw.sw (.pointer (some ⟨d1_1, 2, none⟩)) ?_
  try simp only [Act.put, ptA, ptB, ptC]
  refine Gw.sq (.agg #[.int .u64 b.u.lo, .int .u64 b.u.hi]) ?_ ?_
  · intro w M; have c := M.c2 2 2 3; go_simp
  try simp only [Act.put, ptA, ptB, ptC]
  refine Gw.sq (.int .u64 d) ?_ ?_
  · intro w M; have c0 := (M.below.cell (World.block_lt_of_cell? _ _ hg)).trans hg; go_simp
  try simp only [Act.put, ptA, ptB, ptC]
  refine Gw.sk (.tuple #[.agg #[.int .u64 ((apHi .u64 d a.u b.u).lo), .int .u64 ((apHi .u64 d a.u b.u).hi)], .agg #[.int .u64 ((apLo .u64 d a.u b.u).lo), .int .u64 ((apLo .u64 d a.u b.u).hi)], .bool (apOk .u64 d a.u b.u)]) 231 #[.agg #[.int .u64 a.u.lo, .int .u64 a.u.hi], .agg #[.int .u64 b.u.lo, .int .u64 b.u.hi], .int .u64 d] (fun w M => apart_u64 a.u b.u d w) ?_
  try simp only [Act.put, ptA, ptB, ptC]
  refine Gw.sw (.tuple #[.agg #[.int .u64 ((apHi .u64 d a.u b.u).lo), .int .u64 ((apHi .u64 d a.u b.u).hi)], .agg #[.int .u64 ((apLo .u64 d a.u b.u).lo), .int .u64 ((apLo .u64 d a.u b.u).hi)], .bool (apOk .u64 d a.u b.u)]) ?_
  try simp only [Act.put, ptA, ptB, ptC]
  refine Gw.sw (.agg #[.int .u64 ((apHi .u64 d a.u b.u).lo), .int .u64 ((apHi .u64 d a.u b.u).hi)]) ?_
  try simp only [Act.put, ptA, ptB, ptC]
  refine Gw.sw (.agg #[.int .u64 ((apLo .u64 d a.u b.u).lo), .int .u64 ((apLo .u64 d a.u b.u).hi)]) ?_
  try simp only [Act.put, ptA, ptB, ptC]
  refine Gw.sw (.bool (apOk .u64 d a.u b.u)) ?_
  try simp only [Act.put, ptA, ptB, ptC]
  refine Gw.ss ?_
  intro w M K' hK
  go_simp
  have M1 := M.alloc (.cells #[.int .u64 0, .int .u64 0] 182)
  generalize w.heap.size = d2_10 at M1 ⊢
  refine hK.out _ _ _ M1 ?_
  clear hK K' M1 M w
  try simp only [Act.put, ptA, ptB, ptC]
  refine Gw.ss ?_
  intro w M K' hK
  go_simp
  have M1 := M.alloc (.cells #[.int .u64 0, .int .u64 0] 182)
  generalize w.heap.size = d2_11 at M1 ⊢
  refine hK.out _ _ _ M1 ?_
  clear hK K' M1 M w
  try simp only [Act.put, ptA, ptB, ptC]
  refine Gw.ss ?_
  intro w M K' hK
  have c := M.c2 1 0 1
  have f := M.f2 1 0 1
  go_simp
  refine hK.out _ _ _ ((M.set 1 0 _).set 1 1 _) ?_
  clear hK K' c f M w
  refine Gw.ss ?_
  intro w M K' hK
  have c := M.c2 0 0 1
  have f := M.f2 0 0 1
  go_simp
  refine hK.out _ _ _ ((M.set 0 0 _).set 0 1 _) ?_
  clear hK K' c f M w
  refine Gw.sw (.bool (apOk .u64 d a.u b.u)) ?_
  try simp only [Act.put, ptA, ptB, ptC]
  exact fun z M => HK.out _ _ _ _ _ _ _ _ _ _ _ _ z M
noncomputable def above_u_r2C : Code := (Tryz.f230.body.bind (Rg.findR 2)).getD .skip
set_option maxHeartbeats 4000000 in
theorem above_u_r2 (a b : C) (d : Int) (g : Nat) {w0 : World} (hg : w0.cell? ⟨g, 0, none⟩ = some (.int .u64 d)) {K : Act → World → Prop} {Q0 : Exit → Act → World → Prop} {d2_11 d2_10 d1_3 d1_2 d1_1 d1_0 : Nat} {u0 u1 u2 u5 u6 u7 u10 u11 u12 u13 u14 u15 u16 u17 u18 u19 u20 u21 u22 u23 u24 u25 u26 u27 : Value}
    (hQ : ∀ c a d v w, Q0 (.panic c) (Act.put a d v) w → Q0 (.panic c) a w)
    (hK : ∀ (t21 t22 t23 t24 : Value) (z : World), Gw.Mem w0 [(d2_11, .cells #[.int .u64 ((apLo .u64 d a.u b.u).lo), .int .u64 ((apLo .u64 d a.u b.u).hi)] 182), (d2_10, .cells #[.int .u64 ((apHi .u64 d a.u b.u).lo), .int .u64 ((apHi .u64 d a.u b.u).hi)] 182), (d1_3, .cells #[.int .u64 0, .int .u64 0, .int .u64 0, .int .u64 0, .int .i64 0, .int .i64 0] 30), (d1_2, .cells #[.int .u64 0, .int .u64 0, .int .u64 0, .int .u64 0, .int .i64 0, .int .i64 0] 30), (d1_1, .cells #[.int .u64 (bi b.t.v), .int .u64 (bi b.t.m), .int .u64 ((apLo .u64 d a.u b.u).lo), .int .u64 ((apLo .u64 d a.u b.u).hi), .int .i64 b.s.lo, .int .i64 b.s.hi] 30), (d1_0, .cells #[.int .u64 (bi a.t.v), .int .u64 (bi a.t.m), .int .u64 ((apHi .u64 d a.u b.u).lo), .int .u64 ((apHi .u64 d a.u b.u).hi), .int .i64 a.s.lo, .int .i64 a.s.hi] 30)] z → K ⟨#[u0, u1, u2, .pointer (some ⟨d1_0, 0, none⟩), .pointer (some ⟨d1_1, 0, none⟩), u5, u6, u7, .pointer (some ⟨d2_10, 0, none⟩), .pointer (some ⟨d2_11, 0, none⟩), u10, u11, u12, u13, u14, u15, u16, u17, u18, u19, u20, t21, t22, t23, t24, u25, u26, u27], []⟩ z) (wy : World) (M : Gw.Mem w0 [(d2_11, .cells #[.int .u64 ((apLo .u64 d a.u b.u).lo), .int .u64 ((apLo .u64 d a.u b.u).hi)] 182), (d2_10, .cells #[.int .u64 ((apHi .u64 d a.u b.u).lo), .int .u64 ((apHi .u64 d a.u b.u).hi)] 182), (d1_3, .cells #[.int .u64 0, .int .u64 0, .int .u64 0, .int .u64 0, .int .i64 0, .int .i64 0] 30), (d1_2, .cells #[.int .u64 0, .int .u64 0, .int .u64 0, .int .u64 0, .int .i64 0, .int .i64 0] 30), (d1_1, .cells #[.int .u64 (bi b.t.v), .int .u64 (bi b.t.m), .int .u64 b.u.lo, .int .u64 b.u.hi, .int .i64 b.s.lo, .int .i64 b.s.hi] 30), (d1_0, .cells #[.int .u64 (bi a.t.v), .int .u64 (bi a.t.m), .int .u64 a.u.lo, .int .u64 a.u.hi, .int .i64 a.s.lo, .int .i64 a.s.hi] 30)] wy) :
    above_u_r2C.wp Tryz.prog (Exit.then K Q0) ⟨#[u0, u1, u2, .pointer (some ⟨d1_0, 0, none⟩), .pointer (some ⟨d1_1, 0, none⟩), u5, u6, u7, .pointer (some ⟨d2_10, 0, none⟩), .pointer (some ⟨d2_11, 0, none⟩), u10, u11, u12, u13, u14, u15, u16, u17, u18, u19, u20, u21, u22, u23, u24, u25, u26, u27], []⟩ wy := by
  have HK := Lib.hid hK
  clear hK
  have hq : ∀ c a d v w, Exit.then K Q0 (.panic c) (Act.put a d v) w → Exit.then K Q0 (.panic c) a w := hQ
  conv => arg 2; whnf
  refine Gw.draw [3, 5] (Gw.Mem w0 [(d2_11, .cells #[.int .u64 ((apLo .u64 d a.u b.u).lo), .int .u64 ((apLo .u64 d a.u b.u).hi)] 182), (d2_10, .cells #[.int .u64 ((apHi .u64 d a.u b.u).lo), .int .u64 ((apHi .u64 d a.u b.u).hi)] 182), (d1_3, .cells #[.int .u64 0, .int .u64 0, .int .u64 0, .int .u64 0, .int .i64 0, .int .i64 0] 30), (d1_2, .cells #[.int .u64 0, .int .u64 0, .int .u64 0, .int .u64 0, .int .i64 0, .int .i64 0] 30)]) _ (by kernel_rfl) M.drew ?_
  have hG : ∀ z, Gw.Mem w0 [(d2_11, .cells #[.int .u64 ((apLo .u64 d a.u b.u).lo), .int .u64 ((apLo .u64 d a.u b.u).hi)] 182), (d2_10, .cells #[.int .u64 ((apHi .u64 d a.u b.u).lo), .int .u64 ((apHi .u64 d a.u b.u).hi)] 182), (d1_3, .cells #[.int .u64 0, .int .u64 0, .int .u64 0, .int .u64 0, .int .i64 0, .int .i64 0] 30), (d1_2, .cells #[.int .u64 0, .int .u64 0, .int .u64 0, .int .u64 0, .int .i64 0, .int .i64 0] 30), (d1_1, .cells #[.int .u64 (bi b.t.v), .int .u64 (bi b.t.m), .int .u64 b.u.lo, .int .u64 b.u.hi, .int .i64 b.s.lo, .int .i64 b.s.hi] 30), (d1_0, .cells #[.int .u64 (bi a.t.v), .int .u64 (bi a.t.m), .int .u64 a.u.lo, .int .u64 a.u.hi, .int .i64 a.s.lo, .int .i64 a.s.hi] 30)] z → Gw.Mem w0 [(d2_11, .cells #[.int .u64 ((apLo .u64 d a.u b.u).lo), .int .u64 ((apLo .u64 d a.u b.u).hi)] 182), (d2_10, .cells #[.int .u64 ((apHi .u64 d a.u b.u).lo), .int .u64 ((apHi .u64 d a.u b.u).hi)] 182), (d1_3, .cells #[.int .u64 0, .int .u64 0, .int .u64 0, .int .u64 0, .int .i64 0, .int .i64 0] 30), (d1_2, .cells #[.int .u64 0, .int .u64 0, .int .u64 0, .int .u64 0, .int .i64 0, .int .i64 0] 30)] z := fun _ h => h.sub (Gw.cc (Gw.cc (Gw.cc (Gw.cc (Gw.cd (Gw.cd Gw.cn))))))
  clear M wy
  refine Gw.tg 0 (.agg #[.int .u64 ((apHi .u64 d a.u b.u).lo), .int .u64 ((apHi .u64 d a.u b.u).hi)]) ?_ ?_
  · intro w M; have c := M.c2 1 0 1; go_simp
  try simp only [Act.put, ptA, ptB, ptC]
  refine Gw.tg 1 (.agg #[.int .u64 ((apLo .u64 d a.u b.u).lo), .int .u64 ((apLo .u64 d a.u b.u).hi)]) ?_ ?_
  · intro w M; have c := M.c2 0 0 1; go_simp
  try simp only [Act.put, ptA, ptB, ptC]
  refine Gw.tw 2 (.pointer (some ⟨d1_0, 2, none⟩)) ?_
  try simp only [Act.put, ptA, ptB, ptC]
  refine Gw.ts 3 rfl (by kernel_rfl) ?_
  intro w M K' hK
  have c := M.c2 5 2 3
  have f := M.f2 5 2 3
  go_simp
  refine hK.out _ _ _ Gw.Mem.stays (fun h => by cases h) (fun _ h => h.sub (Gw.cc (Gw.cc (Gw.cc (Gw.cc (Gw.cd (Gw.cd Gw.cn))))))) ((M.set 5 2 _).set 5 3 _) ?_
  clear hK K' c f M w
  refine Gw.tw 4 (.pointer (some ⟨d1_1, 2, none⟩)) ?_ (hG := (fun _ h => h.sub (Gw.cc (Gw.cc (Gw.cc (Gw.cc (Gw.cd (Gw.cd Gw.cn))))))))
  try simp only [Act.put, ptA, ptB, ptC]
  refine Gw.ts 5 rfl (by kernel_rfl) ?_
  intro w M K' hK
  have c := M.c2 4 2 3
  have f := M.f2 4 2 3
  go_simp
  refine hK.out _ _ _ Gw.Mem.stays (fun h => by cases h) (fun _ h => h.sub (Gw.cc (Gw.cc (Gw.cc (Gw.cc (Gw.cd (Gw.cd Gw.cn))))))) ((M.set 4 2 _).set 4 3 _) ?_
  clear hK K' c f M w
  exact Gw.td (by kernel_rfl) (fun z M => HK.out _ _ _ _ z M) _
noncomputable def above_u_r3C : Code := (Tryz.f230.body.bind (Rg.findR 3)).getD .skip
set_option maxHeartbeats 4000000 in
theorem above_u_r3 (a b : C) (d : Int) (g : Nat) {w0 : World} (hg : w0.cell? ⟨g, 0, none⟩ = some (.int .u64 d)) {K : Act → World → Prop} {Q0 : Exit → Act → World → Prop} {d2_11 d2_10 d1_3 d1_2 d1_1 d1_0 : Nat} {u0 u1 u2 u7 u8 u9 u11 u12 u13 u14 u15 u16 u17 u18 u19 u20 u21 u22 u23 u24 u25 u26 u27 : Value}
    (hQ : ∀ c a d v w, Q0 (.panic c) (Act.put a d v) w → Q0 (.panic c) a w)
    (hK : ∀ (t25 t26 t27 : Value) (z : World), Gw.Mem w0 [(d2_11, .cells #[.int .u64 ((apLo .u64 d a.u b.u).lo), .int .u64 ((apLo .u64 d a.u b.u).hi)] 182), (d2_10, .cells #[.int .u64 ((apHi .u64 d a.u b.u).lo), .int .u64 ((apHi .u64 d a.u b.u).hi)] 182), (d1_3, .cells #[.int .u64 (bi b.t.v), .int .u64 (bi b.t.m), .int .u64 ((apLo .u64 d a.u b.u).lo), .int .u64 ((apLo .u64 d a.u b.u).hi), .int .i64 b.s.lo, .int .i64 b.s.hi] 30), (d1_2, .cells #[.int .u64 (bi a.t.v), .int .u64 (bi a.t.m), .int .u64 ((apHi .u64 d a.u b.u).lo), .int .u64 ((apHi .u64 d a.u b.u).hi), .int .i64 a.s.lo, .int .i64 a.s.hi] 30), (d1_1, .cells #[.int .u64 (bi b.t.v), .int .u64 (bi b.t.m), .int .u64 ((apLo .u64 d a.u b.u).lo), .int .u64 ((apLo .u64 d a.u b.u).hi), .int .i64 b.s.lo, .int .i64 b.s.hi] 30), (d1_0, .cells #[.int .u64 (bi a.t.v), .int .u64 (bi a.t.m), .int .u64 ((apHi .u64 d a.u b.u).lo), .int .u64 ((apHi .u64 d a.u b.u).hi), .int .i64 a.s.lo, .int .i64 a.s.hi] 30)] z → K ⟨#[u0, u1, u2, .pointer (some ⟨d1_0, 0, none⟩), .pointer (some ⟨d1_1, 0, none⟩), .pointer (some ⟨d1_2, 0, none⟩), .pointer (some ⟨d1_3, 0, none⟩), .bool (apOk .u64 d a.u b.u), u8, u9, .bool (apOk .u64 d a.u b.u), u11, u12, u13, u14, u15, u16, u17, u18, u19, u20, u21, u22, u23, u24, t25, t26, t27], []⟩ z) (wy : World) (M : Gw.Mem w0 [(d2_11, .cells #[.int .u64 ((apLo .u64 d a.u b.u).lo), .int .u64 ((apLo .u64 d a.u b.u).hi)] 182), (d2_10, .cells #[.int .u64 ((apHi .u64 d a.u b.u).lo), .int .u64 ((apHi .u64 d a.u b.u).hi)] 182), (d1_3, .cells #[.int .u64 0, .int .u64 0, .int .u64 0, .int .u64 0, .int .i64 0, .int .i64 0] 30), (d1_2, .cells #[.int .u64 0, .int .u64 0, .int .u64 0, .int .u64 0, .int .i64 0, .int .i64 0] 30), (d1_1, .cells #[.int .u64 (bi b.t.v), .int .u64 (bi b.t.m), .int .u64 ((apLo .u64 d a.u b.u).lo), .int .u64 ((apLo .u64 d a.u b.u).hi), .int .i64 b.s.lo, .int .i64 b.s.hi] 30), (d1_0, .cells #[.int .u64 (bi a.t.v), .int .u64 (bi a.t.m), .int .u64 ((apHi .u64 d a.u b.u).lo), .int .u64 ((apHi .u64 d a.u b.u).hi), .int .i64 a.s.lo, .int .i64 a.s.hi] 30)] wy) :
    above_u_r3C.wp Tryz.prog (Exit.then K Q0) ⟨#[u0, u1, u2, .pointer (some ⟨d1_0, 0, none⟩), .pointer (some ⟨d1_1, 0, none⟩), .pointer (some ⟨d1_2, 0, none⟩), .pointer (some ⟨d1_3, 0, none⟩), u7, u8, u9, .bool (apOk .u64 d a.u b.u), u11, u12, u13, u14, u15, u16, u17, u18, u19, u20, u21, u22, u23, u24, u25, u26, u27], []⟩ wy := by
  have HK := Lib.hid hK
  clear hK
  have hq : ∀ c a d v w, Exit.then K Q0 (.panic c) (Act.put a d v) w → Exit.then K Q0 (.panic c) a w := hQ
  conv => arg 2; whnf
  refine Gw.draw [3, 4] (Gw.Mem w0 [(d2_11, .cells #[.int .u64 ((apLo .u64 d a.u b.u).lo), .int .u64 ((apLo .u64 d a.u b.u).hi)] 182), (d2_10, .cells #[.int .u64 ((apHi .u64 d a.u b.u).lo), .int .u64 ((apHi .u64 d a.u b.u).hi)] 182), (d1_1, .cells #[.int .u64 (bi b.t.v), .int .u64 (bi b.t.m), .int .u64 ((apLo .u64 d a.u b.u).lo), .int .u64 ((apLo .u64 d a.u b.u).hi), .int .i64 b.s.lo, .int .i64 b.s.hi] 30), (d1_0, .cells #[.int .u64 (bi a.t.v), .int .u64 (bi a.t.m), .int .u64 ((apHi .u64 d a.u b.u).lo), .int .u64 ((apHi .u64 d a.u b.u).hi), .int .i64 a.s.lo, .int .i64 a.s.hi] 30)]) _ (by kernel_rfl) M.drew ?_
  have hG : ∀ z, Gw.Mem w0 [(d2_11, .cells #[.int .u64 ((apLo .u64 d a.u b.u).lo), .int .u64 ((apLo .u64 d a.u b.u).hi)] 182), (d2_10, .cells #[.int .u64 ((apHi .u64 d a.u b.u).lo), .int .u64 ((apHi .u64 d a.u b.u).hi)] 182), (d1_3, .cells #[.int .u64 0, .int .u64 0, .int .u64 0, .int .u64 0, .int .i64 0, .int .i64 0] 30), (d1_2, .cells #[.int .u64 0, .int .u64 0, .int .u64 0, .int .u64 0, .int .i64 0, .int .i64 0] 30), (d1_1, .cells #[.int .u64 (bi b.t.v), .int .u64 (bi b.t.m), .int .u64 ((apLo .u64 d a.u b.u).lo), .int .u64 ((apLo .u64 d a.u b.u).hi), .int .i64 b.s.lo, .int .i64 b.s.hi] 30), (d1_0, .cells #[.int .u64 (bi a.t.v), .int .u64 (bi a.t.m), .int .u64 ((apHi .u64 d a.u b.u).lo), .int .u64 ((apHi .u64 d a.u b.u).hi), .int .i64 a.s.lo, .int .i64 a.s.hi] 30)] z → Gw.Mem w0 [(d2_11, .cells #[.int .u64 ((apLo .u64 d a.u b.u).lo), .int .u64 ((apLo .u64 d a.u b.u).hi)] 182), (d2_10, .cells #[.int .u64 ((apHi .u64 d a.u b.u).lo), .int .u64 ((apHi .u64 d a.u b.u).hi)] 182), (d1_1, .cells #[.int .u64 (bi b.t.v), .int .u64 (bi b.t.m), .int .u64 ((apLo .u64 d a.u b.u).lo), .int .u64 ((apLo .u64 d a.u b.u).hi), .int .i64 b.s.lo, .int .i64 b.s.hi] 30), (d1_0, .cells #[.int .u64 (bi a.t.v), .int .u64 (bi a.t.m), .int .u64 ((apHi .u64 d a.u b.u).lo), .int .u64 ((apHi .u64 d a.u b.u).hi), .int .i64 a.s.lo, .int .i64 a.s.hi] 30)] z := fun _ h => h.sub (Gw.cc (Gw.cc (Gw.cd (Gw.cd (Gw.cc (Gw.cc Gw.cn))))))
  clear M wy
  refine Gw.tg 0 (.agg #[.int .u64 (bi a.t.v), .int .u64 (bi a.t.m), .int .u64 ((apHi .u64 d a.u b.u).lo), .int .u64 ((apHi .u64 d a.u b.u).hi), .int .i64 a.s.lo, .int .i64 a.s.hi]) ?_ ?_
  · intro w M; have c := M.c6 3; go_simp
  try simp only [Act.put, ptA, ptB, ptC]
  refine Gw.tg 1 (.agg #[.int .u64 (bi b.t.v), .int .u64 (bi b.t.m), .int .u64 ((apLo .u64 d a.u b.u).lo), .int .u64 ((apLo .u64 d a.u b.u).hi), .int .i64 b.s.lo, .int .i64 b.s.hi]) ?_ ?_
  · intro w M; have c := M.c6 2; go_simp
  try simp only [Act.put, ptA, ptB, ptC]
  refine Gw.tw 2 (.bool (apOk .u64 d a.u b.u)) ?_
  try simp only [Act.put, ptA, ptB, ptC]
  refine Gw.ts 3 rfl (by kernel_rfl) ?_
  intro w M K' hK
  have c := M.c6 3
  have f := M.f6 3
  go_simp
  refine hK.out _ _ _ Gw.Mem.stays (fun h => by cases h) (fun _ h => h.sub (Gw.cc (Gw.cc (Gw.cd (Gw.cd (Gw.cc (Gw.cc Gw.cn))))))) ((((((M.set 3 0 _).set 3 1 _).set 3 2 _).set 3 3 _).set 3 4 _).set 3 5 _) ?_
  clear hK K' c f M w
  refine Gw.ts 4 rfl (by kernel_rfl) ?_
  intro w M K' hK
  have c := M.c6 2
  have f := M.f6 2
  go_simp
  refine hK.out _ _ _ Gw.Mem.stays (fun h => by cases h) (fun _ h => h.sub (Gw.cc (Gw.cc (Gw.cd (Gw.cd (Gw.cc (Gw.cc Gw.cn))))))) ((((((M.set 2 0 _).set 2 1 _).set 2 2 _).set 2 3 _).set 2 4 _).set 2 5 _) ?_
  clear hK K' c f M w
  refine Gw.tw 5 (.bool (apOk .u64 d a.u b.u)) ?_ (hG := (fun _ h => h.sub (Gw.cc (Gw.cc (Gw.cd (Gw.cd (Gw.cc (Gw.cc Gw.cn))))))))
  try simp only [Act.put, ptA, ptB, ptC]
  exact Gw.td (by kernel_rfl) (fun z M => HK.out _ _ _ z M) _
set_option maxHeartbeats 4000000 in
theorem above_u (a b : C) (d : Int) (g : Nat) (w : World) (hg : w.cell? ⟨g, 0, none⟩ = some (.int .u64 d)):
    Calls Tryz.prog 230 #[.agg #[.int .u64 (bi a.t.v), .int .u64 (bi a.t.m), .int .u64 a.u.lo, .int .u64 a.u.hi, .int .i64 a.s.lo, .int .i64 a.s.hi], .agg #[.int .u64 (bi b.t.v), .int .u64 (bi b.t.m), .int .u64 b.u.lo, .int .u64 b.u.hi, .int .i64 b.s.lo, .int .i64 b.s.hi], .pointer (some ⟨g, 0, none⟩)] w fun e w' => e = .returned (.tuple #[.agg #[.int .u64 (bi (above_u1 d a b).t.v), .int .u64 (bi (above_u1 d a b).t.m), .int .u64 ((above_u1 d a b).u.lo), .int .u64 ((above_u1 d a b).u.hi), .int .i64 ((above_u1 d a b).s.lo), .int .i64 ((above_u1 d a b).s.hi)], .agg #[.int .u64 (bi (above_u2 d a b).t.v), .int .u64 (bi (above_u2 d a b).t.m), .int .u64 ((above_u2 d a b).u.lo), .int .u64 ((above_u2 d a b).u.hi), .int .i64 ((above_u2 d a b).s.lo), .int .i64 ((above_u2 d a b).s.hi)], .bool (apOk .u64 d a.u b.u)]) ∧ Below w.heap.size w w' := by
  go_enter Tryz.func230, Tryz.ntmps230
  have M := Gw.Mem.nil w
  refine wp_seq (above_u_r0 a b d g hg (fun _ _ d _ _ h => by cases d <;> exact h) ?_ _ M)
  clear M
  intro _ d1_0 d1_1 d1_2 d1_3 z1 M
  refine wp_seq (above_u_r1 a b d g hg (fun _ _ d _ _ h => by cases d <;> exact h) ?_ _ M)
  clear M
  intro _ _ _ _ _ _ _ _ _ _ d2_10 d2_11 z2 M
  refine wp_seq (above_u_r2 a b d g hg (fun _ _ d _ _ h => by cases d <;> exact h) ?_ _ M)
  clear M
  intro _ _ _ _ z3 M
  refine wp_seq (above_u_r3 a b d g hg (fun _ _ d _ _ h => by cases d <;> exact h) ?_ _ M)
  clear M
  intro _ _ _ z4 M
  refine wp_ret ?_
  try simp only [Exit.inBlock, Exit.then]
  have g0 := M.cell 3 0
  have g1 := M.cell 3 1
  have g2 := M.cell 3 2
  have g3 := M.cell 3 3
  have g4 := M.cell 3 4
  have g5 := M.cell 3 5
  have g6 := M.cell 2 0
  have g7 := M.cell 2 1
  have g8 := M.cell 2 2
  have g9 := M.cell 2 3
  have g10 := M.cell 2 4
  have g11 := M.cell 2 5
  refine bodyPost_ret (by simp [results, Tryz.results230, g0, g1, g2, g3, g4, g5, g6, g7, g8, g9, g10, g11, go_sem]; try rfl) rfl ?_
  exact ⟨rfl, M.below⟩
def above_s1 (d : Int) (a b : C) : C := ⟨a.t, a.u, apHi .i64 d a.s b.s⟩
def above_s2 (d : Int) (a b : C) : C := ⟨b.t, b.u, apLo .i64 d a.s b.s⟩
noncomputable def above_s_r0C : Code := (Tryz.f232.body.bind (Rg.findR 0)).getD .skip
set_option maxHeartbeats 4000000 in
theorem above_s_r0 (a b : C) (d : Int) (g : Nat) {w0 : World} (hg : w0.cell? ⟨g, 0, none⟩ = some (.int .i64 d)) {K : Act → World → Prop} {Q0 : Exit → Act → World → Prop} {u2 u3 u4 u5 u6 u7 u8 u9 u10 u11 u12 u13 u14 u15 u16 u17 u18 u19 u20 u21 u22 u23 u24 u25 u26 u27 : Value}
    (hQ : ∀ c a d v w, Q0 (.panic c) (Act.put a d v) w → Q0 (.panic c) a w)
    (hK : ∀ (t7 : Value) (d1_0 d1_1 d1_2 d1_3 : Nat) (z : World), Gw.Mem w0 [(d1_3, .cells #[.int .u64 0, .int .u64 0, .int .u64 0, .int .u64 0, .int .i64 0, .int .i64 0] 30), (d1_2, .cells #[.int .u64 0, .int .u64 0, .int .u64 0, .int .u64 0, .int .i64 0, .int .i64 0] 30), (d1_1, .cells #[.int .u64 (bi b.t.v), .int .u64 (bi b.t.m), .int .u64 b.u.lo, .int .u64 b.u.hi, .int .i64 b.s.lo, .int .i64 b.s.hi] 30), (d1_0, .cells #[.int .u64 (bi a.t.v), .int .u64 (bi a.t.m), .int .u64 a.u.lo, .int .u64 a.u.hi, .int .i64 a.s.lo, .int .i64 a.s.hi] 30)] z → K ⟨#[.agg #[.int .u64 (bi a.t.v), .int .u64 (bi a.t.m), .int .u64 a.u.lo, .int .u64 a.u.hi, .int .i64 a.s.lo, .int .i64 a.s.hi], .agg #[.int .u64 (bi b.t.v), .int .u64 (bi b.t.m), .int .u64 b.u.lo, .int .u64 b.u.hi, .int .i64 b.s.lo, .int .i64 b.s.hi], u2, .pointer (some ⟨d1_0, 0, none⟩), .pointer (some ⟨d1_1, 0, none⟩), .pointer (some ⟨d1_2, 0, none⟩), .pointer (some ⟨d1_3, 0, none⟩), t7, u8, u9, u10, u11, u12, u13, u14, u15, u16, u17, u18, u19, u20, u21, u22, u23, u24, u25, u26, u27], []⟩ z) (wy : World) (M : Gw.Mem w0 [] wy) :
    above_s_r0C.wp Tryz.prog (Exit.then K Q0) ⟨#[.agg #[.int .u64 (bi a.t.v), .int .u64 (bi a.t.m), .int .u64 a.u.lo, .int .u64 a.u.hi, .int .i64 a.s.lo, .int .i64 a.s.hi], .agg #[.int .u64 (bi b.t.v), .int .u64 (bi b.t.m), .int .u64 b.u.lo, .int .u64 b.u.hi, .int .i64 b.s.lo, .int .i64 b.s.hi], u2, u3, u4, u5, u6, u7, u8, u9, u10, u11, u12, u13, u14, u15, u16, u17, u18, u19, u20, u21, u22, u23, u24, u25, u26, u27], []⟩ wy := by
  have HK := Lib.hid hK
  clear hK
  conv => arg 2; whnf
  refine Gw.line _ M ?_
  clear M wy
  refine Gw.ss ?_
  intro w M K' hK
  go_simp
  have M1 := M.alloc (.cells #[.int .u64 (bi a.t.v), .int .u64 (bi a.t.m), .int .u64 a.u.lo, .int .u64 a.u.hi, .int .i64 a.s.lo, .int .i64 a.s.hi] 30)
  generalize w.heap.size = d1_0 at M1 ⊢
  refine hK.out _ _ _ M1 ?_
  clear hK K' M1 M w
  try simp only [Act.put, ptA, ptB, ptC]
  refine Gw.ss ?_
  intro w M K' hK
  go_simp
  have M1 := M.alloc (.cells #[.int .u64 (bi b.t.v), .int .u64 (bi b.t.m), .int .u64 b.u.lo, .int .u64 b.u.hi, .int .i64 b.s.lo, .int .i64 b.s.hi] 30)
  generalize w.heap.size = d1_1 at M1 ⊢
  refine hK.out _ _ _ M1 ?_
  clear hK K' M1 M w
  try simp only [Act.put, ptA, ptB, ptC]
  refine Gw.ss ?_
  intro w M K' hK
  go_simp
  have M1 := M.alloc (.cells #[.int .u64 0, .int .u64 0, .int .u64 0, .int .u64 0, .int .i64 0, .int .i64 0] 30)
  generalize w.heap.size = d1_2 at M1 ⊢
  refine hK.out _ _ _ M1 ?_
  clear hK K' M1 M w
  try simp only [Act.put, ptA, ptB, ptC]
  refine Gw.ss ?_
  intro w M K' hK
  go_simp
  have M1 := M.alloc (.cells #[.int .u64 0, .int .u64 0, .int .u64 0, .int .u64 0, .int .i64 0, .int .i64 0] 30)
  generalize w.heap.size = d1_3 at M1 ⊢
  refine hK.out _ _ _ M1 ?_
  clear hK K' M1 M w
  try simp only [Act.put, ptA, ptB, ptC]
  refine Gw.sw (.bool false) ?_
  try simp only [Act.put, ptA, ptB, ptC]
  exact fun z M => HK.out _ _ _ _ _ z M
noncomputable def above_s_r1C : Code := (Tryz.f232.body.bind (Rg.findR 1)).getD .skip
set_option maxHeartbeats 4000000 in
theorem above_s_r1 (a b : C) (d : Int) (g : Nat) {w0 : World} (hg : w0.cell? ⟨g, 0, none⟩ = some (.int .i64 d)) {K : Act → World → Prop} {Q0 : Exit → Act → World → Prop} {d1_3 d1_2 d1_1 d1_0 : Nat} {u0 u1 u5 u6 u7 u8 u9 u10 u11 u12 u13 u14 u15 u16 u17 u18 u19 u20 u21 u22 u23 u24 u25 u26 u27 : Value}
    (hQ : ∀ c a d v w, Q0 (.panic c) (Act.put a d v) w → Q0 (.panic c) a w)
    (hK : ∀ (t11 t12 t13 t14 t15 t16 t17 t18 t19 t20 : Value) (d2_10 d2_11 : Nat) (z : World), Gw.Mem w0 [(d2_11, .cells #[.int .i64 ((apLo .i64 d a.s b.s).lo), .int .i64 ((apLo .i64 d a.s b.s).hi)] 185), (d2_10, .cells #[.int .i64 ((apHi .i64 d a.s b.s).lo), .int .i64 ((apHi .i64 d a.s b.s).hi)] 185), (d1_3, .cells #[.int .u64 0, .int .u64 0, .int .u64 0, .int .u64 0, .int .i64 0, .int .i64 0] 30), (d1_2, .cells #[.int .u64 0, .int .u64 0, .int .u64 0, .int .u64 0, .int .i64 0, .int .i64 0] 30), (d1_1, .cells #[.int .u64 (bi b.t.v), .int .u64 (bi b.t.m), .int .u64 b.u.lo, .int .u64 b.u.hi, .int .i64 b.s.lo, .int .i64 b.s.hi] 30), (d1_0, .cells #[.int .u64 (bi a.t.v), .int .u64 (bi a.t.m), .int .u64 a.u.lo, .int .u64 a.u.hi, .int .i64 a.s.lo, .int .i64 a.s.hi] 30)] z → K ⟨#[u0, u1, .pointer (some ⟨g, 0, none⟩), .pointer (some ⟨d1_0, 0, none⟩), .pointer (some ⟨d1_1, 0, none⟩), u5, u6, u7, .pointer (some ⟨d2_10, 0, none⟩), .pointer (some ⟨d2_11, 0, none⟩), .bool (apOk .i64 d a.s b.s), t11, t12, t13, t14, t15, t16, t17, t18, t19, t20, u21, u22, u23, u24, u25, u26, u27], []⟩ z) (wy : World) (M : Gw.Mem w0 [(d1_3, .cells #[.int .u64 0, .int .u64 0, .int .u64 0, .int .u64 0, .int .i64 0, .int .i64 0] 30), (d1_2, .cells #[.int .u64 0, .int .u64 0, .int .u64 0, .int .u64 0, .int .i64 0, .int .i64 0] 30), (d1_1, .cells #[.int .u64 (bi b.t.v), .int .u64 (bi b.t.m), .int .u64 b.u.lo, .int .u64 b.u.hi, .int .i64 b.s.lo, .int .i64 b.s.hi] 30), (d1_0, .cells #[.int .u64 (bi a.t.v), .int .u64 (bi a.t.m), .int .u64 a.u.lo, .int .u64 a.u.hi, .int .i64 a.s.lo, .int .i64 a.s.hi] 30)] wy) :
    above_s_r1C.wp Tryz.prog (Exit.then K Q0) ⟨#[u0, u1, .pointer (some ⟨g, 0, none⟩), .pointer (some ⟨d1_0, 0, none⟩), .pointer (some ⟨d1_1, 0, none⟩), u5, u6, u7, u8, u9, u10, u11, u12, u13, u14, u15, u16, u17, u18, u19, u20, u21, u22, u23, u24, u25, u26, u27], []⟩ wy := by
  have HK := Lib.hid hK
  clear hK
  conv => arg 2; whnf
  refine Gw.line _ M ?_
  clear M wy
  refine Gw.sw (.pointer (some ⟨d1_0, 4, none⟩)) ?_
  try simp only [Act.put, ptA, ptB, ptC]
  refine Gw.sq (.agg #[.int .i64 a.s.lo, .int .i64 a.s.hi]) ?_ ?_
  · intro w M; have c := M.c2 3 4 5; go_simp
  try simp only [Act.put, ptA, ptB, ptC]
  refine Gw.sw (.pointer (some ⟨d1_1, 4, none⟩)) ?_
  try simp only [Act.put, ptA, ptB, ptC]
  refine Gw.sq (.agg #[.int .i64 b.s.lo, .int .i64 b.s.hi]) ?_ ?_
  · intro w M; have c := M.c2 2 4 5; go_simp
  try simp only [Act.put, ptA, ptB, ptC]
  refine Gw.sq (.int .i64 d) ?_ ?_
  · intro w M; have c0 := (M.below.cell (World.block_lt_of_cell? _ _ hg)).trans hg; go_simp
  try simp only [Act.put, ptA, ptB, ptC]
  refine Gw.sk (.tuple #[.agg #[.int .i64 ((apHi .i64 d a.s b.s).lo), .int .i64 ((apHi .i64 d a.s b.s).hi)], .agg #[.int .i64 ((apLo .i64 d a.s b.s).lo), .int .i64 ((apLo .i64 d a.s b.s).hi)], .bool (apOk .i64 d a.s b.s)]) 233 #[.agg #[.int .i64 a.s.lo, .int .i64 a.s.hi], .agg #[.int .i64 b.s.lo, .int .i64 b.s.hi], .int .i64 d] (fun w M => apart_i64 a.s b.s d w) ?_
  try simp only [Act.put, ptA, ptB, ptC]
  refine Gw.sw (.tuple #[.agg #[.int .i64 ((apHi .i64 d a.s b.s).lo), .int .i64 ((apHi .i64 d a.s b.s).hi)], .agg #[.int .i64 ((apLo .i64 d a.s b.s).lo), .int .i64 ((apLo .i64 d a.s b.s).hi)], .bool (apOk .i64 d a.s b.s)]) ?_
  try simp only [Act.put, ptA, ptB, ptC]
  refine Gw.sw (.agg #[.int .i64 ((apHi .i64 d a.s b.s).lo), .int .i64 ((apHi .i64 d a.s b.s).hi)]) ?_
  try simp only [Act.put, ptA, ptB, ptC]
  refine Gw.sw (.agg #[.int .i64 ((apLo .i64 d a.s b.s).lo), .int .i64 ((apLo .i64 d a.s b.s).hi)]) ?_
  try simp only [Act.put, ptA, ptB, ptC]
  refine Gw.sw (.bool (apOk .i64 d a.s b.s)) ?_
  try simp only [Act.put, ptA, ptB, ptC]
  refine Gw.ss ?_
  intro w M K' hK
  go_simp
  have M1 := M.alloc (.cells #[.int .i64 0, .int .i64 0] 185)
  generalize w.heap.size = d2_10 at M1 ⊢
  refine hK.out _ _ _ M1 ?_
  clear hK K' M1 M w
  try simp only [Act.put, ptA, ptB, ptC]
  refine Gw.ss ?_
  intro w M K' hK
  go_simp
  have M1 := M.alloc (.cells #[.int .i64 0, .int .i64 0] 185)
  generalize w.heap.size = d2_11 at M1 ⊢
  refine hK.out _ _ _ M1 ?_
  clear hK K' M1 M w
  try simp only [Act.put, ptA, ptB, ptC]
  refine Gw.ss ?_
  intro w M K' hK
  have c := M.c2 1 0 1
  have f := M.f2 1 0 1
  go_simp
  refine hK.out _ _ _ ((M.set 1 0 _).set 1 1 _) ?_
  clear hK K' c f M w
  refine Gw.ss ?_
  intro w M K' hK
  have c := M.c2 0 0 1
  have f := M.f2 0 0 1
  go_simp
  refine hK.out _ _ _ ((M.set 0 0 _).set 0 1 _) ?_
  clear hK K' c f M w
  refine Gw.sw (.bool (apOk .i64 d a.s b.s)) ?_
  try simp only [Act.put, ptA, ptB, ptC]
  exact fun z M => HK.out _ _ _ _ _ _ _ _ _ _ _ _ z M
noncomputable def above_s_r2C : Code := (Tryz.f232.body.bind (Rg.findR 2)).getD .skip
set_option maxHeartbeats 4000000 in
theorem above_s_r2 (a b : C) (d : Int) (g : Nat) {w0 : World} (hg : w0.cell? ⟨g, 0, none⟩ = some (.int .i64 d)) {K : Act → World → Prop} {Q0 : Exit → Act → World → Prop} {d2_11 d2_10 d1_3 d1_2 d1_1 d1_0 : Nat} {u0 u1 u2 u5 u6 u7 u10 u11 u12 u13 u14 u15 u16 u17 u18 u19 u20 u21 u22 u23 u24 u25 u26 u27 : Value}
    (hQ : ∀ c a d v w, Q0 (.panic c) (Act.put a d v) w → Q0 (.panic c) a w)
    (hK : ∀ (t21 t22 t23 t24 : Value) (z : World), Gw.Mem w0 [(d2_11, .cells #[.int .i64 ((apLo .i64 d a.s b.s).lo), .int .i64 ((apLo .i64 d a.s b.s).hi)] 185), (d2_10, .cells #[.int .i64 ((apHi .i64 d a.s b.s).lo), .int .i64 ((apHi .i64 d a.s b.s).hi)] 185), (d1_3, .cells #[.int .u64 0, .int .u64 0, .int .u64 0, .int .u64 0, .int .i64 0, .int .i64 0] 30), (d1_2, .cells #[.int .u64 0, .int .u64 0, .int .u64 0, .int .u64 0, .int .i64 0, .int .i64 0] 30), (d1_1, .cells #[.int .u64 (bi b.t.v), .int .u64 (bi b.t.m), .int .u64 b.u.lo, .int .u64 b.u.hi, .int .i64 ((apLo .i64 d a.s b.s).lo), .int .i64 ((apLo .i64 d a.s b.s).hi)] 30), (d1_0, .cells #[.int .u64 (bi a.t.v), .int .u64 (bi a.t.m), .int .u64 a.u.lo, .int .u64 a.u.hi, .int .i64 ((apHi .i64 d a.s b.s).lo), .int .i64 ((apHi .i64 d a.s b.s).hi)] 30)] z → K ⟨#[u0, u1, u2, .pointer (some ⟨d1_0, 0, none⟩), .pointer (some ⟨d1_1, 0, none⟩), u5, u6, u7, .pointer (some ⟨d2_10, 0, none⟩), .pointer (some ⟨d2_11, 0, none⟩), u10, u11, u12, u13, u14, u15, u16, u17, u18, u19, u20, t21, t22, t23, t24, u25, u26, u27], []⟩ z) (wy : World) (M : Gw.Mem w0 [(d2_11, .cells #[.int .i64 ((apLo .i64 d a.s b.s).lo), .int .i64 ((apLo .i64 d a.s b.s).hi)] 185), (d2_10, .cells #[.int .i64 ((apHi .i64 d a.s b.s).lo), .int .i64 ((apHi .i64 d a.s b.s).hi)] 185), (d1_3, .cells #[.int .u64 0, .int .u64 0, .int .u64 0, .int .u64 0, .int .i64 0, .int .i64 0] 30), (d1_2, .cells #[.int .u64 0, .int .u64 0, .int .u64 0, .int .u64 0, .int .i64 0, .int .i64 0] 30), (d1_1, .cells #[.int .u64 (bi b.t.v), .int .u64 (bi b.t.m), .int .u64 b.u.lo, .int .u64 b.u.hi, .int .i64 b.s.lo, .int .i64 b.s.hi] 30), (d1_0, .cells #[.int .u64 (bi a.t.v), .int .u64 (bi a.t.m), .int .u64 a.u.lo, .int .u64 a.u.hi, .int .i64 a.s.lo, .int .i64 a.s.hi] 30)] wy) :
    above_s_r2C.wp Tryz.prog (Exit.then K Q0) ⟨#[u0, u1, u2, .pointer (some ⟨d1_0, 0, none⟩), .pointer (some ⟨d1_1, 0, none⟩), u5, u6, u7, .pointer (some ⟨d2_10, 0, none⟩), .pointer (some ⟨d2_11, 0, none⟩), u10, u11, u12, u13, u14, u15, u16, u17, u18, u19, u20, u21, u22, u23, u24, u25, u26, u27], []⟩ wy := by
  have HK := Lib.hid hK
  clear hK
  have hq : ∀ c a d v w, Exit.then K Q0 (.panic c) (Act.put a d v) w → Exit.then K Q0 (.panic c) a w := hQ
  conv => arg 2; whnf
  refine Gw.draw [3, 5] (Gw.Mem w0 [(d2_11, .cells #[.int .i64 ((apLo .i64 d a.s b.s).lo), .int .i64 ((apLo .i64 d a.s b.s).hi)] 185), (d2_10, .cells #[.int .i64 ((apHi .i64 d a.s b.s).lo), .int .i64 ((apHi .i64 d a.s b.s).hi)] 185), (d1_3, .cells #[.int .u64 0, .int .u64 0, .int .u64 0, .int .u64 0, .int .i64 0, .int .i64 0] 30), (d1_2, .cells #[.int .u64 0, .int .u64 0, .int .u64 0, .int .u64 0, .int .i64 0, .int .i64 0] 30)]) _ (by kernel_rfl) M.drew ?_
  have hG : ∀ z, Gw.Mem w0 [(d2_11, .cells #[.int .i64 ((apLo .i64 d a.s b.s).lo), .int .i64 ((apLo .i64 d a.s b.s).hi)] 185), (d2_10, .cells #[.int .i64 ((apHi .i64 d a.s b.s).lo), .int .i64 ((apHi .i64 d a.s b.s).hi)] 185), (d1_3, .cells #[.int .u64 0, .int .u64 0, .int .u64 0, .int .u64 0, .int .i64 0, .int .i64 0] 30), (d1_2, .cells #[.int .u64 0, .int .u64 0, .int .u64 0, .int .u64 0, .int .i64 0, .int .i64 0] 30), (d1_1, .cells #[.int .u64 (bi b.t.v), .int .u64 (bi b.t.m), .int .u64 b.u.lo, .int .u64 b.u.hi, .int .i64 b.s.lo, .int .i64 b.s.hi] 30), (d1_0, .cells #[.int .u64 (bi a.t.v), .int .u64 (bi a.t.m), .int .u64 a.u.lo, .int .u64 a.u.hi, .int .i64 a.s.lo, .int .i64 a.s.hi] 30)] z → Gw.Mem w0 [(d2_11, .cells #[.int .i64 ((apLo .i64 d a.s b.s).lo), .int .i64 ((apLo .i64 d a.s b.s).hi)] 185), (d2_10, .cells #[.int .i64 ((apHi .i64 d a.s b.s).lo), .int .i64 ((apHi .i64 d a.s b.s).hi)] 185), (d1_3, .cells #[.int .u64 0, .int .u64 0, .int .u64 0, .int .u64 0, .int .i64 0, .int .i64 0] 30), (d1_2, .cells #[.int .u64 0, .int .u64 0, .int .u64 0, .int .u64 0, .int .i64 0, .int .i64 0] 30)] z := fun _ h => h.sub (Gw.cc (Gw.cc (Gw.cc (Gw.cc (Gw.cd (Gw.cd Gw.cn))))))
  clear M wy
  refine Gw.tg 0 (.agg #[.int .i64 ((apHi .i64 d a.s b.s).lo), .int .i64 ((apHi .i64 d a.s b.s).hi)]) ?_ ?_
  · intro w M; have c := M.c2 1 0 1; go_simp
  try simp only [Act.put, ptA, ptB, ptC]
  refine Gw.tg 1 (.agg #[.int .i64 ((apLo .i64 d a.s b.s).lo), .int .i64 ((apLo .i64 d a.s b.s).hi)]) ?_ ?_
  · intro w M; have c := M.c2 0 0 1; go_simp
  try simp only [Act.put, ptA, ptB, ptC]
  refine Gw.tw 2 (.pointer (some ⟨d1_0, 4, none⟩)) ?_
  try simp only [Act.put, ptA, ptB, ptC]
  refine Gw.ts 3 rfl (by kernel_rfl) ?_
  intro w M K' hK
  have c := M.c2 5 4 5
  have f := M.f2 5 4 5
  go_simp
  refine hK.out _ _ _ Gw.Mem.stays (fun h => by cases h) (fun _ h => h.sub (Gw.cc (Gw.cc (Gw.cc (Gw.cc (Gw.cd (Gw.cd Gw.cn))))))) ((M.set 5 4 _).set 5 5 _) ?_
  clear hK K' c f M w
  refine Gw.tw 4 (.pointer (some ⟨d1_1, 4, none⟩)) ?_ (hG := (fun _ h => h.sub (Gw.cc (Gw.cc (Gw.cc (Gw.cc (Gw.cd (Gw.cd Gw.cn))))))))
  try simp only [Act.put, ptA, ptB, ptC]
  refine Gw.ts 5 rfl (by kernel_rfl) ?_
  intro w M K' hK
  have c := M.c2 4 4 5
  have f := M.f2 4 4 5
  go_simp
  refine hK.out _ _ _ Gw.Mem.stays (fun h => by cases h) (fun _ h => h.sub (Gw.cc (Gw.cc (Gw.cc (Gw.cc (Gw.cd (Gw.cd Gw.cn))))))) ((M.set 4 4 _).set 4 5 _) ?_
  clear hK K' c f M w
  exact Gw.td (by kernel_rfl) (fun z M => HK.out _ _ _ _ z M) _
noncomputable def above_s_r3C : Code := (Tryz.f232.body.bind (Rg.findR 3)).getD .skip
set_option maxHeartbeats 4000000 in
theorem above_s_r3 (a b : C) (d : Int) (g : Nat) {w0 : World} (hg : w0.cell? ⟨g, 0, none⟩ = some (.int .i64 d)) {K : Act → World → Prop} {Q0 : Exit → Act → World → Prop} {d2_11 d2_10 d1_3 d1_2 d1_1 d1_0 : Nat} {u0 u1 u2 u7 u8 u9 u11 u12 u13 u14 u15 u16 u17 u18 u19 u20 u21 u22 u23 u24 u25 u26 u27 : Value}
    (hQ : ∀ c a d v w, Q0 (.panic c) (Act.put a d v) w → Q0 (.panic c) a w)
    (hK : ∀ (t25 t26 t27 : Value) (z : World), Gw.Mem w0 [(d2_11, .cells #[.int .i64 ((apLo .i64 d a.s b.s).lo), .int .i64 ((apLo .i64 d a.s b.s).hi)] 185), (d2_10, .cells #[.int .i64 ((apHi .i64 d a.s b.s).lo), .int .i64 ((apHi .i64 d a.s b.s).hi)] 185), (d1_3, .cells #[.int .u64 (bi b.t.v), .int .u64 (bi b.t.m), .int .u64 b.u.lo, .int .u64 b.u.hi, .int .i64 ((apLo .i64 d a.s b.s).lo), .int .i64 ((apLo .i64 d a.s b.s).hi)] 30), (d1_2, .cells #[.int .u64 (bi a.t.v), .int .u64 (bi a.t.m), .int .u64 a.u.lo, .int .u64 a.u.hi, .int .i64 ((apHi .i64 d a.s b.s).lo), .int .i64 ((apHi .i64 d a.s b.s).hi)] 30), (d1_1, .cells #[.int .u64 (bi b.t.v), .int .u64 (bi b.t.m), .int .u64 b.u.lo, .int .u64 b.u.hi, .int .i64 ((apLo .i64 d a.s b.s).lo), .int .i64 ((apLo .i64 d a.s b.s).hi)] 30), (d1_0, .cells #[.int .u64 (bi a.t.v), .int .u64 (bi a.t.m), .int .u64 a.u.lo, .int .u64 a.u.hi, .int .i64 ((apHi .i64 d a.s b.s).lo), .int .i64 ((apHi .i64 d a.s b.s).hi)] 30)] z → K ⟨#[u0, u1, u2, .pointer (some ⟨d1_0, 0, none⟩), .pointer (some ⟨d1_1, 0, none⟩), .pointer (some ⟨d1_2, 0, none⟩), .pointer (some ⟨d1_3, 0, none⟩), .bool (apOk .i64 d a.s b.s), u8, u9, .bool (apOk .i64 d a.s b.s), u11, u12, u13, u14, u15, u16, u17, u18, u19, u20, u21, u22, u23, u24, t25, t26, t27], []⟩ z) (wy : World) (M : Gw.Mem w0 [(d2_11, .cells #[.int .i64 ((apLo .i64 d a.s b.s).lo), .int .i64 ((apLo .i64 d a.s b.s).hi)] 185), (d2_10, .cells #[.int .i64 ((apHi .i64 d a.s b.s).lo), .int .i64 ((apHi .i64 d a.s b.s).hi)] 185), (d1_3, .cells #[.int .u64 0, .int .u64 0, .int .u64 0, .int .u64 0, .int .i64 0, .int .i64 0] 30), (d1_2, .cells #[.int .u64 0, .int .u64 0, .int .u64 0, .int .u64 0, .int .i64 0, .int .i64 0] 30), (d1_1, .cells #[.int .u64 (bi b.t.v), .int .u64 (bi b.t.m), .int .u64 b.u.lo, .int .u64 b.u.hi, .int .i64 ((apLo .i64 d a.s b.s).lo), .int .i64 ((apLo .i64 d a.s b.s).hi)] 30), (d1_0, .cells #[.int .u64 (bi a.t.v), .int .u64 (bi a.t.m), .int .u64 a.u.lo, .int .u64 a.u.hi, .int .i64 ((apHi .i64 d a.s b.s).lo), .int .i64 ((apHi .i64 d a.s b.s).hi)] 30)] wy) :
    above_s_r3C.wp Tryz.prog (Exit.then K Q0) ⟨#[u0, u1, u2, .pointer (some ⟨d1_0, 0, none⟩), .pointer (some ⟨d1_1, 0, none⟩), .pointer (some ⟨d1_2, 0, none⟩), .pointer (some ⟨d1_3, 0, none⟩), u7, u8, u9, .bool (apOk .i64 d a.s b.s), u11, u12, u13, u14, u15, u16, u17, u18, u19, u20, u21, u22, u23, u24, u25, u26, u27], []⟩ wy := by
  have HK := Lib.hid hK
  clear hK
  have hq : ∀ c a d v w, Exit.then K Q0 (.panic c) (Act.put a d v) w → Exit.then K Q0 (.panic c) a w := hQ
  conv => arg 2; whnf
  refine Gw.draw [3, 4] (Gw.Mem w0 [(d2_11, .cells #[.int .i64 ((apLo .i64 d a.s b.s).lo), .int .i64 ((apLo .i64 d a.s b.s).hi)] 185), (d2_10, .cells #[.int .i64 ((apHi .i64 d a.s b.s).lo), .int .i64 ((apHi .i64 d a.s b.s).hi)] 185), (d1_1, .cells #[.int .u64 (bi b.t.v), .int .u64 (bi b.t.m), .int .u64 b.u.lo, .int .u64 b.u.hi, .int .i64 ((apLo .i64 d a.s b.s).lo), .int .i64 ((apLo .i64 d a.s b.s).hi)] 30), (d1_0, .cells #[.int .u64 (bi a.t.v), .int .u64 (bi a.t.m), .int .u64 a.u.lo, .int .u64 a.u.hi, .int .i64 ((apHi .i64 d a.s b.s).lo), .int .i64 ((apHi .i64 d a.s b.s).hi)] 30)]) _ (by kernel_rfl) M.drew ?_
  have hG : ∀ z, Gw.Mem w0 [(d2_11, .cells #[.int .i64 ((apLo .i64 d a.s b.s).lo), .int .i64 ((apLo .i64 d a.s b.s).hi)] 185), (d2_10, .cells #[.int .i64 ((apHi .i64 d a.s b.s).lo), .int .i64 ((apHi .i64 d a.s b.s).hi)] 185), (d1_3, .cells #[.int .u64 0, .int .u64 0, .int .u64 0, .int .u64 0, .int .i64 0, .int .i64 0] 30), (d1_2, .cells #[.int .u64 0, .int .u64 0, .int .u64 0, .int .u64 0, .int .i64 0, .int .i64 0] 30), (d1_1, .cells #[.int .u64 (bi b.t.v), .int .u64 (bi b.t.m), .int .u64 b.u.lo, .int .u64 b.u.hi, .int .i64 ((apLo .i64 d a.s b.s).lo), .int .i64 ((apLo .i64 d a.s b.s).hi)] 30), (d1_0, .cells #[.int .u64 (bi a.t.v), .int .u64 (bi a.t.m), .int .u64 a.u.lo, .int .u64 a.u.hi, .int .i64 ((apHi .i64 d a.s b.s).lo), .int .i64 ((apHi .i64 d a.s b.s).hi)] 30)] z → Gw.Mem w0 [(d2_11, .cells #[.int .i64 ((apLo .i64 d a.s b.s).lo), .int .i64 ((apLo .i64 d a.s b.s).hi)] 185), (d2_10, .cells #[.int .i64 ((apHi .i64 d a.s b.s).lo), .int .i64 ((apHi .i64 d a.s b.s).hi)] 185), (d1_1, .cells #[.int .u64 (bi b.t.v), .int .u64 (bi b.t.m), .int .u64 b.u.lo, .int .u64 b.u.hi, .int .i64 ((apLo .i64 d a.s b.s).lo), .int .i64 ((apLo .i64 d a.s b.s).hi)] 30), (d1_0, .cells #[.int .u64 (bi a.t.v), .int .u64 (bi a.t.m), .int .u64 a.u.lo, .int .u64 a.u.hi, .int .i64 ((apHi .i64 d a.s b.s).lo), .int .i64 ((apHi .i64 d a.s b.s).hi)] 30)] z := fun _ h => h.sub (Gw.cc (Gw.cc (Gw.cd (Gw.cd (Gw.cc (Gw.cc Gw.cn))))))
  clear M wy
  refine Gw.tg 0 (.agg #[.int .u64 (bi a.t.v), .int .u64 (bi a.t.m), .int .u64 a.u.lo, .int .u64 a.u.hi, .int .i64 ((apHi .i64 d a.s b.s).lo), .int .i64 ((apHi .i64 d a.s b.s).hi)]) ?_ ?_
  · intro w M; have c := M.c6 3; go_simp
  try simp only [Act.put, ptA, ptB, ptC]
  refine Gw.tg 1 (.agg #[.int .u64 (bi b.t.v), .int .u64 (bi b.t.m), .int .u64 b.u.lo, .int .u64 b.u.hi, .int .i64 ((apLo .i64 d a.s b.s).lo), .int .i64 ((apLo .i64 d a.s b.s).hi)]) ?_ ?_
  · intro w M; have c := M.c6 2; go_simp
  try simp only [Act.put, ptA, ptB, ptC]
  refine Gw.tw 2 (.bool (apOk .i64 d a.s b.s)) ?_
  try simp only [Act.put, ptA, ptB, ptC]
  refine Gw.ts 3 rfl (by kernel_rfl) ?_
  intro w M K' hK
  have c := M.c6 3
  have f := M.f6 3
  go_simp
  refine hK.out _ _ _ Gw.Mem.stays (fun h => by cases h) (fun _ h => h.sub (Gw.cc (Gw.cc (Gw.cd (Gw.cd (Gw.cc (Gw.cc Gw.cn))))))) ((((((M.set 3 0 _).set 3 1 _).set 3 2 _).set 3 3 _).set 3 4 _).set 3 5 _) ?_
  clear hK K' c f M w
  refine Gw.ts 4 rfl (by kernel_rfl) ?_
  intro w M K' hK
  have c := M.c6 2
  have f := M.f6 2
  go_simp
  refine hK.out _ _ _ Gw.Mem.stays (fun h => by cases h) (fun _ h => h.sub (Gw.cc (Gw.cc (Gw.cd (Gw.cd (Gw.cc (Gw.cc Gw.cn))))))) ((((((M.set 2 0 _).set 2 1 _).set 2 2 _).set 2 3 _).set 2 4 _).set 2 5 _) ?_
  clear hK K' c f M w
  refine Gw.tw 5 (.bool (apOk .i64 d a.s b.s)) ?_ (hG := (fun _ h => h.sub (Gw.cc (Gw.cc (Gw.cd (Gw.cd (Gw.cc (Gw.cc Gw.cn))))))))
  try simp only [Act.put, ptA, ptB, ptC]
  exact Gw.td (by kernel_rfl) (fun z M => HK.out _ _ _ z M) _
set_option maxHeartbeats 4000000 in
theorem above_s (a b : C) (d : Int) (g : Nat) (w : World) (hg : w.cell? ⟨g, 0, none⟩ = some (.int .i64 d)):
    Calls Tryz.prog 232 #[.agg #[.int .u64 (bi a.t.v), .int .u64 (bi a.t.m), .int .u64 a.u.lo, .int .u64 a.u.hi, .int .i64 a.s.lo, .int .i64 a.s.hi], .agg #[.int .u64 (bi b.t.v), .int .u64 (bi b.t.m), .int .u64 b.u.lo, .int .u64 b.u.hi, .int .i64 b.s.lo, .int .i64 b.s.hi], .pointer (some ⟨g, 0, none⟩)] w fun e w' => e = .returned (.tuple #[.agg #[.int .u64 (bi (above_s1 d a b).t.v), .int .u64 (bi (above_s1 d a b).t.m), .int .u64 ((above_s1 d a b).u.lo), .int .u64 ((above_s1 d a b).u.hi), .int .i64 ((above_s1 d a b).s.lo), .int .i64 ((above_s1 d a b).s.hi)], .agg #[.int .u64 (bi (above_s2 d a b).t.v), .int .u64 (bi (above_s2 d a b).t.m), .int .u64 ((above_s2 d a b).u.lo), .int .u64 ((above_s2 d a b).u.hi), .int .i64 ((above_s2 d a b).s.lo), .int .i64 ((above_s2 d a b).s.hi)], .bool (apOk .i64 d a.s b.s)]) ∧ Below w.heap.size w w' := by
  go_enter Tryz.func232, Tryz.ntmps232
  have M := Gw.Mem.nil w
  refine wp_seq (above_s_r0 a b d g hg (fun _ _ d _ _ h => by cases d <;> exact h) ?_ _ M)
  clear M
  intro _ d1_0 d1_1 d1_2 d1_3 z1 M
  refine wp_seq (above_s_r1 a b d g hg (fun _ _ d _ _ h => by cases d <;> exact h) ?_ _ M)
  clear M
  intro _ _ _ _ _ _ _ _ _ _ d2_10 d2_11 z2 M
  refine wp_seq (above_s_r2 a b d g hg (fun _ _ d _ _ h => by cases d <;> exact h) ?_ _ M)
  clear M
  intro _ _ _ _ z3 M
  refine wp_seq (above_s_r3 a b d g hg (fun _ _ d _ _ h => by cases d <;> exact h) ?_ _ M)
  clear M
  intro _ _ _ z4 M
  refine wp_ret ?_
  try simp only [Exit.inBlock, Exit.then]
  have g0 := M.cell 3 0
  have g1 := M.cell 3 1
  have g2 := M.cell 3 2
  have g3 := M.cell 3 3
  have g4 := M.cell 3 4
  have g5 := M.cell 3 5
  have g6 := M.cell 2 0
  have g7 := M.cell 2 1
  have g8 := M.cell 2 2
  have g9 := M.cell 2 3
  have g10 := M.cell 2 4
  have g11 := M.cell 2 5
  refine bodyPost_ret (by simp [results, Tryz.results232, g0, g1, g2, g3, g4, g5, g6, g7, g8, g9, g10, g11, go_sem]; try rfl) rfl ?_
  exact ⟨rfl, M.below⟩
noncomputable def under_u_r0C : Code := (Tryz.f235.body.bind (Rg.findR 0)).getD .skip
set_option maxHeartbeats 4000000 in
theorem under_u_r0 (a b : C) (d : Int) (g g2 : Nat) {w0 : World} (hg : w0.cell? ⟨g, 0, none⟩ = some (.func (.func 230) #[] #[.pointer (some ⟨g2, 0, none⟩)])) (hg2 : w0.cell? ⟨g2, 0, none⟩ = some (.int .u64 d)) {K : Act → World → Prop} {Q0 : Exit → Act → World → Prop} {u2 u3 u4 u5 u6 u7 u8 u9 u10 u11 u12 u13 u14 u15 u16 u17 u18 u19 : Value}
    (hQ : ∀ c a d v w, Q0 (.panic c) (Act.put a d v) w → Q0 (.panic c) a w)
    (hK : ∀ (t7 : Value) (d1_0 d1_1 d1_2 d1_3 : Nat) (z : World), Gw.Mem w0 [(d1_3, .cells #[.int .u64 0, .int .u64 0, .int .u64 0, .int .u64 0, .int .i64 0, .int .i64 0] 30), (d1_2, .cells #[.int .u64 0, .int .u64 0, .int .u64 0, .int .u64 0, .int .i64 0, .int .i64 0] 30), (d1_1, .cells #[.int .u64 (bi b.t.v), .int .u64 (bi b.t.m), .int .u64 b.u.lo, .int .u64 b.u.hi, .int .i64 b.s.lo, .int .i64 b.s.hi] 30), (d1_0, .cells #[.int .u64 (bi a.t.v), .int .u64 (bi a.t.m), .int .u64 a.u.lo, .int .u64 a.u.hi, .int .i64 a.s.lo, .int .i64 a.s.hi] 30)] z → K ⟨#[.agg #[.int .u64 (bi a.t.v), .int .u64 (bi a.t.m), .int .u64 a.u.lo, .int .u64 a.u.hi, .int .i64 a.s.lo, .int .i64 a.s.hi], .agg #[.int .u64 (bi b.t.v), .int .u64 (bi b.t.m), .int .u64 b.u.lo, .int .u64 b.u.hi, .int .i64 b.s.lo, .int .i64 b.s.hi], u2, .pointer (some ⟨d1_0, 0, none⟩), .pointer (some ⟨d1_1, 0, none⟩), .pointer (some ⟨d1_2, 0, none⟩), .pointer (some ⟨d1_3, 0, none⟩), t7, u8, u9, u10, u11, u12, u13, u14, u15, u16, u17, u18, u19], []⟩ z) (wy : World) (M : Gw.Mem w0 [] wy) :
    under_u_r0C.wp Tryz.prog (Exit.then K Q0) ⟨#[.agg #[.int .u64 (bi a.t.v), .int .u64 (bi a.t.m), .int .u64 a.u.lo, .int .u64 a.u.hi, .int .i64 a.s.lo, .int .i64 a.s.hi], .agg #[.int .u64 (bi b.t.v), .int .u64 (bi b.t.m), .int .u64 b.u.lo, .int .u64 b.u.hi, .int .i64 b.s.lo, .int .i64 b.s.hi], u2, u3, u4, u5, u6, u7, u8, u9, u10, u11, u12, u13, u14, u15, u16, u17, u18, u19], []⟩ wy := by
  have HK := Lib.hid hK
  clear hK
  conv => arg 2; whnf
  refine Gw.line _ M ?_
  clear M wy
  refine Gw.ss ?_
  intro w M K' hK
  go_simp
  have M1 := M.alloc (.cells #[.int .u64 (bi a.t.v), .int .u64 (bi a.t.m), .int .u64 a.u.lo, .int .u64 a.u.hi, .int .i64 a.s.lo, .int .i64 a.s.hi] 30)
  generalize w.heap.size = d1_0 at M1 ⊢
  refine hK.out _ _ _ M1 ?_
  clear hK K' M1 M w
  try simp only [Act.put, ptA, ptB, ptC]
  refine Gw.ss ?_
  intro w M K' hK
  go_simp
  have M1 := M.alloc (.cells #[.int .u64 (bi b.t.v), .int .u64 (bi b.t.m), .int .u64 b.u.lo, .int .u64 b.u.hi, .int .i64 b.s.lo, .int .i64 b.s.hi] 30)
  generalize w.heap.size = d1_1 at M1 ⊢
  refine hK.out _ _ _ M1 ?_
  clear hK K' M1 M w
  try simp only [Act.put, ptA, ptB, ptC]
  refine Gw.ss ?_
  intro w M K' hK
  go_simp
  have M1 := M.alloc (.cells #[.int .u64 0, .int .u64 0, .int .u64 0, .int .u64 0, .int .i64 0, .int .i64 0] 30)
  generalize w.heap.size = d1_2 at M1 ⊢
  refine hK.out _ _ _ M1 ?_
  clear hK K' M1 M w
  try simp only [Act.put, ptA, ptB, ptC]
  refine Gw.ss ?_
  intro w M K' hK
  go_simp
  have M1 := M.alloc (.cells #[.int .u64 0, .int .u64 0, .int .u64 0, .int .u64 0, .int .i64 0, .int .i64 0] 30)
  generalize w.heap.size = d1_3 at M1 ⊢
  refine hK.out _ _ _ M1 ?_
  clear hK K' M1 M w
  try simp only [Act.put, ptA, ptB, ptC]
  refine Gw.sw (.bool false) ?_
  try simp only [Act.put, ptA, ptB, ptC]
  exact fun z M => HK.out _ _ _ _ _ z M
noncomputable def under_u_r1C : Code := (Tryz.f235.body.bind (Rg.findR 1)).getD .skip
set_option maxHeartbeats 4000000 in
theorem under_u_r1 (a b : C) (d : Int) (g g2 : Nat) {w0 : World} (hg : w0.cell? ⟨g, 0, none⟩ = some (.func (.func 230) #[] #[.pointer (some ⟨g2, 0, none⟩)])) (hg2 : w0.cell? ⟨g2, 0, none⟩ = some (.int .u64 d)) {K : Act → World → Prop} {Q0 : Exit → Act → World → Prop} {d1_3 d1_2 d1_1 d1_0 : Nat} {u0 u1 u5 u6 u7 u8 u9 u10 u11 u12 u13 u14 u15 u16 u17 u18 u19 : Value}
    (hQ : ∀ c a d v w, Q0 (.panic c) (Act.put a d v) w → Q0 (.panic c) a w)
    (hK : ∀ (t9 t10 t11 t12 t13 t14 t15 t16 : Value) (z : World), Gw.Mem w0 [(d1_3, .cells #[.int .u64 0, .int .u64 0, .int .u64 0, .int .u64 0, .int .i64 0, .int .i64 0] 30), (d1_2, .cells #[.int .u64 0, .int .u64 0, .int .u64 0, .int .u64 0, .int .i64 0, .int .i64 0] 30), (d1_1, .cells #[.int .u64 (bi (above_u1 d b a).t.v), .int .u64 (bi (above_u1 d b a).t.m), .int .u64 ((above_u1 d b a).u.lo), .int .u64 ((above_u1 d b a).u.hi), .int .i64 ((above_u1 d b a).s.lo), .int .i64 ((above_u1 d b a).s.hi)] 30), (d1_0, .cells #[.int .u64 (bi (above_u2 d b a).t.v), .int .u64 (bi (above_u2 d b a).t.m), .int .u64 ((above_u2 d b a).u.lo), .int .u64 ((above_u2 d b a).u.hi), .int .i64 ((above_u2 d b a).s.lo), .int .i64 ((above_u2 d b a).s.hi)] 30)] z → K ⟨#[u0, u1, .pointer (some ⟨g, 0, none⟩), .pointer (some ⟨d1_0, 0, none⟩), .pointer (some ⟨d1_1, 0, none⟩), u5, u6, u7, .bool (apOk .u64 d b.u a.u), t9, t10, t11, t12, t13, t14, t15, t16, u17, u18, u19], []⟩ z) (wy : World) (M : Gw.Mem w0 [(d1_3, .cells #[.int .u64 0, .int .u64 0, .int .u64 0, .int .u64 0, .int .i64 0, .int .i64 0] 30), (d1_2, .cells #[.int .u64 0, .int .u64 0, .int .u64 0, .int .u64 0, .int .i64 0, .int .i64 0] 30), (d1_1, .cells #[.int .u64 (bi b.t.v), .int .u64 (bi b.t.m), .int .u64 b.u.lo, .int .u64 b.u.hi, .int .i64 b.s.lo, .int .i64 b.s.hi] 30), (d1_0, .cells #[.int .u64 (bi a.t.v), .int .u64 (bi a.t.m), .int .u64 a.u.lo, .int .u64 a.u.hi, .int .i64 a.s.lo, .int .i64 a.s.hi] 30)] wy) :
    under_u_r1C.wp Tryz.prog (Exit.then K Q0) ⟨#[u0, u1, .pointer (some ⟨g, 0, none⟩), .pointer (some ⟨d1_0, 0, none⟩), .pointer (some ⟨d1_1, 0, none⟩), u5, u6, u7, u8, u9, u10, u11, u12, u13, u14, u15, u16, u17, u18, u19], []⟩ wy := by
  have HK := Lib.hid hK
  clear hK
  conv => arg 2; whnf
  refine Gw.line _ M ?_
  clear M wy
  refine Gw.sq (.func (.func 230) #[] #[.pointer (some ⟨g2, 0, none⟩)]) ?_ ?_
  · intro w M; have c0 := (M.below.cell (World.block_lt_of_cell? _ _ hg)).trans hg; go_simp
  try simp only [Act.put, ptA, ptB, ptC]
  refine Gw.sq (.agg #[.int .u64 (bi b.t.v), .int .u64 (bi b.t.m), .int .u64 b.u.lo, .int .u64 b.u.hi, .int .i64 b.s.lo, .int .i64 b.s.hi]) ?_ ?_
  · intro w M; have c := M.c6 2; go_simp
  try simp only [Act.put, ptA, ptB, ptC]
  refine Gw.sq (.agg #[.int .u64 (bi a.t.v), .int .u64 (bi a.t.m), .int .u64 a.u.lo, .int .u64 a.u.hi, .int .i64 a.s.lo, .int .i64 a.s.hi]) ?_ ?_
  · intro w M; have c := M.c6 3; go_simp
  try simp only [Act.put, ptA, ptB, ptC]
  refine Gw.sk (.tuple #[.agg #[.int .u64 (bi (above_u1 d b a).t.v), .int .u64 (bi (above_u1 d b a).t.m), .int .u64 ((above_u1 d b a).u.lo), .int .u64 ((above_u1 d b a).u.hi), .int .i64 ((above_u1 d b a).s.lo), .int .i64 ((above_u1 d b a).s.hi)], .agg #[.int .u64 (bi (above_u2 d b a).t.v), .int .u64 (bi (above_u2 d b a).t.m), .int .u64 ((above_u2 d b a).u.lo), .int .u64 ((above_u2 d b a).u.hi), .int .i64 ((above_u2 d b a).s.lo), .int .i64 ((above_u2 d b a).s.hi)], .bool (apOk .u64 d b.u a.u)]) 230 #[.agg #[.int .u64 (bi b.t.v), .int .u64 (bi b.t.m), .int .u64 b.u.lo, .int .u64 b.u.hi, .int .i64 b.s.lo, .int .i64 b.s.hi], .agg #[.int .u64 (bi a.t.v), .int .u64 (bi a.t.m), .int .u64 a.u.lo, .int .u64 a.u.hi, .int .i64 a.s.lo, .int .i64 a.s.hi], .pointer (some ⟨g2, 0, none⟩)] (fun w M => above_u b a d g2 w ((M.below.cell (World.block_lt_of_cell? _ _ hg2)).trans hg2)) ?_
  try simp only [Act.put, ptA, ptB, ptC]
  refine Gw.sw (.tuple #[.agg #[.int .u64 (bi (above_u1 d b a).t.v), .int .u64 (bi (above_u1 d b a).t.m), .int .u64 ((above_u1 d b a).u.lo), .int .u64 ((above_u1 d b a).u.hi), .int .i64 ((above_u1 d b a).s.lo), .int .i64 ((above_u1 d b a).s.hi)], .agg #[.int .u64 (bi (above_u2 d b a).t.v), .int .u64 (bi (above_u2 d b a).t.m), .int .u64 ((above_u2 d b a).u.lo), .int .u64 ((above_u2 d b a).u.hi), .int .i64 ((above_u2 d b a).s.lo), .int .i64 ((above_u2 d b a).s.hi)], .bool (apOk .u64 d b.u a.u)]) ?_
  try simp only [Act.put, ptA, ptB, ptC]
  refine Gw.sw (.agg #[.int .u64 (bi (above_u1 d b a).t.v), .int .u64 (bi (above_u1 d b a).t.m), .int .u64 ((above_u1 d b a).u.lo), .int .u64 ((above_u1 d b a).u.hi), .int .i64 ((above_u1 d b a).s.lo), .int .i64 ((above_u1 d b a).s.hi)]) ?_
  try simp only [Act.put, ptA, ptB, ptC]
  refine Gw.sw (.agg #[.int .u64 (bi (above_u2 d b a).t.v), .int .u64 (bi (above_u2 d b a).t.m), .int .u64 ((above_u2 d b a).u.lo), .int .u64 ((above_u2 d b a).u.hi), .int .i64 ((above_u2 d b a).s.lo), .int .i64 ((above_u2 d b a).s.hi)]) ?_
  try simp only [Act.put, ptA, ptB, ptC]
  refine Gw.sw (.bool (apOk .u64 d b.u a.u)) ?_
  try simp only [Act.put, ptA, ptB, ptC]
  refine Gw.ss ?_
  intro w M K' hK
  have c := M.c6 2
  have f := M.f6 2
  go_simp
  refine hK.out _ _ _ ((((((M.set 2 0 _).set 2 1 _).set 2 2 _).set 2 3 _).set 2 4 _).set 2 5 _) ?_
  clear hK K' c f M w
  refine Gw.ss ?_
  intro w M K' hK
  have c := M.c6 3
  have f := M.f6 3
  go_simp
  refine hK.out _ _ _ ((((((M.set 3 0 _).set 3 1 _).set 3 2 _).set 3 3 _).set 3 4 _).set 3 5 _) ?_
  clear hK K' c f M w
  refine Gw.sw (.bool (apOk .u64 d b.u a.u)) ?_
  try simp only [Act.put, ptA, ptB, ptC]
  exact fun z M => HK.out _ _ _ _ _ _ _ _ z M
noncomputable def under_u_r2C : Code := (Tryz.f235.body.bind (Rg.findR 2)).getD .skip
set_option maxHeartbeats 4000000 in
theorem under_u_r2 (a b : C) (d : Int) (g g2 : Nat) {w0 : World} (hg : w0.cell? ⟨g, 0, none⟩ = some (.func (.func 230) #[] #[.pointer (some ⟨g2, 0, none⟩)])) (hg2 : w0.cell? ⟨g2, 0, none⟩ = some (.int .u64 d)) {K : Act → World → Prop} {Q0 : Exit → Act → World → Prop} {d1_3 d1_2 d1_1 d1_0 : Nat} {u0 u1 u2 u7 u9 u10 u11 u12 u13 u14 u15 u16 u17 u18 u19 : Value}
    (hQ : ∀ c a d v w, Q0 (.panic c) (Act.put a d v) w → Q0 (.panic c) a w)
    (hK : ∀ (t17 t18 t19 : Value) (z : World), Gw.Mem w0 [(d1_3, .cells #[.int .u64 (bi (above_u1 d b a).t.v), .int .u64 (bi (above_u1 d b a).t.m), .int .u64 ((above_u1 d b a).u.lo), .int .u64 ((above_u1 d b a).u.hi), .int .i64 ((above_u1 d b a).s.lo), .int .i64 ((above_u1 d b a).s.hi)] 30), (d1_2, .cells #[.int .u64 (bi (above_u2 d b a).t.v), .int .u64 (bi (above_u2 d b a).t.m), .int .u64 ((above_u2 d b a).u.lo), .int .u64 ((above_u2 d b a).u.hi), .int .i64 ((above_u2 d b a).s.lo), .int .i64 ((above_u2 d b a).s.hi)] 30), (d1_1, .cells #[.int .u64 (bi (above_u1 d b a).t.v), .int .u64 (bi (above_u1 d b a).t.m), .int .u64 ((above_u1 d b a).u.lo), .int .u64 ((above_u1 d b a).u.hi), .int .i64 ((above_u1 d b a).s.lo), .int .i64 ((above_u1 d b a).s.hi)] 30), (d1_0, .cells #[.int .u64 (bi (above_u2 d b a).t.v), .int .u64 (bi (above_u2 d b a).t.m), .int .u64 ((above_u2 d b a).u.lo), .int .u64 ((above_u2 d b a).u.hi), .int .i64 ((above_u2 d b a).s.lo), .int .i64 ((above_u2 d b a).s.hi)] 30)] z → K ⟨#[u0, u1, u2, .pointer (some ⟨d1_0, 0, none⟩), .pointer (some ⟨d1_1, 0, none⟩), .pointer (some ⟨d1_2, 0, none⟩), .pointer (some ⟨d1_3, 0, none⟩), .bool (apOk .u64 d b.u a.u), .bool (apOk .u64 d b.u a.u), u9, u10, u11, u12, u13, u14, u15, u16, t17, t18, t19], []⟩ z) (wy : World) (M : Gw.Mem w0 [(d1_3, .cells #[.int .u64 0, .int .u64 0, .int .u64 0, .int .u64 0, .int .i64 0, .int .i64 0] 30), (d1_2, .cells #[.int .u64 0, .int .u64 0, .int .u64 0, .int .u64 0, .int .i64 0, .int .i64 0] 30), (d1_1, .cells #[.int .u64 (bi (above_u1 d b a).t.v), .int .u64 (bi (above_u1 d b a).t.m), .int .u64 ((above_u1 d b a).u.lo), .int .u64 ((above_u1 d b a).u.hi), .int .i64 ((above_u1 d b a).s.lo), .int .i64 ((above_u1 d b a).s.hi)] 30), (d1_0, .cells #[.int .u64 (bi (above_u2 d b a).t.v), .int .u64 (bi (above_u2 d b a).t.m), .int .u64 ((above_u2 d b a).u.lo), .int .u64 ((above_u2 d b a).u.hi), .int .i64 ((above_u2 d b a).s.lo), .int .i64 ((above_u2 d b a).s.hi)] 30)] wy) :
    under_u_r2C.wp Tryz.prog (Exit.then K Q0) ⟨#[u0, u1, u2, .pointer (some ⟨d1_0, 0, none⟩), .pointer (some ⟨d1_1, 0, none⟩), .pointer (some ⟨d1_2, 0, none⟩), .pointer (some ⟨d1_3, 0, none⟩), u7, .bool (apOk .u64 d b.u a.u), u9, u10, u11, u12, u13, u14, u15, u16, u17, u18, u19], []⟩ wy := by
  have HK := Lib.hid hK
  clear hK
  have hq : ∀ c a d v w, Exit.then K Q0 (.panic c) (Act.put a d v) w → Exit.then K Q0 (.panic c) a w := hQ
  conv => arg 2; whnf
  refine Gw.draw [3, 4] (Gw.Mem w0 [(d1_1, .cells #[.int .u64 (bi (above_u1 d b a).t.v), .int .u64 (bi (above_u1 d b a).t.m), .int .u64 ((above_u1 d b a).u.lo), .int .u64 ((above_u1 d b a).u.hi), .int .i64 ((above_u1 d b a).s.lo), .int .i64 ((above_u1 d b a).s.hi)] 30), (d1_0, .cells #[.int .u64 (bi (above_u2 d b a).t.v), .int .u64 (bi (above_u2 d b a).t.m), .int .u64 ((above_u2 d b a).u.lo), .int .u64 ((above_u2 d b a).u.hi), .int .i64 ((above_u2 d b a).s.lo), .int .i64 ((above_u2 d b a).s.hi)] 30)]) _ (by kernel_rfl) M.drew ?_
  have hG : ∀ z, Gw.Mem w0 [(d1_3, .cells #[.int .u64 0, .int .u64 0, .int .u64 0, .int .u64 0, .int .i64 0, .int .i64 0] 30), (d1_2, .cells #[.int .u64 0, .int .u64 0, .int .u64 0, .int .u64 0, .int .i64 0, .int .i64 0] 30), (d1_1, .cells #[.int .u64 (bi (above_u1 d b a).t.v), .int .u64 (bi (above_u1 d b a).t.m), .int .u64 ((above_u1 d b a).u.lo), .int .u64 ((above_u1 d b a).u.hi), .int .i64 ((above_u1 d b a).s.lo), .int .i64 ((above_u1 d b a).s.hi)] 30), (d1_0, .cells #[.int .u64 (bi (above_u2 d b a).t.v), .int .u64 (bi (above_u2 d b a).t.m), .int .u64 ((above_u2 d b a).u.lo), .int .u64 ((above_u2 d b a).u.hi), .int .i64 ((above_u2 d b a).s.lo), .int .i64 ((above_u2 d b a).s.hi)] 30)] z → Gw.Mem w0 [(d1_1, .cells #[.int .u64 (bi (above_u1 d b a).t.v), .int .u64 (bi (above_u1 d b a).t.m), .int .u64 ((above_u1 d b a).u.lo), .int .u64 ((above_u1 d b a).u.hi), .int .i64 ((above_u1 d b a).s.lo), .int .i64 ((above_u1 d b a).s.hi)] 30), (d1_0, .cells #[.int .u64 (bi (above_u2 d b a).t.v), .int .u64 (bi (above_u2 d b a).t.m), .int .u64 ((above_u2 d b a).u.lo), .int .u64 ((above_u2 d b a).u.hi), .int .i64 ((above_u2 d b a).s.lo), .int .i64 ((above_u2 d b a).s.hi)] 30)] z := fun _ h => h.sub (Gw.cd (Gw.cd (Gw.cc (Gw.cc Gw.cn))))
  clear M wy
  refine Gw.tg 0 (.agg #[.int .u64 (bi (above_u2 d b a).t.v), .int .u64 (bi (above_u2 d b a).t.m), .int .u64 ((above_u2 d b a).u.lo), .int .u64 ((above_u2 d b a).u.hi), .int .i64 ((above_u2 d b a).s.lo), .int .i64 ((above_u2 d b a).s.hi)]) ?_ ?_
  · intro w M; have c := M.c6 1; go_simp
  try simp only [Act.put, ptA, ptB, ptC]
  refine Gw.tg 1 (.agg #[.int .u64 (bi (above_u1 d b a).t.v), .int .u64 (bi (above_u1 d b a).t.m), .int .u64 ((above_u1 d b a).u.lo), .int .u64 ((above_u1 d b a).u.hi), .int .i64 ((above_u1 d b a).s.lo), .int .i64 ((above_u1 d b a).s.hi)]) ?_ ?_
  · intro w M; have c := M.c6 0; go_simp
  try simp only [Act.put, ptA, ptB, ptC]
  refine Gw.tw 2 (.bool (apOk .u64 d b.u a.u)) ?_
  try simp only [Act.put, ptA, ptB, ptC]
  refine Gw.ts 3 rfl (by kernel_rfl) ?_
  intro w M K' hK
  have c := M.c6 1
  have f := M.f6 1
  go_simp
  refine hK.out _ _ _ Gw.Mem.stays (fun h => by cases h) (fun _ h => h.sub (Gw.cd (Gw.cd (Gw.cc (Gw.cc Gw.cn))))) ((((((M.set 1 0 _).set 1 1 _).set 1 2 _).set 1 3 _).set 1 4 _).set 1 5 _) ?_
  clear hK K' c f M w
  refine Gw.ts 4 rfl (by kernel_rfl) ?_
  intro w M K' hK
  have c := M.c6 0
  have f := M.f6 0
  go_simp
  refine hK.out _ _ _ Gw.Mem.stays (fun h => by cases h) (fun _ h => h.sub (Gw.cd (Gw.cd (Gw.cc (Gw.cc Gw.cn))))) ((((((M.set 0 0 _).set 0 1 _).set 0 2 _).set 0 3 _).set 0 4 _).set 0 5 _) ?_
  clear hK K' c f M w
  refine Gw.tw 5 (.bool (apOk .u64 d b.u a.u)) ?_ (hG := (fun _ h => h.sub (Gw.cd (Gw.cd (Gw.cc (Gw.cc Gw.cn))))))
  try simp only [Act.put, ptA, ptB, ptC]
  exact Gw.td (by kernel_rfl) (fun z M => HK.out _ _ _ z M) _
set_option maxHeartbeats 4000000 in
theorem under_u (a b : C) (d : Int) (g g2 : Nat) (w : World) (hg : w.cell? ⟨g, 0, none⟩ = some (.func (.func 230) #[] #[.pointer (some ⟨g2, 0, none⟩)])) (hg2 : w.cell? ⟨g2, 0, none⟩ = some (.int .u64 d)):
    Calls Tryz.prog 235 #[.agg #[.int .u64 (bi a.t.v), .int .u64 (bi a.t.m), .int .u64 a.u.lo, .int .u64 a.u.hi, .int .i64 a.s.lo, .int .i64 a.s.hi], .agg #[.int .u64 (bi b.t.v), .int .u64 (bi b.t.m), .int .u64 b.u.lo, .int .u64 b.u.hi, .int .i64 b.s.lo, .int .i64 b.s.hi], .pointer (some ⟨g, 0, none⟩)] w fun e w' => e = .returned (.tuple #[.agg #[.int .u64 (bi (above_u2 d b a).t.v), .int .u64 (bi (above_u2 d b a).t.m), .int .u64 ((above_u2 d b a).u.lo), .int .u64 ((above_u2 d b a).u.hi), .int .i64 ((above_u2 d b a).s.lo), .int .i64 ((above_u2 d b a).s.hi)], .agg #[.int .u64 (bi (above_u1 d b a).t.v), .int .u64 (bi (above_u1 d b a).t.m), .int .u64 ((above_u1 d b a).u.lo), .int .u64 ((above_u1 d b a).u.hi), .int .i64 ((above_u1 d b a).s.lo), .int .i64 ((above_u1 d b a).s.hi)], .bool (apOk .u64 d b.u a.u)]) ∧ Below w.heap.size w w' := by
  go_enter Tryz.func235, Tryz.ntmps235
  have M := Gw.Mem.nil w
  refine wp_seq (under_u_r0 a b d g g2 hg hg2 (fun _ _ d _ _ h => by cases d <;> exact h) ?_ _ M)
  clear M
  intro _ d1_0 d1_1 d1_2 d1_3 z1 M
  refine wp_seq (under_u_r1 a b d g g2 hg hg2 (fun _ _ d _ _ h => by cases d <;> exact h) ?_ _ M)
  clear M
  intro _ _ _ _ _ _ _ _ z2 M
  refine wp_seq (under_u_r2 a b d g g2 hg hg2 (fun _ _ d _ _ h => by cases d <;> exact h) ?_ _ M)
  clear M
  intro _ _ _ z3 M
  refine wp_ret ?_
  try simp only [Exit.inBlock, Exit.then]
  have g0 := M.cell 1 0
  have g1 := M.cell 1 1
  have g2 := M.cell 1 2
  have g3 := M.cell 1 3
  have g4 := M.cell 1 4
  have g5 := M.cell 1 5
  have g6 := M.cell 0 0
  have g7 := M.cell 0 1
  have g8 := M.cell 0 2
  have g9 := M.cell 0 3
  have g10 := M.cell 0 4
  have g11 := M.cell 0 5
  refine bodyPost_ret (by simp [results, Tryz.results235, g0, g1, g2, g3, g4, g5, g6, g7, g8, g9, g10, g11, go_sem]; try rfl) rfl ?_
  exact ⟨rfl, M.below⟩
noncomputable def under_s_r0C : Code := (Tryz.f235.body.bind (Rg.findR 0)).getD .skip
set_option maxHeartbeats 4000000 in
theorem under_s_r0 (a b : C) (d : Int) (g g2 : Nat) {w0 : World} (hg : w0.cell? ⟨g, 0, none⟩ = some (.func (.func 232) #[] #[.pointer (some ⟨g2, 0, none⟩)])) (hg2 : w0.cell? ⟨g2, 0, none⟩ = some (.int .i64 d)) {K : Act → World → Prop} {Q0 : Exit → Act → World → Prop} {u2 u3 u4 u5 u6 u7 u8 u9 u10 u11 u12 u13 u14 u15 u16 u17 u18 u19 : Value}
    (hQ : ∀ c a d v w, Q0 (.panic c) (Act.put a d v) w → Q0 (.panic c) a w)
    (hK : ∀ (t7 : Value) (d1_0 d1_1 d1_2 d1_3 : Nat) (z : World), Gw.Mem w0 [(d1_3, .cells #[.int .u64 0, .int .u64 0, .int .u64 0, .int .u64 0, .int .i64 0, .int .i64 0] 30), (d1_2, .cells #[.int .u64 0, .int .u64 0, .int .u64 0, .int .u64 0, .int .i64 0, .int .i64 0] 30), (d1_1, .cells #[.int .u64 (bi b.t.v), .int .u64 (bi b.t.m), .int .u64 b.u.lo, .int .u64 b.u.hi, .int .i64 b.s.lo, .int .i64 b.s.hi] 30), (d1_0, .cells #[.int .u64 (bi a.t.v), .int .u64 (bi a.t.m), .int .u64 a.u.lo, .int .u64 a.u.hi, .int .i64 a.s.lo, .int .i64 a.s.hi] 30)] z → K ⟨#[.agg #[.int .u64 (bi a.t.v), .int .u64 (bi a.t.m), .int .u64 a.u.lo, .int .u64 a.u.hi, .int .i64 a.s.lo, .int .i64 a.s.hi], .agg #[.int .u64 (bi b.t.v), .int .u64 (bi b.t.m), .int .u64 b.u.lo, .int .u64 b.u.hi, .int .i64 b.s.lo, .int .i64 b.s.hi], u2, .pointer (some ⟨d1_0, 0, none⟩), .pointer (some ⟨d1_1, 0, none⟩), .pointer (some ⟨d1_2, 0, none⟩), .pointer (some ⟨d1_3, 0, none⟩), t7, u8, u9, u10, u11, u12, u13, u14, u15, u16, u17, u18, u19], []⟩ z) (wy : World) (M : Gw.Mem w0 [] wy) :
    under_s_r0C.wp Tryz.prog (Exit.then K Q0) ⟨#[.agg #[.int .u64 (bi a.t.v), .int .u64 (bi a.t.m), .int .u64 a.u.lo, .int .u64 a.u.hi, .int .i64 a.s.lo, .int .i64 a.s.hi], .agg #[.int .u64 (bi b.t.v), .int .u64 (bi b.t.m), .int .u64 b.u.lo, .int .u64 b.u.hi, .int .i64 b.s.lo, .int .i64 b.s.hi], u2, u3, u4, u5, u6, u7, u8, u9, u10, u11, u12, u13, u14, u15, u16, u17, u18, u19], []⟩ wy := by
  have HK := Lib.hid hK
  clear hK
  conv => arg 2; whnf
  refine Gw.line _ M ?_
  clear M wy
  refine Gw.ss ?_
  intro w M K' hK
  go_simp
  have M1 := M.alloc (.cells #[.int .u64 (bi a.t.v), .int .u64 (bi a.t.m), .int .u64 a.u.lo, .int .u64 a.u.hi, .int .i64 a.s.lo, .int .i64 a.s.hi] 30)
  generalize w.heap.size = d1_0 at M1 ⊢
  refine hK.out _ _ _ M1 ?_
  clear hK K' M1 M w
  try simp only [Act.put, ptA, ptB, ptC]
  refine Gw.ss ?_
  intro w M K' hK
  go_simp
  have M1 := M.alloc (.cells #[.int .u64 (bi b.t.v), .int .u64 (bi b.t.m), .int .u64 b.u.lo, .int .u64 b.u.hi, .int .i64 b.s.lo, .int .i64 b.s.hi] 30)
  generalize w.heap.size = d1_1 at M1 ⊢
  refine hK.out _ _ _ M1 ?_
  clear hK K' M1 M w
  try simp only [Act.put, ptA, ptB, ptC]
  refine Gw.ss ?_
  intro w M K' hK
  go_simp
  have M1 := M.alloc (.cells #[.int .u64 0, .int .u64 0, .int .u64 0, .int .u64 0, .int .i64 0, .int .i64 0] 30)
  generalize w.heap.size = d1_2 at M1 ⊢
  refine hK.out _ _ _ M1 ?_
  clear hK K' M1 M w
  try simp only [Act.put, ptA, ptB, ptC]
  refine Gw.ss ?_
  intro w M K' hK
  go_simp
  have M1 := M.alloc (.cells #[.int .u64 0, .int .u64 0, .int .u64 0, .int .u64 0, .int .i64 0, .int .i64 0] 30)
  generalize w.heap.size = d1_3 at M1 ⊢
  refine hK.out _ _ _ M1 ?_
  clear hK K' M1 M w
  try simp only [Act.put, ptA, ptB, ptC]
  refine Gw.sw (.bool false) ?_
  try simp only [Act.put, ptA, ptB, ptC]
  exact fun z M => HK.out _ _ _ _ _ z M
noncomputable def under_s_r1C : Code := (Tryz.f235.body.bind (Rg.findR 1)).getD .skip
set_option maxHeartbeats 4000000 in
theorem under_s_r1 (a b : C) (d : Int) (g g2 : Nat) {w0 : World} (hg : w0.cell? ⟨g, 0, none⟩ = some (.func (.func 232) #[] #[.pointer (some ⟨g2, 0, none⟩)])) (hg2 : w0.cell? ⟨g2, 0, none⟩ = some (.int .i64 d)) {K : Act → World → Prop} {Q0 : Exit → Act → World → Prop} {d1_3 d1_2 d1_1 d1_0 : Nat} {u0 u1 u5 u6 u7 u8 u9 u10 u11 u12 u13 u14 u15 u16 u17 u18 u19 : Value}
    (hQ : ∀ c a d v w, Q0 (.panic c) (Act.put a d v) w → Q0 (.panic c) a w)
    (hK : ∀ (t9 t10 t11 t12 t13 t14 t15 t16 : Value) (z : World), Gw.Mem w0 [(d1_3, .cells #[.int .u64 0, .int .u64 0, .int .u64 0, .int .u64 0, .int .i64 0, .int .i64 0] 30), (d1_2, .cells #[.int .u64 0, .int .u64 0, .int .u64 0, .int .u64 0, .int .i64 0, .int .i64 0] 30), (d1_1, .cells #[.int .u64 (bi (above_s1 d b a).t.v), .int .u64 (bi (above_s1 d b a).t.m), .int .u64 ((above_s1 d b a).u.lo), .int .u64 ((above_s1 d b a).u.hi), .int .i64 ((above_s1 d b a).s.lo), .int .i64 ((above_s1 d b a).s.hi)] 30), (d1_0, .cells #[.int .u64 (bi (above_s2 d b a).t.v), .int .u64 (bi (above_s2 d b a).t.m), .int .u64 ((above_s2 d b a).u.lo), .int .u64 ((above_s2 d b a).u.hi), .int .i64 ((above_s2 d b a).s.lo), .int .i64 ((above_s2 d b a).s.hi)] 30)] z → K ⟨#[u0, u1, .pointer (some ⟨g, 0, none⟩), .pointer (some ⟨d1_0, 0, none⟩), .pointer (some ⟨d1_1, 0, none⟩), u5, u6, u7, .bool (apOk .i64 d b.s a.s), t9, t10, t11, t12, t13, t14, t15, t16, u17, u18, u19], []⟩ z) (wy : World) (M : Gw.Mem w0 [(d1_3, .cells #[.int .u64 0, .int .u64 0, .int .u64 0, .int .u64 0, .int .i64 0, .int .i64 0] 30), (d1_2, .cells #[.int .u64 0, .int .u64 0, .int .u64 0, .int .u64 0, .int .i64 0, .int .i64 0] 30), (d1_1, .cells #[.int .u64 (bi b.t.v), .int .u64 (bi b.t.m), .int .u64 b.u.lo, .int .u64 b.u.hi, .int .i64 b.s.lo, .int .i64 b.s.hi] 30), (d1_0, .cells #[.int .u64 (bi a.t.v), .int .u64 (bi a.t.m), .int .u64 a.u.lo, .int .u64 a.u.hi, .int .i64 a.s.lo, .int .i64 a.s.hi] 30)] wy) :
    under_s_r1C.wp Tryz.prog (Exit.then K Q0) ⟨#[u0, u1, .pointer (some ⟨g, 0, none⟩), .pointer (some ⟨d1_0, 0, none⟩), .pointer (some ⟨d1_1, 0, none⟩), u5, u6, u7, u8, u9, u10, u11, u12, u13, u14, u15, u16, u17, u18, u19], []⟩ wy := by
  have HK := Lib.hid hK
  clear hK
  conv => arg 2; whnf
  refine Gw.line _ M ?_
  clear M wy
  refine Gw.sq (.func (.func 232) #[] #[.pointer (some ⟨g2, 0, none⟩)]) ?_ ?_
  · intro w M; have c0 := (M.below.cell (World.block_lt_of_cell? _ _ hg)).trans hg; go_simp
  try simp only [Act.put, ptA, ptB, ptC]
  refine Gw.sq (.agg #[.int .u64 (bi b.t.v), .int .u64 (bi b.t.m), .int .u64 b.u.lo, .int .u64 b.u.hi, .int .i64 b.s.lo, .int .i64 b.s.hi]) ?_ ?_
  · intro w M; have c := M.c6 2; go_simp
  try simp only [Act.put, ptA, ptB, ptC]
  refine Gw.sq (.agg #[.int .u64 (bi a.t.v), .int .u64 (bi a.t.m), .int .u64 a.u.lo, .int .u64 a.u.hi, .int .i64 a.s.lo, .int .i64 a.s.hi]) ?_ ?_
  · intro w M; have c := M.c6 3; go_simp
  try simp only [Act.put, ptA, ptB, ptC]
  refine Gw.sk (.tuple #[.agg #[.int .u64 (bi (above_s1 d b a).t.v), .int .u64 (bi (above_s1 d b a).t.m), .int .u64 ((above_s1 d b a).u.lo), .int .u64 ((above_s1 d b a).u.hi), .int .i64 ((above_s1 d b a).s.lo), .int .i64 ((above_s1 d b a).s.hi)], .agg #[.int .u64 (bi (above_s2 d b a).t.v), .int .u64 (bi (above_s2 d b a).t.m), .int .u64 ((above_s2 d b a).u.lo), .int .u64 ((above_s2 d b a).u.hi), .int .i64 ((above_s2 d b a).s.lo), .int .i64 ((above_s2 d b a).s.hi)], .bool (apOk .i64 d b.s a.s)]) 232 #[.agg #[.int .u64 (bi b.t.v), .int .u64 (bi b.t.m), .int .u64 b.u.lo, .int .u64 b.u.hi, .int .i64 b.s.lo, .int .i64 b.s.hi], .agg #[.int .u64 (bi a.t.v), .int .u64 (bi a.t.m), .int .u64 a.u.lo, .int .u64 a.u.hi, .int .i64 a.s.lo, .int .i64 a.s.hi], .pointer (some ⟨g2, 0, none⟩)] (fun w M => above_s b a d g2 w ((M.below.cell (World.block_lt_of_cell? _ _ hg2)).trans hg2)) ?_
  try simp only [Act.put, ptA, ptB, ptC]
  refine Gw.sw (.tuple #[.agg #[.int .u64 (bi (above_s1 d b a).t.v), .int .u64 (bi (above_s1 d b a).t.m), .int .u64 ((above_s1 d b a).u.lo), .int .u64 ((above_s1 d b a).u.hi), .int .i64 ((above_s1 d b a).s.lo), .int .i64 ((above_s1 d b a).s.hi)], .agg #[.int .u64 (bi (above_s2 d b a).t.v), .int .u64 (bi (above_s2 d b a).t.m), .int .u64 ((above_s2 d b a).u.lo), .int .u64 ((above_s2 d b a).u.hi), .int .i64 ((above_s2 d b a).s.lo), .int .i64 ((above_s2 d b a).s.hi)], .bool (apOk .i64 d b.s a.s)]) ?_
  try simp only [Act.put, ptA, ptB, ptC]
  refine Gw.sw (.agg #[.int .u64 (bi (above_s1 d b a).t.v), .int .u64 (bi (above_s1 d b a).t.m), .int .u64 ((above_s1 d b a).u.lo), .int .u64 ((above_s1 d b a).u.hi), .int .i64 ((above_s1 d b a).s.lo), .int .i64 ((above_s1 d b a).s.hi)]) ?_
  try simp only [Act.put, ptA, ptB, ptC]
  refine Gw.sw (.agg #[.int .u64 (bi (above_s2 d b a).t.v), .int .u64 (bi (above_s2 d b a).t.m), .int .u64 ((above_s2 d b a).u.lo), .int .u64 ((above_s2 d b a).u.hi), .int .i64 ((above_s2 d b a).s.lo), .int .i64 ((above_s2 d b a).s.hi)]) ?_
  try simp only [Act.put, ptA, ptB, ptC]
  refine Gw.sw (.bool (apOk .i64 d b.s a.s)) ?_
  try simp only [Act.put, ptA, ptB, ptC]
  refine Gw.ss ?_
  intro w M K' hK
  have c := M.c6 2
  have f := M.f6 2
  go_simp
  refine hK.out _ _ _ ((((((M.set 2 0 _).set 2 1 _).set 2 2 _).set 2 3 _).set 2 4 _).set 2 5 _) ?_
  clear hK K' c f M w
  refine Gw.ss ?_
  intro w M K' hK
  have c := M.c6 3
  have f := M.f6 3
  go_simp
  refine hK.out _ _ _ ((((((M.set 3 0 _).set 3 1 _).set 3 2 _).set 3 3 _).set 3 4 _).set 3 5 _) ?_
  clear hK K' c f M w
  refine Gw.sw (.bool (apOk .i64 d b.s a.s)) ?_
  try simp only [Act.put, ptA, ptB, ptC]
  exact fun z M => HK.out _ _ _ _ _ _ _ _ z M
noncomputable def under_s_r2C : Code := (Tryz.f235.body.bind (Rg.findR 2)).getD .skip
set_option maxHeartbeats 4000000 in
theorem under_s_r2 (a b : C) (d : Int) (g g2 : Nat) {w0 : World} (hg : w0.cell? ⟨g, 0, none⟩ = some (.func (.func 232) #[] #[.pointer (some ⟨g2, 0, none⟩)])) (hg2 : w0.cell? ⟨g2, 0, none⟩ = some (.int .i64 d)) {K : Act → World → Prop} {Q0 : Exit → Act → World → Prop} {d1_3 d1_2 d1_1 d1_0 : Nat} {u0 u1 u2 u7 u9 u10 u11 u12 u13 u14 u15 u16 u17 u18 u19 : Value}
    (hQ : ∀ c a d v w, Q0 (.panic c) (Act.put a d v) w → Q0 (.panic c) a w)
    (hK : ∀ (t17 t18 t19 : Value) (z : World), Gw.Mem w0 [(d1_3, .cells #[.int .u64 (bi (above_s1 d b a).t.v), .int .u64 (bi (above_s1 d b a).t.m), .int .u64 ((above_s1 d b a).u.lo), .int .u64 ((above_s1 d b a).u.hi), .int .i64 ((above_s1 d b a).s.lo), .int .i64 ((above_s1 d b a).s.hi)] 30), (d1_2, .cells #[.int .u64 (bi (above_s2 d b a).t.v), .int .u64 (bi (above_s2 d b a).t.m), .int .u64 ((above_s2 d b a).u.lo), .int .u64 ((above_s2 d b a).u.hi), .int .i64 ((above_s2 d b a).s.lo), .int .i64 ((above_s2 d b a).s.hi)] 30), (d1_1, .cells #[.int .u64 (bi (above_s1 d b a).t.v), .int .u64 (bi (above_s1 d b a).t.m), .int .u64 ((above_s1 d b a).u.lo), .int .u64 ((above_s1 d b a).u.hi), .int .i64 ((above_s1 d b a).s.lo), .int .i64 ((above_s1 d b a).s.hi)] 30), (d1_0, .cells #[.int .u64 (bi (above_s2 d b a).t.v), .int .u64 (bi (above_s2 d b a).t.m), .int .u64 ((above_s2 d b a).u.lo), .int .u64 ((above_s2 d b a).u.hi), .int .i64 ((above_s2 d b a).s.lo), .int .i64 ((above_s2 d b a).s.hi)] 30)] z → K ⟨#[u0, u1, u2, .pointer (some ⟨d1_0, 0, none⟩), .pointer (some ⟨d1_1, 0, none⟩), .pointer (some ⟨d1_2, 0, none⟩), .pointer (some ⟨d1_3, 0, none⟩), .bool (apOk .i64 d b.s a.s), .bool (apOk .i64 d b.s a.s), u9, u10, u11, u12, u13, u14, u15, u16, t17, t18, t19], []⟩ z) (wy : World) (M : Gw.Mem w0 [(d1_3, .cells #[.int .u64 0, .int .u64 0, .int .u64 0, .int .u64 0, .int .i64 0, .int .i64 0] 30), (d1_2, .cells #[.int .u64 0, .int .u64 0, .int .u64 0, .int .u64 0, .int .i64 0, .int .i64 0] 30), (d1_1, .cells #[.int .u64 (bi (above_s1 d b a).t.v), .int .u64 (bi (above_s1 d b a).t.m), .int .u64 ((above_s1 d b a).u.lo), .int .u64 ((above_s1 d b a).u.hi), .int .i64 ((above_s1 d b a).s.lo), .int .i64 ((above_s1 d b a).s.hi)] 30), (d1_0, .cells #[.int .u64 (bi (above_s2 d b a).t.v), .int .u64 (bi (above_s2 d b a).t.m), .int .u64 ((above_s2 d b a).u.lo), .int .u64 ((above_s2 d b a).u.hi), .int .i64 ((above_s2 d b a).s.lo), .int .i64 ((above_s2 d b a).s.hi)] 30)] wy) :
    under_s_r2C.wp Tryz.prog (Exit.then K Q0) ⟨#[u0, u1, u2, .pointer (some ⟨d1_0, 0, none⟩), .pointer (some ⟨d1_1, 0, none⟩), .pointer (some ⟨d1_2, 0, none⟩), .pointer (some ⟨d1_3, 0, none⟩), u7, .bool (apOk .i64 d b.s a.s), u9, u10, u11, u12, u13, u14, u15, u16, u17, u18, u19], []⟩ wy := by
  have HK := Lib.hid hK
  clear hK
  have hq : ∀ c a d v w, Exit.then K Q0 (.panic c) (Act.put a d v) w → Exit.then K Q0 (.panic c) a w := hQ
  conv => arg 2; whnf
  refine Gw.draw [3, 4] (Gw.Mem w0 [(d1_1, .cells #[.int .u64 (bi (above_s1 d b a).t.v), .int .u64 (bi (above_s1 d b a).t.m), .int .u64 ((above_s1 d b a).u.lo), .int .u64 ((above_s1 d b a).u.hi), .int .i64 ((above_s1 d b a).s.lo), .int .i64 ((above_s1 d b a).s.hi)] 30), (d1_0, .cells #[.int .u64 (bi (above_s2 d b a).t.v), .int .u64 (bi (above_s2 d b a).t.m), .int .u64 ((above_s2 d b a).u.lo), .int .u64 ((above_s2 d b a).u.hi), .int .i64 ((above_s2 d b a).s.lo), .int .i64 ((above_s2 d b a).s.hi)] 30)]) _ (by kernel_rfl) M.drew ?_
  have hG : ∀ z, Gw.Mem w0 [(d1_3, .cells #[.int .u64 0, .int .u64 0, .int .u64 0, .int .u64 0, .int .i64 0, .int .i64 0] 30), (d1_2, .cells #[.int .u64 0, .int .u64 0, .int .u64 0, .int .u64 0, .int .i64 0, .int .i64 0] 30), (d1_1, .cells #[.int .u64 (bi (above_s1 d b a).t.v), .int .u64 (bi (above_s1 d b a).t.m), .int .u64 ((above_s1 d b a).u.lo), .int .u64 ((above_s1 d b a).u.hi), .int .i64 ((above_s1 d b a).s.lo), .int .i64 ((above_s1 d b a).s.hi)] 30), (d1_0, .cells #[.int .u64 (bi (above_s2 d b a).t.v), .int .u64 (bi (above_s2 d b a).t.m), .int .u64 ((above_s2 d b a).u.lo), .int .u64 ((above_s2 d b a).u.hi), .int .i64 ((above_s2 d b a).s.lo), .int .i64 ((above_s2 d b a).s.hi)] 30)] z → Gw.Mem w0 [(d1_1, .cells #[.int .u64 (bi (above_s1 d b a).t.v), .int .u64 (bi (above_s1 d b a).t.m), .int .u64 ((above_s1 d b a).u.lo), .int .u64 ((above_s1 d b a).u.hi), .int .i64 ((above_s1 d b a).s.lo), .int .i64 ((above_s1 d b a).s.hi)] 30), (d1_0, .cells #[.int .u64 (bi (above_s2 d b a).t.v), .int .u64 (bi (above_s2 d b a).t.m), .int .u64 ((above_s2 d b a).u.lo), .int .u64 ((above_s2 d b a).u.hi), .int .i64 ((above_s2 d b a).s.lo), .int .i64 ((above_s2 d b a).s.hi)] 30)] z := fun _ h => h.sub (Gw.cd (Gw.cd (Gw.cc (Gw.cc Gw.cn))))
  clear M wy
  refine Gw.tg 0 (.agg #[.int .u64 (bi (above_s2 d b a).t.v), .int .u64 (bi (above_s2 d b a).t.m), .int .u64 ((above_s2 d b a).u.lo), .int .u64 ((above_s2 d b a).u.hi), .int .i64 ((above_s2 d b a).s.lo), .int .i64 ((above_s2 d b a).s.hi)]) ?_ ?_
  · intro w M; have c := M.c6 1; go_simp
  try simp only [Act.put, ptA, ptB, ptC]
  refine Gw.tg 1 (.agg #[.int .u64 (bi (above_s1 d b a).t.v), .int .u64 (bi (above_s1 d b a).t.m), .int .u64 ((above_s1 d b a).u.lo), .int .u64 ((above_s1 d b a).u.hi), .int .i64 ((above_s1 d b a).s.lo), .int .i64 ((above_s1 d b a).s.hi)]) ?_ ?_
  · intro w M; have c := M.c6 0; go_simp
  try simp only [Act.put, ptA, ptB, ptC]
  refine Gw.tw 2 (.bool (apOk .i64 d b.s a.s)) ?_
  try simp only [Act.put, ptA, ptB, ptC]
  refine Gw.ts 3 rfl (by kernel_rfl) ?_
  intro w M K' hK
  have c := M.c6 1
  have f := M.f6 1
  go_simp
  refine hK.out _ _ _ Gw.Mem.stays (fun h => by cases h) (fun _ h => h.sub (Gw.cd (Gw.cd (Gw.cc (Gw.cc Gw.cn))))) ((((((M.set 1 0 _).set 1 1 _).set 1 2 _).set 1 3 _).set 1 4 _).set 1 5 _) ?_
  clear hK K' c f M w
  refine Gw.ts 4 rfl (by kernel_rfl) ?_
  intro w M K' hK
  have c := M.c6 0
  have f := M.f6 0
  go_simp
  refine hK.out _ _ _ Gw.Mem.stays (fun h => by cases h) (fun _ h => h.sub (Gw.cd (Gw.cd (Gw.cc (Gw.cc Gw.cn))))) ((((((M.set 0 0 _).set 0 1 _).set 0 2 _).set 0 3 _).set 0 4 _).set 0 5 _) ?_
  clear hK K' c f M w
  refine Gw.tw 5 (.bool (apOk .i64 d b.s a.s)) ?_ (hG := (fun _ h => h.sub (Gw.cd (Gw.cd (Gw.cc (Gw.cc Gw.cn))))))
  try simp only [Act.put, ptA, ptB, ptC]
  exact Gw.td (by kernel_rfl) (fun z M => HK.out _ _ _ z M) _
set_option maxHeartbeats 4000000 in
theorem under_s (a b : C) (d : Int) (g g2 : Nat) (w : World) (hg : w.cell? ⟨g, 0, none⟩ = some (.func (.func 232) #[] #[.pointer (some ⟨g2, 0, none⟩)])) (hg2 : w.cell? ⟨g2, 0, none⟩ = some (.int .i64 d)):
    Calls Tryz.prog 235 #[.agg #[.int .u64 (bi a.t.v), .int .u64 (bi a.t.m), .int .u64 a.u.lo, .int .u64 a.u.hi, .int .i64 a.s.lo, .int .i64 a.s.hi], .agg #[.int .u64 (bi b.t.v), .int .u64 (bi b.t.m), .int .u64 b.u.lo, .int .u64 b.u.hi, .int .i64 b.s.lo, .int .i64 b.s.hi], .pointer (some ⟨g, 0, none⟩)] w fun e w' => e = .returned (.tuple #[.agg #[.int .u64 (bi (above_s2 d b a).t.v), .int .u64 (bi (above_s2 d b a).t.m), .int .u64 ((above_s2 d b a).u.lo), .int .u64 ((above_s2 d b a).u.hi), .int .i64 ((above_s2 d b a).s.lo), .int .i64 ((above_s2 d b a).s.hi)], .agg #[.int .u64 (bi (above_s1 d b a).t.v), .int .u64 (bi (above_s1 d b a).t.m), .int .u64 ((above_s1 d b a).u.lo), .int .u64 ((above_s1 d b a).u.hi), .int .i64 ((above_s1 d b a).s.lo), .int .i64 ((above_s1 d b a).s.hi)], .bool (apOk .i64 d b.s a.s)]) ∧ Below w.heap.size w w' := by
  go_enter Tryz.func235, Tryz.ntmps235
  have M := Gw.Mem.nil w
  refine wp_seq (under_s_r0 a b d g g2 hg hg2 (fun _ _ d _ _ h => by cases d <;> exact h) ?_ _ M)
  clear M
  intro _ d1_0 d1_1 d1_2 d1_3 z1 M
  refine wp_seq (under_s_r1 a b d g g2 hg hg2 (fun _ _ d _ _ h => by cases d <;> exact h) ?_ _ M)
  clear M
  intro _ _ _ _ _ _ _ _ z2 M
  refine wp_seq (under_s_r2 a b d g g2 hg hg2 (fun _ _ d _ _ h => by cases d <;> exact h) ?_ _ M)
  clear M
  intro _ _ _ z3 M
  refine wp_ret ?_
  try simp only [Exit.inBlock, Exit.then]
  have g0 := M.cell 1 0
  have g1 := M.cell 1 1
  have g2 := M.cell 1 2
  have g3 := M.cell 1 3
  have g4 := M.cell 1 4
  have g5 := M.cell 1 5
  have g6 := M.cell 0 0
  have g7 := M.cell 0 1
  have g8 := M.cell 0 2
  have g9 := M.cell 0 3
  have g10 := M.cell 0 4
  have g11 := M.cell 0 5
  refine bodyPost_ret (by simp [results, Tryz.results235, g0, g1, g2, g3, g4, g5, g6, g7, g8, g9, g10, g11, go_sem]; try rfl) rfl ?_
  exact ⟨rfl, M.below⟩
end Go.Proofs.YtcimihckhobniaaGreat.Sc
