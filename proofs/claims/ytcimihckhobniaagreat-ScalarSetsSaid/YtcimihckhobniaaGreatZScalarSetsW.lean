/-
  What the program's layer 5 tells: contracts, the walk of ScalarSets. Conditions: scalars may be, where that is said.
-/
import Derived.Test.YtcimihckhobniaaGreatZScalarP13
import Derived.Test.YtcimihckhobniaaGreatZM19
import Derived.Test.YtcimihckhobniaaGreatZM25
namespace Go.Proofs.YtcimihckhobniaaGreat.Sc
open Go.RowKit Tn Ow Sp
set_option linter.unusedVariables false
set_option linter.unusedSimpArgs false
set_option maxRecDepth 100000
theorem X_st : Tryz.prog.underlying 30 = some (.struct (Tryz.prog.fieldsOf 30)) := by kernel_rfl
theorem X_in : Tryz.prog.stoodInHeld 30 = false := by kernel_rfl
theorem X_eg : Tryz.prog.eqGuardType Tryz.prog.depth 30 = false := by kernel_rfl
theorem U_in : Tryz.prog.stoodInHeld 26 = false := by kernel_rfl
theorem S_st : Tryz.prog.underlying 28 = some (.struct (Tryz.prog.fieldsOf 28)) := by kernel_rfl
theorem S_in : Tryz.prog.stoodInHeld 28 = false := by kernel_rfl
theorem T_st : Tryz.prog.underlying 24 = some (.struct (Tryz.prog.fieldsOf 24)) := by kernel_rfl
theorem T_in : Tryz.prog.stoodInHeld 24 = false := by kernel_rfl
set_option maxHeartbeats 2000000 in
theorem X_eql (x : C) (w : World) : (binOp .eql 30 (.agg #[.int .u64 (bi x.t.v), .int .u64 (bi x.t.m), .int .u64 x.u.lo, .int .u64 x.u.hi, .int .i64 x.s.lo, .int .i64 x.s.hi]) (.agg #[.int .u64 (bi x.t.v), .int .u64 (bi x.t.m), .int .u64 x.u.lo, .int .u64 x.u.hi, .int .i64 x.s.lo, .int .i64 x.s.hi])).run Tryz.prog w = .ok (.bool true) w := by
  rw [run_eql_struct, run_equalIn_agg _ _ _ _ _ X_st X_in]
  simp only [Program.fieldsOf, Tryz.underlying30]
  simp [go_sem, run_equalIn_agg _ _ _ _ _ T_st T_in, run_equalIn_agg _ _ _ _ _ U_st U_in, run_equalIn_agg _ _ _ _ _ S_st S_in, Program.fieldsOf, Tryz.underlying24, Tryz.underlying26, Tryz.underlying28]
theorem X_guard (op : BinOp) (xs ys : Array Value) (o1 o2 : Operand) (w : World) : (eqGuard op 30 o1 o2 (.agg xs) (.agg ys)).run Tryz.prog w = .ok () w := run_eqGuard_agg w op _ o1 o2 _ _ X_eg
set_option maxHeartbeats 2000000 in
theorem X_neq (x : C) (w : World) : (binOp .neq 30 (.agg #[.int .u64 (bi x.t.v), .int .u64 (bi x.t.m), .int .u64 x.u.lo, .int .u64 x.u.hi, .int .i64 x.s.lo, .int .i64 x.s.hi]) (.agg #[.int .u64 (bi x.t.v), .int .u64 (bi x.t.m), .int .u64 x.u.lo, .int .u64 x.u.hi, .int .i64 x.s.lo, .int .i64 x.s.hi])).run Tryz.prog w = .ok (.bool false) w := by
  rw [run_neq_struct, run_equalIn_agg _ _ _ _ _ X_st X_in]
  simp only [Program.fieldsOf, Tryz.underlying30]
  simp [go_sem, run_equalIn_agg _ _ _ _ _ T_st T_in, run_equalIn_agg _ _ _ _ _ U_st U_in, run_equalIn_agg _ _ _ _ _ S_st S_in, Program.fieldsOf, Tryz.underlying24, Tryz.underlying26, Tryz.underlying28]
noncomputable def sets_w_r0C : Code := (Tryz.f3.body.bind (Rg.findR 0)).getD .skip
set_option maxHeartbeats 4000000 in
theorem sets_w_r0 (x y : C) (v : BitVec 64) (n : Int) (hx : inX x) (hy : inX y) (hn : -9223372036854775808 ≤ n ∧ n ≤ 9223372036854775807) {w0 : World}  {K : Act → World → Prop} {Q0 : Exit → Act → World → Prop} {u2 u3 u4 u5 u6 u7 u8 u9 u10 u11 u12 u13 u14 u15 u16 u17 u18 u19 u20 u21 u22 u23 u24 u25 u26 u27 u28 u29 u30 u31 u32 u33 u34 u35 u36 u37 u38 u39 u40 u41 u42 u43 u44 u45 u46 u47 u48 u49 u50 u51 u52 u53 u54 u55 u56 u57 u58 u59 u60 u61 u62 u63 u64 u65 u66 u67 u68 u69 u70 u71 u72 u73 u74 u75 u76 u77 u78 u79 u80 u81 u82 u83 u84 u85 u86 u87 u88 u89 u90 u91 u92 u93 u94 u95 u96 u97 u98 u99 u100 u101 u102 u103 u104 u105 : Value}
    (hQ : ∀ c a d v w, Q0 (.panic c) (Act.put a d v) w → Q0 (.panic c) a w)
    (hK : ∀ (t8 : Value) (d1_0 d1_1 : Nat) (z : World), Gw.Mem w0 [(d1_1, .cells #[.int .u64 (bi y.t.v), .int .u64 (bi y.t.m), .int .u64 y.u.lo, .int .u64 y.u.hi, .int .i64 y.s.lo, .int .i64 y.s.hi] 30), (d1_0, .cells #[.int .u64 (bi x.t.v), .int .u64 (bi x.t.m), .int .u64 x.u.lo, .int .u64 x.u.hi, .int .i64 x.s.lo, .int .i64 x.s.hi] 30)] z → K ⟨#[.agg #[.int .u64 (bi x.t.v), .int .u64 (bi x.t.m), .int .u64 x.u.lo, .int .u64 x.u.hi, .int .i64 x.s.lo, .int .i64 x.s.hi], .agg #[.int .u64 (bi y.t.v), .int .u64 (bi y.t.m), .int .u64 y.u.lo, .int .u64 y.u.hi, .int .i64 y.s.lo, .int .i64 y.s.hi], u2, u3, .pointer (some ⟨d1_0, 0, none⟩), .pointer (some ⟨d1_1, 0, none⟩), u6, u7, t8, u9, u10, u11, u12, u13, u14, u15, u16, u17, u18, u19, u20, u21, u22, u23, u24, u25, u26, u27, u28, u29, u30, u31, u32, u33, u34, u35, u36, u37, u38, u39, u40, u41, u42, u43, u44, u45, u46, u47, u48, u49, u50, u51, u52, u53, u54, u55, u56, u57, u58, u59, u60, u61, u62, u63, u64, u65, u66, u67, u68, u69, u70, u71, u72, u73, u74, u75, u76, u77, u78, u79, u80, u81, u82, u83, u84, u85, u86, u87, u88, u89, u90, u91, u92, u93, u94, u95, u96, u97, u98, u99, u100, u101, u102, u103, u104, u105], []⟩ z) (wy : World) (M : Gw.Mem w0 [] wy) :
    sets_w_r0C.wp Tryz.prog (Exit.then K Q0) ⟨#[.agg #[.int .u64 (bi x.t.v), .int .u64 (bi x.t.m), .int .u64 x.u.lo, .int .u64 x.u.hi, .int .i64 x.s.lo, .int .i64 x.s.hi], .agg #[.int .u64 (bi y.t.v), .int .u64 (bi y.t.m), .int .u64 y.u.lo, .int .u64 y.u.hi, .int .i64 y.s.lo, .int .i64 y.s.hi], u2, u3, u4, u5, u6, u7, u8, u9, u10, u11, u12, u13, u14, u15, u16, u17, u18, u19, u20, u21, u22, u23, u24, u25, u26, u27, u28, u29, u30, u31, u32, u33, u34, u35, u36, u37, u38, u39, u40, u41, u42, u43, u44, u45, u46, u47, u48, u49, u50, u51, u52, u53, u54, u55, u56, u57, u58, u59, u60, u61, u62, u63, u64, u65, u66, u67, u68, u69, u70, u71, u72, u73, u74, u75, u76, u77, u78, u79, u80, u81, u82, u83, u84, u85, u86, u87, u88, u89, u90, u91, u92, u93, u94, u95, u96, u97, u98, u99, u100, u101, u102, u103, u104, u105], []⟩ wy := by
  have HK := Lib.hid hK
  clear hK
  conv => arg 2; whnf
  refine Gw.line _ M ?_
  clear M wy
  refine Gw.ss ?_
  intro w M K' hK
  go_simp
  have M1 := M.alloc (.cells #[.int .u64 (bi x.t.v), .int .u64 (bi x.t.m), .int .u64 x.u.lo, .int .u64 x.u.hi, .int .i64 x.s.lo, .int .i64 x.s.hi] 30)
  generalize w.heap.size = d1_0 at M1 ⊢
  refine hK.out _ _ _ M1 ?_
  clear hK K' M1 M w
  try simp only [Act.put, ptA, ptB, ptC]
  refine Gw.ss ?_
  intro w M K' hK
  go_simp
  have M1 := M.alloc (.cells #[.int .u64 (bi y.t.v), .int .u64 (bi y.t.m), .int .u64 y.u.lo, .int .u64 y.u.hi, .int .i64 y.s.lo, .int .i64 y.s.hi] 30)
  generalize w.heap.size = d1_1 at M1 ⊢
  refine hK.out _ _ _ M1 ?_
  clear hK K' M1 M w
  try simp only [Act.put, ptA, ptB, ptC]
  refine Gw.sw (.bool false) ?_
  try simp only [Act.put, ptA, ptB, ptC]
  exact fun z M => HK.out _ _ _ z M
noncomputable def sets_w_r1C : Code := (Tryz.f3.body.bind (Rg.findR 1)).getD .skip
set_option maxHeartbeats 4000000 in
theorem sets_w_r1 (x y : C) (v : BitVec 64) (n : Int) (hx : inX x) (hy : inX y) (hn : -9223372036854775808 ≤ n ∧ n ≤ 9223372036854775807) {w0 : World}  {K : Act → World → Prop} {Q0 : Exit → Act → World → Prop} {d1_1 d1_0 : Nat} {u0 u1 u2 u3 u5 u6 u7 u8 u9 u10 u11 u12 u13 u14 u15 u16 u17 u18 u19 u20 u21 u22 u23 u24 u25 u26 u27 u28 u29 u30 u31 u32 u33 u34 u35 u36 u37 u38 u39 u40 u41 u42 u43 u44 u45 u46 u47 u48 u49 u50 u51 u52 u53 u54 u55 u56 u57 u58 u59 u60 u61 u62 u63 u64 u65 u66 u67 u68 u69 u70 u71 u72 u73 u74 u75 u76 u77 u78 u79 u80 u81 u82 u83 u84 u85 u86 u87 u88 u89 u90 u91 u92 u93 u94 u95 u96 u97 u98 u99 u100 u101 u102 u103 u104 u105 : Value}
    (hQ : ∀ c a d v w, Q0 (.panic c) (Act.put a d v) w → Q0 (.panic c) a w)
    (hK : ∀ (t17 t18 : Value) (z : World), Gw.Mem w0 [(d1_1, .cells #[.int .u64 (bi y.t.v), .int .u64 (bi y.t.m), .int .u64 y.u.lo, .int .u64 y.u.hi, .int .i64 y.s.lo, .int .i64 y.s.hi] 30), (d1_0, .cells #[.int .u64 (bi (sortC x).t.v), .int .u64 (bi (sortC x).t.m), .int .u64 ((sortC x).u.lo), .int .u64 ((sortC x).u.hi), .int .i64 ((sortC x).s.lo), .int .i64 ((sortC x).s.hi)] 30)] z → K ⟨#[u0, u1, u2, u3, .pointer (some ⟨d1_0, 0, none⟩), u5, u6, u7, u8, u9, u10, u11, u12, u13, u14, u15, u16, t17, t18, u19, u20, u21, u22, u23, u24, u25, u26, u27, u28, u29, u30, u31, u32, u33, u34, u35, u36, u37, u38, u39, u40, u41, u42, u43, u44, u45, u46, u47, u48, u49, u50, u51, u52, u53, u54, u55, u56, u57, u58, u59, u60, u61, u62, u63, u64, u65, u66, u67, u68, u69, u70, u71, u72, u73, u74, u75, u76, u77, u78, u79, u80, u81, u82, u83, u84, u85, u86, u87, u88, u89, u90, u91, u92, u93, u94, u95, u96, u97, u98, u99, u100, u101, u102, u103, u104, u105], []⟩ z) (wy : World) (M : Gw.Mem w0 [(d1_1, .cells #[.int .u64 (bi y.t.v), .int .u64 (bi y.t.m), .int .u64 y.u.lo, .int .u64 y.u.hi, .int .i64 y.s.lo, .int .i64 y.s.hi] 30), (d1_0, .cells #[.int .u64 (bi x.t.v), .int .u64 (bi x.t.m), .int .u64 x.u.lo, .int .u64 x.u.hi, .int .i64 x.s.lo, .int .i64 x.s.hi] 30)] wy) :
    sets_w_r1C.wp Tryz.prog (Exit.then K Q0) ⟨#[u0, u1, u2, u3, .pointer (some ⟨d1_0, 0, none⟩), u5, u6, u7, u8, u9, u10, u11, u12, u13, u14, u15, u16, u17, u18, u19, u20, u21, u22, u23, u24, u25, u26, u27, u28, u29, u30, u31, u32, u33, u34, u35, u36, u37, u38, u39, u40, u41, u42, u43, u44, u45, u46, u47, u48, u49, u50, u51, u52, u53, u54, u55, u56, u57, u58, u59, u60, u61, u62, u63, u64, u65, u66, u67, u68, u69, u70, u71, u72, u73, u74, u75, u76, u77, u78, u79, u80, u81, u82, u83, u84, u85, u86, u87, u88, u89, u90, u91, u92, u93, u94, u95, u96, u97, u98, u99, u100, u101, u102, u103, u104, u105], []⟩ wy := by
  have HK := Lib.hid hK
  clear hK
  conv => arg 2; whnf
  refine Gw.line _ M ?_
  clear M wy
  refine Gw.sq (.agg #[.int .u64 (bi x.t.v), .int .u64 (bi x.t.m), .int .u64 x.u.lo, .int .u64 x.u.hi, .int .i64 x.s.lo, .int .i64 x.s.hi]) ?_ ?_
  · intro w M; have c := M.c6 1; go_simp
  try simp only [Act.put, ptA, ptB, ptC]
  refine Gw.sk (.agg #[.int .u64 (bi (sortC x).t.v), .int .u64 (bi (sortC x).t.m), .int .u64 ((sortC x).u.lo), .int .u64 ((sortC x).u.hi), .int .i64 ((sortC x).s.lo), .int .i64 ((sortC x).s.hi)]) 12 #[.agg #[.int .u64 (bi x.t.v), .int .u64 (bi x.t.m), .int .u64 x.u.lo, .int .u64 x.u.hi, .int .i64 x.s.lo, .int .i64 x.s.hi]] (fun w M => May5 x w) ?_
  try simp only [Act.put, ptA, ptB, ptC]
  refine Gw.ss ?_
  intro w M K' hK
  have c := M.c6 1
  have f := M.f6 1
  go_simp
  refine hK.out _ _ _ ((((((M.set 1 0 _).set 1 1 _).set 1 2 _).set 1 3 _).set 1 4 _).set 1 5 _) ?_
  clear hK K' c f M w
  exact fun z M => HK.out _ _ z M
noncomputable def sets_w_r2C : Code := (Tryz.f3.body.bind (Rg.findR 2)).getD .skip
set_option maxHeartbeats 4000000 in
theorem sets_w_r2 (x y : C) (v : BitVec 64) (n : Int) (hx : inX x) (hy : inX y) (hn : -9223372036854775808 ≤ n ∧ n ≤ 9223372036854775807) {w0 : World}  {K : Act → World → Prop} {Q0 : Exit → Act → World → Prop} {d1_1 d1_0 : Nat} {u0 u1 u2 u3 u4 u6 u7 u8 u9 u10 u11 u12 u13 u14 u15 u16 u17 u18 u19 u20 u21 u22 u23 u24 u25 u26 u27 u28 u29 u30 u31 u32 u33 u34 u35 u36 u37 u38 u39 u40 u41 u42 u43 u44 u45 u46 u47 u48 u49 u50 u51 u52 u53 u54 u55 u56 u57 u58 u59 u60 u61 u62 u63 u64 u65 u66 u67 u68 u69 u70 u71 u72 u73 u74 u75 u76 u77 u78 u79 u80 u81 u82 u83 u84 u85 u86 u87 u88 u89 u90 u91 u92 u93 u94 u95 u96 u97 u98 u99 u100 u101 u102 u103 u104 u105 : Value}
    (hQ : ∀ c a d v w, Q0 (.panic c) (Act.put a d v) w → Q0 (.panic c) a w)
    (hK : ∀ (t19 t20 : Value) (z : World), Gw.Mem w0 [(d1_1, .cells #[.int .u64 (bi (sortC y).t.v), .int .u64 (bi (sortC y).t.m), .int .u64 ((sortC y).u.lo), .int .u64 ((sortC y).u.hi), .int .i64 ((sortC y).s.lo), .int .i64 ((sortC y).s.hi)] 30), (d1_0, .cells #[.int .u64 (bi (sortC x).t.v), .int .u64 (bi (sortC x).t.m), .int .u64 ((sortC x).u.lo), .int .u64 ((sortC x).u.hi), .int .i64 ((sortC x).s.lo), .int .i64 ((sortC x).s.hi)] 30)] z → K ⟨#[u0, u1, u2, u3, u4, .pointer (some ⟨d1_1, 0, none⟩), u6, u7, u8, u9, u10, u11, u12, u13, u14, u15, u16, u17, u18, t19, t20, u21, u22, u23, u24, u25, u26, u27, u28, u29, u30, u31, u32, u33, u34, u35, u36, u37, u38, u39, u40, u41, u42, u43, u44, u45, u46, u47, u48, u49, u50, u51, u52, u53, u54, u55, u56, u57, u58, u59, u60, u61, u62, u63, u64, u65, u66, u67, u68, u69, u70, u71, u72, u73, u74, u75, u76, u77, u78, u79, u80, u81, u82, u83, u84, u85, u86, u87, u88, u89, u90, u91, u92, u93, u94, u95, u96, u97, u98, u99, u100, u101, u102, u103, u104, u105], []⟩ z) (wy : World) (M : Gw.Mem w0 [(d1_1, .cells #[.int .u64 (bi y.t.v), .int .u64 (bi y.t.m), .int .u64 y.u.lo, .int .u64 y.u.hi, .int .i64 y.s.lo, .int .i64 y.s.hi] 30), (d1_0, .cells #[.int .u64 (bi (sortC x).t.v), .int .u64 (bi (sortC x).t.m), .int .u64 ((sortC x).u.lo), .int .u64 ((sortC x).u.hi), .int .i64 ((sortC x).s.lo), .int .i64 ((sortC x).s.hi)] 30)] wy) :
    sets_w_r2C.wp Tryz.prog (Exit.then K Q0) ⟨#[u0, u1, u2, u3, u4, .pointer (some ⟨d1_1, 0, none⟩), u6, u7, u8, u9, u10, u11, u12, u13, u14, u15, u16, u17, u18, u19, u20, u21, u22, u23, u24, u25, u26, u27, u28, u29, u30, u31, u32, u33, u34, u35, u36, u37, u38, u39, u40, u41, u42, u43, u44, u45, u46, u47, u48, u49, u50, u51, u52, u53, u54, u55, u56, u57, u58, u59, u60, u61, u62, u63, u64, u65, u66, u67, u68, u69, u70, u71, u72, u73, u74, u75, u76, u77, u78, u79, u80, u81, u82, u83, u84, u85, u86, u87, u88, u89, u90, u91, u92, u93, u94, u95, u96, u97, u98, u99, u100, u101, u102, u103, u104, u105], []⟩ wy := by
  have HK := Lib.hid hK
  clear hK
  conv => arg 2; whnf
  refine Gw.line _ M ?_
  clear M wy
  refine Gw.sq (.agg #[.int .u64 (bi y.t.v), .int .u64 (bi y.t.m), .int .u64 y.u.lo, .int .u64 y.u.hi, .int .i64 y.s.lo, .int .i64 y.s.hi]) ?_ ?_
  · intro w M; have c := M.c6 0; go_simp
  try simp only [Act.put, ptA, ptB, ptC]
  refine Gw.sk (.agg #[.int .u64 (bi (sortC y).t.v), .int .u64 (bi (sortC y).t.m), .int .u64 ((sortC y).u.lo), .int .u64 ((sortC y).u.hi), .int .i64 ((sortC y).s.lo), .int .i64 ((sortC y).s.hi)]) 12 #[.agg #[.int .u64 (bi y.t.v), .int .u64 (bi y.t.m), .int .u64 y.u.lo, .int .u64 y.u.hi, .int .i64 y.s.lo, .int .i64 y.s.hi]] (fun w M => May5 y w) ?_
  try simp only [Act.put, ptA, ptB, ptC]
  refine Gw.ss ?_
  intro w M K' hK
  have c := M.c6 0
  have f := M.f6 0
  go_simp
  refine hK.out _ _ _ ((((((M.set 0 0 _).set 0 1 _).set 0 2 _).set 0 3 _).set 0 4 _).set 0 5 _) ?_
  clear hK K' c f M w
  exact fun z M => HK.out _ _ z M
noncomputable def sets_w_r3C : Code := (Tryz.f3.body.bind (Rg.findR 3)).getD .skip
set_option maxHeartbeats 4000000 in
theorem sets_w_r3 (x y : C) (v : BitVec 64) (n : Int) (hx : inX x) (hy : inX y) (hn : -9223372036854775808 ≤ n ∧ n ≤ 9223372036854775807) {w0 : World}  {K : Act → World → Prop} {Q0 : Exit → Act → World → Prop} {d1_1 d1_0 : Nat} {u0 u1 u2 u3 u5 u6 u7 u8 u9 u10 u11 u12 u13 u14 u15 u16 u17 u18 u19 u20 u21 u22 u23 u24 u25 u26 u27 u28 u29 u30 u31 u32 u33 u34 u35 u36 u37 u38 u39 u40 u41 u42 u43 u44 u45 u46 u47 u48 u49 u50 u51 u52 u53 u54 u55 u56 u57 u58 u59 u60 u61 u62 u63 u64 u65 u66 u67 u68 u69 u70 u71 u72 u73 u74 u75 u76 u77 u78 u79 u80 u81 u82 u83 u84 u85 u86 u87 u88 u89 u90 u91 u92 u93 u94 u95 u96 u97 u98 u99 u100 u101 u102 u103 u104 u105 : Value}
    (hQ : ∀ c a d v w, Q0 (.panic c) (Act.put a d v) w → Q0 (.panic c) a w)
    (hK : ∀ (t21 t22 t23 t24 t25 : Value) (z : World), Gw.Mem w0 [(d1_1, .cells #[.int .u64 (bi (sortC y).t.v), .int .u64 (bi (sortC y).t.m), .int .u64 ((sortC y).u.lo), .int .u64 ((sortC y).u.hi), .int .i64 ((sortC y).s.lo), .int .i64 ((sortC y).s.hi)] 30), (d1_0, .cells #[.int .u64 (bi (sortC x).t.v), .int .u64 (bi (sortC x).t.m), .int .u64 ((sortC x).u.lo), .int .u64 ((sortC x).u.hi), .int .i64 ((sortC x).s.lo), .int .i64 ((sortC x).s.hi)] 30)] z → K ⟨#[u0, u1, u2, u3, .pointer (some ⟨d1_0, 0, none⟩), u5, u6, u7, u8, .int .u64 (oneC (sortC x)), .bool (aloneC (sortC x)), u11, u12, u13, u14, u15, u16, u17, u18, u19, u20, t21, t22, t23, t24, t25, u26, u27, u28, u29, u30, u31, u32, u33, u34, u35, u36, u37, u38, u39, u40, u41, u42, u43, u44, u45, u46, u47, u48, u49, u50, u51, u52, u53, u54, u55, u56, u57, u58, u59, u60, u61, u62, u63, u64, u65, u66, u67, u68, u69, u70, u71, u72, u73, u74, u75, u76, u77, u78, u79, u80, u81, u82, u83, u84, u85, u86, u87, u88, u89, u90, u91, u92, u93, u94, u95, u96, u97, u98, u99, u100, u101, u102, u103, u104, u105], []⟩ z) (wy : World) (M : Gw.Mem w0 [(d1_1, .cells #[.int .u64 (bi (sortC y).t.v), .int .u64 (bi (sortC y).t.m), .int .u64 ((sortC y).u.lo), .int .u64 ((sortC y).u.hi), .int .i64 ((sortC y).s.lo), .int .i64 ((sortC y).s.hi)] 30), (d1_0, .cells #[.int .u64 (bi (sortC x).t.v), .int .u64 (bi (sortC x).t.m), .int .u64 ((sortC x).u.lo), .int .u64 ((sortC x).u.hi), .int .i64 ((sortC x).s.lo), .int .i64 ((sortC x).s.hi)] 30)] wy) :
    sets_w_r3C.wp Tryz.prog (Exit.then K Q0) ⟨#[u0, u1, u2, u3, .pointer (some ⟨d1_0, 0, none⟩), u5, u6, u7, u8, u9, u10, u11, u12, u13, u14, u15, u16, u17, u18, u19, u20, u21, u22, u23, u24, u25, u26, u27, u28, u29, u30, u31, u32, u33, u34, u35, u36, u37, u38, u39, u40, u41, u42, u43, u44, u45, u46, u47, u48, u49, u50, u51, u52, u53, u54, u55, u56, u57, u58, u59, u60, u61, u62, u63, u64, u65, u66, u67, u68, u69, u70, u71, u72, u73, u74, u75, u76, u77, u78, u79, u80, u81, u82, u83, u84, u85, u86, u87, u88, u89, u90, u91, u92, u93, u94, u95, u96, u97, u98, u99, u100, u101, u102, u103, u104, u105], []⟩ wy := by
  have HK := Lib.hid hK
  clear hK
  conv => arg 2; whnf
  refine Gw.line _ M ?_
  clear M wy
  refine Gw.sq (.agg #[.int .u64 (bi (sortC x).t.v), .int .u64 (bi (sortC x).t.m), .int .u64 ((sortC x).u.lo), .int .u64 ((sortC x).u.hi), .int .i64 ((sortC x).s.lo), .int .i64 ((sortC x).s.hi)]) ?_ ?_
  · intro w M; have c := M.c6 1; go_simp
  try simp only [Act.put, ptA, ptB, ptC]
  refine Gw.sk (.tuple #[.int .u64 (oneC (sortC x)), .bool (aloneC (sortC x))]) 13 #[.agg #[.int .u64 (bi (sortC x).t.v), .int .u64 (bi (sortC x).t.m), .int .u64 ((sortC x).u.lo), .int .u64 ((sortC x).u.hi), .int .i64 ((sortC x).s.lo), .int .i64 ((sortC x).s.hi)]] (fun w M => is5 (sortC x) (sort_ok hx) w) ?_
  try simp only [Act.put, ptA, ptB, ptC]
  refine Gw.sw (.tuple #[.int .u64 (oneC (sortC x)), .bool (aloneC (sortC x))]) ?_
  try simp only [Act.put, ptA, ptB, ptC]
  refine Gw.sw (.int .u64 (oneC (sortC x))) ?_
  try simp only [Act.put, ptA, ptB, ptC]
  refine Gw.sw (.bool (aloneC (sortC x))) ?_
  try simp only [Act.put, ptA, ptB, ptC]
  refine Gw.sw (.int .u64 (oneC (sortC x))) ?_
  try simp only [Act.put, ptA, ptB, ptC]
  refine Gw.sw (.bool (aloneC (sortC x))) ?_
  try simp only [Act.put, ptA, ptB, ptC]
  exact fun z M => HK.out _ _ _ _ _ z M
noncomputable def sets_w_r4C : Code := (Tryz.f3.body.bind (Rg.findR 4)).getD .skip
set_option maxHeartbeats 4000000 in
theorem sets_w_r4 (x y : C) (v : BitVec 64) (n : Int) (hx : inX x) (hy : inX y) (hn : -9223372036854775808 ≤ n ∧ n ≤ 9223372036854775807) {w0 : World}  {K : Act → World → Prop} {Q0 : Exit → Act → World → Prop} {d1_1 d1_0 : Nat} {u0 u1 u2 u3 u5 u6 u7 u8 u9 u10 u11 u12 u13 u14 u15 u16 u17 u18 u19 u20 u21 u22 u23 u24 u25 u26 u27 u28 u29 u30 u31 u32 u33 u34 u35 u36 u37 u38 u39 u40 u41 u42 u43 u44 u45 u46 u47 u48 u49 u50 u51 u52 u53 u54 u55 u56 u57 u58 u59 u60 u61 u62 u63 u64 u65 u66 u67 u68 u69 u70 u71 u72 u73 u74 u75 u76 u77 u78 u79 u80 u81 u82 u83 u84 u85 u86 u87 u88 u89 u90 u91 u92 u93 u94 u95 u96 u97 u98 u99 u100 u101 u102 u103 u104 u105 : Value}
    (hQ : ∀ c a d v w, Q0 (.panic c) (Act.put a d v) w → Q0 (.panic c) a w)
    (hK : ∀ (t26 t27 t28 t29 t30 : Value) (z : World), Gw.Mem w0 [(d1_1, .cells #[.int .u64 (bi (sortC y).t.v), .int .u64 (bi (sortC y).t.m), .int .u64 ((sortC y).u.lo), .int .u64 ((sortC y).u.hi), .int .i64 ((sortC y).s.lo), .int .i64 ((sortC y).s.hi)] 30), (d1_0, .cells #[.int .u64 (bi (sortC x).t.v), .int .u64 (bi (sortC x).t.m), .int .u64 ((sortC x).u.lo), .int .u64 ((sortC x).u.hi), .int .i64 ((sortC x).s.lo), .int .i64 ((sortC x).s.hi)] 30)] z → K ⟨#[u0, u1, u2, u3, .pointer (some ⟨d1_0, 0, none⟩), u5, u6, u7, u8, u9, u10, .int .u64 (oneC (sortC x)), .bool (aloneC (sortC x)), u13, u14, u15, u16, u17, u18, u19, u20, u21, u22, u23, u24, u25, t26, t27, t28, t29, t30, u31, u32, u33, u34, u35, u36, u37, u38, u39, u40, u41, u42, u43, u44, u45, u46, u47, u48, u49, u50, u51, u52, u53, u54, u55, u56, u57, u58, u59, u60, u61, u62, u63, u64, u65, u66, u67, u68, u69, u70, u71, u72, u73, u74, u75, u76, u77, u78, u79, u80, u81, u82, u83, u84, u85, u86, u87, u88, u89, u90, u91, u92, u93, u94, u95, u96, u97, u98, u99, u100, u101, u102, u103, u104, u105], []⟩ z) (wy : World) (M : Gw.Mem w0 [(d1_1, .cells #[.int .u64 (bi (sortC y).t.v), .int .u64 (bi (sortC y).t.m), .int .u64 ((sortC y).u.lo), .int .u64 ((sortC y).u.hi), .int .i64 ((sortC y).s.lo), .int .i64 ((sortC y).s.hi)] 30), (d1_0, .cells #[.int .u64 (bi (sortC x).t.v), .int .u64 (bi (sortC x).t.m), .int .u64 ((sortC x).u.lo), .int .u64 ((sortC x).u.hi), .int .i64 ((sortC x).s.lo), .int .i64 ((sortC x).s.hi)] 30)] wy) :
    sets_w_r4C.wp Tryz.prog (Exit.then K Q0) ⟨#[u0, u1, u2, u3, .pointer (some ⟨d1_0, 0, none⟩), u5, u6, u7, u8, u9, u10, u11, u12, u13, u14, u15, u16, u17, u18, u19, u20, u21, u22, u23, u24, u25, u26, u27, u28, u29, u30, u31, u32, u33, u34, u35, u36, u37, u38, u39, u40, u41, u42, u43, u44, u45, u46, u47, u48, u49, u50, u51, u52, u53, u54, u55, u56, u57, u58, u59, u60, u61, u62, u63, u64, u65, u66, u67, u68, u69, u70, u71, u72, u73, u74, u75, u76, u77, u78, u79, u80, u81, u82, u83, u84, u85, u86, u87, u88, u89, u90, u91, u92, u93, u94, u95, u96, u97, u98, u99, u100, u101, u102, u103, u104, u105], []⟩ wy := by
  have HK := Lib.hid hK
  clear hK
  conv => arg 2; whnf
  refine Gw.line _ M ?_
  clear M wy
  refine Gw.sq (.agg #[.int .u64 (bi (sortC x).t.v), .int .u64 (bi (sortC x).t.m), .int .u64 ((sortC x).u.lo), .int .u64 ((sortC x).u.hi), .int .i64 ((sortC x).s.lo), .int .i64 ((sortC x).s.hi)]) ?_ ?_
  · intro w M; have c := M.c6 1; go_simp
  try simp only [Act.put, ptA, ptB, ptC]
  refine Gw.sk (.tuple #[.int .u64 (oneC (sortC x)), .bool (aloneC (sortC x))]) 14 #[.agg #[.int .u64 (bi (sortC x).t.v), .int .u64 (bi (sortC x).t.m), .int .u64 ((sortC x).u.lo), .int .u64 ((sortC x).u.hi), .int .i64 ((sortC x).s.lo), .int .i64 ((sortC x).s.hi)]] (fun w M => ris5 (sortC x) (sort_ok hx) w) ?_
  try simp only [Act.put, ptA, ptB, ptC]
  refine Gw.sw (.tuple #[.int .u64 (oneC (sortC x)), .bool (aloneC (sortC x))]) ?_
  try simp only [Act.put, ptA, ptB, ptC]
  refine Gw.sw (.int .u64 (oneC (sortC x))) ?_
  try simp only [Act.put, ptA, ptB, ptC]
  refine Gw.sw (.bool (aloneC (sortC x))) ?_
  try simp only [Act.put, ptA, ptB, ptC]
  refine Gw.sw (.int .u64 (oneC (sortC x))) ?_
  try simp only [Act.put, ptA, ptB, ptC]
  refine Gw.sw (.bool (aloneC (sortC x))) ?_
  try simp only [Act.put, ptA, ptB, ptC]
  exact fun z M => HK.out _ _ _ _ _ z M
noncomputable def sets_w_r5C : Code := (Tryz.f3.body.bind (Rg.findR 5)).getD .skip
set_option maxHeartbeats 4000000 in
theorem sets_w_r5 (x y : C) (v : BitVec 64) (n : Int) (hx : inX x) (hy : inX y) (hn : -9223372036854775808 ≤ n ∧ n ≤ 9223372036854775807) {w0 : World}  {K : Act → World → Prop} {Q0 : Exit → Act → World → Prop} {d1_1 d1_0 : Nat} {u0 u1 u2 u3 u5 u6 u7 u8 u9 u10 u11 u12 u13 u14 u15 u16 u17 u18 u19 u20 u21 u22 u23 u24 u25 u26 u27 u28 u29 u30 u31 u32 u33 u34 u35 u36 u37 u38 u39 u40 u41 u42 u43 u44 u45 u46 u47 u48 u49 u50 u51 u52 u53 u54 u55 u56 u57 u58 u59 u60 u61 u62 u63 u64 u65 u66 u67 u68 u69 u70 u71 u72 u73 u74 u75 u76 u77 u78 u79 u80 u81 u82 u83 u84 u85 u86 u87 u88 u89 u90 u91 u92 u93 u94 u95 u96 u97 u98 u99 u100 u101 u102 u103 u104 u105 : Value}
    (hQ : ∀ c a d v w, Q0 (.panic c) (Act.put a d v) w → Q0 (.panic c) a w)
    (hK : ∀ (t31 t32 t33 t34 t35 : Value) (d6_5 : Nat) (z : World), Gw.Mem w0 [(d6_5, .cells #[.int .u64 (bi ((normC (sortC x)).getD zeroC).t.v), .int .u64 (bi ((normC (sortC x)).getD zeroC).t.m), .int .u64 (((normC (sortC x)).getD zeroC).u.lo), .int .u64 (((normC (sortC x)).getD zeroC).u.hi), .int .i64 (((normC (sortC x)).getD zeroC).s.lo), .int .i64 (((normC (sortC x)).getD zeroC).s.hi)] 30), (d1_1, .cells #[.int .u64 (bi (sortC y).t.v), .int .u64 (bi (sortC y).t.m), .int .u64 ((sortC y).u.lo), .int .u64 ((sortC y).u.hi), .int .i64 ((sortC y).s.lo), .int .i64 ((sortC y).s.hi)] 30), (d1_0, .cells #[.int .u64 (bi (sortC x).t.v), .int .u64 (bi (sortC x).t.m), .int .u64 ((sortC x).u.lo), .int .u64 ((sortC x).u.hi), .int .i64 ((sortC x).s.lo), .int .i64 ((sortC x).s.hi)] 30)] z → K ⟨#[u0, u1, u2, u3, .pointer (some ⟨d1_0, 0, none⟩), u5, u6, u7, u8, u9, u10, u11, u12, .pointer (some ⟨d6_5, 0, none⟩), .bool ((normC (sortC x)).isSome), u15, u16, u17, u18, u19, u20, u21, u22, u23, u24, u25, u26, u27, u28, u29, u30, t31, t32, t33, t34, t35, u36, u37, u38, u39, u40, u41, u42, u43, u44, u45, u46, u47, u48, u49, u50, u51, u52, u53, u54, u55, u56, u57, u58, u59, u60, u61, u62, u63, u64, u65, u66, u67, u68, u69, u70, u71, u72, u73, u74, u75, u76, u77, u78, u79, u80, u81, u82, u83, u84, u85, u86, u87, u88, u89, u90, u91, u92, u93, u94, u95, u96, u97, u98, u99, u100, u101, u102, u103, u104, u105], []⟩ z) (wy : World) (M : Gw.Mem w0 [(d1_1, .cells #[.int .u64 (bi (sortC y).t.v), .int .u64 (bi (sortC y).t.m), .int .u64 ((sortC y).u.lo), .int .u64 ((sortC y).u.hi), .int .i64 ((sortC y).s.lo), .int .i64 ((sortC y).s.hi)] 30), (d1_0, .cells #[.int .u64 (bi (sortC x).t.v), .int .u64 (bi (sortC x).t.m), .int .u64 ((sortC x).u.lo), .int .u64 ((sortC x).u.hi), .int .i64 ((sortC x).s.lo), .int .i64 ((sortC x).s.hi)] 30)] wy) :
    sets_w_r5C.wp Tryz.prog (Exit.then K Q0) ⟨#[u0, u1, u2, u3, .pointer (some ⟨d1_0, 0, none⟩), u5, u6, u7, u8, u9, u10, u11, u12, u13, u14, u15, u16, u17, u18, u19, u20, u21, u22, u23, u24, u25, u26, u27, u28, u29, u30, u31, u32, u33, u34, u35, u36, u37, u38, u39, u40, u41, u42, u43, u44, u45, u46, u47, u48, u49, u50, u51, u52, u53, u54, u55, u56, u57, u58, u59, u60, u61, u62, u63, u64, u65, u66, u67, u68, u69, u70, u71, u72, u73, u74, u75, u76, u77, u78, u79, u80, u81, u82, u83, u84, u85, u86, u87, u88, u89, u90, u91, u92, u93, u94, u95, u96, u97, u98, u99, u100, u101, u102, u103, u104, u105], []⟩ wy := by
  have HK := Lib.hid hK
  clear hK
  conv => arg 2; whnf
  refine Gw.line _ M ?_
  clear M wy
  refine Gw.sq (.agg #[.int .u64 (bi (sortC x).t.v), .int .u64 (bi (sortC x).t.m), .int .u64 ((sortC x).u.lo), .int .u64 ((sortC x).u.hi), .int .i64 ((sortC x).s.lo), .int .i64 ((sortC x).s.hi)]) ?_ ?_
  · intro w M; have c := M.c6 1; go_simp
  try simp only [Act.put, ptA, ptB, ptC]
  refine Gw.sk (.tuple #[.agg #[.int .u64 (bi ((normC (sortC x)).getD zeroC).t.v), .int .u64 (bi ((normC (sortC x)).getD zeroC).t.m), .int .u64 (((normC (sortC x)).getD zeroC).u.lo), .int .u64 (((normC (sortC x)).getD zeroC).u.hi), .int .i64 (((normC (sortC x)).getD zeroC).s.lo), .int .i64 (((normC (sortC x)).getD zeroC).s.hi)], .bool ((normC (sortC x)).isSome)]) 15 #[.agg #[.int .u64 (bi (sortC x).t.v), .int .u64 (bi (sortC x).t.m), .int .u64 ((sortC x).u.lo), .int .u64 ((sortC x).u.hi), .int .i64 ((sortC x).s.lo), .int .i64 ((sortC x).s.hi)]] (fun w M => norm5 (sortC x) (sort_ok hx) w) ?_
  try simp only [Act.put, ptA, ptB, ptC]
  refine Gw.sw (.tuple #[.agg #[.int .u64 (bi ((normC (sortC x)).getD zeroC).t.v), .int .u64 (bi ((normC (sortC x)).getD zeroC).t.m), .int .u64 (((normC (sortC x)).getD zeroC).u.lo), .int .u64 (((normC (sortC x)).getD zeroC).u.hi), .int .i64 (((normC (sortC x)).getD zeroC).s.lo), .int .i64 (((normC (sortC x)).getD zeroC).s.hi)], .bool ((normC (sortC x)).isSome)]) ?_
  try simp only [Act.put, ptA, ptB, ptC]
  refine Gw.sw (.agg #[.int .u64 (bi ((normC (sortC x)).getD zeroC).t.v), .int .u64 (bi ((normC (sortC x)).getD zeroC).t.m), .int .u64 (((normC (sortC x)).getD zeroC).u.lo), .int .u64 (((normC (sortC x)).getD zeroC).u.hi), .int .i64 (((normC (sortC x)).getD zeroC).s.lo), .int .i64 (((normC (sortC x)).getD zeroC).s.hi)]) ?_
  try simp only [Act.put, ptA, ptB, ptC]
  refine Gw.sw (.bool ((normC (sortC x)).isSome)) ?_
  try simp only [Act.put, ptA, ptB, ptC]
  refine Gw.ss ?_
  intro w M K' hK
  go_simp
  have M1 := M.alloc (.cells #[.int .u64 0, .int .u64 0, .int .u64 0, .int .u64 0, .int .i64 0, .int .i64 0] 30)
  generalize w.heap.size = d6_5 at M1 ⊢
  refine hK.out _ _ _ M1 ?_
  clear hK K' M1 M w
  try simp only [Act.put, ptA, ptB, ptC]
  refine Gw.ss ?_
  intro w M K' hK
  have c := M.c6 0
  have f := M.f6 0
  go_simp
  refine hK.out _ _ _ ((((((M.set 0 0 _).set 0 1 _).set 0 2 _).set 0 3 _).set 0 4 _).set 0 5 _) ?_
  clear hK K' c f M w
  refine Gw.sw (.bool ((normC (sortC x)).isSome)) ?_
  try simp only [Act.put, ptA, ptB, ptC]
  exact fun z M => HK.out _ _ _ _ _ _ z M
noncomputable def sets_w_r6C : Code := (Tryz.f3.body.bind (Rg.findR 6)).getD .skip
set_option maxHeartbeats 4000000 in
theorem sets_w_r6 (x y : C) (v : BitVec 64) (n : Int) (hx : inX x) (hy : inX y) (hn : -9223372036854775808 ≤ n ∧ n ≤ 9223372036854775807) {w0 : World}  {K : Act → World → Prop} {Q0 : Exit → Act → World → Prop} {d6_5 d1_1 d1_0 : Nat} {u0 u1 u2 u3 u5 u6 u7 u8 u9 u10 u11 u12 u13 u14 u15 u16 u17 u18 u19 u20 u21 u22 u23 u24 u25 u26 u27 u28 u29 u30 u31 u32 u33 u34 u35 u36 u37 u38 u39 u40 u41 u42 u43 u44 u45 u46 u47 u48 u49 u50 u51 u52 u53 u54 u55 u56 u57 u58 u59 u60 u61 u62 u63 u64 u65 u66 u67 u68 u69 u70 u71 u72 u73 u74 u75 u76 u77 u78 u79 u80 u81 u82 u83 u84 u85 u86 u87 u88 u89 u90 u91 u92 u93 u94 u95 u96 u97 u98 u99 u100 u101 u102 u103 u104 u105 : Value}
    (hQ : ∀ c a d v w, Q0 (.panic c) (Act.put a d v) w → Q0 (.panic c) a w)
    (hK : ∀ (t36 t37 t38 t39 t40 : Value) (d7_5 : Nat) (z : World), Gw.Mem w0 [(d7_5, .cells #[.int .u64 (bi ((normC (sortC x)).getD zeroC).t.v), .int .u64 (bi ((normC (sortC x)).getD zeroC).t.m), .int .u64 (((normC (sortC x)).getD zeroC).u.lo), .int .u64 (((normC (sortC x)).getD zeroC).u.hi), .int .i64 (((normC (sortC x)).getD zeroC).s.lo), .int .i64 (((normC (sortC x)).getD zeroC).s.hi)] 30), (d6_5, .cells #[.int .u64 (bi ((normC (sortC x)).getD zeroC).t.v), .int .u64 (bi ((normC (sortC x)).getD zeroC).t.m), .int .u64 (((normC (sortC x)).getD zeroC).u.lo), .int .u64 (((normC (sortC x)).getD zeroC).u.hi), .int .i64 (((normC (sortC x)).getD zeroC).s.lo), .int .i64 (((normC (sortC x)).getD zeroC).s.hi)] 30), (d1_1, .cells #[.int .u64 (bi (sortC y).t.v), .int .u64 (bi (sortC y).t.m), .int .u64 ((sortC y).u.lo), .int .u64 ((sortC y).u.hi), .int .i64 ((sortC y).s.lo), .int .i64 ((sortC y).s.hi)] 30), (d1_0, .cells #[.int .u64 (bi (sortC x).t.v), .int .u64 (bi (sortC x).t.m), .int .u64 ((sortC x).u.lo), .int .u64 ((sortC x).u.hi), .int .i64 ((sortC x).s.lo), .int .i64 ((sortC x).s.hi)] 30)] z → K ⟨#[u0, u1, u2, u3, .pointer (some ⟨d1_0, 0, none⟩), u5, u6, u7, u8, u9, u10, u11, u12, u13, u14, .pointer (some ⟨d7_5, 0, none⟩), .bool ((normC (sortC x)).isSome), u17, u18, u19, u20, u21, u22, u23, u24, u25, u26, u27, u28, u29, u30, u31, u32, u33, u34, u35, t36, t37, t38, t39, t40, u41, u42, u43, u44, u45, u46, u47, u48, u49, u50, u51, u52, u53, u54, u55, u56, u57, u58, u59, u60, u61, u62, u63, u64, u65, u66, u67, u68, u69, u70, u71, u72, u73, u74, u75, u76, u77, u78, u79, u80, u81, u82, u83, u84, u85, u86, u87, u88, u89, u90, u91, u92, u93, u94, u95, u96, u97, u98, u99, u100, u101, u102, u103, u104, u105], []⟩ z) (wy : World) (M : Gw.Mem w0 [(d6_5, .cells #[.int .u64 (bi ((normC (sortC x)).getD zeroC).t.v), .int .u64 (bi ((normC (sortC x)).getD zeroC).t.m), .int .u64 (((normC (sortC x)).getD zeroC).u.lo), .int .u64 (((normC (sortC x)).getD zeroC).u.hi), .int .i64 (((normC (sortC x)).getD zeroC).s.lo), .int .i64 (((normC (sortC x)).getD zeroC).s.hi)] 30), (d1_1, .cells #[.int .u64 (bi (sortC y).t.v), .int .u64 (bi (sortC y).t.m), .int .u64 ((sortC y).u.lo), .int .u64 ((sortC y).u.hi), .int .i64 ((sortC y).s.lo), .int .i64 ((sortC y).s.hi)] 30), (d1_0, .cells #[.int .u64 (bi (sortC x).t.v), .int .u64 (bi (sortC x).t.m), .int .u64 ((sortC x).u.lo), .int .u64 ((sortC x).u.hi), .int .i64 ((sortC x).s.lo), .int .i64 ((sortC x).s.hi)] 30)] wy) :
    sets_w_r6C.wp Tryz.prog (Exit.then K Q0) ⟨#[u0, u1, u2, u3, .pointer (some ⟨d1_0, 0, none⟩), u5, u6, u7, u8, u9, u10, u11, u12, u13, u14, u15, u16, u17, u18, u19, u20, u21, u22, u23, u24, u25, u26, u27, u28, u29, u30, u31, u32, u33, u34, u35, u36, u37, u38, u39, u40, u41, u42, u43, u44, u45, u46, u47, u48, u49, u50, u51, u52, u53, u54, u55, u56, u57, u58, u59, u60, u61, u62, u63, u64, u65, u66, u67, u68, u69, u70, u71, u72, u73, u74, u75, u76, u77, u78, u79, u80, u81, u82, u83, u84, u85, u86, u87, u88, u89, u90, u91, u92, u93, u94, u95, u96, u97, u98, u99, u100, u101, u102, u103, u104, u105], []⟩ wy := by
  have HK := Lib.hid hK
  clear hK
  conv => arg 2; whnf
  refine Gw.line _ M ?_
  clear M wy
  refine Gw.sq (.agg #[.int .u64 (bi (sortC x).t.v), .int .u64 (bi (sortC x).t.m), .int .u64 ((sortC x).u.lo), .int .u64 ((sortC x).u.hi), .int .i64 ((sortC x).s.lo), .int .i64 ((sortC x).s.hi)]) ?_ ?_
  · intro w M; have c := M.c6 2; go_simp
  try simp only [Act.put, ptA, ptB, ptC]
  refine Gw.sk (.tuple #[.agg #[.int .u64 (bi ((normC (sortC x)).getD zeroC).t.v), .int .u64 (bi ((normC (sortC x)).getD zeroC).t.m), .int .u64 (((normC (sortC x)).getD zeroC).u.lo), .int .u64 (((normC (sortC x)).getD zeroC).u.hi), .int .i64 (((normC (sortC x)).getD zeroC).s.lo), .int .i64 (((normC (sortC x)).getD zeroC).s.hi)], .bool ((normC (sortC x)).isSome)]) 16 #[.agg #[.int .u64 (bi (sortC x).t.v), .int .u64 (bi (sortC x).t.m), .int .u64 ((sortC x).u.lo), .int .u64 ((sortC x).u.hi), .int .i64 ((sortC x).s.lo), .int .i64 ((sortC x).s.hi)]] (fun w M => rnorm5 (sortC x) (sort_ok hx) w) ?_
  try simp only [Act.put, ptA, ptB, ptC]
  refine Gw.sw (.tuple #[.agg #[.int .u64 (bi ((normC (sortC x)).getD zeroC).t.v), .int .u64 (bi ((normC (sortC x)).getD zeroC).t.m), .int .u64 (((normC (sortC x)).getD zeroC).u.lo), .int .u64 (((normC (sortC x)).getD zeroC).u.hi), .int .i64 (((normC (sortC x)).getD zeroC).s.lo), .int .i64 (((normC (sortC x)).getD zeroC).s.hi)], .bool ((normC (sortC x)).isSome)]) ?_
  try simp only [Act.put, ptA, ptB, ptC]
  refine Gw.sw (.agg #[.int .u64 (bi ((normC (sortC x)).getD zeroC).t.v), .int .u64 (bi ((normC (sortC x)).getD zeroC).t.m), .int .u64 (((normC (sortC x)).getD zeroC).u.lo), .int .u64 (((normC (sortC x)).getD zeroC).u.hi), .int .i64 (((normC (sortC x)).getD zeroC).s.lo), .int .i64 (((normC (sortC x)).getD zeroC).s.hi)]) ?_
  try simp only [Act.put, ptA, ptB, ptC]
  refine Gw.sw (.bool ((normC (sortC x)).isSome)) ?_
  try simp only [Act.put, ptA, ptB, ptC]
  refine Gw.ss ?_
  intro w M K' hK
  go_simp
  have M1 := M.alloc (.cells #[.int .u64 0, .int .u64 0, .int .u64 0, .int .u64 0, .int .i64 0, .int .i64 0] 30)
  generalize w.heap.size = d7_5 at M1 ⊢
  refine hK.out _ _ _ M1 ?_
  clear hK K' M1 M w
  try simp only [Act.put, ptA, ptB, ptC]
  refine Gw.ss ?_
  intro w M K' hK
  have c := M.c6 0
  have f := M.f6 0
  go_simp
  refine hK.out _ _ _ ((((((M.set 0 0 _).set 0 1 _).set 0 2 _).set 0 3 _).set 0 4 _).set 0 5 _) ?_
  clear hK K' c f M w
  refine Gw.sw (.bool ((normC (sortC x)).isSome)) ?_
  try simp only [Act.put, ptA, ptB, ptC]
  exact fun z M => HK.out _ _ _ _ _ _ z M
noncomputable def sets_w_r7C : Code := (Tryz.f3.body.bind (Rg.findR 7)).getD .skip
set_option maxHeartbeats 4000000 in
theorem sets_w_r7 (x y : C) (v : BitVec 64) (n : Int) (hx : inX x) (hy : inX y) (hn : -9223372036854775808 ≤ n ∧ n ≤ 9223372036854775807) {w0 : World}  {K : Act → World → Prop} {Q0 : Exit → Act → World → Prop} {d7_5 d6_5 d1_1 d1_0 : Nat} {u0 u1 u4 u5 u6 u7 u8 u17 u18 u19 u20 u21 u22 u23 u24 u25 u26 u27 u28 u29 u30 u31 u32 u33 u34 u35 u36 u37 u38 u39 u40 u41 u42 u43 u44 u45 u46 u47 u48 u49 u50 u51 u52 u53 u54 u55 u56 u57 u58 u59 u60 u61 u62 u63 u64 u65 u66 u67 u68 u69 u70 u71 u72 u73 u74 u75 u76 u77 u78 u79 u80 u81 u82 u83 u84 u85 u86 u87 u88 u89 u90 u91 u92 u93 u94 u95 u96 u97 u98 u99 u100 u101 u102 u103 u104 u105 : Value}
    (hQ : ∀ c a d v w, Q0 (.panic c) (Act.put a d v) w → Q0 (.panic c) a w)
    (hK : ∀ (t41 t42 t43 t44 t45 t46 t47 t48 t49 t50 t51 t52 t53 t54 t55 t56 t57 t58 t59 t60 t61 t62 t63 t64 t65 t66 t67 t68 t69 t70 t71 t72 t73 t74 t75 t76 : Value) (z : World), Gw.Mem w0 [(d7_5, .cells #[.int .u64 (bi ((normC (sortC x)).getD zeroC).t.v), .int .u64 (bi ((normC (sortC x)).getD zeroC).t.m), .int .u64 (((normC (sortC x)).getD zeroC).u.lo), .int .u64 (((normC (sortC x)).getD zeroC).u.hi), .int .i64 (((normC (sortC x)).getD zeroC).s.lo), .int .i64 (((normC (sortC x)).getD zeroC).s.hi)] 30), (d6_5, .cells #[.int .u64 (bi ((normC (sortC x)).getD zeroC).t.v), .int .u64 (bi ((normC (sortC x)).getD zeroC).t.m), .int .u64 (((normC (sortC x)).getD zeroC).u.lo), .int .u64 (((normC (sortC x)).getD zeroC).u.hi), .int .i64 (((normC (sortC x)).getD zeroC).s.lo), .int .i64 (((normC (sortC x)).getD zeroC).s.hi)] 30), (d1_1, .cells #[.int .u64 (bi (sortC y).t.v), .int .u64 (bi (sortC y).t.m), .int .u64 ((sortC y).u.lo), .int .u64 ((sortC y).u.hi), .int .i64 ((sortC y).s.lo), .int .i64 ((sortC y).s.hi)] 30), (d1_0, .cells #[.int .u64 (bi (sortC x).t.v), .int .u64 (bi (sortC x).t.m), .int .u64 ((sortC x).u.lo), .int .u64 ((sortC x).u.hi), .int .i64 ((sortC x).s.lo), .int .i64 ((sortC x).s.hi)] 30)] z → K ⟨#[u0, u1, .int .u64 (bi v), .int .i64 n, u4, u5, u6, u7, u8, .int .u64 (oneC (sortC x)), .bool (aloneC (sortC x)), .int .u64 (oneC (sortC x)), .bool (aloneC (sortC x)), .pointer (some ⟨d6_5, 0, none⟩), .bool ((normC (sortC x)).isSome), .pointer (some ⟨d7_5, 0, none⟩), .bool ((normC (sortC x)).isSome), u17, u18, u19, u20, u21, u22, u23, u24, u25, u26, u27, u28, u29, u30, u31, u32, u33, u34, u35, u36, u37, u38, u39, u40, t41, t42, t43, t44, t45, t46, t47, t48, t49, t50, t51, t52, t53, t54, t55, t56, t57, t58, t59, t60, t61, t62, t63, t64, t65, t66, t67, t68, t69, t70, t71, t72, t73, t74, t75, t76, .bool false, u78, u79, u80, u81, u82, u83, u84, u85, u86, u87, u88, u89, u90, u91, u92, u93, u94, u95, u96, u97, u98, u99, u100, u101, u102, u103, u104, u105], []⟩ z) (wy : World) (M : Gw.Mem w0 [(d7_5, .cells #[.int .u64 (bi ((normC (sortC x)).getD zeroC).t.v), .int .u64 (bi ((normC (sortC x)).getD zeroC).t.m), .int .u64 (((normC (sortC x)).getD zeroC).u.lo), .int .u64 (((normC (sortC x)).getD zeroC).u.hi), .int .i64 (((normC (sortC x)).getD zeroC).s.lo), .int .i64 (((normC (sortC x)).getD zeroC).s.hi)] 30), (d6_5, .cells #[.int .u64 (bi ((normC (sortC x)).getD zeroC).t.v), .int .u64 (bi ((normC (sortC x)).getD zeroC).t.m), .int .u64 (((normC (sortC x)).getD zeroC).u.lo), .int .u64 (((normC (sortC x)).getD zeroC).u.hi), .int .i64 (((normC (sortC x)).getD zeroC).s.lo), .int .i64 (((normC (sortC x)).getD zeroC).s.hi)] 30), (d1_1, .cells #[.int .u64 (bi (sortC y).t.v), .int .u64 (bi (sortC y).t.m), .int .u64 ((sortC y).u.lo), .int .u64 ((sortC y).u.hi), .int .i64 ((sortC y).s.lo), .int .i64 ((sortC y).s.hi)] 30), (d1_0, .cells #[.int .u64 (bi (sortC x).t.v), .int .u64 (bi (sortC x).t.m), .int .u64 ((sortC x).u.lo), .int .u64 ((sortC x).u.hi), .int .i64 ((sortC x).s.lo), .int .i64 ((sortC x).s.hi)] 30)] wy) :
    sets_w_r7C.wp Tryz.prog (Exit.then K Q0) ⟨#[u0, u1, .int .u64 (bi v), .int .i64 n, u4, u5, u6, u7, u8, .int .u64 (oneC (sortC x)), .bool (aloneC (sortC x)), .int .u64 (oneC (sortC x)), .bool (aloneC (sortC x)), .pointer (some ⟨d6_5, 0, none⟩), .bool ((normC (sortC x)).isSome), .pointer (some ⟨d7_5, 0, none⟩), .bool ((normC (sortC x)).isSome), u17, u18, u19, u20, u21, u22, u23, u24, u25, u26, u27, u28, u29, u30, u31, u32, u33, u34, u35, u36, u37, u38, u39, u40, u41, u42, u43, u44, u45, u46, u47, u48, u49, u50, u51, u52, u53, u54, u55, u56, u57, u58, u59, u60, u61, u62, u63, u64, u65, u66, u67, u68, u69, u70, u71, u72, u73, u74, u75, u76, u77, u78, u79, u80, u81, u82, u83, u84, u85, u86, u87, u88, u89, u90, u91, u92, u93, u94, u95, u96, u97, u98, u99, u100, u101, u102, u103, u104, u105], []⟩ wy := by
  have HK := Lib.hid hK
  clear hK
  conv => arg 2; whnf
  refine Gw.line _ M ?_
  clear M wy
  refine Gw.sw (.int .u64 (oneC (sortC x))) ?_
  try simp only [Act.put, ptA, ptB, ptC]
  refine Gw.sw (.int .u64 (oneC (sortC x))) ?_
  try simp only [Act.put, ptA, ptB, ptC]
  refine Gw.sw (.bool false) ?_ (hy := by intro w; go_simp)
  try simp only [Act.put, ptA, ptB, ptC]
  refine Gw.sw (.bool false) ?_
  try simp only [Act.put, ptA, ptB, ptC]
  refine Gw.sw (.bool (aloneC (sortC x))) ?_
  try simp only [Act.put, ptA, ptB, ptC]
  refine Gw.sw (.bool (aloneC (sortC x))) ?_
  try simp only [Act.put, ptA, ptB, ptC]
  refine Gw.sw (.bool false) ?_ (hy := by intro w; go_simp)
  try simp only [Act.put, ptA, ptB, ptC]
  refine Gw.sw (.bool false) ?_
  try simp only [Act.put, ptA, ptB, ptC]
  refine Gw.sw (.bool false) ?_
  try simp only [Act.put, ptA, ptB, ptC]
  refine Gw.sq (.agg #[.int .u64 (bi ((normC (sortC x)).getD zeroC).t.v), .int .u64 (bi ((normC (sortC x)).getD zeroC).t.m), .int .u64 (((normC (sortC x)).getD zeroC).u.lo), .int .u64 (((normC (sortC x)).getD zeroC).u.hi), .int .i64 (((normC (sortC x)).getD zeroC).s.lo), .int .i64 (((normC (sortC x)).getD zeroC).s.hi)]) ?_ ?_
  · intro w M; have c := M.c6 1; go_simp
  try simp only [Act.put, ptA, ptB, ptC]
  refine Gw.sq (.agg #[.int .u64 (bi ((normC (sortC x)).getD zeroC).t.v), .int .u64 (bi ((normC (sortC x)).getD zeroC).t.m), .int .u64 (((normC (sortC x)).getD zeroC).u.lo), .int .u64 (((normC (sortC x)).getD zeroC).u.hi), .int .i64 (((normC (sortC x)).getD zeroC).s.lo), .int .i64 (((normC (sortC x)).getD zeroC).s.hi)]) ?_ ?_
  · intro w M; have c := M.c6 0; go_simp
  try simp only [Act.put, ptA, ptB, ptC]
  refine Gw.sw (.bool false) ?_ (hy := by intro w; have e1 := X_neq ((normC (sortC x)).getD zeroC); have e2 := X_guard .neq; go_simp)
  try simp only [Act.put, ptA, ptB, ptC]
  refine Gw.sw (.bool false) ?_
  try simp only [Act.put, ptA, ptB, ptC]
  refine Gw.sw (.bool false) ?_
  try simp only [Act.put, ptA, ptB, ptC]
  refine Gw.sw (.bool ((normC (sortC x)).isSome)) ?_
  try simp only [Act.put, ptA, ptB, ptC]
  refine Gw.sw (.bool ((normC (sortC x)).isSome)) ?_
  try simp only [Act.put, ptA, ptB, ptC]
  refine Gw.sw (.bool false) ?_ (hy := by intro w; go_simp)
  try simp only [Act.put, ptA, ptB, ptC]
  refine Gw.sw (.bool false) ?_
  try simp only [Act.put, ptA, ptB, ptC]
  refine Gw.sw (.bool false) ?_
  try simp only [Act.put, ptA, ptB, ptC]
  refine Gw.sw (.int .u64 (bi v)) ?_
  try simp only [Act.put, ptA, ptB, ptC]
  refine Gw.sk (.agg #[.int .u64 (bi (ofC v).t.v), .int .u64 (bi (ofC v).t.m), .int .u64 ((ofC v).u.lo), .int .u64 ((ofC v).u.hi), .int .i64 ((ofC v).s.lo), .int .i64 ((ofC v).s.hi)]) 17 #[.int .u64 (bi v)] (fun w M => of5 v w) ?_
  try simp only [Act.put, ptA, ptB, ptC]
  refine Gw.sw (.int .u64 (bi v)) ?_
  try simp only [Act.put, ptA, ptB, ptC]
  refine Gw.sk (.agg #[.int .u64 (bi (ofC v).t.v), .int .u64 (bi (ofC v).t.m), .int .u64 ((ofC v).u.lo), .int .u64 ((ofC v).u.hi), .int .i64 ((ofC v).s.lo), .int .i64 ((ofC v).s.hi)]) 18 #[.int .u64 (bi v)] (fun w M => rof5 v w) ?_
  try simp only [Act.put, ptA, ptB, ptC]
  refine Gw.sw (.bool false) ?_ (hy := by intro w; have e1 := X_neq (ofC v); have e2 := X_guard .neq; go_simp)
  try simp only [Act.put, ptA, ptB, ptC]
  refine Gw.sw (.bool false) ?_
  try simp only [Act.put, ptA, ptB, ptC]
  refine Gw.sw (.bool false) ?_
  try simp only [Act.put, ptA, ptB, ptC]
  refine Gw.sk (.agg #[.int .u64 (bi anyC.t.v), .int .u64 (bi anyC.t.m), .int .u64 anyC.u.lo, .int .u64 anyC.u.hi, .int .i64 anyC.s.lo, .int .i64 anyC.s.hi]) 19 #[] (fun w M => any5 w) ?_
  try simp only [Act.put, ptA, ptB, ptC]
  refine Gw.sk (.agg #[.int .u64 (bi anyC.t.v), .int .u64 (bi anyC.t.m), .int .u64 anyC.u.lo, .int .u64 anyC.u.hi, .int .i64 anyC.s.lo, .int .i64 anyC.s.hi]) 20 #[] (fun w M => rany5 w) ?_
  try simp only [Act.put, ptA, ptB, ptC]
  refine Gw.sw (.bool false) ?_ (hy := by intro w; have e1 := X_neq anyC; have e2 := X_guard .neq; go_simp)
  try simp only [Act.put, ptA, ptB, ptC]
  refine Gw.sw (.bool false) ?_
  try simp only [Act.put, ptA, ptB, ptC]
  refine Gw.sw (.bool false) ?_
  try simp only [Act.put, ptA, ptB, ptC]
  refine Gw.sw (.int .i64 n) ?_
  try simp only [Act.put, ptA, ptB, ptC]
  refine Gw.sk (.agg #[.int .u64 (bi (uptoC n).t.v), .int .u64 (bi (uptoC n).t.m), .int .u64 ((uptoC n).u.lo), .int .u64 ((uptoC n).u.hi), .int .i64 ((uptoC n).s.lo), .int .i64 ((uptoC n).s.hi)]) 21 #[.int .i64 n] (fun w M => upto5 n hn w) ?_
  try simp only [Act.put, ptA, ptB, ptC]
  refine Gw.sw (.int .i64 n) ?_
  try simp only [Act.put, ptA, ptB, ptC]
  refine Gw.sk (.agg #[.int .u64 (bi (uptoC n).t.v), .int .u64 (bi (uptoC n).t.m), .int .u64 ((uptoC n).u.lo), .int .u64 ((uptoC n).u.hi), .int .i64 ((uptoC n).s.lo), .int .i64 ((uptoC n).s.hi)]) 22 #[.int .i64 n] (fun w M => rupto5 n hn w) ?_
  try simp only [Act.put, ptA, ptB, ptC]
  refine Gw.sw (.bool false) ?_ (hy := by intro w; have e1 := X_neq (uptoC n); have e2 := X_guard .neq; go_simp)
  try simp only [Act.put, ptA, ptB, ptC]
  refine Gw.sw (.bool false) ?_
  try simp only [Act.put, ptA, ptB, ptC]
  exact fun z M => HK.out _ _ _ _ _ _ _ _ _ _ _ _ _ _ _ _ _ _ _ _ _ _ _ _ _ _ _ _ _ _ _ _ _ _ _ _ z M
noncomputable def sets_w_r9C : Code := (Tryz.f3.body.bind (Rg.findR 9)).getD .skip
set_option maxHeartbeats 4000000 in
theorem sets_w_r9 (x y : C) (v : BitVec 64) (n : Int) (hx : inX x) (hy : inX y) (hn : -9223372036854775808 ≤ n ∧ n ≤ 9223372036854775807) {w0 : World}  {K : Act → World → Prop} {Q0 : Exit → Act → World → Prop} {d7_5 d6_5 d1_1 d1_0 : Nat} {u0 u1 u3 u6 u7 u8 u9 u10 u11 u12 u13 u14 u15 u16 u17 u18 u19 u20 u21 u22 u23 u24 u25 u26 u27 u28 u29 u30 u31 u32 u33 u34 u35 u36 u37 u38 u39 u40 u41 u42 u43 u44 u45 u46 u47 u48 u49 u50 u51 u52 u53 u54 u55 u56 u57 u58 u59 u60 u61 u62 u63 u64 u65 u66 u67 u68 u69 u70 u71 u72 u73 u74 u75 u76 u77 u78 u79 u80 u81 u82 u83 u84 u85 u86 u87 u88 u89 u90 u91 u92 u93 u94 u95 u96 u97 u98 u99 u100 u101 u102 u103 u104 u105 : Value}
    (hQ : ∀ c a d v w, Q0 (.panic c) (Act.put a d v) w → Q0 (.panic c) a w)
    (hK : ∀ (t78 t79 t80 t81 t82 t83 t84 t85 t86 t87 t88 t89 t90 t91 t92 t93 t94 t95 t96 t97 t98 t99 t100 t101 t102 t103 t104 t105 : Value) (z : World), Gw.Mem w0 [(d7_5, .cells #[.int .u64 (bi ((normC (sortC x)).getD zeroC).t.v), .int .u64 (bi ((normC (sortC x)).getD zeroC).t.m), .int .u64 (((normC (sortC x)).getD zeroC).u.lo), .int .u64 (((normC (sortC x)).getD zeroC).u.hi), .int .i64 (((normC (sortC x)).getD zeroC).s.lo), .int .i64 (((normC (sortC x)).getD zeroC).s.hi)] 30), (d6_5, .cells #[.int .u64 (bi ((normC (sortC x)).getD zeroC).t.v), .int .u64 (bi ((normC (sortC x)).getD zeroC).t.m), .int .u64 (((normC (sortC x)).getD zeroC).u.lo), .int .u64 (((normC (sortC x)).getD zeroC).u.hi), .int .i64 (((normC (sortC x)).getD zeroC).s.lo), .int .i64 (((normC (sortC x)).getD zeroC).s.hi)] 30), (d1_1, .cells #[.int .u64 (bi (sortC y).t.v), .int .u64 (bi (sortC y).t.m), .int .u64 ((sortC y).u.lo), .int .u64 ((sortC y).u.hi), .int .i64 ((sortC y).s.lo), .int .i64 ((sortC y).s.hi)] 30), (d1_0, .cells #[.int .u64 (bi (sortC x).t.v), .int .u64 (bi (sortC x).t.m), .int .u64 ((sortC x).u.lo), .int .u64 ((sortC x).u.hi), .int .i64 ((sortC x).s.lo), .int .i64 ((sortC x).s.hi)] 30)] z → K ⟨#[u0, u1, .int .u64 (bi v), u3, .pointer (some ⟨d1_0, 0, none⟩), .pointer (some ⟨d1_1, 0, none⟩), u6, u7, .bool true, u9, u10, u11, u12, u13, u14, u15, u16, u17, u18, u19, u20, u21, u22, u23, u24, u25, u26, u27, u28, u29, u30, u31, u32, u33, u34, u35, u36, u37, u38, u39, u40, u41, u42, u43, u44, u45, u46, u47, u48, u49, u50, u51, u52, u53, u54, u55, u56, u57, u58, u59, u60, u61, u62, u63, u64, u65, u66, u67, u68, u69, u70, u71, u72, u73, u74, u75, u76, u77, t78, t79, t80, t81, t82, t83, t84, t85, t86, t87, t88, t89, t90, t91, t92, t93, t94, t95, t96, t97, t98, t99, t100, t101, t102, t103, t104, t105], []⟩ z) (wy : World) (M : Gw.Mem w0 [(d7_5, .cells #[.int .u64 (bi ((normC (sortC x)).getD zeroC).t.v), .int .u64 (bi ((normC (sortC x)).getD zeroC).t.m), .int .u64 (((normC (sortC x)).getD zeroC).u.lo), .int .u64 (((normC (sortC x)).getD zeroC).u.hi), .int .i64 (((normC (sortC x)).getD zeroC).s.lo), .int .i64 (((normC (sortC x)).getD zeroC).s.hi)] 30), (d6_5, .cells #[.int .u64 (bi ((normC (sortC x)).getD zeroC).t.v), .int .u64 (bi ((normC (sortC x)).getD zeroC).t.m), .int .u64 (((normC (sortC x)).getD zeroC).u.lo), .int .u64 (((normC (sortC x)).getD zeroC).u.hi), .int .i64 (((normC (sortC x)).getD zeroC).s.lo), .int .i64 (((normC (sortC x)).getD zeroC).s.hi)] 30), (d1_1, .cells #[.int .u64 (bi (sortC y).t.v), .int .u64 (bi (sortC y).t.m), .int .u64 ((sortC y).u.lo), .int .u64 ((sortC y).u.hi), .int .i64 ((sortC y).s.lo), .int .i64 ((sortC y).s.hi)] 30), (d1_0, .cells #[.int .u64 (bi (sortC x).t.v), .int .u64 (bi (sortC x).t.m), .int .u64 ((sortC x).u.lo), .int .u64 ((sortC x).u.hi), .int .i64 ((sortC x).s.lo), .int .i64 ((sortC x).s.hi)] 30)] wy) :
    sets_w_r9C.wp Tryz.prog (Exit.then K Q0) ⟨#[u0, u1, .int .u64 (bi v), u3, .pointer (some ⟨d1_0, 0, none⟩), .pointer (some ⟨d1_1, 0, none⟩), u6, u7, u8, u9, u10, u11, u12, u13, u14, u15, u16, u17, u18, u19, u20, u21, u22, u23, u24, u25, u26, u27, u28, u29, u30, u31, u32, u33, u34, u35, u36, u37, u38, u39, u40, u41, u42, u43, u44, u45, u46, u47, u48, u49, u50, u51, u52, u53, u54, u55, u56, u57, u58, u59, u60, u61, u62, u63, u64, u65, u66, u67, u68, u69, u70, u71, u72, u73, u74, u75, u76, u77, u78, u79, u80, u81, u82, u83, u84, u85, u86, u87, u88, u89, u90, u91, u92, u93, u94, u95, u96, u97, u98, u99, u100, u101, u102, u103, u104, u105], []⟩ wy := by
  have HK := Lib.hid hK
  clear hK
  have hq : ∀ c a d v w, Exit.then K Q0 (.panic c) (Act.put a d v) w → Exit.then K Q0 (.panic c) a w := hQ
  conv => arg 2; whnf
  refine Gw.draw0 _ (by kernel_rfl) M.drew ?_
  clear M wy
  refine Gw.tg 0 (.agg #[.int .u64 (bi (sortC x).t.v), .int .u64 (bi (sortC x).t.m), .int .u64 ((sortC x).u.lo), .int .u64 ((sortC x).u.hi), .int .i64 ((sortC x).s.lo), .int .i64 ((sortC x).s.hi)]) ?_ ?_
  · intro w M; have c := M.c6 3; go_simp
  try simp only [Act.put, ptA, ptB, ptC]
  refine Gw.tw 1 (.int .u64 (bi v)) ?_
  try simp only [Act.put, ptA, ptB, ptC]
  refine Gw.tkw 2 (.bool (inC (sortC x) v)) 23 #[.agg #[.int .u64 (bi (sortC x).t.v), .int .u64 (bi (sortC x).t.m), .int .u64 ((sortC x).u.lo), .int .u64 ((sortC x).u.hi), .int .i64 ((sortC x).s.lo), .int .i64 ((sortC x).s.hi)], .int .u64 (bi v)] (fun w => in5 (sortC x) v w) ?_
  try simp only [Act.put, ptA, ptB, ptC]
  refine Gw.tg 3 (.agg #[.int .u64 (bi (sortC x).t.v), .int .u64 (bi (sortC x).t.m), .int .u64 ((sortC x).u.lo), .int .u64 ((sortC x).u.hi), .int .i64 ((sortC x).s.lo), .int .i64 ((sortC x).s.hi)]) ?_ ?_
  · intro w M; have c := M.c6 3; go_simp
  try simp only [Act.put, ptA, ptB, ptC]
  refine Gw.tw 4 (.int .u64 (bi v)) ?_
  try simp only [Act.put, ptA, ptB, ptC]
  refine Gw.tkw 5 (.bool (inC (sortC x) v)) 24 #[.agg #[.int .u64 (bi (sortC x).t.v), .int .u64 (bi (sortC x).t.m), .int .u64 ((sortC x).u.lo), .int .u64 ((sortC x).u.hi), .int .i64 ((sortC x).s.lo), .int .i64 ((sortC x).s.hi)], .int .u64 (bi v)] (fun w => rin5 (sortC x) v w) ?_
  try simp only [Act.put, ptA, ptB, ptC]
  refine Gw.tw 6 (.bool true) ?_ (hy := by intro w; go_simp)
  try simp only [Act.put, ptA, ptB, ptC]
  refine Gw.tw 7 (.bool true) ?_
  try simp only [Act.put, ptA, ptB, ptC]
  refine Gw.tg 8 (.agg #[.int .u64 (bi (sortC x).t.v), .int .u64 (bi (sortC x).t.m), .int .u64 ((sortC x).u.lo), .int .u64 ((sortC x).u.hi), .int .i64 ((sortC x).s.lo), .int .i64 ((sortC x).s.hi)]) ?_ ?_
  · intro w M; have c := M.c6 3; go_simp
  try simp only [Act.put, ptA, ptB, ptC]
  refine Gw.tg 9 (.agg #[.int .u64 (bi (sortC y).t.v), .int .u64 (bi (sortC y).t.m), .int .u64 ((sortC y).u.lo), .int .u64 ((sortC y).u.hi), .int .i64 ((sortC y).s.lo), .int .i64 ((sortC y).s.hi)]) ?_ ?_
  · intro w M; have c := M.c6 2; go_simp
  try simp only [Act.put, ptA, ptB, ptC]
  refine Gw.tkw 10 (.bool (withC (sortC x) (sortC y))) 25 #[.agg #[.int .u64 (bi (sortC x).t.v), .int .u64 (bi (sortC x).t.m), .int .u64 ((sortC x).u.lo), .int .u64 ((sortC x).u.hi), .int .i64 ((sortC x).s.lo), .int .i64 ((sortC x).s.hi)], .agg #[.int .u64 (bi (sortC y).t.v), .int .u64 (bi (sortC y).t.m), .int .u64 ((sortC y).u.lo), .int .u64 ((sortC y).u.hi), .int .i64 ((sortC y).s.lo), .int .i64 ((sortC y).s.hi)]] (fun w => with5 (sortC x) (sortC y) w) ?_
  try simp only [Act.put, ptA, ptB, ptC]
  refine Gw.tg 11 (.agg #[.int .u64 (bi (sortC x).t.v), .int .u64 (bi (sortC x).t.m), .int .u64 ((sortC x).u.lo), .int .u64 ((sortC x).u.hi), .int .i64 ((sortC x).s.lo), .int .i64 ((sortC x).s.hi)]) ?_ ?_
  · intro w M; have c := M.c6 3; go_simp
  try simp only [Act.put, ptA, ptB, ptC]
  refine Gw.tg 12 (.agg #[.int .u64 (bi (sortC y).t.v), .int .u64 (bi (sortC y).t.m), .int .u64 ((sortC y).u.lo), .int .u64 ((sortC y).u.hi), .int .i64 ((sortC y).s.lo), .int .i64 ((sortC y).s.hi)]) ?_ ?_
  · intro w M; have c := M.c6 2; go_simp
  try simp only [Act.put, ptA, ptB, ptC]
  refine Gw.tkw 13 (.bool (withC (sortC x) (sortC y))) 26 #[.agg #[.int .u64 (bi (sortC x).t.v), .int .u64 (bi (sortC x).t.m), .int .u64 ((sortC x).u.lo), .int .u64 ((sortC x).u.hi), .int .i64 ((sortC x).s.lo), .int .i64 ((sortC x).s.hi)], .agg #[.int .u64 (bi (sortC y).t.v), .int .u64 (bi (sortC y).t.m), .int .u64 ((sortC y).u.lo), .int .u64 ((sortC y).u.hi), .int .i64 ((sortC y).s.lo), .int .i64 ((sortC y).s.hi)]] (fun w => rwith5 (sortC x) (sortC y) (sort_ok hx) (sort_ok hy) w) ?_
  try simp only [Act.put, ptA, ptB, ptC]
  refine Gw.tw 14 (.bool true) ?_ (hy := by intro w; go_simp)
  try simp only [Act.put, ptA, ptB, ptC]
  refine Gw.tw 15 (.bool true) ?_
  try simp only [Act.put, ptA, ptB, ptC]
  refine Gw.tw 16 (.bool true) ?_
  try simp only [Act.put, ptA, ptB, ptC]
  refine Gw.tg 17 (.agg #[.int .u64 (bi (sortC x).t.v), .int .u64 (bi (sortC x).t.m), .int .u64 ((sortC x).u.lo), .int .u64 ((sortC x).u.hi), .int .i64 ((sortC x).s.lo), .int .i64 ((sortC x).s.hi)]) ?_ ?_
  · intro w M; have c := M.c6 3; go_simp
  try simp only [Act.put, ptA, ptB, ptC]
  refine Gw.tg 18 (.agg #[.int .u64 (bi (sortC y).t.v), .int .u64 (bi (sortC y).t.m), .int .u64 ((sortC y).u.lo), .int .u64 ((sortC y).u.hi), .int .i64 ((sortC y).s.lo), .int .i64 ((sortC y).s.hi)]) ?_ ?_
  · intro w M; have c := M.c6 2; go_simp
  try simp only [Act.put, ptA, ptB, ptC]
  refine Gw.tkw 19 (.agg #[.int .u64 (bi (joinC (sortC x) (sortC y)).t.v), .int .u64 (bi (joinC (sortC x) (sortC y)).t.m), .int .u64 ((joinC (sortC x) (sortC y)).u.lo), .int .u64 ((joinC (sortC x) (sortC y)).u.hi), .int .i64 ((joinC (sortC x) (sortC y)).s.lo), .int .i64 ((joinC (sortC x) (sortC y)).s.hi)]) 27 #[.agg #[.int .u64 (bi (sortC x).t.v), .int .u64 (bi (sortC x).t.m), .int .u64 ((sortC x).u.lo), .int .u64 ((sortC x).u.hi), .int .i64 ((sortC x).s.lo), .int .i64 ((sortC x).s.hi)], .agg #[.int .u64 (bi (sortC y).t.v), .int .u64 (bi (sortC y).t.m), .int .u64 ((sortC y).u.lo), .int .u64 ((sortC y).u.hi), .int .i64 ((sortC y).s.lo), .int .i64 ((sortC y).s.hi)]] (fun w => join5 (sortC x) (sortC y) w) ?_
  try simp only [Act.put, ptA, ptB, ptC]
  refine Gw.tg 20 (.agg #[.int .u64 (bi (sortC x).t.v), .int .u64 (bi (sortC x).t.m), .int .u64 ((sortC x).u.lo), .int .u64 ((sortC x).u.hi), .int .i64 ((sortC x).s.lo), .int .i64 ((sortC x).s.hi)]) ?_ ?_
  · intro w M; have c := M.c6 3; go_simp
  try simp only [Act.put, ptA, ptB, ptC]
  refine Gw.tg 21 (.agg #[.int .u64 (bi (sortC y).t.v), .int .u64 (bi (sortC y).t.m), .int .u64 ((sortC y).u.lo), .int .u64 ((sortC y).u.hi), .int .i64 ((sortC y).s.lo), .int .i64 ((sortC y).s.hi)]) ?_ ?_
  · intro w M; have c := M.c6 2; go_simp
  try simp only [Act.put, ptA, ptB, ptC]
  refine Gw.tkw 22 (.agg #[.int .u64 (bi (joinC (sortC x) (sortC y)).t.v), .int .u64 (bi (joinC (sortC x) (sortC y)).t.m), .int .u64 ((joinC (sortC x) (sortC y)).u.lo), .int .u64 ((joinC (sortC x) (sortC y)).u.hi), .int .i64 ((joinC (sortC x) (sortC y)).s.lo), .int .i64 ((joinC (sortC x) (sortC y)).s.hi)]) 28 #[.agg #[.int .u64 (bi (sortC x).t.v), .int .u64 (bi (sortC x).t.m), .int .u64 ((sortC x).u.lo), .int .u64 ((sortC x).u.hi), .int .i64 ((sortC x).s.lo), .int .i64 ((sortC x).s.hi)], .agg #[.int .u64 (bi (sortC y).t.v), .int .u64 (bi (sortC y).t.m), .int .u64 ((sortC y).u.lo), .int .u64 ((sortC y).u.hi), .int .i64 ((sortC y).s.lo), .int .i64 ((sortC y).s.hi)]] (fun w => rjoin5 (sortC x) (sortC y) w) ?_
  try simp only [Act.put, ptA, ptB, ptC]
  refine Gw.tw 23 (.bool true) ?_ (hy := by intro w; have e1 := X_eql (joinC (sortC x) (sortC y)); have e2 := X_guard .eql; go_simp)
  try simp only [Act.put, ptA, ptB, ptC]
  refine Gw.tw 24 (.bool true) ?_
  try simp only [Act.put, ptA, ptB, ptC]
  refine Gw.tw 25 (.bool true) ?_
  try simp only [Act.put, ptA, ptB, ptC]
  refine Gw.tkw 26 (.bool true) 29 #[] (fun w => known5 w) ?_
  try simp only [Act.put, ptA, ptB, ptC]
  refine Gw.tw 27 (.bool true) ?_
  try simp only [Act.put, ptA, ptB, ptC]
  refine Gw.tw 28 (.bool true) ?_
  try simp only [Act.put, ptA, ptB, ptC]
  exact Gw.td (by kernel_rfl) (fun z M => HK.out _ _ _ _ _ _ _ _ _ _ _ _ _ _ _ _ _ _ _ _ _ _ _ _ _ _ _ _ z M) _
set_option maxHeartbeats 4000000 in
theorem sets_w (x y : C) (v : BitVec 64) (n : Int) (hx : inX x) (hy : inX y) (hn : -9223372036854775808 ≤ n ∧ n ≤ 9223372036854775807) (w : World) :
    Calls Tryz.prog 3 #[.agg #[.int .u64 (bi x.t.v), .int .u64 (bi x.t.m), .int .u64 x.u.lo, .int .u64 x.u.hi, .int .i64 x.s.lo, .int .i64 x.s.hi], .agg #[.int .u64 (bi y.t.v), .int .u64 (bi y.t.m), .int .u64 y.u.lo, .int .u64 y.u.hi, .int .i64 y.s.lo, .int .i64 y.s.hi], .int .u64 (bi v), .int .i64 n] w fun e w' => e = .returned (.bool true) ∧ Below w.heap.size w w' := by
  go_enter Tryz.func3, Tryz.ntmps3
  have M := Gw.Mem.nil w
  refine wp_seq (sets_w_r0 x y v n hx hy hn (fun _ _ d _ _ h => by cases d <;> exact h) ?_ _ M)
  clear M
  intro _ d1_0 d1_1 z1 M
  refine wp_seq (sets_w_r1 x y v n hx hy hn (fun _ _ d _ _ h => by cases d <;> exact h) ?_ _ M)
  clear M
  intro _ _ z2 M
  refine wp_seq (sets_w_r2 x y v n hx hy hn (fun _ _ d _ _ h => by cases d <;> exact h) ?_ _ M)
  clear M
  intro _ _ z3 M
  refine wp_seq (sets_w_r3 x y v n hx hy hn (fun _ _ d _ _ h => by cases d <;> exact h) ?_ _ M)
  clear M
  intro _ _ _ _ _ z4 M
  refine wp_seq (sets_w_r4 x y v n hx hy hn (fun _ _ d _ _ h => by cases d <;> exact h) ?_ _ M)
  clear M
  intro _ _ _ _ _ z5 M
  refine wp_seq (sets_w_r5 x y v n hx hy hn (fun _ _ d _ _ h => by cases d <;> exact h) ?_ _ M)
  clear M
  intro _ _ _ _ _ d6_5 z6 M
  refine wp_seq (sets_w_r6 x y v n hx hy hn (fun _ _ d _ _ h => by cases d <;> exact h) ?_ _ M)
  clear M
  intro _ _ _ _ _ d7_5 z7 M
  refine wp_seq ?_
  refine wp_seq (sets_w_r7 x y v n hx hy hn (fun _ _ d _ _ h => by cases d <;> exact h) ?_ _ M)
  clear M
  intro _ _ _ _ _ _ _ _ _ _ _ _ _ _ _ _ _ _ _ _ _ _ _ _ _ _ _ _ _ _ _ _ _ _ _ _ z8 M
  refine wp_cond_false rfl ?_
  refine wp_skip ?_
  try simp only [Exit.inBlock, Exit.then]
  refine wp_seq (sets_w_r9 x y v n hx hy hn (fun _ _ d _ _ h => by cases d <;> exact h) ?_ _ M)
  clear M
  intro _ _ _ _ _ _ _ _ _ _ _ _ _ _ _ _ _ _ _ _ _ _ _ _ _ _ _ _ z9 M
  refine wp_ret ?_
  try simp only [Exit.inBlock, Exit.then]
  refine bodyPost_ret (by simp [results, Tryz.results3, go_sem]; try rfl) rfl ?_
  exact ⟨rfl, M.below⟩
end Go.Proofs.YtcimihckhobniaaGreat.Sc
