/-
  What the program's layer 5 tells: contracts, the walk of ScalarBranches. Conditions: scalars may be, where that is said.
-/
import Derived.Test.YtcimihckhobniaaGreatBScalarP13
import Derived.Test.YtcimihckhobniaaGreatBScalarOpen
namespace Go.Proofs.YtcimihckhobniaaGreat.Sc
open Go.RowKit Tn Ow Sp
set_option linter.unusedVariables false
set_option linter.unusedSimpArgs false
set_option maxRecDepth 100000
theorem X_st : Tryz.prog.underlying 30 = some (.struct (Tryz.prog.fieldsOf 30)) := by kernel_rfl
theorem X_in : Tryz.prog.stoodInHeld 30 = false := by kernel_rfl
theorem X_eg : Tryz.prog.eqGuardType Tryz.prog.depth 30 = false := by kernel_rfl
theorem U_in : Tryz.prog.stoodInHeld 26 = false := by kernel_rfl
theorem S_st : Tryz.prog.underlying 28 = some (.struct (Tryz.prog.fieldsOf 28)) := by kernel_rfl
theorem S_in : Tryz.prog.stoodInHeld 28 = false := by kernel_rfl
theorem T_st : Tryz.prog.underlying 24 = some (.struct (Tryz.prog.fieldsOf 24)) := by kernel_rfl
theorem T_in : Tryz.prog.stoodInHeld 24 = false := by kernel_rfl
set_option maxHeartbeats 2000000 in
theorem X_eql (x : C) (w : World) : (binOp .eql 30 (.agg #[.int .u64 (bi x.t.v), .int .u64 (bi x.t.m), .int .u64 x.u.lo, .int .u64 x.u.hi, .int .i64 x.s.lo, .int .i64 x.s.hi]) (.agg #[.int .u64 (bi x.t.v), .int .u64 (bi x.t.m), .int .u64 x.u.lo, .int .u64 x.u.hi, .int .i64 x.s.lo, .int .i64 x.s.hi])).run Tryz.prog w = .ok (.bool true) w := by
  rw [run_eql_struct, run_equalIn_agg _ _ _ _ _ X_st X_in]
  simp only [Program.fieldsOf, Tryz.underlying30]
  simp [go_sem, run_equalIn_agg _ _ _ _ _ T_st T_in, run_equalIn_agg _ _ _ _ _ U_st U_in, run_equalIn_agg _ _ _ _ _ S_st S_in, Program.fieldsOf, Tryz.underlying24, Tryz.underlying26, Tryz.underlying28]
theorem X_guard (op : BinOp) (xs ys : Array Value) (o1 o2 : Operand) (w : World) : (eqGuard op 30 o1 o2 (.agg xs) (.agg ys)).run Tryz.prog w = .ok () w := run_eqGuard_agg w op _ o1 o2 _ _ X_eg
theorem X_zero (w : World) : (binOp .neq 30 (.agg #[.int .u64 0, .int .u64 0, .int .u64 0, .int .u64 0, .int .i64 0, .int .i64 0]) (.agg #[.int .u64 0, .int .u64 0, .int .u64 0, .int .u64 0, .int .i64 0, .int .i64 0])).run Tryz.prog w = .ok (.bool false) w := by kernel_rfl
theorem with_t (a b : C) (r : Bool) (h : withC a b = r) (w : World) : Calls Tryz.prog 25 #[.agg #[.int .u64 (bi a.t.v), .int .u64 (bi a.t.m), .int .u64 a.u.lo, .int .u64 a.u.hi, .int .i64 a.s.lo, .int .i64 a.s.hi], .agg #[.int .u64 (bi b.t.v), .int .u64 (bi b.t.m), .int .u64 b.u.lo, .int .u64 b.u.hi, .int .i64 b.s.lo, .int .i64 b.s.hi]] w fun e w' => e = .returned (.bool r) ∧ Below w.heap.size w w' := by subst h; exact with5 a b w
theorem in_t (a : C) (v : BitVec 64) (r : Bool) (h : inC a v = r) (w : World) : Calls Tryz.prog 23 #[.agg #[.int .u64 (bi a.t.v), .int .u64 (bi a.t.m), .int .u64 a.u.lo, .int .u64 a.u.hi, .int .i64 a.s.lo, .int .i64 a.s.hi], .int .u64 (bi v)] w fun e w' => e = .returned (.bool r) ∧ Below w.heap.size w w' := by subst h; exact in5 a v w
theorem may_t (a : C) (h : mayC a) (w : World) : Calls Tryz.prog 38 #[.agg #[.int .u64 (bi a.t.v), .int .u64 (bi a.t.m), .int .u64 a.u.lo, .int .u64 a.u.hi, .int .i64 a.s.lo, .int .i64 a.s.hi]] w fun e w' => e = .returned (.bool true) ∧ Below w.heap.size w w' := by have := mayF5 a w; rw [mayB_of h] at this; exact this
theorem br_so (op : Int) (wide taken : Bool) (a b p q : C) (ha : mayC a) (hb : mayC b) (h : branchC op wide taken a b = some (p, q)) (w : World) :
    Calls Tryz.prog 34 #[.int .i64 op, .bool wide, .bool taken, .agg #[.int .u64 (bi a.t.v), .int .u64 (bi a.t.m), .int .u64 a.u.lo, .int .u64 a.u.hi, .int .i64 a.s.lo, .int .i64 a.s.hi], .agg #[.int .u64 (bi b.t.v), .int .u64 (bi b.t.m), .int .u64 b.u.lo, .int .u64 b.u.hi, .int .i64 b.s.lo, .int .i64 b.s.hi]] w fun e w' => e = .returned (.tuple #[.agg #[.int .u64 (bi p.t.v), .int .u64 (bi p.t.m), .int .u64 p.u.lo, .int .u64 p.u.hi, .int .i64 p.s.lo, .int .i64 p.s.hi], .agg #[.int .u64 (bi q.t.v), .int .u64 (bi q.t.m), .int .u64 q.u.lo, .int .u64 q.u.hi, .int .i64 q.s.lo, .int .i64 q.s.hi], .bool true]) ∧ Below w.heap.size w w' := by
  have := branch5 op wide taken a b ha hb w; rw [h] at this; exact this
theorem br_no (op : Int) (wide taken : Bool) (a b : C) (ha : mayC a) (hb : mayC b) (h : branchC op wide taken a b = none) (w : World) :
    Calls Tryz.prog 34 #[.int .i64 op, .bool wide, .bool taken, .agg #[.int .u64 (bi a.t.v), .int .u64 (bi a.t.m), .int .u64 a.u.lo, .int .u64 a.u.hi, .int .i64 a.s.lo, .int .i64 a.s.hi], .agg #[.int .u64 (bi b.t.v), .int .u64 (bi b.t.m), .int .u64 b.u.lo, .int .u64 b.u.hi, .int .i64 b.s.lo, .int .i64 b.s.hi]] w fun e w' => e = .returned (.tuple #[.agg #[.int .u64 0, .int .u64 0, .int .u64 0, .int .u64 0, .int .i64 0, .int .i64 0], .agg #[.int .u64 0, .int .u64 0, .int .u64 0, .int .u64 0, .int .i64 0, .int .i64 0], .bool false]) ∧ Below w.heap.size w w' := by
  have := branch5 op wide taken a b ha hb w; rw [h] at this; exact this
theorem br_al {op : Int} {wide taken : Bool} {a b : C} (hj : Wd.jumpOk op = false) : branchC op wide taken a b = some (a, b) := by unfold branchC; rw [if_pos hj]
theorem al_eq {op : Int} {wide taken : Bool} {a b p q : C} (hj : Wd.jumpOk op = false) (h : branchC op wide taken a b = some (p, q)) : p = a ∧ q = b := by
  rw [br_al hj] at h; injection h with h; injection h with h1 h2; exact ⟨h1.symm, h2.symm⟩
theorem X_eq2 (p a : C) (h : p = a) (w : World) : (binOp .eql 30 (.agg #[.int .u64 (bi p.t.v), .int .u64 (bi p.t.m), .int .u64 p.u.lo, .int .u64 p.u.hi, .int .i64 p.s.lo, .int .i64 p.s.hi]) (.agg #[.int .u64 (bi a.t.v), .int .u64 (bi a.t.m), .int .u64 a.u.lo, .int .u64 a.u.hi, .int .i64 a.s.lo, .int .i64 a.s.hi])).run Tryz.prog w = .ok (.bool true) w := by subst h; exact X_eql p w
noncomputable def brs_N_r0C : Code := (Tryz.f8.body.bind (Rg.findR 0)).getD .skip
set_option maxHeartbeats 4000000 in
theorem brs_N_r0 (op : Int) (wide : Bool) (x y : C) (v u : BitVec 64) (hx : inX x) (hy : inX y) (p q : C) (hb1 : branchC op wide (Wd.jumpV op wide (bi v) (bi u)) (wtC x v) (wtC y u) = some (p, q)) (mp : mayC p) (mq : mayC q) (ip : inC p v = true) (iq : inC q u = true) (wp : withC p (wtC x v) = true) (wq : withC q (wtC y u) = true) {w0 : World}  {K : Act → World → Prop} {Q0 : Exit → Act → World → Prop} {u0 u1 u4 u5 u6 u7 u8 u9 u10 u11 u12 u13 u14 u15 u16 u17 u18 u19 u20 u21 u22 u23 u24 u25 u26 u27 u28 u29 u30 u31 u32 u33 u34 u35 u36 u37 u38 u39 u40 u41 u42 u43 u44 u45 u46 u47 u48 u49 u50 u51 u52 u53 u54 u55 u56 u57 u58 u59 u60 u61 u62 u63 u64 u65 u66 u67 u68 u69 u70 u71 u72 u73 u74 u75 u76 u77 u78 u79 u80 u81 u82 u83 u84 u85 u86 u87 u88 u89 u90 u91 u92 u93 u94 u95 u96 u97 u98 u99 u100 u101 u102 u103 u104 u105 u106 u107 u108 u109 u110 u111 u112 u113 u114 u115 u116 u117 u118 u119 u120 u121 u122 u123 u124 u125 u126 u127 u128 u129 u130 u131 u132 u133 u134 u135 u136 u137 u138 u139 u140 u141 u142 u143 u144 u145 : Value}
    (hQ : ∀ c a d v w, Q0 (.panic c) (Act.put a d v) w → Q0 (.panic c) a w)
    (hK : ∀ (t12 : Value) (d1_0 d1_1 : Nat) (z : World), Gw.Mem w0 [(d1_1, .cells #[.int .u64 (bi y.t.v), .int .u64 (bi y.t.m), .int .u64 y.u.lo, .int .u64 y.u.hi, .int .i64 y.s.lo, .int .i64 y.s.hi] 30), (d1_0, .cells #[.int .u64 (bi x.t.v), .int .u64 (bi x.t.m), .int .u64 x.u.lo, .int .u64 x.u.hi, .int .i64 x.s.lo, .int .i64 x.s.hi] 30)] z → K ⟨#[u0, u1, .agg #[.int .u64 (bi x.t.v), .int .u64 (bi x.t.m), .int .u64 x.u.lo, .int .u64 x.u.hi, .int .i64 x.s.lo, .int .i64 x.s.hi], .agg #[.int .u64 (bi y.t.v), .int .u64 (bi y.t.m), .int .u64 y.u.lo, .int .u64 y.u.hi, .int .i64 y.s.lo, .int .i64 y.s.hi], u4, u5, u6, u7, .pointer (some ⟨d1_0, 0, none⟩), .pointer (some ⟨d1_1, 0, none⟩), u10, u11, t12, u13, u14, u15, u16, u17, u18, u19, u20, u21, u22, u23, u24, u25, u26, u27, u28, u29, u30, u31, u32, u33, u34, u35, u36, u37, u38, u39, u40, u41, u42, u43, u44, u45, u46, u47, u48, u49, u50, u51, u52, u53, u54, u55, u56, u57, u58, u59, u60, u61, u62, u63, u64, u65, u66, u67, u68, u69, u70, u71, u72, u73, u74, u75, u76, u77, u78, u79, u80, u81, u82, u83, u84, u85, u86, u87, u88, u89, u90, u91, u92, u93, u94, u95, u96, u97, u98, u99, u100, u101, u102, u103, u104, u105, u106, u107, u108, u109, u110, u111, u112, u113, u114, u115, u116, u117, u118, u119, u120, u121, u122, u123, u124, u125, u126, u127, u128, u129, u130, u131, u132, u133, u134, u135, u136, u137, u138, u139, u140, u141, u142, u143, u144, u145], []⟩ z) (wy : World) (M : Gw.Mem w0 [] wy) :
    brs_N_r0C.wp Tryz.prog (Exit.then K Q0) ⟨#[u0, u1, .agg #[.int .u64 (bi x.t.v), .int .u64 (bi x.t.m), .int .u64 x.u.lo, .int .u64 x.u.hi, .int .i64 x.s.lo, .int .i64 x.s.hi], .agg #[.int .u64 (bi y.t.v), .int .u64 (bi y.t.m), .int .u64 y.u.lo, .int .u64 y.u.hi, .int .i64 y.s.lo, .int .i64 y.s.hi], u4, u5, u6, u7, u8, u9, u10, u11, u12, u13, u14, u15, u16, u17, u18, u19, u20, u21, u22, u23, u24, u25, u26, u27, u28, u29, u30, u31, u32, u33, u34, u35, u36, u37, u38, u39, u40, u41, u42, u43, u44, u45, u46, u47, u48, u49, u50, u51, u52, u53, u54, u55, u56, u57, u58, u59, u60, u61, u62, u63, u64, u65, u66, u67, u68, u69, u70, u71, u72, u73, u74, u75, u76, u77, u78, u79, u80, u81, u82, u83, u84, u85, u86, u87, u88, u89, u90, u91, u92, u93, u94, u95, u96, u97, u98, u99, u100, u101, u102, u103, u104, u105, u106, u107, u108, u109, u110, u111, u112, u113, u114, u115, u116, u117, u118, u119, u120, u121, u122, u123, u124, u125, u126, u127, u128, u129, u130, u131, u132, u133, u134, u135, u136, u137, u138, u139, u140, u141, u142, u143, u144, u145], []⟩ wy := by
  have HK := Lib.hid hK
  clear hK
  conv => arg 2; whnf
  refine Gw.line _ M ?_
  clear M wy
  refine Gw.ss ?_
  intro w M K' hK
  go_simp
  have M1 := M.alloc (.cells #[.int .u64 (bi x.t.v), .int .u64 (bi x.t.m), .int .u64 x.u.lo, .int .u64 x.u.hi, .int .i64 x.s.lo, .int .i64 x.s.hi] 30)
  generalize w.heap.size = d1_0 at M1 ⊢
  refine hK.out _ _ _ M1 ?_
  clear hK K' M1 M w
  try simp only [Act.put, ptA, ptB, ptC]
  refine Gw.ss ?_
  intro w M K' hK
  go_simp
  have M1 := M.alloc (.cells #[.int .u64 (bi y.t.v), .int .u64 (bi y.t.m), .int .u64 y.u.lo, .int .u64 y.u.hi, .int .i64 y.s.lo, .int .i64 y.s.hi] 30)
  generalize w.heap.size = d1_1 at M1 ⊢
  refine hK.out _ _ _ M1 ?_
  clear hK K' M1 M w
  try simp only [Act.put, ptA, ptB, ptC]
  refine Gw.sw (.bool false) ?_
  try simp only [Act.put, ptA, ptB, ptC]
  exact fun z M => HK.out _ _ _ z M
noncomputable def brs_N_r1C : Code := (Tryz.f8.body.bind (Rg.findR 1)).getD .skip
set_option maxHeartbeats 4000000 in
theorem brs_N_r1 (op : Int) (wide : Bool) (x y : C) (v u : BitVec 64) (hx : inX x) (hy : inX y) (p q : C) (hb1 : branchC op wide (Wd.jumpV op wide (bi v) (bi u)) (wtC x v) (wtC y u) = some (p, q)) (mp : mayC p) (mq : mayC q) (ip : inC p v = true) (iq : inC q u = true) (wp : withC p (wtC x v) = true) (wq : withC q (wtC y u) = true) {w0 : World}  {K : Act → World → Prop} {Q0 : Exit → Act → World → Prop} {d1_1 d1_0 : Nat} {u0 u1 u2 u3 u5 u6 u7 u9 u10 u11 u12 u13 u14 u15 u16 u17 u18 u19 u20 u21 u22 u23 u24 u25 u26 u27 u28 u29 u30 u31 u32 u33 u34 u35 u36 u37 u38 u39 u40 u41 u42 u43 u44 u45 u46 u47 u48 u49 u50 u51 u52 u53 u54 u55 u56 u57 u58 u59 u60 u61 u62 u63 u64 u65 u66 u67 u68 u69 u70 u71 u72 u73 u74 u75 u76 u77 u78 u79 u80 u81 u82 u83 u84 u85 u86 u87 u88 u89 u90 u91 u92 u93 u94 u95 u96 u97 u98 u99 u100 u101 u102 u103 u104 u105 u106 u107 u108 u109 u110 u111 u112 u113 u114 u115 u116 u117 u118 u119 u120 u121 u122 u123 u124 u125 u126 u127 u128 u129 u130 u131 u132 u133 u134 u135 u136 u137 u138 u139 u140 u141 u142 u143 u144 u145 : Value}
    (hQ : ∀ c a d v w, Q0 (.panic c) (Act.put a d v) w → Q0 (.panic c) a w)
    (hK : ∀ (t21 t22 t23 : Value) (z : World), Gw.Mem w0 [(d1_1, .cells #[.int .u64 (bi y.t.v), .int .u64 (bi y.t.m), .int .u64 y.u.lo, .int .u64 y.u.hi, .int .i64 y.s.lo, .int .i64 y.s.hi] 30), (d1_0, .cells #[.int .u64 (bi (wtC x v).t.v), .int .u64 (bi (wtC x v).t.m), .int .u64 ((wtC x v).u.lo), .int .u64 ((wtC x v).u.hi), .int .i64 ((wtC x v).s.lo), .int .i64 ((wtC x v).s.hi)] 30)] z → K ⟨#[u0, u1, u2, u3, .int .u64 (bi v), u5, u6, u7, .pointer (some ⟨d1_0, 0, none⟩), u9, u10, u11, u12, u13, u14, u15, u16, u17, u18, u19, u20, t21, t22, t23, u24, u25, u26, u27, u28, u29, u30, u31, u32, u33, u34, u35, u36, u37, u38, u39, u40, u41, u42, u43, u44, u45, u46, u47, u48, u49, u50, u51, u52, u53, u54, u55, u56, u57, u58, u59, u60, u61, u62, u63, u64, u65, u66, u67, u68, u69, u70, u71, u72, u73, u74, u75, u76, u77, u78, u79, u80, u81, u82, u83, u84, u85, u86, u87, u88, u89, u90, u91, u92, u93, u94, u95, u96, u97, u98, u99, u100, u101, u102, u103, u104, u105, u106, u107, u108, u109, u110, u111, u112, u113, u114, u115, u116, u117, u118, u119, u120, u121, u122, u123, u124, u125, u126, u127, u128, u129, u130, u131, u132, u133, u134, u135, u136, u137, u138, u139, u140, u141, u142, u143, u144, u145], []⟩ z) (wy : World) (M : Gw.Mem w0 [(d1_1, .cells #[.int .u64 (bi y.t.v), .int .u64 (bi y.t.m), .int .u64 y.u.lo, .int .u64 y.u.hi, .int .i64 y.s.lo, .int .i64 y.s.hi] 30), (d1_0, .cells #[.int .u64 (bi x.t.v), .int .u64 (bi x.t.m), .int .u64 x.u.lo, .int .u64 x.u.hi, .int .i64 x.s.lo, .int .i64 x.s.hi] 30)] wy) :
    brs_N_r1C.wp Tryz.prog (Exit.then K Q0) ⟨#[u0, u1, u2, u3, .int .u64 (bi v), u5, u6, u7, .pointer (some ⟨d1_0, 0, none⟩), u9, u10, u11, u12, u13, u14, u15, u16, u17, u18, u19, u20, u21, u22, u23, u24, u25, u26, u27, u28, u29, u30, u31, u32, u33, u34, u35, u36, u37, u38, u39, u40, u41, u42, u43, u44, u45, u46, u47, u48, u49, u50, u51, u52, u53, u54, u55, u56, u57, u58, u59, u60, u61, u62, u63, u64, u65, u66, u67, u68, u69, u70, u71, u72, u73, u74, u75, u76, u77, u78, u79, u80, u81, u82, u83, u84, u85, u86, u87, u88, u89, u90, u91, u92, u93, u94, u95, u96, u97, u98, u99, u100, u101, u102, u103, u104, u105, u106, u107, u108, u109, u110, u111, u112, u113, u114, u115, u116, u117, u118, u119, u120, u121, u122, u123, u124, u125, u126, u127, u128, u129, u130, u131, u132, u133, u134, u135, u136, u137, u138, u139, u140, u141, u142, u143, u144, u145], []⟩ wy := by
  have HK := Lib.hid hK
  clear hK
  conv => arg 2; whnf
  refine Gw.line _ M ?_
  clear M wy
  refine Gw.sq (.agg #[.int .u64 (bi x.t.v), .int .u64 (bi x.t.m), .int .u64 x.u.lo, .int .u64 x.u.hi, .int .i64 x.s.lo, .int .i64 x.s.hi]) ?_ ?_
  · intro w M; have c := M.c6 1; go_simp
  try simp only [Act.put, ptA, ptB, ptC]
  refine Gw.sw (.int .u64 (bi v)) ?_
  try simp only [Act.put, ptA, ptB, ptC]
  refine Gw.sk (.agg #[.int .u64 (bi (wtC x v).t.v), .int .u64 (bi (wtC x v).t.m), .int .u64 ((wtC x v).u.lo), .int .u64 ((wtC x v).u.hi), .int .i64 ((wtC x v).s.lo), .int .i64 ((wtC x v).s.hi)]) 36 #[.agg #[.int .u64 (bi x.t.v), .int .u64 (bi x.t.m), .int .u64 x.u.lo, .int .u64 x.u.hi, .int .i64 x.s.lo, .int .i64 x.s.hi], .int .u64 (bi v)] (fun w M => with5L x v w) ?_
  try simp only [Act.put, ptA, ptB, ptC]
  refine Gw.ss ?_
  intro w M K' hK
  have c := M.c6 1
  have f := M.f6 1
  go_simp
  refine hK.out _ _ _ ((((((M.set 1 0 _).set 1 1 _).set 1 2 _).set 1 3 _).set 1 4 _).set 1 5 _) ?_
  clear hK K' c f M w
  exact fun z M => HK.out _ _ _ z M
noncomputable def brs_N_r2C : Code := (Tryz.f8.body.bind (Rg.findR 2)).getD .skip
set_option maxHeartbeats 4000000 in
theorem brs_N_r2 (op : Int) (wide : Bool) (x y : C) (v u : BitVec 64) (hx : inX x) (hy : inX y) (p q : C) (hb1 : branchC op wide (Wd.jumpV op wide (bi v) (bi u)) (wtC x v) (wtC y u) = some (p, q)) (mp : mayC p) (mq : mayC q) (ip : inC p v = true) (iq : inC q u = true) (wp : withC p (wtC x v) = true) (wq : withC q (wtC y u) = true) {w0 : World}  {K : Act → World → Prop} {Q0 : Exit → Act → World → Prop} {d1_1 d1_0 : Nat} {u0 u1 u2 u3 u4 u6 u7 u8 u10 u11 u12 u13 u14 u15 u16 u17 u18 u19 u20 u21 u22 u23 u24 u25 u26 u27 u28 u29 u30 u31 u32 u33 u34 u35 u36 u37 u38 u39 u40 u41 u42 u43 u44 u45 u46 u47 u48 u49 u50 u51 u52 u53 u54 u55 u56 u57 u58 u59 u60 u61 u62 u63 u64 u65 u66 u67 u68 u69 u70 u71 u72 u73 u74 u75 u76 u77 u78 u79 u80 u81 u82 u83 u84 u85 u86 u87 u88 u89 u90 u91 u92 u93 u94 u95 u96 u97 u98 u99 u100 u101 u102 u103 u104 u105 u106 u107 u108 u109 u110 u111 u112 u113 u114 u115 u116 u117 u118 u119 u120 u121 u122 u123 u124 u125 u126 u127 u128 u129 u130 u131 u132 u133 u134 u135 u136 u137 u138 u139 u140 u141 u142 u143 u144 u145 : Value}
    (hQ : ∀ c a d v w, Q0 (.panic c) (Act.put a d v) w → Q0 (.panic c) a w)
    (hK : ∀ (t24 t25 t26 : Value) (z : World), Gw.Mem w0 [(d1_1, .cells #[.int .u64 (bi (wtC y u).t.v), .int .u64 (bi (wtC y u).t.m), .int .u64 ((wtC y u).u.lo), .int .u64 ((wtC y u).u.hi), .int .i64 ((wtC y u).s.lo), .int .i64 ((wtC y u).s.hi)] 30), (d1_0, .cells #[.int .u64 (bi (wtC x v).t.v), .int .u64 (bi (wtC x v).t.m), .int .u64 ((wtC x v).u.lo), .int .u64 ((wtC x v).u.hi), .int .i64 ((wtC x v).s.lo), .int .i64 ((wtC x v).s.hi)] 30)] z → K ⟨#[u0, u1, u2, u3, u4, .int .u64 (bi u), u6, u7, u8, .pointer (some ⟨d1_1, 0, none⟩), u10, u11, u12, u13, u14, u15, u16, u17, u18, u19, u20, u21, u22, u23, t24, t25, t26, u27, u28, u29, u30, u31, u32, u33, u34, u35, u36, u37, u38, u39, u40, u41, u42, u43, u44, u45, u46, u47, u48, u49, u50, u51, u52, u53, u54, u55, u56, u57, u58, u59, u60, u61, u62, u63, u64, u65, u66, u67, u68, u69, u70, u71, u72, u73, u74, u75, u76, u77, u78, u79, u80, u81, u82, u83, u84, u85, u86, u87, u88, u89, u90, u91, u92, u93, u94, u95, u96, u97, u98, u99, u100, u101, u102, u103, u104, u105, u106, u107, u108, u109, u110, u111, u112, u113, u114, u115, u116, u117, u118, u119, u120, u121, u122, u123, u124, u125, u126, u127, u128, u129, u130, u131, u132, u133, u134, u135, u136, u137, u138, u139, u140, u141, u142, u143, u144, u145], []⟩ z) (wy : World) (M : Gw.Mem w0 [(d1_1, .cells #[.int .u64 (bi y.t.v), .int .u64 (bi y.t.m), .int .u64 y.u.lo, .int .u64 y.u.hi, .int .i64 y.s.lo, .int .i64 y.s.hi] 30), (d1_0, .cells #[.int .u64 (bi (wtC x v).t.v), .int .u64 (bi (wtC x v).t.m), .int .u64 ((wtC x v).u.lo), .int .u64 ((wtC x v).u.hi), .int .i64 ((wtC x v).s.lo), .int .i64 ((wtC x v).s.hi)] 30)] wy) :
    brs_N_r2C.wp Tryz.prog (Exit.then K Q0) ⟨#[u0, u1, u2, u3, u4, .int .u64 (bi u), u6, u7, u8, .pointer (some ⟨d1_1, 0, none⟩), u10, u11, u12, u13, u14, u15, u16, u17, u18, u19, u20, u21, u22, u23, u24, u25, u26, u27, u28, u29, u30, u31, u32, u33, u34, u35, u36, u37, u38, u39, u40, u41, u42, u43, u44, u45, u46, u47, u48, u49, u50, u51, u52, u53, u54, u55, u56, u57, u58, u59, u60, u61, u62, u63, u64, u65, u66, u67, u68, u69, u70, u71, u72, u73, u74, u75, u76, u77, u78, u79, u80, u81, u82, u83, u84, u85, u86, u87, u88, u89, u90, u91, u92, u93, u94, u95, u96, u97, u98, u99, u100, u101, u102, u103, u104, u105, u106, u107, u108, u109, u110, u111, u112, u113, u114, u115, u116, u117, u118, u119, u120, u121, u122, u123, u124, u125, u126, u127, u128, u129, u130, u131, u132, u133, u134, u135, u136, u137, u138, u139, u140, u141, u142, u143, u144, u145], []⟩ wy := by
  have HK := Lib.hid hK
  clear hK
  conv => arg 2; whnf
  refine Gw.line _ M ?_
  clear M wy
  refine Gw.sq (.agg #[.int .u64 (bi y.t.v), .int .u64 (bi y.t.m), .int .u64 y.u.lo, .int .u64 y.u.hi, .int .i64 y.s.lo, .int .i64 y.s.hi]) ?_ ?_
  · intro w M; have c := M.c6 0; go_simp
  try simp only [Act.put, ptA, ptB, ptC]
  refine Gw.sw (.int .u64 (bi u)) ?_
  try simp only [Act.put, ptA, ptB, ptC]
  refine Gw.sk (.agg #[.int .u64 (bi (wtC y u).t.v), .int .u64 (bi (wtC y u).t.m), .int .u64 ((wtC y u).u.lo), .int .u64 ((wtC y u).u.hi), .int .i64 ((wtC y u).s.lo), .int .i64 ((wtC y u).s.hi)]) 36 #[.agg #[.int .u64 (bi y.t.v), .int .u64 (bi y.t.m), .int .u64 y.u.lo, .int .u64 y.u.hi, .int .i64 y.s.lo, .int .i64 y.s.hi], .int .u64 (bi u)] (fun w M => with5L y u w) ?_
  try simp only [Act.put, ptA, ptB, ptC]
  refine Gw.ss ?_
  intro w M K' hK
  have c := M.c6 0
  have f := M.f6 0
  go_simp
  refine hK.out _ _ _ ((((((M.set 0 0 _).set 0 1 _).set 0 2 _).set 0 3 _).set 0 4 _).set 0 5 _) ?_
  clear hK K' c f M w
  exact fun z M => HK.out _ _ _ z M
noncomputable def brs_N_r3C : Code := (Tryz.f8.body.bind (Rg.findR 3)).getD .skip
set_option maxHeartbeats 4000000 in
theorem brs_N_r3 (op : Int) (wide : Bool) (x y : C) (v u : BitVec 64) (hx : inX x) (hy : inX y) (p q : C) (hb1 : branchC op wide (Wd.jumpV op wide (bi v) (bi u)) (wtC x v) (wtC y u) = some (p, q)) (mp : mayC p) (mq : mayC q) (ip : inC p v = true) (iq : inC q u = true) (wp : withC p (wtC x v) = true) (wq : withC q (wtC y u) = true) {w0 : World}  {K : Act → World → Prop} {Q0 : Exit → Act → World → Prop} {d1_1 d1_0 : Nat} {u2 u3 u6 u7 u8 u9 u10 u11 u12 u13 u14 u15 u16 u17 u18 u19 u20 u21 u22 u23 u24 u25 u26 u27 u28 u29 u30 u31 u32 u33 u34 u35 u36 u37 u38 u39 u40 u41 u42 u43 u44 u45 u46 u47 u48 u49 u50 u51 u52 u53 u54 u55 u56 u57 u58 u59 u60 u61 u62 u63 u64 u65 u66 u67 u68 u69 u70 u71 u72 u73 u74 u75 u76 u77 u78 u79 u80 u81 u82 u83 u84 u85 u86 u87 u88 u89 u90 u91 u92 u93 u94 u95 u96 u97 u98 u99 u100 u101 u102 u103 u104 u105 u106 u107 u108 u109 u110 u111 u112 u113 u114 u115 u116 u117 u118 u119 u120 u121 u122 u123 u124 u125 u126 u127 u128 u129 u130 u131 u132 u133 u134 u135 u136 u137 u138 u139 u140 u141 u142 u143 u144 u145 : Value}
    (hQ : ∀ c a d v w, Q0 (.panic c) (Act.put a d v) w → Q0 (.panic c) a w)
    (hK : ∀ (t27 t28 t29 t30 t31 t32 t33 t34 : Value) (z : World), Gw.Mem w0 [(d1_1, .cells #[.int .u64 (bi (wtC y u).t.v), .int .u64 (bi (wtC y u).t.m), .int .u64 ((wtC y u).u.lo), .int .u64 ((wtC y u).u.hi), .int .i64 ((wtC y u).s.lo), .int .i64 ((wtC y u).s.hi)] 30), (d1_0, .cells #[.int .u64 (bi (wtC x v).t.v), .int .u64 (bi (wtC x v).t.m), .int .u64 ((wtC x v).u.lo), .int .u64 ((wtC x v).u.hi), .int .i64 ((wtC x v).s.lo), .int .i64 ((wtC x v).s.hi)] 30)] z → K ⟨#[.int .i64 op, .bool wide, u2, u3, .int .u64 (bi v), .int .u64 (bi u), u6, u7, u8, u9, u10, u11, u12, .bool (Wd.jumpV op wide (bi v) (bi u)), .bool (Wd.jumpOk op), u15, u16, u17, u18, u19, u20, u21, u22, u23, u24, u25, u26, t27, t28, t29, t30, t31, t32, t33, t34, u35, u36, u37, u38, u39, u40, u41, u42, u43, u44, u45, u46, u47, u48, u49, u50, u51, u52, u53, u54, u55, u56, u57, u58, u59, u60, u61, u62, u63, u64, u65, u66, u67, u68, u69, u70, u71, u72, u73, u74, u75, u76, u77, u78, u79, u80, u81, u82, u83, u84, u85, u86, u87, u88, u89, u90, u91, u92, u93, u94, u95, u96, u97, u98, u99, u100, u101, u102, u103, u104, u105, u106, u107, u108, u109, u110, u111, u112, u113, u114, u115, u116, u117, u118, u119, u120, u121, u122, u123, u124, u125, u126, u127, u128, u129, u130, u131, u132, u133, u134, u135, u136, u137, u138, u139, u140, u141, u142, u143, u144, u145], []⟩ z) (wy : World) (M : Gw.Mem w0 [(d1_1, .cells #[.int .u64 (bi (wtC y u).t.v), .int .u64 (bi (wtC y u).t.m), .int .u64 ((wtC y u).u.lo), .int .u64 ((wtC y u).u.hi), .int .i64 ((wtC y u).s.lo), .int .i64 ((wtC y u).s.hi)] 30), (d1_0, .cells #[.int .u64 (bi (wtC x v).t.v), .int .u64 (bi (wtC x v).t.m), .int .u64 ((wtC x v).u.lo), .int .u64 ((wtC x v).u.hi), .int .i64 ((wtC x v).s.lo), .int .i64 ((wtC x v).s.hi)] 30)] wy) :
    brs_N_r3C.wp Tryz.prog (Exit.then K Q0) ⟨#[.int .i64 op, .bool wide, u2, u3, .int .u64 (bi v), .int .u64 (bi u), u6, u7, u8, u9, u10, u11, u12, u13, u14, u15, u16, u17, u18, u19, u20, u21, u22, u23, u24, u25, u26, u27, u28, u29, u30, u31, u32, u33, u34, u35, u36, u37, u38, u39, u40, u41, u42, u43, u44, u45, u46, u47, u48, u49, u50, u51, u52, u53, u54, u55, u56, u57, u58, u59, u60, u61, u62, u63, u64, u65, u66, u67, u68, u69, u70, u71, u72, u73, u74, u75, u76, u77, u78, u79, u80, u81, u82, u83, u84, u85, u86, u87, u88, u89, u90, u91, u92, u93, u94, u95, u96, u97, u98, u99, u100, u101, u102, u103, u104, u105, u106, u107, u108, u109, u110, u111, u112, u113, u114, u115, u116, u117, u118, u119, u120, u121, u122, u123, u124, u125, u126, u127, u128, u129, u130, u131, u132, u133, u134, u135, u136, u137, u138, u139, u140, u141, u142, u143, u144, u145], []⟩ wy := by
  have HK := Lib.hid hK
  clear hK
  conv => arg 2; whnf
  refine Gw.line _ M ?_
  clear M wy
  refine Gw.sw (.int .i64 op) ?_
  try simp only [Act.put, ptA, ptB, ptC]
  refine Gw.sw (.bool wide) ?_
  try simp only [Act.put, ptA, ptB, ptC]
  refine Gw.sw (.int .u64 (bi v)) ?_
  try simp only [Act.put, ptA, ptB, ptC]
  refine Gw.sw (.int .u64 (bi u)) ?_
  try simp only [Act.put, ptA, ptB, ptC]
  refine Gw.sk (.tuple #[.bool (Wd.jumpV op wide (bi v) (bi u)), .bool (Wd.jumpOk op)]) 40 #[.int .i64 op, .bool wide, .int .u64 (bi v), .int .u64 (bi u)] (fun w M => Gw.pure (L1.jump_any op wide (bi v) (bi u) (bi_bd v).1 (bi_bd v).2 (bi_bd u).1 (bi_bd u).2 w)) ?_
  try simp only [Act.put, ptA, ptB, ptC]
  refine Gw.sw (.tuple #[.bool (Wd.jumpV op wide (bi v) (bi u)), .bool (Wd.jumpOk op)]) ?_
  try simp only [Act.put, ptA, ptB, ptC]
  refine Gw.sw (.bool (Wd.jumpV op wide (bi v) (bi u))) ?_
  try simp only [Act.put, ptA, ptB, ptC]
  refine Gw.sw (.bool (Wd.jumpOk op)) ?_
  try simp only [Act.put, ptA, ptB, ptC]
  refine Gw.sw (.bool (Wd.jumpV op wide (bi v) (bi u))) ?_
  try simp only [Act.put, ptA, ptB, ptC]
  refine Gw.sw (.bool (Wd.jumpOk op)) ?_
  try simp only [Act.put, ptA, ptB, ptC]
  exact fun z M => HK.out _ _ _ _ _ _ _ _ z M
noncomputable def brs_N_r4C : Code := (Tryz.f8.body.bind (Rg.findR 4)).getD .skip
set_option maxHeartbeats 4000000 in
theorem brs_N_r4 (op : Int) (wide : Bool) (x y : C) (v u : BitVec 64) (hx : inX x) (hy : inX y) (p q : C) (hb1 : branchC op wide (Wd.jumpV op wide (bi v) (bi u)) (wtC x v) (wtC y u) = some (p, q)) (mp : mayC p) (mq : mayC q) (ip : inC p v = true) (iq : inC q u = true) (wp : withC p (wtC x v) = true) (wq : withC q (wtC y u) = true) {w0 : World}  {K : Act → World → Prop} {Q0 : Exit → Act → World → Prop} {d1_1 d1_0 : Nat} {u2 u3 u4 u5 u6 u7 u10 u11 u12 u14 u15 u16 u17 u18 u19 u20 u21 u22 u23 u24 u25 u26 u27 u28 u29 u30 u31 u32 u33 u34 u35 u36 u37 u38 u39 u40 u41 u42 u43 u44 u45 u46 u47 u48 u49 u50 u51 u52 u53 u54 u55 u56 u57 u58 u59 u60 u61 u62 u63 u64 u65 u66 u67 u68 u69 u70 u71 u72 u73 u74 u75 u76 u77 u78 u79 u80 u81 u82 u83 u84 u85 u86 u87 u88 u89 u90 u91 u92 u93 u94 u95 u96 u97 u98 u99 u100 u101 u102 u103 u104 u105 u106 u107 u108 u109 u110 u111 u112 u113 u114 u115 u116 u117 u118 u119 u120 u121 u122 u123 u124 u125 u126 u127 u128 u129 u130 u131 u132 u133 u134 u135 u136 u137 u138 u139 u140 u141 u142 u143 u144 u145 : Value}
    (hQ : ∀ c a d v w, Q0 (.panic c) (Act.put a d v) w → Q0 (.panic c) a w)
    (hK : ∀ (t35 t36 t37 t38 t39 t40 t41 t42 t43 t44 : Value) (d5_10 d5_11 : Nat) (z : World), Gw.Mem w0 [(d5_11, .cells #[.int .u64 (bi q.t.v), .int .u64 (bi q.t.m), .int .u64 q.u.lo, .int .u64 q.u.hi, .int .i64 q.s.lo, .int .i64 q.s.hi] 30), (d5_10, .cells #[.int .u64 (bi p.t.v), .int .u64 (bi p.t.m), .int .u64 p.u.lo, .int .u64 p.u.hi, .int .i64 p.s.lo, .int .i64 p.s.hi] 30), (d1_1, .cells #[.int .u64 (bi (wtC y u).t.v), .int .u64 (bi (wtC y u).t.m), .int .u64 ((wtC y u).u.lo), .int .u64 ((wtC y u).u.hi), .int .i64 ((wtC y u).s.lo), .int .i64 ((wtC y u).s.hi)] 30), (d1_0, .cells #[.int .u64 (bi (wtC x v).t.v), .int .u64 (bi (wtC x v).t.m), .int .u64 ((wtC x v).u.lo), .int .u64 ((wtC x v).u.hi), .int .i64 ((wtC x v).s.lo), .int .i64 ((wtC x v).s.hi)] 30)] z → K ⟨#[.int .i64 op, .bool wide, u2, u3, u4, u5, u6, u7, .pointer (some ⟨d1_0, 0, none⟩), .pointer (some ⟨d1_1, 0, none⟩), u10, u11, u12, .bool (Wd.jumpV op wide (bi v) (bi u)), u14, .pointer (some ⟨d5_10, 0, none⟩), .pointer (some ⟨d5_11, 0, none⟩), .bool true, u18, u19, u20, u21, u22, u23, u24, u25, u26, u27, u28, u29, u30, u31, u32, u33, u34, t35, t36, t37, t38, t39, t40, t41, t42, t43, t44, u45, u46, u47, u48, u49, u50, u51, u52, u53, u54, u55, u56, u57, u58, u59, u60, u61, u62, u63, u64, u65, u66, u67, u68, u69, u70, u71, u72, u73, u74, u75, u76, u77, u78, u79, u80, u81, u82, u83, u84, u85, u86, u87, u88, u89, u90, u91, u92, u93, u94, u95, u96, u97, u98, u99, u100, u101, u102, u103, u104, u105, u106, u107, u108, u109, u110, u111, u112, u113, u114, u115, u116, u117, u118, u119, u120, u121, u122, u123, u124, u125, u126, u127, u128, u129, u130, u131, u132, u133, u134, u135, u136, u137, u138, u139, u140, u141, u142, u143, u144, u145], []⟩ z) (wy : World) (M : Gw.Mem w0 [(d1_1, .cells #[.int .u64 (bi (wtC y u).t.v), .int .u64 (bi (wtC y u).t.m), .int .u64 ((wtC y u).u.lo), .int .u64 ((wtC y u).u.hi), .int .i64 ((wtC y u).s.lo), .int .i64 ((wtC y u).s.hi)] 30), (d1_0, .cells #[.int .u64 (bi (wtC x v).t.v), .int .u64 (bi (wtC x v).t.m), .int .u64 ((wtC x v).u.lo), .int .u64 ((wtC x v).u.hi), .int .i64 ((wtC x v).s.lo), .int .i64 ((wtC x v).s.hi)] 30)] wy) :
    brs_N_r4C.wp Tryz.prog (Exit.then K Q0) ⟨#[.int .i64 op, .bool wide, u2, u3, u4, u5, u6, u7, .pointer (some ⟨d1_0, 0, none⟩), .pointer (some ⟨d1_1, 0, none⟩), u10, u11, u12, .bool (Wd.jumpV op wide (bi v) (bi u)), u14, u15, u16, u17, u18, u19, u20, u21, u22, u23, u24, u25, u26, u27, u28, u29, u30, u31, u32, u33, u34, u35, u36, u37, u38, u39, u40, u41, u42, u43, u44, u45, u46, u47, u48, u49, u50, u51, u52, u53, u54, u55, u56, u57, u58, u59, u60, u61, u62, u63, u64, u65, u66, u67, u68, u69, u70, u71, u72, u73, u74, u75, u76, u77, u78, u79, u80, u81, u82, u83, u84, u85, u86, u87, u88, u89, u90, u91, u92, u93, u94, u95, u96, u97, u98, u99, u100, u101, u102, u103, u104, u105, u106, u107, u108, u109, u110, u111, u112, u113, u114, u115, u116, u117, u118, u119, u120, u121, u122, u123, u124, u125, u126, u127, u128, u129, u130, u131, u132, u133, u134, u135, u136, u137, u138, u139, u140, u141, u142, u143, u144, u145], []⟩ wy := by
  have HK := Lib.hid hK
  clear hK
  conv => arg 2; whnf
  refine Gw.line _ M ?_
  clear M wy
  refine Gw.sw (.int .i64 op) ?_
  try simp only [Act.put, ptA, ptB, ptC]
  refine Gw.sw (.bool wide) ?_
  try simp only [Act.put, ptA, ptB, ptC]
  refine Gw.sw (.bool (Wd.jumpV op wide (bi v) (bi u))) ?_
  try simp only [Act.put, ptA, ptB, ptC]
  refine Gw.sq (.agg #[.int .u64 (bi (wtC x v).t.v), .int .u64 (bi (wtC x v).t.m), .int .u64 ((wtC x v).u.lo), .int .u64 ((wtC x v).u.hi), .int .i64 ((wtC x v).s.lo), .int .i64 ((wtC x v).s.hi)]) ?_ ?_
  · intro w M; have c := M.c6 1; go_simp
  try simp only [Act.put, ptA, ptB, ptC]
  refine Gw.sq (.agg #[.int .u64 (bi (wtC y u).t.v), .int .u64 (bi (wtC y u).t.m), .int .u64 ((wtC y u).u.lo), .int .u64 ((wtC y u).u.hi), .int .i64 ((wtC y u).s.lo), .int .i64 ((wtC y u).s.hi)]) ?_ ?_
  · intro w M; have c := M.c6 0; go_simp
  try simp only [Act.put, ptA, ptB, ptC]
  refine Gw.sk (.tuple #[.agg #[.int .u64 (bi p.t.v), .int .u64 (bi p.t.m), .int .u64 p.u.lo, .int .u64 p.u.hi, .int .i64 p.s.lo, .int .i64 p.s.hi], .agg #[.int .u64 (bi q.t.v), .int .u64 (bi q.t.m), .int .u64 q.u.lo, .int .u64 q.u.hi, .int .i64 q.s.lo, .int .i64 q.s.hi], .bool true]) 34 #[.int .i64 op, .bool wide, .bool (Wd.jumpV op wide (bi v) (bi u)), .agg #[.int .u64 (bi (wtC x v).t.v), .int .u64 (bi (wtC x v).t.m), .int .u64 ((wtC x v).u.lo), .int .u64 ((wtC x v).u.hi), .int .i64 ((wtC x v).s.lo), .int .i64 ((wtC x v).s.hi)], .agg #[.int .u64 (bi (wtC y u).t.v), .int .u64 (bi (wtC y u).t.m), .int .u64 ((wtC y u).u.lo), .int .u64 ((wtC y u).u.hi), .int .i64 ((wtC y u).s.lo), .int .i64 ((wtC y u).s.hi)]] (fun w M => br_so op wide (Wd.jumpV op wide (bi v) (bi u)) (wtC x v) (wtC y u) p q (wt_ok x v hx.1 hx.2).1 (wt_ok y u hy.1 hy.2).1 hb1 w) ?_
  try simp only [Act.put, ptA, ptB, ptC]
  refine Gw.sw (.tuple #[.agg #[.int .u64 (bi p.t.v), .int .u64 (bi p.t.m), .int .u64 p.u.lo, .int .u64 p.u.hi, .int .i64 p.s.lo, .int .i64 p.s.hi], .agg #[.int .u64 (bi q.t.v), .int .u64 (bi q.t.m), .int .u64 q.u.lo, .int .u64 q.u.hi, .int .i64 q.s.lo, .int .i64 q.s.hi], .bool true]) ?_
  try simp only [Act.put, ptA, ptB, ptC]
  refine Gw.sw (.agg #[.int .u64 (bi p.t.v), .int .u64 (bi p.t.m), .int .u64 p.u.lo, .int .u64 p.u.hi, .int .i64 p.s.lo, .int .i64 p.s.hi]) ?_
  try simp only [Act.put, ptA, ptB, ptC]
  refine Gw.sw (.agg #[.int .u64 (bi q.t.v), .int .u64 (bi q.t.m), .int .u64 q.u.lo, .int .u64 q.u.hi, .int .i64 q.s.lo, .int .i64 q.s.hi]) ?_
  try simp only [Act.put, ptA, ptB, ptC]
  refine Gw.sw (.bool true) ?_
  try simp only [Act.put, ptA, ptB, ptC]
  refine Gw.ss ?_
  intro w M K' hK
  go_simp
  have M1 := M.alloc (.cells #[.int .u64 0, .int .u64 0, .int .u64 0, .int .u64 0, .int .i64 0, .int .i64 0] 30)
  generalize w.heap.size = d5_10 at M1 ⊢
  refine hK.out _ _ _ M1 ?_
  clear hK K' M1 M w
  try simp only [Act.put, ptA, ptB, ptC]
  refine Gw.ss ?_
  intro w M K' hK
  go_simp
  have M1 := M.alloc (.cells #[.int .u64 0, .int .u64 0, .int .u64 0, .int .u64 0, .int .i64 0, .int .i64 0] 30)
  generalize w.heap.size = d5_11 at M1 ⊢
  refine hK.out _ _ _ M1 ?_
  clear hK K' M1 M w
  try simp only [Act.put, ptA, ptB, ptC]
  refine Gw.ss ?_
  intro w M K' hK
  have c := M.c6 1
  have f := M.f6 1
  go_simp
  refine hK.out _ _ _ ((((((M.set 1 0 _).set 1 1 _).set 1 2 _).set 1 3 _).set 1 4 _).set 1 5 _) ?_
  clear hK K' c f M w
  refine Gw.ss ?_
  intro w M K' hK
  have c := M.c6 0
  have f := M.f6 0
  go_simp
  refine hK.out _ _ _ ((((((M.set 0 0 _).set 0 1 _).set 0 2 _).set 0 3 _).set 0 4 _).set 0 5 _) ?_
  clear hK K' c f M w
  refine Gw.sw (.bool true) ?_
  try simp only [Act.put, ptA, ptB, ptC]
  exact fun z M => HK.out _ _ _ _ _ _ _ _ _ _ _ _ z M
noncomputable def brs_N_r5C : Code := (Tryz.f8.body.bind (Rg.findR 5)).getD .skip
set_option maxHeartbeats 4000000 in
theorem brs_N_r5 (op : Int) (wide : Bool) (x y : C) (v u : BitVec 64) (hx : inX x) (hy : inX y) (p q : C) (hb1 : branchC op wide (Wd.jumpV op wide (bi v) (bi u)) (wtC x v) (wtC y u) = some (p, q)) (mp : mayC p) (mq : mayC q) (ip : inC p v = true) (iq : inC q u = true) (wp : withC p (wtC x v) = true) (wq : withC q (wtC y u) = true) {w0 : World}  {K : Act → World → Prop} {Q0 : Exit → Act → World → Prop} {d5_11 d5_10 d1_1 d1_0 : Nat} {u0 u1 u2 u3 u6 u7 u10 u11 u12 u13 u14 u18 u19 u20 u21 u22 u23 u24 u25 u26 u27 u28 u29 u30 u31 u32 u33 u34 u35 u36 u37 u38 u39 u40 u41 u42 u43 u44 u45 u46 u47 u48 u49 u50 u51 u52 u53 u54 u55 u56 u57 u58 u59 u60 u61 u62 u63 u64 u65 u66 u67 u68 u69 u70 u71 u72 u73 u74 u75 u76 u77 u78 u79 u80 u81 u82 u83 u84 u85 u86 u87 u88 u89 u90 u91 u92 u93 u94 u95 u96 u97 u98 u99 u100 u101 u102 u103 u104 u105 u106 u107 u108 u109 u110 u111 u112 u113 u114 u115 u116 u117 u118 u119 u120 u121 u122 u123 u124 u125 u126 u127 u128 u129 u130 u131 u132 u133 u134 u135 u136 u137 u138 u139 u140 u141 u142 u143 u144 u145 : Value}
    (hQ : ∀ c a d v w, Q0 (.panic c) (Act.put a d v) w → Q0 (.panic c) a w)
    (hK : ∀ (t45 t46 t47 t48 t49 t50 t51 t52 t53 t54 t55 t56 t57 t58 t59 t60 t61 t62 t63 t64 t65 t66 t67 t68 t69 t70 t71 t72 t73 t74 t75 t76 t77 t78 t79 : Value) (z : World), Gw.Mem w0 [(d5_11, .cells #[.int .u64 (bi q.t.v), .int .u64 (bi q.t.m), .int .u64 q.u.lo, .int .u64 q.u.hi, .int .i64 q.s.lo, .int .i64 q.s.hi] 30), (d5_10, .cells #[.int .u64 (bi p.t.v), .int .u64 (bi p.t.m), .int .u64 p.u.lo, .int .u64 p.u.hi, .int .i64 p.s.lo, .int .i64 p.s.hi] 30), (d1_1, .cells #[.int .u64 (bi (wtC y u).t.v), .int .u64 (bi (wtC y u).t.m), .int .u64 ((wtC y u).u.lo), .int .u64 ((wtC y u).u.hi), .int .i64 ((wtC y u).s.lo), .int .i64 ((wtC y u).s.hi)] 30), (d1_0, .cells #[.int .u64 (bi (wtC x v).t.v), .int .u64 (bi (wtC x v).t.m), .int .u64 ((wtC x v).u.lo), .int .u64 ((wtC x v).u.hi), .int .i64 ((wtC x v).s.lo), .int .i64 ((wtC x v).s.hi)] 30)] z → K ⟨#[u0, u1, u2, u3, .int .u64 (bi v), .int .u64 (bi u), u6, u7, .pointer (some ⟨d1_0, 0, none⟩), .pointer (some ⟨d1_1, 0, none⟩), u10, u11, u12, u13, u14, .pointer (some ⟨d5_10, 0, none⟩), .pointer (some ⟨d5_11, 0, none⟩), .bool true, u18, u19, u20, u21, u22, u23, u24, u25, u26, u27, u28, u29, u30, u31, u32, u33, u34, u35, u36, u37, u38, u39, u40, u41, u42, u43, u44, t45, t46, t47, t48, t49, t50, t51, t52, t53, t54, t55, t56, t57, t58, t59, t60, t61, t62, t63, t64, t65, t66, t67, t68, t69, t70, t71, t72, t73, t74, t75, t76, t77, t78, t79, .bool false, u81, u82, u83, u84, u85, u86, u87, u88, u89, u90, u91, u92, u93, u94, u95, u96, u97, u98, u99, u100, u101, u102, u103, u104, u105, u106, u107, u108, u109, u110, u111, u112, u113, u114, u115, u116, u117, u118, u119, u120, u121, u122, u123, u124, u125, u126, u127, u128, u129, u130, u131, u132, u133, u134, u135, u136, u137, u138, u139, u140, u141, u142, u143, u144, u145], []⟩ z) (wy : World) (M : Gw.Mem w0 [(d5_11, .cells #[.int .u64 (bi q.t.v), .int .u64 (bi q.t.m), .int .u64 q.u.lo, .int .u64 q.u.hi, .int .i64 q.s.lo, .int .i64 q.s.hi] 30), (d5_10, .cells #[.int .u64 (bi p.t.v), .int .u64 (bi p.t.m), .int .u64 p.u.lo, .int .u64 p.u.hi, .int .i64 p.s.lo, .int .i64 p.s.hi] 30), (d1_1, .cells #[.int .u64 (bi (wtC y u).t.v), .int .u64 (bi (wtC y u).t.m), .int .u64 ((wtC y u).u.lo), .int .u64 ((wtC y u).u.hi), .int .i64 ((wtC y u).s.lo), .int .i64 ((wtC y u).s.hi)] 30), (d1_0, .cells #[.int .u64 (bi (wtC x v).t.v), .int .u64 (bi (wtC x v).t.m), .int .u64 ((wtC x v).u.lo), .int .u64 ((wtC x v).u.hi), .int .i64 ((wtC x v).s.lo), .int .i64 ((wtC x v).s.hi)] 30)] wy) :
    brs_N_r5C.wp Tryz.prog (Exit.then K Q0) ⟨#[u0, u1, u2, u3, .int .u64 (bi v), .int .u64 (bi u), u6, u7, .pointer (some ⟨d1_0, 0, none⟩), .pointer (some ⟨d1_1, 0, none⟩), u10, u11, u12, u13, u14, .pointer (some ⟨d5_10, 0, none⟩), .pointer (some ⟨d5_11, 0, none⟩), .bool true, u18, u19, u20, u21, u22, u23, u24, u25, u26, u27, u28, u29, u30, u31, u32, u33, u34, u35, u36, u37, u38, u39, u40, u41, u42, u43, u44, u45, u46, u47, u48, u49, u50, u51, u52, u53, u54, u55, u56, u57, u58, u59, u60, u61, u62, u63, u64, u65, u66, u67, u68, u69, u70, u71, u72, u73, u74, u75, u76, u77, u78, u79, u80, u81, u82, u83, u84, u85, u86, u87, u88, u89, u90, u91, u92, u93, u94, u95, u96, u97, u98, u99, u100, u101, u102, u103, u104, u105, u106, u107, u108, u109, u110, u111, u112, u113, u114, u115, u116, u117, u118, u119, u120, u121, u122, u123, u124, u125, u126, u127, u128, u129, u130, u131, u132, u133, u134, u135, u136, u137, u138, u139, u140, u141, u142, u143, u144, u145], []⟩ wy := by
  have HK := Lib.hid hK
  clear hK
  conv => arg 2; whnf
  refine Gw.line _ M ?_
  clear M wy
  refine Gw.sw (.bool true) ?_
  try simp only [Act.put, ptA, ptB, ptC]
  refine Gw.sw (.bool false) ?_
  try simp only [Act.put, ptA, ptB, ptC]
  refine Gw.sw (.bool false) ?_
  try simp only [Act.put, ptA, ptB, ptC]
  refine Gw.sq (.agg #[.int .u64 (bi p.t.v), .int .u64 (bi p.t.m), .int .u64 p.u.lo, .int .u64 p.u.hi, .int .i64 p.s.lo, .int .i64 p.s.hi]) ?_ ?_
  · intro w M; have c := M.c6 1; go_simp
  try simp only [Act.put, ptA, ptB, ptC]
  refine Gw.sk (.bool true) 38 #[.agg #[.int .u64 (bi p.t.v), .int .u64 (bi p.t.m), .int .u64 p.u.lo, .int .u64 p.u.hi, .int .i64 p.s.lo, .int .i64 p.s.hi]] (fun w M => may_t p mp w) ?_
  try simp only [Act.put, ptA, ptB, ptC]
  refine Gw.sw (.bool false) ?_
  try simp only [Act.put, ptA, ptB, ptC]
  refine Gw.sw (.bool false) ?_
  try simp only [Act.put, ptA, ptB, ptC]
  refine Gw.sw (.bool false) ?_
  try simp only [Act.put, ptA, ptB, ptC]
  refine Gw.sq (.agg #[.int .u64 (bi q.t.v), .int .u64 (bi q.t.m), .int .u64 q.u.lo, .int .u64 q.u.hi, .int .i64 q.s.lo, .int .i64 q.s.hi]) ?_ ?_
  · intro w M; have c := M.c6 0; go_simp
  try simp only [Act.put, ptA, ptB, ptC]
  refine Gw.sk (.bool true) 38 #[.agg #[.int .u64 (bi q.t.v), .int .u64 (bi q.t.m), .int .u64 q.u.lo, .int .u64 q.u.hi, .int .i64 q.s.lo, .int .i64 q.s.hi]] (fun w M => may_t q mq w) ?_
  try simp only [Act.put, ptA, ptB, ptC]
  refine Gw.sw (.bool false) ?_
  try simp only [Act.put, ptA, ptB, ptC]
  refine Gw.sw (.bool false) ?_
  try simp only [Act.put, ptA, ptB, ptC]
  refine Gw.sw (.bool false) ?_
  try simp only [Act.put, ptA, ptB, ptC]
  refine Gw.sq (.agg #[.int .u64 (bi p.t.v), .int .u64 (bi p.t.m), .int .u64 p.u.lo, .int .u64 p.u.hi, .int .i64 p.s.lo, .int .i64 p.s.hi]) ?_ ?_
  · intro w M; have c := M.c6 1; go_simp
  try simp only [Act.put, ptA, ptB, ptC]
  refine Gw.sw (.int .u64 (bi v)) ?_
  try simp only [Act.put, ptA, ptB, ptC]
  refine Gw.sk (.bool true) 23 #[.agg #[.int .u64 (bi p.t.v), .int .u64 (bi p.t.m), .int .u64 p.u.lo, .int .u64 p.u.hi, .int .i64 p.s.lo, .int .i64 p.s.hi], .int .u64 (bi v)] (fun w M => in_t p v true ip w) ?_
  try simp only [Act.put, ptA, ptB, ptC]
  refine Gw.sw (.bool false) ?_
  try simp only [Act.put, ptA, ptB, ptC]
  refine Gw.sw (.bool false) ?_
  try simp only [Act.put, ptA, ptB, ptC]
  refine Gw.sw (.bool false) ?_
  try simp only [Act.put, ptA, ptB, ptC]
  refine Gw.sq (.agg #[.int .u64 (bi q.t.v), .int .u64 (bi q.t.m), .int .u64 q.u.lo, .int .u64 q.u.hi, .int .i64 q.s.lo, .int .i64 q.s.hi]) ?_ ?_
  · intro w M; have c := M.c6 0; go_simp
  try simp only [Act.put, ptA, ptB, ptC]
  refine Gw.sw (.int .u64 (bi u)) ?_
  try simp only [Act.put, ptA, ptB, ptC]
  refine Gw.sk (.bool true) 23 #[.agg #[.int .u64 (bi q.t.v), .int .u64 (bi q.t.m), .int .u64 q.u.lo, .int .u64 q.u.hi, .int .i64 q.s.lo, .int .i64 q.s.hi], .int .u64 (bi u)] (fun w M => in_t q u true iq w) ?_
  try simp only [Act.put, ptA, ptB, ptC]
  refine Gw.sw (.bool false) ?_
  try simp only [Act.put, ptA, ptB, ptC]
  refine Gw.sw (.bool false) ?_
  try simp only [Act.put, ptA, ptB, ptC]
  refine Gw.sw (.bool false) ?_
  try simp only [Act.put, ptA, ptB, ptC]
  refine Gw.sq (.agg #[.int .u64 (bi p.t.v), .int .u64 (bi p.t.m), .int .u64 p.u.lo, .int .u64 p.u.hi, .int .i64 p.s.lo, .int .i64 p.s.hi]) ?_ ?_
  · intro w M; have c := M.c6 1; go_simp
  try simp only [Act.put, ptA, ptB, ptC]
  refine Gw.sq (.agg #[.int .u64 (bi (wtC x v).t.v), .int .u64 (bi (wtC x v).t.m), .int .u64 ((wtC x v).u.lo), .int .u64 ((wtC x v).u.hi), .int .i64 ((wtC x v).s.lo), .int .i64 ((wtC x v).s.hi)]) ?_ ?_
  · intro w M; have c := M.c6 3; go_simp
  try simp only [Act.put, ptA, ptB, ptC]
  refine Gw.sk (.bool true) 25 #[.agg #[.int .u64 (bi p.t.v), .int .u64 (bi p.t.m), .int .u64 p.u.lo, .int .u64 p.u.hi, .int .i64 p.s.lo, .int .i64 p.s.hi], .agg #[.int .u64 (bi (wtC x v).t.v), .int .u64 (bi (wtC x v).t.m), .int .u64 ((wtC x v).u.lo), .int .u64 ((wtC x v).u.hi), .int .i64 ((wtC x v).s.lo), .int .i64 ((wtC x v).s.hi)]] (fun w M => with_t p (wtC x v) true wp w) ?_
  try simp only [Act.put, ptA, ptB, ptC]
  refine Gw.sw (.bool false) ?_
  try simp only [Act.put, ptA, ptB, ptC]
  refine Gw.sw (.bool false) ?_
  try simp only [Act.put, ptA, ptB, ptC]
  refine Gw.sw (.bool false) ?_
  try simp only [Act.put, ptA, ptB, ptC]
  refine Gw.sq (.agg #[.int .u64 (bi q.t.v), .int .u64 (bi q.t.m), .int .u64 q.u.lo, .int .u64 q.u.hi, .int .i64 q.s.lo, .int .i64 q.s.hi]) ?_ ?_
  · intro w M; have c := M.c6 0; go_simp
  try simp only [Act.put, ptA, ptB, ptC]
  refine Gw.sq (.agg #[.int .u64 (bi (wtC y u).t.v), .int .u64 (bi (wtC y u).t.m), .int .u64 ((wtC y u).u.lo), .int .u64 ((wtC y u).u.hi), .int .i64 ((wtC y u).s.lo), .int .i64 ((wtC y u).s.hi)]) ?_ ?_
  · intro w M; have c := M.c6 2; go_simp
  try simp only [Act.put, ptA, ptB, ptC]
  refine Gw.sk (.bool true) 25 #[.agg #[.int .u64 (bi q.t.v), .int .u64 (bi q.t.m), .int .u64 q.u.lo, .int .u64 q.u.hi, .int .i64 q.s.lo, .int .i64 q.s.hi], .agg #[.int .u64 (bi (wtC y u).t.v), .int .u64 (bi (wtC y u).t.m), .int .u64 ((wtC y u).u.lo), .int .u64 ((wtC y u).u.hi), .int .i64 ((wtC y u).s.lo), .int .i64 ((wtC y u).s.hi)]] (fun w M => with_t q (wtC y u) true wq w) ?_
  try simp only [Act.put, ptA, ptB, ptC]
  refine Gw.sw (.bool false) ?_
  try simp only [Act.put, ptA, ptB, ptC]
  refine Gw.sw (.bool false) ?_
  try simp only [Act.put, ptA, ptB, ptC]
  exact fun z M => HK.out _ _ _ _ _ _ _ _ _ _ _ _ _ _ _ _ _ _ _ _ _ _ _ _ _ _ _ _ _ _ _ _ _ _ _ z M
noncomputable def brs_N_r7C : Code := (Tryz.f8.body.bind (Rg.findR 7)).getD .skip
set_option maxHeartbeats 4000000 in
theorem brs_N_r7 (op : Int) (wide : Bool) (x y : C) (v u : BitVec 64) (hx : inX x) (hy : inX y) (p q : C) (hb1 : branchC op wide (Wd.jumpV op wide (bi v) (bi u)) (wtC x v) (wtC y u) = some (p, q)) (mp : mayC p) (mq : mayC q) (ip : inC p v = true) (iq : inC q u = true) (wp : withC p (wtC x v) = true) (wq : withC q (wtC y u) = true) (hb2 : branchC op wide (!(Wd.jumpV op wide (bi v) (bi u))) (wtC x v) (wtC y u) = none) {w0 : World}  {K : Act → World → Prop} {Q0 : Exit → Act → World → Prop} {d5_11 d5_10 d1_1 d1_0 : Nat} {u2 u3 u4 u5 u6 u7 u10 u11 u12 u14 u15 u16 u17 u18 u19 u20 u21 u22 u23 u24 u25 u26 u27 u28 u29 u30 u31 u32 u33 u34 u35 u36 u37 u38 u39 u40 u41 u42 u43 u44 u45 u46 u47 u48 u49 u50 u51 u52 u53 u54 u55 u56 u57 u58 u59 u60 u61 u62 u63 u64 u65 u66 u67 u68 u69 u70 u71 u72 u73 u74 u75 u76 u77 u78 u79 u80 u81 u82 u83 u84 u85 u86 u87 u88 u89 u90 u91 u92 u93 u94 u95 u96 u97 u98 u99 u100 u101 u102 u103 u104 u105 u106 u107 u108 u109 u110 u111 u112 u113 u114 u115 u116 u117 u118 u119 u120 u121 u122 u123 u124 u125 u126 u127 u128 u129 u130 u131 u132 u133 u134 u135 u136 u137 u138 u139 u140 u141 u142 u143 u144 u145 : Value}
    (hQ : ∀ c a d v w, Q0 (.panic c) (Act.put a d v) w → Q0 (.panic c) a w)
    (hK : ∀ (t81 t82 t83 t84 t85 t86 t87 t88 t89 t90 t91 : Value) (d7_11 d7_12 : Nat) (z : World), Gw.Mem w0 [(d7_12, .cells #[.int .u64 0, .int .u64 0, .int .u64 0, .int .u64 0, .int .i64 0, .int .i64 0] 30), (d7_11, .cells #[.int .u64 0, .int .u64 0, .int .u64 0, .int .u64 0, .int .i64 0, .int .i64 0] 30), (d5_11, .cells #[.int .u64 (bi q.t.v), .int .u64 (bi q.t.m), .int .u64 q.u.lo, .int .u64 q.u.hi, .int .i64 q.s.lo, .int .i64 q.s.hi] 30), (d5_10, .cells #[.int .u64 (bi p.t.v), .int .u64 (bi p.t.m), .int .u64 p.u.lo, .int .u64 p.u.hi, .int .i64 p.s.lo, .int .i64 p.s.hi] 30), (d1_1, .cells #[.int .u64 (bi (wtC y u).t.v), .int .u64 (bi (wtC y u).t.m), .int .u64 ((wtC y u).u.lo), .int .u64 ((wtC y u).u.hi), .int .i64 ((wtC y u).s.lo), .int .i64 ((wtC y u).s.hi)] 30), (d1_0, .cells #[.int .u64 (bi (wtC x v).t.v), .int .u64 (bi (wtC x v).t.m), .int .u64 ((wtC x v).u.lo), .int .u64 ((wtC x v).u.hi), .int .i64 ((wtC x v).s.lo), .int .i64 ((wtC x v).s.hi)] 30)] z → K ⟨#[.int .i64 op, .bool wide, u2, u3, u4, u5, u6, u7, .pointer (some ⟨d1_0, 0, none⟩), .pointer (some ⟨d1_1, 0, none⟩), u10, u11, u12, .bool (Wd.jumpV op wide (bi v) (bi u)), u14, u15, u16, u17, .pointer (some ⟨d7_11, 0, none⟩), .pointer (some ⟨d7_12, 0, none⟩), .bool false, u21, u22, u23, u24, u25, u26, u27, u28, u29, u30, u31, u32, u33, u34, u35, u36, u37, u38, u39, u40, u41, u42, u43, u44, u45, u46, u47, u48, u49, u50, u51, u52, u53, u54, u55, u56, u57, u58, u59, u60, u61, u62, u63, u64, u65, u66, u67, u68, u69, u70, u71, u72, u73, u74, u75, u76, u77, u78, u79, u80, t81, t82, t83, t84, t85, t86, t87, t88, t89, t90, t91, u92, u93, u94, u95, u96, u97, u98, u99, u100, u101, u102, u103, u104, u105, u106, u107, u108, u109, u110, u111, u112, u113, u114, u115, u116, u117, u118, u119, u120, u121, u122, u123, u124, u125, u126, u127, u128, u129, u130, u131, u132, u133, u134, u135, u136, u137, u138, u139, u140, u141, u142, u143, u144, u145], []⟩ z) (wy : World) (M : Gw.Mem w0 [(d5_11, .cells #[.int .u64 (bi q.t.v), .int .u64 (bi q.t.m), .int .u64 q.u.lo, .int .u64 q.u.hi, .int .i64 q.s.lo, .int .i64 q.s.hi] 30), (d5_10, .cells #[.int .u64 (bi p.t.v), .int .u64 (bi p.t.m), .int .u64 p.u.lo, .int .u64 p.u.hi, .int .i64 p.s.lo, .int .i64 p.s.hi] 30), (d1_1, .cells #[.int .u64 (bi (wtC y u).t.v), .int .u64 (bi (wtC y u).t.m), .int .u64 ((wtC y u).u.lo), .int .u64 ((wtC y u).u.hi), .int .i64 ((wtC y u).s.lo), .int .i64 ((wtC y u).s.hi)] 30), (d1_0, .cells #[.int .u64 (bi (wtC x v).t.v), .int .u64 (bi (wtC x v).t.m), .int .u64 ((wtC x v).u.lo), .int .u64 ((wtC x v).u.hi), .int .i64 ((wtC x v).s.lo), .int .i64 ((wtC x v).s.hi)] 30)] wy) :
    brs_N_r7C.wp Tryz.prog (Exit.then K Q0) ⟨#[.int .i64 op, .bool wide, u2, u3, u4, u5, u6, u7, .pointer (some ⟨d1_0, 0, none⟩), .pointer (some ⟨d1_1, 0, none⟩), u10, u11, u12, .bool (Wd.jumpV op wide (bi v) (bi u)), u14, u15, u16, u17, u18, u19, u20, u21, u22, u23, u24, u25, u26, u27, u28, u29, u30, u31, u32, u33, u34, u35, u36, u37, u38, u39, u40, u41, u42, u43, u44, u45, u46, u47, u48, u49, u50, u51, u52, u53, u54, u55, u56, u57, u58, u59, u60, u61, u62, u63, u64, u65, u66, u67, u68, u69, u70, u71, u72, u73, u74, u75, u76, u77, u78, u79, u80, u81, u82, u83, u84, u85, u86, u87, u88, u89, u90, u91, u92, u93, u94, u95, u96, u97, u98, u99, u100, u101, u102, u103, u104, u105, u106, u107, u108, u109, u110, u111, u112, u113, u114, u115, u116, u117, u118, u119, u120, u121, u122, u123, u124, u125, u126, u127, u128, u129, u130, u131, u132, u133, u134, u135, u136, u137, u138, u139, u140, u141, u142, u143, u144, u145], []⟩ wy := by
  have HK := Lib.hid hK
  clear hK
  conv => arg 2; whnf
  refine Gw.line _ M ?_
  clear M wy
  refine Gw.sw (.int .i64 op) ?_
  try simp only [Act.put, ptA, ptB, ptC]
  refine Gw.sw (.bool wide) ?_
  try simp only [Act.put, ptA, ptB, ptC]
  refine Gw.sw (.bool (Wd.jumpV op wide (bi v) (bi u))) ?_
  try simp only [Act.put, ptA, ptB, ptC]
  refine Gw.sw (.bool (!(Wd.jumpV op wide (bi v) (bi u)))) ?_
  try simp only [Act.put, ptA, ptB, ptC]
  refine Gw.sq (.agg #[.int .u64 (bi (wtC x v).t.v), .int .u64 (bi (wtC x v).t.m), .int .u64 ((wtC x v).u.lo), .int .u64 ((wtC x v).u.hi), .int .i64 ((wtC x v).s.lo), .int .i64 ((wtC x v).s.hi)]) ?_ ?_
  · intro w M; have c := M.c6 3; go_simp
  try simp only [Act.put, ptA, ptB, ptC]
  refine Gw.sq (.agg #[.int .u64 (bi (wtC y u).t.v), .int .u64 (bi (wtC y u).t.m), .int .u64 ((wtC y u).u.lo), .int .u64 ((wtC y u).u.hi), .int .i64 ((wtC y u).s.lo), .int .i64 ((wtC y u).s.hi)]) ?_ ?_
  · intro w M; have c := M.c6 2; go_simp
  try simp only [Act.put, ptA, ptB, ptC]
  refine Gw.sk (.tuple #[.agg #[.int .u64 0, .int .u64 0, .int .u64 0, .int .u64 0, .int .i64 0, .int .i64 0], .agg #[.int .u64 0, .int .u64 0, .int .u64 0, .int .u64 0, .int .i64 0, .int .i64 0], .bool false]) 34 #[.int .i64 op, .bool wide, .bool (!(Wd.jumpV op wide (bi v) (bi u))), .agg #[.int .u64 (bi (wtC x v).t.v), .int .u64 (bi (wtC x v).t.m), .int .u64 ((wtC x v).u.lo), .int .u64 ((wtC x v).u.hi), .int .i64 ((wtC x v).s.lo), .int .i64 ((wtC x v).s.hi)], .agg #[.int .u64 (bi (wtC y u).t.v), .int .u64 (bi (wtC y u).t.m), .int .u64 ((wtC y u).u.lo), .int .u64 ((wtC y u).u.hi), .int .i64 ((wtC y u).s.lo), .int .i64 ((wtC y u).s.hi)]] (fun w M => br_no op wide (!(Wd.jumpV op wide (bi v) (bi u))) (wtC x v) (wtC y u) (wt_ok x v hx.1 hx.2).1 (wt_ok y u hy.1 hy.2).1 hb2 w) ?_
  try simp only [Act.put, ptA, ptB, ptC]
  refine Gw.sw (.tuple #[.agg #[.int .u64 0, .int .u64 0, .int .u64 0, .int .u64 0, .int .i64 0, .int .i64 0], .agg #[.int .u64 0, .int .u64 0, .int .u64 0, .int .u64 0, .int .i64 0, .int .i64 0], .bool false]) ?_
  try simp only [Act.put, ptA, ptB, ptC]
  refine Gw.sw (.agg #[.int .u64 0, .int .u64 0, .int .u64 0, .int .u64 0, .int .i64 0, .int .i64 0]) ?_
  try simp only [Act.put, ptA, ptB, ptC]
  refine Gw.sw (.agg #[.int .u64 0, .int .u64 0, .int .u64 0, .int .u64 0, .int .i64 0, .int .i64 0]) ?_
  try simp only [Act.put, ptA, ptB, ptC]
  refine Gw.sw (.bool false) ?_
  try simp only [Act.put, ptA, ptB, ptC]
  refine Gw.ss ?_
  intro w M K' hK
  go_simp
  have M1 := M.alloc (.cells #[.int .u64 0, .int .u64 0, .int .u64 0, .int .u64 0, .int .i64 0, .int .i64 0] 30)
  generalize w.heap.size = d7_11 at M1 ⊢
  refine hK.out _ _ _ M1 ?_
  clear hK K' M1 M w
  try simp only [Act.put, ptA, ptB, ptC]
  refine Gw.ss ?_
  intro w M K' hK
  go_simp
  have M1 := M.alloc (.cells #[.int .u64 0, .int .u64 0, .int .u64 0, .int .u64 0, .int .i64 0, .int .i64 0] 30)
  generalize w.heap.size = d7_12 at M1 ⊢
  refine hK.out _ _ _ M1 ?_
  clear hK K' M1 M w
  try simp only [Act.put, ptA, ptB, ptC]
  refine Gw.ss ?_
  intro w M K' hK
  have c := M.c6 1
  have f := M.f6 1
  go_simp
  refine hK.out _ _ _ ((((((M.set 1 0 _).set 1 1 _).set 1 2 _).set 1 3 _).set 1 4 _).set 1 5 _) ?_
  clear hK K' c f M w
  refine Gw.ss ?_
  intro w M K' hK
  have c := M.c6 0
  have f := M.f6 0
  go_simp
  refine hK.out _ _ _ ((((((M.set 0 0 _).set 0 1 _).set 0 2 _).set 0 3 _).set 0 4 _).set 0 5 _) ?_
  clear hK K' c f M w
  refine Gw.sw (.bool false) ?_
  try simp only [Act.put, ptA, ptB, ptC]
  exact fun z M => HK.out _ _ _ _ _ _ _ _ _ _ _ _ _ z M
noncomputable def brs_N_r8C : Code := (Tryz.f8.body.bind (Rg.findR 8)).getD .skip
set_option maxHeartbeats 4000000 in
theorem brs_N_r8 (op : Int) (wide : Bool) (x y : C) (v u : BitVec 64) (hx : inX x) (hy : inX y) (p q : C) (hb1 : branchC op wide (Wd.jumpV op wide (bi v) (bi u)) (wtC x v) (wtC y u) = some (p, q)) (mp : mayC p) (mq : mayC q) (ip : inC p v = true) (iq : inC q u = true) (wp : withC p (wtC x v) = true) (wq : withC q (wtC y u) = true) (hb2 : branchC op wide (!(Wd.jumpV op wide (bi v) (bi u))) (wtC x v) (wtC y u) = none) {w0 : World}  {K : Act → World → Prop} {Q0 : Exit → Act → World → Prop} {d7_12 d7_11 d5_11 d5_10 d1_1 d1_0 : Nat} {u0 u1 u2 u3 u4 u5 u6 u7 u10 u11 u12 u13 u14 u15 u16 u17 u21 u22 u23 u24 u25 u26 u27 u28 u29 u30 u31 u32 u33 u34 u35 u36 u37 u38 u39 u40 u41 u42 u43 u44 u45 u46 u47 u48 u49 u50 u51 u52 u53 u54 u55 u56 u57 u58 u59 u60 u61 u62 u63 u64 u65 u66 u67 u68 u69 u70 u71 u72 u73 u74 u75 u76 u77 u78 u79 u80 u81 u82 u83 u84 u85 u86 u87 u88 u89 u90 u91 u92 u93 u94 u95 u96 u97 u98 u99 u100 u101 u102 u103 u104 u105 u106 u107 u108 u109 u110 u111 u112 u113 u114 u115 u116 u117 u118 u119 u120 u121 u122 u123 u124 u125 u126 u127 u128 u129 u130 u131 u132 u133 u134 u135 u136 u137 u138 u139 u140 u141 u142 u143 u144 u145 : Value}
    (hQ : ∀ c a d v w, Q0 (.panic c) (Act.put a d v) w → Q0 (.panic c) a w)
    (hK : ∀ (t92 t93 t94 t95 t96 t97 t98 t99 t100 t101 t102 t103 t104 t105 t106 t107 t108 t109 t110 t111 t112 t113 t114 t115 t116 t117 t118 t119 t120 t121 t122 t123 t124 t125 t126 t127 : Value) (z : World), Gw.Mem w0 [(d7_12, .cells #[.int .u64 0, .int .u64 0, .int .u64 0, .int .u64 0, .int .i64 0, .int .i64 0] 30), (d7_11, .cells #[.int .u64 0, .int .u64 0, .int .u64 0, .int .u64 0, .int .i64 0, .int .i64 0] 30), (d5_11, .cells #[.int .u64 (bi q.t.v), .int .u64 (bi q.t.m), .int .u64 q.u.lo, .int .u64 q.u.hi, .int .i64 q.s.lo, .int .i64 q.s.hi] 30), (d5_10, .cells #[.int .u64 (bi p.t.v), .int .u64 (bi p.t.m), .int .u64 p.u.lo, .int .u64 p.u.hi, .int .i64 p.s.lo, .int .i64 p.s.hi] 30), (d1_1, .cells #[.int .u64 (bi (wtC y u).t.v), .int .u64 (bi (wtC y u).t.m), .int .u64 ((wtC y u).u.lo), .int .u64 ((wtC y u).u.hi), .int .i64 ((wtC y u).s.lo), .int .i64 ((wtC y u).s.hi)] 30), (d1_0, .cells #[.int .u64 (bi (wtC x v).t.v), .int .u64 (bi (wtC x v).t.m), .int .u64 ((wtC x v).u.lo), .int .u64 ((wtC x v).u.hi), .int .i64 ((wtC x v).s.lo), .int .i64 ((wtC x v).s.hi)] 30)] z → K ⟨#[u0, u1, u2, u3, u4, u5, u6, u7, .pointer (some ⟨d1_0, 0, none⟩), .pointer (some ⟨d1_1, 0, none⟩), u10, u11, u12, u13, u14, u15, u16, u17, .pointer (some ⟨d7_11, 0, none⟩), .pointer (some ⟨d7_12, 0, none⟩), .bool false, u21, u22, u23, u24, u25, u26, u27, u28, u29, u30, u31, u32, u33, u34, u35, u36, u37, u38, u39, u40, u41, u42, u43, u44, u45, u46, u47, u48, u49, u50, u51, u52, u53, u54, u55, u56, u57, u58, u59, u60, u61, u62, u63, u64, u65, u66, u67, u68, u69, u70, u71, u72, u73, u74, u75, u76, u77, u78, u79, u80, u81, u82, u83, u84, u85, u86, u87, u88, u89, u90, u91, t92, t93, t94, t95, t96, t97, t98, t99, t100, t101, t102, t103, t104, t105, t106, t107, t108, t109, t110, t111, t112, t113, t114, t115, t116, t117, t118, t119, t120, t121, t122, t123, t124, t125, t126, t127, .bool false, u129, u130, u131, u132, u133, u134, u135, u136, u137, u138, u139, u140, u141, u142, u143, u144, u145], []⟩ z) (wy : World) (M : Gw.Mem w0 [(d7_12, .cells #[.int .u64 0, .int .u64 0, .int .u64 0, .int .u64 0, .int .i64 0, .int .i64 0] 30), (d7_11, .cells #[.int .u64 0, .int .u64 0, .int .u64 0, .int .u64 0, .int .i64 0, .int .i64 0] 30), (d5_11, .cells #[.int .u64 (bi q.t.v), .int .u64 (bi q.t.m), .int .u64 q.u.lo, .int .u64 q.u.hi, .int .i64 q.s.lo, .int .i64 q.s.hi] 30), (d5_10, .cells #[.int .u64 (bi p.t.v), .int .u64 (bi p.t.m), .int .u64 p.u.lo, .int .u64 p.u.hi, .int .i64 p.s.lo, .int .i64 p.s.hi] 30), (d1_1, .cells #[.int .u64 (bi (wtC y u).t.v), .int .u64 (bi (wtC y u).t.m), .int .u64 ((wtC y u).u.lo), .int .u64 ((wtC y u).u.hi), .int .i64 ((wtC y u).s.lo), .int .i64 ((wtC y u).s.hi)] 30), (d1_0, .cells #[.int .u64 (bi (wtC x v).t.v), .int .u64 (bi (wtC x v).t.m), .int .u64 ((wtC x v).u.lo), .int .u64 ((wtC x v).u.hi), .int .i64 ((wtC x v).s.lo), .int .i64 ((wtC x v).s.hi)] 30)] wy) :
    brs_N_r8C.wp Tryz.prog (Exit.then K Q0) ⟨#[u0, u1, u2, u3, u4, u5, u6, u7, .pointer (some ⟨d1_0, 0, none⟩), .pointer (some ⟨d1_1, 0, none⟩), u10, u11, u12, u13, u14, u15, u16, u17, .pointer (some ⟨d7_11, 0, none⟩), .pointer (some ⟨d7_12, 0, none⟩), .bool false, u21, u22, u23, u24, u25, u26, u27, u28, u29, u30, u31, u32, u33, u34, u35, u36, u37, u38, u39, u40, u41, u42, u43, u44, u45, u46, u47, u48, u49, u50, u51, u52, u53, u54, u55, u56, u57, u58, u59, u60, u61, u62, u63, u64, u65, u66, u67, u68, u69, u70, u71, u72, u73, u74, u75, u76, u77, u78, u79, u80, u81, u82, u83, u84, u85, u86, u87, u88, u89, u90, u91, u92, u93, u94, u95, u96, u97, u98, u99, u100, u101, u102, u103, u104, u105, u106, u107, u108, u109, u110, u111, u112, u113, u114, u115, u116, u117, u118, u119, u120, u121, u122, u123, u124, u125, u126, u127, u128, u129, u130, u131, u132, u133, u134, u135, u136, u137, u138, u139, u140, u141, u142, u143, u144, u145], []⟩ wy := by
  have HK := Lib.hid hK
  clear hK
  conv => arg 2; whnf
  refine Gw.line _ M ?_
  clear M wy
  refine Gw.sw (.bool false) ?_
  try simp only [Act.put, ptA, ptB, ptC]
  refine Gw.sw (.bool false) ?_
  try simp only [Act.put, ptA, ptB, ptC]
  refine Gw.su ?_
  try simp only [Act.put, ptA, ptB, ptC]
  refine Gw.su ?_
  try simp only [Act.put, ptA, ptB, ptC]
  refine Gw.su ?_
  try simp only [Act.put, ptA, ptB, ptC]
  refine Gw.su ?_
  try simp only [Act.put, ptA, ptB, ptC]
  refine Gw.su ?_
  try simp only [Act.put, ptA, ptB, ptC]
  refine Gw.su ?_
  try simp only [Act.put, ptA, ptB, ptC]
  refine Gw.su ?_
  try simp only [Act.put, ptA, ptB, ptC]
  refine Gw.su ?_
  try simp only [Act.put, ptA, ptB, ptC]
  refine Gw.su ?_
  try simp only [Act.put, ptA, ptB, ptC]
  refine Gw.su ?_
  try simp only [Act.put, ptA, ptB, ptC]
  refine Gw.su ?_
  try simp only [Act.put, ptA, ptB, ptC]
  refine Gw.su ?_
  try simp only [Act.put, ptA, ptB, ptC]
  refine Gw.su ?_
  try simp only [Act.put, ptA, ptB, ptC]
  refine Gw.su ?_
  try simp only [Act.put, ptA, ptB, ptC]
  refine Gw.su ?_
  try simp only [Act.put, ptA, ptB, ptC]
  refine Gw.su ?_
  try simp only [Act.put, ptA, ptB, ptC]
  refine Gw.su ?_
  try simp only [Act.put, ptA, ptB, ptC]
  refine Gw.su ?_
  try simp only [Act.put, ptA, ptB, ptC]
  refine Gw.su ?_
  try simp only [Act.put, ptA, ptB, ptC]
  refine Gw.su ?_
  try simp only [Act.put, ptA, ptB, ptC]
  refine Gw.sw (.bool false) ?_
  try simp only [Act.put, ptA, ptB, ptC]
  refine Gw.sw (.bool false) ?_
  try simp only [Act.put, ptA, ptB, ptC]
  refine Gw.sw (.bool false) ?_
  try simp only [Act.put, ptA, ptB, ptC]
  refine Gw.sw (.bool true) ?_
  try simp only [Act.put, ptA, ptB, ptC]
  refine Gw.sw (.bool true) ?_
  try simp only [Act.put, ptA, ptB, ptC]
  refine Gw.sq (.agg #[.int .u64 0, .int .u64 0, .int .u64 0, .int .u64 0, .int .i64 0, .int .i64 0]) ?_ ?_
  · intro w M; have c := M.c6 1; go_simp
  try simp only [Act.put, ptA, ptB, ptC]
  refine Gw.sw (.agg #[.int .u64 0, .int .u64 0, .int .u64 0, .int .u64 0, .int .i64 0, .int .i64 0]) ?_
  try simp only [Act.put, ptA, ptB, ptC]
  refine Gw.sw (.bool false) ?_ (hy := by intro w; have e1 := X_zero; have e2 := X_guard .neq; go_simp)
  try simp only [Act.put, ptA, ptB, ptC]
  refine Gw.sw (.bool false) ?_
  try simp only [Act.put, ptA, ptB, ptC]
  refine Gw.sq (.agg #[.int .u64 0, .int .u64 0, .int .u64 0, .int .u64 0, .int .i64 0, .int .i64 0]) ?_ ?_
  · intro w M; have c := M.c6 0; go_simp
  try simp only [Act.put, ptA, ptB, ptC]
  refine Gw.sw (.agg #[.int .u64 0, .int .u64 0, .int .u64 0, .int .u64 0, .int .i64 0, .int .i64 0]) ?_
  try simp only [Act.put, ptA, ptB, ptC]
  refine Gw.sw (.bool false) ?_ (hy := by intro w; have e1 := X_zero; have e2 := X_guard .neq; go_simp)
  try simp only [Act.put, ptA, ptB, ptC]
  refine Gw.sw (.bool false) ?_
  try simp only [Act.put, ptA, ptB, ptC]
  refine Gw.sw (.bool false) ?_
  try simp only [Act.put, ptA, ptB, ptC]
  refine Gw.sw (.bool false) ?_
  try simp only [Act.put, ptA, ptB, ptC]
  exact fun z M => HK.out _ _ _ _ _ _ _ _ _ _ _ _ _ _ _ _ _ _ _ _ _ _ _ _ _ _ _ _ _ _ _ _ _ _ _ _ z M
noncomputable def brs_N_r10C : Code := (Tryz.f8.body.bind (Rg.findR 10)).getD .skip
set_option maxHeartbeats 4000000 in
theorem brs_N_r10 (op : Int) (wide : Bool) (x y : C) (v u : BitVec 64) (hx : inX x) (hy : inX y) (p q : C) (hb1 : branchC op wide (Wd.jumpV op wide (bi v) (bi u)) (wtC x v) (wtC y u) = some (p, q)) (mp : mayC p) (mq : mayC q) (ip : inC p v = true) (iq : inC q u = true) (wp : withC p (wtC x v) = true) (wq : withC q (wtC y u) = true) (hb2 : branchC op wide (!(Wd.jumpV op wide (bi v) (bi u))) (wtC x v) (wtC y u) = none) (hj : Wd.jumpOk op = false) {w0 : World}  {K : Act → World → Prop} {Q0 : Exit → Act → World → Prop} {d7_12 d7_11 d5_11 d5_10 d1_1 d1_0 : Nat} {u0 u1 u2 u3 u4 u5 u6 u7 u10 u11 u12 u13 u17 u18 u19 u21 u22 u23 u24 u25 u26 u27 u28 u29 u30 u31 u32 u33 u34 u35 u36 u37 u38 u39 u40 u41 u42 u43 u44 u45 u46 u47 u48 u49 u50 u51 u52 u53 u54 u55 u56 u57 u58 u59 u60 u61 u62 u63 u64 u65 u66 u67 u68 u69 u70 u71 u72 u73 u74 u75 u76 u77 u78 u79 u80 u81 u82 u83 u84 u85 u86 u87 u88 u89 u90 u91 u92 u93 u94 u95 u96 u97 u98 u99 u100 u101 u102 u103 u104 u105 u106 u107 u108 u109 u110 u111 u112 u113 u114 u115 u116 u117 u118 u119 u120 u121 u122 u123 u124 u125 u126 u127 u128 u129 u130 u131 u132 u133 u134 u135 u136 u137 u138 u139 u140 u141 u142 u143 u144 u145 : Value}
    (hQ : ∀ c a d v w, Q0 (.panic c) (Act.put a d v) w → Q0 (.panic c) a w)
    (hK : ∀ (t129 t130 t131 t132 t133 t134 t135 t136 t137 t138 t139 t140 t141 t142 t143 t144 t145 : Value) (z : World), Gw.Mem w0 [(d7_12, .cells #[.int .u64 0, .int .u64 0, .int .u64 0, .int .u64 0, .int .i64 0, .int .i64 0] 30), (d7_11, .cells #[.int .u64 0, .int .u64 0, .int .u64 0, .int .u64 0, .int .i64 0, .int .i64 0] 30), (d5_11, .cells #[.int .u64 (bi q.t.v), .int .u64 (bi q.t.m), .int .u64 q.u.lo, .int .u64 q.u.hi, .int .i64 q.s.lo, .int .i64 q.s.hi] 30), (d5_10, .cells #[.int .u64 (bi p.t.v), .int .u64 (bi p.t.m), .int .u64 p.u.lo, .int .u64 p.u.hi, .int .i64 p.s.lo, .int .i64 p.s.hi] 30), (d1_1, .cells #[.int .u64 (bi (wtC y u).t.v), .int .u64 (bi (wtC y u).t.m), .int .u64 ((wtC y u).u.lo), .int .u64 ((wtC y u).u.hi), .int .i64 ((wtC y u).s.lo), .int .i64 ((wtC y u).s.hi)] 30), (d1_0, .cells #[.int .u64 (bi (wtC x v).t.v), .int .u64 (bi (wtC x v).t.m), .int .u64 ((wtC x v).u.lo), .int .u64 ((wtC x v).u.hi), .int .i64 ((wtC x v).s.lo), .int .i64 ((wtC x v).s.hi)] 30)] z → K ⟨#[u0, u1, u2, u3, u4, u5, u6, u7, .pointer (some ⟨d1_0, 0, none⟩), .pointer (some ⟨d1_1, 0, none⟩), u10, u11, .bool false, u13, .bool false, .pointer (some ⟨d5_10, 0, none⟩), .pointer (some ⟨d5_11, 0, none⟩), u17, u18, u19, .bool false, u21, u22, u23, u24, u25, u26, u27, u28, u29, u30, u31, u32, u33, u34, u35, u36, u37, u38, u39, u40, u41, u42, u43, u44, u45, u46, u47, u48, u49, u50, u51, u52, u53, u54, u55, u56, u57, u58, u59, u60, u61, u62, u63, u64, u65, u66, u67, u68, u69, u70, u71, u72, u73, u74, u75, u76, u77, u78, u79, u80, u81, u82, u83, u84, u85, u86, u87, u88, u89, u90, u91, u92, u93, u94, u95, u96, u97, u98, u99, u100, u101, u102, u103, u104, u105, u106, u107, u108, u109, u110, u111, u112, u113, u114, u115, u116, u117, u118, u119, u120, u121, u122, u123, u124, u125, u126, u127, u128, t129, t130, t131, t132, t133, t134, t135, t136, t137, t138, t139, t140, t141, t142, t143, t144, t145], []⟩ z) (wy : World) (M : Gw.Mem w0 [(d7_12, .cells #[.int .u64 0, .int .u64 0, .int .u64 0, .int .u64 0, .int .i64 0, .int .i64 0] 30), (d7_11, .cells #[.int .u64 0, .int .u64 0, .int .u64 0, .int .u64 0, .int .i64 0, .int .i64 0] 30), (d5_11, .cells #[.int .u64 (bi q.t.v), .int .u64 (bi q.t.m), .int .u64 q.u.lo, .int .u64 q.u.hi, .int .i64 q.s.lo, .int .i64 q.s.hi] 30), (d5_10, .cells #[.int .u64 (bi p.t.v), .int .u64 (bi p.t.m), .int .u64 p.u.lo, .int .u64 p.u.hi, .int .i64 p.s.lo, .int .i64 p.s.hi] 30), (d1_1, .cells #[.int .u64 (bi (wtC y u).t.v), .int .u64 (bi (wtC y u).t.m), .int .u64 ((wtC y u).u.lo), .int .u64 ((wtC y u).u.hi), .int .i64 ((wtC y u).s.lo), .int .i64 ((wtC y u).s.hi)] 30), (d1_0, .cells #[.int .u64 (bi (wtC x v).t.v), .int .u64 (bi (wtC x v).t.m), .int .u64 ((wtC x v).u.lo), .int .u64 ((wtC x v).u.hi), .int .i64 ((wtC x v).s.lo), .int .i64 ((wtC x v).s.hi)] 30)] wy) :
    brs_N_r10C.wp Tryz.prog (Exit.then K Q0) ⟨#[u0, u1, u2, u3, u4, u5, u6, u7, .pointer (some ⟨d1_0, 0, none⟩), .pointer (some ⟨d1_1, 0, none⟩), u10, u11, u12, u13, .bool false, .pointer (some ⟨d5_10, 0, none⟩), .pointer (some ⟨d5_11, 0, none⟩), u17, u18, u19, .bool false, u21, u22, u23, u24, u25, u26, u27, u28, u29, u30, u31, u32, u33, u34, u35, u36, u37, u38, u39, u40, u41, u42, u43, u44, u45, u46, u47, u48, u49, u50, u51, u52, u53, u54, u55, u56, u57, u58, u59, u60, u61, u62, u63, u64, u65, u66, u67, u68, u69, u70, u71, u72, u73, u74, u75, u76, u77, u78, u79, u80, u81, u82, u83, u84, u85, u86, u87, u88, u89, u90, u91, u92, u93, u94, u95, u96, u97, u98, u99, u100, u101, u102, u103, u104, u105, u106, u107, u108, u109, u110, u111, u112, u113, u114, u115, u116, u117, u118, u119, u120, u121, u122, u123, u124, u125, u126, u127, u128, u129, u130, u131, u132, u133, u134, u135, u136, u137, u138, u139, u140, u141, u142, u143, u144, u145], []⟩ wy := by
  have HK := Lib.hid hK
  clear hK
  conv => arg 2; whnf
  refine Gw.line _ M ?_
  clear M wy
  refine Gw.sw (.bool false) ?_
  try simp only [Act.put, ptA, ptB, ptC]
  refine Gw.sw (.bool false) ?_
  try simp only [Act.put, ptA, ptB, ptC]
  refine Gw.sw (.bool false) ?_
  try simp only [Act.put, ptA, ptB, ptC]
  refine Gw.sw (.bool false) ?_
  try simp only [Act.put, ptA, ptB, ptC]
  refine Gw.su ?_
  try simp only [Act.put, ptA, ptB, ptC]
  refine Gw.su ?_
  try simp only [Act.put, ptA, ptB, ptC]
  refine Gw.su ?_
  try simp only [Act.put, ptA, ptB, ptC]
  refine Gw.sw (.bool false) ?_
  try simp only [Act.put, ptA, ptB, ptC]
  refine Gw.sw (.bool false) ?_
  try simp only [Act.put, ptA, ptB, ptC]
  refine Gw.su ?_
  try simp only [Act.put, ptA, ptB, ptC]
  refine Gw.su ?_
  try simp only [Act.put, ptA, ptB, ptC]
  refine Gw.su ?_
  try simp only [Act.put, ptA, ptB, ptC]
  refine Gw.sw (.bool false) ?_
  try simp only [Act.put, ptA, ptB, ptC]
  refine Gw.sw (.bool false) ?_
  try simp only [Act.put, ptA, ptB, ptC]
  refine Gw.sw (.bool false) ?_
  try simp only [Act.put, ptA, ptB, ptC]
  refine Gw.su ?_
  try simp only [Act.put, ptA, ptB, ptC]
  refine Gw.sw (.bool false) ?_
  try simp only [Act.put, ptA, ptB, ptC]
  refine Gw.sw (.bool false) ?_
  try simp only [Act.put, ptA, ptB, ptC]
  exact fun z M => HK.out _ _ _ _ _ _ _ _ _ _ _ _ _ _ _ _ _ z M
noncomputable def brs_N_r10_10C : Code := (Tryz.f8.body.bind (Rg.findR 10)).getD .skip
set_option maxHeartbeats 4000000 in
theorem brs_N_r10_10 (op : Int) (wide : Bool) (x y : C) (v u : BitVec 64) (hx : inX x) (hy : inX y) (p q : C) (hb1 : branchC op wide (Wd.jumpV op wide (bi v) (bi u)) (wtC x v) (wtC y u) = some (p, q)) (mp : mayC p) (mq : mayC q) (ip : inC p v = true) (iq : inC q u = true) (wp : withC p (wtC x v) = true) (wq : withC q (wtC y u) = true) (hb2 : branchC op wide (!(Wd.jumpV op wide (bi v) (bi u))) (wtC x v) (wtC y u) = none) (hj : Wd.jumpOk op = true) {w0 : World}  {K : Act → World → Prop} {Q0 : Exit → Act → World → Prop} {d7_12 d7_11 d5_11 d5_10 d1_1 d1_0 : Nat} {u0 u1 u2 u3 u4 u5 u6 u7 u10 u11 u12 u13 u17 u18 u19 u21 u22 u23 u24 u25 u26 u27 u28 u29 u30 u31 u32 u33 u34 u35 u36 u37 u38 u39 u40 u41 u42 u43 u44 u45 u46 u47 u48 u49 u50 u51 u52 u53 u54 u55 u56 u57 u58 u59 u60 u61 u62 u63 u64 u65 u66 u67 u68 u69 u70 u71 u72 u73 u74 u75 u76 u77 u78 u79 u80 u81 u82 u83 u84 u85 u86 u87 u88 u89 u90 u91 u92 u93 u94 u95 u96 u97 u98 u99 u100 u101 u102 u103 u104 u105 u106 u107 u108 u109 u110 u111 u112 u113 u114 u115 u116 u117 u118 u119 u120 u121 u122 u123 u124 u125 u126 u127 u128 u129 u130 u131 u132 u133 u134 u135 u136 u137 u138 u139 u140 u141 u142 u143 u144 u145 : Value}
    (hQ : ∀ c a d v w, Q0 (.panic c) (Act.put a d v) w → Q0 (.panic c) a w)
    (hK : ∀ (t129 t130 t131 t132 t133 t134 t135 t136 t137 t138 t139 t140 t141 t142 t143 t144 t145 : Value) (z : World), Gw.Mem w0 [(d7_12, .cells #[.int .u64 0, .int .u64 0, .int .u64 0, .int .u64 0, .int .i64 0, .int .i64 0] 30), (d7_11, .cells #[.int .u64 0, .int .u64 0, .int .u64 0, .int .u64 0, .int .i64 0, .int .i64 0] 30), (d5_11, .cells #[.int .u64 (bi q.t.v), .int .u64 (bi q.t.m), .int .u64 q.u.lo, .int .u64 q.u.hi, .int .i64 q.s.lo, .int .i64 q.s.hi] 30), (d5_10, .cells #[.int .u64 (bi p.t.v), .int .u64 (bi p.t.m), .int .u64 p.u.lo, .int .u64 p.u.hi, .int .i64 p.s.lo, .int .i64 p.s.hi] 30), (d1_1, .cells #[.int .u64 (bi (wtC y u).t.v), .int .u64 (bi (wtC y u).t.m), .int .u64 ((wtC y u).u.lo), .int .u64 ((wtC y u).u.hi), .int .i64 ((wtC y u).s.lo), .int .i64 ((wtC y u).s.hi)] 30), (d1_0, .cells #[.int .u64 (bi (wtC x v).t.v), .int .u64 (bi (wtC x v).t.m), .int .u64 ((wtC x v).u.lo), .int .u64 ((wtC x v).u.hi), .int .i64 ((wtC x v).s.lo), .int .i64 ((wtC x v).s.hi)] 30)] z → K ⟨#[u0, u1, u2, u3, u4, u5, u6, u7, .pointer (some ⟨d1_0, 0, none⟩), .pointer (some ⟨d1_1, 0, none⟩), u10, u11, .bool true, u13, .bool true, .pointer (some ⟨d5_10, 0, none⟩), .pointer (some ⟨d5_11, 0, none⟩), u17, u18, u19, .bool false, u21, u22, u23, u24, u25, u26, u27, u28, u29, u30, u31, u32, u33, u34, u35, u36, u37, u38, u39, u40, u41, u42, u43, u44, u45, u46, u47, u48, u49, u50, u51, u52, u53, u54, u55, u56, u57, u58, u59, u60, u61, u62, u63, u64, u65, u66, u67, u68, u69, u70, u71, u72, u73, u74, u75, u76, u77, u78, u79, u80, u81, u82, u83, u84, u85, u86, u87, u88, u89, u90, u91, u92, u93, u94, u95, u96, u97, u98, u99, u100, u101, u102, u103, u104, u105, u106, u107, u108, u109, u110, u111, u112, u113, u114, u115, u116, u117, u118, u119, u120, u121, u122, u123, u124, u125, u126, u127, u128, t129, t130, t131, t132, t133, t134, t135, t136, t137, t138, t139, t140, t141, t142, t143, t144, t145], []⟩ z) (wy : World) (M : Gw.Mem w0 [(d7_12, .cells #[.int .u64 0, .int .u64 0, .int .u64 0, .int .u64 0, .int .i64 0, .int .i64 0] 30), (d7_11, .cells #[.int .u64 0, .int .u64 0, .int .u64 0, .int .u64 0, .int .i64 0, .int .i64 0] 30), (d5_11, .cells #[.int .u64 (bi q.t.v), .int .u64 (bi q.t.m), .int .u64 q.u.lo, .int .u64 q.u.hi, .int .i64 q.s.lo, .int .i64 q.s.hi] 30), (d5_10, .cells #[.int .u64 (bi p.t.v), .int .u64 (bi p.t.m), .int .u64 p.u.lo, .int .u64 p.u.hi, .int .i64 p.s.lo, .int .i64 p.s.hi] 30), (d1_1, .cells #[.int .u64 (bi (wtC y u).t.v), .int .u64 (bi (wtC y u).t.m), .int .u64 ((wtC y u).u.lo), .int .u64 ((wtC y u).u.hi), .int .i64 ((wtC y u).s.lo), .int .i64 ((wtC y u).s.hi)] 30), (d1_0, .cells #[.int .u64 (bi (wtC x v).t.v), .int .u64 (bi (wtC x v).t.m), .int .u64 ((wtC x v).u.lo), .int .u64 ((wtC x v).u.hi), .int .i64 ((wtC x v).s.lo), .int .i64 ((wtC x v).s.hi)] 30)] wy) :
    brs_N_r10_10C.wp Tryz.prog (Exit.then K Q0) ⟨#[u0, u1, u2, u3, u4, u5, u6, u7, .pointer (some ⟨d1_0, 0, none⟩), .pointer (some ⟨d1_1, 0, none⟩), u10, u11, u12, u13, .bool true, .pointer (some ⟨d5_10, 0, none⟩), .pointer (some ⟨d5_11, 0, none⟩), u17, u18, u19, .bool false, u21, u22, u23, u24, u25, u26, u27, u28, u29, u30, u31, u32, u33, u34, u35, u36, u37, u38, u39, u40, u41, u42, u43, u44, u45, u46, u47, u48, u49, u50, u51, u52, u53, u54, u55, u56, u57, u58, u59, u60, u61, u62, u63, u64, u65, u66, u67, u68, u69, u70, u71, u72, u73, u74, u75, u76, u77, u78, u79, u80, u81, u82, u83, u84, u85, u86, u87, u88, u89, u90, u91, u92, u93, u94, u95, u96, u97, u98, u99, u100, u101, u102, u103, u104, u105, u106, u107, u108, u109, u110, u111, u112, u113, u114, u115, u116, u117, u118, u119, u120, u121, u122, u123, u124, u125, u126, u127, u128, u129, u130, u131, u132, u133, u134, u135, u136, u137, u138, u139, u140, u141, u142, u143, u144, u145], []⟩ wy := by
  have HK := Lib.hid hK
  clear hK
  conv => arg 2; whnf
  refine Gw.line _ M ?_
  clear M wy
  refine Gw.sw (.bool true) ?_
  try simp only [Act.put, ptA, ptB, ptC]
  refine Gw.sw (.bool true) ?_
  try simp only [Act.put, ptA, ptB, ptC]
  refine Gw.su ?_
  try simp only [Act.put, ptA, ptB, ptC]
  refine Gw.su ?_
  try simp only [Act.put, ptA, ptB, ptC]
  refine Gw.su ?_
  try simp only [Act.put, ptA, ptB, ptC]
  refine Gw.su ?_
  try simp only [Act.put, ptA, ptB, ptC]
  refine Gw.su ?_
  try simp only [Act.put, ptA, ptB, ptC]
  refine Gw.su ?_
  try simp only [Act.put, ptA, ptB, ptC]
  refine Gw.su ?_
  try simp only [Act.put, ptA, ptB, ptC]
  refine Gw.su ?_
  try simp only [Act.put, ptA, ptB, ptC]
  refine Gw.su ?_
  try simp only [Act.put, ptA, ptB, ptC]
  refine Gw.su ?_
  try simp only [Act.put, ptA, ptB, ptC]
  refine Gw.su ?_
  try simp only [Act.put, ptA, ptB, ptC]
  refine Gw.sw (.bool true) ?_
  try simp only [Act.put, ptA, ptB, ptC]
  refine Gw.sw (.bool true) ?_
  try simp only [Act.put, ptA, ptB, ptC]
  refine Gw.sk (.bool true) 29 #[] (fun w M => known5 w) ?_
  try simp only [Act.put, ptA, ptB, ptC]
  refine Gw.sw (.bool true) ?_
  try simp only [Act.put, ptA, ptB, ptC]
  refine Gw.sw (.bool true) ?_
  try simp only [Act.put, ptA, ptB, ptC]
  exact fun z M => HK.out _ _ _ _ _ _ _ _ _ _ _ _ _ _ _ _ _ z M
set_option maxHeartbeats 4000000 in
theorem brs_N (op : Int) (wide : Bool) (x y : C) (v u : BitVec 64) (hx : inX x) (hy : inX y) (p q : C) (hb1 : branchC op wide (Wd.jumpV op wide (bi v) (bi u)) (wtC x v) (wtC y u) = some (p, q)) (mp : mayC p) (mq : mayC q) (ip : inC p v = true) (iq : inC q u = true) (wp : withC p (wtC x v) = true) (wq : withC q (wtC y u) = true) (hb2 : branchC op wide (!(Wd.jumpV op wide (bi v) (bi u))) (wtC x v) (wtC y u) = none) (w : World) :
    Calls Tryz.prog 8 #[.int .i64 op, .bool wide, .agg #[.int .u64 (bi x.t.v), .int .u64 (bi x.t.m), .int .u64 x.u.lo, .int .u64 x.u.hi, .int .i64 x.s.lo, .int .i64 x.s.hi], .agg #[.int .u64 (bi y.t.v), .int .u64 (bi y.t.m), .int .u64 y.u.lo, .int .u64 y.u.hi, .int .i64 y.s.lo, .int .i64 y.s.hi], .int .u64 (bi v), .int .u64 (bi u)] w fun e w' => e = .returned (.bool true) ∧ Below w.heap.size w w' := by
  go_enter Tryz.func8, Tryz.ntmps8
  have M := Gw.Mem.nil w
  refine wp_seq (brs_N_r0 op wide x y v u hx hy p q hb1 mp mq ip iq wp wq (fun _ _ d _ _ h => by cases d <;> exact h) ?_ _ M)
  clear M
  intro _ d1_0 d1_1 z1 M
  refine wp_seq (brs_N_r1 op wide x y v u hx hy p q hb1 mp mq ip iq wp wq (fun _ _ d _ _ h => by cases d <;> exact h) ?_ _ M)
  clear M
  intro _ _ _ z2 M
  refine wp_seq (brs_N_r2 op wide x y v u hx hy p q hb1 mp mq ip iq wp wq (fun _ _ d _ _ h => by cases d <;> exact h) ?_ _ M)
  clear M
  intro _ _ _ z3 M
  refine wp_seq (brs_N_r3 op wide x y v u hx hy p q hb1 mp mq ip iq wp wq (fun _ _ d _ _ h => by cases d <;> exact h) ?_ _ M)
  clear M
  intro _ _ _ _ _ _ _ _ z4 M
  refine wp_seq (brs_N_r4 op wide x y v u hx hy p q hb1 mp mq ip iq wp wq (fun _ _ d _ _ h => by cases d <;> exact h) ?_ _ M)
  clear M
  intro _ _ _ _ _ _ _ _ _ _ d5_10 d5_11 z5 M
  refine wp_seq ?_
  refine wp_seq (brs_N_r5 op wide x y v u hx hy p q hb1 mp mq ip iq wp wq (fun _ _ d _ _ h => by cases d <;> exact h) ?_ _ M)
  clear M
  intro _ _ _ _ _ _ _ _ _ _ _ _ _ _ _ _ _ _ _ _ _ _ _ _ _ _ _ _ _ _ _ _ _ _ _ z6 M
  refine wp_cond_false rfl ?_
  refine wp_skip ?_
  try simp only [Exit.inBlock, Exit.then]
  refine wp_seq (brs_N_r7 op wide x y v u hx hy p q hb1 mp mq ip iq wp wq hb2 (fun _ _ d _ _ h => by cases d <;> exact h) ?_ _ M)
  clear M
  intro _ _ _ _ _ _ _ _ _ _ _ d7_11 d7_12 z7 M
  refine wp_seq ?_
  refine wp_seq (brs_N_r8 op wide x y v u hx hy p q hb1 mp mq ip iq wp wq hb2 (fun _ _ d _ _ h => by cases d <;> exact h) ?_ _ M)
  clear M
  intro _ _ _ _ _ _ _ _ _ _ _ _ _ _ _ _ _ _ _ _ _ _ _ _ _ _ _ _ _ _ _ _ _ _ _ _ z8 M
  refine wp_cond_false rfl ?_
  refine wp_skip ?_
  try simp only [Exit.inBlock, Exit.then]
  cases hs0 : (Wd.jumpOk op)
  · skip
    refine wp_seq (brs_N_r10 op wide x y v u hx hy p q hb1 mp mq ip iq wp wq hb2 hs0 (fun _ _ d _ _ h => by cases d <;> exact h) ?_ _ M)
    clear M
    intro _ _ _ _ _ _ _ _ _ _ _ _ _ _ _ _ _ z9 M
    refine wp_ret ?_
    try simp only [Exit.inBlock, Exit.then]
    refine bodyPost_ret (by simp [results, Tryz.results8, go_sem]; try rfl) rfl ?_
    exact ⟨(by rw [br_al hs0] at hb2; cases hb2), M.below⟩
  · skip
    refine wp_seq (brs_N_r10_10 op wide x y v u hx hy p q hb1 mp mq ip iq wp wq hb2 hs0 (fun _ _ d _ _ h => by cases d <;> exact h) ?_ _ M)
    clear M
    intro _ _ _ _ _ _ _ _ _ _ _ _ _ _ _ _ _ z10 M
    refine wp_ret ?_
    try simp only [Exit.inBlock, Exit.then]
    refine bodyPost_ret (by simp [results, Tryz.results8, go_sem]; try rfl) rfl ?_
    exact ⟨rfl, M.below⟩
noncomputable def brs_S_r7C : Code := (Tryz.f8.body.bind (Rg.findR 7)).getD .skip
set_option maxHeartbeats 4000000 in
theorem brs_S_r7 (op : Int) (wide : Bool) (x y : C) (v u : BitVec 64) (hx : inX x) (hy : inX y) (p q : C) (hb1 : branchC op wide (Wd.jumpV op wide (bi v) (bi u)) (wtC x v) (wtC y u) = some (p, q)) (mp : mayC p) (mq : mayC q) (ip : inC p v = true) (iq : inC q u = true) (wp : withC p (wtC x v) = true) (wq : withC q (wtC y u) = true) (p2 q2 : C) (hb2 : branchC op wide (!(Wd.jumpV op wide (bi v) (bi u))) (wtC x v) (wtC y u) = some (p2, q2)) (m2 : mayC p2 ∧ mayC q2 ∧ withC p2 (wtC x v) = true ∧ withC q2 (wtC y u) = true) {w0 : World}  {K : Act → World → Prop} {Q0 : Exit → Act → World → Prop} {d5_11 d5_10 d1_1 d1_0 : Nat} {u2 u3 u4 u5 u6 u7 u10 u11 u12 u14 u15 u16 u17 u18 u19 u20 u21 u22 u23 u24 u25 u26 u27 u28 u29 u30 u31 u32 u33 u34 u35 u36 u37 u38 u39 u40 u41 u42 u43 u44 u45 u46 u47 u48 u49 u50 u51 u52 u53 u54 u55 u56 u57 u58 u59 u60 u61 u62 u63 u64 u65 u66 u67 u68 u69 u70 u71 u72 u73 u74 u75 u76 u77 u78 u79 u80 u81 u82 u83 u84 u85 u86 u87 u88 u89 u90 u91 u92 u93 u94 u95 u96 u97 u98 u99 u100 u101 u102 u103 u104 u105 u106 u107 u108 u109 u110 u111 u112 u113 u114 u115 u116 u117 u118 u119 u120 u121 u122 u123 u124 u125 u126 u127 u128 u129 u130 u131 u132 u133 u134 u135 u136 u137 u138 u139 u140 u141 u142 u143 u144 u145 : Value}
    (hQ : ∀ c a d v w, Q0 (.panic c) (Act.put a d v) w → Q0 (.panic c) a w)
    (hK : ∀ (t81 t82 t83 t84 t85 t86 t87 t88 t89 t90 t91 : Value) (d7_11 d7_12 : Nat) (z : World), Gw.Mem w0 [(d7_12, .cells #[.int .u64 (bi q2.t.v), .int .u64 (bi q2.t.m), .int .u64 q2.u.lo, .int .u64 q2.u.hi, .int .i64 q2.s.lo, .int .i64 q2.s.hi] 30), (d7_11, .cells #[.int .u64 (bi p2.t.v), .int .u64 (bi p2.t.m), .int .u64 p2.u.lo, .int .u64 p2.u.hi, .int .i64 p2.s.lo, .int .i64 p2.s.hi] 30), (d5_11, .cells #[.int .u64 (bi q.t.v), .int .u64 (bi q.t.m), .int .u64 q.u.lo, .int .u64 q.u.hi, .int .i64 q.s.lo, .int .i64 q.s.hi] 30), (d5_10, .cells #[.int .u64 (bi p.t.v), .int .u64 (bi p.t.m), .int .u64 p.u.lo, .int .u64 p.u.hi, .int .i64 p.s.lo, .int .i64 p.s.hi] 30), (d1_1, .cells #[.int .u64 (bi (wtC y u).t.v), .int .u64 (bi (wtC y u).t.m), .int .u64 ((wtC y u).u.lo), .int .u64 ((wtC y u).u.hi), .int .i64 ((wtC y u).s.lo), .int .i64 ((wtC y u).s.hi)] 30), (d1_0, .cells #[.int .u64 (bi (wtC x v).t.v), .int .u64 (bi (wtC x v).t.m), .int .u64 ((wtC x v).u.lo), .int .u64 ((wtC x v).u.hi), .int .i64 ((wtC x v).s.lo), .int .i64 ((wtC x v).s.hi)] 30)] z → K ⟨#[.int .i64 op, .bool wide, u2, u3, u4, u5, u6, u7, .pointer (some ⟨d1_0, 0, none⟩), .pointer (some ⟨d1_1, 0, none⟩), u10, u11, u12, .bool (Wd.jumpV op wide (bi v) (bi u)), u14, u15, u16, u17, .pointer (some ⟨d7_11, 0, none⟩), .pointer (some ⟨d7_12, 0, none⟩), .bool true, u21, u22, u23, u24, u25, u26, u27, u28, u29, u30, u31, u32, u33, u34, u35, u36, u37, u38, u39, u40, u41, u42, u43, u44, u45, u46, u47, u48, u49, u50, u51, u52, u53, u54, u55, u56, u57, u58, u59, u60, u61, u62, u63, u64, u65, u66, u67, u68, u69, u70, u71, u72, u73, u74, u75, u76, u77, u78, u79, u80, t81, t82, t83, t84, t85, t86, t87, t88, t89, t90, t91, u92, u93, u94, u95, u96, u97, u98, u99, u100, u101, u102, u103, u104, u105, u106, u107, u108, u109, u110, u111, u112, u113, u114, u115, u116, u117, u118, u119, u120, u121, u122, u123, u124, u125, u126, u127, u128, u129, u130, u131, u132, u133, u134, u135, u136, u137, u138, u139, u140, u141, u142, u143, u144, u145], []⟩ z) (wy : World) (M : Gw.Mem w0 [(d5_11, .cells #[.int .u64 (bi q.t.v), .int .u64 (bi q.t.m), .int .u64 q.u.lo, .int .u64 q.u.hi, .int .i64 q.s.lo, .int .i64 q.s.hi] 30), (d5_10, .cells #[.int .u64 (bi p.t.v), .int .u64 (bi p.t.m), .int .u64 p.u.lo, .int .u64 p.u.hi, .int .i64 p.s.lo, .int .i64 p.s.hi] 30), (d1_1, .cells #[.int .u64 (bi (wtC y u).t.v), .int .u64 (bi (wtC y u).t.m), .int .u64 ((wtC y u).u.lo), .int .u64 ((wtC y u).u.hi), .int .i64 ((wtC y u).s.lo), .int .i64 ((wtC y u).s.hi)] 30), (d1_0, .cells #[.int .u64 (bi (wtC x v).t.v), .int .u64 (bi (wtC x v).t.m), .int .u64 ((wtC x v).u.lo), .int .u64 ((wtC x v).u.hi), .int .i64 ((wtC x v).s.lo), .int .i64 ((wtC x v).s.hi)] 30)] wy) :
    brs_S_r7C.wp Tryz.prog (Exit.then K Q0) ⟨#[.int .i64 op, .bool wide, u2, u3, u4, u5, u6, u7, .pointer (some ⟨d1_0, 0, none⟩), .pointer (some ⟨d1_1, 0, none⟩), u10, u11, u12, .bool (Wd.jumpV op wide (bi v) (bi u)), u14, u15, u16, u17, u18, u19, u20, u21, u22, u23, u24, u25, u26, u27, u28, u29, u30, u31, u32, u33, u34, u35, u36, u37, u38, u39, u40, u41, u42, u43, u44, u45, u46, u47, u48, u49, u50, u51, u52, u53, u54, u55, u56, u57, u58, u59, u60, u61, u62, u63, u64, u65, u66, u67, u68, u69, u70, u71, u72, u73, u74, u75, u76, u77, u78, u79, u80, u81, u82, u83, u84, u85, u86, u87, u88, u89, u90, u91, u92, u93, u94, u95, u96, u97, u98, u99, u100, u101, u102, u103, u104, u105, u106, u107, u108, u109, u110, u111, u112, u113, u114, u115, u116, u117, u118, u119, u120, u121, u122, u123, u124, u125, u126, u127, u128, u129, u130, u131, u132, u133, u134, u135, u136, u137, u138, u139, u140, u141, u142, u143, u144, u145], []⟩ wy := by
  have HK := Lib.hid hK
  clear hK
  conv => arg 2; whnf
  refine Gw.line _ M ?_
  clear M wy
  refine Gw.sw (.int .i64 op) ?_
  try simp only [Act.put, ptA, ptB, ptC]
  refine Gw.sw (.bool wide) ?_
  try simp only [Act.put, ptA, ptB, ptC]
  refine Gw.sw (.bool (Wd.jumpV op wide (bi v) (bi u))) ?_
  try simp only [Act.put, ptA, ptB, ptC]
  refine Gw.sw (.bool (!(Wd.jumpV op wide (bi v) (bi u)))) ?_
  try simp only [Act.put, ptA, ptB, ptC]
  refine Gw.sq (.agg #[.int .u64 (bi (wtC x v).t.v), .int .u64 (bi (wtC x v).t.m), .int .u64 ((wtC x v).u.lo), .int .u64 ((wtC x v).u.hi), .int .i64 ((wtC x v).s.lo), .int .i64 ((wtC x v).s.hi)]) ?_ ?_
  · intro w M; have c := M.c6 3; go_simp
  try simp only [Act.put, ptA, ptB, ptC]
  refine Gw.sq (.agg #[.int .u64 (bi (wtC y u).t.v), .int .u64 (bi (wtC y u).t.m), .int .u64 ((wtC y u).u.lo), .int .u64 ((wtC y u).u.hi), .int .i64 ((wtC y u).s.lo), .int .i64 ((wtC y u).s.hi)]) ?_ ?_
  · intro w M; have c := M.c6 2; go_simp
  try simp only [Act.put, ptA, ptB, ptC]
  refine Gw.sk (.tuple #[.agg #[.int .u64 (bi p2.t.v), .int .u64 (bi p2.t.m), .int .u64 p2.u.lo, .int .u64 p2.u.hi, .int .i64 p2.s.lo, .int .i64 p2.s.hi], .agg #[.int .u64 (bi q2.t.v), .int .u64 (bi q2.t.m), .int .u64 q2.u.lo, .int .u64 q2.u.hi, .int .i64 q2.s.lo, .int .i64 q2.s.hi], .bool true]) 34 #[.int .i64 op, .bool wide, .bool (!(Wd.jumpV op wide (bi v) (bi u))), .agg #[.int .u64 (bi (wtC x v).t.v), .int .u64 (bi (wtC x v).t.m), .int .u64 ((wtC x v).u.lo), .int .u64 ((wtC x v).u.hi), .int .i64 ((wtC x v).s.lo), .int .i64 ((wtC x v).s.hi)], .agg #[.int .u64 (bi (wtC y u).t.v), .int .u64 (bi (wtC y u).t.m), .int .u64 ((wtC y u).u.lo), .int .u64 ((wtC y u).u.hi), .int .i64 ((wtC y u).s.lo), .int .i64 ((wtC y u).s.hi)]] (fun w M => br_so op wide (!(Wd.jumpV op wide (bi v) (bi u))) (wtC x v) (wtC y u) p2 q2 (wt_ok x v hx.1 hx.2).1 (wt_ok y u hy.1 hy.2).1 hb2 w) ?_
  try simp only [Act.put, ptA, ptB, ptC]
  refine Gw.sw (.tuple #[.agg #[.int .u64 (bi p2.t.v), .int .u64 (bi p2.t.m), .int .u64 p2.u.lo, .int .u64 p2.u.hi, .int .i64 p2.s.lo, .int .i64 p2.s.hi], .agg #[.int .u64 (bi q2.t.v), .int .u64 (bi q2.t.m), .int .u64 q2.u.lo, .int .u64 q2.u.hi, .int .i64 q2.s.lo, .int .i64 q2.s.hi], .bool true]) ?_
  try simp only [Act.put, ptA, ptB, ptC]
  refine Gw.sw (.agg #[.int .u64 (bi p2.t.v), .int .u64 (bi p2.t.m), .int .u64 p2.u.lo, .int .u64 p2.u.hi, .int .i64 p2.s.lo, .int .i64 p2.s.hi]) ?_
  try simp only [Act.put, ptA, ptB, ptC]
  refine Gw.sw (.agg #[.int .u64 (bi q2.t.v), .int .u64 (bi q2.t.m), .int .u64 q2.u.lo, .int .u64 q2.u.hi, .int .i64 q2.s.lo, .int .i64 q2.s.hi]) ?_
  try simp only [Act.put, ptA, ptB, ptC]
  refine Gw.sw (.bool true) ?_
  try simp only [Act.put, ptA, ptB, ptC]
  refine Gw.ss ?_
  intro w M K' hK
  go_simp
  have M1 := M.alloc (.cells #[.int .u64 0, .int .u64 0, .int .u64 0, .int .u64 0, .int .i64 0, .int .i64 0] 30)
  generalize w.heap.size = d7_11 at M1 ⊢
  refine hK.out _ _ _ M1 ?_
  clear hK K' M1 M w
  try simp only [Act.put, ptA, ptB, ptC]
  refine Gw.ss ?_
  intro w M K' hK
  go_simp
  have M1 := M.alloc (.cells #[.int .u64 0, .int .u64 0, .int .u64 0, .int .u64 0, .int .i64 0, .int .i64 0] 30)
  generalize w.heap.size = d7_12 at M1 ⊢
  refine hK.out _ _ _ M1 ?_
  clear hK K' M1 M w
  try simp only [Act.put, ptA, ptB, ptC]
  refine Gw.ss ?_
  intro w M K' hK
  have c := M.c6 1
  have f := M.f6 1
  go_simp
  refine hK.out _ _ _ ((((((M.set 1 0 _).set 1 1 _).set 1 2 _).set 1 3 _).set 1 4 _).set 1 5 _) ?_
  clear hK K' c f M w
  refine Gw.ss ?_
  intro w M K' hK
  have c := M.c6 0
  have f := M.f6 0
  go_simp
  refine hK.out _ _ _ ((((((M.set 0 0 _).set 0 1 _).set 0 2 _).set 0 3 _).set 0 4 _).set 0 5 _) ?_
  clear hK K' c f M w
  refine Gw.sw (.bool true) ?_
  try simp only [Act.put, ptA, ptB, ptC]
  exact fun z M => HK.out _ _ _ _ _ _ _ _ _ _ _ _ _ z M
noncomputable def brs_S_r8C : Code := (Tryz.f8.body.bind (Rg.findR 8)).getD .skip
set_option maxHeartbeats 4000000 in
theorem brs_S_r8 (op : Int) (wide : Bool) (x y : C) (v u : BitVec 64) (hx : inX x) (hy : inX y) (p q : C) (hb1 : branchC op wide (Wd.jumpV op wide (bi v) (bi u)) (wtC x v) (wtC y u) = some (p, q)) (mp : mayC p) (mq : mayC q) (ip : inC p v = true) (iq : inC q u = true) (wp : withC p (wtC x v) = true) (wq : withC q (wtC y u) = true) (p2 q2 : C) (hb2 : branchC op wide (!(Wd.jumpV op wide (bi v) (bi u))) (wtC x v) (wtC y u) = some (p2, q2)) (m2 : mayC p2 ∧ mayC q2 ∧ withC p2 (wtC x v) = true ∧ withC q2 (wtC y u) = true) {w0 : World}  {K : Act → World → Prop} {Q0 : Exit → Act → World → Prop} {d7_12 d7_11 d5_11 d5_10 d1_1 d1_0 : Nat} {u0 u1 u2 u3 u4 u5 u6 u7 u10 u11 u12 u13 u14 u15 u16 u17 u21 u22 u23 u24 u25 u26 u27 u28 u29 u30 u31 u32 u33 u34 u35 u36 u37 u38 u39 u40 u41 u42 u43 u44 u45 u46 u47 u48 u49 u50 u51 u52 u53 u54 u55 u56 u57 u58 u59 u60 u61 u62 u63 u64 u65 u66 u67 u68 u69 u70 u71 u72 u73 u74 u75 u76 u77 u78 u79 u80 u81 u82 u83 u84 u85 u86 u87 u88 u89 u90 u91 u92 u93 u94 u95 u96 u97 u98 u99 u100 u101 u102 u103 u104 u105 u106 u107 u108 u109 u110 u111 u112 u113 u114 u115 u116 u117 u118 u119 u120 u121 u122 u123 u124 u125 u126 u127 u128 u129 u130 u131 u132 u133 u134 u135 u136 u137 u138 u139 u140 u141 u142 u143 u144 u145 : Value}
    (hQ : ∀ c a d v w, Q0 (.panic c) (Act.put a d v) w → Q0 (.panic c) a w)
    (hK : ∀ (t92 t93 t94 t95 t96 t97 t98 t99 t100 t101 t102 t103 t104 t105 t106 t107 t108 t109 t110 t111 t112 t113 t114 t115 t116 t117 t118 t119 t120 t121 t122 t123 t124 t125 t126 t127 : Value) (z : World), Gw.Mem w0 [(d7_12, .cells #[.int .u64 (bi q2.t.v), .int .u64 (bi q2.t.m), .int .u64 q2.u.lo, .int .u64 q2.u.hi, .int .i64 q2.s.lo, .int .i64 q2.s.hi] 30), (d7_11, .cells #[.int .u64 (bi p2.t.v), .int .u64 (bi p2.t.m), .int .u64 p2.u.lo, .int .u64 p2.u.hi, .int .i64 p2.s.lo, .int .i64 p2.s.hi] 30), (d5_11, .cells #[.int .u64 (bi q.t.v), .int .u64 (bi q.t.m), .int .u64 q.u.lo, .int .u64 q.u.hi, .int .i64 q.s.lo, .int .i64 q.s.hi] 30), (d5_10, .cells #[.int .u64 (bi p.t.v), .int .u64 (bi p.t.m), .int .u64 p.u.lo, .int .u64 p.u.hi, .int .i64 p.s.lo, .int .i64 p.s.hi] 30), (d1_1, .cells #[.int .u64 (bi (wtC y u).t.v), .int .u64 (bi (wtC y u).t.m), .int .u64 ((wtC y u).u.lo), .int .u64 ((wtC y u).u.hi), .int .i64 ((wtC y u).s.lo), .int .i64 ((wtC y u).s.hi)] 30), (d1_0, .cells #[.int .u64 (bi (wtC x v).t.v), .int .u64 (bi (wtC x v).t.m), .int .u64 ((wtC x v).u.lo), .int .u64 ((wtC x v).u.hi), .int .i64 ((wtC x v).s.lo), .int .i64 ((wtC x v).s.hi)] 30)] z → K ⟨#[u0, u1, u2, u3, u4, u5, u6, u7, .pointer (some ⟨d1_0, 0, none⟩), .pointer (some ⟨d1_1, 0, none⟩), u10, u11, u12, u13, u14, u15, u16, u17, .pointer (some ⟨d7_11, 0, none⟩), .pointer (some ⟨d7_12, 0, none⟩), .bool true, u21, u22, u23, u24, u25, u26, u27, u28, u29, u30, u31, u32, u33, u34, u35, u36, u37, u38, u39, u40, u41, u42, u43, u44, u45, u46, u47, u48, u49, u50, u51, u52, u53, u54, u55, u56, u57, u58, u59, u60, u61, u62, u63, u64, u65, u66, u67, u68, u69, u70, u71, u72, u73, u74, u75, u76, u77, u78, u79, u80, u81, u82, u83, u84, u85, u86, u87, u88, u89, u90, u91, t92, t93, t94, t95, t96, t97, t98, t99, t100, t101, t102, t103, t104, t105, t106, t107, t108, t109, t110, t111, t112, t113, t114, t115, t116, t117, t118, t119, t120, t121, t122, t123, t124, t125, t126, t127, .bool false, u129, u130, u131, u132, u133, u134, u135, u136, u137, u138, u139, u140, u141, u142, u143, u144, u145], []⟩ z) (wy : World) (M : Gw.Mem w0 [(d7_12, .cells #[.int .u64 (bi q2.t.v), .int .u64 (bi q2.t.m), .int .u64 q2.u.lo, .int .u64 q2.u.hi, .int .i64 q2.s.lo, .int .i64 q2.s.hi] 30), (d7_11, .cells #[.int .u64 (bi p2.t.v), .int .u64 (bi p2.t.m), .int .u64 p2.u.lo, .int .u64 p2.u.hi, .int .i64 p2.s.lo, .int .i64 p2.s.hi] 30), (d5_11, .cells #[.int .u64 (bi q.t.v), .int .u64 (bi q.t.m), .int .u64 q.u.lo, .int .u64 q.u.hi, .int .i64 q.s.lo, .int .i64 q.s.hi] 30), (d5_10, .cells #[.int .u64 (bi p.t.v), .int .u64 (bi p.t.m), .int .u64 p.u.lo, .int .u64 p.u.hi, .int .i64 p.s.lo, .int .i64 p.s.hi] 30), (d1_1, .cells #[.int .u64 (bi (wtC y u).t.v), .int .u64 (bi (wtC y u).t.m), .int .u64 ((wtC y u).u.lo), .int .u64 ((wtC y u).u.hi), .int .i64 ((wtC y u).s.lo), .int .i64 ((wtC y u).s.hi)] 30), (d1_0, .cells #[.int .u64 (bi (wtC x v).t.v), .int .u64 (bi (wtC x v).t.m), .int .u64 ((wtC x v).u.lo), .int .u64 ((wtC x v).u.hi), .int .i64 ((wtC x v).s.lo), .int .i64 ((wtC x v).s.hi)] 30)] wy) :
    brs_S_r8C.wp Tryz.prog (Exit.then K Q0) ⟨#[u0, u1, u2, u3, u4, u5, u6, u7, .pointer (some ⟨d1_0, 0, none⟩), .pointer (some ⟨d1_1, 0, none⟩), u10, u11, u12, u13, u14, u15, u16, u17, .pointer (some ⟨d7_11, 0, none⟩), .pointer (some ⟨d7_12, 0, none⟩), .bool true, u21, u22, u23, u24, u25, u26, u27, u28, u29, u30, u31, u32, u33, u34, u35, u36, u37, u38, u39, u40, u41, u42, u43, u44, u45, u46, u47, u48, u49, u50, u51, u52, u53, u54, u55, u56, u57, u58, u59, u60, u61, u62, u63, u64, u65, u66, u67, u68, u69, u70, u71, u72, u73, u74, u75, u76, u77, u78, u79, u80, u81, u82, u83, u84, u85, u86, u87, u88, u89, u90, u91, u92, u93, u94, u95, u96, u97, u98, u99, u100, u101, u102, u103, u104, u105, u106, u107, u108, u109, u110, u111, u112, u113, u114, u115, u116, u117, u118, u119, u120, u121, u122, u123, u124, u125, u126, u127, u128, u129, u130, u131, u132, u133, u134, u135, u136, u137, u138, u139, u140, u141, u142, u143, u144, u145], []⟩ wy := by
  have HK := Lib.hid hK
  clear hK
  conv => arg 2; whnf
  refine Gw.line _ M ?_
  clear M wy
  refine Gw.sw (.bool true) ?_
  try simp only [Act.put, ptA, ptB, ptC]
  refine Gw.sw (.bool true) ?_
  try simp only [Act.put, ptA, ptB, ptC]
  refine Gw.sq (.agg #[.int .u64 (bi p2.t.v), .int .u64 (bi p2.t.m), .int .u64 p2.u.lo, .int .u64 p2.u.hi, .int .i64 p2.s.lo, .int .i64 p2.s.hi]) ?_ ?_
  · intro w M; have c := M.c6 1; go_simp
  try simp only [Act.put, ptA, ptB, ptC]
  refine Gw.sk (.bool true) 38 #[.agg #[.int .u64 (bi p2.t.v), .int .u64 (bi p2.t.m), .int .u64 p2.u.lo, .int .u64 p2.u.hi, .int .i64 p2.s.lo, .int .i64 p2.s.hi]] (fun w M => may_t p2 m2.1 w) ?_
  try simp only [Act.put, ptA, ptB, ptC]
  refine Gw.sw (.bool false) ?_
  try simp only [Act.put, ptA, ptB, ptC]
  refine Gw.sw (.bool false) ?_
  try simp only [Act.put, ptA, ptB, ptC]
  refine Gw.sq (.agg #[.int .u64 (bi q2.t.v), .int .u64 (bi q2.t.m), .int .u64 q2.u.lo, .int .u64 q2.u.hi, .int .i64 q2.s.lo, .int .i64 q2.s.hi]) ?_ ?_
  · intro w M; have c := M.c6 0; go_simp
  try simp only [Act.put, ptA, ptB, ptC]
  refine Gw.sk (.bool true) 38 #[.agg #[.int .u64 (bi q2.t.v), .int .u64 (bi q2.t.m), .int .u64 q2.u.lo, .int .u64 q2.u.hi, .int .i64 q2.s.lo, .int .i64 q2.s.hi]] (fun w M => may_t q2 m2.2.1 w) ?_
  try simp only [Act.put, ptA, ptB, ptC]
  refine Gw.sw (.bool false) ?_
  try simp only [Act.put, ptA, ptB, ptC]
  refine Gw.sw (.bool false) ?_
  try simp only [Act.put, ptA, ptB, ptC]
  refine Gw.sw (.bool false) ?_
  try simp only [Act.put, ptA, ptB, ptC]
  refine Gw.sq (.agg #[.int .u64 (bi p2.t.v), .int .u64 (bi p2.t.m), .int .u64 p2.u.lo, .int .u64 p2.u.hi, .int .i64 p2.s.lo, .int .i64 p2.s.hi]) ?_ ?_
  · intro w M; have c := M.c6 1; go_simp
  try simp only [Act.put, ptA, ptB, ptC]
  refine Gw.sq (.agg #[.int .u64 (bi (wtC x v).t.v), .int .u64 (bi (wtC x v).t.m), .int .u64 ((wtC x v).u.lo), .int .u64 ((wtC x v).u.hi), .int .i64 ((wtC x v).s.lo), .int .i64 ((wtC x v).s.hi)]) ?_ ?_
  · intro w M; have c := M.c6 5; go_simp
  try simp only [Act.put, ptA, ptB, ptC]
  refine Gw.sk (.bool true) 25 #[.agg #[.int .u64 (bi p2.t.v), .int .u64 (bi p2.t.m), .int .u64 p2.u.lo, .int .u64 p2.u.hi, .int .i64 p2.s.lo, .int .i64 p2.s.hi], .agg #[.int .u64 (bi (wtC x v).t.v), .int .u64 (bi (wtC x v).t.m), .int .u64 ((wtC x v).u.lo), .int .u64 ((wtC x v).u.hi), .int .i64 ((wtC x v).s.lo), .int .i64 ((wtC x v).s.hi)]] (fun w M => with_t p2 (wtC x v) true m2.2.2.1 w) ?_
  try simp only [Act.put, ptA, ptB, ptC]
  refine Gw.sw (.bool false) ?_
  try simp only [Act.put, ptA, ptB, ptC]
  refine Gw.sw (.bool false) ?_
  try simp only [Act.put, ptA, ptB, ptC]
  refine Gw.sw (.bool false) ?_
  try simp only [Act.put, ptA, ptB, ptC]
  refine Gw.sq (.agg #[.int .u64 (bi q2.t.v), .int .u64 (bi q2.t.m), .int .u64 q2.u.lo, .int .u64 q2.u.hi, .int .i64 q2.s.lo, .int .i64 q2.s.hi]) ?_ ?_
  · intro w M; have c := M.c6 0; go_simp
  try simp only [Act.put, ptA, ptB, ptC]
  refine Gw.sq (.agg #[.int .u64 (bi (wtC y u).t.v), .int .u64 (bi (wtC y u).t.m), .int .u64 ((wtC y u).u.lo), .int .u64 ((wtC y u).u.hi), .int .i64 ((wtC y u).s.lo), .int .i64 ((wtC y u).s.hi)]) ?_ ?_
  · intro w M; have c := M.c6 4; go_simp
  try simp only [Act.put, ptA, ptB, ptC]
  refine Gw.sk (.bool true) 25 #[.agg #[.int .u64 (bi q2.t.v), .int .u64 (bi q2.t.m), .int .u64 q2.u.lo, .int .u64 q2.u.hi, .int .i64 q2.s.lo, .int .i64 q2.s.hi], .agg #[.int .u64 (bi (wtC y u).t.v), .int .u64 (bi (wtC y u).t.m), .int .u64 ((wtC y u).u.lo), .int .u64 ((wtC y u).u.hi), .int .i64 ((wtC y u).s.lo), .int .i64 ((wtC y u).s.hi)]] (fun w M => with_t q2 (wtC y u) true m2.2.2.2 w) ?_
  try simp only [Act.put, ptA, ptB, ptC]
  refine Gw.sw (.bool false) ?_
  try simp only [Act.put, ptA, ptB, ptC]
  refine Gw.sw (.bool false) ?_
  try simp only [Act.put, ptA, ptB, ptC]
  refine Gw.sw (.bool false) ?_
  try simp only [Act.put, ptA, ptB, ptC]
  refine Gw.sw (.bool false) ?_
  try simp only [Act.put, ptA, ptB, ptC]
  refine Gw.sw (.bool true) ?_
  try simp only [Act.put, ptA, ptB, ptC]
  refine Gw.sw (.bool false) ?_
  try simp only [Act.put, ptA, ptB, ptC]
  refine Gw.sw (.bool false) ?_
  try simp only [Act.put, ptA, ptB, ptC]
  refine Gw.su ?_
  try simp only [Act.put, ptA, ptB, ptC]
  refine Gw.su ?_
  try simp only [Act.put, ptA, ptB, ptC]
  refine Gw.su ?_
  try simp only [Act.put, ptA, ptB, ptC]
  refine Gw.su ?_
  try simp only [Act.put, ptA, ptB, ptC]
  refine Gw.su ?_
  try simp only [Act.put, ptA, ptB, ptC]
  refine Gw.su ?_
  try simp only [Act.put, ptA, ptB, ptC]
  refine Gw.su ?_
  try simp only [Act.put, ptA, ptB, ptC]
  refine Gw.su ?_
  try simp only [Act.put, ptA, ptB, ptC]
  refine Gw.sw (.bool false) ?_
  try simp only [Act.put, ptA, ptB, ptC]
  refine Gw.sw (.bool false) ?_
  try simp only [Act.put, ptA, ptB, ptC]
  exact fun z M => HK.out _ _ _ _ _ _ _ _ _ _ _ _ _ _ _ _ _ _ _ _ _ _ _ _ _ _ _ _ _ _ _ _ _ _ _ _ z M
noncomputable def brs_S_r10C : Code := (Tryz.f8.body.bind (Rg.findR 10)).getD .skip
set_option maxHeartbeats 4000000 in
theorem brs_S_r10 (op : Int) (wide : Bool) (x y : C) (v u : BitVec 64) (hx : inX x) (hy : inX y) (p q : C) (hb1 : branchC op wide (Wd.jumpV op wide (bi v) (bi u)) (wtC x v) (wtC y u) = some (p, q)) (mp : mayC p) (mq : mayC q) (ip : inC p v = true) (iq : inC q u = true) (wp : withC p (wtC x v) = true) (wq : withC q (wtC y u) = true) (p2 q2 : C) (hb2 : branchC op wide (!(Wd.jumpV op wide (bi v) (bi u))) (wtC x v) (wtC y u) = some (p2, q2)) (m2 : mayC p2 ∧ mayC q2 ∧ withC p2 (wtC x v) = true ∧ withC q2 (wtC y u) = true) (hj : Wd.jumpOk op = false) {w0 : World}  {K : Act → World → Prop} {Q0 : Exit → Act → World → Prop} {d7_12 d7_11 d5_11 d5_10 d1_1 d1_0 : Nat} {u0 u1 u2 u3 u4 u5 u6 u7 u10 u11 u12 u13 u17 u18 u19 u21 u22 u23 u24 u25 u26 u27 u28 u29 u30 u31 u32 u33 u34 u35 u36 u37 u38 u39 u40 u41 u42 u43 u44 u45 u46 u47 u48 u49 u50 u51 u52 u53 u54 u55 u56 u57 u58 u59 u60 u61 u62 u63 u64 u65 u66 u67 u68 u69 u70 u71 u72 u73 u74 u75 u76 u77 u78 u79 u80 u81 u82 u83 u84 u85 u86 u87 u88 u89 u90 u91 u92 u93 u94 u95 u96 u97 u98 u99 u100 u101 u102 u103 u104 u105 u106 u107 u108 u109 u110 u111 u112 u113 u114 u115 u116 u117 u118 u119 u120 u121 u122 u123 u124 u125 u126 u127 u128 u129 u130 u131 u132 u133 u134 u135 u136 u137 u138 u139 u140 u141 u142 u143 u144 u145 : Value}
    (hQ : ∀ c a d v w, Q0 (.panic c) (Act.put a d v) w → Q0 (.panic c) a w)
    (hK : ∀ (t129 t130 t131 t132 t133 t134 t135 t136 t137 t138 t139 t140 t141 t142 t143 t144 t145 : Value) (z : World), Gw.Mem w0 [(d7_12, .cells #[.int .u64 (bi q2.t.v), .int .u64 (bi q2.t.m), .int .u64 q2.u.lo, .int .u64 q2.u.hi, .int .i64 q2.s.lo, .int .i64 q2.s.hi] 30), (d7_11, .cells #[.int .u64 (bi p2.t.v), .int .u64 (bi p2.t.m), .int .u64 p2.u.lo, .int .u64 p2.u.hi, .int .i64 p2.s.lo, .int .i64 p2.s.hi] 30), (d5_11, .cells #[.int .u64 (bi q.t.v), .int .u64 (bi q.t.m), .int .u64 q.u.lo, .int .u64 q.u.hi, .int .i64 q.s.lo, .int .i64 q.s.hi] 30), (d5_10, .cells #[.int .u64 (bi p.t.v), .int .u64 (bi p.t.m), .int .u64 p.u.lo, .int .u64 p.u.hi, .int .i64 p.s.lo, .int .i64 p.s.hi] 30), (d1_1, .cells #[.int .u64 (bi (wtC y u).t.v), .int .u64 (bi (wtC y u).t.m), .int .u64 ((wtC y u).u.lo), .int .u64 ((wtC y u).u.hi), .int .i64 ((wtC y u).s.lo), .int .i64 ((wtC y u).s.hi)] 30), (d1_0, .cells #[.int .u64 (bi (wtC x v).t.v), .int .u64 (bi (wtC x v).t.m), .int .u64 ((wtC x v).u.lo), .int .u64 ((wtC x v).u.hi), .int .i64 ((wtC x v).s.lo), .int .i64 ((wtC x v).s.hi)] 30)] z → K ⟨#[u0, u1, u2, u3, u4, u5, u6, u7, .pointer (some ⟨d1_0, 0, none⟩), .pointer (some ⟨d1_1, 0, none⟩), u10, u11, .bool true, u13, .bool false, .pointer (some ⟨d5_10, 0, none⟩), .pointer (some ⟨d5_11, 0, none⟩), u17, u18, u19, .bool true, u21, u22, u23, u24, u25, u26, u27, u28, u29, u30, u31, u32, u33, u34, u35, u36, u37, u38, u39, u40, u41, u42, u43, u44, u45, u46, u47, u48, u49, u50, u51, u52, u53, u54, u55, u56, u57, u58, u59, u60, u61, u62, u63, u64, u65, u66, u67, u68, u69, u70, u71, u72, u73, u74, u75, u76, u77, u78, u79, u80, u81, u82, u83, u84, u85, u86, u87, u88, u89, u90, u91, u92, u93, u94, u95, u96, u97, u98, u99, u100, u101, u102, u103, u104, u105, u106, u107, u108, u109, u110, u111, u112, u113, u114, u115, u116, u117, u118, u119, u120, u121, u122, u123, u124, u125, u126, u127, u128, t129, t130, t131, t132, t133, t134, t135, t136, t137, t138, t139, t140, t141, t142, t143, t144, t145], []⟩ z) (wy : World) (M : Gw.Mem w0 [(d7_12, .cells #[.int .u64 (bi q2.t.v), .int .u64 (bi q2.t.m), .int .u64 q2.u.lo, .int .u64 q2.u.hi, .int .i64 q2.s.lo, .int .i64 q2.s.hi] 30), (d7_11, .cells #[.int .u64 (bi p2.t.v), .int .u64 (bi p2.t.m), .int .u64 p2.u.lo, .int .u64 p2.u.hi, .int .i64 p2.s.lo, .int .i64 p2.s.hi] 30), (d5_11, .cells #[.int .u64 (bi q.t.v), .int .u64 (bi q.t.m), .int .u64 q.u.lo, .int .u64 q.u.hi, .int .i64 q.s.lo, .int .i64 q.s.hi] 30), (d5_10, .cells #[.int .u64 (bi p.t.v), .int .u64 (bi p.t.m), .int .u64 p.u.lo, .int .u64 p.u.hi, .int .i64 p.s.lo, .int .i64 p.s.hi] 30), (d1_1, .cells #[.int .u64 (bi (wtC y u).t.v), .int .u64 (bi (wtC y u).t.m), .int .u64 ((wtC y u).u.lo), .int .u64 ((wtC y u).u.hi), .int .i64 ((wtC y u).s.lo), .int .i64 ((wtC y u).s.hi)] 30), (d1_0, .cells #[.int .u64 (bi (wtC x v).t.v), .int .u64 (bi (wtC x v).t.m), .int .u64 ((wtC x v).u.lo), .int .u64 ((wtC x v).u.hi), .int .i64 ((wtC x v).s.lo), .int .i64 ((wtC x v).s.hi)] 30)] wy) :
    brs_S_r10C.wp Tryz.prog (Exit.then K Q0) ⟨#[u0, u1, u2, u3, u4, u5, u6, u7, .pointer (some ⟨d1_0, 0, none⟩), .pointer (some ⟨d1_1, 0, none⟩), u10, u11, u12, u13, .bool false, .pointer (some ⟨d5_10, 0, none⟩), .pointer (some ⟨d5_11, 0, none⟩), u17, u18, u19, .bool true, u21, u22, u23, u24, u25, u26, u27, u28, u29, u30, u31, u32, u33, u34, u35, u36, u37, u38, u39, u40, u41, u42, u43, u44, u45, u46, u47, u48, u49, u50, u51, u52, u53, u54, u55, u56, u57, u58, u59, u60, u61, u62, u63, u64, u65, u66, u67, u68, u69, u70, u71, u72, u73, u74, u75, u76, u77, u78, u79, u80, u81, u82, u83, u84, u85, u86, u87, u88, u89, u90, u91, u92, u93, u94, u95, u96, u97, u98, u99, u100, u101, u102, u103, u104, u105, u106, u107, u108, u109, u110, u111, u112, u113, u114, u115, u116, u117, u118, u119, u120, u121, u122, u123, u124, u125, u126, u127, u128, u129, u130, u131, u132, u133, u134, u135, u136, u137, u138, u139, u140, u141, u142, u143, u144, u145], []⟩ wy := by
  have HK := Lib.hid hK
  clear hK
  conv => arg 2; whnf
  refine Gw.line _ M ?_
  clear M wy
  refine Gw.sw (.bool false) ?_
  try simp only [Act.put, ptA, ptB, ptC]
  refine Gw.sw (.bool false) ?_
  try simp only [Act.put, ptA, ptB, ptC]
  refine Gw.sw (.bool true) ?_
  try simp only [Act.put, ptA, ptB, ptC]
  refine Gw.sw (.bool true) ?_
  try simp only [Act.put, ptA, ptB, ptC]
  refine Gw.sq (.agg #[.int .u64 (bi p.t.v), .int .u64 (bi p.t.m), .int .u64 p.u.lo, .int .u64 p.u.hi, .int .i64 p.s.lo, .int .i64 p.s.hi]) ?_ ?_
  · intro w M; have c := M.c6 3; go_simp
  try simp only [Act.put, ptA, ptB, ptC]
  refine Gw.sq (.agg #[.int .u64 (bi (wtC x v).t.v), .int .u64 (bi (wtC x v).t.m), .int .u64 ((wtC x v).u.lo), .int .u64 ((wtC x v).u.hi), .int .i64 ((wtC x v).s.lo), .int .i64 ((wtC x v).s.hi)]) ?_ ?_
  · intro w M; have c := M.c6 5; go_simp
  try simp only [Act.put, ptA, ptB, ptC]
  refine Gw.sw (.bool true) ?_ (hy := by intro w; have e0 := (al_eq hj hb1).1; have e1 := X_eq2 p (wtC x v) e0; have e2 := X_guard .eql; clear e0; go_simp)
  try simp only [Act.put, ptA, ptB, ptC]
  refine Gw.sw (.bool true) ?_
  try simp only [Act.put, ptA, ptB, ptC]
  refine Gw.sw (.bool true) ?_
  try simp only [Act.put, ptA, ptB, ptC]
  refine Gw.sq (.agg #[.int .u64 (bi q.t.v), .int .u64 (bi q.t.m), .int .u64 q.u.lo, .int .u64 q.u.hi, .int .i64 q.s.lo, .int .i64 q.s.hi]) ?_ ?_
  · intro w M; have c := M.c6 2; go_simp
  try simp only [Act.put, ptA, ptB, ptC]
  refine Gw.sq (.agg #[.int .u64 (bi (wtC y u).t.v), .int .u64 (bi (wtC y u).t.m), .int .u64 ((wtC y u).u.lo), .int .u64 ((wtC y u).u.hi), .int .i64 ((wtC y u).s.lo), .int .i64 ((wtC y u).s.hi)]) ?_ ?_
  · intro w M; have c := M.c6 4; go_simp
  try simp only [Act.put, ptA, ptB, ptC]
  refine Gw.sw (.bool true) ?_ (hy := by intro w; have e0 := (al_eq hj hb1).2; have e1 := X_eq2 q (wtC y u) e0; have e2 := X_guard .eql; clear e0; go_simp)
  try simp only [Act.put, ptA, ptB, ptC]
  refine Gw.sw (.bool true) ?_
  try simp only [Act.put, ptA, ptB, ptC]
  refine Gw.sw (.bool true) ?_
  try simp only [Act.put, ptA, ptB, ptC]
  refine Gw.sw (.bool true) ?_
  try simp only [Act.put, ptA, ptB, ptC]
  refine Gw.sk (.bool true) 29 #[] (fun w M => known5 w) ?_
  try simp only [Act.put, ptA, ptB, ptC]
  refine Gw.sw (.bool true) ?_
  try simp only [Act.put, ptA, ptB, ptC]
  refine Gw.sw (.bool true) ?_
  try simp only [Act.put, ptA, ptB, ptC]
  exact fun z M => HK.out _ _ _ _ _ _ _ _ _ _ _ _ _ _ _ _ _ z M
noncomputable def brs_S_r10_10C : Code := (Tryz.f8.body.bind (Rg.findR 10)).getD .skip
set_option maxHeartbeats 4000000 in
theorem brs_S_r10_10 (op : Int) (wide : Bool) (x y : C) (v u : BitVec 64) (hx : inX x) (hy : inX y) (p q : C) (hb1 : branchC op wide (Wd.jumpV op wide (bi v) (bi u)) (wtC x v) (wtC y u) = some (p, q)) (mp : mayC p) (mq : mayC q) (ip : inC p v = true) (iq : inC q u = true) (wp : withC p (wtC x v) = true) (wq : withC q (wtC y u) = true) (p2 q2 : C) (hb2 : branchC op wide (!(Wd.jumpV op wide (bi v) (bi u))) (wtC x v) (wtC y u) = some (p2, q2)) (m2 : mayC p2 ∧ mayC q2 ∧ withC p2 (wtC x v) = true ∧ withC q2 (wtC y u) = true) (hj : Wd.jumpOk op = true) {w0 : World}  {K : Act → World → Prop} {Q0 : Exit → Act → World → Prop} {d7_12 d7_11 d5_11 d5_10 d1_1 d1_0 : Nat} {u0 u1 u2 u3 u4 u5 u6 u7 u10 u11 u12 u13 u17 u18 u19 u21 u22 u23 u24 u25 u26 u27 u28 u29 u30 u31 u32 u33 u34 u35 u36 u37 u38 u39 u40 u41 u42 u43 u44 u45 u46 u47 u48 u49 u50 u51 u52 u53 u54 u55 u56 u57 u58 u59 u60 u61 u62 u63 u64 u65 u66 u67 u68 u69 u70 u71 u72 u73 u74 u75 u76 u77 u78 u79 u80 u81 u82 u83 u84 u85 u86 u87 u88 u89 u90 u91 u92 u93 u94 u95 u96 u97 u98 u99 u100 u101 u102 u103 u104 u105 u106 u107 u108 u109 u110 u111 u112 u113 u114 u115 u116 u117 u118 u119 u120 u121 u122 u123 u124 u125 u126 u127 u128 u129 u130 u131 u132 u133 u134 u135 u136 u137 u138 u139 u140 u141 u142 u143 u144 u145 : Value}
    (hQ : ∀ c a d v w, Q0 (.panic c) (Act.put a d v) w → Q0 (.panic c) a w)
    (hK : ∀ (t129 t130 t131 t132 t133 t134 t135 t136 t137 t138 t139 t140 t141 t142 t143 t144 t145 : Value) (z : World), Gw.Mem w0 [(d7_12, .cells #[.int .u64 (bi q2.t.v), .int .u64 (bi q2.t.m), .int .u64 q2.u.lo, .int .u64 q2.u.hi, .int .i64 q2.s.lo, .int .i64 q2.s.hi] 30), (d7_11, .cells #[.int .u64 (bi p2.t.v), .int .u64 (bi p2.t.m), .int .u64 p2.u.lo, .int .u64 p2.u.hi, .int .i64 p2.s.lo, .int .i64 p2.s.hi] 30), (d5_11, .cells #[.int .u64 (bi q.t.v), .int .u64 (bi q.t.m), .int .u64 q.u.lo, .int .u64 q.u.hi, .int .i64 q.s.lo, .int .i64 q.s.hi] 30), (d5_10, .cells #[.int .u64 (bi p.t.v), .int .u64 (bi p.t.m), .int .u64 p.u.lo, .int .u64 p.u.hi, .int .i64 p.s.lo, .int .i64 p.s.hi] 30), (d1_1, .cells #[.int .u64 (bi (wtC y u).t.v), .int .u64 (bi (wtC y u).t.m), .int .u64 ((wtC y u).u.lo), .int .u64 ((wtC y u).u.hi), .int .i64 ((wtC y u).s.lo), .int .i64 ((wtC y u).s.hi)] 30), (d1_0, .cells #[.int .u64 (bi (wtC x v).t.v), .int .u64 (bi (wtC x v).t.m), .int .u64 ((wtC x v).u.lo), .int .u64 ((wtC x v).u.hi), .int .i64 ((wtC x v).s.lo), .int .i64 ((wtC x v).s.hi)] 30)] z → K ⟨#[u0, u1, u2, u3, u4, u5, u6, u7, .pointer (some ⟨d1_0, 0, none⟩), .pointer (some ⟨d1_1, 0, none⟩), u10, u11, .bool true, u13, .bool true, .pointer (some ⟨d5_10, 0, none⟩), .pointer (some ⟨d5_11, 0, none⟩), u17, u18, u19, .bool true, u21, u22, u23, u24, u25, u26, u27, u28, u29, u30, u31, u32, u33, u34, u35, u36, u37, u38, u39, u40, u41, u42, u43, u44, u45, u46, u47, u48, u49, u50, u51, u52, u53, u54, u55, u56, u57, u58, u59, u60, u61, u62, u63, u64, u65, u66, u67, u68, u69, u70, u71, u72, u73, u74, u75, u76, u77, u78, u79, u80, u81, u82, u83, u84, u85, u86, u87, u88, u89, u90, u91, u92, u93, u94, u95, u96, u97, u98, u99, u100, u101, u102, u103, u104, u105, u106, u107, u108, u109, u110, u111, u112, u113, u114, u115, u116, u117, u118, u119, u120, u121, u122, u123, u124, u125, u126, u127, u128, t129, t130, t131, t132, t133, t134, t135, t136, t137, t138, t139, t140, t141, t142, t143, t144, t145], []⟩ z) (wy : World) (M : Gw.Mem w0 [(d7_12, .cells #[.int .u64 (bi q2.t.v), .int .u64 (bi q2.t.m), .int .u64 q2.u.lo, .int .u64 q2.u.hi, .int .i64 q2.s.lo, .int .i64 q2.s.hi] 30), (d7_11, .cells #[.int .u64 (bi p2.t.v), .int .u64 (bi p2.t.m), .int .u64 p2.u.lo, .int .u64 p2.u.hi, .int .i64 p2.s.lo, .int .i64 p2.s.hi] 30), (d5_11, .cells #[.int .u64 (bi q.t.v), .int .u64 (bi q.t.m), .int .u64 q.u.lo, .int .u64 q.u.hi, .int .i64 q.s.lo, .int .i64 q.s.hi] 30), (d5_10, .cells #[.int .u64 (bi p.t.v), .int .u64 (bi p.t.m), .int .u64 p.u.lo, .int .u64 p.u.hi, .int .i64 p.s.lo, .int .i64 p.s.hi] 30), (d1_1, .cells #[.int .u64 (bi (wtC y u).t.v), .int .u64 (bi (wtC y u).t.m), .int .u64 ((wtC y u).u.lo), .int .u64 ((wtC y u).u.hi), .int .i64 ((wtC y u).s.lo), .int .i64 ((wtC y u).s.hi)] 30), (d1_0, .cells #[.int .u64 (bi (wtC x v).t.v), .int .u64 (bi (wtC x v).t.m), .int .u64 ((wtC x v).u.lo), .int .u64 ((wtC x v).u.hi), .int .i64 ((wtC x v).s.lo), .int .i64 ((wtC x v).s.hi)] 30)] wy) :
    brs_S_r10_10C.wp Tryz.prog (Exit.then K Q0) ⟨#[u0, u1, u2, u3, u4, u5, u6, u7, .pointer (some ⟨d1_0, 0, none⟩), .pointer (some ⟨d1_1, 0, none⟩), u10, u11, u12, u13, .bool true, .pointer (some ⟨d5_10, 0, none⟩), .pointer (some ⟨d5_11, 0, none⟩), u17, u18, u19, .bool true, u21, u22, u23, u24, u25, u26, u27, u28, u29, u30, u31, u32, u33, u34, u35, u36, u37, u38, u39, u40, u41, u42, u43, u44, u45, u46, u47, u48, u49, u50, u51, u52, u53, u54, u55, u56, u57, u58, u59, u60, u61, u62, u63, u64, u65, u66, u67, u68, u69, u70, u71, u72, u73, u74, u75, u76, u77, u78, u79, u80, u81, u82, u83, u84, u85, u86, u87, u88, u89, u90, u91, u92, u93, u94, u95, u96, u97, u98, u99, u100, u101, u102, u103, u104, u105, u106, u107, u108, u109, u110, u111, u112, u113, u114, u115, u116, u117, u118, u119, u120, u121, u122, u123, u124, u125, u126, u127, u128, u129, u130, u131, u132, u133, u134, u135, u136, u137, u138, u139, u140, u141, u142, u143, u144, u145], []⟩ wy := by
  have HK := Lib.hid hK
  clear hK
  conv => arg 2; whnf
  refine Gw.line _ M ?_
  clear M wy
  refine Gw.sw (.bool true) ?_
  try simp only [Act.put, ptA, ptB, ptC]
  refine Gw.sw (.bool true) ?_
  try simp only [Act.put, ptA, ptB, ptC]
  refine Gw.su ?_
  try simp only [Act.put, ptA, ptB, ptC]
  refine Gw.su ?_
  try simp only [Act.put, ptA, ptB, ptC]
  refine Gw.su ?_
  try simp only [Act.put, ptA, ptB, ptC]
  refine Gw.su ?_
  try simp only [Act.put, ptA, ptB, ptC]
  refine Gw.su ?_
  try simp only [Act.put, ptA, ptB, ptC]
  refine Gw.su ?_
  try simp only [Act.put, ptA, ptB, ptC]
  refine Gw.su ?_
  try simp only [Act.put, ptA, ptB, ptC]
  refine Gw.su ?_
  try simp only [Act.put, ptA, ptB, ptC]
  refine Gw.su ?_
  try simp only [Act.put, ptA, ptB, ptC]
  refine Gw.su ?_
  try simp only [Act.put, ptA, ptB, ptC]
  refine Gw.su ?_
  try simp only [Act.put, ptA, ptB, ptC]
  refine Gw.sw (.bool true) ?_
  try simp only [Act.put, ptA, ptB, ptC]
  refine Gw.sw (.bool true) ?_
  try simp only [Act.put, ptA, ptB, ptC]
  refine Gw.sk (.bool true) 29 #[] (fun w M => known5 w) ?_
  try simp only [Act.put, ptA, ptB, ptC]
  refine Gw.sw (.bool true) ?_
  try simp only [Act.put, ptA, ptB, ptC]
  refine Gw.sw (.bool true) ?_
  try simp only [Act.put, ptA, ptB, ptC]
  exact fun z M => HK.out _ _ _ _ _ _ _ _ _ _ _ _ _ _ _ _ _ z M
set_option maxHeartbeats 4000000 in
theorem brs_S (op : Int) (wide : Bool) (x y : C) (v u : BitVec 64) (hx : inX x) (hy : inX y) (p q : C) (hb1 : branchC op wide (Wd.jumpV op wide (bi v) (bi u)) (wtC x v) (wtC y u) = some (p, q)) (mp : mayC p) (mq : mayC q) (ip : inC p v = true) (iq : inC q u = true) (wp : withC p (wtC x v) = true) (wq : withC q (wtC y u) = true) (p2 q2 : C) (hb2 : branchC op wide (!(Wd.jumpV op wide (bi v) (bi u))) (wtC x v) (wtC y u) = some (p2, q2)) (m2 : mayC p2 ∧ mayC q2 ∧ withC p2 (wtC x v) = true ∧ withC q2 (wtC y u) = true) (w : World) :
    Calls Tryz.prog 8 #[.int .i64 op, .bool wide, .agg #[.int .u64 (bi x.t.v), .int .u64 (bi x.t.m), .int .u64 x.u.lo, .int .u64 x.u.hi, .int .i64 x.s.lo, .int .i64 x.s.hi], .agg #[.int .u64 (bi y.t.v), .int .u64 (bi y.t.m), .int .u64 y.u.lo, .int .u64 y.u.hi, .int .i64 y.s.lo, .int .i64 y.s.hi], .int .u64 (bi v), .int .u64 (bi u)] w fun e w' => e = .returned (.bool true) ∧ Below w.heap.size w w' := by
  go_enter Tryz.func8, Tryz.ntmps8
  have M := Gw.Mem.nil w
  refine wp_seq (brs_N_r0 op wide x y v u hx hy p q hb1 mp mq ip iq wp wq (fun _ _ d _ _ h => by cases d <;> exact h) ?_ _ M)
  clear M
  intro _ d1_0 d1_1 z1 M
  refine wp_seq (brs_N_r1 op wide x y v u hx hy p q hb1 mp mq ip iq wp wq (fun _ _ d _ _ h => by cases d <;> exact h) ?_ _ M)
  clear M
  intro _ _ _ z2 M
  refine wp_seq (brs_N_r2 op wide x y v u hx hy p q hb1 mp mq ip iq wp wq (fun _ _ d _ _ h => by cases d <;> exact h) ?_ _ M)
  clear M
  intro _ _ _ z3 M
  refine wp_seq (brs_N_r3 op wide x y v u hx hy p q hb1 mp mq ip iq wp wq (fun _ _ d _ _ h => by cases d <;> exact h) ?_ _ M)
  clear M
  intro _ _ _ _ _ _ _ _ z4 M
  refine wp_seq (brs_N_r4 op wide x y v u hx hy p q hb1 mp mq ip iq wp wq (fun _ _ d _ _ h => by cases d <;> exact h) ?_ _ M)
  clear M
  intro _ _ _ _ _ _ _ _ _ _ d5_10 d5_11 z5 M
  refine wp_seq ?_
  refine wp_seq (brs_N_r5 op wide x y v u hx hy p q hb1 mp mq ip iq wp wq (fun _ _ d _ _ h => by cases d <;> exact h) ?_ _ M)
  clear M
  intro _ _ _ _ _ _ _ _ _ _ _ _ _ _ _ _ _ _ _ _ _ _ _ _ _ _ _ _ _ _ _ _ _ _ _ z6 M
  refine wp_cond_false rfl ?_
  refine wp_skip ?_
  try simp only [Exit.inBlock, Exit.then]
  refine wp_seq (brs_S_r7 op wide x y v u hx hy p q hb1 mp mq ip iq wp wq p2 q2 hb2 m2 (fun _ _ d _ _ h => by cases d <;> exact h) ?_ _ M)
  clear M
  intro _ _ _ _ _ _ _ _ _ _ _ d7_11 d7_12 z7 M
  refine wp_seq ?_
  refine wp_seq (brs_S_r8 op wide x y v u hx hy p q hb1 mp mq ip iq wp wq p2 q2 hb2 m2 (fun _ _ d _ _ h => by cases d <;> exact h) ?_ _ M)
  clear M
  intro _ _ _ _ _ _ _ _ _ _ _ _ _ _ _ _ _ _ _ _ _ _ _ _ _ _ _ _ _ _ _ _ _ _ _ _ z8 M
  refine wp_cond_false rfl ?_
  refine wp_skip ?_
  try simp only [Exit.inBlock, Exit.then]
  cases hs0 : (Wd.jumpOk op)
  · skip
    refine wp_seq (brs_S_r10 op wide x y v u hx hy p q hb1 mp mq ip iq wp wq p2 q2 hb2 m2 hs0 (fun _ _ d _ _ h => by cases d <;> exact h) ?_ _ M)
    clear M
    intro _ _ _ _ _ _ _ _ _ _ _ _ _ _ _ _ _ z9 M
    refine wp_ret ?_
    try simp only [Exit.inBlock, Exit.then]
    refine bodyPost_ret (by simp [results, Tryz.results8, go_sem]; try rfl) rfl ?_
    exact ⟨rfl, M.below⟩
  · skip
    refine wp_seq (brs_S_r10_10 op wide x y v u hx hy p q hb1 mp mq ip iq wp wq p2 q2 hb2 m2 hs0 (fun _ _ d _ _ h => by cases d <;> exact h) ?_ _ M)
    clear M
    intro _ _ _ _ _ _ _ _ _ _ _ _ _ _ _ _ _ z10 M
    refine wp_ret ?_
    try simp only [Exit.inBlock, Exit.then]
    refine bodyPost_ret (by simp [results, Tryz.results8, go_sem]; try rfl) rfl ?_
    exact ⟨rfl, M.below⟩
theorem brs_all (op : Int) (wide : Bool) (x y : C) (v u : BitVec 64) (hx : inX x) (hy : inX y) (w : World) :
    Calls Tryz.prog 8 #[.int .i64 op, .bool wide, .agg #[.int .u64 (bi x.t.v), .int .u64 (bi x.t.m), .int .u64 x.u.lo, .int .u64 x.u.hi, .int .i64 x.s.lo, .int .i64 x.s.hi], .agg #[.int .u64 (bi y.t.v), .int .u64 (bi y.t.m), .int .u64 y.u.lo, .int .u64 y.u.hi, .int .i64 y.s.lo, .int .i64 y.s.hi], .int .u64 (bi v), .int .u64 (bi u)] w fun e w' => e = .returned (.bool true) ∧ Below w.heap.size w w' := by
  obtain ⟨ma, ia⟩ := wt_ok x v hx.1 hx.2
  obtain ⟨mb, ib⟩ := wt_ok y u hy.1 hy.2
  obtain ⟨p, q, e1, ip, iq⟩ := branch_has op wide (Wd.jumpV op wide (bi v) (bi u)) ma mb ia ib (fun _ => rfl)
  obtain ⟨⟨mp, wp⟩, mq, wq⟩ := branch_ok op wide (Wd.jumpV op wide (bi v) (bi u)) ma mb p q e1
  cases e2 : branchC op wide (!(Wd.jumpV op wide (bi v) (bi u))) (wtC x v) (wtC y u) with
  | none => exact brs_N op wide x y v u hx hy p q e1 mp mq ip iq wp wq e2 w
  | some r =>
    obtain ⟨p2, q2⟩ := r
    obtain ⟨⟨m2, w2⟩, m3, w3⟩ := branch_ok op wide (!(Wd.jumpV op wide (bi v) (bi u))) ma mb p2 q2 e2
    exact brs_S op wide x y v u hx hy p q e1 mp mq ip iq wp wq p2 q2 e2 ⟨m2, m3, w2, w3⟩ w
end Go.Proofs.YtcimihckhobniaaGreat.Sc
