/-
  What the program's layer 5 tells: contracts, thirteenth part: what the statements' own functions tell. Conditions: scalars may be, where that is said.
-/
import Derived.Test.YtcimihckhobniaaGreatZScalarP12
import Derived.Laws.StructEq
namespace Go.Proofs.YtcimihckhobniaaGreat.Sc
open Go.RowKit Tn Ow Sp
set_option linter.unusedVariables false
set_option linter.unusedSimpArgs false
set_option maxRecDepth 100000
theorem ofk (n : Int) (v : BitVec 64) (h : bi v = n) (w : World) : Calls Tryz.prog 17 #[.int .u64 n] w fun e w' => e = .returned (.agg #[.int .u64 (bi (ofC v).t.v), .int .u64 (bi (ofC v).t.m), .int .u64 ((ofC v).u.lo), .int .u64 ((ofC v).u.hi), .int .i64 ((ofC v).s.lo), .int .i64 ((ofC v).s.hi)]) ∧ Below w.heap.size w w' := by
  subst h; exact of5 v w
theorem ink (x : C) (n : Int) (v : BitVec 64) (r : Bool) (h : bi v = n) (hr : inC x v = r) (w : World) : Calls Tryz.prog 23 #[.agg #[.int .u64 (bi x.t.v), .int .u64 (bi x.t.m), .int .u64 x.u.lo, .int .u64 x.u.hi, .int .i64 x.s.lo, .int .i64 x.s.hi], .int .u64 n] w fun e w' => e = .returned (.bool r) ∧ Below w.heap.size w w' := by
  subst h hr; exact in5 x v w
theorem alu00 (w : World) : Calls Tryz.prog 37 #[.int .i64 0, .bool true, .int .u64 0, .int .u64 0] w fun e w' => e = .returned (.tuple #[.int .u64 (Wd.aluV 0 true 0 0), .bool true]) ∧ Below w.heap.size w w' := Gw.pure (L1.alu_any 0 true 0 0 bd0.1 bd0.2 bd0.1 bd0.2 w)
theorem made7 (w : World) : Calls Tryz.prog 76 #[.int .i64 0, .bool true, .agg #[.int .u64 (bi (ofC 3#64).t.v), .int .u64 (bi (ofC 3#64).t.m), .int .u64 ((ofC 3#64).u.lo), .int .u64 ((ofC 3#64).u.hi), .int .i64 ((ofC 3#64).s.lo), .int .i64 ((ofC 3#64).s.hi)], .agg #[.int .u64 (bi (ofC 4#64).t.v), .int .u64 (bi (ofC 4#64).t.m), .int .u64 ((ofC 4#64).u.lo), .int .u64 ((ofC 4#64).u.hi), .int .i64 ((ofC 4#64).s.lo), .int .i64 ((ofC 4#64).s.hi)]] w fun e w' => e = .returned (.tuple #[.int .u64 7, .bool true]) ∧ Below w.heap.size w w' := by
  have := made5 0 true (ofC 3#64) (ofC 4#64) (may_ofC _) (may_ofC _) w
  rw [show madeN 0 true (ofC 3#64) (ofC 4#64) = 7 from by kernel_rfl, show (madeB 0 (ofC 3#64) (ofC 4#64) && Wd.aluOk 0) = true from by kernel_rfl] at this
  exact this
noncomputable def alu7_r0C : Code := (Tryz.f30.body.bind (Rg.findR 0)).getD .skip
set_option maxHeartbeats 4000000 in
theorem alu7_r0  {w0 : World}  {K : Act → World → Prop} {Q0 : Exit → Act → World → Prop} {u0 u1 u4 u5 u6 u7 u8 u9 u10 u11 u12 u13 u14 u15 u16 u17 u18 u19 u20 u21 u22 u23 u24 u25 u26 u27 u28 u29 u30 u31 u32 u33 u34 u35 u36 u37 u38 u39 u40 u41 u42 u43 u44 u45 u46 u47 u48 u49 u50 u51 u52 u53 u54 u55 : Value}
    (hQ : ∀ c a d v w, Q0 (.panic c) (Act.put a d v) w → Q0 (.panic c) a w)
    (hK : ∀ (d1_0 d1_1 d1_2 : Nat) (z : World), Gw.Mem w0 [(d1_2, .cells #[.int .u64 0, .int .u64 0, .int .u64 0, .int .u64 0, .int .i64 0, .int .i64 0] 30), (d1_1, .cells #[.int .u64 (bi (ofC 4#64).t.v), .int .u64 (bi (ofC 4#64).t.m), .int .u64 ((ofC 4#64).u.lo), .int .u64 ((ofC 4#64).u.hi), .int .i64 ((ofC 4#64).s.lo), .int .i64 ((ofC 4#64).s.hi)] 30), (d1_0, .cells #[.int .u64 (bi (ofC 3#64).t.v), .int .u64 (bi (ofC 3#64).t.m), .int .u64 ((ofC 3#64).u.lo), .int .u64 ((ofC 3#64).u.hi), .int .i64 ((ofC 3#64).s.lo), .int .i64 ((ofC 3#64).s.hi)] 30)] z → K ⟨#[u0, u1, .agg #[.int .u64 (bi (ofC 3#64).t.v), .int .u64 (bi (ofC 3#64).t.m), .int .u64 ((ofC 3#64).u.lo), .int .u64 ((ofC 3#64).u.hi), .int .i64 ((ofC 3#64).s.lo), .int .i64 ((ofC 3#64).s.hi)], .agg #[.int .u64 (bi (ofC 4#64).t.v), .int .u64 (bi (ofC 4#64).t.m), .int .u64 ((ofC 4#64).u.lo), .int .u64 ((ofC 4#64).u.hi), .int .i64 ((ofC 4#64).s.lo), .int .i64 ((ofC 4#64).s.hi)], u4, u5, .pointer (some ⟨d1_0, 0, none⟩), .pointer (some ⟨d1_1, 0, none⟩), .pointer (some ⟨d1_2, 0, none⟩), u9, u10, u11, u12, u13, u14, u15, u16, u17, u18, u19, u20, u21, u22, u23, u24, u25, u26, u27, u28, u29, u30, u31, u32, u33, u34, u35, u36, u37, u38, u39, u40, u41, u42, u43, u44, u45, u46, u47, u48, u49, u50, u51, u52, u53, u54, u55], []⟩ z) (wy : World) (M : Gw.Mem w0 [] wy) :
    alu7_r0C.wp Tryz.prog (Exit.then K Q0) ⟨#[u0, u1, .agg #[.int .u64 (bi (ofC 3#64).t.v), .int .u64 (bi (ofC 3#64).t.m), .int .u64 ((ofC 3#64).u.lo), .int .u64 ((ofC 3#64).u.hi), .int .i64 ((ofC 3#64).s.lo), .int .i64 ((ofC 3#64).s.hi)], .agg #[.int .u64 (bi (ofC 4#64).t.v), .int .u64 (bi (ofC 4#64).t.m), .int .u64 ((ofC 4#64).u.lo), .int .u64 ((ofC 4#64).u.hi), .int .i64 ((ofC 4#64).s.lo), .int .i64 ((ofC 4#64).s.hi)], u4, u5, u6, u7, u8, u9, u10, u11, u12, u13, u14, u15, u16, u17, u18, u19, u20, u21, u22, u23, u24, u25, u26, u27, u28, u29, u30, u31, u32, u33, u34, u35, u36, u37, u38, u39, u40, u41, u42, u43, u44, u45, u46, u47, u48, u49, u50, u51, u52, u53, u54, u55], []⟩ wy := by
  have HK := Lib.hid hK
  clear hK
  conv => arg 2; whnf
  refine Gw.line _ M ?_
  clear M wy
  refine Gw.ss ?_
  intro w M K' hK
  go_simp
  have M1 := M.alloc (.cells #[.int .u64 (bi (ofC 3#64).t.v), .int .u64 (bi (ofC 3#64).t.m), .int .u64 ((ofC 3#64).u.lo), .int .u64 ((ofC 3#64).u.hi), .int .i64 ((ofC 3#64).s.lo), .int .i64 ((ofC 3#64).s.hi)] 30)
  generalize w.heap.size = d1_0 at M1 ⊢
  refine hK.out _ _ _ M1 ?_
  clear hK K' M1 M w
  try simp only [Act.put, ptA, ptB, ptC]
  refine Gw.ss ?_
  intro w M K' hK
  go_simp
  have M1 := M.alloc (.cells #[.int .u64 (bi (ofC 4#64).t.v), .int .u64 (bi (ofC 4#64).t.m), .int .u64 ((ofC 4#64).u.lo), .int .u64 ((ofC 4#64).u.hi), .int .i64 ((ofC 4#64).s.lo), .int .i64 ((ofC 4#64).s.hi)] 30)
  generalize w.heap.size = d1_1 at M1 ⊢
  refine hK.out _ _ _ M1 ?_
  clear hK K' M1 M w
  try simp only [Act.put, ptA, ptB, ptC]
  refine Gw.ss ?_
  intro w M K' hK
  go_simp
  have M1 := M.alloc (.cells #[.int .u64 0, .int .u64 0, .int .u64 0, .int .u64 0, .int .i64 0, .int .i64 0] 30)
  generalize w.heap.size = d1_2 at M1 ⊢
  refine hK.out _ _ _ M1 ?_
  clear hK K' M1 M w
  try simp only [Act.put, ptA, ptB, ptC]
  exact fun z M => HK.out _ _ _ z M
noncomputable def alu7_r1C : Code := (Tryz.f30.body.bind (Rg.findR 1)).getD .skip
set_option maxHeartbeats 4000000 in
theorem alu7_r1  {w0 : World}  {K : Act → World → Prop} {Q0 : Exit → Act → World → Prop} {d1_2 d1_1 d1_0 : Nat} {u2 u3 u4 u5 u6 u7 u8 u9 u10 u11 u12 u13 u14 u15 u16 u17 u18 u19 u20 u21 u22 u23 u24 u25 u26 u27 u28 u29 u30 u31 u32 u33 u34 u35 u36 u37 u38 u39 u40 u41 u42 u43 u44 u45 u46 u47 u48 u49 u50 u51 u52 u53 u54 u55 : Value}
    (hQ : ∀ c a d v w, Q0 (.panic c) (Act.put a d v) w → Q0 (.panic c) a w)
    (hK : ∀ (t9 t13 t14 t15 t16 t17 t18 : Value) (z : World), Gw.Mem w0 [(d1_2, .cells #[.int .u64 0, .int .u64 0, .int .u64 0, .int .u64 0, .int .i64 0, .int .i64 0] 30), (d1_1, .cells #[.int .u64 (bi (ofC 4#64).t.v), .int .u64 (bi (ofC 4#64).t.m), .int .u64 ((ofC 4#64).u.lo), .int .u64 ((ofC 4#64).u.hi), .int .i64 ((ofC 4#64).s.lo), .int .i64 ((ofC 4#64).s.hi)] 30), (d1_0, .cells #[.int .u64 (bi (ofC 3#64).t.v), .int .u64 (bi (ofC 3#64).t.m), .int .u64 ((ofC 3#64).u.lo), .int .u64 ((ofC 3#64).u.hi), .int .i64 ((ofC 3#64).s.lo), .int .i64 ((ofC 3#64).s.hi)] 30)] z → K ⟨#[.int .i64 0, .bool true, u2, u3, u4, u5, u6, u7, u8, t9, .bool true, u11, u12, t13, t14, t15, t16, t17, t18, u19, u20, u21, u22, u23, u24, u25, u26, u27, u28, u29, u30, u31, u32, u33, u34, u35, u36, u37, u38, u39, u40, u41, u42, u43, u44, u45, u46, u47, u48, u49, u50, u51, u52, u53, u54, u55], []⟩ z) (wy : World) (M : Gw.Mem w0 [(d1_2, .cells #[.int .u64 0, .int .u64 0, .int .u64 0, .int .u64 0, .int .i64 0, .int .i64 0] 30), (d1_1, .cells #[.int .u64 (bi (ofC 4#64).t.v), .int .u64 (bi (ofC 4#64).t.m), .int .u64 ((ofC 4#64).u.lo), .int .u64 ((ofC 4#64).u.hi), .int .i64 ((ofC 4#64).s.lo), .int .i64 ((ofC 4#64).s.hi)] 30), (d1_0, .cells #[.int .u64 (bi (ofC 3#64).t.v), .int .u64 (bi (ofC 3#64).t.m), .int .u64 ((ofC 3#64).u.lo), .int .u64 ((ofC 3#64).u.hi), .int .i64 ((ofC 3#64).s.lo), .int .i64 ((ofC 3#64).s.hi)] 30)] wy) :
    alu7_r1C.wp Tryz.prog (Exit.then K Q0) ⟨#[.int .i64 0, .bool true, u2, u3, u4, u5, u6, u7, u8, u9, u10, u11, u12, u13, u14, u15, u16, u17, u18, u19, u20, u21, u22, u23, u24, u25, u26, u27, u28, u29, u30, u31, u32, u33, u34, u35, u36, u37, u38, u39, u40, u41, u42, u43, u44, u45, u46, u47, u48, u49, u50, u51, u52, u53, u54, u55], []⟩ wy := by
  have HK := Lib.hid hK
  clear hK
  conv => arg 2; whnf
  refine Gw.line _ M ?_
  clear M wy
  refine Gw.sw (.int .i64 0) ?_
  try simp only [Act.put, ptA, ptB, ptC]
  refine Gw.sw (.bool true) ?_
  try simp only [Act.put, ptA, ptB, ptC]
  refine Gw.sk (.tuple #[.int .u64 (Wd.aluV 0 true 0 0), .bool true]) 37 #[.int .i64 0, .bool true, .int .u64 0, .int .u64 0] (fun w M => alu00 w) ?_
  try simp only [Act.put, ptA, ptB, ptC]
  refine Gw.sw (.tuple #[.int .u64 (Wd.aluV 0 true 0 0), .bool true]) ?_
  try simp only [Act.put, ptA, ptB, ptC]
  refine Gw.sw (.int .u64 (Wd.aluV 0 true 0 0)) ?_
  try simp only [Act.put, ptA, ptB, ptC]
  refine Gw.sw (.bool true) ?_
  try simp only [Act.put, ptA, ptB, ptC]
  refine Gw.sw (.int .u64 (Wd.aluV 0 true 0 0)) ?_
  try simp only [Act.put, ptA, ptB, ptC]
  refine Gw.sw (.bool true) ?_
  try simp only [Act.put, ptA, ptB, ptC]
  exact fun z M => HK.out _ _ _ _ _ _ _ z M
noncomputable def alu7_r2C : Code := (Tryz.f30.body.bind (Rg.findR 2)).getD .skip
set_option maxHeartbeats 4000000 in
theorem alu7_r2  {w0 : World}  {K : Act → World → Prop} {Q0 : Exit → Act → World → Prop} {d1_2 d1_1 d1_0 : Nat} {u0 u1 u2 u3 u4 u5 u6 u7 u8 u9 u11 u12 u13 u14 u15 u16 u17 u18 u19 u20 u21 u22 u23 u24 u25 u26 u27 u28 u29 u30 u31 u32 u33 u34 u35 u36 u37 u38 u39 u40 u41 u42 u43 u44 u45 u46 u47 u48 u49 u50 u51 u52 u53 u54 u55 : Value}
    (hQ : ∀ c a d v w, Q0 (.panic c) (Act.put a d v) w → Q0 (.panic c) a w)
    (hK : ∀ (t19 : Value) (z : World), Gw.Mem w0 [(d1_2, .cells #[.int .u64 0, .int .u64 0, .int .u64 0, .int .u64 0, .int .i64 0, .int .i64 0] 30), (d1_1, .cells #[.int .u64 (bi (ofC 4#64).t.v), .int .u64 (bi (ofC 4#64).t.m), .int .u64 ((ofC 4#64).u.lo), .int .u64 ((ofC 4#64).u.hi), .int .i64 ((ofC 4#64).s.lo), .int .i64 ((ofC 4#64).s.hi)] 30), (d1_0, .cells #[.int .u64 (bi (ofC 3#64).t.v), .int .u64 (bi (ofC 3#64).t.m), .int .u64 ((ofC 3#64).u.lo), .int .u64 ((ofC 3#64).u.hi), .int .i64 ((ofC 3#64).s.lo), .int .i64 ((ofC 3#64).s.hi)] 30)] z → K ⟨#[u0, u1, u2, u3, u4, u5, u6, u7, u8, u9, .bool true, u11, u12, u13, u14, u15, u16, u17, u18, t19, .bool false, u21, u22, u23, u24, u25, u26, u27, u28, u29, u30, u31, u32, u33, u34, u35, u36, u37, u38, u39, u40, u41, u42, u43, u44, u45, u46, u47, u48, u49, u50, u51, u52, u53, u54, u55], []⟩ z) (wy : World) (M : Gw.Mem w0 [(d1_2, .cells #[.int .u64 0, .int .u64 0, .int .u64 0, .int .u64 0, .int .i64 0, .int .i64 0] 30), (d1_1, .cells #[.int .u64 (bi (ofC 4#64).t.v), .int .u64 (bi (ofC 4#64).t.m), .int .u64 ((ofC 4#64).u.lo), .int .u64 ((ofC 4#64).u.hi), .int .i64 ((ofC 4#64).s.lo), .int .i64 ((ofC 4#64).s.hi)] 30), (d1_0, .cells #[.int .u64 (bi (ofC 3#64).t.v), .int .u64 (bi (ofC 3#64).t.m), .int .u64 ((ofC 3#64).u.lo), .int .u64 ((ofC 3#64).u.hi), .int .i64 ((ofC 3#64).s.lo), .int .i64 ((ofC 3#64).s.hi)] 30)] wy) :
    alu7_r2C.wp Tryz.prog (Exit.then K Q0) ⟨#[u0, u1, u2, u3, u4, u5, u6, u7, u8, u9, .bool true, u11, u12, u13, u14, u15, u16, u17, u18, u19, u20, u21, u22, u23, u24, u25, u26, u27, u28, u29, u30, u31, u32, u33, u34, u35, u36, u37, u38, u39, u40, u41, u42, u43, u44, u45, u46, u47, u48, u49, u50, u51, u52, u53, u54, u55], []⟩ wy := by
  have HK := Lib.hid hK
  clear hK
  conv => arg 2; whnf
  refine Gw.line _ M ?_
  clear M wy
  refine Gw.sw (.bool true) ?_
  try simp only [Act.put, ptA, ptB, ptC]
  refine Gw.sw (.bool false) ?_
  try simp only [Act.put, ptA, ptB, ptC]
  exact fun z M => HK.out _ z M
noncomputable def alu7_r4C : Code := (Tryz.f30.body.bind (Rg.findR 4)).getD .skip
set_option maxHeartbeats 4000000 in
theorem alu7_r4  {w0 : World}  {K : Act → World → Prop} {Q0 : Exit → Act → World → Prop} {d1_2 d1_1 d1_0 : Nat} {u0 u2 u3 u4 u5 u6 u7 u8 u9 u10 u11 u12 u13 u14 u15 u16 u17 u18 u19 u20 u21 u22 u23 u24 u25 u26 u27 u28 u29 u30 u31 u32 u33 u34 u35 u36 u37 u38 u39 u40 u41 u42 u43 u44 u45 u46 u47 u48 u49 u50 u51 u52 u53 u54 u55 : Value}
    (hQ : ∀ c a d v w, Q0 (.panic c) (Act.put a d v) w → Q0 (.panic c) a w)
    (hK : ∀ (t22 : Value) (z : World), Gw.Mem w0 [(d1_2, .cells #[.int .u64 0, .int .u64 0, .int .u64 0, .int .u64 0, .int .i64 0, .int .i64 0] 30), (d1_1, .cells #[.int .u64 (bi (ofC 4#64).t.v), .int .u64 (bi (ofC 4#64).t.m), .int .u64 ((ofC 4#64).u.lo), .int .u64 ((ofC 4#64).u.hi), .int .i64 ((ofC 4#64).s.lo), .int .i64 ((ofC 4#64).s.hi)] 30), (d1_0, .cells #[.int .u64 (bi (ofC 3#64).t.v), .int .u64 (bi (ofC 3#64).t.m), .int .u64 ((ofC 3#64).u.lo), .int .u64 ((ofC 3#64).u.hi), .int .i64 ((ofC 3#64).s.lo), .int .i64 ((ofC 3#64).s.hi)] 30)] z → K ⟨#[u0, .bool true, u2, u3, u4, u5, u6, u7, u8, u9, u10, u11, u12, u13, u14, u15, u16, u17, u18, u19, u20, u21, t22, .bool false, u24, u25, u26, u27, u28, u29, u30, u31, u32, u33, u34, u35, u36, u37, u38, u39, u40, u41, u42, u43, u44, u45, u46, u47, u48, u49, u50, u51, u52, u53, u54, u55], []⟩ z) (wy : World) (M : Gw.Mem w0 [(d1_2, .cells #[.int .u64 0, .int .u64 0, .int .u64 0, .int .u64 0, .int .i64 0, .int .i64 0] 30), (d1_1, .cells #[.int .u64 (bi (ofC 4#64).t.v), .int .u64 (bi (ofC 4#64).t.m), .int .u64 ((ofC 4#64).u.lo), .int .u64 ((ofC 4#64).u.hi), .int .i64 ((ofC 4#64).s.lo), .int .i64 ((ofC 4#64).s.hi)] 30), (d1_0, .cells #[.int .u64 (bi (ofC 3#64).t.v), .int .u64 (bi (ofC 3#64).t.m), .int .u64 ((ofC 3#64).u.lo), .int .u64 ((ofC 3#64).u.hi), .int .i64 ((ofC 3#64).s.lo), .int .i64 ((ofC 3#64).s.hi)] 30)] wy) :
    alu7_r4C.wp Tryz.prog (Exit.then K Q0) ⟨#[u0, .bool true, u2, u3, u4, u5, u6, u7, u8, u9, u10, u11, u12, u13, u14, u15, u16, u17, u18, u19, u20, u21, u22, u23, u24, u25, u26, u27, u28, u29, u30, u31, u32, u33, u34, u35, u36, u37, u38, u39, u40, u41, u42, u43, u44, u45, u46, u47, u48, u49, u50, u51, u52, u53, u54, u55], []⟩ wy := by
  have HK := Lib.hid hK
  clear hK
  conv => arg 2; whnf
  refine Gw.line _ M ?_
  clear M wy
  refine Gw.sw (.bool true) ?_
  try simp only [Act.put, ptA, ptB, ptC]
  refine Gw.sw (.bool false) ?_
  try simp only [Act.put, ptA, ptB, ptC]
  exact fun z M => HK.out _ z M
noncomputable def alu7_r6C : Code := (Tryz.f30.body.bind (Rg.findR 6)).getD .skip
set_option maxHeartbeats 4000000 in
theorem alu7_r6  {w0 : World}  {K : Act → World → Prop} {Q0 : Exit → Act → World → Prop} {d1_2 d1_1 d1_0 : Nat} {u2 u3 u4 u5 u8 u9 u10 u11 u12 u13 u14 u15 u16 u17 u18 u19 u20 u21 u22 u23 u24 u25 u26 u27 u28 u29 u30 u31 u32 u33 u34 u35 u36 u37 u38 u39 u40 u41 u42 u43 u44 u45 u46 u47 u48 u49 u50 u51 u52 u53 u54 u55 : Value}
    (hQ : ∀ c a d v w, Q0 (.panic c) (Act.put a d v) w → Q0 (.panic c) a w)
    (hK : ∀ (t28 t29 t30 t31 t32 t33 t34 t35 : Value) (z : World), Gw.Mem w0 [(d1_2, .cells #[.int .u64 0, .int .u64 0, .int .u64 0, .int .u64 0, .int .i64 0, .int .i64 0] 30), (d1_1, .cells #[.int .u64 (bi (ofC 4#64).t.v), .int .u64 (bi (ofC 4#64).t.m), .int .u64 ((ofC 4#64).u.lo), .int .u64 ((ofC 4#64).u.hi), .int .i64 ((ofC 4#64).s.lo), .int .i64 ((ofC 4#64).s.hi)] 30), (d1_0, .cells #[.int .u64 (bi (ofC 3#64).t.v), .int .u64 (bi (ofC 3#64).t.m), .int .u64 ((ofC 3#64).u.lo), .int .u64 ((ofC 3#64).u.hi), .int .i64 ((ofC 3#64).s.lo), .int .i64 ((ofC 3#64).s.hi)] 30)] z → K ⟨#[.int .i64 0, .bool true, u2, u3, u4, u5, .pointer (some ⟨d1_0, 0, none⟩), .pointer (some ⟨d1_1, 0, none⟩), u8, u9, u10, .int .u64 7, .bool true, u13, u14, u15, u16, u17, u18, u19, u20, u21, u22, u23, u24, u25, u26, u27, t28, t29, t30, t31, t32, t33, t34, t35, u36, u37, u38, u39, u40, u41, u42, u43, u44, u45, u46, u47, u48, u49, u50, u51, u52, u53, u54, u55], []⟩ z) (wy : World) (M : Gw.Mem w0 [(d1_2, .cells #[.int .u64 0, .int .u64 0, .int .u64 0, .int .u64 0, .int .i64 0, .int .i64 0] 30), (d1_1, .cells #[.int .u64 (bi (ofC 4#64).t.v), .int .u64 (bi (ofC 4#64).t.m), .int .u64 ((ofC 4#64).u.lo), .int .u64 ((ofC 4#64).u.hi), .int .i64 ((ofC 4#64).s.lo), .int .i64 ((ofC 4#64).s.hi)] 30), (d1_0, .cells #[.int .u64 (bi (ofC 3#64).t.v), .int .u64 (bi (ofC 3#64).t.m), .int .u64 ((ofC 3#64).u.lo), .int .u64 ((ofC 3#64).u.hi), .int .i64 ((ofC 3#64).s.lo), .int .i64 ((ofC 3#64).s.hi)] 30)] wy) :
    alu7_r6C.wp Tryz.prog (Exit.then K Q0) ⟨#[.int .i64 0, .bool true, u2, u3, u4, u5, .pointer (some ⟨d1_0, 0, none⟩), .pointer (some ⟨d1_1, 0, none⟩), u8, u9, u10, u11, u12, u13, u14, u15, u16, u17, u18, u19, u20, u21, u22, u23, u24, u25, u26, u27, u28, u29, u30, u31, u32, u33, u34, u35, u36, u37, u38, u39, u40, u41, u42, u43, u44, u45, u46, u47, u48, u49, u50, u51, u52, u53, u54, u55], []⟩ wy := by
  have HK := Lib.hid hK
  clear hK
  conv => arg 2; whnf
  refine Gw.line _ M ?_
  clear M wy
  refine Gw.sw (.int .i64 0) ?_
  try simp only [Act.put, ptA, ptB, ptC]
  refine Gw.sw (.bool true) ?_
  try simp only [Act.put, ptA, ptB, ptC]
  refine Gw.sq (.agg #[.int .u64 (bi (ofC 3#64).t.v), .int .u64 (bi (ofC 3#64).t.m), .int .u64 ((ofC 3#64).u.lo), .int .u64 ((ofC 3#64).u.hi), .int .i64 ((ofC 3#64).s.lo), .int .i64 ((ofC 3#64).s.hi)]) ?_ ?_
  · intro w M; have c := M.c6 2; go_simp
  try simp only [Act.put, ptA, ptB, ptC]
  refine Gw.sq (.agg #[.int .u64 (bi (ofC 4#64).t.v), .int .u64 (bi (ofC 4#64).t.m), .int .u64 ((ofC 4#64).u.lo), .int .u64 ((ofC 4#64).u.hi), .int .i64 ((ofC 4#64).s.lo), .int .i64 ((ofC 4#64).s.hi)]) ?_ ?_
  · intro w M; have c := M.c6 1; go_simp
  try simp only [Act.put, ptA, ptB, ptC]
  refine Gw.sk (.tuple #[.int .u64 7, .bool true]) 76 #[.int .i64 0, .bool true, .agg #[.int .u64 (bi (ofC 3#64).t.v), .int .u64 (bi (ofC 3#64).t.m), .int .u64 ((ofC 3#64).u.lo), .int .u64 ((ofC 3#64).u.hi), .int .i64 ((ofC 3#64).s.lo), .int .i64 ((ofC 3#64).s.hi)], .agg #[.int .u64 (bi (ofC 4#64).t.v), .int .u64 (bi (ofC 4#64).t.m), .int .u64 ((ofC 4#64).u.lo), .int .u64 ((ofC 4#64).u.hi), .int .i64 ((ofC 4#64).s.lo), .int .i64 ((ofC 4#64).s.hi)]] (fun w M => made7 w) ?_
  try simp only [Act.put, ptA, ptB, ptC]
  refine Gw.sw (.tuple #[.int .u64 7, .bool true]) ?_
  try simp only [Act.put, ptA, ptB, ptC]
  refine Gw.sw (.int .u64 7) ?_
  try simp only [Act.put, ptA, ptB, ptC]
  refine Gw.sw (.bool true) ?_
  try simp only [Act.put, ptA, ptB, ptC]
  refine Gw.sw (.int .u64 7) ?_
  try simp only [Act.put, ptA, ptB, ptC]
  refine Gw.sw (.bool true) ?_
  try simp only [Act.put, ptA, ptB, ptC]
  exact fun z M => HK.out _ _ _ _ _ _ _ _ z M
noncomputable def alu7_r7C : Code := (Tryz.f30.body.bind (Rg.findR 7)).getD .skip
set_option maxHeartbeats 4000000 in
theorem alu7_r7  {w0 : World}  {K : Act → World → Prop} {Q0 : Exit → Act → World → Prop} {d1_2 d1_1 d1_0 : Nat} {u0 u1 u2 u3 u4 u5 u6 u7 u8 u9 u10 u11 u13 u14 u15 u16 u17 u18 u19 u20 u21 u22 u23 u24 u25 u26 u27 u28 u29 u30 u31 u32 u33 u34 u35 u36 u37 u38 u39 u40 u41 u42 u43 u44 u45 u46 u47 u48 u49 u50 u51 u52 u53 u54 u55 : Value}
    (hQ : ∀ c a d v w, Q0 (.panic c) (Act.put a d v) w → Q0 (.panic c) a w)
    (hK : ∀ (z : World), Gw.Mem w0 [(d1_2, .cells #[.int .u64 0, .int .u64 0, .int .u64 0, .int .u64 0, .int .i64 0, .int .i64 0] 30), (d1_1, .cells #[.int .u64 (bi (ofC 4#64).t.v), .int .u64 (bi (ofC 4#64).t.m), .int .u64 ((ofC 4#64).u.lo), .int .u64 ((ofC 4#64).u.hi), .int .i64 ((ofC 4#64).s.lo), .int .i64 ((ofC 4#64).s.hi)] 30), (d1_0, .cells #[.int .u64 (bi (ofC 3#64).t.v), .int .u64 (bi (ofC 3#64).t.m), .int .u64 ((ofC 3#64).u.lo), .int .u64 ((ofC 3#64).u.hi), .int .i64 ((ofC 3#64).s.lo), .int .i64 ((ofC 3#64).s.hi)] 30)] z → K ⟨#[u0, u1, u2, u3, u4, u5, u6, u7, u8, u9, u10, u11, .bool true, u13, u14, u15, u16, u17, u18, u19, u20, u21, u22, u23, u24, u25, u26, u27, u28, u29, u30, u31, u32, u33, u34, u35, .bool true, u37, u38, u39, u40, u41, u42, u43, u44, u45, u46, u47, u48, u49, u50, u51, u52, u53, u54, u55], []⟩ z) (wy : World) (M : Gw.Mem w0 [(d1_2, .cells #[.int .u64 0, .int .u64 0, .int .u64 0, .int .u64 0, .int .i64 0, .int .i64 0] 30), (d1_1, .cells #[.int .u64 (bi (ofC 4#64).t.v), .int .u64 (bi (ofC 4#64).t.m), .int .u64 ((ofC 4#64).u.lo), .int .u64 ((ofC 4#64).u.hi), .int .i64 ((ofC 4#64).s.lo), .int .i64 ((ofC 4#64).s.hi)] 30), (d1_0, .cells #[.int .u64 (bi (ofC 3#64).t.v), .int .u64 (bi (ofC 3#64).t.m), .int .u64 ((ofC 3#64).u.lo), .int .u64 ((ofC 3#64).u.hi), .int .i64 ((ofC 3#64).s.lo), .int .i64 ((ofC 3#64).s.hi)] 30)] wy) :
    alu7_r7C.wp Tryz.prog (Exit.then K Q0) ⟨#[u0, u1, u2, u3, u4, u5, u6, u7, u8, u9, u10, u11, .bool true, u13, u14, u15, u16, u17, u18, u19, u20, u21, u22, u23, u24, u25, u26, u27, u28, u29, u30, u31, u32, u33, u34, u35, u36, u37, u38, u39, u40, u41, u42, u43, u44, u45, u46, u47, u48, u49, u50, u51, u52, u53, u54, u55], []⟩ wy := by
  have HK := Lib.hid hK
  clear hK
  conv => arg 2; whnf
  refine Gw.line _ M ?_
  clear M wy
  refine Gw.sw (.bool true) ?_
  try simp only [Act.put, ptA, ptB, ptC]
  exact fun z M => HK.out  z M
noncomputable def alu7_r8C : Code := (Tryz.f30.body.bind (Rg.findR 8)).getD .skip
set_option maxHeartbeats 4000000 in
theorem alu7_r8  {w0 : World}  {K : Act → World → Prop} {Q0 : Exit → Act → World → Prop} {d1_2 d1_1 d1_0 : Nat} {u0 u1 u2 u3 u4 u5 u6 u7 u9 u10 u12 u13 u14 u15 u16 u17 u18 u19 u20 u21 u22 u23 u24 u25 u26 u27 u28 u29 u30 u31 u32 u33 u34 u35 u36 u37 u38 u39 u40 u41 u42 u43 u44 u45 u46 u47 u48 u49 u50 u51 u52 u53 u54 u55 : Value}
    (hQ : ∀ c a d v w, Q0 (.panic c) (Act.put a d v) w → Q0 (.panic c) a w)
    (hK : ∀ (t37 t38 : Value) (z : World), Gw.Mem w0 [(d1_2, .cells #[.int .u64 (bi (ofC 7#64).t.v), .int .u64 (bi (ofC 7#64).t.m), .int .u64 ((ofC 7#64).u.lo), .int .u64 ((ofC 7#64).u.hi), .int .i64 ((ofC 7#64).s.lo), .int .i64 ((ofC 7#64).s.hi)] 30), (d1_1, .cells #[.int .u64 (bi (ofC 4#64).t.v), .int .u64 (bi (ofC 4#64).t.m), .int .u64 ((ofC 4#64).u.lo), .int .u64 ((ofC 4#64).u.hi), .int .i64 ((ofC 4#64).s.lo), .int .i64 ((ofC 4#64).s.hi)] 30), (d1_0, .cells #[.int .u64 (bi (ofC 3#64).t.v), .int .u64 (bi (ofC 3#64).t.m), .int .u64 ((ofC 3#64).u.lo), .int .u64 ((ofC 3#64).u.hi), .int .i64 ((ofC 3#64).s.lo), .int .i64 ((ofC 3#64).s.hi)] 30)] z → K ⟨#[u0, u1, u2, u3, u4, u5, u6, u7, .pointer (some ⟨d1_2, 0, none⟩), u9, u10, .int .u64 7, u12, u13, u14, u15, u16, u17, u18, u19, u20, u21, u22, u23, u24, u25, u26, u27, u28, u29, u30, u31, u32, u33, u34, u35, u36, t37, t38, u39, u40, u41, u42, u43, u44, u45, u46, u47, u48, u49, u50, u51, u52, u53, u54, u55], []⟩ z) (wy : World) (M : Gw.Mem w0 [(d1_2, .cells #[.int .u64 0, .int .u64 0, .int .u64 0, .int .u64 0, .int .i64 0, .int .i64 0] 30), (d1_1, .cells #[.int .u64 (bi (ofC 4#64).t.v), .int .u64 (bi (ofC 4#64).t.m), .int .u64 ((ofC 4#64).u.lo), .int .u64 ((ofC 4#64).u.hi), .int .i64 ((ofC 4#64).s.lo), .int .i64 ((ofC 4#64).s.hi)] 30), (d1_0, .cells #[.int .u64 (bi (ofC 3#64).t.v), .int .u64 (bi (ofC 3#64).t.m), .int .u64 ((ofC 3#64).u.lo), .int .u64 ((ofC 3#64).u.hi), .int .i64 ((ofC 3#64).s.lo), .int .i64 ((ofC 3#64).s.hi)] 30)] wy) :
    alu7_r8C.wp Tryz.prog (Exit.then K Q0) ⟨#[u0, u1, u2, u3, u4, u5, u6, u7, .pointer (some ⟨d1_2, 0, none⟩), u9, u10, .int .u64 7, u12, u13, u14, u15, u16, u17, u18, u19, u20, u21, u22, u23, u24, u25, u26, u27, u28, u29, u30, u31, u32, u33, u34, u35, u36, u37, u38, u39, u40, u41, u42, u43, u44, u45, u46, u47, u48, u49, u50, u51, u52, u53, u54, u55], []⟩ wy := by
  have HK := Lib.hid hK
  clear hK
  conv => arg 2; whnf
  refine Gw.line _ M ?_
  clear M wy
  refine Gw.sw (.int .u64 7) ?_
  try simp only [Act.put, ptA, ptB, ptC]
  refine Gw.sk (.agg #[.int .u64 (bi (ofC 7#64).t.v), .int .u64 (bi (ofC 7#64).t.m), .int .u64 ((ofC 7#64).u.lo), .int .u64 ((ofC 7#64).u.hi), .int .i64 ((ofC 7#64).s.lo), .int .i64 ((ofC 7#64).s.hi)]) 17 #[.int .u64 7] (fun w M => ofk 7 7#64 (by kernel_rfl) w) ?_
  try simp only [Act.put, ptA, ptB, ptC]
  refine Gw.ss ?_
  intro w M K' hK
  have c := M.c6 0
  have f := M.f6 0
  go_simp
  refine hK.out _ _ _ ((((((M.set 0 0 _).set 0 1 _).set 0 2 _).set 0 3 _).set 0 4 _).set 0 5 _) ?_
  clear hK K' c f M w
  exact fun z M => HK.out _ _ z M
set_option maxHeartbeats 4000000 in
theorem alu7  (w : World) :
    Calls Tryz.prog 30 #[.int .i64 0, .bool true, .agg #[.int .u64 (bi (ofC 3#64).t.v), .int .u64 (bi (ofC 3#64).t.m), .int .u64 ((ofC 3#64).u.lo), .int .u64 ((ofC 3#64).u.hi), .int .i64 ((ofC 3#64).s.lo), .int .i64 ((ofC 3#64).s.hi)], .agg #[.int .u64 (bi (ofC 4#64).t.v), .int .u64 (bi (ofC 4#64).t.m), .int .u64 ((ofC 4#64).u.lo), .int .u64 ((ofC 4#64).u.hi), .int .i64 ((ofC 4#64).s.lo), .int .i64 ((ofC 4#64).s.hi)]] w fun e w' => e = .returned (.agg #[.int .u64 (bi (ofC 7#64).t.v), .int .u64 (bi (ofC 7#64).t.m), .int .u64 ((ofC 7#64).u.lo), .int .u64 ((ofC 7#64).u.hi), .int .i64 ((ofC 7#64).s.lo), .int .i64 ((ofC 7#64).s.hi)]) ∧ Below w.heap.size w w' := by
  go_enter Tryz.func30, Tryz.ntmps30
  have M := Gw.Mem.nil w
  refine wp_seq (alu7_r0  (fun _ _ d _ _ h => by cases d <;> exact h) ?_ _ M)
  clear M
  intro d1_0 d1_1 d1_2 z1 M
  refine wp_seq ?_
  refine wp_seq (alu7_r1  (fun _ _ d _ _ h => by cases d <;> exact h) ?_ _ M)
  clear M
  intro _ _ _ _ _ _ _ z2 M
  refine wp_seq (alu7_r2  (fun _ _ d _ _ h => by cases d <;> exact h) ?_ _ M)
  clear M
  intro _ z3 M
  refine wp_cond_false rfl ?_
  refine wp_skip ?_
  try simp only [Exit.inBlock, Exit.then]
  refine wp_seq ?_
  refine wp_seq (alu7_r4  (fun _ _ d _ _ h => by cases d <;> exact h) ?_ _ M)
  clear M
  intro _ z4 M
  refine wp_cond_false rfl ?_
  refine wp_skip ?_
  try simp only [Exit.inBlock, Exit.then]
  refine wp_seq ?_
  refine wp_seq (alu7_r6  (fun _ _ d _ _ h => by cases d <;> exact h) ?_ _ M)
  clear M
  intro _ _ _ _ _ _ _ _ z5 M
  refine wp_seq (alu7_r7  (fun _ _ d _ _ h => by cases d <;> exact h) ?_ _ M)
  clear M
  intro z6 M
  refine wp_cond_true rfl ?_
  refine wp_seq (alu7_r8  (fun _ _ d _ _ h => by cases d <;> exact h) ?_ _ M)
  clear M
  intro _ _ z7 M
  refine wp_ret ?_
  try simp only [Exit.inBlock, Exit.then]
  have g0 := M.cell 0 0
  have g1 := M.cell 0 1
  have g2 := M.cell 0 2
  have g3 := M.cell 0 3
  have g4 := M.cell 0 4
  have g5 := M.cell 0 5
  refine bodyPost_ret (by simp [results, Tryz.results30, g0, g1, g2, g3, g4, g5, go_sem]; try rfl) rfl ?_
  exact ⟨rfl, M.below⟩
def kA : C := ((branchC 10 true true anyC (ofC 10#64)).getD (zeroC, zeroC)).1
def kB : C := ((branchC 10 true true anyC (ofC 10#64)).getD (zeroC, zeroC)).2
theorem kA_u : kA.u = ⟨0, 9⟩ := by kernel_rfl
theorem brk (w : World) : Calls Tryz.prog 34 #[.int .i64 10, .bool true, .bool true, .agg #[.int .u64 (bi anyC.t.v), .int .u64 (bi anyC.t.m), .int .u64 anyC.u.lo, .int .u64 anyC.u.hi, .int .i64 anyC.s.lo, .int .i64 anyC.s.hi], .agg #[.int .u64 (bi (ofC 10#64).t.v), .int .u64 (bi (ofC 10#64).t.m), .int .u64 ((ofC 10#64).u.lo), .int .u64 ((ofC 10#64).u.hi), .int .i64 ((ofC 10#64).s.lo), .int .i64 ((ofC 10#64).s.hi)]] w fun e w' => e = .returned (.tuple #[.agg #[.int .u64 (bi kA.t.v), .int .u64 (bi kA.t.m), .int .u64 0, .int .u64 9, .int .i64 kA.s.lo, .int .i64 kA.s.hi], .agg #[.int .u64 (bi kB.t.v), .int .u64 (bi kB.t.m), .int .u64 kB.u.lo, .int .u64 kB.u.hi, .int .i64 kB.s.lo, .int .i64 kB.s.hi], .bool true]) ∧ Below w.heap.size w w' := by
  have := branch5 10 true true anyC (ofC 10#64) may_anyC (may_ofC _) w
  rw [show (branchC 10 true true anyC (ofC 10#64)).isSome = true from by kernel_rfl] at this
  have e1 : kA.u.lo = 0 := by rw [kA_u]
  have e2 : kA.u.hi = 9 := by rw [kA_u]
  rw [← e1, ← e2]
  exact this
theorem br_z : branchC 10 true true anyC (ofC 0#64) = none := by
  have h : (branchC 10 true true anyC (ofC 0#64)).isSome = false := by kernel_rfl
  revert h; cases branchC 10 true true anyC (ofC 0#64) <;> simp
theorem brz (w : World) : Calls Tryz.prog 34 #[.int .i64 10, .bool true, .bool true, .agg #[.int .u64 (bi anyC.t.v), .int .u64 (bi anyC.t.m), .int .u64 anyC.u.lo, .int .u64 anyC.u.hi, .int .i64 anyC.s.lo, .int .i64 anyC.s.hi], .agg #[.int .u64 (bi (ofC 0#64).t.v), .int .u64 (bi (ofC 0#64).t.m), .int .u64 ((ofC 0#64).u.lo), .int .u64 ((ofC 0#64).u.hi), .int .i64 ((ofC 0#64).s.lo), .int .i64 ((ofC 0#64).s.hi)]] w fun e w' => e = .returned (.tuple #[.agg #[.int .u64 (bi zeroC.t.v), .int .u64 (bi zeroC.t.m), .int .u64 zeroC.u.lo, .int .u64 zeroC.u.hi, .int .i64 zeroC.s.lo, .int .i64 zeroC.s.hi], .agg #[.int .u64 (bi zeroC.t.v), .int .u64 (bi zeroC.t.m), .int .u64 zeroC.u.lo, .int .u64 zeroC.u.hi, .int .i64 zeroC.s.lo, .int .i64 zeroC.s.hi], .bool false]) ∧ Below w.heap.size w w' := by
  have := branch5 10 true true anyC (ofC 0#64) may_anyC (may_ofC _) w
  rw [br_z] at this
  exact this
theorem is7 (w : World) : Calls Tryz.prog 13 #[.agg #[.int .u64 (bi (ofC 7#64).t.v), .int .u64 (bi (ofC 7#64).t.m), .int .u64 ((ofC 7#64).u.lo), .int .u64 ((ofC 7#64).u.hi), .int .i64 ((ofC 7#64).s.lo), .int .i64 ((ofC 7#64).s.hi)]] w fun e w' => e = .returned (.tuple #[.int .u64 7, .bool true]) ∧ Below w.heap.size w w' := by
  have := is5 (ofC 7#64) (may_ofC _) w
  rw [show oneC (ofC 7#64) = 7 from by kernel_rfl, show aloneC (ofC 7#64) = true from by kernel_rfl] at this
  exact this
theorem U_st : Tryz.prog.underlying 26 = some (.struct (Tryz.prog.fieldsOf 26)) := by kernel_rfl
theorem U_eg : Tryz.prog.eqGuardType Tryz.prog.depth 26 = false := by kernel_rfl
theorem U_guard (op : BinOp) (a0 a1 b0 b1 : Int) (o1 o2 : Operand) (w : World) : (eqGuard op 26 o1 o2 (.agg #[.int .u64 a0, .int .u64 a1]) (.agg #[.int .u64 b0, .int .u64 b1])).run Tryz.prog w = .ok () w := run_eqGuard_agg w op _ o1 o2 _ _ U_eg
theorem U_eq9 (w : World) : (binOp .eql 26 (.agg #[.int .u64 0, .int .u64 9]) (.agg #[.int .u64 0, .int .u64 9])).run Tryz.prog w = .ok (.bool true) w := by kernel_rfl
noncomputable def known5_r0C : Code := (Tryz.f29.body.bind (Rg.findR 0)).getD .skip
set_option maxHeartbeats 4000000 in
theorem known5_r0  {w0 : World}  {K : Act → World → Prop} {Q0 : Exit → Act → World → Prop} {u0 u1 u2 u3 u4 u5 u6 u7 u8 u9 u10 u11 u12 u13 u14 u15 u16 u17 u18 u19 u20 u21 u22 u23 u24 u25 u26 u27 u28 u29 u30 u31 u32 u33 u34 u35 u36 u37 u38 u39 u40 u41 u42 u43 u44 u45 u46 u47 u48 u49 u50 u51 u52 u53 u54 u55 u56 u57 u58 : Value}
    (hQ : ∀ c a d v w, Q0 (.panic c) (Act.put a d v) w → Q0 (.panic c) a w)
    (hK : ∀ (t0 : Value) (z : World), Gw.Mem w0 [] z → K ⟨#[t0, u1, u2, u3, u4, u5, u6, u7, u8, u9, u10, u11, u12, u13, u14, u15, u16, u17, u18, u19, u20, u21, u22, u23, u24, u25, u26, u27, u28, u29, u30, u31, u32, u33, u34, u35, u36, u37, u38, u39, u40, u41, u42, u43, u44, u45, u46, u47, u48, u49, u50, u51, u52, u53, u54, u55, u56, u57, u58], []⟩ z) (wy : World) (M : Gw.Mem w0 [] wy) :
    known5_r0C.wp Tryz.prog (Exit.then K Q0) ⟨#[u0, u1, u2, u3, u4, u5, u6, u7, u8, u9, u10, u11, u12, u13, u14, u15, u16, u17, u18, u19, u20, u21, u22, u23, u24, u25, u26, u27, u28, u29, u30, u31, u32, u33, u34, u35, u36, u37, u38, u39, u40, u41, u42, u43, u44, u45, u46, u47, u48, u49, u50, u51, u52, u53, u54, u55, u56, u57, u58], []⟩ wy := by
  have HK := Lib.hid hK
  clear hK
  conv => arg 2; whnf
  refine Gw.line _ M ?_
  clear M wy
  refine Gw.sw (.bool false) ?_
  try simp only [Act.put, ptA, ptB, ptC]
  exact fun z M => HK.out _ z M
noncomputable def known5_r1C : Code := (Tryz.f29.body.bind (Rg.findR 1)).getD .skip
set_option maxHeartbeats 4000000 in
theorem known5_r1  {w0 : World}  {K : Act → World → Prop} {Q0 : Exit → Act → World → Prop} {u0 u1 u2 u3 u4 u5 u6 u7 u8 u9 u10 u11 u12 u13 u14 u15 u16 u17 u18 u19 u20 u21 u22 u23 u24 u25 u26 u27 u28 u29 u30 u31 u32 u33 u34 u35 u36 u37 u38 u39 u40 u41 u42 u43 u44 u45 u46 u47 u48 u49 u50 u51 u52 u53 u54 u55 u56 u57 u58 : Value}
    (hQ : ∀ c a d v w, Q0 (.panic c) (Act.put a d v) w → Q0 (.panic c) a w)
    (hK : ∀ (t10 t11 t12 : Value) (d2_3 : Nat) (z : World), Gw.Mem w0 [(d2_3, .cells #[.int .u64 (bi (ofC 7#64).t.v), .int .u64 (bi (ofC 7#64).t.m), .int .u64 ((ofC 7#64).u.lo), .int .u64 ((ofC 7#64).u.hi), .int .i64 ((ofC 7#64).s.lo), .int .i64 ((ofC 7#64).s.hi)] 30)] z → K ⟨#[u0, .pointer (some ⟨d2_3, 0, none⟩), u2, u3, u4, u5, u6, u7, u8, u9, t10, t11, t12, u13, u14, u15, u16, u17, u18, u19, u20, u21, u22, u23, u24, u25, u26, u27, u28, u29, u30, u31, u32, u33, u34, u35, u36, u37, u38, u39, u40, u41, u42, u43, u44, u45, u46, u47, u48, u49, u50, u51, u52, u53, u54, u55, u56, u57, u58], []⟩ z) (wy : World) (M : Gw.Mem w0 [] wy) :
    known5_r1C.wp Tryz.prog (Exit.then K Q0) ⟨#[u0, u1, u2, u3, u4, u5, u6, u7, u8, u9, u10, u11, u12, u13, u14, u15, u16, u17, u18, u19, u20, u21, u22, u23, u24, u25, u26, u27, u28, u29, u30, u31, u32, u33, u34, u35, u36, u37, u38, u39, u40, u41, u42, u43, u44, u45, u46, u47, u48, u49, u50, u51, u52, u53, u54, u55, u56, u57, u58], []⟩ wy := by
  have HK := Lib.hid hK
  clear hK
  conv => arg 2; whnf
  refine Gw.line _ M ?_
  clear M wy
  refine Gw.sk (.agg #[.int .u64 (bi (ofC 3#64).t.v), .int .u64 (bi (ofC 3#64).t.m), .int .u64 ((ofC 3#64).u.lo), .int .u64 ((ofC 3#64).u.hi), .int .i64 ((ofC 3#64).s.lo), .int .i64 ((ofC 3#64).s.hi)]) 17 #[.int .u64 3] (fun w M => ofk 3 3#64 (by kernel_rfl) w) ?_
  try simp only [Act.put, ptA, ptB, ptC]
  refine Gw.sk (.agg #[.int .u64 (bi (ofC 4#64).t.v), .int .u64 (bi (ofC 4#64).t.m), .int .u64 ((ofC 4#64).u.lo), .int .u64 ((ofC 4#64).u.hi), .int .i64 ((ofC 4#64).s.lo), .int .i64 ((ofC 4#64).s.hi)]) 17 #[.int .u64 4] (fun w M => ofk 4 4#64 (by kernel_rfl) w) ?_
  try simp only [Act.put, ptA, ptB, ptC]
  refine Gw.sk (.agg #[.int .u64 (bi (ofC 7#64).t.v), .int .u64 (bi (ofC 7#64).t.m), .int .u64 ((ofC 7#64).u.lo), .int .u64 ((ofC 7#64).u.hi), .int .i64 ((ofC 7#64).s.lo), .int .i64 ((ofC 7#64).s.hi)]) 30 #[.int .i64 0, .bool true, .agg #[.int .u64 (bi (ofC 3#64).t.v), .int .u64 (bi (ofC 3#64).t.m), .int .u64 ((ofC 3#64).u.lo), .int .u64 ((ofC 3#64).u.hi), .int .i64 ((ofC 3#64).s.lo), .int .i64 ((ofC 3#64).s.hi)], .agg #[.int .u64 (bi (ofC 4#64).t.v), .int .u64 (bi (ofC 4#64).t.m), .int .u64 ((ofC 4#64).u.lo), .int .u64 ((ofC 4#64).u.hi), .int .i64 ((ofC 4#64).s.lo), .int .i64 ((ofC 4#64).s.hi)]] (fun w M => alu7 w) ?_
  try simp only [Act.put, ptA, ptB, ptC]
  refine Gw.ss ?_
  intro w M K' hK
  go_simp
  have M1 := M.alloc (.cells #[.int .u64 0, .int .u64 0, .int .u64 0, .int .u64 0, .int .i64 0, .int .i64 0] 30)
  generalize w.heap.size = d2_3 at M1 ⊢
  refine hK.out _ _ _ M1 ?_
  clear hK K' M1 M w
  try simp only [Act.put, ptA, ptB, ptC]
  refine Gw.ss ?_
  intro w M K' hK
  have c := M.c6 0
  have f := M.f6 0
  go_simp
  refine hK.out _ _ _ ((((((M.set 0 0 _).set 0 1 _).set 0 2 _).set 0 3 _).set 0 4 _).set 0 5 _) ?_
  clear hK K' c f M w
  exact fun z M => HK.out _ _ _ _ z M
noncomputable def known5_r2C : Code := (Tryz.f29.body.bind (Rg.findR 2)).getD .skip
set_option maxHeartbeats 4000000 in
theorem known5_r2  {w0 : World}  {K : Act → World → Prop} {Q0 : Exit → Act → World → Prop} {d2_3 : Nat} {u0 u2 u3 u4 u5 u6 u7 u8 u9 u10 u11 u12 u13 u14 u15 u16 u17 u18 u19 u20 u21 u22 u23 u24 u25 u26 u27 u28 u29 u30 u31 u32 u33 u34 u35 u36 u37 u38 u39 u40 u41 u42 u43 u44 u45 u46 u47 u48 u49 u50 u51 u52 u53 u54 u55 u56 u57 u58 : Value}
    (hQ : ∀ c a d v w, Q0 (.panic c) (Act.put a d v) w → Q0 (.panic c) a w)
    (hK : ∀ (t13 t14 t15 t16 t17 : Value) (z : World), Gw.Mem w0 [(d2_3, .cells #[.int .u64 (bi (ofC 7#64).t.v), .int .u64 (bi (ofC 7#64).t.m), .int .u64 ((ofC 7#64).u.lo), .int .u64 ((ofC 7#64).u.hi), .int .i64 ((ofC 7#64).s.lo), .int .i64 ((ofC 7#64).s.hi)] 30)] z → K ⟨#[u0, .pointer (some ⟨d2_3, 0, none⟩), .int .u64 7, .bool true, u4, u5, u6, u7, u8, u9, u10, u11, u12, t13, t14, t15, t16, t17, u18, u19, u20, u21, u22, u23, u24, u25, u26, u27, u28, u29, u30, u31, u32, u33, u34, u35, u36, u37, u38, u39, u40, u41, u42, u43, u44, u45, u46, u47, u48, u49, u50, u51, u52, u53, u54, u55, u56, u57, u58], []⟩ z) (wy : World) (M : Gw.Mem w0 [(d2_3, .cells #[.int .u64 (bi (ofC 7#64).t.v), .int .u64 (bi (ofC 7#64).t.m), .int .u64 ((ofC 7#64).u.lo), .int .u64 ((ofC 7#64).u.hi), .int .i64 ((ofC 7#64).s.lo), .int .i64 ((ofC 7#64).s.hi)] 30)] wy) :
    known5_r2C.wp Tryz.prog (Exit.then K Q0) ⟨#[u0, .pointer (some ⟨d2_3, 0, none⟩), u2, u3, u4, u5, u6, u7, u8, u9, u10, u11, u12, u13, u14, u15, u16, u17, u18, u19, u20, u21, u22, u23, u24, u25, u26, u27, u28, u29, u30, u31, u32, u33, u34, u35, u36, u37, u38, u39, u40, u41, u42, u43, u44, u45, u46, u47, u48, u49, u50, u51, u52, u53, u54, u55, u56, u57, u58], []⟩ wy := by
  have HK := Lib.hid hK
  clear hK
  conv => arg 2; whnf
  refine Gw.line _ M ?_
  clear M wy
  refine Gw.sq (.agg #[.int .u64 (bi (ofC 7#64).t.v), .int .u64 (bi (ofC 7#64).t.m), .int .u64 ((ofC 7#64).u.lo), .int .u64 ((ofC 7#64).u.hi), .int .i64 ((ofC 7#64).s.lo), .int .i64 ((ofC 7#64).s.hi)]) ?_ ?_
  · intro w M; have c := M.c6 0; go_simp
  try simp only [Act.put, ptA, ptB, ptC]
  refine Gw.sk (.tuple #[.int .u64 7, .bool true]) 13 #[.agg #[.int .u64 (bi (ofC 7#64).t.v), .int .u64 (bi (ofC 7#64).t.m), .int .u64 ((ofC 7#64).u.lo), .int .u64 ((ofC 7#64).u.hi), .int .i64 ((ofC 7#64).s.lo), .int .i64 ((ofC 7#64).s.hi)]] (fun w M => is7 w) ?_
  try simp only [Act.put, ptA, ptB, ptC]
  refine Gw.sw (.tuple #[.int .u64 7, .bool true]) ?_
  try simp only [Act.put, ptA, ptB, ptC]
  refine Gw.sw (.int .u64 7) ?_
  try simp only [Act.put, ptA, ptB, ptC]
  refine Gw.sw (.bool true) ?_
  try simp only [Act.put, ptA, ptB, ptC]
  refine Gw.sw (.int .u64 7) ?_
  try simp only [Act.put, ptA, ptB, ptC]
  refine Gw.sw (.bool true) ?_
  try simp only [Act.put, ptA, ptB, ptC]
  exact fun z M => HK.out _ _ _ _ _ z M
noncomputable def known5_r3C : Code := (Tryz.f29.body.bind (Rg.findR 3)).getD .skip
set_option maxHeartbeats 4000000 in
theorem known5_r3  {w0 : World}  {K : Act → World → Prop} {Q0 : Exit → Act → World → Prop} {d2_3 : Nat} {u0 u1 u2 u3 u4 u5 u6 u7 u8 u9 u10 u11 u12 u13 u14 u15 u16 u17 u18 u19 u20 u21 u22 u23 u24 u25 u26 u27 u28 u29 u30 u31 u32 u33 u34 u35 u36 u37 u38 u39 u40 u41 u42 u43 u44 u45 u46 u47 u48 u49 u50 u51 u52 u53 u54 u55 u56 u57 u58 : Value}
    (hQ : ∀ c a d v w, Q0 (.panic c) (Act.put a d v) w → Q0 (.panic c) a w)
    (hK : ∀ (t5 t18 t19 t20 t21 t22 t23 t24 : Value) (d4_7 d4_8 : Nat) (z : World), Gw.Mem w0 [(d4_8, .cells #[.int .u64 (bi kB.t.v), .int .u64 (bi kB.t.m), .int .u64 kB.u.lo, .int .u64 kB.u.hi, .int .i64 kB.s.lo, .int .i64 kB.s.hi] 30), (d4_7, .cells #[.int .u64 (bi kA.t.v), .int .u64 (bi kA.t.m), .int .u64 0, .int .u64 9, .int .i64 kA.s.lo, .int .i64 kA.s.hi] 30), (d2_3, .cells #[.int .u64 (bi (ofC 7#64).t.v), .int .u64 (bi (ofC 7#64).t.m), .int .u64 ((ofC 7#64).u.lo), .int .u64 ((ofC 7#64).u.hi), .int .i64 ((ofC 7#64).s.lo), .int .i64 ((ofC 7#64).s.hi)] 30)] z → K ⟨#[u0, u1, u2, u3, .pointer (some ⟨d4_7, 0, none⟩), t5, .bool true, u7, u8, u9, u10, u11, u12, u13, u14, u15, u16, u17, t18, t19, t20, t21, t22, t23, t24, u25, u26, u27, u28, u29, u30, u31, u32, u33, u34, u35, u36, u37, u38, u39, u40, u41, u42, u43, u44, u45, u46, u47, u48, u49, u50, u51, u52, u53, u54, u55, u56, u57, u58], []⟩ z) (wy : World) (M : Gw.Mem w0 [(d2_3, .cells #[.int .u64 (bi (ofC 7#64).t.v), .int .u64 (bi (ofC 7#64).t.m), .int .u64 ((ofC 7#64).u.lo), .int .u64 ((ofC 7#64).u.hi), .int .i64 ((ofC 7#64).s.lo), .int .i64 ((ofC 7#64).s.hi)] 30)] wy) :
    known5_r3C.wp Tryz.prog (Exit.then K Q0) ⟨#[u0, u1, u2, u3, u4, u5, u6, u7, u8, u9, u10, u11, u12, u13, u14, u15, u16, u17, u18, u19, u20, u21, u22, u23, u24, u25, u26, u27, u28, u29, u30, u31, u32, u33, u34, u35, u36, u37, u38, u39, u40, u41, u42, u43, u44, u45, u46, u47, u48, u49, u50, u51, u52, u53, u54, u55, u56, u57, u58], []⟩ wy := by
  have HK := Lib.hid hK
  clear hK
  conv => arg 2; whnf
  refine Gw.line _ M ?_
  clear M wy
  refine Gw.sk (.agg #[.int .u64 (bi anyC.t.v), .int .u64 (bi anyC.t.m), .int .u64 anyC.u.lo, .int .u64 anyC.u.hi, .int .i64 anyC.s.lo, .int .i64 anyC.s.hi]) 19 #[] (fun w M => any5 w) ?_
  try simp only [Act.put, ptA, ptB, ptC]
  refine Gw.sk (.agg #[.int .u64 (bi (ofC 10#64).t.v), .int .u64 (bi (ofC 10#64).t.m), .int .u64 ((ofC 10#64).u.lo), .int .u64 ((ofC 10#64).u.hi), .int .i64 ((ofC 10#64).s.lo), .int .i64 ((ofC 10#64).s.hi)]) 17 #[.int .u64 10] (fun w M => ofk 10 10#64 (by kernel_rfl) w) ?_
  try simp only [Act.put, ptA, ptB, ptC]
  refine Gw.sk (.tuple #[.agg #[.int .u64 (bi kA.t.v), .int .u64 (bi kA.t.m), .int .u64 0, .int .u64 9, .int .i64 kA.s.lo, .int .i64 kA.s.hi], .agg #[.int .u64 (bi kB.t.v), .int .u64 (bi kB.t.m), .int .u64 kB.u.lo, .int .u64 kB.u.hi, .int .i64 kB.s.lo, .int .i64 kB.s.hi], .bool true]) 34 #[.int .i64 10, .bool true, .bool true, .agg #[.int .u64 (bi anyC.t.v), .int .u64 (bi anyC.t.m), .int .u64 anyC.u.lo, .int .u64 anyC.u.hi, .int .i64 anyC.s.lo, .int .i64 anyC.s.hi], .agg #[.int .u64 (bi (ofC 10#64).t.v), .int .u64 (bi (ofC 10#64).t.m), .int .u64 ((ofC 10#64).u.lo), .int .u64 ((ofC 10#64).u.hi), .int .i64 ((ofC 10#64).s.lo), .int .i64 ((ofC 10#64).s.hi)]] (fun w M => brk w) ?_
  try simp only [Act.put, ptA, ptB, ptC]
  refine Gw.sw (.tuple #[.agg #[.int .u64 (bi kA.t.v), .int .u64 (bi kA.t.m), .int .u64 0, .int .u64 9, .int .i64 kA.s.lo, .int .i64 kA.s.hi], .agg #[.int .u64 (bi kB.t.v), .int .u64 (bi kB.t.m), .int .u64 kB.u.lo, .int .u64 kB.u.hi, .int .i64 kB.s.lo, .int .i64 kB.s.hi], .bool true]) ?_
  try simp only [Act.put, ptA, ptB, ptC]
  refine Gw.sw (.agg #[.int .u64 (bi kA.t.v), .int .u64 (bi kA.t.m), .int .u64 0, .int .u64 9, .int .i64 kA.s.lo, .int .i64 kA.s.hi]) ?_
  try simp only [Act.put, ptA, ptB, ptC]
  refine Gw.sw (.agg #[.int .u64 (bi kB.t.v), .int .u64 (bi kB.t.m), .int .u64 kB.u.lo, .int .u64 kB.u.hi, .int .i64 kB.s.lo, .int .i64 kB.s.hi]) ?_
  try simp only [Act.put, ptA, ptB, ptC]
  refine Gw.sw (.bool true) ?_
  try simp only [Act.put, ptA, ptB, ptC]
  refine Gw.ss ?_
  intro w M K' hK
  go_simp
  have M1 := M.alloc (.cells #[.int .u64 0, .int .u64 0, .int .u64 0, .int .u64 0, .int .i64 0, .int .i64 0] 30)
  generalize w.heap.size = d4_7 at M1 ⊢
  refine hK.out _ _ _ M1 ?_
  clear hK K' M1 M w
  try simp only [Act.put, ptA, ptB, ptC]
  refine Gw.ss ?_
  intro w M K' hK
  go_simp
  have M1 := M.alloc (.cells #[.int .u64 0, .int .u64 0, .int .u64 0, .int .u64 0, .int .i64 0, .int .i64 0] 30)
  generalize w.heap.size = d4_8 at M1 ⊢
  refine hK.out _ _ _ M1 ?_
  clear hK K' M1 M w
  try simp only [Act.put, ptA, ptB, ptC]
  refine Gw.ss ?_
  intro w M K' hK
  have c := M.c6 1
  have f := M.f6 1
  go_simp
  refine hK.out _ _ _ ((((((M.set 1 0 _).set 1 1 _).set 1 2 _).set 1 3 _).set 1 4 _).set 1 5 _) ?_
  clear hK K' c f M w
  refine Gw.ss ?_
  intro w M K' hK
  have c := M.c6 0
  have f := M.f6 0
  go_simp
  refine hK.out _ _ _ ((((((M.set 0 0 _).set 0 1 _).set 0 2 _).set 0 3 _).set 0 4 _).set 0 5 _) ?_
  clear hK K' c f M w
  refine Gw.sw (.bool true) ?_
  try simp only [Act.put, ptA, ptB, ptC]
  exact fun z M => HK.out _ _ _ _ _ _ _ _ _ _ z M
noncomputable def known5_r4C : Code := (Tryz.f29.body.bind (Rg.findR 4)).getD .skip
set_option maxHeartbeats 4000000 in
theorem known5_r4  {w0 : World}  {K : Act → World → Prop} {Q0 : Exit → Act → World → Prop} {d4_8 d4_7 d2_3 : Nat} {u0 u1 u2 u3 u4 u5 u6 u7 u8 u9 u10 u11 u12 u13 u14 u15 u16 u17 u18 u19 u20 u21 u22 u23 u24 u25 u26 u27 u28 u29 u30 u31 u32 u33 u34 u35 u36 u37 u38 u39 u40 u41 u42 u43 u44 u45 u46 u47 u48 u49 u50 u51 u52 u53 u54 u55 u56 u57 u58 : Value}
    (hQ : ∀ c a d v w, Q0 (.panic c) (Act.put a d v) w → Q0 (.panic c) a w)
    (hK : ∀ (t7 t8 t25 t26 t27 t28 t29 t30 t31 : Value) (d5_7 d5_8 : Nat) (z : World), Gw.Mem w0 [(d5_8, .cells #[.int .u64 (bi zeroC.t.v), .int .u64 (bi zeroC.t.m), .int .u64 zeroC.u.lo, .int .u64 zeroC.u.hi, .int .i64 zeroC.s.lo, .int .i64 zeroC.s.hi] 30), (d5_7, .cells #[.int .u64 (bi zeroC.t.v), .int .u64 (bi zeroC.t.m), .int .u64 zeroC.u.lo, .int .u64 zeroC.u.hi, .int .i64 zeroC.s.lo, .int .i64 zeroC.s.hi] 30), (d4_8, .cells #[.int .u64 (bi kB.t.v), .int .u64 (bi kB.t.m), .int .u64 kB.u.lo, .int .u64 kB.u.hi, .int .i64 kB.s.lo, .int .i64 kB.s.hi] 30), (d4_7, .cells #[.int .u64 (bi kA.t.v), .int .u64 (bi kA.t.m), .int .u64 0, .int .u64 9, .int .i64 kA.s.lo, .int .i64 kA.s.hi] 30), (d2_3, .cells #[.int .u64 (bi (ofC 7#64).t.v), .int .u64 (bi (ofC 7#64).t.m), .int .u64 ((ofC 7#64).u.lo), .int .u64 ((ofC 7#64).u.hi), .int .i64 ((ofC 7#64).s.lo), .int .i64 ((ofC 7#64).s.hi)] 30)] z → K ⟨#[u0, u1, u2, u3, u4, u5, u6, t7, t8, .bool false, u10, u11, u12, u13, u14, u15, u16, u17, u18, u19, u20, u21, u22, u23, u24, t25, t26, t27, t28, t29, t30, t31, u32, u33, u34, u35, u36, u37, u38, u39, u40, u41, u42, u43, u44, u45, u46, u47, u48, u49, u50, u51, u52, u53, u54, u55, u56, u57, u58], []⟩ z) (wy : World) (M : Gw.Mem w0 [(d4_8, .cells #[.int .u64 (bi kB.t.v), .int .u64 (bi kB.t.m), .int .u64 kB.u.lo, .int .u64 kB.u.hi, .int .i64 kB.s.lo, .int .i64 kB.s.hi] 30), (d4_7, .cells #[.int .u64 (bi kA.t.v), .int .u64 (bi kA.t.m), .int .u64 0, .int .u64 9, .int .i64 kA.s.lo, .int .i64 kA.s.hi] 30), (d2_3, .cells #[.int .u64 (bi (ofC 7#64).t.v), .int .u64 (bi (ofC 7#64).t.m), .int .u64 ((ofC 7#64).u.lo), .int .u64 ((ofC 7#64).u.hi), .int .i64 ((ofC 7#64).s.lo), .int .i64 ((ofC 7#64).s.hi)] 30)] wy) :
    known5_r4C.wp Tryz.prog (Exit.then K Q0) ⟨#[u0, u1, u2, u3, u4, u5, u6, u7, u8, u9, u10, u11, u12, u13, u14, u15, u16, u17, u18, u19, u20, u21, u22, u23, u24, u25, u26, u27, u28, u29, u30, u31, u32, u33, u34, u35, u36, u37, u38, u39, u40, u41, u42, u43, u44, u45, u46, u47, u48, u49, u50, u51, u52, u53, u54, u55, u56, u57, u58], []⟩ wy := by
  have HK := Lib.hid hK
  clear hK
  conv => arg 2; whnf
  refine Gw.line _ M ?_
  clear M wy
  refine Gw.sk (.agg #[.int .u64 (bi anyC.t.v), .int .u64 (bi anyC.t.m), .int .u64 anyC.u.lo, .int .u64 anyC.u.hi, .int .i64 anyC.s.lo, .int .i64 anyC.s.hi]) 19 #[] (fun w M => any5 w) ?_
  try simp only [Act.put, ptA, ptB, ptC]
  refine Gw.sk (.agg #[.int .u64 (bi (ofC 0#64).t.v), .int .u64 (bi (ofC 0#64).t.m), .int .u64 ((ofC 0#64).u.lo), .int .u64 ((ofC 0#64).u.hi), .int .i64 ((ofC 0#64).s.lo), .int .i64 ((ofC 0#64).s.hi)]) 17 #[.int .u64 0] (fun w M => ofk 0 0#64 (by kernel_rfl) w) ?_
  try simp only [Act.put, ptA, ptB, ptC]
  refine Gw.sk (.tuple #[.agg #[.int .u64 (bi zeroC.t.v), .int .u64 (bi zeroC.t.m), .int .u64 zeroC.u.lo, .int .u64 zeroC.u.hi, .int .i64 zeroC.s.lo, .int .i64 zeroC.s.hi], .agg #[.int .u64 (bi zeroC.t.v), .int .u64 (bi zeroC.t.m), .int .u64 zeroC.u.lo, .int .u64 zeroC.u.hi, .int .i64 zeroC.s.lo, .int .i64 zeroC.s.hi], .bool false]) 34 #[.int .i64 10, .bool true, .bool true, .agg #[.int .u64 (bi anyC.t.v), .int .u64 (bi anyC.t.m), .int .u64 anyC.u.lo, .int .u64 anyC.u.hi, .int .i64 anyC.s.lo, .int .i64 anyC.s.hi], .agg #[.int .u64 (bi (ofC 0#64).t.v), .int .u64 (bi (ofC 0#64).t.m), .int .u64 ((ofC 0#64).u.lo), .int .u64 ((ofC 0#64).u.hi), .int .i64 ((ofC 0#64).s.lo), .int .i64 ((ofC 0#64).s.hi)]] (fun w M => brz w) ?_
  try simp only [Act.put, ptA, ptB, ptC]
  refine Gw.sw (.tuple #[.agg #[.int .u64 (bi zeroC.t.v), .int .u64 (bi zeroC.t.m), .int .u64 zeroC.u.lo, .int .u64 zeroC.u.hi, .int .i64 zeroC.s.lo, .int .i64 zeroC.s.hi], .agg #[.int .u64 (bi zeroC.t.v), .int .u64 (bi zeroC.t.m), .int .u64 zeroC.u.lo, .int .u64 zeroC.u.hi, .int .i64 zeroC.s.lo, .int .i64 zeroC.s.hi], .bool false]) ?_
  try simp only [Act.put, ptA, ptB, ptC]
  refine Gw.sw (.agg #[.int .u64 (bi zeroC.t.v), .int .u64 (bi zeroC.t.m), .int .u64 zeroC.u.lo, .int .u64 zeroC.u.hi, .int .i64 zeroC.s.lo, .int .i64 zeroC.s.hi]) ?_
  try simp only [Act.put, ptA, ptB, ptC]
  refine Gw.sw (.agg #[.int .u64 (bi zeroC.t.v), .int .u64 (bi zeroC.t.m), .int .u64 zeroC.u.lo, .int .u64 zeroC.u.hi, .int .i64 zeroC.s.lo, .int .i64 zeroC.s.hi]) ?_
  try simp only [Act.put, ptA, ptB, ptC]
  refine Gw.sw (.bool false) ?_
  try simp only [Act.put, ptA, ptB, ptC]
  refine Gw.ss ?_
  intro w M K' hK
  go_simp
  have M1 := M.alloc (.cells #[.int .u64 0, .int .u64 0, .int .u64 0, .int .u64 0, .int .i64 0, .int .i64 0] 30)
  generalize w.heap.size = d5_7 at M1 ⊢
  refine hK.out _ _ _ M1 ?_
  clear hK K' M1 M w
  try simp only [Act.put, ptA, ptB, ptC]
  refine Gw.ss ?_
  intro w M K' hK
  go_simp
  have M1 := M.alloc (.cells #[.int .u64 0, .int .u64 0, .int .u64 0, .int .u64 0, .int .i64 0, .int .i64 0] 30)
  generalize w.heap.size = d5_8 at M1 ⊢
  refine hK.out _ _ _ M1 ?_
  clear hK K' M1 M w
  try simp only [Act.put, ptA, ptB, ptC]
  refine Gw.ss ?_
  intro w M K' hK
  have c := M.c6 1
  have f := M.f6 1
  go_simp
  refine hK.out _ _ _ ((((((M.set 1 0 _).set 1 1 _).set 1 2 _).set 1 3 _).set 1 4 _).set 1 5 _) ?_
  clear hK K' c f M w
  refine Gw.ss ?_
  intro w M K' hK
  have c := M.c6 0
  have f := M.f6 0
  go_simp
  refine hK.out _ _ _ ((((((M.set 0 0 _).set 0 1 _).set 0 2 _).set 0 3 _).set 0 4 _).set 0 5 _) ?_
  clear hK K' c f M w
  refine Gw.sw (.bool false) ?_
  try simp only [Act.put, ptA, ptB, ptC]
  exact fun z M => HK.out _ _ _ _ _ _ _ _ _ _ _ z M
noncomputable def known5_r5C : Code := (Tryz.f29.body.bind (Rg.findR 5)).getD .skip
set_option maxHeartbeats 4000000 in
theorem known5_r5  {w0 : World}  {K : Act → World → Prop} {Q0 : Exit → Act → World → Prop} {d5_8 d5_7 d4_8 d4_7 d2_3 : Nat} {u0 u1 u5 u7 u8 u10 u11 u12 u13 u14 u15 u16 u17 u18 u19 u20 u21 u22 u23 u24 u25 u26 u27 u28 u29 u30 u31 u32 u33 u34 u35 u36 u37 u38 u39 u40 u41 u42 u43 u44 u45 u46 u47 u48 u49 u50 u51 u52 u53 u54 u55 u56 u57 u58 : Value}
    (hQ : ∀ c a d v w, Q0 (.panic c) (Act.put a d v) w → Q0 (.panic c) a w)
    (hK : ∀ (t32 t33 t34 t35 t36 t37 t38 t39 t40 t41 t42 t43 t44 t45 t46 t47 t48 t49 t50 t51 t52 t53 t54 t55 t56 t57 t58 : Value) (z : World), Gw.Mem w0 [(d5_8, .cells #[.int .u64 (bi zeroC.t.v), .int .u64 (bi zeroC.t.m), .int .u64 zeroC.u.lo, .int .u64 zeroC.u.hi, .int .i64 zeroC.s.lo, .int .i64 zeroC.s.hi] 30), (d5_7, .cells #[.int .u64 (bi zeroC.t.v), .int .u64 (bi zeroC.t.m), .int .u64 zeroC.u.lo, .int .u64 zeroC.u.hi, .int .i64 zeroC.s.lo, .int .i64 zeroC.s.hi] 30), (d4_8, .cells #[.int .u64 (bi kB.t.v), .int .u64 (bi kB.t.m), .int .u64 kB.u.lo, .int .u64 kB.u.hi, .int .i64 kB.s.lo, .int .i64 kB.s.hi] 30), (d4_7, .cells #[.int .u64 (bi kA.t.v), .int .u64 (bi kA.t.m), .int .u64 0, .int .u64 9, .int .i64 kA.s.lo, .int .i64 kA.s.hi] 30), (d2_3, .cells #[.int .u64 (bi (ofC 7#64).t.v), .int .u64 (bi (ofC 7#64).t.m), .int .u64 ((ofC 7#64).u.lo), .int .u64 ((ofC 7#64).u.hi), .int .i64 ((ofC 7#64).s.lo), .int .i64 ((ofC 7#64).s.hi)] 30)] z → K ⟨#[.bool true, u1, .int .u64 7, .bool true, .pointer (some ⟨d4_7, 0, none⟩), u5, .bool true, u7, u8, .bool false, u10, u11, u12, u13, u14, u15, u16, u17, u18, u19, u20, u21, u22, u23, u24, u25, u26, u27, u28, u29, u30, u31, t32, t33, t34, t35, t36, t37, t38, t39, t40, t41, t42, t43, t44, t45, t46, t47, t48, t49, t50, t51, t52, t53, t54, t55, t56, t57, t58], []⟩ z) (wy : World) (M : Gw.Mem w0 [(d5_8, .cells #[.int .u64 (bi zeroC.t.v), .int .u64 (bi zeroC.t.m), .int .u64 zeroC.u.lo, .int .u64 zeroC.u.hi, .int .i64 zeroC.s.lo, .int .i64 zeroC.s.hi] 30), (d5_7, .cells #[.int .u64 (bi zeroC.t.v), .int .u64 (bi zeroC.t.m), .int .u64 zeroC.u.lo, .int .u64 zeroC.u.hi, .int .i64 zeroC.s.lo, .int .i64 zeroC.s.hi] 30), (d4_8, .cells #[.int .u64 (bi kB.t.v), .int .u64 (bi kB.t.m), .int .u64 kB.u.lo, .int .u64 kB.u.hi, .int .i64 kB.s.lo, .int .i64 kB.s.hi] 30), (d4_7, .cells #[.int .u64 (bi kA.t.v), .int .u64 (bi kA.t.m), .int .u64 0, .int .u64 9, .int .i64 kA.s.lo, .int .i64 kA.s.hi] 30), (d2_3, .cells #[.int .u64 (bi (ofC 7#64).t.v), .int .u64 (bi (ofC 7#64).t.m), .int .u64 ((ofC 7#64).u.lo), .int .u64 ((ofC 7#64).u.hi), .int .i64 ((ofC 7#64).s.lo), .int .i64 ((ofC 7#64).s.hi)] 30)] wy) :
    known5_r5C.wp Tryz.prog (Exit.then K Q0) ⟨#[u0, u1, .int .u64 7, .bool true, .pointer (some ⟨d4_7, 0, none⟩), u5, .bool true, u7, u8, .bool false, u10, u11, u12, u13, u14, u15, u16, u17, u18, u19, u20, u21, u22, u23, u24, u25, u26, u27, u28, u29, u30, u31, u32, u33, u34, u35, u36, u37, u38, u39, u40, u41, u42, u43, u44, u45, u46, u47, u48, u49, u50, u51, u52, u53, u54, u55, u56, u57, u58], []⟩ wy := by
  have HK := Lib.hid hK
  clear hK
  conv => arg 2; whnf
  refine Gw.line _ M ?_
  clear M wy
  refine Gw.sw (.bool true) ?_
  try simp only [Act.put, ptA, ptB, ptC]
  refine Gw.sw (.bool true) ?_
  try simp only [Act.put, ptA, ptB, ptC]
  refine Gw.sw (.int .u64 7) ?_
  try simp only [Act.put, ptA, ptB, ptC]
  refine Gw.sw (.bool true) ?_
  try simp only [Act.put, ptA, ptB, ptC]
  refine Gw.sw (.bool true) ?_
  try simp only [Act.put, ptA, ptB, ptC]
  refine Gw.sw (.bool true) ?_
  try simp only [Act.put, ptA, ptB, ptC]
  refine Gw.sw (.bool true) ?_
  try simp only [Act.put, ptA, ptB, ptC]
  refine Gw.sw (.bool true) ?_
  try simp only [Act.put, ptA, ptB, ptC]
  refine Gw.sw (.bool true) ?_
  try simp only [Act.put, ptA, ptB, ptC]
  refine Gw.sw (.pointer (some ⟨d4_7, 2, none⟩)) ?_
  try simp only [Act.put, ptA, ptB, ptC]
  refine Gw.sq (.agg #[.int .u64 0, .int .u64 9]) ?_ ?_
  · intro w M; have c := M.c2 3 2 3; go_simp
  try simp only [Act.put, ptA, ptB, ptC]
  refine Gw.sw (.agg #[.int .u64 0, .int .u64 9]) ?_
  try simp only [Act.put, ptA, ptB, ptC]
  refine Gw.sw (.bool true) ?_ (hy := by intro w; have e1 := U_eq9; have e2 := U_guard .eql; go_simp)
  try simp only [Act.put, ptA, ptB, ptC]
  refine Gw.sw (.bool true) ?_
  try simp only [Act.put, ptA, ptB, ptC]
  refine Gw.sw (.bool true) ?_
  try simp only [Act.put, ptA, ptB, ptC]
  refine Gw.sw (.bool false) ?_
  try simp only [Act.put, ptA, ptB, ptC]
  refine Gw.sw (.bool true) ?_
  try simp only [Act.put, ptA, ptB, ptC]
  refine Gw.sw (.bool true) ?_
  try simp only [Act.put, ptA, ptB, ptC]
  refine Gw.sw (.bool true) ?_
  try simp only [Act.put, ptA, ptB, ptC]
  refine Gw.sk (.agg #[.int .u64 (bi anyC.t.v), .int .u64 (bi anyC.t.m), .int .u64 anyC.u.lo, .int .u64 anyC.u.hi, .int .i64 anyC.s.lo, .int .i64 anyC.s.hi]) 19 #[] (fun w M => any5 w) ?_
  try simp only [Act.put, ptA, ptB, ptC]
  refine Gw.sk (.bool true) 23 #[.agg #[.int .u64 (bi anyC.t.v), .int .u64 (bi anyC.t.m), .int .u64 anyC.u.lo, .int .u64 anyC.u.hi, .int .i64 anyC.s.lo, .int .i64 anyC.s.hi], .int .u64 5] (fun w M => ink anyC 5 5#64 true (by kernel_rfl) (by kernel_rfl) w) ?_
  try simp only [Act.put, ptA, ptB, ptC]
  refine Gw.sw (.bool true) ?_
  try simp only [Act.put, ptA, ptB, ptC]
  refine Gw.sw (.bool true) ?_
  try simp only [Act.put, ptA, ptB, ptC]
  refine Gw.sk (.agg #[.int .u64 (bi (uptoC 1).t.v), .int .u64 (bi (uptoC 1).t.m), .int .u64 ((uptoC 1).u.lo), .int .u64 ((uptoC 1).u.hi), .int .i64 ((uptoC 1).s.lo), .int .i64 ((uptoC 1).s.hi)]) 21 #[.int .i64 1] (fun w M => upto5 1 ⟨by decide, by decide⟩ w) ?_
  try simp only [Act.put, ptA, ptB, ptC]
  refine Gw.sk (.bool false) 23 #[.agg #[.int .u64 (bi (uptoC 1).t.v), .int .u64 (bi (uptoC 1).t.m), .int .u64 ((uptoC 1).u.lo), .int .u64 ((uptoC 1).u.hi), .int .i64 ((uptoC 1).s.lo), .int .i64 ((uptoC 1).s.hi)], .int .u64 256] (fun w M => ink (uptoC 1) 256 256#64 false (by kernel_rfl) (by kernel_rfl) w) ?_
  try simp only [Act.put, ptA, ptB, ptC]
  refine Gw.sw (.bool true) ?_
  try simp only [Act.put, ptA, ptB, ptC]
  refine Gw.sw (.bool true) ?_
  try simp only [Act.put, ptA, ptB, ptC]
  refine Gw.sw (.bool true) ?_
  try simp only [Act.put, ptA, ptB, ptC]
  exact fun z M => HK.out _ _ _ _ _ _ _ _ _ _ _ _ _ _ _ _ _ _ _ _ _ _ _ _ _ _ _ z M
set_option maxHeartbeats 4000000 in
theorem known5  (w : World) :
    Calls Tryz.prog 29 #[] w fun e w' => e = .returned (.bool true) ∧ Below w.heap.size w w' := by
  go_enter Tryz.func29, Tryz.ntmps29
  have M := Gw.Mem.nil w
  refine wp_seq (known5_r0  (fun _ _ d _ _ h => by cases d <;> exact h) ?_ _ M)
  clear M
  intro _ z1 M
  refine wp_seq (known5_r1  (fun _ _ d _ _ h => by cases d <;> exact h) ?_ _ M)
  clear M
  intro _ _ _ d2_3 z2 M
  refine wp_seq (known5_r2  (fun _ _ d _ _ h => by cases d <;> exact h) ?_ _ M)
  clear M
  intro _ _ _ _ _ z3 M
  refine wp_seq (known5_r3  (fun _ _ d _ _ h => by cases d <;> exact h) ?_ _ M)
  clear M
  intro _ _ _ _ _ _ _ _ d4_7 d4_8 z4 M
  refine wp_seq (known5_r4  (fun _ _ d _ _ h => by cases d <;> exact h) ?_ _ M)
  clear M
  intro _ _ _ _ _ _ _ _ _ d5_7 d5_8 z5 M
  refine wp_seq (known5_r5  (fun _ _ d _ _ h => by cases d <;> exact h) ?_ _ M)
  clear M
  intro _ _ _ _ _ _ _ _ _ _ _ _ _ _ _ _ _ _ _ _ _ _ _ _ _ _ _ z6 M
  refine wp_ret ?_
  try simp only [Exit.inBlock, Exit.then]
  refine bodyPost_ret (by simp [results, Tryz.results29, go_sem]; try rfl) rfl ?_
  exact ⟨rfl, M.below⟩
noncomputable def May5_r0C : Code := (Tryz.f12.body.bind (Rg.findR 0)).getD .skip
set_option maxHeartbeats 4000000 in
theorem May5_r0 (x : C) {w0 : World}  {K : Act → World → Prop} {Q0 : Exit → Act → World → Prop} {u1 u2 u3 u4 u5 u6 u7 u8 u9 u10 u11 u12 u13 u14 u15 u16 u17 u18 u19 u20 u21 u22 u23 u24 u25 u26 u27 u28 u29 u30 u31 u32 u33 u34 u35 u36 u37 u38 u39 u40 u41 u42 u43 u44 u45 u46 : Value}
    (hQ : ∀ c a d v w, Q0 (.panic c) (Act.put a d v) w → Q0 (.panic c) a w)
    (hK : ∀ (d1_0 d1_1 : Nat) (z : World), Gw.Mem w0 [(d1_1, .cells #[.int .u64 0, .int .u64 0, .int .u64 0, .int .u64 0, .int .i64 0, .int .i64 0] 30), (d1_0, .cells #[.int .u64 (bi x.t.v), .int .u64 (bi x.t.m), .int .u64 x.u.lo, .int .u64 x.u.hi, .int .i64 x.s.lo, .int .i64 x.s.hi] 30)] z → K ⟨#[.agg #[.int .u64 (bi x.t.v), .int .u64 (bi x.t.m), .int .u64 x.u.lo, .int .u64 x.u.hi, .int .i64 x.s.lo, .int .i64 x.s.hi], .pointer (some ⟨d1_0, 0, none⟩), .pointer (some ⟨d1_1, 0, none⟩), u3, u4, u5, u6, u7, u8, u9, u10, u11, u12, u13, u14, u15, u16, u17, u18, u19, u20, u21, u22, u23, u24, u25, u26, u27, u28, u29, u30, u31, u32, u33, u34, u35, u36, u37, u38, u39, u40, u41, u42, u43, u44, u45, u46], []⟩ z) (wy : World) (M : Gw.Mem w0 [] wy) :
    May5_r0C.wp Tryz.prog (Exit.then K Q0) ⟨#[.agg #[.int .u64 (bi x.t.v), .int .u64 (bi x.t.m), .int .u64 x.u.lo, .int .u64 x.u.hi, .int .i64 x.s.lo, .int .i64 x.s.hi], u1, u2, u3, u4, u5, u6, u7, u8, u9, u10, u11, u12, u13, u14, u15, u16, u17, u18, u19, u20, u21, u22, u23, u24, u25, u26, u27, u28, u29, u30, u31, u32, u33, u34, u35, u36, u37, u38, u39, u40, u41, u42, u43, u44, u45, u46], []⟩ wy := by
  have HK := Lib.hid hK
  clear hK
  conv => arg 2; whnf
  refine Gw.line _ M ?_
  clear M wy
  refine Gw.ss ?_
  intro w M K' hK
  go_simp
  have M1 := M.alloc (.cells #[.int .u64 (bi x.t.v), .int .u64 (bi x.t.m), .int .u64 x.u.lo, .int .u64 x.u.hi, .int .i64 x.s.lo, .int .i64 x.s.hi] 30)
  generalize w.heap.size = d1_0 at M1 ⊢
  refine hK.out _ _ _ M1 ?_
  clear hK K' M1 M w
  try simp only [Act.put, ptA, ptB, ptC]
  refine Gw.ss ?_
  intro w M K' hK
  go_simp
  have M1 := M.alloc (.cells #[.int .u64 0, .int .u64 0, .int .u64 0, .int .u64 0, .int .i64 0, .int .i64 0] 30)
  generalize w.heap.size = d1_1 at M1 ⊢
  refine hK.out _ _ _ M1 ?_
  clear hK K' M1 M w
  try simp only [Act.put, ptA, ptB, ptC]
  exact fun z M => HK.out _ _ z M
noncomputable def May5_r1C : Code := (Tryz.f12.body.bind (Rg.findR 1)).getD .skip
set_option maxHeartbeats 4000000 in
theorem May5_r1 (x : C) {w0 : World}  {K : Act → World → Prop} {Q0 : Exit → Act → World → Prop} {d1_1 d1_0 : Nat} {u0 u2 u3 u4 u5 u6 u7 u8 u9 u10 u11 u12 u13 u14 u15 u16 u17 u18 u19 u20 u21 u22 u23 u24 u25 u26 u27 u28 u29 u30 u31 u32 u33 u34 u35 u36 u37 u38 u39 u40 u41 u42 u43 u44 u45 u46 : Value}
    (hQ : ∀ c a d v w, Q0 (.panic c) (Act.put a d v) w → Q0 (.panic c) a w)
    (hK : ∀ (t5 t6 t7 t8 t9 t10 t11 t12 t13 : Value) (z : World), Gw.Mem w0 [(d1_1, .cells #[.int .u64 0, .int .u64 0, .int .u64 0, .int .u64 0, .int .i64 0, .int .i64 0] 30), (d1_0, .cells #[.int .u64 (bi (x.t.v &&& ~~~x.t.m)), .int .u64 (bi x.t.m), .int .u64 x.u.lo, .int .u64 x.u.hi, .int .i64 x.s.lo, .int .i64 x.s.hi] 30)] z → K ⟨#[u0, .pointer (some ⟨d1_0, 0, none⟩), u2, u3, u4, t5, t6, t7, t8, t9, t10, t11, t12, t13, u14, u15, u16, u17, u18, u19, u20, u21, u22, u23, u24, u25, u26, u27, u28, u29, u30, u31, u32, u33, u34, u35, u36, u37, u38, u39, u40, u41, u42, u43, u44, u45, u46], []⟩ z) (wy : World) (M : Gw.Mem w0 [(d1_1, .cells #[.int .u64 0, .int .u64 0, .int .u64 0, .int .u64 0, .int .i64 0, .int .i64 0] 30), (d1_0, .cells #[.int .u64 (bi x.t.v), .int .u64 (bi x.t.m), .int .u64 x.u.lo, .int .u64 x.u.hi, .int .i64 x.s.lo, .int .i64 x.s.hi] 30)] wy) :
    May5_r1C.wp Tryz.prog (Exit.then K Q0) ⟨#[u0, .pointer (some ⟨d1_0, 0, none⟩), u2, u3, u4, u5, u6, u7, u8, u9, u10, u11, u12, u13, u14, u15, u16, u17, u18, u19, u20, u21, u22, u23, u24, u25, u26, u27, u28, u29, u30, u31, u32, u33, u34, u35, u36, u37, u38, u39, u40, u41, u42, u43, u44, u45, u46], []⟩ wy := by
  have HK := Lib.hid hK
  clear hK
  conv => arg 2; whnf
  refine Gw.line _ M ?_
  clear M wy
  refine Gw.sw (.pointer (some ⟨d1_0, 0, none⟩)) ?_
  try simp only [Act.put, ptA, ptB, ptC]
  refine Gw.sw (.pointer (some ⟨d1_0, 0, none⟩)) ?_
  try simp only [Act.put, ptA, ptB, ptC]
  refine Gw.sq (.int .u64 (bi x.t.v)) ?_ ?_
  · intro w M; have c := M.cell 1 0; go_simp
  try simp only [Act.put, ptA, ptB, ptC]
  refine Gw.sw (.pointer (some ⟨d1_0, 0, none⟩)) ?_
  try simp only [Act.put, ptA, ptB, ptC]
  refine Gw.sw (.pointer (some ⟨d1_0, 1, none⟩)) ?_
  try simp only [Act.put, ptA, ptB, ptC]
  refine Gw.sq (.int .u64 (bi x.t.m)) ?_ ?_
  · intro w M; have c := M.cell 1 1; go_simp
  try simp only [Act.put, ptA, ptB, ptC]
  refine Gw.sw (.int .u64 (bi (x.t.v &&& ~~~x.t.m))) ?_ (hy := by intro w; have WU := bi_andNot x.t.v x.t.m; go_simp)
  try simp only [Act.put, ptA, ptB, ptC]
  refine Gw.sw (.pointer (some ⟨d1_0, 0, none⟩)) ?_
  try simp only [Act.put, ptA, ptB, ptC]
  refine Gw.sw (.pointer (some ⟨d1_0, 0, none⟩)) ?_
  try simp only [Act.put, ptA, ptB, ptC]
  refine Gw.ss ?_
  intro w M K' hK
  have c := M.cell 1 0
  have f := M.frozen 1 0
  go_simp
  refine hK.out _ _ _ (M.set 1 0 _) ?_
  clear hK K' c f M w
  exact fun z M => HK.out _ _ _ _ _ _ _ _ _ z M
noncomputable def May5_r2C : Code := (Tryz.f12.body.bind (Rg.findR 2)).getD .skip
set_option maxHeartbeats 4000000 in
theorem May5_r2 (x : C) {w0 : World}  {K : Act → World → Prop} {Q0 : Exit → Act → World → Prop} {d1_1 d1_0 : Nat} {u0 u2 u3 u4 u5 u6 u7 u8 u9 u10 u11 u12 u13 u14 u15 u16 u17 u18 u19 u20 u21 u22 u23 u24 u25 u26 u27 u28 u29 u30 u31 u32 u33 u34 u35 u36 u37 u38 u39 u40 u41 u42 u43 u44 u45 u46 : Value}
    (hQ : ∀ c a d v w, Q0 (.panic c) (Act.put a d v) w → Q0 (.panic c) a w)
    (hK : ∀ (t14 t15 : Value) (d3_2 : Nat) (z : World), Gw.Mem w0 [(d3_2, .cells #[.int .u64 x.u.lo, .int .u64 x.u.hi] 26), (d1_1, .cells #[.int .u64 0, .int .u64 0, .int .u64 0, .int .u64 0, .int .i64 0, .int .i64 0] 30), (d1_0, .cells #[.int .u64 (bi (x.t.v &&& ~~~x.t.m)), .int .u64 (bi x.t.m), .int .u64 x.u.lo, .int .u64 x.u.hi, .int .i64 x.s.lo, .int .i64 x.s.hi] 30)] z → K ⟨#[u0, .pointer (some ⟨d1_0, 0, none⟩), u2, .pointer (some ⟨d3_2, 0, none⟩), u4, u5, u6, u7, u8, u9, u10, u11, u12, u13, t14, t15, u16, u17, u18, u19, u20, u21, u22, u23, u24, u25, u26, u27, u28, u29, u30, u31, u32, u33, u34, u35, u36, u37, u38, u39, u40, u41, u42, u43, u44, u45, u46], []⟩ z) (wy : World) (M : Gw.Mem w0 [(d1_1, .cells #[.int .u64 0, .int .u64 0, .int .u64 0, .int .u64 0, .int .i64 0, .int .i64 0] 30), (d1_0, .cells #[.int .u64 (bi (x.t.v &&& ~~~x.t.m)), .int .u64 (bi x.t.m), .int .u64 x.u.lo, .int .u64 x.u.hi, .int .i64 x.s.lo, .int .i64 x.s.hi] 30)] wy) :
    May5_r2C.wp Tryz.prog (Exit.then K Q0) ⟨#[u0, .pointer (some ⟨d1_0, 0, none⟩), u2, u3, u4, u5, u6, u7, u8, u9, u10, u11, u12, u13, u14, u15, u16, u17, u18, u19, u20, u21, u22, u23, u24, u25, u26, u27, u28, u29, u30, u31, u32, u33, u34, u35, u36, u37, u38, u39, u40, u41, u42, u43, u44, u45, u46], []⟩ wy := by
  have HK := Lib.hid hK
  clear hK
  conv => arg 2; whnf
  refine Gw.line _ M ?_
  clear M wy
  refine Gw.sw (.pointer (some ⟨d1_0, 2, none⟩)) ?_
  try simp only [Act.put, ptA, ptB, ptC]
  refine Gw.sq (.agg #[.int .u64 x.u.lo, .int .u64 x.u.hi]) ?_ ?_
  · intro w M; have c := M.c2 1 2 3; go_simp
  try simp only [Act.put, ptA, ptB, ptC]
  refine Gw.ss ?_
  intro w M K' hK
  go_simp
  have M1 := M.alloc (.cells #[.int .u64 0, .int .u64 0] 26)
  generalize w.heap.size = d3_2 at M1 ⊢
  refine hK.out _ _ _ M1 ?_
  clear hK K' M1 M w
  try simp only [Act.put, ptA, ptB, ptC]
  refine Gw.ss ?_
  intro w M K' hK
  have c := M.c2 0 0 1
  have f := M.f2 0 0 1
  go_simp
  refine hK.out _ _ _ ((M.set 0 0 _).set 0 1 _) ?_
  clear hK K' c f M w
  exact fun z M => HK.out _ _ _ z M
noncomputable def May5_r3C : Code := (Tryz.f12.body.bind (Rg.findR 3)).getD .skip
set_option maxHeartbeats 4000000 in
theorem May5_r3 (x : C) {w0 : World}  {K : Act → World → Prop} {Q0 : Exit → Act → World → Prop} {d3_2 d1_1 d1_0 : Nat} {u0 u2 u4 u5 u6 u7 u8 u9 u10 u11 u12 u13 u14 u15 u16 u17 u18 u19 u20 u21 u22 u23 u24 u25 u26 u27 u28 u29 u30 u31 u32 u33 u34 u35 u36 u37 u38 u39 u40 u41 u42 u43 u44 u45 u46 : Value}
    (hQ : ∀ c a d v w, Q0 (.panic c) (Act.put a d v) w → Q0 (.panic c) a w)
    (hK : ∀ (t16 t17 t18 t19 t20 t21 t22 : Value) (z : World), Gw.Mem w0 [(d3_2, .cells #[.int .u64 x.u.lo, .int .u64 x.u.hi] 26), (d1_1, .cells #[.int .u64 0, .int .u64 0, .int .u64 0, .int .u64 0, .int .i64 0, .int .i64 0] 30), (d1_0, .cells #[.int .u64 (bi (x.t.v &&& ~~~x.t.m)), .int .u64 (bi x.t.m), .int .u64 (min x.u.lo x.u.hi), .int .u64 x.u.hi, .int .i64 x.s.lo, .int .i64 x.s.hi] 30)] z → K ⟨#[u0, .pointer (some ⟨d1_0, 0, none⟩), u2, .pointer (some ⟨d3_2, 0, none⟩), u4, u5, u6, u7, u8, u9, u10, u11, u12, u13, u14, u15, t16, t17, t18, t19, t20, t21, t22, u23, u24, u25, u26, u27, u28, u29, u30, u31, u32, u33, u34, u35, u36, u37, u38, u39, u40, u41, u42, u43, u44, u45, u46], []⟩ z) (wy : World) (M : Gw.Mem w0 [(d3_2, .cells #[.int .u64 x.u.lo, .int .u64 x.u.hi] 26), (d1_1, .cells #[.int .u64 0, .int .u64 0, .int .u64 0, .int .u64 0, .int .i64 0, .int .i64 0] 30), (d1_0, .cells #[.int .u64 (bi (x.t.v &&& ~~~x.t.m)), .int .u64 (bi x.t.m), .int .u64 x.u.lo, .int .u64 x.u.hi, .int .i64 x.s.lo, .int .i64 x.s.hi] 30)] wy) :
    May5_r3C.wp Tryz.prog (Exit.then K Q0) ⟨#[u0, .pointer (some ⟨d1_0, 0, none⟩), u2, .pointer (some ⟨d3_2, 0, none⟩), u4, u5, u6, u7, u8, u9, u10, u11, u12, u13, u14, u15, u16, u17, u18, u19, u20, u21, u22, u23, u24, u25, u26, u27, u28, u29, u30, u31, u32, u33, u34, u35, u36, u37, u38, u39, u40, u41, u42, u43, u44, u45, u46], []⟩ wy := by
  have HK := Lib.hid hK
  clear hK
  conv => arg 2; whnf
  refine Gw.line _ M ?_
  clear M wy
  refine Gw.sw (.pointer (some ⟨d3_2, 0, none⟩)) ?_
  try simp only [Act.put, ptA, ptB, ptC]
  refine Gw.sq (.int .u64 x.u.lo) ?_ ?_
  · intro w M; have c := M.cell 0 0; go_simp
  try simp only [Act.put, ptA, ptB, ptC]
  refine Gw.sw (.pointer (some ⟨d3_2, 1, none⟩)) ?_
  try simp only [Act.put, ptA, ptB, ptC]
  refine Gw.sq (.int .u64 x.u.hi) ?_ ?_
  · intro w M; have c := M.cell 0 1; go_simp
  try simp only [Act.put, ptA, ptB, ptC]
  refine Gw.sw (.int .u64 (min x.u.lo x.u.hi)) ?_ (hy := by intro w; go_simp <;> (split <;> omega))
  try simp only [Act.put, ptA, ptB, ptC]
  refine Gw.sw (.pointer (some ⟨d1_0, 2, none⟩)) ?_
  try simp only [Act.put, ptA, ptB, ptC]
  refine Gw.sw (.pointer (some ⟨d1_0, 2, none⟩)) ?_
  try simp only [Act.put, ptA, ptB, ptC]
  refine Gw.ss ?_
  intro w M K' hK
  have c := M.cell 2 2
  have f := M.frozen 2 2
  go_simp
  refine hK.out _ _ _ (M.set 2 2 _) ?_
  clear hK K' c f M w
  exact fun z M => HK.out _ _ _ _ _ _ _ z M
noncomputable def May5_r4C : Code := (Tryz.f12.body.bind (Rg.findR 4)).getD .skip
set_option maxHeartbeats 4000000 in
theorem May5_r4 (x : C) {w0 : World}  {K : Act → World → Prop} {Q0 : Exit → Act → World → Prop} {d3_2 d1_1 d1_0 : Nat} {u0 u2 u4 u5 u6 u7 u8 u9 u10 u11 u12 u13 u14 u15 u16 u17 u18 u19 u20 u21 u22 u23 u24 u25 u26 u27 u28 u29 u30 u31 u32 u33 u34 u35 u36 u37 u38 u39 u40 u41 u42 u43 u44 u45 u46 : Value}
    (hQ : ∀ c a d v w, Q0 (.panic c) (Act.put a d v) w → Q0 (.panic c) a w)
    (hK : ∀ (t23 t24 t25 t26 t27 t28 t29 : Value) (z : World), Gw.Mem w0 [(d3_2, .cells #[.int .u64 x.u.lo, .int .u64 x.u.hi] 26), (d1_1, .cells #[.int .u64 0, .int .u64 0, .int .u64 0, .int .u64 0, .int .i64 0, .int .i64 0] 30), (d1_0, .cells #[.int .u64 (bi (x.t.v &&& ~~~x.t.m)), .int .u64 (bi x.t.m), .int .u64 (min x.u.lo x.u.hi), .int .u64 (max x.u.lo x.u.hi), .int .i64 x.s.lo, .int .i64 x.s.hi] 30)] z → K ⟨#[u0, .pointer (some ⟨d1_0, 0, none⟩), u2, .pointer (some ⟨d3_2, 0, none⟩), u4, u5, u6, u7, u8, u9, u10, u11, u12, u13, u14, u15, u16, u17, u18, u19, u20, u21, u22, t23, t24, t25, t26, t27, t28, t29, u30, u31, u32, u33, u34, u35, u36, u37, u38, u39, u40, u41, u42, u43, u44, u45, u46], []⟩ z) (wy : World) (M : Gw.Mem w0 [(d3_2, .cells #[.int .u64 x.u.lo, .int .u64 x.u.hi] 26), (d1_1, .cells #[.int .u64 0, .int .u64 0, .int .u64 0, .int .u64 0, .int .i64 0, .int .i64 0] 30), (d1_0, .cells #[.int .u64 (bi (x.t.v &&& ~~~x.t.m)), .int .u64 (bi x.t.m), .int .u64 (min x.u.lo x.u.hi), .int .u64 x.u.hi, .int .i64 x.s.lo, .int .i64 x.s.hi] 30)] wy) :
    May5_r4C.wp Tryz.prog (Exit.then K Q0) ⟨#[u0, .pointer (some ⟨d1_0, 0, none⟩), u2, .pointer (some ⟨d3_2, 0, none⟩), u4, u5, u6, u7, u8, u9, u10, u11, u12, u13, u14, u15, u16, u17, u18, u19, u20, u21, u22, u23, u24, u25, u26, u27, u28, u29, u30, u31, u32, u33, u34, u35, u36, u37, u38, u39, u40, u41, u42, u43, u44, u45, u46], []⟩ wy := by
  have HK := Lib.hid hK
  clear hK
  conv => arg 2; whnf
  refine Gw.line _ M ?_
  clear M wy
  refine Gw.sw (.pointer (some ⟨d3_2, 0, none⟩)) ?_
  try simp only [Act.put, ptA, ptB, ptC]
  refine Gw.sq (.int .u64 x.u.lo) ?_ ?_
  · intro w M; have c := M.cell 0 0; go_simp
  try simp only [Act.put, ptA, ptB, ptC]
  refine Gw.sw (.pointer (some ⟨d3_2, 1, none⟩)) ?_
  try simp only [Act.put, ptA, ptB, ptC]
  refine Gw.sq (.int .u64 x.u.hi) ?_ ?_
  · intro w M; have c := M.cell 0 1; go_simp
  try simp only [Act.put, ptA, ptB, ptC]
  refine Gw.sw (.int .u64 (max x.u.lo x.u.hi)) ?_ (hy := by intro w; go_simp <;> (split <;> omega))
  try simp only [Act.put, ptA, ptB, ptC]
  refine Gw.sw (.pointer (some ⟨d1_0, 2, none⟩)) ?_
  try simp only [Act.put, ptA, ptB, ptC]
  refine Gw.sw (.pointer (some ⟨d1_0, 3, none⟩)) ?_
  try simp only [Act.put, ptA, ptB, ptC]
  refine Gw.ss ?_
  intro w M K' hK
  have c := M.cell 2 3
  have f := M.frozen 2 3
  go_simp
  refine hK.out _ _ _ (M.set 2 3 _) ?_
  clear hK K' c f M w
  exact fun z M => HK.out _ _ _ _ _ _ _ z M
noncomputable def May5_r5C : Code := (Tryz.f12.body.bind (Rg.findR 5)).getD .skip
set_option maxHeartbeats 4000000 in
theorem May5_r5 (x : C) {w0 : World}  {K : Act → World → Prop} {Q0 : Exit → Act → World → Prop} {d3_2 d1_1 d1_0 : Nat} {u0 u2 u3 u4 u5 u6 u7 u8 u9 u10 u11 u12 u13 u14 u15 u16 u17 u18 u19 u20 u21 u22 u23 u24 u25 u26 u27 u28 u29 u30 u31 u32 u33 u34 u35 u36 u37 u38 u39 u40 u41 u42 u43 u44 u45 u46 : Value}
    (hQ : ∀ c a d v w, Q0 (.panic c) (Act.put a d v) w → Q0 (.panic c) a w)
    (hK : ∀ (t30 t31 : Value) (d6_2 : Nat) (z : World), Gw.Mem w0 [(d6_2, .cells #[.int .i64 x.s.lo, .int .i64 x.s.hi] 28), (d3_2, .cells #[.int .u64 x.u.lo, .int .u64 x.u.hi] 26), (d1_1, .cells #[.int .u64 0, .int .u64 0, .int .u64 0, .int .u64 0, .int .i64 0, .int .i64 0] 30), (d1_0, .cells #[.int .u64 (bi (x.t.v &&& ~~~x.t.m)), .int .u64 (bi x.t.m), .int .u64 (min x.u.lo x.u.hi), .int .u64 (max x.u.lo x.u.hi), .int .i64 x.s.lo, .int .i64 x.s.hi] 30)] z → K ⟨#[u0, .pointer (some ⟨d1_0, 0, none⟩), u2, u3, .pointer (some ⟨d6_2, 0, none⟩), u5, u6, u7, u8, u9, u10, u11, u12, u13, u14, u15, u16, u17, u18, u19, u20, u21, u22, u23, u24, u25, u26, u27, u28, u29, t30, t31, u32, u33, u34, u35, u36, u37, u38, u39, u40, u41, u42, u43, u44, u45, u46], []⟩ z) (wy : World) (M : Gw.Mem w0 [(d3_2, .cells #[.int .u64 x.u.lo, .int .u64 x.u.hi] 26), (d1_1, .cells #[.int .u64 0, .int .u64 0, .int .u64 0, .int .u64 0, .int .i64 0, .int .i64 0] 30), (d1_0, .cells #[.int .u64 (bi (x.t.v &&& ~~~x.t.m)), .int .u64 (bi x.t.m), .int .u64 (min x.u.lo x.u.hi), .int .u64 (max x.u.lo x.u.hi), .int .i64 x.s.lo, .int .i64 x.s.hi] 30)] wy) :
    May5_r5C.wp Tryz.prog (Exit.then K Q0) ⟨#[u0, .pointer (some ⟨d1_0, 0, none⟩), u2, u3, u4, u5, u6, u7, u8, u9, u10, u11, u12, u13, u14, u15, u16, u17, u18, u19, u20, u21, u22, u23, u24, u25, u26, u27, u28, u29, u30, u31, u32, u33, u34, u35, u36, u37, u38, u39, u40, u41, u42, u43, u44, u45, u46], []⟩ wy := by
  have HK := Lib.hid hK
  clear hK
  conv => arg 2; whnf
  refine Gw.line _ M ?_
  clear M wy
  refine Gw.sw (.pointer (some ⟨d1_0, 4, none⟩)) ?_
  try simp only [Act.put, ptA, ptB, ptC]
  refine Gw.sq (.agg #[.int .i64 x.s.lo, .int .i64 x.s.hi]) ?_ ?_
  · intro w M; have c := M.c2 2 4 5; go_simp
  try simp only [Act.put, ptA, ptB, ptC]
  refine Gw.ss ?_
  intro w M K' hK
  go_simp
  have M1 := M.alloc (.cells #[.int .i64 0, .int .i64 0] 28)
  generalize w.heap.size = d6_2 at M1 ⊢
  refine hK.out _ _ _ M1 ?_
  clear hK K' M1 M w
  try simp only [Act.put, ptA, ptB, ptC]
  refine Gw.ss ?_
  intro w M K' hK
  have c := M.c2 0 0 1
  have f := M.f2 0 0 1
  go_simp
  refine hK.out _ _ _ ((M.set 0 0 _).set 0 1 _) ?_
  clear hK K' c f M w
  exact fun z M => HK.out _ _ _ z M
noncomputable def May5_r6C : Code := (Tryz.f12.body.bind (Rg.findR 6)).getD .skip
set_option maxHeartbeats 4000000 in
theorem May5_r6 (x : C) {w0 : World}  {K : Act → World → Prop} {Q0 : Exit → Act → World → Prop} {d6_2 d3_2 d1_1 d1_0 : Nat} {u0 u2 u3 u5 u6 u7 u8 u9 u10 u11 u12 u13 u14 u15 u16 u17 u18 u19 u20 u21 u22 u23 u24 u25 u26 u27 u28 u29 u30 u31 u32 u33 u34 u35 u36 u37 u38 u39 u40 u41 u42 u43 u44 u45 u46 : Value}
    (hQ : ∀ c a d v w, Q0 (.panic c) (Act.put a d v) w → Q0 (.panic c) a w)
    (hK : ∀ (t32 t33 t34 t35 t36 t37 t38 : Value) (z : World), Gw.Mem w0 [(d6_2, .cells #[.int .i64 x.s.lo, .int .i64 x.s.hi] 28), (d3_2, .cells #[.int .u64 x.u.lo, .int .u64 x.u.hi] 26), (d1_1, .cells #[.int .u64 0, .int .u64 0, .int .u64 0, .int .u64 0, .int .i64 0, .int .i64 0] 30), (d1_0, .cells #[.int .u64 (bi (x.t.v &&& ~~~x.t.m)), .int .u64 (bi x.t.m), .int .u64 (min x.u.lo x.u.hi), .int .u64 (max x.u.lo x.u.hi), .int .i64 (min x.s.lo x.s.hi), .int .i64 x.s.hi] 30)] z → K ⟨#[u0, .pointer (some ⟨d1_0, 0, none⟩), u2, u3, .pointer (some ⟨d6_2, 0, none⟩), u5, u6, u7, u8, u9, u10, u11, u12, u13, u14, u15, u16, u17, u18, u19, u20, u21, u22, u23, u24, u25, u26, u27, u28, u29, u30, u31, t32, t33, t34, t35, t36, t37, t38, u39, u40, u41, u42, u43, u44, u45, u46], []⟩ z) (wy : World) (M : Gw.Mem w0 [(d6_2, .cells #[.int .i64 x.s.lo, .int .i64 x.s.hi] 28), (d3_2, .cells #[.int .u64 x.u.lo, .int .u64 x.u.hi] 26), (d1_1, .cells #[.int .u64 0, .int .u64 0, .int .u64 0, .int .u64 0, .int .i64 0, .int .i64 0] 30), (d1_0, .cells #[.int .u64 (bi (x.t.v &&& ~~~x.t.m)), .int .u64 (bi x.t.m), .int .u64 (min x.u.lo x.u.hi), .int .u64 (max x.u.lo x.u.hi), .int .i64 x.s.lo, .int .i64 x.s.hi] 30)] wy) :
    May5_r6C.wp Tryz.prog (Exit.then K Q0) ⟨#[u0, .pointer (some ⟨d1_0, 0, none⟩), u2, u3, .pointer (some ⟨d6_2, 0, none⟩), u5, u6, u7, u8, u9, u10, u11, u12, u13, u14, u15, u16, u17, u18, u19, u20, u21, u22, u23, u24, u25, u26, u27, u28, u29, u30, u31, u32, u33, u34, u35, u36, u37, u38, u39, u40, u41, u42, u43, u44, u45, u46], []⟩ wy := by
  have HK := Lib.hid hK
  clear hK
  conv => arg 2; whnf
  refine Gw.line _ M ?_
  clear M wy
  refine Gw.sw (.pointer (some ⟨d6_2, 0, none⟩)) ?_
  try simp only [Act.put, ptA, ptB, ptC]
  refine Gw.sq (.int .i64 x.s.lo) ?_ ?_
  · intro w M; have c := M.cell 0 0; go_simp
  try simp only [Act.put, ptA, ptB, ptC]
  refine Gw.sw (.pointer (some ⟨d6_2, 1, none⟩)) ?_
  try simp only [Act.put, ptA, ptB, ptC]
  refine Gw.sq (.int .i64 x.s.hi) ?_ ?_
  · intro w M; have c := M.cell 0 1; go_simp
  try simp only [Act.put, ptA, ptB, ptC]
  refine Gw.sw (.int .i64 (min x.s.lo x.s.hi)) ?_ (hy := by intro w; go_simp <;> (split <;> omega))
  try simp only [Act.put, ptA, ptB, ptC]
  refine Gw.sw (.pointer (some ⟨d1_0, 4, none⟩)) ?_
  try simp only [Act.put, ptA, ptB, ptC]
  refine Gw.sw (.pointer (some ⟨d1_0, 4, none⟩)) ?_
  try simp only [Act.put, ptA, ptB, ptC]
  refine Gw.ss ?_
  intro w M K' hK
  have c := M.cell 3 4
  have f := M.frozen 3 4
  go_simp
  refine hK.out _ _ _ (M.set 3 4 _) ?_
  clear hK K' c f M w
  exact fun z M => HK.out _ _ _ _ _ _ _ z M
noncomputable def May5_r7C : Code := (Tryz.f12.body.bind (Rg.findR 7)).getD .skip
set_option maxHeartbeats 4000000 in
theorem May5_r7 (x : C) {w0 : World}  {K : Act → World → Prop} {Q0 : Exit → Act → World → Prop} {d6_2 d3_2 d1_1 d1_0 : Nat} {u0 u2 u3 u5 u6 u7 u8 u9 u10 u11 u12 u13 u14 u15 u16 u17 u18 u19 u20 u21 u22 u23 u24 u25 u26 u27 u28 u29 u30 u31 u32 u33 u34 u35 u36 u37 u38 u39 u40 u41 u42 u43 u44 u45 u46 : Value}
    (hQ : ∀ c a d v w, Q0 (.panic c) (Act.put a d v) w → Q0 (.panic c) a w)
    (hK : ∀ (t39 t40 t41 t42 t43 t44 t45 : Value) (z : World), Gw.Mem w0 [(d6_2, .cells #[.int .i64 x.s.lo, .int .i64 x.s.hi] 28), (d3_2, .cells #[.int .u64 x.u.lo, .int .u64 x.u.hi] 26), (d1_1, .cells #[.int .u64 0, .int .u64 0, .int .u64 0, .int .u64 0, .int .i64 0, .int .i64 0] 30), (d1_0, .cells #[.int .u64 (bi (x.t.v &&& ~~~x.t.m)), .int .u64 (bi x.t.m), .int .u64 (min x.u.lo x.u.hi), .int .u64 (max x.u.lo x.u.hi), .int .i64 (min x.s.lo x.s.hi), .int .i64 (max x.s.lo x.s.hi)] 30)] z → K ⟨#[u0, .pointer (some ⟨d1_0, 0, none⟩), u2, u3, .pointer (some ⟨d6_2, 0, none⟩), u5, u6, u7, u8, u9, u10, u11, u12, u13, u14, u15, u16, u17, u18, u19, u20, u21, u22, u23, u24, u25, u26, u27, u28, u29, u30, u31, u32, u33, u34, u35, u36, u37, u38, t39, t40, t41, t42, t43, t44, t45, u46], []⟩ z) (wy : World) (M : Gw.Mem w0 [(d6_2, .cells #[.int .i64 x.s.lo, .int .i64 x.s.hi] 28), (d3_2, .cells #[.int .u64 x.u.lo, .int .u64 x.u.hi] 26), (d1_1, .cells #[.int .u64 0, .int .u64 0, .int .u64 0, .int .u64 0, .int .i64 0, .int .i64 0] 30), (d1_0, .cells #[.int .u64 (bi (x.t.v &&& ~~~x.t.m)), .int .u64 (bi x.t.m), .int .u64 (min x.u.lo x.u.hi), .int .u64 (max x.u.lo x.u.hi), .int .i64 (min x.s.lo x.s.hi), .int .i64 x.s.hi] 30)] wy) :
    May5_r7C.wp Tryz.prog (Exit.then K Q0) ⟨#[u0, .pointer (some ⟨d1_0, 0, none⟩), u2, u3, .pointer (some ⟨d6_2, 0, none⟩), u5, u6, u7, u8, u9, u10, u11, u12, u13, u14, u15, u16, u17, u18, u19, u20, u21, u22, u23, u24, u25, u26, u27, u28, u29, u30, u31, u32, u33, u34, u35, u36, u37, u38, u39, u40, u41, u42, u43, u44, u45, u46], []⟩ wy := by
  have HK := Lib.hid hK
  clear hK
  conv => arg 2; whnf
  refine Gw.line _ M ?_
  clear M wy
  refine Gw.sw (.pointer (some ⟨d6_2, 0, none⟩)) ?_
  try simp only [Act.put, ptA, ptB, ptC]
  refine Gw.sq (.int .i64 x.s.lo) ?_ ?_
  · intro w M; have c := M.cell 0 0; go_simp
  try simp only [Act.put, ptA, ptB, ptC]
  refine Gw.sw (.pointer (some ⟨d6_2, 1, none⟩)) ?_
  try simp only [Act.put, ptA, ptB, ptC]
  refine Gw.sq (.int .i64 x.s.hi) ?_ ?_
  · intro w M; have c := M.cell 0 1; go_simp
  try simp only [Act.put, ptA, ptB, ptC]
  refine Gw.sw (.int .i64 (max x.s.lo x.s.hi)) ?_ (hy := by intro w; go_simp <;> (split <;> omega))
  try simp only [Act.put, ptA, ptB, ptC]
  refine Gw.sw (.pointer (some ⟨d1_0, 4, none⟩)) ?_
  try simp only [Act.put, ptA, ptB, ptC]
  refine Gw.sw (.pointer (some ⟨d1_0, 5, none⟩)) ?_
  try simp only [Act.put, ptA, ptB, ptC]
  refine Gw.ss ?_
  intro w M K' hK
  have c := M.cell 3 5
  have f := M.frozen 3 5
  go_simp
  refine hK.out _ _ _ (M.set 3 5 _) ?_
  clear hK K' c f M w
  exact fun z M => HK.out _ _ _ _ _ _ _ z M
noncomputable def May5_r8C : Code := (Tryz.f12.body.bind (Rg.findR 8)).getD .skip
set_option maxHeartbeats 4000000 in
theorem May5_r8 (x : C) {w0 : World}  {K : Act → World → Prop} {Q0 : Exit → Act → World → Prop} {d6_2 d3_2 d1_1 d1_0 : Nat} {u0 u3 u4 u5 u6 u7 u8 u9 u10 u11 u12 u13 u14 u15 u16 u17 u18 u19 u20 u21 u22 u23 u24 u25 u26 u27 u28 u29 u30 u31 u32 u33 u34 u35 u36 u37 u38 u39 u40 u41 u42 u43 u44 u45 u46 : Value}
    (hQ : ∀ c a d v w, Q0 (.panic c) (Act.put a d v) w → Q0 (.panic c) a w)
    (hK : ∀ (t46 : Value) (z : World), Gw.Mem w0 [(d6_2, .cells #[.int .i64 x.s.lo, .int .i64 x.s.hi] 28), (d3_2, .cells #[.int .u64 x.u.lo, .int .u64 x.u.hi] 26), (d1_1, .cells #[.int .u64 (bi (x.t.v &&& ~~~x.t.m)), .int .u64 (bi x.t.m), .int .u64 (min x.u.lo x.u.hi), .int .u64 (max x.u.lo x.u.hi), .int .i64 (min x.s.lo x.s.hi), .int .i64 (max x.s.lo x.s.hi)] 30), (d1_0, .cells #[.int .u64 (bi (x.t.v &&& ~~~x.t.m)), .int .u64 (bi x.t.m), .int .u64 (min x.u.lo x.u.hi), .int .u64 (max x.u.lo x.u.hi), .int .i64 (min x.s.lo x.s.hi), .int .i64 (max x.s.lo x.s.hi)] 30)] z → K ⟨#[u0, .pointer (some ⟨d1_0, 0, none⟩), .pointer (some ⟨d1_1, 0, none⟩), u3, u4, u5, u6, u7, u8, u9, u10, u11, u12, u13, u14, u15, u16, u17, u18, u19, u20, u21, u22, u23, u24, u25, u26, u27, u28, u29, u30, u31, u32, u33, u34, u35, u36, u37, u38, u39, u40, u41, u42, u43, u44, u45, t46], []⟩ z) (wy : World) (M : Gw.Mem w0 [(d6_2, .cells #[.int .i64 x.s.lo, .int .i64 x.s.hi] 28), (d3_2, .cells #[.int .u64 x.u.lo, .int .u64 x.u.hi] 26), (d1_1, .cells #[.int .u64 0, .int .u64 0, .int .u64 0, .int .u64 0, .int .i64 0, .int .i64 0] 30), (d1_0, .cells #[.int .u64 (bi (x.t.v &&& ~~~x.t.m)), .int .u64 (bi x.t.m), .int .u64 (min x.u.lo x.u.hi), .int .u64 (max x.u.lo x.u.hi), .int .i64 (min x.s.lo x.s.hi), .int .i64 (max x.s.lo x.s.hi)] 30)] wy) :
    May5_r8C.wp Tryz.prog (Exit.then K Q0) ⟨#[u0, .pointer (some ⟨d1_0, 0, none⟩), .pointer (some ⟨d1_1, 0, none⟩), u3, u4, u5, u6, u7, u8, u9, u10, u11, u12, u13, u14, u15, u16, u17, u18, u19, u20, u21, u22, u23, u24, u25, u26, u27, u28, u29, u30, u31, u32, u33, u34, u35, u36, u37, u38, u39, u40, u41, u42, u43, u44, u45, u46], []⟩ wy := by
  have HK := Lib.hid hK
  clear hK
  conv => arg 2; whnf
  refine Gw.line _ M ?_
  clear M wy
  refine Gw.sq (.agg #[.int .u64 (bi (x.t.v &&& ~~~x.t.m)), .int .u64 (bi x.t.m), .int .u64 (min x.u.lo x.u.hi), .int .u64 (max x.u.lo x.u.hi), .int .i64 (min x.s.lo x.s.hi), .int .i64 (max x.s.lo x.s.hi)]) ?_ ?_
  · intro w M; have c := M.c6 3; go_simp
  try simp only [Act.put, ptA, ptB, ptC]
  refine Gw.ss ?_
  intro w M K' hK
  have c := M.c6 2
  have f := M.f6 2
  go_simp
  refine hK.out _ _ _ ((((((M.set 2 0 _).set 2 1 _).set 2 2 _).set 2 3 _).set 2 4 _).set 2 5 _) ?_
  clear hK K' c f M w
  exact fun z M => HK.out _ z M
set_option maxHeartbeats 4000000 in
theorem May5 (x : C) (w : World) :
    Calls Tryz.prog 12 #[.agg #[.int .u64 (bi x.t.v), .int .u64 (bi x.t.m), .int .u64 x.u.lo, .int .u64 x.u.hi, .int .i64 x.s.lo, .int .i64 x.s.hi]] w fun e w' => e = .returned (.agg #[.int .u64 (bi (sortC x).t.v), .int .u64 (bi (sortC x).t.m), .int .u64 ((sortC x).u.lo), .int .u64 ((sortC x).u.hi), .int .i64 ((sortC x).s.lo), .int .i64 ((sortC x).s.hi)]) ∧ Below w.heap.size w w' := by
  go_enter Tryz.func12, Tryz.ntmps12
  have M := Gw.Mem.nil w
  refine wp_seq (May5_r0 x (fun _ _ d _ _ h => by cases d <;> exact h) ?_ _ M)
  clear M
  intro d1_0 d1_1 z1 M
  refine wp_seq (May5_r1 x (fun _ _ d _ _ h => by cases d <;> exact h) ?_ _ M)
  clear M
  intro _ _ _ _ _ _ _ _ _ z2 M
  refine wp_seq (May5_r2 x (fun _ _ d _ _ h => by cases d <;> exact h) ?_ _ M)
  clear M
  intro _ _ d3_2 z3 M
  refine wp_seq (May5_r3 x (fun _ _ d _ _ h => by cases d <;> exact h) ?_ _ M)
  clear M
  intro _ _ _ _ _ _ _ z4 M
  refine wp_seq (May5_r4 x (fun _ _ d _ _ h => by cases d <;> exact h) ?_ _ M)
  clear M
  intro _ _ _ _ _ _ _ z5 M
  refine wp_seq (May5_r5 x (fun _ _ d _ _ h => by cases d <;> exact h) ?_ _ M)
  clear M
  intro _ _ d6_2 z6 M
  refine wp_seq (May5_r6 x (fun _ _ d _ _ h => by cases d <;> exact h) ?_ _ M)
  clear M
  intro _ _ _ _ _ _ _ z7 M
  refine wp_seq (May5_r7 x (fun _ _ d _ _ h => by cases d <;> exact h) ?_ _ M)
  clear M
  intro _ _ _ _ _ _ _ z8 M
  refine wp_seq (May5_r8 x (fun _ _ d _ _ h => by cases d <;> exact h) ?_ _ M)
  clear M
  intro _ z9 M
  refine wp_ret ?_
  try simp only [Exit.inBlock, Exit.then]
  have g0 := M.cell 2 0
  have g1 := M.cell 2 1
  have g2 := M.cell 2 2
  have g3 := M.cell 2 3
  have g4 := M.cell 2 4
  have g5 := M.cell 2 5
  refine bodyPost_ret (by simp [results, Tryz.results12, g0, g1, g2, g3, g4, g5, go_sem]; try rfl) rfl ?_
  exact ⟨rfl, M.below⟩
end Go.Proofs.YtcimihckhobniaaGreat.Sc
