/-
  What the program's layer 5 tells: contracts, twelfth part: the jump, walked. Conditions: scalars may be, where that is said.
-/
import Derived.Test.YtcimihckhobniaaGreatXM16
namespace Go.Proofs.YtcimihckhobniaaGreat.Sc
open Go.RowKit Tn Ow Sp
set_option linter.unusedVariables false
set_option linter.unusedSimpArgs false
set_option maxRecDepth 100000
theorem run_ls (op : Int) (taken : Bool) (hop : Wd.jumpOk op = true) (args : Array Value) (w : World) : (callFunc (lsN op taken) args).run Tryz.prog w = .ok (.enter (lsN op taken) args) w := by
  rcases jump_cases hop with rfl | rfl | rfl | rfl | rfl | rfl | rfl | rfl | rfl | rfl | rfl <;> cases taken <;> kernel_rfl
theorem np_1 {p q : C} (h : (normC p).isSome = false) : normP (p, q) = none := by unfold normP; dsimp only; rw [no_n h]
theorem np_2 {p q : C} (h : (normC q).isSome = false) : normP (p, q) = none := by unfold normP; dsimp only; rw [no_n h]; cases normC p <;> rfl
theorem np_3 {p q : C} (h : (normC p).isSome = true) (g : (normC q).isSome = true) : normP (p, q) = some ((normC p).getD zeroC, (normC q).getD zeroC) := by unfold normP; dsimp only; rw [so_s h, so_s g]; rfl
theorem br_5 {op : Int} {wide taken : Bool} {a b p q : C} {ok : Bool} (ha : mayC a) (hb : mayC b) (hls : lsR op taken a b = ((p, q), ok)) (h0 : (!(Wd.jumpOk op)) = false) (h1 : ((aloneC a && aloneC b) && Wd.jumpOk op) = false) (h2 : (!wide && (!(!wideJ op a b))) = false) (hok : ok = true) : branchC op wide taken a b = normP (p, q) := by
  rw [br_4 ha hb hls h0 h1 h2, hok]; rfl
theorem cnd (x y : Bool) : (bif x then y else false) = (x && y) := by cases x <;> rfl
theorem decided6 (op : Int) (wide : Bool) (a b : C) (ha : mayC a) (hb : mayC b) (w : World) :
    Calls Tryz.prog 86 #[.int .i64 op, .bool wide, .agg #[.int .u64 (bi a.t.v), .int .u64 (bi a.t.m), .int .u64 a.u.lo, .int .u64 a.u.hi, .int .i64 a.s.lo, .int .i64 a.s.hi], .agg #[.int .u64 (bi b.t.v), .int .u64 (bi b.t.m), .int .u64 b.u.lo, .int .u64 b.u.hi, .int .i64 b.s.lo, .int .i64 b.s.hi]] w fun e w' => e = .returned (.tuple #[.bool ((aloneC a && aloneC b) && Wd.jumpV op wide (oneC a) (oneC b)), .bool ((aloneC a && aloneC b) && Wd.jumpOk op)]) ∧ Below w.heap.size w w' := by
  have := decided5 op wide a b ha hb w; rw [cnd] at this; exact this
theorem br_2b {op : Int} {wide taken : Bool} {a b : C} (h0 : (!(Wd.jumpOk op)) = false) (h1 : ((aloneC a && aloneC b) && Wd.jumpOk op) = true) : branchC op wide taken a b = if (((aloneC a && aloneC b) && Wd.jumpV op wide (oneC a) (oneC b)) == taken) = true then some (a, b) else none := by
  rw [br_2 h0 h1, cnd]
noncomputable def br5_r0C : Code := (Tryz.f34.body.bind (Rg.findR 0)).getD .skip
set_option maxHeartbeats 4000000 in
theorem br5_r0 (op : Int) (wide taken : Bool) (a b : C) (ha : mayC a) (hb : mayC b) (p q : C) (ok : Bool) (hls : lsR op taken a b = ((p, q), ok)) {w0 : World}  {K : Act → World → Prop} {Q0 : Exit → Act → World → Prop} {u0 u1 u2 u5 u6 u7 u8 u9 u10 u11 u12 u13 u14 u15 u16 u17 u18 u19 u20 u21 u22 u23 u24 u25 u26 u27 u28 u29 u30 u31 u32 u33 u34 u35 u36 u37 u38 u39 u40 u41 u42 u43 u44 u45 u46 u47 u48 u49 u50 u51 u52 u53 u54 u55 u56 u57 u58 u59 u60 u61 u62 u63 u64 u65 u66 u67 u68 u69 u70 u71 u72 u73 u74 u75 u76 u77 u78 u79 u80 u81 u82 u83 u84 u85 u86 u87 u88 u89 u90 u91 u92 u93 u94 u95 u96 u97 u98 : Value}
    (hQ : ∀ c a d v w, Q0 (.panic c) (Act.put a d v) w → Q0 (.panic c) a w)
    (hK : ∀ (t12 : Value) (d1_0 d1_1 d1_2 d1_3 : Nat) (z : World), Gw.Mem w0 [(d1_3, .cells #[.int .u64 0, .int .u64 0, .int .u64 0, .int .u64 0, .int .i64 0, .int .i64 0] 30), (d1_2, .cells #[.int .u64 0, .int .u64 0, .int .u64 0, .int .u64 0, .int .i64 0, .int .i64 0] 30), (d1_1, .cells #[.int .u64 (bi b.t.v), .int .u64 (bi b.t.m), .int .u64 b.u.lo, .int .u64 b.u.hi, .int .i64 b.s.lo, .int .i64 b.s.hi] 30), (d1_0, .cells #[.int .u64 (bi a.t.v), .int .u64 (bi a.t.m), .int .u64 a.u.lo, .int .u64 a.u.hi, .int .i64 a.s.lo, .int .i64 a.s.hi] 30)] z → K ⟨#[u0, u1, u2, .agg #[.int .u64 (bi a.t.v), .int .u64 (bi a.t.m), .int .u64 a.u.lo, .int .u64 a.u.hi, .int .i64 a.s.lo, .int .i64 a.s.hi], .agg #[.int .u64 (bi b.t.v), .int .u64 (bi b.t.m), .int .u64 b.u.lo, .int .u64 b.u.hi, .int .i64 b.s.lo, .int .i64 b.s.hi], u5, u6, u7, .pointer (some ⟨d1_0, 0, none⟩), .pointer (some ⟨d1_1, 0, none⟩), .pointer (some ⟨d1_2, 0, none⟩), .pointer (some ⟨d1_3, 0, none⟩), t12, u13, u14, u15, u16, u17, u18, u19, u20, u21, u22, u23, u24, u25, u26, u27, u28, u29, u30, u31, u32, u33, u34, u35, u36, u37, u38, u39, u40, u41, u42, u43, u44, u45, u46, u47, u48, u49, u50, u51, u52, u53, u54, u55, u56, u57, u58, u59, u60, u61, u62, u63, u64, u65, u66, u67, u68, u69, u70, u71, u72, u73, u74, u75, u76, u77, u78, u79, u80, u81, u82, u83, u84, u85, u86, u87, u88, u89, u90, u91, u92, u93, u94, u95, u96, u97, u98], []⟩ z) (wy : World) (M : Gw.Mem w0 [] wy) :
    br5_r0C.wp Tryz.prog (Exit.then K Q0) ⟨#[u0, u1, u2, .agg #[.int .u64 (bi a.t.v), .int .u64 (bi a.t.m), .int .u64 a.u.lo, .int .u64 a.u.hi, .int .i64 a.s.lo, .int .i64 a.s.hi], .agg #[.int .u64 (bi b.t.v), .int .u64 (bi b.t.m), .int .u64 b.u.lo, .int .u64 b.u.hi, .int .i64 b.s.lo, .int .i64 b.s.hi], u5, u6, u7, u8, u9, u10, u11, u12, u13, u14, u15, u16, u17, u18, u19, u20, u21, u22, u23, u24, u25, u26, u27, u28, u29, u30, u31, u32, u33, u34, u35, u36, u37, u38, u39, u40, u41, u42, u43, u44, u45, u46, u47, u48, u49, u50, u51, u52, u53, u54, u55, u56, u57, u58, u59, u60, u61, u62, u63, u64, u65, u66, u67, u68, u69, u70, u71, u72, u73, u74, u75, u76, u77, u78, u79, u80, u81, u82, u83, u84, u85, u86, u87, u88, u89, u90, u91, u92, u93, u94, u95, u96, u97, u98], []⟩ wy := by
  have HK := Lib.hid hK
  clear hK
  conv => arg 2; whnf
  refine Gw.line _ M ?_
  clear M wy
  refine Gw.ss ?_
  intro w M K' hK
  go_simp
  have M1 := M.alloc (.cells #[.int .u64 (bi a.t.v), .int .u64 (bi a.t.m), .int .u64 a.u.lo, .int .u64 a.u.hi, .int .i64 a.s.lo, .int .i64 a.s.hi] 30)
  generalize w.heap.size = d1_0 at M1 ⊢
  refine hK.out _ _ _ M1 ?_
  clear hK K' M1 M w
  try simp only [Act.put, ptA, ptB, ptC]
  refine Gw.ss ?_
  intro w M K' hK
  go_simp
  have M1 := M.alloc (.cells #[.int .u64 (bi b.t.v), .int .u64 (bi b.t.m), .int .u64 b.u.lo, .int .u64 b.u.hi, .int .i64 b.s.lo, .int .i64 b.s.hi] 30)
  generalize w.heap.size = d1_1 at M1 ⊢
  refine hK.out _ _ _ M1 ?_
  clear hK K' M1 M w
  try simp only [Act.put, ptA, ptB, ptC]
  refine Gw.ss ?_
  intro w M K' hK
  go_simp
  have M1 := M.alloc (.cells #[.int .u64 0, .int .u64 0, .int .u64 0, .int .u64 0, .int .i64 0, .int .i64 0] 30)
  generalize w.heap.size = d1_2 at M1 ⊢
  refine hK.out _ _ _ M1 ?_
  clear hK K' M1 M w
  try simp only [Act.put, ptA, ptB, ptC]
  refine Gw.ss ?_
  intro w M K' hK
  go_simp
  have M1 := M.alloc (.cells #[.int .u64 0, .int .u64 0, .int .u64 0, .int .u64 0, .int .i64 0, .int .i64 0] 30)
  generalize w.heap.size = d1_3 at M1 ⊢
  refine hK.out _ _ _ M1 ?_
  clear hK K' M1 M w
  try simp only [Act.put, ptA, ptB, ptC]
  refine Gw.sw (.bool false) ?_
  try simp only [Act.put, ptA, ptB, ptC]
  exact fun z M => HK.out _ _ _ _ _ z M
noncomputable def br5_r1C : Code := (Tryz.f34.body.bind (Rg.findR 1)).getD .skip
set_option maxHeartbeats 4000000 in
theorem br5_r1 (op : Int) (wide taken : Bool) (a b : C) (ha : mayC a) (hb : mayC b) (p q : C) (ok : Bool) (hls : lsR op taken a b = ((p, q), ok)) {w0 : World}  {K : Act → World → Prop} {Q0 : Exit → Act → World → Prop} {d1_3 d1_2 d1_1 d1_0 : Nat} {u2 u3 u4 u5 u6 u7 u8 u9 u10 u11 u12 u13 u14 u15 u16 u17 u18 u19 u20 u21 u22 u23 u24 u25 u26 u27 u28 u29 u30 u31 u32 u33 u34 u35 u36 u37 u38 u39 u40 u41 u42 u43 u44 u45 u46 u47 u48 u49 u50 u51 u52 u53 u54 u55 u56 u57 u58 u59 u60 u61 u62 u63 u64 u65 u66 u67 u68 u69 u70 u71 u72 u73 u74 u75 u76 u77 u78 u79 u80 u81 u82 u83 u84 u85 u86 u87 u88 u89 u90 u91 u92 u93 u94 u95 u96 u97 u98 : Value}
    (hQ : ∀ c a d v w, Q0 (.panic c) (Act.put a d v) w → Q0 (.panic c) a w)
    (hK : ∀ (t13 t22 t23 t24 t25 t26 t27 : Value) (z : World), Gw.Mem w0 [(d1_3, .cells #[.int .u64 0, .int .u64 0, .int .u64 0, .int .u64 0, .int .i64 0, .int .i64 0] 30), (d1_2, .cells #[.int .u64 0, .int .u64 0, .int .u64 0, .int .u64 0, .int .i64 0, .int .i64 0] 30), (d1_1, .cells #[.int .u64 (bi b.t.v), .int .u64 (bi b.t.m), .int .u64 b.u.lo, .int .u64 b.u.hi, .int .i64 b.s.lo, .int .i64 b.s.hi] 30), (d1_0, .cells #[.int .u64 (bi a.t.v), .int .u64 (bi a.t.m), .int .u64 a.u.lo, .int .u64 a.u.hi, .int .i64 a.s.lo, .int .i64 a.s.hi] 30)] z → K ⟨#[.int .i64 op, .bool wide, u2, u3, u4, u5, u6, u7, u8, u9, u10, u11, u12, t13, .bool (Wd.jumpOk op), u15, u16, u17, u18, u19, u20, u21, t22, t23, t24, t25, t26, t27, u28, u29, u30, u31, u32, u33, u34, u35, u36, u37, u38, u39, u40, u41, u42, u43, u44, u45, u46, u47, u48, u49, u50, u51, u52, u53, u54, u55, u56, u57, u58, u59, u60, u61, u62, u63, u64, u65, u66, u67, u68, u69, u70, u71, u72, u73, u74, u75, u76, u77, u78, u79, u80, u81, u82, u83, u84, u85, u86, u87, u88, u89, u90, u91, u92, u93, u94, u95, u96, u97, u98], []⟩ z) (wy : World) (M : Gw.Mem w0 [(d1_3, .cells #[.int .u64 0, .int .u64 0, .int .u64 0, .int .u64 0, .int .i64 0, .int .i64 0] 30), (d1_2, .cells #[.int .u64 0, .int .u64 0, .int .u64 0, .int .u64 0, .int .i64 0, .int .i64 0] 30), (d1_1, .cells #[.int .u64 (bi b.t.v), .int .u64 (bi b.t.m), .int .u64 b.u.lo, .int .u64 b.u.hi, .int .i64 b.s.lo, .int .i64 b.s.hi] 30), (d1_0, .cells #[.int .u64 (bi a.t.v), .int .u64 (bi a.t.m), .int .u64 a.u.lo, .int .u64 a.u.hi, .int .i64 a.s.lo, .int .i64 a.s.hi] 30)] wy) :
    br5_r1C.wp Tryz.prog (Exit.then K Q0) ⟨#[.int .i64 op, .bool wide, u2, u3, u4, u5, u6, u7, u8, u9, u10, u11, u12, u13, u14, u15, u16, u17, u18, u19, u20, u21, u22, u23, u24, u25, u26, u27, u28, u29, u30, u31, u32, u33, u34, u35, u36, u37, u38, u39, u40, u41, u42, u43, u44, u45, u46, u47, u48, u49, u50, u51, u52, u53, u54, u55, u56, u57, u58, u59, u60, u61, u62, u63, u64, u65, u66, u67, u68, u69, u70, u71, u72, u73, u74, u75, u76, u77, u78, u79, u80, u81, u82, u83, u84, u85, u86, u87, u88, u89, u90, u91, u92, u93, u94, u95, u96, u97, u98], []⟩ wy := by
  have HK := Lib.hid hK
  clear hK
  conv => arg 2; whnf
  refine Gw.line _ M ?_
  clear M wy
  refine Gw.sw (.int .i64 op) ?_
  try simp only [Act.put, ptA, ptB, ptC]
  refine Gw.sw (.bool wide) ?_
  try simp only [Act.put, ptA, ptB, ptC]
  refine Gw.sk (.tuple #[.bool (Wd.jumpV op wide 0 0), .bool (Wd.jumpOk op)]) 40 #[.int .i64 op, .bool wide, .int .u64 0, .int .u64 0] (fun w M => Gw.pure (L1.jump_any op wide 0 0 bd0.1 bd0.2 bd0.1 bd0.2 w)) ?_
  try simp only [Act.put, ptA, ptB, ptC]
  refine Gw.sw (.tuple #[.bool (Wd.jumpV op wide 0 0), .bool (Wd.jumpOk op)]) ?_
  try simp only [Act.put, ptA, ptB, ptC]
  refine Gw.sw (.bool (Wd.jumpV op wide 0 0)) ?_
  try simp only [Act.put, ptA, ptB, ptC]
  refine Gw.sw (.bool (Wd.jumpOk op)) ?_
  try simp only [Act.put, ptA, ptB, ptC]
  refine Gw.sw (.bool (Wd.jumpV op wide 0 0)) ?_
  try simp only [Act.put, ptA, ptB, ptC]
  refine Gw.sw (.bool (Wd.jumpOk op)) ?_
  try simp only [Act.put, ptA, ptB, ptC]
  exact fun z M => HK.out _ _ _ _ _ _ _ z M
noncomputable def br5_r2C : Code := (Tryz.f34.body.bind (Rg.findR 2)).getD .skip
set_option maxHeartbeats 4000000 in
theorem br5_r2 (op : Int) (wide taken : Bool) (a b : C) (ha : mayC a) (hb : mayC b) (p q : C) (ok : Bool) (hls : lsR op taken a b = ((p, q), ok)) {w0 : World}  {K : Act → World → Prop} {Q0 : Exit → Act → World → Prop} {d1_3 d1_2 d1_1 d1_0 : Nat} {u0 u1 u2 u3 u4 u5 u6 u7 u8 u9 u10 u11 u12 u13 u15 u16 u17 u18 u19 u20 u21 u22 u23 u24 u25 u26 u27 u28 u29 u30 u31 u32 u33 u34 u35 u36 u37 u38 u39 u40 u41 u42 u43 u44 u45 u46 u47 u48 u49 u50 u51 u52 u53 u54 u55 u56 u57 u58 u59 u60 u61 u62 u63 u64 u65 u66 u67 u68 u69 u70 u71 u72 u73 u74 u75 u76 u77 u78 u79 u80 u81 u82 u83 u84 u85 u86 u87 u88 u89 u90 u91 u92 u93 u94 u95 u96 u97 u98 : Value}
    (hQ : ∀ c a d v w, Q0 (.panic c) (Act.put a d v) w → Q0 (.panic c) a w)
    (hK : ∀ (t28 : Value) (z : World), Gw.Mem w0 [(d1_3, .cells #[.int .u64 0, .int .u64 0, .int .u64 0, .int .u64 0, .int .i64 0, .int .i64 0] 30), (d1_2, .cells #[.int .u64 0, .int .u64 0, .int .u64 0, .int .u64 0, .int .i64 0, .int .i64 0] 30), (d1_1, .cells #[.int .u64 (bi b.t.v), .int .u64 (bi b.t.m), .int .u64 b.u.lo, .int .u64 b.u.hi, .int .i64 b.s.lo, .int .i64 b.s.hi] 30), (d1_0, .cells #[.int .u64 (bi a.t.v), .int .u64 (bi a.t.m), .int .u64 a.u.lo, .int .u64 a.u.hi, .int .i64 a.s.lo, .int .i64 a.s.hi] 30)] z → K ⟨#[u0, u1, u2, u3, u4, u5, u6, u7, u8, u9, u10, u11, u12, u13, .bool (Wd.jumpOk op), u15, u16, u17, u18, u19, u20, u21, u22, u23, u24, u25, u26, u27, t28, .bool (!(Wd.jumpOk op)), u30, u31, u32, u33, u34, u35, u36, u37, u38, u39, u40, u41, u42, u43, u44, u45, u46, u47, u48, u49, u50, u51, u52, u53, u54, u55, u56, u57, u58, u59, u60, u61, u62, u63, u64, u65, u66, u67, u68, u69, u70, u71, u72, u73, u74, u75, u76, u77, u78, u79, u80, u81, u82, u83, u84, u85, u86, u87, u88, u89, u90, u91, u92, u93, u94, u95, u96, u97, u98], []⟩ z) (wy : World) (M : Gw.Mem w0 [(d1_3, .cells #[.int .u64 0, .int .u64 0, .int .u64 0, .int .u64 0, .int .i64 0, .int .i64 0] 30), (d1_2, .cells #[.int .u64 0, .int .u64 0, .int .u64 0, .int .u64 0, .int .i64 0, .int .i64 0] 30), (d1_1, .cells #[.int .u64 (bi b.t.v), .int .u64 (bi b.t.m), .int .u64 b.u.lo, .int .u64 b.u.hi, .int .i64 b.s.lo, .int .i64 b.s.hi] 30), (d1_0, .cells #[.int .u64 (bi a.t.v), .int .u64 (bi a.t.m), .int .u64 a.u.lo, .int .u64 a.u.hi, .int .i64 a.s.lo, .int .i64 a.s.hi] 30)] wy) :
    br5_r2C.wp Tryz.prog (Exit.then K Q0) ⟨#[u0, u1, u2, u3, u4, u5, u6, u7, u8, u9, u10, u11, u12, u13, .bool (Wd.jumpOk op), u15, u16, u17, u18, u19, u20, u21, u22, u23, u24, u25, u26, u27, u28, u29, u30, u31, u32, u33, u34, u35, u36, u37, u38, u39, u40, u41, u42, u43, u44, u45, u46, u47, u48, u49, u50, u51, u52, u53, u54, u55, u56, u57, u58, u59, u60, u61, u62, u63, u64, u65, u66, u67, u68, u69, u70, u71, u72, u73, u74, u75, u76, u77, u78, u79, u80, u81, u82, u83, u84, u85, u86, u87, u88, u89, u90, u91, u92, u93, u94, u95, u96, u97, u98], []⟩ wy := by
  have HK := Lib.hid hK
  clear hK
  conv => arg 2; whnf
  refine Gw.line _ M ?_
  clear M wy
  refine Gw.sw (.bool (Wd.jumpOk op)) ?_
  try simp only [Act.put, ptA, ptB, ptC]
  refine Gw.sw (.bool (!(Wd.jumpOk op))) ?_
  try simp only [Act.put, ptA, ptB, ptC]
  exact fun z M => HK.out _ z M
noncomputable def br5_r3C : Code := (Tryz.f34.body.bind (Rg.findR 3)).getD .skip
set_option maxHeartbeats 4000000 in
theorem br5_r3 (op : Int) (wide taken : Bool) (a b : C) (ha : mayC a) (hb : mayC b) (p q : C) (ok : Bool) (hls : lsR op taken a b = ((p, q), ok)) {w0 : World}  {K : Act → World → Prop} {Q0 : Exit → Act → World → Prop} {d1_3 d1_2 d1_1 d1_0 : Nat} {u0 u1 u2 u3 u4 u5 u6 u7 u12 u13 u14 u15 u16 u17 u18 u19 u20 u21 u22 u23 u24 u25 u26 u27 u28 u29 u30 u31 u32 u33 u34 u35 u36 u37 u38 u39 u40 u41 u42 u43 u44 u45 u46 u47 u48 u49 u50 u51 u52 u53 u54 u55 u56 u57 u58 u59 u60 u61 u62 u63 u64 u65 u66 u67 u68 u69 u70 u71 u72 u73 u74 u75 u76 u77 u78 u79 u80 u81 u82 u83 u84 u85 u86 u87 u88 u89 u90 u91 u92 u93 u94 u95 u96 u97 u98 : Value}
    (hQ : ∀ c a d v w, Q0 (.panic c) (Act.put a d v) w → Q0 (.panic c) a w)
    (hK : ∀ (t30 t31 : Value) (z : World), Gw.Mem w0 [(d1_3, .cells #[.int .u64 (bi b.t.v), .int .u64 (bi b.t.m), .int .u64 b.u.lo, .int .u64 b.u.hi, .int .i64 b.s.lo, .int .i64 b.s.hi] 30), (d1_2, .cells #[.int .u64 (bi a.t.v), .int .u64 (bi a.t.m), .int .u64 a.u.lo, .int .u64 a.u.hi, .int .i64 a.s.lo, .int .i64 a.s.hi] 30), (d1_1, .cells #[.int .u64 (bi b.t.v), .int .u64 (bi b.t.m), .int .u64 b.u.lo, .int .u64 b.u.hi, .int .i64 b.s.lo, .int .i64 b.s.hi] 30), (d1_0, .cells #[.int .u64 (bi a.t.v), .int .u64 (bi a.t.m), .int .u64 a.u.lo, .int .u64 a.u.hi, .int .i64 a.s.lo, .int .i64 a.s.hi] 30)] z → K ⟨#[u0, u1, u2, u3, u4, u5, u6, u7, .pointer (some ⟨d1_0, 0, none⟩), .pointer (some ⟨d1_1, 0, none⟩), .pointer (some ⟨d1_2, 0, none⟩), .pointer (some ⟨d1_3, 0, none⟩), .bool true, u13, u14, u15, u16, u17, u18, u19, u20, u21, u22, u23, u24, u25, u26, u27, u28, u29, t30, t31, u32, u33, u34, u35, u36, u37, u38, u39, u40, u41, u42, u43, u44, u45, u46, u47, u48, u49, u50, u51, u52, u53, u54, u55, u56, u57, u58, u59, u60, u61, u62, u63, u64, u65, u66, u67, u68, u69, u70, u71, u72, u73, u74, u75, u76, u77, u78, u79, u80, u81, u82, u83, u84, u85, u86, u87, u88, u89, u90, u91, u92, u93, u94, u95, u96, u97, u98], []⟩ z) (wy : World) (M : Gw.Mem w0 [(d1_3, .cells #[.int .u64 0, .int .u64 0, .int .u64 0, .int .u64 0, .int .i64 0, .int .i64 0] 30), (d1_2, .cells #[.int .u64 0, .int .u64 0, .int .u64 0, .int .u64 0, .int .i64 0, .int .i64 0] 30), (d1_1, .cells #[.int .u64 (bi b.t.v), .int .u64 (bi b.t.m), .int .u64 b.u.lo, .int .u64 b.u.hi, .int .i64 b.s.lo, .int .i64 b.s.hi] 30), (d1_0, .cells #[.int .u64 (bi a.t.v), .int .u64 (bi a.t.m), .int .u64 a.u.lo, .int .u64 a.u.hi, .int .i64 a.s.lo, .int .i64 a.s.hi] 30)] wy) :
    br5_r3C.wp Tryz.prog (Exit.then K Q0) ⟨#[u0, u1, u2, u3, u4, u5, u6, u7, .pointer (some ⟨d1_0, 0, none⟩), .pointer (some ⟨d1_1, 0, none⟩), .pointer (some ⟨d1_2, 0, none⟩), .pointer (some ⟨d1_3, 0, none⟩), u12, u13, u14, u15, u16, u17, u18, u19, u20, u21, u22, u23, u24, u25, u26, u27, u28, u29, u30, u31, u32, u33, u34, u35, u36, u37, u38, u39, u40, u41, u42, u43, u44, u45, u46, u47, u48, u49, u50, u51, u52, u53, u54, u55, u56, u57, u58, u59, u60, u61, u62, u63, u64, u65, u66, u67, u68, u69, u70, u71, u72, u73, u74, u75, u76, u77, u78, u79, u80, u81, u82, u83, u84, u85, u86, u87, u88, u89, u90, u91, u92, u93, u94, u95, u96, u97, u98], []⟩ wy := by
  have HK := Lib.hid hK
  clear hK
  have hq : ∀ c a d v w, Exit.then K Q0 (.panic c) (Act.put a d v) w → Exit.then K Q0 (.panic c) a w := hQ
  conv => arg 2; whnf
  refine Gw.draw [2, 3] (Gw.Mem w0 [(d1_1, .cells #[.int .u64 (bi b.t.v), .int .u64 (bi b.t.m), .int .u64 b.u.lo, .int .u64 b.u.hi, .int .i64 b.s.lo, .int .i64 b.s.hi] 30), (d1_0, .cells #[.int .u64 (bi a.t.v), .int .u64 (bi a.t.m), .int .u64 a.u.lo, .int .u64 a.u.hi, .int .i64 a.s.lo, .int .i64 a.s.hi] 30)]) _ (by kernel_rfl) M.drew ?_
  have hG : ∀ z, Gw.Mem w0 [(d1_3, .cells #[.int .u64 0, .int .u64 0, .int .u64 0, .int .u64 0, .int .i64 0, .int .i64 0] 30), (d1_2, .cells #[.int .u64 0, .int .u64 0, .int .u64 0, .int .u64 0, .int .i64 0, .int .i64 0] 30), (d1_1, .cells #[.int .u64 (bi b.t.v), .int .u64 (bi b.t.m), .int .u64 b.u.lo, .int .u64 b.u.hi, .int .i64 b.s.lo, .int .i64 b.s.hi] 30), (d1_0, .cells #[.int .u64 (bi a.t.v), .int .u64 (bi a.t.m), .int .u64 a.u.lo, .int .u64 a.u.hi, .int .i64 a.s.lo, .int .i64 a.s.hi] 30)] z → Gw.Mem w0 [(d1_1, .cells #[.int .u64 (bi b.t.v), .int .u64 (bi b.t.m), .int .u64 b.u.lo, .int .u64 b.u.hi, .int .i64 b.s.lo, .int .i64 b.s.hi] 30), (d1_0, .cells #[.int .u64 (bi a.t.v), .int .u64 (bi a.t.m), .int .u64 a.u.lo, .int .u64 a.u.hi, .int .i64 a.s.lo, .int .i64 a.s.hi] 30)] z := fun _ h => h.sub (Gw.cd (Gw.cd (Gw.cc (Gw.cc Gw.cn))))
  clear M wy
  refine Gw.tg 0 (.agg #[.int .u64 (bi a.t.v), .int .u64 (bi a.t.m), .int .u64 a.u.lo, .int .u64 a.u.hi, .int .i64 a.s.lo, .int .i64 a.s.hi]) ?_ ?_
  · intro w M; have c := M.c6 1; go_simp
  try simp only [Act.put, ptA, ptB, ptC]
  refine Gw.tg 1 (.agg #[.int .u64 (bi b.t.v), .int .u64 (bi b.t.m), .int .u64 b.u.lo, .int .u64 b.u.hi, .int .i64 b.s.lo, .int .i64 b.s.hi]) ?_ ?_
  · intro w M; have c := M.c6 0; go_simp
  try simp only [Act.put, ptA, ptB, ptC]
  refine Gw.ts 2 rfl (by kernel_rfl) ?_
  intro w M K' hK
  have c := M.c6 1
  have f := M.f6 1
  go_simp
  refine hK.out _ _ _ Gw.Mem.stays (fun h => by cases h) (fun _ h => h.sub (Gw.cd (Gw.cd (Gw.cc (Gw.cc Gw.cn))))) ((((((M.set 1 0 _).set 1 1 _).set 1 2 _).set 1 3 _).set 1 4 _).set 1 5 _) ?_
  clear hK K' c f M w
  refine Gw.ts 3 rfl (by kernel_rfl) ?_
  intro w M K' hK
  have c := M.c6 0
  have f := M.f6 0
  go_simp
  refine hK.out _ _ _ Gw.Mem.stays (fun h => by cases h) (fun _ h => h.sub (Gw.cd (Gw.cd (Gw.cc (Gw.cc Gw.cn))))) ((((((M.set 0 0 _).set 0 1 _).set 0 2 _).set 0 3 _).set 0 4 _).set 0 5 _) ?_
  clear hK K' c f M w
  refine Gw.tw 4 (.bool true) ?_ (hG := (fun _ h => h.sub (Gw.cd (Gw.cd (Gw.cc (Gw.cc Gw.cn))))))
  try simp only [Act.put, ptA, ptB, ptC]
  exact Gw.td (by kernel_rfl) (fun z M => HK.out _ _ z M) _
noncomputable def br5_r4C : Code := (Tryz.f34.body.bind (Rg.findR 4)).getD .skip
set_option maxHeartbeats 4000000 in
theorem br5_r4 (op : Int) (wide taken : Bool) (a b : C) (ha : mayC a) (hb : mayC b) (p q : C) (ok : Bool) (hls : lsR op taken a b = ((p, q), ok)) (hop : Wd.jumpOk op = true) {w0 : World}  {K : Act → World → Prop} {Q0 : Exit → Act → World → Prop} {d1_3 d1_2 d1_1 d1_0 : Nat} {u2 u3 u4 u5 u6 u7 u10 u11 u12 u13 u14 u15 u16 u17 u18 u19 u20 u21 u22 u23 u24 u25 u26 u27 u28 u29 u30 u31 u32 u33 u34 u35 u36 u37 u38 u39 u40 u41 u42 u43 u44 u45 u46 u47 u48 u49 u50 u51 u52 u53 u54 u55 u56 u57 u58 u59 u60 u61 u62 u63 u64 u65 u66 u67 u68 u69 u70 u71 u72 u73 u74 u75 u76 u77 u78 u79 u80 u81 u82 u83 u84 u85 u86 u87 u88 u89 u90 u91 u92 u93 u94 u95 u96 u97 u98 : Value}
    (hQ : ∀ c a d v w, Q0 (.panic c) (Act.put a d v) w → Q0 (.panic c) a w)
    (hK : ∀ (t32 t33 t34 t35 t36 t37 t38 t39 : Value) (z : World), Gw.Mem w0 [(d1_3, .cells #[.int .u64 0, .int .u64 0, .int .u64 0, .int .u64 0, .int .i64 0, .int .i64 0] 30), (d1_2, .cells #[.int .u64 0, .int .u64 0, .int .u64 0, .int .u64 0, .int .i64 0, .int .i64 0] 30), (d1_1, .cells #[.int .u64 (bi b.t.v), .int .u64 (bi b.t.m), .int .u64 b.u.lo, .int .u64 b.u.hi, .int .i64 b.s.lo, .int .i64 b.s.hi] 30), (d1_0, .cells #[.int .u64 (bi a.t.v), .int .u64 (bi a.t.m), .int .u64 a.u.lo, .int .u64 a.u.hi, .int .i64 a.s.lo, .int .i64 a.s.hi] 30)] z → K ⟨#[.int .i64 op, .bool wide, u2, u3, u4, u5, u6, u7, .pointer (some ⟨d1_0, 0, none⟩), .pointer (some ⟨d1_1, 0, none⟩), u10, u11, u12, u13, u14, .bool ((aloneC a && aloneC b) && Wd.jumpV op wide (oneC a) (oneC b)), .bool ((aloneC a && aloneC b) && Wd.jumpOk op), u17, u18, u19, u20, u21, u22, u23, u24, u25, u26, u27, u28, u29, u30, u31, t32, t33, t34, t35, t36, t37, t38, t39, u40, u41, u42, u43, u44, u45, u46, u47, u48, u49, u50, u51, u52, u53, u54, u55, u56, u57, u58, u59, u60, u61, u62, u63, u64, u65, u66, u67, u68, u69, u70, u71, u72, u73, u74, u75, u76, u77, u78, u79, u80, u81, u82, u83, u84, u85, u86, u87, u88, u89, u90, u91, u92, u93, u94, u95, u96, u97, u98], []⟩ z) (wy : World) (M : Gw.Mem w0 [(d1_3, .cells #[.int .u64 0, .int .u64 0, .int .u64 0, .int .u64 0, .int .i64 0, .int .i64 0] 30), (d1_2, .cells #[.int .u64 0, .int .u64 0, .int .u64 0, .int .u64 0, .int .i64 0, .int .i64 0] 30), (d1_1, .cells #[.int .u64 (bi b.t.v), .int .u64 (bi b.t.m), .int .u64 b.u.lo, .int .u64 b.u.hi, .int .i64 b.s.lo, .int .i64 b.s.hi] 30), (d1_0, .cells #[.int .u64 (bi a.t.v), .int .u64 (bi a.t.m), .int .u64 a.u.lo, .int .u64 a.u.hi, .int .i64 a.s.lo, .int .i64 a.s.hi] 30)] wy) :
    br5_r4C.wp Tryz.prog (Exit.then K Q0) ⟨#[.int .i64 op, .bool wide, u2, u3, u4, u5, u6, u7, .pointer (some ⟨d1_0, 0, none⟩), .pointer (some ⟨d1_1, 0, none⟩), u10, u11, u12, u13, u14, u15, u16, u17, u18, u19, u20, u21, u22, u23, u24, u25, u26, u27, u28, u29, u30, u31, u32, u33, u34, u35, u36, u37, u38, u39, u40, u41, u42, u43, u44, u45, u46, u47, u48, u49, u50, u51, u52, u53, u54, u55, u56, u57, u58, u59, u60, u61, u62, u63, u64, u65, u66, u67, u68, u69, u70, u71, u72, u73, u74, u75, u76, u77, u78, u79, u80, u81, u82, u83, u84, u85, u86, u87, u88, u89, u90, u91, u92, u93, u94, u95, u96, u97, u98], []⟩ wy := by
  have HK := Lib.hid hK
  clear hK
  conv => arg 2; whnf
  refine Gw.line _ M ?_
  clear M wy
  refine Gw.sw (.int .i64 op) ?_
  try simp only [Act.put, ptA, ptB, ptC]
  refine Gw.sw (.bool wide) ?_
  try simp only [Act.put, ptA, ptB, ptC]
  refine Gw.sq (.agg #[.int .u64 (bi a.t.v), .int .u64 (bi a.t.m), .int .u64 a.u.lo, .int .u64 a.u.hi, .int .i64 a.s.lo, .int .i64 a.s.hi]) ?_ ?_
  · intro w M; have c := M.c6 3; go_simp
  try simp only [Act.put, ptA, ptB, ptC]
  refine Gw.sq (.agg #[.int .u64 (bi b.t.v), .int .u64 (bi b.t.m), .int .u64 b.u.lo, .int .u64 b.u.hi, .int .i64 b.s.lo, .int .i64 b.s.hi]) ?_ ?_
  · intro w M; have c := M.c6 2; go_simp
  try simp only [Act.put, ptA, ptB, ptC]
  refine Gw.sk (.tuple #[.bool ((aloneC a && aloneC b) && Wd.jumpV op wide (oneC a) (oneC b)), .bool ((aloneC a && aloneC b) && Wd.jumpOk op)]) 86 #[.int .i64 op, .bool wide, .agg #[.int .u64 (bi a.t.v), .int .u64 (bi a.t.m), .int .u64 a.u.lo, .int .u64 a.u.hi, .int .i64 a.s.lo, .int .i64 a.s.hi], .agg #[.int .u64 (bi b.t.v), .int .u64 (bi b.t.m), .int .u64 b.u.lo, .int .u64 b.u.hi, .int .i64 b.s.lo, .int .i64 b.s.hi]] (fun w M => decided6 op wide a b ha hb w) ?_
  try simp only [Act.put, ptA, ptB, ptC]
  refine Gw.sw (.tuple #[.bool ((aloneC a && aloneC b) && Wd.jumpV op wide (oneC a) (oneC b)), .bool ((aloneC a && aloneC b) && Wd.jumpOk op)]) ?_
  try simp only [Act.put, ptA, ptB, ptC]
  refine Gw.sw (.bool ((aloneC a && aloneC b) && Wd.jumpV op wide (oneC a) (oneC b))) ?_
  try simp only [Act.put, ptA, ptB, ptC]
  refine Gw.sw (.bool ((aloneC a && aloneC b) && Wd.jumpOk op)) ?_
  try simp only [Act.put, ptA, ptB, ptC]
  refine Gw.sw (.bool ((aloneC a && aloneC b) && Wd.jumpV op wide (oneC a) (oneC b))) ?_
  try simp only [Act.put, ptA, ptB, ptC]
  refine Gw.sw (.bool ((aloneC a && aloneC b) && Wd.jumpOk op)) ?_
  try simp only [Act.put, ptA, ptB, ptC]
  exact fun z M => HK.out _ _ _ _ _ _ _ _ z M
noncomputable def br5_r5C : Code := (Tryz.f34.body.bind (Rg.findR 5)).getD .skip
set_option maxHeartbeats 4000000 in
theorem br5_r5 (op : Int) (wide taken : Bool) (a b : C) (ha : mayC a) (hb : mayC b) (p q : C) (ok : Bool) (hls : lsR op taken a b = ((p, q), ok)) (hop : Wd.jumpOk op = true) {w0 : World}  {K : Act → World → Prop} {Q0 : Exit → Act → World → Prop} {d1_3 d1_2 d1_1 d1_0 : Nat} {u0 u1 u2 u3 u4 u5 u6 u7 u8 u9 u10 u11 u12 u13 u14 u15 u17 u18 u19 u20 u21 u22 u23 u24 u25 u26 u27 u28 u29 u30 u31 u32 u33 u34 u35 u36 u37 u38 u39 u40 u41 u42 u43 u44 u45 u46 u47 u48 u49 u50 u51 u52 u53 u54 u55 u56 u57 u58 u59 u60 u61 u62 u63 u64 u65 u66 u67 u68 u69 u70 u71 u72 u73 u74 u75 u76 u77 u78 u79 u80 u81 u82 u83 u84 u85 u86 u87 u88 u89 u90 u91 u92 u93 u94 u95 u96 u97 u98 : Value}
    (hQ : ∀ c a d v w, Q0 (.panic c) (Act.put a d v) w → Q0 (.panic c) a w)
    (hK : ∀ (z : World), Gw.Mem w0 [(d1_3, .cells #[.int .u64 0, .int .u64 0, .int .u64 0, .int .u64 0, .int .i64 0, .int .i64 0] 30), (d1_2, .cells #[.int .u64 0, .int .u64 0, .int .u64 0, .int .u64 0, .int .i64 0, .int .i64 0] 30), (d1_1, .cells #[.int .u64 (bi b.t.v), .int .u64 (bi b.t.m), .int .u64 b.u.lo, .int .u64 b.u.hi, .int .i64 b.s.lo, .int .i64 b.s.hi] 30), (d1_0, .cells #[.int .u64 (bi a.t.v), .int .u64 (bi a.t.m), .int .u64 a.u.lo, .int .u64 a.u.hi, .int .i64 a.s.lo, .int .i64 a.s.hi] 30)] z → K ⟨#[u0, u1, u2, u3, u4, u5, u6, u7, u8, u9, u10, u11, u12, u13, u14, u15, .bool ((aloneC a && aloneC b) && Wd.jumpOk op), u17, u18, u19, u20, u21, u22, u23, u24, u25, u26, u27, u28, u29, u30, u31, u32, u33, u34, u35, u36, u37, u38, u39, .bool ((aloneC a && aloneC b) && Wd.jumpOk op), u41, u42, u43, u44, u45, u46, u47, u48, u49, u50, u51, u52, u53, u54, u55, u56, u57, u58, u59, u60, u61, u62, u63, u64, u65, u66, u67, u68, u69, u70, u71, u72, u73, u74, u75, u76, u77, u78, u79, u80, u81, u82, u83, u84, u85, u86, u87, u88, u89, u90, u91, u92, u93, u94, u95, u96, u97, u98], []⟩ z) (wy : World) (M : Gw.Mem w0 [(d1_3, .cells #[.int .u64 0, .int .u64 0, .int .u64 0, .int .u64 0, .int .i64 0, .int .i64 0] 30), (d1_2, .cells #[.int .u64 0, .int .u64 0, .int .u64 0, .int .u64 0, .int .i64 0, .int .i64 0] 30), (d1_1, .cells #[.int .u64 (bi b.t.v), .int .u64 (bi b.t.m), .int .u64 b.u.lo, .int .u64 b.u.hi, .int .i64 b.s.lo, .int .i64 b.s.hi] 30), (d1_0, .cells #[.int .u64 (bi a.t.v), .int .u64 (bi a.t.m), .int .u64 a.u.lo, .int .u64 a.u.hi, .int .i64 a.s.lo, .int .i64 a.s.hi] 30)] wy) :
    br5_r5C.wp Tryz.prog (Exit.then K Q0) ⟨#[u0, u1, u2, u3, u4, u5, u6, u7, u8, u9, u10, u11, u12, u13, u14, u15, .bool ((aloneC a && aloneC b) && Wd.jumpOk op), u17, u18, u19, u20, u21, u22, u23, u24, u25, u26, u27, u28, u29, u30, u31, u32, u33, u34, u35, u36, u37, u38, u39, u40, u41, u42, u43, u44, u45, u46, u47, u48, u49, u50, u51, u52, u53, u54, u55, u56, u57, u58, u59, u60, u61, u62, u63, u64, u65, u66, u67, u68, u69, u70, u71, u72, u73, u74, u75, u76, u77, u78, u79, u80, u81, u82, u83, u84, u85, u86, u87, u88, u89, u90, u91, u92, u93, u94, u95, u96, u97, u98], []⟩ wy := by
  have HK := Lib.hid hK
  clear hK
  conv => arg 2; whnf
  refine Gw.line _ M ?_
  clear M wy
  refine Gw.sw (.bool ((aloneC a && aloneC b) && Wd.jumpOk op)) ?_
  try simp only [Act.put, ptA, ptB, ptC]
  exact fun z M => HK.out  z M
noncomputable def br5_r6C : Code := (Tryz.f34.body.bind (Rg.findR 6)).getD .skip
set_option maxHeartbeats 4000000 in
theorem br5_r6 (op : Int) (wide taken : Bool) (a b : C) (ha : mayC a) (hb : mayC b) (p q : C) (ok : Bool) (hls : lsR op taken a b = ((p, q), ok)) (hop : Wd.jumpOk op = true) {w0 : World}  {K : Act → World → Prop} {Q0 : Exit → Act → World → Prop} {d1_3 d1_2 d1_1 d1_0 : Nat} {u0 u1 u3 u4 u5 u6 u7 u12 u13 u14 u16 u17 u18 u19 u20 u21 u22 u23 u24 u25 u26 u27 u28 u29 u30 u31 u32 u33 u34 u35 u36 u37 u38 u39 u40 u41 u42 u43 u44 u45 u46 u47 u48 u49 u50 u51 u52 u53 u54 u55 u56 u57 u58 u59 u60 u61 u62 u63 u64 u65 u66 u67 u68 u69 u70 u71 u72 u73 u74 u75 u76 u77 u78 u79 u80 u81 u82 u83 u84 u85 u86 u87 u88 u89 u90 u91 u92 u93 u94 u95 u96 u97 u98 : Value}
    (hQ : ∀ c a d v w, Q0 (.panic c) (Act.put a d v) w → Q0 (.panic c) a w)
    (hK : ∀ (t41 t42 t43 t44 t45 t46 t47 t48 t49 : Value) (z : World), Gw.Mem w0 [(d1_3, .cells #[.int .u64 (bi (selC (((aloneC a && aloneC b) && Wd.jumpV op wide (oneC a) (oneC b)) == taken) b).t.v), .int .u64 (bi (selC (((aloneC a && aloneC b) && Wd.jumpV op wide (oneC a) (oneC b)) == taken) b).t.m), .int .u64 ((selC (((aloneC a && aloneC b) && Wd.jumpV op wide (oneC a) (oneC b)) == taken) b).u.lo), .int .u64 ((selC (((aloneC a && aloneC b) && Wd.jumpV op wide (oneC a) (oneC b)) == taken) b).u.hi), .int .i64 ((selC (((aloneC a && aloneC b) && Wd.jumpV op wide (oneC a) (oneC b)) == taken) b).s.lo), .int .i64 ((selC (((aloneC a && aloneC b) && Wd.jumpV op wide (oneC a) (oneC b)) == taken) b).s.hi)] 30), (d1_2, .cells #[.int .u64 (bi (selC (((aloneC a && aloneC b) && Wd.jumpV op wide (oneC a) (oneC b)) == taken) a).t.v), .int .u64 (bi (selC (((aloneC a && aloneC b) && Wd.jumpV op wide (oneC a) (oneC b)) == taken) a).t.m), .int .u64 ((selC (((aloneC a && aloneC b) && Wd.jumpV op wide (oneC a) (oneC b)) == taken) a).u.lo), .int .u64 ((selC (((aloneC a && aloneC b) && Wd.jumpV op wide (oneC a) (oneC b)) == taken) a).u.hi), .int .i64 ((selC (((aloneC a && aloneC b) && Wd.jumpV op wide (oneC a) (oneC b)) == taken) a).s.lo), .int .i64 ((selC (((aloneC a && aloneC b) && Wd.jumpV op wide (oneC a) (oneC b)) == taken) a).s.hi)] 30), (d1_1, .cells #[.int .u64 (bi b.t.v), .int .u64 (bi b.t.m), .int .u64 b.u.lo, .int .u64 b.u.hi, .int .i64 b.s.lo, .int .i64 b.s.hi] 30), (d1_0, .cells #[.int .u64 (bi a.t.v), .int .u64 (bi a.t.m), .int .u64 a.u.lo, .int .u64 a.u.hi, .int .i64 a.s.lo, .int .i64 a.s.hi] 30)] z → K ⟨#[u0, u1, .bool taken, u3, u4, u5, u6, u7, .pointer (some ⟨d1_0, 0, none⟩), .pointer (some ⟨d1_1, 0, none⟩), .pointer (some ⟨d1_2, 0, none⟩), .pointer (some ⟨d1_3, 0, none⟩), .bool (((aloneC a && aloneC b) && Wd.jumpV op wide (oneC a) (oneC b)) == taken), u13, u14, .bool ((aloneC a && aloneC b) && Wd.jumpV op wide (oneC a) (oneC b)), u16, u17, u18, u19, u20, u21, u22, u23, u24, u25, u26, u27, u28, u29, u30, u31, u32, u33, u34, u35, u36, u37, u38, u39, u40, t41, t42, t43, t44, t45, t46, t47, t48, t49, u50, u51, u52, u53, u54, u55, u56, u57, u58, u59, u60, u61, u62, u63, u64, u65, u66, u67, u68, u69, u70, u71, u72, u73, u74, u75, u76, u77, u78, u79, u80, u81, u82, u83, u84, u85, u86, u87, u88, u89, u90, u91, u92, u93, u94, u95, u96, u97, u98], []⟩ z) (wy : World) (M : Gw.Mem w0 [(d1_3, .cells #[.int .u64 0, .int .u64 0, .int .u64 0, .int .u64 0, .int .i64 0, .int .i64 0] 30), (d1_2, .cells #[.int .u64 0, .int .u64 0, .int .u64 0, .int .u64 0, .int .i64 0, .int .i64 0] 30), (d1_1, .cells #[.int .u64 (bi b.t.v), .int .u64 (bi b.t.m), .int .u64 b.u.lo, .int .u64 b.u.hi, .int .i64 b.s.lo, .int .i64 b.s.hi] 30), (d1_0, .cells #[.int .u64 (bi a.t.v), .int .u64 (bi a.t.m), .int .u64 a.u.lo, .int .u64 a.u.hi, .int .i64 a.s.lo, .int .i64 a.s.hi] 30)] wy) :
    br5_r6C.wp Tryz.prog (Exit.then K Q0) ⟨#[u0, u1, .bool taken, u3, u4, u5, u6, u7, .pointer (some ⟨d1_0, 0, none⟩), .pointer (some ⟨d1_1, 0, none⟩), .pointer (some ⟨d1_2, 0, none⟩), .pointer (some ⟨d1_3, 0, none⟩), u12, u13, u14, .bool ((aloneC a && aloneC b) && Wd.jumpV op wide (oneC a) (oneC b)), u16, u17, u18, u19, u20, u21, u22, u23, u24, u25, u26, u27, u28, u29, u30, u31, u32, u33, u34, u35, u36, u37, u38, u39, u40, u41, u42, u43, u44, u45, u46, u47, u48, u49, u50, u51, u52, u53, u54, u55, u56, u57, u58, u59, u60, u61, u62, u63, u64, u65, u66, u67, u68, u69, u70, u71, u72, u73, u74, u75, u76, u77, u78, u79, u80, u81, u82, u83, u84, u85, u86, u87, u88, u89, u90, u91, u92, u93, u94, u95, u96, u97, u98], []⟩ wy := by
  have HK := Lib.hid hK
  clear hK
  conv => arg 2; whnf
  refine Gw.line _ M ?_
  clear M wy
  refine Gw.sw (.bool ((aloneC a && aloneC b) && Wd.jumpV op wide (oneC a) (oneC b))) ?_
  try simp only [Act.put, ptA, ptB, ptC]
  refine Gw.sw (.bool taken) ?_
  try simp only [Act.put, ptA, ptB, ptC]
  refine Gw.sw (.bool (((aloneC a && aloneC b) && Wd.jumpV op wide (oneC a) (oneC b)) == taken)) ?_
  try simp only [Act.put, ptA, ptB, ptC]
  refine Gw.sq (.agg #[.int .u64 (bi a.t.v), .int .u64 (bi a.t.m), .int .u64 a.u.lo, .int .u64 a.u.hi, .int .i64 a.s.lo, .int .i64 a.s.hi]) ?_ ?_
  · intro w M; have c := M.c6 3; go_simp
  try simp only [Act.put, ptA, ptB, ptC]
  refine Gw.sq (.agg #[.int .u64 (bi b.t.v), .int .u64 (bi b.t.m), .int .u64 b.u.lo, .int .u64 b.u.hi, .int .i64 b.s.lo, .int .i64 b.s.hi]) ?_ ?_
  · intro w M; have c := M.c6 2; go_simp
  try simp only [Act.put, ptA, ptB, ptC]
  refine Gw.sk (.tuple #[.agg #[.int .u64 (bi (selC (((aloneC a && aloneC b) && Wd.jumpV op wide (oneC a) (oneC b)) == taken) a).t.v), .int .u64 (bi (selC (((aloneC a && aloneC b) && Wd.jumpV op wide (oneC a) (oneC b)) == taken) a).t.m), .int .u64 ((selC (((aloneC a && aloneC b) && Wd.jumpV op wide (oneC a) (oneC b)) == taken) a).u.lo), .int .u64 ((selC (((aloneC a && aloneC b) && Wd.jumpV op wide (oneC a) (oneC b)) == taken) a).u.hi), .int .i64 ((selC (((aloneC a && aloneC b) && Wd.jumpV op wide (oneC a) (oneC b)) == taken) a).s.lo), .int .i64 ((selC (((aloneC a && aloneC b) && Wd.jumpV op wide (oneC a) (oneC b)) == taken) a).s.hi)], .agg #[.int .u64 (bi (selC (((aloneC a && aloneC b) && Wd.jumpV op wide (oneC a) (oneC b)) == taken) b).t.v), .int .u64 (bi (selC (((aloneC a && aloneC b) && Wd.jumpV op wide (oneC a) (oneC b)) == taken) b).t.m), .int .u64 ((selC (((aloneC a && aloneC b) && Wd.jumpV op wide (oneC a) (oneC b)) == taken) b).u.lo), .int .u64 ((selC (((aloneC a && aloneC b) && Wd.jumpV op wide (oneC a) (oneC b)) == taken) b).u.hi), .int .i64 ((selC (((aloneC a && aloneC b) && Wd.jumpV op wide (oneC a) (oneC b)) == taken) b).s.lo), .int .i64 ((selC (((aloneC a && aloneC b) && Wd.jumpV op wide (oneC a) (oneC b)) == taken) b).s.hi)], .bool (((aloneC a && aloneC b) && Wd.jumpV op wide (oneC a) (oneC b)) == taken)]) 87 #[.bool (((aloneC a && aloneC b) && Wd.jumpV op wide (oneC a) (oneC b)) == taken), .agg #[.int .u64 (bi a.t.v), .int .u64 (bi a.t.m), .int .u64 a.u.lo, .int .u64 a.u.hi, .int .i64 a.s.lo, .int .i64 a.s.hi], .agg #[.int .u64 (bi b.t.v), .int .u64 (bi b.t.m), .int .u64 b.u.lo, .int .u64 b.u.hi, .int .i64 b.s.lo, .int .i64 b.s.hi]] (fun w M => where5 (((aloneC a && aloneC b) && Wd.jumpV op wide (oneC a) (oneC b)) == taken) a b w) ?_
  try simp only [Act.put, ptA, ptB, ptC]
  refine Gw.sw (.agg #[.int .u64 (bi (selC (((aloneC a && aloneC b) && Wd.jumpV op wide (oneC a) (oneC b)) == taken) a).t.v), .int .u64 (bi (selC (((aloneC a && aloneC b) && Wd.jumpV op wide (oneC a) (oneC b)) == taken) a).t.m), .int .u64 ((selC (((aloneC a && aloneC b) && Wd.jumpV op wide (oneC a) (oneC b)) == taken) a).u.lo), .int .u64 ((selC (((aloneC a && aloneC b) && Wd.jumpV op wide (oneC a) (oneC b)) == taken) a).u.hi), .int .i64 ((selC (((aloneC a && aloneC b) && Wd.jumpV op wide (oneC a) (oneC b)) == taken) a).s.lo), .int .i64 ((selC (((aloneC a && aloneC b) && Wd.jumpV op wide (oneC a) (oneC b)) == taken) a).s.hi)]) ?_
  try simp only [Act.put, ptA, ptB, ptC]
  refine Gw.sw (.agg #[.int .u64 (bi (selC (((aloneC a && aloneC b) && Wd.jumpV op wide (oneC a) (oneC b)) == taken) b).t.v), .int .u64 (bi (selC (((aloneC a && aloneC b) && Wd.jumpV op wide (oneC a) (oneC b)) == taken) b).t.m), .int .u64 ((selC (((aloneC a && aloneC b) && Wd.jumpV op wide (oneC a) (oneC b)) == taken) b).u.lo), .int .u64 ((selC (((aloneC a && aloneC b) && Wd.jumpV op wide (oneC a) (oneC b)) == taken) b).u.hi), .int .i64 ((selC (((aloneC a && aloneC b) && Wd.jumpV op wide (oneC a) (oneC b)) == taken) b).s.lo), .int .i64 ((selC (((aloneC a && aloneC b) && Wd.jumpV op wide (oneC a) (oneC b)) == taken) b).s.hi)]) ?_
  try simp only [Act.put, ptA, ptB, ptC]
  refine Gw.sw (.bool (((aloneC a && aloneC b) && Wd.jumpV op wide (oneC a) (oneC b)) == taken)) ?_
  try simp only [Act.put, ptA, ptB, ptC]
  refine Gw.ss ?_
  intro w M K' hK
  have c := M.c6 1
  have f := M.f6 1
  go_simp
  refine hK.out _ _ _ ((((((M.set 1 0 _).set 1 1 _).set 1 2 _).set 1 3 _).set 1 4 _).set 1 5 _) ?_
  clear hK K' c f M w
  refine Gw.ss ?_
  intro w M K' hK
  have c := M.c6 0
  have f := M.f6 0
  go_simp
  refine hK.out _ _ _ ((((((M.set 0 0 _).set 0 1 _).set 0 2 _).set 0 3 _).set 0 4 _).set 0 5 _) ?_
  clear hK K' c f M w
  refine Gw.sw (.bool (((aloneC a && aloneC b) && Wd.jumpV op wide (oneC a) (oneC b)) == taken)) ?_
  try simp only [Act.put, ptA, ptB, ptC]
  exact fun z M => HK.out _ _ _ _ _ _ _ _ _ z M
noncomputable def br5_r7C : Code := (Tryz.f34.body.bind (Rg.findR 7)).getD .skip
set_option maxHeartbeats 4000000 in
theorem br5_r7 (op : Int) (wide taken : Bool) (a b : C) (ha : mayC a) (hb : mayC b) (p q : C) (ok : Bool) (hls : lsR op taken a b = ((p, q), ok)) (hop : Wd.jumpOk op = true) (hal : (aloneC a && aloneC b) = false) {w0 : World}  {K : Act → World → Prop} {Q0 : Exit → Act → World → Prop} {d1_3 d1_2 d1_1 d1_0 : Nat} {u2 u3 u4 u5 u6 u7 u10 u11 u12 u13 u14 u15 u16 u17 u18 u19 u20 u21 u22 u23 u24 u25 u26 u27 u28 u29 u30 u31 u32 u33 u34 u35 u36 u37 u38 u39 u40 u41 u42 u43 u44 u45 u46 u47 u48 u49 u50 u51 u52 u53 u54 u55 u56 u57 u58 u59 u60 u61 u62 u63 u64 u65 u66 u67 u68 u69 u70 u71 u72 u73 u74 u75 u76 u77 u78 u79 u80 u81 u82 u83 u84 u85 u86 u87 u88 u89 u90 u91 u92 u93 u94 u95 u96 u97 u98 : Value}
    (hQ : ∀ c a d v w, Q0 (.panic c) (Act.put a d v) w → Q0 (.panic c) a w)
    (hK : ∀ (t50 t51 t52 t53 t54 t55 t56 t57 t1 : Value) (o58 : Bool) (_ : o58 = (!wide && (!(!wideJ op a b)))) (z : World), Gw.Mem w0 [(d1_3, .cells #[.int .u64 0, .int .u64 0, .int .u64 0, .int .u64 0, .int .i64 0, .int .i64 0] 30), (d1_2, .cells #[.int .u64 0, .int .u64 0, .int .u64 0, .int .u64 0, .int .i64 0, .int .i64 0] 30), (d1_1, .cells #[.int .u64 (bi b.t.v), .int .u64 (bi b.t.m), .int .u64 b.u.lo, .int .u64 b.u.hi, .int .i64 b.s.lo, .int .i64 b.s.hi] 30), (d1_0, .cells #[.int .u64 (bi a.t.v), .int .u64 (bi a.t.m), .int .u64 a.u.lo, .int .u64 a.u.hi, .int .i64 a.s.lo, .int .i64 a.s.hi] 30)] z → K ⟨#[.int .i64 op, t1, u2, u3, u4, u5, u6, u7, .pointer (some ⟨d1_0, 0, none⟩), .pointer (some ⟨d1_1, 0, none⟩), u10, u11, u12, u13, u14, u15, u16, u17, u18, u19, u20, u21, u22, u23, u24, u25, u26, u27, u28, u29, u30, u31, u32, u33, u34, u35, u36, u37, u38, u39, u40, u41, u42, u43, u44, u45, u46, u47, u48, u49, t50, t51, t52, t53, t54, t55, t56, t57, .bool o58, u59, u60, u61, u62, u63, u64, u65, u66, u67, u68, u69, u70, u71, u72, u73, u74, u75, u76, u77, u78, u79, u80, u81, u82, u83, u84, u85, u86, u87, u88, u89, u90, u91, u92, u93, u94, u95, u96, u97, u98], []⟩ z) (wy : World) (M : Gw.Mem w0 [(d1_3, .cells #[.int .u64 0, .int .u64 0, .int .u64 0, .int .u64 0, .int .i64 0, .int .i64 0] 30), (d1_2, .cells #[.int .u64 0, .int .u64 0, .int .u64 0, .int .u64 0, .int .i64 0, .int .i64 0] 30), (d1_1, .cells #[.int .u64 (bi b.t.v), .int .u64 (bi b.t.m), .int .u64 b.u.lo, .int .u64 b.u.hi, .int .i64 b.s.lo, .int .i64 b.s.hi] 30), (d1_0, .cells #[.int .u64 (bi a.t.v), .int .u64 (bi a.t.m), .int .u64 a.u.lo, .int .u64 a.u.hi, .int .i64 a.s.lo, .int .i64 a.s.hi] 30)] wy) :
    br5_r7C.wp Tryz.prog (Exit.then K Q0) ⟨#[.int .i64 op, .bool wide, u2, u3, u4, u5, u6, u7, .pointer (some ⟨d1_0, 0, none⟩), .pointer (some ⟨d1_1, 0, none⟩), u10, u11, u12, u13, u14, u15, u16, u17, u18, u19, u20, u21, u22, u23, u24, u25, u26, u27, u28, u29, u30, u31, u32, u33, u34, u35, u36, u37, u38, u39, u40, u41, u42, u43, u44, u45, u46, u47, u48, u49, u50, u51, u52, u53, u54, u55, u56, u57, u58, u59, u60, u61, u62, u63, u64, u65, u66, u67, u68, u69, u70, u71, u72, u73, u74, u75, u76, u77, u78, u79, u80, u81, u82, u83, u84, u85, u86, u87, u88, u89, u90, u91, u92, u93, u94, u95, u96, u97, u98], []⟩ wy := by
  have HK := Lib.hid hK
  clear hK
  conv => arg 2; whnf
  refine Gw.line _ M ?_
  clear M wy
  refine Gw.sw (.bool wide) ?_
  try simp only [Act.put, ptA, ptB, ptC]
  refine Gw.sw (.bool (!wide)) ?_
  try simp only [Act.put, ptA, ptB, ptC]
  refine Gw.sw (.bool (!wide)) ?_
  try simp only [Act.put, ptA, ptB, ptC]
  cases hb0_7 : wide
  · try simp only [Bool.not_true, Bool.not_false]
    refine Gw.sw (.int .i64 op) ?_
    try simp only [Act.put, ptA, ptB, ptC]
    refine Gw.sq (.agg #[.int .u64 (bi a.t.v), .int .u64 (bi a.t.m), .int .u64 a.u.lo, .int .u64 a.u.hi, .int .i64 a.s.lo, .int .i64 a.s.hi]) ?_ ?_
    · intro w M; have c := M.c6 3; go_simp
    try simp only [Act.put, ptA, ptB, ptC]
    refine Gw.sq (.agg #[.int .u64 (bi b.t.v), .int .u64 (bi b.t.m), .int .u64 b.u.lo, .int .u64 b.u.hi, .int .i64 b.s.lo, .int .i64 b.s.hi]) ?_ ?_
    · intro w M; have c := M.c6 2; go_simp
    try simp only [Act.put, ptA, ptB, ptC]
    refine Gw.sk (.bool (!wideJ op a b)) 88 #[.int .i64 op, .agg #[.int .u64 (bi a.t.v), .int .u64 (bi a.t.m), .int .u64 a.u.lo, .int .u64 a.u.hi, .int .i64 a.s.lo, .int .i64 a.s.hi], .agg #[.int .u64 (bi b.t.v), .int .u64 (bi b.t.m), .int .u64 b.u.lo, .int .u64 b.u.hi, .int .i64 b.s.lo, .int .i64 b.s.hi]] (fun w M => plain5 op a b w) ?_
    try simp only [Act.put, ptA, ptB, ptC]
    refine Gw.sw (.bool (!(!wideJ op a b))) ?_
    try simp only [Act.put, ptA, ptB, ptC]
    refine Gw.sw (.bool (!(!wideJ op a b))) ?_
    try simp only [Act.put, ptA, ptB, ptC]
    exact fun z M => HK.out _ _ _ _ _ _ _ _ _ _ (by simp [hb0_7]) z M
  · try simp only [Bool.not_true, Bool.not_false]
    refine Gw.su ?_
    try simp only [Act.put, ptA, ptB, ptC]
    refine Gw.su ?_
    try simp only [Act.put, ptA, ptB, ptC]
    refine Gw.su ?_
    try simp only [Act.put, ptA, ptB, ptC]
    refine Gw.su ?_
    try simp only [Act.put, ptA, ptB, ptC]
    refine Gw.su ?_
    try simp only [Act.put, ptA, ptB, ptC]
    refine Gw.sw (.bool false) ?_
    try simp only [Act.put, ptA, ptB, ptC]
    exact fun z M => HK.out _ _ _ _ _ _ _ _ _ _ (by simp [hb0_7]) z M
noncomputable def br5_r8C : Code := (Tryz.f34.body.bind (Rg.findR 8)).getD .skip
set_option maxHeartbeats 4000000 in
theorem br5_r8 (op : Int) (wide taken : Bool) (a b : C) (ha : mayC a) (hb : mayC b) (p q : C) (ok : Bool) (hls : lsR op taken a b = ((p, q), ok)) (hop : Wd.jumpOk op = true) (hal : (aloneC a && aloneC b) = false) {w0 : World}  {K : Act → World → Prop} {Q0 : Exit → Act → World → Prop} {d1_3 d1_2 d1_1 d1_0 : Nat} {u0 u1 u2 u3 u4 u5 u6 u7 u12 u13 u14 u15 u16 u17 u18 u19 u20 u21 u22 u23 u24 u25 u26 u27 u28 u29 u30 u31 u32 u33 u34 u35 u36 u37 u38 u39 u40 u41 u42 u43 u44 u45 u46 u47 u48 u49 u50 u51 u52 u53 u54 u55 u56 u57 u58 u59 u60 u61 u62 u63 u64 u65 u66 u67 u68 u69 u70 u71 u72 u73 u74 u75 u76 u77 u78 u79 u80 u81 u82 u83 u84 u85 u86 u87 u88 u89 u90 u91 u92 u93 u94 u95 u96 u97 u98 : Value}
    (hQ : ∀ c a d v w, Q0 (.panic c) (Act.put a d v) w → Q0 (.panic c) a w)
    (hK : ∀ (t59 t60 : Value) (z : World), Gw.Mem w0 [(d1_3, .cells #[.int .u64 (bi b.t.v), .int .u64 (bi b.t.m), .int .u64 b.u.lo, .int .u64 b.u.hi, .int .i64 b.s.lo, .int .i64 b.s.hi] 30), (d1_2, .cells #[.int .u64 (bi a.t.v), .int .u64 (bi a.t.m), .int .u64 a.u.lo, .int .u64 a.u.hi, .int .i64 a.s.lo, .int .i64 a.s.hi] 30), (d1_1, .cells #[.int .u64 (bi b.t.v), .int .u64 (bi b.t.m), .int .u64 b.u.lo, .int .u64 b.u.hi, .int .i64 b.s.lo, .int .i64 b.s.hi] 30), (d1_0, .cells #[.int .u64 (bi a.t.v), .int .u64 (bi a.t.m), .int .u64 a.u.lo, .int .u64 a.u.hi, .int .i64 a.s.lo, .int .i64 a.s.hi] 30)] z → K ⟨#[u0, u1, u2, u3, u4, u5, u6, u7, .pointer (some ⟨d1_0, 0, none⟩), .pointer (some ⟨d1_1, 0, none⟩), .pointer (some ⟨d1_2, 0, none⟩), .pointer (some ⟨d1_3, 0, none⟩), .bool true, u13, u14, u15, u16, u17, u18, u19, u20, u21, u22, u23, u24, u25, u26, u27, u28, u29, u30, u31, u32, u33, u34, u35, u36, u37, u38, u39, u40, u41, u42, u43, u44, u45, u46, u47, u48, u49, u50, u51, u52, u53, u54, u55, u56, u57, u58, t59, t60, u61, u62, u63, u64, u65, u66, u67, u68, u69, u70, u71, u72, u73, u74, u75, u76, u77, u78, u79, u80, u81, u82, u83, u84, u85, u86, u87, u88, u89, u90, u91, u92, u93, u94, u95, u96, u97, u98], []⟩ z) (wy : World) (M : Gw.Mem w0 [(d1_3, .cells #[.int .u64 0, .int .u64 0, .int .u64 0, .int .u64 0, .int .i64 0, .int .i64 0] 30), (d1_2, .cells #[.int .u64 0, .int .u64 0, .int .u64 0, .int .u64 0, .int .i64 0, .int .i64 0] 30), (d1_1, .cells #[.int .u64 (bi b.t.v), .int .u64 (bi b.t.m), .int .u64 b.u.lo, .int .u64 b.u.hi, .int .i64 b.s.lo, .int .i64 b.s.hi] 30), (d1_0, .cells #[.int .u64 (bi a.t.v), .int .u64 (bi a.t.m), .int .u64 a.u.lo, .int .u64 a.u.hi, .int .i64 a.s.lo, .int .i64 a.s.hi] 30)] wy) :
    br5_r8C.wp Tryz.prog (Exit.then K Q0) ⟨#[u0, u1, u2, u3, u4, u5, u6, u7, .pointer (some ⟨d1_0, 0, none⟩), .pointer (some ⟨d1_1, 0, none⟩), .pointer (some ⟨d1_2, 0, none⟩), .pointer (some ⟨d1_3, 0, none⟩), u12, u13, u14, u15, u16, u17, u18, u19, u20, u21, u22, u23, u24, u25, u26, u27, u28, u29, u30, u31, u32, u33, u34, u35, u36, u37, u38, u39, u40, u41, u42, u43, u44, u45, u46, u47, u48, u49, u50, u51, u52, u53, u54, u55, u56, u57, u58, u59, u60, u61, u62, u63, u64, u65, u66, u67, u68, u69, u70, u71, u72, u73, u74, u75, u76, u77, u78, u79, u80, u81, u82, u83, u84, u85, u86, u87, u88, u89, u90, u91, u92, u93, u94, u95, u96, u97, u98], []⟩ wy := by
  have HK := Lib.hid hK
  clear hK
  have hq : ∀ c a d v w, Exit.then K Q0 (.panic c) (Act.put a d v) w → Exit.then K Q0 (.panic c) a w := hQ
  conv => arg 2; whnf
  refine Gw.draw [2, 3] (Gw.Mem w0 [(d1_1, .cells #[.int .u64 (bi b.t.v), .int .u64 (bi b.t.m), .int .u64 b.u.lo, .int .u64 b.u.hi, .int .i64 b.s.lo, .int .i64 b.s.hi] 30), (d1_0, .cells #[.int .u64 (bi a.t.v), .int .u64 (bi a.t.m), .int .u64 a.u.lo, .int .u64 a.u.hi, .int .i64 a.s.lo, .int .i64 a.s.hi] 30)]) _ (by kernel_rfl) M.drew ?_
  have hG : ∀ z, Gw.Mem w0 [(d1_3, .cells #[.int .u64 0, .int .u64 0, .int .u64 0, .int .u64 0, .int .i64 0, .int .i64 0] 30), (d1_2, .cells #[.int .u64 0, .int .u64 0, .int .u64 0, .int .u64 0, .int .i64 0, .int .i64 0] 30), (d1_1, .cells #[.int .u64 (bi b.t.v), .int .u64 (bi b.t.m), .int .u64 b.u.lo, .int .u64 b.u.hi, .int .i64 b.s.lo, .int .i64 b.s.hi] 30), (d1_0, .cells #[.int .u64 (bi a.t.v), .int .u64 (bi a.t.m), .int .u64 a.u.lo, .int .u64 a.u.hi, .int .i64 a.s.lo, .int .i64 a.s.hi] 30)] z → Gw.Mem w0 [(d1_1, .cells #[.int .u64 (bi b.t.v), .int .u64 (bi b.t.m), .int .u64 b.u.lo, .int .u64 b.u.hi, .int .i64 b.s.lo, .int .i64 b.s.hi] 30), (d1_0, .cells #[.int .u64 (bi a.t.v), .int .u64 (bi a.t.m), .int .u64 a.u.lo, .int .u64 a.u.hi, .int .i64 a.s.lo, .int .i64 a.s.hi] 30)] z := fun _ h => h.sub (Gw.cd (Gw.cd (Gw.cc (Gw.cc Gw.cn))))
  clear M wy
  refine Gw.tg 0 (.agg #[.int .u64 (bi a.t.v), .int .u64 (bi a.t.m), .int .u64 a.u.lo, .int .u64 a.u.hi, .int .i64 a.s.lo, .int .i64 a.s.hi]) ?_ ?_
  · intro w M; have c := M.c6 1; go_simp
  try simp only [Act.put, ptA, ptB, ptC]
  refine Gw.tg 1 (.agg #[.int .u64 (bi b.t.v), .int .u64 (bi b.t.m), .int .u64 b.u.lo, .int .u64 b.u.hi, .int .i64 b.s.lo, .int .i64 b.s.hi]) ?_ ?_
  · intro w M; have c := M.c6 0; go_simp
  try simp only [Act.put, ptA, ptB, ptC]
  refine Gw.ts 2 rfl (by kernel_rfl) ?_
  intro w M K' hK
  have c := M.c6 1
  have f := M.f6 1
  go_simp
  refine hK.out _ _ _ Gw.Mem.stays (fun h => by cases h) (fun _ h => h.sub (Gw.cd (Gw.cd (Gw.cc (Gw.cc Gw.cn))))) ((((((M.set 1 0 _).set 1 1 _).set 1 2 _).set 1 3 _).set 1 4 _).set 1 5 _) ?_
  clear hK K' c f M w
  refine Gw.ts 3 rfl (by kernel_rfl) ?_
  intro w M K' hK
  have c := M.c6 0
  have f := M.f6 0
  go_simp
  refine hK.out _ _ _ Gw.Mem.stays (fun h => by cases h) (fun _ h => h.sub (Gw.cd (Gw.cd (Gw.cc (Gw.cc Gw.cn))))) ((((((M.set 0 0 _).set 0 1 _).set 0 2 _).set 0 3 _).set 0 4 _).set 0 5 _) ?_
  clear hK K' c f M w
  refine Gw.tw 4 (.bool true) ?_ (hG := (fun _ h => h.sub (Gw.cd (Gw.cd (Gw.cc (Gw.cc Gw.cn))))))
  try simp only [Act.put, ptA, ptB, ptC]
  exact Gw.td (by kernel_rfl) (fun z M => HK.out _ _ z M) _
noncomputable def br5_r9C : Code := (Tryz.f34.body.bind (Rg.findR 9)).getD .skip
set_option maxHeartbeats 4000000 in
theorem br5_r9 (op : Int) (wide taken : Bool) (a b : C) (ha : mayC a) (hb : mayC b) (p q : C) (ok : Bool) (hls : lsR op taken a b = ((p, q), ok)) (hop : Wd.jumpOk op = true) (hal : (aloneC a && aloneC b) = false) {w0 : World}  {K : Act → World → Prop} {Q0 : Exit → Act → World → Prop} {d1_3 d1_2 d1_1 d1_0 : Nat} {u1 u3 u4 u5 u6 u7 u10 u11 u12 u13 u14 u15 u16 u17 u18 u19 u20 u21 u22 u23 u24 u25 u26 u27 u28 u29 u30 u31 u32 u33 u34 u35 u36 u37 u38 u39 u40 u41 u42 u43 u44 u45 u46 u47 u48 u49 u50 u51 u52 u53 u54 u55 u56 u57 u58 u59 u60 u61 u62 u63 u64 u65 u66 u67 u68 u69 u70 u71 u72 u73 u74 u75 u76 u77 u78 u79 u80 u81 u82 u83 u84 u85 u86 u87 u88 u89 u90 u91 u92 u93 u94 u95 u96 u97 u98 : Value}
    (hQ : ∀ c a d v w, Q0 (.panic c) (Act.put a d v) w → Q0 (.panic c) a w)
    (hK : ∀ (t61 t62 t63 t64 t65 t66 t67 t68 t69 t70 : Value) (d10_10 d10_11 : Nat) (z : World), Gw.Mem w0 [(d10_11, .cells #[.int .u64 (bi q.t.v), .int .u64 (bi q.t.m), .int .u64 q.u.lo, .int .u64 q.u.hi, .int .i64 q.s.lo, .int .i64 q.s.hi] 30), (d10_10, .cells #[.int .u64 (bi p.t.v), .int .u64 (bi p.t.m), .int .u64 p.u.lo, .int .u64 p.u.hi, .int .i64 p.s.lo, .int .i64 p.s.hi] 30), (d1_3, .cells #[.int .u64 0, .int .u64 0, .int .u64 0, .int .u64 0, .int .i64 0, .int .i64 0] 30), (d1_2, .cells #[.int .u64 0, .int .u64 0, .int .u64 0, .int .u64 0, .int .i64 0, .int .i64 0] 30), (d1_1, .cells #[.int .u64 (bi b.t.v), .int .u64 (bi b.t.m), .int .u64 b.u.lo, .int .u64 b.u.hi, .int .i64 b.s.lo, .int .i64 b.s.hi] 30), (d1_0, .cells #[.int .u64 (bi a.t.v), .int .u64 (bi a.t.m), .int .u64 a.u.lo, .int .u64 a.u.hi, .int .i64 a.s.lo, .int .i64 a.s.hi] 30)] z → K ⟨#[.int .i64 op, u1, .bool taken, u3, u4, u5, u6, u7, .pointer (some ⟨d1_0, 0, none⟩), .pointer (some ⟨d1_1, 0, none⟩), u10, u11, u12, u13, u14, u15, u16, .pointer (some ⟨d10_10, 0, none⟩), .pointer (some ⟨d10_11, 0, none⟩), .bool ok, u20, u21, u22, u23, u24, u25, u26, u27, u28, u29, u30, u31, u32, u33, u34, u35, u36, u37, u38, u39, u40, u41, u42, u43, u44, u45, u46, u47, u48, u49, u50, u51, u52, u53, u54, u55, u56, u57, u58, u59, u60, t61, t62, t63, t64, t65, t66, t67, t68, t69, t70, u71, u72, u73, u74, u75, u76, u77, u78, u79, u80, u81, u82, u83, u84, u85, u86, u87, u88, u89, u90, u91, u92, u93, u94, u95, u96, u97, u98], []⟩ z) (wy : World) (M : Gw.Mem w0 [(d1_3, .cells #[.int .u64 0, .int .u64 0, .int .u64 0, .int .u64 0, .int .i64 0, .int .i64 0] 30), (d1_2, .cells #[.int .u64 0, .int .u64 0, .int .u64 0, .int .u64 0, .int .i64 0, .int .i64 0] 30), (d1_1, .cells #[.int .u64 (bi b.t.v), .int .u64 (bi b.t.m), .int .u64 b.u.lo, .int .u64 b.u.hi, .int .i64 b.s.lo, .int .i64 b.s.hi] 30), (d1_0, .cells #[.int .u64 (bi a.t.v), .int .u64 (bi a.t.m), .int .u64 a.u.lo, .int .u64 a.u.hi, .int .i64 a.s.lo, .int .i64 a.s.hi] 30)] wy) :
    br5_r9C.wp Tryz.prog (Exit.then K Q0) ⟨#[.int .i64 op, u1, .bool taken, u3, u4, u5, u6, u7, .pointer (some ⟨d1_0, 0, none⟩), .pointer (some ⟨d1_1, 0, none⟩), u10, u11, u12, u13, u14, u15, u16, u17, u18, u19, u20, u21, u22, u23, u24, u25, u26, u27, u28, u29, u30, u31, u32, u33, u34, u35, u36, u37, u38, u39, u40, u41, u42, u43, u44, u45, u46, u47, u48, u49, u50, u51, u52, u53, u54, u55, u56, u57, u58, u59, u60, u61, u62, u63, u64, u65, u66, u67, u68, u69, u70, u71, u72, u73, u74, u75, u76, u77, u78, u79, u80, u81, u82, u83, u84, u85, u86, u87, u88, u89, u90, u91, u92, u93, u94, u95, u96, u97, u98], []⟩ wy := by
  have HK := Lib.hid hK
  clear hK
  have hq : ∀ c a d v w, Exit.then K Q0 (.panic c) (Act.put a d v) w → Exit.then K Q0 (.panic c) a w := hQ
  conv => arg 2; whnf
  refine Gw.draw [12, 13] (Gw.Mem w0 [(d1_3, .cells #[.int .u64 0, .int .u64 0, .int .u64 0, .int .u64 0, .int .i64 0, .int .i64 0] 30), (d1_2, .cells #[.int .u64 0, .int .u64 0, .int .u64 0, .int .u64 0, .int .i64 0, .int .i64 0] 30), (d1_1, .cells #[.int .u64 (bi b.t.v), .int .u64 (bi b.t.m), .int .u64 b.u.lo, .int .u64 b.u.hi, .int .i64 b.s.lo, .int .i64 b.s.hi] 30), (d1_0, .cells #[.int .u64 (bi a.t.v), .int .u64 (bi a.t.m), .int .u64 a.u.lo, .int .u64 a.u.hi, .int .i64 a.s.lo, .int .i64 a.s.hi] 30)]) _ (by kernel_rfl) M.drew ?_
  clear M wy
  refine Gw.tw 0 (.int .i64 op) ?_
  try simp only [Act.put, ptA, ptB, ptC]
  refine Gw.tw 1 (.bool taken) ?_
  try simp only [Act.put, ptA, ptB, ptC]
  refine Gw.tg 3 (.agg #[.int .u64 (bi a.t.v), .int .u64 (bi a.t.m), .int .u64 a.u.lo, .int .u64 a.u.hi, .int .i64 a.s.lo, .int .i64 a.s.hi]) ?_ ?_
  · intro w M; have c := M.c6 3; go_simp
  try simp only [Act.put, ptA, ptB, ptC]
  refine Gw.tg 4 (.agg #[.int .u64 (bi b.t.v), .int .u64 (bi b.t.m), .int .u64 b.u.lo, .int .u64 b.u.hi, .int .i64 b.s.lo, .int .i64 b.s.hi]) ?_ ?_
  · intro w M; have c := M.c6 2; go_simp
  try simp only [Act.put, ptA, ptB, ptC]
  refine Gw.tn (rs := [2, 10, 11]) (by kernel_rfl) (by simp) (Gw.ec 2 rfl ?_ (Gw.ec 10 rfl ?_ (Gw.ec 11 rfl ?_ Gw.en)))
  · intro w M K' hK
    go_simp
    refine (lesson5 op taken hop w).mono ?_
    rintro e w1 ⟨g10_2_0, g10_2_1, g10_2_2, g10_2_3, g10_2_4, g10_2_5, g10_2_6, g10_2_7, g10_2_8, g10_2_9, g10_2_10, g10_2_11, rfl, N⟩
    refine hK.out _ _ _ Gw.Mem.stays (fun _ z h => h.front) (fun z h => h.front) (M.beside N) ?_
    clear hK K' N M w1 w
    try simp only [Act.put, ptA, ptB, ptC]
    refine Gw.tk 5 (.tuple #[.agg #[.int .u64 (bi p.t.v), .int .u64 (bi p.t.m), .int .u64 p.u.lo, .int .u64 p.u.hi, .int .i64 p.s.lo, .int .i64 p.s.hi], .agg #[.int .u64 (bi q.t.v), .int .u64 (bi q.t.m), .int .u64 q.u.lo, .int .u64 q.u.hi, .int .i64 q.s.lo, .int .i64 q.s.hi], .bool ok]) (lsN op taken) (#[.agg #[.int .u64 (bi a.t.v), .int .u64 (bi a.t.m), .int .u64 a.u.lo, .int .u64 a.u.hi, .int .i64 a.s.lo, .int .i64 a.s.hi], .agg #[.int .u64 (bi b.t.v), .int .u64 (bi b.t.m), .int .u64 b.u.lo, .int .u64 b.u.hi, .int .i64 b.s.lo, .int .i64 b.s.hi]] ++ (lsC op taken g10_2_0 g10_2_1 g10_2_2 g10_2_3 g10_2_4 g10_2_5 g10_2_6 g10_2_7 g10_2_8 g10_2_9 g10_2_10 g10_2_11)) (fun w M => (by have X := M.back; clear M; have Y := ls_call2 op taken hop a b ha hb p q ok hls g10_2_0 g10_2_1 g10_2_2 g10_2_3 g10_2_4 g10_2_5 g10_2_6 g10_2_7 g10_2_8 g10_2_9 g10_2_10 g10_2_11 w X; exact Y)) ?_ (hy := by intro w M; have hr := run_ls op taken hop; go_simp) (hG := (fun z h => h.front))
    try simp only [Act.put, ptA, ptB, ptC]
    refine Gw.tw 6 (.tuple #[.agg #[.int .u64 (bi p.t.v), .int .u64 (bi p.t.m), .int .u64 p.u.lo, .int .u64 p.u.hi, .int .i64 p.s.lo, .int .i64 p.s.hi], .agg #[.int .u64 (bi q.t.v), .int .u64 (bi q.t.m), .int .u64 q.u.lo, .int .u64 q.u.hi, .int .i64 q.s.lo, .int .i64 q.s.hi], .bool ok]) ?_ (hG := (fun z h => h.front))
    try simp only [Act.put, ptA, ptB, ptC]
    refine Gw.tw 7 (.agg #[.int .u64 (bi p.t.v), .int .u64 (bi p.t.m), .int .u64 p.u.lo, .int .u64 p.u.hi, .int .i64 p.s.lo, .int .i64 p.s.hi]) ?_ (hG := (fun z h => h.front))
    try simp only [Act.put, ptA, ptB, ptC]
    refine Gw.tw 8 (.agg #[.int .u64 (bi q.t.v), .int .u64 (bi q.t.m), .int .u64 q.u.lo, .int .u64 q.u.hi, .int .i64 q.s.lo, .int .i64 q.s.hi]) ?_ (hG := (fun z h => h.front))
    try simp only [Act.put, ptA, ptB, ptC]
    refine Gw.tw 9 (.bool ok) ?_ (hG := (fun z h => h.front))
    try simp only [Act.put, ptA, ptB, ptC]
    refine Gw.tn (rs := [10, 11]) (by kernel_rfl) (by simp) (Gw.ec 10 rfl ?_ (Gw.ec 11 rfl ?_ Gw.en))
    · intro w M K' hK
      go_simp
      have M1 := M.alloc (.cells #[.int .u64 0, .int .u64 0, .int .u64 0, .int .u64 0, .int .i64 0, .int .i64 0] 30)
      generalize w.heap.size = d10_10 at M1 ⊢
      refine hK.out _ _ _ Gw.Mem.stays (fun _ z h => h.tail) (fun z h => h.tail.front) M1 ?_
      clear hK K' M1 M w
      try simp only [Act.put, ptA, ptB, ptC]
      refine Gw.ts 11 rfl (by kernel_rfl) ?_
      intro w M K' hK
      go_simp
      have M1 := M.alloc (.cells #[.int .u64 0, .int .u64 0, .int .u64 0, .int .u64 0, .int .i64 0, .int .i64 0] 30)
      generalize w.heap.size = d10_11 at M1 ⊢
      refine hK.out _ _ _ Gw.Mem.stays (fun _ z h => h.tail) (fun z h => h.tail.tail.front) M1 ?_
      clear hK K' M1 M w
      try simp only [Act.put, ptA, ptB, ptC]
      refine Gw.ts 12 rfl (by kernel_rfl) ?_
      intro w M K' hK
      have c := M.c6 1
      have f := M.f6 1
      go_simp
      refine hK.out _ _ _ Gw.Mem.stays (fun h => by cases h) (fun z h => h.tail.tail.front) ((((((M.set 1 0 _).set 1 1 _).set 1 2 _).set 1 3 _).set 1 4 _).set 1 5 _) ?_
      clear hK K' c f M w
      refine Gw.ts 13 rfl (by kernel_rfl) ?_
      intro w M K' hK
      have c := M.c6 0
      have f := M.f6 0
      go_simp
      refine hK.out _ _ _ Gw.Mem.stays (fun h => by cases h) (fun z h => h.tail.tail.front) ((((((M.set 0 0 _).set 0 1 _).set 0 2 _).set 0 3 _).set 0 4 _).set 0 5 _) ?_
      clear hK K' c f M w
      refine Gw.tw 14 (.bool ok) ?_ (hG := (fun z h => h.tail.tail.front))
      try simp only [Act.put, ptA, ptB, ptC]
      exact Gw.td (by kernel_rfl) (fun z M => HK.out _ _ _ _ _ _ _ _ _ _ _ _ z ((show Gw.Mem w0 ([(d10_11, .cells #[.int .u64 (bi q.t.v), .int .u64 (bi q.t.m), .int .u64 q.u.lo, .int .u64 q.u.hi, .int .i64 q.s.lo, .int .i64 q.s.hi] 30), (d10_10, .cells #[.int .u64 (bi p.t.v), .int .u64 (bi p.t.m), .int .u64 p.u.lo, .int .u64 p.u.hi, .int .i64 p.s.lo, .int .i64 p.s.hi] 30), (d1_3, .cells #[.int .u64 0, .int .u64 0, .int .u64 0, .int .u64 0, .int .i64 0, .int .i64 0] 30), (d1_2, .cells #[.int .u64 0, .int .u64 0, .int .u64 0, .int .u64 0, .int .i64 0, .int .i64 0] 30), (d1_1, .cells #[.int .u64 (bi b.t.v), .int .u64 (bi b.t.m), .int .u64 b.u.lo, .int .u64 b.u.hi, .int .i64 b.s.lo, .int .i64 b.s.hi] 30), (d1_0, .cells #[.int .u64 (bi a.t.v), .int .u64 (bi a.t.m), .int .u64 a.u.lo, .int .u64 a.u.hi, .int .i64 a.s.lo, .int .i64 a.s.hi] 30)] ++ JL g10_2_0 g10_2_1 g10_2_2 g10_2_3 g10_2_4 g10_2_5 g10_2_6 g10_2_7 g10_2_8 g10_2_9 g10_2_10 g10_2_11) z from M).front)) _
    · intro w M K' hK
      go_simp
      have M1 := M.alloc (.cells #[.int .u64 0, .int .u64 0, .int .u64 0, .int .u64 0, .int .i64 0, .int .i64 0] 30)
      generalize w.heap.size = d10_11 at M1 ⊢
      refine hK.out _ _ _ Gw.Mem.stays (fun _ z h => h.tail) (fun z h => h.tail.front) M1 ?_
      clear hK K' M1 M w
      try simp only [Act.put, ptA, ptB, ptC]
      refine Gw.ts 10 rfl (by kernel_rfl) ?_
      intro w M K' hK
      go_simp
      have M1 := M.alloc (.cells #[.int .u64 0, .int .u64 0, .int .u64 0, .int .u64 0, .int .i64 0, .int .i64 0] 30)
      generalize w.heap.size = d10_10 at M1 ⊢
      refine hK.out _ _ _ Gw.Mem.stays (fun _ z h => h.tail) (fun z h => h.tail.tail.front) M1 ?_
      clear hK K' M1 M w
      try simp only [Act.put, ptA, ptB, ptC]
      refine Gw.ts 12 rfl (by kernel_rfl) ?_
      intro w M K' hK
      have c := M.c6 0
      have f := M.f6 0
      go_simp
      refine hK.out _ _ _ Gw.Mem.stays (fun h => by cases h) (fun z h => h.tail.tail.front) ((((((M.set 0 0 _).set 0 1 _).set 0 2 _).set 0 3 _).set 0 4 _).set 0 5 _) ?_
      clear hK K' c f M w
      refine Gw.ts 13 rfl (by kernel_rfl) ?_
      intro w M K' hK
      have c := M.c6 1
      have f := M.f6 1
      go_simp
      refine hK.out _ _ _ Gw.Mem.stays (fun h => by cases h) (fun z h => h.tail.tail.front) ((((((M.set 1 0 _).set 1 1 _).set 1 2 _).set 1 3 _).set 1 4 _).set 1 5 _) ?_
      clear hK K' c f M w
      refine Gw.tw 14 (.bool ok) ?_ (hG := (fun z h => h.tail.tail.front))
      try simp only [Act.put, ptA, ptB, ptC]
      exact Gw.td (by kernel_rfl) (fun z M => HK.out _ _ _ _ _ _ _ _ _ _ _ _ z (((show Gw.Mem w0 ([(d10_10, .cells #[.int .u64 (bi p.t.v), .int .u64 (bi p.t.m), .int .u64 p.u.lo, .int .u64 p.u.hi, .int .i64 p.s.lo, .int .i64 p.s.hi] 30), (d10_11, .cells #[.int .u64 (bi q.t.v), .int .u64 (bi q.t.m), .int .u64 q.u.lo, .int .u64 q.u.hi, .int .i64 q.s.lo, .int .i64 q.s.hi] 30), (d1_3, .cells #[.int .u64 0, .int .u64 0, .int .u64 0, .int .u64 0, .int .i64 0, .int .i64 0] 30), (d1_2, .cells #[.int .u64 0, .int .u64 0, .int .u64 0, .int .u64 0, .int .i64 0, .int .i64 0] 30), (d1_1, .cells #[.int .u64 (bi b.t.v), .int .u64 (bi b.t.m), .int .u64 b.u.lo, .int .u64 b.u.hi, .int .i64 b.s.lo, .int .i64 b.s.hi] 30), (d1_0, .cells #[.int .u64 (bi a.t.v), .int .u64 (bi a.t.m), .int .u64 a.u.lo, .int .u64 a.u.hi, .int .i64 a.s.lo, .int .i64 a.s.hi] 30)] ++ JL g10_2_0 g10_2_1 g10_2_2 g10_2_3 g10_2_4 g10_2_5 g10_2_6 g10_2_7 g10_2_8 g10_2_9 g10_2_10 g10_2_11) z from M).front).perm (List.Perm.swap _ _ _))) _
  · intro w M K' hK
    go_simp
    have M1 := M.alloc (.cells #[.int .u64 0, .int .u64 0, .int .u64 0, .int .u64 0, .int .i64 0, .int .i64 0] 30)
    generalize w.heap.size = d10_10 at M1 ⊢
    refine hK.out _ _ _ Gw.Mem.stays (fun _ z h => h.tail) (fun z h => h.tail) M1 ?_
    clear hK K' M1 M w
    try simp only [Act.put, ptA, ptB, ptC]
    refine Gw.tn (rs := [2, 11]) (by kernel_rfl) (by simp) (Gw.ec 2 rfl ?_ (Gw.ec 11 rfl ?_ Gw.en))
    · intro w M K' hK
      go_simp
      refine (lesson5 op taken hop w).mono ?_
      rintro e w1 ⟨g10_2_0, g10_2_1, g10_2_2, g10_2_3, g10_2_4, g10_2_5, g10_2_6, g10_2_7, g10_2_8, g10_2_9, g10_2_10, g10_2_11, rfl, N⟩
      refine hK.out _ _ _ Gw.Mem.stays (fun _ z h => h.front) (fun z h => h.front.tail) (M.beside N) ?_
      clear hK K' N M w1 w
      try simp only [Act.put, ptA, ptB, ptC]
      refine Gw.tk 5 (.tuple #[.agg #[.int .u64 (bi p.t.v), .int .u64 (bi p.t.m), .int .u64 p.u.lo, .int .u64 p.u.hi, .int .i64 p.s.lo, .int .i64 p.s.hi], .agg #[.int .u64 (bi q.t.v), .int .u64 (bi q.t.m), .int .u64 q.u.lo, .int .u64 q.u.hi, .int .i64 q.s.lo, .int .i64 q.s.hi], .bool ok]) (lsN op taken) (#[.agg #[.int .u64 (bi a.t.v), .int .u64 (bi a.t.m), .int .u64 a.u.lo, .int .u64 a.u.hi, .int .i64 a.s.lo, .int .i64 a.s.hi], .agg #[.int .u64 (bi b.t.v), .int .u64 (bi b.t.m), .int .u64 b.u.lo, .int .u64 b.u.hi, .int .i64 b.s.lo, .int .i64 b.s.hi]] ++ (lsC op taken g10_2_0 g10_2_1 g10_2_2 g10_2_3 g10_2_4 g10_2_5 g10_2_6 g10_2_7 g10_2_8 g10_2_9 g10_2_10 g10_2_11)) (fun w M => (by have X := M.back; clear M; have Y := ls_call2 op taken hop a b ha hb p q ok hls g10_2_0 g10_2_1 g10_2_2 g10_2_3 g10_2_4 g10_2_5 g10_2_6 g10_2_7 g10_2_8 g10_2_9 g10_2_10 g10_2_11 w X; exact Y)) ?_ (hy := by intro w M; have hr := run_ls op taken hop; go_simp) (hG := (fun z h => h.front.tail))
      try simp only [Act.put, ptA, ptB, ptC]
      refine Gw.tw 6 (.tuple #[.agg #[.int .u64 (bi p.t.v), .int .u64 (bi p.t.m), .int .u64 p.u.lo, .int .u64 p.u.hi, .int .i64 p.s.lo, .int .i64 p.s.hi], .agg #[.int .u64 (bi q.t.v), .int .u64 (bi q.t.m), .int .u64 q.u.lo, .int .u64 q.u.hi, .int .i64 q.s.lo, .int .i64 q.s.hi], .bool ok]) ?_ (hG := (fun z h => h.front.tail))
      try simp only [Act.put, ptA, ptB, ptC]
      refine Gw.tw 7 (.agg #[.int .u64 (bi p.t.v), .int .u64 (bi p.t.m), .int .u64 p.u.lo, .int .u64 p.u.hi, .int .i64 p.s.lo, .int .i64 p.s.hi]) ?_ (hG := (fun z h => h.front.tail))
      try simp only [Act.put, ptA, ptB, ptC]
      refine Gw.tw 8 (.agg #[.int .u64 (bi q.t.v), .int .u64 (bi q.t.m), .int .u64 q.u.lo, .int .u64 q.u.hi, .int .i64 q.s.lo, .int .i64 q.s.hi]) ?_ (hG := (fun z h => h.front.tail))
      try simp only [Act.put, ptA, ptB, ptC]
      refine Gw.tw 9 (.bool ok) ?_ (hG := (fun z h => h.front.tail))
      try simp only [Act.put, ptA, ptB, ptC]
      refine Gw.ts 11 rfl (by kernel_rfl) ?_
      intro w M K' hK
      go_simp
      have M1 := M.alloc (.cells #[.int .u64 0, .int .u64 0, .int .u64 0, .int .u64 0, .int .i64 0, .int .i64 0] 30)
      generalize w.heap.size = d10_11 at M1 ⊢
      refine hK.out _ _ _ Gw.Mem.stays (fun _ z h => h.tail) (fun z h => h.tail.front.tail) M1 ?_
      clear hK K' M1 M w
      try simp only [Act.put, ptA, ptB, ptC]
      refine Gw.ts 12 rfl (by kernel_rfl) ?_
      intro w M K' hK
      have c := M.c6 1
      have f := M.f6 1
      go_simp
      refine hK.out _ _ _ Gw.Mem.stays (fun h => by cases h) (fun z h => h.tail.front.tail) ((((((M.set 1 0 _).set 1 1 _).set 1 2 _).set 1 3 _).set 1 4 _).set 1 5 _) ?_
      clear hK K' c f M w
      refine Gw.ts 13 rfl (by kernel_rfl) ?_
      intro w M K' hK
      have c := M.c6 0
      have f := M.f6 0
      go_simp
      refine hK.out _ _ _ Gw.Mem.stays (fun h => by cases h) (fun z h => h.tail.front.tail) ((((((M.set 0 0 _).set 0 1 _).set 0 2 _).set 0 3 _).set 0 4 _).set 0 5 _) ?_
      clear hK K' c f M w
      refine Gw.tw 14 (.bool ok) ?_ (hG := (fun z h => h.tail.front.tail))
      try simp only [Act.put, ptA, ptB, ptC]
      exact Gw.td (by kernel_rfl) (fun z M => HK.out _ _ _ _ _ _ _ _ _ _ _ _ z ((show Gw.Mem w0 ([(d10_11, .cells #[.int .u64 (bi q.t.v), .int .u64 (bi q.t.m), .int .u64 q.u.lo, .int .u64 q.u.hi, .int .i64 q.s.lo, .int .i64 q.s.hi] 30), (d10_10, .cells #[.int .u64 (bi p.t.v), .int .u64 (bi p.t.m), .int .u64 p.u.lo, .int .u64 p.u.hi, .int .i64 p.s.lo, .int .i64 p.s.hi] 30), (d1_3, .cells #[.int .u64 0, .int .u64 0, .int .u64 0, .int .u64 0, .int .i64 0, .int .i64 0] 30), (d1_2, .cells #[.int .u64 0, .int .u64 0, .int .u64 0, .int .u64 0, .int .i64 0, .int .i64 0] 30), (d1_1, .cells #[.int .u64 (bi b.t.v), .int .u64 (bi b.t.m), .int .u64 b.u.lo, .int .u64 b.u.hi, .int .i64 b.s.lo, .int .i64 b.s.hi] 30), (d1_0, .cells #[.int .u64 (bi a.t.v), .int .u64 (bi a.t.m), .int .u64 a.u.lo, .int .u64 a.u.hi, .int .i64 a.s.lo, .int .i64 a.s.hi] 30)] ++ JL g10_2_0 g10_2_1 g10_2_2 g10_2_3 g10_2_4 g10_2_5 g10_2_6 g10_2_7 g10_2_8 g10_2_9 g10_2_10 g10_2_11) z from M).front)) _
    · intro w M K' hK
      go_simp
      have M1 := M.alloc (.cells #[.int .u64 0, .int .u64 0, .int .u64 0, .int .u64 0, .int .i64 0, .int .i64 0] 30)
      generalize w.heap.size = d10_11 at M1 ⊢
      refine hK.out _ _ _ Gw.Mem.stays (fun _ z h => h.tail) (fun z h => h.tail.tail) M1 ?_
      clear hK K' M1 M w
      try simp only [Act.put, ptA, ptB, ptC]
      refine Gw.ts 2 rfl (by kernel_rfl) ?_
      intro w M K' hK
      go_simp
      refine (lesson5 op taken hop w).mono ?_
      rintro e w1 ⟨g10_2_0, g10_2_1, g10_2_2, g10_2_3, g10_2_4, g10_2_5, g10_2_6, g10_2_7, g10_2_8, g10_2_9, g10_2_10, g10_2_11, rfl, N⟩
      refine hK.out _ _ _ Gw.Mem.stays (fun _ z h => h.front) (fun z h => h.front.tail.tail) (M.beside N) ?_
      clear hK K' N M w1 w
      try simp only [Act.put, ptA, ptB, ptC]
      refine Gw.tk 5 (.tuple #[.agg #[.int .u64 (bi p.t.v), .int .u64 (bi p.t.m), .int .u64 p.u.lo, .int .u64 p.u.hi, .int .i64 p.s.lo, .int .i64 p.s.hi], .agg #[.int .u64 (bi q.t.v), .int .u64 (bi q.t.m), .int .u64 q.u.lo, .int .u64 q.u.hi, .int .i64 q.s.lo, .int .i64 q.s.hi], .bool ok]) (lsN op taken) (#[.agg #[.int .u64 (bi a.t.v), .int .u64 (bi a.t.m), .int .u64 a.u.lo, .int .u64 a.u.hi, .int .i64 a.s.lo, .int .i64 a.s.hi], .agg #[.int .u64 (bi b.t.v), .int .u64 (bi b.t.m), .int .u64 b.u.lo, .int .u64 b.u.hi, .int .i64 b.s.lo, .int .i64 b.s.hi]] ++ (lsC op taken g10_2_0 g10_2_1 g10_2_2 g10_2_3 g10_2_4 g10_2_5 g10_2_6 g10_2_7 g10_2_8 g10_2_9 g10_2_10 g10_2_11)) (fun w M => (by have X := M.back; clear M; have Y := ls_call2 op taken hop a b ha hb p q ok hls g10_2_0 g10_2_1 g10_2_2 g10_2_3 g10_2_4 g10_2_5 g10_2_6 g10_2_7 g10_2_8 g10_2_9 g10_2_10 g10_2_11 w X; exact Y)) ?_ (hy := by intro w M; have hr := run_ls op taken hop; go_simp) (hG := (fun z h => h.front.tail.tail))
      try simp only [Act.put, ptA, ptB, ptC]
      refine Gw.tw 6 (.tuple #[.agg #[.int .u64 (bi p.t.v), .int .u64 (bi p.t.m), .int .u64 p.u.lo, .int .u64 p.u.hi, .int .i64 p.s.lo, .int .i64 p.s.hi], .agg #[.int .u64 (bi q.t.v), .int .u64 (bi q.t.m), .int .u64 q.u.lo, .int .u64 q.u.hi, .int .i64 q.s.lo, .int .i64 q.s.hi], .bool ok]) ?_ (hG := (fun z h => h.front.tail.tail))
      try simp only [Act.put, ptA, ptB, ptC]
      refine Gw.tw 7 (.agg #[.int .u64 (bi p.t.v), .int .u64 (bi p.t.m), .int .u64 p.u.lo, .int .u64 p.u.hi, .int .i64 p.s.lo, .int .i64 p.s.hi]) ?_ (hG := (fun z h => h.front.tail.tail))
      try simp only [Act.put, ptA, ptB, ptC]
      refine Gw.tw 8 (.agg #[.int .u64 (bi q.t.v), .int .u64 (bi q.t.m), .int .u64 q.u.lo, .int .u64 q.u.hi, .int .i64 q.s.lo, .int .i64 q.s.hi]) ?_ (hG := (fun z h => h.front.tail.tail))
      try simp only [Act.put, ptA, ptB, ptC]
      refine Gw.tw 9 (.bool ok) ?_ (hG := (fun z h => h.front.tail.tail))
      try simp only [Act.put, ptA, ptB, ptC]
      refine Gw.ts 12 rfl (by kernel_rfl) ?_
      intro w M K' hK
      have c := M.c6 1
      have f := M.f6 1
      go_simp
      refine hK.out _ _ _ Gw.Mem.stays (fun h => by cases h) (fun z h => h.front.tail.tail) ((((((M.set 1 0 _).set 1 1 _).set 1 2 _).set 1 3 _).set 1 4 _).set 1 5 _) ?_
      clear hK K' c f M w
      refine Gw.ts 13 rfl (by kernel_rfl) ?_
      intro w M K' hK
      have c := M.c6 0
      have f := M.f6 0
      go_simp
      refine hK.out _ _ _ Gw.Mem.stays (fun h => by cases h) (fun z h => h.front.tail.tail) ((((((M.set 0 0 _).set 0 1 _).set 0 2 _).set 0 3 _).set 0 4 _).set 0 5 _) ?_
      clear hK K' c f M w
      refine Gw.tw 14 (.bool ok) ?_ (hG := (fun z h => h.front.tail.tail))
      try simp only [Act.put, ptA, ptB, ptC]
      exact Gw.td (by kernel_rfl) (fun z M => HK.out _ _ _ _ _ _ _ _ _ _ _ _ z ((show Gw.Mem w0 ([(d10_11, .cells #[.int .u64 (bi q.t.v), .int .u64 (bi q.t.m), .int .u64 q.u.lo, .int .u64 q.u.hi, .int .i64 q.s.lo, .int .i64 q.s.hi] 30), (d10_10, .cells #[.int .u64 (bi p.t.v), .int .u64 (bi p.t.m), .int .u64 p.u.lo, .int .u64 p.u.hi, .int .i64 p.s.lo, .int .i64 p.s.hi] 30), (d1_3, .cells #[.int .u64 0, .int .u64 0, .int .u64 0, .int .u64 0, .int .i64 0, .int .i64 0] 30), (d1_2, .cells #[.int .u64 0, .int .u64 0, .int .u64 0, .int .u64 0, .int .i64 0, .int .i64 0] 30), (d1_1, .cells #[.int .u64 (bi b.t.v), .int .u64 (bi b.t.m), .int .u64 b.u.lo, .int .u64 b.u.hi, .int .i64 b.s.lo, .int .i64 b.s.hi] 30), (d1_0, .cells #[.int .u64 (bi a.t.v), .int .u64 (bi a.t.m), .int .u64 a.u.lo, .int .u64 a.u.hi, .int .i64 a.s.lo, .int .i64 a.s.hi] 30)] ++ JL g10_2_0 g10_2_1 g10_2_2 g10_2_3 g10_2_4 g10_2_5 g10_2_6 g10_2_7 g10_2_8 g10_2_9 g10_2_10 g10_2_11) z from M).front)) _
  · intro w M K' hK
    go_simp
    have M1 := M.alloc (.cells #[.int .u64 0, .int .u64 0, .int .u64 0, .int .u64 0, .int .i64 0, .int .i64 0] 30)
    generalize w.heap.size = d10_11 at M1 ⊢
    refine hK.out _ _ _ Gw.Mem.stays (fun _ z h => h.tail) (fun z h => h.tail) M1 ?_
    clear hK K' M1 M w
    try simp only [Act.put, ptA, ptB, ptC]
    refine Gw.tn (rs := [2, 10]) (by kernel_rfl) (by simp) (Gw.ec 2 rfl ?_ (Gw.ec 10 rfl ?_ Gw.en))
    · intro w M K' hK
      go_simp
      refine (lesson5 op taken hop w).mono ?_
      rintro e w1 ⟨g10_2_0, g10_2_1, g10_2_2, g10_2_3, g10_2_4, g10_2_5, g10_2_6, g10_2_7, g10_2_8, g10_2_9, g10_2_10, g10_2_11, rfl, N⟩
      refine hK.out _ _ _ Gw.Mem.stays (fun _ z h => h.front) (fun z h => h.front.tail) (M.beside N) ?_
      clear hK K' N M w1 w
      try simp only [Act.put, ptA, ptB, ptC]
      refine Gw.tk 5 (.tuple #[.agg #[.int .u64 (bi p.t.v), .int .u64 (bi p.t.m), .int .u64 p.u.lo, .int .u64 p.u.hi, .int .i64 p.s.lo, .int .i64 p.s.hi], .agg #[.int .u64 (bi q.t.v), .int .u64 (bi q.t.m), .int .u64 q.u.lo, .int .u64 q.u.hi, .int .i64 q.s.lo, .int .i64 q.s.hi], .bool ok]) (lsN op taken) (#[.agg #[.int .u64 (bi a.t.v), .int .u64 (bi a.t.m), .int .u64 a.u.lo, .int .u64 a.u.hi, .int .i64 a.s.lo, .int .i64 a.s.hi], .agg #[.int .u64 (bi b.t.v), .int .u64 (bi b.t.m), .int .u64 b.u.lo, .int .u64 b.u.hi, .int .i64 b.s.lo, .int .i64 b.s.hi]] ++ (lsC op taken g10_2_0 g10_2_1 g10_2_2 g10_2_3 g10_2_4 g10_2_5 g10_2_6 g10_2_7 g10_2_8 g10_2_9 g10_2_10 g10_2_11)) (fun w M => (by have X := M.back; clear M; have Y := ls_call2 op taken hop a b ha hb p q ok hls g10_2_0 g10_2_1 g10_2_2 g10_2_3 g10_2_4 g10_2_5 g10_2_6 g10_2_7 g10_2_8 g10_2_9 g10_2_10 g10_2_11 w X; exact Y)) ?_ (hy := by intro w M; have hr := run_ls op taken hop; go_simp) (hG := (fun z h => h.front.tail))
      try simp only [Act.put, ptA, ptB, ptC]
      refine Gw.tw 6 (.tuple #[.agg #[.int .u64 (bi p.t.v), .int .u64 (bi p.t.m), .int .u64 p.u.lo, .int .u64 p.u.hi, .int .i64 p.s.lo, .int .i64 p.s.hi], .agg #[.int .u64 (bi q.t.v), .int .u64 (bi q.t.m), .int .u64 q.u.lo, .int .u64 q.u.hi, .int .i64 q.s.lo, .int .i64 q.s.hi], .bool ok]) ?_ (hG := (fun z h => h.front.tail))
      try simp only [Act.put, ptA, ptB, ptC]
      refine Gw.tw 7 (.agg #[.int .u64 (bi p.t.v), .int .u64 (bi p.t.m), .int .u64 p.u.lo, .int .u64 p.u.hi, .int .i64 p.s.lo, .int .i64 p.s.hi]) ?_ (hG := (fun z h => h.front.tail))
      try simp only [Act.put, ptA, ptB, ptC]
      refine Gw.tw 8 (.agg #[.int .u64 (bi q.t.v), .int .u64 (bi q.t.m), .int .u64 q.u.lo, .int .u64 q.u.hi, .int .i64 q.s.lo, .int .i64 q.s.hi]) ?_ (hG := (fun z h => h.front.tail))
      try simp only [Act.put, ptA, ptB, ptC]
      refine Gw.tw 9 (.bool ok) ?_ (hG := (fun z h => h.front.tail))
      try simp only [Act.put, ptA, ptB, ptC]
      refine Gw.ts 10 rfl (by kernel_rfl) ?_
      intro w M K' hK
      go_simp
      have M1 := M.alloc (.cells #[.int .u64 0, .int .u64 0, .int .u64 0, .int .u64 0, .int .i64 0, .int .i64 0] 30)
      generalize w.heap.size = d10_10 at M1 ⊢
      refine hK.out _ _ _ Gw.Mem.stays (fun _ z h => h.tail) (fun z h => h.tail.front.tail) M1 ?_
      clear hK K' M1 M w
      try simp only [Act.put, ptA, ptB, ptC]
      refine Gw.ts 12 rfl (by kernel_rfl) ?_
      intro w M K' hK
      have c := M.c6 0
      have f := M.f6 0
      go_simp
      refine hK.out _ _ _ Gw.Mem.stays (fun h => by cases h) (fun z h => h.tail.front.tail) ((((((M.set 0 0 _).set 0 1 _).set 0 2 _).set 0 3 _).set 0 4 _).set 0 5 _) ?_
      clear hK K' c f M w
      refine Gw.ts 13 rfl (by kernel_rfl) ?_
      intro w M K' hK
      have c := M.c6 1
      have f := M.f6 1
      go_simp
      refine hK.out _ _ _ Gw.Mem.stays (fun h => by cases h) (fun z h => h.tail.front.tail) ((((((M.set 1 0 _).set 1 1 _).set 1 2 _).set 1 3 _).set 1 4 _).set 1 5 _) ?_
      clear hK K' c f M w
      refine Gw.tw 14 (.bool ok) ?_ (hG := (fun z h => h.tail.front.tail))
      try simp only [Act.put, ptA, ptB, ptC]
      exact Gw.td (by kernel_rfl) (fun z M => HK.out _ _ _ _ _ _ _ _ _ _ _ _ z (((show Gw.Mem w0 ([(d10_10, .cells #[.int .u64 (bi p.t.v), .int .u64 (bi p.t.m), .int .u64 p.u.lo, .int .u64 p.u.hi, .int .i64 p.s.lo, .int .i64 p.s.hi] 30), (d10_11, .cells #[.int .u64 (bi q.t.v), .int .u64 (bi q.t.m), .int .u64 q.u.lo, .int .u64 q.u.hi, .int .i64 q.s.lo, .int .i64 q.s.hi] 30), (d1_3, .cells #[.int .u64 0, .int .u64 0, .int .u64 0, .int .u64 0, .int .i64 0, .int .i64 0] 30), (d1_2, .cells #[.int .u64 0, .int .u64 0, .int .u64 0, .int .u64 0, .int .i64 0, .int .i64 0] 30), (d1_1, .cells #[.int .u64 (bi b.t.v), .int .u64 (bi b.t.m), .int .u64 b.u.lo, .int .u64 b.u.hi, .int .i64 b.s.lo, .int .i64 b.s.hi] 30), (d1_0, .cells #[.int .u64 (bi a.t.v), .int .u64 (bi a.t.m), .int .u64 a.u.lo, .int .u64 a.u.hi, .int .i64 a.s.lo, .int .i64 a.s.hi] 30)] ++ JL g10_2_0 g10_2_1 g10_2_2 g10_2_3 g10_2_4 g10_2_5 g10_2_6 g10_2_7 g10_2_8 g10_2_9 g10_2_10 g10_2_11) z from M).front).perm (List.Perm.swap _ _ _))) _
    · intro w M K' hK
      go_simp
      have M1 := M.alloc (.cells #[.int .u64 0, .int .u64 0, .int .u64 0, .int .u64 0, .int .i64 0, .int .i64 0] 30)
      generalize w.heap.size = d10_10 at M1 ⊢
      refine hK.out _ _ _ Gw.Mem.stays (fun _ z h => h.tail) (fun z h => h.tail.tail) M1 ?_
      clear hK K' M1 M w
      try simp only [Act.put, ptA, ptB, ptC]
      refine Gw.ts 2 rfl (by kernel_rfl) ?_
      intro w M K' hK
      go_simp
      refine (lesson5 op taken hop w).mono ?_
      rintro e w1 ⟨g10_2_0, g10_2_1, g10_2_2, g10_2_3, g10_2_4, g10_2_5, g10_2_6, g10_2_7, g10_2_8, g10_2_9, g10_2_10, g10_2_11, rfl, N⟩
      refine hK.out _ _ _ Gw.Mem.stays (fun _ z h => h.front) (fun z h => h.front.tail.tail) (M.beside N) ?_
      clear hK K' N M w1 w
      try simp only [Act.put, ptA, ptB, ptC]
      refine Gw.tk 5 (.tuple #[.agg #[.int .u64 (bi p.t.v), .int .u64 (bi p.t.m), .int .u64 p.u.lo, .int .u64 p.u.hi, .int .i64 p.s.lo, .int .i64 p.s.hi], .agg #[.int .u64 (bi q.t.v), .int .u64 (bi q.t.m), .int .u64 q.u.lo, .int .u64 q.u.hi, .int .i64 q.s.lo, .int .i64 q.s.hi], .bool ok]) (lsN op taken) (#[.agg #[.int .u64 (bi a.t.v), .int .u64 (bi a.t.m), .int .u64 a.u.lo, .int .u64 a.u.hi, .int .i64 a.s.lo, .int .i64 a.s.hi], .agg #[.int .u64 (bi b.t.v), .int .u64 (bi b.t.m), .int .u64 b.u.lo, .int .u64 b.u.hi, .int .i64 b.s.lo, .int .i64 b.s.hi]] ++ (lsC op taken g10_2_0 g10_2_1 g10_2_2 g10_2_3 g10_2_4 g10_2_5 g10_2_6 g10_2_7 g10_2_8 g10_2_9 g10_2_10 g10_2_11)) (fun w M => (by have X := M.back; clear M; have Y := ls_call2 op taken hop a b ha hb p q ok hls g10_2_0 g10_2_1 g10_2_2 g10_2_3 g10_2_4 g10_2_5 g10_2_6 g10_2_7 g10_2_8 g10_2_9 g10_2_10 g10_2_11 w X; exact Y)) ?_ (hy := by intro w M; have hr := run_ls op taken hop; go_simp) (hG := (fun z h => h.front.tail.tail))
      try simp only [Act.put, ptA, ptB, ptC]
      refine Gw.tw 6 (.tuple #[.agg #[.int .u64 (bi p.t.v), .int .u64 (bi p.t.m), .int .u64 p.u.lo, .int .u64 p.u.hi, .int .i64 p.s.lo, .int .i64 p.s.hi], .agg #[.int .u64 (bi q.t.v), .int .u64 (bi q.t.m), .int .u64 q.u.lo, .int .u64 q.u.hi, .int .i64 q.s.lo, .int .i64 q.s.hi], .bool ok]) ?_ (hG := (fun z h => h.front.tail.tail))
      try simp only [Act.put, ptA, ptB, ptC]
      refine Gw.tw 7 (.agg #[.int .u64 (bi p.t.v), .int .u64 (bi p.t.m), .int .u64 p.u.lo, .int .u64 p.u.hi, .int .i64 p.s.lo, .int .i64 p.s.hi]) ?_ (hG := (fun z h => h.front.tail.tail))
      try simp only [Act.put, ptA, ptB, ptC]
      refine Gw.tw 8 (.agg #[.int .u64 (bi q.t.v), .int .u64 (bi q.t.m), .int .u64 q.u.lo, .int .u64 q.u.hi, .int .i64 q.s.lo, .int .i64 q.s.hi]) ?_ (hG := (fun z h => h.front.tail.tail))
      try simp only [Act.put, ptA, ptB, ptC]
      refine Gw.tw 9 (.bool ok) ?_ (hG := (fun z h => h.front.tail.tail))
      try simp only [Act.put, ptA, ptB, ptC]
      refine Gw.ts 12 rfl (by kernel_rfl) ?_
      intro w M K' hK
      have c := M.c6 0
      have f := M.f6 0
      go_simp
      refine hK.out _ _ _ Gw.Mem.stays (fun h => by cases h) (fun z h => h.front.tail.tail) ((((((M.set 0 0 _).set 0 1 _).set 0 2 _).set 0 3 _).set 0 4 _).set 0 5 _) ?_
      clear hK K' c f M w
      refine Gw.ts 13 rfl (by kernel_rfl) ?_
      intro w M K' hK
      have c := M.c6 1
      have f := M.f6 1
      go_simp
      refine hK.out _ _ _ Gw.Mem.stays (fun h => by cases h) (fun z h => h.front.tail.tail) ((((((M.set 1 0 _).set 1 1 _).set 1 2 _).set 1 3 _).set 1 4 _).set 1 5 _) ?_
      clear hK K' c f M w
      refine Gw.tw 14 (.bool ok) ?_ (hG := (fun z h => h.front.tail.tail))
      try simp only [Act.put, ptA, ptB, ptC]
      exact Gw.td (by kernel_rfl) (fun z M => HK.out _ _ _ _ _ _ _ _ _ _ _ _ z (((show Gw.Mem w0 ([(d10_10, .cells #[.int .u64 (bi p.t.v), .int .u64 (bi p.t.m), .int .u64 p.u.lo, .int .u64 p.u.hi, .int .i64 p.s.lo, .int .i64 p.s.hi] 30), (d10_11, .cells #[.int .u64 (bi q.t.v), .int .u64 (bi q.t.m), .int .u64 q.u.lo, .int .u64 q.u.hi, .int .i64 q.s.lo, .int .i64 q.s.hi] 30), (d1_3, .cells #[.int .u64 0, .int .u64 0, .int .u64 0, .int .u64 0, .int .i64 0, .int .i64 0] 30), (d1_2, .cells #[.int .u64 0, .int .u64 0, .int .u64 0, .int .u64 0, .int .i64 0, .int .i64 0] 30), (d1_1, .cells #[.int .u64 (bi b.t.v), .int .u64 (bi b.t.m), .int .u64 b.u.lo, .int .u64 b.u.hi, .int .i64 b.s.lo, .int .i64 b.s.hi] 30), (d1_0, .cells #[.int .u64 (bi a.t.v), .int .u64 (bi a.t.m), .int .u64 a.u.lo, .int .u64 a.u.hi, .int .i64 a.s.lo, .int .i64 a.s.hi] 30)] ++ JL g10_2_0 g10_2_1 g10_2_2 g10_2_3 g10_2_4 g10_2_5 g10_2_6 g10_2_7 g10_2_8 g10_2_9 g10_2_10 g10_2_11) z from M).front).perm (List.Perm.swap _ _ _))) _
noncomputable def br5_r10C : Code := (Tryz.f34.body.bind (Rg.findR 10)).getD .skip
set_option maxHeartbeats 4000000 in
theorem br5_r10 (op : Int) (wide taken : Bool) (a b : C) (ha : mayC a) (hb : mayC b) (p q : C) (ok : Bool) (hls : lsR op taken a b = ((p, q), ok)) (hop : Wd.jumpOk op = true) (hal : (aloneC a && aloneC b) = false) {w0 : World}  {K : Act → World → Prop} {Q0 : Exit → Act → World → Prop} {d10_11 d10_10 d1_3 d1_2 d1_1 d1_0 : Nat} {u0 u1 u2 u3 u4 u5 u6 u7 u8 u9 u10 u11 u12 u13 u14 u15 u16 u17 u18 u20 u21 u22 u23 u24 u25 u26 u27 u28 u29 u30 u31 u32 u33 u34 u35 u36 u37 u38 u39 u40 u41 u42 u43 u44 u45 u46 u47 u48 u49 u50 u51 u52 u53 u54 u55 u56 u57 u58 u59 u60 u61 u62 u63 u64 u65 u66 u67 u68 u69 u70 u71 u72 u73 u74 u75 u76 u77 u78 u79 u80 u81 u82 u83 u84 u85 u86 u87 u88 u89 u90 u91 u92 u93 u94 u95 u96 u97 u98 : Value}
    (hQ : ∀ c a d v w, Q0 (.panic c) (Act.put a d v) w → Q0 (.panic c) a w)
    (hK : ∀ (t71 : Value) (z : World), Gw.Mem w0 [(d10_11, .cells #[.int .u64 (bi q.t.v), .int .u64 (bi q.t.m), .int .u64 q.u.lo, .int .u64 q.u.hi, .int .i64 q.s.lo, .int .i64 q.s.hi] 30), (d10_10, .cells #[.int .u64 (bi p.t.v), .int .u64 (bi p.t.m), .int .u64 p.u.lo, .int .u64 p.u.hi, .int .i64 p.s.lo, .int .i64 p.s.hi] 30), (d1_3, .cells #[.int .u64 0, .int .u64 0, .int .u64 0, .int .u64 0, .int .i64 0, .int .i64 0] 30), (d1_2, .cells #[.int .u64 0, .int .u64 0, .int .u64 0, .int .u64 0, .int .i64 0, .int .i64 0] 30), (d1_1, .cells #[.int .u64 (bi b.t.v), .int .u64 (bi b.t.m), .int .u64 b.u.lo, .int .u64 b.u.hi, .int .i64 b.s.lo, .int .i64 b.s.hi] 30), (d1_0, .cells #[.int .u64 (bi a.t.v), .int .u64 (bi a.t.m), .int .u64 a.u.lo, .int .u64 a.u.hi, .int .i64 a.s.lo, .int .i64 a.s.hi] 30)] z → K ⟨#[u0, u1, u2, u3, u4, u5, u6, u7, u8, u9, u10, u11, u12, u13, u14, u15, u16, u17, u18, .bool ok, u20, u21, u22, u23, u24, u25, u26, u27, u28, u29, u30, u31, u32, u33, u34, u35, u36, u37, u38, u39, u40, u41, u42, u43, u44, u45, u46, u47, u48, u49, u50, u51, u52, u53, u54, u55, u56, u57, u58, u59, u60, u61, u62, u63, u64, u65, u66, u67, u68, u69, u70, t71, .bool (!ok), u73, u74, u75, u76, u77, u78, u79, u80, u81, u82, u83, u84, u85, u86, u87, u88, u89, u90, u91, u92, u93, u94, u95, u96, u97, u98], []⟩ z) (wy : World) (M : Gw.Mem w0 [(d10_11, .cells #[.int .u64 (bi q.t.v), .int .u64 (bi q.t.m), .int .u64 q.u.lo, .int .u64 q.u.hi, .int .i64 q.s.lo, .int .i64 q.s.hi] 30), (d10_10, .cells #[.int .u64 (bi p.t.v), .int .u64 (bi p.t.m), .int .u64 p.u.lo, .int .u64 p.u.hi, .int .i64 p.s.lo, .int .i64 p.s.hi] 30), (d1_3, .cells #[.int .u64 0, .int .u64 0, .int .u64 0, .int .u64 0, .int .i64 0, .int .i64 0] 30), (d1_2, .cells #[.int .u64 0, .int .u64 0, .int .u64 0, .int .u64 0, .int .i64 0, .int .i64 0] 30), (d1_1, .cells #[.int .u64 (bi b.t.v), .int .u64 (bi b.t.m), .int .u64 b.u.lo, .int .u64 b.u.hi, .int .i64 b.s.lo, .int .i64 b.s.hi] 30), (d1_0, .cells #[.int .u64 (bi a.t.v), .int .u64 (bi a.t.m), .int .u64 a.u.lo, .int .u64 a.u.hi, .int .i64 a.s.lo, .int .i64 a.s.hi] 30)] wy) :
    br5_r10C.wp Tryz.prog (Exit.then K Q0) ⟨#[u0, u1, u2, u3, u4, u5, u6, u7, u8, u9, u10, u11, u12, u13, u14, u15, u16, u17, u18, .bool ok, u20, u21, u22, u23, u24, u25, u26, u27, u28, u29, u30, u31, u32, u33, u34, u35, u36, u37, u38, u39, u40, u41, u42, u43, u44, u45, u46, u47, u48, u49, u50, u51, u52, u53, u54, u55, u56, u57, u58, u59, u60, u61, u62, u63, u64, u65, u66, u67, u68, u69, u70, u71, u72, u73, u74, u75, u76, u77, u78, u79, u80, u81, u82, u83, u84, u85, u86, u87, u88, u89, u90, u91, u92, u93, u94, u95, u96, u97, u98], []⟩ wy := by
  have HK := Lib.hid hK
  clear hK
  conv => arg 2; whnf
  refine Gw.line _ M ?_
  clear M wy
  refine Gw.sw (.bool ok) ?_
  try simp only [Act.put, ptA, ptB, ptC]
  refine Gw.sw (.bool (!ok)) ?_
  try simp only [Act.put, ptA, ptB, ptC]
  exact fun z M => HK.out _ z M
noncomputable def br5_r11C : Code := (Tryz.f34.body.bind (Rg.findR 11)).getD .skip
set_option maxHeartbeats 4000000 in
theorem br5_r11 (op : Int) (wide taken : Bool) (a b : C) (ha : mayC a) (hb : mayC b) (p q : C) (ok : Bool) (hls : lsR op taken a b = ((p, q), ok)) (hop : Wd.jumpOk op = true) (hal : (aloneC a && aloneC b) = false) {w0 : World}  {K : Act → World → Prop} {Q0 : Exit → Act → World → Prop} {d10_11 d10_10 d1_3 d1_2 d1_1 d1_0 : Nat} {u0 u1 u2 u3 u4 u5 u6 u7 u8 u9 u12 u13 u14 u15 u16 u19 u20 u21 u22 u23 u24 u25 u26 u27 u28 u29 u30 u31 u32 u33 u34 u35 u36 u37 u38 u39 u40 u41 u42 u43 u44 u45 u46 u47 u48 u49 u50 u51 u52 u53 u54 u55 u56 u57 u58 u59 u60 u61 u62 u63 u64 u65 u66 u67 u68 u69 u70 u71 u72 u73 u74 u75 u76 u77 u78 u79 u80 u81 u82 u83 u84 u85 u86 u87 u88 u89 u90 u91 u92 u93 u94 u95 u96 u97 u98 : Value}
    (hQ : ∀ c a d v w, Q0 (.panic c) (Act.put a d v) w → Q0 (.panic c) a w)
    (hK : ∀ (t73 t74 t75 t76 t77 t78 : Value) (z : World), Gw.Mem w0 [(d10_11, .cells #[.int .u64 (bi q.t.v), .int .u64 (bi q.t.m), .int .u64 q.u.lo, .int .u64 q.u.hi, .int .i64 q.s.lo, .int .i64 q.s.hi] 30), (d10_10, .cells #[.int .u64 (bi p.t.v), .int .u64 (bi p.t.m), .int .u64 p.u.lo, .int .u64 p.u.hi, .int .i64 p.s.lo, .int .i64 p.s.hi] 30), (d1_3, .cells #[.int .u64 (bi (selC false q).t.v), .int .u64 (bi (selC false q).t.m), .int .u64 ((selC false q).u.lo), .int .u64 ((selC false q).u.hi), .int .i64 ((selC false q).s.lo), .int .i64 ((selC false q).s.hi)] 30), (d1_2, .cells #[.int .u64 (bi (selC false p).t.v), .int .u64 (bi (selC false p).t.m), .int .u64 ((selC false p).u.lo), .int .u64 ((selC false p).u.hi), .int .i64 ((selC false p).s.lo), .int .i64 ((selC false p).s.hi)] 30), (d1_1, .cells #[.int .u64 (bi b.t.v), .int .u64 (bi b.t.m), .int .u64 b.u.lo, .int .u64 b.u.hi, .int .i64 b.s.lo, .int .i64 b.s.hi] 30), (d1_0, .cells #[.int .u64 (bi a.t.v), .int .u64 (bi a.t.m), .int .u64 a.u.lo, .int .u64 a.u.hi, .int .i64 a.s.lo, .int .i64 a.s.hi] 30)] z → K ⟨#[u0, u1, u2, u3, u4, u5, u6, u7, u8, u9, .pointer (some ⟨d1_2, 0, none⟩), .pointer (some ⟨d1_3, 0, none⟩), .bool false, u13, u14, u15, u16, .pointer (some ⟨d10_10, 0, none⟩), .pointer (some ⟨d10_11, 0, none⟩), u19, u20, u21, u22, u23, u24, u25, u26, u27, u28, u29, u30, u31, u32, u33, u34, u35, u36, u37, u38, u39, u40, u41, u42, u43, u44, u45, u46, u47, u48, u49, u50, u51, u52, u53, u54, u55, u56, u57, u58, u59, u60, u61, u62, u63, u64, u65, u66, u67, u68, u69, u70, u71, u72, t73, t74, t75, t76, t77, t78, u79, u80, u81, u82, u83, u84, u85, u86, u87, u88, u89, u90, u91, u92, u93, u94, u95, u96, u97, u98], []⟩ z) (wy : World) (M : Gw.Mem w0 [(d10_11, .cells #[.int .u64 (bi q.t.v), .int .u64 (bi q.t.m), .int .u64 q.u.lo, .int .u64 q.u.hi, .int .i64 q.s.lo, .int .i64 q.s.hi] 30), (d10_10, .cells #[.int .u64 (bi p.t.v), .int .u64 (bi p.t.m), .int .u64 p.u.lo, .int .u64 p.u.hi, .int .i64 p.s.lo, .int .i64 p.s.hi] 30), (d1_3, .cells #[.int .u64 0, .int .u64 0, .int .u64 0, .int .u64 0, .int .i64 0, .int .i64 0] 30), (d1_2, .cells #[.int .u64 0, .int .u64 0, .int .u64 0, .int .u64 0, .int .i64 0, .int .i64 0] 30), (d1_1, .cells #[.int .u64 (bi b.t.v), .int .u64 (bi b.t.m), .int .u64 b.u.lo, .int .u64 b.u.hi, .int .i64 b.s.lo, .int .i64 b.s.hi] 30), (d1_0, .cells #[.int .u64 (bi a.t.v), .int .u64 (bi a.t.m), .int .u64 a.u.lo, .int .u64 a.u.hi, .int .i64 a.s.lo, .int .i64 a.s.hi] 30)] wy) :
    br5_r11C.wp Tryz.prog (Exit.then K Q0) ⟨#[u0, u1, u2, u3, u4, u5, u6, u7, u8, u9, .pointer (some ⟨d1_2, 0, none⟩), .pointer (some ⟨d1_3, 0, none⟩), u12, u13, u14, u15, u16, .pointer (some ⟨d10_10, 0, none⟩), .pointer (some ⟨d10_11, 0, none⟩), u19, u20, u21, u22, u23, u24, u25, u26, u27, u28, u29, u30, u31, u32, u33, u34, u35, u36, u37, u38, u39, u40, u41, u42, u43, u44, u45, u46, u47, u48, u49, u50, u51, u52, u53, u54, u55, u56, u57, u58, u59, u60, u61, u62, u63, u64, u65, u66, u67, u68, u69, u70, u71, u72, u73, u74, u75, u76, u77, u78, u79, u80, u81, u82, u83, u84, u85, u86, u87, u88, u89, u90, u91, u92, u93, u94, u95, u96, u97, u98], []⟩ wy := by
  have HK := Lib.hid hK
  clear hK
  conv => arg 2; whnf
  refine Gw.line _ M ?_
  clear M wy
  refine Gw.sq (.agg #[.int .u64 (bi p.t.v), .int .u64 (bi p.t.m), .int .u64 p.u.lo, .int .u64 p.u.hi, .int .i64 p.s.lo, .int .i64 p.s.hi]) ?_ ?_
  · intro w M; have c := M.c6 1; go_simp
  try simp only [Act.put, ptA, ptB, ptC]
  refine Gw.sq (.agg #[.int .u64 (bi q.t.v), .int .u64 (bi q.t.m), .int .u64 q.u.lo, .int .u64 q.u.hi, .int .i64 q.s.lo, .int .i64 q.s.hi]) ?_ ?_
  · intro w M; have c := M.c6 0; go_simp
  try simp only [Act.put, ptA, ptB, ptC]
  refine Gw.sk (.tuple #[.agg #[.int .u64 (bi (selC false p).t.v), .int .u64 (bi (selC false p).t.m), .int .u64 ((selC false p).u.lo), .int .u64 ((selC false p).u.hi), .int .i64 ((selC false p).s.lo), .int .i64 ((selC false p).s.hi)], .agg #[.int .u64 (bi (selC false q).t.v), .int .u64 (bi (selC false q).t.m), .int .u64 ((selC false q).u.lo), .int .u64 ((selC false q).u.hi), .int .i64 ((selC false q).s.lo), .int .i64 ((selC false q).s.hi)], .bool false]) 87 #[.bool false, .agg #[.int .u64 (bi p.t.v), .int .u64 (bi p.t.m), .int .u64 p.u.lo, .int .u64 p.u.hi, .int .i64 p.s.lo, .int .i64 p.s.hi], .agg #[.int .u64 (bi q.t.v), .int .u64 (bi q.t.m), .int .u64 q.u.lo, .int .u64 q.u.hi, .int .i64 q.s.lo, .int .i64 q.s.hi]] (fun w M => where5 false p q w) ?_
  try simp only [Act.put, ptA, ptB, ptC]
  refine Gw.sw (.agg #[.int .u64 (bi (selC false p).t.v), .int .u64 (bi (selC false p).t.m), .int .u64 ((selC false p).u.lo), .int .u64 ((selC false p).u.hi), .int .i64 ((selC false p).s.lo), .int .i64 ((selC false p).s.hi)]) ?_
  try simp only [Act.put, ptA, ptB, ptC]
  refine Gw.sw (.agg #[.int .u64 (bi (selC false q).t.v), .int .u64 (bi (selC false q).t.m), .int .u64 ((selC false q).u.lo), .int .u64 ((selC false q).u.hi), .int .i64 ((selC false q).s.lo), .int .i64 ((selC false q).s.hi)]) ?_
  try simp only [Act.put, ptA, ptB, ptC]
  refine Gw.sw (.bool false) ?_
  try simp only [Act.put, ptA, ptB, ptC]
  refine Gw.ss ?_
  intro w M K' hK
  have c := M.c6 3
  have f := M.f6 3
  go_simp
  refine hK.out _ _ _ ((((((M.set 3 0 _).set 3 1 _).set 3 2 _).set 3 3 _).set 3 4 _).set 3 5 _) ?_
  clear hK K' c f M w
  refine Gw.ss ?_
  intro w M K' hK
  have c := M.c6 2
  have f := M.f6 2
  go_simp
  refine hK.out _ _ _ ((((((M.set 2 0 _).set 2 1 _).set 2 2 _).set 2 3 _).set 2 4 _).set 2 5 _) ?_
  clear hK K' c f M w
  refine Gw.sw (.bool false) ?_
  try simp only [Act.put, ptA, ptB, ptC]
  exact fun z M => HK.out _ _ _ _ _ _ z M
noncomputable def br5_r12C : Code := (Tryz.f34.body.bind (Rg.findR 12)).getD .skip
set_option maxHeartbeats 4000000 in
theorem br5_r12 (op : Int) (wide taken : Bool) (a b : C) (ha : mayC a) (hb : mayC b) (p q : C) (ok : Bool) (hls : lsR op taken a b = ((p, q), ok)) (hop : Wd.jumpOk op = true) (hal : (aloneC a && aloneC b) = false) (hok : ok = true) {w0 : World}  {K : Act → World → Prop} {Q0 : Exit → Act → World → Prop} {d10_11 d10_10 d1_3 d1_2 d1_1 d1_0 : Nat} {u0 u1 u2 u3 u4 u5 u6 u7 u8 u9 u10 u11 u12 u13 u14 u15 u16 u18 u19 u20 u21 u22 u23 u24 u25 u26 u27 u28 u29 u30 u31 u32 u33 u34 u35 u36 u37 u38 u39 u40 u41 u42 u43 u44 u45 u46 u47 u48 u49 u50 u51 u52 u53 u54 u55 u56 u57 u58 u59 u60 u61 u62 u63 u64 u65 u66 u67 u68 u69 u70 u71 u72 u73 u74 u75 u76 u77 u78 u79 u80 u81 u82 u83 u84 u85 u86 u87 u88 u89 u90 u91 u92 u93 u94 u95 u96 u97 u98 : Value}
    (hQ : ∀ c a d v w, Q0 (.panic c) (Act.put a d v) w → Q0 (.panic c) a w)
    (hK : ∀ (t79 t80 t81 t82 t83 : Value) (z : World), Gw.Mem w0 [(d10_11, .cells #[.int .u64 (bi q.t.v), .int .u64 (bi q.t.m), .int .u64 q.u.lo, .int .u64 q.u.hi, .int .i64 q.s.lo, .int .i64 q.s.hi] 30), (d10_10, .cells #[.int .u64 (bi ((normC p).getD zeroC).t.v), .int .u64 (bi ((normC p).getD zeroC).t.m), .int .u64 (((normC p).getD zeroC).u.lo), .int .u64 (((normC p).getD zeroC).u.hi), .int .i64 (((normC p).getD zeroC).s.lo), .int .i64 (((normC p).getD zeroC).s.hi)] 30), (d1_3, .cells #[.int .u64 0, .int .u64 0, .int .u64 0, .int .u64 0, .int .i64 0, .int .i64 0] 30), (d1_2, .cells #[.int .u64 0, .int .u64 0, .int .u64 0, .int .u64 0, .int .i64 0, .int .i64 0] 30), (d1_1, .cells #[.int .u64 (bi b.t.v), .int .u64 (bi b.t.m), .int .u64 b.u.lo, .int .u64 b.u.hi, .int .i64 b.s.lo, .int .i64 b.s.hi] 30), (d1_0, .cells #[.int .u64 (bi a.t.v), .int .u64 (bi a.t.m), .int .u64 a.u.lo, .int .u64 a.u.hi, .int .i64 a.s.lo, .int .i64 a.s.hi] 30)] z → K ⟨#[u0, u1, u2, u3, u4, u5, u6, u7, u8, u9, u10, u11, u12, u13, u14, u15, u16, .pointer (some ⟨d10_10, 0, none⟩), u18, u19, .bool ((normC p).isSome), u21, u22, u23, u24, u25, u26, u27, u28, u29, u30, u31, u32, u33, u34, u35, u36, u37, u38, u39, u40, u41, u42, u43, u44, u45, u46, u47, u48, u49, u50, u51, u52, u53, u54, u55, u56, u57, u58, u59, u60, u61, u62, u63, u64, u65, u66, u67, u68, u69, u70, u71, u72, u73, u74, u75, u76, u77, u78, t79, t80, t81, t82, t83, u84, u85, u86, u87, u88, u89, u90, u91, u92, u93, u94, u95, u96, u97, u98], []⟩ z) (wy : World) (M : Gw.Mem w0 [(d10_11, .cells #[.int .u64 (bi q.t.v), .int .u64 (bi q.t.m), .int .u64 q.u.lo, .int .u64 q.u.hi, .int .i64 q.s.lo, .int .i64 q.s.hi] 30), (d10_10, .cells #[.int .u64 (bi p.t.v), .int .u64 (bi p.t.m), .int .u64 p.u.lo, .int .u64 p.u.hi, .int .i64 p.s.lo, .int .i64 p.s.hi] 30), (d1_3, .cells #[.int .u64 0, .int .u64 0, .int .u64 0, .int .u64 0, .int .i64 0, .int .i64 0] 30), (d1_2, .cells #[.int .u64 0, .int .u64 0, .int .u64 0, .int .u64 0, .int .i64 0, .int .i64 0] 30), (d1_1, .cells #[.int .u64 (bi b.t.v), .int .u64 (bi b.t.m), .int .u64 b.u.lo, .int .u64 b.u.hi, .int .i64 b.s.lo, .int .i64 b.s.hi] 30), (d1_0, .cells #[.int .u64 (bi a.t.v), .int .u64 (bi a.t.m), .int .u64 a.u.lo, .int .u64 a.u.hi, .int .i64 a.s.lo, .int .i64 a.s.hi] 30)] wy) :
    br5_r12C.wp Tryz.prog (Exit.then K Q0) ⟨#[u0, u1, u2, u3, u4, u5, u6, u7, u8, u9, u10, u11, u12, u13, u14, u15, u16, .pointer (some ⟨d10_10, 0, none⟩), u18, u19, u20, u21, u22, u23, u24, u25, u26, u27, u28, u29, u30, u31, u32, u33, u34, u35, u36, u37, u38, u39, u40, u41, u42, u43, u44, u45, u46, u47, u48, u49, u50, u51, u52, u53, u54, u55, u56, u57, u58, u59, u60, u61, u62, u63, u64, u65, u66, u67, u68, u69, u70, u71, u72, u73, u74, u75, u76, u77, u78, u79, u80, u81, u82, u83, u84, u85, u86, u87, u88, u89, u90, u91, u92, u93, u94, u95, u96, u97, u98], []⟩ wy := by
  have HK := Lib.hid hK
  clear hK
  conv => arg 2; whnf
  refine Gw.line _ M ?_
  clear M wy
  refine Gw.sq (.agg #[.int .u64 (bi p.t.v), .int .u64 (bi p.t.m), .int .u64 p.u.lo, .int .u64 p.u.hi, .int .i64 p.s.lo, .int .i64 p.s.hi]) ?_ ?_
  · intro w M; have c := M.c6 1; go_simp
  try simp only [Act.put, ptA, ptB, ptC]
  refine Gw.sk (.tuple #[.agg #[.int .u64 (bi ((normC p).getD zeroC).t.v), .int .u64 (bi ((normC p).getD zeroC).t.m), .int .u64 (((normC p).getD zeroC).u.lo), .int .u64 (((normC p).getD zeroC).u.hi), .int .i64 (((normC p).getD zeroC).s.lo), .int .i64 (((normC p).getD zeroC).s.hi)], .bool ((normC p).isSome)]) 15 #[.agg #[.int .u64 (bi p.t.v), .int .u64 (bi p.t.m), .int .u64 p.u.lo, .int .u64 p.u.hi, .int .i64 p.s.lo, .int .i64 p.s.hi]] (fun w M => norm5 p (ls_may hop ha hb hal hls hok).1 w) ?_
  try simp only [Act.put, ptA, ptB, ptC]
  refine Gw.sw (.tuple #[.agg #[.int .u64 (bi ((normC p).getD zeroC).t.v), .int .u64 (bi ((normC p).getD zeroC).t.m), .int .u64 (((normC p).getD zeroC).u.lo), .int .u64 (((normC p).getD zeroC).u.hi), .int .i64 (((normC p).getD zeroC).s.lo), .int .i64 (((normC p).getD zeroC).s.hi)], .bool ((normC p).isSome)]) ?_
  try simp only [Act.put, ptA, ptB, ptC]
  refine Gw.sw (.agg #[.int .u64 (bi ((normC p).getD zeroC).t.v), .int .u64 (bi ((normC p).getD zeroC).t.m), .int .u64 (((normC p).getD zeroC).u.lo), .int .u64 (((normC p).getD zeroC).u.hi), .int .i64 (((normC p).getD zeroC).s.lo), .int .i64 (((normC p).getD zeroC).s.hi)]) ?_
  try simp only [Act.put, ptA, ptB, ptC]
  refine Gw.sw (.bool ((normC p).isSome)) ?_
  try simp only [Act.put, ptA, ptB, ptC]
  refine Gw.ss ?_
  intro w M K' hK
  have c := M.c6 1
  have f := M.f6 1
  go_simp
  refine hK.out _ _ _ ((((((M.set 1 0 _).set 1 1 _).set 1 2 _).set 1 3 _).set 1 4 _).set 1 5 _) ?_
  clear hK K' c f M w
  refine Gw.sw (.bool ((normC p).isSome)) ?_
  try simp only [Act.put, ptA, ptB, ptC]
  exact fun z M => HK.out _ _ _ _ _ z M
noncomputable def br5_r13C : Code := (Tryz.f34.body.bind (Rg.findR 13)).getD .skip
set_option maxHeartbeats 4000000 in
theorem br5_r13 (op : Int) (wide taken : Bool) (a b : C) (ha : mayC a) (hb : mayC b) (p q : C) (ok : Bool) (hls : lsR op taken a b = ((p, q), ok)) (hop : Wd.jumpOk op = true) (hal : (aloneC a && aloneC b) = false) (hok : ok = true) {w0 : World}  {K : Act → World → Prop} {Q0 : Exit → Act → World → Prop} {d10_11 d10_10 d1_3 d1_2 d1_1 d1_0 : Nat} {u0 u1 u2 u3 u4 u5 u6 u7 u8 u9 u10 u11 u12 u13 u14 u15 u16 u17 u19 u20 u21 u22 u23 u24 u25 u26 u27 u28 u29 u30 u31 u32 u33 u34 u35 u36 u37 u38 u39 u40 u41 u42 u43 u44 u45 u46 u47 u48 u49 u50 u51 u52 u53 u54 u55 u56 u57 u58 u59 u60 u61 u62 u63 u64 u65 u66 u67 u68 u69 u70 u71 u72 u73 u74 u75 u76 u77 u78 u79 u80 u81 u82 u83 u84 u85 u86 u87 u88 u89 u90 u91 u92 u93 u94 u95 u96 u97 u98 : Value}
    (hQ : ∀ c a d v w, Q0 (.panic c) (Act.put a d v) w → Q0 (.panic c) a w)
    (hK : ∀ (t84 t85 t86 t87 t88 : Value) (z : World), Gw.Mem w0 [(d10_11, .cells #[.int .u64 (bi ((normC q).getD zeroC).t.v), .int .u64 (bi ((normC q).getD zeroC).t.m), .int .u64 (((normC q).getD zeroC).u.lo), .int .u64 (((normC q).getD zeroC).u.hi), .int .i64 (((normC q).getD zeroC).s.lo), .int .i64 (((normC q).getD zeroC).s.hi)] 30), (d10_10, .cells #[.int .u64 (bi ((normC p).getD zeroC).t.v), .int .u64 (bi ((normC p).getD zeroC).t.m), .int .u64 (((normC p).getD zeroC).u.lo), .int .u64 (((normC p).getD zeroC).u.hi), .int .i64 (((normC p).getD zeroC).s.lo), .int .i64 (((normC p).getD zeroC).s.hi)] 30), (d1_3, .cells #[.int .u64 0, .int .u64 0, .int .u64 0, .int .u64 0, .int .i64 0, .int .i64 0] 30), (d1_2, .cells #[.int .u64 0, .int .u64 0, .int .u64 0, .int .u64 0, .int .i64 0, .int .i64 0] 30), (d1_1, .cells #[.int .u64 (bi b.t.v), .int .u64 (bi b.t.m), .int .u64 b.u.lo, .int .u64 b.u.hi, .int .i64 b.s.lo, .int .i64 b.s.hi] 30), (d1_0, .cells #[.int .u64 (bi a.t.v), .int .u64 (bi a.t.m), .int .u64 a.u.lo, .int .u64 a.u.hi, .int .i64 a.s.lo, .int .i64 a.s.hi] 30)] z → K ⟨#[u0, u1, u2, u3, u4, u5, u6, u7, u8, u9, u10, u11, u12, u13, u14, u15, u16, u17, .pointer (some ⟨d10_11, 0, none⟩), u19, u20, .bool ((normC q).isSome), u22, u23, u24, u25, u26, u27, u28, u29, u30, u31, u32, u33, u34, u35, u36, u37, u38, u39, u40, u41, u42, u43, u44, u45, u46, u47, u48, u49, u50, u51, u52, u53, u54, u55, u56, u57, u58, u59, u60, u61, u62, u63, u64, u65, u66, u67, u68, u69, u70, u71, u72, u73, u74, u75, u76, u77, u78, u79, u80, u81, u82, u83, t84, t85, t86, t87, t88, u89, u90, u91, u92, u93, u94, u95, u96, u97, u98], []⟩ z) (wy : World) (M : Gw.Mem w0 [(d10_11, .cells #[.int .u64 (bi q.t.v), .int .u64 (bi q.t.m), .int .u64 q.u.lo, .int .u64 q.u.hi, .int .i64 q.s.lo, .int .i64 q.s.hi] 30), (d10_10, .cells #[.int .u64 (bi ((normC p).getD zeroC).t.v), .int .u64 (bi ((normC p).getD zeroC).t.m), .int .u64 (((normC p).getD zeroC).u.lo), .int .u64 (((normC p).getD zeroC).u.hi), .int .i64 (((normC p).getD zeroC).s.lo), .int .i64 (((normC p).getD zeroC).s.hi)] 30), (d1_3, .cells #[.int .u64 0, .int .u64 0, .int .u64 0, .int .u64 0, .int .i64 0, .int .i64 0] 30), (d1_2, .cells #[.int .u64 0, .int .u64 0, .int .u64 0, .int .u64 0, .int .i64 0, .int .i64 0] 30), (d1_1, .cells #[.int .u64 (bi b.t.v), .int .u64 (bi b.t.m), .int .u64 b.u.lo, .int .u64 b.u.hi, .int .i64 b.s.lo, .int .i64 b.s.hi] 30), (d1_0, .cells #[.int .u64 (bi a.t.v), .int .u64 (bi a.t.m), .int .u64 a.u.lo, .int .u64 a.u.hi, .int .i64 a.s.lo, .int .i64 a.s.hi] 30)] wy) :
    br5_r13C.wp Tryz.prog (Exit.then K Q0) ⟨#[u0, u1, u2, u3, u4, u5, u6, u7, u8, u9, u10, u11, u12, u13, u14, u15, u16, u17, .pointer (some ⟨d10_11, 0, none⟩), u19, u20, u21, u22, u23, u24, u25, u26, u27, u28, u29, u30, u31, u32, u33, u34, u35, u36, u37, u38, u39, u40, u41, u42, u43, u44, u45, u46, u47, u48, u49, u50, u51, u52, u53, u54, u55, u56, u57, u58, u59, u60, u61, u62, u63, u64, u65, u66, u67, u68, u69, u70, u71, u72, u73, u74, u75, u76, u77, u78, u79, u80, u81, u82, u83, u84, u85, u86, u87, u88, u89, u90, u91, u92, u93, u94, u95, u96, u97, u98], []⟩ wy := by
  have HK := Lib.hid hK
  clear hK
  conv => arg 2; whnf
  refine Gw.line _ M ?_
  clear M wy
  refine Gw.sq (.agg #[.int .u64 (bi q.t.v), .int .u64 (bi q.t.m), .int .u64 q.u.lo, .int .u64 q.u.hi, .int .i64 q.s.lo, .int .i64 q.s.hi]) ?_ ?_
  · intro w M; have c := M.c6 0; go_simp
  try simp only [Act.put, ptA, ptB, ptC]
  refine Gw.sk (.tuple #[.agg #[.int .u64 (bi ((normC q).getD zeroC).t.v), .int .u64 (bi ((normC q).getD zeroC).t.m), .int .u64 (((normC q).getD zeroC).u.lo), .int .u64 (((normC q).getD zeroC).u.hi), .int .i64 (((normC q).getD zeroC).s.lo), .int .i64 (((normC q).getD zeroC).s.hi)], .bool ((normC q).isSome)]) 15 #[.agg #[.int .u64 (bi q.t.v), .int .u64 (bi q.t.m), .int .u64 q.u.lo, .int .u64 q.u.hi, .int .i64 q.s.lo, .int .i64 q.s.hi]] (fun w M => norm5 q (ls_may hop ha hb hal hls hok).2 w) ?_
  try simp only [Act.put, ptA, ptB, ptC]
  refine Gw.sw (.tuple #[.agg #[.int .u64 (bi ((normC q).getD zeroC).t.v), .int .u64 (bi ((normC q).getD zeroC).t.m), .int .u64 (((normC q).getD zeroC).u.lo), .int .u64 (((normC q).getD zeroC).u.hi), .int .i64 (((normC q).getD zeroC).s.lo), .int .i64 (((normC q).getD zeroC).s.hi)], .bool ((normC q).isSome)]) ?_
  try simp only [Act.put, ptA, ptB, ptC]
  refine Gw.sw (.agg #[.int .u64 (bi ((normC q).getD zeroC).t.v), .int .u64 (bi ((normC q).getD zeroC).t.m), .int .u64 (((normC q).getD zeroC).u.lo), .int .u64 (((normC q).getD zeroC).u.hi), .int .i64 (((normC q).getD zeroC).s.lo), .int .i64 (((normC q).getD zeroC).s.hi)]) ?_
  try simp only [Act.put, ptA, ptB, ptC]
  refine Gw.sw (.bool ((normC q).isSome)) ?_
  try simp only [Act.put, ptA, ptB, ptC]
  refine Gw.ss ?_
  intro w M K' hK
  have c := M.c6 0
  have f := M.f6 0
  go_simp
  refine hK.out _ _ _ ((((((M.set 0 0 _).set 0 1 _).set 0 2 _).set 0 3 _).set 0 4 _).set 0 5 _) ?_
  clear hK K' c f M w
  refine Gw.sw (.bool ((normC q).isSome)) ?_
  try simp only [Act.put, ptA, ptB, ptC]
  exact fun z M => HK.out _ _ _ _ _ z M
noncomputable def br5_r14C : Code := (Tryz.f34.body.bind (Rg.findR 14)).getD .skip
set_option maxHeartbeats 4000000 in
theorem br5_r14 (op : Int) (wide taken : Bool) (a b : C) (ha : mayC a) (hb : mayC b) (p q : C) (ok : Bool) (hls : lsR op taken a b = ((p, q), ok)) (hop : Wd.jumpOk op = true) (hal : (aloneC a && aloneC b) = false) (hok : ok = true) {w0 : World}  {K : Act → World → Prop} {Q0 : Exit → Act → World → Prop} {d10_11 d10_10 d1_3 d1_2 d1_1 d1_0 : Nat} {u0 u1 u2 u3 u4 u5 u6 u7 u8 u9 u12 u13 u14 u15 u16 u19 u22 u23 u24 u25 u26 u27 u28 u29 u30 u31 u32 u33 u34 u35 u36 u37 u38 u39 u40 u41 u42 u43 u44 u45 u46 u47 u48 u49 u50 u51 u52 u53 u54 u55 u56 u57 u58 u59 u60 u61 u62 u63 u64 u65 u66 u67 u68 u69 u70 u71 u72 u73 u74 u75 u76 u77 u78 u79 u80 u81 u82 u83 u84 u85 u86 u87 u88 u89 u90 u91 u92 u93 u94 u95 u96 u97 u98 : Value}
    (hQ : ∀ c a d v w, Q0 (.panic c) (Act.put a d v) w → Q0 (.panic c) a w)
    (hK : ∀ (t89 t90 t91 t92 t93 t94 t95 t96 t97 t98 : Value) (z : World), Gw.Mem w0 [(d10_11, .cells #[.int .u64 (bi ((normC q).getD zeroC).t.v), .int .u64 (bi ((normC q).getD zeroC).t.m), .int .u64 (((normC q).getD zeroC).u.lo), .int .u64 (((normC q).getD zeroC).u.hi), .int .i64 (((normC q).getD zeroC).s.lo), .int .i64 (((normC q).getD zeroC).s.hi)] 30), (d10_10, .cells #[.int .u64 (bi ((normC p).getD zeroC).t.v), .int .u64 (bi ((normC p).getD zeroC).t.m), .int .u64 (((normC p).getD zeroC).u.lo), .int .u64 (((normC p).getD zeroC).u.hi), .int .i64 (((normC p).getD zeroC).s.lo), .int .i64 (((normC p).getD zeroC).s.hi)] 30), (d1_3, .cells #[.int .u64 (bi (selC false ((normC q).getD zeroC)).t.v), .int .u64 (bi (selC false ((normC q).getD zeroC)).t.m), .int .u64 ((selC false ((normC q).getD zeroC)).u.lo), .int .u64 ((selC false ((normC q).getD zeroC)).u.hi), .int .i64 ((selC false ((normC q).getD zeroC)).s.lo), .int .i64 ((selC false ((normC q).getD zeroC)).s.hi)] 30), (d1_2, .cells #[.int .u64 (bi (selC false ((normC p).getD zeroC)).t.v), .int .u64 (bi (selC false ((normC p).getD zeroC)).t.m), .int .u64 ((selC false ((normC p).getD zeroC)).u.lo), .int .u64 ((selC false ((normC p).getD zeroC)).u.hi), .int .i64 ((selC false ((normC p).getD zeroC)).s.lo), .int .i64 ((selC false ((normC p).getD zeroC)).s.hi)] 30), (d1_1, .cells #[.int .u64 (bi b.t.v), .int .u64 (bi b.t.m), .int .u64 b.u.lo, .int .u64 b.u.hi, .int .i64 b.s.lo, .int .i64 b.s.hi] 30), (d1_0, .cells #[.int .u64 (bi a.t.v), .int .u64 (bi a.t.m), .int .u64 a.u.lo, .int .u64 a.u.hi, .int .i64 a.s.lo, .int .i64 a.s.hi] 30)] z → K ⟨#[u0, u1, u2, u3, u4, u5, u6, u7, u8, u9, .pointer (some ⟨d1_2, 0, none⟩), .pointer (some ⟨d1_3, 0, none⟩), .bool false, u13, u14, u15, u16, .pointer (some ⟨d10_10, 0, none⟩), .pointer (some ⟨d10_11, 0, none⟩), u19, .bool false, .bool false, u22, u23, u24, u25, u26, u27, u28, u29, u30, u31, u32, u33, u34, u35, u36, u37, u38, u39, u40, u41, u42, u43, u44, u45, u46, u47, u48, u49, u50, u51, u52, u53, u54, u55, u56, u57, u58, u59, u60, u61, u62, u63, u64, u65, u66, u67, u68, u69, u70, u71, u72, u73, u74, u75, u76, u77, u78, u79, u80, u81, u82, u83, u84, u85, u86, u87, u88, t89, t90, t91, t92, t93, t94, t95, t96, t97, t98], []⟩ z) (wy : World) (M : Gw.Mem w0 [(d10_11, .cells #[.int .u64 (bi ((normC q).getD zeroC).t.v), .int .u64 (bi ((normC q).getD zeroC).t.m), .int .u64 (((normC q).getD zeroC).u.lo), .int .u64 (((normC q).getD zeroC).u.hi), .int .i64 (((normC q).getD zeroC).s.lo), .int .i64 (((normC q).getD zeroC).s.hi)] 30), (d10_10, .cells #[.int .u64 (bi ((normC p).getD zeroC).t.v), .int .u64 (bi ((normC p).getD zeroC).t.m), .int .u64 (((normC p).getD zeroC).u.lo), .int .u64 (((normC p).getD zeroC).u.hi), .int .i64 (((normC p).getD zeroC).s.lo), .int .i64 (((normC p).getD zeroC).s.hi)] 30), (d1_3, .cells #[.int .u64 0, .int .u64 0, .int .u64 0, .int .u64 0, .int .i64 0, .int .i64 0] 30), (d1_2, .cells #[.int .u64 0, .int .u64 0, .int .u64 0, .int .u64 0, .int .i64 0, .int .i64 0] 30), (d1_1, .cells #[.int .u64 (bi b.t.v), .int .u64 (bi b.t.m), .int .u64 b.u.lo, .int .u64 b.u.hi, .int .i64 b.s.lo, .int .i64 b.s.hi] 30), (d1_0, .cells #[.int .u64 (bi a.t.v), .int .u64 (bi a.t.m), .int .u64 a.u.lo, .int .u64 a.u.hi, .int .i64 a.s.lo, .int .i64 a.s.hi] 30)] wy) :
    br5_r14C.wp Tryz.prog (Exit.then K Q0) ⟨#[u0, u1, u2, u3, u4, u5, u6, u7, u8, u9, .pointer (some ⟨d1_2, 0, none⟩), .pointer (some ⟨d1_3, 0, none⟩), u12, u13, u14, u15, u16, .pointer (some ⟨d10_10, 0, none⟩), .pointer (some ⟨d10_11, 0, none⟩), u19, .bool false, .bool false, u22, u23, u24, u25, u26, u27, u28, u29, u30, u31, u32, u33, u34, u35, u36, u37, u38, u39, u40, u41, u42, u43, u44, u45, u46, u47, u48, u49, u50, u51, u52, u53, u54, u55, u56, u57, u58, u59, u60, u61, u62, u63, u64, u65, u66, u67, u68, u69, u70, u71, u72, u73, u74, u75, u76, u77, u78, u79, u80, u81, u82, u83, u84, u85, u86, u87, u88, u89, u90, u91, u92, u93, u94, u95, u96, u97, u98], []⟩ wy := by
  have HK := Lib.hid hK
  clear hK
  conv => arg 2; whnf
  refine Gw.line _ M ?_
  clear M wy
  refine Gw.sw (.bool false) ?_
  try simp only [Act.put, ptA, ptB, ptC]
  refine Gw.sw (.bool false) ?_
  try simp only [Act.put, ptA, ptB, ptC]
  refine Gw.su ?_
  try simp only [Act.put, ptA, ptB, ptC]
  refine Gw.sw (.bool false) ?_
  try simp only [Act.put, ptA, ptB, ptC]
  refine Gw.sq (.agg #[.int .u64 (bi ((normC p).getD zeroC).t.v), .int .u64 (bi ((normC p).getD zeroC).t.m), .int .u64 (((normC p).getD zeroC).u.lo), .int .u64 (((normC p).getD zeroC).u.hi), .int .i64 (((normC p).getD zeroC).s.lo), .int .i64 (((normC p).getD zeroC).s.hi)]) ?_ ?_
  · intro w M; have c := M.c6 1; go_simp
  try simp only [Act.put, ptA, ptB, ptC]
  refine Gw.sq (.agg #[.int .u64 (bi ((normC q).getD zeroC).t.v), .int .u64 (bi ((normC q).getD zeroC).t.m), .int .u64 (((normC q).getD zeroC).u.lo), .int .u64 (((normC q).getD zeroC).u.hi), .int .i64 (((normC q).getD zeroC).s.lo), .int .i64 (((normC q).getD zeroC).s.hi)]) ?_ ?_
  · intro w M; have c := M.c6 0; go_simp
  try simp only [Act.put, ptA, ptB, ptC]
  refine Gw.sk (.tuple #[.agg #[.int .u64 (bi (selC false ((normC p).getD zeroC)).t.v), .int .u64 (bi (selC false ((normC p).getD zeroC)).t.m), .int .u64 ((selC false ((normC p).getD zeroC)).u.lo), .int .u64 ((selC false ((normC p).getD zeroC)).u.hi), .int .i64 ((selC false ((normC p).getD zeroC)).s.lo), .int .i64 ((selC false ((normC p).getD zeroC)).s.hi)], .agg #[.int .u64 (bi (selC false ((normC q).getD zeroC)).t.v), .int .u64 (bi (selC false ((normC q).getD zeroC)).t.m), .int .u64 ((selC false ((normC q).getD zeroC)).u.lo), .int .u64 ((selC false ((normC q).getD zeroC)).u.hi), .int .i64 ((selC false ((normC q).getD zeroC)).s.lo), .int .i64 ((selC false ((normC q).getD zeroC)).s.hi)], .bool false]) 87 #[.bool false, .agg #[.int .u64 (bi ((normC p).getD zeroC).t.v), .int .u64 (bi ((normC p).getD zeroC).t.m), .int .u64 (((normC p).getD zeroC).u.lo), .int .u64 (((normC p).getD zeroC).u.hi), .int .i64 (((normC p).getD zeroC).s.lo), .int .i64 (((normC p).getD zeroC).s.hi)], .agg #[.int .u64 (bi ((normC q).getD zeroC).t.v), .int .u64 (bi ((normC q).getD zeroC).t.m), .int .u64 (((normC q).getD zeroC).u.lo), .int .u64 (((normC q).getD zeroC).u.hi), .int .i64 (((normC q).getD zeroC).s.lo), .int .i64 (((normC q).getD zeroC).s.hi)]] (fun w M => where5 false ((normC p).getD zeroC) ((normC q).getD zeroC) w) ?_
  try simp only [Act.put, ptA, ptB, ptC]
  refine Gw.sw (.agg #[.int .u64 (bi (selC false ((normC p).getD zeroC)).t.v), .int .u64 (bi (selC false ((normC p).getD zeroC)).t.m), .int .u64 ((selC false ((normC p).getD zeroC)).u.lo), .int .u64 ((selC false ((normC p).getD zeroC)).u.hi), .int .i64 ((selC false ((normC p).getD zeroC)).s.lo), .int .i64 ((selC false ((normC p).getD zeroC)).s.hi)]) ?_
  try simp only [Act.put, ptA, ptB, ptC]
  refine Gw.sw (.agg #[.int .u64 (bi (selC false ((normC q).getD zeroC)).t.v), .int .u64 (bi (selC false ((normC q).getD zeroC)).t.m), .int .u64 ((selC false ((normC q).getD zeroC)).u.lo), .int .u64 ((selC false ((normC q).getD zeroC)).u.hi), .int .i64 ((selC false ((normC q).getD zeroC)).s.lo), .int .i64 ((selC false ((normC q).getD zeroC)).s.hi)]) ?_
  try simp only [Act.put, ptA, ptB, ptC]
  refine Gw.sw (.bool false) ?_
  try simp only [Act.put, ptA, ptB, ptC]
  refine Gw.ss ?_
  intro w M K' hK
  have c := M.c6 3
  have f := M.f6 3
  go_simp
  refine hK.out _ _ _ ((((((M.set 3 0 _).set 3 1 _).set 3 2 _).set 3 3 _).set 3 4 _).set 3 5 _) ?_
  clear hK K' c f M w
  refine Gw.ss ?_
  intro w M K' hK
  have c := M.c6 2
  have f := M.f6 2
  go_simp
  refine hK.out _ _ _ ((((((M.set 2 0 _).set 2 1 _).set 2 2 _).set 2 3 _).set 2 4 _).set 2 5 _) ?_
  clear hK K' c f M w
  refine Gw.sw (.bool false) ?_
  try simp only [Act.put, ptA, ptB, ptC]
  exact fun z M => HK.out _ _ _ _ _ _ _ _ _ _ z M
noncomputable def br5_r14_16C : Code := (Tryz.f34.body.bind (Rg.findR 14)).getD .skip
set_option maxHeartbeats 4000000 in
theorem br5_r14_16 (op : Int) (wide taken : Bool) (a b : C) (ha : mayC a) (hb : mayC b) (p q : C) (ok : Bool) (hls : lsR op taken a b = ((p, q), ok)) (hop : Wd.jumpOk op = true) (hal : (aloneC a && aloneC b) = false) (hok : ok = true) {w0 : World}  {K : Act → World → Prop} {Q0 : Exit → Act → World → Prop} {d10_11 d10_10 d1_3 d1_2 d1_1 d1_0 : Nat} {u0 u1 u2 u3 u4 u5 u6 u7 u8 u9 u12 u13 u14 u15 u16 u19 u22 u23 u24 u25 u26 u27 u28 u29 u30 u31 u32 u33 u34 u35 u36 u37 u38 u39 u40 u41 u42 u43 u44 u45 u46 u47 u48 u49 u50 u51 u52 u53 u54 u55 u56 u57 u58 u59 u60 u61 u62 u63 u64 u65 u66 u67 u68 u69 u70 u71 u72 u73 u74 u75 u76 u77 u78 u79 u80 u81 u82 u83 u84 u85 u86 u87 u88 u89 u90 u91 u92 u93 u94 u95 u96 u97 u98 : Value}
    (hQ : ∀ c a d v w, Q0 (.panic c) (Act.put a d v) w → Q0 (.panic c) a w)
    (hK : ∀ (t89 t90 t91 t92 t93 t94 t95 t96 t97 t98 : Value) (z : World), Gw.Mem w0 [(d10_11, .cells #[.int .u64 (bi ((normC q).getD zeroC).t.v), .int .u64 (bi ((normC q).getD zeroC).t.m), .int .u64 (((normC q).getD zeroC).u.lo), .int .u64 (((normC q).getD zeroC).u.hi), .int .i64 (((normC q).getD zeroC).s.lo), .int .i64 (((normC q).getD zeroC).s.hi)] 30), (d10_10, .cells #[.int .u64 (bi ((normC p).getD zeroC).t.v), .int .u64 (bi ((normC p).getD zeroC).t.m), .int .u64 (((normC p).getD zeroC).u.lo), .int .u64 (((normC p).getD zeroC).u.hi), .int .i64 (((normC p).getD zeroC).s.lo), .int .i64 (((normC p).getD zeroC).s.hi)] 30), (d1_3, .cells #[.int .u64 (bi (selC false ((normC q).getD zeroC)).t.v), .int .u64 (bi (selC false ((normC q).getD zeroC)).t.m), .int .u64 ((selC false ((normC q).getD zeroC)).u.lo), .int .u64 ((selC false ((normC q).getD zeroC)).u.hi), .int .i64 ((selC false ((normC q).getD zeroC)).s.lo), .int .i64 ((selC false ((normC q).getD zeroC)).s.hi)] 30), (d1_2, .cells #[.int .u64 (bi (selC false ((normC p).getD zeroC)).t.v), .int .u64 (bi (selC false ((normC p).getD zeroC)).t.m), .int .u64 ((selC false ((normC p).getD zeroC)).u.lo), .int .u64 ((selC false ((normC p).getD zeroC)).u.hi), .int .i64 ((selC false ((normC p).getD zeroC)).s.lo), .int .i64 ((selC false ((normC p).getD zeroC)).s.hi)] 30), (d1_1, .cells #[.int .u64 (bi b.t.v), .int .u64 (bi b.t.m), .int .u64 b.u.lo, .int .u64 b.u.hi, .int .i64 b.s.lo, .int .i64 b.s.hi] 30), (d1_0, .cells #[.int .u64 (bi a.t.v), .int .u64 (bi a.t.m), .int .u64 a.u.lo, .int .u64 a.u.hi, .int .i64 a.s.lo, .int .i64 a.s.hi] 30)] z → K ⟨#[u0, u1, u2, u3, u4, u5, u6, u7, u8, u9, .pointer (some ⟨d1_2, 0, none⟩), .pointer (some ⟨d1_3, 0, none⟩), .bool false, u13, u14, u15, u16, .pointer (some ⟨d10_10, 0, none⟩), .pointer (some ⟨d10_11, 0, none⟩), u19, .bool false, .bool true, u22, u23, u24, u25, u26, u27, u28, u29, u30, u31, u32, u33, u34, u35, u36, u37, u38, u39, u40, u41, u42, u43, u44, u45, u46, u47, u48, u49, u50, u51, u52, u53, u54, u55, u56, u57, u58, u59, u60, u61, u62, u63, u64, u65, u66, u67, u68, u69, u70, u71, u72, u73, u74, u75, u76, u77, u78, u79, u80, u81, u82, u83, u84, u85, u86, u87, u88, t89, t90, t91, t92, t93, t94, t95, t96, t97, t98], []⟩ z) (wy : World) (M : Gw.Mem w0 [(d10_11, .cells #[.int .u64 (bi ((normC q).getD zeroC).t.v), .int .u64 (bi ((normC q).getD zeroC).t.m), .int .u64 (((normC q).getD zeroC).u.lo), .int .u64 (((normC q).getD zeroC).u.hi), .int .i64 (((normC q).getD zeroC).s.lo), .int .i64 (((normC q).getD zeroC).s.hi)] 30), (d10_10, .cells #[.int .u64 (bi ((normC p).getD zeroC).t.v), .int .u64 (bi ((normC p).getD zeroC).t.m), .int .u64 (((normC p).getD zeroC).u.lo), .int .u64 (((normC p).getD zeroC).u.hi), .int .i64 (((normC p).getD zeroC).s.lo), .int .i64 (((normC p).getD zeroC).s.hi)] 30), (d1_3, .cells #[.int .u64 0, .int .u64 0, .int .u64 0, .int .u64 0, .int .i64 0, .int .i64 0] 30), (d1_2, .cells #[.int .u64 0, .int .u64 0, .int .u64 0, .int .u64 0, .int .i64 0, .int .i64 0] 30), (d1_1, .cells #[.int .u64 (bi b.t.v), .int .u64 (bi b.t.m), .int .u64 b.u.lo, .int .u64 b.u.hi, .int .i64 b.s.lo, .int .i64 b.s.hi] 30), (d1_0, .cells #[.int .u64 (bi a.t.v), .int .u64 (bi a.t.m), .int .u64 a.u.lo, .int .u64 a.u.hi, .int .i64 a.s.lo, .int .i64 a.s.hi] 30)] wy) :
    br5_r14_16C.wp Tryz.prog (Exit.then K Q0) ⟨#[u0, u1, u2, u3, u4, u5, u6, u7, u8, u9, .pointer (some ⟨d1_2, 0, none⟩), .pointer (some ⟨d1_3, 0, none⟩), u12, u13, u14, u15, u16, .pointer (some ⟨d10_10, 0, none⟩), .pointer (some ⟨d10_11, 0, none⟩), u19, .bool false, .bool true, u22, u23, u24, u25, u26, u27, u28, u29, u30, u31, u32, u33, u34, u35, u36, u37, u38, u39, u40, u41, u42, u43, u44, u45, u46, u47, u48, u49, u50, u51, u52, u53, u54, u55, u56, u57, u58, u59, u60, u61, u62, u63, u64, u65, u66, u67, u68, u69, u70, u71, u72, u73, u74, u75, u76, u77, u78, u79, u80, u81, u82, u83, u84, u85, u86, u87, u88, u89, u90, u91, u92, u93, u94, u95, u96, u97, u98], []⟩ wy := by
  have HK := Lib.hid hK
  clear hK
  conv => arg 2; whnf
  refine Gw.line _ M ?_
  clear M wy
  refine Gw.sw (.bool false) ?_
  try simp only [Act.put, ptA, ptB, ptC]
  refine Gw.sw (.bool false) ?_
  try simp only [Act.put, ptA, ptB, ptC]
  refine Gw.su ?_
  try simp only [Act.put, ptA, ptB, ptC]
  refine Gw.sw (.bool false) ?_
  try simp only [Act.put, ptA, ptB, ptC]
  refine Gw.sq (.agg #[.int .u64 (bi ((normC p).getD zeroC).t.v), .int .u64 (bi ((normC p).getD zeroC).t.m), .int .u64 (((normC p).getD zeroC).u.lo), .int .u64 (((normC p).getD zeroC).u.hi), .int .i64 (((normC p).getD zeroC).s.lo), .int .i64 (((normC p).getD zeroC).s.hi)]) ?_ ?_
  · intro w M; have c := M.c6 1; go_simp
  try simp only [Act.put, ptA, ptB, ptC]
  refine Gw.sq (.agg #[.int .u64 (bi ((normC q).getD zeroC).t.v), .int .u64 (bi ((normC q).getD zeroC).t.m), .int .u64 (((normC q).getD zeroC).u.lo), .int .u64 (((normC q).getD zeroC).u.hi), .int .i64 (((normC q).getD zeroC).s.lo), .int .i64 (((normC q).getD zeroC).s.hi)]) ?_ ?_
  · intro w M; have c := M.c6 0; go_simp
  try simp only [Act.put, ptA, ptB, ptC]
  refine Gw.sk (.tuple #[.agg #[.int .u64 (bi (selC false ((normC p).getD zeroC)).t.v), .int .u64 (bi (selC false ((normC p).getD zeroC)).t.m), .int .u64 ((selC false ((normC p).getD zeroC)).u.lo), .int .u64 ((selC false ((normC p).getD zeroC)).u.hi), .int .i64 ((selC false ((normC p).getD zeroC)).s.lo), .int .i64 ((selC false ((normC p).getD zeroC)).s.hi)], .agg #[.int .u64 (bi (selC false ((normC q).getD zeroC)).t.v), .int .u64 (bi (selC false ((normC q).getD zeroC)).t.m), .int .u64 ((selC false ((normC q).getD zeroC)).u.lo), .int .u64 ((selC false ((normC q).getD zeroC)).u.hi), .int .i64 ((selC false ((normC q).getD zeroC)).s.lo), .int .i64 ((selC false ((normC q).getD zeroC)).s.hi)], .bool false]) 87 #[.bool false, .agg #[.int .u64 (bi ((normC p).getD zeroC).t.v), .int .u64 (bi ((normC p).getD zeroC).t.m), .int .u64 (((normC p).getD zeroC).u.lo), .int .u64 (((normC p).getD zeroC).u.hi), .int .i64 (((normC p).getD zeroC).s.lo), .int .i64 (((normC p).getD zeroC).s.hi)], .agg #[.int .u64 (bi ((normC q).getD zeroC).t.v), .int .u64 (bi ((normC q).getD zeroC).t.m), .int .u64 (((normC q).getD zeroC).u.lo), .int .u64 (((normC q).getD zeroC).u.hi), .int .i64 (((normC q).getD zeroC).s.lo), .int .i64 (((normC q).getD zeroC).s.hi)]] (fun w M => where5 false ((normC p).getD zeroC) ((normC q).getD zeroC) w) ?_
  try simp only [Act.put, ptA, ptB, ptC]
  refine Gw.sw (.agg #[.int .u64 (bi (selC false ((normC p).getD zeroC)).t.v), .int .u64 (bi (selC false ((normC p).getD zeroC)).t.m), .int .u64 ((selC false ((normC p).getD zeroC)).u.lo), .int .u64 ((selC false ((normC p).getD zeroC)).u.hi), .int .i64 ((selC false ((normC p).getD zeroC)).s.lo), .int .i64 ((selC false ((normC p).getD zeroC)).s.hi)]) ?_
  try simp only [Act.put, ptA, ptB, ptC]
  refine Gw.sw (.agg #[.int .u64 (bi (selC false ((normC q).getD zeroC)).t.v), .int .u64 (bi (selC false ((normC q).getD zeroC)).t.m), .int .u64 ((selC false ((normC q).getD zeroC)).u.lo), .int .u64 ((selC false ((normC q).getD zeroC)).u.hi), .int .i64 ((selC false ((normC q).getD zeroC)).s.lo), .int .i64 ((selC false ((normC q).getD zeroC)).s.hi)]) ?_
  try simp only [Act.put, ptA, ptB, ptC]
  refine Gw.sw (.bool false) ?_
  try simp only [Act.put, ptA, ptB, ptC]
  refine Gw.ss ?_
  intro w M K' hK
  have c := M.c6 3
  have f := M.f6 3
  go_simp
  refine hK.out _ _ _ ((((((M.set 3 0 _).set 3 1 _).set 3 2 _).set 3 3 _).set 3 4 _).set 3 5 _) ?_
  clear hK K' c f M w
  refine Gw.ss ?_
  intro w M K' hK
  have c := M.c6 2
  have f := M.f6 2
  go_simp
  refine hK.out _ _ _ ((((((M.set 2 0 _).set 2 1 _).set 2 2 _).set 2 3 _).set 2 4 _).set 2 5 _) ?_
  clear hK K' c f M w
  refine Gw.sw (.bool false) ?_
  try simp only [Act.put, ptA, ptB, ptC]
  exact fun z M => HK.out _ _ _ _ _ _ _ _ _ _ z M
noncomputable def br5_r14_17C : Code := (Tryz.f34.body.bind (Rg.findR 14)).getD .skip
set_option maxHeartbeats 4000000 in
theorem br5_r14_17 (op : Int) (wide taken : Bool) (a b : C) (ha : mayC a) (hb : mayC b) (p q : C) (ok : Bool) (hls : lsR op taken a b = ((p, q), ok)) (hop : Wd.jumpOk op = true) (hal : (aloneC a && aloneC b) = false) (hok : ok = true) {w0 : World}  {K : Act → World → Prop} {Q0 : Exit → Act → World → Prop} {d10_11 d10_10 d1_3 d1_2 d1_1 d1_0 : Nat} {u0 u1 u2 u3 u4 u5 u6 u7 u8 u9 u12 u13 u14 u15 u16 u19 u22 u23 u24 u25 u26 u27 u28 u29 u30 u31 u32 u33 u34 u35 u36 u37 u38 u39 u40 u41 u42 u43 u44 u45 u46 u47 u48 u49 u50 u51 u52 u53 u54 u55 u56 u57 u58 u59 u60 u61 u62 u63 u64 u65 u66 u67 u68 u69 u70 u71 u72 u73 u74 u75 u76 u77 u78 u79 u80 u81 u82 u83 u84 u85 u86 u87 u88 u89 u90 u91 u92 u93 u94 u95 u96 u97 u98 : Value}
    (hQ : ∀ c a d v w, Q0 (.panic c) (Act.put a d v) w → Q0 (.panic c) a w)
    (hK : ∀ (t89 t90 t91 t92 t93 t94 t95 t96 t97 t98 : Value) (z : World), Gw.Mem w0 [(d10_11, .cells #[.int .u64 (bi ((normC q).getD zeroC).t.v), .int .u64 (bi ((normC q).getD zeroC).t.m), .int .u64 (((normC q).getD zeroC).u.lo), .int .u64 (((normC q).getD zeroC).u.hi), .int .i64 (((normC q).getD zeroC).s.lo), .int .i64 (((normC q).getD zeroC).s.hi)] 30), (d10_10, .cells #[.int .u64 (bi ((normC p).getD zeroC).t.v), .int .u64 (bi ((normC p).getD zeroC).t.m), .int .u64 (((normC p).getD zeroC).u.lo), .int .u64 (((normC p).getD zeroC).u.hi), .int .i64 (((normC p).getD zeroC).s.lo), .int .i64 (((normC p).getD zeroC).s.hi)] 30), (d1_3, .cells #[.int .u64 (bi (selC false ((normC q).getD zeroC)).t.v), .int .u64 (bi (selC false ((normC q).getD zeroC)).t.m), .int .u64 ((selC false ((normC q).getD zeroC)).u.lo), .int .u64 ((selC false ((normC q).getD zeroC)).u.hi), .int .i64 ((selC false ((normC q).getD zeroC)).s.lo), .int .i64 ((selC false ((normC q).getD zeroC)).s.hi)] 30), (d1_2, .cells #[.int .u64 (bi (selC false ((normC p).getD zeroC)).t.v), .int .u64 (bi (selC false ((normC p).getD zeroC)).t.m), .int .u64 ((selC false ((normC p).getD zeroC)).u.lo), .int .u64 ((selC false ((normC p).getD zeroC)).u.hi), .int .i64 ((selC false ((normC p).getD zeroC)).s.lo), .int .i64 ((selC false ((normC p).getD zeroC)).s.hi)] 30), (d1_1, .cells #[.int .u64 (bi b.t.v), .int .u64 (bi b.t.m), .int .u64 b.u.lo, .int .u64 b.u.hi, .int .i64 b.s.lo, .int .i64 b.s.hi] 30), (d1_0, .cells #[.int .u64 (bi a.t.v), .int .u64 (bi a.t.m), .int .u64 a.u.lo, .int .u64 a.u.hi, .int .i64 a.s.lo, .int .i64 a.s.hi] 30)] z → K ⟨#[u0, u1, u2, u3, u4, u5, u6, u7, u8, u9, .pointer (some ⟨d1_2, 0, none⟩), .pointer (some ⟨d1_3, 0, none⟩), .bool false, u13, u14, u15, u16, .pointer (some ⟨d10_10, 0, none⟩), .pointer (some ⟨d10_11, 0, none⟩), u19, .bool true, .bool false, u22, u23, u24, u25, u26, u27, u28, u29, u30, u31, u32, u33, u34, u35, u36, u37, u38, u39, u40, u41, u42, u43, u44, u45, u46, u47, u48, u49, u50, u51, u52, u53, u54, u55, u56, u57, u58, u59, u60, u61, u62, u63, u64, u65, u66, u67, u68, u69, u70, u71, u72, u73, u74, u75, u76, u77, u78, u79, u80, u81, u82, u83, u84, u85, u86, u87, u88, t89, t90, t91, t92, t93, t94, t95, t96, t97, t98], []⟩ z) (wy : World) (M : Gw.Mem w0 [(d10_11, .cells #[.int .u64 (bi ((normC q).getD zeroC).t.v), .int .u64 (bi ((normC q).getD zeroC).t.m), .int .u64 (((normC q).getD zeroC).u.lo), .int .u64 (((normC q).getD zeroC).u.hi), .int .i64 (((normC q).getD zeroC).s.lo), .int .i64 (((normC q).getD zeroC).s.hi)] 30), (d10_10, .cells #[.int .u64 (bi ((normC p).getD zeroC).t.v), .int .u64 (bi ((normC p).getD zeroC).t.m), .int .u64 (((normC p).getD zeroC).u.lo), .int .u64 (((normC p).getD zeroC).u.hi), .int .i64 (((normC p).getD zeroC).s.lo), .int .i64 (((normC p).getD zeroC).s.hi)] 30), (d1_3, .cells #[.int .u64 0, .int .u64 0, .int .u64 0, .int .u64 0, .int .i64 0, .int .i64 0] 30), (d1_2, .cells #[.int .u64 0, .int .u64 0, .int .u64 0, .int .u64 0, .int .i64 0, .int .i64 0] 30), (d1_1, .cells #[.int .u64 (bi b.t.v), .int .u64 (bi b.t.m), .int .u64 b.u.lo, .int .u64 b.u.hi, .int .i64 b.s.lo, .int .i64 b.s.hi] 30), (d1_0, .cells #[.int .u64 (bi a.t.v), .int .u64 (bi a.t.m), .int .u64 a.u.lo, .int .u64 a.u.hi, .int .i64 a.s.lo, .int .i64 a.s.hi] 30)] wy) :
    br5_r14_17C.wp Tryz.prog (Exit.then K Q0) ⟨#[u0, u1, u2, u3, u4, u5, u6, u7, u8, u9, .pointer (some ⟨d1_2, 0, none⟩), .pointer (some ⟨d1_3, 0, none⟩), u12, u13, u14, u15, u16, .pointer (some ⟨d10_10, 0, none⟩), .pointer (some ⟨d10_11, 0, none⟩), u19, .bool true, .bool false, u22, u23, u24, u25, u26, u27, u28, u29, u30, u31, u32, u33, u34, u35, u36, u37, u38, u39, u40, u41, u42, u43, u44, u45, u46, u47, u48, u49, u50, u51, u52, u53, u54, u55, u56, u57, u58, u59, u60, u61, u62, u63, u64, u65, u66, u67, u68, u69, u70, u71, u72, u73, u74, u75, u76, u77, u78, u79, u80, u81, u82, u83, u84, u85, u86, u87, u88, u89, u90, u91, u92, u93, u94, u95, u96, u97, u98], []⟩ wy := by
  have HK := Lib.hid hK
  clear hK
  conv => arg 2; whnf
  refine Gw.line _ M ?_
  clear M wy
  refine Gw.sw (.bool true) ?_
  try simp only [Act.put, ptA, ptB, ptC]
  refine Gw.sw (.bool true) ?_
  try simp only [Act.put, ptA, ptB, ptC]
  refine Gw.sw (.bool false) ?_
  try simp only [Act.put, ptA, ptB, ptC]
  refine Gw.sw (.bool false) ?_
  try simp only [Act.put, ptA, ptB, ptC]
  refine Gw.sq (.agg #[.int .u64 (bi ((normC p).getD zeroC).t.v), .int .u64 (bi ((normC p).getD zeroC).t.m), .int .u64 (((normC p).getD zeroC).u.lo), .int .u64 (((normC p).getD zeroC).u.hi), .int .i64 (((normC p).getD zeroC).s.lo), .int .i64 (((normC p).getD zeroC).s.hi)]) ?_ ?_
  · intro w M; have c := M.c6 1; go_simp
  try simp only [Act.put, ptA, ptB, ptC]
  refine Gw.sq (.agg #[.int .u64 (bi ((normC q).getD zeroC).t.v), .int .u64 (bi ((normC q).getD zeroC).t.m), .int .u64 (((normC q).getD zeroC).u.lo), .int .u64 (((normC q).getD zeroC).u.hi), .int .i64 (((normC q).getD zeroC).s.lo), .int .i64 (((normC q).getD zeroC).s.hi)]) ?_ ?_
  · intro w M; have c := M.c6 0; go_simp
  try simp only [Act.put, ptA, ptB, ptC]
  refine Gw.sk (.tuple #[.agg #[.int .u64 (bi (selC false ((normC p).getD zeroC)).t.v), .int .u64 (bi (selC false ((normC p).getD zeroC)).t.m), .int .u64 ((selC false ((normC p).getD zeroC)).u.lo), .int .u64 ((selC false ((normC p).getD zeroC)).u.hi), .int .i64 ((selC false ((normC p).getD zeroC)).s.lo), .int .i64 ((selC false ((normC p).getD zeroC)).s.hi)], .agg #[.int .u64 (bi (selC false ((normC q).getD zeroC)).t.v), .int .u64 (bi (selC false ((normC q).getD zeroC)).t.m), .int .u64 ((selC false ((normC q).getD zeroC)).u.lo), .int .u64 ((selC false ((normC q).getD zeroC)).u.hi), .int .i64 ((selC false ((normC q).getD zeroC)).s.lo), .int .i64 ((selC false ((normC q).getD zeroC)).s.hi)], .bool false]) 87 #[.bool false, .agg #[.int .u64 (bi ((normC p).getD zeroC).t.v), .int .u64 (bi ((normC p).getD zeroC).t.m), .int .u64 (((normC p).getD zeroC).u.lo), .int .u64 (((normC p).getD zeroC).u.hi), .int .i64 (((normC p).getD zeroC).s.lo), .int .i64 (((normC p).getD zeroC).s.hi)], .agg #[.int .u64 (bi ((normC q).getD zeroC).t.v), .int .u64 (bi ((normC q).getD zeroC).t.m), .int .u64 (((normC q).getD zeroC).u.lo), .int .u64 (((normC q).getD zeroC).u.hi), .int .i64 (((normC q).getD zeroC).s.lo), .int .i64 (((normC q).getD zeroC).s.hi)]] (fun w M => where5 false ((normC p).getD zeroC) ((normC q).getD zeroC) w) ?_
  try simp only [Act.put, ptA, ptB, ptC]
  refine Gw.sw (.agg #[.int .u64 (bi (selC false ((normC p).getD zeroC)).t.v), .int .u64 (bi (selC false ((normC p).getD zeroC)).t.m), .int .u64 ((selC false ((normC p).getD zeroC)).u.lo), .int .u64 ((selC false ((normC p).getD zeroC)).u.hi), .int .i64 ((selC false ((normC p).getD zeroC)).s.lo), .int .i64 ((selC false ((normC p).getD zeroC)).s.hi)]) ?_
  try simp only [Act.put, ptA, ptB, ptC]
  refine Gw.sw (.agg #[.int .u64 (bi (selC false ((normC q).getD zeroC)).t.v), .int .u64 (bi (selC false ((normC q).getD zeroC)).t.m), .int .u64 ((selC false ((normC q).getD zeroC)).u.lo), .int .u64 ((selC false ((normC q).getD zeroC)).u.hi), .int .i64 ((selC false ((normC q).getD zeroC)).s.lo), .int .i64 ((selC false ((normC q).getD zeroC)).s.hi)]) ?_
  try simp only [Act.put, ptA, ptB, ptC]
  refine Gw.sw (.bool false) ?_
  try simp only [Act.put, ptA, ptB, ptC]
  refine Gw.ss ?_
  intro w M K' hK
  have c := M.c6 3
  have f := M.f6 3
  go_simp
  refine hK.out _ _ _ ((((((M.set 3 0 _).set 3 1 _).set 3 2 _).set 3 3 _).set 3 4 _).set 3 5 _) ?_
  clear hK K' c f M w
  refine Gw.ss ?_
  intro w M K' hK
  have c := M.c6 2
  have f := M.f6 2
  go_simp
  refine hK.out _ _ _ ((((((M.set 2 0 _).set 2 1 _).set 2 2 _).set 2 3 _).set 2 4 _).set 2 5 _) ?_
  clear hK K' c f M w
  refine Gw.sw (.bool false) ?_
  try simp only [Act.put, ptA, ptB, ptC]
  exact fun z M => HK.out _ _ _ _ _ _ _ _ _ _ z M
noncomputable def br5_r14_18C : Code := (Tryz.f34.body.bind (Rg.findR 14)).getD .skip
set_option maxHeartbeats 4000000 in
theorem br5_r14_18 (op : Int) (wide taken : Bool) (a b : C) (ha : mayC a) (hb : mayC b) (p q : C) (ok : Bool) (hls : lsR op taken a b = ((p, q), ok)) (hop : Wd.jumpOk op = true) (hal : (aloneC a && aloneC b) = false) (hok : ok = true) {w0 : World}  {K : Act → World → Prop} {Q0 : Exit → Act → World → Prop} {d10_11 d10_10 d1_3 d1_2 d1_1 d1_0 : Nat} {u0 u1 u2 u3 u4 u5 u6 u7 u8 u9 u12 u13 u14 u15 u16 u19 u22 u23 u24 u25 u26 u27 u28 u29 u30 u31 u32 u33 u34 u35 u36 u37 u38 u39 u40 u41 u42 u43 u44 u45 u46 u47 u48 u49 u50 u51 u52 u53 u54 u55 u56 u57 u58 u59 u60 u61 u62 u63 u64 u65 u66 u67 u68 u69 u70 u71 u72 u73 u74 u75 u76 u77 u78 u79 u80 u81 u82 u83 u84 u85 u86 u87 u88 u89 u90 u91 u92 u93 u94 u95 u96 u97 u98 : Value}
    (hQ : ∀ c a d v w, Q0 (.panic c) (Act.put a d v) w → Q0 (.panic c) a w)
    (hK : ∀ (t89 t90 t91 t92 t93 t94 t95 t96 t97 t98 : Value) (z : World), Gw.Mem w0 [(d10_11, .cells #[.int .u64 (bi ((normC q).getD zeroC).t.v), .int .u64 (bi ((normC q).getD zeroC).t.m), .int .u64 (((normC q).getD zeroC).u.lo), .int .u64 (((normC q).getD zeroC).u.hi), .int .i64 (((normC q).getD zeroC).s.lo), .int .i64 (((normC q).getD zeroC).s.hi)] 30), (d10_10, .cells #[.int .u64 (bi ((normC p).getD zeroC).t.v), .int .u64 (bi ((normC p).getD zeroC).t.m), .int .u64 (((normC p).getD zeroC).u.lo), .int .u64 (((normC p).getD zeroC).u.hi), .int .i64 (((normC p).getD zeroC).s.lo), .int .i64 (((normC p).getD zeroC).s.hi)] 30), (d1_3, .cells #[.int .u64 (bi (selC true ((normC q).getD zeroC)).t.v), .int .u64 (bi (selC true ((normC q).getD zeroC)).t.m), .int .u64 ((selC true ((normC q).getD zeroC)).u.lo), .int .u64 ((selC true ((normC q).getD zeroC)).u.hi), .int .i64 ((selC true ((normC q).getD zeroC)).s.lo), .int .i64 ((selC true ((normC q).getD zeroC)).s.hi)] 30), (d1_2, .cells #[.int .u64 (bi (selC true ((normC p).getD zeroC)).t.v), .int .u64 (bi (selC true ((normC p).getD zeroC)).t.m), .int .u64 ((selC true ((normC p).getD zeroC)).u.lo), .int .u64 ((selC true ((normC p).getD zeroC)).u.hi), .int .i64 ((selC true ((normC p).getD zeroC)).s.lo), .int .i64 ((selC true ((normC p).getD zeroC)).s.hi)] 30), (d1_1, .cells #[.int .u64 (bi b.t.v), .int .u64 (bi b.t.m), .int .u64 b.u.lo, .int .u64 b.u.hi, .int .i64 b.s.lo, .int .i64 b.s.hi] 30), (d1_0, .cells #[.int .u64 (bi a.t.v), .int .u64 (bi a.t.m), .int .u64 a.u.lo, .int .u64 a.u.hi, .int .i64 a.s.lo, .int .i64 a.s.hi] 30)] z → K ⟨#[u0, u1, u2, u3, u4, u5, u6, u7, u8, u9, .pointer (some ⟨d1_2, 0, none⟩), .pointer (some ⟨d1_3, 0, none⟩), .bool true, u13, u14, u15, u16, .pointer (some ⟨d10_10, 0, none⟩), .pointer (some ⟨d10_11, 0, none⟩), u19, .bool true, .bool true, u22, u23, u24, u25, u26, u27, u28, u29, u30, u31, u32, u33, u34, u35, u36, u37, u38, u39, u40, u41, u42, u43, u44, u45, u46, u47, u48, u49, u50, u51, u52, u53, u54, u55, u56, u57, u58, u59, u60, u61, u62, u63, u64, u65, u66, u67, u68, u69, u70, u71, u72, u73, u74, u75, u76, u77, u78, u79, u80, u81, u82, u83, u84, u85, u86, u87, u88, t89, t90, t91, t92, t93, t94, t95, t96, t97, t98], []⟩ z) (wy : World) (M : Gw.Mem w0 [(d10_11, .cells #[.int .u64 (bi ((normC q).getD zeroC).t.v), .int .u64 (bi ((normC q).getD zeroC).t.m), .int .u64 (((normC q).getD zeroC).u.lo), .int .u64 (((normC q).getD zeroC).u.hi), .int .i64 (((normC q).getD zeroC).s.lo), .int .i64 (((normC q).getD zeroC).s.hi)] 30), (d10_10, .cells #[.int .u64 (bi ((normC p).getD zeroC).t.v), .int .u64 (bi ((normC p).getD zeroC).t.m), .int .u64 (((normC p).getD zeroC).u.lo), .int .u64 (((normC p).getD zeroC).u.hi), .int .i64 (((normC p).getD zeroC).s.lo), .int .i64 (((normC p).getD zeroC).s.hi)] 30), (d1_3, .cells #[.int .u64 0, .int .u64 0, .int .u64 0, .int .u64 0, .int .i64 0, .int .i64 0] 30), (d1_2, .cells #[.int .u64 0, .int .u64 0, .int .u64 0, .int .u64 0, .int .i64 0, .int .i64 0] 30), (d1_1, .cells #[.int .u64 (bi b.t.v), .int .u64 (bi b.t.m), .int .u64 b.u.lo, .int .u64 b.u.hi, .int .i64 b.s.lo, .int .i64 b.s.hi] 30), (d1_0, .cells #[.int .u64 (bi a.t.v), .int .u64 (bi a.t.m), .int .u64 a.u.lo, .int .u64 a.u.hi, .int .i64 a.s.lo, .int .i64 a.s.hi] 30)] wy) :
    br5_r14_18C.wp Tryz.prog (Exit.then K Q0) ⟨#[u0, u1, u2, u3, u4, u5, u6, u7, u8, u9, .pointer (some ⟨d1_2, 0, none⟩), .pointer (some ⟨d1_3, 0, none⟩), u12, u13, u14, u15, u16, .pointer (some ⟨d10_10, 0, none⟩), .pointer (some ⟨d10_11, 0, none⟩), u19, .bool true, .bool true, u22, u23, u24, u25, u26, u27, u28, u29, u30, u31, u32, u33, u34, u35, u36, u37, u38, u39, u40, u41, u42, u43, u44, u45, u46, u47, u48, u49, u50, u51, u52, u53, u54, u55, u56, u57, u58, u59, u60, u61, u62, u63, u64, u65, u66, u67, u68, u69, u70, u71, u72, u73, u74, u75, u76, u77, u78, u79, u80, u81, u82, u83, u84, u85, u86, u87, u88, u89, u90, u91, u92, u93, u94, u95, u96, u97, u98], []⟩ wy := by
  have HK := Lib.hid hK
  clear hK
  conv => arg 2; whnf
  refine Gw.line _ M ?_
  clear M wy
  refine Gw.sw (.bool true) ?_
  try simp only [Act.put, ptA, ptB, ptC]
  refine Gw.sw (.bool true) ?_
  try simp only [Act.put, ptA, ptB, ptC]
  refine Gw.sw (.bool true) ?_
  try simp only [Act.put, ptA, ptB, ptC]
  refine Gw.sw (.bool true) ?_
  try simp only [Act.put, ptA, ptB, ptC]
  refine Gw.sq (.agg #[.int .u64 (bi ((normC p).getD zeroC).t.v), .int .u64 (bi ((normC p).getD zeroC).t.m), .int .u64 (((normC p).getD zeroC).u.lo), .int .u64 (((normC p).getD zeroC).u.hi), .int .i64 (((normC p).getD zeroC).s.lo), .int .i64 (((normC p).getD zeroC).s.hi)]) ?_ ?_
  · intro w M; have c := M.c6 1; go_simp
  try simp only [Act.put, ptA, ptB, ptC]
  refine Gw.sq (.agg #[.int .u64 (bi ((normC q).getD zeroC).t.v), .int .u64 (bi ((normC q).getD zeroC).t.m), .int .u64 (((normC q).getD zeroC).u.lo), .int .u64 (((normC q).getD zeroC).u.hi), .int .i64 (((normC q).getD zeroC).s.lo), .int .i64 (((normC q).getD zeroC).s.hi)]) ?_ ?_
  · intro w M; have c := M.c6 0; go_simp
  try simp only [Act.put, ptA, ptB, ptC]
  refine Gw.sk (.tuple #[.agg #[.int .u64 (bi (selC true ((normC p).getD zeroC)).t.v), .int .u64 (bi (selC true ((normC p).getD zeroC)).t.m), .int .u64 ((selC true ((normC p).getD zeroC)).u.lo), .int .u64 ((selC true ((normC p).getD zeroC)).u.hi), .int .i64 ((selC true ((normC p).getD zeroC)).s.lo), .int .i64 ((selC true ((normC p).getD zeroC)).s.hi)], .agg #[.int .u64 (bi (selC true ((normC q).getD zeroC)).t.v), .int .u64 (bi (selC true ((normC q).getD zeroC)).t.m), .int .u64 ((selC true ((normC q).getD zeroC)).u.lo), .int .u64 ((selC true ((normC q).getD zeroC)).u.hi), .int .i64 ((selC true ((normC q).getD zeroC)).s.lo), .int .i64 ((selC true ((normC q).getD zeroC)).s.hi)], .bool true]) 87 #[.bool true, .agg #[.int .u64 (bi ((normC p).getD zeroC).t.v), .int .u64 (bi ((normC p).getD zeroC).t.m), .int .u64 (((normC p).getD zeroC).u.lo), .int .u64 (((normC p).getD zeroC).u.hi), .int .i64 (((normC p).getD zeroC).s.lo), .int .i64 (((normC p).getD zeroC).s.hi)], .agg #[.int .u64 (bi ((normC q).getD zeroC).t.v), .int .u64 (bi ((normC q).getD zeroC).t.m), .int .u64 (((normC q).getD zeroC).u.lo), .int .u64 (((normC q).getD zeroC).u.hi), .int .i64 (((normC q).getD zeroC).s.lo), .int .i64 (((normC q).getD zeroC).s.hi)]] (fun w M => where5 true ((normC p).getD zeroC) ((normC q).getD zeroC) w) ?_
  try simp only [Act.put, ptA, ptB, ptC]
  refine Gw.sw (.agg #[.int .u64 (bi (selC true ((normC p).getD zeroC)).t.v), .int .u64 (bi (selC true ((normC p).getD zeroC)).t.m), .int .u64 ((selC true ((normC p).getD zeroC)).u.lo), .int .u64 ((selC true ((normC p).getD zeroC)).u.hi), .int .i64 ((selC true ((normC p).getD zeroC)).s.lo), .int .i64 ((selC true ((normC p).getD zeroC)).s.hi)]) ?_
  try simp only [Act.put, ptA, ptB, ptC]
  refine Gw.sw (.agg #[.int .u64 (bi (selC true ((normC q).getD zeroC)).t.v), .int .u64 (bi (selC true ((normC q).getD zeroC)).t.m), .int .u64 ((selC true ((normC q).getD zeroC)).u.lo), .int .u64 ((selC true ((normC q).getD zeroC)).u.hi), .int .i64 ((selC true ((normC q).getD zeroC)).s.lo), .int .i64 ((selC true ((normC q).getD zeroC)).s.hi)]) ?_
  try simp only [Act.put, ptA, ptB, ptC]
  refine Gw.sw (.bool true) ?_
  try simp only [Act.put, ptA, ptB, ptC]
  refine Gw.ss ?_
  intro w M K' hK
  have c := M.c6 3
  have f := M.f6 3
  go_simp
  refine hK.out _ _ _ ((((((M.set 3 0 _).set 3 1 _).set 3 2 _).set 3 3 _).set 3 4 _).set 3 5 _) ?_
  clear hK K' c f M w
  refine Gw.ss ?_
  intro w M K' hK
  have c := M.c6 2
  have f := M.f6 2
  go_simp
  refine hK.out _ _ _ ((((((M.set 2 0 _).set 2 1 _).set 2 2 _).set 2 3 _).set 2 4 _).set 2 5 _) ?_
  clear hK K' c f M w
  refine Gw.sw (.bool true) ?_
  try simp only [Act.put, ptA, ptB, ptC]
  exact fun z M => HK.out _ _ _ _ _ _ _ _ _ _ z M
set_option maxHeartbeats 4000000 in
theorem br5 (op : Int) (wide taken : Bool) (a b : C) (ha : mayC a) (hb : mayC b) (p q : C) (ok : Bool) (hls : lsR op taken a b = ((p, q), ok)) (w : World) :
    Calls Tryz.prog 34 #[.int .i64 op, .bool wide, .bool taken, .agg #[.int .u64 (bi a.t.v), .int .u64 (bi a.t.m), .int .u64 a.u.lo, .int .u64 a.u.hi, .int .i64 a.s.lo, .int .i64 a.s.hi], .agg #[.int .u64 (bi b.t.v), .int .u64 (bi b.t.m), .int .u64 b.u.lo, .int .u64 b.u.hi, .int .i64 b.s.lo, .int .i64 b.s.hi]] w fun e w' => e = .returned (.tuple #[.agg #[.int .u64 (bi (((branchC op wide taken a b).getD (zeroC, zeroC)).1).t.v), .int .u64 (bi (((branchC op wide taken a b).getD (zeroC, zeroC)).1).t.m), .int .u64 ((((branchC op wide taken a b).getD (zeroC, zeroC)).1).u.lo), .int .u64 ((((branchC op wide taken a b).getD (zeroC, zeroC)).1).u.hi), .int .i64 ((((branchC op wide taken a b).getD (zeroC, zeroC)).1).s.lo), .int .i64 ((((branchC op wide taken a b).getD (zeroC, zeroC)).1).s.hi)], .agg #[.int .u64 (bi (((branchC op wide taken a b).getD (zeroC, zeroC)).2).t.v), .int .u64 (bi (((branchC op wide taken a b).getD (zeroC, zeroC)).2).t.m), .int .u64 ((((branchC op wide taken a b).getD (zeroC, zeroC)).2).u.lo), .int .u64 ((((branchC op wide taken a b).getD (zeroC, zeroC)).2).u.hi), .int .i64 ((((branchC op wide taken a b).getD (zeroC, zeroC)).2).s.lo), .int .i64 ((((branchC op wide taken a b).getD (zeroC, zeroC)).2).s.hi)], .bool ((branchC op wide taken a b).isSome)]) ∧ Below w.heap.size w w' := by
  go_enter Tryz.func34, Tryz.ntmps34
  have M := Gw.Mem.nil w
  refine wp_seq (br5_r0 op wide taken a b ha hb p q ok hls (fun _ _ d _ _ h => by cases d <;> exact h) ?_ _ M)
  clear M
  intro _ d1_0 d1_1 d1_2 d1_3 z1 M
  refine wp_seq ?_
  refine wp_seq (br5_r1 op wide taken a b ha hb p q ok hls (fun _ _ d _ _ h => by cases d <;> exact h) ?_ _ M)
  clear M
  intro _ _ _ _ _ _ _ z2 M
  refine wp_seq (br5_r2 op wide taken a b ha hb p q ok hls (fun _ _ d _ _ h => by cases d <;> exact h) ?_ _ M)
  clear M
  intro _ z3 M
  refine wp_cond_split (t := (!(Wd.jumpOk op))) rfl (fun h0 => ?_) (fun h0 => ?_)
  · refine wp_seq (br5_r3 op wide taken a b ha hb p q ok hls (fun _ _ d _ _ h => by cases d <;> exact h) ?_ _ M)
    clear M
    intro _ _ z4 M
    refine wp_ret ?_
    try simp only [Exit.inBlock, Exit.then]
    have g0 := M.cell 1 0
    have g1 := M.cell 1 1
    have g2 := M.cell 1 2
    have g3 := M.cell 1 3
    have g4 := M.cell 1 4
    have g5 := M.cell 1 5
    have g6 := M.cell 0 0
    have g7 := M.cell 0 1
    have g8 := M.cell 0 2
    have g9 := M.cell 0 3
    have g10 := M.cell 0 4
    have g11 := M.cell 0 5
    refine bodyPost_ret (by simp [results, Tryz.results34, g0, g1, g2, g3, g4, g5, g6, g7, g8, g9, g10, g11, go_sem]; try rfl) rfl ?_
    exact ⟨by rw [br_1 h0]; rfl, M.below⟩
  · refine wp_skip ?_
    try simp only [Exit.inBlock, Exit.then]
    refine wp_seq ?_
    refine wp_seq (br5_r4 op wide taken a b ha hb p q ok hls (nb h0) (fun _ _ d _ _ h => by cases d <;> exact h) ?_ _ M)
    clear M
    intro _ _ _ _ _ _ _ _ z5 M
    refine wp_seq (br5_r5 op wide taken a b ha hb p q ok hls (nb h0) (fun _ _ d _ _ h => by cases d <;> exact h) ?_ _ M)
    clear M
    intro z6 M
    refine wp_cond_split (t := ((aloneC a && aloneC b) && Wd.jumpOk op)) rfl (fun h1 => ?_) (fun h1 => ?_)
    · refine wp_seq (br5_r6 op wide taken a b ha hb p q ok hls (nb h0) (fun _ _ d _ _ h => by cases d <;> exact h) ?_ _ M)
      clear M
      intro _ _ _ _ _ _ _ _ _ z7 M
      refine wp_ret ?_
      try simp only [Exit.inBlock, Exit.then]
      have g0 := M.cell 1 0
      have g1 := M.cell 1 1
      have g2 := M.cell 1 2
      have g3 := M.cell 1 3
      have g4 := M.cell 1 4
      have g5 := M.cell 1 5
      have g6 := M.cell 0 0
      have g7 := M.cell 0 1
      have g8 := M.cell 0 2
      have g9 := M.cell 0 3
      have g10 := M.cell 0 4
      have g11 := M.cell 0 5
      refine bodyPost_ret (by simp [results, Tryz.results34, g0, g1, g2, g3, g4, g5, g6, g7, g8, g9, g10, g11, go_sem]; try rfl) rfl ?_
      exact ⟨by rw [br_2b h0 h1]; exact congrArg Ending.returned (br_sel _ a b), M.below⟩
    · refine wp_skip ?_
      try simp only [Exit.inBlock, Exit.then]
      refine wp_seq ?_
      refine wp_seq (br5_r7 op wide taken a b ha hb p q ok hls (nb h0) (al_of h1 (nb h0)) (fun _ _ d _ _ h => by cases d <;> exact h) ?_ _ M)
      clear M
      intro _ _ _ _ _ _ _ _ _ o58 e58 z8 M
      subst e58
      refine wp_cond_split (t := (!wide && (!(!wideJ op a b)))) rfl (fun h2 => ?_) (fun h2 => ?_)
      · refine wp_seq (br5_r8 op wide taken a b ha hb p q ok hls (nb h0) (al_of h1 (nb h0)) (fun _ _ d _ _ h => by cases d <;> exact h) ?_ _ M)
        clear M
        intro _ _ z9 M
        refine wp_ret ?_
        try simp only [Exit.inBlock, Exit.then]
        have g0 := M.cell 1 0
        have g1 := M.cell 1 1
        have g2 := M.cell 1 2
        have g3 := M.cell 1 3
        have g4 := M.cell 1 4
        have g5 := M.cell 1 5
        have g6 := M.cell 0 0
        have g7 := M.cell 0 1
        have g8 := M.cell 0 2
        have g9 := M.cell 0 3
        have g10 := M.cell 0 4
        have g11 := M.cell 0 5
        refine bodyPost_ret (by simp [results, Tryz.results34, g0, g1, g2, g3, g4, g5, g6, g7, g8, g9, g10, g11, go_sem]; try rfl) rfl ?_
        exact ⟨by rw [br_3 h0 h1 h2]; rfl, M.below⟩
      · refine wp_skip ?_
        try simp only [Exit.inBlock, Exit.then]
        refine wp_seq (br5_r9 op wide taken a b ha hb p q ok hls (nb h0) (al_of h1 (nb h0)) (fun _ _ d _ _ h => by cases d <;> exact h) ?_ _ M)
        clear M
        intro _ _ _ _ _ _ _ _ _ _ d10_10 d10_11 z10 M
        refine wp_seq ?_
        refine wp_seq (br5_r10 op wide taken a b ha hb p q ok hls (nb h0) (al_of h1 (nb h0)) (fun _ _ d _ _ h => by cases d <;> exact h) ?_ _ M)
        clear M
        intro _ z11 M
        refine wp_cond_split (t := (!ok)) rfl (fun h3 => ?_) (fun h3 => ?_)
        · refine wp_seq (br5_r11 op wide taken a b ha hb p q ok hls (nb h0) (al_of h1 (nb h0)) (fun _ _ d _ _ h => by cases d <;> exact h) ?_ _ M)
          clear M
          intro _ _ _ _ _ _ z12 M
          refine wp_ret ?_
          try simp only [Exit.inBlock, Exit.then]
          have g0 := M.cell 3 0
          have g1 := M.cell 3 1
          have g2 := M.cell 3 2
          have g3 := M.cell 3 3
          have g4 := M.cell 3 4
          have g5 := M.cell 3 5
          have g6 := M.cell 2 0
          have g7 := M.cell 2 1
          have g8 := M.cell 2 2
          have g9 := M.cell 2 3
          have g10 := M.cell 2 4
          have g11 := M.cell 2 5
          refine bodyPost_ret (by simp [results, Tryz.results34, g0, g1, g2, g3, g4, g5, g6, g7, g8, g9, g10, g11, go_sem]; try rfl) rfl ?_
          exact ⟨by rw [br_4 ha hb hls h0 h1 h2, nt h3]; rfl, M.below⟩
        · refine wp_skip ?_
          try simp only [Exit.inBlock, Exit.then]
          refine wp_seq (br5_r12 op wide taken a b ha hb p q ok hls (nb h0) (al_of h1 (nb h0)) (nb h3) (fun _ _ d _ _ h => by cases d <;> exact h) ?_ _ M)
          clear M
          intro _ _ _ _ _ z13 M
          refine wp_seq (br5_r13 op wide taken a b ha hb p q ok hls (nb h0) (al_of h1 (nb h0)) (nb h3) (fun _ _ d _ _ h => by cases d <;> exact h) ?_ _ M)
          clear M
          intro _ _ _ _ _ z14 M
          cases hs4 : ((normC p).isSome)
          · skip
            cases hs5 : ((normC q).isSome)
            · skip
              refine wp_seq (br5_r14 op wide taken a b ha hb p q ok hls (nb h0) (al_of h1 (nb h0)) (nb h3) (fun _ _ d _ _ h => by cases d <;> exact h) ?_ _ M)
              clear M
              intro _ _ _ _ _ _ _ _ _ _ z15 M
              refine wp_ret ?_
              try simp only [Exit.inBlock, Exit.then]
              have g0 := M.cell 3 0
              have g1 := M.cell 3 1
              have g2 := M.cell 3 2
              have g3 := M.cell 3 3
              have g4 := M.cell 3 4
              have g5 := M.cell 3 5
              have g6 := M.cell 2 0
              have g7 := M.cell 2 1
              have g8 := M.cell 2 2
              have g9 := M.cell 2 3
              have g10 := M.cell 2 4
              have g11 := M.cell 2 5
              refine bodyPost_ret (by simp [results, Tryz.results34, g0, g1, g2, g3, g4, g5, g6, g7, g8, g9, g10, g11, go_sem]; try rfl) rfl ?_
              exact ⟨by rw [br_5 ha hb hls h0 h1 h2 (nb h3), np_1 hs4]; rfl, M.below⟩
            · skip
              refine wp_seq (br5_r14_16 op wide taken a b ha hb p q ok hls (nb h0) (al_of h1 (nb h0)) (nb h3) (fun _ _ d _ _ h => by cases d <;> exact h) ?_ _ M)
              clear M
              intro _ _ _ _ _ _ _ _ _ _ z16 M
              refine wp_ret ?_
              try simp only [Exit.inBlock, Exit.then]
              have g0 := M.cell 3 0
              have g1 := M.cell 3 1
              have g2 := M.cell 3 2
              have g3 := M.cell 3 3
              have g4 := M.cell 3 4
              have g5 := M.cell 3 5
              have g6 := M.cell 2 0
              have g7 := M.cell 2 1
              have g8 := M.cell 2 2
              have g9 := M.cell 2 3
              have g10 := M.cell 2 4
              have g11 := M.cell 2 5
              refine bodyPost_ret (by simp [results, Tryz.results34, g0, g1, g2, g3, g4, g5, g6, g7, g8, g9, g10, g11, go_sem]; try rfl) rfl ?_
              exact ⟨by rw [br_5 ha hb hls h0 h1 h2 (nb h3), np_1 hs4]; rfl, M.below⟩
          · skip
            cases hs5 : ((normC q).isSome)
            · skip
              refine wp_seq (br5_r14_17 op wide taken a b ha hb p q ok hls (nb h0) (al_of h1 (nb h0)) (nb h3) (fun _ _ d _ _ h => by cases d <;> exact h) ?_ _ M)
              clear M
              intro _ _ _ _ _ _ _ _ _ _ z17 M
              refine wp_ret ?_
              try simp only [Exit.inBlock, Exit.then]
              have g0 := M.cell 3 0
              have g1 := M.cell 3 1
              have g2 := M.cell 3 2
              have g3 := M.cell 3 3
              have g4 := M.cell 3 4
              have g5 := M.cell 3 5
              have g6 := M.cell 2 0
              have g7 := M.cell 2 1
              have g8 := M.cell 2 2
              have g9 := M.cell 2 3
              have g10 := M.cell 2 4
              have g11 := M.cell 2 5
              refine bodyPost_ret (by simp [results, Tryz.results34, g0, g1, g2, g3, g4, g5, g6, g7, g8, g9, g10, g11, go_sem]; try rfl) rfl ?_
              exact ⟨by rw [br_5 ha hb hls h0 h1 h2 (nb h3), np_2 hs5]; rfl, M.below⟩
            · skip
              refine wp_seq (br5_r14_18 op wide taken a b ha hb p q ok hls (nb h0) (al_of h1 (nb h0)) (nb h3) (fun _ _ d _ _ h => by cases d <;> exact h) ?_ _ M)
              clear M
              intro _ _ _ _ _ _ _ _ _ _ z18 M
              refine wp_ret ?_
              try simp only [Exit.inBlock, Exit.then]
              have g0 := M.cell 3 0
              have g1 := M.cell 3 1
              have g2 := M.cell 3 2
              have g3 := M.cell 3 3
              have g4 := M.cell 3 4
              have g5 := M.cell 3 5
              have g6 := M.cell 2 0
              have g7 := M.cell 2 1
              have g8 := M.cell 2 2
              have g9 := M.cell 2 3
              have g10 := M.cell 2 4
              have g11 := M.cell 2 5
              refine bodyPost_ret (by simp [results, Tryz.results34, g0, g1, g2, g3, g4, g5, g6, g7, g8, g9, g10, g11, go_sem]; try rfl) rfl ?_
              exact ⟨by rw [br_5 ha hb hls h0 h1 h2 (nb h3), np_3 hs4 hs5]; rfl, M.below⟩
theorem branch5 (op : Int) (wide taken : Bool) (a b : C) (ha : mayC a) (hb : mayC b) (w : World) :
    Calls Tryz.prog 34 #[.int .i64 op, .bool wide, .bool taken, .agg #[.int .u64 (bi a.t.v), .int .u64 (bi a.t.m), .int .u64 a.u.lo, .int .u64 a.u.hi, .int .i64 a.s.lo, .int .i64 a.s.hi], .agg #[.int .u64 (bi b.t.v), .int .u64 (bi b.t.m), .int .u64 b.u.lo, .int .u64 b.u.hi, .int .i64 b.s.lo, .int .i64 b.s.hi]] w fun e w' => e = .returned (.tuple #[.agg #[.int .u64 (bi (((branchC op wide taken a b).getD (zeroC, zeroC)).1).t.v), .int .u64 (bi (((branchC op wide taken a b).getD (zeroC, zeroC)).1).t.m), .int .u64 ((((branchC op wide taken a b).getD (zeroC, zeroC)).1).u.lo), .int .u64 ((((branchC op wide taken a b).getD (zeroC, zeroC)).1).u.hi), .int .i64 ((((branchC op wide taken a b).getD (zeroC, zeroC)).1).s.lo), .int .i64 ((((branchC op wide taken a b).getD (zeroC, zeroC)).1).s.hi)], .agg #[.int .u64 (bi (((branchC op wide taken a b).getD (zeroC, zeroC)).2).t.v), .int .u64 (bi (((branchC op wide taken a b).getD (zeroC, zeroC)).2).t.m), .int .u64 ((((branchC op wide taken a b).getD (zeroC, zeroC)).2).u.lo), .int .u64 ((((branchC op wide taken a b).getD (zeroC, zeroC)).2).u.hi), .int .i64 ((((branchC op wide taken a b).getD (zeroC, zeroC)).2).s.lo), .int .i64 ((((branchC op wide taken a b).getD (zeroC, zeroC)).2).s.hi)], .bool ((branchC op wide taken a b).isSome)]) ∧ Below w.heap.size w w' := br5 op wide taken a b ha hb _ _ _ rfl w
end Go.Proofs.YtcimihckhobniaaGreat.Sc
