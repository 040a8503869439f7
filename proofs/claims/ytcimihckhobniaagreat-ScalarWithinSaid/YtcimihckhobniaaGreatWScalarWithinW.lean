/-
  What the program's layer 5 tells: contracts, the walk of ScalarWithin. Conditions: scalars may be, where that is said.
-/
import Derived.Test.YtcimihckhobniaaGreatWScalarP13
import Derived.Test.YtcimihckhobniaaGreatWScalarOpen
namespace Go.Proofs.YtcimihckhobniaaGreat.Sc
open Go.RowKit Tn Ow Sp
set_option linter.unusedVariables false
set_option linter.unusedSimpArgs false
set_option maxRecDepth 100000
theorem join_l {a b : C} : withC a (joinC a b) = true := by
  rw [withC_iff, withE_iff, withE_iff]; unfold joinC joinE; dsimp only
  exact ⟨join_left _ _, by omega, by omega⟩
theorem join_r {a b : C} : withC b (joinC a b) = true := by
  rw [withC_iff, withE_iff, withE_iff]; unfold joinC joinE; dsimp only
  exact ⟨join_right _ _, by omega, by omega⟩
theorem join_may {a b : C} (ha : mayC a) (hb : mayC b) : mayC (joinC a b) := by
  obtain ⟨a1, a2, a3⟩ := ha; obtain ⟨b1, b2, b3⟩ := hb
  refine mk_may (may_join _ _) ?_ ?_
  · unfold okU at *; unfold joinE; dsimp only; omega
  · unfold okS at *; unfold joinE; dsimp only; omega
theorem with_t (a b : C) (r : Bool) (h : withC a b = r) (w : World) : Calls Tryz.prog 25 #[.agg #[.int .u64 (bi a.t.v), .int .u64 (bi a.t.m), .int .u64 a.u.lo, .int .u64 a.u.hi, .int .i64 a.s.lo, .int .i64 a.s.hi], .agg #[.int .u64 (bi b.t.v), .int .u64 (bi b.t.m), .int .u64 b.u.lo, .int .u64 b.u.hi, .int .i64 b.s.lo, .int .i64 b.s.hi]] w fun e w' => e = .returned (.bool r) ∧ Below w.heap.size w w' := by subst h; exact with5 a b w
theorem in_t (a : C) (v : BitVec 64) (r : Bool) (h : inC a v = r) (w : World) : Calls Tryz.prog 23 #[.agg #[.int .u64 (bi a.t.v), .int .u64 (bi a.t.m), .int .u64 a.u.lo, .int .u64 a.u.hi, .int .i64 a.s.lo, .int .i64 a.s.hi], .int .u64 (bi v)] w fun e w' => e = .returned (.bool r) ∧ Below w.heap.size w w' := by subst h; exact in5 a v w
theorem k_spell (m : Int) (h1 : 1 ≤ m) (h2 : m ≤ 7) : IntKind.i64.wrap (8 * m) = 8 * m ∧ IntKind.u64.wrap (8 * m) = 8 * m ∧ IntKind.u64.wrap (2 ^ (8 * m).toNat) = 2 ^ (8 * m).toNat := by
  refine ⟨by rw [IntKind.wrap_i64]; omega, by rw [IntKind.wrap_u64]; omega, ?_⟩
  rcases (by omega : m = 1 ∨ m = 2 ∨ m = 3 ∨ m = 4 ∨ m = 5 ∨ m = 6 ∨ m = 7) with rfl | rfl | rfl | rfl | rfl | rfl | rfl <;> decide
theorem upk {k : Int} (h1 : 1 ≤ k) (h7 : k ≤ 7) (v : BitVec 64) : inC (uptoC k) v = decide (bi v < 2 ^ (8 * k).toNat) := by
  rw [in_upto h1 h7 v, show (8 * k).toNat = 8 * k.toNat from by omega]
theorem up8 (v : BitVec 64) : inC (uptoC 8) v = true := by rw [upto_any (by decide)]; exact in_anyC v
noncomputable def within_w_r0C : Code := (Tryz.f10.body.bind (Rg.findR 0)).getD .skip
set_option maxHeartbeats 4000000 in
theorem within_w_r0 (x y : C) (v : BitVec 64) (n k : Int) (hx : inX x) (hy : inX y) (hn : -9223372036854775808 ≤ n ∧ n ≤ 9223372036854775807) (h1 : 1 ≤ k) (h7 : k ≤ 7) (hk : max 1 (min n 7) = k) (r : Bool) (hr : withC (wtC x v) (sortC y) = r) (hi : r = true → inC (sortC y) v = true) {w0 : World}  {K : Act → World → Prop} {Q0 : Exit → Act → World → Prop} {u2 u3 u4 u5 u6 u7 u8 u9 u10 u11 u12 u13 u14 u15 u16 u17 u18 u19 u20 u21 u22 u23 u24 u25 u26 u27 u28 u29 u30 u31 u32 u33 u34 u35 u36 u37 u38 u39 u40 u41 u42 u43 u44 u45 u46 u47 u48 u49 u50 u51 u52 u53 u54 u55 u56 u57 u58 u59 u60 u61 u62 u63 u64 u65 u66 u67 u68 u69 u70 u71 u72 u73 : Value}
    (hQ : ∀ c a d v w, Q0 (.panic c) (Act.put a d v) w → Q0 (.panic c) a w)
    (hK : ∀ (t8 : Value) (d1_0 d1_1 : Nat) (z : World), Gw.Mem w0 [(d1_1, .cells #[.int .u64 (bi y.t.v), .int .u64 (bi y.t.m), .int .u64 y.u.lo, .int .u64 y.u.hi, .int .i64 y.s.lo, .int .i64 y.s.hi] 30), (d1_0, .cells #[.int .u64 (bi x.t.v), .int .u64 (bi x.t.m), .int .u64 x.u.lo, .int .u64 x.u.hi, .int .i64 x.s.lo, .int .i64 x.s.hi] 30)] z → K ⟨#[.agg #[.int .u64 (bi x.t.v), .int .u64 (bi x.t.m), .int .u64 x.u.lo, .int .u64 x.u.hi, .int .i64 x.s.lo, .int .i64 x.s.hi], .agg #[.int .u64 (bi y.t.v), .int .u64 (bi y.t.m), .int .u64 y.u.lo, .int .u64 y.u.hi, .int .i64 y.s.lo, .int .i64 y.s.hi], u2, u3, .pointer (some ⟨d1_0, 0, none⟩), .pointer (some ⟨d1_1, 0, none⟩), u6, u7, t8, u9, u10, u11, u12, u13, u14, u15, u16, u17, u18, u19, u20, u21, u22, u23, u24, u25, u26, u27, u28, u29, u30, u31, u32, u33, u34, u35, u36, u37, u38, u39, u40, u41, u42, u43, u44, u45, u46, u47, u48, u49, u50, u51, u52, u53, u54, u55, u56, u57, u58, u59, u60, u61, u62, u63, u64, u65, u66, u67, u68, u69, u70, u71, u72, u73], []⟩ z) (wy : World) (M : Gw.Mem w0 [] wy) :
    within_w_r0C.wp Tryz.prog (Exit.then K Q0) ⟨#[.agg #[.int .u64 (bi x.t.v), .int .u64 (bi x.t.m), .int .u64 x.u.lo, .int .u64 x.u.hi, .int .i64 x.s.lo, .int .i64 x.s.hi], .agg #[.int .u64 (bi y.t.v), .int .u64 (bi y.t.m), .int .u64 y.u.lo, .int .u64 y.u.hi, .int .i64 y.s.lo, .int .i64 y.s.hi], u2, u3, u4, u5, u6, u7, u8, u9, u10, u11, u12, u13, u14, u15, u16, u17, u18, u19, u20, u21, u22, u23, u24, u25, u26, u27, u28, u29, u30, u31, u32, u33, u34, u35, u36, u37, u38, u39, u40, u41, u42, u43, u44, u45, u46, u47, u48, u49, u50, u51, u52, u53, u54, u55, u56, u57, u58, u59, u60, u61, u62, u63, u64, u65, u66, u67, u68, u69, u70, u71, u72, u73], []⟩ wy := by
  have HK := Lib.hid hK
  clear hK
  conv => arg 2; whnf
  refine Gw.line _ M ?_
  clear M wy
  refine Gw.ss ?_
  intro w M K' hK
  go_simp
  have M1 := M.alloc (.cells #[.int .u64 (bi x.t.v), .int .u64 (bi x.t.m), .int .u64 x.u.lo, .int .u64 x.u.hi, .int .i64 x.s.lo, .int .i64 x.s.hi] 30)
  generalize w.heap.size = d1_0 at M1 ⊢
  refine hK.out _ _ _ M1 ?_
  clear hK K' M1 M w
  try simp only [Act.put, ptA, ptB, ptC]
  refine Gw.ss ?_
  intro w M K' hK
  go_simp
  have M1 := M.alloc (.cells #[.int .u64 (bi y.t.v), .int .u64 (bi y.t.m), .int .u64 y.u.lo, .int .u64 y.u.hi, .int .i64 y.s.lo, .int .i64 y.s.hi] 30)
  generalize w.heap.size = d1_1 at M1 ⊢
  refine hK.out _ _ _ M1 ?_
  clear hK K' M1 M w
  try simp only [Act.put, ptA, ptB, ptC]
  refine Gw.sw (.bool false) ?_
  try simp only [Act.put, ptA, ptB, ptC]
  exact fun z M => HK.out _ _ _ z M
noncomputable def within_w_r1C : Code := (Tryz.f10.body.bind (Rg.findR 1)).getD .skip
set_option maxHeartbeats 4000000 in
theorem within_w_r1 (x y : C) (v : BitVec 64) (n k : Int) (hx : inX x) (hy : inX y) (hn : -9223372036854775808 ≤ n ∧ n ≤ 9223372036854775807) (h1 : 1 ≤ k) (h7 : k ≤ 7) (hk : max 1 (min n 7) = k) (r : Bool) (hr : withC (wtC x v) (sortC y) = r) (hi : r = true → inC (sortC y) v = true) {w0 : World}  {K : Act → World → Prop} {Q0 : Exit → Act → World → Prop} {d1_1 d1_0 : Nat} {u0 u1 u3 u5 u6 u7 u8 u9 u10 u11 u12 u13 u14 u15 u16 u17 u18 u19 u20 u21 u22 u23 u24 u25 u26 u27 u28 u29 u30 u31 u32 u33 u34 u35 u36 u37 u38 u39 u40 u41 u42 u43 u44 u45 u46 u47 u48 u49 u50 u51 u52 u53 u54 u55 u56 u57 u58 u59 u60 u61 u62 u63 u64 u65 u66 u67 u68 u69 u70 u71 u72 u73 : Value}
    (hQ : ∀ c a d v w, Q0 (.panic c) (Act.put a d v) w → Q0 (.panic c) a w)
    (hK : ∀ (t11 t12 t13 : Value) (z : World), Gw.Mem w0 [(d1_1, .cells #[.int .u64 (bi y.t.v), .int .u64 (bi y.t.m), .int .u64 y.u.lo, .int .u64 y.u.hi, .int .i64 y.s.lo, .int .i64 y.s.hi] 30), (d1_0, .cells #[.int .u64 (bi (wtC x v).t.v), .int .u64 (bi (wtC x v).t.m), .int .u64 ((wtC x v).u.lo), .int .u64 ((wtC x v).u.hi), .int .i64 ((wtC x v).s.lo), .int .i64 ((wtC x v).s.hi)] 30)] z → K ⟨#[u0, u1, .int .u64 (bi v), u3, .pointer (some ⟨d1_0, 0, none⟩), u5, u6, u7, u8, u9, u10, t11, t12, t13, u14, u15, u16, u17, u18, u19, u20, u21, u22, u23, u24, u25, u26, u27, u28, u29, u30, u31, u32, u33, u34, u35, u36, u37, u38, u39, u40, u41, u42, u43, u44, u45, u46, u47, u48, u49, u50, u51, u52, u53, u54, u55, u56, u57, u58, u59, u60, u61, u62, u63, u64, u65, u66, u67, u68, u69, u70, u71, u72, u73], []⟩ z) (wy : World) (M : Gw.Mem w0 [(d1_1, .cells #[.int .u64 (bi y.t.v), .int .u64 (bi y.t.m), .int .u64 y.u.lo, .int .u64 y.u.hi, .int .i64 y.s.lo, .int .i64 y.s.hi] 30), (d1_0, .cells #[.int .u64 (bi x.t.v), .int .u64 (bi x.t.m), .int .u64 x.u.lo, .int .u64 x.u.hi, .int .i64 x.s.lo, .int .i64 x.s.hi] 30)] wy) :
    within_w_r1C.wp Tryz.prog (Exit.then K Q0) ⟨#[u0, u1, .int .u64 (bi v), u3, .pointer (some ⟨d1_0, 0, none⟩), u5, u6, u7, u8, u9, u10, u11, u12, u13, u14, u15, u16, u17, u18, u19, u20, u21, u22, u23, u24, u25, u26, u27, u28, u29, u30, u31, u32, u33, u34, u35, u36, u37, u38, u39, u40, u41, u42, u43, u44, u45, u46, u47, u48, u49, u50, u51, u52, u53, u54, u55, u56, u57, u58, u59, u60, u61, u62, u63, u64, u65, u66, u67, u68, u69, u70, u71, u72, u73], []⟩ wy := by
  have HK := Lib.hid hK
  clear hK
  conv => arg 2; whnf
  refine Gw.line _ M ?_
  clear M wy
  refine Gw.sq (.agg #[.int .u64 (bi x.t.v), .int .u64 (bi x.t.m), .int .u64 x.u.lo, .int .u64 x.u.hi, .int .i64 x.s.lo, .int .i64 x.s.hi]) ?_ ?_
  · intro w M; have c := M.c6 1; go_simp
  try simp only [Act.put, ptA, ptB, ptC]
  refine Gw.sw (.int .u64 (bi v)) ?_
  try simp only [Act.put, ptA, ptB, ptC]
  refine Gw.sk (.agg #[.int .u64 (bi (wtC x v).t.v), .int .u64 (bi (wtC x v).t.m), .int .u64 ((wtC x v).u.lo), .int .u64 ((wtC x v).u.hi), .int .i64 ((wtC x v).s.lo), .int .i64 ((wtC x v).s.hi)]) 36 #[.agg #[.int .u64 (bi x.t.v), .int .u64 (bi x.t.m), .int .u64 x.u.lo, .int .u64 x.u.hi, .int .i64 x.s.lo, .int .i64 x.s.hi], .int .u64 (bi v)] (fun w M => with5L x v w) ?_
  try simp only [Act.put, ptA, ptB, ptC]
  refine Gw.ss ?_
  intro w M K' hK
  have c := M.c6 1
  have f := M.f6 1
  go_simp
  refine hK.out _ _ _ ((((((M.set 1 0 _).set 1 1 _).set 1 2 _).set 1 3 _).set 1 4 _).set 1 5 _) ?_
  clear hK K' c f M w
  exact fun z M => HK.out _ _ _ z M
noncomputable def within_w_r2C : Code := (Tryz.f10.body.bind (Rg.findR 2)).getD .skip
set_option maxHeartbeats 4000000 in
theorem within_w_r2 (x y : C) (v : BitVec 64) (n k : Int) (hx : inX x) (hy : inX y) (hn : -9223372036854775808 ≤ n ∧ n ≤ 9223372036854775807) (h1 : 1 ≤ k) (h7 : k ≤ 7) (hk : max 1 (min n 7) = k) (r : Bool) (hr : withC (wtC x v) (sortC y) = r) (hi : r = true → inC (sortC y) v = true) {w0 : World}  {K : Act → World → Prop} {Q0 : Exit → Act → World → Prop} {d1_1 d1_0 : Nat} {u0 u1 u2 u3 u4 u6 u7 u8 u9 u10 u11 u12 u13 u14 u15 u16 u17 u18 u19 u20 u21 u22 u23 u24 u25 u26 u27 u28 u29 u30 u31 u32 u33 u34 u35 u36 u37 u38 u39 u40 u41 u42 u43 u44 u45 u46 u47 u48 u49 u50 u51 u52 u53 u54 u55 u56 u57 u58 u59 u60 u61 u62 u63 u64 u65 u66 u67 u68 u69 u70 u71 u72 u73 : Value}
    (hQ : ∀ c a d v w, Q0 (.panic c) (Act.put a d v) w → Q0 (.panic c) a w)
    (hK : ∀ (t14 t15 : Value) (z : World), Gw.Mem w0 [(d1_1, .cells #[.int .u64 (bi (sortC y).t.v), .int .u64 (bi (sortC y).t.m), .int .u64 ((sortC y).u.lo), .int .u64 ((sortC y).u.hi), .int .i64 ((sortC y).s.lo), .int .i64 ((sortC y).s.hi)] 30), (d1_0, .cells #[.int .u64 (bi (wtC x v).t.v), .int .u64 (bi (wtC x v).t.m), .int .u64 ((wtC x v).u.lo), .int .u64 ((wtC x v).u.hi), .int .i64 ((wtC x v).s.lo), .int .i64 ((wtC x v).s.hi)] 30)] z → K ⟨#[u0, u1, u2, u3, u4, .pointer (some ⟨d1_1, 0, none⟩), u6, u7, u8, u9, u10, u11, u12, u13, t14, t15, u16, u17, u18, u19, u20, u21, u22, u23, u24, u25, u26, u27, u28, u29, u30, u31, u32, u33, u34, u35, u36, u37, u38, u39, u40, u41, u42, u43, u44, u45, u46, u47, u48, u49, u50, u51, u52, u53, u54, u55, u56, u57, u58, u59, u60, u61, u62, u63, u64, u65, u66, u67, u68, u69, u70, u71, u72, u73], []⟩ z) (wy : World) (M : Gw.Mem w0 [(d1_1, .cells #[.int .u64 (bi y.t.v), .int .u64 (bi y.t.m), .int .u64 y.u.lo, .int .u64 y.u.hi, .int .i64 y.s.lo, .int .i64 y.s.hi] 30), (d1_0, .cells #[.int .u64 (bi (wtC x v).t.v), .int .u64 (bi (wtC x v).t.m), .int .u64 ((wtC x v).u.lo), .int .u64 ((wtC x v).u.hi), .int .i64 ((wtC x v).s.lo), .int .i64 ((wtC x v).s.hi)] 30)] wy) :
    within_w_r2C.wp Tryz.prog (Exit.then K Q0) ⟨#[u0, u1, u2, u3, u4, .pointer (some ⟨d1_1, 0, none⟩), u6, u7, u8, u9, u10, u11, u12, u13, u14, u15, u16, u17, u18, u19, u20, u21, u22, u23, u24, u25, u26, u27, u28, u29, u30, u31, u32, u33, u34, u35, u36, u37, u38, u39, u40, u41, u42, u43, u44, u45, u46, u47, u48, u49, u50, u51, u52, u53, u54, u55, u56, u57, u58, u59, u60, u61, u62, u63, u64, u65, u66, u67, u68, u69, u70, u71, u72, u73], []⟩ wy := by
  have HK := Lib.hid hK
  clear hK
  conv => arg 2; whnf
  refine Gw.line _ M ?_
  clear M wy
  refine Gw.sq (.agg #[.int .u64 (bi y.t.v), .int .u64 (bi y.t.m), .int .u64 y.u.lo, .int .u64 y.u.hi, .int .i64 y.s.lo, .int .i64 y.s.hi]) ?_ ?_
  · intro w M; have c := M.c6 0; go_simp
  try simp only [Act.put, ptA, ptB, ptC]
  refine Gw.sk (.agg #[.int .u64 (bi (sortC y).t.v), .int .u64 (bi (sortC y).t.m), .int .u64 ((sortC y).u.lo), .int .u64 ((sortC y).u.hi), .int .i64 ((sortC y).s.lo), .int .i64 ((sortC y).s.hi)]) 12 #[.agg #[.int .u64 (bi y.t.v), .int .u64 (bi y.t.m), .int .u64 y.u.lo, .int .u64 y.u.hi, .int .i64 y.s.lo, .int .i64 y.s.hi]] (fun w M => May5 y w) ?_
  try simp only [Act.put, ptA, ptB, ptC]
  refine Gw.ss ?_
  intro w M K' hK
  have c := M.c6 0
  have f := M.f6 0
  go_simp
  refine hK.out _ _ _ ((((((M.set 0 0 _).set 0 1 _).set 0 2 _).set 0 3 _).set 0 4 _).set 0 5 _) ?_
  clear hK K' c f M w
  exact fun z M => HK.out _ _ z M
noncomputable def within_w_r3C : Code := (Tryz.f10.body.bind (Rg.findR 3)).getD .skip
set_option maxHeartbeats 4000000 in
theorem within_w_r3 (x y : C) (v : BitVec 64) (n k : Int) (hx : inX x) (hy : inX y) (hn : -9223372036854775808 ≤ n ∧ n ≤ 9223372036854775807) (h1 : 1 ≤ k) (h7 : k ≤ 7) (hk : max 1 (min n 7) = k) (r : Bool) (hr : withC (wtC x v) (sortC y) = r) (hi : r = true → inC (sortC y) v = true) {w0 : World}  {K : Act → World → Prop} {Q0 : Exit → Act → World → Prop} {d1_1 d1_0 : Nat} {u0 u1 u2 u3 u6 u7 u8 u9 u10 u11 u12 u13 u14 u15 u16 u17 u18 u19 u20 u21 u22 u23 u24 u25 u26 u27 u28 u29 u30 u31 u32 u33 u34 u35 u36 u37 u38 u39 u40 u41 u42 u43 u44 u45 u46 u47 u48 u49 u50 u51 u52 u53 u54 u55 u56 u57 u58 u59 u60 u61 u62 u63 u64 u65 u66 u67 u68 u69 u70 u71 u72 u73 : Value}
    (hQ : ∀ c a d v w, Q0 (.panic c) (Act.put a d v) w → Q0 (.panic c) a w)
    (hK : ∀ (t16 t17 t18 : Value) (d4_3 : Nat) (z : World), Gw.Mem w0 [(d4_3, .cells #[.int .u64 (bi (joinC (wtC x v) (sortC y)).t.v), .int .u64 (bi (joinC (wtC x v) (sortC y)).t.m), .int .u64 ((joinC (wtC x v) (sortC y)).u.lo), .int .u64 ((joinC (wtC x v) (sortC y)).u.hi), .int .i64 ((joinC (wtC x v) (sortC y)).s.lo), .int .i64 ((joinC (wtC x v) (sortC y)).s.hi)] 30), (d1_1, .cells #[.int .u64 (bi (sortC y).t.v), .int .u64 (bi (sortC y).t.m), .int .u64 ((sortC y).u.lo), .int .u64 ((sortC y).u.hi), .int .i64 ((sortC y).s.lo), .int .i64 ((sortC y).s.hi)] 30), (d1_0, .cells #[.int .u64 (bi (wtC x v).t.v), .int .u64 (bi (wtC x v).t.m), .int .u64 ((wtC x v).u.lo), .int .u64 ((wtC x v).u.hi), .int .i64 ((wtC x v).s.lo), .int .i64 ((wtC x v).s.hi)] 30)] z → K ⟨#[u0, u1, u2, u3, .pointer (some ⟨d1_0, 0, none⟩), .pointer (some ⟨d1_1, 0, none⟩), u6, u7, u8, .pointer (some ⟨d4_3, 0, none⟩), u10, u11, u12, u13, u14, u15, t16, t17, t18, u19, u20, u21, u22, u23, u24, u25, u26, u27, u28, u29, u30, u31, u32, u33, u34, u35, u36, u37, u38, u39, u40, u41, u42, u43, u44, u45, u46, u47, u48, u49, u50, u51, u52, u53, u54, u55, u56, u57, u58, u59, u60, u61, u62, u63, u64, u65, u66, u67, u68, u69, u70, u71, u72, u73], []⟩ z) (wy : World) (M : Gw.Mem w0 [(d1_1, .cells #[.int .u64 (bi (sortC y).t.v), .int .u64 (bi (sortC y).t.m), .int .u64 ((sortC y).u.lo), .int .u64 ((sortC y).u.hi), .int .i64 ((sortC y).s.lo), .int .i64 ((sortC y).s.hi)] 30), (d1_0, .cells #[.int .u64 (bi (wtC x v).t.v), .int .u64 (bi (wtC x v).t.m), .int .u64 ((wtC x v).u.lo), .int .u64 ((wtC x v).u.hi), .int .i64 ((wtC x v).s.lo), .int .i64 ((wtC x v).s.hi)] 30)] wy) :
    within_w_r3C.wp Tryz.prog (Exit.then K Q0) ⟨#[u0, u1, u2, u3, .pointer (some ⟨d1_0, 0, none⟩), .pointer (some ⟨d1_1, 0, none⟩), u6, u7, u8, u9, u10, u11, u12, u13, u14, u15, u16, u17, u18, u19, u20, u21, u22, u23, u24, u25, u26, u27, u28, u29, u30, u31, u32, u33, u34, u35, u36, u37, u38, u39, u40, u41, u42, u43, u44, u45, u46, u47, u48, u49, u50, u51, u52, u53, u54, u55, u56, u57, u58, u59, u60, u61, u62, u63, u64, u65, u66, u67, u68, u69, u70, u71, u72, u73], []⟩ wy := by
  have HK := Lib.hid hK
  clear hK
  conv => arg 2; whnf
  refine Gw.line _ M ?_
  clear M wy
  refine Gw.sq (.agg #[.int .u64 (bi (wtC x v).t.v), .int .u64 (bi (wtC x v).t.m), .int .u64 ((wtC x v).u.lo), .int .u64 ((wtC x v).u.hi), .int .i64 ((wtC x v).s.lo), .int .i64 ((wtC x v).s.hi)]) ?_ ?_
  · intro w M; have c := M.c6 1; go_simp
  try simp only [Act.put, ptA, ptB, ptC]
  refine Gw.sq (.agg #[.int .u64 (bi (sortC y).t.v), .int .u64 (bi (sortC y).t.m), .int .u64 ((sortC y).u.lo), .int .u64 ((sortC y).u.hi), .int .i64 ((sortC y).s.lo), .int .i64 ((sortC y).s.hi)]) ?_ ?_
  · intro w M; have c := M.c6 0; go_simp
  try simp only [Act.put, ptA, ptB, ptC]
  refine Gw.sk (.agg #[.int .u64 (bi (joinC (wtC x v) (sortC y)).t.v), .int .u64 (bi (joinC (wtC x v) (sortC y)).t.m), .int .u64 ((joinC (wtC x v) (sortC y)).u.lo), .int .u64 ((joinC (wtC x v) (sortC y)).u.hi), .int .i64 ((joinC (wtC x v) (sortC y)).s.lo), .int .i64 ((joinC (wtC x v) (sortC y)).s.hi)]) 27 #[.agg #[.int .u64 (bi (wtC x v).t.v), .int .u64 (bi (wtC x v).t.m), .int .u64 ((wtC x v).u.lo), .int .u64 ((wtC x v).u.hi), .int .i64 ((wtC x v).s.lo), .int .i64 ((wtC x v).s.hi)], .agg #[.int .u64 (bi (sortC y).t.v), .int .u64 (bi (sortC y).t.m), .int .u64 ((sortC y).u.lo), .int .u64 ((sortC y).u.hi), .int .i64 ((sortC y).s.lo), .int .i64 ((sortC y).s.hi)]] (fun w M => join5 (wtC x v) (sortC y) w) ?_
  try simp only [Act.put, ptA, ptB, ptC]
  refine Gw.ss ?_
  intro w M K' hK
  go_simp
  have M1 := M.alloc (.cells #[.int .u64 0, .int .u64 0, .int .u64 0, .int .u64 0, .int .i64 0, .int .i64 0] 30)
  generalize w.heap.size = d4_3 at M1 ⊢
  refine hK.out _ _ _ M1 ?_
  clear hK K' M1 M w
  try simp only [Act.put, ptA, ptB, ptC]
  refine Gw.ss ?_
  intro w M K' hK
  have c := M.c6 0
  have f := M.f6 0
  go_simp
  refine hK.out _ _ _ ((((((M.set 0 0 _).set 0 1 _).set 0 2 _).set 0 3 _).set 0 4 _).set 0 5 _) ?_
  clear hK K' c f M w
  exact fun z M => HK.out _ _ _ _ z M
noncomputable def within_w_r4C : Code := (Tryz.f10.body.bind (Rg.findR 4)).getD .skip
set_option maxHeartbeats 4000000 in
theorem within_w_r4 (x y : C) (v : BitVec 64) (n k : Int) (hx : inX x) (hy : inX y) (hn : -9223372036854775808 ≤ n ∧ n ≤ 9223372036854775807) (h1 : 1 ≤ k) (h7 : k ≤ 7) (hk : max 1 (min n 7) = k) (r : Bool) (hr : withC (wtC x v) (sortC y) = r) (hi : r = true → inC (sortC y) v = true) {w0 : World}  {K : Act → World → Prop} {Q0 : Exit → Act → World → Prop} {d4_3 d1_1 d1_0 : Nat} {u0 u1 u3 u6 u7 u8 u10 u11 u12 u13 u14 u15 u16 u17 u18 u19 u20 u21 u22 u23 u24 u25 u26 u27 u28 u29 u30 u31 u32 u33 u34 u35 u36 u37 u38 u39 u40 u41 u42 u43 u44 u45 u46 u47 u48 u49 u50 u51 u52 u53 u54 u55 u56 u57 u58 u59 u60 u61 u62 u63 u64 u65 u66 u67 u68 u69 u70 u71 u72 u73 : Value}
    (hQ : ∀ c a d v w, Q0 (.panic c) (Act.put a d v) w → Q0 (.panic c) a w)
    (hK : ∀ (t19 t20 t21 t22 t23 t24 t25 t26 t27 t28 t29 t30 t31 t32 t33 t34 t35 t36 t37 t38 t39 t40 t41 t42 t43 t44 t45 t46 t47 t48 t49 t50 : Value) (z : World), Gw.Mem w0 [(d4_3, .cells #[.int .u64 (bi (joinC (wtC x v) (sortC y)).t.v), .int .u64 (bi (joinC (wtC x v) (sortC y)).t.m), .int .u64 ((joinC (wtC x v) (sortC y)).u.lo), .int .u64 ((joinC (wtC x v) (sortC y)).u.hi), .int .i64 ((joinC (wtC x v) (sortC y)).s.lo), .int .i64 ((joinC (wtC x v) (sortC y)).s.hi)] 30), (d1_1, .cells #[.int .u64 (bi (sortC y).t.v), .int .u64 (bi (sortC y).t.m), .int .u64 ((sortC y).u.lo), .int .u64 ((sortC y).u.hi), .int .i64 ((sortC y).s.lo), .int .i64 ((sortC y).s.hi)] 30), (d1_0, .cells #[.int .u64 (bi (wtC x v).t.v), .int .u64 (bi (wtC x v).t.m), .int .u64 ((wtC x v).u.lo), .int .u64 ((wtC x v).u.hi), .int .i64 ((wtC x v).s.lo), .int .i64 ((wtC x v).s.hi)] 30)] z → K ⟨#[u0, u1, .int .u64 (bi v), u3, .pointer (some ⟨d1_0, 0, none⟩), .pointer (some ⟨d1_1, 0, none⟩), u6, u7, u8, .pointer (some ⟨d4_3, 0, none⟩), u10, u11, u12, u13, u14, u15, u16, u17, u18, t19, t20, t21, t22, t23, t24, t25, t26, t27, t28, t29, t30, t31, t32, t33, t34, t35, t36, t37, t38, t39, t40, t41, t42, t43, t44, t45, t46, t47, t48, t49, t50, .bool false, u52, u53, u54, u55, u56, u57, u58, u59, u60, u61, u62, u63, u64, u65, u66, u67, u68, u69, u70, u71, u72, u73], []⟩ z) (wy : World) (M : Gw.Mem w0 [(d4_3, .cells #[.int .u64 (bi (joinC (wtC x v) (sortC y)).t.v), .int .u64 (bi (joinC (wtC x v) (sortC y)).t.m), .int .u64 ((joinC (wtC x v) (sortC y)).u.lo), .int .u64 ((joinC (wtC x v) (sortC y)).u.hi), .int .i64 ((joinC (wtC x v) (sortC y)).s.lo), .int .i64 ((joinC (wtC x v) (sortC y)).s.hi)] 30), (d1_1, .cells #[.int .u64 (bi (sortC y).t.v), .int .u64 (bi (sortC y).t.m), .int .u64 ((sortC y).u.lo), .int .u64 ((sortC y).u.hi), .int .i64 ((sortC y).s.lo), .int .i64 ((sortC y).s.hi)] 30), (d1_0, .cells #[.int .u64 (bi (wtC x v).t.v), .int .u64 (bi (wtC x v).t.m), .int .u64 ((wtC x v).u.lo), .int .u64 ((wtC x v).u.hi), .int .i64 ((wtC x v).s.lo), .int .i64 ((wtC x v).s.hi)] 30)] wy) :
    within_w_r4C.wp Tryz.prog (Exit.then K Q0) ⟨#[u0, u1, .int .u64 (bi v), u3, .pointer (some ⟨d1_0, 0, none⟩), .pointer (some ⟨d1_1, 0, none⟩), u6, u7, u8, .pointer (some ⟨d4_3, 0, none⟩), u10, u11, u12, u13, u14, u15, u16, u17, u18, u19, u20, u21, u22, u23, u24, u25, u26, u27, u28, u29, u30, u31, u32, u33, u34, u35, u36, u37, u38, u39, u40, u41, u42, u43, u44, u45, u46, u47, u48, u49, u50, u51, u52, u53, u54, u55, u56, u57, u58, u59, u60, u61, u62, u63, u64, u65, u66, u67, u68, u69, u70, u71, u72, u73], []⟩ wy := by
  have HK := Lib.hid hK
  clear hK
  conv => arg 2; whnf
  refine Gw.line _ M ?_
  clear M wy
  refine Gw.sq (.agg #[.int .u64 (bi (wtC x v).t.v), .int .u64 (bi (wtC x v).t.m), .int .u64 ((wtC x v).u.lo), .int .u64 ((wtC x v).u.hi), .int .i64 ((wtC x v).s.lo), .int .i64 ((wtC x v).s.hi)]) ?_ ?_
  · intro w M; have c := M.c6 2; go_simp
  try simp only [Act.put, ptA, ptB, ptC]
  refine Gw.sq (.agg #[.int .u64 (bi (sortC y).t.v), .int .u64 (bi (sortC y).t.m), .int .u64 ((sortC y).u.lo), .int .u64 ((sortC y).u.hi), .int .i64 ((sortC y).s.lo), .int .i64 ((sortC y).s.hi)]) ?_ ?_
  · intro w M; have c := M.c6 1; go_simp
  try simp only [Act.put, ptA, ptB, ptC]
  refine Gw.sk (.bool r) 25 #[.agg #[.int .u64 (bi (wtC x v).t.v), .int .u64 (bi (wtC x v).t.m), .int .u64 ((wtC x v).u.lo), .int .u64 ((wtC x v).u.hi), .int .i64 ((wtC x v).s.lo), .int .i64 ((wtC x v).s.hi)], .agg #[.int .u64 (bi (sortC y).t.v), .int .u64 (bi (sortC y).t.m), .int .u64 ((sortC y).u.lo), .int .u64 ((sortC y).u.hi), .int .i64 ((sortC y).s.lo), .int .i64 ((sortC y).s.hi)]] (fun w M => with_t (wtC x v) (sortC y) r hr w) ?_
  try simp only [Act.put, ptA, ptB, ptC]
  refine Gw.sw (.bool r) ?_
  try simp only [Act.put, ptA, ptB, ptC]
  cases hb0_4 : r
  · try simp only [Bool.not_true, Bool.not_false]
    refine Gw.su ?_
    try simp only [Act.put, ptA, ptB, ptC]
    refine Gw.su ?_
    try simp only [Act.put, ptA, ptB, ptC]
    refine Gw.su ?_
    try simp only [Act.put, ptA, ptB, ptC]
    refine Gw.su ?_
    try simp only [Act.put, ptA, ptB, ptC]
    refine Gw.sw (.bool false) ?_
    try simp only [Act.put, ptA, ptB, ptC]
    refine Gw.sw (.bool false) ?_
    try simp only [Act.put, ptA, ptB, ptC]
    refine Gw.sq (.agg #[.int .u64 (bi (wtC x v).t.v), .int .u64 (bi (wtC x v).t.m), .int .u64 ((wtC x v).u.lo), .int .u64 ((wtC x v).u.hi), .int .i64 ((wtC x v).s.lo), .int .i64 ((wtC x v).s.hi)]) ?_ ?_
    · intro w M; have c := M.c6 2; go_simp
    try simp only [Act.put, ptA, ptB, ptC]
    refine Gw.sq (.agg #[.int .u64 (bi (joinC (wtC x v) (sortC y)).t.v), .int .u64 (bi (joinC (wtC x v) (sortC y)).t.m), .int .u64 ((joinC (wtC x v) (sortC y)).u.lo), .int .u64 ((joinC (wtC x v) (sortC y)).u.hi), .int .i64 ((joinC (wtC x v) (sortC y)).s.lo), .int .i64 ((joinC (wtC x v) (sortC y)).s.hi)]) ?_ ?_
    · intro w M; have c := M.c6 0; go_simp
    try simp only [Act.put, ptA, ptB, ptC]
    refine Gw.sk (.bool true) 25 #[.agg #[.int .u64 (bi (wtC x v).t.v), .int .u64 (bi (wtC x v).t.m), .int .u64 ((wtC x v).u.lo), .int .u64 ((wtC x v).u.hi), .int .i64 ((wtC x v).s.lo), .int .i64 ((wtC x v).s.hi)], .agg #[.int .u64 (bi (joinC (wtC x v) (sortC y)).t.v), .int .u64 (bi (joinC (wtC x v) (sortC y)).t.m), .int .u64 ((joinC (wtC x v) (sortC y)).u.lo), .int .u64 ((joinC (wtC x v) (sortC y)).u.hi), .int .i64 ((joinC (wtC x v) (sortC y)).s.lo), .int .i64 ((joinC (wtC x v) (sortC y)).s.hi)]] (fun w M => with_t (wtC x v) (joinC (wtC x v) (sortC y)) true join_l w) ?_
    try simp only [Act.put, ptA, ptB, ptC]
    refine Gw.sw (.bool false) ?_
    try simp only [Act.put, ptA, ptB, ptC]
    refine Gw.sw (.bool false) ?_
    try simp only [Act.put, ptA, ptB, ptC]
    refine Gw.sw (.bool false) ?_
    try simp only [Act.put, ptA, ptB, ptC]
    refine Gw.sq (.agg #[.int .u64 (bi (sortC y).t.v), .int .u64 (bi (sortC y).t.m), .int .u64 ((sortC y).u.lo), .int .u64 ((sortC y).u.hi), .int .i64 ((sortC y).s.lo), .int .i64 ((sortC y).s.hi)]) ?_ ?_
    · intro w M; have c := M.c6 1; go_simp
    try simp only [Act.put, ptA, ptB, ptC]
    refine Gw.sq (.agg #[.int .u64 (bi (joinC (wtC x v) (sortC y)).t.v), .int .u64 (bi (joinC (wtC x v) (sortC y)).t.m), .int .u64 ((joinC (wtC x v) (sortC y)).u.lo), .int .u64 ((joinC (wtC x v) (sortC y)).u.hi), .int .i64 ((joinC (wtC x v) (sortC y)).s.lo), .int .i64 ((joinC (wtC x v) (sortC y)).s.hi)]) ?_ ?_
    · intro w M; have c := M.c6 0; go_simp
    try simp only [Act.put, ptA, ptB, ptC]
    refine Gw.sk (.bool true) 25 #[.agg #[.int .u64 (bi (sortC y).t.v), .int .u64 (bi (sortC y).t.m), .int .u64 ((sortC y).u.lo), .int .u64 ((sortC y).u.hi), .int .i64 ((sortC y).s.lo), .int .i64 ((sortC y).s.hi)], .agg #[.int .u64 (bi (joinC (wtC x v) (sortC y)).t.v), .int .u64 (bi (joinC (wtC x v) (sortC y)).t.m), .int .u64 ((joinC (wtC x v) (sortC y)).u.lo), .int .u64 ((joinC (wtC x v) (sortC y)).u.hi), .int .i64 ((joinC (wtC x v) (sortC y)).s.lo), .int .i64 ((joinC (wtC x v) (sortC y)).s.hi)]] (fun w M => with_t (sortC y) (joinC (wtC x v) (sortC y)) true join_r w) ?_
    try simp only [Act.put, ptA, ptB, ptC]
    refine Gw.sw (.bool false) ?_
    try simp only [Act.put, ptA, ptB, ptC]
    refine Gw.sw (.bool false) ?_
    try simp only [Act.put, ptA, ptB, ptC]
    refine Gw.sw (.bool false) ?_
    try simp only [Act.put, ptA, ptB, ptC]
    refine Gw.sq (.agg #[.int .u64 (bi (joinC (wtC x v) (sortC y)).t.v), .int .u64 (bi (joinC (wtC x v) (sortC y)).t.m), .int .u64 ((joinC (wtC x v) (sortC y)).u.lo), .int .u64 ((joinC (wtC x v) (sortC y)).u.hi), .int .i64 ((joinC (wtC x v) (sortC y)).s.lo), .int .i64 ((joinC (wtC x v) (sortC y)).s.hi)]) ?_ ?_
    · intro w M; have c := M.c6 0; go_simp
    try simp only [Act.put, ptA, ptB, ptC]
    refine Gw.sw (.int .u64 (bi v)) ?_
    try simp only [Act.put, ptA, ptB, ptC]
    refine Gw.sk (.bool true) 23 #[.agg #[.int .u64 (bi (joinC (wtC x v) (sortC y)).t.v), .int .u64 (bi (joinC (wtC x v) (sortC y)).t.m), .int .u64 ((joinC (wtC x v) (sortC y)).u.lo), .int .u64 ((joinC (wtC x v) (sortC y)).u.hi), .int .i64 ((joinC (wtC x v) (sortC y)).s.lo), .int .i64 ((joinC (wtC x v) (sortC y)).s.hi)], .int .u64 (bi v)] (fun w M => in_t (joinC (wtC x v) (sortC y)) v true (withC_in (join_may (wt_ok x v hx.1 hx.2).1 (sort_ok hy)) join_l (wt_ok x v hx.1 hx.2).2) w) ?_
    try simp only [Act.put, ptA, ptB, ptC]
    refine Gw.sw (.bool false) ?_
    try simp only [Act.put, ptA, ptB, ptC]
    refine Gw.sw (.bool false) ?_
    try simp only [Act.put, ptA, ptB, ptC]
    refine Gw.sw (.bool false) ?_
    try simp only [Act.put, ptA, ptB, ptC]
    refine Gw.sq (.agg #[.int .u64 (bi (wtC x v).t.v), .int .u64 (bi (wtC x v).t.m), .int .u64 ((wtC x v).u.lo), .int .u64 ((wtC x v).u.hi), .int .i64 ((wtC x v).s.lo), .int .i64 ((wtC x v).s.hi)]) ?_ ?_
    · intro w M; have c := M.c6 2; go_simp
    try simp only [Act.put, ptA, ptB, ptC]
    refine Gw.sq (.agg #[.int .u64 (bi (wtC x v).t.v), .int .u64 (bi (wtC x v).t.m), .int .u64 ((wtC x v).u.lo), .int .u64 ((wtC x v).u.hi), .int .i64 ((wtC x v).s.lo), .int .i64 ((wtC x v).s.hi)]) ?_ ?_
    · intro w M; have c := M.c6 2; go_simp
    try simp only [Act.put, ptA, ptB, ptC]
    refine Gw.sk (.bool true) 25 #[.agg #[.int .u64 (bi (wtC x v).t.v), .int .u64 (bi (wtC x v).t.m), .int .u64 ((wtC x v).u.lo), .int .u64 ((wtC x v).u.hi), .int .i64 ((wtC x v).s.lo), .int .i64 ((wtC x v).s.hi)], .agg #[.int .u64 (bi (wtC x v).t.v), .int .u64 (bi (wtC x v).t.m), .int .u64 ((wtC x v).u.lo), .int .u64 ((wtC x v).u.hi), .int .i64 ((wtC x v).s.lo), .int .i64 ((wtC x v).s.hi)]] (fun w M => with_t (wtC x v) (wtC x v) true (withC_refl (wt_ok x v hx.1 hx.2).1) w) ?_
    try simp only [Act.put, ptA, ptB, ptC]
    refine Gw.sw (.bool false) ?_
    try simp only [Act.put, ptA, ptB, ptC]
    refine Gw.sw (.bool false) ?_
    try simp only [Act.put, ptA, ptB, ptC]
    exact fun z M => HK.out _ _ _ _ _ _ _ _ _ _ _ _ _ _ _ _ _ _ _ _ _ _ _ _ _ _ _ _ _ _ _ _ z M
  · try simp only [Bool.not_true, Bool.not_false]
    refine Gw.sq (.agg #[.int .u64 (bi (sortC y).t.v), .int .u64 (bi (sortC y).t.m), .int .u64 ((sortC y).u.lo), .int .u64 ((sortC y).u.hi), .int .i64 ((sortC y).s.lo), .int .i64 ((sortC y).s.hi)]) ?_ ?_
    · intro w M; have c := M.c6 1; go_simp
    try simp only [Act.put, ptA, ptB, ptC]
    refine Gw.sw (.int .u64 (bi v)) ?_
    try simp only [Act.put, ptA, ptB, ptC]
    refine Gw.sk (.bool true) 23 #[.agg #[.int .u64 (bi (sortC y).t.v), .int .u64 (bi (sortC y).t.m), .int .u64 ((sortC y).u.lo), .int .u64 ((sortC y).u.hi), .int .i64 ((sortC y).s.lo), .int .i64 ((sortC y).s.hi)], .int .u64 (bi v)] (fun w M => in_t (sortC y) v true (hi (by assumption)) w) ?_
    try simp only [Act.put, ptA, ptB, ptC]
    refine Gw.sw (.bool false) ?_
    try simp only [Act.put, ptA, ptB, ptC]
    refine Gw.sw (.bool false) ?_
    try simp only [Act.put, ptA, ptB, ptC]
    refine Gw.sw (.bool false) ?_
    try simp only [Act.put, ptA, ptB, ptC]
    refine Gw.sq (.agg #[.int .u64 (bi (wtC x v).t.v), .int .u64 (bi (wtC x v).t.m), .int .u64 ((wtC x v).u.lo), .int .u64 ((wtC x v).u.hi), .int .i64 ((wtC x v).s.lo), .int .i64 ((wtC x v).s.hi)]) ?_ ?_
    · intro w M; have c := M.c6 2; go_simp
    try simp only [Act.put, ptA, ptB, ptC]
    refine Gw.sq (.agg #[.int .u64 (bi (joinC (wtC x v) (sortC y)).t.v), .int .u64 (bi (joinC (wtC x v) (sortC y)).t.m), .int .u64 ((joinC (wtC x v) (sortC y)).u.lo), .int .u64 ((joinC (wtC x v) (sortC y)).u.hi), .int .i64 ((joinC (wtC x v) (sortC y)).s.lo), .int .i64 ((joinC (wtC x v) (sortC y)).s.hi)]) ?_ ?_
    · intro w M; have c := M.c6 0; go_simp
    try simp only [Act.put, ptA, ptB, ptC]
    refine Gw.sk (.bool true) 25 #[.agg #[.int .u64 (bi (wtC x v).t.v), .int .u64 (bi (wtC x v).t.m), .int .u64 ((wtC x v).u.lo), .int .u64 ((wtC x v).u.hi), .int .i64 ((wtC x v).s.lo), .int .i64 ((wtC x v).s.hi)], .agg #[.int .u64 (bi (joinC (wtC x v) (sortC y)).t.v), .int .u64 (bi (joinC (wtC x v) (sortC y)).t.m), .int .u64 ((joinC (wtC x v) (sortC y)).u.lo), .int .u64 ((joinC (wtC x v) (sortC y)).u.hi), .int .i64 ((joinC (wtC x v) (sortC y)).s.lo), .int .i64 ((joinC (wtC x v) (sortC y)).s.hi)]] (fun w M => with_t (wtC x v) (joinC (wtC x v) (sortC y)) true join_l w) ?_
    try simp only [Act.put, ptA, ptB, ptC]
    refine Gw.sw (.bool false) ?_
    try simp only [Act.put, ptA, ptB, ptC]
    refine Gw.sw (.bool false) ?_
    try simp only [Act.put, ptA, ptB, ptC]
    refine Gw.sw (.bool false) ?_
    try simp only [Act.put, ptA, ptB, ptC]
    refine Gw.sq (.agg #[.int .u64 (bi (sortC y).t.v), .int .u64 (bi (sortC y).t.m), .int .u64 ((sortC y).u.lo), .int .u64 ((sortC y).u.hi), .int .i64 ((sortC y).s.lo), .int .i64 ((sortC y).s.hi)]) ?_ ?_
    · intro w M; have c := M.c6 1; go_simp
    try simp only [Act.put, ptA, ptB, ptC]
    refine Gw.sq (.agg #[.int .u64 (bi (joinC (wtC x v) (sortC y)).t.v), .int .u64 (bi (joinC (wtC x v) (sortC y)).t.m), .int .u64 ((joinC (wtC x v) (sortC y)).u.lo), .int .u64 ((joinC (wtC x v) (sortC y)).u.hi), .int .i64 ((joinC (wtC x v) (sortC y)).s.lo), .int .i64 ((joinC (wtC x v) (sortC y)).s.hi)]) ?_ ?_
    · intro w M; have c := M.c6 0; go_simp
    try simp only [Act.put, ptA, ptB, ptC]
    refine Gw.sk (.bool true) 25 #[.agg #[.int .u64 (bi (sortC y).t.v), .int .u64 (bi (sortC y).t.m), .int .u64 ((sortC y).u.lo), .int .u64 ((sortC y).u.hi), .int .i64 ((sortC y).s.lo), .int .i64 ((sortC y).s.hi)], .agg #[.int .u64 (bi (joinC (wtC x v) (sortC y)).t.v), .int .u64 (bi (joinC (wtC x v) (sortC y)).t.m), .int .u64 ((joinC (wtC x v) (sortC y)).u.lo), .int .u64 ((joinC (wtC x v) (sortC y)).u.hi), .int .i64 ((joinC (wtC x v) (sortC y)).s.lo), .int .i64 ((joinC (wtC x v) (sortC y)).s.hi)]] (fun w M => with_t (sortC y) (joinC (wtC x v) (sortC y)) true join_r w) ?_
    try simp only [Act.put, ptA, ptB, ptC]
    refine Gw.sw (.bool false) ?_
    try simp only [Act.put, ptA, ptB, ptC]
    refine Gw.sw (.bool false) ?_
    try simp only [Act.put, ptA, ptB, ptC]
    refine Gw.sw (.bool false) ?_
    try simp only [Act.put, ptA, ptB, ptC]
    refine Gw.sq (.agg #[.int .u64 (bi (joinC (wtC x v) (sortC y)).t.v), .int .u64 (bi (joinC (wtC x v) (sortC y)).t.m), .int .u64 ((joinC (wtC x v) (sortC y)).u.lo), .int .u64 ((joinC (wtC x v) (sortC y)).u.hi), .int .i64 ((joinC (wtC x v) (sortC y)).s.lo), .int .i64 ((joinC (wtC x v) (sortC y)).s.hi)]) ?_ ?_
    · intro w M; have c := M.c6 0; go_simp
    try simp only [Act.put, ptA, ptB, ptC]
    refine Gw.sw (.int .u64 (bi v)) ?_
    try simp only [Act.put, ptA, ptB, ptC]
    refine Gw.sk (.bool true) 23 #[.agg #[.int .u64 (bi (joinC (wtC x v) (sortC y)).t.v), .int .u64 (bi (joinC (wtC x v) (sortC y)).t.m), .int .u64 ((joinC (wtC x v) (sortC y)).u.lo), .int .u64 ((joinC (wtC x v) (sortC y)).u.hi), .int .i64 ((joinC (wtC x v) (sortC y)).s.lo), .int .i64 ((joinC (wtC x v) (sortC y)).s.hi)], .int .u64 (bi v)] (fun w M => in_t (joinC (wtC x v) (sortC y)) v true (withC_in (join_may (wt_ok x v hx.1 hx.2).1 (sort_ok hy)) join_l (wt_ok x v hx.1 hx.2).2) w) ?_
    try simp only [Act.put, ptA, ptB, ptC]
    refine Gw.sw (.bool false) ?_
    try simp only [Act.put, ptA, ptB, ptC]
    refine Gw.sw (.bool false) ?_
    try simp only [Act.put, ptA, ptB, ptC]
    refine Gw.sw (.bool false) ?_
    try simp only [Act.put, ptA, ptB, ptC]
    refine Gw.sq (.agg #[.int .u64 (bi (wtC x v).t.v), .int .u64 (bi (wtC x v).t.m), .int .u64 ((wtC x v).u.lo), .int .u64 ((wtC x v).u.hi), .int .i64 ((wtC x v).s.lo), .int .i64 ((wtC x v).s.hi)]) ?_ ?_
    · intro w M; have c := M.c6 2; go_simp
    try simp only [Act.put, ptA, ptB, ptC]
    refine Gw.sq (.agg #[.int .u64 (bi (wtC x v).t.v), .int .u64 (bi (wtC x v).t.m), .int .u64 ((wtC x v).u.lo), .int .u64 ((wtC x v).u.hi), .int .i64 ((wtC x v).s.lo), .int .i64 ((wtC x v).s.hi)]) ?_ ?_
    · intro w M; have c := M.c6 2; go_simp
    try simp only [Act.put, ptA, ptB, ptC]
    refine Gw.sk (.bool true) 25 #[.agg #[.int .u64 (bi (wtC x v).t.v), .int .u64 (bi (wtC x v).t.m), .int .u64 ((wtC x v).u.lo), .int .u64 ((wtC x v).u.hi), .int .i64 ((wtC x v).s.lo), .int .i64 ((wtC x v).s.hi)], .agg #[.int .u64 (bi (wtC x v).t.v), .int .u64 (bi (wtC x v).t.m), .int .u64 ((wtC x v).u.lo), .int .u64 ((wtC x v).u.hi), .int .i64 ((wtC x v).s.lo), .int .i64 ((wtC x v).s.hi)]] (fun w M => with_t (wtC x v) (wtC x v) true (withC_refl (wt_ok x v hx.1 hx.2).1) w) ?_
    try simp only [Act.put, ptA, ptB, ptC]
    refine Gw.sw (.bool false) ?_
    try simp only [Act.put, ptA, ptB, ptC]
    refine Gw.sw (.bool false) ?_
    try simp only [Act.put, ptA, ptB, ptC]
    exact fun z M => HK.out _ _ _ _ _ _ _ _ _ _ _ _ _ _ _ _ _ _ _ _ _ _ _ _ _ _ _ _ _ _ _ _ z M
noncomputable def within_w_r6C : Code := (Tryz.f10.body.bind (Rg.findR 6)).getD .skip
set_option maxHeartbeats 4000000 in
theorem within_w_r6 (x y : C) (v : BitVec 64) (n k : Int) (hx : inX x) (hy : inX y) (hn : -9223372036854775808 ≤ n ∧ n ≤ 9223372036854775807) (h1 : 1 ≤ k) (h7 : k ≤ 7) (hk : max 1 (min n 7) = k) (r : Bool) (hr : withC (wtC x v) (sortC y) = r) (hi : r = true → inC (sortC y) v = true) {w0 : World}  {K : Act → World → Prop} {Q0 : Exit → Act → World → Prop} {d4_3 d1_1 d1_0 : Nat} {u0 u1 u2 u4 u5 u6 u7 u8 u9 u10 u11 u12 u13 u14 u15 u16 u17 u18 u19 u20 u21 u22 u23 u24 u25 u26 u27 u28 u29 u30 u31 u32 u33 u34 u35 u36 u37 u38 u39 u40 u41 u42 u43 u44 u45 u46 u47 u48 u49 u50 u51 u52 u53 u54 u55 u56 u57 u58 u59 u60 u61 u62 u63 u64 u65 u66 u67 u68 u69 u70 u71 u72 u73 : Value}
    (hQ : ∀ c a d v w, Q0 (.panic c) (Act.put a d v) w → Q0 (.panic c) a w)
    (hK : ∀ (t52 t53 t54 : Value) (z : World), Gw.Mem w0 [(d4_3, .cells #[.int .u64 (bi (joinC (wtC x v) (sortC y)).t.v), .int .u64 (bi (joinC (wtC x v) (sortC y)).t.m), .int .u64 ((joinC (wtC x v) (sortC y)).u.lo), .int .u64 ((joinC (wtC x v) (sortC y)).u.hi), .int .i64 ((joinC (wtC x v) (sortC y)).s.lo), .int .i64 ((joinC (wtC x v) (sortC y)).s.hi)] 30), (d1_1, .cells #[.int .u64 (bi (sortC y).t.v), .int .u64 (bi (sortC y).t.m), .int .u64 ((sortC y).u.lo), .int .u64 ((sortC y).u.hi), .int .i64 ((sortC y).s.lo), .int .i64 ((sortC y).s.hi)] 30), (d1_0, .cells #[.int .u64 (bi (wtC x v).t.v), .int .u64 (bi (wtC x v).t.m), .int .u64 ((wtC x v).u.lo), .int .u64 ((wtC x v).u.hi), .int .i64 ((wtC x v).s.lo), .int .i64 ((wtC x v).s.hi)] 30)] z → K ⟨#[u0, u1, u2, .int .i64 n, u4, u5, u6, u7, u8, u9, .int .i64 k, u11, u12, u13, u14, u15, u16, u17, u18, u19, u20, u21, u22, u23, u24, u25, u26, u27, u28, u29, u30, u31, u32, u33, u34, u35, u36, u37, u38, u39, u40, u41, u42, u43, u44, u45, u46, u47, u48, u49, u50, u51, t52, t53, t54, u55, u56, u57, u58, u59, u60, u61, u62, u63, u64, u65, u66, u67, u68, u69, u70, u71, u72, u73], []⟩ z) (wy : World) (M : Gw.Mem w0 [(d4_3, .cells #[.int .u64 (bi (joinC (wtC x v) (sortC y)).t.v), .int .u64 (bi (joinC (wtC x v) (sortC y)).t.m), .int .u64 ((joinC (wtC x v) (sortC y)).u.lo), .int .u64 ((joinC (wtC x v) (sortC y)).u.hi), .int .i64 ((joinC (wtC x v) (sortC y)).s.lo), .int .i64 ((joinC (wtC x v) (sortC y)).s.hi)] 30), (d1_1, .cells #[.int .u64 (bi (sortC y).t.v), .int .u64 (bi (sortC y).t.m), .int .u64 ((sortC y).u.lo), .int .u64 ((sortC y).u.hi), .int .i64 ((sortC y).s.lo), .int .i64 ((sortC y).s.hi)] 30), (d1_0, .cells #[.int .u64 (bi (wtC x v).t.v), .int .u64 (bi (wtC x v).t.m), .int .u64 ((wtC x v).u.lo), .int .u64 ((wtC x v).u.hi), .int .i64 ((wtC x v).s.lo), .int .i64 ((wtC x v).s.hi)] 30)] wy) :
    within_w_r6C.wp Tryz.prog (Exit.then K Q0) ⟨#[u0, u1, u2, .int .i64 n, u4, u5, u6, u7, u8, u9, u10, u11, u12, u13, u14, u15, u16, u17, u18, u19, u20, u21, u22, u23, u24, u25, u26, u27, u28, u29, u30, u31, u32, u33, u34, u35, u36, u37, u38, u39, u40, u41, u42, u43, u44, u45, u46, u47, u48, u49, u50, u51, u52, u53, u54, u55, u56, u57, u58, u59, u60, u61, u62, u63, u64, u65, u66, u67, u68, u69, u70, u71, u72, u73], []⟩ wy := by
  have HK := Lib.hid hK
  clear hK
  conv => arg 2; whnf
  refine Gw.line _ M ?_
  clear M wy
  refine Gw.sw (.int .i64 n) ?_
  try simp only [Act.put, ptA, ptB, ptC]
  refine Gw.sw (.int .i64 (min n 7)) ?_ (hy := by intro w; go_simp <;> (split <;> omega))
  try simp only [Act.put, ptA, ptB, ptC]
  refine Gw.sw (.int .i64 k) ?_ (hy := by intro w; go_simp <;> (rw [← hk]; split <;> omega))
  try simp only [Act.put, ptA, ptB, ptC]
  refine Gw.sw (.int .i64 k) ?_
  try simp only [Act.put, ptA, ptB, ptC]
  exact fun z M => HK.out _ _ _ z M
noncomputable def within_w_r7C : Code := (Tryz.f10.body.bind (Rg.findR 7)).getD .skip
set_option maxHeartbeats 4000000 in
theorem within_w_r7 (x y : C) (v : BitVec 64) (n k : Int) (hx : inX x) (hy : inX y) (hn : -9223372036854775808 ≤ n ∧ n ≤ 9223372036854775807) (h1 : 1 ≤ k) (h7 : k ≤ 7) (hk : max 1 (min n 7) = k) (r : Bool) (hr : withC (wtC x v) (sortC y) = r) (hi : r = true → inC (sortC y) v = true) {w0 : World}  {K : Act → World → Prop} {Q0 : Exit → Act → World → Prop} {d4_3 d1_1 d1_0 : Nat} {u0 u1 u3 u4 u5 u6 u7 u8 u9 u11 u12 u13 u14 u15 u16 u17 u18 u19 u20 u21 u22 u23 u24 u25 u26 u27 u28 u29 u30 u31 u32 u33 u34 u35 u36 u37 u38 u39 u40 u41 u42 u43 u44 u45 u46 u47 u48 u49 u50 u51 u52 u53 u54 u55 u56 u57 u58 u59 u60 u61 u62 u63 u64 u65 u66 u67 u68 u69 u70 u71 u72 u73 : Value}
    (hQ : ∀ c a d v w, Q0 (.panic c) (Act.put a d v) w → Q0 (.panic c) a w)
    (hK : ∀ (t55 t56 t57 t58 t59 t60 t61 t62 t63 t64 t65 t66 t67 t68 t69 t70 t71 t72 t73 : Value) (z : World), Gw.Mem w0 [(d4_3, .cells #[.int .u64 (bi (joinC (wtC x v) (sortC y)).t.v), .int .u64 (bi (joinC (wtC x v) (sortC y)).t.m), .int .u64 ((joinC (wtC x v) (sortC y)).u.lo), .int .u64 ((joinC (wtC x v) (sortC y)).u.hi), .int .i64 ((joinC (wtC x v) (sortC y)).s.lo), .int .i64 ((joinC (wtC x v) (sortC y)).s.hi)] 30), (d1_1, .cells #[.int .u64 (bi (sortC y).t.v), .int .u64 (bi (sortC y).t.m), .int .u64 ((sortC y).u.lo), .int .u64 ((sortC y).u.hi), .int .i64 ((sortC y).s.lo), .int .i64 ((sortC y).s.hi)] 30), (d1_0, .cells #[.int .u64 (bi (wtC x v).t.v), .int .u64 (bi (wtC x v).t.m), .int .u64 ((wtC x v).u.lo), .int .u64 ((wtC x v).u.hi), .int .i64 ((wtC x v).s.lo), .int .i64 ((wtC x v).s.hi)] 30)] z → K ⟨#[u0, u1, .int .u64 (bi v), u3, u4, u5, u6, u7, .bool true, u9, .int .i64 k, u11, u12, u13, u14, u15, u16, u17, u18, u19, u20, u21, u22, u23, u24, u25, u26, u27, u28, u29, u30, u31, u32, u33, u34, u35, u36, u37, u38, u39, u40, u41, u42, u43, u44, u45, u46, u47, u48, u49, u50, u51, u52, u53, u54, t55, t56, t57, t58, t59, t60, t61, t62, t63, t64, t65, t66, t67, t68, t69, t70, t71, t72, t73], []⟩ z) (wy : World) (M : Gw.Mem w0 [(d4_3, .cells #[.int .u64 (bi (joinC (wtC x v) (sortC y)).t.v), .int .u64 (bi (joinC (wtC x v) (sortC y)).t.m), .int .u64 ((joinC (wtC x v) (sortC y)).u.lo), .int .u64 ((joinC (wtC x v) (sortC y)).u.hi), .int .i64 ((joinC (wtC x v) (sortC y)).s.lo), .int .i64 ((joinC (wtC x v) (sortC y)).s.hi)] 30), (d1_1, .cells #[.int .u64 (bi (sortC y).t.v), .int .u64 (bi (sortC y).t.m), .int .u64 ((sortC y).u.lo), .int .u64 ((sortC y).u.hi), .int .i64 ((sortC y).s.lo), .int .i64 ((sortC y).s.hi)] 30), (d1_0, .cells #[.int .u64 (bi (wtC x v).t.v), .int .u64 (bi (wtC x v).t.m), .int .u64 ((wtC x v).u.lo), .int .u64 ((wtC x v).u.hi), .int .i64 ((wtC x v).s.lo), .int .i64 ((wtC x v).s.hi)] 30)] wy) :
    within_w_r7C.wp Tryz.prog (Exit.then K Q0) ⟨#[u0, u1, .int .u64 (bi v), u3, u4, u5, u6, u7, u8, u9, .int .i64 k, u11, u12, u13, u14, u15, u16, u17, u18, u19, u20, u21, u22, u23, u24, u25, u26, u27, u28, u29, u30, u31, u32, u33, u34, u35, u36, u37, u38, u39, u40, u41, u42, u43, u44, u45, u46, u47, u48, u49, u50, u51, u52, u53, u54, u55, u56, u57, u58, u59, u60, u61, u62, u63, u64, u65, u66, u67, u68, u69, u70, u71, u72, u73], []⟩ wy := by
  have HK := Lib.hid hK
  clear hK
  conv => arg 2; whnf
  refine Gw.line _ M ?_
  clear M wy
  refine Gw.sw (.int .i64 k) ?_
  try simp only [Act.put, ptA, ptB, ptC]
  refine Gw.sk (.agg #[.int .u64 (bi (uptoC k).t.v), .int .u64 (bi (uptoC k).t.m), .int .u64 ((uptoC k).u.lo), .int .u64 ((uptoC k).u.hi), .int .i64 ((uptoC k).s.lo), .int .i64 ((uptoC k).s.hi)]) 21 #[.int .i64 k] (fun w M => upto5 k ⟨by omega, by omega⟩ w) ?_
  try simp only [Act.put, ptA, ptB, ptC]
  refine Gw.sw (.int .u64 (bi v)) ?_
  try simp only [Act.put, ptA, ptB, ptC]
  refine Gw.sk (.bool (decide (bi v < 2 ^ (8 * k).toNat))) 23 #[.agg #[.int .u64 (bi (uptoC k).t.v), .int .u64 (bi (uptoC k).t.m), .int .u64 ((uptoC k).u.lo), .int .u64 ((uptoC k).u.hi), .int .i64 ((uptoC k).s.lo), .int .i64 ((uptoC k).s.hi)], .int .u64 (bi v)] (fun w M => in_t (uptoC k) v (decide (bi v < 2 ^ (8 * k).toNat)) (upk h1 h7 v) w) ?_
  try simp only [Act.put, ptA, ptB, ptC]
  refine Gw.sw (.int .u64 (bi v)) ?_
  try simp only [Act.put, ptA, ptB, ptC]
  refine Gw.sw (.int .i64 k) ?_
  try simp only [Act.put, ptA, ptB, ptC]
  refine Gw.sw (.int .i64 (8 * k)) ?_ (hy := by intro w; have q := k_spell k h1 h7; have q1 := q.1; have q2 := q.2.1; have q3 := q.2.2; go_simp)
  try simp only [Act.put, ptA, ptB, ptC]
  refine Gw.sw (.int .u64 (8 * k)) ?_ (hy := by intro w; have q := k_spell k h1 h7; have q1 := q.1; have q2 := q.2.1; have q3 := q.2.2; go_simp)
  try simp only [Act.put, ptA, ptB, ptC]
  refine Gw.sw (.int .u64 (2 ^ (8 * k).toNat)) ?_ (hy := by intro w; have q := k_spell k h1 h7; have q1 := q.1; have q2 := q.2.1; have q3 := q.2.2; go_simp)
  try simp only [Act.put, ptA, ptB, ptC]
  refine Gw.sw (.bool (decide ((bi v) < (2 ^ (8 * k).toNat)))) ?_
  try simp only [Act.put, ptA, ptB, ptC]
  refine Gw.sw (.bool true) ?_ (hy := by intro w; go_simp)
  try simp only [Act.put, ptA, ptB, ptC]
  refine Gw.sw (.bool true) ?_
  try simp only [Act.put, ptA, ptB, ptC]
  refine Gw.sk (.agg #[.int .u64 (bi (uptoC 8).t.v), .int .u64 (bi (uptoC 8).t.m), .int .u64 ((uptoC 8).u.lo), .int .u64 ((uptoC 8).u.hi), .int .i64 ((uptoC 8).s.lo), .int .i64 ((uptoC 8).s.hi)]) 21 #[.int .i64 8] (fun w M => upto5 8 ⟨by decide, by decide⟩ w) ?_
  try simp only [Act.put, ptA, ptB, ptC]
  refine Gw.sw (.int .u64 (bi v)) ?_
  try simp only [Act.put, ptA, ptB, ptC]
  refine Gw.sk (.bool true) 23 #[.agg #[.int .u64 (bi (uptoC 8).t.v), .int .u64 (bi (uptoC 8).t.m), .int .u64 ((uptoC 8).u.lo), .int .u64 ((uptoC 8).u.hi), .int .i64 ((uptoC 8).s.lo), .int .i64 ((uptoC 8).s.hi)], .int .u64 (bi v)] (fun w M => in_t (uptoC 8) v true (up8 v) w) ?_
  try simp only [Act.put, ptA, ptB, ptC]
  refine Gw.sw (.bool true) ?_
  try simp only [Act.put, ptA, ptB, ptC]
  refine Gw.sw (.bool true) ?_
  try simp only [Act.put, ptA, ptB, ptC]
  refine Gw.sk (.bool true) 29 #[] (fun w M => known5 w) ?_
  try simp only [Act.put, ptA, ptB, ptC]
  refine Gw.sw (.bool true) ?_
  try simp only [Act.put, ptA, ptB, ptC]
  refine Gw.sw (.bool true) ?_
  try simp only [Act.put, ptA, ptB, ptC]
  exact fun z M => HK.out _ _ _ _ _ _ _ _ _ _ _ _ _ _ _ _ _ _ _ z M
set_option maxHeartbeats 4000000 in
theorem within_w (x y : C) (v : BitVec 64) (n k : Int) (hx : inX x) (hy : inX y) (hn : -9223372036854775808 ≤ n ∧ n ≤ 9223372036854775807) (h1 : 1 ≤ k) (h7 : k ≤ 7) (hk : max 1 (min n 7) = k) (r : Bool) (hr : withC (wtC x v) (sortC y) = r) (hi : r = true → inC (sortC y) v = true) (w : World) :
    Calls Tryz.prog 10 #[.agg #[.int .u64 (bi x.t.v), .int .u64 (bi x.t.m), .int .u64 x.u.lo, .int .u64 x.u.hi, .int .i64 x.s.lo, .int .i64 x.s.hi], .agg #[.int .u64 (bi y.t.v), .int .u64 (bi y.t.m), .int .u64 y.u.lo, .int .u64 y.u.hi, .int .i64 y.s.lo, .int .i64 y.s.hi], .int .u64 (bi v), .int .i64 n] w fun e w' => e = .returned (.bool true) ∧ Below w.heap.size w w' := by
  go_enter Tryz.func10, Tryz.ntmps10
  have M := Gw.Mem.nil w
  refine wp_seq (within_w_r0 x y v n k hx hy hn h1 h7 hk r hr hi (fun _ _ d _ _ h => by cases d <;> exact h) ?_ _ M)
  clear M
  intro _ d1_0 d1_1 z1 M
  refine wp_seq (within_w_r1 x y v n k hx hy hn h1 h7 hk r hr hi (fun _ _ d _ _ h => by cases d <;> exact h) ?_ _ M)
  clear M
  intro _ _ _ z2 M
  refine wp_seq (within_w_r2 x y v n k hx hy hn h1 h7 hk r hr hi (fun _ _ d _ _ h => by cases d <;> exact h) ?_ _ M)
  clear M
  intro _ _ z3 M
  refine wp_seq (within_w_r3 x y v n k hx hy hn h1 h7 hk r hr hi (fun _ _ d _ _ h => by cases d <;> exact h) ?_ _ M)
  clear M
  intro _ _ _ d4_3 z4 M
  refine wp_seq ?_
  refine wp_seq (within_w_r4 x y v n k hx hy hn h1 h7 hk r hr hi (fun _ _ d _ _ h => by cases d <;> exact h) ?_ _ M)
  clear M
  intro _ _ _ _ _ _ _ _ _ _ _ _ _ _ _ _ _ _ _ _ _ _ _ _ _ _ _ _ _ _ _ _ z5 M
  refine wp_cond_false rfl ?_
  refine wp_skip ?_
  try simp only [Exit.inBlock, Exit.then]
  refine wp_seq (within_w_r6 x y v n k hx hy hn h1 h7 hk r hr hi (fun _ _ d _ _ h => by cases d <;> exact h) ?_ _ M)
  clear M
  intro _ _ _ z6 M
  refine wp_seq (within_w_r7 x y v n k hx hy hn h1 h7 hk r hr hi (fun _ _ d _ _ h => by cases d <;> exact h) ?_ _ M)
  clear M
  intro _ _ _ _ _ _ _ _ _ _ _ _ _ _ _ _ _ _ _ z7 M
  refine wp_ret ?_
  try simp only [Exit.inBlock, Exit.then]
  refine bodyPost_ret (by simp [results, Tryz.results10, go_sem]; try rfl) rfl ?_
  exact ⟨rfl, M.below⟩
end Go.Proofs.YtcimihckhobniaaGreat.Sc
