/-
  Texts of layer 5 and of those below it, put together: contracts and plain mathematics that ScalarSwap needs.
-/
import Derived.Test.YtcimihckhobniaaGreatXScalarP13
import Derived.Test.YtcimihckhobniaaGreatXM3
import Derived.Deep.Slices
import Derived.Deep.Fields
import Derived.OpenShut
import Derived.ProofKit
namespace Go.Proofs.YtcimihckhobniaaGreat.Sc
open Go.RowKit Tn Ow Sp
set_option linter.unusedVariables false
set_option linter.unusedSimpArgs false
set_option maxRecDepth 100000
theorem swapV_bd (n : Int) (high : Bool) (v : Int) (h : 0 ≤ v ∧ v ≤ 18446744073709551615) : 0 ≤ Wd.swapV n high v ∧ Wd.swapV n high v ≤ 18446744073709551615 := by
  have h1 := rev_bd 2 v.toNat
  have h2 := rev_bd 4 v.toNat
  have h3 := rev_bd 8 v.toNat
  unfold Wd.swapV
  split
  · split <;> omega
  · split
    · split <;> omega
    · split
      · split <;> omega
      · omega
theorem q8 {n : Int} (h : Wd.swapOk n = true) : IntKind.i64.wrap (n.tdiv 8) = n / 8 := by
  rcases (of_decide_eq_true h : n = 16 ∨ n = 32 ∨ n = 64) with rfl | rfl | rfl <;> decide
theorem q9 {n : Int} (h : Wd.swapOk n = true) : n.tdiv 8 = n / 8 := by
  rcases (of_decide_eq_true h : n = 16 ∨ n = 32 ∨ n = 64) with rfl | rfl | rfl <;> decide
theorem swap_1 {n : Int} {high : Bool} {a : C} (h : (!(Wd.swapOk n)) = true) : swapC n high a = anyC := by unfold swapC; rw [if_pos (nt h)]
theorem swap_2 {n : Int} {high : Bool} {a : C} (h : (!(Wd.swapOk n)) = false) (g : aloneC a = true) : swapC n high a = numC (Wd.swapV n high (oneC a)) := by unfold swapC; rw [if_neg (by rw [nb h]; decide), if_pos g]
theorem swap_3 {n : Int} {high : Bool} {a : C} (h : (!(Wd.swapOk n)) = false) (g : aloneC a = false) (k : ((n == 64) && (!high)) = true) : swapC n high a = a := by
  unfold swapC; rw [if_neg (by rw [nb h]; decide), if_neg (by rw [g]; decide), if_pos (by simpa using k)]
theorem swap_4 {n : Int} {high : Bool} {a : C} (h : (!(Wd.swapOk n)) = false) (g : aloneC a = false) (k : ((n == 64) && (!high)) = false) : swapC n high a = uptoC (n / 8) := by
  unfold swapC; rw [if_neg (by rw [nb h]; decide), if_neg (by rw [g]; decide), if_neg (by intro q; rw [q.1, q.2] at k; cases k)]
noncomputable def swap5_r0C : Code := (Tryz.f32.body.bind (Rg.findR 0)).getD .skip
set_option maxHeartbeats 4000000 in
theorem swap5_r0 (bits : Int) (high : Bool) (a : C) (ha : mayC a) (hb : -9223372036854775808 ≤ bits ∧ bits ≤ 9223372036854775807) {w0 : World}  {K : Act → World → Prop} {Q0 : Exit → Act → World → Prop} {u0 u1 u3 u4 u5 u6 u7 u8 u9 u10 u11 u12 u13 u14 u15 u16 u17 u18 u19 u20 u21 u22 u23 u24 u25 u26 u27 u28 u29 u30 u31 u32 u33 u34 u35 u36 u37 u38 u39 u40 u41 u42 u43 u44 : Value}
    (hQ : ∀ c a d v w, Q0 (.panic c) (Act.put a d v) w → Q0 (.panic c) a w)
    (hK : ∀ (d1_0 d1_1 : Nat) (z : World), Gw.Mem w0 [(d1_1, .cells #[.int .u64 0, .int .u64 0, .int .u64 0, .int .u64 0, .int .i64 0, .int .i64 0] 30), (d1_0, .cells #[.int .u64 (bi a.t.v), .int .u64 (bi a.t.m), .int .u64 a.u.lo, .int .u64 a.u.hi, .int .i64 a.s.lo, .int .i64 a.s.hi] 30)] z → K ⟨#[u0, u1, .agg #[.int .u64 (bi a.t.v), .int .u64 (bi a.t.m), .int .u64 a.u.lo, .int .u64 a.u.hi, .int .i64 a.s.lo, .int .i64 a.s.hi], u3, u4, .pointer (some ⟨d1_0, 0, none⟩), .pointer (some ⟨d1_1, 0, none⟩), u7, u8, u9, u10, u11, u12, u13, u14, u15, u16, u17, u18, u19, u20, u21, u22, u23, u24, u25, u26, u27, u28, u29, u30, u31, u32, u33, u34, u35, u36, u37, u38, u39, u40, u41, u42, u43, u44], []⟩ z) (wy : World) (M : Gw.Mem w0 [] wy) :
    swap5_r0C.wp Tryz.prog (Exit.then K Q0) ⟨#[u0, u1, .agg #[.int .u64 (bi a.t.v), .int .u64 (bi a.t.m), .int .u64 a.u.lo, .int .u64 a.u.hi, .int .i64 a.s.lo, .int .i64 a.s.hi], u3, u4, u5, u6, u7, u8, u9, u10, u11, u12, u13, u14, u15, u16, u17, u18, u19, u20, u21, u22, u23, u24, u25, u26, u27, u28, u29, u30, u31, u32, u33, u34, u35, u36, u37, u38, u39, u40, u41, u42, u43, u44], []⟩ wy := by
  have HK := Lib.hid hK
  clear hK
  conv => arg 2; whnf
  refine Gw.line _ M ?_
  clear M wy
  refine Gw.ss ?_
  intro w M K' hK
  go_simp
  have M1 := M.alloc (.cells #[.int .u64 (bi a.t.v), .int .u64 (bi a.t.m), .int .u64 a.u.lo, .int .u64 a.u.hi, .int .i64 a.s.lo, .int .i64 a.s.hi] 30)
  generalize w.heap.size = d1_0 at M1 ⊢
  refine hK.out _ _ _ M1 ?_
  clear hK K' M1 M w
  try simp only [Act.put, ptA, ptB, ptC]
  refine Gw.ss ?_
  intro w M K' hK
  go_simp
  have M1 := M.alloc (.cells #[.int .u64 0, .int .u64 0, .int .u64 0, .int .u64 0, .int .i64 0, .int .i64 0] 30)
  generalize w.heap.size = d1_1 at M1 ⊢
  refine hK.out _ _ _ M1 ?_
  clear hK K' M1 M w
  try simp only [Act.put, ptA, ptB, ptC]
  exact fun z M => HK.out _ _ z M
noncomputable def swap5_r1C : Code := (Tryz.f32.body.bind (Rg.findR 1)).getD .skip
set_option maxHeartbeats 4000000 in
theorem swap5_r1 (bits : Int) (high : Bool) (a : C) (ha : mayC a) (hb : -9223372036854775808 ≤ bits ∧ bits ≤ 9223372036854775807) {w0 : World}  {K : Act → World → Prop} {Q0 : Exit → Act → World → Prop} {d1_1 d1_0 : Nat} {u2 u3 u4 u5 u6 u7 u8 u9 u10 u11 u12 u13 u14 u15 u16 u17 u18 u19 u20 u21 u22 u23 u24 u25 u26 u27 u28 u29 u30 u31 u32 u33 u34 u35 u36 u37 u38 u39 u40 u41 u42 u43 u44 : Value}
    (hQ : ∀ c a d v w, Q0 (.panic c) (Act.put a d v) w → Q0 (.panic c) a w)
    (hK : ∀ (t7 t11 t12 t13 t14 t15 t16 : Value) (z : World), Gw.Mem w0 [(d1_1, .cells #[.int .u64 0, .int .u64 0, .int .u64 0, .int .u64 0, .int .i64 0, .int .i64 0] 30), (d1_0, .cells #[.int .u64 (bi a.t.v), .int .u64 (bi a.t.m), .int .u64 a.u.lo, .int .u64 a.u.hi, .int .i64 a.s.lo, .int .i64 a.s.hi] 30)] z → K ⟨#[.int .i64 bits, .bool high, u2, u3, u4, u5, u6, t7, .bool (Wd.swapOk bits), u9, u10, t11, t12, t13, t14, t15, t16, u17, u18, u19, u20, u21, u22, u23, u24, u25, u26, u27, u28, u29, u30, u31, u32, u33, u34, u35, u36, u37, u38, u39, u40, u41, u42, u43, u44], []⟩ z) (wy : World) (M : Gw.Mem w0 [(d1_1, .cells #[.int .u64 0, .int .u64 0, .int .u64 0, .int .u64 0, .int .i64 0, .int .i64 0] 30), (d1_0, .cells #[.int .u64 (bi a.t.v), .int .u64 (bi a.t.m), .int .u64 a.u.lo, .int .u64 a.u.hi, .int .i64 a.s.lo, .int .i64 a.s.hi] 30)] wy) :
    swap5_r1C.wp Tryz.prog (Exit.then K Q0) ⟨#[.int .i64 bits, .bool high, u2, u3, u4, u5, u6, u7, u8, u9, u10, u11, u12, u13, u14, u15, u16, u17, u18, u19, u20, u21, u22, u23, u24, u25, u26, u27, u28, u29, u30, u31, u32, u33, u34, u35, u36, u37, u38, u39, u40, u41, u42, u43, u44], []⟩ wy := by
  have HK := Lib.hid hK
  clear hK
  conv => arg 2; whnf
  refine Gw.line _ M ?_
  clear M wy
  refine Gw.sw (.int .i64 bits) ?_
  try simp only [Act.put, ptA, ptB, ptC]
  refine Gw.sw (.bool high) ?_
  try simp only [Act.put, ptA, ptB, ptC]
  refine Gw.sk (.tuple #[.int .u64 (Wd.swapV bits high 0), .bool (Wd.swapOk bits)]) 39 #[.int .i64 bits, .bool high, .int .u64 0] (fun w M => Gw.pure (L1.swap_any bits high 0 bd0.1 bd0.2 w)) ?_
  try simp only [Act.put, ptA, ptB, ptC]
  refine Gw.sw (.tuple #[.int .u64 (Wd.swapV bits high 0), .bool (Wd.swapOk bits)]) ?_
  try simp only [Act.put, ptA, ptB, ptC]
  refine Gw.sw (.int .u64 (Wd.swapV bits high 0)) ?_
  try simp only [Act.put, ptA, ptB, ptC]
  refine Gw.sw (.bool (Wd.swapOk bits)) ?_
  try simp only [Act.put, ptA, ptB, ptC]
  refine Gw.sw (.int .u64 (Wd.swapV bits high 0)) ?_
  try simp only [Act.put, ptA, ptB, ptC]
  refine Gw.sw (.bool (Wd.swapOk bits)) ?_
  try simp only [Act.put, ptA, ptB, ptC]
  exact fun z M => HK.out _ _ _ _ _ _ _ z M
noncomputable def swap5_r2C : Code := (Tryz.f32.body.bind (Rg.findR 2)).getD .skip
set_option maxHeartbeats 4000000 in
theorem swap5_r2 (bits : Int) (high : Bool) (a : C) (ha : mayC a) (hb : -9223372036854775808 ≤ bits ∧ bits ≤ 9223372036854775807) {w0 : World}  {K : Act → World → Prop} {Q0 : Exit → Act → World → Prop} {d1_1 d1_0 : Nat} {u0 u1 u2 u3 u4 u5 u6 u7 u9 u10 u11 u12 u13 u14 u15 u16 u17 u18 u19 u20 u21 u22 u23 u24 u25 u26 u27 u28 u29 u30 u31 u32 u33 u34 u35 u36 u37 u38 u39 u40 u41 u42 u43 u44 : Value}
    (hQ : ∀ c a d v w, Q0 (.panic c) (Act.put a d v) w → Q0 (.panic c) a w)
    (hK : ∀ (t17 : Value) (z : World), Gw.Mem w0 [(d1_1, .cells #[.int .u64 0, .int .u64 0, .int .u64 0, .int .u64 0, .int .i64 0, .int .i64 0] 30), (d1_0, .cells #[.int .u64 (bi a.t.v), .int .u64 (bi a.t.m), .int .u64 a.u.lo, .int .u64 a.u.hi, .int .i64 a.s.lo, .int .i64 a.s.hi] 30)] z → K ⟨#[u0, u1, u2, u3, u4, u5, u6, u7, .bool (Wd.swapOk bits), u9, u10, u11, u12, u13, u14, u15, u16, t17, .bool (!(Wd.swapOk bits)), u19, u20, u21, u22, u23, u24, u25, u26, u27, u28, u29, u30, u31, u32, u33, u34, u35, u36, u37, u38, u39, u40, u41, u42, u43, u44], []⟩ z) (wy : World) (M : Gw.Mem w0 [(d1_1, .cells #[.int .u64 0, .int .u64 0, .int .u64 0, .int .u64 0, .int .i64 0, .int .i64 0] 30), (d1_0, .cells #[.int .u64 (bi a.t.v), .int .u64 (bi a.t.m), .int .u64 a.u.lo, .int .u64 a.u.hi, .int .i64 a.s.lo, .int .i64 a.s.hi] 30)] wy) :
    swap5_r2C.wp Tryz.prog (Exit.then K Q0) ⟨#[u0, u1, u2, u3, u4, u5, u6, u7, .bool (Wd.swapOk bits), u9, u10, u11, u12, u13, u14, u15, u16, u17, u18, u19, u20, u21, u22, u23, u24, u25, u26, u27, u28, u29, u30, u31, u32, u33, u34, u35, u36, u37, u38, u39, u40, u41, u42, u43, u44], []⟩ wy := by
  have HK := Lib.hid hK
  clear hK
  conv => arg 2; whnf
  refine Gw.line _ M ?_
  clear M wy
  refine Gw.sw (.bool (Wd.swapOk bits)) ?_
  try simp only [Act.put, ptA, ptB, ptC]
  refine Gw.sw (.bool (!(Wd.swapOk bits))) ?_
  try simp only [Act.put, ptA, ptB, ptC]
  exact fun z M => HK.out _ z M
noncomputable def swap5_r3C : Code := (Tryz.f32.body.bind (Rg.findR 3)).getD .skip
set_option maxHeartbeats 4000000 in
theorem swap5_r3 (bits : Int) (high : Bool) (a : C) (ha : mayC a) (hb : -9223372036854775808 ≤ bits ∧ bits ≤ 9223372036854775807) {w0 : World}  {K : Act → World → Prop} {Q0 : Exit → Act → World → Prop} {d1_1 d1_0 : Nat} {u0 u1 u2 u3 u4 u5 u7 u8 u9 u10 u11 u12 u13 u14 u15 u16 u17 u18 u19 u20 u21 u22 u23 u24 u25 u26 u27 u28 u29 u30 u31 u32 u33 u34 u35 u36 u37 u38 u39 u40 u41 u42 u43 u44 : Value}
    (hQ : ∀ c a d v w, Q0 (.panic c) (Act.put a d v) w → Q0 (.panic c) a w)
    (hK : ∀ (t19 : Value) (z : World), Gw.Mem w0 [(d1_1, .cells #[.int .u64 (bi anyC.t.v), .int .u64 (bi anyC.t.m), .int .u64 anyC.u.lo, .int .u64 anyC.u.hi, .int .i64 anyC.s.lo, .int .i64 anyC.s.hi] 30), (d1_0, .cells #[.int .u64 (bi a.t.v), .int .u64 (bi a.t.m), .int .u64 a.u.lo, .int .u64 a.u.hi, .int .i64 a.s.lo, .int .i64 a.s.hi] 30)] z → K ⟨#[u0, u1, u2, u3, u4, u5, .pointer (some ⟨d1_1, 0, none⟩), u7, u8, u9, u10, u11, u12, u13, u14, u15, u16, u17, u18, t19, u20, u21, u22, u23, u24, u25, u26, u27, u28, u29, u30, u31, u32, u33, u34, u35, u36, u37, u38, u39, u40, u41, u42, u43, u44], []⟩ z) (wy : World) (M : Gw.Mem w0 [(d1_1, .cells #[.int .u64 0, .int .u64 0, .int .u64 0, .int .u64 0, .int .i64 0, .int .i64 0] 30), (d1_0, .cells #[.int .u64 (bi a.t.v), .int .u64 (bi a.t.m), .int .u64 a.u.lo, .int .u64 a.u.hi, .int .i64 a.s.lo, .int .i64 a.s.hi] 30)] wy) :
    swap5_r3C.wp Tryz.prog (Exit.then K Q0) ⟨#[u0, u1, u2, u3, u4, u5, .pointer (some ⟨d1_1, 0, none⟩), u7, u8, u9, u10, u11, u12, u13, u14, u15, u16, u17, u18, u19, u20, u21, u22, u23, u24, u25, u26, u27, u28, u29, u30, u31, u32, u33, u34, u35, u36, u37, u38, u39, u40, u41, u42, u43, u44], []⟩ wy := by
  have HK := Lib.hid hK
  clear hK
  conv => arg 2; whnf
  refine Gw.line _ M ?_
  clear M wy
  refine Gw.sk (.agg #[.int .u64 (bi anyC.t.v), .int .u64 (bi anyC.t.m), .int .u64 anyC.u.lo, .int .u64 anyC.u.hi, .int .i64 anyC.s.lo, .int .i64 anyC.s.hi]) 19 #[] (fun w M => any5 w) ?_
  try simp only [Act.put, ptA, ptB, ptC]
  refine Gw.ss ?_
  intro w M K' hK
  have c := M.c6 0
  have f := M.f6 0
  go_simp
  refine hK.out _ _ _ ((((((M.set 0 0 _).set 0 1 _).set 0 2 _).set 0 3 _).set 0 4 _).set 0 5 _) ?_
  clear hK K' c f M w
  exact fun z M => HK.out _ z M
noncomputable def swap5_r4C : Code := (Tryz.f32.body.bind (Rg.findR 4)).getD .skip
set_option maxHeartbeats 4000000 in
theorem swap5_r4 (bits : Int) (high : Bool) (a : C) (ha : mayC a) (hb : -9223372036854775808 ≤ bits ∧ bits ≤ 9223372036854775807) {w0 : World}  {K : Act → World → Prop} {Q0 : Exit → Act → World → Prop} {d1_1 d1_0 : Nat} {u0 u1 u2 u3 u4 u6 u7 u8 u9 u10 u11 u12 u13 u14 u15 u16 u17 u18 u19 u20 u21 u22 u23 u24 u25 u26 u27 u28 u29 u30 u31 u32 u33 u34 u35 u36 u37 u38 u39 u40 u41 u42 u43 u44 : Value}
    (hQ : ∀ c a d v w, Q0 (.panic c) (Act.put a d v) w → Q0 (.panic c) a w)
    (hK : ∀ (t20 t21 t22 t23 t24 : Value) (z : World), Gw.Mem w0 [(d1_1, .cells #[.int .u64 0, .int .u64 0, .int .u64 0, .int .u64 0, .int .i64 0, .int .i64 0] 30), (d1_0, .cells #[.int .u64 (bi a.t.v), .int .u64 (bi a.t.m), .int .u64 a.u.lo, .int .u64 a.u.hi, .int .i64 a.s.lo, .int .i64 a.s.hi] 30)] z → K ⟨#[u0, u1, u2, u3, u4, .pointer (some ⟨d1_0, 0, none⟩), u6, u7, u8, .int .u64 (oneC a), .bool (aloneC a), u11, u12, u13, u14, u15, u16, u17, u18, u19, t20, t21, t22, t23, t24, u25, u26, u27, u28, u29, u30, u31, u32, u33, u34, u35, u36, u37, u38, u39, u40, u41, u42, u43, u44], []⟩ z) (wy : World) (M : Gw.Mem w0 [(d1_1, .cells #[.int .u64 0, .int .u64 0, .int .u64 0, .int .u64 0, .int .i64 0, .int .i64 0] 30), (d1_0, .cells #[.int .u64 (bi a.t.v), .int .u64 (bi a.t.m), .int .u64 a.u.lo, .int .u64 a.u.hi, .int .i64 a.s.lo, .int .i64 a.s.hi] 30)] wy) :
    swap5_r4C.wp Tryz.prog (Exit.then K Q0) ⟨#[u0, u1, u2, u3, u4, .pointer (some ⟨d1_0, 0, none⟩), u6, u7, u8, u9, u10, u11, u12, u13, u14, u15, u16, u17, u18, u19, u20, u21, u22, u23, u24, u25, u26, u27, u28, u29, u30, u31, u32, u33, u34, u35, u36, u37, u38, u39, u40, u41, u42, u43, u44], []⟩ wy := by
  have HK := Lib.hid hK
  clear hK
  conv => arg 2; whnf
  refine Gw.line _ M ?_
  clear M wy
  refine Gw.sq (.agg #[.int .u64 (bi a.t.v), .int .u64 (bi a.t.m), .int .u64 a.u.lo, .int .u64 a.u.hi, .int .i64 a.s.lo, .int .i64 a.s.hi]) ?_ ?_
  · intro w M; have c := M.c6 1; go_simp
  try simp only [Act.put, ptA, ptB, ptC]
  refine Gw.sk (.tuple #[.int .u64 (oneC a), .bool (aloneC a)]) 13 #[.agg #[.int .u64 (bi a.t.v), .int .u64 (bi a.t.m), .int .u64 a.u.lo, .int .u64 a.u.hi, .int .i64 a.s.lo, .int .i64 a.s.hi]] (fun w M => is5 a ha w) ?_
  try simp only [Act.put, ptA, ptB, ptC]
  refine Gw.sw (.tuple #[.int .u64 (oneC a), .bool (aloneC a)]) ?_
  try simp only [Act.put, ptA, ptB, ptC]
  refine Gw.sw (.int .u64 (oneC a)) ?_
  try simp only [Act.put, ptA, ptB, ptC]
  refine Gw.sw (.bool (aloneC a)) ?_
  try simp only [Act.put, ptA, ptB, ptC]
  refine Gw.sw (.int .u64 (oneC a)) ?_
  try simp only [Act.put, ptA, ptB, ptC]
  refine Gw.sw (.bool (aloneC a)) ?_
  try simp only [Act.put, ptA, ptB, ptC]
  exact fun z M => HK.out _ _ _ _ _ z M
noncomputable def swap5_r5C : Code := (Tryz.f32.body.bind (Rg.findR 5)).getD .skip
set_option maxHeartbeats 4000000 in
theorem swap5_r5 (bits : Int) (high : Bool) (a : C) (ha : mayC a) (hb : -9223372036854775808 ≤ bits ∧ bits ≤ 9223372036854775807) {w0 : World}  {K : Act → World → Prop} {Q0 : Exit → Act → World → Prop} {d1_1 d1_0 : Nat} {u0 u1 u2 u3 u4 u5 u6 u7 u8 u9 u11 u12 u13 u14 u15 u16 u17 u18 u19 u20 u21 u22 u23 u24 u25 u26 u27 u28 u29 u30 u31 u32 u33 u34 u35 u36 u37 u38 u39 u40 u41 u42 u43 u44 : Value}
    (hQ : ∀ c a d v w, Q0 (.panic c) (Act.put a d v) w → Q0 (.panic c) a w)
    (hK : ∀ (z : World), Gw.Mem w0 [(d1_1, .cells #[.int .u64 0, .int .u64 0, .int .u64 0, .int .u64 0, .int .i64 0, .int .i64 0] 30), (d1_0, .cells #[.int .u64 (bi a.t.v), .int .u64 (bi a.t.m), .int .u64 a.u.lo, .int .u64 a.u.hi, .int .i64 a.s.lo, .int .i64 a.s.hi] 30)] z → K ⟨#[u0, u1, u2, u3, u4, u5, u6, u7, u8, u9, .bool (aloneC a), u11, u12, u13, u14, u15, u16, u17, u18, u19, u20, u21, u22, u23, u24, .bool (aloneC a), u26, u27, u28, u29, u30, u31, u32, u33, u34, u35, u36, u37, u38, u39, u40, u41, u42, u43, u44], []⟩ z) (wy : World) (M : Gw.Mem w0 [(d1_1, .cells #[.int .u64 0, .int .u64 0, .int .u64 0, .int .u64 0, .int .i64 0, .int .i64 0] 30), (d1_0, .cells #[.int .u64 (bi a.t.v), .int .u64 (bi a.t.m), .int .u64 a.u.lo, .int .u64 a.u.hi, .int .i64 a.s.lo, .int .i64 a.s.hi] 30)] wy) :
    swap5_r5C.wp Tryz.prog (Exit.then K Q0) ⟨#[u0, u1, u2, u3, u4, u5, u6, u7, u8, u9, .bool (aloneC a), u11, u12, u13, u14, u15, u16, u17, u18, u19, u20, u21, u22, u23, u24, u25, u26, u27, u28, u29, u30, u31, u32, u33, u34, u35, u36, u37, u38, u39, u40, u41, u42, u43, u44], []⟩ wy := by
  have HK := Lib.hid hK
  clear hK
  conv => arg 2; whnf
  refine Gw.line _ M ?_
  clear M wy
  refine Gw.sw (.bool (aloneC a)) ?_
  try simp only [Act.put, ptA, ptB, ptC]
  exact fun z M => HK.out  z M
noncomputable def swap5_r6C : Code := (Tryz.f32.body.bind (Rg.findR 6)).getD .skip
set_option maxHeartbeats 4000000 in
theorem swap5_r6 (bits : Int) (high : Bool) (a : C) (ha : mayC a) (hb : -9223372036854775808 ≤ bits ∧ bits ≤ 9223372036854775807) {w0 : World}  {K : Act → World → Prop} {Q0 : Exit → Act → World → Prop} {d1_1 d1_0 : Nat} {u2 u3 u4 u5 u6 u7 u8 u10 u11 u12 u13 u14 u15 u16 u17 u18 u19 u20 u21 u22 u23 u24 u25 u26 u27 u28 u29 u30 u31 u32 u33 u34 u35 u36 u37 u38 u39 u40 u41 u42 u43 u44 : Value}
    (hQ : ∀ c a d v w, Q0 (.panic c) (Act.put a d v) w → Q0 (.panic c) a w)
    (hK : ∀ (t26 t27 t28 t29 t30 t31 t32 : Value) (z : World), Gw.Mem w0 [(d1_1, .cells #[.int .u64 0, .int .u64 0, .int .u64 0, .int .u64 0, .int .i64 0, .int .i64 0] 30), (d1_0, .cells #[.int .u64 (bi a.t.v), .int .u64 (bi a.t.m), .int .u64 a.u.lo, .int .u64 a.u.hi, .int .i64 a.s.lo, .int .i64 a.s.hi] 30)] z → K ⟨#[.int .i64 bits, .bool high, u2, u3, u4, u5, u6, u7, u8, .int .u64 (Wd.swapV bits high (oneC a)), u10, u11, u12, u13, u14, u15, u16, u17, u18, u19, u20, u21, u22, u23, u24, u25, t26, t27, t28, t29, t30, t31, t32, u33, u34, u35, u36, u37, u38, u39, u40, u41, u42, u43, u44], []⟩ z) (wy : World) (M : Gw.Mem w0 [(d1_1, .cells #[.int .u64 0, .int .u64 0, .int .u64 0, .int .u64 0, .int .i64 0, .int .i64 0] 30), (d1_0, .cells #[.int .u64 (bi a.t.v), .int .u64 (bi a.t.m), .int .u64 a.u.lo, .int .u64 a.u.hi, .int .i64 a.s.lo, .int .i64 a.s.hi] 30)] wy) :
    swap5_r6C.wp Tryz.prog (Exit.then K Q0) ⟨#[.int .i64 bits, .bool high, u2, u3, u4, u5, u6, u7, u8, .int .u64 (oneC a), u10, u11, u12, u13, u14, u15, u16, u17, u18, u19, u20, u21, u22, u23, u24, u25, u26, u27, u28, u29, u30, u31, u32, u33, u34, u35, u36, u37, u38, u39, u40, u41, u42, u43, u44], []⟩ wy := by
  have HK := Lib.hid hK
  clear hK
  conv => arg 2; whnf
  refine Gw.line _ M ?_
  clear M wy
  refine Gw.sw (.int .i64 bits) ?_
  try simp only [Act.put, ptA, ptB, ptC]
  refine Gw.sw (.bool high) ?_
  try simp only [Act.put, ptA, ptB, ptC]
  refine Gw.sw (.int .u64 (oneC a)) ?_
  try simp only [Act.put, ptA, ptB, ptC]
  refine Gw.sk (.tuple #[.int .u64 (Wd.swapV bits high (oneC a)), .bool (Wd.swapOk bits)]) 39 #[.int .i64 bits, .bool high, .int .u64 (oneC a)] (fun w M => Gw.pure (L1.swap_any bits high (oneC a) (one_bd ha).1 (one_bd ha).2 w)) ?_
  try simp only [Act.put, ptA, ptB, ptC]
  refine Gw.sw (.tuple #[.int .u64 (Wd.swapV bits high (oneC a)), .bool (Wd.swapOk bits)]) ?_
  try simp only [Act.put, ptA, ptB, ptC]
  refine Gw.sw (.int .u64 (Wd.swapV bits high (oneC a))) ?_
  try simp only [Act.put, ptA, ptB, ptC]
  refine Gw.sw (.bool (Wd.swapOk bits)) ?_
  try simp only [Act.put, ptA, ptB, ptC]
  refine Gw.sw (.int .u64 (Wd.swapV bits high (oneC a))) ?_
  try simp only [Act.put, ptA, ptB, ptC]
  exact fun z M => HK.out _ _ _ _ _ _ _ z M
noncomputable def swap5_r7C : Code := (Tryz.f32.body.bind (Rg.findR 7)).getD .skip
set_option maxHeartbeats 4000000 in
theorem swap5_r7 (bits : Int) (high : Bool) (a : C) (ha : mayC a) (hb : -9223372036854775808 ≤ bits ∧ bits ≤ 9223372036854775807) {w0 : World}  {K : Act → World → Prop} {Q0 : Exit → Act → World → Prop} {d1_1 d1_0 : Nat} {u0 u1 u2 u3 u4 u5 u7 u8 u10 u11 u12 u13 u14 u15 u16 u17 u18 u19 u20 u21 u22 u23 u24 u25 u26 u27 u28 u29 u30 u31 u32 u33 u34 u35 u36 u37 u38 u39 u40 u41 u42 u43 u44 : Value}
    (hQ : ∀ c a d v w, Q0 (.panic c) (Act.put a d v) w → Q0 (.panic c) a w)
    (hK : ∀ (t33 t34 : Value) (z : World), Gw.Mem w0 [(d1_1, .cells #[.int .u64 (bi (numC (Wd.swapV bits high (oneC a))).t.v), .int .u64 (bi (numC (Wd.swapV bits high (oneC a))).t.m), .int .u64 ((numC (Wd.swapV bits high (oneC a))).u.lo), .int .u64 ((numC (Wd.swapV bits high (oneC a))).u.hi), .int .i64 ((numC (Wd.swapV bits high (oneC a))).s.lo), .int .i64 ((numC (Wd.swapV bits high (oneC a))).s.hi)] 30), (d1_0, .cells #[.int .u64 (bi a.t.v), .int .u64 (bi a.t.m), .int .u64 a.u.lo, .int .u64 a.u.hi, .int .i64 a.s.lo, .int .i64 a.s.hi] 30)] z → K ⟨#[u0, u1, u2, u3, u4, u5, .pointer (some ⟨d1_1, 0, none⟩), u7, u8, .int .u64 (Wd.swapV bits high (oneC a)), u10, u11, u12, u13, u14, u15, u16, u17, u18, u19, u20, u21, u22, u23, u24, u25, u26, u27, u28, u29, u30, u31, u32, t33, t34, u35, u36, u37, u38, u39, u40, u41, u42, u43, u44], []⟩ z) (wy : World) (M : Gw.Mem w0 [(d1_1, .cells #[.int .u64 0, .int .u64 0, .int .u64 0, .int .u64 0, .int .i64 0, .int .i64 0] 30), (d1_0, .cells #[.int .u64 (bi a.t.v), .int .u64 (bi a.t.m), .int .u64 a.u.lo, .int .u64 a.u.hi, .int .i64 a.s.lo, .int .i64 a.s.hi] 30)] wy) :
    swap5_r7C.wp Tryz.prog (Exit.then K Q0) ⟨#[u0, u1, u2, u3, u4, u5, .pointer (some ⟨d1_1, 0, none⟩), u7, u8, .int .u64 (Wd.swapV bits high (oneC a)), u10, u11, u12, u13, u14, u15, u16, u17, u18, u19, u20, u21, u22, u23, u24, u25, u26, u27, u28, u29, u30, u31, u32, u33, u34, u35, u36, u37, u38, u39, u40, u41, u42, u43, u44], []⟩ wy := by
  have HK := Lib.hid hK
  clear hK
  conv => arg 2; whnf
  refine Gw.line _ M ?_
  clear M wy
  refine Gw.sw (.int .u64 (Wd.swapV bits high (oneC a))) ?_
  try simp only [Act.put, ptA, ptB, ptC]
  refine Gw.sk (.agg #[.int .u64 (bi (numC (Wd.swapV bits high (oneC a))).t.v), .int .u64 (bi (numC (Wd.swapV bits high (oneC a))).t.m), .int .u64 ((numC (Wd.swapV bits high (oneC a))).u.lo), .int .u64 ((numC (Wd.swapV bits high (oneC a))).u.hi), .int .i64 ((numC (Wd.swapV bits high (oneC a))).s.lo), .int .i64 ((numC (Wd.swapV bits high (oneC a))).s.hi)]) 17 #[.int .u64 (Wd.swapV bits high (oneC a))] (fun w M => ofn5 (Wd.swapV bits high (oneC a)) (swapV_bd bits high (oneC a) (one_bd ha)) w) ?_
  try simp only [Act.put, ptA, ptB, ptC]
  refine Gw.ss ?_
  intro w M K' hK
  have c := M.c6 0
  have f := M.f6 0
  go_simp
  refine hK.out _ _ _ ((((((M.set 0 0 _).set 0 1 _).set 0 2 _).set 0 3 _).set 0 4 _).set 0 5 _) ?_
  clear hK K' c f M w
  exact fun z M => HK.out _ _ z M
noncomputable def swap5_r8C : Code := (Tryz.f32.body.bind (Rg.findR 8)).getD .skip
set_option maxHeartbeats 4000000 in
theorem swap5_r8 (bits : Int) (high : Bool) (a : C) (ha : mayC a) (hb : -9223372036854775808 ≤ bits ∧ bits ≤ 9223372036854775807) {w0 : World}  {K : Act → World → Prop} {Q0 : Exit → Act → World → Prop} {d1_1 d1_0 : Nat} {u2 u3 u4 u5 u6 u7 u8 u9 u10 u11 u12 u13 u14 u15 u16 u17 u18 u19 u20 u21 u22 u23 u24 u25 u26 u27 u28 u29 u30 u31 u32 u33 u34 u35 u36 u37 u38 u39 u40 u41 u42 u43 u44 : Value}
    (hQ : ∀ c a d v w, Q0 (.panic c) (Act.put a d v) w → Q0 (.panic c) a w)
    (hK : ∀ (t35 t36 t37 t38 t39 : Value) (o40 : Bool) (_ : o40 = ((bits == 64) && (!high))) (z : World), Gw.Mem w0 [(d1_1, .cells #[.int .u64 0, .int .u64 0, .int .u64 0, .int .u64 0, .int .i64 0, .int .i64 0] 30), (d1_0, .cells #[.int .u64 (bi a.t.v), .int .u64 (bi a.t.m), .int .u64 a.u.lo, .int .u64 a.u.hi, .int .i64 a.s.lo, .int .i64 a.s.hi] 30)] z → K ⟨#[.int .i64 bits, .bool high, u2, u3, u4, u5, u6, u7, u8, u9, u10, u11, u12, u13, u14, u15, u16, u17, u18, u19, u20, u21, u22, u23, u24, u25, u26, u27, u28, u29, u30, u31, u32, u33, u34, t35, t36, t37, t38, t39, .bool o40, u41, u42, u43, u44], []⟩ z) (wy : World) (M : Gw.Mem w0 [(d1_1, .cells #[.int .u64 0, .int .u64 0, .int .u64 0, .int .u64 0, .int .i64 0, .int .i64 0] 30), (d1_0, .cells #[.int .u64 (bi a.t.v), .int .u64 (bi a.t.m), .int .u64 a.u.lo, .int .u64 a.u.hi, .int .i64 a.s.lo, .int .i64 a.s.hi] 30)] wy) :
    swap5_r8C.wp Tryz.prog (Exit.then K Q0) ⟨#[.int .i64 bits, .bool high, u2, u3, u4, u5, u6, u7, u8, u9, u10, u11, u12, u13, u14, u15, u16, u17, u18, u19, u20, u21, u22, u23, u24, u25, u26, u27, u28, u29, u30, u31, u32, u33, u34, u35, u36, u37, u38, u39, u40, u41, u42, u43, u44], []⟩ wy := by
  have HK := Lib.hid hK
  clear hK
  conv => arg 2; whnf
  refine Gw.line _ M ?_
  clear M wy
  refine Gw.sw (.int .i64 bits) ?_
  try simp only [Act.put, ptA, ptB, ptC]
  refine Gw.sw (.bool (bits == 64)) ?_
  try simp only [Act.put, ptA, ptB, ptC]
  refine Gw.sw (.bool (bits == 64)) ?_
  try simp only [Act.put, ptA, ptB, ptC]
  cases hb0_8 : (bits == 64)
  · try simp only [Bool.not_true, Bool.not_false]
    refine Gw.su ?_
    try simp only [Act.put, ptA, ptB, ptC]
    refine Gw.su ?_
    try simp only [Act.put, ptA, ptB, ptC]
    refine Gw.sw (.bool false) ?_
    try simp only [Act.put, ptA, ptB, ptC]
    exact fun z M => HK.out _ _ _ _ _ _ (by simp [hb0_8]) z M
  · try simp only [Bool.not_true, Bool.not_false]
    refine Gw.sw (.bool high) ?_
    try simp only [Act.put, ptA, ptB, ptC]
    refine Gw.sw (.bool (!high)) ?_
    try simp only [Act.put, ptA, ptB, ptC]
    refine Gw.sw (.bool (!high)) ?_
    try simp only [Act.put, ptA, ptB, ptC]
    exact fun z M => HK.out _ _ _ _ _ _ (by simp [hb0_8]) z M
noncomputable def swap5_r9C : Code := (Tryz.f32.body.bind (Rg.findR 9)).getD .skip
set_option maxHeartbeats 4000000 in
theorem swap5_r9 (bits : Int) (high : Bool) (a : C) (ha : mayC a) (hb : -9223372036854775808 ≤ bits ∧ bits ≤ 9223372036854775807) {w0 : World}  {K : Act → World → Prop} {Q0 : Exit → Act → World → Prop} {d1_1 d1_0 : Nat} {u0 u1 u2 u3 u4 u7 u8 u9 u10 u11 u12 u13 u14 u15 u16 u17 u18 u19 u20 u21 u22 u23 u24 u25 u26 u27 u28 u29 u30 u31 u32 u33 u34 u35 u36 u37 u38 u39 u40 u41 u42 u43 u44 : Value}
    (hQ : ∀ c a d v w, Q0 (.panic c) (Act.put a d v) w → Q0 (.panic c) a w)
    (hK : ∀ (t41 : Value) (z : World), Gw.Mem w0 [(d1_1, .cells #[.int .u64 (bi a.t.v), .int .u64 (bi a.t.m), .int .u64 a.u.lo, .int .u64 a.u.hi, .int .i64 a.s.lo, .int .i64 a.s.hi] 30), (d1_0, .cells #[.int .u64 (bi a.t.v), .int .u64 (bi a.t.m), .int .u64 a.u.lo, .int .u64 a.u.hi, .int .i64 a.s.lo, .int .i64 a.s.hi] 30)] z → K ⟨#[u0, u1, u2, u3, u4, .pointer (some ⟨d1_0, 0, none⟩), .pointer (some ⟨d1_1, 0, none⟩), u7, u8, u9, u10, u11, u12, u13, u14, u15, u16, u17, u18, u19, u20, u21, u22, u23, u24, u25, u26, u27, u28, u29, u30, u31, u32, u33, u34, u35, u36, u37, u38, u39, u40, t41, u42, u43, u44], []⟩ z) (wy : World) (M : Gw.Mem w0 [(d1_1, .cells #[.int .u64 0, .int .u64 0, .int .u64 0, .int .u64 0, .int .i64 0, .int .i64 0] 30), (d1_0, .cells #[.int .u64 (bi a.t.v), .int .u64 (bi a.t.m), .int .u64 a.u.lo, .int .u64 a.u.hi, .int .i64 a.s.lo, .int .i64 a.s.hi] 30)] wy) :
    swap5_r9C.wp Tryz.prog (Exit.then K Q0) ⟨#[u0, u1, u2, u3, u4, .pointer (some ⟨d1_0, 0, none⟩), .pointer (some ⟨d1_1, 0, none⟩), u7, u8, u9, u10, u11, u12, u13, u14, u15, u16, u17, u18, u19, u20, u21, u22, u23, u24, u25, u26, u27, u28, u29, u30, u31, u32, u33, u34, u35, u36, u37, u38, u39, u40, u41, u42, u43, u44], []⟩ wy := by
  have HK := Lib.hid hK
  clear hK
  conv => arg 2; whnf
  refine Gw.line _ M ?_
  clear M wy
  refine Gw.sq (.agg #[.int .u64 (bi a.t.v), .int .u64 (bi a.t.m), .int .u64 a.u.lo, .int .u64 a.u.hi, .int .i64 a.s.lo, .int .i64 a.s.hi]) ?_ ?_
  · intro w M; have c := M.c6 1; go_simp
  try simp only [Act.put, ptA, ptB, ptC]
  refine Gw.ss ?_
  intro w M K' hK
  have c := M.c6 0
  have f := M.f6 0
  go_simp
  refine hK.out _ _ _ ((((((M.set 0 0 _).set 0 1 _).set 0 2 _).set 0 3 _).set 0 4 _).set 0 5 _) ?_
  clear hK K' c f M w
  exact fun z M => HK.out _ z M
noncomputable def swap5_r10C : Code := (Tryz.f32.body.bind (Rg.findR 10)).getD .skip
set_option maxHeartbeats 4000000 in
theorem swap5_r10 (bits : Int) (high : Bool) (a : C) (ha : mayC a) (hb : -9223372036854775808 ≤ bits ∧ bits ≤ 9223372036854775807) (hok : Wd.swapOk bits = true) {w0 : World}  {K : Act → World → Prop} {Q0 : Exit → Act → World → Prop} {d1_1 d1_0 : Nat} {u1 u2 u3 u4 u5 u7 u8 u9 u10 u11 u12 u13 u14 u15 u16 u17 u18 u19 u20 u21 u22 u23 u24 u25 u26 u27 u28 u29 u30 u31 u32 u33 u34 u35 u36 u37 u38 u39 u40 u41 u42 u43 u44 : Value}
    (hQ : ∀ c a d v w, Q0 (.panic c) (Act.put a d v) w → Q0 (.panic c) a w)
    (hK : ∀ (t42 t43 t44 : Value) (z : World), Gw.Mem w0 [(d1_1, .cells #[.int .u64 (bi (uptoC (bits / 8)).t.v), .int .u64 (bi (uptoC (bits / 8)).t.m), .int .u64 ((uptoC (bits / 8)).u.lo), .int .u64 ((uptoC (bits / 8)).u.hi), .int .i64 ((uptoC (bits / 8)).s.lo), .int .i64 ((uptoC (bits / 8)).s.hi)] 30), (d1_0, .cells #[.int .u64 (bi a.t.v), .int .u64 (bi a.t.m), .int .u64 a.u.lo, .int .u64 a.u.hi, .int .i64 a.s.lo, .int .i64 a.s.hi] 30)] z → K ⟨#[.int .i64 bits, u1, u2, u3, u4, u5, .pointer (some ⟨d1_1, 0, none⟩), u7, u8, u9, u10, u11, u12, u13, u14, u15, u16, u17, u18, u19, u20, u21, u22, u23, u24, u25, u26, u27, u28, u29, u30, u31, u32, u33, u34, u35, u36, u37, u38, u39, u40, u41, t42, t43, t44], []⟩ z) (wy : World) (M : Gw.Mem w0 [(d1_1, .cells #[.int .u64 0, .int .u64 0, .int .u64 0, .int .u64 0, .int .i64 0, .int .i64 0] 30), (d1_0, .cells #[.int .u64 (bi a.t.v), .int .u64 (bi a.t.m), .int .u64 a.u.lo, .int .u64 a.u.hi, .int .i64 a.s.lo, .int .i64 a.s.hi] 30)] wy) :
    swap5_r10C.wp Tryz.prog (Exit.then K Q0) ⟨#[.int .i64 bits, u1, u2, u3, u4, u5, .pointer (some ⟨d1_1, 0, none⟩), u7, u8, u9, u10, u11, u12, u13, u14, u15, u16, u17, u18, u19, u20, u21, u22, u23, u24, u25, u26, u27, u28, u29, u30, u31, u32, u33, u34, u35, u36, u37, u38, u39, u40, u41, u42, u43, u44], []⟩ wy := by
  have HK := Lib.hid hK
  clear hK
  conv => arg 2; whnf
  refine Gw.line _ M ?_
  clear M wy
  refine Gw.sw (.int .i64 bits) ?_
  try simp only [Act.put, ptA, ptB, ptC]
  refine Gw.sw (.int .i64 (bits / 8)) ?_ (hy := by intro w; have q1 := q8 hok; have q2 := q9 hok; go_simp; rw [q2] at q1; exact q1)
  try simp only [Act.put, ptA, ptB, ptC]
  refine Gw.sk (.agg #[.int .u64 (bi (uptoC (bits / 8)).t.v), .int .u64 (bi (uptoC (bits / 8)).t.m), .int .u64 ((uptoC (bits / 8)).u.lo), .int .u64 ((uptoC (bits / 8)).u.hi), .int .i64 ((uptoC (bits / 8)).s.lo), .int .i64 ((uptoC (bits / 8)).s.hi)]) 21 #[.int .i64 (bits / 8)] (fun w M => upto5 (bits / 8) ⟨by omega, by omega⟩ w) ?_
  try simp only [Act.put, ptA, ptB, ptC]
  refine Gw.ss ?_
  intro w M K' hK
  have c := M.c6 0
  have f := M.f6 0
  go_simp
  refine hK.out _ _ _ ((((((M.set 0 0 _).set 0 1 _).set 0 2 _).set 0 3 _).set 0 4 _).set 0 5 _) ?_
  clear hK K' c f M w
  exact fun z M => HK.out _ _ _ z M
set_option maxHeartbeats 4000000 in
theorem swap5 (bits : Int) (high : Bool) (a : C) (ha : mayC a) (hb : -9223372036854775808 ≤ bits ∧ bits ≤ 9223372036854775807) (w : World) :
    Calls Tryz.prog 32 #[.int .i64 bits, .bool high, .agg #[.int .u64 (bi a.t.v), .int .u64 (bi a.t.m), .int .u64 a.u.lo, .int .u64 a.u.hi, .int .i64 a.s.lo, .int .i64 a.s.hi]] w fun e w' => e = .returned (.agg #[.int .u64 (bi (swapC bits high a).t.v), .int .u64 (bi (swapC bits high a).t.m), .int .u64 ((swapC bits high a).u.lo), .int .u64 ((swapC bits high a).u.hi), .int .i64 ((swapC bits high a).s.lo), .int .i64 ((swapC bits high a).s.hi)]) ∧ Below w.heap.size w w' := by
  go_enter Tryz.func32, Tryz.ntmps32
  have M := Gw.Mem.nil w
  refine wp_seq (swap5_r0 bits high a ha hb (fun _ _ d _ _ h => by cases d <;> exact h) ?_ _ M)
  clear M
  intro d1_0 d1_1 z1 M
  refine wp_seq ?_
  refine wp_seq (swap5_r1 bits high a ha hb (fun _ _ d _ _ h => by cases d <;> exact h) ?_ _ M)
  clear M
  intro _ _ _ _ _ _ _ z2 M
  refine wp_seq (swap5_r2 bits high a ha hb (fun _ _ d _ _ h => by cases d <;> exact h) ?_ _ M)
  clear M
  intro _ z3 M
  refine wp_cond_split (t := (!(Wd.swapOk bits))) rfl (fun h0 => ?_) (fun h0 => ?_)
  · refine wp_seq (swap5_r3 bits high a ha hb (fun _ _ d _ _ h => by cases d <;> exact h) ?_ _ M)
    clear M
    intro _ z4 M
    refine wp_ret ?_
    try simp only [Exit.inBlock, Exit.then]
    have g0 := M.cell 0 0
    have g1 := M.cell 0 1
    have g2 := M.cell 0 2
    have g3 := M.cell 0 3
    have g4 := M.cell 0 4
    have g5 := M.cell 0 5
    refine bodyPost_ret (by simp [results, Tryz.results32, g0, g1, g2, g3, g4, g5, go_sem]; try rfl) rfl ?_
    exact ⟨by rw [swap_1 h0], M.below⟩
  · refine wp_skip ?_
    try simp only [Exit.inBlock, Exit.then]
    refine wp_seq ?_
    refine wp_seq (swap5_r4 bits high a ha hb (fun _ _ d _ _ h => by cases d <;> exact h) ?_ _ M)
    clear M
    intro _ _ _ _ _ z5 M
    refine wp_seq (swap5_r5 bits high a ha hb (fun _ _ d _ _ h => by cases d <;> exact h) ?_ _ M)
    clear M
    intro z6 M
    refine wp_cond_split (t := (aloneC a)) rfl (fun h1 => ?_) (fun h1 => ?_)
    · refine wp_seq (swap5_r6 bits high a ha hb (fun _ _ d _ _ h => by cases d <;> exact h) ?_ _ M)
      clear M
      intro _ _ _ _ _ _ _ z7 M
      refine wp_seq (swap5_r7 bits high a ha hb (fun _ _ d _ _ h => by cases d <;> exact h) ?_ _ M)
      clear M
      intro _ _ z8 M
      refine wp_ret ?_
      try simp only [Exit.inBlock, Exit.then]
      have g0 := M.cell 0 0
      have g1 := M.cell 0 1
      have g2 := M.cell 0 2
      have g3 := M.cell 0 3
      have g4 := M.cell 0 4
      have g5 := M.cell 0 5
      refine bodyPost_ret (by simp [results, Tryz.results32, g0, g1, g2, g3, g4, g5, go_sem]; try rfl) rfl ?_
      exact ⟨by rw [swap_2 h0 h1], M.below⟩
    · refine wp_skip ?_
      try simp only [Exit.inBlock, Exit.then]
      refine wp_seq ?_
      refine wp_seq (swap5_r8 bits high a ha hb (fun _ _ d _ _ h => by cases d <;> exact h) ?_ _ M)
      clear M
      intro _ _ _ _ _ o40 e40 z9 M
      subst e40
      refine wp_cond_split (t := ((bits == 64) && (!high))) rfl (fun h2 => ?_) (fun h2 => ?_)
      · refine wp_seq (swap5_r9 bits high a ha hb (fun _ _ d _ _ h => by cases d <;> exact h) ?_ _ M)
        clear M
        intro _ z10 M
        refine wp_ret ?_
        try simp only [Exit.inBlock, Exit.then]
        have g0 := M.cell 0 0
        have g1 := M.cell 0 1
        have g2 := M.cell 0 2
        have g3 := M.cell 0 3
        have g4 := M.cell 0 4
        have g5 := M.cell 0 5
        refine bodyPost_ret (by simp [results, Tryz.results32, g0, g1, g2, g3, g4, g5, go_sem]; try rfl) rfl ?_
        exact ⟨by rw [swap_3 h0 h1 h2], M.below⟩
      · refine wp_skip ?_
        try simp only [Exit.inBlock, Exit.then]
        refine wp_seq (swap5_r10 bits high a ha hb (nb h0) (fun _ _ d _ _ h => by cases d <;> exact h) ?_ _ M)
        clear M
        intro _ _ _ z11 M
        refine wp_ret ?_
        try simp only [Exit.inBlock, Exit.then]
        have g0 := M.cell 0 0
        have g1 := M.cell 0 1
        have g2 := M.cell 0 2
        have g3 := M.cell 0 3
        have g4 := M.cell 0 4
        have g5 := M.cell 0 5
        refine bodyPost_ret (by simp [results, Tryz.results32, g0, g1, g2, g3, g4, g5, go_sem]; try rfl) rfl ?_
        exact ⟨by rw [swap_4 h0 h1 h2], M.below⟩
end Go.Proofs.YtcimihckhobniaaGreat.Sc
namespace Go.Proofs.YtcimihckhobniaaGreat
set_option maxRecDepth 100000
open Go.RowKit Tn Ow Sp
open Go.ChangeShapes Go.WideShapes Go.Deep
set_option linter.unusedVariables false
set_option linter.unusedSimpArgs false
def inU (x : E) : Prop := (0 ≤ x.lo ∧ x.lo ≤ 18446744073709551615) ∧ 0 ≤ x.hi ∧ x.hi ≤ 18446744073709551615
def inS (x : E) : Prop := (-9223372036854775808 ≤ x.lo ∧ x.lo ≤ 9223372036854775807) ∧ -9223372036854775808 ≤ x.hi ∧ x.hi ≤ 9223372036854775807
section
variable {H : Type} {enc : TypeId × Value → H} {w : World} {base : Nat} {spare : Nat → Bool} {held : Bool}
theorem u_of {fuel : Nat} {cs : List Value} {y : DataW H × List MemPlace} (h : DataW.trod enc Tryz.prog w base spare held fuel 26 cs = some y) : ∃ x : E, inU x ∧ cs = [.int .u64 x.lo, .int .u64 x.hi] := by
  obtain ⟨xs, n, _, _, hlen, hxl, hf⟩ := DataW.trod_struct Tryz.underlying26 h
  have h2 : cs.length = 2 := hlen.trans (by kernel_rfl)
  match cs, h2 with
  | [c0, c1], _ =>
    match xs, hxl with
    | [y0, y1], _ =>
      have g1 : Tryz.prog.cellsOf 22 = 1 := by kernel_rfl
      have k0 := hf 0 _ rfl
      have k1 := hf 1 _ rfl
      simp [g1] at k0 k1
      obtain ⟨n0, e0, _, w0⟩ := DataW.trod_int Tryz.underlying22 k0
      obtain ⟨n1, e1, _, w1⟩ := DataW.trod_int Tryz.underlying22 k1
      simp at e0 e1
      subst e0 e1
      exact ⟨⟨n0, n1⟩, ⟨⟨(bounds_u64 w0).1, (bounds_u64 w0).2⟩, (bounds_u64 w1).1, (bounds_u64 w1).2⟩, rfl⟩
theorem s_of {fuel : Nat} {cs : List Value} {y : DataW H × List MemPlace} (h : DataW.trod enc Tryz.prog w base spare held fuel 28 cs = some y) : ∃ x : E, inS x ∧ cs = [.int .i64 x.lo, .int .i64 x.hi] := by
  obtain ⟨xs, n, _, _, hlen, hxl, hf⟩ := DataW.trod_struct Tryz.underlying28 h
  have h2 : cs.length = 2 := hlen.trans (by kernel_rfl)
  match cs, h2 with
  | [c0, c1], _ =>
    match xs, hxl with
    | [y0, y1], _ =>
      have g1 : Tryz.prog.cellsOf 2 = 1 := by kernel_rfl
      have k0 := hf 0 _ rfl
      have k1 := hf 1 _ rfl
      simp [g1] at k0 k1
      obtain ⟨n0, e0, _, w0⟩ := DataW.trod_int Tryz.underlying2 k0
      obtain ⟨n1, e1, _, w1⟩ := DataW.trod_int Tryz.underlying2 k1
      simp at e0 e1
      subst e0 e1
      exact ⟨⟨n0, n1⟩, ⟨⟨(bounds_i64 w0).1, (bounds_i64 w0).2⟩, (bounds_i64 w1).1, (bounds_i64 w1).2⟩, rfl⟩
/-- The cells of a tnum that comes in. -/
theorem tn_of {fuel : Nat} {cs : List Value} {y : DataW H × List MemPlace} (h : DataW.trod enc Tryz.prog w base spare held fuel 24 cs = some y) : ∃ x : T, cs = [.int .u64 (bi x.v), .int .u64 (bi x.m)] := by
  obtain ⟨xs, n, _, _, hlen, hxl, hf⟩ := DataW.trod_struct Tryz.underlying24 h
  have h2 : cs.length = 2 := hlen.trans (by kernel_rfl)
  match cs, h2 with
  | [c0, c1], _ =>
    match xs, hxl with
    | [y0, y1], _ =>
      have g1 : Tryz.prog.cellsOf 22 = 1 := by kernel_rfl
      have k0 := hf 0 _ rfl
      have k1 := hf 1 _ rfl
      simp [g1] at k0 k1
      obtain ⟨n0, e0, _, w0⟩ := DataW.trod_int Tryz.underlying22 k0
      obtain ⟨n1, e1, _, w1⟩ := DataW.trod_int Tryz.underlying22 k1
      simp at e0 e1
      subst e0 e1
      obtain ⟨p, rfl⟩ := bi_of n0 (bounds_u64 w0).1 (bounds_u64 w0).2
      obtain ⟨q, rfl⟩ := bi_of n1 (bounds_u64 w1).1 (bounds_u64 w1).2
      exact ⟨⟨p, q⟩, rfl⟩
end
theorem ok_sortU {x : E} (h : inU x) : okU (sortE x.lo x.hi) := by unfold inU at h; refine ⟨?_, ?_, ?_⟩ <;> simp only [sortE] <;> omega
theorem ok_sortS {x : E} (h : inS x) : okS (sortE x.lo x.hi) := by unfold inS at h; refine ⟨?_, ?_, ?_⟩ <;> simp only [sortE] <;> omega
end Go.Proofs.YtcimihckhobniaaGreat
