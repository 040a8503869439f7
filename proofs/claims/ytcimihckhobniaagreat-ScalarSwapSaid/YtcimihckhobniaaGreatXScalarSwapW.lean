/-
  What the program's layer 5 tells: contracts, the document's byte order, and the walk of ScalarSwap. Conditions: scalars may be, where that is said.
-/
import Derived.Test.YtcimihckhobniaaGreatXM19
import Derived.Test.YtcimihckhobniaaGreatXM20
namespace Go.Proofs.YtcimihckhobniaaGreat.Sc
open Go.RowKit Tn Ow Sp
set_option linter.unusedVariables false
set_option linter.unusedSimpArgs false
set_option maxRecDepth 100000
theorem rofn5 (n : Int) (h : 0 ≤ n ∧ n ≤ 18446744073709551615) (w : World) :
    Calls Tryz.prog 18 #[.int .u64 n] w fun e w' => e = .returned (.agg #[.int .u64 (bi (numC n).t.v), .int .u64 (bi (numC n).t.m), .int .u64 ((numC n).u.lo), .int .u64 ((numC n).u.hi), .int .i64 ((numC n).s.lo), .int .i64 ((numC n).s.hi)]) ∧ Below w.heap.size w w' := by
  have := rof5 (BitVec.ofInt 64 n) w
  rw [bi_int h] at this
  exact this
noncomputable def rswap5_r0C : Code := (Tryz.f33.body.bind (Rg.findR 0)).getD .skip
set_option maxHeartbeats 4000000 in
theorem rswap5_r0 (bits : Int) (high : Bool) (a : C) (ha : mayC a) (hb : -9223372036854775808 ≤ bits ∧ bits ≤ 9223372036854775807) {w0 : World}  {K : Act → World → Prop} {Q0 : Exit → Act → World → Prop} {u0 u1 u3 u4 u5 u6 u7 u8 u9 u10 u11 u12 u13 u14 u15 u16 u17 u18 u19 u20 u21 u22 u23 u24 u25 u26 u27 u28 u29 u30 u31 u32 u33 u34 u35 u36 u37 u38 : Value}
    (hQ : ∀ c a d v w, Q0 (.panic c) (Act.put a d v) w → Q0 (.panic c) a w)
    (hK : ∀ (d1_0 d1_1 : Nat) (z : World), Gw.Mem w0 [(d1_1, .cells #[.int .u64 0, .int .u64 0, .int .u64 0, .int .u64 0, .int .i64 0, .int .i64 0] 30), (d1_0, .cells #[.int .u64 (bi a.t.v), .int .u64 (bi a.t.m), .int .u64 a.u.lo, .int .u64 a.u.hi, .int .i64 a.s.lo, .int .i64 a.s.hi] 30)] z → K ⟨#[u0, u1, .agg #[.int .u64 (bi a.t.v), .int .u64 (bi a.t.m), .int .u64 a.u.lo, .int .u64 a.u.hi, .int .i64 a.s.lo, .int .i64 a.s.hi], u3, u4, .pointer (some ⟨d1_0, 0, none⟩), .pointer (some ⟨d1_1, 0, none⟩), u7, u8, u9, u10, u11, u12, u13, u14, u15, u16, u17, u18, u19, u20, u21, u22, u23, u24, u25, u26, u27, u28, u29, u30, u31, u32, u33, u34, u35, u36, u37, u38], []⟩ z) (wy : World) (M : Gw.Mem w0 [] wy) :
    rswap5_r0C.wp Tryz.prog (Exit.then K Q0) ⟨#[u0, u1, .agg #[.int .u64 (bi a.t.v), .int .u64 (bi a.t.m), .int .u64 a.u.lo, .int .u64 a.u.hi, .int .i64 a.s.lo, .int .i64 a.s.hi], u3, u4, u5, u6, u7, u8, u9, u10, u11, u12, u13, u14, u15, u16, u17, u18, u19, u20, u21, u22, u23, u24, u25, u26, u27, u28, u29, u30, u31, u32, u33, u34, u35, u36, u37, u38], []⟩ wy := by
  have HK := Lib.hid hK
  clear hK
  conv => arg 2; whnf
  refine Gw.line _ M ?_
  clear M wy
  refine Gw.ss ?_
  intro w M K' hK
  go_simp
  have M1 := M.alloc (.cells #[.int .u64 (bi a.t.v), .int .u64 (bi a.t.m), .int .u64 a.u.lo, .int .u64 a.u.hi, .int .i64 a.s.lo, .int .i64 a.s.hi] 30)
  generalize w.heap.size = d1_0 at M1 ⊢
  refine hK.out _ _ _ M1 ?_
  clear hK K' M1 M w
  try simp only [Act.put, ptA, ptB, ptC]
  refine Gw.ss ?_
  intro w M K' hK
  go_simp
  have M1 := M.alloc (.cells #[.int .u64 0, .int .u64 0, .int .u64 0, .int .u64 0, .int .i64 0, .int .i64 0] 30)
  generalize w.heap.size = d1_1 at M1 ⊢
  refine hK.out _ _ _ M1 ?_
  clear hK K' M1 M w
  try simp only [Act.put, ptA, ptB, ptC]
  exact fun z M => HK.out _ _ z M
noncomputable def rswap5_r1C : Code := (Tryz.f33.body.bind (Rg.findR 1)).getD .skip
set_option maxHeartbeats 4000000 in
theorem rswap5_r1 (bits : Int) (high : Bool) (a : C) (ha : mayC a) (hb : -9223372036854775808 ≤ bits ∧ bits ≤ 9223372036854775807) {w0 : World}  {K : Act → World → Prop} {Q0 : Exit → Act → World → Prop} {d1_1 d1_0 : Nat} {u0 u1 u2 u3 u4 u6 u7 u8 u9 u10 u11 u12 u13 u14 u15 u16 u17 u18 u19 u20 u21 u22 u23 u24 u25 u26 u27 u28 u29 u30 u31 u32 u33 u34 u35 u36 u37 u38 : Value}
    (hQ : ∀ c a d v w, Q0 (.panic c) (Act.put a d v) w → Q0 (.panic c) a w)
    (hK : ∀ (t11 t12 t13 t14 t15 : Value) (z : World), Gw.Mem w0 [(d1_1, .cells #[.int .u64 0, .int .u64 0, .int .u64 0, .int .u64 0, .int .i64 0, .int .i64 0] 30), (d1_0, .cells #[.int .u64 (bi a.t.v), .int .u64 (bi a.t.m), .int .u64 a.u.lo, .int .u64 a.u.hi, .int .i64 a.s.lo, .int .i64 a.s.hi] 30)] z → K ⟨#[u0, u1, u2, u3, u4, .pointer (some ⟨d1_0, 0, none⟩), u6, .int .u64 (oneC a), .bool (aloneC a), u9, u10, t11, t12, t13, t14, t15, u16, u17, u18, u19, u20, u21, u22, u23, u24, u25, u26, u27, u28, u29, u30, u31, u32, u33, u34, u35, u36, u37, u38], []⟩ z) (wy : World) (M : Gw.Mem w0 [(d1_1, .cells #[.int .u64 0, .int .u64 0, .int .u64 0, .int .u64 0, .int .i64 0, .int .i64 0] 30), (d1_0, .cells #[.int .u64 (bi a.t.v), .int .u64 (bi a.t.m), .int .u64 a.u.lo, .int .u64 a.u.hi, .int .i64 a.s.lo, .int .i64 a.s.hi] 30)] wy) :
    rswap5_r1C.wp Tryz.prog (Exit.then K Q0) ⟨#[u0, u1, u2, u3, u4, .pointer (some ⟨d1_0, 0, none⟩), u6, u7, u8, u9, u10, u11, u12, u13, u14, u15, u16, u17, u18, u19, u20, u21, u22, u23, u24, u25, u26, u27, u28, u29, u30, u31, u32, u33, u34, u35, u36, u37, u38], []⟩ wy := by
  have HK := Lib.hid hK
  clear hK
  conv => arg 2; whnf
  refine Gw.line _ M ?_
  clear M wy
  refine Gw.sq (.agg #[.int .u64 (bi a.t.v), .int .u64 (bi a.t.m), .int .u64 a.u.lo, .int .u64 a.u.hi, .int .i64 a.s.lo, .int .i64 a.s.hi]) ?_ ?_
  · intro w M; have c := M.c6 1; go_simp
  try simp only [Act.put, ptA, ptB, ptC]
  refine Gw.sk (.tuple #[.int .u64 (oneC a), .bool (aloneC a)]) 14 #[.agg #[.int .u64 (bi a.t.v), .int .u64 (bi a.t.m), .int .u64 a.u.lo, .int .u64 a.u.hi, .int .i64 a.s.lo, .int .i64 a.s.hi]] (fun w M => ris5 a ha w) ?_
  try simp only [Act.put, ptA, ptB, ptC]
  refine Gw.sw (.tuple #[.int .u64 (oneC a), .bool (aloneC a)]) ?_
  try simp only [Act.put, ptA, ptB, ptC]
  refine Gw.sw (.int .u64 (oneC a)) ?_
  try simp only [Act.put, ptA, ptB, ptC]
  refine Gw.sw (.bool (aloneC a)) ?_
  try simp only [Act.put, ptA, ptB, ptC]
  refine Gw.sw (.int .u64 (oneC a)) ?_
  try simp only [Act.put, ptA, ptB, ptC]
  refine Gw.sw (.bool (aloneC a)) ?_
  try simp only [Act.put, ptA, ptB, ptC]
  exact fun z M => HK.out _ _ _ _ _ z M
noncomputable def rswap5_r2C : Code := (Tryz.f33.body.bind (Rg.findR 2)).getD .skip
set_option maxHeartbeats 4000000 in
theorem rswap5_r2 (bits : Int) (high : Bool) (a : C) (ha : mayC a) (hb : -9223372036854775808 ≤ bits ∧ bits ≤ 9223372036854775807) {w0 : World}  {K : Act → World → Prop} {Q0 : Exit → Act → World → Prop} {d1_1 d1_0 : Nat} {u2 u3 u4 u5 u6 u8 u9 u10 u11 u12 u13 u14 u15 u16 u17 u18 u19 u20 u21 u22 u23 u24 u25 u26 u27 u28 u29 u30 u31 u32 u33 u34 u35 u36 u37 u38 : Value}
    (hQ : ∀ c a d v w, Q0 (.panic c) (Act.put a d v) w → Q0 (.panic c) a w)
    (hK : ∀ (t16 t17 t18 t19 t20 t21 t22 : Value) (z : World), Gw.Mem w0 [(d1_1, .cells #[.int .u64 0, .int .u64 0, .int .u64 0, .int .u64 0, .int .i64 0, .int .i64 0] 30), (d1_0, .cells #[.int .u64 (bi a.t.v), .int .u64 (bi a.t.m), .int .u64 a.u.lo, .int .u64 a.u.hi, .int .i64 a.s.lo, .int .i64 a.s.hi] 30)] z → K ⟨#[.int .i64 bits, .bool high, u2, u3, u4, u5, u6, .int .u64 (oneC a), u8, .int .u64 (Wd.swapV bits high (oneC a)), .bool (Wd.swapOk bits), u11, u12, u13, u14, u15, t16, t17, t18, t19, t20, t21, t22, u23, u24, u25, u26, u27, u28, u29, u30, u31, u32, u33, u34, u35, u36, u37, u38], []⟩ z) (wy : World) (M : Gw.Mem w0 [(d1_1, .cells #[.int .u64 0, .int .u64 0, .int .u64 0, .int .u64 0, .int .i64 0, .int .i64 0] 30), (d1_0, .cells #[.int .u64 (bi a.t.v), .int .u64 (bi a.t.m), .int .u64 a.u.lo, .int .u64 a.u.hi, .int .i64 a.s.lo, .int .i64 a.s.hi] 30)] wy) :
    rswap5_r2C.wp Tryz.prog (Exit.then K Q0) ⟨#[.int .i64 bits, .bool high, u2, u3, u4, u5, u6, .int .u64 (oneC a), u8, u9, u10, u11, u12, u13, u14, u15, u16, u17, u18, u19, u20, u21, u22, u23, u24, u25, u26, u27, u28, u29, u30, u31, u32, u33, u34, u35, u36, u37, u38], []⟩ wy := by
  have HK := Lib.hid hK
  clear hK
  conv => arg 2; whnf
  refine Gw.line _ M ?_
  clear M wy
  refine Gw.sw (.int .i64 bits) ?_
  try simp only [Act.put, ptA, ptB, ptC]
  refine Gw.sw (.bool high) ?_
  try simp only [Act.put, ptA, ptB, ptC]
  refine Gw.sw (.int .u64 (oneC a)) ?_
  try simp only [Act.put, ptA, ptB, ptC]
  refine Gw.sk (.tuple #[.int .u64 (Wd.swapV bits high (oneC a)), .bool (Wd.swapOk bits)]) 85 #[.int .i64 bits, .bool high, .int .u64 (oneC a)] (fun w M => Gw.pure (L1.refswap_any bits high (oneC a) (one_bd ha).1 (one_bd ha).2 w)) ?_
  try simp only [Act.put, ptA, ptB, ptC]
  refine Gw.sw (.tuple #[.int .u64 (Wd.swapV bits high (oneC a)), .bool (Wd.swapOk bits)]) ?_
  try simp only [Act.put, ptA, ptB, ptC]
  refine Gw.sw (.int .u64 (Wd.swapV bits high (oneC a))) ?_
  try simp only [Act.put, ptA, ptB, ptC]
  refine Gw.sw (.bool (Wd.swapOk bits)) ?_
  try simp only [Act.put, ptA, ptB, ptC]
  refine Gw.sw (.int .u64 (Wd.swapV bits high (oneC a))) ?_
  try simp only [Act.put, ptA, ptB, ptC]
  refine Gw.sw (.bool (Wd.swapOk bits)) ?_
  try simp only [Act.put, ptA, ptB, ptC]
  exact fun z M => HK.out _ _ _ _ _ _ _ z M
noncomputable def rswap5_r3C : Code := (Tryz.f33.body.bind (Rg.findR 3)).getD .skip
set_option maxHeartbeats 4000000 in
theorem rswap5_r3 (bits : Int) (high : Bool) (a : C) (ha : mayC a) (hb : -9223372036854775808 ≤ bits ∧ bits ≤ 9223372036854775807) {w0 : World}  {K : Act → World → Prop} {Q0 : Exit → Act → World → Prop} {d1_1 d1_0 : Nat} {u0 u1 u2 u3 u4 u5 u6 u7 u8 u9 u11 u12 u13 u14 u15 u16 u17 u18 u19 u20 u21 u22 u23 u24 u25 u26 u27 u28 u29 u30 u31 u32 u33 u34 u35 u36 u37 u38 : Value}
    (hQ : ∀ c a d v w, Q0 (.panic c) (Act.put a d v) w → Q0 (.panic c) a w)
    (hK : ∀ (t23 : Value) (z : World), Gw.Mem w0 [(d1_1, .cells #[.int .u64 0, .int .u64 0, .int .u64 0, .int .u64 0, .int .i64 0, .int .i64 0] 30), (d1_0, .cells #[.int .u64 (bi a.t.v), .int .u64 (bi a.t.m), .int .u64 a.u.lo, .int .u64 a.u.hi, .int .i64 a.s.lo, .int .i64 a.s.hi] 30)] z → K ⟨#[u0, u1, u2, u3, u4, u5, u6, u7, u8, u9, .bool (Wd.swapOk bits), u11, u12, u13, u14, u15, u16, u17, u18, u19, u20, u21, u22, t23, .bool (!(Wd.swapOk bits)), u25, u26, u27, u28, u29, u30, u31, u32, u33, u34, u35, u36, u37, u38], []⟩ z) (wy : World) (M : Gw.Mem w0 [(d1_1, .cells #[.int .u64 0, .int .u64 0, .int .u64 0, .int .u64 0, .int .i64 0, .int .i64 0] 30), (d1_0, .cells #[.int .u64 (bi a.t.v), .int .u64 (bi a.t.m), .int .u64 a.u.lo, .int .u64 a.u.hi, .int .i64 a.s.lo, .int .i64 a.s.hi] 30)] wy) :
    rswap5_r3C.wp Tryz.prog (Exit.then K Q0) ⟨#[u0, u1, u2, u3, u4, u5, u6, u7, u8, u9, .bool (Wd.swapOk bits), u11, u12, u13, u14, u15, u16, u17, u18, u19, u20, u21, u22, u23, u24, u25, u26, u27, u28, u29, u30, u31, u32, u33, u34, u35, u36, u37, u38], []⟩ wy := by
  have HK := Lib.hid hK
  clear hK
  conv => arg 2; whnf
  refine Gw.line _ M ?_
  clear M wy
  refine Gw.sw (.bool (Wd.swapOk bits)) ?_
  try simp only [Act.put, ptA, ptB, ptC]
  refine Gw.sw (.bool (!(Wd.swapOk bits))) ?_
  try simp only [Act.put, ptA, ptB, ptC]
  exact fun z M => HK.out _ z M
noncomputable def rswap5_r4C : Code := (Tryz.f33.body.bind (Rg.findR 4)).getD .skip
set_option maxHeartbeats 4000000 in
theorem rswap5_r4 (bits : Int) (high : Bool) (a : C) (ha : mayC a) (hb : -9223372036854775808 ≤ bits ∧ bits ≤ 9223372036854775807) {w0 : World}  {K : Act → World → Prop} {Q0 : Exit → Act → World → Prop} {d1_1 d1_0 : Nat} {u0 u1 u2 u3 u4 u5 u7 u8 u9 u10 u11 u12 u13 u14 u15 u16 u17 u18 u19 u20 u21 u22 u23 u24 u25 u26 u27 u28 u29 u30 u31 u32 u33 u34 u35 u36 u37 u38 : Value}
    (hQ : ∀ c a d v w, Q0 (.panic c) (Act.put a d v) w → Q0 (.panic c) a w)
    (hK : ∀ (t25 : Value) (z : World), Gw.Mem w0 [(d1_1, .cells #[.int .u64 (bi anyC.t.v), .int .u64 (bi anyC.t.m), .int .u64 anyC.u.lo, .int .u64 anyC.u.hi, .int .i64 anyC.s.lo, .int .i64 anyC.s.hi] 30), (d1_0, .cells #[.int .u64 (bi a.t.v), .int .u64 (bi a.t.m), .int .u64 a.u.lo, .int .u64 a.u.hi, .int .i64 a.s.lo, .int .i64 a.s.hi] 30)] z → K ⟨#[u0, u1, u2, u3, u4, u5, .pointer (some ⟨d1_1, 0, none⟩), u7, u8, u9, u10, u11, u12, u13, u14, u15, u16, u17, u18, u19, u20, u21, u22, u23, u24, t25, u26, u27, u28, u29, u30, u31, u32, u33, u34, u35, u36, u37, u38], []⟩ z) (wy : World) (M : Gw.Mem w0 [(d1_1, .cells #[.int .u64 0, .int .u64 0, .int .u64 0, .int .u64 0, .int .i64 0, .int .i64 0] 30), (d1_0, .cells #[.int .u64 (bi a.t.v), .int .u64 (bi a.t.m), .int .u64 a.u.lo, .int .u64 a.u.hi, .int .i64 a.s.lo, .int .i64 a.s.hi] 30)] wy) :
    rswap5_r4C.wp Tryz.prog (Exit.then K Q0) ⟨#[u0, u1, u2, u3, u4, u5, .pointer (some ⟨d1_1, 0, none⟩), u7, u8, u9, u10, u11, u12, u13, u14, u15, u16, u17, u18, u19, u20, u21, u22, u23, u24, u25, u26, u27, u28, u29, u30, u31, u32, u33, u34, u35, u36, u37, u38], []⟩ wy := by
  have HK := Lib.hid hK
  clear hK
  conv => arg 2; whnf
  refine Gw.line _ M ?_
  clear M wy
  refine Gw.sk (.agg #[.int .u64 (bi anyC.t.v), .int .u64 (bi anyC.t.m), .int .u64 anyC.u.lo, .int .u64 anyC.u.hi, .int .i64 anyC.s.lo, .int .i64 anyC.s.hi]) 20 #[] (fun w M => rany5 w) ?_
  try simp only [Act.put, ptA, ptB, ptC]
  refine Gw.ss ?_
  intro w M K' hK
  have c := M.c6 0
  have f := M.f6 0
  go_simp
  refine hK.out _ _ _ ((((((M.set 0 0 _).set 0 1 _).set 0 2 _).set 0 3 _).set 0 4 _).set 0 5 _) ?_
  clear hK K' c f M w
  exact fun z M => HK.out _ z M
noncomputable def rswap5_r5C : Code := (Tryz.f33.body.bind (Rg.findR 5)).getD .skip
set_option maxHeartbeats 4000000 in
theorem rswap5_r5 (bits : Int) (high : Bool) (a : C) (ha : mayC a) (hb : -9223372036854775808 ≤ bits ∧ bits ≤ 9223372036854775807) {w0 : World}  {K : Act → World → Prop} {Q0 : Exit → Act → World → Prop} {d1_1 d1_0 : Nat} {u0 u1 u2 u3 u4 u5 u6 u7 u9 u10 u11 u12 u13 u14 u15 u16 u17 u18 u19 u20 u21 u22 u23 u24 u25 u26 u27 u28 u29 u30 u31 u32 u33 u34 u35 u36 u37 u38 : Value}
    (hQ : ∀ c a d v w, Q0 (.panic c) (Act.put a d v) w → Q0 (.panic c) a w)
    (hK : ∀ (z : World), Gw.Mem w0 [(d1_1, .cells #[.int .u64 0, .int .u64 0, .int .u64 0, .int .u64 0, .int .i64 0, .int .i64 0] 30), (d1_0, .cells #[.int .u64 (bi a.t.v), .int .u64 (bi a.t.m), .int .u64 a.u.lo, .int .u64 a.u.hi, .int .i64 a.s.lo, .int .i64 a.s.hi] 30)] z → K ⟨#[u0, u1, u2, u3, u4, u5, u6, u7, .bool (aloneC a), u9, u10, u11, u12, u13, u14, u15, u16, u17, u18, u19, u20, u21, u22, u23, u24, u25, .bool (aloneC a), u27, u28, u29, u30, u31, u32, u33, u34, u35, u36, u37, u38], []⟩ z) (wy : World) (M : Gw.Mem w0 [(d1_1, .cells #[.int .u64 0, .int .u64 0, .int .u64 0, .int .u64 0, .int .i64 0, .int .i64 0] 30), (d1_0, .cells #[.int .u64 (bi a.t.v), .int .u64 (bi a.t.m), .int .u64 a.u.lo, .int .u64 a.u.hi, .int .i64 a.s.lo, .int .i64 a.s.hi] 30)] wy) :
    rswap5_r5C.wp Tryz.prog (Exit.then K Q0) ⟨#[u0, u1, u2, u3, u4, u5, u6, u7, .bool (aloneC a), u9, u10, u11, u12, u13, u14, u15, u16, u17, u18, u19, u20, u21, u22, u23, u24, u25, u26, u27, u28, u29, u30, u31, u32, u33, u34, u35, u36, u37, u38], []⟩ wy := by
  have HK := Lib.hid hK
  clear hK
  conv => arg 2; whnf
  refine Gw.line _ M ?_
  clear M wy
  refine Gw.sw (.bool (aloneC a)) ?_
  try simp only [Act.put, ptA, ptB, ptC]
  exact fun z M => HK.out  z M
noncomputable def rswap5_r6C : Code := (Tryz.f33.body.bind (Rg.findR 6)).getD .skip
set_option maxHeartbeats 4000000 in
theorem rswap5_r6 (bits : Int) (high : Bool) (a : C) (ha : mayC a) (hb : -9223372036854775808 ≤ bits ∧ bits ≤ 9223372036854775807) {w0 : World}  {K : Act → World → Prop} {Q0 : Exit → Act → World → Prop} {d1_1 d1_0 : Nat} {u0 u1 u2 u3 u4 u5 u7 u8 u10 u11 u12 u13 u14 u15 u16 u17 u18 u19 u20 u21 u22 u23 u24 u25 u26 u27 u28 u29 u30 u31 u32 u33 u34 u35 u36 u37 u38 : Value}
    (hQ : ∀ c a d v w, Q0 (.panic c) (Act.put a d v) w → Q0 (.panic c) a w)
    (hK : ∀ (t27 t28 : Value) (z : World), Gw.Mem w0 [(d1_1, .cells #[.int .u64 (bi (numC (Wd.swapV bits high (oneC a))).t.v), .int .u64 (bi (numC (Wd.swapV bits high (oneC a))).t.m), .int .u64 ((numC (Wd.swapV bits high (oneC a))).u.lo), .int .u64 ((numC (Wd.swapV bits high (oneC a))).u.hi), .int .i64 ((numC (Wd.swapV bits high (oneC a))).s.lo), .int .i64 ((numC (Wd.swapV bits high (oneC a))).s.hi)] 30), (d1_0, .cells #[.int .u64 (bi a.t.v), .int .u64 (bi a.t.m), .int .u64 a.u.lo, .int .u64 a.u.hi, .int .i64 a.s.lo, .int .i64 a.s.hi] 30)] z → K ⟨#[u0, u1, u2, u3, u4, u5, .pointer (some ⟨d1_1, 0, none⟩), u7, u8, .int .u64 (Wd.swapV bits high (oneC a)), u10, u11, u12, u13, u14, u15, u16, u17, u18, u19, u20, u21, u22, u23, u24, u25, u26, t27, t28, u29, u30, u31, u32, u33, u34, u35, u36, u37, u38], []⟩ z) (wy : World) (M : Gw.Mem w0 [(d1_1, .cells #[.int .u64 0, .int .u64 0, .int .u64 0, .int .u64 0, .int .i64 0, .int .i64 0] 30), (d1_0, .cells #[.int .u64 (bi a.t.v), .int .u64 (bi a.t.m), .int .u64 a.u.lo, .int .u64 a.u.hi, .int .i64 a.s.lo, .int .i64 a.s.hi] 30)] wy) :
    rswap5_r6C.wp Tryz.prog (Exit.then K Q0) ⟨#[u0, u1, u2, u3, u4, u5, .pointer (some ⟨d1_1, 0, none⟩), u7, u8, .int .u64 (Wd.swapV bits high (oneC a)), u10, u11, u12, u13, u14, u15, u16, u17, u18, u19, u20, u21, u22, u23, u24, u25, u26, u27, u28, u29, u30, u31, u32, u33, u34, u35, u36, u37, u38], []⟩ wy := by
  have HK := Lib.hid hK
  clear hK
  conv => arg 2; whnf
  refine Gw.line _ M ?_
  clear M wy
  refine Gw.sw (.int .u64 (Wd.swapV bits high (oneC a))) ?_
  try simp only [Act.put, ptA, ptB, ptC]
  refine Gw.sk (.agg #[.int .u64 (bi (numC (Wd.swapV bits high (oneC a))).t.v), .int .u64 (bi (numC (Wd.swapV bits high (oneC a))).t.m), .int .u64 ((numC (Wd.swapV bits high (oneC a))).u.lo), .int .u64 ((numC (Wd.swapV bits high (oneC a))).u.hi), .int .i64 ((numC (Wd.swapV bits high (oneC a))).s.lo), .int .i64 ((numC (Wd.swapV bits high (oneC a))).s.hi)]) 18 #[.int .u64 (Wd.swapV bits high (oneC a))] (fun w M => rofn5 (Wd.swapV bits high (oneC a)) (swapV_bd bits high (oneC a) (one_bd ha)) w) ?_
  try simp only [Act.put, ptA, ptB, ptC]
  refine Gw.ss ?_
  intro w M K' hK
  have c := M.c6 0
  have f := M.f6 0
  go_simp
  refine hK.out _ _ _ ((((((M.set 0 0 _).set 0 1 _).set 0 2 _).set 0 3 _).set 0 4 _).set 0 5 _) ?_
  clear hK K' c f M w
  exact fun z M => HK.out _ _ z M
noncomputable def rswap5_r7C : Code := (Tryz.f33.body.bind (Rg.findR 7)).getD .skip
set_option maxHeartbeats 4000000 in
theorem rswap5_r7 (bits : Int) (high : Bool) (a : C) (ha : mayC a) (hb : -9223372036854775808 ≤ bits ∧ bits ≤ 9223372036854775807) {w0 : World}  {K : Act → World → Prop} {Q0 : Exit → Act → World → Prop} {d1_1 d1_0 : Nat} {u2 u3 u4 u5 u6 u7 u8 u9 u10 u11 u12 u13 u14 u15 u16 u17 u18 u19 u20 u21 u22 u23 u24 u25 u26 u27 u28 u29 u30 u31 u32 u33 u34 u35 u36 u37 u38 : Value}
    (hQ : ∀ c a d v w, Q0 (.panic c) (Act.put a d v) w → Q0 (.panic c) a w)
    (hK : ∀ (t29 t30 t31 t32 t33 : Value) (o34 : Bool) (_ : o34 = ((bits == 64) && (!high))) (z : World), Gw.Mem w0 [(d1_1, .cells #[.int .u64 0, .int .u64 0, .int .u64 0, .int .u64 0, .int .i64 0, .int .i64 0] 30), (d1_0, .cells #[.int .u64 (bi a.t.v), .int .u64 (bi a.t.m), .int .u64 a.u.lo, .int .u64 a.u.hi, .int .i64 a.s.lo, .int .i64 a.s.hi] 30)] z → K ⟨#[.int .i64 bits, .bool high, u2, u3, u4, u5, u6, u7, u8, u9, u10, u11, u12, u13, u14, u15, u16, u17, u18, u19, u20, u21, u22, u23, u24, u25, u26, u27, u28, t29, t30, t31, t32, t33, .bool o34, u35, u36, u37, u38], []⟩ z) (wy : World) (M : Gw.Mem w0 [(d1_1, .cells #[.int .u64 0, .int .u64 0, .int .u64 0, .int .u64 0, .int .i64 0, .int .i64 0] 30), (d1_0, .cells #[.int .u64 (bi a.t.v), .int .u64 (bi a.t.m), .int .u64 a.u.lo, .int .u64 a.u.hi, .int .i64 a.s.lo, .int .i64 a.s.hi] 30)] wy) :
    rswap5_r7C.wp Tryz.prog (Exit.then K Q0) ⟨#[.int .i64 bits, .bool high, u2, u3, u4, u5, u6, u7, u8, u9, u10, u11, u12, u13, u14, u15, u16, u17, u18, u19, u20, u21, u22, u23, u24, u25, u26, u27, u28, u29, u30, u31, u32, u33, u34, u35, u36, u37, u38], []⟩ wy := by
  have HK := Lib.hid hK
  clear hK
  conv => arg 2; whnf
  refine Gw.line _ M ?_
  clear M wy
  refine Gw.sw (.int .i64 bits) ?_
  try simp only [Act.put, ptA, ptB, ptC]
  refine Gw.sw (.bool (bits == 64)) ?_
  try simp only [Act.put, ptA, ptB, ptC]
  refine Gw.sw (.bool (bits == 64)) ?_
  try simp only [Act.put, ptA, ptB, ptC]
  cases hb0_7 : (bits == 64)
  · try simp only [Bool.not_true, Bool.not_false]
    refine Gw.su ?_
    try simp only [Act.put, ptA, ptB, ptC]
    refine Gw.su ?_
    try simp only [Act.put, ptA, ptB, ptC]
    refine Gw.sw (.bool false) ?_
    try simp only [Act.put, ptA, ptB, ptC]
    exact fun z M => HK.out _ _ _ _ _ _ (by simp [hb0_7]) z M
  · try simp only [Bool.not_true, Bool.not_false]
    refine Gw.sw (.bool high) ?_
    try simp only [Act.put, ptA, ptB, ptC]
    refine Gw.sw (.bool (!high)) ?_
    try simp only [Act.put, ptA, ptB, ptC]
    refine Gw.sw (.bool (!high)) ?_
    try simp only [Act.put, ptA, ptB, ptC]
    exact fun z M => HK.out _ _ _ _ _ _ (by simp [hb0_7]) z M
noncomputable def rswap5_r8C : Code := (Tryz.f33.body.bind (Rg.findR 8)).getD .skip
set_option maxHeartbeats 4000000 in
theorem rswap5_r8 (bits : Int) (high : Bool) (a : C) (ha : mayC a) (hb : -9223372036854775808 ≤ bits ∧ bits ≤ 9223372036854775807) {w0 : World}  {K : Act → World → Prop} {Q0 : Exit → Act → World → Prop} {d1_1 d1_0 : Nat} {u0 u1 u2 u3 u4 u7 u8 u9 u10 u11 u12 u13 u14 u15 u16 u17 u18 u19 u20 u21 u22 u23 u24 u25 u26 u27 u28 u29 u30 u31 u32 u33 u34 u35 u36 u37 u38 : Value}
    (hQ : ∀ c a d v w, Q0 (.panic c) (Act.put a d v) w → Q0 (.panic c) a w)
    (hK : ∀ (t35 : Value) (z : World), Gw.Mem w0 [(d1_1, .cells #[.int .u64 (bi a.t.v), .int .u64 (bi a.t.m), .int .u64 a.u.lo, .int .u64 a.u.hi, .int .i64 a.s.lo, .int .i64 a.s.hi] 30), (d1_0, .cells #[.int .u64 (bi a.t.v), .int .u64 (bi a.t.m), .int .u64 a.u.lo, .int .u64 a.u.hi, .int .i64 a.s.lo, .int .i64 a.s.hi] 30)] z → K ⟨#[u0, u1, u2, u3, u4, .pointer (some ⟨d1_0, 0, none⟩), .pointer (some ⟨d1_1, 0, none⟩), u7, u8, u9, u10, u11, u12, u13, u14, u15, u16, u17, u18, u19, u20, u21, u22, u23, u24, u25, u26, u27, u28, u29, u30, u31, u32, u33, u34, t35, u36, u37, u38], []⟩ z) (wy : World) (M : Gw.Mem w0 [(d1_1, .cells #[.int .u64 0, .int .u64 0, .int .u64 0, .int .u64 0, .int .i64 0, .int .i64 0] 30), (d1_0, .cells #[.int .u64 (bi a.t.v), .int .u64 (bi a.t.m), .int .u64 a.u.lo, .int .u64 a.u.hi, .int .i64 a.s.lo, .int .i64 a.s.hi] 30)] wy) :
    rswap5_r8C.wp Tryz.prog (Exit.then K Q0) ⟨#[u0, u1, u2, u3, u4, .pointer (some ⟨d1_0, 0, none⟩), .pointer (some ⟨d1_1, 0, none⟩), u7, u8, u9, u10, u11, u12, u13, u14, u15, u16, u17, u18, u19, u20, u21, u22, u23, u24, u25, u26, u27, u28, u29, u30, u31, u32, u33, u34, u35, u36, u37, u38], []⟩ wy := by
  have HK := Lib.hid hK
  clear hK
  conv => arg 2; whnf
  refine Gw.line _ M ?_
  clear M wy
  refine Gw.sq (.agg #[.int .u64 (bi a.t.v), .int .u64 (bi a.t.m), .int .u64 a.u.lo, .int .u64 a.u.hi, .int .i64 a.s.lo, .int .i64 a.s.hi]) ?_ ?_
  · intro w M; have c := M.c6 1; go_simp
  try simp only [Act.put, ptA, ptB, ptC]
  refine Gw.ss ?_
  intro w M K' hK
  have c := M.c6 0
  have f := M.f6 0
  go_simp
  refine hK.out _ _ _ ((((((M.set 0 0 _).set 0 1 _).set 0 2 _).set 0 3 _).set 0 4 _).set 0 5 _) ?_
  clear hK K' c f M w
  exact fun z M => HK.out _ z M
noncomputable def rswap5_r9C : Code := (Tryz.f33.body.bind (Rg.findR 9)).getD .skip
set_option maxHeartbeats 4000000 in
theorem rswap5_r9 (bits : Int) (high : Bool) (a : C) (ha : mayC a) (hb : -9223372036854775808 ≤ bits ∧ bits ≤ 9223372036854775807) (hok : Wd.swapOk bits = true) {w0 : World}  {K : Act → World → Prop} {Q0 : Exit → Act → World → Prop} {d1_1 d1_0 : Nat} {u1 u2 u3 u4 u5 u7 u8 u9 u10 u11 u12 u13 u14 u15 u16 u17 u18 u19 u20 u21 u22 u23 u24 u25 u26 u27 u28 u29 u30 u31 u32 u33 u34 u35 u36 u37 u38 : Value}
    (hQ : ∀ c a d v w, Q0 (.panic c) (Act.put a d v) w → Q0 (.panic c) a w)
    (hK : ∀ (t36 t37 t38 : Value) (z : World), Gw.Mem w0 [(d1_1, .cells #[.int .u64 (bi (uptoC (bits / 8)).t.v), .int .u64 (bi (uptoC (bits / 8)).t.m), .int .u64 ((uptoC (bits / 8)).u.lo), .int .u64 ((uptoC (bits / 8)).u.hi), .int .i64 ((uptoC (bits / 8)).s.lo), .int .i64 ((uptoC (bits / 8)).s.hi)] 30), (d1_0, .cells #[.int .u64 (bi a.t.v), .int .u64 (bi a.t.m), .int .u64 a.u.lo, .int .u64 a.u.hi, .int .i64 a.s.lo, .int .i64 a.s.hi] 30)] z → K ⟨#[.int .i64 bits, u1, u2, u3, u4, u5, .pointer (some ⟨d1_1, 0, none⟩), u7, u8, u9, u10, u11, u12, u13, u14, u15, u16, u17, u18, u19, u20, u21, u22, u23, u24, u25, u26, u27, u28, u29, u30, u31, u32, u33, u34, u35, t36, t37, t38], []⟩ z) (wy : World) (M : Gw.Mem w0 [(d1_1, .cells #[.int .u64 0, .int .u64 0, .int .u64 0, .int .u64 0, .int .i64 0, .int .i64 0] 30), (d1_0, .cells #[.int .u64 (bi a.t.v), .int .u64 (bi a.t.m), .int .u64 a.u.lo, .int .u64 a.u.hi, .int .i64 a.s.lo, .int .i64 a.s.hi] 30)] wy) :
    rswap5_r9C.wp Tryz.prog (Exit.then K Q0) ⟨#[.int .i64 bits, u1, u2, u3, u4, u5, .pointer (some ⟨d1_1, 0, none⟩), u7, u8, u9, u10, u11, u12, u13, u14, u15, u16, u17, u18, u19, u20, u21, u22, u23, u24, u25, u26, u27, u28, u29, u30, u31, u32, u33, u34, u35, u36, u37, u38], []⟩ wy := by
  have HK := Lib.hid hK
  clear hK
  conv => arg 2; whnf
  refine Gw.line _ M ?_
  clear M wy
  refine Gw.sw (.int .i64 bits) ?_
  try simp only [Act.put, ptA, ptB, ptC]
  refine Gw.sw (.int .i64 (bits / 8)) ?_ (hy := by intro w; have q1 := q8 hok; have q2 := q9 hok; go_simp; rw [q2] at q1; exact q1)
  try simp only [Act.put, ptA, ptB, ptC]
  refine Gw.sk (.agg #[.int .u64 (bi (uptoC (bits / 8)).t.v), .int .u64 (bi (uptoC (bits / 8)).t.m), .int .u64 ((uptoC (bits / 8)).u.lo), .int .u64 ((uptoC (bits / 8)).u.hi), .int .i64 ((uptoC (bits / 8)).s.lo), .int .i64 ((uptoC (bits / 8)).s.hi)]) 22 #[.int .i64 (bits / 8)] (fun w M => rupto5 (bits / 8) ⟨by omega, by omega⟩ w) ?_
  try simp only [Act.put, ptA, ptB, ptC]
  refine Gw.ss ?_
  intro w M K' hK
  have c := M.c6 0
  have f := M.f6 0
  go_simp
  refine hK.out _ _ _ ((((((M.set 0 0 _).set 0 1 _).set 0 2 _).set 0 3 _).set 0 4 _).set 0 5 _) ?_
  clear hK K' c f M w
  exact fun z M => HK.out _ _ _ z M
set_option maxHeartbeats 4000000 in
theorem rswap5 (bits : Int) (high : Bool) (a : C) (ha : mayC a) (hb : -9223372036854775808 ≤ bits ∧ bits ≤ 9223372036854775807) (w : World) :
    Calls Tryz.prog 33 #[.int .i64 bits, .bool high, .agg #[.int .u64 (bi a.t.v), .int .u64 (bi a.t.m), .int .u64 a.u.lo, .int .u64 a.u.hi, .int .i64 a.s.lo, .int .i64 a.s.hi]] w fun e w' => e = .returned (.agg #[.int .u64 (bi (swapC bits high a).t.v), .int .u64 (bi (swapC bits high a).t.m), .int .u64 ((swapC bits high a).u.lo), .int .u64 ((swapC bits high a).u.hi), .int .i64 ((swapC bits high a).s.lo), .int .i64 ((swapC bits high a).s.hi)]) ∧ Below w.heap.size w w' := by
  go_enter Tryz.func33, Tryz.ntmps33
  have M := Gw.Mem.nil w
  refine wp_seq (rswap5_r0 bits high a ha hb (fun _ _ d _ _ h => by cases d <;> exact h) ?_ _ M)
  clear M
  intro d1_0 d1_1 z1 M
  refine wp_seq (rswap5_r1 bits high a ha hb (fun _ _ d _ _ h => by cases d <;> exact h) ?_ _ M)
  clear M
  intro _ _ _ _ _ z2 M
  refine wp_seq (rswap5_r2 bits high a ha hb (fun _ _ d _ _ h => by cases d <;> exact h) ?_ _ M)
  clear M
  intro _ _ _ _ _ _ _ z3 M
  refine wp_seq ?_
  refine wp_seq (rswap5_r3 bits high a ha hb (fun _ _ d _ _ h => by cases d <;> exact h) ?_ _ M)
  clear M
  intro _ z4 M
  refine wp_cond_split (t := (!(Wd.swapOk bits))) rfl (fun h0 => ?_) (fun h0 => ?_)
  · refine wp_seq (rswap5_r4 bits high a ha hb (fun _ _ d _ _ h => by cases d <;> exact h) ?_ _ M)
    clear M
    intro _ z5 M
    refine wp_ret ?_
    try simp only [Exit.inBlock, Exit.then]
    have g0 := M.cell 0 0
    have g1 := M.cell 0 1
    have g2 := M.cell 0 2
    have g3 := M.cell 0 3
    have g4 := M.cell 0 4
    have g5 := M.cell 0 5
    refine bodyPost_ret (by simp [results, Tryz.results33, g0, g1, g2, g3, g4, g5, go_sem]; try rfl) rfl ?_
    exact ⟨by rw [swap_1 h0], M.below⟩
  · refine wp_skip ?_
    try simp only [Exit.inBlock, Exit.then]
    refine wp_seq ?_
    refine wp_seq (rswap5_r5 bits high a ha hb (fun _ _ d _ _ h => by cases d <;> exact h) ?_ _ M)
    clear M
    intro z6 M
    refine wp_cond_split (t := (aloneC a)) rfl (fun h1 => ?_) (fun h1 => ?_)
    · refine wp_seq (rswap5_r6 bits high a ha hb (fun _ _ d _ _ h => by cases d <;> exact h) ?_ _ M)
      clear M
      intro _ _ z7 M
      refine wp_ret ?_
      try simp only [Exit.inBlock, Exit.then]
      have g0 := M.cell 0 0
      have g1 := M.cell 0 1
      have g2 := M.cell 0 2
      have g3 := M.cell 0 3
      have g4 := M.cell 0 4
      have g5 := M.cell 0 5
      refine bodyPost_ret (by simp [results, Tryz.results33, g0, g1, g2, g3, g4, g5, go_sem]; try rfl) rfl ?_
      exact ⟨by rw [swap_2 h0 h1], M.below⟩
    · refine wp_skip ?_
      try simp only [Exit.inBlock, Exit.then]
      refine wp_seq ?_
      refine wp_seq (rswap5_r7 bits high a ha hb (fun _ _ d _ _ h => by cases d <;> exact h) ?_ _ M)
      clear M
      intro _ _ _ _ _ o34 e34 z8 M
      subst e34
      refine wp_cond_split (t := ((bits == 64) && (!high))) rfl (fun h2 => ?_) (fun h2 => ?_)
      · refine wp_seq (rswap5_r8 bits high a ha hb (fun _ _ d _ _ h => by cases d <;> exact h) ?_ _ M)
        clear M
        intro _ z9 M
        refine wp_ret ?_
        try simp only [Exit.inBlock, Exit.then]
        have g0 := M.cell 0 0
        have g1 := M.cell 0 1
        have g2 := M.cell 0 2
        have g3 := M.cell 0 3
        have g4 := M.cell 0 4
        have g5 := M.cell 0 5
        refine bodyPost_ret (by simp [results, Tryz.results33, g0, g1, g2, g3, g4, g5, go_sem]; try rfl) rfl ?_
        exact ⟨by rw [swap_3 h0 h1 h2], M.below⟩
      · refine wp_skip ?_
        try simp only [Exit.inBlock, Exit.then]
        refine wp_seq (rswap5_r9 bits high a ha hb (nb h0) (fun _ _ d _ _ h => by cases d <;> exact h) ?_ _ M)
        clear M
        intro _ _ _ z10 M
        refine wp_ret ?_
        try simp only [Exit.inBlock, Exit.then]
        have g0 := M.cell 0 0
        have g1 := M.cell 0 1
        have g2 := M.cell 0 2
        have g3 := M.cell 0 3
        have g4 := M.cell 0 4
        have g5 := M.cell 0 5
        refine bodyPost_ret (by simp [results, Tryz.results33, g0, g1, g2, g3, g4, g5, go_sem]; try rfl) rfl ?_
        exact ⟨by rw [swap_4 h0 h1 h2], M.below⟩
theorem X_st : Tryz.prog.underlying 30 = some (.struct (Tryz.prog.fieldsOf 30)) := by kernel_rfl
theorem X_in : Tryz.prog.stoodInHeld 30 = false := by kernel_rfl
theorem X_eg : Tryz.prog.eqGuardType Tryz.prog.depth 30 = false := by kernel_rfl
theorem U_in : Tryz.prog.stoodInHeld 26 = false := by kernel_rfl
theorem S_st : Tryz.prog.underlying 28 = some (.struct (Tryz.prog.fieldsOf 28)) := by kernel_rfl
theorem S_in : Tryz.prog.stoodInHeld 28 = false := by kernel_rfl
theorem T_st : Tryz.prog.underlying 24 = some (.struct (Tryz.prog.fieldsOf 24)) := by kernel_rfl
theorem T_in : Tryz.prog.stoodInHeld 24 = false := by kernel_rfl
set_option maxHeartbeats 2000000 in
theorem X_eql (x : C) (w : World) : (binOp .eql 30 (.agg #[.int .u64 (bi x.t.v), .int .u64 (bi x.t.m), .int .u64 x.u.lo, .int .u64 x.u.hi, .int .i64 x.s.lo, .int .i64 x.s.hi]) (.agg #[.int .u64 (bi x.t.v), .int .u64 (bi x.t.m), .int .u64 x.u.lo, .int .u64 x.u.hi, .int .i64 x.s.lo, .int .i64 x.s.hi])).run Tryz.prog w = .ok (.bool true) w := by
  rw [run_eql_struct, run_equalIn_agg _ _ _ _ _ X_st X_in]
  simp only [Program.fieldsOf, Tryz.underlying30]
  simp [go_sem, run_equalIn_agg _ _ _ _ _ T_st T_in, run_equalIn_agg _ _ _ _ _ U_st U_in, run_equalIn_agg _ _ _ _ _ S_st S_in, Program.fieldsOf, Tryz.underlying24, Tryz.underlying26, Tryz.underlying28]
theorem X_guard (op : BinOp) (xs ys : Array Value) (o1 o2 : Operand) (w : World) : (eqGuard op 30 o1 o2 (.agg xs) (.agg ys)).run Tryz.prog w = .ok () w := run_eqGuard_agg w op _ o1 o2 _ _ X_eg
noncomputable def swap_w_r0C : Code := (Tryz.f5.body.bind (Rg.findR 0)).getD .skip
set_option maxHeartbeats 4000000 in
theorem swap_w_r0 (bits : Int) (high : Bool) (x : C) (hx : inX x) (hb : -9223372036854775808 ≤ bits ∧ bits ≤ 9223372036854775807) {w0 : World}  {K : Act → World → Prop} {Q0 : Exit → Act → World → Prop} {u0 u1 u3 u4 u5 u6 u7 u8 u9 u10 u11 u12 u13 u14 u15 u16 u17 u18 u19 u20 : Value}
    (hQ : ∀ c a d v w, Q0 (.panic c) (Act.put a d v) w → Q0 (.panic c) a w)
    (hK : ∀ (t6 : Value) (d1_0 : Nat) (z : World), Gw.Mem w0 [(d1_0, .cells #[.int .u64 (bi x.t.v), .int .u64 (bi x.t.m), .int .u64 x.u.lo, .int .u64 x.u.hi, .int .i64 x.s.lo, .int .i64 x.s.hi] 30)] z → K ⟨#[u0, u1, .agg #[.int .u64 (bi x.t.v), .int .u64 (bi x.t.m), .int .u64 x.u.lo, .int .u64 x.u.hi, .int .i64 x.s.lo, .int .i64 x.s.hi], u3, u4, .pointer (some ⟨d1_0, 0, none⟩), t6, u7, u8, u9, u10, u11, u12, u13, u14, u15, u16, u17, u18, u19, u20], []⟩ z) (wy : World) (M : Gw.Mem w0 [] wy) :
    swap_w_r0C.wp Tryz.prog (Exit.then K Q0) ⟨#[u0, u1, .agg #[.int .u64 (bi x.t.v), .int .u64 (bi x.t.m), .int .u64 x.u.lo, .int .u64 x.u.hi, .int .i64 x.s.lo, .int .i64 x.s.hi], u3, u4, u5, u6, u7, u8, u9, u10, u11, u12, u13, u14, u15, u16, u17, u18, u19, u20], []⟩ wy := by
  have HK := Lib.hid hK
  clear hK
  conv => arg 2; whnf
  refine Gw.line _ M ?_
  clear M wy
  refine Gw.ss ?_
  intro w M K' hK
  go_simp
  have M1 := M.alloc (.cells #[.int .u64 (bi x.t.v), .int .u64 (bi x.t.m), .int .u64 x.u.lo, .int .u64 x.u.hi, .int .i64 x.s.lo, .int .i64 x.s.hi] 30)
  generalize w.heap.size = d1_0 at M1 ⊢
  refine hK.out _ _ _ M1 ?_
  clear hK K' M1 M w
  try simp only [Act.put, ptA, ptB, ptC]
  refine Gw.sw (.bool false) ?_
  try simp only [Act.put, ptA, ptB, ptC]
  exact fun z M => HK.out _ _ z M
noncomputable def swap_w_r1C : Code := (Tryz.f5.body.bind (Rg.findR 1)).getD .skip
set_option maxHeartbeats 4000000 in
theorem swap_w_r1 (bits : Int) (high : Bool) (x : C) (hx : inX x) (hb : -9223372036854775808 ≤ bits ∧ bits ≤ 9223372036854775807) {w0 : World}  {K : Act → World → Prop} {Q0 : Exit → Act → World → Prop} {d1_0 : Nat} {u0 u1 u2 u3 u4 u6 u7 u8 u9 u10 u11 u12 u13 u14 u15 u16 u17 u18 u19 u20 : Value}
    (hQ : ∀ c a d v w, Q0 (.panic c) (Act.put a d v) w → Q0 (.panic c) a w)
    (hK : ∀ (t7 t8 : Value) (z : World), Gw.Mem w0 [(d1_0, .cells #[.int .u64 (bi (sortC x).t.v), .int .u64 (bi (sortC x).t.m), .int .u64 ((sortC x).u.lo), .int .u64 ((sortC x).u.hi), .int .i64 ((sortC x).s.lo), .int .i64 ((sortC x).s.hi)] 30)] z → K ⟨#[u0, u1, u2, u3, u4, .pointer (some ⟨d1_0, 0, none⟩), u6, t7, t8, u9, u10, u11, u12, u13, u14, u15, u16, u17, u18, u19, u20], []⟩ z) (wy : World) (M : Gw.Mem w0 [(d1_0, .cells #[.int .u64 (bi x.t.v), .int .u64 (bi x.t.m), .int .u64 x.u.lo, .int .u64 x.u.hi, .int .i64 x.s.lo, .int .i64 x.s.hi] 30)] wy) :
    swap_w_r1C.wp Tryz.prog (Exit.then K Q0) ⟨#[u0, u1, u2, u3, u4, .pointer (some ⟨d1_0, 0, none⟩), u6, u7, u8, u9, u10, u11, u12, u13, u14, u15, u16, u17, u18, u19, u20], []⟩ wy := by
  have HK := Lib.hid hK
  clear hK
  conv => arg 2; whnf
  refine Gw.line _ M ?_
  clear M wy
  refine Gw.sq (.agg #[.int .u64 (bi x.t.v), .int .u64 (bi x.t.m), .int .u64 x.u.lo, .int .u64 x.u.hi, .int .i64 x.s.lo, .int .i64 x.s.hi]) ?_ ?_
  · intro w M; have c := M.c6 0; go_simp
  try simp only [Act.put, ptA, ptB, ptC]
  refine Gw.sk (.agg #[.int .u64 (bi (sortC x).t.v), .int .u64 (bi (sortC x).t.m), .int .u64 ((sortC x).u.lo), .int .u64 ((sortC x).u.hi), .int .i64 ((sortC x).s.lo), .int .i64 ((sortC x).s.hi)]) 12 #[.agg #[.int .u64 (bi x.t.v), .int .u64 (bi x.t.m), .int .u64 x.u.lo, .int .u64 x.u.hi, .int .i64 x.s.lo, .int .i64 x.s.hi]] (fun w M => May5 x w) ?_
  try simp only [Act.put, ptA, ptB, ptC]
  refine Gw.ss ?_
  intro w M K' hK
  have c := M.c6 0
  have f := M.f6 0
  go_simp
  refine hK.out _ _ _ ((((((M.set 0 0 _).set 0 1 _).set 0 2 _).set 0 3 _).set 0 4 _).set 0 5 _) ?_
  clear hK K' c f M w
  exact fun z M => HK.out _ _ z M
noncomputable def swap_w_r2C : Code := (Tryz.f5.body.bind (Rg.findR 2)).getD .skip
set_option maxHeartbeats 4000000 in
theorem swap_w_r2 (bits : Int) (high : Bool) (x : C) (hx : inX x) (hb : -9223372036854775808 ≤ bits ∧ bits ≤ 9223372036854775807) {w0 : World}  {K : Act → World → Prop} {Q0 : Exit → Act → World → Prop} {d1_0 : Nat} {u2 u3 u4 u6 u7 u8 u9 u10 u11 u12 u13 u14 u15 u16 u17 u18 u19 u20 : Value}
    (hQ : ∀ c a d v w, Q0 (.panic c) (Act.put a d v) w → Q0 (.panic c) a w)
    (hK : ∀ (t9 t10 t11 t12 t13 t14 t15 t16 t17 t18 t19 t20 : Value) (z : World), Gw.Mem w0 [(d1_0, .cells #[.int .u64 (bi (sortC x).t.v), .int .u64 (bi (sortC x).t.m), .int .u64 ((sortC x).u.lo), .int .u64 ((sortC x).u.hi), .int .i64 ((sortC x).s.lo), .int .i64 ((sortC x).s.hi)] 30)] z → K ⟨#[.int .i64 bits, .bool high, u2, u3, u4, .pointer (some ⟨d1_0, 0, none⟩), .bool true, u7, u8, t9, t10, t11, t12, t13, t14, t15, t16, t17, t18, t19, t20], []⟩ z) (wy : World) (M : Gw.Mem w0 [(d1_0, .cells #[.int .u64 (bi (sortC x).t.v), .int .u64 (bi (sortC x).t.m), .int .u64 ((sortC x).u.lo), .int .u64 ((sortC x).u.hi), .int .i64 ((sortC x).s.lo), .int .i64 ((sortC x).s.hi)] 30)] wy) :
    swap_w_r2C.wp Tryz.prog (Exit.then K Q0) ⟨#[.int .i64 bits, .bool high, u2, u3, u4, .pointer (some ⟨d1_0, 0, none⟩), u6, u7, u8, u9, u10, u11, u12, u13, u14, u15, u16, u17, u18, u19, u20], []⟩ wy := by
  have HK := Lib.hid hK
  clear hK
  have hq : ∀ c a d v w, Exit.then K Q0 (.panic c) (Act.put a d v) w → Exit.then K Q0 (.panic c) a w := hQ
  conv => arg 2; whnf
  refine Gw.draw0 _ (by kernel_rfl) M.drew ?_
  clear M wy
  refine Gw.tw 0 (.int .i64 bits) ?_
  try simp only [Act.put, ptA, ptB, ptC]
  refine Gw.tw 1 (.bool high) ?_
  try simp only [Act.put, ptA, ptB, ptC]
  refine Gw.tg 2 (.agg #[.int .u64 (bi (sortC x).t.v), .int .u64 (bi (sortC x).t.m), .int .u64 ((sortC x).u.lo), .int .u64 ((sortC x).u.hi), .int .i64 ((sortC x).s.lo), .int .i64 ((sortC x).s.hi)]) ?_ ?_
  · intro w M; have c := M.c6 0; go_simp
  try simp only [Act.put, ptA, ptB, ptC]
  refine Gw.tkw 3 (.agg #[.int .u64 (bi (swapC bits high (sortC x)).t.v), .int .u64 (bi (swapC bits high (sortC x)).t.m), .int .u64 ((swapC bits high (sortC x)).u.lo), .int .u64 ((swapC bits high (sortC x)).u.hi), .int .i64 ((swapC bits high (sortC x)).s.lo), .int .i64 ((swapC bits high (sortC x)).s.hi)]) 32 #[.int .i64 bits, .bool high, .agg #[.int .u64 (bi (sortC x).t.v), .int .u64 (bi (sortC x).t.m), .int .u64 ((sortC x).u.lo), .int .u64 ((sortC x).u.hi), .int .i64 ((sortC x).s.lo), .int .i64 ((sortC x).s.hi)]] (fun w => swap5 bits high (sortC x) (sort_ok hx) hb w) ?_
  try simp only [Act.put, ptA, ptB, ptC]
  refine Gw.tw 4 (.int .i64 bits) ?_
  try simp only [Act.put, ptA, ptB, ptC]
  refine Gw.tw 5 (.bool high) ?_
  try simp only [Act.put, ptA, ptB, ptC]
  refine Gw.tg 6 (.agg #[.int .u64 (bi (sortC x).t.v), .int .u64 (bi (sortC x).t.m), .int .u64 ((sortC x).u.lo), .int .u64 ((sortC x).u.hi), .int .i64 ((sortC x).s.lo), .int .i64 ((sortC x).s.hi)]) ?_ ?_
  · intro w M; have c := M.c6 0; go_simp
  try simp only [Act.put, ptA, ptB, ptC]
  refine Gw.tkw 7 (.agg #[.int .u64 (bi (swapC bits high (sortC x)).t.v), .int .u64 (bi (swapC bits high (sortC x)).t.m), .int .u64 ((swapC bits high (sortC x)).u.lo), .int .u64 ((swapC bits high (sortC x)).u.hi), .int .i64 ((swapC bits high (sortC x)).s.lo), .int .i64 ((swapC bits high (sortC x)).s.hi)]) 33 #[.int .i64 bits, .bool high, .agg #[.int .u64 (bi (sortC x).t.v), .int .u64 (bi (sortC x).t.m), .int .u64 ((sortC x).u.lo), .int .u64 ((sortC x).u.hi), .int .i64 ((sortC x).s.lo), .int .i64 ((sortC x).s.hi)]] (fun w => rswap5 bits high (sortC x) (sort_ok hx) hb w) ?_
  try simp only [Act.put, ptA, ptB, ptC]
  refine Gw.tw 8 (.bool true) ?_ (hy := by intro w; have e1 := X_eql (swapC bits high (sortC x)); have e2 := X_guard .eql; go_simp)
  try simp only [Act.put, ptA, ptB, ptC]
  refine Gw.tw 9 (.bool true) ?_
  try simp only [Act.put, ptA, ptB, ptC]
  refine Gw.tkw 10 (.bool true) 29 #[] (fun w => known5 w) ?_
  try simp only [Act.put, ptA, ptB, ptC]
  refine Gw.tw 11 (.bool true) ?_
  try simp only [Act.put, ptA, ptB, ptC]
  refine Gw.tw 12 (.bool true) ?_
  try simp only [Act.put, ptA, ptB, ptC]
  exact Gw.td (by kernel_rfl) (fun z M => HK.out _ _ _ _ _ _ _ _ _ _ _ _ z M) _
set_option maxHeartbeats 4000000 in
theorem swap_w (bits : Int) (high : Bool) (x : C) (hx : inX x) (hb : -9223372036854775808 ≤ bits ∧ bits ≤ 9223372036854775807) (w : World) :
    Calls Tryz.prog 5 #[.int .i64 bits, .bool high, .agg #[.int .u64 (bi x.t.v), .int .u64 (bi x.t.m), .int .u64 x.u.lo, .int .u64 x.u.hi, .int .i64 x.s.lo, .int .i64 x.s.hi]] w fun e w' => e = .returned (.bool true) ∧ Below w.heap.size w w' := by
  go_enter Tryz.func5, Tryz.ntmps5
  have M := Gw.Mem.nil w
  refine wp_seq (swap_w_r0 bits high x hx hb (fun _ _ d _ _ h => by cases d <;> exact h) ?_ _ M)
  clear M
  intro _ d1_0 z1 M
  refine wp_seq (swap_w_r1 bits high x hx hb (fun _ _ d _ _ h => by cases d <;> exact h) ?_ _ M)
  clear M
  intro _ _ z2 M
  refine wp_seq (swap_w_r2 bits high x hx hb (fun _ _ d _ _ h => by cases d <;> exact h) ?_ _ M)
  clear M
  intro _ _ _ _ _ _ _ _ _ _ _ _ z3 M
  refine wp_ret ?_
  try simp only [Exit.inBlock, Exit.then]
  refine bodyPost_ret (by simp [results, Tryz.results5, go_sem]; try rfl) rfl ?_
  exact ⟨rfl, M.below⟩
end Go.Proofs.YtcimihckhobniaaGreat.Sc
