/-
  What the program's layer 5 tells: contracts, second part. Conditions: scalars may be, where that is said.
-/
import Derived.Test.YtcimihckhobniaaGreatXScalarP1
import Derived.Test.YtcimihckhobniaaGreatXM6
namespace Go.Proofs.YtcimihckhobniaaGreat.Sc
open Go.RowKit Tn Ow Sp
set_option linter.unusedVariables false
set_option linter.unusedSimpArgs false
set_option maxRecDepth 100000
theorem bd0 : (0 : Int) ≤ 0 ∧ (0 : Int) ≤ 18446744073709551615 := by decide
theorem any_mask (n : Int) (h1 : 1 ≤ n) (h2 : n ≤ 7) : L3.cutN anyT n = ⟨0#64, onesC n.toNat⟩ ∧ fromU (⟨0#64, onesC n.toNat⟩ : T) = ⟨0, bi (onesC n.toNat)⟩ ∧ fromS (⟨0#64, onesC n.toNat⟩ : T) = ⟨0, bi (onesC n.toNat)⟩ := by
  rcases (by omega : n = 1 ∨ n = 2 ∨ n = 3 ∨ n = 4 ∨ n = 5 ∨ n = 6 ∨ n = 7) with rfl | rfl | rfl | rfl | rfl | rfl | rfl <;> refine ⟨?_, ?_, ?_⟩ <;> kernel_rfl
theorem upto_cut (n : Int) : (⟨L3.cutN anyT n, fromU (L3.cutN anyT n), fromS (L3.cutN anyT n)⟩ : C) = uptoC n := by
  unfold uptoC
  by_cases h : 8 ≤ n
  · have e : L3.cutN anyT n = anyT := by unfold L3.cutN; rw [if_pos h]
    rw [if_pos h, e]; exact C.eq rfl (by kernel_rfl) (by kernel_rfl)
  · rw [if_neg h]
    by_cases h2 : n < 1
    · have e : L3.cutN anyT n = ofT 0#64 := by unfold L3.cutN; rw [if_neg h, if_pos h2]
      rw [if_pos h2, e]; exact C.eq rfl (by kernel_rfl) (by kernel_rfl)
    · rw [if_neg h2]
      obtain ⟨e1, e2, e3⟩ := any_mask n (by omega) (by omega)
      rw [e1, e2, e3]
noncomputable def upto5_r0C : Code := (Tryz.f21.body.bind (Rg.findR 0)).getD .skip
set_option maxHeartbeats 4000000 in
theorem upto5_r0 (n : Int) (hn : -9223372036854775808 ≤ n ∧ n ≤ 9223372036854775807) {w0 : World}  {K : Act → World → Prop} {Q0 : Exit → Act → World → Prop} {u0 u1 u2 u3 u4 u5 u6 u7 u8 u9 u10 u11 u12 u13 u14 u15 u16 u17 : Value}
    (hQ : ∀ c a d v w, Q0 (.panic c) (Act.put a d v) w → Q0 (.panic c) a w)
    (hK : ∀ (d1_0 : Nat) (z : World), Gw.Mem w0 [(d1_0, .cells #[.int .u64 0, .int .u64 0, .int .u64 0, .int .u64 0, .int .i64 0, .int .i64 0] 30)] z → K ⟨#[u0, u1, .pointer (some ⟨d1_0, 0, none⟩), u3, u4, u5, u6, u7, u8, u9, u10, u11, u12, u13, u14, u15, u16, u17], []⟩ z) (wy : World) (M : Gw.Mem w0 [] wy) :
    upto5_r0C.wp Tryz.prog (Exit.then K Q0) ⟨#[u0, u1, u2, u3, u4, u5, u6, u7, u8, u9, u10, u11, u12, u13, u14, u15, u16, u17], []⟩ wy := by
  have HK := Lib.hid hK
  clear hK
  conv => arg 2; whnf
  refine Gw.line _ M ?_
  clear M wy
  refine Gw.ss ?_
  intro w M K' hK
  go_simp
  have M1 := M.alloc (.cells #[.int .u64 0, .int .u64 0, .int .u64 0, .int .u64 0, .int .i64 0, .int .i64 0] 30)
  generalize w.heap.size = d1_0 at M1 ⊢
  refine hK.out _ _ _ M1 ?_
  clear hK K' M1 M w
  try simp only [Act.put, ptA, ptB, ptC]
  exact fun z M => HK.out _ z M
noncomputable def upto5_r1C : Code := (Tryz.f21.body.bind (Rg.findR 1)).getD .skip
set_option maxHeartbeats 4000000 in
theorem upto5_r1 (n : Int) (hn : -9223372036854775808 ≤ n ∧ n ≤ 9223372036854775807) {w0 : World}  {K : Act → World → Prop} {Q0 : Exit → Act → World → Prop} {d1_0 : Nat} {u1 u2 u3 u4 u5 u6 u7 u8 u9 u10 u11 u12 u13 u14 u15 u16 u17 : Value}
    (hQ : ∀ c a d v w, Q0 (.panic c) (Act.put a d v) w → Q0 (.panic c) a w)
    (hK : ∀ (t6 t7 t8 : Value) (d2_3 : Nat) (z : World), Gw.Mem w0 [(d2_3, .cells #[.int .u64 (bi (L3.cutN anyT n).v), .int .u64 (bi (L3.cutN anyT n).m)] 24), (d1_0, .cells #[.int .u64 0, .int .u64 0, .int .u64 0, .int .u64 0, .int .i64 0, .int .i64 0] 30)] z → K ⟨#[.int .i64 n, u1, u2, .pointer (some ⟨d2_3, 0, none⟩), u4, u5, t6, t7, t8, u9, u10, u11, u12, u13, u14, u15, u16, u17], []⟩ z) (wy : World) (M : Gw.Mem w0 [(d1_0, .cells #[.int .u64 0, .int .u64 0, .int .u64 0, .int .u64 0, .int .i64 0, .int .i64 0] 30)] wy) :
    upto5_r1C.wp Tryz.prog (Exit.then K Q0) ⟨#[.int .i64 n, u1, u2, u3, u4, u5, u6, u7, u8, u9, u10, u11, u12, u13, u14, u15, u16, u17], []⟩ wy := by
  have HK := Lib.hid hK
  clear hK
  conv => arg 2; whnf
  refine Gw.line _ M ?_
  clear M wy
  refine Gw.sk (.agg #[.int .u64 (bi anyT.v), .int .u64 (bi anyT.m)]) 49 #[] (fun w M => L3.any_any w) ?_
  try simp only [Act.put, ptA, ptB, ptC]
  refine Gw.sw (.int .i64 n) ?_
  try simp only [Act.put, ptA, ptB, ptC]
  refine Gw.sk (.agg #[.int .u64 (bi (L3.cutN anyT n).v), .int .u64 (bi (L3.cutN anyT n).m)]) 55 #[.agg #[.int .u64 (bi anyT.v), .int .u64 (bi anyT.m)], .int .i64 n] (fun w M => L3.cut_any anyT n hn w) ?_
  try simp only [Act.put, ptA, ptB, ptC]
  refine Gw.ss ?_
  intro w M K' hK
  go_simp
  have M1 := M.alloc (.cells #[.int .u64 0, .int .u64 0] 24)
  generalize w.heap.size = d2_3 at M1 ⊢
  refine hK.out _ _ _ M1 ?_
  clear hK K' M1 M w
  try simp only [Act.put, ptA, ptB, ptC]
  refine Gw.ss ?_
  intro w M K' hK
  have c := M.c2 0 0 1
  have f := M.f2 0 0 1
  go_simp
  refine hK.out _ _ _ ((M.set 0 0 _).set 0 1 _) ?_
  clear hK K' c f M w
  exact fun z M => HK.out _ _ _ _ z M
noncomputable def upto5_r2C : Code := (Tryz.f21.body.bind (Rg.findR 2)).getD .skip
set_option maxHeartbeats 4000000 in
theorem upto5_r2 (n : Int) (hn : -9223372036854775808 ≤ n ∧ n ≤ 9223372036854775807) {w0 : World}  {K : Act → World → Prop} {Q0 : Exit → Act → World → Prop} {d2_3 d1_0 : Nat} {u0 u1 u2 u4 u5 u6 u7 u8 u9 u10 u11 u12 u13 u14 u15 u16 u17 : Value}
    (hQ : ∀ c a d v w, Q0 (.panic c) (Act.put a d v) w → Q0 (.panic c) a w)
    (hK : ∀ (t9 t10 t11 t12 t13 : Value) (d3_5 d3_6 : Nat) (z : World), Gw.Mem w0 [(d3_6, .cells #[.int .i64 ((fromS (L3.cutN anyT n)).lo), .int .i64 ((fromS (L3.cutN anyT n)).hi)] 28), (d3_5, .cells #[.int .u64 ((fromU (L3.cutN anyT n)).lo), .int .u64 ((fromU (L3.cutN anyT n)).hi)] 26), (d2_3, .cells #[.int .u64 (bi (L3.cutN anyT n).v), .int .u64 (bi (L3.cutN anyT n).m)] 24), (d1_0, .cells #[.int .u64 0, .int .u64 0, .int .u64 0, .int .u64 0, .int .i64 0, .int .i64 0] 30)] z → K ⟨#[u0, u1, u2, .pointer (some ⟨d2_3, 0, none⟩), .pointer (some ⟨d3_5, 0, none⟩), .pointer (some ⟨d3_6, 0, none⟩), u6, u7, u8, t9, t10, t11, t12, t13, u14, u15, u16, u17], []⟩ z) (wy : World) (M : Gw.Mem w0 [(d2_3, .cells #[.int .u64 (bi (L3.cutN anyT n).v), .int .u64 (bi (L3.cutN anyT n).m)] 24), (d1_0, .cells #[.int .u64 0, .int .u64 0, .int .u64 0, .int .u64 0, .int .i64 0, .int .i64 0] 30)] wy) :
    upto5_r2C.wp Tryz.prog (Exit.then K Q0) ⟨#[u0, u1, u2, .pointer (some ⟨d2_3, 0, none⟩), u4, u5, u6, u7, u8, u9, u10, u11, u12, u13, u14, u15, u16, u17], []⟩ wy := by
  have HK := Lib.hid hK
  clear hK
  conv => arg 2; whnf
  refine Gw.line _ M ?_
  clear M wy
  refine Gw.sq (.agg #[.int .u64 (bi (L3.cutN anyT n).v), .int .u64 (bi (L3.cutN anyT n).m)]) ?_ ?_
  · intro w M; have c := M.c2 0 0 1; go_simp
  try simp only [Act.put, ptA, ptB, ptC]
  refine Gw.sk (.tuple #[.agg #[.int .u64 ((fromU (L3.cutN anyT n)).lo), .int .u64 ((fromU (L3.cutN anyT n)).hi)], .agg #[.int .i64 ((fromS (L3.cutN anyT n)).lo), .int .i64 ((fromS (L3.cutN anyT n)).hi)]]) 56 #[.agg #[.int .u64 (bi (L3.cutN anyT n).v), .int .u64 (bi (L3.cutN anyT n).m)]] (fun w M => fromt_any (L3.cutN anyT n) w) ?_
  try simp only [Act.put, ptA, ptB, ptC]
  refine Gw.sw (.tuple #[.agg #[.int .u64 ((fromU (L3.cutN anyT n)).lo), .int .u64 ((fromU (L3.cutN anyT n)).hi)], .agg #[.int .i64 ((fromS (L3.cutN anyT n)).lo), .int .i64 ((fromS (L3.cutN anyT n)).hi)]]) ?_
  try simp only [Act.put, ptA, ptB, ptC]
  refine Gw.sw (.agg #[.int .u64 ((fromU (L3.cutN anyT n)).lo), .int .u64 ((fromU (L3.cutN anyT n)).hi)]) ?_
  try simp only [Act.put, ptA, ptB, ptC]
  refine Gw.sw (.agg #[.int .i64 ((fromS (L3.cutN anyT n)).lo), .int .i64 ((fromS (L3.cutN anyT n)).hi)]) ?_
  try simp only [Act.put, ptA, ptB, ptC]
  refine Gw.ss ?_
  intro w M K' hK
  go_simp
  have M1 := M.alloc (.cells #[.int .u64 0, .int .u64 0] 26)
  generalize w.heap.size = d3_5 at M1 ⊢
  refine hK.out _ _ _ M1 ?_
  clear hK K' M1 M w
  try simp only [Act.put, ptA, ptB, ptC]
  refine Gw.ss ?_
  intro w M K' hK
  go_simp
  have M1 := M.alloc (.cells #[.int .i64 0, .int .i64 0] 28)
  generalize w.heap.size = d3_6 at M1 ⊢
  refine hK.out _ _ _ M1 ?_
  clear hK K' M1 M w
  try simp only [Act.put, ptA, ptB, ptC]
  refine Gw.ss ?_
  intro w M K' hK
  have c := M.c2 1 0 1
  have f := M.f2 1 0 1
  go_simp
  refine hK.out _ _ _ ((M.set 1 0 _).set 1 1 _) ?_
  clear hK K' c f M w
  refine Gw.ss ?_
  intro w M K' hK
  have c := M.c2 0 0 1
  have f := M.f2 0 0 1
  go_simp
  refine hK.out _ _ _ ((M.set 0 0 _).set 0 1 _) ?_
  clear hK K' c f M w
  exact fun z M => HK.out _ _ _ _ _ _ _ z M
noncomputable def upto5_r3C : Code := (Tryz.f21.body.bind (Rg.findR 3)).getD .skip
set_option maxHeartbeats 4000000 in
theorem upto5_r3 (n : Int) (hn : -9223372036854775808 ≤ n ∧ n ≤ 9223372036854775807) {w0 : World}  {K : Act → World → Prop} {Q0 : Exit → Act → World → Prop} {d3_6 d3_5 d2_3 d1_0 : Nat} {u0 u1 u6 u7 u8 u9 u10 u11 u12 u13 u14 u15 u16 u17 : Value}
    (hQ : ∀ c a d v w, Q0 (.panic c) (Act.put a d v) w → Q0 (.panic c) a w)
    (hK : ∀ (t14 t15 t16 t17 : Value) (z : World), Gw.Mem w0 [(d3_6, .cells #[.int .i64 ((fromS (L3.cutN anyT n)).lo), .int .i64 ((fromS (L3.cutN anyT n)).hi)] 28), (d3_5, .cells #[.int .u64 ((fromU (L3.cutN anyT n)).lo), .int .u64 ((fromU (L3.cutN anyT n)).hi)] 26), (d2_3, .cells #[.int .u64 (bi (L3.cutN anyT n).v), .int .u64 (bi (L3.cutN anyT n).m)] 24), (d1_0, .cells #[.int .u64 (bi (L3.cutN anyT n).v), .int .u64 (bi (L3.cutN anyT n).m), .int .u64 ((fromU (L3.cutN anyT n)).lo), .int .u64 ((fromU (L3.cutN anyT n)).hi), .int .i64 ((fromS (L3.cutN anyT n)).lo), .int .i64 ((fromS (L3.cutN anyT n)).hi)] 30)] z → K ⟨#[u0, u1, .pointer (some ⟨d1_0, 0, none⟩), .pointer (some ⟨d2_3, 0, none⟩), .pointer (some ⟨d3_5, 0, none⟩), .pointer (some ⟨d3_6, 0, none⟩), u6, u7, u8, u9, u10, u11, u12, u13, t14, t15, t16, t17], []⟩ z) (wy : World) (M : Gw.Mem w0 [(d3_6, .cells #[.int .i64 ((fromS (L3.cutN anyT n)).lo), .int .i64 ((fromS (L3.cutN anyT n)).hi)] 28), (d3_5, .cells #[.int .u64 ((fromU (L3.cutN anyT n)).lo), .int .u64 ((fromU (L3.cutN anyT n)).hi)] 26), (d2_3, .cells #[.int .u64 (bi (L3.cutN anyT n).v), .int .u64 (bi (L3.cutN anyT n).m)] 24), (d1_0, .cells #[.int .u64 0, .int .u64 0, .int .u64 0, .int .u64 0, .int .i64 0, .int .i64 0] 30)] wy) :
    upto5_r3C.wp Tryz.prog (Exit.then K Q0) ⟨#[u0, u1, .pointer (some ⟨d1_0, 0, none⟩), .pointer (some ⟨d2_3, 0, none⟩), .pointer (some ⟨d3_5, 0, none⟩), .pointer (some ⟨d3_6, 0, none⟩), u6, u7, u8, u9, u10, u11, u12, u13, u14, u15, u16, u17], []⟩ wy := by
  have HK := Lib.hid hK
  clear hK
  conv => arg 2; whnf
  refine Gw.line _ M ?_
  clear M wy
  refine Gw.sq (.agg #[.int .u64 (bi (L3.cutN anyT n).v), .int .u64 (bi (L3.cutN anyT n).m)]) ?_ ?_
  · intro w M; have c := M.c2 2 0 1; go_simp
  try simp only [Act.put, ptA, ptB, ptC]
  refine Gw.sq (.agg #[.int .u64 ((fromU (L3.cutN anyT n)).lo), .int .u64 ((fromU (L3.cutN anyT n)).hi)]) ?_ ?_
  · intro w M; have c := M.c2 1 0 1; go_simp
  try simp only [Act.put, ptA, ptB, ptC]
  refine Gw.sq (.agg #[.int .i64 ((fromS (L3.cutN anyT n)).lo), .int .i64 ((fromS (L3.cutN anyT n)).hi)]) ?_ ?_
  · intro w M; have c := M.c2 0 0 1; go_simp
  try simp only [Act.put, ptA, ptB, ptC]
  refine Gw.sw (.agg #[.int .u64 (bi (L3.cutN anyT n).v), .int .u64 (bi (L3.cutN anyT n).m), .int .u64 ((fromU (L3.cutN anyT n)).lo), .int .u64 ((fromU (L3.cutN anyT n)).hi), .int .i64 ((fromS (L3.cutN anyT n)).lo), .int .i64 ((fromS (L3.cutN anyT n)).hi)]) ?_
  try simp only [Act.put, ptA, ptB, ptC]
  refine Gw.ss ?_
  intro w M K' hK
  have c := M.c6 3
  have f := M.f6 3
  go_simp
  refine hK.out _ _ _ ((((((M.set 3 0 _).set 3 1 _).set 3 2 _).set 3 3 _).set 3 4 _).set 3 5 _) ?_
  clear hK K' c f M w
  exact fun z M => HK.out _ _ _ _ z M
set_option maxHeartbeats 4000000 in
theorem upto5 (n : Int) (hn : -9223372036854775808 ≤ n ∧ n ≤ 9223372036854775807) (w : World) :
    Calls Tryz.prog 21 #[.int .i64 n] w fun e w' => e = .returned (.agg #[.int .u64 (bi (uptoC n).t.v), .int .u64 (bi (uptoC n).t.m), .int .u64 ((uptoC n).u.lo), .int .u64 ((uptoC n).u.hi), .int .i64 ((uptoC n).s.lo), .int .i64 ((uptoC n).s.hi)]) ∧ Below w.heap.size w w' := by
  go_enter Tryz.func21, Tryz.ntmps21
  have M := Gw.Mem.nil w
  refine wp_seq (upto5_r0 n hn (fun _ _ d _ _ h => by cases d <;> exact h) ?_ _ M)
  clear M
  intro d1_0 z1 M
  refine wp_seq (upto5_r1 n hn (fun _ _ d _ _ h => by cases d <;> exact h) ?_ _ M)
  clear M
  intro _ _ _ d2_3 z2 M
  refine wp_seq (upto5_r2 n hn (fun _ _ d _ _ h => by cases d <;> exact h) ?_ _ M)
  clear M
  intro _ _ _ _ _ d3_5 d3_6 z3 M
  refine wp_seq (upto5_r3 n hn (fun _ _ d _ _ h => by cases d <;> exact h) ?_ _ M)
  clear M
  intro _ _ _ _ z4 M
  refine wp_ret ?_
  try simp only [Exit.inBlock, Exit.then]
  have g0 := M.cell 3 0
  have g1 := M.cell 3 1
  have g2 := M.cell 3 2
  have g3 := M.cell 3 3
  have g4 := M.cell 3 4
  have g5 := M.cell 3 5
  refine bodyPost_ret (by simp [results, Tryz.results21, g0, g1, g2, g3, g4, g5, go_sem]; try rfl) rfl ?_
  exact ⟨by rw [← upto_cut], M.below⟩
theorem teach_no (x : C) (hx : mayC x) (h : onceC x = none) (w : World) :
    Calls Tryz.prog 41 #[.agg #[.int .u64 (bi x.t.v), .int .u64 (bi x.t.m), .int .u64 x.u.lo, .int .u64 x.u.hi, .int .i64 x.s.lo, .int .i64 x.s.hi]] w fun e w' => e = .returned (.tuple #[.agg #[.int .u64 (bi zeroC.t.v), .int .u64 (bi zeroC.t.m), .int .u64 zeroC.u.lo, .int .u64 zeroC.u.hi, .int .i64 zeroC.s.lo, .int .i64 zeroC.s.hi], .bool false]) ∧ Below w.heap.size w w' := by
  have := teach5 x hx w; rw [h] at this; exact this
theorem teach_so (x y : C) (hx : mayC x) (h : onceC x = some y) (w : World) :
    Calls Tryz.prog 41 #[.agg #[.int .u64 (bi x.t.v), .int .u64 (bi x.t.m), .int .u64 x.u.lo, .int .u64 x.u.hi, .int .i64 x.s.lo, .int .i64 x.s.hi]] w fun e w' => e = .returned (.tuple #[.agg #[.int .u64 (bi y.t.v), .int .u64 (bi y.t.m), .int .u64 y.u.lo, .int .u64 y.u.hi, .int .i64 y.s.lo, .int .i64 y.s.hi], .bool true]) ∧ Below w.heap.size w w' := by
  have := teach5 x hx w; rw [h] at this; exact this
noncomputable def norm_no_r0C : Code := (Tryz.f15.body.bind (Rg.findR 0)).getD .skip
set_option maxHeartbeats 4000000 in
theorem norm_no_r0 (x : C) (hx : mayC x) (h : onceC x = none) {w0 : World}  {K : Act → World → Prop} {Q0 : Exit → Act → World → Prop} {u1 u2 u3 u4 u5 u6 u7 u8 u9 u10 u11 u12 u13 u14 u15 u16 : Value}
    (hQ : ∀ c a d v w, Q0 (.panic c) (Act.put a d v) w → Q0 (.panic c) a w)
    (hK : ∀ (t3 : Value) (d1_0 d1_1 : Nat) (z : World), Gw.Mem w0 [(d1_1, .cells #[.int .u64 0, .int .u64 0, .int .u64 0, .int .u64 0, .int .i64 0, .int .i64 0] 30), (d1_0, .cells #[.int .u64 (bi x.t.v), .int .u64 (bi x.t.m), .int .u64 x.u.lo, .int .u64 x.u.hi, .int .i64 x.s.lo, .int .i64 x.s.hi] 30)] z → K ⟨#[.agg #[.int .u64 (bi x.t.v), .int .u64 (bi x.t.m), .int .u64 x.u.lo, .int .u64 x.u.hi, .int .i64 x.s.lo, .int .i64 x.s.hi], .pointer (some ⟨d1_0, 0, none⟩), .pointer (some ⟨d1_1, 0, none⟩), t3, u4, u5, u6, u7, u8, u9, u10, u11, u12, u13, u14, u15, u16], []⟩ z) (wy : World) (M : Gw.Mem w0 [] wy) :
    norm_no_r0C.wp Tryz.prog (Exit.then K Q0) ⟨#[.agg #[.int .u64 (bi x.t.v), .int .u64 (bi x.t.m), .int .u64 x.u.lo, .int .u64 x.u.hi, .int .i64 x.s.lo, .int .i64 x.s.hi], u1, u2, u3, u4, u5, u6, u7, u8, u9, u10, u11, u12, u13, u14, u15, u16], []⟩ wy := by
  have HK := Lib.hid hK
  clear hK
  conv => arg 2; whnf
  refine Gw.line _ M ?_
  clear M wy
  refine Gw.ss ?_
  intro w M K' hK
  go_simp
  have M1 := M.alloc (.cells #[.int .u64 (bi x.t.v), .int .u64 (bi x.t.m), .int .u64 x.u.lo, .int .u64 x.u.hi, .int .i64 x.s.lo, .int .i64 x.s.hi] 30)
  generalize w.heap.size = d1_0 at M1 ⊢
  refine hK.out _ _ _ M1 ?_
  clear hK K' M1 M w
  try simp only [Act.put, ptA, ptB, ptC]
  refine Gw.ss ?_
  intro w M K' hK
  go_simp
  have M1 := M.alloc (.cells #[.int .u64 0, .int .u64 0, .int .u64 0, .int .u64 0, .int .i64 0, .int .i64 0] 30)
  generalize w.heap.size = d1_1 at M1 ⊢
  refine hK.out _ _ _ M1 ?_
  clear hK K' M1 M w
  try simp only [Act.put, ptA, ptB, ptC]
  refine Gw.sw (.bool false) ?_
  try simp only [Act.put, ptA, ptB, ptC]
  exact fun z M => HK.out _ _ _ z M
noncomputable def norm_no_r1C : Code := (Tryz.f15.body.bind (Rg.findR 1)).getD .skip
set_option maxHeartbeats 4000000 in
theorem norm_no_r1 (x : C) (hx : mayC x) (h : onceC x = none) {w0 : World}  {K : Act → World → Prop} {Q0 : Exit → Act → World → Prop} {d1_1 d1_0 : Nat} {u0 u2 u3 u4 u5 u6 u7 u8 u9 u10 u11 u12 u13 u14 u15 u16 : Value}
    (hQ : ∀ c a d v w, Q0 (.panic c) (Act.put a d v) w → Q0 (.panic c) a w)
    (hK : ∀ (t5 t6 t7 t8 t9 : Value) (z : World), Gw.Mem w0 [(d1_1, .cells #[.int .u64 0, .int .u64 0, .int .u64 0, .int .u64 0, .int .i64 0, .int .i64 0] 30), (d1_0, .cells #[.int .u64 (bi zeroC.t.v), .int .u64 (bi zeroC.t.m), .int .u64 zeroC.u.lo, .int .u64 zeroC.u.hi, .int .i64 zeroC.s.lo, .int .i64 zeroC.s.hi] 30)] z → K ⟨#[u0, .pointer (some ⟨d1_0, 0, none⟩), u2, u3, .bool false, t5, t6, t7, t8, t9, u10, u11, u12, u13, u14, u15, u16], []⟩ z) (wy : World) (M : Gw.Mem w0 [(d1_1, .cells #[.int .u64 0, .int .u64 0, .int .u64 0, .int .u64 0, .int .i64 0, .int .i64 0] 30), (d1_0, .cells #[.int .u64 (bi x.t.v), .int .u64 (bi x.t.m), .int .u64 x.u.lo, .int .u64 x.u.hi, .int .i64 x.s.lo, .int .i64 x.s.hi] 30)] wy) :
    norm_no_r1C.wp Tryz.prog (Exit.then K Q0) ⟨#[u0, .pointer (some ⟨d1_0, 0, none⟩), u2, u3, u4, u5, u6, u7, u8, u9, u10, u11, u12, u13, u14, u15, u16], []⟩ wy := by
  have HK := Lib.hid hK
  clear hK
  conv => arg 2; whnf
  refine Gw.line _ M ?_
  clear M wy
  refine Gw.sq (.agg #[.int .u64 (bi x.t.v), .int .u64 (bi x.t.m), .int .u64 x.u.lo, .int .u64 x.u.hi, .int .i64 x.s.lo, .int .i64 x.s.hi]) ?_ ?_
  · intro w M; have c := M.c6 1; go_simp
  try simp only [Act.put, ptA, ptB, ptC]
  refine Gw.sk (.tuple #[.agg #[.int .u64 (bi zeroC.t.v), .int .u64 (bi zeroC.t.m), .int .u64 zeroC.u.lo, .int .u64 zeroC.u.hi, .int .i64 zeroC.s.lo, .int .i64 zeroC.s.hi], .bool false]) 41 #[.agg #[.int .u64 (bi x.t.v), .int .u64 (bi x.t.m), .int .u64 x.u.lo, .int .u64 x.u.hi, .int .i64 x.s.lo, .int .i64 x.s.hi]] (fun w M => teach_no x hx h w) ?_
  try simp only [Act.put, ptA, ptB, ptC]
  refine Gw.sw (.tuple #[.agg #[.int .u64 (bi zeroC.t.v), .int .u64 (bi zeroC.t.m), .int .u64 zeroC.u.lo, .int .u64 zeroC.u.hi, .int .i64 zeroC.s.lo, .int .i64 zeroC.s.hi], .bool false]) ?_
  try simp only [Act.put, ptA, ptB, ptC]
  refine Gw.sw (.agg #[.int .u64 (bi zeroC.t.v), .int .u64 (bi zeroC.t.m), .int .u64 zeroC.u.lo, .int .u64 zeroC.u.hi, .int .i64 zeroC.s.lo, .int .i64 zeroC.s.hi]) ?_
  try simp only [Act.put, ptA, ptB, ptC]
  refine Gw.sw (.bool false) ?_
  try simp only [Act.put, ptA, ptB, ptC]
  refine Gw.ss ?_
  intro w M K' hK
  have c := M.c6 1
  have f := M.f6 1
  go_simp
  refine hK.out _ _ _ ((((((M.set 1 0 _).set 1 1 _).set 1 2 _).set 1 3 _).set 1 4 _).set 1 5 _) ?_
  clear hK K' c f M w
  refine Gw.sw (.bool false) ?_
  try simp only [Act.put, ptA, ptB, ptC]
  exact fun z M => HK.out _ _ _ _ _ z M
noncomputable def norm_no_r2C : Code := (Tryz.f15.body.bind (Rg.findR 2)).getD .skip
set_option maxHeartbeats 4000000 in
theorem norm_no_r2 (x : C) (hx : mayC x) (h : onceC x = none) {w0 : World}  {K : Act → World → Prop} {Q0 : Exit → Act → World → Prop} {d1_1 d1_0 : Nat} {u0 u1 u2 u3 u5 u6 u7 u8 u9 u10 u11 u12 u13 u14 u15 u16 : Value}
    (hQ : ∀ c a d v w, Q0 (.panic c) (Act.put a d v) w → Q0 (.panic c) a w)
    (hK : ∀ (t10 : Value) (z : World), Gw.Mem w0 [(d1_1, .cells #[.int .u64 0, .int .u64 0, .int .u64 0, .int .u64 0, .int .i64 0, .int .i64 0] 30), (d1_0, .cells #[.int .u64 (bi zeroC.t.v), .int .u64 (bi zeroC.t.m), .int .u64 zeroC.u.lo, .int .u64 zeroC.u.hi, .int .i64 zeroC.s.lo, .int .i64 zeroC.s.hi] 30)] z → K ⟨#[u0, u1, u2, u3, .bool false, u5, u6, u7, u8, u9, t10, .bool true, u12, u13, u14, u15, u16], []⟩ z) (wy : World) (M : Gw.Mem w0 [(d1_1, .cells #[.int .u64 0, .int .u64 0, .int .u64 0, .int .u64 0, .int .i64 0, .int .i64 0] 30), (d1_0, .cells #[.int .u64 (bi zeroC.t.v), .int .u64 (bi zeroC.t.m), .int .u64 zeroC.u.lo, .int .u64 zeroC.u.hi, .int .i64 zeroC.s.lo, .int .i64 zeroC.s.hi] 30)] wy) :
    norm_no_r2C.wp Tryz.prog (Exit.then K Q0) ⟨#[u0, u1, u2, u3, .bool false, u5, u6, u7, u8, u9, u10, u11, u12, u13, u14, u15, u16], []⟩ wy := by
  have HK := Lib.hid hK
  clear hK
  conv => arg 2; whnf
  refine Gw.line _ M ?_
  clear M wy
  refine Gw.sw (.bool false) ?_
  try simp only [Act.put, ptA, ptB, ptC]
  refine Gw.sw (.bool true) ?_
  try simp only [Act.put, ptA, ptB, ptC]
  exact fun z M => HK.out _ z M
noncomputable def norm_no_r3C : Code := (Tryz.f15.body.bind (Rg.findR 3)).getD .skip
set_option maxHeartbeats 4000000 in
theorem norm_no_r3 (x : C) (hx : mayC x) (h : onceC x = none) {w0 : World}  {K : Act → World → Prop} {Q0 : Exit → Act → World → Prop} {d1_1 d1_0 : Nat} {u0 u1 u3 u4 u5 u6 u7 u8 u9 u10 u11 u12 u13 u14 u15 u16 : Value}
    (hQ : ∀ c a d v w, Q0 (.panic c) (Act.put a d v) w → Q0 (.panic c) a w)
    (hK : ∀ (t12 : Value) (z : World), Gw.Mem w0 [(d1_1, .cells #[.int .u64 0, .int .u64 0, .int .u64 0, .int .u64 0, .int .i64 0, .int .i64 0] 30), (d1_0, .cells #[.int .u64 (bi zeroC.t.v), .int .u64 (bi zeroC.t.m), .int .u64 zeroC.u.lo, .int .u64 zeroC.u.hi, .int .i64 zeroC.s.lo, .int .i64 zeroC.s.hi] 30)] z → K ⟨#[u0, u1, .pointer (some ⟨d1_1, 0, none⟩), .bool false, u4, u5, u6, u7, u8, u9, u10, u11, t12, u13, u14, u15, u16], []⟩ z) (wy : World) (M : Gw.Mem w0 [(d1_1, .cells #[.int .u64 0, .int .u64 0, .int .u64 0, .int .u64 0, .int .i64 0, .int .i64 0] 30), (d1_0, .cells #[.int .u64 (bi zeroC.t.v), .int .u64 (bi zeroC.t.m), .int .u64 zeroC.u.lo, .int .u64 zeroC.u.hi, .int .i64 zeroC.s.lo, .int .i64 zeroC.s.hi] 30)] wy) :
    norm_no_r3C.wp Tryz.prog (Exit.then K Q0) ⟨#[u0, u1, .pointer (some ⟨d1_1, 0, none⟩), u3, u4, u5, u6, u7, u8, u9, u10, u11, u12, u13, u14, u15, u16], []⟩ wy := by
  have HK := Lib.hid hK
  clear hK
  conv => arg 2; whnf
  refine Gw.line _ M ?_
  clear M wy
  refine Gw.sw (.agg #[.int .u64 0, .int .u64 0, .int .u64 0, .int .u64 0, .int .i64 0, .int .i64 0]) ?_
  try simp only [Act.put, ptA, ptB, ptC]
  refine Gw.ss ?_
  intro w M K' hK
  have c := M.c6 0
  have f := M.f6 0
  go_simp
  refine hK.out _ _ _ ((((((M.set 0 0 _).set 0 1 _).set 0 2 _).set 0 3 _).set 0 4 _).set 0 5 _) ?_
  clear hK K' c f M w
  refine Gw.sw (.bool false) ?_
  try simp only [Act.put, ptA, ptB, ptC]
  exact fun z M => HK.out _ z M
set_option maxHeartbeats 4000000 in
theorem norm_no (x : C) (hx : mayC x) (h : onceC x = none) (w : World) :
    Calls Tryz.prog 15 #[.agg #[.int .u64 (bi x.t.v), .int .u64 (bi x.t.m), .int .u64 x.u.lo, .int .u64 x.u.hi, .int .i64 x.s.lo, .int .i64 x.s.hi]] w fun e w' => e = .returned (.tuple #[.agg #[.int .u64 (bi ((normC x).getD zeroC).t.v), .int .u64 (bi ((normC x).getD zeroC).t.m), .int .u64 (((normC x).getD zeroC).u.lo), .int .u64 (((normC x).getD zeroC).u.hi), .int .i64 (((normC x).getD zeroC).s.lo), .int .i64 (((normC x).getD zeroC).s.hi)], .bool ((normC x).isSome)]) ∧ Below w.heap.size w w' := by
  go_enter Tryz.func15, Tryz.ntmps15
  have M := Gw.Mem.nil w
  refine wp_seq (norm_no_r0 x hx h (fun _ _ d _ _ h => by cases d <;> exact h) ?_ _ M)
  clear M
  intro _ d1_0 d1_1 z1 M
  refine wp_seq (norm_no_r1 x hx h (fun _ _ d _ _ h => by cases d <;> exact h) ?_ _ M)
  clear M
  intro _ _ _ _ _ z2 M
  refine wp_seq ?_
  refine wp_seq (norm_no_r2 x hx h (fun _ _ d _ _ h => by cases d <;> exact h) ?_ _ M)
  clear M
  intro _ z3 M
  refine wp_cond_true rfl ?_
  refine wp_seq (norm_no_r3 x hx h (fun _ _ d _ _ h => by cases d <;> exact h) ?_ _ M)
  clear M
  intro _ z4 M
  refine wp_ret ?_
  try simp only [Exit.inBlock, Exit.then]
  have g0 := M.cell 0 0
  have g1 := M.cell 0 1
  have g2 := M.cell 0 2
  have g3 := M.cell 0 3
  have g4 := M.cell 0 4
  have g5 := M.cell 0 5
  refine bodyPost_ret (by simp [results, Tryz.results15, g0, g1, g2, g3, g4, g5, go_sem]; try rfl) rfl ?_
  exact ⟨by unfold normC; rw [h]; rfl, M.below⟩
noncomputable def norm_so_r0C : Code := (Tryz.f15.body.bind (Rg.findR 0)).getD .skip
set_option maxHeartbeats 4000000 in
theorem norm_so_r0 (x y : C) (hx : mayC x) (hy : mayC y) (h : onceC x = some y) {w0 : World}  {K : Act → World → Prop} {Q0 : Exit → Act → World → Prop} {u1 u2 u3 u4 u5 u6 u7 u8 u9 u10 u11 u12 u13 u14 u15 u16 : Value}
    (hQ : ∀ c a d v w, Q0 (.panic c) (Act.put a d v) w → Q0 (.panic c) a w)
    (hK : ∀ (t3 : Value) (d1_0 d1_1 : Nat) (z : World), Gw.Mem w0 [(d1_1, .cells #[.int .u64 0, .int .u64 0, .int .u64 0, .int .u64 0, .int .i64 0, .int .i64 0] 30), (d1_0, .cells #[.int .u64 (bi x.t.v), .int .u64 (bi x.t.m), .int .u64 x.u.lo, .int .u64 x.u.hi, .int .i64 x.s.lo, .int .i64 x.s.hi] 30)] z → K ⟨#[.agg #[.int .u64 (bi x.t.v), .int .u64 (bi x.t.m), .int .u64 x.u.lo, .int .u64 x.u.hi, .int .i64 x.s.lo, .int .i64 x.s.hi], .pointer (some ⟨d1_0, 0, none⟩), .pointer (some ⟨d1_1, 0, none⟩), t3, u4, u5, u6, u7, u8, u9, u10, u11, u12, u13, u14, u15, u16], []⟩ z) (wy : World) (M : Gw.Mem w0 [] wy) :
    norm_so_r0C.wp Tryz.prog (Exit.then K Q0) ⟨#[.agg #[.int .u64 (bi x.t.v), .int .u64 (bi x.t.m), .int .u64 x.u.lo, .int .u64 x.u.hi, .int .i64 x.s.lo, .int .i64 x.s.hi], u1, u2, u3, u4, u5, u6, u7, u8, u9, u10, u11, u12, u13, u14, u15, u16], []⟩ wy := by
  have HK := Lib.hid hK
  clear hK
  conv => arg 2; whnf
  refine Gw.line _ M ?_
  clear M wy
  refine Gw.ss ?_
  intro w M K' hK
  go_simp
  have M1 := M.alloc (.cells #[.int .u64 (bi x.t.v), .int .u64 (bi x.t.m), .int .u64 x.u.lo, .int .u64 x.u.hi, .int .i64 x.s.lo, .int .i64 x.s.hi] 30)
  generalize w.heap.size = d1_0 at M1 ⊢
  refine hK.out _ _ _ M1 ?_
  clear hK K' M1 M w
  try simp only [Act.put, ptA, ptB, ptC]
  refine Gw.ss ?_
  intro w M K' hK
  go_simp
  have M1 := M.alloc (.cells #[.int .u64 0, .int .u64 0, .int .u64 0, .int .u64 0, .int .i64 0, .int .i64 0] 30)
  generalize w.heap.size = d1_1 at M1 ⊢
  refine hK.out _ _ _ M1 ?_
  clear hK K' M1 M w
  try simp only [Act.put, ptA, ptB, ptC]
  refine Gw.sw (.bool false) ?_
  try simp only [Act.put, ptA, ptB, ptC]
  exact fun z M => HK.out _ _ _ z M
noncomputable def norm_so_r1C : Code := (Tryz.f15.body.bind (Rg.findR 1)).getD .skip
set_option maxHeartbeats 4000000 in
theorem norm_so_r1 (x y : C) (hx : mayC x) (hy : mayC y) (h : onceC x = some y) {w0 : World}  {K : Act → World → Prop} {Q0 : Exit → Act → World → Prop} {d1_1 d1_0 : Nat} {u0 u2 u3 u4 u5 u6 u7 u8 u9 u10 u11 u12 u13 u14 u15 u16 : Value}
    (hQ : ∀ c a d v w, Q0 (.panic c) (Act.put a d v) w → Q0 (.panic c) a w)
    (hK : ∀ (t5 t6 t7 t8 t9 : Value) (z : World), Gw.Mem w0 [(d1_1, .cells #[.int .u64 0, .int .u64 0, .int .u64 0, .int .u64 0, .int .i64 0, .int .i64 0] 30), (d1_0, .cells #[.int .u64 (bi y.t.v), .int .u64 (bi y.t.m), .int .u64 y.u.lo, .int .u64 y.u.hi, .int .i64 y.s.lo, .int .i64 y.s.hi] 30)] z → K ⟨#[u0, .pointer (some ⟨d1_0, 0, none⟩), u2, u3, .bool true, t5, t6, t7, t8, t9, u10, u11, u12, u13, u14, u15, u16], []⟩ z) (wy : World) (M : Gw.Mem w0 [(d1_1, .cells #[.int .u64 0, .int .u64 0, .int .u64 0, .int .u64 0, .int .i64 0, .int .i64 0] 30), (d1_0, .cells #[.int .u64 (bi x.t.v), .int .u64 (bi x.t.m), .int .u64 x.u.lo, .int .u64 x.u.hi, .int .i64 x.s.lo, .int .i64 x.s.hi] 30)] wy) :
    norm_so_r1C.wp Tryz.prog (Exit.then K Q0) ⟨#[u0, .pointer (some ⟨d1_0, 0, none⟩), u2, u3, u4, u5, u6, u7, u8, u9, u10, u11, u12, u13, u14, u15, u16], []⟩ wy := by
  have HK := Lib.hid hK
  clear hK
  conv => arg 2; whnf
  refine Gw.line _ M ?_
  clear M wy
  refine Gw.sq (.agg #[.int .u64 (bi x.t.v), .int .u64 (bi x.t.m), .int .u64 x.u.lo, .int .u64 x.u.hi, .int .i64 x.s.lo, .int .i64 x.s.hi]) ?_ ?_
  · intro w M; have c := M.c6 1; go_simp
  try simp only [Act.put, ptA, ptB, ptC]
  refine Gw.sk (.tuple #[.agg #[.int .u64 (bi y.t.v), .int .u64 (bi y.t.m), .int .u64 y.u.lo, .int .u64 y.u.hi, .int .i64 y.s.lo, .int .i64 y.s.hi], .bool true]) 41 #[.agg #[.int .u64 (bi x.t.v), .int .u64 (bi x.t.m), .int .u64 x.u.lo, .int .u64 x.u.hi, .int .i64 x.s.lo, .int .i64 x.s.hi]] (fun w M => teach_so x y hx h w) ?_
  try simp only [Act.put, ptA, ptB, ptC]
  refine Gw.sw (.tuple #[.agg #[.int .u64 (bi y.t.v), .int .u64 (bi y.t.m), .int .u64 y.u.lo, .int .u64 y.u.hi, .int .i64 y.s.lo, .int .i64 y.s.hi], .bool true]) ?_
  try simp only [Act.put, ptA, ptB, ptC]
  refine Gw.sw (.agg #[.int .u64 (bi y.t.v), .int .u64 (bi y.t.m), .int .u64 y.u.lo, .int .u64 y.u.hi, .int .i64 y.s.lo, .int .i64 y.s.hi]) ?_
  try simp only [Act.put, ptA, ptB, ptC]
  refine Gw.sw (.bool true) ?_
  try simp only [Act.put, ptA, ptB, ptC]
  refine Gw.ss ?_
  intro w M K' hK
  have c := M.c6 1
  have f := M.f6 1
  go_simp
  refine hK.out _ _ _ ((((((M.set 1 0 _).set 1 1 _).set 1 2 _).set 1 3 _).set 1 4 _).set 1 5 _) ?_
  clear hK K' c f M w
  refine Gw.sw (.bool true) ?_
  try simp only [Act.put, ptA, ptB, ptC]
  exact fun z M => HK.out _ _ _ _ _ z M
noncomputable def norm_so_r2C : Code := (Tryz.f15.body.bind (Rg.findR 2)).getD .skip
set_option maxHeartbeats 4000000 in
theorem norm_so_r2 (x y : C) (hx : mayC x) (hy : mayC y) (h : onceC x = some y) {w0 : World}  {K : Act → World → Prop} {Q0 : Exit → Act → World → Prop} {d1_1 d1_0 : Nat} {u0 u1 u2 u3 u5 u6 u7 u8 u9 u10 u11 u12 u13 u14 u15 u16 : Value}
    (hQ : ∀ c a d v w, Q0 (.panic c) (Act.put a d v) w → Q0 (.panic c) a w)
    (hK : ∀ (t10 : Value) (z : World), Gw.Mem w0 [(d1_1, .cells #[.int .u64 0, .int .u64 0, .int .u64 0, .int .u64 0, .int .i64 0, .int .i64 0] 30), (d1_0, .cells #[.int .u64 (bi y.t.v), .int .u64 (bi y.t.m), .int .u64 y.u.lo, .int .u64 y.u.hi, .int .i64 y.s.lo, .int .i64 y.s.hi] 30)] z → K ⟨#[u0, u1, u2, u3, .bool true, u5, u6, u7, u8, u9, t10, .bool false, u12, u13, u14, u15, u16], []⟩ z) (wy : World) (M : Gw.Mem w0 [(d1_1, .cells #[.int .u64 0, .int .u64 0, .int .u64 0, .int .u64 0, .int .i64 0, .int .i64 0] 30), (d1_0, .cells #[.int .u64 (bi y.t.v), .int .u64 (bi y.t.m), .int .u64 y.u.lo, .int .u64 y.u.hi, .int .i64 y.s.lo, .int .i64 y.s.hi] 30)] wy) :
    norm_so_r2C.wp Tryz.prog (Exit.then K Q0) ⟨#[u0, u1, u2, u3, .bool true, u5, u6, u7, u8, u9, u10, u11, u12, u13, u14, u15, u16], []⟩ wy := by
  have HK := Lib.hid hK
  clear hK
  conv => arg 2; whnf
  refine Gw.line _ M ?_
  clear M wy
  refine Gw.sw (.bool true) ?_
  try simp only [Act.put, ptA, ptB, ptC]
  refine Gw.sw (.bool false) ?_
  try simp only [Act.put, ptA, ptB, ptC]
  exact fun z M => HK.out _ z M
noncomputable def norm_so_r4C : Code := (Tryz.f15.body.bind (Rg.findR 4)).getD .skip
set_option maxHeartbeats 4000000 in
theorem norm_so_r4 (x y : C) (hx : mayC x) (hy : mayC y) (h : onceC x = some y) {w0 : World}  {K : Act → World → Prop} {Q0 : Exit → Act → World → Prop} {d1_1 d1_0 : Nat} {u0 u3 u4 u5 u6 u7 u8 u9 u10 u11 u12 u13 u14 u15 u16 : Value}
    (hQ : ∀ c a d v w, Q0 (.panic c) (Act.put a d v) w → Q0 (.panic c) a w)
    (hK : ∀ (t13 t14 t15 t16 : Value) (z : World), Gw.Mem w0 [(d1_1, .cells #[.int .u64 (bi ((onceC y).getD zeroC).t.v), .int .u64 (bi ((onceC y).getD zeroC).t.m), .int .u64 (((onceC y).getD zeroC).u.lo), .int .u64 (((onceC y).getD zeroC).u.hi), .int .i64 (((onceC y).getD zeroC).s.lo), .int .i64 (((onceC y).getD zeroC).s.hi)] 30), (d1_0, .cells #[.int .u64 (bi y.t.v), .int .u64 (bi y.t.m), .int .u64 y.u.lo, .int .u64 y.u.hi, .int .i64 y.s.lo, .int .i64 y.s.hi] 30)] z → K ⟨#[u0, .pointer (some ⟨d1_0, 0, none⟩), .pointer (some ⟨d1_1, 0, none⟩), .bool ((onceC y).isSome), u4, u5, u6, u7, u8, u9, u10, u11, u12, t13, t14, t15, t16], []⟩ z) (wy : World) (M : Gw.Mem w0 [(d1_1, .cells #[.int .u64 0, .int .u64 0, .int .u64 0, .int .u64 0, .int .i64 0, .int .i64 0] 30), (d1_0, .cells #[.int .u64 (bi y.t.v), .int .u64 (bi y.t.m), .int .u64 y.u.lo, .int .u64 y.u.hi, .int .i64 y.s.lo, .int .i64 y.s.hi] 30)] wy) :
    norm_so_r4C.wp Tryz.prog (Exit.then K Q0) ⟨#[u0, .pointer (some ⟨d1_0, 0, none⟩), .pointer (some ⟨d1_1, 0, none⟩), u3, u4, u5, u6, u7, u8, u9, u10, u11, u12, u13, u14, u15, u16], []⟩ wy := by
  have HK := Lib.hid hK
  clear hK
  conv => arg 2; whnf
  refine Gw.line _ M ?_
  clear M wy
  refine Gw.sq (.agg #[.int .u64 (bi y.t.v), .int .u64 (bi y.t.m), .int .u64 y.u.lo, .int .u64 y.u.hi, .int .i64 y.s.lo, .int .i64 y.s.hi]) ?_ ?_
  · intro w M; have c := M.c6 1; go_simp
  try simp only [Act.put, ptA, ptB, ptC]
  refine Gw.sk (.tuple #[.agg #[.int .u64 (bi ((onceC y).getD zeroC).t.v), .int .u64 (bi ((onceC y).getD zeroC).t.m), .int .u64 (((onceC y).getD zeroC).u.lo), .int .u64 (((onceC y).getD zeroC).u.hi), .int .i64 (((onceC y).getD zeroC).s.lo), .int .i64 (((onceC y).getD zeroC).s.hi)], .bool ((onceC y).isSome)]) 41 #[.agg #[.int .u64 (bi y.t.v), .int .u64 (bi y.t.m), .int .u64 y.u.lo, .int .u64 y.u.hi, .int .i64 y.s.lo, .int .i64 y.s.hi]] (fun w M => teach5 y hy w) ?_
  try simp only [Act.put, ptA, ptB, ptC]
  refine Gw.sw (.agg #[.int .u64 (bi ((onceC y).getD zeroC).t.v), .int .u64 (bi ((onceC y).getD zeroC).t.m), .int .u64 (((onceC y).getD zeroC).u.lo), .int .u64 (((onceC y).getD zeroC).u.hi), .int .i64 (((onceC y).getD zeroC).s.lo), .int .i64 (((onceC y).getD zeroC).s.hi)]) ?_
  try simp only [Act.put, ptA, ptB, ptC]
  refine Gw.sw (.bool ((onceC y).isSome)) ?_
  try simp only [Act.put, ptA, ptB, ptC]
  refine Gw.ss ?_
  intro w M K' hK
  have c := M.c6 0
  have f := M.f6 0
  go_simp
  refine hK.out _ _ _ ((((((M.set 0 0 _).set 0 1 _).set 0 2 _).set 0 3 _).set 0 4 _).set 0 5 _) ?_
  clear hK K' c f M w
  refine Gw.sw (.bool ((onceC y).isSome)) ?_
  try simp only [Act.put, ptA, ptB, ptC]
  exact fun z M => HK.out _ _ _ _ z M
set_option maxHeartbeats 4000000 in
theorem norm_so (x y : C) (hx : mayC x) (hy : mayC y) (h : onceC x = some y) (w : World) :
    Calls Tryz.prog 15 #[.agg #[.int .u64 (bi x.t.v), .int .u64 (bi x.t.m), .int .u64 x.u.lo, .int .u64 x.u.hi, .int .i64 x.s.lo, .int .i64 x.s.hi]] w fun e w' => e = .returned (.tuple #[.agg #[.int .u64 (bi ((normC x).getD zeroC).t.v), .int .u64 (bi ((normC x).getD zeroC).t.m), .int .u64 (((normC x).getD zeroC).u.lo), .int .u64 (((normC x).getD zeroC).u.hi), .int .i64 (((normC x).getD zeroC).s.lo), .int .i64 (((normC x).getD zeroC).s.hi)], .bool ((normC x).isSome)]) ∧ Below w.heap.size w w' := by
  go_enter Tryz.func15, Tryz.ntmps15
  have M := Gw.Mem.nil w
  refine wp_seq (norm_so_r0 x y hx hy h (fun _ _ d _ _ h => by cases d <;> exact h) ?_ _ M)
  clear M
  intro _ d1_0 d1_1 z1 M
  refine wp_seq (norm_so_r1 x y hx hy h (fun _ _ d _ _ h => by cases d <;> exact h) ?_ _ M)
  clear M
  intro _ _ _ _ _ z2 M
  refine wp_seq ?_
  refine wp_seq (norm_so_r2 x y hx hy h (fun _ _ d _ _ h => by cases d <;> exact h) ?_ _ M)
  clear M
  intro _ z3 M
  refine wp_cond_false rfl ?_
  refine wp_skip ?_
  try simp only [Exit.inBlock, Exit.then]
  refine wp_seq (norm_so_r4 x y hx hy h (fun _ _ d _ _ h => by cases d <;> exact h) ?_ _ M)
  clear M
  intro _ _ _ _ z4 M
  refine wp_ret ?_
  try simp only [Exit.inBlock, Exit.then]
  have g0 := M.cell 0 0
  have g1 := M.cell 0 1
  have g2 := M.cell 0 2
  have g3 := M.cell 0 3
  have g4 := M.cell 0 4
  have g5 := M.cell 0 5
  refine bodyPost_ret (by simp [results, Tryz.results15, g0, g1, g2, g3, g4, g5, go_sem]; try rfl) rfl ?_
  exact ⟨by unfold normC; rw [h]; rfl, M.below⟩
theorem norm5 (x : C) (hx : mayC x) (w : World) :
    Calls Tryz.prog 15 #[.agg #[.int .u64 (bi x.t.v), .int .u64 (bi x.t.m), .int .u64 x.u.lo, .int .u64 x.u.hi, .int .i64 x.s.lo, .int .i64 x.s.hi]] w fun e w' => e = .returned (.tuple #[.agg #[.int .u64 (bi ((normC x).getD zeroC).t.v), .int .u64 (bi ((normC x).getD zeroC).t.m), .int .u64 (((normC x).getD zeroC).u.lo), .int .u64 (((normC x).getD zeroC).u.hi), .int .i64 (((normC x).getD zeroC).s.lo), .int .i64 (((normC x).getD zeroC).s.hi)], .bool ((normC x).isSome)]) ∧ Below w.heap.size w w' := by
  cases h : onceC x with
  | none => exact norm_no x hx h w
  | some y => exact norm_so x y hx (once_less hx h).1 h w
end Go.Proofs.YtcimihckhobniaaGreat.Sc
