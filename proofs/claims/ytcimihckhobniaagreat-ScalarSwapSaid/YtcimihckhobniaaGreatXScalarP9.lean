/-
  What the program's layer 5 tells: contracts, ninth part: what a jump teaches. Conditions: scalars may be, where that is said.
-/
import Derived.Test.YtcimihckhobniaaGreatXScalarP8
namespace Go.Proofs.YtcimihckhobniaaGreat.Sc
open Go.RowKit Tn Ow Sp
set_option linter.unusedVariables false
set_option linter.unusedSimpArgs false
set_option maxRecDepth 100000
def lsN (op : Int) (taken : Bool) : FuncId :=
  bif taken then if op = 1 then 209 else if op = 2 then 230 else if op = 3 then 230 else if op = 4 then 212 else if op = 5 then 210 else if op = 6 then 232 else if op = 7 then 232 else if op = 10 then 235 else if op = 11 then 235 else if op = 12 then 235 else if op = 13 then 235 else 0 else if op = 1 then 210 else if op = 2 then 235 else if op = 3 then 235 else if op = 4 then 213 else if op = 5 then 209 else if op = 6 then 235 else if op = 7 then 235 else if op = 10 then 230 else if op = 11 then 230 else if op = 12 then 232 else if op = 13 then 232 else 0
def lsC (op : Int) (taken : Bool) (n0 n1 n2 n3 n4 n5 n6 n7 n9 n10 n11 n12 : Nat) : Array Value :=
  bif taken then if op = 1 then #[] else if op = 2 then #[.pointer (some ⟨n12, 0, none⟩)] else if op = 3 then #[.pointer (some ⟨n11, 0, none⟩)] else if op = 4 then #[] else if op = 5 then #[] else if op = 6 then #[.pointer (some ⟨n10, 0, none⟩)] else if op = 7 then #[.pointer (some ⟨n9, 0, none⟩)] else if op = 10 then #[.pointer (some ⟨n5, 0, none⟩)] else if op = 11 then #[.pointer (some ⟨n4, 0, none⟩)] else if op = 12 then #[.pointer (some ⟨n1, 0, none⟩)] else if op = 13 then #[.pointer (some ⟨n0, 0, none⟩)] else #[] else if op = 1 then #[] else if op = 2 then #[.pointer (some ⟨n7, 0, none⟩)] else if op = 3 then #[.pointer (some ⟨n6, 0, none⟩)] else if op = 4 then #[] else if op = 5 then #[] else if op = 6 then #[.pointer (some ⟨n3, 0, none⟩)] else if op = 7 then #[.pointer (some ⟨n2, 0, none⟩)] else if op = 10 then #[.pointer (some ⟨n11, 0, none⟩)] else if op = 11 then #[.pointer (some ⟨n12, 0, none⟩)] else if op = 12 then #[.pointer (some ⟨n9, 0, none⟩)] else if op = 13 then #[.pointer (some ⟨n10, 0, none⟩)] else #[]
def JL (n0 n1 n2 n3 n4 n5 n6 n7 n9 n10 n11 n12 : Nat) : List (Nat × Obj) := [(n0, .cells #[.func (.func 232) #[] #[.pointer (some ⟨n9, 0, none⟩)]] 92), (n1, .cells #[.func (.func 232) #[] #[.pointer (some ⟨n10, 0, none⟩)]] 92), (n2, .cells #[.func (.func 232) #[] #[.pointer (some ⟨n10, 0, none⟩)]] 92), (n3, .cells #[.func (.func 232) #[] #[.pointer (some ⟨n9, 0, none⟩)]] 92), (n4, .cells #[.func (.func 230) #[] #[.pointer (some ⟨n11, 0, none⟩)]] 92), (n5, .cells #[.func (.func 230) #[] #[.pointer (some ⟨n12, 0, none⟩)]] 92), (n6, .cells #[.func (.func 230) #[] #[.pointer (some ⟨n12, 0, none⟩)]] 92), (n7, .cells #[.func (.func 230) #[] #[.pointer (some ⟨n11, 0, none⟩)]] 92), (n9, .cells #[.int .i64 0] 2), (n10, .cells #[.int .i64 1] 2), (n11, .cells #[.int .u64 0] 22), (n12, .cells #[.int .u64 1] 22)]
theorem jm_find (op : Int) (hop : Wd.jumpOk op = true) (n0 n1 n2 n3 n4 n5 n6 n7 n9 n10 n11 n12 : Nat) : ∃ i, Instr.findNow (.int .i64) (.int .i64 op) ((#[⟨.int .i64 1, .agg #[.func (.func 209) #[] #[], .func (.func 210) #[] #[]], 0⟩, ⟨.int .i64 5, .agg #[.func (.func 210) #[] #[], .func (.func 209) #[] #[]], 1⟩, ⟨.int .i64 2, .agg #[.func (.func 230) #[] #[.pointer (some ⟨n12, 0, none⟩)], .func (.func 235) #[] #[.pointer (some ⟨n7, 0, none⟩)]], 2⟩, ⟨.int .i64 3, .agg #[.func (.func 230) #[] #[.pointer (some ⟨n11, 0, none⟩)], .func (.func 235) #[] #[.pointer (some ⟨n6, 0, none⟩)]], 3⟩, ⟨.int .i64 10, .agg #[.func (.func 235) #[] #[.pointer (some ⟨n5, 0, none⟩)], .func (.func 230) #[] #[.pointer (some ⟨n11, 0, none⟩)]], 4⟩, ⟨.int .i64 11, .agg #[.func (.func 235) #[] #[.pointer (some ⟨n4, 0, none⟩)], .func (.func 230) #[] #[.pointer (some ⟨n12, 0, none⟩)]], 5⟩, ⟨.int .i64 6, .agg #[.func (.func 232) #[] #[.pointer (some ⟨n10, 0, none⟩)], .func (.func 235) #[] #[.pointer (some ⟨n3, 0, none⟩)]], 6⟩, ⟨.int .i64 7, .agg #[.func (.func 232) #[] #[.pointer (some ⟨n9, 0, none⟩)], .func (.func 235) #[] #[.pointer (some ⟨n2, 0, none⟩)]], 7⟩, ⟨.int .i64 12, .agg #[.func (.func 235) #[] #[.pointer (some ⟨n1, 0, none⟩)], .func (.func 232) #[] #[.pointer (some ⟨n9, 0, none⟩)]], 8⟩, ⟨.int .i64 13, .agg #[.func (.func 235) #[] #[.pointer (some ⟨n0, 0, none⟩)], .func (.func 232) #[] #[.pointer (some ⟨n10, 0, none⟩)]], 9⟩, ⟨.int .i64 4, .agg #[.func (.func 212) #[] #[], .func (.func 213) #[] #[]], 10⟩] : Array MapEntry)).toList 0 = some (some (i, .agg #[.func (.func (lsN op true)) #[] (lsC op true n0 n1 n2 n3 n4 n5 n6 n7 n9 n10 n11 n12), .func (.func (lsN op false)) #[] (lsC op false n0 n1 n2 n3 n4 n5 n6 n7 n9 n10 n11 n12)])) := by
  rcases jump_cases hop with rfl | rfl | rfl | rfl | rfl | rfl | rfl | rfl | rfl | rfl | rfl <;> exact ⟨_, rfl⟩
noncomputable def lesson5_r0C : Code := (Tryz.f89.body.bind (Rg.findR 0)).getD .skip
set_option maxHeartbeats 4000000 in
theorem lesson5_r0 (op : Int) (taken : Bool) (hop : Wd.jumpOk op = true) {w0 : World}  {K : Act → World → Prop} {Q0 : Exit → Act → World → Prop} {u0 u1 u2 u3 u4 u5 u6 u7 u8 u9 u10 u11 u12 u13 : Value}
    (hQ : ∀ c a d v w, Q0 (.panic c) (Act.put a d v) w → Q0 (.panic c) a w)
    (hK : ∀ (t4 : Value) (z : World), Gw.Mem w0 [] z → K ⟨#[u0, u1, u2, u3, t4, u5, u6, u7, u8, u9, u10, u11, u12, u13], []⟩ z) (wy : World) (M : Gw.Mem w0 [] wy) :
    lesson5_r0C.wp Tryz.prog (Exit.then K Q0) ⟨#[u0, u1, u2, u3, u4, u5, u6, u7, u8, u9, u10, u11, u12, u13], []⟩ wy := by
  have HK := Lib.hid hK
  clear hK
  conv => arg 2; whnf
  refine Gw.line _ M ?_
  clear M wy
  refine Gw.sw (.nilFunc) ?_
  try simp only [Act.put, ptA, ptB, ptC]
  exact fun z M => HK.out _ z M
noncomputable def lesson5_r1C : Code := (Tryz.f89.body.bind (Rg.findR 1)).getD .skip
set_option maxHeartbeats 4000000 in
theorem lesson5_r1 (op : Int) (taken : Bool) (hop : Wd.jumpOk op = true) {w0 : World}  {K : Act → World → Prop} {Q0 : Exit → Act → World → Prop} {u1 u2 u3 u4 u5 u6 u7 u8 u9 u10 u11 u12 u13 : Value}
    (hQ : ∀ c a d v w, Q0 (.panic c) (Act.put a d v) w → Q0 (.panic c) a w)
    (hK : ∀ (t6 t7 t8 : Value) (g2_0_0 g2_0_1 g2_0_2 g2_0_3 g2_0_4 g2_0_5 g2_0_6 g2_0_7 g2_0_8 g2_0_9 g2_0_10 g2_0_11 g2_0_12 d2_3 : Nat) (z : World), Gw.Mem w0 [(d2_3, .cells #[.func (.func (lsN op true)) #[] (lsC op true g2_0_0 g2_0_1 g2_0_2 g2_0_3 g2_0_4 g2_0_5 g2_0_6 g2_0_7 g2_0_9 g2_0_10 g2_0_11 g2_0_12), .func (.func (lsN op false)) #[] (lsC op false g2_0_0 g2_0_1 g2_0_2 g2_0_3 g2_0_4 g2_0_5 g2_0_6 g2_0_7 g2_0_9 g2_0_10 g2_0_11 g2_0_12)] 143), (g2_0_0, .cells #[.func (.func 232) #[] #[.pointer (some ⟨g2_0_9, 0, none⟩)]] 92), (g2_0_1, .cells #[.func (.func 232) #[] #[.pointer (some ⟨g2_0_10, 0, none⟩)]] 92), (g2_0_2, .cells #[.func (.func 232) #[] #[.pointer (some ⟨g2_0_10, 0, none⟩)]] 92), (g2_0_3, .cells #[.func (.func 232) #[] #[.pointer (some ⟨g2_0_9, 0, none⟩)]] 92), (g2_0_4, .cells #[.func (.func 230) #[] #[.pointer (some ⟨g2_0_11, 0, none⟩)]] 92), (g2_0_5, .cells #[.func (.func 230) #[] #[.pointer (some ⟨g2_0_12, 0, none⟩)]] 92), (g2_0_6, .cells #[.func (.func 230) #[] #[.pointer (some ⟨g2_0_12, 0, none⟩)]] 92), (g2_0_7, .cells #[.func (.func 230) #[] #[.pointer (some ⟨g2_0_11, 0, none⟩)]] 92), (g2_0_8, .map #[⟨.int .i64 1, .agg #[.func (.func 209) #[] #[], .func (.func 210) #[] #[]], 0⟩, ⟨.int .i64 5, .agg #[.func (.func 210) #[] #[], .func (.func 209) #[] #[]], 1⟩, ⟨.int .i64 2, .agg #[.func (.func 230) #[] #[.pointer (some ⟨g2_0_12, 0, none⟩)], .func (.func 235) #[] #[.pointer (some ⟨g2_0_7, 0, none⟩)]], 2⟩, ⟨.int .i64 3, .agg #[.func (.func 230) #[] #[.pointer (some ⟨g2_0_11, 0, none⟩)], .func (.func 235) #[] #[.pointer (some ⟨g2_0_6, 0, none⟩)]], 3⟩, ⟨.int .i64 10, .agg #[.func (.func 235) #[] #[.pointer (some ⟨g2_0_5, 0, none⟩)], .func (.func 230) #[] #[.pointer (some ⟨g2_0_11, 0, none⟩)]], 4⟩, ⟨.int .i64 11, .agg #[.func (.func 235) #[] #[.pointer (some ⟨g2_0_4, 0, none⟩)], .func (.func 230) #[] #[.pointer (some ⟨g2_0_12, 0, none⟩)]], 5⟩, ⟨.int .i64 6, .agg #[.func (.func 232) #[] #[.pointer (some ⟨g2_0_10, 0, none⟩)], .func (.func 235) #[] #[.pointer (some ⟨g2_0_3, 0, none⟩)]], 6⟩, ⟨.int .i64 7, .agg #[.func (.func 232) #[] #[.pointer (some ⟨g2_0_9, 0, none⟩)], .func (.func 235) #[] #[.pointer (some ⟨g2_0_2, 0, none⟩)]], 7⟩, ⟨.int .i64 12, .agg #[.func (.func 235) #[] #[.pointer (some ⟨g2_0_1, 0, none⟩)], .func (.func 232) #[] #[.pointer (some ⟨g2_0_9, 0, none⟩)]], 8⟩, ⟨.int .i64 13, .agg #[.func (.func 235) #[] #[.pointer (some ⟨g2_0_0, 0, none⟩)], .func (.func 232) #[] #[.pointer (some ⟨g2_0_10, 0, none⟩)]], 9⟩, ⟨.int .i64 4, .agg #[.func (.func 212) #[] #[], .func (.func 213) #[] #[]], 10⟩] 11), (g2_0_9, .cells #[.int .i64 0] 2), (g2_0_10, .cells #[.int .i64 1] 2), (g2_0_11, .cells #[.int .u64 0] 22), (g2_0_12, .cells #[.int .u64 1] 22)] z → K ⟨#[.int .i64 op, u1, u2, u3, u4, .pointer (some ⟨d2_3, 0, none⟩), t6, t7, t8, u9, u10, u11, u12, u13], []⟩ z) (wy : World) (M : Gw.Mem w0 [] wy) :
    lesson5_r1C.wp Tryz.prog (Exit.then K Q0) ⟨#[.int .i64 op, u1, u2, u3, u4, u5, u6, u7, u8, u9, u10, u11, u12, u13], []⟩ wy := by
  have HK := Lib.hid hK
  clear hK
  conv => arg 2; whnf
  refine Gw.line _ M ?_
  clear M wy
  refine Gw.ss ?_
  intro w M K' hK
  go_simp
  refine (jumps5 w).mono ?_
  rintro e w1 ⟨g2_0_0, g2_0_1, g2_0_2, g2_0_3, g2_0_4, g2_0_5, g2_0_6, g2_0_7, g2_0_8, g2_0_9, g2_0_10, g2_0_11, g2_0_12, rfl, N⟩
  refine hK.out _ _ _ (M.with N) ?_
  clear hK K' N M w1 w
  try simp only [Act.put, ptA, ptB, ptC]
  refine Gw.sw (.int .i64 op) ?_
  try simp only [Act.put, ptA, ptB, ptC]
  refine Gw.sq (.agg #[.func (.func (lsN op true)) #[] (lsC op true g2_0_0 g2_0_1 g2_0_2 g2_0_3 g2_0_4 g2_0_5 g2_0_6 g2_0_7 g2_0_9 g2_0_10 g2_0_11 g2_0_12), .func (.func (lsN op false)) #[] (lsC op false g2_0_0 g2_0_1 g2_0_2 g2_0_3 g2_0_4 g2_0_5 g2_0_6 g2_0_7 g2_0_9 g2_0_10 g2_0_11 g2_0_12)]) ?_ ?_
  · intro w M; have hr := Gw.run_look Tryz.underlying144 Tryz.underlying3 (M.obj 8) (jm_find op hop g2_0_0 g2_0_1 g2_0_2 g2_0_3 g2_0_4 g2_0_5 g2_0_6 g2_0_7 g2_0_9 g2_0_10 g2_0_11 g2_0_12).choose_spec false; go_simp
  try simp only [Act.put, ptA, ptB, ptC]
  refine Gw.ss ?_
  intro w M K' hK
  go_simp
  have M1 := M.alloc (.cells #[.nilFunc, .nilFunc] 143)
  generalize w.heap.size = d2_3 at M1 ⊢
  refine hK.out _ _ _ M1 ?_
  clear hK K' M1 M w
  try simp only [Act.put, ptA, ptB, ptC]
  refine Gw.ss ?_
  intro w M K' hK
  have c := M.c2 0 0 1
  have f := M.f2 0 0 1
  have hs := @Gw.run_store_fn Tryz.prog; have ht := @Gw.run_store_nf Tryz.prog
  go_simp
  clear hs ht
  refine hK.out _ _ _ ((M.set 0 0 _).set 0 1 _) ?_
  clear hK K' c f M w
  exact fun z M => HK.out _ _ _ _ _ _ _ _ _ _ _ _ _ _ _ _ _ z M
noncomputable def lesson5_r2C : Code := (Tryz.f89.body.bind (Rg.findR 2)).getD .skip
set_option maxHeartbeats 4000000 in
theorem lesson5_r2 (op : Int) (taken : Bool) (hop : Wd.jumpOk op = true) {w0 : World}  {K : Act → World → Prop} {Q0 : Exit → Act → World → Prop} {d2_3 g2_0_0 g2_0_1 g2_0_2 g2_0_3 g2_0_4 g2_0_5 g2_0_6 g2_0_7 g2_0_8 g2_0_9 g2_0_10 g2_0_11 g2_0_12 : Nat} {u0 u2 u3 u4 u5 u6 u7 u8 u9 u10 u11 u12 u13 : Value}
    (hQ : ∀ c a d v w, Q0 (.panic c) (Act.put a d v) w → Q0 (.panic c) a w)
    (hK : ∀ (z : World), Gw.Mem w0 [(d2_3, .cells #[.func (.func (lsN op true)) #[] (lsC op true g2_0_0 g2_0_1 g2_0_2 g2_0_3 g2_0_4 g2_0_5 g2_0_6 g2_0_7 g2_0_9 g2_0_10 g2_0_11 g2_0_12), .func (.func (lsN op false)) #[] (lsC op false g2_0_0 g2_0_1 g2_0_2 g2_0_3 g2_0_4 g2_0_5 g2_0_6 g2_0_7 g2_0_9 g2_0_10 g2_0_11 g2_0_12)] 143), (g2_0_0, .cells #[.func (.func 232) #[] #[.pointer (some ⟨g2_0_9, 0, none⟩)]] 92), (g2_0_1, .cells #[.func (.func 232) #[] #[.pointer (some ⟨g2_0_10, 0, none⟩)]] 92), (g2_0_2, .cells #[.func (.func 232) #[] #[.pointer (some ⟨g2_0_10, 0, none⟩)]] 92), (g2_0_3, .cells #[.func (.func 232) #[] #[.pointer (some ⟨g2_0_9, 0, none⟩)]] 92), (g2_0_4, .cells #[.func (.func 230) #[] #[.pointer (some ⟨g2_0_11, 0, none⟩)]] 92), (g2_0_5, .cells #[.func (.func 230) #[] #[.pointer (some ⟨g2_0_12, 0, none⟩)]] 92), (g2_0_6, .cells #[.func (.func 230) #[] #[.pointer (some ⟨g2_0_12, 0, none⟩)]] 92), (g2_0_7, .cells #[.func (.func 230) #[] #[.pointer (some ⟨g2_0_11, 0, none⟩)]] 92), (g2_0_8, .map #[⟨.int .i64 1, .agg #[.func (.func 209) #[] #[], .func (.func 210) #[] #[]], 0⟩, ⟨.int .i64 5, .agg #[.func (.func 210) #[] #[], .func (.func 209) #[] #[]], 1⟩, ⟨.int .i64 2, .agg #[.func (.func 230) #[] #[.pointer (some ⟨g2_0_12, 0, none⟩)], .func (.func 235) #[] #[.pointer (some ⟨g2_0_7, 0, none⟩)]], 2⟩, ⟨.int .i64 3, .agg #[.func (.func 230) #[] #[.pointer (some ⟨g2_0_11, 0, none⟩)], .func (.func 235) #[] #[.pointer (some ⟨g2_0_6, 0, none⟩)]], 3⟩, ⟨.int .i64 10, .agg #[.func (.func 235) #[] #[.pointer (some ⟨g2_0_5, 0, none⟩)], .func (.func 230) #[] #[.pointer (some ⟨g2_0_11, 0, none⟩)]], 4⟩, ⟨.int .i64 11, .agg #[.func (.func 235) #[] #[.pointer (some ⟨g2_0_4, 0, none⟩)], .func (.func 230) #[] #[.pointer (some ⟨g2_0_12, 0, none⟩)]], 5⟩, ⟨.int .i64 6, .agg #[.func (.func 232) #[] #[.pointer (some ⟨g2_0_10, 0, none⟩)], .func (.func 235) #[] #[.pointer (some ⟨g2_0_3, 0, none⟩)]], 6⟩, ⟨.int .i64 7, .agg #[.func (.func 232) #[] #[.pointer (some ⟨g2_0_9, 0, none⟩)], .func (.func 235) #[] #[.pointer (some ⟨g2_0_2, 0, none⟩)]], 7⟩, ⟨.int .i64 12, .agg #[.func (.func 235) #[] #[.pointer (some ⟨g2_0_1, 0, none⟩)], .func (.func 232) #[] #[.pointer (some ⟨g2_0_9, 0, none⟩)]], 8⟩, ⟨.int .i64 13, .agg #[.func (.func 235) #[] #[.pointer (some ⟨g2_0_0, 0, none⟩)], .func (.func 232) #[] #[.pointer (some ⟨g2_0_10, 0, none⟩)]], 9⟩, ⟨.int .i64 4, .agg #[.func (.func 212) #[] #[], .func (.func 213) #[] #[]], 10⟩] 11), (g2_0_9, .cells #[.int .i64 0] 2), (g2_0_10, .cells #[.int .i64 1] 2), (g2_0_11, .cells #[.int .u64 0] 22), (g2_0_12, .cells #[.int .u64 1] 22)] z → K ⟨#[u0, .bool taken, u2, u3, u4, u5, u6, u7, u8, .bool taken, u10, u11, u12, u13], []⟩ z) (wy : World) (M : Gw.Mem w0 [(d2_3, .cells #[.func (.func (lsN op true)) #[] (lsC op true g2_0_0 g2_0_1 g2_0_2 g2_0_3 g2_0_4 g2_0_5 g2_0_6 g2_0_7 g2_0_9 g2_0_10 g2_0_11 g2_0_12), .func (.func (lsN op false)) #[] (lsC op false g2_0_0 g2_0_1 g2_0_2 g2_0_3 g2_0_4 g2_0_5 g2_0_6 g2_0_7 g2_0_9 g2_0_10 g2_0_11 g2_0_12)] 143), (g2_0_0, .cells #[.func (.func 232) #[] #[.pointer (some ⟨g2_0_9, 0, none⟩)]] 92), (g2_0_1, .cells #[.func (.func 232) #[] #[.pointer (some ⟨g2_0_10, 0, none⟩)]] 92), (g2_0_2, .cells #[.func (.func 232) #[] #[.pointer (some ⟨g2_0_10, 0, none⟩)]] 92), (g2_0_3, .cells #[.func (.func 232) #[] #[.pointer (some ⟨g2_0_9, 0, none⟩)]] 92), (g2_0_4, .cells #[.func (.func 230) #[] #[.pointer (some ⟨g2_0_11, 0, none⟩)]] 92), (g2_0_5, .cells #[.func (.func 230) #[] #[.pointer (some ⟨g2_0_12, 0, none⟩)]] 92), (g2_0_6, .cells #[.func (.func 230) #[] #[.pointer (some ⟨g2_0_12, 0, none⟩)]] 92), (g2_0_7, .cells #[.func (.func 230) #[] #[.pointer (some ⟨g2_0_11, 0, none⟩)]] 92), (g2_0_8, .map #[⟨.int .i64 1, .agg #[.func (.func 209) #[] #[], .func (.func 210) #[] #[]], 0⟩, ⟨.int .i64 5, .agg #[.func (.func 210) #[] #[], .func (.func 209) #[] #[]], 1⟩, ⟨.int .i64 2, .agg #[.func (.func 230) #[] #[.pointer (some ⟨g2_0_12, 0, none⟩)], .func (.func 235) #[] #[.pointer (some ⟨g2_0_7, 0, none⟩)]], 2⟩, ⟨.int .i64 3, .agg #[.func (.func 230) #[] #[.pointer (some ⟨g2_0_11, 0, none⟩)], .func (.func 235) #[] #[.pointer (some ⟨g2_0_6, 0, none⟩)]], 3⟩, ⟨.int .i64 10, .agg #[.func (.func 235) #[] #[.pointer (some ⟨g2_0_5, 0, none⟩)], .func (.func 230) #[] #[.pointer (some ⟨g2_0_11, 0, none⟩)]], 4⟩, ⟨.int .i64 11, .agg #[.func (.func 235) #[] #[.pointer (some ⟨g2_0_4, 0, none⟩)], .func (.func 230) #[] #[.pointer (some ⟨g2_0_12, 0, none⟩)]], 5⟩, ⟨.int .i64 6, .agg #[.func (.func 232) #[] #[.pointer (some ⟨g2_0_10, 0, none⟩)], .func (.func 235) #[] #[.pointer (some ⟨g2_0_3, 0, none⟩)]], 6⟩, ⟨.int .i64 7, .agg #[.func (.func 232) #[] #[.pointer (some ⟨g2_0_9, 0, none⟩)], .func (.func 235) #[] #[.pointer (some ⟨g2_0_2, 0, none⟩)]], 7⟩, ⟨.int .i64 12, .agg #[.func (.func 235) #[] #[.pointer (some ⟨g2_0_1, 0, none⟩)], .func (.func 232) #[] #[.pointer (some ⟨g2_0_9, 0, none⟩)]], 8⟩, ⟨.int .i64 13, .agg #[.func (.func 235) #[] #[.pointer (some ⟨g2_0_0, 0, none⟩)], .func (.func 232) #[] #[.pointer (some ⟨g2_0_10, 0, none⟩)]], 9⟩, ⟨.int .i64 4, .agg #[.func (.func 212) #[] #[], .func (.func 213) #[] #[]], 10⟩] 11), (g2_0_9, .cells #[.int .i64 0] 2), (g2_0_10, .cells #[.int .i64 1] 2), (g2_0_11, .cells #[.int .u64 0] 22), (g2_0_12, .cells #[.int .u64 1] 22)] wy) :
    lesson5_r2C.wp Tryz.prog (Exit.then K Q0) ⟨#[u0, .bool taken, u2, u3, u4, u5, u6, u7, u8, u9, u10, u11, u12, u13], []⟩ wy := by
  have HK := Lib.hid hK
  clear hK
  conv => arg 2; whnf
  refine Gw.line _ M ?_
  clear M wy
  refine Gw.sw (.bool taken) ?_
  try simp only [Act.put, ptA, ptB, ptC]
  exact fun z M => HK.out  z M
noncomputable def lesson5_r3C : Code := (Tryz.f89.body.bind (Rg.findR 3)).getD .skip
set_option maxHeartbeats 4000000 in
theorem lesson5_r3 (op : Int) (taken : Bool) (hop : Wd.jumpOk op = true) {w0 : World}  {K : Act → World → Prop} {Q0 : Exit → Act → World → Prop} {d2_3 g2_0_0 g2_0_1 g2_0_2 g2_0_3 g2_0_4 g2_0_5 g2_0_6 g2_0_7 g2_0_8 g2_0_9 g2_0_10 g2_0_11 g2_0_12 : Nat} {u0 u1 u2 u3 u4 u6 u7 u8 u9 u10 u11 u12 u13 : Value}
    (hQ : ∀ c a d v w, Q0 (.panic c) (Act.put a d v) w → Q0 (.panic c) a w)
    (hK : ∀ (t10 t11 : Value) (z : World), Gw.Mem w0 [(d2_3, .cells #[.func (.func (lsN op true)) #[] (lsC op true g2_0_0 g2_0_1 g2_0_2 g2_0_3 g2_0_4 g2_0_5 g2_0_6 g2_0_7 g2_0_9 g2_0_10 g2_0_11 g2_0_12), .func (.func (lsN op false)) #[] (lsC op false g2_0_0 g2_0_1 g2_0_2 g2_0_3 g2_0_4 g2_0_5 g2_0_6 g2_0_7 g2_0_9 g2_0_10 g2_0_11 g2_0_12)] 143), (g2_0_0, .cells #[.func (.func 232) #[] #[.pointer (some ⟨g2_0_9, 0, none⟩)]] 92), (g2_0_1, .cells #[.func (.func 232) #[] #[.pointer (some ⟨g2_0_10, 0, none⟩)]] 92), (g2_0_2, .cells #[.func (.func 232) #[] #[.pointer (some ⟨g2_0_10, 0, none⟩)]] 92), (g2_0_3, .cells #[.func (.func 232) #[] #[.pointer (some ⟨g2_0_9, 0, none⟩)]] 92), (g2_0_4, .cells #[.func (.func 230) #[] #[.pointer (some ⟨g2_0_11, 0, none⟩)]] 92), (g2_0_5, .cells #[.func (.func 230) #[] #[.pointer (some ⟨g2_0_12, 0, none⟩)]] 92), (g2_0_6, .cells #[.func (.func 230) #[] #[.pointer (some ⟨g2_0_12, 0, none⟩)]] 92), (g2_0_7, .cells #[.func (.func 230) #[] #[.pointer (some ⟨g2_0_11, 0, none⟩)]] 92), (g2_0_8, .map #[⟨.int .i64 1, .agg #[.func (.func 209) #[] #[], .func (.func 210) #[] #[]], 0⟩, ⟨.int .i64 5, .agg #[.func (.func 210) #[] #[], .func (.func 209) #[] #[]], 1⟩, ⟨.int .i64 2, .agg #[.func (.func 230) #[] #[.pointer (some ⟨g2_0_12, 0, none⟩)], .func (.func 235) #[] #[.pointer (some ⟨g2_0_7, 0, none⟩)]], 2⟩, ⟨.int .i64 3, .agg #[.func (.func 230) #[] #[.pointer (some ⟨g2_0_11, 0, none⟩)], .func (.func 235) #[] #[.pointer (some ⟨g2_0_6, 0, none⟩)]], 3⟩, ⟨.int .i64 10, .agg #[.func (.func 235) #[] #[.pointer (some ⟨g2_0_5, 0, none⟩)], .func (.func 230) #[] #[.pointer (some ⟨g2_0_11, 0, none⟩)]], 4⟩, ⟨.int .i64 11, .agg #[.func (.func 235) #[] #[.pointer (some ⟨g2_0_4, 0, none⟩)], .func (.func 230) #[] #[.pointer (some ⟨g2_0_12, 0, none⟩)]], 5⟩, ⟨.int .i64 6, .agg #[.func (.func 232) #[] #[.pointer (some ⟨g2_0_10, 0, none⟩)], .func (.func 235) #[] #[.pointer (some ⟨g2_0_3, 0, none⟩)]], 6⟩, ⟨.int .i64 7, .agg #[.func (.func 232) #[] #[.pointer (some ⟨g2_0_9, 0, none⟩)], .func (.func 235) #[] #[.pointer (some ⟨g2_0_2, 0, none⟩)]], 7⟩, ⟨.int .i64 12, .agg #[.func (.func 235) #[] #[.pointer (some ⟨g2_0_1, 0, none⟩)], .func (.func 232) #[] #[.pointer (some ⟨g2_0_9, 0, none⟩)]], 8⟩, ⟨.int .i64 13, .agg #[.func (.func 235) #[] #[.pointer (some ⟨g2_0_0, 0, none⟩)], .func (.func 232) #[] #[.pointer (some ⟨g2_0_10, 0, none⟩)]], 9⟩, ⟨.int .i64 4, .agg #[.func (.func 212) #[] #[], .func (.func 213) #[] #[]], 10⟩] 11), (g2_0_9, .cells #[.int .i64 0] 2), (g2_0_10, .cells #[.int .i64 1] 2), (g2_0_11, .cells #[.int .u64 0] 22), (g2_0_12, .cells #[.int .u64 1] 22)] z → K ⟨#[u0, u1, u2, u3, .func (.func (lsN op true)) #[] (lsC op true g2_0_0 g2_0_1 g2_0_2 g2_0_3 g2_0_4 g2_0_5 g2_0_6 g2_0_7 g2_0_9 g2_0_10 g2_0_11 g2_0_12), .pointer (some ⟨d2_3, 0, none⟩), u6, u7, u8, u9, t10, t11, u12, u13], []⟩ z) (wy : World) (M : Gw.Mem w0 [(d2_3, .cells #[.func (.func (lsN op true)) #[] (lsC op true g2_0_0 g2_0_1 g2_0_2 g2_0_3 g2_0_4 g2_0_5 g2_0_6 g2_0_7 g2_0_9 g2_0_10 g2_0_11 g2_0_12), .func (.func (lsN op false)) #[] (lsC op false g2_0_0 g2_0_1 g2_0_2 g2_0_3 g2_0_4 g2_0_5 g2_0_6 g2_0_7 g2_0_9 g2_0_10 g2_0_11 g2_0_12)] 143), (g2_0_0, .cells #[.func (.func 232) #[] #[.pointer (some ⟨g2_0_9, 0, none⟩)]] 92), (g2_0_1, .cells #[.func (.func 232) #[] #[.pointer (some ⟨g2_0_10, 0, none⟩)]] 92), (g2_0_2, .cells #[.func (.func 232) #[] #[.pointer (some ⟨g2_0_10, 0, none⟩)]] 92), (g2_0_3, .cells #[.func (.func 232) #[] #[.pointer (some ⟨g2_0_9, 0, none⟩)]] 92), (g2_0_4, .cells #[.func (.func 230) #[] #[.pointer (some ⟨g2_0_11, 0, none⟩)]] 92), (g2_0_5, .cells #[.func (.func 230) #[] #[.pointer (some ⟨g2_0_12, 0, none⟩)]] 92), (g2_0_6, .cells #[.func (.func 230) #[] #[.pointer (some ⟨g2_0_12, 0, none⟩)]] 92), (g2_0_7, .cells #[.func (.func 230) #[] #[.pointer (some ⟨g2_0_11, 0, none⟩)]] 92), (g2_0_8, .map #[⟨.int .i64 1, .agg #[.func (.func 209) #[] #[], .func (.func 210) #[] #[]], 0⟩, ⟨.int .i64 5, .agg #[.func (.func 210) #[] #[], .func (.func 209) #[] #[]], 1⟩, ⟨.int .i64 2, .agg #[.func (.func 230) #[] #[.pointer (some ⟨g2_0_12, 0, none⟩)], .func (.func 235) #[] #[.pointer (some ⟨g2_0_7, 0, none⟩)]], 2⟩, ⟨.int .i64 3, .agg #[.func (.func 230) #[] #[.pointer (some ⟨g2_0_11, 0, none⟩)], .func (.func 235) #[] #[.pointer (some ⟨g2_0_6, 0, none⟩)]], 3⟩, ⟨.int .i64 10, .agg #[.func (.func 235) #[] #[.pointer (some ⟨g2_0_5, 0, none⟩)], .func (.func 230) #[] #[.pointer (some ⟨g2_0_11, 0, none⟩)]], 4⟩, ⟨.int .i64 11, .agg #[.func (.func 235) #[] #[.pointer (some ⟨g2_0_4, 0, none⟩)], .func (.func 230) #[] #[.pointer (some ⟨g2_0_12, 0, none⟩)]], 5⟩, ⟨.int .i64 6, .agg #[.func (.func 232) #[] #[.pointer (some ⟨g2_0_10, 0, none⟩)], .func (.func 235) #[] #[.pointer (some ⟨g2_0_3, 0, none⟩)]], 6⟩, ⟨.int .i64 7, .agg #[.func (.func 232) #[] #[.pointer (some ⟨g2_0_9, 0, none⟩)], .func (.func 235) #[] #[.pointer (some ⟨g2_0_2, 0, none⟩)]], 7⟩, ⟨.int .i64 12, .agg #[.func (.func 235) #[] #[.pointer (some ⟨g2_0_1, 0, none⟩)], .func (.func 232) #[] #[.pointer (some ⟨g2_0_9, 0, none⟩)]], 8⟩, ⟨.int .i64 13, .agg #[.func (.func 235) #[] #[.pointer (some ⟨g2_0_0, 0, none⟩)], .func (.func 232) #[] #[.pointer (some ⟨g2_0_10, 0, none⟩)]], 9⟩, ⟨.int .i64 4, .agg #[.func (.func 212) #[] #[], .func (.func 213) #[] #[]], 10⟩] 11), (g2_0_9, .cells #[.int .i64 0] 2), (g2_0_10, .cells #[.int .i64 1] 2), (g2_0_11, .cells #[.int .u64 0] 22), (g2_0_12, .cells #[.int .u64 1] 22)] wy) :
    lesson5_r3C.wp Tryz.prog (Exit.then K Q0) ⟨#[u0, u1, u2, u3, u4, .pointer (some ⟨d2_3, 0, none⟩), u6, u7, u8, u9, u10, u11, u12, u13], []⟩ wy := by
  have HK := Lib.hid hK
  clear hK
  conv => arg 2; whnf
  refine Gw.line _ M ?_
  clear M wy
  refine Gw.sw (.pointer (some ⟨d2_3, 0, none⟩)) ?_
  try simp only [Act.put, ptA, ptB, ptC]
  refine Gw.sq (.func (.func (lsN op true)) #[] (lsC op true g2_0_0 g2_0_1 g2_0_2 g2_0_3 g2_0_4 g2_0_5 g2_0_6 g2_0_7 g2_0_9 g2_0_10 g2_0_11 g2_0_12)) ?_ ?_
  · intro w M; have c := M.cell 0 0; go_simp
  try simp only [Act.put, ptA, ptB, ptC]
  refine Gw.sw (.func (.func (lsN op true)) #[] (lsC op true g2_0_0 g2_0_1 g2_0_2 g2_0_3 g2_0_4 g2_0_5 g2_0_6 g2_0_7 g2_0_9 g2_0_10 g2_0_11 g2_0_12)) ?_
  try simp only [Act.put, ptA, ptB, ptC]
  exact fun z M => HK.out _ _ z M
noncomputable def lesson5_r4C : Code := (Tryz.f89.body.bind (Rg.findR 4)).getD .skip
set_option maxHeartbeats 4000000 in
theorem lesson5_r4 (op : Int) (taken : Bool) (hop : Wd.jumpOk op = true) {w0 : World}  {K : Act → World → Prop} {Q0 : Exit → Act → World → Prop} {d2_3 g2_0_0 g2_0_1 g2_0_2 g2_0_3 g2_0_4 g2_0_5 g2_0_6 g2_0_7 g2_0_8 g2_0_9 g2_0_10 g2_0_11 g2_0_12 : Nat} {u0 u1 u2 u3 u4 u6 u7 u8 u9 u10 u11 u12 u13 : Value}
    (hQ : ∀ c a d v w, Q0 (.panic c) (Act.put a d v) w → Q0 (.panic c) a w)
    (hK : ∀ (t12 t13 : Value) (z : World), Gw.Mem w0 [(d2_3, .cells #[.func (.func (lsN op true)) #[] (lsC op true g2_0_0 g2_0_1 g2_0_2 g2_0_3 g2_0_4 g2_0_5 g2_0_6 g2_0_7 g2_0_9 g2_0_10 g2_0_11 g2_0_12), .func (.func (lsN op false)) #[] (lsC op false g2_0_0 g2_0_1 g2_0_2 g2_0_3 g2_0_4 g2_0_5 g2_0_6 g2_0_7 g2_0_9 g2_0_10 g2_0_11 g2_0_12)] 143), (g2_0_0, .cells #[.func (.func 232) #[] #[.pointer (some ⟨g2_0_9, 0, none⟩)]] 92), (g2_0_1, .cells #[.func (.func 232) #[] #[.pointer (some ⟨g2_0_10, 0, none⟩)]] 92), (g2_0_2, .cells #[.func (.func 232) #[] #[.pointer (some ⟨g2_0_10, 0, none⟩)]] 92), (g2_0_3, .cells #[.func (.func 232) #[] #[.pointer (some ⟨g2_0_9, 0, none⟩)]] 92), (g2_0_4, .cells #[.func (.func 230) #[] #[.pointer (some ⟨g2_0_11, 0, none⟩)]] 92), (g2_0_5, .cells #[.func (.func 230) #[] #[.pointer (some ⟨g2_0_12, 0, none⟩)]] 92), (g2_0_6, .cells #[.func (.func 230) #[] #[.pointer (some ⟨g2_0_12, 0, none⟩)]] 92), (g2_0_7, .cells #[.func (.func 230) #[] #[.pointer (some ⟨g2_0_11, 0, none⟩)]] 92), (g2_0_8, .map #[⟨.int .i64 1, .agg #[.func (.func 209) #[] #[], .func (.func 210) #[] #[]], 0⟩, ⟨.int .i64 5, .agg #[.func (.func 210) #[] #[], .func (.func 209) #[] #[]], 1⟩, ⟨.int .i64 2, .agg #[.func (.func 230) #[] #[.pointer (some ⟨g2_0_12, 0, none⟩)], .func (.func 235) #[] #[.pointer (some ⟨g2_0_7, 0, none⟩)]], 2⟩, ⟨.int .i64 3, .agg #[.func (.func 230) #[] #[.pointer (some ⟨g2_0_11, 0, none⟩)], .func (.func 235) #[] #[.pointer (some ⟨g2_0_6, 0, none⟩)]], 3⟩, ⟨.int .i64 10, .agg #[.func (.func 235) #[] #[.pointer (some ⟨g2_0_5, 0, none⟩)], .func (.func 230) #[] #[.pointer (some ⟨g2_0_11, 0, none⟩)]], 4⟩, ⟨.int .i64 11, .agg #[.func (.func 235) #[] #[.pointer (some ⟨g2_0_4, 0, none⟩)], .func (.func 230) #[] #[.pointer (some ⟨g2_0_12, 0, none⟩)]], 5⟩, ⟨.int .i64 6, .agg #[.func (.func 232) #[] #[.pointer (some ⟨g2_0_10, 0, none⟩)], .func (.func 235) #[] #[.pointer (some ⟨g2_0_3, 0, none⟩)]], 6⟩, ⟨.int .i64 7, .agg #[.func (.func 232) #[] #[.pointer (some ⟨g2_0_9, 0, none⟩)], .func (.func 235) #[] #[.pointer (some ⟨g2_0_2, 0, none⟩)]], 7⟩, ⟨.int .i64 12, .agg #[.func (.func 235) #[] #[.pointer (some ⟨g2_0_1, 0, none⟩)], .func (.func 232) #[] #[.pointer (some ⟨g2_0_9, 0, none⟩)]], 8⟩, ⟨.int .i64 13, .agg #[.func (.func 235) #[] #[.pointer (some ⟨g2_0_0, 0, none⟩)], .func (.func 232) #[] #[.pointer (some ⟨g2_0_10, 0, none⟩)]], 9⟩, ⟨.int .i64 4, .agg #[.func (.func 212) #[] #[], .func (.func 213) #[] #[]], 10⟩] 11), (g2_0_9, .cells #[.int .i64 0] 2), (g2_0_10, .cells #[.int .i64 1] 2), (g2_0_11, .cells #[.int .u64 0] 22), (g2_0_12, .cells #[.int .u64 1] 22)] z → K ⟨#[u0, u1, u2, u3, .func (.func (lsN op false)) #[] (lsC op false g2_0_0 g2_0_1 g2_0_2 g2_0_3 g2_0_4 g2_0_5 g2_0_6 g2_0_7 g2_0_9 g2_0_10 g2_0_11 g2_0_12), .pointer (some ⟨d2_3, 0, none⟩), u6, u7, u8, u9, u10, u11, t12, t13], []⟩ z) (wy : World) (M : Gw.Mem w0 [(d2_3, .cells #[.func (.func (lsN op true)) #[] (lsC op true g2_0_0 g2_0_1 g2_0_2 g2_0_3 g2_0_4 g2_0_5 g2_0_6 g2_0_7 g2_0_9 g2_0_10 g2_0_11 g2_0_12), .func (.func (lsN op false)) #[] (lsC op false g2_0_0 g2_0_1 g2_0_2 g2_0_3 g2_0_4 g2_0_5 g2_0_6 g2_0_7 g2_0_9 g2_0_10 g2_0_11 g2_0_12)] 143), (g2_0_0, .cells #[.func (.func 232) #[] #[.pointer (some ⟨g2_0_9, 0, none⟩)]] 92), (g2_0_1, .cells #[.func (.func 232) #[] #[.pointer (some ⟨g2_0_10, 0, none⟩)]] 92), (g2_0_2, .cells #[.func (.func 232) #[] #[.pointer (some ⟨g2_0_10, 0, none⟩)]] 92), (g2_0_3, .cells #[.func (.func 232) #[] #[.pointer (some ⟨g2_0_9, 0, none⟩)]] 92), (g2_0_4, .cells #[.func (.func 230) #[] #[.pointer (some ⟨g2_0_11, 0, none⟩)]] 92), (g2_0_5, .cells #[.func (.func 230) #[] #[.pointer (some ⟨g2_0_12, 0, none⟩)]] 92), (g2_0_6, .cells #[.func (.func 230) #[] #[.pointer (some ⟨g2_0_12, 0, none⟩)]] 92), (g2_0_7, .cells #[.func (.func 230) #[] #[.pointer (some ⟨g2_0_11, 0, none⟩)]] 92), (g2_0_8, .map #[⟨.int .i64 1, .agg #[.func (.func 209) #[] #[], .func (.func 210) #[] #[]], 0⟩, ⟨.int .i64 5, .agg #[.func (.func 210) #[] #[], .func (.func 209) #[] #[]], 1⟩, ⟨.int .i64 2, .agg #[.func (.func 230) #[] #[.pointer (some ⟨g2_0_12, 0, none⟩)], .func (.func 235) #[] #[.pointer (some ⟨g2_0_7, 0, none⟩)]], 2⟩, ⟨.int .i64 3, .agg #[.func (.func 230) #[] #[.pointer (some ⟨g2_0_11, 0, none⟩)], .func (.func 235) #[] #[.pointer (some ⟨g2_0_6, 0, none⟩)]], 3⟩, ⟨.int .i64 10, .agg #[.func (.func 235) #[] #[.pointer (some ⟨g2_0_5, 0, none⟩)], .func (.func 230) #[] #[.pointer (some ⟨g2_0_11, 0, none⟩)]], 4⟩, ⟨.int .i64 11, .agg #[.func (.func 235) #[] #[.pointer (some ⟨g2_0_4, 0, none⟩)], .func (.func 230) #[] #[.pointer (some ⟨g2_0_12, 0, none⟩)]], 5⟩, ⟨.int .i64 6, .agg #[.func (.func 232) #[] #[.pointer (some ⟨g2_0_10, 0, none⟩)], .func (.func 235) #[] #[.pointer (some ⟨g2_0_3, 0, none⟩)]], 6⟩, ⟨.int .i64 7, .agg #[.func (.func 232) #[] #[.pointer (some ⟨g2_0_9, 0, none⟩)], .func (.func 235) #[] #[.pointer (some ⟨g2_0_2, 0, none⟩)]], 7⟩, ⟨.int .i64 12, .agg #[.func (.func 235) #[] #[.pointer (some ⟨g2_0_1, 0, none⟩)], .func (.func 232) #[] #[.pointer (some ⟨g2_0_9, 0, none⟩)]], 8⟩, ⟨.int .i64 13, .agg #[.func (.func 235) #[] #[.pointer (some ⟨g2_0_0, 0, none⟩)], .func (.func 232) #[] #[.pointer (some ⟨g2_0_10, 0, none⟩)]], 9⟩, ⟨.int .i64 4, .agg #[.func (.func 212) #[] #[], .func (.func 213) #[] #[]], 10⟩] 11), (g2_0_9, .cells #[.int .i64 0] 2), (g2_0_10, .cells #[.int .i64 1] 2), (g2_0_11, .cells #[.int .u64 0] 22), (g2_0_12, .cells #[.int .u64 1] 22)] wy) :
    lesson5_r4C.wp Tryz.prog (Exit.then K Q0) ⟨#[u0, u1, u2, u3, u4, .pointer (some ⟨d2_3, 0, none⟩), u6, u7, u8, u9, u10, u11, u12, u13], []⟩ wy := by
  have HK := Lib.hid hK
  clear hK
  conv => arg 2; whnf
  refine Gw.line _ M ?_
  clear M wy
  refine Gw.sw (.pointer (some ⟨d2_3, 1, none⟩)) ?_
  try simp only [Act.put, ptA, ptB, ptC]
  refine Gw.sq (.func (.func (lsN op false)) #[] (lsC op false g2_0_0 g2_0_1 g2_0_2 g2_0_3 g2_0_4 g2_0_5 g2_0_6 g2_0_7 g2_0_9 g2_0_10 g2_0_11 g2_0_12)) ?_ ?_
  · intro w M; have c := M.cell 0 1; go_simp
  try simp only [Act.put, ptA, ptB, ptC]
  refine Gw.sw (.func (.func (lsN op false)) #[] (lsC op false g2_0_0 g2_0_1 g2_0_2 g2_0_3 g2_0_4 g2_0_5 g2_0_6 g2_0_7 g2_0_9 g2_0_10 g2_0_11 g2_0_12)) ?_
  try simp only [Act.put, ptA, ptB, ptC]
  exact fun z M => HK.out _ _ z M
set_option maxHeartbeats 4000000 in
theorem lesson5 (op : Int) (taken : Bool) (hop : Wd.jumpOk op = true) (w : World) :
    Calls Tryz.prog 89 #[.int .i64 op, .bool taken] w fun e w' => ∃ n0 n1 n2 n3 n4 n5 n6 n7 n9 n10 n11 n12, e = .returned (.func (.func (lsN op taken)) #[] (lsC op taken n0 n1 n2 n3 n4 n5 n6 n7 n9 n10 n11 n12)) ∧ Gw.Mem w (JL n0 n1 n2 n3 n4 n5 n6 n7 n9 n10 n11 n12) w' := by
  go_enter Tryz.func89, Tryz.ntmps89
  have M := Gw.Mem.nil w
  refine wp_seq (lesson5_r0 op taken hop (fun _ _ d _ _ h => by cases d <;> exact h) ?_ _ M)
  clear M
  intro _ z1 M
  refine wp_seq (lesson5_r1 op taken hop (fun _ _ d _ _ h => by cases d <;> exact h) ?_ _ M)
  clear M
  intro _ _ _ g2_0_0 g2_0_1 g2_0_2 g2_0_3 g2_0_4 g2_0_5 g2_0_6 g2_0_7 g2_0_8 g2_0_9 g2_0_10 g2_0_11 g2_0_12 d2_3 z2 M
  refine wp_seq ?_
  refine wp_seq (lesson5_r2 op taken hop (fun _ _ d _ _ h => by cases d <;> exact h) ?_ _ M)
  clear M
  intro z3 M
  refine wp_cond_split (t := taken) rfl (fun h0 => ?_) (fun h0 => ?_)
  · refine wp_seq (lesson5_r3 op taken hop (fun _ _ d _ _ h => by cases d <;> exact h) ?_ _ M)
    clear M
    intro _ _ z4 M
    refine wp_ret ?_
    try simp only [Exit.inBlock, Exit.then]
    refine bodyPost_ret (by simp [results, Tryz.results89, go_sem]; try rfl) rfl ?_
    exact ⟨g2_0_0, g2_0_1, g2_0_2, g2_0_3, g2_0_4, g2_0_5, g2_0_6, g2_0_7, g2_0_9, g2_0_10, g2_0_11, g2_0_12, by rw [h0], M.sub (Gw.cd (Gw.cc (Gw.cc (Gw.cc (Gw.cc (Gw.cc (Gw.cc (Gw.cc (Gw.cc (Gw.cd (Gw.cc (Gw.cc (Gw.cc (Gw.cc Gw.cn))))))))))))))⟩
  · refine wp_skip ?_
    try simp only [Exit.inBlock, Exit.then]
    refine wp_seq (lesson5_r4 op taken hop (fun _ _ d _ _ h => by cases d <;> exact h) ?_ _ M)
    clear M
    intro _ _ z5 M
    refine wp_ret ?_
    try simp only [Exit.inBlock, Exit.then]
    refine bodyPost_ret (by simp [results, Tryz.results89, go_sem]; try rfl) rfl ?_
    exact ⟨g2_0_0, g2_0_1, g2_0_2, g2_0_3, g2_0_4, g2_0_5, g2_0_6, g2_0_7, g2_0_9, g2_0_10, g2_0_11, g2_0_12, by rw [h0], M.sub (Gw.cd (Gw.cc (Gw.cc (Gw.cc (Gw.cc (Gw.cc (Gw.cc (Gw.cc (Gw.cc (Gw.cd (Gw.cc (Gw.cc (Gw.cc (Gw.cc Gw.cn))))))))))))))⟩
def lsR (op : Int) (taken : Bool) (a b : C) : (C × C) × Bool :=
  let o := bif taken then op else counterI op
  if op = 4 then (bif taken then ((a, b), true) else ((djC a b, djC b a), djB a b && djB b a))
  else if o = 1 then ((mtC a b, mtC a b), mtB a b) else if o = 5 then ((dfC a b, dfC b a), true)
  else if o = 2 then ((above_u1 1 a b, above_u2 1 a b), apOk .u64 1 a.u b.u) else if o = 3 then ((above_u1 0 a b, above_u2 0 a b), apOk .u64 0 a.u b.u)
  else if o = 10 then ((above_u2 1 b a, above_u1 1 b a), apOk .u64 1 b.u a.u) else if o = 11 then ((above_u2 0 b a, above_u1 0 b a), apOk .u64 0 b.u a.u)
  else if o = 6 then ((above_s1 1 a b, above_s2 1 a b), apOk .i64 1 a.s b.s) else if o = 7 then ((above_s1 0 a b, above_s2 0 a b), apOk .i64 0 a.s b.s)
  else if o = 12 then ((above_s2 1 b a, above_s1 1 b a), apOk .i64 1 b.s a.s) else ((above_s2 0 b a, above_s1 0 b a), apOk .i64 0 b.s a.s)
theorem ls_call (op : Int) (taken : Bool) (hop : Wd.jumpOk op = true) (a b : C) (ha : mayC a) (hb : mayC b) (n0 n1 n2 n3 n4 n5 n6 n7 n9 n10 n11 n12 : Nat) {w0 : World} (w : World) (M : Gw.Mem w0 (JL n0 n1 n2 n3 n4 n5 n6 n7 n9 n10 n11 n12) w) :
    Calls Tryz.prog (lsN op taken) (#[.agg #[.int .u64 (bi a.t.v), .int .u64 (bi a.t.m), .int .u64 a.u.lo, .int .u64 a.u.hi, .int .i64 a.s.lo, .int .i64 a.s.hi], .agg #[.int .u64 (bi b.t.v), .int .u64 (bi b.t.m), .int .u64 b.u.lo, .int .u64 b.u.hi, .int .i64 b.s.lo, .int .i64 b.s.hi]] ++ lsC op taken n0 n1 n2 n3 n4 n5 n6 n7 n9 n10 n11 n12) w fun e w' => e = .returned (.tuple #[.agg #[.int .u64 (bi ((lsR op taken a b).1.1).t.v), .int .u64 (bi ((lsR op taken a b).1.1).t.m), .int .u64 (((lsR op taken a b).1.1).u.lo), .int .u64 (((lsR op taken a b).1.1).u.hi), .int .i64 (((lsR op taken a b).1.1).s.lo), .int .i64 (((lsR op taken a b).1.1).s.hi)], .agg #[.int .u64 (bi ((lsR op taken a b).1.2).t.v), .int .u64 (bi ((lsR op taken a b).1.2).t.m), .int .u64 (((lsR op taken a b).1.2).u.lo), .int .u64 (((lsR op taken a b).1.2).u.hi), .int .i64 (((lsR op taken a b).1.2).s.lo), .int .i64 (((lsR op taken a b).1.2).s.hi)], .bool ((lsR op taken a b).2)]) ∧ Below w.heap.size w w' := by
  rcases jump_cases hop with rfl | rfl | rfl | rfl | rfl | rfl | rfl | rfl | rfl | rfl | rfl <;> cases taken
  · exact different5 a b ha hb w
  · exact same5 a b w
  · exact under_u a b 0 n7 n11 w (M.cell 7 0) (M.cell 10 0)
  · exact above_u a b 1 n12 w (M.cell 11 0)
  · exact under_u a b 1 n6 n12 w (M.cell 6 0) (M.cell 11 0)
  · exact above_u a b 0 n11 w (M.cell 10 0)
  · exact disjoint5 a b ha hb w
  · exact nothing5 a b w
  · exact same5 a b w
  · exact different5 a b ha hb w
  · exact under_s a b 0 n3 n9 w (M.cell 3 0) (M.cell 8 0)
  · exact above_s a b 1 n10 w (M.cell 9 0)
  · exact under_s a b 1 n2 n10 w (M.cell 2 0) (M.cell 9 0)
  · exact above_s a b 0 n9 w (M.cell 8 0)
  · exact above_u a b 0 n11 w (M.cell 10 0)
  · exact under_u a b 1 n5 n12 w (M.cell 5 0) (M.cell 11 0)
  · exact above_u a b 1 n12 w (M.cell 11 0)
  · exact under_u a b 0 n4 n11 w (M.cell 4 0) (M.cell 10 0)
  · exact above_s a b 0 n9 w (M.cell 8 0)
  · exact under_s a b 1 n1 n10 w (M.cell 1 0) (M.cell 9 0)
  · exact above_s a b 1 n10 w (M.cell 9 0)
  · exact under_s a b 0 n0 n9 w (M.cell 0 0) (M.cell 8 0)
end Go.Proofs.YtcimihckhobniaaGreat.Sc
