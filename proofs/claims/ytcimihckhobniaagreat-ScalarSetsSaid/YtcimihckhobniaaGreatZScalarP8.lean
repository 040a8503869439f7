/-
  What the program's layer 5 tells: contracts, eighth part: the map of what is learnt. Conditions: scalars may be, where that is said.
-/
import Derived.Test.YtcimihckhobniaaGreatZScalarP7
namespace Go.Proofs.YtcimihckhobniaaGreat.Sc
open Go.RowKit Tn Ow Sp
set_option linter.unusedVariables false
set_option linter.unusedSimpArgs false
set_option maxRecDepth 100000
noncomputable def jumps5_r0C : Code := (Tryz.f156.body.bind (Rg.findR 0)).getD .skip
set_option maxHeartbeats 4000000 in
theorem jumps5_r0  {w0 : World}  {K : Act → World → Prop} {Q0 : Exit → Act → World → Prop} {u0 u1 u2 u3 u4 u5 u6 u7 u8 u9 u10 u11 u12 u13 u14 u15 u16 u17 u18 u19 u20 u21 u22 u23 u24 u25 u26 u27 u28 u29 u30 u31 u32 u33 u34 u35 u36 u37 u38 u39 u40 u41 u42 u43 u44 u45 : Value}
    (hQ : ∀ c a d v w, Q0 (.panic c) (Act.put a d v) w → Q0 (.panic c) a w)
    (hK : ∀ (t0 : Value) (z : World), Gw.Mem w0 [] z → K ⟨#[t0, u1, u2, u3, u4, u5, u6, u7, u8, u9, u10, u11, u12, u13, u14, u15, u16, u17, u18, u19, u20, u21, u22, u23, u24, u25, u26, u27, u28, u29, u30, u31, u32, u33, u34, u35, u36, u37, u38, u39, u40, u41, u42, u43, u44, u45], []⟩ z) (wy : World) (M : Gw.Mem w0 [] wy) :
    jumps5_r0C.wp Tryz.prog (Exit.then K Q0) ⟨#[u0, u1, u2, u3, u4, u5, u6, u7, u8, u9, u10, u11, u12, u13, u14, u15, u16, u17, u18, u19, u20, u21, u22, u23, u24, u25, u26, u27, u28, u29, u30, u31, u32, u33, u34, u35, u36, u37, u38, u39, u40, u41, u42, u43, u44, u45], []⟩ wy := by
  have HK := Lib.hid hK
  clear hK
  conv => arg 2; whnf
  refine Gw.line _ M ?_
  clear M wy
  refine Gw.sw (.map none) ?_
  try simp only [Act.put, ptA, ptB, ptC]
  exact fun z M => HK.out _ z M
noncomputable def jumps5_r1C : Code := (Tryz.f156.body.bind (Rg.findR 1)).getD .skip
set_option maxHeartbeats 4000000 in
theorem jumps5_r1  {w0 : World}  {K : Act → World → Prop} {Q0 : Exit → Act → World → Prop} {u0 u1 u2 u3 u4 u5 u6 u7 u8 u9 u10 u11 u12 u13 u14 u15 u16 u17 u18 u19 u20 u21 u22 u23 u24 u25 u26 u27 u28 u29 u30 u31 u32 u33 u34 u35 u36 u37 u38 u39 u40 u41 u42 u43 u44 u45 : Value}
    (hQ : ∀ c a d v w, Q0 (.panic c) (Act.put a d v) w → Q0 (.panic c) a w)
    (hK : ∀ (t5 t6 : Value) (g2_0_0 g2_1_0 : Nat) (z : World), Gw.Mem w0 [(g2_1_0, .cells #[.int .u64 0] 22), (g2_0_0, .cells #[.int .u64 1] 22)] z → K ⟨#[u0, .func (.func 230) #[] #[.pointer (some ⟨g2_0_0, 0, none⟩)], .func (.func 230) #[] #[.pointer (some ⟨g2_1_0, 0, none⟩)], u3, u4, t5, t6, u7, u8, u9, u10, u11, u12, u13, u14, u15, u16, u17, u18, u19, u20, u21, u22, u23, u24, u25, u26, u27, u28, u29, u30, u31, u32, u33, u34, u35, u36, u37, u38, u39, u40, u41, u42, u43, u44, u45], []⟩ z) (wy : World) (M : Gw.Mem w0 [] wy) :
    jumps5_r1C.wp Tryz.prog (Exit.then K Q0) ⟨#[u0, u1, u2, u3, u4, u5, u6, u7, u8, u9, u10, u11, u12, u13, u14, u15, u16, u17, u18, u19, u20, u21, u22, u23, u24, u25, u26, u27, u28, u29, u30, u31, u32, u33, u34, u35, u36, u37, u38, u39, u40, u41, u42, u43, u44, u45], []⟩ wy := by
  have HK := Lib.hid hK
  clear hK
  conv => arg 2; whnf
  refine Gw.line _ M ?_
  clear M wy
  refine Gw.ss ?_
  intro w M K' hK
  go_simp
  refine (higher5 1 w).mono ?_
  rintro e w1 ⟨g2_0_0, rfl, N⟩
  refine hK.out _ _ _ (M.with N) ?_
  clear hK K' N M w1 w
  try simp only [Act.put, ptA, ptB, ptC]
  refine Gw.ss ?_
  intro w M K' hK
  go_simp
  refine (higher5 0 w).mono ?_
  rintro e w1 ⟨g2_1_0, rfl, N⟩
  refine hK.out _ _ _ (M.with N) ?_
  clear hK K' N M w1 w
  try simp only [Act.put, ptA, ptB, ptC]
  refine Gw.sw (.func (.func 230) #[] #[.pointer (some ⟨g2_0_0, 0, none⟩)]) ?_
  try simp only [Act.put, ptA, ptB, ptC]
  refine Gw.sw (.func (.func 230) #[] #[.pointer (some ⟨g2_1_0, 0, none⟩)]) ?_
  try simp only [Act.put, ptA, ptB, ptC]
  exact fun z M => HK.out _ _ _ _ z M
noncomputable def jumps5_r2C : Code := (Tryz.f156.body.bind (Rg.findR 2)).getD .skip
set_option maxHeartbeats 4000000 in
theorem jumps5_r2  {w0 : World}  {K : Act → World → Prop} {Q0 : Exit → Act → World → Prop} {g2_1_0 g2_0_0 : Nat} {u0 u1 u2 u3 u4 u5 u6 u7 u8 u9 u10 u11 u12 u13 u14 u15 u16 u17 u18 u19 u20 u21 u22 u23 u24 u25 u26 u27 u28 u29 u30 u31 u32 u33 u34 u35 u36 u37 u38 u39 u40 u41 u42 u43 u44 u45 : Value}
    (hQ : ∀ c a d v w, Q0 (.panic c) (Act.put a d v) w → Q0 (.panic c) a w)
    (hK : ∀ (t7 t8 : Value) (g3_0_0 g3_1_0 : Nat) (z : World), Gw.Mem w0 [(g3_1_0, .cells #[.int .i64 0] 2), (g3_0_0, .cells #[.int .i64 1] 2), (g2_1_0, .cells #[.int .u64 0] 22), (g2_0_0, .cells #[.int .u64 1] 22)] z → K ⟨#[u0, u1, u2, .func (.func 232) #[] #[.pointer (some ⟨g3_0_0, 0, none⟩)], .func (.func 232) #[] #[.pointer (some ⟨g3_1_0, 0, none⟩)], u5, u6, t7, t8, u9, u10, u11, u12, u13, u14, u15, u16, u17, u18, u19, u20, u21, u22, u23, u24, u25, u26, u27, u28, u29, u30, u31, u32, u33, u34, u35, u36, u37, u38, u39, u40, u41, u42, u43, u44, u45], []⟩ z) (wy : World) (M : Gw.Mem w0 [(g2_1_0, .cells #[.int .u64 0] 22), (g2_0_0, .cells #[.int .u64 1] 22)] wy) :
    jumps5_r2C.wp Tryz.prog (Exit.then K Q0) ⟨#[u0, u1, u2, u3, u4, u5, u6, u7, u8, u9, u10, u11, u12, u13, u14, u15, u16, u17, u18, u19, u20, u21, u22, u23, u24, u25, u26, u27, u28, u29, u30, u31, u32, u33, u34, u35, u36, u37, u38, u39, u40, u41, u42, u43, u44, u45], []⟩ wy := by
  have HK := Lib.hid hK
  clear hK
  conv => arg 2; whnf
  refine Gw.line _ M ?_
  clear M wy
  refine Gw.ss ?_
  intro w M K' hK
  go_simp
  refine (higherS5 1 w).mono ?_
  rintro e w1 ⟨g3_0_0, rfl, N⟩
  refine hK.out _ _ _ (M.with N) ?_
  clear hK K' N M w1 w
  try simp only [Act.put, ptA, ptB, ptC]
  refine Gw.ss ?_
  intro w M K' hK
  go_simp
  refine (higherS5 0 w).mono ?_
  rintro e w1 ⟨g3_1_0, rfl, N⟩
  refine hK.out _ _ _ (M.with N) ?_
  clear hK K' N M w1 w
  try simp only [Act.put, ptA, ptB, ptC]
  refine Gw.sw (.func (.func 232) #[] #[.pointer (some ⟨g3_0_0, 0, none⟩)]) ?_
  try simp only [Act.put, ptA, ptB, ptC]
  refine Gw.sw (.func (.func 232) #[] #[.pointer (some ⟨g3_1_0, 0, none⟩)]) ?_
  try simp only [Act.put, ptA, ptB, ptC]
  exact fun z M => HK.out _ _ _ _ z M
noncomputable def jumps5_r3C : Code := (Tryz.f156.body.bind (Rg.findR 3)).getD .skip
set_option maxHeartbeats 4000000 in
theorem jumps5_r3  {w0 : World}  {K : Act → World → Prop} {Q0 : Exit → Act → World → Prop} {g3_1_0 g3_0_0 g2_1_0 g2_0_0 : Nat} {u0 u5 u6 u7 u8 u9 u10 u11 u12 u13 u14 u15 u16 u17 u18 u19 u20 u21 u22 u23 u24 u25 u26 u27 u28 u29 u30 u31 u32 u33 u34 u35 u36 u37 u38 u39 u40 u41 u42 u43 u44 u45 : Value}
    (hQ : ∀ c a d v w, Q0 (.panic c) (Act.put a d v) w → Q0 (.panic c) a w)
    (hK : ∀ (t9 t10 t11 t12 t13 t14 t15 t16 t17 t18 t19 t20 t21 t22 t23 t24 t25 t26 t27 t28 t29 t30 t31 t32 t33 t34 t35 t36 t37 t38 t39 t40 t41 t42 t43 t44 t45 : Value) (d4_0 g4_7_0 g4_12_0 g4_16_0 g4_21_0 g4_27_0 g4_32_0 g4_36_0 g4_41_0 : Nat) (z : World), Gw.Mem w0 [(g4_41_0, .cells #[.func (.func 232) #[] #[.pointer (some ⟨g3_1_0, 0, none⟩)]] 92), (g4_36_0, .cells #[.func (.func 232) #[] #[.pointer (some ⟨g3_0_0, 0, none⟩)]] 92), (g4_32_0, .cells #[.func (.func 232) #[] #[.pointer (some ⟨g3_0_0, 0, none⟩)]] 92), (g4_27_0, .cells #[.func (.func 232) #[] #[.pointer (some ⟨g3_1_0, 0, none⟩)]] 92), (g4_21_0, .cells #[.func (.func 230) #[] #[.pointer (some ⟨g2_1_0, 0, none⟩)]] 92), (g4_16_0, .cells #[.func (.func 230) #[] #[.pointer (some ⟨g2_0_0, 0, none⟩)]] 92), (g4_12_0, .cells #[.func (.func 230) #[] #[.pointer (some ⟨g2_0_0, 0, none⟩)]] 92), (g4_7_0, .cells #[.func (.func 230) #[] #[.pointer (some ⟨g2_1_0, 0, none⟩)]] 92), (d4_0, .map #[⟨.int .i64 1, .agg #[.func (.func 209) #[] #[], .func (.func 210) #[] #[]], 0⟩, ⟨.int .i64 5, .agg #[.func (.func 210) #[] #[], .func (.func 209) #[] #[]], 1⟩, ⟨.int .i64 2, .agg #[.func (.func 230) #[] #[.pointer (some ⟨g2_0_0, 0, none⟩)], .func (.func 235) #[] #[.pointer (some ⟨g4_7_0, 0, none⟩)]], 2⟩, ⟨.int .i64 3, .agg #[.func (.func 230) #[] #[.pointer (some ⟨g2_1_0, 0, none⟩)], .func (.func 235) #[] #[.pointer (some ⟨g4_12_0, 0, none⟩)]], 3⟩, ⟨.int .i64 10, .agg #[.func (.func 235) #[] #[.pointer (some ⟨g4_16_0, 0, none⟩)], .func (.func 230) #[] #[.pointer (some ⟨g2_1_0, 0, none⟩)]], 4⟩, ⟨.int .i64 11, .agg #[.func (.func 235) #[] #[.pointer (some ⟨g4_21_0, 0, none⟩)], .func (.func 230) #[] #[.pointer (some ⟨g2_0_0, 0, none⟩)]], 5⟩, ⟨.int .i64 6, .agg #[.func (.func 232) #[] #[.pointer (some ⟨g3_0_0, 0, none⟩)], .func (.func 235) #[] #[.pointer (some ⟨g4_27_0, 0, none⟩)]], 6⟩, ⟨.int .i64 7, .agg #[.func (.func 232) #[] #[.pointer (some ⟨g3_1_0, 0, none⟩)], .func (.func 235) #[] #[.pointer (some ⟨g4_32_0, 0, none⟩)]], 7⟩, ⟨.int .i64 12, .agg #[.func (.func 235) #[] #[.pointer (some ⟨g4_36_0, 0, none⟩)], .func (.func 232) #[] #[.pointer (some ⟨g3_1_0, 0, none⟩)]], 8⟩, ⟨.int .i64 13, .agg #[.func (.func 235) #[] #[.pointer (some ⟨g4_41_0, 0, none⟩)], .func (.func 232) #[] #[.pointer (some ⟨g3_0_0, 0, none⟩)]], 9⟩, ⟨.int .i64 4, .agg #[.func (.func 212) #[] #[], .func (.func 213) #[] #[]], 10⟩] 11), (g3_1_0, .cells #[.int .i64 0] 2), (g3_0_0, .cells #[.int .i64 1] 2), (g2_1_0, .cells #[.int .u64 0] 22), (g2_0_0, .cells #[.int .u64 1] 22)] z → K ⟨#[.map (some d4_0), .func (.func 230) #[] #[.pointer (some ⟨g2_0_0, 0, none⟩)], .func (.func 230) #[] #[.pointer (some ⟨g2_1_0, 0, none⟩)], .func (.func 232) #[] #[.pointer (some ⟨g3_0_0, 0, none⟩)], .func (.func 232) #[] #[.pointer (some ⟨g3_1_0, 0, none⟩)], u5, u6, u7, u8, t9, t10, t11, t12, t13, t14, t15, t16, t17, t18, t19, t20, t21, t22, t23, t24, t25, t26, t27, t28, t29, t30, t31, t32, t33, t34, t35, t36, t37, t38, t39, t40, t41, t42, t43, t44, t45], []⟩ z) (wy : World) (M : Gw.Mem w0 [(g3_1_0, .cells #[.int .i64 0] 2), (g3_0_0, .cells #[.int .i64 1] 2), (g2_1_0, .cells #[.int .u64 0] 22), (g2_0_0, .cells #[.int .u64 1] 22)] wy) :
    jumps5_r3C.wp Tryz.prog (Exit.then K Q0) ⟨#[u0, .func (.func 230) #[] #[.pointer (some ⟨g2_0_0, 0, none⟩)], .func (.func 230) #[] #[.pointer (some ⟨g2_1_0, 0, none⟩)], .func (.func 232) #[] #[.pointer (some ⟨g3_0_0, 0, none⟩)], .func (.func 232) #[] #[.pointer (some ⟨g3_1_0, 0, none⟩)], u5, u6, u7, u8, u9, u10, u11, u12, u13, u14, u15, u16, u17, u18, u19, u20, u21, u22, u23, u24, u25, u26, u27, u28, u29, u30, u31, u32, u33, u34, u35, u36, u37, u38, u39, u40, u41, u42, u43, u44, u45], []⟩ wy := by
  have HK := Lib.hid hK
  clear hK
  conv => arg 2; whnf
  refine Gw.line _ M ?_
  clear M wy
  refine Gw.ss ?_
  intro w M K' hK
  have hr := Gw.run_mk Tryz.prog 144 w
  go_simp
  clear hr
  have M1 := M.alloc (.map #[] 0)
  generalize w.heap.size = d4_0 at M1 ⊢
  refine hK.out _ _ _ M1 ?_
  clear hK K' M1 M w
  try simp only [Act.put, ptA, ptB, ptC]
  refine Gw.sw (.agg #[.func (.func 209) #[] #[], .func (.func 210) #[] #[]]) ?_
  try simp only [Act.put, ptA, ptB, ptC]
  refine Gw.ss ?_
  intro w M K' hK
  have hr := Gw.run_ins (v := .agg #[.func (.func 209) #[] #[], .func (.func 210) #[] #[]]) (n := 1) Tryz.underlying144 Tryz.underlying3 (M.obj 0) rfl
  go_simp
  refine hK.out _ _ _ (M.setO 0 _) ?_
  clear hK K' hr M w
  refine Gw.sw (.agg #[.func (.func 210) #[] #[], .func (.func 209) #[] #[]]) ?_
  try simp only [Act.put, ptA, ptB, ptC]
  refine Gw.ss ?_
  intro w M K' hK
  have hr := Gw.run_ins (v := .agg #[.func (.func 210) #[] #[], .func (.func 209) #[] #[]]) (n := 5) Tryz.underlying144 Tryz.underlying3 (M.obj 0) rfl
  go_simp
  refine hK.out _ _ _ (M.setO 0 _) ?_
  clear hK K' hr M w
  refine Gw.sw (.func (.func 230) #[] #[.pointer (some ⟨g2_0_0, 0, none⟩)]) ?_
  try simp only [Act.put, ptA, ptB, ptC]
  refine Gw.sw (.func (.func 230) #[] #[.pointer (some ⟨g2_1_0, 0, none⟩)]) ?_
  try simp only [Act.put, ptA, ptB, ptC]
  refine Gw.ss ?_
  intro w M K' hK
  go_simp
  refine (turned5 230 #[.pointer (some ⟨g2_1_0, 0, none⟩)] w).mono ?_
  rintro e w1 ⟨g4_7_0, rfl, N⟩
  refine hK.out _ _ _ (M.with N) ?_
  clear hK K' N M w1 w
  try simp only [Act.put, ptA, ptB, ptC]
  refine Gw.sw (.agg #[.func (.func 230) #[] #[.pointer (some ⟨g2_0_0, 0, none⟩)], .func (.func 235) #[] #[.pointer (some ⟨g4_7_0, 0, none⟩)]]) ?_
  try simp only [Act.put, ptA, ptB, ptC]
  refine Gw.ss ?_
  intro w M K' hK
  have hr := Gw.run_ins (v := .agg #[.func (.func 230) #[] #[.pointer (some ⟨g2_0_0, 0, none⟩)], .func (.func 235) #[] #[.pointer (some ⟨g4_7_0, 0, none⟩)]]) (n := 2) Tryz.underlying144 Tryz.underlying3 (M.obj 1) rfl
  go_simp
  refine hK.out _ _ _ (M.setO 1 _) ?_
  clear hK K' hr M w
  refine Gw.sw (.func (.func 230) #[] #[.pointer (some ⟨g2_1_0, 0, none⟩)]) ?_
  try simp only [Act.put, ptA, ptB, ptC]
  refine Gw.sw (.func (.func 230) #[] #[.pointer (some ⟨g2_0_0, 0, none⟩)]) ?_
  try simp only [Act.put, ptA, ptB, ptC]
  refine Gw.ss ?_
  intro w M K' hK
  go_simp
  refine (turned5 230 #[.pointer (some ⟨g2_0_0, 0, none⟩)] w).mono ?_
  rintro e w1 ⟨g4_12_0, rfl, N⟩
  refine hK.out _ _ _ (M.with N) ?_
  clear hK K' N M w1 w
  try simp only [Act.put, ptA, ptB, ptC]
  refine Gw.sw (.agg #[.func (.func 230) #[] #[.pointer (some ⟨g2_1_0, 0, none⟩)], .func (.func 235) #[] #[.pointer (some ⟨g4_12_0, 0, none⟩)]]) ?_
  try simp only [Act.put, ptA, ptB, ptC]
  refine Gw.ss ?_
  intro w M K' hK
  have hr := Gw.run_ins (v := .agg #[.func (.func 230) #[] #[.pointer (some ⟨g2_1_0, 0, none⟩)], .func (.func 235) #[] #[.pointer (some ⟨g4_12_0, 0, none⟩)]]) (n := 3) Tryz.underlying144 Tryz.underlying3 (M.obj 2) rfl
  go_simp
  refine hK.out _ _ _ (M.setO 2 _) ?_
  clear hK K' hr M w
  refine Gw.sw (.func (.func 230) #[] #[.pointer (some ⟨g2_0_0, 0, none⟩)]) ?_
  try simp only [Act.put, ptA, ptB, ptC]
  refine Gw.ss ?_
  intro w M K' hK
  go_simp
  refine (turned5 230 #[.pointer (some ⟨g2_0_0, 0, none⟩)] w).mono ?_
  rintro e w1 ⟨g4_16_0, rfl, N⟩
  refine hK.out _ _ _ (M.with N) ?_
  clear hK K' N M w1 w
  try simp only [Act.put, ptA, ptB, ptC]
  refine Gw.sw (.func (.func 230) #[] #[.pointer (some ⟨g2_1_0, 0, none⟩)]) ?_
  try simp only [Act.put, ptA, ptB, ptC]
  refine Gw.sw (.agg #[.func (.func 235) #[] #[.pointer (some ⟨g4_16_0, 0, none⟩)], .func (.func 230) #[] #[.pointer (some ⟨g2_1_0, 0, none⟩)]]) ?_
  try simp only [Act.put, ptA, ptB, ptC]
  refine Gw.ss ?_
  intro w M K' hK
  have hr := Gw.run_ins (v := .agg #[.func (.func 235) #[] #[.pointer (some ⟨g4_16_0, 0, none⟩)], .func (.func 230) #[] #[.pointer (some ⟨g2_1_0, 0, none⟩)]]) (n := 10) Tryz.underlying144 Tryz.underlying3 (M.obj 3) rfl
  go_simp
  refine hK.out _ _ _ (M.setO 3 _) ?_
  clear hK K' hr M w
  refine Gw.sw (.func (.func 230) #[] #[.pointer (some ⟨g2_1_0, 0, none⟩)]) ?_
  try simp only [Act.put, ptA, ptB, ptC]
  refine Gw.ss ?_
  intro w M K' hK
  go_simp
  refine (turned5 230 #[.pointer (some ⟨g2_1_0, 0, none⟩)] w).mono ?_
  rintro e w1 ⟨g4_21_0, rfl, N⟩
  refine hK.out _ _ _ (M.with N) ?_
  clear hK K' N M w1 w
  try simp only [Act.put, ptA, ptB, ptC]
  refine Gw.sw (.func (.func 230) #[] #[.pointer (some ⟨g2_0_0, 0, none⟩)]) ?_
  try simp only [Act.put, ptA, ptB, ptC]
  refine Gw.sw (.agg #[.func (.func 235) #[] #[.pointer (some ⟨g4_21_0, 0, none⟩)], .func (.func 230) #[] #[.pointer (some ⟨g2_0_0, 0, none⟩)]]) ?_
  try simp only [Act.put, ptA, ptB, ptC]
  refine Gw.ss ?_
  intro w M K' hK
  have hr := Gw.run_ins (v := .agg #[.func (.func 235) #[] #[.pointer (some ⟨g4_21_0, 0, none⟩)], .func (.func 230) #[] #[.pointer (some ⟨g2_0_0, 0, none⟩)]]) (n := 11) Tryz.underlying144 Tryz.underlying3 (M.obj 4) rfl
  go_simp
  refine hK.out _ _ _ (M.setO 4 _) ?_
  clear hK K' hr M w
  refine Gw.sw (.func (.func 232) #[] #[.pointer (some ⟨g3_0_0, 0, none⟩)]) ?_
  try simp only [Act.put, ptA, ptB, ptC]
  refine Gw.sw (.func (.func 232) #[] #[.pointer (some ⟨g3_1_0, 0, none⟩)]) ?_
  try simp only [Act.put, ptA, ptB, ptC]
  refine Gw.ss ?_
  intro w M K' hK
  go_simp
  refine (turned5 232 #[.pointer (some ⟨g3_1_0, 0, none⟩)] w).mono ?_
  rintro e w1 ⟨g4_27_0, rfl, N⟩
  refine hK.out _ _ _ (M.with N) ?_
  clear hK K' N M w1 w
  try simp only [Act.put, ptA, ptB, ptC]
  refine Gw.sw (.agg #[.func (.func 232) #[] #[.pointer (some ⟨g3_0_0, 0, none⟩)], .func (.func 235) #[] #[.pointer (some ⟨g4_27_0, 0, none⟩)]]) ?_
  try simp only [Act.put, ptA, ptB, ptC]
  refine Gw.ss ?_
  intro w M K' hK
  have hr := Gw.run_ins (v := .agg #[.func (.func 232) #[] #[.pointer (some ⟨g3_0_0, 0, none⟩)], .func (.func 235) #[] #[.pointer (some ⟨g4_27_0, 0, none⟩)]]) (n := 6) Tryz.underlying144 Tryz.underlying3 (M.obj 5) rfl
  go_simp
  refine hK.out _ _ _ (M.setO 5 _) ?_
  clear hK K' hr M w
  refine Gw.sw (.func (.func 232) #[] #[.pointer (some ⟨g3_1_0, 0, none⟩)]) ?_
  try simp only [Act.put, ptA, ptB, ptC]
  refine Gw.sw (.func (.func 232) #[] #[.pointer (some ⟨g3_0_0, 0, none⟩)]) ?_
  try simp only [Act.put, ptA, ptB, ptC]
  refine Gw.ss ?_
  intro w M K' hK
  go_simp
  refine (turned5 232 #[.pointer (some ⟨g3_0_0, 0, none⟩)] w).mono ?_
  rintro e w1 ⟨g4_32_0, rfl, N⟩
  refine hK.out _ _ _ (M.with N) ?_
  clear hK K' N M w1 w
  try simp only [Act.put, ptA, ptB, ptC]
  refine Gw.sw (.agg #[.func (.func 232) #[] #[.pointer (some ⟨g3_1_0, 0, none⟩)], .func (.func 235) #[] #[.pointer (some ⟨g4_32_0, 0, none⟩)]]) ?_
  try simp only [Act.put, ptA, ptB, ptC]
  refine Gw.ss ?_
  intro w M K' hK
  have hr := Gw.run_ins (v := .agg #[.func (.func 232) #[] #[.pointer (some ⟨g3_1_0, 0, none⟩)], .func (.func 235) #[] #[.pointer (some ⟨g4_32_0, 0, none⟩)]]) (n := 7) Tryz.underlying144 Tryz.underlying3 (M.obj 6) rfl
  go_simp
  refine hK.out _ _ _ (M.setO 6 _) ?_
  clear hK K' hr M w
  refine Gw.sw (.func (.func 232) #[] #[.pointer (some ⟨g3_0_0, 0, none⟩)]) ?_
  try simp only [Act.put, ptA, ptB, ptC]
  refine Gw.ss ?_
  intro w M K' hK
  go_simp
  refine (turned5 232 #[.pointer (some ⟨g3_0_0, 0, none⟩)] w).mono ?_
  rintro e w1 ⟨g4_36_0, rfl, N⟩
  refine hK.out _ _ _ (M.with N) ?_
  clear hK K' N M w1 w
  try simp only [Act.put, ptA, ptB, ptC]
  refine Gw.sw (.func (.func 232) #[] #[.pointer (some ⟨g3_1_0, 0, none⟩)]) ?_
  try simp only [Act.put, ptA, ptB, ptC]
  refine Gw.sw (.agg #[.func (.func 235) #[] #[.pointer (some ⟨g4_36_0, 0, none⟩)], .func (.func 232) #[] #[.pointer (some ⟨g3_1_0, 0, none⟩)]]) ?_
  try simp only [Act.put, ptA, ptB, ptC]
  refine Gw.ss ?_
  intro w M K' hK
  have hr := Gw.run_ins (v := .agg #[.func (.func 235) #[] #[.pointer (some ⟨g4_36_0, 0, none⟩)], .func (.func 232) #[] #[.pointer (some ⟨g3_1_0, 0, none⟩)]]) (n := 12) Tryz.underlying144 Tryz.underlying3 (M.obj 7) rfl
  go_simp
  refine hK.out _ _ _ (M.setO 7 _) ?_
  clear hK K' hr M w
  refine Gw.sw (.func (.func 232) #[] #[.pointer (some ⟨g3_1_0, 0, none⟩)]) ?_
  try simp only [Act.put, ptA, ptB, ptC]
  refine Gw.ss ?_
  intro w M K' hK
  go_simp
  refine (turned5 232 #[.pointer (some ⟨g3_1_0, 0, none⟩)] w).mono ?_
  rintro e w1 ⟨g4_41_0, rfl, N⟩
  refine hK.out _ _ _ (M.with N) ?_
  clear hK K' N M w1 w
  try simp only [Act.put, ptA, ptB, ptC]
  refine Gw.sw (.func (.func 232) #[] #[.pointer (some ⟨g3_0_0, 0, none⟩)]) ?_
  try simp only [Act.put, ptA, ptB, ptC]
  refine Gw.sw (.agg #[.func (.func 235) #[] #[.pointer (some ⟨g4_41_0, 0, none⟩)], .func (.func 232) #[] #[.pointer (some ⟨g3_0_0, 0, none⟩)]]) ?_
  try simp only [Act.put, ptA, ptB, ptC]
  refine Gw.ss ?_
  intro w M K' hK
  have hr := Gw.run_ins (v := .agg #[.func (.func 235) #[] #[.pointer (some ⟨g4_41_0, 0, none⟩)], .func (.func 232) #[] #[.pointer (some ⟨g3_0_0, 0, none⟩)]]) (n := 13) Tryz.underlying144 Tryz.underlying3 (M.obj 8) rfl
  go_simp
  refine hK.out _ _ _ (M.setO 8 _) ?_
  clear hK K' hr M w
  refine Gw.sw (.agg #[.func (.func 212) #[] #[], .func (.func 213) #[] #[]]) ?_
  try simp only [Act.put, ptA, ptB, ptC]
  refine Gw.ss ?_
  intro w M K' hK
  have hr := Gw.run_ins (v := .agg #[.func (.func 212) #[] #[], .func (.func 213) #[] #[]]) (n := 4) Tryz.underlying144 Tryz.underlying3 (M.obj 8) rfl
  go_simp
  refine hK.out _ _ _ (M.setO 8 _) ?_
  clear hK K' hr M w
  refine Gw.sw (.map (some d4_0)) ?_
  try simp only [Act.put, ptA, ptB, ptC]
  refine Gw.sw (.map (some d4_0)) ?_
  try simp only [Act.put, ptA, ptB, ptC]
  exact fun z M => HK.out _ _ _ _ _ _ _ _ _ _ _ _ _ _ _ _ _ _ _ _ _ _ _ _ _ _ _ _ _ _ _ _ _ _ _ _ _ _ _ _ _ _ _ _ _ _ z M
set_option maxHeartbeats 4000000 in
theorem jumps5  (w : World) :
    Calls Tryz.prog 156 #[] w fun e w' => ∃ g4_41_0 g4_36_0 g4_32_0 g4_27_0 g4_21_0 g4_16_0 g4_12_0 g4_7_0 d4_0 g3_1_0 g3_0_0 g2_1_0 g2_0_0, e = .returned (.map (some d4_0)) ∧ Gw.Mem w [(g4_41_0, .cells #[.func (.func 232) #[] #[.pointer (some ⟨g3_1_0, 0, none⟩)]] 92), (g4_36_0, .cells #[.func (.func 232) #[] #[.pointer (some ⟨g3_0_0, 0, none⟩)]] 92), (g4_32_0, .cells #[.func (.func 232) #[] #[.pointer (some ⟨g3_0_0, 0, none⟩)]] 92), (g4_27_0, .cells #[.func (.func 232) #[] #[.pointer (some ⟨g3_1_0, 0, none⟩)]] 92), (g4_21_0, .cells #[.func (.func 230) #[] #[.pointer (some ⟨g2_1_0, 0, none⟩)]] 92), (g4_16_0, .cells #[.func (.func 230) #[] #[.pointer (some ⟨g2_0_0, 0, none⟩)]] 92), (g4_12_0, .cells #[.func (.func 230) #[] #[.pointer (some ⟨g2_0_0, 0, none⟩)]] 92), (g4_7_0, .cells #[.func (.func 230) #[] #[.pointer (some ⟨g2_1_0, 0, none⟩)]] 92), (d4_0, .map #[⟨.int .i64 1, .agg #[.func (.func 209) #[] #[], .func (.func 210) #[] #[]], 0⟩, ⟨.int .i64 5, .agg #[.func (.func 210) #[] #[], .func (.func 209) #[] #[]], 1⟩, ⟨.int .i64 2, .agg #[.func (.func 230) #[] #[.pointer (some ⟨g2_0_0, 0, none⟩)], .func (.func 235) #[] #[.pointer (some ⟨g4_7_0, 0, none⟩)]], 2⟩, ⟨.int .i64 3, .agg #[.func (.func 230) #[] #[.pointer (some ⟨g2_1_0, 0, none⟩)], .func (.func 235) #[] #[.pointer (some ⟨g4_12_0, 0, none⟩)]], 3⟩, ⟨.int .i64 10, .agg #[.func (.func 235) #[] #[.pointer (some ⟨g4_16_0, 0, none⟩)], .func (.func 230) #[] #[.pointer (some ⟨g2_1_0, 0, none⟩)]], 4⟩, ⟨.int .i64 11, .agg #[.func (.func 235) #[] #[.pointer (some ⟨g4_21_0, 0, none⟩)], .func (.func 230) #[] #[.pointer (some ⟨g2_0_0, 0, none⟩)]], 5⟩, ⟨.int .i64 6, .agg #[.func (.func 232) #[] #[.pointer (some ⟨g3_0_0, 0, none⟩)], .func (.func 235) #[] #[.pointer (some ⟨g4_27_0, 0, none⟩)]], 6⟩, ⟨.int .i64 7, .agg #[.func (.func 232) #[] #[.pointer (some ⟨g3_1_0, 0, none⟩)], .func (.func 235) #[] #[.pointer (some ⟨g4_32_0, 0, none⟩)]], 7⟩, ⟨.int .i64 12, .agg #[.func (.func 235) #[] #[.pointer (some ⟨g4_36_0, 0, none⟩)], .func (.func 232) #[] #[.pointer (some ⟨g3_1_0, 0, none⟩)]], 8⟩, ⟨.int .i64 13, .agg #[.func (.func 235) #[] #[.pointer (some ⟨g4_41_0, 0, none⟩)], .func (.func 232) #[] #[.pointer (some ⟨g3_0_0, 0, none⟩)]], 9⟩, ⟨.int .i64 4, .agg #[.func (.func 212) #[] #[], .func (.func 213) #[] #[]], 10⟩] 11), (g3_1_0, .cells #[.int .i64 0] 2), (g3_0_0, .cells #[.int .i64 1] 2), (g2_1_0, .cells #[.int .u64 0] 22), (g2_0_0, .cells #[.int .u64 1] 22)] w' := by
  go_enter Tryz.func156, Tryz.ntmps156
  have M := Gw.Mem.nil w
  refine wp_seq (jumps5_r0  (fun _ _ d _ _ h => by cases d <;> exact h) ?_ _ M)
  clear M
  intro _ z1 M
  refine wp_seq (jumps5_r1  (fun _ _ d _ _ h => by cases d <;> exact h) ?_ _ M)
  clear M
  intro _ _ g2_0_0 g2_1_0 z2 M
  refine wp_seq (jumps5_r2  (fun _ _ d _ _ h => by cases d <;> exact h) ?_ _ M)
  clear M
  intro _ _ g3_0_0 g3_1_0 z3 M
  refine wp_seq (jumps5_r3  (fun _ _ d _ _ h => by cases d <;> exact h) ?_ _ M)
  clear M
  intro _ _ _ _ _ _ _ _ _ _ _ _ _ _ _ _ _ _ _ _ _ _ _ _ _ _ _ _ _ _ _ _ _ _ _ _ _ d4_0 g4_7_0 g4_12_0 g4_16_0 g4_21_0 g4_27_0 g4_32_0 g4_36_0 g4_41_0 z4 M
  refine wp_ret ?_
  try simp only [Exit.inBlock, Exit.then]
  refine bodyPost_ret (by simp [results, Tryz.results156, go_sem]; try rfl) rfl ?_
  exact ⟨_, _, _, _, _, _, _, _, _, _, _, _, _, rfl, M⟩
end Go.Proofs.YtcimihckhobniaaGreat.Sc
