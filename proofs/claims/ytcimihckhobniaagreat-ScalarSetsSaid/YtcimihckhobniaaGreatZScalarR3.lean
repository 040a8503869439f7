/-
  What the document's layer 5 tells: contracts, third part: parts that teach one another. Conditions: scalars may be.
-/
import Derived.Test.YtcimihckhobniaaGreatZM23
import Derived.Test.YtcimihckhobniaaGreatZM2
namespace Go.Proofs.YtcimihckhobniaaGreat.Sc
open Go.RowKit Tn Ow Sp
set_option linter.unusedVariables false
set_option linter.unusedSimpArgs false
set_option maxRecDepth 100000
noncomputable def once1C : Code := (Tryz.f42.body.bind (Rg.findR 1)).getD .skip
set_option maxHeartbeats 20000000 in
theorem once1 {K : Act → World → Prop} {Q0 : Exit → Act → World → Prop} {ga : Nat} {x : C} {u0 u2 u3 u4 u5 u6 u7 u8 u9 u10 u11 u12 u13 u14 u15 u16 u17 u18 u19 u20 u21 u22 u23 u24 u25 u26 u27 u28 u29 u30 u31 u32 u33 u34 u35 u36 u37 u38 u39 u40 u41 u42 u43 u44 u45 u46 u47 u48 u49 u50 u51 u52 u53 u54 u55 u56 u57 u58 u59 u60 u61 u62 u63 u64 u65 u66 u67 u68 u69 u70 u71 u72 u73 : Value} {y : World}
    (hQ : ∀ c a d v w, Q0 (.panic c) (Act.put a d v) w → Q0 (.panic c) a w) (h0 : okS x.s) (c_0 : y.cell? ⟨ga, 2, none⟩ = some (.int .u64 x.u.lo)) (c_1 : y.cell? ⟨ga, 3, none⟩ = some (.int .u64 x.u.hi)) (c_2 : y.cell? ⟨ga, 4, none⟩ = some (.int .i64 x.s.lo)) (c_3 : y.cell? ⟨ga, 5, none⟩ = some (.int .i64 x.s.hi))
    (hK : ∀ (t13 t14 t15 t16 t17 t18 t12 t19 t20 : Value) (z : World) (d : Nat), Below y.heap.size y z → y.heap.size ≤ d → Bk z d 26 #[.int .u64 (meetE x.u (toU x.s)).lo, .int .u64 (meetE x.u (toU x.s)).hi] → K ⟨#[u0, .pointer (some ⟨ga, 0, none⟩), u2, u3, .pointer (some ⟨d, 0, none⟩), .bool (metE x.u (toU x.s)), u6, u7, u8, u9, u10, u11, t12, t13, t14, t15, t16, t17, t18, t19, t20, u21, u22, u23, u24, u25, u26, u27, u28, u29, u30, u31, u32, u33, u34, u35, u36, u37, u38, u39, u40, u41, u42, u43, u44, u45, u46, u47, u48, u49, u50, u51, u52, u53, u54, u55, u56, u57, u58, u59, u60, u61, u62, u63, u64, u65, u66, u67, u68, u69, u70, u71, u72, u73], []⟩ z) :
    once1C.wp Tryz.prog (Exit.then K Q0) ⟨#[u0, .pointer (some ⟨ga, 0, none⟩), u2, u3, u4, u5, u6, u7, u8, u9, u10, u11, u12, u13, u14, u15, u16, u17, u18, u19, u20, u21, u22, u23, u24, u25, u26, u27, u28, u29, u30, u31, u32, u33, u34, u35, u36, u37, u38, u39, u40, u41, u42, u43, u44, u45, u46, u47, u48, u49, u50, u51, u52, u53, u54, u55, u56, u57, u58, u59, u60, u61, u62, u63, u64, u65, u66, u67, u68, u69, u70, u71, u72, u73], []⟩ y := by
  have HK := Lib.hid hK
  clear hK
  have hq : ∀ c a d v w, Exit.then K Q0 (.panic c) (Act.put a d v) w → Exit.then K Q0 (.panic c) a w := hQ
  conv => arg 2; whnf
  refine wp_region_held_drew (S := fun w' => w'.cell? ⟨ga, 2, none⟩ = some (.int .u64 x.u.lo) ∧ w'.cell? ⟨ga, 3, none⟩ = some (.int .u64 x.u.hi) ∧ w'.cell? ⟨ga, 4, none⟩ = some (.int .i64 x.s.lo) ∧ w'.cell? ⟨ga, 5, none⟩ = some (.int .i64 x.s.hi) ∧ Below y.heap.size y w') (by kernel_rfl) ⟨c_0, c_1, c_2, c_3, (Below.refl _ _).drew⟩ (fun hg => ?_)
  generalize y.drew = z0 at *
  clear c_0 c_1 c_2 c_3
  refine tq 0 ?_ rfl (by kernel_rfl) (fun c a w => hq c a _ _ w) (by rfl) hg ?_ ?_; rotate_left
  · intro w9 h; go_simp; try with_reducible rfl
  simp only [Act.put, ptA, ptB, ptC]
  refine tq 1 ?_ rfl (by kernel_rfl) (fun c a w => hq c a _ _ w) (by rfl) hg ?_ ?_; rotate_left
  · intro w9 h; go_simp; try with_reducible rfl
  simp only [Act.put, ptA, ptB, ptC]
  refine tq 2 ?_ rfl (by kernel_rfl) (fun c a w => hq c a _ _ w) (by rfl) hg ?_ ?_; rotate_left
  · intro w9 h; go_simp; try with_reducible rfl
  simp only [Act.put, ptA, ptB, ptC]
  refine tq 3 ?_ rfl (by kernel_rfl) (fun c a w => hq c a _ _ w) (by rfl) hg ?_ ?_; rotate_left
  · intro w9 h; go_simp; try with_reducible rfl
  simp only [Act.put, ptA, ptB, ptC]
  refine wpAnyH_ready (rs := [4, 9]) (by kernel_rfl) (by simp) ?_
  refine tr 4 rfl (fun K9 hK => ?_) (tr 9 rfl (fun K9 hK => ?_) AllReadyH.nil)
  · go_simp
    (go_at_call 108; with_reducible refine (rtou_any x.s h0 _).mono ?_; rintro e z0c ⟨rfl, qb⟩)
    refine hK.out _ _ (Rg.kp4 (Nat.le_refl _) qb hg) (fun hgc => ?_)
    clear hK K9 qb hg
    refine wpAnyH_ready (rs := [5, 9]) (by kernel_rfl) (by simp) ?_
    refine tr 5 rfl (fun K9 hK => ?_) (tr 9 rfl (fun K9 hK => ?_) AllReadyH.nil)
    · go_simp
      (go_at_call 107; with_reducible refine (rumeet_any x.u (toU x.s) _).mono ?_; rintro e z0cc ⟨rfl, qb⟩)
      refine hK.out _ _ (Rg.kp4 (Nat.le_refl _) qb hgc) (fun hgcc => ?_)
      clear hK K9 qb hgc
      refine tq 6 ?_ rfl (by kernel_rfl) (fun c a w => hq c a _ _ w) (by rfl) hgcc ?_ ?_; rotate_left
      · intro w9 h; go_simp; try with_reducible rfl
      simp only [Act.put, ptA, ptB, ptC]
      refine tq 7 ?_ rfl (by kernel_rfl) (fun c a w => hq c a _ _ w) (by rfl) hgcc ?_ ?_; rotate_left
      · intro w9 h; go_simp; try with_reducible rfl
      simp only [Act.put, ptA, ptB, ptC]
      refine tq 8 ?_ rfl (by kernel_rfl) (fun c a w => hq c a _ _ w) (by rfl) hgcc ?_ ?_; rotate_left
      · intro w9 h; go_simp; try with_reducible rfl
      simp only [Act.put, ptA, ptB, ptC]
      refine tc 9 rfl (by kernel_rfl) (fun K9 hK => ?_)
      go_simp
      refine hK.out _ _ (Rg.kp4 (Nat.le_refl _) (Rg.grow1 z0cc _) hgcc) (fun hgcca => ?_)
      have BB := Bk.new z0cc 26 #[.int .u64 0, .int .u64 0]
      have hd := hgcc.2.2.2.2.size
      have ndga : ga ≠ z0cc.heap.size := Nat.ne_of_lt (World.block_lt_of_cell? _ _ hgcc.1)
      clear hK K9 hgcc
      generalize z0cc.alloc (.cells #[.int .u64 0, .int .u64 0] 26) = z0cca at *
      generalize z0cc.heap.size = d at *
      refine tc 10 rfl (by kernel_rfl) (fun K9 hK => ?_)
      have d0 := BB.cell 0
      have d1 := BB.cell 1
      have e0 := BB.frozen 0
      have e1 := BB.frozen 1
      go_simp
      refine hK.out _ _ (Rg.ks4 ndga ndga ndga ndga hd hgcca) (fun hgccas => ?_)
      replace BB := ((BB.set_ 0 (.int .u64 (meetE x.u (toU x.s)).lo)).set_ 1 (.int .u64 (meetE x.u (toU x.s)).hi))
      clear hK K9 d0 e0 d1 e1 hgcca
      refine tq 11 ?_ rfl (by kernel_rfl) (fun c a w => hq c a _ _ w) (by rfl) hgccas ?_ ?_; rotate_left
      · intro w9 h; go_simp; try with_reducible rfl
      simp only [Act.put, ptA, ptB, ptC]
      refine wpAnyH_done (by kernel_rfl) ?_ _
      exact HK.out _ _ _ _ _ _ _ _ _ _ _ hgccas.2.2.2.2 hd BB
    · go_simp
      refine hK.out _ _ (Rg.kp4 (Nat.le_refl _) (Rg.grow1 z0c _) hgc) (fun hgca => ?_)
      have BB := Bk.new z0c 26 #[.int .u64 0, .int .u64 0]
      have hd := hgc.2.2.2.2.size
      have ndga : ga ≠ z0c.heap.size := Nat.ne_of_lt (World.block_lt_of_cell? _ _ hgc.1)
      clear hK K9 hgc
      generalize z0c.alloc (.cells #[.int .u64 0, .int .u64 0] 26) = z0ca at *
      generalize z0c.heap.size = d at *
      refine tc 5 rfl (by kernel_rfl) (fun K9 hK => ?_)
      go_simp
      (go_at_call 107; with_reducible refine (rumeet_any x.u (toU x.s) _).mono ?_; rintro e z0cac ⟨rfl, qb⟩)
      refine hK.out _ _ (Rg.kp4 (Nat.le_refl _) qb hgca) (fun hgcac => ?_)
      replace BB := Rg.bkk BB qb
      clear hK K9 qb hgca
      refine tq 6 ?_ rfl (by kernel_rfl) (fun c a w => hq c a _ _ w) (by rfl) hgcac ?_ ?_; rotate_left
      · intro w9 h; go_simp; try with_reducible rfl
      simp only [Act.put, ptA, ptB, ptC]
      refine tq 7 ?_ rfl (by kernel_rfl) (fun c a w => hq c a _ _ w) (by rfl) hgcac ?_ ?_; rotate_left
      · intro w9 h; go_simp; try with_reducible rfl
      simp only [Act.put, ptA, ptB, ptC]
      refine tq 8 ?_ rfl (by kernel_rfl) (fun c a w => hq c a _ _ w) (by rfl) hgcac ?_ ?_; rotate_left
      · intro w9 h; go_simp; try with_reducible rfl
      simp only [Act.put, ptA, ptB, ptC]
      refine tc 10 rfl (by kernel_rfl) (fun K9 hK => ?_)
      have d0 := BB.cell 0
      have d1 := BB.cell 1
      have e0 := BB.frozen 0
      have e1 := BB.frozen 1
      go_simp
      refine hK.out _ _ (Rg.ks4 ndga ndga ndga ndga hd hgcac) (fun hgcacs => ?_)
      replace BB := ((BB.set_ 0 (.int .u64 (meetE x.u (toU x.s)).lo)).set_ 1 (.int .u64 (meetE x.u (toU x.s)).hi))
      clear hK K9 d0 e0 d1 e1 hgcac
      refine tq 11 ?_ rfl (by kernel_rfl) (fun c a w => hq c a _ _ w) (by rfl) hgcacs ?_ ?_; rotate_left
      · intro w9 h; go_simp; try with_reducible rfl
      simp only [Act.put, ptA, ptB, ptC]
      refine wpAnyH_done (by kernel_rfl) ?_ _
      exact HK.out _ _ _ _ _ _ _ _ _ _ _ hgcacs.2.2.2.2 hd BB
  · go_simp
    refine hK.out _ _ (Rg.kp4 (Nat.le_refl _) (Rg.grow1 z0 _) hg) (fun hga => ?_)
    have BB := Bk.new z0 26 #[.int .u64 0, .int .u64 0]
    have hd := hg.2.2.2.2.size
    have ndga : ga ≠ z0.heap.size := Nat.ne_of_lt (World.block_lt_of_cell? _ _ hg.1)
    clear hK K9 hg
    generalize z0.alloc (.cells #[.int .u64 0, .int .u64 0] 26) = z0a at *
    generalize z0.heap.size = d at *
    refine tc 4 rfl (by kernel_rfl) (fun K9 hK => ?_)
    go_simp
    (go_at_call 108; with_reducible refine (rtou_any x.s h0 _).mono ?_; rintro e z0ac ⟨rfl, qb⟩)
    refine hK.out _ _ (Rg.kp4 (Nat.le_refl _) qb hga) (fun hgac => ?_)
    replace BB := Rg.bkk BB qb
    clear hK K9 qb hga
    refine tc 5 rfl (by kernel_rfl) (fun K9 hK => ?_)
    go_simp
    (go_at_call 107; with_reducible refine (rumeet_any x.u (toU x.s) _).mono ?_; rintro e z0acc ⟨rfl, qb⟩)
    refine hK.out _ _ (Rg.kp4 (Nat.le_refl _) qb hgac) (fun hgacc => ?_)
    replace BB := Rg.bkk BB qb
    clear hK K9 qb hgac
    refine tq 6 ?_ rfl (by kernel_rfl) (fun c a w => hq c a _ _ w) (by rfl) hgacc ?_ ?_; rotate_left
    · intro w9 h; go_simp; try with_reducible rfl
    simp only [Act.put, ptA, ptB, ptC]
    refine tq 7 ?_ rfl (by kernel_rfl) (fun c a w => hq c a _ _ w) (by rfl) hgacc ?_ ?_; rotate_left
    · intro w9 h; go_simp; try with_reducible rfl
    simp only [Act.put, ptA, ptB, ptC]
    refine tq 8 ?_ rfl (by kernel_rfl) (fun c a w => hq c a _ _ w) (by rfl) hgacc ?_ ?_; rotate_left
    · intro w9 h; go_simp; try with_reducible rfl
    simp only [Act.put, ptA, ptB, ptC]
    refine tc 10 rfl (by kernel_rfl) (fun K9 hK => ?_)
    have d0 := BB.cell 0
    have d1 := BB.cell 1
    have e0 := BB.frozen 0
    have e1 := BB.frozen 1
    go_simp
    refine hK.out _ _ (Rg.ks4 ndga ndga ndga ndga hd hgacc) (fun hgaccs => ?_)
    replace BB := ((BB.set_ 0 (.int .u64 (meetE x.u (toU x.s)).lo)).set_ 1 (.int .u64 (meetE x.u (toU x.s)).hi))
    clear hK K9 d0 e0 d1 e1 hgacc
    refine tq 11 ?_ rfl (by kernel_rfl) (fun c a w => hq c a _ _ w) (by rfl) hgaccs ?_ ?_; rotate_left
    · intro w9 h; go_simp; try with_reducible rfl
    simp only [Act.put, ptA, ptB, ptC]
    refine wpAnyH_done (by kernel_rfl) ?_ _
    exact HK.out _ _ _ _ _ _ _ _ _ _ _ hgaccs.2.2.2.2 hd BB
noncomputable def once8C : Code := (Tryz.f42.body.bind (Rg.findR 8)).getD .skip
set_option maxHeartbeats 20000000 in
theorem once8 {K : Act → World → Prop} {Q0 : Exit → Act → World → Prop} {ga gu : Nat} {x : C} {p : E} {u0 u2 u3 u5 u6 u7 u8 u9 u10 u11 u12 u13 u14 u15 u16 u17 u18 u19 u20 u21 u22 u23 u24 u25 u26 u27 u28 u29 u30 u31 u32 u33 u34 u35 u36 u37 u38 u39 u40 u41 u42 u43 u44 u45 u46 u47 u48 u49 u50 u51 u52 u53 u54 u55 u56 u57 u58 u59 u60 u61 u62 u63 u64 u65 u66 u67 u68 u69 u70 u71 u72 u73 : Value} {y : World}
    (hQ : ∀ c a d v w, Q0 (.panic c) (Act.put a d v) w → Q0 (.panic c) a w) (h0 : okU p) (c_0 : y.cell? ⟨ga, 4, none⟩ = some (.int .i64 x.s.lo)) (c_1 : y.cell? ⟨ga, 5, none⟩ = some (.int .i64 x.s.hi)) (c_2 : y.cell? ⟨gu, 0, none⟩ = some (.int .u64 p.lo)) (c_3 : y.cell? ⟨gu, 1, none⟩ = some (.int .u64 p.hi))
    (hK : ∀ (t40 t41 t42 t43 t44 t39 t45 t46 : Value) (z : World) (d : Nat), Below y.heap.size y z → y.heap.size ≤ d → Bk z d 28 #[.int .i64 (meetE x.s (toS p)).lo, .int .i64 (meetE x.s (toS p)).hi] → K ⟨#[u0, .pointer (some ⟨ga, 0, none⟩), u2, u3, .pointer (some ⟨gu, 0, none⟩), u5, u6, u7, .pointer (some ⟨d, 0, none⟩), .bool (metE x.s (toS p)), u10, u11, u12, u13, u14, u15, u16, u17, u18, u19, u20, u21, u22, u23, u24, u25, u26, u27, u28, u29, u30, u31, u32, u33, u34, u35, u36, u37, u38, t39, t40, t41, t42, t43, t44, t45, t46, u47, u48, u49, u50, u51, u52, u53, u54, u55, u56, u57, u58, u59, u60, u61, u62, u63, u64, u65, u66, u67, u68, u69, u70, u71, u72, u73], []⟩ z) :
    once8C.wp Tryz.prog (Exit.then K Q0) ⟨#[u0, .pointer (some ⟨ga, 0, none⟩), u2, u3, .pointer (some ⟨gu, 0, none⟩), u5, u6, u7, u8, u9, u10, u11, u12, u13, u14, u15, u16, u17, u18, u19, u20, u21, u22, u23, u24, u25, u26, u27, u28, u29, u30, u31, u32, u33, u34, u35, u36, u37, u38, u39, u40, u41, u42, u43, u44, u45, u46, u47, u48, u49, u50, u51, u52, u53, u54, u55, u56, u57, u58, u59, u60, u61, u62, u63, u64, u65, u66, u67, u68, u69, u70, u71, u72, u73], []⟩ y := by
  have HK := Lib.hid hK
  clear hK
  have hq : ∀ c a d v w, Exit.then K Q0 (.panic c) (Act.put a d v) w → Exit.then K Q0 (.panic c) a w := hQ
  conv => arg 2; whnf
  refine wp_region_held_drew (S := fun w' => w'.cell? ⟨ga, 4, none⟩ = some (.int .i64 x.s.lo) ∧ w'.cell? ⟨ga, 5, none⟩ = some (.int .i64 x.s.hi) ∧ w'.cell? ⟨gu, 0, none⟩ = some (.int .u64 p.lo) ∧ w'.cell? ⟨gu, 1, none⟩ = some (.int .u64 p.hi) ∧ Below y.heap.size y w') (by kernel_rfl) ⟨c_0, c_1, c_2, c_3, (Below.refl _ _).drew⟩ (fun hg => ?_)
  generalize y.drew = z0 at *
  clear c_0 c_1 c_2 c_3
  refine tq 0 ?_ rfl (by kernel_rfl) (fun c a w => hq c a _ _ w) (by rfl) hg ?_ ?_; rotate_left
  · intro w9 h; go_simp; try with_reducible rfl
  simp only [Act.put, ptA, ptB, ptC]
  refine tq 1 ?_ rfl (by kernel_rfl) (fun c a w => hq c a _ _ w) (by rfl) hg ?_ ?_; rotate_left
  · intro w9 h; go_simp; try with_reducible rfl
  simp only [Act.put, ptA, ptB, ptC]
  refine tq 2 ?_ rfl (by kernel_rfl) (fun c a w => hq c a _ _ w) (by rfl) hg ?_ ?_; rotate_left
  · intro w9 h; go_simp; try with_reducible rfl
  simp only [Act.put, ptA, ptB, ptC]
  refine wpAnyH_ready (rs := [3, 8]) (by kernel_rfl) (by simp) ?_
  refine tr 3 rfl (fun K9 hK => ?_) (tr 8 rfl (fun K9 hK => ?_) AllReadyH.nil)
  · go_simp
    (go_at_call 111; with_reducible refine (rtos_any p h0 _).mono ?_; rintro e z0c ⟨rfl, qb⟩)
    refine hK.out _ _ (Rg.kp4 (Nat.le_refl _) qb hg) (fun hgc => ?_)
    clear hK K9 qb hg
    refine wpAnyH_ready (rs := [4, 8]) (by kernel_rfl) (by simp) ?_
    refine tr 4 rfl (fun K9 hK => ?_) (tr 8 rfl (fun K9 hK => ?_) AllReadyH.nil)
    · go_simp
      (go_at_call 110; with_reducible refine (rsmeet_any x.s (toS p) _).mono ?_; rintro e z0cc ⟨rfl, qb⟩)
      refine hK.out _ _ (Rg.kp4 (Nat.le_refl _) qb hgc) (fun hgcc => ?_)
      clear hK K9 qb hgc
      refine tq 5 ?_ rfl (by kernel_rfl) (fun c a w => hq c a _ _ w) (by rfl) hgcc ?_ ?_; rotate_left
      · intro w9 h; go_simp; try with_reducible rfl
      simp only [Act.put, ptA, ptB, ptC]
      refine tq 6 ?_ rfl (by kernel_rfl) (fun c a w => hq c a _ _ w) (by rfl) hgcc ?_ ?_; rotate_left
      · intro w9 h; go_simp; try with_reducible rfl
      simp only [Act.put, ptA, ptB, ptC]
      refine tq 7 ?_ rfl (by kernel_rfl) (fun c a w => hq c a _ _ w) (by rfl) hgcc ?_ ?_; rotate_left
      · intro w9 h; go_simp; try with_reducible rfl
      simp only [Act.put, ptA, ptB, ptC]
      refine tc 8 rfl (by kernel_rfl) (fun K9 hK => ?_)
      go_simp
      refine hK.out _ _ (Rg.kp4 (Nat.le_refl _) (Rg.grow1 z0cc _) hgcc) (fun hgcca => ?_)
      have BB := Bk.new z0cc 28 #[.int .i64 0, .int .i64 0]
      have hd := hgcc.2.2.2.2.size
      have ndga : ga ≠ z0cc.heap.size := Nat.ne_of_lt (World.block_lt_of_cell? _ _ hgcc.1)
      have ndgu : gu ≠ z0cc.heap.size := Nat.ne_of_lt (World.block_lt_of_cell? _ _ hgcc.2.2.1)
      clear hK K9 hgcc
      generalize z0cc.alloc (.cells #[.int .i64 0, .int .i64 0] 28) = z0cca at *
      generalize z0cc.heap.size = d at *
      refine tc 9 rfl (by kernel_rfl) (fun K9 hK => ?_)
      have d0 := BB.cell 0
      have d1 := BB.cell 1
      have e0 := BB.frozen 0
      have e1 := BB.frozen 1
      go_simp
      refine hK.out _ _ (Rg.ks4 ndga ndga ndgu ndgu hd hgcca) (fun hgccas => ?_)
      replace BB := ((BB.set_ 0 (.int .i64 (meetE x.s (toS p)).lo)).set_ 1 (.int .i64 (meetE x.s (toS p)).hi))
      clear hK K9 d0 e0 d1 e1 hgcca
      refine tq 10 ?_ rfl (by kernel_rfl) (fun c a w => hq c a _ _ w) (by rfl) hgccas ?_ ?_; rotate_left
      · intro w9 h; go_simp; try with_reducible rfl
      simp only [Act.put, ptA, ptB, ptC]
      refine wpAnyH_done (by kernel_rfl) ?_ _
      exact HK.out _ _ _ _ _ _ _ _ _ _ hgccas.2.2.2.2 hd BB
    · go_simp
      refine hK.out _ _ (Rg.kp4 (Nat.le_refl _) (Rg.grow1 z0c _) hgc) (fun hgca => ?_)
      have BB := Bk.new z0c 28 #[.int .i64 0, .int .i64 0]
      have hd := hgc.2.2.2.2.size
      have ndga : ga ≠ z0c.heap.size := Nat.ne_of_lt (World.block_lt_of_cell? _ _ hgc.1)
      have ndgu : gu ≠ z0c.heap.size := Nat.ne_of_lt (World.block_lt_of_cell? _ _ hgc.2.2.1)
      clear hK K9 hgc
      generalize z0c.alloc (.cells #[.int .i64 0, .int .i64 0] 28) = z0ca at *
      generalize z0c.heap.size = d at *
      refine tc 4 rfl (by kernel_rfl) (fun K9 hK => ?_)
      go_simp
      (go_at_call 110; with_reducible refine (rsmeet_any x.s (toS p) _).mono ?_; rintro e z0cac ⟨rfl, qb⟩)
      refine hK.out _ _ (Rg.kp4 (Nat.le_refl _) qb hgca) (fun hgcac => ?_)
      replace BB := Rg.bkk BB qb
      clear hK K9 qb hgca
      refine tq 5 ?_ rfl (by kernel_rfl) (fun c a w => hq c a _ _ w) (by rfl) hgcac ?_ ?_; rotate_left
      · intro w9 h; go_simp; try with_reducible rfl
      simp only [Act.put, ptA, ptB, ptC]
      refine tq 6 ?_ rfl (by kernel_rfl) (fun c a w => hq c a _ _ w) (by rfl) hgcac ?_ ?_; rotate_left
      · intro w9 h; go_simp; try with_reducible rfl
      simp only [Act.put, ptA, ptB, ptC]
      refine tq 7 ?_ rfl (by kernel_rfl) (fun c a w => hq c a _ _ w) (by rfl) hgcac ?_ ?_; rotate_left
      · intro w9 h; go_simp; try with_reducible rfl
      simp only [Act.put, ptA, ptB, ptC]
      refine tc 9 rfl (by kernel_rfl) (fun K9 hK => ?_)
      have d0 := BB.cell 0
      have d1 := BB.cell 1
      have e0 := BB.frozen 0
      have e1 := BB.frozen 1
      go_simp
      refine hK.out _ _ (Rg.ks4 ndga ndga ndgu ndgu hd hgcac) (fun hgcacs => ?_)
      replace BB := ((BB.set_ 0 (.int .i64 (meetE x.s (toS p)).lo)).set_ 1 (.int .i64 (meetE x.s (toS p)).hi))
      clear hK K9 d0 e0 d1 e1 hgcac
      refine tq 10 ?_ rfl (by kernel_rfl) (fun c a w => hq c a _ _ w) (by rfl) hgcacs ?_ ?_; rotate_left
      · intro w9 h; go_simp; try with_reducible rfl
      simp only [Act.put, ptA, ptB, ptC]
      refine wpAnyH_done (by kernel_rfl) ?_ _
      exact HK.out _ _ _ _ _ _ _ _ _ _ hgcacs.2.2.2.2 hd BB
  · go_simp
    refine hK.out _ _ (Rg.kp4 (Nat.le_refl _) (Rg.grow1 z0 _) hg) (fun hga => ?_)
    have BB := Bk.new z0 28 #[.int .i64 0, .int .i64 0]
    have hd := hg.2.2.2.2.size
    have ndga : ga ≠ z0.heap.size := Nat.ne_of_lt (World.block_lt_of_cell? _ _ hg.1)
    have ndgu : gu ≠ z0.heap.size := Nat.ne_of_lt (World.block_lt_of_cell? _ _ hg.2.2.1)
    clear hK K9 hg
    generalize z0.alloc (.cells #[.int .i64 0, .int .i64 0] 28) = z0a at *
    generalize z0.heap.size = d at *
    refine tc 3 rfl (by kernel_rfl) (fun K9 hK => ?_)
    go_simp
    (go_at_call 111; with_reducible refine (rtos_any p h0 _).mono ?_; rintro e z0ac ⟨rfl, qb⟩)
    refine hK.out _ _ (Rg.kp4 (Nat.le_refl _) qb hga) (fun hgac => ?_)
    replace BB := Rg.bkk BB qb
    clear hK K9 qb hga
    refine tc 4 rfl (by kernel_rfl) (fun K9 hK => ?_)
    go_simp
    (go_at_call 110; with_reducible refine (rsmeet_any x.s (toS p) _).mono ?_; rintro e z0acc ⟨rfl, qb⟩)
    refine hK.out _ _ (Rg.kp4 (Nat.le_refl _) qb hgac) (fun hgacc => ?_)
    replace BB := Rg.bkk BB qb
    clear hK K9 qb hgac
    refine tq 5 ?_ rfl (by kernel_rfl) (fun c a w => hq c a _ _ w) (by rfl) hgacc ?_ ?_; rotate_left
    · intro w9 h; go_simp; try with_reducible rfl
    simp only [Act.put, ptA, ptB, ptC]
    refine tq 6 ?_ rfl (by kernel_rfl) (fun c a w => hq c a _ _ w) (by rfl) hgacc ?_ ?_; rotate_left
    · intro w9 h; go_simp; try with_reducible rfl
    simp only [Act.put, ptA, ptB, ptC]
    refine tq 7 ?_ rfl (by kernel_rfl) (fun c a w => hq c a _ _ w) (by rfl) hgacc ?_ ?_; rotate_left
    · intro w9 h; go_simp; try with_reducible rfl
    simp only [Act.put, ptA, ptB, ptC]
    refine tc 9 rfl (by kernel_rfl) (fun K9 hK => ?_)
    have d0 := BB.cell 0
    have d1 := BB.cell 1
    have e0 := BB.frozen 0
    have e1 := BB.frozen 1
    go_simp
    refine hK.out _ _ (Rg.ks4 ndga ndga ndgu ndgu hd hgacc) (fun hgaccs => ?_)
    replace BB := ((BB.set_ 0 (.int .i64 (meetE x.s (toS p)).lo)).set_ 1 (.int .i64 (meetE x.s (toS p)).hi))
    clear hK K9 d0 e0 d1 e1 hgacc
    refine tq 10 ?_ rfl (by kernel_rfl) (fun c a w => hq c a _ _ w) (by rfl) hgaccs ?_ ?_; rotate_left
    · intro w9 h; go_simp; try with_reducible rfl
    simp only [Act.put, ptA, ptB, ptC]
    refine wpAnyH_done (by kernel_rfl) ?_ _
    exact HK.out _ _ _ _ _ _ _ _ _ _ hgaccs.2.2.2.2 hd BB
noncomputable def once14C : Code := (Tryz.f42.body.bind (Rg.findR 14)).getD .skip
set_option maxHeartbeats 20000000 in
theorem once14 {K : Act → World → Prop} {Q0 : Exit → Act → World → Prop} {ga gu : Nat} {x : C} {p : E} {u0 u2 u3 u5 u6 u7 u8 u9 u10 u11 u12 u13 u14 u15 u16 u17 u18 u19 u20 u21 u22 u23 u24 u25 u26 u27 u28 u29 u30 u31 u32 u33 u34 u35 u36 u37 u38 u39 u40 u41 u42 u43 u44 u45 u46 u47 u48 u49 u50 u51 u52 u53 u54 u55 u56 u57 u58 u59 u60 u61 u62 u63 u64 u65 u66 u67 u68 u69 u70 u71 u72 u73 : Value} {y : World}
    (hQ : ∀ c a d v w, Q0 (.panic c) (Act.put a d v) w → Q0 (.panic c) a w) (h0 : mayT x.t) (h1 : okU p) (h2 : mayT (toT p)) (c_0 : y.cell? ⟨ga, 0, none⟩ = some (.int .u64 (bi x.t.v))) (c_1 : y.cell? ⟨ga, 1, none⟩ = some (.int .u64 (bi x.t.m))) (c_2 : y.cell? ⟨gu, 0, none⟩ = some (.int .u64 p.lo)) (c_3 : y.cell? ⟨gu, 1, none⟩ = some (.int .u64 p.hi))
    (hK : ∀ (t60 t61 t62 t63 t64 t59 t65 t66 : Value) (z : World) (d : Nat), Below y.heap.size y z → y.heap.size ≤ d → Bk z d 24 #[.int .u64 (bi (meetT x.t (toT p)).v), .int .u64 (bi (meetT x.t (toT p)).m)] → K ⟨#[u0, .pointer (some ⟨ga, 0, none⟩), u2, u3, .pointer (some ⟨gu, 0, none⟩), u5, u6, u7, u8, u9, .pointer (some ⟨d, 0, none⟩), .bool (meetOk x.t (toT p)), u12, u13, u14, u15, u16, u17, u18, u19, u20, u21, u22, u23, u24, u25, u26, u27, u28, u29, u30, u31, u32, u33, u34, u35, u36, u37, u38, u39, u40, u41, u42, u43, u44, u45, u46, u47, u48, u49, u50, u51, u52, u53, u54, u55, u56, u57, u58, t59, t60, t61, t62, t63, t64, t65, t66, u67, u68, u69, u70, u71, u72, u73], []⟩ z) :
    once14C.wp Tryz.prog (Exit.then K Q0) ⟨#[u0, .pointer (some ⟨ga, 0, none⟩), u2, u3, .pointer (some ⟨gu, 0, none⟩), u5, u6, u7, u8, u9, u10, u11, u12, u13, u14, u15, u16, u17, u18, u19, u20, u21, u22, u23, u24, u25, u26, u27, u28, u29, u30, u31, u32, u33, u34, u35, u36, u37, u38, u39, u40, u41, u42, u43, u44, u45, u46, u47, u48, u49, u50, u51, u52, u53, u54, u55, u56, u57, u58, u59, u60, u61, u62, u63, u64, u65, u66, u67, u68, u69, u70, u71, u72, u73], []⟩ y := by
  have HK := Lib.hid hK
  clear hK
  have hq : ∀ c a d v w, Exit.then K Q0 (.panic c) (Act.put a d v) w → Exit.then K Q0 (.panic c) a w := hQ
  conv => arg 2; whnf
  refine wp_region_held_drew (S := fun w' => w'.cell? ⟨ga, 0, none⟩ = some (.int .u64 (bi x.t.v)) ∧ w'.cell? ⟨ga, 1, none⟩ = some (.int .u64 (bi x.t.m)) ∧ w'.cell? ⟨gu, 0, none⟩ = some (.int .u64 p.lo) ∧ w'.cell? ⟨gu, 1, none⟩ = some (.int .u64 p.hi) ∧ Below y.heap.size y w') (by kernel_rfl) ⟨c_0, c_1, c_2, c_3, (Below.refl _ _).drew⟩ (fun hg => ?_)
  generalize y.drew = z0 at *
  clear c_0 c_1 c_2 c_3
  refine tq 0 ?_ rfl (by kernel_rfl) (fun c a w => hq c a _ _ w) (by rfl) hg ?_ ?_; rotate_left
  · intro w9 h; go_simp; try with_reducible rfl
  simp only [Act.put, ptA, ptB, ptC]
  refine tq 1 ?_ rfl (by kernel_rfl) (fun c a w => hq c a _ _ w) (by rfl) hg ?_ ?_; rotate_left
  · intro w9 h; go_simp; try with_reducible rfl
  simp only [Act.put, ptA, ptB, ptC]
  refine tq 2 ?_ rfl (by kernel_rfl) (fun c a w => hq c a _ _ w) (by rfl) hg ?_ ?_; rotate_left
  · intro w9 h; go_simp; try with_reducible rfl
  simp only [Act.put, ptA, ptB, ptC]
  refine wpAnyH_ready (rs := [3, 8]) (by kernel_rfl) (by simp) ?_
  refine tr 3 rfl (fun K9 hK => ?_) (tr 8 rfl (fun K9 hK => ?_) AllReadyH.nil)
  · go_simp
    (go_at_call 113; with_reducible refine (rtot_any p h1 _).mono ?_; rintro e z0c ⟨rfl, qb⟩)
    refine hK.out _ _ (Rg.kp4 (Nat.le_refl _) qb hg) (fun hgc => ?_)
    clear hK K9 qb hg
    refine wpAnyH_ready (rs := [4, 8]) (by kernel_rfl) (by simp) ?_
    refine tr 4 rfl (fun K9 hK => ?_) (tr 8 rfl (fun K9 hK => ?_) AllReadyH.nil)
    · go_simp
      (go_at_call 112; with_reducible refine (L3.refmeet_any x.t (toT p) h0 h2 _).mono ?_; rintro e z0cc ⟨rfl, qb⟩)
      refine hK.out _ _ (Rg.kp4 (Nat.le_refl _) qb hgc) (fun hgcc => ?_)
      clear hK K9 qb hgc
      refine tq 5 ?_ rfl (by kernel_rfl) (fun c a w => hq c a _ _ w) (by rfl) hgcc ?_ ?_; rotate_left
      · intro w9 h; go_simp; try with_reducible rfl
      simp only [Act.put, ptA, ptB, ptC]
      refine tq 6 ?_ rfl (by kernel_rfl) (fun c a w => hq c a _ _ w) (by rfl) hgcc ?_ ?_; rotate_left
      · intro w9 h; go_simp; try with_reducible rfl
      simp only [Act.put, ptA, ptB, ptC]
      refine tq 7 ?_ rfl (by kernel_rfl) (fun c a w => hq c a _ _ w) (by rfl) hgcc ?_ ?_; rotate_left
      · intro w9 h; go_simp; try with_reducible rfl
      simp only [Act.put, ptA, ptB, ptC]
      refine tc 8 rfl (by kernel_rfl) (fun K9 hK => ?_)
      go_simp
      refine hK.out _ _ (Rg.kp4 (Nat.le_refl _) (Rg.grow1 z0cc _) hgcc) (fun hgcca => ?_)
      have BB := Bk.new z0cc 24 #[.int .u64 0, .int .u64 0]
      have hd := hgcc.2.2.2.2.size
      have ndga : ga ≠ z0cc.heap.size := Nat.ne_of_lt (World.block_lt_of_cell? _ _ hgcc.1)
      have ndgu : gu ≠ z0cc.heap.size := Nat.ne_of_lt (World.block_lt_of_cell? _ _ hgcc.2.2.1)
      clear hK K9 hgcc
      generalize z0cc.alloc (.cells #[.int .u64 0, .int .u64 0] 24) = z0cca at *
      generalize z0cc.heap.size = d at *
      refine tc 9 rfl (by kernel_rfl) (fun K9 hK => ?_)
      have d0 := BB.cell 0
      have d1 := BB.cell 1
      have e0 := BB.frozen 0
      have e1 := BB.frozen 1
      go_simp
      refine hK.out _ _ (Rg.ks4 ndga ndga ndgu ndgu hd hgcca) (fun hgccas => ?_)
      replace BB := ((BB.set_ 0 (.int .u64 (bi (meetT x.t (toT p)).v))).set_ 1 (.int .u64 (bi (meetT x.t (toT p)).m)))
      clear hK K9 d0 e0 d1 e1 hgcca
      refine tq 10 ?_ rfl (by kernel_rfl) (fun c a w => hq c a _ _ w) (by rfl) hgccas ?_ ?_; rotate_left
      · intro w9 h; go_simp; try with_reducible rfl
      simp only [Act.put, ptA, ptB, ptC]
      refine wpAnyH_done (by kernel_rfl) ?_ _
      exact HK.out _ _ _ _ _ _ _ _ _ _ hgccas.2.2.2.2 hd BB
    · go_simp
      refine hK.out _ _ (Rg.kp4 (Nat.le_refl _) (Rg.grow1 z0c _) hgc) (fun hgca => ?_)
      have BB := Bk.new z0c 24 #[.int .u64 0, .int .u64 0]
      have hd := hgc.2.2.2.2.size
      have ndga : ga ≠ z0c.heap.size := Nat.ne_of_lt (World.block_lt_of_cell? _ _ hgc.1)
      have ndgu : gu ≠ z0c.heap.size := Nat.ne_of_lt (World.block_lt_of_cell? _ _ hgc.2.2.1)
      clear hK K9 hgc
      generalize z0c.alloc (.cells #[.int .u64 0, .int .u64 0] 24) = z0ca at *
      generalize z0c.heap.size = d at *
      refine tc 4 rfl (by kernel_rfl) (fun K9 hK => ?_)
      go_simp
      (go_at_call 112; with_reducible refine (L3.refmeet_any x.t (toT p) h0 h2 _).mono ?_; rintro e z0cac ⟨rfl, qb⟩)
      refine hK.out _ _ (Rg.kp4 (Nat.le_refl _) qb hgca) (fun hgcac => ?_)
      replace BB := Rg.bkk BB qb
      clear hK K9 qb hgca
      refine tq 5 ?_ rfl (by kernel_rfl) (fun c a w => hq c a _ _ w) (by rfl) hgcac ?_ ?_; rotate_left
      · intro w9 h; go_simp; try with_reducible rfl
      simp only [Act.put, ptA, ptB, ptC]
      refine tq 6 ?_ rfl (by kernel_rfl) (fun c a w => hq c a _ _ w) (by rfl) hgcac ?_ ?_; rotate_left
      · intro w9 h; go_simp; try with_reducible rfl
      simp only [Act.put, ptA, ptB, ptC]
      refine tq 7 ?_ rfl (by kernel_rfl) (fun c a w => hq c a _ _ w) (by rfl) hgcac ?_ ?_; rotate_left
      · intro w9 h; go_simp; try with_reducible rfl
      simp only [Act.put, ptA, ptB, ptC]
      refine tc 9 rfl (by kernel_rfl) (fun K9 hK => ?_)
      have d0 := BB.cell 0
      have d1 := BB.cell 1
      have e0 := BB.frozen 0
      have e1 := BB.frozen 1
      go_simp
      refine hK.out _ _ (Rg.ks4 ndga ndga ndgu ndgu hd hgcac) (fun hgcacs => ?_)
      replace BB := ((BB.set_ 0 (.int .u64 (bi (meetT x.t (toT p)).v))).set_ 1 (.int .u64 (bi (meetT x.t (toT p)).m)))
      clear hK K9 d0 e0 d1 e1 hgcac
      refine tq 10 ?_ rfl (by kernel_rfl) (fun c a w => hq c a _ _ w) (by rfl) hgcacs ?_ ?_; rotate_left
      · intro w9 h; go_simp; try with_reducible rfl
      simp only [Act.put, ptA, ptB, ptC]
      refine wpAnyH_done (by kernel_rfl) ?_ _
      exact HK.out _ _ _ _ _ _ _ _ _ _ hgcacs.2.2.2.2 hd BB
  · go_simp
    refine hK.out _ _ (Rg.kp4 (Nat.le_refl _) (Rg.grow1 z0 _) hg) (fun hga => ?_)
    have BB := Bk.new z0 24 #[.int .u64 0, .int .u64 0]
    have hd := hg.2.2.2.2.size
    have ndga : ga ≠ z0.heap.size := Nat.ne_of_lt (World.block_lt_of_cell? _ _ hg.1)
    have ndgu : gu ≠ z0.heap.size := Nat.ne_of_lt (World.block_lt_of_cell? _ _ hg.2.2.1)
    clear hK K9 hg
    generalize z0.alloc (.cells #[.int .u64 0, .int .u64 0] 24) = z0a at *
    generalize z0.heap.size = d at *
    refine tc 3 rfl (by kernel_rfl) (fun K9 hK => ?_)
    go_simp
    (go_at_call 113; with_reducible refine (rtot_any p h1 _).mono ?_; rintro e z0ac ⟨rfl, qb⟩)
    refine hK.out _ _ (Rg.kp4 (Nat.le_refl _) qb hga) (fun hgac => ?_)
    replace BB := Rg.bkk BB qb
    clear hK K9 qb hga
    refine tc 4 rfl (by kernel_rfl) (fun K9 hK => ?_)
    go_simp
    (go_at_call 112; with_reducible refine (L3.refmeet_any x.t (toT p) h0 h2 _).mono ?_; rintro e z0acc ⟨rfl, qb⟩)
    refine hK.out _ _ (Rg.kp4 (Nat.le_refl _) qb hgac) (fun hgacc => ?_)
    replace BB := Rg.bkk BB qb
    clear hK K9 qb hgac
    refine tq 5 ?_ rfl (by kernel_rfl) (fun c a w => hq c a _ _ w) (by rfl) hgacc ?_ ?_; rotate_left
    · intro w9 h; go_simp; try with_reducible rfl
    simp only [Act.put, ptA, ptB, ptC]
    refine tq 6 ?_ rfl (by kernel_rfl) (fun c a w => hq c a _ _ w) (by rfl) hgacc ?_ ?_; rotate_left
    · intro w9 h; go_simp; try with_reducible rfl
    simp only [Act.put, ptA, ptB, ptC]
    refine tq 7 ?_ rfl (by kernel_rfl) (fun c a w => hq c a _ _ w) (by rfl) hgacc ?_ ?_; rotate_left
    · intro w9 h; go_simp; try with_reducible rfl
    simp only [Act.put, ptA, ptB, ptC]
    refine tc 9 rfl (by kernel_rfl) (fun K9 hK => ?_)
    have d0 := BB.cell 0
    have d1 := BB.cell 1
    have e0 := BB.frozen 0
    have e1 := BB.frozen 1
    go_simp
    refine hK.out _ _ (Rg.ks4 ndga ndga ndgu ndgu hd hgacc) (fun hgaccs => ?_)
    replace BB := ((BB.set_ 0 (.int .u64 (bi (meetT x.t (toT p)).v))).set_ 1 (.int .u64 (bi (meetT x.t (toT p)).m)))
    clear hK K9 d0 e0 d1 e1 hgacc
    refine tq 10 ?_ rfl (by kernel_rfl) (fun c a w => hq c a _ _ w) (by rfl) hgaccs ?_ ?_; rotate_left
    · intro w9 h; go_simp; try with_reducible rfl
    simp only [Act.put, ptA, ptB, ptC]
    refine wpAnyH_done (by kernel_rfl) ?_ _
    exact HK.out _ _ _ _ _ _ _ _ _ _ hgaccs.2.2.2.2 hd BB
set_option maxHeartbeats 4000000 in
theorem ronce5 (x : C) (hx : mayC x) (w : World) :
    Calls Tryz.prog 42 #[.agg #[.int .u64 (bi x.t.v), .int .u64 (bi x.t.m), .int .u64 x.u.lo, .int .u64 x.u.hi, .int .i64 x.s.lo, .int .i64 x.s.hi]] w fun e w' => e = .returned (.tuple #[.agg #[.int .u64 (bi ((onceC x).getD zeroC).t.v), .int .u64 (bi ((onceC x).getD zeroC).t.m), .int .u64 ((onceC x).getD zeroC).u.lo, .int .u64 ((onceC x).getD zeroC).u.hi, .int .i64 ((onceC x).getD zeroC).s.lo, .int .i64 ((onceC x).getD zeroC).s.hi], .bool (onceC x).isSome]) ∧ Below w.heap.size w w' := by
  obtain ⟨ht, hu, hs⟩ := hx
  go_enter Tryz.func42, Tryz.ntmps42
  go_wp2_with fail
  have X := ((Bk.new w 30 #[.int .u64 (bi x.t.v), .int .u64 (bi x.t.m), .int .u64 x.u.lo, .int .u64 x.u.hi, .int .i64 x.s.lo, .int .i64 x.s.hi]).alloc (.cells #[.int .u64 0, .int .u64 0, .int .u64 0, .int .u64 0, .int .i64 0, .int .i64 0] 30))
  have R := (Bk.new (w.alloc (.cells #[.int .u64 (bi x.t.v), .int .u64 (bi x.t.m), .int .u64 x.u.lo, .int .u64 x.u.hi, .int .i64 x.s.lo, .int .i64 x.s.hi] 30)) 30 #[.int .u64 0, .int .u64 0, .int .u64 0, .int .u64 0, .int .i64 0, .int .i64 0])
  rw [World.size_alloc] at R
  have HB : Below w.heap.size w ((w.alloc (.cells #[.int .u64 (bi x.t.v), .int .u64 (bi x.t.m), .int .u64 x.u.lo, .int .u64 x.u.hi, .int .i64 x.s.lo, .int .i64 x.s.hi] 30)).alloc (.cells #[.int .u64 0, .int .u64 0, .int .u64 0, .int .u64 0, .int .i64 0, .int .i64 0] 30)) := by go_grown
  generalize ((w.alloc (.cells #[.int .u64 (bi x.t.v), .int .u64 (bi x.t.m), .int .u64 x.u.lo, .int .u64 x.u.hi, .int .i64 x.s.lo, .int .i64 x.s.hi] 30)).alloc (.cells #[.int .u64 0, .int .u64 0, .int .u64 0, .int .u64 0, .int .i64 0, .int .i64 0] 30)) = w0 at *
  replace X := Lib.hid X
  replace R := Lib.hid R
  replace HB := Lib.hid HB
  have neXR : w.heap.size ≠ w.heap.size + 1 := by omega
  refine once1 (fun _ _ d _ _ h => by cases d <;> exact h) hs (X.out.cell 2) (X.out.cell 3) (X.out.cell 4) (X.out.cell 5) ?_
  intro t13 t14 t15 t16 t17 t18 t12 t19 t20 z1 d1 G hd NW
  try dsimp only
  have hwU : w.heap.size ≤ d1 := Nat.le_trans HB.out.size hd
  have neXU : w.heap.size ≠ d1 := Nat.ne_of_lt (Nat.lt_of_lt_of_le X.out.lt hd)
  have neRU : w.heap.size + 1 ≠ d1 := Nat.ne_of_lt (Nat.lt_of_lt_of_le R.out.lt hd)
  replace X := Lib.hid (Rg.bkk X.out G)
  replace R := Lib.hid (Rg.bkk R.out G)
  replace HB := Lib.hid (Rg.bth HB.out G (Nat.le_refl _))
  have U := Lib.hid NW
  clear G hd NW
  cases m1 : metE x.u (toU x.s)
  · have e1 := Lib.hid (show onceC x = none by unfold onceC; rw [m1]; rfl)
    have BB := bset6 R.out
    have g0 := fun u0 u1 u2 u3 u4 u5 => (BB u0 u1 u2 u3 u4 u5).cell 0
    have g1 := fun u0 u1 u2 u3 u4 u5 => (BB u0 u1 u2 u3 u4 u5).cell 1
    have g2 := fun u0 u1 u2 u3 u4 u5 => (BB u0 u1 u2 u3 u4 u5).cell 2
    have g3 := fun u0 u1 u2 u3 u4 u5 => (BB u0 u1 u2 u3 u4 u5).cell 3
    have g4 := fun u0 u1 u2 u3 u4 u5 => (BB u0 u1 u2 u3 u4 u5).cell 4
    have g5 := fun u0 u1 u2 u3 u4 u5 => (BB u0 u1 u2 u3 u4 u5).cell 5
    have X0 := X.out.cell 0; have X1 := X.out.cell 1; have X2 := X.out.cell 2; have X3 := X.out.cell 3; have X4 := X.out.cell 4; have X5 := X.out.cell 5
    have R0 := R.out.cell 0; have R1 := R.out.cell 1; have R2 := R.out.cell 2; have R3 := R.out.cell 3; have R4 := R.out.cell 4; have R5 := R.out.cell 5
    have fR0 := R.out.frozen 0; have fR1 := R.out.frozen 1; have fR2 := R.out.frozen 2; have fR3 := R.out.frozen 3; have fR4 := R.out.frozen 4; have fR5 := R.out.frozen 5
    have U0 := U.out.cell 0; have U1 := U.out.cell 1
    have fU0 := U.out.frozen 0; have fU1 := U.out.frozen 1
    go_wp2
    refine bodyPost_ret (by simp [results, Tryz.results42, g0, g1, g2, g3, g4, g5, go_sem]; try rfl) rfl ?_
    exact ⟨by rw [e1.out]; rfl, below6 HB.out (by omega)⟩
  · skip
    have X0 := X.out.cell 0; have X1 := X.out.cell 1; have X2 := X.out.cell 2; have X3 := X.out.cell 3; have X4 := X.out.cell 4; have X5 := X.out.cell 5
    have R0 := R.out.cell 0; have R1 := R.out.cell 1; have R2 := R.out.cell 2; have R3 := R.out.cell 3; have R4 := R.out.cell 4; have R5 := R.out.cell 5
    have fR0 := R.out.frozen 0; have fR1 := R.out.frozen 1; have fR2 := R.out.frozen 2; have fR3 := R.out.frozen 3; have fR4 := R.out.frozen 4; have fR5 := R.out.frozen 5
    have U0 := U.out.cell 0; have U1 := U.out.cell 1
    have fU0 := U.out.frozen 0; have fU1 := U.out.frozen 1
    go_wp2_with fail
    clear X0 X1 X2 X3 X4 X5 R0 R1 R2 R3 R4 R5 U0 U1 fU0 fU1 fR0 fR1 fR2 fR3 fR4 fR5
    with_reducible refine (rfromt_any x.t ht _).mono ?_
    rintro e w1 ⟨rfl, qb⟩
    replace X := Lib.hid (Rg.bkk X.out qb)
    replace R := Lib.hid (Rg.bkk R.out qb)
    replace U := Lib.hid (Rg.bkk U.out qb)
    replace HB := Lib.hid (Rg.bth HB.out qb (Nat.le_refl _))
    clear qb
    have X0 := X.out.cell 0; have X1 := X.out.cell 1; have X2 := X.out.cell 2; have X3 := X.out.cell 3; have X4 := X.out.cell 4; have X5 := X.out.cell 5
    have R0 := R.out.cell 0; have R1 := R.out.cell 1; have R2 := R.out.cell 2; have R3 := R.out.cell 3; have R4 := R.out.cell 4; have R5 := R.out.cell 5
    have fR0 := R.out.frozen 0; have fR1 := R.out.frozen 1; have fR2 := R.out.frozen 2; have fR3 := R.out.frozen 3; have fR4 := R.out.frozen 4; have fR5 := R.out.frozen 5
    have U0 := U.out.cell 0; have U1 := U.out.cell 1
    have fU0 := U.out.frozen 0; have fU1 := U.out.frozen 1
    have nX0 := ((X.out.alloc (.cells #[.int .u64 (fromU x.t).lo, .int .u64 (fromU x.t).hi] 26)).alloc (.cells #[.int .i64 (fromS x.t).lo, .int .i64 (fromS x.t).hi] 28)).cell 0
    have nX1 := ((X.out.alloc (.cells #[.int .u64 (fromU x.t).lo, .int .u64 (fromU x.t).hi] 26)).alloc (.cells #[.int .i64 (fromS x.t).lo, .int .i64 (fromS x.t).hi] 28)).cell 1
    have nX2 := ((X.out.alloc (.cells #[.int .u64 (fromU x.t).lo, .int .u64 (fromU x.t).hi] 26)).alloc (.cells #[.int .i64 (fromS x.t).lo, .int .i64 (fromS x.t).hi] 28)).cell 2
    have nX3 := ((X.out.alloc (.cells #[.int .u64 (fromU x.t).lo, .int .u64 (fromU x.t).hi] 26)).alloc (.cells #[.int .i64 (fromS x.t).lo, .int .i64 (fromS x.t).hi] 28)).cell 3
    have nX4 := ((X.out.alloc (.cells #[.int .u64 (fromU x.t).lo, .int .u64 (fromU x.t).hi] 26)).alloc (.cells #[.int .i64 (fromS x.t).lo, .int .i64 (fromS x.t).hi] 28)).cell 4
    have nX5 := ((X.out.alloc (.cells #[.int .u64 (fromU x.t).lo, .int .u64 (fromU x.t).hi] 26)).alloc (.cells #[.int .i64 (fromS x.t).lo, .int .i64 (fromS x.t).hi] 28)).cell 5
    have nR0 := ((R.out.alloc (.cells #[.int .u64 (fromU x.t).lo, .int .u64 (fromU x.t).hi] 26)).alloc (.cells #[.int .i64 (fromS x.t).lo, .int .i64 (fromS x.t).hi] 28)).cell 0
    have nR1 := ((R.out.alloc (.cells #[.int .u64 (fromU x.t).lo, .int .u64 (fromU x.t).hi] 26)).alloc (.cells #[.int .i64 (fromS x.t).lo, .int .i64 (fromS x.t).hi] 28)).cell 1
    have nR2 := ((R.out.alloc (.cells #[.int .u64 (fromU x.t).lo, .int .u64 (fromU x.t).hi] 26)).alloc (.cells #[.int .i64 (fromS x.t).lo, .int .i64 (fromS x.t).hi] 28)).cell 2
    have nR3 := ((R.out.alloc (.cells #[.int .u64 (fromU x.t).lo, .int .u64 (fromU x.t).hi] 26)).alloc (.cells #[.int .i64 (fromS x.t).lo, .int .i64 (fromS x.t).hi] 28)).cell 3
    have nR4 := ((R.out.alloc (.cells #[.int .u64 (fromU x.t).lo, .int .u64 (fromU x.t).hi] 26)).alloc (.cells #[.int .i64 (fromS x.t).lo, .int .i64 (fromS x.t).hi] 28)).cell 4
    have nR5 := ((R.out.alloc (.cells #[.int .u64 (fromU x.t).lo, .int .u64 (fromU x.t).hi] 26)).alloc (.cells #[.int .i64 (fromS x.t).lo, .int .i64 (fromS x.t).hi] 28)).cell 5
    have nU0 := ((U.out.alloc (.cells #[.int .u64 (fromU x.t).lo, .int .u64 (fromU x.t).hi] 26)).alloc (.cells #[.int .i64 (fromS x.t).lo, .int .i64 (fromS x.t).hi] 28)).cell 0
    have nU1 := ((U.out.alloc (.cells #[.int .u64 (fromU x.t).lo, .int .u64 (fromU x.t).hi] 26)).alloc (.cells #[.int .i64 (fromS x.t).lo, .int .i64 (fromS x.t).hi] 28)).cell 1
    go_upto_region 5 with (fail)
    clear X0 X1 X2 X3 X4 X5 R0 R1 R2 R3 R4 R5 U0 U1 fU0 fU1 fR0 fR1 fR2 fR3 fR4 fR5
    clear nX0 nX1 nX2 nX3 nX4 nX5 nR0 nR1 nR2 nR3 nR4 nR5 nU0 nU1
    have hwP : w.heap.size ≤ w1.heap.size := by have := HB.out.size; omega
    have neXP : w.heap.size ≠ w1.heap.size := by have := X.out.lt; omega
    have neRP : w.heap.size + 1 ≠ w1.heap.size := by have := R.out.lt; omega
    have neUP : d1 ≠ w1.heap.size := by have := U.out.lt; omega
    have hwQ : w.heap.size ≤ w1.heap.size + 1 := by have := HB.out.size; omega
    have neXQ : w.heap.size ≠ w1.heap.size + 1 := by have := X.out.lt; omega
    have neRQ : w.heap.size + 1 ≠ w1.heap.size + 1 := by have := R.out.lt; omega
    have neUQ : d1 ≠ w1.heap.size + 1 := by have := U.out.lt; omega
    have nePQ : w1.heap.size ≠ w1.heap.size + 1 := by omega
    replace X := Lib.hid ((X.out.alloc (.cells #[.int .u64 (fromU x.t).lo, .int .u64 (fromU x.t).hi] 26)).alloc (.cells #[.int .i64 (fromS x.t).lo, .int .i64 (fromS x.t).hi] 28))
    replace R := Lib.hid ((R.out.alloc (.cells #[.int .u64 (fromU x.t).lo, .int .u64 (fromU x.t).hi] 26)).alloc (.cells #[.int .i64 (fromS x.t).lo, .int .i64 (fromS x.t).hi] 28))
    replace U := Lib.hid ((U.out.alloc (.cells #[.int .u64 (fromU x.t).lo, .int .u64 (fromU x.t).hi] 26)).alloc (.cells #[.int .i64 (fromS x.t).lo, .int .i64 (fromS x.t).hi] 28))
    have P := ((Bk.new w1 26 #[.int .u64 (fromU x.t).lo, .int .u64 (fromU x.t).hi]).alloc (.cells #[.int .i64 (fromS x.t).lo, .int .i64 (fromS x.t).hi] 28))
    replace P := Lib.hid P
    have Q := (Bk.new (w1.alloc (.cells #[.int .u64 (fromU x.t).lo, .int .u64 (fromU x.t).hi] 26)) 28 #[.int .i64 (fromS x.t).lo, .int .i64 (fromS x.t).hi])
    rw [World.size_alloc] at Q
    replace Q := Lib.hid Q
    replace HB := Lib.hid ((HB.out.alloc HB.out.size (.cells #[.int .u64 (fromU x.t).lo, .int .u64 (fromU x.t).hi] 26)).alloc (HB.out.alloc HB.out.size (.cells #[.int .u64 (fromU x.t).lo, .int .u64 (fromU x.t).hi] 26)).size (.cells #[.int .i64 (fromS x.t).lo, .int .i64 (fromS x.t).hi] 28))
    generalize ((w1.alloc (.cells #[.int .u64 (fromU x.t).lo, .int .u64 (fromU x.t).hi] 26)).alloc (.cells #[.int .i64 (fromS x.t).lo, .int .i64 (fromS x.t).hi] 28)) = z2 at *
    have X0 := X.out.cell 0; have X1 := X.out.cell 1; have X2 := X.out.cell 2; have X3 := X.out.cell 3; have X4 := X.out.cell 4; have X5 := X.out.cell 5
    have R0 := R.out.cell 0; have R1 := R.out.cell 1; have R2 := R.out.cell 2; have R3 := R.out.cell 3; have R4 := R.out.cell 4; have R5 := R.out.cell 5
    have fR0 := R.out.frozen 0; have fR1 := R.out.frozen 1; have fR2 := R.out.frozen 2; have fR3 := R.out.frozen 3; have fR4 := R.out.frozen 4; have fR5 := R.out.frozen 5
    have U0 := U.out.cell 0; have U1 := U.out.cell 1
    have fU0 := U.out.frozen 0; have fU1 := U.out.frozen 1
    have P0 := P.out.cell 0; have P1 := P.out.cell 1
    have fP0 := P.out.frozen 0; have fP1 := P.out.frozen 1
    have Q0 := Q.out.cell 0; have Q1 := Q.out.cell 1
    have fQ0 := Q.out.frozen 0; have fQ1 := Q.out.frozen 1
    go_wp2_with fail
    clear X0 X1 X2 X3 X4 X5 R0 R1 R2 R3 R4 R5 U0 U1 P0 P1 Q0 Q1 fU0 fU1 fR0 fR1 fR2 fR3 fR4 fR5 fQ0 fQ1 fP0 fP1
    with_reducible refine (rumeet_any (meetE x.u (toU x.s)) (fromU x.t) _).mono ?_
    rintro e w2 ⟨rfl, qb⟩
    replace X := Lib.hid (Rg.bkk X.out qb)
    replace R := Lib.hid (Rg.bkk R.out qb)
    replace U := Lib.hid (Rg.bkk U.out qb)
    replace P := Lib.hid (Rg.bkk P.out qb)
    replace Q := Lib.hid (Rg.bkk Q.out qb)
    replace HB := Lib.hid (Rg.bth HB.out qb (Nat.le_refl _))
    clear qb
    have X0 := X.out.cell 0; have X1 := X.out.cell 1; have X2 := X.out.cell 2; have X3 := X.out.cell 3; have X4 := X.out.cell 4; have X5 := X.out.cell 5
    have R0 := R.out.cell 0; have R1 := R.out.cell 1; have R2 := R.out.cell 2; have R3 := R.out.cell 3; have R4 := R.out.cell 4; have R5 := R.out.cell 5
    have fR0 := R.out.frozen 0; have fR1 := R.out.frozen 1; have fR2 := R.out.frozen 2; have fR3 := R.out.frozen 3; have fR4 := R.out.frozen 4; have fR5 := R.out.frozen 5
    have U0 := U.out.cell 0; have U1 := U.out.cell 1
    have fU0 := U.out.frozen 0; have fU1 := U.out.frozen 1
    have P0 := P.out.cell 0; have P1 := P.out.cell 1
    have fP0 := P.out.frozen 0; have fP1 := P.out.frozen 1
    have Q0 := Q.out.cell 0; have Q1 := Q.out.cell 1
    have fQ0 := Q.out.frozen 0; have fQ1 := Q.out.frozen 1
    go_upto_region 6 with (fail)
    clear X0 X1 X2 X3 X4 X5 R0 R1 R2 R3 R4 R5 U0 U1 P0 P1 Q0 Q1 fU0 fU1 fR0 fR1 fR2 fR3 fR4 fR5 fQ0 fQ1 fP0 fP1
    replace X := Lib.hid ((X.out.far (p := ⟨d1, 0, none⟩) neXU (.int .u64 (meetE (meetE x.u (toU x.s)) (fromU x.t)).lo)).far (p := ⟨d1, 1, none⟩) neXU (.int .u64 (meetE (meetE x.u (toU x.s)) (fromU x.t)).hi))
    replace R := Lib.hid ((R.out.far (p := ⟨d1, 0, none⟩) neRU (.int .u64 (meetE (meetE x.u (toU x.s)) (fromU x.t)).lo)).far (p := ⟨d1, 1, none⟩) neRU (.int .u64 (meetE (meetE x.u (toU x.s)) (fromU x.t)).hi))
    replace P := Lib.hid ((P.out.far (p := ⟨d1, 0, none⟩) (Ne.symm neUP) (.int .u64 (meetE (meetE x.u (toU x.s)) (fromU x.t)).lo)).far (p := ⟨d1, 1, none⟩) (Ne.symm neUP) (.int .u64 (meetE (meetE x.u (toU x.s)) (fromU x.t)).hi))
    replace Q := Lib.hid ((Q.out.far (p := ⟨d1, 0, none⟩) (Ne.symm neUQ) (.int .u64 (meetE (meetE x.u (toU x.s)) (fromU x.t)).lo)).far (p := ⟨d1, 1, none⟩) (Ne.symm neUQ) (.int .u64 (meetE (meetE x.u (toU x.s)) (fromU x.t)).hi))
    replace U := Lib.hid ((U.out.set_ 0 (.int .u64 (meetE (meetE x.u (toU x.s)) (fromU x.t)).lo)).set_ 1 (.int .u64 (meetE (meetE x.u (toU x.s)) (fromU x.t)).hi))
    replace HB := Lib.hid ((HB.out.setCell (p := ⟨d1, 0, none⟩) hwU (.int .u64 (meetE (meetE x.u (toU x.s)) (fromU x.t)).lo)).setCell (p := ⟨d1, 1, none⟩) hwU (.int .u64 (meetE (meetE x.u (toU x.s)) (fromU x.t)).hi))
    generalize ((w2.setCell ⟨d1, 0, none⟩ (.int .u64 (meetE (meetE x.u (toU x.s)) (fromU x.t)).lo)).setCell ⟨d1, 1, none⟩ (.int .u64 (meetE (meetE x.u (toU x.s)) (fromU x.t)).hi)) = z3 at *
    cases m2 : metE (meetE x.u (toU x.s)) (fromU x.t)
    · have e1 := Lib.hid (show onceC x = none by unfold onceC; rw [m1, m2]; rfl)
      have BB := bset6 R.out
      have g0 := fun u0 u1 u2 u3 u4 u5 => (BB u0 u1 u2 u3 u4 u5).cell 0
      have g1 := fun u0 u1 u2 u3 u4 u5 => (BB u0 u1 u2 u3 u4 u5).cell 1
      have g2 := fun u0 u1 u2 u3 u4 u5 => (BB u0 u1 u2 u3 u4 u5).cell 2
      have g3 := fun u0 u1 u2 u3 u4 u5 => (BB u0 u1 u2 u3 u4 u5).cell 3
      have g4 := fun u0 u1 u2 u3 u4 u5 => (BB u0 u1 u2 u3 u4 u5).cell 4
      have g5 := fun u0 u1 u2 u3 u4 u5 => (BB u0 u1 u2 u3 u4 u5).cell 5
      have X0 := X.out.cell 0; have X1 := X.out.cell 1; have X2 := X.out.cell 2; have X3 := X.out.cell 3; have X4 := X.out.cell 4; have X5 := X.out.cell 5
      have R0 := R.out.cell 0; have R1 := R.out.cell 1; have R2 := R.out.cell 2; have R3 := R.out.cell 3; have R4 := R.out.cell 4; have R5 := R.out.cell 5
      have fR0 := R.out.frozen 0; have fR1 := R.out.frozen 1; have fR2 := R.out.frozen 2; have fR3 := R.out.frozen 3; have fR4 := R.out.frozen 4; have fR5 := R.out.frozen 5
      have U0 := U.out.cell 0; have U1 := U.out.cell 1
      have fU0 := U.out.frozen 0; have fU1 := U.out.frozen 1
      have P0 := P.out.cell 0; have P1 := P.out.cell 1
      have fP0 := P.out.frozen 0; have fP1 := P.out.frozen 1
      have Q0 := Q.out.cell 0; have Q1 := Q.out.cell 1
      have fQ0 := Q.out.frozen 0; have fQ1 := Q.out.frozen 1
      go_wp2
      refine bodyPost_ret (by simp [results, Tryz.results42, g0, g1, g2, g3, g4, g5, go_sem]; try rfl) rfl ?_
      exact ⟨by rw [e1.out]; rfl, below6 HB.out (by omega)⟩
    · skip
      have o1 := meetU_ok hu m1
      have o2 := meetU_ok o1 m2
      have o3 := Lib.hid o2
      clear o1 o2
      have X0 := X.out.cell 0; have X1 := X.out.cell 1; have X2 := X.out.cell 2; have X3 := X.out.cell 3; have X4 := X.out.cell 4; have X5 := X.out.cell 5
      have R0 := R.out.cell 0; have R1 := R.out.cell 1; have R2 := R.out.cell 2; have R3 := R.out.cell 3; have R4 := R.out.cell 4; have R5 := R.out.cell 5
      have fR0 := R.out.frozen 0; have fR1 := R.out.frozen 1; have fR2 := R.out.frozen 2; have fR3 := R.out.frozen 3; have fR4 := R.out.frozen 4; have fR5 := R.out.frozen 5
      have U0 := U.out.cell 0; have U1 := U.out.cell 1
      have fU0 := U.out.frozen 0; have fU1 := U.out.frozen 1
      have P0 := P.out.cell 0; have P1 := P.out.cell 1
      have fP0 := P.out.frozen 0; have fP1 := P.out.frozen 1
      have Q0 := Q.out.cell 0; have Q1 := Q.out.cell 1
      have fQ0 := Q.out.frozen 0; have fQ1 := Q.out.frozen 1
      go_wp2_with fail
      clear X0 X1 X2 X3 X4 X5 R0 R1 R2 R3 R4 R5 U0 U1 P0 P1 Q0 Q1 fU0 fU1 fR0 fR1 fR2 fR3 fR4 fR5 fQ0 fQ1 fP0 fP1
      refine once8 (fun _ _ d _ _ h => by cases d <;> exact h) o3.out (X.out.cell 4) (X.out.cell 5) (U.out.cell 0) (U.out.cell 1) ?_
      intro t40 t41 t42 t43 t44 t39 t45 t46 z4 d4 G hd NW
      try dsimp only
      have hwV : w.heap.size ≤ d4 := Nat.le_trans HB.out.size hd
      have neXV : w.heap.size ≠ d4 := Nat.ne_of_lt (Nat.lt_of_lt_of_le X.out.lt hd)
      have neRV : w.heap.size + 1 ≠ d4 := Nat.ne_of_lt (Nat.lt_of_lt_of_le R.out.lt hd)
      have neUV : d1 ≠ d4 := Nat.ne_of_lt (Nat.lt_of_lt_of_le U.out.lt hd)
      have nePV : w1.heap.size ≠ d4 := Nat.ne_of_lt (Nat.lt_of_lt_of_le P.out.lt hd)
      have neQV : w1.heap.size + 1 ≠ d4 := Nat.ne_of_lt (Nat.lt_of_lt_of_le Q.out.lt hd)
      replace X := Lib.hid (Rg.bkk X.out G)
      replace R := Lib.hid (Rg.bkk R.out G)
      replace U := Lib.hid (Rg.bkk U.out G)
      replace P := Lib.hid (Rg.bkk P.out G)
      replace Q := Lib.hid (Rg.bkk Q.out G)
      replace HB := Lib.hid (Rg.bth HB.out G (Nat.le_refl _))
      have V := Lib.hid NW
      clear G hd NW
      cases m3 : metE x.s (toS (meetE (meetE x.u (toU x.s)) (fromU x.t)))
      · have e1 := Lib.hid (show onceC x = none by unfold onceC; rw [m1, m2, m3]; rfl)
        have BB := bset6 R.out
        have g0 := fun u0 u1 u2 u3 u4 u5 => (BB u0 u1 u2 u3 u4 u5).cell 0
        have g1 := fun u0 u1 u2 u3 u4 u5 => (BB u0 u1 u2 u3 u4 u5).cell 1
        have g2 := fun u0 u1 u2 u3 u4 u5 => (BB u0 u1 u2 u3 u4 u5).cell 2
        have g3 := fun u0 u1 u2 u3 u4 u5 => (BB u0 u1 u2 u3 u4 u5).cell 3
        have g4 := fun u0 u1 u2 u3 u4 u5 => (BB u0 u1 u2 u3 u4 u5).cell 4
        have g5 := fun u0 u1 u2 u3 u4 u5 => (BB u0 u1 u2 u3 u4 u5).cell 5
        have X0 := X.out.cell 0; have X1 := X.out.cell 1; have X2 := X.out.cell 2; have X3 := X.out.cell 3; have X4 := X.out.cell 4; have X5 := X.out.cell 5
        have R0 := R.out.cell 0; have R1 := R.out.cell 1; have R2 := R.out.cell 2; have R3 := R.out.cell 3; have R4 := R.out.cell 4; have R5 := R.out.cell 5
        have fR0 := R.out.frozen 0; have fR1 := R.out.frozen 1; have fR2 := R.out.frozen 2; have fR3 := R.out.frozen 3; have fR4 := R.out.frozen 4; have fR5 := R.out.frozen 5
        have U0 := U.out.cell 0; have U1 := U.out.cell 1
        have fU0 := U.out.frozen 0; have fU1 := U.out.frozen 1
        have P0 := P.out.cell 0; have P1 := P.out.cell 1
        have fP0 := P.out.frozen 0; have fP1 := P.out.frozen 1
        have Q0 := Q.out.cell 0; have Q1 := Q.out.cell 1
        have fQ0 := Q.out.frozen 0; have fQ1 := Q.out.frozen 1
        have V0 := V.out.cell 0; have V1 := V.out.cell 1
        have fV0 := V.out.frozen 0; have fV1 := V.out.frozen 1
        go_wp2
        refine bodyPost_ret (by simp [results, Tryz.results42, g0, g1, g2, g3, g4, g5, go_sem]; try rfl) rfl ?_
        exact ⟨by rw [e1.out]; rfl, below6 HB.out (by omega)⟩
      · skip
        have X0 := X.out.cell 0; have X1 := X.out.cell 1; have X2 := X.out.cell 2; have X3 := X.out.cell 3; have X4 := X.out.cell 4; have X5 := X.out.cell 5
        have R0 := R.out.cell 0; have R1 := R.out.cell 1; have R2 := R.out.cell 2; have R3 := R.out.cell 3; have R4 := R.out.cell 4; have R5 := R.out.cell 5
        have fR0 := R.out.frozen 0; have fR1 := R.out.frozen 1; have fR2 := R.out.frozen 2; have fR3 := R.out.frozen 3; have fR4 := R.out.frozen 4; have fR5 := R.out.frozen 5
        have U0 := U.out.cell 0; have U1 := U.out.cell 1
        have fU0 := U.out.frozen 0; have fU1 := U.out.frozen 1
        have P0 := P.out.cell 0; have P1 := P.out.cell 1
        have fP0 := P.out.frozen 0; have fP1 := P.out.frozen 1
        have Q0 := Q.out.cell 0; have Q1 := Q.out.cell 1
        have fQ0 := Q.out.frozen 0; have fQ1 := Q.out.frozen 1
        have V0 := V.out.cell 0; have V1 := V.out.cell 1
        have fV0 := V.out.frozen 0; have fV1 := V.out.frozen 1
        go_wp2_with fail
        clear X0 X1 X2 X3 X4 X5 R0 R1 R2 R3 R4 R5 U0 U1 P0 P1 Q0 Q1 V0 V1 fU0 fU1 fV0 fV1 fQ0 fQ1 fR0 fR1 fR2 fR3 fR4 fR5 fP0 fP1
        with_reducible refine (rsmeet_any (meetE x.s (toS (meetE (meetE x.u (toU x.s)) (fromU x.t)))) (fromS x.t) _).mono ?_
        rintro e w3 ⟨rfl, qb⟩
        replace X := Lib.hid (Rg.bkk X.out qb)
        replace R := Lib.hid (Rg.bkk R.out qb)
        replace U := Lib.hid (Rg.bkk U.out qb)
        replace P := Lib.hid (Rg.bkk P.out qb)
        replace Q := Lib.hid (Rg.bkk Q.out qb)
        replace V := Lib.hid (Rg.bkk V.out qb)
        replace HB := Lib.hid (Rg.bth HB.out qb (Nat.le_refl _))
        clear qb
        have X0 := X.out.cell 0; have X1 := X.out.cell 1; have X2 := X.out.cell 2; have X3 := X.out.cell 3; have X4 := X.out.cell 4; have X5 := X.out.cell 5
        have R0 := R.out.cell 0; have R1 := R.out.cell 1; have R2 := R.out.cell 2; have R3 := R.out.cell 3; have R4 := R.out.cell 4; have R5 := R.out.cell 5
        have fR0 := R.out.frozen 0; have fR1 := R.out.frozen 1; have fR2 := R.out.frozen 2; have fR3 := R.out.frozen 3; have fR4 := R.out.frozen 4; have fR5 := R.out.frozen 5
        have U0 := U.out.cell 0; have U1 := U.out.cell 1
        have fU0 := U.out.frozen 0; have fU1 := U.out.frozen 1
        have P0 := P.out.cell 0; have P1 := P.out.cell 1
        have fP0 := P.out.frozen 0; have fP1 := P.out.frozen 1
        have Q0 := Q.out.cell 0; have Q1 := Q.out.cell 1
        have fQ0 := Q.out.frozen 0; have fQ1 := Q.out.frozen 1
        have V0 := V.out.cell 0; have V1 := V.out.cell 1
        have fV0 := V.out.frozen 0; have fV1 := V.out.frozen 1
        go_upto_region 12 with (fail)
        clear X0 X1 X2 X3 X4 X5 R0 R1 R2 R3 R4 R5 U0 U1 P0 P1 Q0 Q1 V0 V1 fU0 fU1 fV0 fV1 fQ0 fQ1 fR0 fR1 fR2 fR3 fR4 fR5 fP0 fP1
        replace X := Lib.hid ((X.out.far (p := ⟨d4, 0, none⟩) neXV (.int .i64 (meetE (meetE x.s (toS (meetE (meetE x.u (toU x.s)) (fromU x.t)))) (fromS x.t)).lo)).far (p := ⟨d4, 1, none⟩) neXV (.int .i64 (meetE (meetE x.s (toS (meetE (meetE x.u (toU x.s)) (fromU x.t)))) (fromS x.t)).hi))
        replace R := Lib.hid ((R.out.far (p := ⟨d4, 0, none⟩) neRV (.int .i64 (meetE (meetE x.s (toS (meetE (meetE x.u (toU x.s)) (fromU x.t)))) (fromS x.t)).lo)).far (p := ⟨d4, 1, none⟩) neRV (.int .i64 (meetE (meetE x.s (toS (meetE (meetE x.u (toU x.s)) (fromU x.t)))) (fromS x.t)).hi))
        replace U := Lib.hid ((U.out.far (p := ⟨d4, 0, none⟩) neUV (.int .i64 (meetE (meetE x.s (toS (meetE (meetE x.u (toU x.s)) (fromU x.t)))) (fromS x.t)).lo)).far (p := ⟨d4, 1, none⟩) neUV (.int .i64 (meetE (meetE x.s (toS (meetE (meetE x.u (toU x.s)) (fromU x.t)))) (fromS x.t)).hi))
        replace P := Lib.hid ((P.out.far (p := ⟨d4, 0, none⟩) nePV (.int .i64 (meetE (meetE x.s (toS (meetE (meetE x.u (toU x.s)) (fromU x.t)))) (fromS x.t)).lo)).far (p := ⟨d4, 1, none⟩) nePV (.int .i64 (meetE (meetE x.s (toS (meetE (meetE x.u (toU x.s)) (fromU x.t)))) (fromS x.t)).hi))
        replace Q := Lib.hid ((Q.out.far (p := ⟨d4, 0, none⟩) neQV (.int .i64 (meetE (meetE x.s (toS (meetE (meetE x.u (toU x.s)) (fromU x.t)))) (fromS x.t)).lo)).far (p := ⟨d4, 1, none⟩) neQV (.int .i64 (meetE (meetE x.s (toS (meetE (meetE x.u (toU x.s)) (fromU x.t)))) (fromS x.t)).hi))
        replace V := Lib.hid ((V.out.set_ 0 (.int .i64 (meetE (meetE x.s (toS (meetE (meetE x.u (toU x.s)) (fromU x.t)))) (fromS x.t)).lo)).set_ 1 (.int .i64 (meetE (meetE x.s (toS (meetE (meetE x.u (toU x.s)) (fromU x.t)))) (fromS x.t)).hi))
        replace HB := Lib.hid ((HB.out.setCell (p := ⟨d4, 0, none⟩) hwV (.int .i64 (meetE (meetE x.s (toS (meetE (meetE x.u (toU x.s)) (fromU x.t)))) (fromS x.t)).lo)).setCell (p := ⟨d4, 1, none⟩) hwV (.int .i64 (meetE (meetE x.s (toS (meetE (meetE x.u (toU x.s)) (fromU x.t)))) (fromS x.t)).hi))
        generalize ((w3.setCell ⟨d4, 0, none⟩ (.int .i64 (meetE (meetE x.s (toS (meetE (meetE x.u (toU x.s)) (fromU x.t)))) (fromS x.t)).lo)).setCell ⟨d4, 1, none⟩ (.int .i64 (meetE (meetE x.s (toS (meetE (meetE x.u (toU x.s)) (fromU x.t)))) (fromS x.t)).hi)) = z5 at *
        cases m4 : metE (meetE x.s (toS (meetE (meetE x.u (toU x.s)) (fromU x.t)))) (fromS x.t)
        · have e1 := Lib.hid (show onceC x = none by unfold onceC; rw [m1, m2, m3, m4]; rfl)
          have BB := bset6 R.out
          have g0 := fun u0 u1 u2 u3 u4 u5 => (BB u0 u1 u2 u3 u4 u5).cell 0
          have g1 := fun u0 u1 u2 u3 u4 u5 => (BB u0 u1 u2 u3 u4 u5).cell 1
          have g2 := fun u0 u1 u2 u3 u4 u5 => (BB u0 u1 u2 u3 u4 u5).cell 2
          have g3 := fun u0 u1 u2 u3 u4 u5 => (BB u0 u1 u2 u3 u4 u5).cell 3
          have g4 := fun u0 u1 u2 u3 u4 u5 => (BB u0 u1 u2 u3 u4 u5).cell 4
          have g5 := fun u0 u1 u2 u3 u4 u5 => (BB u0 u1 u2 u3 u4 u5).cell 5
          have X0 := X.out.cell 0; have X1 := X.out.cell 1; have X2 := X.out.cell 2; have X3 := X.out.cell 3; have X4 := X.out.cell 4; have X5 := X.out.cell 5
          have R0 := R.out.cell 0; have R1 := R.out.cell 1; have R2 := R.out.cell 2; have R3 := R.out.cell 3; have R4 := R.out.cell 4; have R5 := R.out.cell 5
          have fR0 := R.out.frozen 0; have fR1 := R.out.frozen 1; have fR2 := R.out.frozen 2; have fR3 := R.out.frozen 3; have fR4 := R.out.frozen 4; have fR5 := R.out.frozen 5
          have U0 := U.out.cell 0; have U1 := U.out.cell 1
          have fU0 := U.out.frozen 0; have fU1 := U.out.frozen 1
          have P0 := P.out.cell 0; have P1 := P.out.cell 1
          have fP0 := P.out.frozen 0; have fP1 := P.out.frozen 1
          have Q0 := Q.out.cell 0; have Q1 := Q.out.cell 1
          have fQ0 := Q.out.frozen 0; have fQ1 := Q.out.frozen 1
          have V0 := V.out.cell 0; have V1 := V.out.cell 1
          have fV0 := V.out.frozen 0; have fV1 := V.out.frozen 1
          go_wp2
          refine bodyPost_ret (by simp [results, Tryz.results42, g0, g1, g2, g3, g4, g5, go_sem]; try rfl) rfl ?_
          exact ⟨by rw [e1.out]; rfl, below6 HB.out (by omega)⟩
        · skip
          have X0 := X.out.cell 0; have X1 := X.out.cell 1; have X2 := X.out.cell 2; have X3 := X.out.cell 3; have X4 := X.out.cell 4; have X5 := X.out.cell 5
          have R0 := R.out.cell 0; have R1 := R.out.cell 1; have R2 := R.out.cell 2; have R3 := R.out.cell 3; have R4 := R.out.cell 4; have R5 := R.out.cell 5
          have fR0 := R.out.frozen 0; have fR1 := R.out.frozen 1; have fR2 := R.out.frozen 2; have fR3 := R.out.frozen 3; have fR4 := R.out.frozen 4; have fR5 := R.out.frozen 5
          have U0 := U.out.cell 0; have U1 := U.out.cell 1
          have fU0 := U.out.frozen 0; have fU1 := U.out.frozen 1
          have P0 := P.out.cell 0; have P1 := P.out.cell 1
          have fP0 := P.out.frozen 0; have fP1 := P.out.frozen 1
          have Q0 := Q.out.cell 0; have Q1 := Q.out.cell 1
          have fQ0 := Q.out.frozen 0; have fQ1 := Q.out.frozen 1
          have V0 := V.out.cell 0; have V1 := V.out.cell 1
          have fV0 := V.out.frozen 0; have fV1 := V.out.frozen 1
          go_wp2_with fail
          clear X0 X1 X2 X3 X4 X5 R0 R1 R2 R3 R4 R5 U0 U1 P0 P1 Q0 Q1 V0 V1 fU0 fU1 fV0 fV1 fQ0 fQ1 fR0 fR1 fR2 fR3 fR4 fR5 fP0 fP1
          refine once14 (fun _ _ d _ _ h => by cases d <;> exact h) ht o3.out (may_toT o3.out) (X.out.cell 0) (X.out.cell 1) (U.out.cell 0) (U.out.cell 1) ?_
          intro t60 t61 t62 t63 t64 t59 t65 t66 z6 d6 G hd NW
          try dsimp only
          have hwY : w.heap.size ≤ d6 := Nat.le_trans HB.out.size hd
          have neXY : w.heap.size ≠ d6 := Nat.ne_of_lt (Nat.lt_of_lt_of_le X.out.lt hd)
          have neRY : w.heap.size + 1 ≠ d6 := Nat.ne_of_lt (Nat.lt_of_lt_of_le R.out.lt hd)
          have neUY : d1 ≠ d6 := Nat.ne_of_lt (Nat.lt_of_lt_of_le U.out.lt hd)
          have nePY : w1.heap.size ≠ d6 := Nat.ne_of_lt (Nat.lt_of_lt_of_le P.out.lt hd)
          have neQY : w1.heap.size + 1 ≠ d6 := Nat.ne_of_lt (Nat.lt_of_lt_of_le Q.out.lt hd)
          have neVY : d4 ≠ d6 := Nat.ne_of_lt (Nat.lt_of_lt_of_le V.out.lt hd)
          replace X := Lib.hid (Rg.bkk X.out G)
          replace R := Lib.hid (Rg.bkk R.out G)
          replace U := Lib.hid (Rg.bkk U.out G)
          replace P := Lib.hid (Rg.bkk P.out G)
          replace Q := Lib.hid (Rg.bkk Q.out G)
          replace V := Lib.hid (Rg.bkk V.out G)
          replace HB := Lib.hid (Rg.bth HB.out G (Nat.le_refl _))
          have Y := Lib.hid NW
          clear G hd NW
          cases m5 : meetOk x.t (toT (meetE (meetE x.u (toU x.s)) (fromU x.t)))
          · have e1 := Lib.hid (show onceC x = none by unfold onceC; rw [m1, m2, m3, m4, m5]; rfl)
            have BB := bset6 R.out
            have g0 := fun u0 u1 u2 u3 u4 u5 => (BB u0 u1 u2 u3 u4 u5).cell 0
            have g1 := fun u0 u1 u2 u3 u4 u5 => (BB u0 u1 u2 u3 u4 u5).cell 1
            have g2 := fun u0 u1 u2 u3 u4 u5 => (BB u0 u1 u2 u3 u4 u5).cell 2
            have g3 := fun u0 u1 u2 u3 u4 u5 => (BB u0 u1 u2 u3 u4 u5).cell 3
            have g4 := fun u0 u1 u2 u3 u4 u5 => (BB u0 u1 u2 u3 u4 u5).cell 4
            have g5 := fun u0 u1 u2 u3 u4 u5 => (BB u0 u1 u2 u3 u4 u5).cell 5
            have X0 := X.out.cell 0; have X1 := X.out.cell 1; have X2 := X.out.cell 2; have X3 := X.out.cell 3; have X4 := X.out.cell 4; have X5 := X.out.cell 5
            have R0 := R.out.cell 0; have R1 := R.out.cell 1; have R2 := R.out.cell 2; have R3 := R.out.cell 3; have R4 := R.out.cell 4; have R5 := R.out.cell 5
            have fR0 := R.out.frozen 0; have fR1 := R.out.frozen 1; have fR2 := R.out.frozen 2; have fR3 := R.out.frozen 3; have fR4 := R.out.frozen 4; have fR5 := R.out.frozen 5
            have U0 := U.out.cell 0; have U1 := U.out.cell 1
            have fU0 := U.out.frozen 0; have fU1 := U.out.frozen 1
            have P0 := P.out.cell 0; have P1 := P.out.cell 1
            have fP0 := P.out.frozen 0; have fP1 := P.out.frozen 1
            have Q0 := Q.out.cell 0; have Q1 := Q.out.cell 1
            have fQ0 := Q.out.frozen 0; have fQ1 := Q.out.frozen 1
            have V0 := V.out.cell 0; have V1 := V.out.cell 1
            have fV0 := V.out.frozen 0; have fV1 := V.out.frozen 1
            have Y0 := Y.out.cell 0; have Y1 := Y.out.cell 1
            have fY0 := Y.out.frozen 0; have fY1 := Y.out.frozen 1
            go_wp2
            refine bodyPost_ret (by simp [results, Tryz.results42, g0, g1, g2, g3, g4, g5, go_sem]; try rfl) rfl ?_
            exact ⟨by rw [e1.out]; rfl, below6 HB.out (by omega)⟩
          · skip
            have e1 := Lib.hid (show onceC x = some ⟨(meetT x.t (toT (meetE (meetE x.u (toU x.s)) (fromU x.t)))), (meetE (meetE x.u (toU x.s)) (fromU x.t)), (meetE (meetE x.s (toS (meetE (meetE x.u (toU x.s)) (fromU x.t)))) (fromS x.t))⟩ by unfold onceC; rw [m1, m2, m3, m4, m5]; rfl)
            have BB := bset6 R.out
            have g0 := fun u0 u1 u2 u3 u4 u5 => (BB u0 u1 u2 u3 u4 u5).cell 0
            have g1 := fun u0 u1 u2 u3 u4 u5 => (BB u0 u1 u2 u3 u4 u5).cell 1
            have g2 := fun u0 u1 u2 u3 u4 u5 => (BB u0 u1 u2 u3 u4 u5).cell 2
            have g3 := fun u0 u1 u2 u3 u4 u5 => (BB u0 u1 u2 u3 u4 u5).cell 3
            have g4 := fun u0 u1 u2 u3 u4 u5 => (BB u0 u1 u2 u3 u4 u5).cell 4
            have g5 := fun u0 u1 u2 u3 u4 u5 => (BB u0 u1 u2 u3 u4 u5).cell 5
            have X0 := X.out.cell 0; have X1 := X.out.cell 1; have X2 := X.out.cell 2; have X3 := X.out.cell 3; have X4 := X.out.cell 4; have X5 := X.out.cell 5
            have R0 := R.out.cell 0; have R1 := R.out.cell 1; have R2 := R.out.cell 2; have R3 := R.out.cell 3; have R4 := R.out.cell 4; have R5 := R.out.cell 5
            have fR0 := R.out.frozen 0; have fR1 := R.out.frozen 1; have fR2 := R.out.frozen 2; have fR3 := R.out.frozen 3; have fR4 := R.out.frozen 4; have fR5 := R.out.frozen 5
            have U0 := U.out.cell 0; have U1 := U.out.cell 1
            have fU0 := U.out.frozen 0; have fU1 := U.out.frozen 1
            have P0 := P.out.cell 0; have P1 := P.out.cell 1
            have fP0 := P.out.frozen 0; have fP1 := P.out.frozen 1
            have Q0 := Q.out.cell 0; have Q1 := Q.out.cell 1
            have fQ0 := Q.out.frozen 0; have fQ1 := Q.out.frozen 1
            have V0 := V.out.cell 0; have V1 := V.out.cell 1
            have fV0 := V.out.frozen 0; have fV1 := V.out.frozen 1
            have Y0 := Y.out.cell 0; have Y1 := Y.out.cell 1
            have fY0 := Y.out.frozen 0; have fY1 := Y.out.frozen 1
            go_wp2
            refine bodyPost_ret (by simp [results, Tryz.results42, g0, g1, g2, g3, g4, g5, go_sem]; try rfl) rfl ?_
            exact ⟨by rw [e1.out]; rfl, below6 HB.out (by omega)⟩
end Go.Proofs.YtcimihckhobniaaGreat.Sc
