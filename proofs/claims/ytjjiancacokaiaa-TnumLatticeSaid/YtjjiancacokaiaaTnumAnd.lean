/-
  What the program's tnum.And, Within, Arsh of 32 bits tell (statements that draw their order): contracts. Conditions: values and masks are numbers of 64 bits.
-/
import Derived.Test.YtjjiancacokaiaaTnumProg
namespace Go.Proofs.Ytjjiancacokaiaa
open Go.RowKit Tn Ow
set_option linter.unusedVariables false
set_option linter.unusedSimpArgs false
set_option maxHeartbeats 4000000 in
theorem and_any (a b : T) (w : World) :
    Calls Try.prog 32 #[.agg #[.int .u64 (bi a.v), .int .u64 (bi a.m)], .agg #[.int .u64 (bi b.v), .int .u64 (bi b.m)]] w fun e w' => e = .returned (.agg #[.int .u64 (bi (andT a b).v), .int .u64 (bi (andT a b).m)]) ∧ Below w.heap.size w w' := by
  have h0 := bi_bd a.v
  have h1 := bi_bd a.m
  have h2 := bi_bd b.v
  have h3 := bi_bd b.m
  go_enter Try.func32, Try.ntmps32
  go_wp2_with fail
  have K0 := ((Bk.new w 24 #[.int .u64 (bi a.v), .int .u64 (bi a.m)]).alloc (.cells #[.int .u64 (bi b.v), .int .u64 (bi b.m)] 24)).alloc (.cells #[.int .u64 0, .int .u64 0] 24)
  have K1 := (Bk.new (w.alloc (.cells #[.int .u64 (bi a.v), .int .u64 (bi a.m)] 24)) 24 #[.int .u64 (bi b.v), .int .u64 (bi b.m)]).alloc (.cells #[.int .u64 0, .int .u64 0] 24)
  have K2 := Bk.new ((w.alloc (.cells #[.int .u64 (bi a.v), .int .u64 (bi a.m)] 24)).alloc (.cells #[.int .u64 (bi b.v), .int .u64 (bi b.m)] 24)) 24 #[.int .u64 0, .int .u64 0]
  rw [World.size_alloc] at K1 K2
  rw [World.size_alloc] at K2
  have B0 : Below w.heap.size w (((w.alloc (.cells #[.int .u64 (bi a.v), .int .u64 (bi a.m)] 24)).alloc (.cells #[.int .u64 (bi b.v), .int .u64 (bi b.m)] 24)).alloc (.cells #[.int .u64 0, .int .u64 0] 24)) := by go_grown
  generalize (((w.alloc (.cells #[.int .u64 (bi a.v), .int .u64 (bi a.m)] 24)).alloc (.cells #[.int .u64 (bi b.v), .int .u64 (bi b.m)] 24)).alloc (.cells #[.int .u64 0, .int .u64 0] 24)) = w0 at *
  obtain ⟨c0, c1⟩ := tcells K0
  obtain ⟨c2, c3⟩ := tcells K1
  obtain ⟨c4, c5⟩ := tcells K2
  have f0 := K2.frozen 0
  have f1 := K2.frozen 1
  clear K0 K1 K2
  go_region_held3 (fun w' => w'.cell? ⟨w.heap.size, 0, none⟩ = some (.int .u64 (bi a.v)) ∧ w'.cell? ⟨w.heap.size, 1, none⟩ = some (.int .u64 (bi a.m)) ∧ w'.cell? ⟨w.heap.size + 1, 0, none⟩ = some (.int .u64 (bi b.v)) ∧ w'.cell? ⟨w.heap.size + 1, 1, none⟩ = some (.int .u64 (bi b.m)) ∧ w'.cell? ⟨w.heap.size + 1 + 1, 0, none⟩ = some (cv w' (w.heap.size + 1 + 1) 0) ∧ w'.cell? ⟨w.heap.size + 1 + 1, 1, none⟩ = some (cv w' (w.heap.size + 1 + 1) 1) ∧ w'.frozen? ⟨w.heap.size + 1 + 1, 0, none⟩ = false ∧ w'.frozen? ⟨w.heap.size + 1 + 1, 1, none⟩ = false ∧ Below w.heap.size w w')
    (first | exact ⟨c0, c1, c2, c3, cv_some c4, cv_some c5, f0, f1, B0.drew⟩ | exact six_store (by omega) (by omega) (by omega) (six_keep qb (by assumption)) | exact six_store (by omega) (by omega) (by omega) (by assumption) | exact six_store (by omega) (by omega) (by omega) ⟨by assumption, by assumption, by assumption, by assumption, by assumption, by assumption, by assumption, by assumption, by assumption⟩ | exact six_keep qb (by assumption) | exact six_keep qb ⟨by assumption, by assumption, by assumption, by assumption, by assumption, by assumption, by assumption, by assumption, by assumption⟩ | exact six_keep qb ⟨c0, c1, c2, c3, cv_some c4, cv_some c5, f0, f1, B0.drew⟩)
    (first | (go_at_call 52; refine (poss_any a _).mono ?_; rintro e w2 ⟨rfl, qb⟩) | (go_at_call 52; refine (poss_any b _).mono ?_; rintro e w2 ⟨rfl, qb⟩))
  rename_i w1 q1 hH
  have p0 := keep1 qb (keep1 (w0 := w0.drew) q1 c4)
  have p1 := keep1 qb (keep1 (w0 := w0.drew) q1 c5)
  have BB := Lib.hid hH.2.2.2.2.2.2.2.2
  clear hH q1 qb c0 c1 c2 c3 c4 c5 f0 f1 B0
  have r0 := set_fst (u := .int .u64 (bits BinOp.and IntKind.u64 (bi a.v) (bi b.v))) (v := .int .u64 (bits BinOp.andNot IntKind.u64 (bits BinOp.and IntKind.u64 (bi (a.v ||| a.m)) (bi (b.v ||| b.m))) (bits BinOp.and IntKind.u64 (bi a.v) (bi b.v)))) p0
  have r1 := set_snd (u := .int .u64 (bits BinOp.and IntKind.u64 (bi a.v) (bi b.v))) (v := .int .u64 (bits BinOp.andNot IntKind.u64 (bits BinOp.and IntKind.u64 (bi (a.v ||| a.m)) (bi (b.v ||| b.m))) (bits BinOp.and IntKind.u64 (bi a.v) (bi b.v)))) p1
  revert BB r0 r1
  generalize World.setCell (World.setCell w2 _ _) _ _ = W
  intro BB r0 r1
  go_wp2
  refine bodyPost_ret (by simp [results, Try.results32, r0, r1, go_sem]; try rfl) rfl ?_
  refine ⟨rt_t ?_ ?_, BB.out⟩
  · simp only [bi_andNot, bi_or, bi_xor, bi_and, biw_add, biw_sub, biw_mul]; rfl
  · simp only [bi_andNot, bi_or, bi_xor, bi_and, biw_add, biw_sub, biw_mul]; rfl
theorem four_keep {w W w2 : World} {g h : Nat} {v0 v1 v2 v3 : Value} (hb : Below W.heap.size W w2)
    (hh : W.cell? ⟨g, 0, none⟩ = some v0 ∧ W.cell? ⟨g, 1, none⟩ = some v1 ∧ W.cell? ⟨h, 0, none⟩ = some v2 ∧ W.cell? ⟨h, 1, none⟩ = some v3 ∧ Below w.heap.size w W) :
    w2.cell? ⟨g, 0, none⟩ = some v0 ∧ w2.cell? ⟨g, 1, none⟩ = some v1 ∧ w2.cell? ⟨h, 0, none⟩ = some v2 ∧ w2.cell? ⟨h, 1, none⟩ = some v3 ∧ Below w.heap.size w w2 :=
  ⟨keep1 hb hh.1, keep1 hb hh.2.1, keep1 hb hh.2.2.1, keep1 hb hh.2.2.2.1, below_then hh.2.2.2.2 hb (Nat.le_refl _)⟩
set_option maxHeartbeats 4000000 in
theorem within_any (a b : T) (w : World) :
    Calls Try.prog 21 #[.agg #[.int .u64 (bi a.v), .int .u64 (bi a.m)], .agg #[.int .u64 (bi b.v), .int .u64 (bi b.m)]] w fun e w' => e = .returned (.bool (withT a b)) ∧ Below w.heap.size w w' := by
  have h0 := bi_bd a.v
  have h1 := bi_bd a.m
  have h2 := bi_bd b.v
  have h3 := bi_bd b.m
  go_enter Try.func21, Try.ntmps21
  go_wp2_with fail
  have K0 := (Bk.new w 24 #[.int .u64 (bi a.v), .int .u64 (bi a.m)]).alloc (.cells #[.int .u64 (bi b.v), .int .u64 (bi b.m)] 24)
  have K1 := Bk.new (w.alloc (.cells #[.int .u64 (bi a.v), .int .u64 (bi a.m)] 24)) 24 #[.int .u64 (bi b.v), .int .u64 (bi b.m)]
  rw [World.size_alloc] at K1
  have B0 : Below w.heap.size w ((w.alloc (.cells #[.int .u64 (bi a.v), .int .u64 (bi a.m)] 24)).alloc (.cells #[.int .u64 (bi b.v), .int .u64 (bi b.m)] 24)) := by go_grown
  generalize ((w.alloc (.cells #[.int .u64 (bi a.v), .int .u64 (bi a.m)] 24)).alloc (.cells #[.int .u64 (bi b.v), .int .u64 (bi b.m)] 24)) = w0 at *
  obtain ⟨c0, c1⟩ := tcells K0
  obtain ⟨c2, c3⟩ := tcells K1
  clear K0 K1
  have q1 := tn_eql (joinT a b) b
  have q2 := tn_guard .eql (joinT a b) b
  go_region_held3 (fun w' => w'.cell? ⟨w.heap.size, 0, none⟩ = some (.int .u64 (bi a.v)) ∧ w'.cell? ⟨w.heap.size, 1, none⟩ = some (.int .u64 (bi a.m)) ∧ w'.cell? ⟨w.heap.size + 1, 0, none⟩ = some (.int .u64 (bi b.v)) ∧ w'.cell? ⟨w.heap.size + 1, 1, none⟩ = some (.int .u64 (bi b.m)) ∧ Below w.heap.size w w')
    (first | exact ⟨c0, c1, c2, c3, B0.drew⟩ | exact four_keep qb (by assumption) | exact four_keep qb ⟨by assumption, by assumption, by assumption, by assumption, by assumption⟩ | exact four_keep qb ⟨c0, c1, c2, c3, B0.drew⟩)
    (first | (go_at_call 23; refine (join_any a b _).mono ?_; rintro e w2 ⟨rfl, qb⟩))
  have BB : Hid (Below w.heap.size w w2) := by
    rename_i hH
    exact Lib.hid hH.2.2.2.2
  clear qb
  go_wp2
  go_returns
  exact ⟨rfl, BB.out⟩
theorem sdn_still (v : BitVec 64) (k : Nat) (hk : k ≤ 31) (w : World) :
    Calls Try.prog 55 #[.int .u64 (bi v), .int .u64 (k : Int)] w fun e w' => e = .returned (.int .u64 (bi (dn32 v k))) ∧ w' = w := (sdn_any v k hk w).mono fun _ _ h => ⟨h.1, h.2.symm⟩
set_option maxHeartbeats 4000000 in
theorem ar32_any (a : T) (n : Int) (k : Nat) (hk : n % 32 = (k : Int)) (h : -9223372036854775808 ≤ n ∧ n ≤ 9223372036854775807) (w : World) :
    Calls Try.prog 42 #[.agg #[.int .u64 (bi a.v), .int .u64 (bi a.m)], .int .i64 n, .int .i64 32] w fun e w' => e = .returned (.agg #[.int .u64 (bi (ar32T a k).v), .int .u64 (bi (ar32T a k).m)]) ∧ Below w.heap.size w w' := by
  have K := Lib.hid hk
  have hk1 : k ≤ 31 := by omega
  clear hk
  have h0 := bi_bd a.v
  have h1 := bi_bd a.m
  go_enter Try.func42, Try.ntmps42
  go_wp2_with (go_at_call 53; refine (mod_any n 32 k (.inr rfl) K.out h _).mono ?_; rintro e w' ⟨rfl, rfl⟩)
  have K0 := (Bk.new w 24 #[.int .u64 (bi a.v), .int .u64 (bi a.m)]).alloc (.cells #[.int .u64 0, .int .u64 0] 24)
  have K1 := Bk.new (w.alloc (.cells #[.int .u64 (bi a.v), .int .u64 (bi a.m)] 24)) 24 #[.int .u64 0, .int .u64 0]
  rw [World.size_alloc] at K1
  have B0 : Below w.heap.size w ((w.alloc (.cells #[.int .u64 (bi a.v), .int .u64 (bi a.m)] 24)).alloc (.cells #[.int .u64 0, .int .u64 0] 24)) := by go_grown
  generalize ((w.alloc (.cells #[.int .u64 (bi a.v), .int .u64 (bi a.m)] 24)).alloc (.cells #[.int .u64 0, .int .u64 0] 24)) = w0 at *
  obtain ⟨c0, c1⟩ := tcells K0
  have HK := Lib.hid K1
  have HB := Lib.hid B0
  clear K0 K1 B0
  refine wp_region_still_tail 9 (by kernel_rfl) (by decide +kernel) ?_
  simp only [List.take_succ_cons, List.take_zero, List.drop_succ_cons, List.drop_zero]
  still_step
  still_step
  still_step
  still_call (sdn_still a.v k hk1 _)
  still_step
  still_step
  still_step
  still_call (sdn_still a.m k hk1 _)
  still_step
  refine wpStill_nil ?_
  change wpList _ _ _ _ _ w0.drew
  clear c0 c1
  have HK2 := Lib.hid HK.out.drew
  have HB2 := Lib.hid HB.out.drew
  clear HK HB
  generalize w0.drew = w1 at *
  obtain ⟨d0, d1⟩ := tcells HK2.out
  have f0 := HK2.out.frozen 0
  have f1 := HK2.out.frozen 1
  go_wp2_with fail
  have r0 := set_fst (u := .int .u64 (bi (dn32 a.v k))) (v := .int .u64 (bi (dn32 a.m k))) d0
  have r1 := set_snd (u := .int .u64 (bi (dn32 a.v k))) (v := .int .u64 (bi (dn32 a.m k))) d1
  have BB := Lib.hid ((HB2.out.setCell (p := ⟨w.heap.size + 1, 0, none⟩) (by simp) (.int .u64 (bi (dn32 a.v k)))).setCell (p := ⟨w.heap.size + 1, 1, none⟩) (by simp) (.int .u64 (bi (dn32 a.m k))))
  clear d0 d1 f0 f1 HK2 HB2
  revert BB r0 r1
  generalize World.setCell (World.setCell w1 _ _) _ _ = W
  intro r0 r1 BB
  refine bodyPost_ret (by simp [results, Try.results42, r0, r1, go_sem]; try rfl) rfl ?_
  exact ⟨rfl, BB.out⟩
end Go.Proofs.Ytjjiancacokaiaa
