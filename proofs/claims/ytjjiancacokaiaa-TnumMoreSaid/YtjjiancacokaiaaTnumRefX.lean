/-
  What the document's Mul tells: a contract. Conditions: values and masks are numbers of 64 bits.
-/
import Derived.Test.YtjjiancacokaiaaTnumRefJ
namespace Go.Proofs.Ytjjiancacokaiaa
open Go.RowKit Tn Ow
set_option linter.unusedVariables false
set_option linter.unusedSimpArgs false
theorem refadd_at (s u : T) (x y : Int) (hx : x = bi u.v) (hy : y = bi u.m) (w : World) :
    Calls Try.prog 27 #[.agg #[.int .u64 (bi s.v), .int .u64 (bi s.m)], .agg #[.int .u64 x, .int .u64 y]] w fun e w' => e = .returned (.agg #[.int .u64 (bi (addT s u).v), .int .u64 (bi (addT s u).m)]) ∧ Below w.heap.size w w' := by
  subst hx hy; exact refadd_any s u w
theorem refof_at (x : Int) (u : BitVec 64) (hx : x = bi u) (w : World) :
    Calls Try.prog 16 #[.int .u64 x] w fun e w' => e = .returned (.agg #[.int .u64 (bi (ofT u).v), .int .u64 (bi (ofT u).m)]) ∧ Below w.heap.size w w' := by
  subst hx; exact refof_any u w
theorem mulS_yes {a b : T} {k : Nat} (h : a.v.getLsbD k = true) : mulS a b (k + 1) = addT (mulS a b k) ⟨0#64, b.m <<< k⟩ := by
  show (if a.v.getLsbD k then _ else _) = _
  rw [h]; rfl
theorem mulS_may {a b : T} {k : Nat} (h : a.v.getLsbD k = false) (h2 : a.m.getLsbD k = true) : mulS a b (k + 1) = addT (mulS a b k) ⟨0#64, (b.v ||| b.m) <<< k⟩ := by
  show (if a.v.getLsbD k then _ else if a.m.getLsbD k then _ else _) = _
  rw [h, h2]; rfl
theorem mulS_no {a b : T} {k : Nat} (h : a.v.getLsbD k = false) (h2 : a.m.getLsbD k = false) : mulS a b (k + 1) = mulS a b k := by
  show (if a.v.getLsbD k then _ else if a.m.getLsbD k then _ else _) = _
  rw [h, h2]; rfl
theorem bk_both {w : World} {r : Nat} {x y z t : Int} (h : Bk w r 24 #[.int .u64 x, .int .u64 y]) : Bk ((w.setCell ⟨r, 0, none⟩ (.int .u64 z)).setCell ⟨r, 1, none⟩ (.int .u64 t)) r 24 #[.int .u64 z, .int .u64 t] :=
  bk_snd (bk_fst h rfl) rfl
theorem bk_t {w : World} {r : Nat} {s t : T} (h : Bk w r 24 #[.int .u64 (bi s.v), .int .u64 (bi s.m)]) (e : s = t) : Bk w r 24 #[.int .u64 (bi t.v), .int .u64 (bi t.m)] := by subst e; exact h
theorem bk_keep {w w1 : World} {r : Nat} {cs : Array Value} (h : Bk w r 24 cs) (qb : Below w.heap.size w w1) : Bk w1 r 24 cs := h.below qb h.lt
theorem orshl (x y : BitVec 64) (k : Nat) : IntKind.u64.wrap (bits .or .u64 (bi x) (bi y) * 2 ^ k) = bi ((x ||| y) <<< k) := by rw [bi_or, biw_shl]
theorem sixm_keep {w W w2 : World} {g h j r : Nat} {v0 v1 v2 v3 : Value} (hb : Below W.heap.size W w2) (hh : W.cell? ⟨g, 0, none⟩ = some v0 ∧ W.cell? ⟨h, 0, none⟩ = some v1 ∧ W.cell? ⟨j, 0, none⟩ = some v2 ∧ W.cell? ⟨j, 1, none⟩ = some v3 ∧ W.cell? ⟨r, 0, none⟩ = some (cv W r 0) ∧ W.cell? ⟨r, 1, none⟩ = some (cv W r 1) ∧ W.frozen? ⟨r, 0, none⟩ = false ∧ W.frozen? ⟨r, 1, none⟩ = false ∧ Below w.heap.size w W) :
    w2.cell? ⟨g, 0, none⟩ = some v0 ∧ w2.cell? ⟨h, 0, none⟩ = some v1 ∧ w2.cell? ⟨j, 0, none⟩ = some v2 ∧ w2.cell? ⟨j, 1, none⟩ = some v3 ∧ w2.cell? ⟨r, 0, none⟩ = some (cv w2 r 0) ∧ w2.cell? ⟨r, 1, none⟩ = some (cv w2 r 1) ∧ w2.frozen? ⟨r, 0, none⟩ = false ∧ w2.frozen? ⟨r, 1, none⟩ = false ∧ Below w.heap.size w w2 := by
  have hr : r < W.heap.size := World.block_lt_of_cell? W _ hh.2.2.2.2.1
  exact ⟨keep1 hb hh.1, keep1 hb hh.2.1, keep1 hb hh.2.2.1, keep1 hb hh.2.2.2.1, cv_some (keep1 hb hh.2.2.2.2.1), cv_some (keep1 hb hh.2.2.2.2.2.1), (hb.frozen (p := ⟨r, 0, none⟩) hr).trans hh.2.2.2.2.2.2.1, (hb.frozen (p := ⟨r, 1, none⟩) hr).trans hh.2.2.2.2.2.2.2.1, below_then hh.2.2.2.2.2.2.2.2 hb (Nat.le_refl _)⟩
theorem sixm_store {w W : World} {g h j r : Nat} {v0 v1 v2 v3 u v : Value} (h1 : g ≠ r) (h2 : h ≠ r) (h4 : j ≠ r) (h3 : w.heap.size ≤ r) (hh : W.cell? ⟨g, 0, none⟩ = some v0 ∧ W.cell? ⟨h, 0, none⟩ = some v1 ∧ W.cell? ⟨j, 0, none⟩ = some v2 ∧ W.cell? ⟨j, 1, none⟩ = some v3 ∧ W.cell? ⟨r, 0, none⟩ = some (cv W r 0) ∧ W.cell? ⟨r, 1, none⟩ = some (cv W r 1) ∧ W.frozen? ⟨r, 0, none⟩ = false ∧ W.frozen? ⟨r, 1, none⟩ = false ∧ Below w.heap.size w W) :
    ((W.setCell ⟨r, 0, none⟩ u).setCell ⟨r, 1, none⟩ v).cell? ⟨g, 0, none⟩ = some v0 ∧ ((W.setCell ⟨r, 0, none⟩ u).setCell ⟨r, 1, none⟩ v).cell? ⟨h, 0, none⟩ = some v1 ∧ ((W.setCell ⟨r, 0, none⟩ u).setCell ⟨r, 1, none⟩ v).cell? ⟨j, 0, none⟩ = some v2 ∧ ((W.setCell ⟨r, 0, none⟩ u).setCell ⟨r, 1, none⟩ v).cell? ⟨j, 1, none⟩ = some v3 ∧ ((W.setCell ⟨r, 0, none⟩ u).setCell ⟨r, 1, none⟩ v).cell? ⟨r, 0, none⟩ = some (cv ((W.setCell ⟨r, 0, none⟩ u).setCell ⟨r, 1, none⟩ v) r 0) ∧ ((W.setCell ⟨r, 0, none⟩ u).setCell ⟨r, 1, none⟩ v).cell? ⟨r, 1, none⟩ = some (cv ((W.setCell ⟨r, 0, none⟩ u).setCell ⟨r, 1, none⟩ v) r 1) ∧ ((W.setCell ⟨r, 0, none⟩ u).setCell ⟨r, 1, none⟩ v).frozen? ⟨r, 0, none⟩ = false ∧ ((W.setCell ⟨r, 0, none⟩ u).setCell ⟨r, 1, none⟩ v).frozen? ⟨r, 1, none⟩ = false ∧ Below w.heap.size w ((W.setCell ⟨r, 0, none⟩ u).setCell ⟨r, 1, none⟩ v) := by
  obtain ⟨c0, c1, c2, c3, c4, c5, f0, f1, B⟩ := hh
  refine ⟨(cell_set2 h1).trans c0, (cell_set2 h2).trans c1, (cell_set2 h4).trans c2, (cell_set2 h4).trans c3, cv_some (set_fst c4), cv_some (set_snd c5), ?_, ?_, below_set (below_set B h3) h3⟩
  · rw [World.frozen?_setCell, World.frozen?_setCell]; exact f0
  · rw [World.frozen?_setCell, World.frozen?_setCell]; exact f1
theorem obd2 (x y : BitVec 64) : 0 ≤ bits .or .u64 (bi x) (bi y) ∧ bits .or .u64 (bi x) (bi y) ≤ 18446744073709551615 := by rw [bi_or]; exact bi_bd _
set_option maxHeartbeats 4000000 in
theorem refmul_any (a b : T) (w : World) :
    Calls Try.prog 31 #[.agg #[.int .u64 (bi a.v), .int .u64 (bi a.m)], .agg #[.int .u64 (bi b.v), .int .u64 (bi b.m)]] w fun e w' => e = .returned (.agg #[.int .u64 (bi (mulT a b).v), .int .u64 (bi (mulT a b).m)]) ∧ Below w.heap.size w w' := by
  have h0 := bi_bd a.v
  have h1 := bi_bd a.m
  have h2 := bi_bd b.v
  have h3 := bi_bd b.m
  go_enter Try.func31, Try.ntmps31
  go_wp2
  have K0 := (((((Bk.new w 24 #[.int .u64 (bi a.v), .int .u64 (bi a.m)]).alloc (.cells #[.int .u64 (bi b.v), .int .u64 (bi b.m)] 24)).alloc (.cells #[.int .u64 0, .int .u64 0] 24)).alloc (.cells #[.int .u64 0, .int .u64 0] 24)).alloc (.cells #[.int .u64 0, .int .u64 0] 24))
  have K1 := ((((Bk.new (w.alloc (.cells #[.int .u64 (bi a.v), .int .u64 (bi a.m)] 24)) 24 #[.int .u64 (bi b.v), .int .u64 (bi b.m)]).alloc (.cells #[.int .u64 0, .int .u64 0] 24)).alloc (.cells #[.int .u64 0, .int .u64 0] 24)).alloc (.cells #[.int .u64 0, .int .u64 0] 24))
  rw [World.size_alloc] at K1
  have K2 := (((Bk.new ((w.alloc (.cells #[.int .u64 (bi a.v), .int .u64 (bi a.m)] 24)).alloc (.cells #[.int .u64 (bi b.v), .int .u64 (bi b.m)] 24)) 24 #[.int .u64 0, .int .u64 0]).alloc (.cells #[.int .u64 0, .int .u64 0] 24)).alloc (.cells #[.int .u64 0, .int .u64 0] 24))
  rw [World.size_alloc, World.size_alloc] at K2
  have K4 := (Bk.new ((((w.alloc (.cells #[.int .u64 (bi a.v), .int .u64 (bi a.m)] 24)).alloc (.cells #[.int .u64 (bi b.v), .int .u64 (bi b.m)] 24)).alloc (.cells #[.int .u64 0, .int .u64 0] 24)).alloc (.cells #[.int .u64 0, .int .u64 0] 24)) 24 #[.int .u64 0, .int .u64 0])
  rw [World.size_alloc, World.size_alloc, World.size_alloc, World.size_alloc] at K4
  have B0 : Below w.heap.size w (((((w.alloc (.cells #[.int .u64 (bi a.v), .int .u64 (bi a.m)] 24)).alloc (.cells #[.int .u64 (bi b.v), .int .u64 (bi b.m)] 24)).alloc (.cells #[.int .u64 0, .int .u64 0] 24)).alloc (.cells #[.int .u64 0, .int .u64 0] 24)).alloc (.cells #[.int .u64 0, .int .u64 0] 24)) := by go_grown
  generalize (((((w.alloc (.cells #[.int .u64 (bi a.v), .int .u64 (bi a.m)] 24)).alloc (.cells #[.int .u64 (bi b.v), .int .u64 (bi b.m)] 24)).alloc (.cells #[.int .u64 0, .int .u64 0] 24)).alloc (.cells #[.int .u64 0, .int .u64 0] 24)).alloc (.cells #[.int .u64 0, .int .u64 0] 24)) = w0 at *
  have H0 := Lib.hid K0
  have H1 := Lib.hid K1
  have H2 := Lib.hid K2
  have H4 := Lib.hid K4
  have HB := Lib.hid B0
  clear K0 K1 K2 K4 B0
  go_loopw [6] (fun i wr => ∃ k : Nat, k ≤ 64 ∧ i = .int .u64 k ∧ Hid (Bk wr w.heap.size 24 #[.int .u64 (bi a.v), .int .u64 (bi a.m)]) ∧ Hid (Bk wr (w.heap.size + 1) 24 #[.int .u64 (bi b.v), .int .u64 (bi b.m)]) ∧ Hid (Bk wr (w.heap.size + 1 + 1) 24 #[.int .u64 0, .int .u64 0]) ∧ Hid (Bk wr (w.heap.size + 1 + 1 + 1 + 1) 24 #[.int .u64 (bi (mulS a b k).v), .int .u64 (bi (mulS a b k).m)]) ∧ Hid (Below w.heap.size w wr)) (fun i _ => 64 - (intOf i).toNat)
  case atStart => exact ⟨0, Nat.zero_le _, rfl, H0, H1, H2, H4, HB⟩
  case round =>
    clear H0 H1 H2 H4 HB
    obtain ⟨k, hk, rfl, H0, H1, H2, H4, HB⟩ := hrel
    have m0 := bi_bd (mulS a b k).v
    have m1 := bi_bd (mulS a b k).m
    obtain ⟨c0, c1⟩ := tcells H0.out
    obtain ⟨c2, c3⟩ := tcells H1.out
    obtain ⟨c8, c9⟩ := tcells H4.out
    by_cases hlt : k < 64
    · have p0 := bpos a.v k
      have p1 := bpos a.m k
      have p5 := obd2 b.v b.m
      cases hm : a.v.getLsbD k
      · have e1 := b0 hm
        cases hn : a.m.getLsbD k
        · have e2 := b0 hn
          have HM := Lib.hid (mulS_no (b := b) hm hn)
          clear hm hn
          go_wp2
          go_roundw
          case rel => exact ⟨k + 1, by omega, by go_num, H0, H1, H2, Lib.hid (bk_t H4.out HM.out.symm), HB⟩
          case measure => simp [intOf]; omega
        · have e2 := b1 hn
          have HM := Lib.hid (mulS_may (b := b) hm hn)
          clear hm hn
          go_wp2_with fail
          refine (refadd_at (mulS a b k) ⟨0#64, (b.v ||| b.m) <<< k⟩ _ _ rfl (orshl _ _ _) _).mono ?_
          rintro e w1 ⟨rfl, qb⟩
          have H0' := Lib.hid (bk_keep H0.out qb)
          have H1' := Lib.hid (bk_keep H1.out qb)
          have H2' := Lib.hid (bk_keep H2.out qb)
          have H4' := Lib.hid (bk_keep H4.out qb)
          have HB' := Lib.hid (below_then HB.out qb (Nat.le_refl _))
          clear H0 H1 H2 H4 HB qb c0 c1 c2 c3 c8 c9
          obtain ⟨c8, c9⟩ := tcells H4'.out
          have f8 := H4'.out.frozen 0
          have f9 := H4'.out.frozen 1
          go_wp2
          go_roundw
          case rel => exact ⟨k + 1, by omega, by go_num, Lib.hid (bk_far (bk_far H0'.out (by omega)) (by omega)), Lib.hid (bk_far (bk_far H1'.out (by omega)) (by omega)), Lib.hid (bk_far (bk_far H2'.out (by omega)) (by omega)), Lib.hid (bk_t (bk_both H4'.out) HM.out.symm), Lib.hid (below_set (below_set HB'.out (by omega)) (by omega))⟩
          case measure => simp [intOf]; omega
      · have e1 := b1 hm
        have HM := Lib.hid (mulS_yes (b := b) hm)
        clear hm
        go_wp2_with fail
        refine (refadd_at (mulS a b k) ⟨0#64, b.m <<< k⟩ _ _ rfl (biw_shl _ _) _).mono ?_
        rintro e w1 ⟨rfl, qb⟩
        have H0' := Lib.hid (bk_keep H0.out qb)
        have H1' := Lib.hid (bk_keep H1.out qb)
        have H2' := Lib.hid (bk_keep H2.out qb)
        have H4' := Lib.hid (bk_keep H4.out qb)
        have HB' := Lib.hid (below_then HB.out qb (Nat.le_refl _))
        clear H0 H1 H2 H4 HB qb c0 c1 c2 c3 c8 c9
        obtain ⟨c8, c9⟩ := tcells H4'.out
        have f8 := H4'.out.frozen 0
        have f9 := H4'.out.frozen 1
        go_wp2
        go_roundw
        case rel => exact ⟨k + 1, by omega, by go_num, Lib.hid (bk_far (bk_far H0'.out (by omega)) (by omega)), Lib.hid (bk_far (bk_far H1'.out (by omega)) (by omega)), Lib.hid (bk_far (bk_far H2'.out (by omega)) (by omega)), Lib.hid (bk_t (bk_both H4'.out) HM.out.symm), Lib.hid (below_set (below_set HB'.out (by omega)) (by omega))⟩
        case measure => simp [intOf]; omega
    · obtain rfl : k = 64 := by omega
      clear m0 m1
      have E0 := Lib.hid (show bi a.v * bi b.v % 18446744073709551616 = bi (a.v * b.v) from bi_mul _ _)
      obtain ⟨c4, c5⟩ := tcells H2.out
      have f4 := H2.out.frozen 0
      have f5 := H2.out.frozen 1
      go_wp2_with fail
      go_region_held3 (fun w' => w'.cell? ⟨w.heap.size, 0, none⟩ = some (.int .u64 (bi a.v)) ∧ w'.cell? ⟨w.heap.size + 1, 0, none⟩ = some (.int .u64 (bi b.v)) ∧ w'.cell? ⟨w.heap.size + 1 + 1 + 1 + 1, 0, none⟩ = some (.int .u64 (bi (mulS a b 64).v)) ∧ w'.cell? ⟨w.heap.size + 1 + 1 + 1 + 1, 1, none⟩ = some (.int .u64 (bi (mulS a b 64).m)) ∧ w'.cell? ⟨w.heap.size + 1 + 1, 0, none⟩ = some (cv w' (w.heap.size + 1 + 1) 0) ∧ w'.cell? ⟨w.heap.size + 1 + 1, 1, none⟩ = some (cv w' (w.heap.size + 1 + 1) 1) ∧ w'.frozen? ⟨w.heap.size + 1 + 1, 0, none⟩ = false ∧ w'.frozen? ⟨w.heap.size + 1 + 1, 1, none⟩ = false ∧ Below w.heap.size w w')
        (first | exact ⟨c0, c2, c8, c9, cv_some c4, cv_some c5, f4, f5, HB.out.drew⟩ | exact sixm_store (by omega) (by omega) (by omega) (by omega) (by assumption) | exact sixm_store (by omega) (by omega) (by omega) (by omega) ⟨by assumption, by assumption, by assumption, by assumption, by assumption, by assumption, by assumption, by assumption, by assumption⟩ | exact sixm_keep qb (by assumption) | exact sixm_keep qb ⟨by assumption, by assumption, by assumption, by assumption, by assumption, by assumption, by assumption, by assumption, by assumption⟩ | exact sixm_keep qb ⟨c0, c2, c8, c9, cv_some c4, cv_some c5, f4, f5, HB.out.drew⟩)
        (first | (go_at_call 16; refine (refof_at _ (a.v * b.v) (by first | exact E0.out | (rw [IntKind.wrap_u64]; exact E0.out)) _).mono ?_; rintro e w2 ⟨rfl, qb⟩) | (go_at_call 27; refine (refadd_any (ofT (a.v * b.v)) (mulS a b 64) _).mono ?_; rintro e w2 ⟨rfl, qb⟩))
      rename_i w1 q1 hH
      have z0 := keep1 qb (keep1 (w0 := wr.drew) q1 c4)
      have z1 := keep1 qb (keep1 (w0 := wr.drew) q1 c5)
      have BB := Lib.hid hH.2.2.2.2.2.2.2.2
      clear hH q1 qb c0 c1 c2 c3 c4 c5 c8 c9 f4 f5 H0 H1 H2 H4 HB
      have r0 := set_fst (u := .int .u64 (bi (addT (ofT (a.v * b.v)) (mulS a b 64)).v)) (v := .int .u64 (bi (addT (ofT (a.v * b.v)) (mulS a b 64)).m)) z0
      have r1 := set_snd (u := .int .u64 (bi (addT (ofT (a.v * b.v)) (mulS a b 64)).v)) (v := .int .u64 (bi (addT (ofT (a.v * b.v)) (mulS a b 64)).m)) z1
      revert BB r0 r1
      generalize World.setCell (World.setCell w2 _ _) _ _ = W
      intro BB r0 r1
      go_wp2
      refine bodyPost_ret (by simp [results, Try.results31, r0, r1, go_sem]; try rfl) rfl ?_
      exact ⟨rfl, BB.out⟩
end Go.Proofs.Ytjjiancacokaiaa
