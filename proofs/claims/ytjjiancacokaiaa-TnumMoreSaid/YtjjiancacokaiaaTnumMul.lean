/-
  What the program's Mul tells: a contract. Conditions: values and masks are numbers of 64 bits.
-/
import Derived.Test.YtjjiancacokaiaaTnumRefX
import Derived.Deep.RegionWith
import Derived.Deep.DeepCutAuto
import Derived.Deep.CutBlock
namespace Go.Proofs.Ytjjiancacokaiaa
open Go.RowKit Tn Ow
set_option linter.unusedVariables false
set_option linter.unusedSimpArgs false
theorem add_at (s u : T) (x y : Int) (hx : x = bi u.v) (hy : y = bi u.m) (w : World) :
    Calls Try.prog 26 #[.agg #[.int .u64 (bi s.v), .int .u64 (bi s.m)], .agg #[.int .u64 x, .int .u64 y]] w fun e w' => e = .returned (.agg #[.int .u64 (bi (addT s u).v), .int .u64 (bi (addT s u).m)]) ∧ Below w.heap.size w w' := by
  subst hx hy; exact add_any s u w
def cN (w : World) (b i : Nat) : Nat := (intOf ((w.cell? ⟨b, i, none⟩).getD (.bool false))).toNat
theorem cN_of {w : World} {b i : Nat} {x : BitVec 64} (h : w.cell? ⟨b, i, none⟩ = some (.int .u64 (bi x))) : cN w b i = x.toNat := by
  unfold cN; rw [h]; show (bi x).toNat = _; unfold bi; exact Int.toNat_natCast _
theorem low_bit (x : BitVec 64) : (bits .and .u64 (bi x) 1 != 0) = x.getLsbD 0 := by
  have e : (1 : Int) = bi 1#64 := rfl
  rw [e, bi_and, bne, bi_eq0]
  cases h : x.getLsbD 0
  · have : x &&& 1#64 = 0#64 := by
      rw [zero_iff]
      intro i hi
      rw [BitVec.getLsbD_and, BitVec.getLsbD_one]
      by_cases h0 : i = 0
      · subst h0; rw [h]; rfl
      · simp [h0]
    rw [this]; rfl
  · have : x &&& 1#64 ≠ 0#64 := by
      intro h2
      have := (zero_iff _).1 h2 0 (by decide)
      rw [BitVec.getLsbD_and, h] at this
      simp at this
    simpa using this
theorem low_shift (x : BitVec 64) (k : Nat) : (bits .and .u64 (bi (x >>> k)) 1 != 0) = x.getLsbD k := by
  rw [low_bit, BitVec.getLsbD_ushiftRight]; rfl
theorem shr_one (x : BitVec 64) (k : Nat) : x >>> k >>> 1 = x >>> (k + 1) := (BitVec.shiftRight_add x k 1).symm
theorem shl_one (x : BitVec 64) (k : Nat) : x <<< k <<< 1 = x <<< (k + 1) := (BitVec.shiftLeft_add x k 1).symm
theorem gone (x : BitVec 64) (k : Nat) (h : x >>> k = 0#64) (j : Nat) (hj : k ≤ j) : x.getLsbD j = false := by
  have := congrArg (fun z : BitVec 64 => z.getLsbD (j - k)) h
  simp only [BitVec.getLsbD_ushiftRight, BitVec.getLsbD_zero] at this
  rw [show k + (j - k) = j by omega] at this
  exact this
theorem mul_done {a b : T} {k : Nat} (hk : k ≤ 64) (h1 : a.v >>> k = 0#64) (h2 : a.m >>> k = 0#64) : mulS a b k = mulS a b 64 := by
  have := mulS_stays a b k (fun j hj => ⟨gone a.v k h1 j hj, gone a.m k h2 j hj⟩) (64 - k)
  rw [show k + (64 - k) = 64 by omega] at this
  exact this.symm
theorem not_done {x : BitVec 64} {k : Nat} (h : x >>> k ≠ 0#64) : k < 64 := by
  by_cases hk : k < 64
  · exact hk
  · exact absurd (bt_ext fun i hi => by rw [BitVec.getLsbD_ushiftRight, BitVec.getLsbD_zero]; exact BitVec.getLsbD_of_ge _ _ (by omega)) h
theorem halves (x y : BitVec 64) (h : ¬ (x = 0#64 ∧ y = 0#64)) : (x >>> 1).toNat + (y >>> 1).toNat < x.toNat + y.toNat := by
  have h1 : ¬ (x.toNat = 0 ∧ y.toNat = 0) := fun e => h ⟨BitVec.eq_of_toNat_eq (by simpa using e.1), BitVec.eq_of_toNat_eq (by simpa using e.2)⟩
  rw [BitVec.toNat_ushiftRight, BitVec.toNat_ushiftRight, Nat.shiftRight_eq_div_pow, Nat.shiftRight_eq_div_pow]
  omega
theorem zero_neq (x y : BitVec 64) (h : x = 0#64 ∧ y = 0#64) (w : World) : (binOp .neq 24 (.agg #[.int .u64 (bi x), .int .u64 (bi y)]) (.agg #[.int .u64 (bi (ofT 0#64).v), .int .u64 (bi (ofT 0#64).m)])).run Try.prog w = .ok (.bool false) w := by
  obtain ⟨rfl, rfl⟩ := h
  exact tn_neq (ofT 0#64) (ofT 0#64) w
theorem some_neq (x y : BitVec 64) (h : ¬ (x = 0#64 ∧ y = 0#64)) (w : World) : (binOp .neq 24 (.agg #[.int .u64 (bi x), .int .u64 (bi y)]) (.agg #[.int .u64 (bi (ofT 0#64).v), .int .u64 (bi (ofT 0#64).m)])).run Try.prog w = .ok (.bool true) w := by
  have := tn_neq ⟨x, y⟩ (ofT 0#64) w
  have e : sameT ⟨x, y⟩ (ofT 0#64) = false := by
    cases hs : sameT ⟨x, y⟩ (ofT 0#64)
    · rfl
    · have := (same_iff _ _).1 hs
      injection this with e1 e2
      exact absurd ⟨e1, e2⟩ h
  rw [e] at this
  exact this
theorem keepf {w0 w1 : World} {p : Addr} {v : Value} (q : Below w0.heap.size w0 w1) (h : w0.cell? p = some v) (f : w0.frozen? p = false) : w1.frozen? p = false :=
  (q.frozen (World.block_lt_of_cell? w0 _ h)).trans f
theorem undrew {w w' : World} (h : Below w.drew.heap.size w.drew w') : Below w.heap.size w w' := ⟨h.os, h.tape, h.output, h.size, h.block⟩
theorem two_keep {w W w2 : World} {g : Nat} {v0 v1 : Value} (hb : Below W.heap.size W w2)
    (hh : W.cell? ⟨g, 0, none⟩ = some v0 ∧ W.cell? ⟨g, 1, none⟩ = some v1 ∧ Below w.heap.size w W) :
    w2.cell? ⟨g, 0, none⟩ = some v0 ∧ w2.cell? ⟨g, 1, none⟩ = some v1 ∧ Below w.heap.size w w2 :=
  ⟨keep1 hb hh.1, keep1 hb hh.2.1, below_then hh.2.2 hb (Nat.le_refl _)⟩
set_option maxHeartbeats 8000000 in
theorem mul_any (a b : T) (w : World) :
    Calls Try.prog 30 #[.agg #[.int .u64 (bi a.v), .int .u64 (bi a.m)], .agg #[.int .u64 (bi b.v), .int .u64 (bi b.m)]] w fun e w' => e = .returned (.agg #[.int .u64 (bi (mulT a b).v), .int .u64 (bi (mulT a b).m)]) ∧ Below w.heap.size w w' := by
  have h0 := bi_bd a.v
  have h1 := bi_bd a.m
  have h2 := bi_bd b.v
  have h3 := bi_bd b.m
  go_enter Try.func30, Try.ntmps30
  go_wp2
  have K0 := (((((((Bk.new w 24 #[.int .u64 (bi a.v), .int .u64 (bi a.m)]).alloc (.cells #[.int .u64 (bi b.v), .int .u64 (bi b.m)] 24)).alloc (.cells #[.int .u64 0, .int .u64 0] 24)).alloc (.cells #[.int .u64 (IntKind.u64.wrap (bi a.v * bi b.v)), .int .u64 0] 24)).alloc (.cells #[.int .u64 0, .int .u64 0] 24)).alloc (.cells #[.int .u64 (IntKind.u64.wrap (bi a.v * bi b.v)), .int .u64 0] 24)).alloc (.cells #[.int .u64 0, .int .u64 0] 24))
  have K1 := ((((((Bk.new (w.alloc (.cells #[.int .u64 (bi a.v), .int .u64 (bi a.m)] 24)) 24 #[.int .u64 (bi b.v), .int .u64 (bi b.m)]).alloc (.cells #[.int .u64 0, .int .u64 0] 24)).alloc (.cells #[.int .u64 (IntKind.u64.wrap (bi a.v * bi b.v)), .int .u64 0] 24)).alloc (.cells #[.int .u64 0, .int .u64 0] 24)).alloc (.cells #[.int .u64 (IntKind.u64.wrap (bi a.v * bi b.v)), .int .u64 0] 24)).alloc (.cells #[.int .u64 0, .int .u64 0] 24))
  rw [World.size_alloc] at K1
  have K2 := (((((Bk.new ((w.alloc (.cells #[.int .u64 (bi a.v), .int .u64 (bi a.m)] 24)).alloc (.cells #[.int .u64 (bi b.v), .int .u64 (bi b.m)] 24)) 24 #[.int .u64 0, .int .u64 0]).alloc (.cells #[.int .u64 (IntKind.u64.wrap (bi a.v * bi b.v)), .int .u64 0] 24)).alloc (.cells #[.int .u64 0, .int .u64 0] 24)).alloc (.cells #[.int .u64 (IntKind.u64.wrap (bi a.v * bi b.v)), .int .u64 0] 24)).alloc (.cells #[.int .u64 0, .int .u64 0] 24))
  rw [World.size_alloc, World.size_alloc] at K2
  have K5 := ((Bk.new (((((w.alloc (.cells #[.int .u64 (bi a.v), .int .u64 (bi a.m)] 24)).alloc (.cells #[.int .u64 (bi b.v), .int .u64 (bi b.m)] 24)).alloc (.cells #[.int .u64 0, .int .u64 0] 24)).alloc (.cells #[.int .u64 (IntKind.u64.wrap (bi a.v * bi b.v)), .int .u64 0] 24)).alloc (.cells #[.int .u64 0, .int .u64 0] 24)) 24 #[.int .u64 (IntKind.u64.wrap (bi a.v * bi b.v)), .int .u64 0]).alloc (.cells #[.int .u64 0, .int .u64 0] 24))
  rw [World.size_alloc, World.size_alloc, World.size_alloc, World.size_alloc, World.size_alloc] at K5
  have K6 := (Bk.new ((((((w.alloc (.cells #[.int .u64 (bi a.v), .int .u64 (bi a.m)] 24)).alloc (.cells #[.int .u64 (bi b.v), .int .u64 (bi b.m)] 24)).alloc (.cells #[.int .u64 0, .int .u64 0] 24)).alloc (.cells #[.int .u64 (IntKind.u64.wrap (bi a.v * bi b.v)), .int .u64 0] 24)).alloc (.cells #[.int .u64 0, .int .u64 0] 24)).alloc (.cells #[.int .u64 (IntKind.u64.wrap (bi a.v * bi b.v)), .int .u64 0] 24)) 24 #[.int .u64 0, .int .u64 0])
  rw [World.size_alloc, World.size_alloc, World.size_alloc, World.size_alloc, World.size_alloc, World.size_alloc] at K6
  have B0 : Below w.heap.size w (((((((w.alloc (.cells #[.int .u64 (bi a.v), .int .u64 (bi a.m)] 24)).alloc (.cells #[.int .u64 (bi b.v), .int .u64 (bi b.m)] 24)).alloc (.cells #[.int .u64 0, .int .u64 0] 24)).alloc (.cells #[.int .u64 (IntKind.u64.wrap (bi a.v * bi b.v)), .int .u64 0] 24)).alloc (.cells #[.int .u64 0, .int .u64 0] 24)).alloc (.cells #[.int .u64 (IntKind.u64.wrap (bi a.v * bi b.v)), .int .u64 0] 24)).alloc (.cells #[.int .u64 0, .int .u64 0] 24)) := by go_grown
  generalize (((((((w.alloc (.cells #[.int .u64 (bi a.v), .int .u64 (bi a.m)] 24)).alloc (.cells #[.int .u64 (bi b.v), .int .u64 (bi b.m)] 24)).alloc (.cells #[.int .u64 0, .int .u64 0] 24)).alloc (.cells #[.int .u64 (IntKind.u64.wrap (bi a.v * bi b.v)), .int .u64 0] 24)).alloc (.cells #[.int .u64 0, .int .u64 0] 24)).alloc (.cells #[.int .u64 (IntKind.u64.wrap (bi a.v * bi b.v)), .int .u64 0] 24)).alloc (.cells #[.int .u64 0, .int .u64 0] 24)) = w0 at *
  have H0 := Lib.hid K0
  have H1 := Lib.hid K1
  have H2 := Lib.hid K2
  have H5 := Lib.hid K5
  have H6 := Lib.hid K6
  have HB := Lib.hid B0
  clear K0 K1 K2 K5 K6 B0
  have e5 := biw_mul a.v b.v
  go_loopw [] (fun wr => ∃ k : Nat, k ≤ 64 ∧ Hid (Bk wr w.heap.size 24 #[.int .u64 (bi (a.v >>> k)), .int .u64 (bi (a.m >>> k))]) ∧ Hid (Bk wr (w.heap.size + 1) 24 #[.int .u64 (bi (b.v <<< k)), .int .u64 (bi (b.m <<< k))]) ∧ Hid (Bk wr (w.heap.size + 1 + 1) 24 #[.int .u64 0, .int .u64 0]) ∧ Hid (Bk wr (w.heap.size + 1 + 1 + 1 + 1 + 1) 24 #[.int .u64 (bi (a.v * b.v)), .int .u64 0]) ∧ Hid (Bk wr (w.heap.size + 1 + 1 + 1 + 1 + 1 + 1) 24 #[.int .u64 (bi (mulS a b k).v), .int .u64 (bi (mulS a b k).m)]) ∧ Hid (Below w.heap.size w wr)) (fun wr => cN wr w.heap.size 0 + cN wr w.heap.size 1)
  case atStart => exact ⟨0, Nat.zero_le _, Lib.hid (bk_as H0.out (by simp) (by simp)), Lib.hid (bk_as H1.out (by simp) (by simp)), H2, Lib.hid (bk_as H5.out e5 rfl), H6, HB⟩
  case round =>
    clear H0 H1 H2 H5 H6 HB e5
    obtain ⟨k, hk, H0, H1, H2, H5, H6, HB⟩ := hrel
    obtain ⟨c0, c1⟩ := tcells H0.out
    by_cases hz : a.v >>> k = 0#64 ∧ a.m >>> k = 0#64
    · have q1 := zero_neq _ _ hz
      have q2 := tn_guard .neq ⟨a.v >>> k, a.m >>> k⟩ (ofT 0#64)
      have HD := Lib.hid (mul_done (b := b) hk hz.1 hz.2)
      clear hz
      go_wp2_with fail
      go_region_held3 (fun w' => w'.cell? ⟨w.heap.size, 0, none⟩ = some (.int .u64 (bi (a.v >>> k))) ∧ w'.cell? ⟨w.heap.size, 1, none⟩ = some (.int .u64 (bi (a.m >>> k))) ∧ Below w.heap.size w w')
        (first | exact ⟨c0, c1, HB.out.drew⟩ | exact two_keep qb (by assumption) | exact two_keep qb ⟨by assumption, by assumption, by assumption⟩ | exact two_keep qb ⟨c0, c1, HB.out.drew⟩)
        (first | (go_at_call 15; refine (of_any 0#64 _).mono ?_; rintro e w2 ⟨rfl, qb⟩))
      all_goals
        clear q1 q2
        rename_i hH
        clear hH
        have H0' := Lib.hid (bk_keep (w := wr.drew) H0.out qb)
        have H1' := Lib.hid (bk_keep (w := wr.drew) H1.out qb)
        have H2' := Lib.hid (bk_keep (w := wr.drew) H2.out qb)
        have H5' := Lib.hid (bk_keep (w := wr.drew) H5.out qb)
        have H6' := Lib.hid (bk_keep (w := wr.drew) H6.out qb)
        have HB' := Lib.hid (below_then (w1 := wr.drew) HB.out.drew qb (Nat.le_refl _))
        clear H0 H1 H2 H5 H6 HB qb c0 c1
        obtain ⟨c5, c5'⟩ := tcells H5'.out
        obtain ⟨c6, c6'⟩ := tcells H6'.out
        have m0 := bi_bd (a.v * b.v)
        have m1 := bi_bd (mulS a b k).v
        have m2 := bi_bd (mulS a b k).m
        go_wp2_with fail
        refine (add_any (ofT (a.v * b.v)) (mulS a b k) _).mono ?_
        rintro e w3 ⟨rfl, qb⟩
        have K2 := bk_keep H2'.out qb
        have BB := below_then HB'.out qb (Nat.le_refl _)
        obtain ⟨z0, z1⟩ := tcells K2
        have f4 := K2.frozen 0
        have f5 := K2.frozen 1
        clear H0' H1' H2' H5' H6' HB' qb c5 c5' c6 c6' K2
        go_wp2_with fail
        have r0 := set_fst (u := .int .u64 (bi (addT (ofT (a.v * b.v)) (mulS a b k)).v)) (v := .int .u64 (bi (addT (ofT (a.v * b.v)) (mulS a b k)).m)) z0
        have r1 := set_snd (u := .int .u64 (bi (addT (ofT (a.v * b.v)) (mulS a b k)).v)) (v := .int .u64 (bi (addT (ofT (a.v * b.v)) (mulS a b k)).m)) z1
        have BC := Lib.hid (below_set (i := 1) (u := .int .u64 (bi (addT (ofT (a.v * b.v)) (mulS a b k)).m)) (below_set (i := 0) (u := .int .u64 (bi (addT (ofT (a.v * b.v)) (mulS a b k)).v)) BB (show w.heap.size ≤ w.heap.size + 1 + 1 by omega)) (show w.heap.size ≤ w.heap.size + 1 + 1 by omega))
        clear z0 z1 f4 f5 BB
        revert BC r0 r1
        generalize World.setCell (World.setCell w3 _ _) _ _ = W
        intro r0 r1 BC
        refine bodyPost_ret (by simp [results, Try.results30, r0, r1, go_sem]; try rfl) rfl ?_
        refine ⟨?_, BC.out⟩
        unfold mulT
        rw [HD.out]
    · have q1 := some_neq _ _ hz
      have q2 := tn_guard .neq ⟨a.v >>> k, a.m >>> k⟩ (ofT 0#64)
      have HZ := Lib.hid (halves _ _ hz)
      have hk2 : k < 64 := by
        by_cases h8 : a.v >>> k = 0#64
        · exact not_done (fun h9 => hz ⟨h8, h9⟩)
        · exact not_done h8
      clear hz
      go_wp2_with fail
      go_region_held3 (fun w' => w'.cell? ⟨w.heap.size, 0, none⟩ = some (.int .u64 (bi (a.v >>> k))) ∧ w'.cell? ⟨w.heap.size, 1, none⟩ = some (.int .u64 (bi (a.m >>> k))) ∧ Below w.heap.size w w')
        (first | exact ⟨c0, c1, HB.out.drew⟩ | exact two_keep qb (by assumption) | exact two_keep qb ⟨by assumption, by assumption, by assumption⟩ | exact two_keep qb ⟨c0, c1, HB.out.drew⟩)
        (first | (go_at_call 15; refine (of_any 0#64 _).mono ?_; rintro e w2 ⟨rfl, qb⟩))
      clear q1 q2
      rename_i hH
      clear hH
      have HC := Lib.hid (show cN wr w.heap.size 0 + cN wr w.heap.size 1 = (a.v >>> k).toNat + (a.m >>> k).toNat by rw [cN_of c0, cN_of c1])
      have H0' := Lib.hid (bk_keep (w := wr.drew) H0.out qb)
      have H1' := Lib.hid (bk_keep (w := wr.drew) H1.out qb)
      have H2' := Lib.hid (bk_keep (w := wr.drew) H2.out qb)
      have H5' := Lib.hid (bk_keep (w := wr.drew) H5.out qb)
      have H6' := Lib.hid (bk_keep (w := wr.drew) H6.out qb)
      have HB' := Lib.hid (below_then (w1 := wr.drew) HB.out.drew qb (Nat.le_refl _))
      clear H0 H1 H2 H5 H6 HB qb c0 c1
      go_upto_block 2 with (fail)
      go_cut [] (fun wx => Hid (Bk wx w.heap.size 24 #[.int .u64 (bi (a.v >>> k)), .int .u64 (bi (a.m >>> k))]) ∧ Hid (Bk wx (w.heap.size + 1) 24 #[.int .u64 (bi (b.v <<< k)), .int .u64 (bi (b.m <<< k))]) ∧ Hid (Bk wx (w.heap.size + 1 + 1) 24 #[.int .u64 0, .int .u64 0]) ∧ Hid (Bk wx (w.heap.size + 1 + 1 + 1 + 1 + 1) 24 #[.int .u64 (bi (a.v * b.v)), .int .u64 0]) ∧ Hid (Bk wx (w.heap.size + 1 + 1 + 1 + 1 + 1 + 1) 24 #[.int .u64 (bi (mulS a b (k + 1)).v), .int .u64 (bi (mulS a b (k + 1)).m)]) ∧ Hid (Below w.heap.size w wx))
      case first =>
        obtain ⟨c0, c1⟩ := tcells H0'.out
        obtain ⟨c2, c3⟩ := tcells H1'.out
        obtain ⟨c6, c7⟩ := tcells H6'.out
        have f6 := H6'.out.frozen 0
        have f7 := H6'.out.frozen 1
        have p0 := bi_bd (a.v >>> k)
        have p1 := bi_bd (a.m >>> k)
        cases hm : a.v.getLsbD k
        · have e1 : (bits .and .u64 (bi (a.v >>> k)) 1 != 0) = false := by rw [low_shift, hm]
          cases hn : a.m.getLsbD k
          · have e2 : (bits .and .u64 (bi (a.m >>> k)) 1 != 0) = false := by rw [low_shift, hn]
            have HM := Lib.hid (mulS_no (b := b) hm hn)
            clear hm hn
            go_wp2_with fail
            go_meet
            exact ⟨H0', H1', H2', H5', Lib.hid (bk_t H6'.out HM.out.symm), HB'⟩
          · have e2 : (bits .and .u64 (bi (a.m >>> k)) 1 != 0) = true := by rw [low_shift, hn]
            have HM := Lib.hid (mulS_may (b := b) hm hn)
            clear hm hn
            go_wp2_with fail
            go_region_with (first | (go_at_call 52; refine (poss_any ⟨b.v <<< k, b.m <<< k⟩ _).mono ?_; rintro e w3 ⟨rfl, qa⟩; have s6 := keep1 qa c6; have s7 := keep1 qa c7; have t6 := keepf qa c6 f6; have t7 := keepf qa c7 f7) | (go_at_call 26; refine (add_at (mulS a b k) ⟨0#64, (b.v ||| b.m) <<< k⟩ _ _ rfl (by rw [BitVec.shiftLeft_or_distrib]) _).mono ?_; rintro e w4 ⟨rfl, qb⟩; have s6' := keep1 qb s6; have s7' := keep1 qb s7; have t6' := keepf qb s6 t6; have t7' := keepf qb s7 t7))
            all_goals
              have GA : Below w2.heap.size w2 w3 := by first | exact qa | exact undrew qa
              have GQ : Below w3.heap.size w3 w4 := by first | exact qb | exact undrew qb
              have G0 := Lib.hid (bk_keep (bk_keep H0'.out GA) GQ)
              have G1 := Lib.hid (bk_keep (bk_keep H1'.out GA) GQ)
              have G2 := Lib.hid (bk_keep (bk_keep H2'.out GA) GQ)
              have G5 := Lib.hid (bk_keep (bk_keep H5'.out GA) GQ)
              have G6 := Lib.hid (bk_keep (bk_keep H6'.out GA) GQ)
              have GB := Lib.hid (below_then (below_then HB'.out GA (Nat.le_refl _)) GQ (Nat.le_refl _))
              clear H0' H1' H2' H5' H6' HB' qa qb GA GQ c0 c1 c2 c3 c6 c7 f6 f7 s6 s7 t6 t7 s6' s7' t6' t7'
              go_wp2_with fail
              go_meet
              exact ⟨Lib.hid (bk_far (bk_far G0.out (by omega)) (by omega)), Lib.hid (bk_far (bk_far G1.out (by omega)) (by omega)), Lib.hid (bk_far (bk_far G2.out (by omega)) (by omega)), Lib.hid (bk_far (bk_far G5.out (by omega)) (by omega)), Lib.hid (bk_t (bk_both G6.out) HM.out.symm), Lib.hid (below_set (below_set GB.out (by omega)) (by omega))⟩
        · have e1 : (bits .and .u64 (bi (a.v >>> k)) 1 != 0) = true := by rw [low_shift, hm]
          have HM := Lib.hid (mulS_yes (b := b) hm)
          clear hm
          go_wp2_with fail
          refine (add_at (mulS a b k) ⟨0#64, b.m <<< k⟩ _ _ rfl rfl _).mono ?_
          rintro e w3 ⟨rfl, qb⟩
          have G0 := Lib.hid (bk_keep H0'.out qb)
          have G1 := Lib.hid (bk_keep H1'.out qb)
          have G2 := Lib.hid (bk_keep H2'.out qb)
          have G5 := Lib.hid (bk_keep H5'.out qb)
          have G6 := Lib.hid (bk_keep H6'.out qb)
          have GB := Lib.hid (below_then HB'.out qb (Nat.le_refl _))
          clear H0' H1' H2' H5' H6' HB' qb c0 c1 c2 c3 c6 c7 f6 f7
          obtain ⟨c6, c7⟩ := tcells G6.out
          have f6 := G6.out.frozen 0
          have f7 := G6.out.frozen 1
          go_wp2_with fail
          go_meet
          exact ⟨Lib.hid (bk_far (bk_far G0.out (by omega)) (by omega)), Lib.hid (bk_far (bk_far G1.out (by omega)) (by omega)), Lib.hid (bk_far (bk_far G2.out (by omega)) (by omega)), Lib.hid (bk_far (bk_far G5.out (by omega)) (by omega)), Lib.hid (bk_t (bk_both G6.out) HM.out.symm), Lib.hid (below_set (below_set GB.out (by omega)) (by omega))⟩
      case rest =>
        clear H0' H1' H2' H5' H6' HB'
        obtain ⟨H0, H1, H2, H5, H6, HB⟩ := hcut
        obtain ⟨c0, c1⟩ := tcells H0.out
        obtain ⟨c2, c3⟩ := tcells H1.out
        have f0 := H0.out.frozen 0
        have f1 := H0.out.frozen 1
        have f2 := H1.out.frozen 0
        have f3 := H1.out.frozen 1
        go_wp2_with fail
        go_region_with (first | (go_at_call 40; refine (rsh_any ⟨a.v >>> k, a.m >>> k⟩ 1 1 (by decide) (by decide) _).mono ?_; rintro e w3 ⟨rfl, qa⟩; have s0 := keep1 qa c0; have s1 := keep1 qa c1; have s2 := keep1 qa c2; have s3 := keep1 qa c3; have t0 := keepf qa c0 f0; have t1 := keepf qa c1 f1; have t2 := keepf qa c2 f2; have t3 := keepf qa c3 f3) | (go_at_call 38; refine (lsh_any ⟨b.v <<< k, b.m <<< k⟩ 1 1 (by decide) (by decide) _).mono ?_; rintro e w4 ⟨rfl, qb⟩; have s0' := keep1 qb s0; have s1' := keep1 qb s1; have s2' := keep1 qb s2; have s3' := keep1 qb s3; have t0' := keepf qb s0 t0; have t1' := keepf qb s1 t1; have t2' := keepf qb s2 t2; have t3' := keepf qb s3 t3))
        all_goals
          have GA : Below wc.heap.size wc w3 := by first | exact qa | exact undrew qa
          have GQ : Below w3.heap.size w3 w4 := by first | exact qb | exact undrew qb
          have G0 := Lib.hid (bk_keep (bk_keep H0.out GA) GQ)
          have G1 := Lib.hid (bk_keep (bk_keep H1.out GA) GQ)
          have G2 := Lib.hid (bk_keep (bk_keep H2.out GA) GQ)
          have G5 := Lib.hid (bk_keep (bk_keep H5.out GA) GQ)
          have G6 := Lib.hid (bk_keep (bk_keep H6.out GA) GQ)
          have GB := Lib.hid (below_then (below_then HB.out GA (Nat.le_refl _)) GQ (Nat.le_refl _))
          clear H0 H1 H2 H5 H6 HB qa qb GA GQ c0 c1 c2 c3 f0 f1 f2 f3 s0 s1 s2 s3 t0 t1 t2 t3 s0' s1' s2' s3' t0' t1' t2' t3'
          have e1 : bi (rshT ⟨a.v >>> k, a.m >>> k⟩ 1).v = bi (a.v >>> (k + 1)) := by show bi (a.v >>> k >>> 1) = _; rw [shr_one]
          have e2 : bi (rshT ⟨a.v >>> k, a.m >>> k⟩ 1).m = bi (a.m >>> (k + 1)) := by show bi (a.m >>> k >>> 1) = _; rw [shr_one]
          have e3 : bi (lshT ⟨b.v <<< k, b.m <<< k⟩ 1).v = bi (b.v <<< (k + 1)) := by show bi (b.v <<< k <<< 1) = _; rw [shl_one]
          have e4 : bi (lshT ⟨b.v <<< k, b.m <<< k⟩ 1).m = bi (b.m <<< (k + 1)) := by show bi (b.m <<< k <<< 1) = _; rw [shl_one]
          have E1 := Lib.hid e1
          have E2 := Lib.hid e2
          have E3 := Lib.hid e3
          have E4 := Lib.hid e4
          clear e1 e2 e3 e4
          go_wp2_with fail
          go_roundw
          case rel => exact ⟨k + 1, by omega, Lib.hid (bk_as (bk_far (bk_far (bk_both G0.out) (by omega)) (by omega)) E1.out E2.out), Lib.hid (bk_as (bk_both (bk_far (bk_far G1.out (by omega)) (by omega))) E3.out E4.out), Lib.hid (bk_far (bk_far (bk_far (bk_far G2.out (by omega)) (by omega)) (by omega)) (by omega)), Lib.hid (bk_far (bk_far (bk_far (bk_far G5.out (by omega)) (by omega)) (by omega)) (by omega)), Lib.hid (bk_far (bk_far (bk_far (bk_far G6.out (by omega)) (by omega)) (by omega)) (by omega)), Lib.hid (below_set (below_set (below_set (below_set GB.out (by omega)) (by omega)) (by omega)) (by omega))⟩
          case measure =>
            have KK := tcells (bk_as (bk_far (r := w.heap.size + 1) (i := 1) (u := .int .u64 (bi (lshT ⟨b.v <<< k, b.m <<< k⟩ 1).m)) (bk_far (r := w.heap.size + 1) (i := 0) (u := .int .u64 (bi (lshT ⟨b.v <<< k, b.m <<< k⟩ 1).v)) (bk_both (z := bi (rshT ⟨a.v >>> k, a.m >>> k⟩ 1).v) (t := bi (rshT ⟨a.v >>> k, a.m >>> k⟩ 1).m) G0.out) (by omega)) (by omega)) E1.out E2.out)
            have z1 := cN_of KK.1
            have z2 := cN_of KK.2
            have z3 := HC.out
            have z4 := HZ.out
            rw [shr_one, shr_one] at z4
            rw [z3]
            refine Nat.lt_of_le_of_lt (Nat.le_of_eq ?_) z4
            rw [← z1, ← z2]
end Go.Proofs.Ytjjiancacokaiaa
