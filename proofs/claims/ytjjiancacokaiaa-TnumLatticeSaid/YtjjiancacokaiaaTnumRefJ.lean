/-
  What the document's Join and Meet tell: contracts. Conditions: values and masks are numbers of 64 bits; for Meet they may be.
-/
import Derived.Test.YtjjiancacokaiaaTnumRef
namespace Go.Proofs.Ytjjiancacokaiaa
open Go.RowKit Tn Ow
set_option linter.unusedVariables false
set_option linter.unusedSimpArgs false
def jm (a b : T) (i : Nat) : Bool := a.m.getLsbD i || b.m.getLsbD i || (a.v.getLsbD i != b.v.getLsbD i)
def jv (a b : T) (i : Nat) : Bool := !jm a b i && a.v.getLsbD i
theorem j_all (a b : T) : mk (jv a b) 64 = (joinT a b).v ∧ mk (jm a b) 64 = (joinT a b).m := by
  constructor
  · refine mk_all fun i hi => ?_
    unfold jv jm joinT exc
    simp only [BitVec.getLsbD_and, BitVec.getLsbD_or, BitVec.getLsbD_xor, BitVec.getLsbD_not, hi, decide_true, Bool.true_and]
    cases a.v.getLsbD i <;> cases b.v.getLsbD i <;> cases a.m.getLsbD i <;> cases b.m.getLsbD i <;> rfl
  · refine mk_all fun i hi => ?_
    unfold jm joinT exc
    simp only [BitVec.getLsbD_or, BitVec.getLsbD_xor]
    try rfl
theorem mk_bd (f : Nat → Bool) (k : Nat) : 0 ≤ bi (mk f k) ∧ bi (mk f k) ≤ 18446744073709551615 := bi_bd _
theorem bk_snd {w : World} {r : Nat} {x y z z' : Int} (h : Bk w r 24 #[.int .u64 x, .int .u64 y]) (e : z = z') : Bk (w.setCell ⟨r, 1, none⟩ (.int .u64 z)) r 24 #[.int .u64 x, .int .u64 z'] := by
  subst e; exact h.set_ 1 _
theorem bk_fst {w : World} {r : Nat} {x y z z' : Int} (h : Bk w r 24 #[.int .u64 x, .int .u64 y]) (e : z = z') : Bk (w.setCell ⟨r, 0, none⟩ (.int .u64 z)) r 24 #[.int .u64 z', .int .u64 y] := by
  subst e; exact h.set_ 0 _
theorem bk_as {w : World} {r : Nat} {x y x' y' : Int} (h : Bk w r 24 #[.int .u64 x, .int .u64 y]) (e : x = x') (f : y = y') : Bk w r 24 #[.int .u64 x', .int .u64 y'] := by subst e f; exact h
theorem bk_far {w : World} {g r i : Nat} {cs : Array Value} {u : Value} (h : Bk w g 24 cs) (hne : g ≠ r) : Bk (w.setCell ⟨r, i, none⟩ u) g 24 cs := h.far (p := ⟨r, i, none⟩) hne u
theorem below_set {w wr : World} {r i : Nat} {u : Value} (h : Below w.heap.size w wr) (hr : w.heap.size ≤ r) : Below w.heap.size w (wr.setCell ⟨r, i, none⟩ u) := h.setCell (p := ⟨r, i, none⟩) hr u
theorem putw_one (f : Nat → Bool) (k : Nat) (hk : k < 64) (h : f k = true) : bits .or .u64 (bi (mk f k)) (IntKind.u64.wrap (2 ^ k)) = bi (mk f (k + 1)) := by
  have h1 : (2 : Nat) ^ k < 18446744073709551616 := Nat.pow_lt_pow_right (a := 2) (n := 64) (by decide) hk
  have h2 : (2 : Int) ^ k < 18446744073709551616 := by have h9 := Int.ofNat_lt.2 h1; rw [Int.natCast_pow] at h9; exact h9
  have h3 : (0 : Int) < 2 ^ k := Int.pow_pos (by decide)
  rw [IntKind.wrap_u64, show (2 : Int) ^ k % 18446744073709551616 = 2 ^ k by omega]
  exact put_one f k hk h
theorem putw_bit (f : Nat → Bool) (x : BitVec 64) (k j : Nat) (hk : k < 64) (h : f k = x.getLsbD j) :
    bits .or .u64 (bi (mk f k)) (IntKind.u64.wrap (bi x / 2 ^ j % 2 * 2 ^ k)) = bi (mk f (k + 1)) := by
  rw [IntKind.wrap_u64]
  exact put_bit f x k j hk h
set_option maxHeartbeats 4000000 in
theorem refjoin_any (a b : T) (w : World) :
    Calls Try.prog 24 #[.agg #[.int .u64 (bi a.v), .int .u64 (bi a.m)], .agg #[.int .u64 (bi b.v), .int .u64 (bi b.m)]] w fun e w' => e = .returned (.agg #[.int .u64 (bi (joinT a b).v), .int .u64 (bi (joinT a b).m)]) ∧ Below w.heap.size w w' := by
  have h0 := bi_bd a.v
  have h1 := bi_bd a.m
  have h2 := bi_bd b.v
  have h3 := bi_bd b.m
  go_enter Try.func24, Try.ntmps24
  go_wp2_with fail
  have K0 := (((Bk.new w 24 #[.int .u64 (bi a.v), .int .u64 (bi a.m)]).alloc (.cells #[.int .u64 (bi b.v), .int .u64 (bi b.m)] 24)).alloc (.cells #[.int .u64 0, .int .u64 0] 24)).alloc (.cells #[.int .u64 0, .int .u64 0] 24)
  have K1 := ((Bk.new (w.alloc (.cells #[.int .u64 (bi a.v), .int .u64 (bi a.m)] 24)) 24 #[.int .u64 (bi b.v), .int .u64 (bi b.m)]).alloc (.cells #[.int .u64 0, .int .u64 0] 24)).alloc (.cells #[.int .u64 0, .int .u64 0] 24)
  have K2 := (Bk.new ((w.alloc (.cells #[.int .u64 (bi a.v), .int .u64 (bi a.m)] 24)).alloc (.cells #[.int .u64 (bi b.v), .int .u64 (bi b.m)] 24)) 24 #[.int .u64 0, .int .u64 0]).alloc (.cells #[.int .u64 0, .int .u64 0] 24)
  have K3 := Bk.new (((w.alloc (.cells #[.int .u64 (bi a.v), .int .u64 (bi a.m)] 24)).alloc (.cells #[.int .u64 (bi b.v), .int .u64 (bi b.m)] 24)).alloc (.cells #[.int .u64 0, .int .u64 0] 24)) 24 #[.int .u64 0, .int .u64 0]
  rw [World.size_alloc] at K1
  rw [World.size_alloc, World.size_alloc] at K2
  rw [World.size_alloc, World.size_alloc, World.size_alloc] at K3
  have B0 : Below w.heap.size w ((((w.alloc (.cells #[.int .u64 (bi a.v), .int .u64 (bi a.m)] 24)).alloc (.cells #[.int .u64 (bi b.v), .int .u64 (bi b.m)] 24)).alloc (.cells #[.int .u64 0, .int .u64 0] 24)).alloc (.cells #[.int .u64 0, .int .u64 0] 24)) := by go_grown
  generalize ((((w.alloc (.cells #[.int .u64 (bi a.v), .int .u64 (bi a.m)] 24)).alloc (.cells #[.int .u64 (bi b.v), .int .u64 (bi b.m)] 24)).alloc (.cells #[.int .u64 0, .int .u64 0] 24)).alloc (.cells #[.int .u64 0, .int .u64 0] 24)) = w0 at *
  have H0 := Lib.hid K0
  have H1 := Lib.hid K1
  have H2 := Lib.hid K2
  have H3 := Lib.hid K3
  have HB := Lib.hid B0
  clear K0 K1 K2 K3 B0
  go_loopw [6] (fun i wr => ∃ k : Nat, k ≤ 64 ∧ i = .int .u64 k ∧ Hid (Bk wr w.heap.size 24 #[.int .u64 (bi a.v), .int .u64 (bi a.m)]) ∧ Hid (Bk wr (w.heap.size + 1) 24 #[.int .u64 (bi b.v), .int .u64 (bi b.m)]) ∧ Hid (Bk wr (w.heap.size + 1 + 1) 24 #[.int .u64 0, .int .u64 0]) ∧ Hid (Bk wr (w.heap.size + 1 + 1 + 1) 24 #[.int .u64 (bi (mk (jv a b) k)), .int .u64 (bi (mk (jm a b) k))]) ∧ Hid (Below w.heap.size w wr)) (fun i _ => 64 - (intOf i).toNat)
  case atStart => exact ⟨0, Nat.zero_le _, rfl, H0, H1, H2, H3, HB⟩
  case round =>
    clear H0 H1 H2 H3 HB
    obtain ⟨k, hk, rfl, H0, H1, H2, H3, HB⟩ := hrel
    have m0 := mk_bd (jv a b) k
    have m1 := mk_bd (jm a b) k
    obtain ⟨c0, c1⟩ := tcells H0.out
    obtain ⟨c2, c3⟩ := tcells H1.out
    obtain ⟨c4, c5⟩ := tcells H2.out
    obtain ⟨c6, c7⟩ := tcells H3.out
    have f4 := H2.out.frozen 0
    have f5 := H2.out.frozen 1
    have f6 := H3.out.frozen 0
    have f7 := H3.out.frozen 1
    by_cases hlt : k < 64
    · clear c4 c5 f4 f5
      have p0 := bpos a.v k
      have p1 := bpos a.m k
      have p2 := bpos b.v k
      have p3 := bpos b.m k
      cases hm : a.m.getLsbD k
      · have e1 := b0 hm
        cases hn : b.m.getLsbD k
        · have e2 := b0 hn
          by_cases hs : a.v.getLsbD k = b.v.getLsbD k
          · have e3 : (bi a.v / 2 ^ k % 2 != bi b.v / 2 ^ k % 2) = false := by rw [bi_bit, bi_bit, hs]; simp
            have hj : jm a b k = false := by unfold jm; rw [hm, hn, hs]; simp
            have HV := Lib.hid (putw_bit (jv a b) a.v k k hlt (by unfold jv; rw [hj]; rfl))
            have HP := Lib.hid (put_none (jm a b) k hj)
            clear hm hn hs hj
            go_wp2
            go_roundw
            case rel => exact ⟨k + 1, by omega, by go_num, Lib.hid (bk_far H0.out (by omega)), Lib.hid (bk_far H1.out (by omega)), Lib.hid (bk_far H2.out (by omega)), Lib.hid (bk_as (bk_fst H3.out HV.out) rfl (by rw [HP.out])), Lib.hid (below_set HB.out (by omega))⟩
            case measure => simp [intOf]; omega
          · have e3 : (bi a.v / 2 ^ k % 2 != bi b.v / 2 ^ k % 2) = true := by
              rw [bi_bit, bi_bit]
              cases h8 : b.v.getLsbD k <;> cases h9 : a.v.getLsbD k <;> simp_all
            have hj : jm a b k = true := by unfold jm; rw [hm, hn]; simpa using hs
            have HV := Lib.hid (put_none (jv a b) k (by unfold jv; rw [hj]; rfl))
            have HP := Lib.hid (putw_one (jm a b) k hlt hj)
            clear hm hn hs hj
            go_wp2
            go_roundw
            case rel => exact ⟨k + 1, by omega, by go_num, Lib.hid (bk_far H0.out (by omega)), Lib.hid (bk_far H1.out (by omega)), Lib.hid (bk_far H2.out (by omega)), Lib.hid (bk_as (bk_snd H3.out HP.out) (by rw [HV.out]) rfl), Lib.hid (below_set HB.out (by omega))⟩
            case measure => simp [intOf]; omega
        · have e2 := b1 hn
          have hj : jm a b k = true := by unfold jm; rw [hm, hn]; rfl
          have HV := Lib.hid (put_none (jv a b) k (by unfold jv; rw [hj]; rfl))
          have HP := Lib.hid (putw_one (jm a b) k hlt hj)
          clear hm hn hj
          go_wp2
          go_roundw
          case rel => exact ⟨k + 1, by omega, by go_num, Lib.hid (bk_far H0.out (by omega)), Lib.hid (bk_far H1.out (by omega)), Lib.hid (bk_far H2.out (by omega)), Lib.hid (bk_as (bk_snd H3.out HP.out) (by rw [HV.out]) rfl), Lib.hid (below_set HB.out (by omega))⟩
          case measure => simp [intOf]; omega
      · have e1 := b1 hm
        have hj : jm a b k = true := by unfold jm; rw [hm]; rfl
        have HV := Lib.hid (put_none (jv a b) k (by unfold jv; rw [hj]; rfl))
        have HP := Lib.hid (putw_one (jm a b) k hlt hj)
        clear hm hj
        go_wp2
        go_roundw
        case rel => exact ⟨k + 1, by omega, by go_num, Lib.hid (bk_far H0.out (by omega)), Lib.hid (bk_far H1.out (by omega)), Lib.hid (bk_far H2.out (by omega)), Lib.hid (bk_as (bk_snd H3.out HP.out) (by rw [HV.out]) rfl), Lib.hid (below_set HB.out (by omega))⟩
        case measure => simp [intOf]; omega
    · obtain rfl : k = 64 := by omega
      have J := Lib.hid (j_all a b)
      go_wp2_with fail
      have r0 := set_fst (u := .int .u64 (bi (mk (jv a b) 64))) (v := .int .u64 (bi (mk (jm a b) 64))) c4
      have r1 := set_snd (u := .int .u64 (bi (mk (jv a b) 64))) (v := .int .u64 (bi (mk (jm a b) 64))) c5
      have BB := Lib.hid (below_set (i := 1) (u := .int .u64 (bi (mk (jm a b) 64))) (below_set (i := 0) (u := .int .u64 (bi (mk (jv a b) 64))) HB.out (show w.heap.size ≤ w.heap.size + 1 + 1 by omega)) (show w.heap.size ≤ w.heap.size + 1 + 1 by omega))
      clear c0 c1 c2 c3 c4 c5 c6 c7 f4 f5 f6 f7 H0 H1 H2 H3 HB
      revert BB r0 r1
      generalize World.setCell (World.setCell wr _ _) _ _ = W
      intro r0 r1 BB
      refine bodyPost_ret (by simp [results, Try.results24, r0, r1, go_sem]; try rfl) rfl ?_
      exact ⟨rt_t (by rw [J.out.1]) (by rw [J.out.2]), BB.out⟩
end Go.Proofs.Ytjjiancacokaiaa
