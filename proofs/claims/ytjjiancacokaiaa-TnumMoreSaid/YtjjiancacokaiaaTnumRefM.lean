/-
  What the document's Meet tells: a contract. Conditions: values and masks are numbers of 64 bits; the tnums may be.
-/
import Derived.Test.YtjjiancacokaiaaTnumRefJ
namespace Go.Proofs.Ytjjiancacokaiaa
open Go.RowKit Tn Ow
set_option linter.unusedVariables false
set_option linter.unusedSimpArgs false
def mm (a b : T) (i : Nat) : Bool := a.m.getLsbD i && b.m.getLsbD i
def mv (a b : T) (i : Nat) : Bool := (a.v ||| b.v).getLsbD i
def meK (a b : T) (k : Nat) : Prop := ∀ i, i < k → a.m.getLsbD i = false → b.m.getLsbD i = false → a.v.getLsbD i = b.v.getLsbD i
theorem meK_step {a b : T} {k : Nat} (h : meK a b k) (h1 : a.m.getLsbD k = false → b.m.getLsbD k = false → a.v.getLsbD k = b.v.getLsbD k) : meK a b (k + 1) := by
  intro i hi
  by_cases e : i = k
  · subst e; exact h1
  · exact h i (by omega)
theorem meK_not {a b : T} {k : Nat} (hk : k < 64) (h1 : a.m.getLsbD k = false) (h2 : b.m.getLsbD k = false) (h3 : a.v.getLsbD k ≠ b.v.getLsbD k) : meetOk a b = false := by
  cases h : meetOk a b
  · rfl
  · exact absurd ((meet_iff a b).1 h k hk h1 h2) h3
theorem me_all {a b : T} (ha : mayT a) (hb : mayT b) (h : meK a b 64) : meetOk a b = true ∧ mk (mv a b) 64 = (meetT a b).v ∧ mk (mm a b) 64 = (meetT a b).m := by
  have h1 : meetOk a b = true := (meet_iff a b).2 h
  refine ⟨h1, ?_, ?_⟩
  · rw [meet_yes h1]
    refine mk_all fun i hi => ?_
    have h2 := (may_iff a).1 ha i hi
    have h3 := (may_iff b).1 hb i hi
    unfold mv exc
    simp only [BitVec.getLsbD_and, BitVec.getLsbD_or, BitVec.getLsbD_not, hi, decide_true, Bool.true_and]
    revert h2 h3
    cases a.v.getLsbD i <;> cases b.v.getLsbD i <;> cases a.m.getLsbD i <;> cases b.m.getLsbD i <;> simp
  · rw [meet_yes h1]
    refine mk_all fun i hi => ?_
    unfold mm exc
    simp only [BitVec.getLsbD_and]
theorem mput (a b : T) (k : Nat) (hk : k < 64) : bits .or .u64 (bi (mk (mv a b) k)) (IntKind.u64.wrap (bits .or .u64 (bi a.v) (bi b.v) / 2 ^ k % 2 * 2 ^ k)) = bi (mk (mv a b) (k + 1)) := by
  rw [bi_or a.v b.v]
  exact putw_bit (mv a b) (a.v ||| b.v) k k hk rfl
theorem opos (x y : BitVec 64) (k : Nat) : 0 ≤ bits .or .u64 (bi x) (bi y) / 2 ^ k ∧ bits .or .u64 (bi x) (bi y) / 2 ^ k ≤ 18446744073709551615 := by rw [bi_or]; exact bpos _ _
theorem obd (x y : BitVec 64) : 0 ≤ bits .or .u64 (bi x) (bi y) ∧ bits .or .u64 (bi x) (bi y) ≤ 18446744073709551615 := by rw [bi_or]; exact bi_bd _
set_option maxHeartbeats 4000000 in
theorem refmeet_any (a b : T) (ha : mayT a) (hb : mayT b) (w : World) :
    Calls Try.prog 14 #[.agg #[.int .u64 (bi a.v), .int .u64 (bi a.m)], .agg #[.int .u64 (bi b.v), .int .u64 (bi b.m)]] w fun e w' => e = .returned (.tuple #[.agg #[.int .u64 (bi (meetT a b).v), .int .u64 (bi (meetT a b).m)], .bool (meetOk a b)]) ∧ Below w.heap.size w w' := by
  have HA := Lib.hid ha
  have HBb := Lib.hid hb
  clear ha hb
  have h0 := bi_bd a.v
  have h1 := bi_bd a.m
  have h2 := bi_bd b.v
  have h3 := bi_bd b.m
  go_enter Try.func14, Try.ntmps14
  go_wp2_with fail
  have K0 := (((Bk.new w 24 #[.int .u64 (bi a.v), .int .u64 (bi a.m)]).alloc (.cells #[.int .u64 (bi b.v), .int .u64 (bi b.m)] 24)).alloc (.cells #[.int .u64 0, .int .u64 0] 24)).alloc (.cells #[.int .u64 0, .int .u64 0] 24)
  have K1 := ((Bk.new (w.alloc (.cells #[.int .u64 (bi a.v), .int .u64 (bi a.m)] 24)) 24 #[.int .u64 (bi b.v), .int .u64 (bi b.m)]).alloc (.cells #[.int .u64 0, .int .u64 0] 24)).alloc (.cells #[.int .u64 0, .int .u64 0] 24)
  have K2 := (Bk.new ((w.alloc (.cells #[.int .u64 (bi a.v), .int .u64 (bi a.m)] 24)).alloc (.cells #[.int .u64 (bi b.v), .int .u64 (bi b.m)] 24)) 24 #[.int .u64 0, .int .u64 0]).alloc (.cells #[.int .u64 0, .int .u64 0] 24)
  have K3 := Bk.new (((w.alloc (.cells #[.int .u64 (bi a.v), .int .u64 (bi a.m)] 24)).alloc (.cells #[.int .u64 (bi b.v), .int .u64 (bi b.m)] 24)).alloc (.cells #[.int .u64 0, .int .u64 0] 24)) 24 #[.int .u64 0, .int .u64 0]
  rw [World.size_alloc] at K1
  rw [World.size_alloc, World.size_alloc] at K2
  rw [World.size_alloc, World.size_alloc, World.size_alloc] at K3
  have B0 : Below w.heap.size w ((((w.alloc (.cells #[.int .u64 (bi a.v), .int .u64 (bi a.m)] 24)).alloc (.cells #[.int .u64 (bi b.v), .int .u64 (bi b.m)] 24)).alloc (.cells #[.int .u64 0, .int .u64 0] 24)).alloc (.cells #[.int .u64 0, .int .u64 0] 24)) := by go_grown
  generalize ((((w.alloc (.cells #[.int .u64 (bi a.v), .int .u64 (bi a.m)] 24)).alloc (.cells #[.int .u64 (bi b.v), .int .u64 (bi b.m)] 24)).alloc (.cells #[.int .u64 0, .int .u64 0] 24)).alloc (.cells #[.int .u64 0, .int .u64 0] 24)) = w0 at *
  have H0 := Lib.hid K0
  have H1 := Lib.hid K1
  have H2 := Lib.hid K2
  have H3 := Lib.hid K3
  have HB := Lib.hid B0
  clear K0 K1 K2 K3 B0
  go_loopw [7] (fun i wr => ∃ k : Nat, k ≤ 64 ∧ i = .int .u64 k ∧ Hid (meK a b k) ∧ Hid (Bk wr w.heap.size 24 #[.int .u64 (bi a.v), .int .u64 (bi a.m)]) ∧ Hid (Bk wr (w.heap.size + 1) 24 #[.int .u64 (bi b.v), .int .u64 (bi b.m)]) ∧ Hid (Bk wr (w.heap.size + 1 + 1) 24 #[.int .u64 0, .int .u64 0]) ∧ Hid (Bk wr (w.heap.size + 1 + 1 + 1) 24 #[.int .u64 (bi (mk (mv a b) k)), .int .u64 (bi (mk (mm a b) k))]) ∧ Hid (Below w.heap.size w wr)) (fun i _ => 64 - (intOf i).toNat)
  case atStart => exact ⟨0, Nat.zero_le _, rfl, Lib.hid (fun i hi => absurd hi (by omega)), H0, H1, H2, H3, HB⟩
  case round =>
    clear H0 H1 H2 H3 HB
    obtain ⟨k, hk, rfl, HI, H0, H1, H2, H3, HB⟩ := hrel
    have m0 := mk_bd (mv a b) k
    have m1 := mk_bd (mm a b) k
    obtain ⟨c0, c1⟩ := tcells H0.out
    obtain ⟨c2, c3⟩ := tcells H1.out
    obtain ⟨c4, c5⟩ := tcells H2.out
    obtain ⟨c6, c7⟩ := tcells H3.out
    have f4 := H2.out.frozen 0
    have f5 := H2.out.frozen 1
    have f6 := H3.out.frozen 0
    have f7 := H3.out.frozen 1
    by_cases hlt : k < 64
    · have p0 := bpos a.v k
      have p1 := bpos a.m k
      have p2 := bpos b.v k
      have p3 := bpos b.m k
      have p4 := opos a.v b.v k
      have p5 := obd a.v b.v
      have HV := Lib.hid (mput a b k hlt)
      cases hm : a.m.getLsbD k
      · have e1 := b0 hm
        have hj : mm a b k = false := by unfold mm; rw [hm]; rfl
        have HP := Lib.hid (put_none (mm a b) k hj)
        clear hj
        cases hn : b.m.getLsbD k
        · have e2 := b0 hn
          by_cases hs : a.v.getLsbD k = b.v.getLsbD k
          · have e3 : (bi a.v / 2 ^ k % 2 != bi b.v / 2 ^ k % 2) = false := by rw [bi_bit, bi_bit, hs]; simp
            have HS := Lib.hid (meK_step HI.out (fun _ _ => hs))
            clear hm hn hs c4 c5 f4 f5 HI
            go_wp2
            go_roundw
            case rel => exact ⟨k + 1, by omega, by go_num, HS, Lib.hid (bk_far H0.out (by omega)), Lib.hid (bk_far H1.out (by omega)), Lib.hid (bk_far H2.out (by omega)), Lib.hid (bk_as (bk_fst H3.out HV.out) rfl (by rw [HP.out])), Lib.hid (below_set HB.out (by omega))⟩
            case measure => simp [intOf]; omega
          · have e3 : (bi a.v / 2 ^ k % 2 != bi b.v / 2 ^ k % 2) = true := by
              rw [bi_bit, bi_bit]
              cases h8 : b.v.getLsbD k <;> cases h9 : a.v.getLsbD k <;> simp_all
            have HS := Lib.hid (meK_not hlt hm hn hs)
            clear hm hn hs HI HV HP c6 c7 f6 f7
            go_wp2_with fail
            have r0 := set_fst (u := .int .u64 0) (v := .int .u64 0) c4
            have r1 := set_snd (u := .int .u64 0) (v := .int .u64 0) c5
            have BB := Lib.hid (below_set (i := 1) (u := .int .u64 0) (below_set (i := 0) (u := .int .u64 0) HB.out (show w.heap.size ≤ w.heap.size + 1 + 1 by omega)) (show w.heap.size ≤ w.heap.size + 1 + 1 by omega))
            clear c0 c1 c2 c3 c4 c5 f4 f5 H0 H1 H2 H3 HB
            revert BB r0 r1
            generalize World.setCell (World.setCell wr _ _) _ _ = W
            intro r0 r1 BB
            refine bodyPost_ret (by simp [results, Try.results14, r0, r1, go_sem]; try rfl) rfl ?_
            have e9 := meet_no HS.out
            exact ⟨rt_tb (by rw [e9]; rfl) (by rw [e9]; rfl) HS.out.symm, BB.out⟩
        · have e2 := b1 hn
          have HS := Lib.hid (meK_step HI.out (fun _ h => by rw [hn] at h; cases h))
          clear hm hn c4 c5 f4 f5 HI
          go_wp2
          go_roundw
          case rel => exact ⟨k + 1, by omega, by go_num, HS, Lib.hid (bk_far H0.out (by omega)), Lib.hid (bk_far H1.out (by omega)), Lib.hid (bk_far H2.out (by omega)), Lib.hid (bk_as (bk_fst H3.out HV.out) rfl (by rw [HP.out])), Lib.hid (below_set HB.out (by omega))⟩
          case measure => simp [intOf]; omega
      · have e1 := b1 hm
        have HS := Lib.hid (meK_step HI.out (fun h => by rw [hm] at h; cases h))
        cases hn : b.m.getLsbD k
        · have e2 := b0 hn
          have hj : mm a b k = false := by unfold mm; rw [hn]; simp
          have HP := Lib.hid (put_none (mm a b) k hj)
          clear hm hn hj c4 c5 f4 f5 HI
          go_wp2
          go_roundw
          case rel => exact ⟨k + 1, by omega, by go_num, HS, Lib.hid (bk_far H0.out (by omega)), Lib.hid (bk_far H1.out (by omega)), Lib.hid (bk_far H2.out (by omega)), Lib.hid (bk_as (bk_fst H3.out HV.out) rfl (by rw [HP.out])), Lib.hid (below_set HB.out (by omega))⟩
          case measure => simp [intOf]; omega
        · have e2 := b1 hn
          have hj : mm a b k = true := by unfold mm; rw [hm, hn]; rfl
          have HP := Lib.hid (putw_one (mm a b) k hlt hj)
          clear hm hn hj c4 c5 f4 f5 HI
          go_wp2
          go_roundw
          case rel => exact ⟨k + 1, by omega, by go_num, HS, Lib.hid (bk_far (bk_far H0.out (by omega)) (by omega)), Lib.hid (bk_far (bk_far H1.out (by omega)) (by omega)), Lib.hid (bk_far (bk_far H2.out (by omega)) (by omega)), Lib.hid (bk_fst (bk_snd H3.out HP.out) HV.out), Lib.hid (below_set (below_set HB.out (by omega)) (by omega))⟩
          case measure => simp [intOf]; omega
    · obtain rfl : k = 64 := by omega
      have J := Lib.hid (me_all HA.out HBb.out HI.out)
      go_wp2_with fail
      have r0 := set_fst (u := .int .u64 (bi (mk (mv a b) 64))) (v := .int .u64 (bi (mk (mm a b) 64))) c4
      have r1 := set_snd (u := .int .u64 (bi (mk (mv a b) 64))) (v := .int .u64 (bi (mk (mm a b) 64))) c5
      have BB := Lib.hid (below_set (i := 1) (u := .int .u64 (bi (mk (mm a b) 64))) (below_set (i := 0) (u := .int .u64 (bi (mk (mv a b) 64))) HB.out (show w.heap.size ≤ w.heap.size + 1 + 1 by omega)) (show w.heap.size ≤ w.heap.size + 1 + 1 by omega))
      clear c0 c1 c2 c3 c4 c5 c6 c7 f4 f5 f6 f7 H0 H1 H2 H3 HB
      revert BB r0 r1
      generalize World.setCell (World.setCell wr _ _) _ _ = W
      intro r0 r1 BB
      refine bodyPost_ret (by simp [results, Try.results14, r0, r1, go_sem]; try rfl) rfl ?_
      exact ⟨rt_tb (by rw [J.out.2.1]) (by rw [J.out.2.2]) J.out.1.symm, BB.out⟩
end Go.Proofs.Ytjjiancacokaiaa
