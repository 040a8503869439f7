/-
  Texts of layer 5 and of those below it, put together: contracts and plain mathematics that ScalarSets needs.
-/
import Derived.Test.YtcimihckhobniaaGreatZM3
import Derived.Deep.Slices
import Derived.Deep.Fields
import Derived.OpenShut
import Derived.ProofKit
import Derived.Test.YtcimihckhobniaaGreatZM0
import Derived.Test.YtcimihckhobniaaGreatZM4
namespace Go.Proofs.YtcimihckhobniaaGreat
set_option maxRecDepth 100000
open Go.RowKit Tn Ow Sp
open Go.ChangeShapes Go.WideShapes Go.Deep
set_option linter.unusedVariables false
set_option linter.unusedSimpArgs false
def inU (x : E) : Prop := (0 ≤ x.lo ∧ x.lo ≤ 18446744073709551615) ∧ 0 ≤ x.hi ∧ x.hi ≤ 18446744073709551615
def inS (x : E) : Prop := (-9223372036854775808 ≤ x.lo ∧ x.lo ≤ 9223372036854775807) ∧ -9223372036854775808 ≤ x.hi ∧ x.hi ≤ 9223372036854775807
section
variable {H : Type} {enc : TypeId × Value → H} {w : World} {base : Nat} {spare : Nat → Bool} {held : Bool}
theorem u_of {fuel : Nat} {cs : List Value} {y : DataW H × List MemPlace} (h : DataW.trod enc Tryz.prog w base spare held fuel 26 cs = some y) : ∃ x : E, inU x ∧ cs = [.int .u64 x.lo, .int .u64 x.hi] := by
  obtain ⟨xs, n, _, _, hlen, hxl, hf⟩ := DataW.trod_struct Tryz.underlying26 h
  have h2 : cs.length = 2 := hlen.trans (by kernel_rfl)
  match cs, h2 with
  | [c0, c1], _ =>
    match xs, hxl with
    | [y0, y1], _ =>
      have g1 : Tryz.prog.cellsOf 22 = 1 := by kernel_rfl
      have k0 := hf 0 _ rfl
      have k1 := hf 1 _ rfl
      simp [g1] at k0 k1
      obtain ⟨n0, e0, _, w0⟩ := DataW.trod_int Tryz.underlying22 k0
      obtain ⟨n1, e1, _, w1⟩ := DataW.trod_int Tryz.underlying22 k1
      simp at e0 e1
      subst e0 e1
      exact ⟨⟨n0, n1⟩, ⟨⟨(bounds_u64 w0).1, (bounds_u64 w0).2⟩, (bounds_u64 w1).1, (bounds_u64 w1).2⟩, rfl⟩
theorem s_of {fuel : Nat} {cs : List Value} {y : DataW H × List MemPlace} (h : DataW.trod enc Tryz.prog w base spare held fuel 28 cs = some y) : ∃ x : E, inS x ∧ cs = [.int .i64 x.lo, .int .i64 x.hi] := by
  obtain ⟨xs, n, _, _, hlen, hxl, hf⟩ := DataW.trod_struct Tryz.underlying28 h
  have h2 : cs.length = 2 := hlen.trans (by kernel_rfl)
  match cs, h2 with
  | [c0, c1], _ =>
    match xs, hxl with
    | [y0, y1], _ =>
      have g1 : Tryz.prog.cellsOf 2 = 1 := by kernel_rfl
      have k0 := hf 0 _ rfl
      have k1 := hf 1 _ rfl
      simp [g1] at k0 k1
      obtain ⟨n0, e0, _, w0⟩ := DataW.trod_int Tryz.underlying2 k0
      obtain ⟨n1, e1, _, w1⟩ := DataW.trod_int Tryz.underlying2 k1
      simp at e0 e1
      subst e0 e1
      exact ⟨⟨n0, n1⟩, ⟨⟨(bounds_i64 w0).1, (bounds_i64 w0).2⟩, (bounds_i64 w1).1, (bounds_i64 w1).2⟩, rfl⟩
/-- The cells of a tnum that comes in. -/
theorem tn_of {fuel : Nat} {cs : List Value} {y : DataW H × List MemPlace} (h : DataW.trod enc Tryz.prog w base spare held fuel 24 cs = some y) : ∃ x : T, cs = [.int .u64 (bi x.v), .int .u64 (bi x.m)] := by
  obtain ⟨xs, n, _, _, hlen, hxl, hf⟩ := DataW.trod_struct Tryz.underlying24 h
  have h2 : cs.length = 2 := hlen.trans (by kernel_rfl)
  match cs, h2 with
  | [c0, c1], _ =>
    match xs, hxl with
    | [y0, y1], _ =>
      have g1 : Tryz.prog.cellsOf 22 = 1 := by kernel_rfl
      have k0 := hf 0 _ rfl
      have k1 := hf 1 _ rfl
      simp [g1] at k0 k1
      obtain ⟨n0, e0, _, w0⟩ := DataW.trod_int Tryz.underlying22 k0
      obtain ⟨n1, e1, _, w1⟩ := DataW.trod_int Tryz.underlying22 k1
      simp at e0 e1
      subst e0 e1
      obtain ⟨p, rfl⟩ := bi_of n0 (bounds_u64 w0).1 (bounds_u64 w0).2
      obtain ⟨q, rfl⟩ := bi_of n1 (bounds_u64 w1).1 (bounds_u64 w1).2
      exact ⟨⟨p, q⟩, rfl⟩
theorem u64_bi {n : Int} (h : (Lit.int .u64 n).wf = true) : ∃ x : BitVec 64, n = bi x := bi_of n (bounds_u64 h).1 (bounds_u64 h).2
end
theorem ok_sortU {x : E} (h : inU x) : okU (sortE x.lo x.hi) := by unfold inU at h; refine ⟨?_, ?_, ?_⟩ <;> simp only [sortE] <;> omega
theorem ok_sortS {x : E} (h : inS x) : okS (sortE x.lo x.hi) := by unfold inS at h; refine ⟨?_, ?_, ?_⟩ <;> simp only [sortE] <;> omega
end Go.Proofs.YtcimihckhobniaaGreat
namespace Go.Proofs.YtcimihckhobniaaGreat
open Go.RowKit Tn Ow Sp Sc
open Go.ChangeShapes Go.WideShapes Go.Deep
set_option linter.unusedVariables false
set_option linter.unusedSimpArgs false
set_option maxRecDepth 100000
def inX (x : C) : Prop := inU x.u ∧ inS x.s
section
variable {H : Type} {enc : TypeId × Value → H} {w : World} {base : Nat} {spare : Nat → Bool} {held : Bool}
theorem sc_of {fuel : Nat} {cs : List Value} {y : DataW H × List MemPlace} (h : DataW.trod enc Tryz.prog w base spare held fuel 30 cs = some y) :
    ∃ x : C, inX x ∧ cs = [.int .u64 (bi x.t.v), .int .u64 (bi x.t.m), .int .u64 x.u.lo, .int .u64 x.u.hi, .int .i64 x.s.lo, .int .i64 x.s.hi] := by
  obtain ⟨xs, n, _, _, hlen, hxl, hf⟩ := DataW.trod_struct Tryz.underlying30 h
  have h2 : cs.length = 6 := hlen.trans (by kernel_rfl)
  match cs, h2 with
  | [c0, c1, c2, c3, c4, c5], _ =>
    match xs, hxl with
    | [y0, y1, y2], _ =>
      have g1 : Tryz.prog.cellsOf 24 = 2 := by kernel_rfl
      have g2 : Tryz.prog.cellsOf 26 = 2 := by kernel_rfl
      have g3 : Tryz.prog.cellsOf 28 = 2 := by kernel_rfl
      have k0 := hf 0 _ rfl
      have k1 := hf 1 _ rfl
      have k2 := hf 2 _ rfl
      simp [g1] at k0
      simp [g2] at k1
      simp [g3] at k2
      obtain ⟨t, e0⟩ := tn_of k0
      obtain ⟨u, hu, e1⟩ := u_of k1
      obtain ⟨s, hs, e2⟩ := s_of k2
      simp at e0 e1 e2
      obtain ⟨rfl, rfl⟩ := e0
      obtain ⟨rfl, rfl⟩ := e1
      obtain ⟨rfl, rfl⟩ := e2
      exact ⟨⟨t, u, s⟩, ⟨hu, hs⟩, rfl⟩
theorem open_sc {r : Reach} {b0 : Nat} {v : Value} {d : DataW H} {p : List MemPlace} (hv : Value.okWide Tryz.prog w r b0 30 v) (h : DataW.Trod enc Tryz.prog w base spare held 30 v d p) :
    ∃ x : C, inX x ∧ v = .agg #[.int .u64 (bi x.t.v), .int .u64 (bi x.t.m), .int .u64 x.u.lo, .int .u64 x.u.hi, .int .i64 x.s.lo, .int .i64 x.s.hi] := by
  obtain ⟨cs, rfl, _⟩ := okWide_struct Tryz.underlying30 hv
  obtain ⟨fuel, hf⟩ := h
  obtain ⟨x, hx, e⟩ := sc_of hf
  refine ⟨x, hx, ?_⟩
  obtain ⟨l⟩ := cs
  simp [Value.cells] at e
  subst e
  rfl
end
theorem sort_ok {x : C} (h : inX x) : mayC (sortC x) := ⟨may_exc _ _, ok_sortU h.1, ok_sortS h.2⟩
end Go.Proofs.YtcimihckhobniaaGreat
namespace Go.Proofs.YtcimihckhobniaaGreat.L3
open Go.RowKit Tn Ow
set_option linter.unusedVariables false
set_option linter.unusedSimpArgs false
theorem b0 {x : BitVec 64} {k : Nat} (h : x.getLsbD k = false) : bi x / 2 ^ k % 2 = 0 := by rw [bi_bit, h]; rfl
theorem b1 {x : BitVec 64} {k : Nat} (h : x.getLsbD k = true) : bi x / 2 ^ k % 2 = 1 := by rw [bi_bit, h]; rfl
theorem bpos (x : BitVec 64) (k : Nat) : 0 ≤ bi x / 2 ^ k ∧ bi x / 2 ^ k ≤ 18446744073709551615 := by rw [bi_shr]; exact bi_bd _
/-- Of the first k bits those that are known are alike. -/
def inK (t : T) (x : BitVec 64) (k : Nat) : Prop := ∀ i, i < k → t.m.getLsbD i = false → x.getLsbD i = t.v.getLsbD i
theorem inK_step {t : T} {x : BitVec 64} {k : Nat} (h : inK t x k) (h1 : t.m.getLsbD k = false → x.getLsbD k = t.v.getLsbD k) : inK t x (k + 1) := by
  intro i hi
  by_cases e : i = k
  · subst e; exact h1
  · exact h i (by omega)
theorem inK_all {t : T} {x : BitVec 64} (h : inK t x 64) : inT t x = true := (in_iff t x).2 h
theorem inK_not {t : T} {x : BitVec 64} {k : Nat} (hk : k < 64) (h1 : t.m.getLsbD k = false) (h2 : x.getLsbD k ≠ t.v.getLsbD k) : inT t x = false := by
  cases h : inT t x
  · rfl
  · exact absurd ((in_iff t x).1 h k hk h1) h2
set_option maxHeartbeats 1000000 in
theorem refin_any (a : T) (v : BitVec 64) (w : World) :
    Calls Tryz.prog 60 #[.agg #[.int .u64 (bi a.v), .int .u64 (bi a.m)], .int .u64 (bi v)] w fun e w' => e = .returned (.bool (inT a v)) ∧ Below w.heap.size w w' := by
  have h0 := bi_bd a.v
  have h1 := bi_bd a.m
  have h2 := bi_bd v
  go_enter Tryz.func60, Tryz.ntmps60
  go_wp2
  go_loop [5] (fun i => ∃ k : Nat, k ≤ 64 ∧ i = .int .u64 k ∧ Hid (inK a v k)) (fun i => 64 - (intOf i).toNat)
  case atStart => exact ⟨0, Nat.zero_le _, rfl, Lib.hid (fun i hi => absurd hi (by omega))⟩
  case round =>
    obtain ⟨k, hk, rfl, HI⟩ := hrel
    by_cases hlt : k < 64
    · have p0 := bpos a.v k
      have p1 := bpos a.m k
      have p2 := bpos v k
      cases hm : a.m.getLsbD k
      · have e1 := b0 hm
        by_cases hs : v.getLsbD k = a.v.getLsbD k
        · have HS := Lib.hid (inK_step HI.out (fun _ => hs))
          have e2 : (bi a.v / 2 ^ k % 2 != bi v / 2 ^ k % 2) = false := by rw [bi_bit, bi_bit, hs]; simp
          clear hs hm
          go_wp2
          go_round
          case rel => exact ⟨k + 1, by omega, by go_num, HS⟩
          case measure => simp [intOf]; omega
        · have HS := Lib.hid (inK_not hlt hm hs)
          have e2 : (bi a.v / 2 ^ k % 2 != bi v / 2 ^ k % 2) = true := by
            rw [bi_bit, bi_bit]
            cases h8 : v.getLsbD k <;> cases h9 : a.v.getLsbD k <;> simp_all
          clear hs hm
          go_wp2
          go_returns
          exact ⟨rt_b HS.out.symm, by go_grown⟩
      · have e1 := b1 hm
        have HS := Lib.hid (inK_step HI.out (fun h => by rw [hm] at h; cases h))
        clear hm
        go_wp2
        go_round
        case rel => exact ⟨k + 1, by omega, by go_num, HS⟩
        case measure => simp [intOf]; omega
    · obtain rfl : k = 64 := by omega
      have HS := Lib.hid (inK_all HI.out)
      go_wp2
      go_returns
      exact ⟨rt_b HS.out.symm, by go_grown⟩
def wiK (a b : T) (k : Nat) : Prop := ∀ i, i < k → b.m.getLsbD i = false → a.m.getLsbD i = false ∧ a.v.getLsbD i = b.v.getLsbD i
theorem wiK_step {a b : T} {k : Nat} (h : wiK a b k) (h1 : b.m.getLsbD k = false → a.m.getLsbD k = false ∧ a.v.getLsbD k = b.v.getLsbD k) : wiK a b (k + 1) := by
  intro i hi
  by_cases e : i = k
  · subst e; exact h1
  · exact h i (by omega)
theorem wiK_not {a b : T} {k : Nat} (hb : mayT b) (hk : k < 64) (h1 : b.m.getLsbD k = false) (h2 : ¬ (a.m.getLsbD k = false ∧ a.v.getLsbD k = b.v.getLsbD k)) : withT a b = false := by
  cases h : withT a b
  · rfl
  · exact absurd ((with_iff a b hb).1 h k hk h1) h2
set_option maxHeartbeats 1000000 in
theorem refwithin_any (a b : T) (hb : mayT b) (w : World) :
    Calls Tryz.prog 66 #[.agg #[.int .u64 (bi a.v), .int .u64 (bi a.m)], .agg #[.int .u64 (bi b.v), .int .u64 (bi b.m)]] w fun e w' => e = .returned (.bool (withT a b)) ∧ Below w.heap.size w w' := by
  have h0 := bi_bd a.v
  have h1 := bi_bd a.m
  have h2 := bi_bd b.v
  have h3 := bi_bd b.m
  have HB := Lib.hid hb
  clear hb
  go_enter Tryz.func66, Tryz.ntmps66
  go_wp2
  go_loop [5] (fun i => ∃ k : Nat, k ≤ 64 ∧ i = .int .u64 k ∧ Hid (wiK a b k)) (fun i => 64 - (intOf i).toNat)
  case atStart => exact ⟨0, Nat.zero_le _, rfl, Lib.hid (fun i hi => absurd hi (by omega))⟩
  case round =>
    obtain ⟨k, hk, rfl, HI⟩ := hrel
    by_cases hlt : k < 64
    · have p0 := bpos a.v k
      have p1 := bpos a.m k
      have p2 := bpos b.v k
      have p3 := bpos b.m k
      cases hm : b.m.getLsbD k
      · have e1 := b0 hm
        cases ha : a.m.getLsbD k
        · have e3 := b0 ha
          by_cases hs : a.v.getLsbD k = b.v.getLsbD k
          · have HS := Lib.hid (wiK_step HI.out (fun _ => ⟨ha, hs⟩))
            have e2 : (bi a.v / 2 ^ k % 2 != bi b.v / 2 ^ k % 2) = false := by rw [bi_bit, bi_bit, hs]; simp
            clear hs hm ha
            go_wp2
            go_round
            case rel => exact ⟨k + 1, by omega, by go_num, HS⟩
            case measure => simp [intOf]; omega
          · have HS := Lib.hid (wiK_not HB.out hlt hm (fun h => hs h.2))
            have e2 : (bi a.v / 2 ^ k % 2 != bi b.v / 2 ^ k % 2) = true := by
              rw [bi_bit, bi_bit]
              cases h8 : b.v.getLsbD k <;> cases h9 : a.v.getLsbD k <;> simp_all
            clear hs hm ha
            go_wp2
            go_returns
            exact ⟨rt_b HS.out.symm, by go_grown⟩
        · have e3 := b1 ha
          have HS := Lib.hid (wiK_not HB.out hlt hm (fun h => by rw [ha] at h; cases h.1))
          clear hm ha
          go_wp2
          go_returns
          exact ⟨rt_b HS.out.symm, by go_grown⟩
      · have e1 := b1 hm
        have HS := Lib.hid (wiK_step HI.out (fun h => by rw [hm] at h; cases h))
        clear hm
        go_wp2
        go_round
        case rel => exact ⟨k + 1, by omega, by go_num, HS⟩
        case measure => simp [intOf]; omega
    · obtain rfl : k = 64 := by omega
      have HS := Lib.hid ((with_iff a b HB.out).2 HI.out)
      go_wp2
      go_returns
      exact ⟨rt_b HS.out.symm, by go_grown⟩
theorem refof_any (v : BitVec 64) (w : World) :
    Calls Tryz.prog 46 #[.int .u64 (bi v)] w fun e w' => e = .returned (.agg #[.int .u64 (bi (ofT v).v), .int .u64 (bi (ofT v).m)]) ∧ Below w.heap.size w w' := by
  have h0 := bi_bd v
  go_enter Tryz.func46, Tryz.ntmps46
  go_wp2
  go_returns
  exact ⟨rt_t rfl rfl, by go_grown⟩
theorem refany_any (w : World) :
    Calls Tryz.prog 52 #[] w fun e w' => e = .returned (.agg #[.int .u64 (bi anyT.v), .int .u64 (bi anyT.m)]) ∧ Below w.heap.size w w' := by
  go_enter Tryz.func52, Tryz.ntmps52
  go_wp2
  go_returns
  exact ⟨rt_t rfl bi_ones.symm, by go_grown⟩
end Go.Proofs.YtcimihckhobniaaGreat.L3
namespace Go.Proofs.YtcimihckhobniaaGreat.L3
open Go.RowKit Tn Ow
set_option linter.unusedVariables false
set_option linter.unusedSimpArgs false
def jm (a b : T) (i : Nat) : Bool := a.m.getLsbD i || b.m.getLsbD i || (a.v.getLsbD i != b.v.getLsbD i)
def jv (a b : T) (i : Nat) : Bool := !jm a b i && a.v.getLsbD i
theorem j_all (a b : T) : mk (jv a b) 64 = (joinT a b).v ∧ mk (jm a b) 64 = (joinT a b).m := by
  constructor
  · refine mk_all fun i hi => ?_
    unfold jv jm joinT exc
    simp only [BitVec.getLsbD_and, BitVec.getLsbD_or, BitVec.getLsbD_xor, BitVec.getLsbD_not, hi, decide_true, Bool.true_and]
    cases a.v.getLsbD i <;> cases b.v.getLsbD i <;> cases a.m.getLsbD i <;> cases b.m.getLsbD i <;> rfl
  · refine mk_all fun i hi => ?_
    unfold jm joinT exc
    simp only [BitVec.getLsbD_or, BitVec.getLsbD_xor]
    try rfl
theorem mk_bd (f : Nat → Bool) (k : Nat) : 0 ≤ bi (mk f k) ∧ bi (mk f k) ≤ 18446744073709551615 := bi_bd _
theorem bk_snd {w : World} {r : Nat} {x y z z' : Int} (h : Bk w r 24 #[.int .u64 x, .int .u64 y]) (e : z = z') : Bk (w.setCell ⟨r, 1, none⟩ (.int .u64 z)) r 24 #[.int .u64 x, .int .u64 z'] := by
  subst e; exact h.set_ 1 _
theorem bk_fst {w : World} {r : Nat} {x y z z' : Int} (h : Bk w r 24 #[.int .u64 x, .int .u64 y]) (e : z = z') : Bk (w.setCell ⟨r, 0, none⟩ (.int .u64 z)) r 24 #[.int .u64 z', .int .u64 y] := by
  subst e; exact h.set_ 0 _
theorem bk_as {w : World} {r : Nat} {x y x' y' : Int} (h : Bk w r 24 #[.int .u64 x, .int .u64 y]) (e : x = x') (f : y = y') : Bk w r 24 #[.int .u64 x', .int .u64 y'] := by subst e f; exact h
theorem bk_far {w : World} {g r i : Nat} {cs : Array Value} {u : Value} (h : Bk w g 24 cs) (hne : g ≠ r) : Bk (w.setCell ⟨r, i, none⟩ u) g 24 cs := h.far (p := ⟨r, i, none⟩) hne u
theorem below_set {w wr : World} {r i : Nat} {u : Value} (h : Below w.heap.size w wr) (hr : w.heap.size ≤ r) : Below w.heap.size w (wr.setCell ⟨r, i, none⟩ u) := h.setCell (p := ⟨r, i, none⟩) hr u
theorem putw_one (f : Nat → Bool) (k : Nat) (hk : k < 64) (h : f k = true) : bits .or .u64 (bi (mk f k)) (IntKind.u64.wrap (2 ^ k)) = bi (mk f (k + 1)) := by
  have h1 : (2 : Nat) ^ k < 18446744073709551616 := Nat.pow_lt_pow_right (a := 2) (n := 64) (by decide) hk
  have h2 : (2 : Int) ^ k < 18446744073709551616 := by have h9 := Int.ofNat_lt.2 h1; rw [Int.natCast_pow] at h9; exact h9
  have h3 : (0 : Int) < 2 ^ k := Int.pow_pos (by decide)
  rw [IntKind.wrap_u64, show (2 : Int) ^ k % 18446744073709551616 = 2 ^ k by omega]
  exact put_one f k hk h
theorem putw_bit (f : Nat → Bool) (x : BitVec 64) (k j : Nat) (hk : k < 64) (h : f k = x.getLsbD j) :
    bits .or .u64 (bi (mk f k)) (IntKind.u64.wrap (bi x / 2 ^ j % 2 * 2 ^ k)) = bi (mk f (k + 1)) := by
  rw [IntKind.wrap_u64]
  exact put_bit f x k j hk h
set_option maxHeartbeats 4000000 in
theorem refjoin_any (a b : T) (w : World) :
    Calls Tryz.prog 72 #[.agg #[.int .u64 (bi a.v), .int .u64 (bi a.m)], .agg #[.int .u64 (bi b.v), .int .u64 (bi b.m)]] w fun e w' => e = .returned (.agg #[.int .u64 (bi (joinT a b).v), .int .u64 (bi (joinT a b).m)]) ∧ Below w.heap.size w w' := by
  have h0 := bi_bd a.v
  have h1 := bi_bd a.m
  have h2 := bi_bd b.v
  have h3 := bi_bd b.m
  go_enter Tryz.func72, Tryz.ntmps72
  go_wp2_with fail
  have K0 := (((Bk.new w 24 #[.int .u64 (bi a.v), .int .u64 (bi a.m)]).alloc (.cells #[.int .u64 (bi b.v), .int .u64 (bi b.m)] 24)).alloc (.cells #[.int .u64 0, .int .u64 0] 24)).alloc (.cells #[.int .u64 0, .int .u64 0] 24)
  have K1 := ((Bk.new (w.alloc (.cells #[.int .u64 (bi a.v), .int .u64 (bi a.m)] 24)) 24 #[.int .u64 (bi b.v), .int .u64 (bi b.m)]).alloc (.cells #[.int .u64 0, .int .u64 0] 24)).alloc (.cells #[.int .u64 0, .int .u64 0] 24)
  have K2 := (Bk.new ((w.alloc (.cells #[.int .u64 (bi a.v), .int .u64 (bi a.m)] 24)).alloc (.cells #[.int .u64 (bi b.v), .int .u64 (bi b.m)] 24)) 24 #[.int .u64 0, .int .u64 0]).alloc (.cells #[.int .u64 0, .int .u64 0] 24)
  have K3 := Bk.new (((w.alloc (.cells #[.int .u64 (bi a.v), .int .u64 (bi a.m)] 24)).alloc (.cells #[.int .u64 (bi b.v), .int .u64 (bi b.m)] 24)).alloc (.cells #[.int .u64 0, .int .u64 0] 24)) 24 #[.int .u64 0, .int .u64 0]
  rw [World.size_alloc] at K1
  rw [World.size_alloc, World.size_alloc] at K2
  rw [World.size_alloc, World.size_alloc, World.size_alloc] at K3
  have B0 : Below w.heap.size w ((((w.alloc (.cells #[.int .u64 (bi a.v), .int .u64 (bi a.m)] 24)).alloc (.cells #[.int .u64 (bi b.v), .int .u64 (bi b.m)] 24)).alloc (.cells #[.int .u64 0, .int .u64 0] 24)).alloc (.cells #[.int .u64 0, .int .u64 0] 24)) := by go_grown
  generalize ((((w.alloc (.cells #[.int .u64 (bi a.v), .int .u64 (bi a.m)] 24)).alloc (.cells #[.int .u64 (bi b.v), .int .u64 (bi b.m)] 24)).alloc (.cells #[.int .u64 0, .int .u64 0] 24)).alloc (.cells #[.int .u64 0, .int .u64 0] 24)) = w0 at *
  have H0 := Lib.hid K0
  have H1 := Lib.hid K1
  have H2 := Lib.hid K2
  have H3 := Lib.hid K3
  have HB := Lib.hid B0
  clear K0 K1 K2 K3 B0
  go_loopw [6] (fun i wr => ∃ k : Nat, k ≤ 64 ∧ i = .int .u64 k ∧ Hid (Bk wr w.heap.size 24 #[.int .u64 (bi a.v), .int .u64 (bi a.m)]) ∧ Hid (Bk wr (w.heap.size + 1) 24 #[.int .u64 (bi b.v), .int .u64 (bi b.m)]) ∧ Hid (Bk wr (w.heap.size + 1 + 1) 24 #[.int .u64 0, .int .u64 0]) ∧ Hid (Bk wr (w.heap.size + 1 + 1 + 1) 24 #[.int .u64 (bi (mk (jv a b) k)), .int .u64 (bi (mk (jm a b) k))]) ∧ Hid (Below w.heap.size w wr)) (fun i _ => 64 - (intOf i).toNat)
  case atStart => exact ⟨0, Nat.zero_le _, rfl, H0, H1, H2, H3, HB⟩
  case round =>
    clear H0 H1 H2 H3 HB
    obtain ⟨k, hk, rfl, H0, H1, H2, H3, HB⟩ := hrel
    have m0 := mk_bd (jv a b) k
    have m1 := mk_bd (jm a b) k
    obtain ⟨c0, c1⟩ := tcells H0.out
    obtain ⟨c2, c3⟩ := tcells H1.out
    obtain ⟨c4, c5⟩ := tcells H2.out
    obtain ⟨c6, c7⟩ := tcells H3.out
    have f4 := H2.out.frozen 0
    have f5 := H2.out.frozen 1
    have f6 := H3.out.frozen 0
    have f7 := H3.out.frozen 1
    by_cases hlt : k < 64
    · clear c4 c5 f4 f5
      have p0 := bpos a.v k
      have p1 := bpos a.m k
      have p2 := bpos b.v k
      have p3 := bpos b.m k
      cases hm : a.m.getLsbD k
      · have e1 := b0 hm
        cases hn : b.m.getLsbD k
        · have e2 := b0 hn
          by_cases hs : a.v.getLsbD k = b.v.getLsbD k
          · have e3 : (bi a.v / 2 ^ k % 2 != bi b.v / 2 ^ k % 2) = false := by rw [bi_bit, bi_bit, hs]; simp
            have hj : jm a b k = false := by unfold jm; rw [hm, hn, hs]; simp
            have HV := Lib.hid (putw_bit (jv a b) a.v k k hlt (by unfold jv; rw [hj]; rfl))
            have HP := Lib.hid (put_none (jm a b) k hj)
            clear hm hn hs hj
            go_wp2
            go_roundw
            case rel => exact ⟨k + 1, by omega, by go_num, Lib.hid (bk_far H0.out (by omega)), Lib.hid (bk_far H1.out (by omega)), Lib.hid (bk_far H2.out (by omega)), Lib.hid (bk_as (bk_fst H3.out HV.out) rfl (by rw [HP.out])), Lib.hid (below_set HB.out (by omega))⟩
            case measure => simp [intOf]; omega
          · have e3 : (bi a.v / 2 ^ k % 2 != bi b.v / 2 ^ k % 2) = true := by
              rw [bi_bit, bi_bit]
              cases h8 : b.v.getLsbD k <;> cases h9 : a.v.getLsbD k <;> simp_all
            have hj : jm a b k = true := by unfold jm; rw [hm, hn]; simpa using hs
            have HV := Lib.hid (put_none (jv a b) k (by unfold jv; rw [hj]; rfl))
            have HP := Lib.hid (putw_one (jm a b) k hlt hj)
            clear hm hn hs hj
            go_wp2
            go_roundw
            case rel => exact ⟨k + 1, by omega, by go_num, Lib.hid (bk_far H0.out (by omega)), Lib.hid (bk_far H1.out (by omega)), Lib.hid (bk_far H2.out (by omega)), Lib.hid (bk_as (bk_snd H3.out HP.out) (by rw [HV.out]) rfl), Lib.hid (below_set HB.out (by omega))⟩
            case measure => simp [intOf]; omega
        · have e2 := b1 hn
          have hj : jm a b k = true := by unfold jm; rw [hm, hn]; rfl
          have HV := Lib.hid (put_none (jv a b) k (by unfold jv; rw [hj]; rfl))
          have HP := Lib.hid (putw_one (jm a b) k hlt hj)
          clear hm hn hj
          go_wp2
          go_roundw
          case rel => exact ⟨k + 1, by omega, by go_num, Lib.hid (bk_far H0.out (by omega)), Lib.hid (bk_far H1.out (by omega)), Lib.hid (bk_far H2.out (by omega)), Lib.hid (bk_as (bk_snd H3.out HP.out) (by rw [HV.out]) rfl), Lib.hid (below_set HB.out (by omega))⟩
          case measure => simp [intOf]; omega
      · have e1 := b1 hm
        have hj : jm a b k = true := by unfold jm; rw [hm]; rfl
        have HV := Lib.hid (put_none (jv a b) k (by unfold jv; rw [hj]; rfl))
        have HP := Lib.hid (putw_one (jm a b) k hlt hj)
        clear hm hj
        go_wp2
        go_roundw
        case rel => exact ⟨k + 1, by omega, by go_num, Lib.hid (bk_far H0.out (by omega)), Lib.hid (bk_far H1.out (by omega)), Lib.hid (bk_far H2.out (by omega)), Lib.hid (bk_as (bk_snd H3.out HP.out) (by rw [HV.out]) rfl), Lib.hid (below_set HB.out (by omega))⟩
        case measure => simp [intOf]; omega
    · obtain rfl : k = 64 := by omega
      have J := Lib.hid (j_all a b)
      go_wp2_with fail
      have r0 := set_fst (u := .int .u64 (bi (mk (jv a b) 64))) (v := .int .u64 (bi (mk (jm a b) 64))) c4
      have r1 := set_snd (u := .int .u64 (bi (mk (jv a b) 64))) (v := .int .u64 (bi (mk (jm a b) 64))) c5
      have BB := Lib.hid (below_set (i := 1) (u := .int .u64 (bi (mk (jm a b) 64))) (below_set (i := 0) (u := .int .u64 (bi (mk (jv a b) 64))) HB.out (show w.heap.size ≤ w.heap.size + 1 + 1 by omega)) (show w.heap.size ≤ w.heap.size + 1 + 1 by omega))
      clear c0 c1 c2 c3 c4 c5 c6 c7 f4 f5 f6 f7 H0 H1 H2 H3 HB
      revert BB r0 r1
      generalize World.setCell (World.setCell wr _ _) _ _ = W
      intro r0 r1 BB
      refine bodyPost_ret (by simp [results, Tryz.results72, r0, r1, go_sem]; try rfl) rfl ?_
      exact ⟨rt_t (by rw [J.out.1]) (by rw [J.out.2]), BB.out⟩
end Go.Proofs.YtcimihckhobniaaGreat.L3
namespace Go.Proofs.YtcimihckhobniaaGreat.L3
open Go.RowKit Tn Ow
set_option linter.unusedVariables false
set_option linter.unusedSimpArgs false
def mm (a b : T) (i : Nat) : Bool := a.m.getLsbD i && b.m.getLsbD i
def mv (a b : T) (i : Nat) : Bool := (a.v ||| b.v).getLsbD i
def meK (a b : T) (k : Nat) : Prop := ∀ i, i < k → a.m.getLsbD i = false → b.m.getLsbD i = false → a.v.getLsbD i = b.v.getLsbD i
theorem meK_step {a b : T} {k : Nat} (h : meK a b k) (h1 : a.m.getLsbD k = false → b.m.getLsbD k = false → a.v.getLsbD k = b.v.getLsbD k) : meK a b (k + 1) := by
  intro i hi
  by_cases e : i = k
  · subst e; exact h1
  · exact h i (by omega)
theorem meK_not {a b : T} {k : Nat} (hk : k < 64) (h1 : a.m.getLsbD k = false) (h2 : b.m.getLsbD k = false) (h3 : a.v.getLsbD k ≠ b.v.getLsbD k) : meetOk a b = false := by
  cases h : meetOk a b
  · rfl
  · exact absurd ((meet_iff a b).1 h k hk h1 h2) h3
theorem me_all {a b : T} (ha : mayT a) (hb : mayT b) (h : meK a b 64) : meetOk a b = true ∧ mk (mv a b) 64 = (meetT a b).v ∧ mk (mm a b) 64 = (meetT a b).m := by
  have h1 : meetOk a b = true := (meet_iff a b).2 h
  refine ⟨h1, ?_, ?_⟩
  · rw [meet_yes h1]
    refine mk_all fun i hi => ?_
    have h2 := (may_iff a).1 ha i hi
    have h3 := (may_iff b).1 hb i hi
    unfold mv exc
    simp only [BitVec.getLsbD_and, BitVec.getLsbD_or, BitVec.getLsbD_not, hi, decide_true, Bool.true_and]
    revert h2 h3
    cases a.v.getLsbD i <;> cases b.v.getLsbD i <;> cases a.m.getLsbD i <;> cases b.m.getLsbD i <;> simp
  · rw [meet_yes h1]
    refine mk_all fun i hi => ?_
    unfold mm exc
    simp only [BitVec.getLsbD_and]
theorem mput (a b : T) (k : Nat) (hk : k < 64) : bits .or .u64 (bi (mk (mv a b) k)) (IntKind.u64.wrap (bits .or .u64 (bi a.v) (bi b.v) / 2 ^ k % 2 * 2 ^ k)) = bi (mk (mv a b) (k + 1)) := by
  rw [bi_or a.v b.v]
  exact putw_bit (mv a b) (a.v ||| b.v) k k hk rfl
theorem opos (x y : BitVec 64) (k : Nat) : 0 ≤ bits .or .u64 (bi x) (bi y) / 2 ^ k ∧ bits .or .u64 (bi x) (bi y) / 2 ^ k ≤ 18446744073709551615 := by rw [bi_or]; exact bpos _ _
theorem obd (x y : BitVec 64) : 0 ≤ bits .or .u64 (bi x) (bi y) ∧ bits .or .u64 (bi x) (bi y) ≤ 18446744073709551615 := by rw [bi_or]; exact bi_bd _
set_option maxHeartbeats 4000000 in
theorem refmeet_any (a b : T) (ha : mayT a) (hb : mayT b) (w : World) :
    Calls Tryz.prog 112 #[.agg #[.int .u64 (bi a.v), .int .u64 (bi a.m)], .agg #[.int .u64 (bi b.v), .int .u64 (bi b.m)]] w fun e w' => e = .returned (.tuple #[.agg #[.int .u64 (bi (meetT a b).v), .int .u64 (bi (meetT a b).m)], .bool (meetOk a b)]) ∧ Below w.heap.size w w' := by
  have HA := Lib.hid ha
  have HBb := Lib.hid hb
  clear ha hb
  have h0 := bi_bd a.v
  have h1 := bi_bd a.m
  have h2 := bi_bd b.v
  have h3 := bi_bd b.m
  go_enter Tryz.func112, Tryz.ntmps112
  go_wp2_with fail
  have K0 := (((Bk.new w 24 #[.int .u64 (bi a.v), .int .u64 (bi a.m)]).alloc (.cells #[.int .u64 (bi b.v), .int .u64 (bi b.m)] 24)).alloc (.cells #[.int .u64 0, .int .u64 0] 24)).alloc (.cells #[.int .u64 0, .int .u64 0] 24)
  have K1 := ((Bk.new (w.alloc (.cells #[.int .u64 (bi a.v), .int .u64 (bi a.m)] 24)) 24 #[.int .u64 (bi b.v), .int .u64 (bi b.m)]).alloc (.cells #[.int .u64 0, .int .u64 0] 24)).alloc (.cells #[.int .u64 0, .int .u64 0] 24)
  have K2 := (Bk.new ((w.alloc (.cells #[.int .u64 (bi a.v), .int .u64 (bi a.m)] 24)).alloc (.cells #[.int .u64 (bi b.v), .int .u64 (bi b.m)] 24)) 24 #[.int .u64 0, .int .u64 0]).alloc (.cells #[.int .u64 0, .int .u64 0] 24)
  have K3 := Bk.new (((w.alloc (.cells #[.int .u64 (bi a.v), .int .u64 (bi a.m)] 24)).alloc (.cells #[.int .u64 (bi b.v), .int .u64 (bi b.m)] 24)).alloc (.cells #[.int .u64 0, .int .u64 0] 24)) 24 #[.int .u64 0, .int .u64 0]
  rw [World.size_alloc] at K1
  rw [World.size_alloc, World.size_alloc] at K2
  rw [World.size_alloc, World.size_alloc, World.size_alloc] at K3
  have B0 : Below w.heap.size w ((((w.alloc (.cells #[.int .u64 (bi a.v), .int .u64 (bi a.m)] 24)).alloc (.cells #[.int .u64 (bi b.v), .int .u64 (bi b.m)] 24)).alloc (.cells #[.int .u64 0, .int .u64 0] 24)).alloc (.cells #[.int .u64 0, .int .u64 0] 24)) := by go_grown
  generalize ((((w.alloc (.cells #[.int .u64 (bi a.v), .int .u64 (bi a.m)] 24)).alloc (.cells #[.int .u64 (bi b.v), .int .u64 (bi b.m)] 24)).alloc (.cells #[.int .u64 0, .int .u64 0] 24)).alloc (.cells #[.int .u64 0, .int .u64 0] 24)) = w0 at *
  have H0 := Lib.hid K0
  have H1 := Lib.hid K1
  have H2 := Lib.hid K2
  have H3 := Lib.hid K3
  have HB := Lib.hid B0
  clear K0 K1 K2 K3 B0
  go_loopw [7] (fun i wr => ∃ k : Nat, k ≤ 64 ∧ i = .int .u64 k ∧ Hid (meK a b k) ∧ Hid (Bk wr w.heap.size 24 #[.int .u64 (bi a.v), .int .u64 (bi a.m)]) ∧ Hid (Bk wr (w.heap.size + 1) 24 #[.int .u64 (bi b.v), .int .u64 (bi b.m)]) ∧ Hid (Bk wr (w.heap.size + 1 + 1) 24 #[.int .u64 0, .int .u64 0]) ∧ Hid (Bk wr (w.heap.size + 1 + 1 + 1) 24 #[.int .u64 (bi (mk (mv a b) k)), .int .u64 (bi (mk (mm a b) k))]) ∧ Hid (Below w.heap.size w wr)) (fun i _ => 64 - (intOf i).toNat)
  case atStart => exact ⟨0, Nat.zero_le _, rfl, Lib.hid (fun i hi => absurd hi (by omega)), H0, H1, H2, H3, HB⟩
  case round =>
    clear H0 H1 H2 H3 HB
    obtain ⟨k, hk, rfl, HI, H0, H1, H2, H3, HB⟩ := hrel
    have m0 := mk_bd (mv a b) k
    have m1 := mk_bd (mm a b) k
    obtain ⟨c0, c1⟩ := tcells H0.out
    obtain ⟨c2, c3⟩ := tcells H1.out
    obtain ⟨c4, c5⟩ := tcells H2.out
    obtain ⟨c6, c7⟩ := tcells H3.out
    have f4 := H2.out.frozen 0
    have f5 := H2.out.frozen 1
    have f6 := H3.out.frozen 0
    have f7 := H3.out.frozen 1
    by_cases hlt : k < 64
    · have p0 := bpos a.v k
      have p1 := bpos a.m k
      have p2 := bpos b.v k
      have p3 := bpos b.m k
      have p4 := opos a.v b.v k
      have p5 := obd a.v b.v
      have HV := Lib.hid (mput a b k hlt)
      cases hm : a.m.getLsbD k
      · have e1 := b0 hm
        have hj : mm a b k = false := by unfold mm; rw [hm]; rfl
        have HP := Lib.hid (put_none (mm a b) k hj)
        clear hj
        cases hn : b.m.getLsbD k
        · have e2 := b0 hn
          by_cases hs : a.v.getLsbD k = b.v.getLsbD k
          · have e3 : (bi a.v / 2 ^ k % 2 != bi b.v / 2 ^ k % 2) = false := by rw [bi_bit, bi_bit, hs]; simp
            have HS := Lib.hid (meK_step HI.out (fun _ _ => hs))
            clear hm hn hs c4 c5 f4 f5 HI
            go_wp2
            go_roundw
            case rel => exact ⟨k + 1, by omega, by go_num, HS, Lib.hid (bk_far H0.out (by omega)), Lib.hid (bk_far H1.out (by omega)), Lib.hid (bk_far H2.out (by omega)), Lib.hid (bk_as (bk_fst H3.out HV.out) rfl (by rw [HP.out])), Lib.hid (below_set HB.out (by omega))⟩
            case measure => simp [intOf]; omega
          · have e3 : (bi a.v / 2 ^ k % 2 != bi b.v / 2 ^ k % 2) = true := by
              rw [bi_bit, bi_bit]
              cases h8 : b.v.getLsbD k <;> cases h9 : a.v.getLsbD k <;> simp_all
            have HS := Lib.hid (meK_not hlt hm hn hs)
            clear hm hn hs HI HV HP c6 c7 f6 f7
            go_wp2_with fail
            have r0 := set_fst (u := .int .u64 0) (v := .int .u64 0) c4
            have r1 := set_snd (u := .int .u64 0) (v := .int .u64 0) c5
            have BB := Lib.hid (below_set (i := 1) (u := .int .u64 0) (below_set (i := 0) (u := .int .u64 0) HB.out (show w.heap.size ≤ w.heap.size + 1 + 1 by omega)) (show w.heap.size ≤ w.heap.size + 1 + 1 by omega))
            clear c0 c1 c2 c3 c4 c5 f4 f5 H0 H1 H2 H3 HB
            revert BB r0 r1
            generalize World.setCell (World.setCell wr _ _) _ _ = W
            intro r0 r1 BB
            refine bodyPost_ret (by simp [results, Tryz.results112, r0, r1, go_sem]; try rfl) rfl ?_
            have e9 := meet_no HS.out
            exact ⟨rt_tb (by rw [e9]; rfl) (by rw [e9]; rfl) HS.out.symm, BB.out⟩
        · have e2 := b1 hn
          have HS := Lib.hid (meK_step HI.out (fun _ h => by rw [hn] at h; cases h))
          clear hm hn c4 c5 f4 f5 HI
          go_wp2
          go_roundw
          case rel => exact ⟨k + 1, by omega, by go_num, HS, Lib.hid (bk_far H0.out (by omega)), Lib.hid (bk_far H1.out (by omega)), Lib.hid (bk_far H2.out (by omega)), Lib.hid (bk_as (bk_fst H3.out HV.out) rfl (by rw [HP.out])), Lib.hid (below_set HB.out (by omega))⟩
          case measure => simp [intOf]; omega
      · have e1 := b1 hm
        have HS := Lib.hid (meK_step HI.out (fun h => by rw [hm] at h; cases h))
        cases hn : b.m.getLsbD k
        · have e2 := b0 hn
          have hj : mm a b k = false := by unfold mm; rw [hn]; simp
          have HP := Lib.hid (put_none (mm a b) k hj)
          clear hm hn hj c4 c5 f4 f5 HI
          go_wp2
          go_roundw
          case rel => exact ⟨k + 1, by omega, by go_num, HS, Lib.hid (bk_far H0.out (by omega)), Lib.hid (bk_far H1.out (by omega)), Lib.hid (bk_far H2.out (by omega)), Lib.hid (bk_as (bk_fst H3.out HV.out) rfl (by rw [HP.out])), Lib.hid (below_set HB.out (by omega))⟩
          case measure => simp [intOf]; omega
        · have e2 := b1 hn
          have hj : mm a b k = true := by unfold mm; rw [hm, hn]; rfl
          have HP := Lib.hid (putw_one (mm a b) k hlt hj)
          clear hm hn hj c4 c5 f4 f5 HI
          go_wp2
          go_roundw
          case rel => exact ⟨k + 1, by omega, by go_num, HS, Lib.hid (bk_far (bk_far H0.out (by omega)) (by omega)), Lib.hid (bk_far (bk_far H1.out (by omega)) (by omega)), Lib.hid (bk_far (bk_far H2.out (by omega)) (by omega)), Lib.hid (bk_fst (bk_snd H3.out HP.out) HV.out), Lib.hid (below_set (below_set HB.out (by omega)) (by omega))⟩
          case measure => simp [intOf]; omega
    · obtain rfl : k = 64 := by omega
      have J := Lib.hid (me_all HA.out HBb.out HI.out)
      go_wp2_with fail
      have r0 := set_fst (u := .int .u64 (bi (mk (mv a b) 64))) (v := .int .u64 (bi (mk (mm a b) 64))) c4
      have r1 := set_snd (u := .int .u64 (bi (mk (mv a b) 64))) (v := .int .u64 (bi (mk (mm a b) 64))) c5
      have BB := Lib.hid (below_set (i := 1) (u := .int .u64 (bi (mk (mm a b) 64))) (below_set (i := 0) (u := .int .u64 (bi (mk (mv a b) 64))) HB.out (show w.heap.size ≤ w.heap.size + 1 + 1 by omega)) (show w.heap.size ≤ w.heap.size + 1 + 1 by omega))
      clear c0 c1 c2 c3 c4 c5 c6 c7 f4 f5 f6 f7 H0 H1 H2 H3 HB
      revert BB r0 r1
      generalize World.setCell (World.setCell wr _ _) _ _ = W
      intro r0 r1 BB
      refine bodyPost_ret (by simp [results, Tryz.results112, r0, r1, go_sem]; try rfl) rfl ?_
      exact ⟨rt_tb (by rw [J.out.2.1]) (by rw [J.out.2.2]) J.out.1.symm, BB.out⟩
end Go.Proofs.YtcimihckhobniaaGreat.L3
namespace Go.Proofs.YtcimihckhobniaaGreat.L3
set_option maxRecDepth 100000
open Go.RowKit Tn Ow
set_option linter.unusedVariables false
set_option linter.unusedSimpArgs false
end Go.Proofs.YtcimihckhobniaaGreat.L3
namespace Go.Proofs.YtcimihckhobniaaGreat.L3
open Go.RowKit Tn Ow
set_option linter.unusedVariables false
set_option linter.unusedSimpArgs false
end Go.Proofs.YtcimihckhobniaaGreat.L3
