/-
  Contracts of the statements' small functions of layer 3 with the answer named, and what is left of a number that is cut. Conditions: as there.
-/
import Derived.Test.YtjjiancacokaiaaTnumTo
import Derived.IntWalk
namespace Go.Proofs.Ytjjiancacokaiaa
open Go.RowKit Tn Ow
set_option linter.unusedVariables false
set_option linter.unusedSimpArgs false
theorem may_to (a r : T) (h : exc a.v a.m = r) (w : World) :
    Calls Try.prog 12 #[.agg #[.int .u64 (bi a.v), .int .u64 (bi a.m)]] w fun e w' => e = .returned (.agg #[.int .u64 (bi r.v), .int .u64 (bi r.m)]) ∧ Below w.heap.size w w' := by subst h; exact may_any a w
theorem one_to (a : T) (v x : BitVec 64) (h : oneT a v = x) (w : World) :
    Calls Try.prog 46 #[.agg #[.int .u64 (bi a.v), .int .u64 (bi a.m)], .int .u64 (bi v)] w fun e w' => e = .returned (.int .u64 (bi x)) ∧ Below w.heap.size w w' := by subst h; exact one_any a v w
theorem one_at (a : T) (v x : BitVec 64) (z : Int) (hz : z = bi v) (h : oneT a v = x) (w : World) :
    Calls Try.prog 46 #[.agg #[.int .u64 (bi a.v), .int .u64 (bi a.m)], .int .u64 z] w fun e w' => e = .returned (.int .u64 (bi x)) ∧ Below w.heap.size w w' := by subst hz h; exact one_any a v w
theorem has_at (a : T) (v : BitVec 64) (z : Int) (hz : z = bi v) (ha : mayT a) (hv : inT a v = true) (w : World) :
    Calls Try.prog 47 #[.agg #[.int .u64 (bi a.v), .int .u64 (bi a.m)], .int .u64 z] w fun e w' => e = .returned (.bool true) ∧ Below w.heap.size w w' := by subst hz; exact has_any a v ha hv w
theorem in_to (a : T) (v : BitVec 64) (r : Bool) (h : inT a v = r) (w : World) :
    Calls Try.prog 19 #[.agg #[.int .u64 (bi a.v), .int .u64 (bi a.m)], .int .u64 (bi v)] w fun e w' => e = .returned (.bool r) ∧ Below w.heap.size w w' := by subst h; exact in_any a v w
theorem refin_to (a : T) (v : BitVec 64) (r : Bool) (h : inT a v = r) (w : World) :
    Calls Try.prog 20 #[.agg #[.int .u64 (bi a.v), .int .u64 (bi a.m)], .int .u64 (bi v)] w fun e w' => e = .returned (.bool r) ∧ Below w.heap.size w w' := by subst h; exact refin_any a v w
theorem within_to (a b : T) (r : Bool) (h : withT a b = r) (w : World) :
    Calls Try.prog 21 #[.agg #[.int .u64 (bi a.v), .int .u64 (bi a.m)], .agg #[.int .u64 (bi b.v), .int .u64 (bi b.m)]] w fun e w' => e = .returned (.bool r) ∧ Below w.heap.size w w' := by subst h; exact within_any a b w
theorem refwithin_to (a b : T) (r : Bool) (hb : mayT b) (h : withT a b = r) (w : World) :
    Calls Try.prog 22 #[.agg #[.int .u64 (bi a.v), .int .u64 (bi a.m)], .agg #[.int .u64 (bi b.v), .int .u64 (bi b.m)]] w fun e w' => e = .returned (.bool r) ∧ Below w.heap.size w w' := by subst h; exact refwithin_any a b hb w
theorem meet_to (a b r : T) (o : Bool) (h : meetT a b = r) (g : meetOk a b = o) (w : World) :
    Calls Try.prog 13 #[.agg #[.int .u64 (bi a.v), .int .u64 (bi a.m)], .agg #[.int .u64 (bi b.v), .int .u64 (bi b.m)]] w fun e w' => e = .returned (.tuple #[.agg #[.int .u64 (bi r.v), .int .u64 (bi r.m)], .bool o]) ∧ Below w.heap.size w w' := by subst h g; exact meet_any a b w
theorem refmeet_to (a b r : T) (o : Bool) (ha : mayT a) (hb : mayT b) (h : meetT a b = r) (g : meetOk a b = o) (w : World) :
    Calls Try.prog 14 #[.agg #[.int .u64 (bi a.v), .int .u64 (bi a.m)], .agg #[.int .u64 (bi b.v), .int .u64 (bi b.m)]] w fun e w' => e = .returned (.tuple #[.agg #[.int .u64 (bi r.v), .int .u64 (bi r.m)], .bool o]) ∧ Below w.heap.size w w' := by subst h g; exact refmeet_any a b ha hb w
theorem cut_to (a r : T) (n : Int) (hn : -9223372036854775808 ≤ n ∧ n ≤ 9223372036854775807) (h : cutN a n = r) (w : World) :
    Calls Try.prog 44 #[.agg #[.int .u64 (bi a.v), .int .u64 (bi a.m)], .int .i64 n] w fun e w' => e = .returned (.agg #[.int .u64 (bi r.v), .int .u64 (bi r.m)]) ∧ Below w.heap.size w w' := by subst h; exact cut_any a n hn w
theorem refcut_to (a r : T) (n : Int) (hn : -9223372036854775808 ≤ n ∧ n ≤ 9223372036854775807) (h : cutN a n = r) (w : World) :
    Calls Try.prog 45 #[.agg #[.int .u64 (bi a.v), .int .u64 (bi a.m)], .int .i64 n] w fun e w' => e = .returned (.agg #[.int .u64 (bi r.v), .int .u64 (bi r.m)]) ∧ Below w.heap.size w w' := by subst h; exact refcut_any a n hn w
theorem cut_val (x : BitVec 64) (n : Int) (h1 : 1 ≤ n) (h2 : n ≤ 7) : bi x % 2 ^ (8 * n).toNat = bi (x &&& maskN n) := by
  have hm : (8 * n).toNat < 64 := by omega
  unfold maskN bi
  rw [BitVec.toNat_and, BitVec.toNat_ofNat]
  generalize (8 * n).toNat = m at hm
  have hp : 2 ^ m < 2 ^ 64 := Nat.pow_lt_pow_right (by decide) hm
  rw [Nat.mod_eq_of_lt (by omega), Nat.and_two_pow_sub_one_eq_mod, Int.natCast_emod, Int.natCast_pow]
  rfl
theorem cutN_mid (a : T) (n : Int) (h1 : 1 ≤ n) (h2 : n ≤ 7) : cutN a n = cutT a (maskN n) := by
  unfold cutN
  rw [if_neg (by omega), if_neg (by omega)]
theorem cutN_all (a : T) : cutN a 8 = a := by unfold cutN; rw [if_pos (by decide)]
theorem may_mul (a b : T) : mayT (mulT a b) := may_add _ _
theorem cut_ok (a : T) (n : Int) (h1 : 1 ≤ n) (h2 : n ≤ 7) (ha : mayT a) : mayT (cutN a n) := by rw [cutN_mid a n h1 h2]; exact may_cut ha _
theorem cut_has (a : T) (x : BitVec 64) (n : Int) (h1 : 1 ≤ n) (h2 : n ≤ 7) (hx : inT a x = true) : inT (cutN a n) (x &&& maskN n) = true := by rw [cutN_mid a n h1 h2]; exact cut_sound _ hx
theorem cut_spell (x : BitVec 64) (m : Int) (h1 : 1 ≤ m) (h2 : m ≤ 7) : IntKind.i64.wrap (8 * m) = 8 * m ∧ IntKind.u64.wrap (8 * m) = 8 * m ∧ IntKind.u64.wrap (2 ^ (8 * m).toNat) = 2 ^ (8 * m).toNat ∧ ((2 : Int) ^ (8 * m).toNat == 0) = false ∧ (2 : Int) ^ (8 * m).toNat ≠ 0 ∧ (bi x).tmod (2 ^ (8 * m).toNat) = bi (x &&& maskN m) := by
  have hp : (0 : Int) < 2 ^ (8 * m).toNat := Int.pow_pos (by decide)
  refine ⟨IntWalk.i64_in _ (by omega), IntWalk.u64_in _ (by omega), ?_, ?_, by omega, ?_⟩
  · have : m = 1 ∨ m = 2 ∨ m = 3 ∨ m = 4 ∨ m = 5 ∨ m = 6 ∨ m = 7 := by omega
    rcases this with rfl | rfl | rfl | rfl | rfl | rfl | rfl <;> decide
  · rw [beq_eq_false_iff_ne]; omega
  · rw [Int.tmod_eq_emod_of_nonneg (bi_bd x).1]; exact cut_val x m (by omega) (by omega)
theorem bk_st {w : World} {g : Nat} {x y : Int} (h : Bk w g 24 #[.int .u64 x, .int .u64 y]) (t : T) : Bk ((w.setCell ⟨g, 0, none⟩ (.int .u64 (bi t.v))).setCell ⟨g, 1, none⟩ (.int .u64 (bi t.m))) g 24 #[.int .u64 (bi t.v), .int .u64 (bi t.m)] := bk_both h
theorem bk_fr {w : World} {g r : Nat} {cs : Array Value} (h : Bk w g 24 cs) (hne : g ≠ r) (t : T) : Bk ((w.setCell ⟨r, 0, none⟩ (.int .u64 (bi t.v))).setCell ⟨r, 1, none⟩ (.int .u64 (bi t.m))) g 24 cs := bk_far (bk_far h hne) hne
theorem below_st {w w1 : World} {r : Nat} (h : Below w.heap.size w w1) (hr : w.heap.size ≤ r) (t : T) : Below w.heap.size w ((w1.setCell ⟨r, 0, none⟩ (.int .u64 (bi t.v))).setCell ⟨r, 1, none⟩ (.int .u64 (bi t.m))) := below_set (below_set h hr) hr
end Go.Proofs.Ytjjiancacokaiaa
