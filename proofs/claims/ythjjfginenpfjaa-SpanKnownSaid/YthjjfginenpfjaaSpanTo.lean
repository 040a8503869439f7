/-
  Contracts of package span with the answer named, for the statements of layer 4. Conditions: as there.
-/
import Derived.Test.YthjjfginenpfjaaSpanF
import Derived.Test.YthjjfginenpfjaaSpanW2
import Derived.Test.YthjjfginenpfjaaSpanOpen
import Derived.Test.YthjjfginenpfjaaSpanX
import Derived.Test.YthjjfginenpfjaaSpanW
namespace Go.Proofs.Ythjjfginenpfjaa
open Go.RowKit Tn Ow Sp
set_option linter.unusedVariables false
set_option linter.unusedSimpArgs false
theorem us_to (x y a b : E) (ha : sortE x.lo x.hi = a) (hb : sortE y.lo y.hi = b) (w : World) :
    Calls Try.prog 12 #[.agg #[.int .u64 x.lo, .int .u64 x.hi], .agg #[.int .u64 y.lo, .int .u64 y.hi]] w fun e w' => e = .returned (.tuple #[.agg #[.int .u64 a.lo, .int .u64 a.hi], .agg #[.int .u64 b.lo, .int .u64 b.hi]]) ∧ Below w.heap.size w w' := by subst ha hb; exact us_any x y w
theorem ss_to (x y a b : E) (ha : sortE x.lo x.hi = a) (hb : sortE y.lo y.hi = b) (w : World) :
    Calls Try.prog 50 #[.agg #[.int .i64 x.lo, .int .i64 x.hi], .agg #[.int .i64 y.lo, .int .i64 y.hi]] w fun e w' => e = .returned (.tuple #[.agg #[.int .i64 a.lo, .int .i64 a.hi], .agg #[.int .i64 b.lo, .int .i64 b.hi]]) ∧ Below w.heap.size w w' := by subst ha hb; exact ss_any x y w
theorem of_to (a : E) (k r : Int) (ha : okU a) (hk : 0 ≤ k ∧ k ≤ 18446744073709551615) (h : ofI a k = r) (w : World) :
    Calls Try.prog 73 #[.agg #[.int .u64 a.lo, .int .u64 a.hi], .int .u64 k] w fun e w' => e = .returned (.int .u64 r) ∧ Below w.heap.size w w' := by subst h; exact of_any a k ha hk.1 hk.2 w
theorem soft_to (a : E) (k r : Int) (ha : okS a) (hk : 0 ≤ k ∧ k ≤ 18446744073709551615) (h : us (softI a k) = r) (w : World) :
    Calls Try.prog 74 #[.agg #[.int .i64 a.lo, .int .i64 a.hi], .int .u64 k] w fun e w' => e = .returned (.int .u64 r) ∧ Below w.heap.size w w' := by subst h; exact soft_any a k ha hk.1 hk.2 w
theorem uin_to (a : E) (v : Int) (r : Bool) (h : inE a v = r) (w : World) :
    Calls Try.prog 15 #[.agg #[.int .u64 a.lo, .int .u64 a.hi], .int .u64 v] w fun e w' => e = .returned (.bool r) ∧ Below w.heap.size w w' := by subst h; exact uin_any a v w
theorem sin_to (a : E) (v : Int) (r : Bool) (hv : 0 ≤ v ∧ v ≤ 18446744073709551615) (h : inE a (sg v) = r) (w : World) :
    Calls Try.prog 53 #[.agg #[.int .i64 a.lo, .int .i64 a.hi], .int .u64 v] w fun e w' => e = .returned (.bool r) ∧ Below w.heap.size w w' := by subst h; exact sin_any a v hv.1 hv.2 w
theorem uwith_to (a b : E) (r : Bool) (h : withE a b = r) (w : World) :
    Calls Try.prog 17 #[.agg #[.int .u64 a.lo, .int .u64 a.hi], .agg #[.int .u64 b.lo, .int .u64 b.hi]] w fun e w' => e = .returned (.bool r) ∧ Below w.heap.size w w' := by subst h; exact uwith_any a b w
theorem ujoi_to (a b r : E) (h : joinE a b = r) (w : World) :
    Calls Try.prog 19 #[.agg #[.int .u64 a.lo, .int .u64 a.hi], .agg #[.int .u64 b.lo, .int .u64 b.hi]] w fun e w' => e = .returned (.agg #[.int .u64 r.lo, .int .u64 r.hi]) ∧ Below w.heap.size w w' := by subst h; exact ujoi_any a b w
theorem umee_to (a b r : E) (o : Bool) (h : meetE a b = r) (g : metE a b = o) (w : World) :
    Calls Try.prog 13 #[.agg #[.int .u64 a.lo, .int .u64 a.hi], .agg #[.int .u64 b.lo, .int .u64 b.hi]] w fun e w' => e = .returned (.tuple #[.agg #[.int .u64 r.lo, .int .u64 r.hi], .bool o]) ∧ Below w.heap.size w w' := by subst h g; exact umee_any a b w
theorem swith_to (a b : E) (r : Bool) (h : withE a b = r) (w : World) :
    Calls Try.prog 55 #[.agg #[.int .i64 a.lo, .int .i64 a.hi], .agg #[.int .i64 b.lo, .int .i64 b.hi]] w fun e w' => e = .returned (.bool r) ∧ Below w.heap.size w w' := by subst h; exact swith_any a b w
theorem sjoi_to (a b r : E) (h : joinE a b = r) (w : World) :
    Calls Try.prog 57 #[.agg #[.int .i64 a.lo, .int .i64 a.hi], .agg #[.int .i64 b.lo, .int .i64 b.hi]] w fun e w' => e = .returned (.agg #[.int .i64 r.lo, .int .i64 r.hi]) ∧ Below w.heap.size w w' := by subst h; exact sjoi_any a b w
theorem smee_to (a b r : E) (o : Bool) (h : meetE a b = r) (g : metE a b = o) (w : World) :
    Calls Try.prog 51 #[.agg #[.int .i64 a.lo, .int .i64 a.hi], .agg #[.int .i64 b.lo, .int .i64 b.hi]] w fun e w' => e = .returned (.tuple #[.agg #[.int .i64 r.lo, .int .i64 r.hi], .bool o]) ∧ Below w.heap.size w w' := by subst h g; exact smee_any a b w
theorem uadd_to (a b r : E) (ha : okU a) (hb : okU b) (h : uAdd a b = r) (w : World) :
    Calls Try.prog 21 #[.agg #[.int .u64 a.lo, .int .u64 a.hi], .agg #[.int .u64 b.lo, .int .u64 b.hi]] w fun e w' => e = .returned (.agg #[.int .u64 r.lo, .int .u64 r.hi]) ∧ Below w.heap.size w w' := by subst h; exact uadd_any a b ha hb w
theorem usub_to (a b r : E) (ha : okU a) (hb : okU b) (h : uSub a b = r) (w : World) :
    Calls Try.prog 23 #[.agg #[.int .u64 a.lo, .int .u64 a.hi], .agg #[.int .u64 b.lo, .int .u64 b.hi]] w fun e w' => e = .returned (.agg #[.int .u64 r.lo, .int .u64 r.hi]) ∧ Below w.heap.size w w' := by subst h; exact usub_any a b ha hb w
theorem umul_to (a b r : E) (ha : okU a) (hb : okU b) (h : uMul a b = r) (w : World) :
    Calls Try.prog 25 #[.agg #[.int .u64 a.lo, .int .u64 a.hi], .agg #[.int .u64 b.lo, .int .u64 b.hi]] w fun e w' => e = .returned (.agg #[.int .u64 r.lo, .int .u64 r.hi]) ∧ Below w.heap.size w w' := by subst h; exact umul_any a b ha hb w
theorem udiv_to (a b r : E) (ha : okU a) (hb : okU b) (h : uDiv a b = r) (w : World) :
    Calls Try.prog 27 #[.agg #[.int .u64 a.lo, .int .u64 a.hi], .agg #[.int .u64 b.lo, .int .u64 b.hi]] w fun e w' => e = .returned (.agg #[.int .u64 r.lo, .int .u64 r.hi]) ∧ Below w.heap.size w w' := by subst h; exact udiv_any a b ha hb w
theorem umod_to (a b r : E) (ha : okU a) (hb : okU b) (h : uMod a b = r) (w : World) :
    Calls Try.prog 29 #[.agg #[.int .u64 a.lo, .int .u64 a.hi], .agg #[.int .u64 b.lo, .int .u64 b.hi]] w fun e w' => e = .returned (.agg #[.int .u64 r.lo, .int .u64 r.hi]) ∧ Below w.heap.size w w' := by subst h; exact umod_any a b ha hb w
theorem uand_to (a b r : E) (ha : okU a) (hb : okU b) (h : uAnd a b = r) (w : World) :
    Calls Try.prog 31 #[.agg #[.int .u64 a.lo, .int .u64 a.hi], .agg #[.int .u64 b.lo, .int .u64 b.hi]] w fun e w' => e = .returned (.agg #[.int .u64 r.lo, .int .u64 r.hi]) ∧ Below w.heap.size w w' := by subst h; exact uand_any a b ha hb w
theorem uor_to (a b r : E) (ha : okU a) (hb : okU b) (h : uOr a b = r) (w : World) :
    Calls Try.prog 33 #[.agg #[.int .u64 a.lo, .int .u64 a.hi], .agg #[.int .u64 b.lo, .int .u64 b.hi]] w fun e w' => e = .returned (.agg #[.int .u64 r.lo, .int .u64 r.hi]) ∧ Below w.heap.size w w' := by subst h; exact uor_any a b ha hb w
theorem sadd_to (a b r : E) (ha : okS a) (hb : okS b) (h : sAdd a b = r) (w : World) :
    Calls Try.prog 59 #[.agg #[.int .i64 a.lo, .int .i64 a.hi], .agg #[.int .i64 b.lo, .int .i64 b.hi]] w fun e w' => e = .returned (.agg #[.int .i64 r.lo, .int .i64 r.hi]) ∧ Below w.heap.size w w' := by subst h; exact sadd_any a b ha hb w
theorem ssub_to (a b r : E) (ha : okS a) (hb : okS b) (h : sSub a b = r) (w : World) :
    Calls Try.prog 61 #[.agg #[.int .i64 a.lo, .int .i64 a.hi], .agg #[.int .i64 b.lo, .int .i64 b.hi]] w fun e w' => e = .returned (.agg #[.int .i64 r.lo, .int .i64 r.hi]) ∧ Below w.heap.size w w' := by subst h; exact ssub_any a b ha hb w
theorem ulsh_to (a r : E) (n : Int) (k : Nat) (hk : n % 64 = (k : Int)) (ha : okU a) (h : uLsh a k = r) (w : World) :
    Calls Try.prog 35 #[.agg #[.int .u64 a.lo, .int .u64 a.hi], .int .i64 n] w fun e w' => e = .returned (.agg #[.int .u64 r.lo, .int .u64 r.hi]) ∧ Below w.heap.size w w' := by subst h; exact ulsh_any a n k hk ha w
theorem ursh_to (a r : E) (n : Int) (k : Nat) (hk : n % 64 = (k : Int)) (ha : okU a) (h : rsh a k = r) (w : World) :
    Calls Try.prog 37 #[.agg #[.int .u64 a.lo, .int .u64 a.hi], .int .i64 n] w fun e w' => e = .returned (.agg #[.int .u64 r.lo, .int .u64 r.hi]) ∧ Below w.heap.size w w' := by subst h; exact ursh_any a n k hk ha w
theorem srsh_to (a r : E) (n : Int) (k : Nat) (hk : n % 64 = (k : Int)) (ha : okS a) (h : rsh a k = r) (w : World) :
    Calls Try.prog 63 #[.agg #[.int .i64 a.lo, .int .i64 a.hi], .int .i64 n] w fun e w' => e = .returned (.agg #[.int .i64 r.lo, .int .i64 r.hi]) ∧ Below w.heap.size w w' := by subst h; exact srsh_any a n k hk ha w
theorem ucut_to (a r : E) (ha : okU a) (h : uCut a = r) (w : World) :
    Calls Try.prog 39 #[.agg #[.int .u64 a.lo, .int .u64 a.hi]] w fun e w' => e = .returned (.agg #[.int .u64 r.lo, .int .u64 r.hi]) ∧ Below w.heap.size w w' := by subst h; exact ucut_any a ha w
theorem tos_to (a r : E) (ha : okU a) (h : toS a = r) (w : World) :
    Calls Try.prog 41 #[.agg #[.int .u64 a.lo, .int .u64 a.hi]] w fun e w' => e = .returned (.agg #[.int .i64 r.lo, .int .i64 r.hi]) ∧ Below w.heap.size w w' := by subst h; exact tos_any a ha w
theorem tou_to (a r : E) (ha : okS a) (h : toU a = r) (w : World) :
    Calls Try.prog 65 #[.agg #[.int .i64 a.lo, .int .i64 a.hi]] w fun e w' => e = .returned (.agg #[.int .u64 r.lo, .int .u64 r.hi]) ∧ Below w.heap.size w w' := by subst h; exact tou_any a ha w
theorem tot_to (a : E) (r : T) (ha : okU a) (h : toT a = r) (w : World) :
    Calls Try.prog 43 #[.agg #[.int .u64 a.lo, .int .u64 a.hi]] w fun e w' => e = .returned (.agg #[.int .u64 (bi r.v), .int .u64 (bi r.m)]) ∧ Below w.heap.size w w' := by subst h; exact tot_any a ha w
theorem fromt_to (t : T) (u s : E) (h : fromU t = u) (g : fromS t = s) (w : World) :
    Calls Try.prog 71 #[.agg #[.int .u64 (bi t.v), .int .u64 (bi t.m)]] w fun e w' => e = .returned (.tuple #[.agg #[.int .u64 u.lo, .int .u64 u.hi], .agg #[.int .i64 s.lo, .int .i64 s.hi]]) ∧ Below w.heap.size w w' := by subst h g; exact fromt_any t w
end Go.Proofs.Ythjjfginenpfjaa
