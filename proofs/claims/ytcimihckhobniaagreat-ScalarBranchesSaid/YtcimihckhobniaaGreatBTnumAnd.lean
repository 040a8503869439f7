/-
  What the program's tnum.And, Within, Arsh of 32 bits tell (statements that draw their order): contracts. Conditions: values and masks are numbers of 64 bits.
-/
import Derived.Test.YtcimihckhobniaaGreatBTnumProg
namespace Go.Proofs.YtcimihckhobniaaGreat.L3
set_option maxRecDepth 100000
open Go.RowKit Tn Ow
set_option linter.unusedVariables false
set_option linter.unusedSimpArgs false
theorem four_keep {w W w2 : World} {g h : Nat} {v0 v1 v2 v3 : Value} (hb : Below W.heap.size W w2)
    (hh : W.cell? ⟨g, 0, none⟩ = some v0 ∧ W.cell? ⟨g, 1, none⟩ = some v1 ∧ W.cell? ⟨h, 0, none⟩ = some v2 ∧ W.cell? ⟨h, 1, none⟩ = some v3 ∧ Below w.heap.size w W) :
    w2.cell? ⟨g, 0, none⟩ = some v0 ∧ w2.cell? ⟨g, 1, none⟩ = some v1 ∧ w2.cell? ⟨h, 0, none⟩ = some v2 ∧ w2.cell? ⟨h, 1, none⟩ = some v3 ∧ Below w.heap.size w w2 :=
  ⟨keep1 hb hh.1, keep1 hb hh.2.1, keep1 hb hh.2.2.1, keep1 hb hh.2.2.2.1, below_then hh.2.2.2.2 hb (Nat.le_refl _)⟩
set_option maxHeartbeats 4000000 in
theorem within_any (a b : T) (w : World) :
    Calls Tryz.prog 63 #[.agg #[.int .u64 (bi a.v), .int .u64 (bi a.m)], .agg #[.int .u64 (bi b.v), .int .u64 (bi b.m)]] w fun e w' => e = .returned (.bool (withT a b)) ∧ Below w.heap.size w w' := by
  have h0 := bi_bd a.v
  have h1 := bi_bd a.m
  have h2 := bi_bd b.v
  have h3 := bi_bd b.m
  go_enter Tryz.func63, Tryz.ntmps63
  go_wp2_with fail
  have K0 := (Bk.new w 24 #[.int .u64 (bi a.v), .int .u64 (bi a.m)]).alloc (.cells #[.int .u64 (bi b.v), .int .u64 (bi b.m)] 24)
  have K1 := Bk.new (w.alloc (.cells #[.int .u64 (bi a.v), .int .u64 (bi a.m)] 24)) 24 #[.int .u64 (bi b.v), .int .u64 (bi b.m)]
  rw [World.size_alloc] at K1
  have B0 : Below w.heap.size w ((w.alloc (.cells #[.int .u64 (bi a.v), .int .u64 (bi a.m)] 24)).alloc (.cells #[.int .u64 (bi b.v), .int .u64 (bi b.m)] 24)) := by go_grown
  generalize ((w.alloc (.cells #[.int .u64 (bi a.v), .int .u64 (bi a.m)] 24)).alloc (.cells #[.int .u64 (bi b.v), .int .u64 (bi b.m)] 24)) = w0 at *
  obtain ⟨c0, c1⟩ := tcells K0
  obtain ⟨c2, c3⟩ := tcells K1
  clear K0 K1
  have q1 := tn_eql (joinT a b) b
  have q2 := tn_guard .eql (joinT a b) b
  go_region_held3 (fun w' => w'.cell? ⟨w.heap.size, 0, none⟩ = some (.int .u64 (bi a.v)) ∧ w'.cell? ⟨w.heap.size, 1, none⟩ = some (.int .u64 (bi a.m)) ∧ w'.cell? ⟨w.heap.size + 1, 0, none⟩ = some (.int .u64 (bi b.v)) ∧ w'.cell? ⟨w.heap.size + 1, 1, none⟩ = some (.int .u64 (bi b.m)) ∧ Below w.heap.size w w')
    (first | exact ⟨c0, c1, c2, c3, B0.drew⟩ | exact four_keep qb (by assumption) | exact four_keep qb ⟨by assumption, by assumption, by assumption, by assumption, by assumption⟩ | exact four_keep qb ⟨c0, c1, c2, c3, B0.drew⟩)
    (first | (go_at_call 69; refine (join_any a b _).mono ?_; rintro e w2 ⟨rfl, qb⟩))
  have BB : Hid (Below w.heap.size w w2) := by
    rename_i hH
    exact Lib.hid hH.2.2.2.2
  clear qb
  go_wp2
  go_returns
  exact ⟨rfl, BB.out⟩
end Go.Proofs.YtcimihckhobniaaGreat.L3
