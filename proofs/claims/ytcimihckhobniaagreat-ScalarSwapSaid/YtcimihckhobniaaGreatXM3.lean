/-
  Texts of layer 5 and of those below it, put together: contracts and plain mathematics that ScalarSwap needs.
-/
import Derived.Test.YtcimihckhobniaaGreatXM1
import Derived.Test.YtcimihckhobniaaGreatXM2
import Derived.Test.YtcimihckhobniaaGreatProg
import Derived.WalkKit
import Derived.LoopTactic
import Derived.Test.YtcimihckhobniaaGreatXM0
import Derived.Test.YtcimihckhobniaaGreatRows
import Derived.WalkSpells
import Derived.WalkLawsBesides
import Derived.Below
import Derived.Handy
import Derived.Lib.Hide
import Derived.Deep.Light
import Derived.Laws.StructEq
import Derived.Deep.RegionHeld3
import Derived.BigQuiet
import Derived.BigRegion
import Derived.Deep.QuietTactic
import Derived.StillTailTactics
namespace Go.Proofs.YtcimihckhobniaaGreat.Sc
open Go.RowKit Tn Ow Sp
set_option linter.unusedVariables false
set_option linter.unusedSimpArgs false
set_option maxRecDepth 100000
theorem ok0U : okU ⟨0, 0⟩ := by unfold okU; decide
theorem meetU_all {a b : E} (ha : okU a) : okU (meetE a b) := by
  cases h : metE a b
  · unfold metE at h; unfold meetE; rw [if_neg (by simpa using h)]; exact ok0U
  · exact meetU_ok ha h
theorem Gw.pure {P : Program} {f : FuncId} {args : Array Value} {w : World} {v : Value} (h : Calls P f args w fun e w' => e = .returned v ∧ w = w') :
    Calls P f args w fun e w' => e = .returned v ∧ Below w.heap.size w w' := h.mono fun e w' ⟨h1, h2⟩ => ⟨h1, by subst h2; exact Below.refl _ _⟩
def zeroC : C := ⟨⟨0#64, 0#64⟩, ⟨0, 0⟩, ⟨0, 0⟩⟩
theorem wrap_us {x : E} (h : okS x) : IntKind.u64.wrap x.lo = us x.lo := by
  unfold okS at h
  rw [IntKind.wrap_u64]; unfold us; split <;> omega
/-! ### slices.Contains -/
def upTo (f : Nat → Bool) (k : Nat) : Prop := ∀ j, j < k → f j = true
def foundI (f : Nat → Bool) (n : Int) : Prop := (n = -1 ∧ upTo f 5) ∨ (0 ≤ n ∧ n < 5 ∧ f n.toNat = false)
theorem index5 (f : Nat → Bool) (d : Nat) (w : World) (hc : ∀ j, j < 5 → w.cell? ⟨d, j, none⟩ = some (.bool (f j))) :
    Calls Tryz.prog 171 #[.slice (some ⟨d, 0, none⟩) 5 5, .bool false] w fun e w' => (∃ n : Int, e = .returned (.int .i64 n) ∧ foundI f n) ∧ w = w' := by
  have HC := Lib.hid hc
  clear hc
  go_enter Tryz.func171, Tryz.ntmps171
  go_wp2
  go_loop [5, 8] (fun x i => ∃ k : Nat, k ≤ 5 ∧ i = .int .i64 k ∧ upTo f k) (fun _ i => 5 - (intOf i).toNat)
  case atStart => exact ⟨0, by omega, rfl, fun j h => absurd h (by omega)⟩
  case round =>
    obtain ⟨k, hk, rfl, hu⟩ := hrel
    by_cases hlt : k < 5
    · have c0 := HC.out k hlt
      have hu2 := Lib.hid hu
      clear hu
      cases hf : f k
      · rw [hf] at c0
        have HF := Lib.hid hf
        clear hf
        go_wp2
        go_ret
        exact ⟨⟨(k : Int), rfl, .inr ⟨by omega, by omega, by simpa using HF.out⟩⟩, rfl⟩
      · rw [hf] at c0
        have HF := Lib.hid hf
        clear hf
        go_wp2
        go_round
        case rel => exact ⟨k + 1, by omega, by go_num, fun j hj => by rcases Nat.lt_succ_iff_lt_or_eq.1 hj with h | h; exact hu2.out j h; rw [h]; exact HF.out⟩
        case measure => simp [intOf]; omega
    · have hu2 := Lib.hid hu
      clear hu
      obtain rfl : k = 5 := by omega
      go_wp2
      go_ret
      exact ⟨⟨-1, rfl, .inl ⟨rfl, hu2.out⟩⟩, rfl⟩
theorem contains5 (b0 b1 b2 b3 b4 : Bool) (d : Nat) (w : World) (h0 : w.cell? ⟨d, 0, none⟩ = some (.bool b0)) (h1 : w.cell? ⟨d, 1, none⟩ = some (.bool b1)) (h2 : w.cell? ⟨d, 2, none⟩ = some (.bool b2))
    (h3 : w.cell? ⟨d, 3, none⟩ = some (.bool b3)) (h4 : w.cell? ⟨d, 4, none⟩ = some (.bool b4)) :
    Calls Tryz.prog 106 #[.slice (some ⟨d, 0, none⟩) 5 5, .bool false] w fun e w' => e = .returned (.bool (!(b0 && b1 && b2 && b3 && b4))) ∧ Below w.heap.size w w' := by
  have hi := index5 (fun j => if j = 0 then b0 else if j = 1 then b1 else if j = 2 then b2 else if j = 3 then b3 else b4) d w (by
    intro j hj
    rcases (by omega : j = 0 ∨ j = 1 ∨ j = 2 ∨ j = 3 ∨ j = 4) with rfl | rfl | rfl | rfl | rfl <;> simpa using by assumption)
  have HI := Lib.hid hi
  clear hi h0 h1 h2 h3 h4
  refine Gw.pure ?_
  go_enter Tryz.func106, Tryz.ntmps106
  go_wp2_with fail
  refine HI.out.mono ?_
  rintro e w' ⟨⟨n, rfl, hn⟩, rfl⟩
  have HN := Lib.hid hn
  clear hn
  go_wp2
  go_ret
  refine ⟨?_, rfl⟩
  have hn := HN.out
  congr 2
  unfold foundI upTo at hn
  rcases hn with ⟨rfl, h⟩ | ⟨g0, g1, h⟩
  · have e0 := h 0 (by omega); have e1 := h 1 (by omega); have e2 := h 2 (by omega); have e3 := h 3 (by omega); have e4 := h 4 (by omega)
    simp at e0 e1 e2 e3 e4
    simp [e0, e1, e2, e3, e4]
  · rcases (by omega : n = 0 ∨ n = 1 ∨ n = 2 ∨ n = 3 ∨ n = 4) with rfl | rfl | rfl | rfl | rfl <;> simp at h <;> simp [h]
end Go.Proofs.YtcimihckhobniaaGreat.Sc
namespace Go.Proofs.YtcimihckhobniaaGreat
open Go.RowKit Tn Ow Sp
set_option linter.unusedVariables false
set_option linter.unusedSimpArgs false
theorem rt_i {k : IntKind} {a b : Int} (h : a = b) : Ending.returned (.int k a) = .returned (.int k b) := by rw [h]
theorem rt_b {x y : Bool} (h3 : x = y) : Ending.returned (.bool x) = .returned (.bool y) := by rw [h3]
theorem rt_u {k : IntKind} {a b c d : Int} (h1 : a = b) (h2 : c = d) : Ending.returned (.agg #[.int k a, .int k c]) = .returned (.agg #[.int k b, .int k d]) := by rw [h1, h2]
theorem rt_ub {k : IntKind} {a b c d : Int} {x y : Bool} (h1 : a = b) (h2 : c = d) (h3 : x = y) : Ending.returned (.tuple #[.agg #[.int k a, .int k c], .bool x]) = .returned (.tuple #[.agg #[.int k b, .int k d], .bool y]) := by rw [h1, h2, h3]
theorem wr64 (n : Int) (h0 : -9223372036854775808 ≤ n) (h1 : n ≤ 9223372036854775807) : wrap64 n = n := by unfold wrap64; omega
theorem pow_bd (k : Nat) (hk : k ≤ 63) : (1 : Int) ≤ 2 ^ k ∧ (2 : Int) ^ k ≤ 9223372036854775808 := by
  have h1 := pow_pos' k
  have h2 : (2 : Nat) ^ k ≤ 2 ^ 63 := Nat.pow_le_pow_right (by decide) hk
  have h3 := Int.ofNat_le.2 h2
  rw [pow_cast] at h3
  simp only [Nat.reducePow] at h3
  omega
theorem ones_any (k : Nat) (hk : k ≤ 64) (w : World) :
    Calls Tryz.prog 169 #[.int .i64 k] w fun e w' => e = .returned (.int .u64 (2 ^ k - 1)) ∧ w = w' := by
  go_enter Tryz.func169, Tryz.ntmps169
  go_wp2
  go_returns
  refine ⟨rt_i ?_, rfl⟩
  rw [IntKind.wrap_u64, IntKind.wrap_u64]
  by_cases h : k = 64
  · subst h; rfl
  · have := pow_bd k (by omega)
    omega
def lenTab : ByteArray := { data := #[0, 1, 2, 2, 3, 3, 3, 3, 4, 4, 4, 4, 4, 4, 4, 4, 5, 5, 5, 5, 5, 5, 5, 5, 5, 5, 5, 5, 5, 5, 5, 5, 6, 6, 6, 6, 6, 6, 6, 6, 6, 6, 6, 6, 6, 6, 6, 6, 6, 6, 6, 6, 6, 6, 6, 6, 6, 6, 6, 6, 6, 6, 6, 6, 7, 7, 7, 7, 7, 7, 7, 7, 7, 7, 7, 7, 7, 7, 7, 7, 7, 7, 7, 7, 7, 7, 7, 7, 7, 7, 7, 7, 7, 7, 7, 7, 7, 7, 7, 7, 7, 7, 7, 7, 7, 7, 7, 7, 7, 7, 7, 7, 7, 7, 7, 7, 7, 7, 7, 7, 7, 7, 7, 7, 7, 7, 7, 7, 8, 8, 8, 8, 8, 8, 8, 8, 8, 8, 8, 8, 8, 8, 8, 8, 8, 8, 8, 8, 8, 8, 8, 8, 8, 8, 8, 8, 8, 8, 8, 8, 8, 8, 8, 8, 8, 8, 8, 8, 8, 8, 8, 8, 8, 8, 8, 8, 8, 8, 8, 8, 8, 8, 8, 8, 8, 8, 8, 8, 8, 8, 8, 8, 8, 8, 8, 8, 8, 8, 8, 8, 8, 8, 8, 8, 8, 8, 8, 8, 8, 8, 8, 8, 8, 8, 8, 8, 8, 8, 8, 8, 8, 8, 8, 8, 8, 8, 8, 8, 8, 8, 8, 8, 8, 8, 8, 8, 8, 8, 8, 8, 8, 8, 8, 8, 8, 8, 8, 8, 8, 8, 8, 8, 8, 8, 8, 8] }
theorem tab_size : lenTab.size = 256 := by decide +kernel
theorem tab_all : ∀ i : Fin 256, (lenTab[i.val]'(by rw [tab_size]; exact i.isLt)).toNat = ln i.val := by decide +kernel
theorem tab_at (i : Nat) (h : i < lenTab.size) : lenTab[i].toNat = ln i := tab_all ⟨i, by rw [tab_size] at h; exact h⟩
theorem len_end (n j : Nat) (x i : Int) (hi : i.toNat = n / 2 ^ j) (hx : x.toNat = n) (h : n / 2 ^ j < 256) (h2 : j = 0 ∨ n / 2 ^ j ≠ 0) (hj : j ≤ 56) : wrap64 ((j : Int) + wrap64 ((ln i.toNat : Nat) : Int)) = ((ln x.toNat : Nat) : Int) := by
  have h3 : ln (n / 2 ^ j) ≤ 8 := ln_le h
  rw [hi, hx, wr64 ((ln (n / 2 ^ j) : Nat) : Int) (by omega) (by omega), wr64 _ (by omega) (by omega)]
  rcases h2 with rfl | h2
  · rw [Nat.pow_zero, Nat.div_one]; omega
  · rw [ln_add j h2]; omega
set_option maxRecDepth 100000 in
theorem len_any (x : Int) (h0 : 0 ≤ x) (h1 : x ≤ 18446744073709551615) (w : World) :
    Calls Tryz.prog 170 #[.int .u64 x] w fun e w' => e = .returned (.int .i64 (ln x.toNat)) ∧ w = w' := by
  by_cases a1 : 4294967296 ≤ x
  · by_cases a2 : 65536 ≤ x / 4294967296
    · by_cases a3 : 256 ≤ x / 4294967296 / 65536
      · go_enter Tryz.func170, Tryz.ntmps170
        go_wp2_with fail
        go_returns
        refine ⟨rt_i ?_, rfl⟩
        refine (congrArg (fun (n : Nat) => wrap64 (((56 : Nat) : Int) + wrap64 (n : Int))) (tab_at (x / 4294967296 / 65536 / 256).toNat (by rw [tab_size]; omega))).trans ?_
        exact len_end x.toNat 56 x (x / 4294967296 / 65536 / 256) (by simp only [Nat.reducePow]; omega) rfl (by simp only [Nat.reducePow]; omega) (Or.inr (by simp only [Nat.reducePow]; omega)) (by decide)
      · go_enter Tryz.func170, Tryz.ntmps170
        go_wp2_with fail
        go_returns
        refine ⟨rt_i ?_, rfl⟩
        refine (congrArg (fun (n : Nat) => wrap64 (((48 : Nat) : Int) + wrap64 (n : Int))) (tab_at (x / 4294967296 / 65536).toNat (by rw [tab_size]; omega))).trans ?_
        exact len_end x.toNat 48 x (x / 4294967296 / 65536) (by simp only [Nat.reducePow]; omega) rfl (by simp only [Nat.reducePow]; omega) (Or.inr (by simp only [Nat.reducePow]; omega)) (by decide)
    · by_cases a3 : 256 ≤ x / 4294967296
      · go_enter Tryz.func170, Tryz.ntmps170
        go_wp2_with fail
        go_returns
        refine ⟨rt_i ?_, rfl⟩
        refine (congrArg (fun (n : Nat) => wrap64 (((40 : Nat) : Int) + wrap64 (n : Int))) (tab_at (x / 4294967296 / 256).toNat (by rw [tab_size]; omega))).trans ?_
        exact len_end x.toNat 40 x (x / 4294967296 / 256) (by simp only [Nat.reducePow]; omega) rfl (by simp only [Nat.reducePow]; omega) (Or.inr (by simp only [Nat.reducePow]; omega)) (by decide)
      · go_enter Tryz.func170, Tryz.ntmps170
        go_wp2_with fail
        go_returns
        refine ⟨rt_i ?_, rfl⟩
        refine (congrArg (fun (n : Nat) => wrap64 (((32 : Nat) : Int) + wrap64 (n : Int))) (tab_at (x / 4294967296).toNat (by rw [tab_size]; omega))).trans ?_
        exact len_end x.toNat 32 x (x / 4294967296) (by simp only [Nat.reducePow]; omega) rfl (by simp only [Nat.reducePow]; omega) (Or.inr (by simp only [Nat.reducePow]; omega)) (by decide)
  · by_cases a2 : 65536 ≤ x
    · by_cases a3 : 256 ≤ x / 65536
      · go_enter Tryz.func170, Tryz.ntmps170
        go_wp2_with fail
        go_returns
        refine ⟨rt_i ?_, rfl⟩
        refine (congrArg (fun (n : Nat) => wrap64 (((24 : Nat) : Int) + wrap64 (n : Int))) (tab_at (x / 65536 / 256).toNat (by rw [tab_size]; omega))).trans ?_
        exact len_end x.toNat 24 x (x / 65536 / 256) (by simp only [Nat.reducePow]; omega) rfl (by simp only [Nat.reducePow]; omega) (Or.inr (by simp only [Nat.reducePow]; omega)) (by decide)
      · go_enter Tryz.func170, Tryz.ntmps170
        go_wp2_with fail
        go_returns
        refine ⟨rt_i ?_, rfl⟩
        refine (congrArg (fun (n : Nat) => wrap64 (((16 : Nat) : Int) + wrap64 (n : Int))) (tab_at (x / 65536).toNat (by rw [tab_size]; omega))).trans ?_
        exact len_end x.toNat 16 x (x / 65536) (by simp only [Nat.reducePow]; omega) rfl (by simp only [Nat.reducePow]; omega) (Or.inr (by simp only [Nat.reducePow]; omega)) (by decide)
    · by_cases a3 : 256 ≤ x
      · go_enter Tryz.func170, Tryz.ntmps170
        go_wp2_with fail
        go_returns
        refine ⟨rt_i ?_, rfl⟩
        refine (congrArg (fun (n : Nat) => wrap64 (((8 : Nat) : Int) + wrap64 (n : Int))) (tab_at (x / 256).toNat (by rw [tab_size]; omega))).trans ?_
        exact len_end x.toNat 8 x (x / 256) (by simp only [Nat.reducePow]; omega) rfl (by simp only [Nat.reducePow]; omega) (Or.inr (by simp only [Nat.reducePow]; omega)) (by decide)
      · go_enter Tryz.func170, Tryz.ntmps170
        go_wp2_with fail
        go_returns
        refine ⟨rt_i ?_, rfl⟩
        refine (congrArg (fun (n : Nat) => wrap64 (wrap64 (n : Int))) (tab_at (x).toNat (by rw [tab_size]; omega))).trans ?_
        refine (congrArg wrap64 (Int.zero_add _)).symm.trans ?_
        exact len_end x.toNat 0 x (x) (by simp only [Nat.reducePow]; omega) rfl (by simp only [Nat.reducePow]; omega) (Or.inl rfl) (by decide)
end Go.Proofs.YtcimihckhobniaaGreat
namespace Go.Proofs.YtcimihckhobniaaGreat
open Go.RowKit Tn Ow Sp
set_option linter.unusedVariables false
set_option linter.unusedSimpArgs false
theorem below_then {B : Nat} {w w1 w2 : World} (h1 : Below B w w1) (h2 : Below w1.heap.size w1 w2) (hB : B ≤ w.heap.size) : Below B w w2 :=
  h1.trans (h2.mono (by have := h1.size; omega))
theorem keep1 {w0 w1 : World} {p : Addr} {v : Value} (q1 : Below w0.heap.size w0 w1) (h : w0.cell? p = some v) : w1.cell? p = some v :=
  (q1.cell (World.block_lt_of_cell? w0 _ h)).trans h
theorem keepf {w0 w1 : World} {p : Addr} (q1 : Below w0.heap.size w0 w1) (h : p.block < w0.heap.size) {b : Bool} (hf : w0.frozen? p = b) : w1.frozen? p = b :=
  (q1.frozen h).trans hf
theorem uall_any (w : World) :
    Calls Tryz.prog 50 #[] w fun e w' => e = .returned (.agg #[.int .u64 uAll.lo, .int .u64 uAll.hi]) ∧ Below w.heap.size w w' := by
  go_enter Tryz.func50, Tryz.ntmps50
  go_wp2
  go_returns
  exact ⟨rfl, by go_grown⟩
theorem sall_any (w : World) :
    Calls Tryz.prog 51 #[] w fun e w' => e = .returned (.agg #[.int .i64 sAll.lo, .int .i64 sAll.hi]) ∧ Below w.heap.size w w' := by
  go_enter Tryz.func51, Tryz.ntmps51
  go_wp2
  go_returns
  exact ⟨rfl, by go_grown⟩
theorem uof_any (v : Int) (w : World) :
    Calls Tryz.prog 44 #[.int .u64 v] w fun e w' => e = .returned (.agg #[.int .u64 (ofE v).lo, .int .u64 (ofE v).hi]) ∧ Below w.heap.size w w' := by
  go_enter Tryz.func44, Tryz.ntmps44
  go_wp2
  go_returns
  exact ⟨rfl, by go_grown⟩
theorem sg_wrap (v : Int) (h0 : 0 ≤ v) (h1 : v ≤ 18446744073709551615) : wrap64 v = sg v := by unfold sg wrap64; split <;> omega
theorem us_wrap (v : Int) (h0 : -9223372036854775808 ≤ v) (h1 : v ≤ 9223372036854775807) : IntKind.u64.wrap v = us v := by rw [IntKind.wrap_u64]; unfold us; split <;> omega
theorem sof_any (v : Int) (h0 : 0 ≤ v) (h1 : v ≤ 18446744073709551615) (w : World) :
    Calls Tryz.prog 45 #[.int .u64 v] w fun e w' => e = .returned (.agg #[.int .i64 (ofE (sg v)).lo, .int .i64 (ofE (sg v)).hi]) ∧ Below w.heap.size w w' := by
  go_enter Tryz.func45, Tryz.ntmps45
  go_wp2
  go_returns
  exact ⟨rt_u (sg_wrap v h0 h1) (sg_wrap v h0 h1), by go_grown⟩
theorem uwithin_any (a b : E) (w : World) :
    Calls Tryz.prog 115 #[.agg #[.int .u64 a.lo, .int .u64 a.hi], .agg #[.int .u64 b.lo, .int .u64 b.hi]] w fun e w' => e = .returned (.bool (withE a b)) ∧ Below w.heap.size w w' := by
  by_cases h1 : b.lo ≤ a.lo
  · go_enter Tryz.func115, Tryz.ntmps115
    go_wp2
    go_returns
    refine ⟨rt_b ?_, by go_grown⟩
    unfold withE
    rw [decide_eq_decide]
    exact ⟨fun h => ⟨h1, h⟩, fun h => h.2⟩
  · go_enter Tryz.func115, Tryz.ntmps115
    go_wp2
    go_returns
    refine ⟨rt_b ?_, by go_grown⟩
    unfold withE
    exact (decide_eq_false (by omega)).symm
set_option maxHeartbeats 4000000 in
theorem umeet_any (a b : E) (w : World) :
    Calls Tryz.prog 167 #[.agg #[.int .u64 a.lo, .int .u64 a.hi], .agg #[.int .u64 b.lo, .int .u64 b.hi]] w fun e w' => e = .returned (.tuple #[.agg #[.int .u64 (meetE a b).lo, .int .u64 (meetE a b).hi], .bool (metE a b)]) ∧ Below w.heap.size w w' := by
  by_cases p : a.lo < b.lo
  · by_cases q : b.hi < a.hi
    · by_cases h : b.lo ≤ b.hi
      · have e1 := Lib.hid (show meetE a b = ⟨b.lo, b.hi⟩ by unfold meetE; rw [if_pos (by omega)]; exact E.eq (show max a.lo b.lo = b.lo by omega) (show min a.hi b.hi = b.hi by omega))
        have e2 := Lib.hid (show metE a b = true by unfold metE; rw [decide_eq_true (by omega)])
        rw [e1.out, e2.out]
        go_enter Tryz.func167, Tryz.ntmps167
        go_wp2
        go_returns
        exact ⟨rt_ub rfl rfl rfl, by go_grown⟩
      · have e1 := Lib.hid (show meetE a b = ⟨0, 0⟩ by unfold meetE; rw [if_neg (by omega)])
        have e2 := Lib.hid (show metE a b = false by unfold metE; rw [decide_eq_false (by omega)])
        rw [e1.out, e2.out]
        go_enter Tryz.func167, Tryz.ntmps167
        go_wp2
        go_returns
        exact ⟨rt_ub rfl rfl rfl, by go_grown⟩
    · by_cases h : b.lo ≤ a.hi
      · have e1 := Lib.hid (show meetE a b = ⟨b.lo, a.hi⟩ by unfold meetE; rw [if_pos (by omega)]; exact E.eq (show max a.lo b.lo = b.lo by omega) (show min a.hi b.hi = a.hi by omega))
        have e2 := Lib.hid (show metE a b = true by unfold metE; rw [decide_eq_true (by omega)])
        rw [e1.out, e2.out]
        go_enter Tryz.func167, Tryz.ntmps167
        go_wp2
        go_returns
        exact ⟨rt_ub rfl rfl rfl, by go_grown⟩
      · have e1 := Lib.hid (show meetE a b = ⟨0, 0⟩ by unfold meetE; rw [if_neg (by omega)])
        have e2 := Lib.hid (show metE a b = false by unfold metE; rw [decide_eq_false (by omega)])
        rw [e1.out, e2.out]
        go_enter Tryz.func167, Tryz.ntmps167
        go_wp2
        go_returns
        exact ⟨rt_ub rfl rfl rfl, by go_grown⟩
  · by_cases q : b.hi < a.hi
    · by_cases h : a.lo ≤ b.hi
      · have e1 := Lib.hid (show meetE a b = ⟨a.lo, b.hi⟩ by unfold meetE; rw [if_pos (by omega)]; exact E.eq (show max a.lo b.lo = a.lo by omega) (show min a.hi b.hi = b.hi by omega))
        have e2 := Lib.hid (show metE a b = true by unfold metE; rw [decide_eq_true (by omega)])
        rw [e1.out, e2.out]
        go_enter Tryz.func167, Tryz.ntmps167
        go_wp2
        go_returns
        exact ⟨rt_ub rfl rfl rfl, by go_grown⟩
      · have e1 := Lib.hid (show meetE a b = ⟨0, 0⟩ by unfold meetE; rw [if_neg (by omega)])
        have e2 := Lib.hid (show metE a b = false by unfold metE; rw [decide_eq_false (by omega)])
        rw [e1.out, e2.out]
        go_enter Tryz.func167, Tryz.ntmps167
        go_wp2
        go_returns
        exact ⟨rt_ub rfl rfl rfl, by go_grown⟩
    · by_cases h : a.lo ≤ a.hi
      · have e1 := Lib.hid (show meetE a b = ⟨a.lo, a.hi⟩ by unfold meetE; rw [if_pos (by omega)]; exact E.eq (show max a.lo b.lo = a.lo by omega) (show min a.hi b.hi = a.hi by omega))
        have e2 := Lib.hid (show metE a b = true by unfold metE; rw [decide_eq_true (by omega)])
        rw [e1.out, e2.out]
        go_enter Tryz.func167, Tryz.ntmps167
        go_wp2
        go_returns
        exact ⟨rt_ub rfl rfl rfl, by go_grown⟩
      · have e1 := Lib.hid (show meetE a b = ⟨0, 0⟩ by unfold meetE; rw [if_neg (by omega)])
        have e2 := Lib.hid (show metE a b = false by unfold metE; rw [decide_eq_false (by omega)])
        rw [e1.out, e2.out]
        go_enter Tryz.func167, Tryz.ntmps167
        go_wp2
        go_returns
        exact ⟨rt_ub rfl rfl rfl, by go_grown⟩
theorem swithin_any (a b : E) (w : World) :
    Calls Tryz.prog 116 #[.agg #[.int .i64 a.lo, .int .i64 a.hi], .agg #[.int .i64 b.lo, .int .i64 b.hi]] w fun e w' => e = .returned (.bool (withE a b)) ∧ Below w.heap.size w w' := by
  by_cases h1 : b.lo ≤ a.lo
  · go_enter Tryz.func116, Tryz.ntmps116
    go_wp2
    go_returns
    refine ⟨rt_b ?_, by go_grown⟩
    unfold withE
    rw [decide_eq_decide]
    exact ⟨fun h => ⟨h1, h⟩, fun h => h.2⟩
  · go_enter Tryz.func116, Tryz.ntmps116
    go_wp2
    go_returns
    refine ⟨rt_b ?_, by go_grown⟩
    unfold withE
    exact (decide_eq_false (by omega)).symm
set_option maxHeartbeats 4000000 in
theorem smeet_any (a b : E) (w : World) :
    Calls Tryz.prog 168 #[.agg #[.int .i64 a.lo, .int .i64 a.hi], .agg #[.int .i64 b.lo, .int .i64 b.hi]] w fun e w' => e = .returned (.tuple #[.agg #[.int .i64 (meetE a b).lo, .int .i64 (meetE a b).hi], .bool (metE a b)]) ∧ Below w.heap.size w w' := by
  by_cases p : a.lo < b.lo
  · by_cases q : b.hi < a.hi
    · by_cases h : b.lo ≤ b.hi
      · have e1 := Lib.hid (show meetE a b = ⟨b.lo, b.hi⟩ by unfold meetE; rw [if_pos (by omega)]; exact E.eq (show max a.lo b.lo = b.lo by omega) (show min a.hi b.hi = b.hi by omega))
        have e2 := Lib.hid (show metE a b = true by unfold metE; rw [decide_eq_true (by omega)])
        rw [e1.out, e2.out]
        go_enter Tryz.func168, Tryz.ntmps168
        go_wp2
        go_returns
        exact ⟨rt_ub rfl rfl rfl, by go_grown⟩
      · have e1 := Lib.hid (show meetE a b = ⟨0, 0⟩ by unfold meetE; rw [if_neg (by omega)])
        have e2 := Lib.hid (show metE a b = false by unfold metE; rw [decide_eq_false (by omega)])
        rw [e1.out, e2.out]
        go_enter Tryz.func168, Tryz.ntmps168
        go_wp2
        go_returns
        exact ⟨rt_ub rfl rfl rfl, by go_grown⟩
    · by_cases h : b.lo ≤ a.hi
      · have e1 := Lib.hid (show meetE a b = ⟨b.lo, a.hi⟩ by unfold meetE; rw [if_pos (by omega)]; exact E.eq (show max a.lo b.lo = b.lo by omega) (show min a.hi b.hi = a.hi by omega))
        have e2 := Lib.hid (show metE a b = true by unfold metE; rw [decide_eq_true (by omega)])
        rw [e1.out, e2.out]
        go_enter Tryz.func168, Tryz.ntmps168
        go_wp2
        go_returns
        exact ⟨rt_ub rfl rfl rfl, by go_grown⟩
      · have e1 := Lib.hid (show meetE a b = ⟨0, 0⟩ by unfold meetE; rw [if_neg (by omega)])
        have e2 := Lib.hid (show metE a b = false by unfold metE; rw [decide_eq_false (by omega)])
        rw [e1.out, e2.out]
        go_enter Tryz.func168, Tryz.ntmps168
        go_wp2
        go_returns
        exact ⟨rt_ub rfl rfl rfl, by go_grown⟩
  · by_cases q : b.hi < a.hi
    · by_cases h : a.lo ≤ b.hi
      · have e1 := Lib.hid (show meetE a b = ⟨a.lo, b.hi⟩ by unfold meetE; rw [if_pos (by omega)]; exact E.eq (show max a.lo b.lo = a.lo by omega) (show min a.hi b.hi = b.hi by omega))
        have e2 := Lib.hid (show metE a b = true by unfold metE; rw [decide_eq_true (by omega)])
        rw [e1.out, e2.out]
        go_enter Tryz.func168, Tryz.ntmps168
        go_wp2
        go_returns
        exact ⟨rt_ub rfl rfl rfl, by go_grown⟩
      · have e1 := Lib.hid (show meetE a b = ⟨0, 0⟩ by unfold meetE; rw [if_neg (by omega)])
        have e2 := Lib.hid (show metE a b = false by unfold metE; rw [decide_eq_false (by omega)])
        rw [e1.out, e2.out]
        go_enter Tryz.func168, Tryz.ntmps168
        go_wp2
        go_returns
        exact ⟨rt_ub rfl rfl rfl, by go_grown⟩
    · by_cases h : a.lo ≤ a.hi
      · have e1 := Lib.hid (show meetE a b = ⟨a.lo, a.hi⟩ by unfold meetE; rw [if_pos (by omega)]; exact E.eq (show max a.lo b.lo = a.lo by omega) (show min a.hi b.hi = a.hi by omega))
        have e2 := Lib.hid (show metE a b = true by unfold metE; rw [decide_eq_true (by omega)])
        rw [e1.out, e2.out]
        go_enter Tryz.func168, Tryz.ntmps168
        go_wp2
        go_returns
        exact ⟨rt_ub rfl rfl rfl, by go_grown⟩
      · have e1 := Lib.hid (show meetE a b = ⟨0, 0⟩ by unfold meetE; rw [if_neg (by omega)])
        have e2 := Lib.hid (show metE a b = false by unfold metE; rw [decide_eq_false (by omega)])
        rw [e1.out, e2.out]
        go_enter Tryz.func168, Tryz.ntmps168
        go_wp2
        go_returns
        exact ⟨rt_ub rfl rfl rfl, by go_grown⟩
end Go.Proofs.YtcimihckhobniaaGreat
namespace Go.Proofs.YtcimihckhobniaaGreat
open Go.RowKit Tn Ow Sp
set_option linter.unusedVariables false
set_option linter.unusedSimpArgs false
theorem tcells {w : World} {b : Nat} {t : TypeId} {x y : Value} (h : Bk w b t #[x, y]) : w.cell? ⟨b, 0, none⟩ = some x ∧ w.cell? ⟨b, 1, none⟩ = some y := ⟨h.cell 0, h.cell 1⟩
theorem set_fst {W : World} {r : Nat} {u v x : Value} (h : W.cell? ⟨r, 0, none⟩ = some x) : ((W.setCell ⟨r, 0, none⟩ u).setCell ⟨r, 1, none⟩ v).cell? ⟨r, 0, none⟩ = some u := by
  rw [World.cell?_setCell_other _ _ _ _ (fun e => by injection e with _ e2 _; omega)]
  exact World.cell?_setCell_same _ _ _ h
theorem set_snd {W : World} {r : Nat} {u v x : Value} (h : W.cell? ⟨r, 1, none⟩ = some x) : ((W.setCell ⟨r, 0, none⟩ u).setCell ⟨r, 1, none⟩ v).cell? ⟨r, 1, none⟩ = some v := by
  have e1 : (W.setCell ⟨r, 0, none⟩ u).cell? ⟨r, 1, none⟩ = W.cell? ⟨r, 1, none⟩ := World.cell?_setCell_other _ _ _ _ (fun e => by injection e with _ e2 _; omega)
  exact World.cell?_setCell_same _ _ _ (e1.trans h)
theorem keep2 {w W w2 : World} {p0 p1 : Addr} {y0 y1 : Value} (hb : Below W.heap.size W w2) (hh : W.cell? p0 = some y0 ∧ W.cell? p1 = some y1 ∧ Below w.heap.size w W) :
    w2.cell? p0 = some y0 ∧ w2.cell? p1 = some y1 ∧ Below w.heap.size w w2 := by
  obtain ⟨a0, a1, B⟩ := hh
  exact ⟨keep1 hb a0, keep1 hb a1, below_then B hb (Nat.le_refl _)⟩
set_option maxHeartbeats 1000000 in
theorem uin_any (a : E) (v : Int) (w : World) :
    Calls Tryz.prog 58 #[.agg #[.int .u64 a.lo, .int .u64 a.hi], .int .u64 v] w fun e w' => e = .returned (.bool (inE a (v))) ∧ Below w.heap.size w w' := by
  go_enter Tryz.func58, Tryz.ntmps58
  go_wp2_with fail
  have K0 := (Bk.new w 26 #[.int .u64 a.lo, .int .u64 a.hi])
  have B0 : Below w.heap.size w (w.alloc (.cells #[.int .u64 a.lo, .int .u64 a.hi] 26)) := by go_grown
  generalize (w.alloc (.cells #[.int .u64 a.lo, .int .u64 a.hi] 26)) = w0 at *
  have H0 := Lib.hid K0
  obtain ⟨c00, c01⟩ := tcells K0
  have HB := Lib.hid B0
  clear K0 B0
  go_region_held3 (fun w' => w'.cell? ⟨w.heap.size, 0, none⟩ = some (.int .u64 a.lo) ∧ w'.cell? ⟨w.heap.size, 1, none⟩ = some (.int .u64 a.hi) ∧ Below w.heap.size w w')
    (first | exact ⟨c00, c01, HB.out.drew⟩ | exact keep2 qb (by assumption) | exact keep2 qb ⟨by assumption, by assumption, by assumption⟩ | exact keep2 qb ⟨c00, c01, HB.out.drew⟩)
    (first | (go_at_call 44; with_reducible refine (uof_any v _).mono ?_; rintro e w2 ⟨rfl, qb⟩) | (go_at_call 115; with_reducible refine (uwithin_any (ofE (v)) a _).mono ?_; rintro e w2 ⟨rfl, qb⟩))
  rename_i hH
  have BB := Lib.hid hH.2.2
  clear qb hH
  go_wp2
  go_returns
  exact ⟨rfl, BB.out⟩
set_option maxHeartbeats 1000000 in
theorem sin_any (a : E) (v : Int) (h0 : 0 ≤ v) (h1 : v ≤ 18446744073709551615) (w : World) :
    Calls Tryz.prog 59 #[.agg #[.int .i64 a.lo, .int .i64 a.hi], .int .u64 v] w fun e w' => e = .returned (.bool (inE a (sg v))) ∧ Below w.heap.size w w' := by
  go_enter Tryz.func59, Tryz.ntmps59
  go_wp2_with fail
  have K0 := (Bk.new w 28 #[.int .i64 a.lo, .int .i64 a.hi])
  have B0 : Below w.heap.size w (w.alloc (.cells #[.int .i64 a.lo, .int .i64 a.hi] 28)) := by go_grown
  generalize (w.alloc (.cells #[.int .i64 a.lo, .int .i64 a.hi] 28)) = w0 at *
  have H0 := Lib.hid K0
  obtain ⟨c00, c01⟩ := tcells K0
  have HB := Lib.hid B0
  clear K0 B0
  go_region_held3 (fun w' => w'.cell? ⟨w.heap.size, 0, none⟩ = some (.int .i64 a.lo) ∧ w'.cell? ⟨w.heap.size, 1, none⟩ = some (.int .i64 a.hi) ∧ Below w.heap.size w w')
    (first | exact ⟨c00, c01, HB.out.drew⟩ | exact keep2 qb (by assumption) | exact keep2 qb ⟨by assumption, by assumption, by assumption⟩ | exact keep2 qb ⟨c00, c01, HB.out.drew⟩)
    (first | (go_at_call 45; with_reducible refine (sof_any v h0 h1 _).mono ?_; rintro e w2 ⟨rfl, qb⟩) | (go_at_call 116; with_reducible refine (swithin_any (ofE (sg v)) a _).mono ?_; rintro e w2 ⟨rfl, qb⟩))
  rename_i hH
  have BB := Lib.hid hH.2.2
  clear qb hH
  go_wp2
  go_returns
  exact ⟨rfl, BB.out⟩
end Go.Proofs.YtcimihckhobniaaGreat
namespace Go.Proofs.YtcimihckhobniaaGreat
open Go.RowKit Tn Ow Sp
set_option linter.unusedVariables false
set_option linter.unusedSimpArgs false
theorem below_st2 {w w1 : World} {r : Nat} {u v : Value} (h : Below w.heap.size w w1) (hr : w.heap.size ≤ r) : Below w.heap.size w ((w1.setCell ⟨r, 0, none⟩ u).setCell ⟨r, 1, none⟩ v) :=
  (h.setCell (p := ⟨r, 0, none⟩) hr _).setCell (p := ⟨r, 1, none⟩) hr _
theorem below_al {w w1 : World} (h : Below w.heap.size w w1) (o : Obj) : Below w.heap.size w (w1.alloc o) := h.alloc h.size o
theorem uwith_any (a b : E) (w : World) :
    Calls Tryz.prog 64 #[.agg #[.int .u64 a.lo, .int .u64 a.hi], .agg #[.int .u64 b.lo, .int .u64 b.hi]] w fun e w' => e = .returned (.bool (withE a b)) ∧ Below w.heap.size w w' := by
  go_enter Tryz.func64, Tryz.ntmps64
  go_wp2_with fail
  have K0 := ((Bk.new w 26 #[.int .u64 a.lo, .int .u64 a.hi]).alloc (.cells #[.int .u64 b.lo, .int .u64 b.hi] 26))
  have K1 := (Bk.new (w.alloc (.cells #[.int .u64 a.lo, .int .u64 a.hi] 26)) 26 #[.int .u64 b.lo, .int .u64 b.hi])
  rw [World.size_alloc] at K1
  have B0 : Below w.heap.size w ((w.alloc (.cells #[.int .u64 a.lo, .int .u64 a.hi] 26)).alloc (.cells #[.int .u64 b.lo, .int .u64 b.hi] 26)) := by go_grown
  generalize ((w.alloc (.cells #[.int .u64 a.lo, .int .u64 a.hi] 26)).alloc (.cells #[.int .u64 b.lo, .int .u64 b.hi] 26)) = w0 at *
  have H0 := Lib.hid K0
  obtain ⟨c00, c01⟩ := tcells K0
  have H1 := Lib.hid K1
  obtain ⟨c10, c11⟩ := tcells K1
  have HB := Lib.hid B0
  clear K0 K1 B0
  with_reducible refine (uwithin_any a b _).mono ?_
  rintro e w1 ⟨rfl, qb⟩
  replace c00 := keep1 qb c00
  replace c01 := keep1 qb c01
  replace c10 := keep1 qb c10
  replace c11 := keep1 qb c11
  replace H0 := Lib.hid (H0.out.below qb H0.out.lt)
  replace H1 := Lib.hid (H1.out.below qb H1.out.lt)
  replace HB := Lib.hid (below_then HB.out qb (Nat.le_refl _))
  clear qb
  go_wp2_with fail
  go_returns
  exact ⟨rfl, HB.out⟩
theorem umee_any (a b : E) (w : World) :
    Calls Tryz.prog 100 #[.agg #[.int .u64 a.lo, .int .u64 a.hi], .agg #[.int .u64 b.lo, .int .u64 b.hi]] w fun e w' => e = .returned (.tuple #[.agg #[.int .u64 (meetE a b).lo, .int .u64 (meetE a b).hi], .bool (metE a b)]) ∧ Below w.heap.size w w' := by
  obtain ⟨r, hr⟩ : ∃ r : E, meetE a b = r := ⟨_, rfl⟩
  have k3 : ∀ w : World, _ := fun w => umeet_any a b w
  rw [hr] at k3 ⊢
  have K3 := Lib.hid k3
  clear k3 hr
  go_enter Tryz.func100, Tryz.ntmps100
  go_wp2_with fail
  have K0 := (((Bk.new w 26 #[.int .u64 a.lo, .int .u64 a.hi]).alloc (.cells #[.int .u64 b.lo, .int .u64 b.hi] 26)).alloc (.cells #[.int .u64 0, .int .u64 0] 26))
  have K1 := ((Bk.new (w.alloc (.cells #[.int .u64 a.lo, .int .u64 a.hi] 26)) 26 #[.int .u64 b.lo, .int .u64 b.hi]).alloc (.cells #[.int .u64 0, .int .u64 0] 26))
  rw [World.size_alloc] at K1
  have K2 := (Bk.new ((w.alloc (.cells #[.int .u64 a.lo, .int .u64 a.hi] 26)).alloc (.cells #[.int .u64 b.lo, .int .u64 b.hi] 26)) 26 #[.int .u64 0, .int .u64 0])
  rw [World.size_alloc, World.size_alloc] at K2
  have B0 : Below w.heap.size w (((w.alloc (.cells #[.int .u64 a.lo, .int .u64 a.hi] 26)).alloc (.cells #[.int .u64 b.lo, .int .u64 b.hi] 26)).alloc (.cells #[.int .u64 0, .int .u64 0] 26)) := by go_grown
  generalize (((w.alloc (.cells #[.int .u64 a.lo, .int .u64 a.hi] 26)).alloc (.cells #[.int .u64 b.lo, .int .u64 b.hi] 26)).alloc (.cells #[.int .u64 0, .int .u64 0] 26)) = w0 at *
  have H0 := Lib.hid K0
  obtain ⟨c00, c01⟩ := tcells K0
  have H1 := Lib.hid K1
  obtain ⟨c10, c11⟩ := tcells K1
  have H2 := Lib.hid K2
  obtain ⟨c20, c21⟩ := tcells K2
  have f0 := K2.frozen 0
  have f1 := K2.frozen 1
  have HB := Lib.hid B0
  clear K0 K1 K2 B0
  with_reducible refine (K3.out _).mono ?_
  rintro e w1 ⟨rfl, qb⟩
  replace f0 := keepf qb (World.block_lt_of_cell? _ _ c20) f0
  replace f1 := keepf qb (World.block_lt_of_cell? _ _ c21) f1
  replace c00 := keep1 qb c00
  replace c01 := keep1 qb c01
  replace c10 := keep1 qb c10
  replace c11 := keep1 qb c11
  replace c20 := keep1 qb c20
  replace c21 := keep1 qb c21
  replace H0 := Lib.hid (H0.out.below qb H0.out.lt)
  replace H1 := Lib.hid (H1.out.below qb H1.out.lt)
  replace H2 := Lib.hid (H2.out.below qb H2.out.lt)
  replace HB := Lib.hid (below_then HB.out qb (Nat.le_refl _))
  clear qb
  have D2 := H2.out.alloc (.cells #[.int .u64 r.lo, .int .u64 r.hi] 119)
  obtain ⟨d20, d21⟩ := tcells D2
  have g0 := D2.frozen 0
  have g1 := D2.frozen 1
  clear D2
  go_wp2_with fail
  have r0 : ∀ u v, (((w1.alloc (.cells #[.int .u64 r.lo, .int .u64 r.hi] 119)).setCell ⟨w.heap.size + 1 + 1, 0, none⟩ u).setCell ⟨w.heap.size + 1 + 1, 1, none⟩ v).cell? ⟨w.heap.size + 1 + 1, 0, none⟩ = some u := fun u v => set_fst d20
  have r1 : ∀ u v, (((w1.alloc (.cells #[.int .u64 r.lo, .int .u64 r.hi] 119)).setCell ⟨w.heap.size + 1 + 1, 0, none⟩ u).setCell ⟨w.heap.size + 1 + 1, 1, none⟩ v).cell? ⟨w.heap.size + 1 + 1, 1, none⟩ = some v := fun u v => set_snd d21
  refine bodyPost_ret (by simp [results, Tryz.results100, r0, r1, go_sem]; try rfl) rfl ?_
  exact ⟨rt_ub rfl rfl rfl, below_st2 (below_al HB.out _) (by omega)⟩
theorem swith_any (a b : E) (w : World) :
    Calls Tryz.prog 65 #[.agg #[.int .i64 a.lo, .int .i64 a.hi], .agg #[.int .i64 b.lo, .int .i64 b.hi]] w fun e w' => e = .returned (.bool (withE a b)) ∧ Below w.heap.size w w' := by
  go_enter Tryz.func65, Tryz.ntmps65
  go_wp2_with fail
  have K0 := ((Bk.new w 28 #[.int .i64 a.lo, .int .i64 a.hi]).alloc (.cells #[.int .i64 b.lo, .int .i64 b.hi] 28))
  have K1 := (Bk.new (w.alloc (.cells #[.int .i64 a.lo, .int .i64 a.hi] 28)) 28 #[.int .i64 b.lo, .int .i64 b.hi])
  rw [World.size_alloc] at K1
  have B0 : Below w.heap.size w ((w.alloc (.cells #[.int .i64 a.lo, .int .i64 a.hi] 28)).alloc (.cells #[.int .i64 b.lo, .int .i64 b.hi] 28)) := by go_grown
  generalize ((w.alloc (.cells #[.int .i64 a.lo, .int .i64 a.hi] 28)).alloc (.cells #[.int .i64 b.lo, .int .i64 b.hi] 28)) = w0 at *
  have H0 := Lib.hid K0
  obtain ⟨c00, c01⟩ := tcells K0
  have H1 := Lib.hid K1
  obtain ⟨c10, c11⟩ := tcells K1
  have HB := Lib.hid B0
  clear K0 K1 B0
  with_reducible refine (swithin_any a b _).mono ?_
  rintro e w1 ⟨rfl, qb⟩
  replace c00 := keep1 qb c00
  replace c01 := keep1 qb c01
  replace c10 := keep1 qb c10
  replace c11 := keep1 qb c11
  replace H0 := Lib.hid (H0.out.below qb H0.out.lt)
  replace H1 := Lib.hid (H1.out.below qb H1.out.lt)
  replace HB := Lib.hid (below_then HB.out qb (Nat.le_refl _))
  clear qb
  go_wp2_with fail
  go_returns
  exact ⟨rfl, HB.out⟩
theorem smee_any (a b : E) (w : World) :
    Calls Tryz.prog 102 #[.agg #[.int .i64 a.lo, .int .i64 a.hi], .agg #[.int .i64 b.lo, .int .i64 b.hi]] w fun e w' => e = .returned (.tuple #[.agg #[.int .i64 (meetE a b).lo, .int .i64 (meetE a b).hi], .bool (metE a b)]) ∧ Below w.heap.size w w' := by
  obtain ⟨r, hr⟩ : ∃ r : E, meetE a b = r := ⟨_, rfl⟩
  have k3 : ∀ w : World, _ := fun w => smeet_any a b w
  rw [hr] at k3 ⊢
  have K3 := Lib.hid k3
  clear k3 hr
  go_enter Tryz.func102, Tryz.ntmps102
  go_wp2_with fail
  have K0 := (((Bk.new w 28 #[.int .i64 a.lo, .int .i64 a.hi]).alloc (.cells #[.int .i64 b.lo, .int .i64 b.hi] 28)).alloc (.cells #[.int .i64 0, .int .i64 0] 28))
  have K1 := ((Bk.new (w.alloc (.cells #[.int .i64 a.lo, .int .i64 a.hi] 28)) 28 #[.int .i64 b.lo, .int .i64 b.hi]).alloc (.cells #[.int .i64 0, .int .i64 0] 28))
  rw [World.size_alloc] at K1
  have K2 := (Bk.new ((w.alloc (.cells #[.int .i64 a.lo, .int .i64 a.hi] 28)).alloc (.cells #[.int .i64 b.lo, .int .i64 b.hi] 28)) 28 #[.int .i64 0, .int .i64 0])
  rw [World.size_alloc, World.size_alloc] at K2
  have B0 : Below w.heap.size w (((w.alloc (.cells #[.int .i64 a.lo, .int .i64 a.hi] 28)).alloc (.cells #[.int .i64 b.lo, .int .i64 b.hi] 28)).alloc (.cells #[.int .i64 0, .int .i64 0] 28)) := by go_grown
  generalize (((w.alloc (.cells #[.int .i64 a.lo, .int .i64 a.hi] 28)).alloc (.cells #[.int .i64 b.lo, .int .i64 b.hi] 28)).alloc (.cells #[.int .i64 0, .int .i64 0] 28)) = w0 at *
  have H0 := Lib.hid K0
  obtain ⟨c00, c01⟩ := tcells K0
  have H1 := Lib.hid K1
  obtain ⟨c10, c11⟩ := tcells K1
  have H2 := Lib.hid K2
  obtain ⟨c20, c21⟩ := tcells K2
  have f0 := K2.frozen 0
  have f1 := K2.frozen 1
  have HB := Lib.hid B0
  clear K0 K1 K2 B0
  with_reducible refine (K3.out _).mono ?_
  rintro e w1 ⟨rfl, qb⟩
  replace f0 := keepf qb (World.block_lt_of_cell? _ _ c20) f0
  replace f1 := keepf qb (World.block_lt_of_cell? _ _ c21) f1
  replace c00 := keep1 qb c00
  replace c01 := keep1 qb c01
  replace c10 := keep1 qb c10
  replace c11 := keep1 qb c11
  replace c20 := keep1 qb c20
  replace c21 := keep1 qb c21
  replace H0 := Lib.hid (H0.out.below qb H0.out.lt)
  replace H1 := Lib.hid (H1.out.below qb H1.out.lt)
  replace H2 := Lib.hid (H2.out.below qb H2.out.lt)
  replace HB := Lib.hid (below_then HB.out qb (Nat.le_refl _))
  clear qb
  have D2 := H2.out.alloc (.cells #[.int .i64 r.lo, .int .i64 r.hi] 121)
  obtain ⟨d20, d21⟩ := tcells D2
  have g0 := D2.frozen 0
  have g1 := D2.frozen 1
  clear D2
  go_wp2_with fail
  have r0 : ∀ u v, (((w1.alloc (.cells #[.int .i64 r.lo, .int .i64 r.hi] 121)).setCell ⟨w.heap.size + 1 + 1, 0, none⟩ u).setCell ⟨w.heap.size + 1 + 1, 1, none⟩ v).cell? ⟨w.heap.size + 1 + 1, 0, none⟩ = some u := fun u v => set_fst d20
  have r1 : ∀ u v, (((w1.alloc (.cells #[.int .i64 r.lo, .int .i64 r.hi] 121)).setCell ⟨w.heap.size + 1 + 1, 0, none⟩ u).setCell ⟨w.heap.size + 1 + 1, 1, none⟩ v).cell? ⟨w.heap.size + 1 + 1, 1, none⟩ = some v := fun u v => set_snd d21
  refine bodyPost_ret (by simp [results, Tryz.results102, r0, r1, go_sem]; try rfl) rfl ?_
  exact ⟨rt_ub rfl rfl rfl, below_st2 (below_al HB.out _) (by omega)⟩
end Go.Proofs.YtcimihckhobniaaGreat
