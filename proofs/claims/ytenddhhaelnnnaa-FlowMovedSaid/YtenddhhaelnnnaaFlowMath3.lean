/-
  What FlowMoved takes besides: what stands ahead of a program, a number picked. Contracts and plain mathematics.
-/
import Derived.Test.YtenddhhaelnnnaaFlowMath2
namespace Go.Proofs.Ytenddhhaelnnnaa
open Go.RowKit Wi Ow Fl
set_option linter.unusedVariables false
set_option linter.unusedSimpArgs false
/-- What stands ahead. -/
def movs (p : Nat) : List In := (List.range p).map fun (j : Nat) => ⟨183, 0, 0, 0, (j : Int)⟩
theorem movs_succ (p : Nat) : movs (p + 1) = movs p ++ [⟨183, 0, 0, 0, (p : Int)⟩] := by unfold movs; rw [List.range_succ, List.map_append]; rfl
theorem movs_len (p : Nat) : (movs p).length = p := by simp [movs]
theorem movs_get (p k : Nat) (hk : k < p) : (movs p)[k]? = some ⟨183, 0, 0, 0, (k : Int)⟩ := by simp [movs, hk]
theorem ahead_movs (p : Nat) (L : List In) : Ahead p (movs p ++ L) L := by
  refine ⟨by rw [List.length_append, movs_len], fun k hk => ?_, fun k => ?_, fun k => ?_⟩
  · unfold opA; rw [List.getElem?_append_left (by rw [movs_len]; exact hk), movs_get p k hk]; rfl
  · unfold opA; rw [List.getElem?_append_right (by rw [movs_len]; omega), movs_len, Nat.add_sub_cancel_left]
  · unfold offA; rw [List.getElem?_append_right (by rw [movs_len]; omega), movs_len, Nat.add_sub_cancel_left]
theorem ok_movs (p : Nat) (L : List In) (h : ∀ x ∈ L, okI x) : ∀ x ∈ movs p ++ L, okI x := by
  intro x hx
  rw [List.mem_append] at hx
  rcases hx with hx | hx
  · unfold movs at hx
    obtain ⟨j, _, rfl⟩ := List.mem_map.1 hx
    unfold okI; simp
  · exact h x hx
def pickP (w : World) (e : Ending) (w' : World) : Prop := ∃ p : Nat, e = .returned (.int .i64 (p : Int)) ∧ p ≤ 40 ∧ w = w'
theorem pick_any (k : Int) (h1 : -9223372036854775808 ≤ k) (h2 : k ≤ 9223372036854775807) (w : World) :
    Calls Try.prog 26 #[.int .i64 k, .int .i64 41] w (pickP w) := by
  have b1 := Int.tmod_lt_of_pos k (show (0 : Int) < 41 by decide)
  have b2 : -41 < k.tmod 41 := by
    have h := Int.tmod_lt_of_pos (-k) (show (0 : Int) < 41 by decide)
    rw [Int.neg_tmod] at h
    omega
  by_cases hn : k.tmod 41 < 0
  · go_enter Try.func26, Try.ntmps26
    go_wp2
    go_ret
    refine ⟨(k.tmod 41 + 41).toNat, ?_, by omega, rfl⟩
    rw [Int.toNat_of_nonneg (by omega)]
    first | rfl | (refine congrArg _ (congrArg _ ?_); trace_state; sorry)
  · go_enter Try.func26, Try.ntmps26
    go_wp2
    go_ret
    refine ⟨(k.tmod 41).toNat, ?_, by omega, rfl⟩
    rw [Int.toNat_of_nonneg (by omega)]
    first | rfl | (refine congrArg _ (congrArg _ ?_); trace_state; sorry)
theorem same_bool {n p : Nat} {M L : List In} {R S : List Bool} (h : Ahead p M L) (g : Fl.Good L) (hn : L.length = n) (fR : Fl.Found n (fun (i : Nat) => nxt L (tgts L n) (i : Int)) R) (fS : Fl.Found (p + n) (fun (i : Nat) => nxt M (tgts M (p + n)) (i : Int)) S) (k : Nat) (hk : k < n) (h1 : k < R.length) (h2 : p + k < S.length) : S[p + k] = R[k] := by
  have hl := h.len
  subst hn
  rw [← hl] at fS
  have a := fR.bool k hk h1
  have b := fS.bool (p + k) (by omega) h2
  have c := reach_moved h g k hk
  rw [Bool.eq_iff_iff, a, b]
  exact c
theorem tgt_at {p n : Nat} {M L : List In} (h : Ahead p M L) (g : Fl.Good L) (hn : L.length = n) (k : Nat) (hk : k < n) (h2 : p + k < (tgts M (p + n)).length) : (tgts M (p + n))[p + k] = up p (tgtV L k) := by
  rw [tgts_get, tgt_moved h k (g.jumps k (by omega))]
end Go.Proofs.Ytenddhhaelnnnaa
