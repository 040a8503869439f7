/-
  Layer 10's program: the way of a key as a range over a function: its iterator's contract. Conditions: as many places as a power of two, 1000 at most.
-/
import Derived.Test.YtkaapphlnolelaaHashPMem
import Derived.RangeFuncNested
import Derived.RangeFuncBound
import Derived.RangeFuncCalls
import Derived.RangeFuncLeaves
import Derived.Shelf.Abstract
import Derived.Shelf.RegionOpen
import Derived.OwnWalkIn
import Derived.TacticsInMore
import Derived.LoopNIn
import Derived.LoopIn
namespace Go.Proofs.Ytkaapphlnolelaa
set_option maxRecDepth 100000
open Go.RowKit Go.Shelf Ow Ro K2 Hm
set_option linter.unusedVariables false
set_option linter.unusedSimpArgs false
attribute [local go_sem] Oper.semAt_some
theorem ofI64 (a : Nat) (ha : a < 9223372036854775808) : (BitVec.ofInt IntKind.i64.bits (a : Int)).toNat = a := by
  rw [BitVec.toNat_ofInt]
  show (((a : Nat) : Int) % 18446744073709551616).toNat = a
  omega
theorem and32 (a N e : Nat) (ha : a < 4294967296) (hN : N = 2 ^ e) (hb : N ≤ 1000) : bits .and .u32 (a : Int) ((N : Int) - 1) = ((a % N : Nat) : Int) := by
  have h1 : 1 ≤ N := by rw [hN]; exact Nat.two_pow_pos e
  have h2 : (N : Int) - 1 = ((N - 1 : Nat) : Int) := by omega
  unfold bits
  rw [h2]
  show IntKind.u32.wrap (((BitVec.ofInt IntKind.u32.bits (a : Int) &&& BitVec.ofInt IntKind.u32.bits ((N - 1 : Nat) : Int)).toNat : Nat) : Int) = _
  rw [BitVec.toNat_and, of32 a ha, of32 (N - 1) (by omega), IntKind.wrap_u32]
  have h3 : a &&& (N - 1) = a % N := by rw [hN]; exact Nat.and_two_pow_sub_one_eq_mod a e
  rw [h3]
  have := Nat.mod_lt a h1
  omega
theorem and64 (a N e : Nat) (ha : a < 4294967296) (hN : N = 2 ^ e) (hb : N ≤ 1000) : bits .and .i64 (a : Int) ((N : Int) - 1) = ((a % N : Nat) : Int) := by
  have h1 : 1 ≤ N := by rw [hN]; exact Nat.two_pow_pos e
  have h2 : (N : Int) - 1 = ((N - 1 : Nat) : Int) := by omega
  unfold bits
  rw [h2]
  show IntKind.i64.wrap (((BitVec.ofInt IntKind.i64.bits (a : Int) &&& BitVec.ofInt IntKind.i64.bits ((N - 1 : Nat) : Int)).toNat : Nat) : Int) = _
  rw [BitVec.toNat_and, ofI64 a (by omega), ofI64 (N - 1) (by omega), IntKind.wrap_i64]
  have h3 : a &&& (N - 1) = a % N := by rw [hN]; exact Nat.and_two_pow_sub_one_eq_mod a e
  rw [h3]
  have := Nat.mod_lt a h1
  omega
theorem way_p (a : Option Addr) (n c : Nat) (X : Nat) (w : World) : Calls Try.prog 43 #[.pointer (some ⟨X, 0, none⟩), .slice a n c] w fun e w' =>
    e = .returned (.func (.func 45) #[] #[.pointer (some ⟨w.heap.size, 0, none⟩), .pointer (some ⟨w.heap.size + 1, 0, none⟩)]) ∧
    w' = (w.alloc (.cells #[.pointer (some ⟨X, 0, none⟩)] 31)).alloc (.cells #[.slice a n c] 22) := by
  go_enter Try.func43, Try.ntmps43
  go_wp2
  go_ret
  exact ⟨by simp, rfl⟩
abbrev Ix (N : Nat) := { x : Nat // x < N }
theorem wayL_snoc {N p0 j : Nat} (hp : p0 < N) : wayL N p0 (j + 1) = wayL N p0 j ++ [(p0 + j) % N] := by
  refine List.ext_getElem? fun i => ?_
  by_cases h : i < j
  · rw [wayL_get hp (by omega), List.getElem?_append_left (by rw [wayL_len]; exact h), wayL_get hp h]
  · by_cases h2 : i = j
    · subst h2
      rw [wayL_get hp (by omega), List.getElem?_append_right (by rw [wayL_len]; exact Nat.le_refl _), wayL_len, Nat.sub_self]
      rfl
    · rw [List.getElem?_eq_none (by rw [wayL_len]; omega), List.getElem?_eq_none (by rw [List.length_append, wayL_len, List.length_singleton]; omega)]
theorem wayL_pre {N p0 j k : Nat} (h : j ≤ k) : wayL N p0 j <+: wayL N p0 k := by
  induction k generalizing p0 j with
  | zero => rw [Nat.le_zero.1 h]; exact List.prefix_refl _
  | succ k ih =>
    cases j with
    | zero => exact List.nil_prefix
    | succ j => unfold wayL; exact (List.prefix_cons_inj p0).2 (ih (Nat.le_of_succ_le_succ h))
set_option maxHeartbeats 2000000 in
theorem way1_stops (n B1 B2 X N e nk ck : Nat) (a : Option Addr) (ap : Addr) (cp : Nat) (ks : List Int) (hn : 1 ≤ n) (hN : N = 2 ^ e) (hN2 : N ≤ 1000) (w : World)
    (b1 : w.cell? ⟨B1, 0, none⟩ = some (.pointer (some ⟨X, 0, none⟩))) (l1 : B1 < w.heap.size) (b2 : w.cell? ⟨B2, 0, none⟩ = some (.slice a nk ck)) (l2 : B2 < w.heap.size) (lX : X < w.heap.size)
    (c3 : w.cell? ⟨X, 3, none⟩ = some (.slice (some ap) N cp)) (hkn : ks.length = nk) (hk6 : nk ≤ 100000) (hkb : ∀ b ∈ ks, 0 ≤ b ∧ b ≤ 255) (hrd : Rd w w.heap.size a (bv ks)) :
    SeqStopsK Fence.wide n Try.prog 45 #[.pointer (some ⟨B1, 0, none⟩), .pointer (some ⟨B2, 0, none⟩)] (fun x : Ix N => #[.int .i64 (x.1 : Nat)]) (fun _ _ => True)
      (fun xs => xs.map (·.1) = wayL N (fnv ks % N) N) (fun pre => pre.map (·.1) <+: wayL N (fnv ks % N) N) N w := fun l J Jx W hW hJ hJx hY h0 => by
  have hN1 : 1 ≤ N := by rw [hN]; exact Nat.two_pow_pos e
  have b1' := (hW.cell (p := ⟨B1, 0, none⟩) l1).trans b1
  have b2' := (hW.cell (p := ⟨B2, 0, none⟩) l2).trans b2
  have c3' := (hW.cell (p := ⟨X, 3, none⟩) lX).trans c3
  have SM := Lib.hid (sum_p a nk ck ks hkn (by omega) hkb W ((hrd.below hW).mono hW.size))
  have AN := Lib.hid (and32 (fnv ks) N e (fnv_lt ks) hN hN2)
  have hp0 : fnv ks % N < N := Nat.mod_lt _ hN1
  have hfl := fnv_lt ks
  have A2 : Hid (∀ j, j < N → bits .and .i64 (((fnv ks % N : Nat) : Int) + (j : Int)) ((N : Int) - 1) = (((fnv ks % N + j) % N : Nat) : Int)) := Lib.hid (fun j hj => by
    have := and64 (fnv ks % N + j) N e (by omega) hN hN2
    rw [← this]; congr 1)
  obtain ⟨p0, hp⟩ : ∃ p0, fnv ks % N = p0 := ⟨_, rfl⟩
  rw [hp] at hp0 A2 AN ⊢
  generalize fnv ks = sm at *
  have HY := Lib.hid hY
  clear hp hkb hrd hJ hJx b1 b2 c3 hW hY hkn hN l1 l2 lX
  refine callsIn_of_wp Try.func45 rfl trivial ?_ rfl
  simp only [Try.ntmps45, List.size_toArray, List.length_cons, List.length_nil, Nat.reduceAdd, Nat.reduceSub, Array.replicate_succ, Array.replicate_zero, List.push_toArray, List.append_toArray, List.nil_append, List.cons_append]
  have e32 : IntKind.u32.wrap ((N : Int) - 1) = (N : Int) - 1 := by rw [IntKind.wrap_u32]; omega
  have an := AN.out
  gi_wp2_with (refine ⟨trivial, ?_⟩; gi_at_call 10; refine (callsIn_wide.2 SM.out).mono ?_; rintro e w' ⟨rfl, rfl⟩)
  gi_loopw [6, 24] (fun t i wr => ∃ (j : Nat) (pre : List (Ix N)), j ≤ N ∧ i = .int .i64 (j : Nat) ∧ pre.map (·.1) = wayL N p0 j ∧ J pre wr) (fun _ i _ => N - (intOf i).toNat)
  case atStart => exact ⟨0, [], Nat.zero_le _, rfl, rfl, h0⟩
  case round =>
    obtain ⟨j, pre, hj, rfl, hpre, hJs⟩ := hrel
    by_cases hlt : j < N
    · have i1 : (j : Int) < (N : Int) := by omega
      have a2 := A2.out j hlt
      have hx : (p0 + j) % N < N := Nat.mod_lt _ hN1
      have hsn := wayL_snoc (j := j) hp0
      have hpl : pre.length < N := by
        have := congrArg List.length hpre
        rw [List.length_map, wayL_len] at this
        omega
      obtain ⟨fn, tmps, assign, body, hy, hR⟩ := HY.out pre ⟨(p0 + j) % N, hx⟩ wr hJs hpl
      dsimp only at hy
      have HP2 : Hid ((pre ++ [(⟨(p0 + j) % N, hx⟩ : Ix N)]).map (fun x : Ix N => x.1) = wayL N p0 (j + 1)) := Lib.hid (by rw [List.map_append, hpre, hsn]; rfl)
      generalize (p0 + j) % N = x at *
      gi_wp2
      refine hR.mono ?_
      rintro e W3 (⟨rfl, hJ3, _⟩ | ⟨rfl, hJx3⟩)
      · gi_wp2
        go_roundw
        case rel => exact ⟨j + 1, pre ++ [⟨x, hx⟩], by omega, by go_num, HP2.out, hJ3⟩
        case measure => simp [intOf]; omega
      · gi_wp2
        refine bodyPost_ret (results_none rfl _ _ _) rfl ?_
        exact ⟨⟨_, rfl⟩, .inr ⟨pre ++ [⟨x, hx⟩], by rw [HP2.out]; exact wayL_pre (by omega), hJx3⟩⟩
    · obtain rfl : j = N := by omega
      have i1 : ¬ (j : Int) < (j : Int) := by omega
      gi_wp2
      go_end0
      exact ⟨⟨_, rfl⟩, .inl ⟨pre, hpre, hJs⟩⟩
end Go.Proofs.Ytkaapphlnolelaa
