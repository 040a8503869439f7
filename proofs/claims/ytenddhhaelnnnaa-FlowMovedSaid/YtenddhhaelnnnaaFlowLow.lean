/-
  What layer 6's statements call besides the program (SameInts, right, same), and flow.Heads: contracts.
-/
import Derived.Test.YtenddhhaelnnnaaFlowTgt
namespace Go.Proofs.Ytenddhhaelnnnaa
open Go.RowKit Wi Ow Fl
set_option linter.unusedVariables false
set_option linter.unusedSimpArgs false

set_option maxHeartbeats 1000000 in
theorem sameints_any (A B : Option Addr) (n m c d : Nat) (xs ys : List Int) (hn : xs.length = n) (hm : ys.length = m) (h1 : n ≤ 9223372036854775807) (h2 : m ≤ 9223372036854775807) (w : World) (hx : Rd w w.heap.size A (zv xs)) (hy : Rd w w.heap.size B (zv ys)) :
    Calls Try.prog 12 #[.slice A n c, .slice B m d] w fun e w' => e = .returned (.bool (decide (xs = ys))) ∧ Below w.heap.size w w' := by
  have HN := Lib.hid hn
  have HM := Lib.hid hm
  have HX := Lib.hid hx
  have HY := Lib.hid hy
  clear hn hm hx hy
  by_cases hl : n = m
  · obtain rfl : n = m := hl
    go_enter Try.func12, Try.ntmps12
    go_wp2
    go_loopw [5] (fun i wr => ∃ k : Nat, k ≤ n ∧ i = .int .i64 k ∧ Hid (Below w.heap.size w wr) ∧ Hid (xs.take k = ys.take k)) (fun i _ => n - (intOf i).toNat)
    case atStart => exact ⟨0, Nat.zero_le _, rfl, Lib.hid (Below.refl _ _), Lib.hid rfl⟩
    case round =>
      obtain ⟨k, hk, rfl, hb, ht⟩ := hrel
      by_cases hlt : k < n
      · have hkx : k < xs.length := by rw [HN.out]; exact hlt
        have hky : k < ys.length := by rw [HM.out]; exact hlt
        obtain ⟨ad, rfl, _, hcx⟩ := (HX.out.below hb.out) (by rw [zv_len]; omega)
        obtain ⟨bd, rfl, _, hcy⟩ := (HY.out.below hb.out) (by rw [zv_len]; omega)
        have cx := hcx k _ (zv_get xs k hkx)
        have cy := hcy k _ (zv_get ys k hky)
        have HT := Lib.hid (take_eq_succ ht.out hkx hky)
        have HD : Hid (xs[k] ≠ ys[k] → xs ≠ ys) := Lib.hid fun h e => h (by subst e; rfl)
        generalize xs[k] = x at *
        generalize ys[k] = y at *
        clear hcx hcy hkx hky
        have i1 : (0 : Int) ≤ (k : Int) := by omega
        have i2 : (k : Int) < (n : Int) := by omega
        by_cases he : x = y
        · have he' : (x != y) = false := by simpa using he
          have HT2 := Lib.hid (HT.out he)
          clear he HT HD
          go_wp2_with fail
          go_quiet (fail)
          go_wp2
          go_roundw
          case rel => exact ⟨k + 1, by omega, by go_num, Lib.hid (below_drewN hb.out _), HT2⟩
          case measure => simp [intOf]; omega
        · have he' : (x != y) = true := by simpa using he
          have HT2 := Lib.hid (HD.out he)
          clear he HT HD
          go_wp2_with fail
          go_quiet (fail)
          go_wp2
          go_ret
          exact ⟨rt_b (by simp [HT2.out]), below_drewN hb.out _⟩
      · have e1 : xs = ys := by
          have h := ht.out
          rw [List.take_of_length_le (by rw [HN.out]; omega), List.take_of_length_le (by rw [HM.out]; omega)] at h
          exact h
        have E1 := Lib.hid e1
        clear e1
        go_wp2
        go_ret
        exact ⟨rt_b (by simp [E1.out]), hb.out⟩
  · have hl' : ((n : Int) != (m : Int)) = true := by simp; omega
    have hne : xs ≠ ys := by intro e; subst e; have := HN.out; have := HM.out; omega
    have HE := Lib.hid hne
    clear hl hne
    go_enter Try.func12, Try.ntmps12
    go_wp2
    go_ret
    exact ⟨rt_b (by simp [HE.out]), Below.refl _ _⟩
set_option maxHeartbeats 1000000 in
theorem same_any (A B : Option Addr) (n c d : Nat) (xs : List Bool) (hn : xs.length = n) (h1 : n ≤ 9223372036854775807) (w : World) (hx : Rd w w.heap.size A (ov xs)) (hy : Rd w w.heap.size B (ov xs)) :
    Calls Try.prog 19 #[.slice A n c, .slice B n d] w fun e w' => e = .returned (.bool true) ∧ Below w.heap.size w w' := by
  have HN := Lib.hid hn
  have HX := Lib.hid hx
  have HY := Lib.hid hy
  clear hn hx hy
  go_enter Try.func19, Try.ntmps19
  go_wp2
  go_loopw [5] (fun i wr => ∃ k : Nat, k ≤ n ∧ i = .int .i64 k ∧ Hid (Below w.heap.size w wr)) (fun i _ => n - (intOf i).toNat)
  case atStart => exact ⟨0, Nat.zero_le _, rfl, Lib.hid (Below.refl _ _)⟩
  case round =>
    obtain ⟨k, hk, rfl, hb⟩ := hrel
    by_cases hlt : k < n
    · have hkx : k < xs.length := by rw [HN.out]; exact hlt
      obtain ⟨ad, rfl, _, hcx⟩ := (HX.out.below hb.out) (by rw [ov_len]; omega)
      obtain ⟨bd, rfl, _, hcy⟩ := (HY.out.below hb.out) (by rw [ov_len]; omega)
      have cx := hcx k _ (ov_get xs k hkx)
      have cy := hcy k _ (ov_get xs k hkx)
      generalize xs[k] = x at *
      clear hcx hcy hkx
      have i1 : (0 : Int) ≤ (k : Int) := by omega
      have i2 : (k : Int) < (n : Int) := by omega
      cases x
      all_goals
        go_wp2_with fail
        go_quiet (fail)
        go_wp2
        go_roundw
        case rel => exact ⟨k + 1, by omega, by go_num, Lib.hid (below_drewN hb.out _)⟩
        case measure => simp [intOf]; omega
    · go_wp2
      go_ret
      exact ⟨rfl, hb.out⟩
/-- What the statements ask of instructions. -/
def rightL (L : List In) : Prop := (∀ x ∈ L, okI x) ∧ L.length ≤ 400
def rightP (L : List In) (w : World) (e : Ending) (w' : World) : Prop := ∃ b, e = .returned (.bool b) ∧ w = w' ∧ (b = true → rightL L)
set_option maxHeartbeats 1000000 in
theorem right_any (A : Option Addr) (n c : Nat) (L : List In) (hn : L.length = n) (h1 : n ≤ 9223372036854775807) (w : World) (hx : Rd w w.heap.size A (iv L)) :
    Calls Try.prog 7 #[.slice A n c] w (rightP L w) := by
  have HN := Lib.hid hn
  have HX := Lib.hid hx
  clear hn hx
  go_enter Try.func7, Try.ntmps7
  go_wp2
  go_loopw [3] (fun i wr => ∃ k : Nat, k ≤ n ∧ i = .int .i64 k ∧ wr = w ∧ Hid (∀ j (hj : j < L.length), j < k → okI L[j])) (fun i _ => n - (intOf i).toNat)
  case atStart => exact ⟨0, Nat.zero_le _, rfl, rfl, Lib.hid (fun _ _ h => absurd h (by omega))⟩
  case round =>
    obtain ⟨k, hk, rfl, rfl, hall⟩ := hrel
    by_cases hlt : k < n
    · have hkx : k < L.length := by rw [HN.out]; exact hlt
      obtain ⟨ad, rfl, _, hcx⟩ := HX.out (by rw [iv_len]; omega)
      obtain ⟨x0, x1, x2, x3, x4⟩ := ins_cells hcx hkx
      have HS : Hid (okI L[k] → ∀ j (hj : j < L.length), j < k + 1 → okI L[j]) := Lib.hid fun h j hj hjk => by
        by_cases e : j = k
        · subst e; exact h
        · exact hall.out j hj (by omega)
      generalize L[k] = x at *
      clear hcx hkx
      have i1 : (0 : Int) ≤ (k : Int) := by omega
      have i2 : (k : Int) < (n : Int) := by omega
      by_cases a1 : x.op < 0
      · go_wp2
        go_ret
        exact ⟨_, rfl, rfl, fun h => by cases h⟩
      by_cases a2 : 255 < x.op
      · go_wp2
        go_ret
        exact ⟨_, rfl, rfl, fun h => by cases h⟩
      by_cases a3 : x.off < -32768
      · go_wp2
        go_ret
        exact ⟨_, rfl, rfl, fun h => by cases h⟩
      by_cases a4 : 32767 < x.off
      · go_wp2
        go_ret
        exact ⟨_, rfl, rfl, fun h => by cases h⟩
      have hok := Lib.hid (HS.out (show okI x from ⟨by omega, by omega, by omega, by omega⟩))
      go_wp2
      go_roundw
      case rel => exact ⟨k + 1, by omega, by go_num, trivial, hok⟩
      case measure => simp [intOf]; omega
    · by_cases h4 : n ≤ 400
      · go_wp2
        go_ret
        refine ⟨_, rfl, rfl, fun _ => ⟨fun x hx => ?_, by rw [HN.out]; exact h4⟩⟩
        obtain ⟨j, hj, rfl⟩ := List.getElem_of_mem hx
        exact hall.out j hj (by have := HN.out; omega)
      · go_wp2
        go_ret
        refine ⟨_, rfl, rfl, fun h => ?_⟩
        simp at h
        omega
theorem heads_zero (n : Nat) (j : Nat) : (List.replicate n false)[j]? = some true ↔ j ∈ ([] : List Nat) := by
  rw [List.getElem?_replicate]
  constructor
  · intro h; split at h <;> simp at h
  · intro h; cases h
set_option maxHeartbeats 1000000 in
theorem heads_any (A B : Option Addr) (n c m d : Nat) (t : List Int) (ht : t.length = m) (h1 : n ≤ 1000000) (h2 : m ≤ 1000000) (w : World) (hT : Rd w w.heap.size B (zv t)) :
    Calls Try.prog 15 #[.slice A n c, .slice B m d] w fun e w' => ∃ v H, e = .returned v ∧ w'.ownsRow w.heap.size 4 1 v n (ov H) ∧ Below w.heap.size w w' ∧ H.length = n ∧ ∀ j, H[j]? = some true ↔ j ∈ insN n t := by
  obtain ⟨i0, hi0, hz0, hz1, hz2⟩ := info_parts bool_info
  have HM := Lib.hid ht
  have HT := Lib.hid hT
  clear ht hT
  go_enter Try.func15, Try.ntmps15
  go_wp2_with (refine wp_make_own _ rfl _ _ _ rfl 4 i0 _ Try.underlying33 hi0 hz0 hz1 rfl _ _ n rfl rfl ?a1 ?a2 ?_)
  case a1 => rw [hz2]; omega
  case a2 => unfold maxLen; omega
  intro ad w1 had hown hb1
  have O1 := Lib.hid hown
  have B1 := Lib.hid hb1
  clear hown hb1
  go_wp2_with fail
  refine (inside_any A B n c m d t HM.out (by omega) (by omega) w1 ((HT.out.below B1.out).mono B1.out.size)).mono ?_
  rintro e w2 ⟨v, rfl, q⟩
  have hlen := insN_len n t
  rw [HM.out] at hlen
  have HLT : Hid (∀ j, j ∈ insN n t → j < n) := Lib.hid fun j h => ((mem_insN _ _ _).1 h).2
  have ST : Hid (Wd w ad n v w2 (insN n t) (List.replicate n false)) := Lib.hid (by
    refine ⟨?_, ?_, below_then B1.out q.below (Nat.le_refl _), fun e => ?_⟩
    · rw [nv_zv]; exact own_cast (own_base q.own B1.out.size) (by simp) rfl
    · have := own_below O1.out q.below
      have e1 : List.replicate n (Value.bool false) = ov (List.replicate n false) := by simp [ov]
      rw [e1] at this
      exact this
    · have h3 := (q.own.lt _ e).1
      have h4 := (O1.out.lt ad.block rfl).2
      omega)
  clear q O1 B1 HT had
  generalize hQ : insN n t = Q at *
  have HQ := Lib.hid hQ
  clear hQ
  obtain ⟨AV, cv, rfl, hcv, hmv, _⟩ := own_form ST.out.list
  unfold maxLen at hmv
  go_wp2_with fail
  go_loopw [15] (fun i wr => ∃ (k : Nat) (H : List Bool), k ≤ Q.length ∧ i = .int .i64 k ∧ H.length = n ∧ Hid (Wd w ad n (.slice AV Q.length cv) wr Q H) ∧ Hid (∀ j, H[j]? = some true ↔ j ∈ Q.take k)) (fun i _ => Q.length - (intOf i).toNat)
  case atStart => exact ⟨0, _, Nat.zero_le _, rfl, by simp, ST, Lib.hid (heads_zero n)⟩
  case round =>
    clear ST
    obtain ⟨k, H, hk, rfl, hHl, hW, hH⟩ := hrel
    by_cases hlt : k < Q.length
    · obtain ⟨av, rfl, _, hcy⟩ := (Rd.of_own hW.out.list) (by rw [nv_len]; omega)
      have cy := hcy k _ (nv_get _ k hlt)
      have hj := HLT.out _ (List.getElem_mem hlt)
      have HS : Hid (∀ j, (H.set Q[k] true)[j]? = some true ↔ j ∈ Q.take (k + 1)) := Lib.hid fun j => by
        rw [List.getElem?_set, List.take_succ_eq_append_getElem hlt, List.mem_append, List.mem_singleton]
        by_cases e : Q[k] = j
        · subst e; rw [if_pos rfl, if_pos (by omega)]; simp
        · rw [if_neg e, hH.out j]
          constructor
          · exact .inl
          · rintro (a | a)
            · exact a
            · exact absurd a.symm e
      generalize Q[k] = j at *
      clear hcy
      obtain ⟨cj, fj⟩ := own_at hW.out.marks j hj
      rw [ov_get H j (by omega)] at cj
      have k1 : (0 : Int) ≤ (k : Int) := by omega
      have k2 : (k : Int) < (Q.length : Int) := by omega
      have k3 : (0 : Int) ≤ (j : Int) := by omega
      have k4 : (j : Int) < (n : Int) := by omega
      have hW2 := Lib.hid (hW.out.mark j)
      clear hW
      go_wp2
      go_roundw
      case rel => exact ⟨k + 1, H.set j true, by omega, by go_num, by rw [List.length_set]; exact hHl, hW2, HS⟩
      case measure => simp [intOf]; omega
    · have hH2 : Hid (∀ j, H[j]? = some true ↔ j ∈ Q) := Lib.hid (by have h := hH.out; rw [List.take_of_length_le (by omega)] at h; exact h)
      go_wp2
      go_ret
      exact ⟨_, _, rfl, hW.out.marks, hW.out.below, hHl, fun j => by rw [HQ.out]; exact hH2.out j⟩
/-- The program of 'works'. -/
def L4 : List In := [⟨183, 0, 0, 0, 0⟩, ⟨21, 0, 0, 1, 0⟩, ⟨183, 0, 0, 0, 0⟩, ⟨149, 0, 0, 0, 0⟩]
theorem t4 : tgts L4 4 = [-1, 3, -1, -1] := by decide
theorem n4 : nxt L4 [-1, 3, -1, -1] 1 = [2, 3] := by decide
theorem n40 : nxt L4 [-1, 3, -1, -1] 0 = [1] := by decide
theorem h4 : insN 4 [-1, 3, -1, -1] = [3] := by decide
theorem ok4 : ∀ x ∈ L4, okI x := by
  intro x hx
  simp [L4] at hx
  rcases hx with rfl | rfl | rfl | rfl <;> (unfold okI; simp)
theorem good4 : Fl.Good L4 := by
  refine ⟨by decide, by decide, fun i hi hj => ?_, .inl (by decide)⟩
  have hi : i < 4 := hi
  match i, hi with
  | 0, _ => exact absurd hj (by decide)
  | 1, _ => decide
  | 2, _ => exact absurd hj (by decide)
  | 3, _ => exact absurd hj (by decide)
theorem reach4 : Fl.Reach (fun (i : Nat) => nxt L4 [-1, 3, -1, -1] (i : Int)) 2 :=
  .step (i := 1) (.step (i := 0) .zero (by show 1 ∈ nxt L4 [-1, 3, -1, -1] 0; rw [n40]; simp)) (by show 2 ∈ nxt L4 [-1, 3, -1, -1] 1; rw [n4]; simp)
end Go.Proofs.Ytenddhhaelnnnaa
