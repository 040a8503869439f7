/-
  What the statements' kit does with lists of bytes (held against one another, copied, lent, looked at again, written over): contracts.
-/
import Derived.Test.YthappjbghlifbaaInsnPut
import Derived.BigQuiet
import Derived.Deep.QuietTactic
import Derived.IntWalk
namespace Go.Proofs.Ythappjbghlifbaa.K2
set_option maxRecDepth 100000
open Go.RowKit Wi Ow
set_option linter.unusedVariables false
set_option linter.unusedSimpArgs false

theorem bv_get (xs : List Int) (k : Nat) (hk : k < xs.length) : (bv xs)[k]? = some (.int .u8 xs[k]) := by simp [bv, hk]
theorem take_eq_succ {α : Type} {xs ys : List α} {k : Nat} (h : xs.take k = ys.take k) (hx : k < xs.length) (hy : k < ys.length) (e : xs[k] = ys[k]) : xs.take (k + 1) = ys.take (k + 1) := by
  rw [List.take_succ_eq_append_getElem hx, List.take_succ_eq_append_getElem hy, h, e]
theorem below_drewN {B : Nat} {w wr : World} (h : Below B w wr) (n : Nat) : Below B w (wr.drewN n) := ⟨h.os, h.tape, h.output, h.size, h.block⟩
set_option maxHeartbeats 1000000 in
theorem samebytes_any (A B : Option Addr) (n m c d : Nat) (xs ys : List Int) (hn : xs.length = n) (hm : ys.length = m) (h1 : n ≤ 9223372036854775807) (h2 : m ≤ 9223372036854775807) (w : World) (hx : Rd w w.heap.size A (bv xs)) (hy : Rd w w.heap.size B (bv ys)) :
    Calls Try.prog 25 #[.slice A n c, .slice B m d] w fun e w' => e = .returned (.bool (decide (xs = ys))) ∧ Below w.heap.size w w' := by
  have HN := Lib.hid hn
  have HM := Lib.hid hm
  have HX := Lib.hid hx
  have HY := Lib.hid hy
  clear hn hm hx hy
  by_cases hl : n = m
  · obtain rfl : n = m := hl
    go_enter Try.func25, Try.ntmps25
    go_wp2
    go_loopw [5] (fun i wr => ∃ k : Nat, k ≤ n ∧ i = .int .i64 k ∧ Hid (Below w.heap.size w wr) ∧ Hid (xs.take k = ys.take k)) (fun i _ => n - (intOf i).toNat)
    case atStart => exact ⟨0, Nat.zero_le _, rfl, Lib.hid (Below.refl _ _), Lib.hid rfl⟩
    case round =>
      obtain ⟨k, hk, rfl, hb, ht⟩ := hrel
      by_cases hlt : k < n
      · have hkx : k < xs.length := by rw [HN.out]; exact hlt
        have hky : k < ys.length := by rw [HM.out]; exact hlt
        obtain ⟨ad, rfl, _, hcx⟩ := (HX.out.below hb.out) (by rw [bv_len]; omega)
        obtain ⟨bd, rfl, _, hcy⟩ := (HY.out.below hb.out) (by rw [bv_len]; omega)
        have cx := hcx k _ (bv_get xs k hkx)
        have cy := hcy k _ (bv_get ys k hky)
        have HT := Lib.hid (take_eq_succ ht.out hkx hky)
        have HD : Hid (xs[k] ≠ ys[k] → xs ≠ ys) := Lib.hid fun h e => h (by subst e; rfl)
        generalize xs[k] = x at *
        generalize ys[k] = y at *
        clear hcx hcy hkx hky
        have i1 : (0 : Int) ≤ (k : Int) := by omega
        have i2 : (k : Int) < (n : Int) := by omega
        by_cases he : x = y
        · have he' : (x != y) = false := by simpa using he
          have HT2 := Lib.hid (HT.out he)
          clear he HT HD
          go_wp2_with fail
          go_quiet (fail)
          go_wp2
          go_roundw
          case rel => exact ⟨k + 1, by omega, by go_num, Lib.hid (below_drewN hb.out _), HT2⟩
          case measure => simp [intOf]; omega
        · have he' : (x != y) = true := by simpa using he
          have HT2 := Lib.hid (HD.out he)
          clear he HT HD
          go_wp2_with fail
          go_quiet (fail)
          go_wp2
          go_ret
          exact ⟨rt_b (by simp [HT2.out]), below_drewN hb.out _⟩
      · have e1 : xs = ys := by
          have h := ht.out
          rw [List.take_of_length_le (by rw [HN.out]; omega), List.take_of_length_le (by rw [HM.out]; omega)] at h
          exact h
        have E1 := Lib.hid e1
        clear e1
        go_wp2
        go_ret
        exact ⟨rt_b (by simp [E1.out]), hb.out⟩
  · have hl' : ((n : Int) != (m : Int)) = true := by simp; omega
    have hne : xs ≠ ys := by intro e; subst e; have := HN.out; have := HM.out; omega
    have HE := Lib.hid hne
    clear hl hne
    go_enter Try.func25, Try.ntmps25
    go_wp2
    go_ret
    exact ⟨rt_b (by simp [HE.out]), Below.refl _ _⟩
theorem markb_any (i : Nat) (h : i ≤ 100000) (w : World) :
    Calls Try.prog 33 #[.int .i64 i] w fun e w' => e = .returned (.int .u8 ((201 + 7 * (i : Int)) % 256)) ∧ w = w' := by
  go_enter Try.func33, Try.ntmps33
  go_wp2
  go_ret
  exact ⟨rfl, rfl⟩
/-- A row of our own, and that nothing else is changed. -/
structure OwnB (w : World) (v : Value) (wr : World) (l : List Int) : Prop where
  own : wr.ownsRow w.heap.size 5 1 v l.length (bv l)
  below : Below w.heap.size w wr
theorem OwnB.step {w wr w1 : World} {v v1 : Value} {l : List Int} {c : Int} {n : Nat} {o : Obj} (h : OwnB w v wr l) (ho : w1.ownsRow w.heap.size 5 1 v1 n (bv l ++ [.int .u8 c])) (hn : n = l.length + 1) (hg : (wr.alloc o).grownBy w1 v.ownBlock) : OwnB w v1 w1 (l ++ [c]) :=
  ⟨own_cast ho (by rw [hn]; simp) (by simp [bv]), (h.below.alloc (by have := h.below.size; omega) o).grown hg (by have := h.below.size; simp; omega) fun k hk => (h.own.lt k hk).1⟩
set_option maxHeartbeats 1000000 in
theorem copyb_any (A : Option Addr) (n c : Nat) (xs : List Int) (hn : xs.length = n) (h1 : n ≤ 1000000) (w : World) (hx : Rd w w.heap.size A (bv xs)) :
    Calls Try.prog 32 #[.slice A n c] w fun e w' => ∃ v, e = .returned v ∧ OwnB w v w' xs := by
  obtain ⟨i0, hi0, hz0, hz1, hz2⟩ := info_parts byte_info
  have HN := Lib.hid hn
  have HX := Lib.hid hx
  clear hn hx
  go_enter Try.func32, Try.ntmps32
  go_wp2
  go_loopw [3, 4] (fun b i wr => ∃ k : Nat, k ≤ n ∧ i = .int .i64 k ∧ Hid (OwnB w b wr (xs.take k))) (fun _ i _ => n - (intOf i).toNat)
  case atStart => exact ⟨0, Nat.zero_le _, rfl, Lib.hid ⟨World.ownsRow_nil _ _ _ _, Below.refl _ _⟩⟩
  case round =>
    obtain ⟨k, hk, rfl, hO⟩ := hrel
    by_cases hlt : k < n
    · have hkx : k < xs.length := by rw [HN.out]; exact hlt
      obtain ⟨ad, rfl, _, hcx⟩ := (HX.out.below hO.out.below) (by rw [bv_len]; omega)
      have cx := hcx k _ (bv_get xs k hkx)
      have HT := Lib.hid (List.take_succ_eq_append_getElem hkx)
      have HLE : Hid ((xs.take k).length = k) := Lib.hid (by rw [List.length_take]; omega)
      generalize xs[k] = x at *
      clear hcx hkx
      go_wp2_with (at_builtin; refine wpList_append_own_at _ rfl (.tmp 11) (.tmp 16) _ rfl w.heap.size 5 i0 _ 1 1 Try.underlying27 hi0 hz0 hz1 hz2 rfl (by decide) _ _ _ rfl (hO.out.own.alloc _) ⟨wr.heap.size, 0, none⟩ 1 1 _ rfl rfl (cell_one_new _ _ _) ?a2 ?a3 ?a4 ?a5 ?_)
      case a2 => intro u hu; simp at hu; subst hu; rfl
      case a3 => have := HLE.out; unfold maxLen; omega
      case a4 => have := HLE.out; omega
      case a5 => have := hO.out.below.size; simp; omega
      intro v1 w1 hown1 hg1 _ hat1
      have R1 := Lib.hid (hO.out.step hown1 (by first | rfl | (simp only [List.length_take]; done) | (simp only [List.length_take]; omega)) hg1)
      clear hown1 hg1 hat1 hO
      go_wp2
      go_roundw
      case rel => exact ⟨k + 1, by omega, by go_num, Lib.hid (by rw [HT.out]; exact R1.out)⟩
      case measure => simp [intOf]; omega
    · have e3 : xs.take k = xs := List.take_of_length_le (by rw [HN.out]; omega)
      have R : Hid (OwnB w u3 wr xs) := Lib.hid (by rw [← e3]; exact hO.out)
      clear e3 hO
      go_wp2
      go_ret
      exact ⟨_, rfl, R.out⟩
/-- The marks behind a list that is lent. -/
def mk5 (k : Nat) : List Int := (List.range k).map fun (j : Nat) => (201 + 7 * (j : Int)) % 256
theorem mk5_succ (k : Nat) : mk5 (k + 1) = mk5 k ++ [(201 + 7 * (k : Int)) % 256] := by unfold mk5; rw [List.range_succ, List.map_append]; rfl
theorem mk5_len (k : Nat) : (mk5 k).length = k := by unfold mk5; simp
set_option maxHeartbeats 1000000 in
theorem lentb_any (A : Option Addr) (n c : Nat) (xs : List Int) (hn : xs.length = n) (h1 : n ≤ 900000) (w : World) (hx : Rd w w.heap.size A (bv xs)) :
    Calls Try.prog 26 #[.slice A n c] w fun e w' => ∃ v, e = .returned v ∧ OwnB w v w' (xs ++ mk5 5) := by
  obtain ⟨i0, hi0, hz0, hz1, hz2⟩ := info_parts byte_info
  have HN := Lib.hid hn
  have HX := Lib.hid hx
  clear hn hx
  go_enter Try.func26, Try.ntmps26
  go_wp2_with fail
  refine (copyb_any A n c xs HN.out (by omega) _ HX.out).mono ?_
  rintro e w1 ⟨v, rfl, q⟩
  have Q := Lib.hid q
  clear q
  go_wp2
  go_loopw [3, 4] (fun b i wr => ∃ k : Nat, k ≤ 5 ∧ i = .int .i64 k ∧ Hid (OwnB w b wr (xs ++ mk5 k))) (fun _ i _ => 5 - (intOf i).toNat)
  case atStart => exact ⟨0, Nat.zero_le _, rfl, Lib.hid (by have h := Q.out; simpa [mk5] using h)⟩
  case round =>
    clear Q
    obtain ⟨k, hk, rfl, hO⟩ := hrel
    by_cases hlt : k < 5
    · have HLE : Hid ((xs ++ mk5 k).length = n + k) := Lib.hid (by rw [List.length_append, mk5_len, HN.out])
      go_wp2_with (first | (go_at_call 33; refine (markb_any k (by omega) _).mono ?_; rintro e w' ⟨rfl, rfl⟩) | (at_builtin; refine wpList_append_own_at _ rfl (.tmp 11) (.tmp 14) _ rfl w.heap.size 5 i0 _ 1 1 Try.underlying27 hi0 hz0 hz1 hz2 rfl (by decide) _ _ _ rfl (hO.out.own.alloc _) ⟨wr.heap.size, 0, none⟩ 1 1 _ rfl rfl (cell_one_new _ _ _) ?a2 ?a3 ?a4 ?a5 ?_))
      case a2 => intro u hu; simp at hu; subst hu; rfl
      case a3 => have := HLE.out; unfold maxLen; omega
      case a4 => have := HLE.out; omega
      case a5 => have := hO.out.below.size; simp; omega
      intro v1 w1 hown1 hg1 _ hat1
      have R1 := Lib.hid (hO.out.step hown1 (by simp [Nat.add_assoc]) hg1)
      clear hown1 hg1 hat1 hO
      go_wp2
      go_roundw
      case rel => exact ⟨k + 1, by omega, by go_num, Lib.hid (by rw [mk5_succ, ← List.append_assoc]; exact R1.out)⟩
      case measure => simp [intOf]; omega
    · have R : Hid (OwnB w u3 wr (xs ++ mk5 5)) := Lib.hid (by rw [show 5 = k by omega]; exact hO.out)
      clear hO
      go_wp2
      go_ret
      exact ⟨_, rfl, R.out⟩
theorem grown_trans {a b c : World} {r : Option Nat} (h : a.grownBy b r) (k : b.grownBy c r) : a.grownBy c r :=
  ⟨k.os.trans h.os, k.tape.trans h.tape, k.output.trans h.output, Nat.le_trans h.size k.size, fun j hj hne => (k.block j (Nat.lt_of_lt_of_le hj h.size) hne).trans (h.block j hj hne)⟩
set_option maxHeartbeats 1000000 in
theorem spoilb_any (base : Nat) (v : Value) (n : Nat) (zs : List Value) (h1 : n ≤ 90000) (w : World) (hown : w.ownsRow base 5 1 v n zs) :
    Calls Try.prog 16 #[v] w fun e w' => e = .returned (.tuple #[]) ∧ w.grownBy w' v.ownBlock := by
  obtain ⟨A, cap, rfl, hcap, hmax, hA⟩ := own_form hown
  have HO := Lib.hid hown
  have HA := Lib.hid hA
  clear hown hA
  go_enter Try.func16, Try.ntmps16
  go_wp2
  go_loopw [2] (fun i wr => ∃ k : Nat, k ≤ n ∧ i = .int .i64 k ∧ Hid (∃ zs, wr.ownsRow base 5 1 (.slice A n cap) n zs) ∧ Hid (w.grownBy wr (Value.slice A n cap).ownBlock)) (fun i _ => n - (intOf i).toNat)
  case atStart => exact ⟨0, Nat.zero_le _, rfl, Lib.hid ⟨zs, HO.out⟩, Lib.hid (World.grownBy.refl _ _)⟩
  case round =>
    obtain ⟨k, hk, rfl, hO, hG⟩ := hrel
    by_cases hlt : k < n
    · obtain ⟨g, rfl, _, _⟩ := HA.out (by omega)
      obtain ⟨ys, hys⟩ := hO.out
      have hyl : ys.length = n := by have := hys.1; omega
      have c0 : wr.cell? ⟨g, k, none⟩ = some (ys[k]'(by omega)) := by rw [hys.cellAt k (by omega)]; exact List.getElem?_eq_getElem (by omega)
      have f0 := hys.frozenAt k
      have HS := Lib.hid (hys.stored k)
      generalize ys[k]'(by omega) = y at *
      clear hys hyl hO
      go_wp2_with (go_at_call 33; refine (markb_any (k + 7) (by omega) _).mono ?_; rintro e w' ⟨rfl, rfl⟩)
      go_roundw
      case rel => exact ⟨k + 1, by omega, by go_num, Lib.hid ⟨_, (HS.out _).1⟩, Lib.hid (grown_trans hG.out (HS.out _).2)⟩
      case measure => simp [intOf]; omega
    · have hG2 := hG
      clear hG hO
      go_wp2
      go_end0
      exact ⟨rfl, hG2.out⟩
set_option maxHeartbeats 1000000 in
theorem keptb_any (A B : Option Addr) (n m c d : Nat) (xs : List Int) (hn : m = n + 5) (hl : xs.length = n) (h1 : n ≤ 900000) (hmc : m ≤ c) (w : World) (hx : Rd w w.heap.size A (bv (xs ++ mk5 5))) (hy : Rd w w.heap.size B (bv xs)) :
    Calls Try.prog 31 #[.slice A m c, .slice B n d] w fun e w' => e = .returned (.bool true) ∧ Below w.heap.size w w' := by
  subst hn
  have HL := Lib.hid hl
  have HX := Lib.hid hx
  have HY := Lib.hid hy
  have HT : Hid (Rd w w.heap.size A (bv xs)) := Lib.hid (by
    have h := hx.take n
    have e : (bv (xs ++ mk5 5)).take n = bv xs := by unfold bv; rw [← List.map_take, ← hl, List.take_left]
    rw [e] at h
    exact h)
  clear hl hx hy
  have C := samebytes_any A B n n c d xs xs HL.out HL.out (by omega) (by omega) w HT.out HY.out
  rw [decide_eq_true rfl] at C
  have CC := Lib.hid C
  clear C
  go_enter Try.func31, Try.ntmps31
  go_wp2_with fail
  refine CC.out.mono ?_
  rintro e w1 ⟨rfl, q1⟩
  have B1 := Lib.hid q1
  clear q1 CC
  go_wp2
  go_loopw [5] (fun i wr => ∃ k : Nat, k ≤ 5 ∧ i = .int .i64 k ∧ Hid (Below w.heap.size w wr)) (fun i _ => 5 - (intOf i).toNat)
  case atStart => exact ⟨0, Nat.zero_le _, rfl, B1⟩
  case round =>
    clear B1
    obtain ⟨k, hk, rfl, hb⟩ := hrel
    by_cases hlt : k < 5
    · obtain ⟨ad, rfl, _, hc⟩ := (HX.out.below hb.out) (by rw [bv_len, List.length_append, mk5_len]; omega)
      have c0 : wr.cell? (ad.add (n + k)) = some (.int .u8 ((201 + 7 * (k : Int)) % 256)) := hc (n + k) _ (by
        unfold bv
        rw [List.map_append, List.getElem?_append_right (by rw [List.length_map, HL.out]; omega), List.length_map, HL.out, Nat.add_sub_cancel_left]
        have h5 : k = 0 ∨ k = 1 ∨ k = 2 ∨ k = 3 ∨ k = 4 := by omega
        rcases h5 with rfl | rfl | rfl | rfl | rfl <;> rfl)
      clear hc
      have i1 : (0 : Int) ≤ (n : Int) + (k : Int) := by omega
      have i2 : (n : Int) + (k : Int) < (n : Int) + 5 := by omega
      have i3 : ((n : Int) + (k : Int)).toNat = n + k := by omega
      have i4 : IntKind.i64.wrap ((n : Int) + (k : Int)) = (n : Int) + (k : Int) := IntWalk.i64_in _ (by omega)
      go_wp2_with fail
      go_quiet ((go_at_call 33; exact Calls.quiet_of_same ((markb_any k (by omega) _).mono fun _ _ h => ⟨h.1, h.2.symm⟩)))
      clear i3 i4
      go_wp2
      go_roundw
      case rel => exact ⟨k + 1, by omega, by go_num, Lib.hid (below_drewN hb.out _)⟩
      case measure => simp [intOf]; omega
    · have hb2 := hb
      clear hb
      go_wp2
      go_ret
      exact ⟨rfl, hb2.out⟩
end Go.Proofs.Ythappjbghlifbaa.K2
