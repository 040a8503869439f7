/-
  What the document's Beat.Sway and Beat.Steady tell: contracts. Conditions: lists of 300 times at most.
-/
import Derived.Test.YthdgdkjaeebbcaaPhaseRef
namespace Go.Proofs.Ythdgdkjaeebbcaa.PR
set_option maxRecDepth 100000
open Go.RowKit Ow Ph
set_option linter.unusedVariables false
set_option linter.unusedSimpArgs false
theorem tmd (a : Int) (m : Int) (hm : 0 < m) : -m < a.tmod m ∧ a.tmod m < m := ⟨Int.lt_tmod_of_pos a hm, Int.tmod_lt_of_pos a hm⟩
theorem tme (a : Int) (m : Int) : a = a.tmod m + m * a.tdiv m := (Int.tmod_add_mul_tdiv a m).symm
theorem DB.slice {w : World} {v : Value} {xs : List Int} (h : DB w v xs) : ∃ A c, v = .slice A xs.length c ∧ Rd w w.heap.size A (zv xs) := by
  rcases h with ⟨rfl, rfl⟩ | ⟨_, ad, c, rfl, hr⟩
  · exact ⟨none, 0, rfl, Rd.nil⟩
  · exact ⟨some ad, c, rfl, hr⟩
def cs4 (l : List Int) : Array Value := #[.int .i64 (cnt l 0 : Nat), .int .i64 (cnt l 1 : Nat), .int .i64 (cnt l 2 : Nat), .int .i64 (cnt l 3 : Nat)]
theorem cnt_le (l : List Int) (k : Int) : cnt l k ≤ l.length := List.length_filter_le _ _
set_option maxHeartbeats 2000000 in
theorem rsway_any (A : Option Addr) (c n : Nat) (xs : List Int) (hl : xs.length = n) (h3 : n ≤ 300) (hi : ∀ t ∈ xs, i64 t) (w : World) (hx : Rd w w.heap.size A (zv xs)) :
    Calls Try.prog 72 #[.agg #[.slice A n c]] w fun e w' => e = .returned (.int .i64 (swB (bts xs) : Nat)) ∧ Below w.heap.size w w' := by
  have HL := Lib.hid hl
  have HI := Lib.hid hi
  have HX := Lib.hid hx
  clear hl hi hx
  go_enter Try.func72, Try.ntmps72
  have KB := Lib.hid ((Bk.new w 72 #[.slice A n c]).alloc (.cells #[.int .i64 0, .int .i64 0, .int .i64 0, .int .i64 0] 3))
  have KN : Hid (Bk ((w.alloc (.cells #[.slice A n c] 72)).alloc (.cells #[.int .i64 0, .int .i64 0, .int .i64 0, .int .i64 0] 3)) (w.heap.size + 1) 3 (cs4 (xs.take 0))) := Lib.hid (by
    have h := Bk.new (w.alloc (.cells #[.slice A n c] 72)) 3 #[.int .i64 0, .int .i64 0, .int .i64 0, .int .i64 0]
    rw [show (w.alloc (.cells #[.slice A n c] 72)).heap.size = w.heap.size + 1 by simp] at h
    exact h)
  have B0 : Hid (Below w.heap.size w ((w.alloc (.cells #[.slice A n c] 72)).alloc (.cells #[.int .i64 0, .int .i64 0, .int .i64 0, .int .i64 0] 3))) := Lib.hid (by go_grown)
  go_wp2_with fail
  generalize ((w.alloc (.cells #[.slice A n c] 72)).alloc (.cells #[.int .i64 0, .int .i64 0, .int .i64 0, .int .i64 0] 3)) = wl at *
  go_loopw [4] (fun i wr => ∃ k : Nat, k ≤ n ∧ i = .int .i64 k ∧ Hid (Bk wr w.heap.size 72 #[.slice A n c]) ∧ Hid (Bk wr (w.heap.size + 1) 3 (cs4 (xs.take k))) ∧ Hid (Below w.heap.size w wr)) (fun i _ => n - (intOf i).toNat)
  case atStart => exact ⟨0, Nat.zero_le _, rfl, KB, KN, B0⟩
  case round =>
    clear KB KN B0
    obtain ⟨k, hk, rfl, KB, KN, B⟩ := hrel
    have b0 := KB.out.cell 0
    simp only [List.getElem?_toArray, List.getElem?_cons_zero] at b0
    by_cases hlt : k < n
    · have i1 : (0 : Int) ≤ (k : Int) := by omega
      have i2 : (k : Int) < (n : Int) := by omega
      have hkx : k < xs.length := by rw [HL.out]; exact hlt
      obtain ⟨ad, rfl, hab, hcx⟩ := (HX.out.below B.out) (by rw [zv_len]; omega)
      have cx := hcx k _ (zv_get xs k hkx)
      have HT : ∀ j : Int, Hid ((cnt (xs.take (k + 1)) j : Int) = cnt (xs.take k) j + (if xs[k] % 4 = j then 1 else 0)) := fun j => Lib.hid (by rw [List.take_succ_eq_append_getElem hkx, cnt_app])
      have HB4 : ∀ j : Int, cnt (xs.take k) j ≤ 300 := fun j => Nat.le_trans (cnt_le _ _) (by rw [List.length_take]; omega)
      clear hcx hab
      generalize xs[k] = x at *
      clear hkx
      have hu := tmd x 4 (by decide)
      have hu4 := tme x 4
      obtain ⟨u, huq⟩ : ∃ u, x.tmod 4 = u := ⟨_, rfl⟩
      rw [huq] at hu hu4
      have hq : (u + 4) % 4 = x % 4 := by generalize x.tdiv 4 = y at *; omega
      have j0 := HB4 0
      have j1 := HB4 1
      have j2 := HB4 2
      have j3 := HB4 3
      have n0 : cnt (xs.take (k + 1)) 0 = cnt (xs.take k) 0 + (if x % 4 = 0 then 1 else 0) := by have h := (HT 0).out; by_cases hh : x % 4 = 0 <;> simp only [hh, if_true, if_false] at h ⊢ <;> omega
      have n1 : cnt (xs.take (k + 1)) 1 = cnt (xs.take k) 1 + (if x % 4 = 1 then 1 else 0) := by have h := (HT 1).out; by_cases hh : x % 4 = 1 <;> simp only [hh, if_true, if_false] at h ⊢ <;> omega
      have n2 : cnt (xs.take (k + 1)) 2 = cnt (xs.take k) 2 + (if x % 4 = 2 then 1 else 0) := by have h := (HT 2).out; by_cases hh : x % 4 = 2 <;> simp only [hh, if_true, if_false] at h ⊢ <;> omega
      have n3 : cnt (xs.take (k + 1)) 3 = cnt (xs.take k) 3 + (if x % 4 = 3 then 1 else 0) := by have h := (HT 3).out; by_cases hh : x % 4 = 3 <;> simp only [hh, if_true, if_false] at h ⊢ <;> omega
      have N0 := Lib.hid n0
      have N1 := Lib.hid n1
      have N2 := Lib.hid n2
      have N3 := Lib.hid n3
      clear HT HB4 n0 n1 n2 n3 hu4
      unfold cs4 at KN
      generalize cnt (xs.take k) 0 = m0 at *
      generalize cnt (xs.take k) 1 = m1 at *
      generalize cnt (xs.take k) 2 = m2 at *
      generalize cnt (xs.take k) 3 = m3 at *
      have d0 := KN.out.cell 0
      have d1 := KN.out.cell 1
      have d2 := KN.out.cell 2
      have d3 := KN.out.cell 3
      have f0 := KN.out.frozen 0
      have f1 := KN.out.frozen 1
      have f2 := KN.out.frozen 2
      have f3 := KN.out.frozen 3
      simp only [List.getElem?_toArray, List.getElem?_cons_zero, List.getElem?_cons_succ] at d0 d1 d2 d3
      rcases (by omega : x % 4 = 0 ∨ x % 4 = 1 ∨ x % 4 = 2 ∨ x % 4 = 3) with h | h | h | h
      · rw [h] at hq
        simp only [h, Int.reduceEq, if_true, if_false, Nat.add_zero] at N0 N1 N2 N3
        have KB2 := Lib.hid (KB.out.far (p := ⟨w.heap.size + 1, 0, none⟩) (by simp) (.int .i64 ((m0 : Int) + 1)))
        have KN2 := Lib.hid (KN.out.set_ 0 (.int .i64 ((m0 : Int) + 1)))
        have B2 := Lib.hid (B.out.setCell (p := ⟨w.heap.size + 1, 0, none⟩) (by simp) (.int .i64 ((m0 : Int) + 1)))
        clear h
        go_wp2_with fail
        generalize wr.setCell ⟨w.heap.size + 1, 0, none⟩ (.int .i64 ((m0 : Int) + 1)) = z9 at *
        go_roundw
        case rel => exact ⟨k + 1, by omega, by go_num, KB2, by unfold cs4; rw [N0.out, N1.out, N2.out, N3.out]; exact KN2, B2⟩
        case measure => simp [intOf]; omega
      · rw [h] at hq
        simp only [h, Int.reduceEq, if_true, if_false, Nat.add_zero] at N0 N1 N2 N3
        have KB2 := Lib.hid (KB.out.far (p := ⟨w.heap.size + 1, 1, none⟩) (by simp) (.int .i64 ((m1 : Int) + 1)))
        have KN2 := Lib.hid (KN.out.set_ 1 (.int .i64 ((m1 : Int) + 1)))
        have B2 := Lib.hid (B.out.setCell (p := ⟨w.heap.size + 1, 1, none⟩) (by simp) (.int .i64 ((m1 : Int) + 1)))
        clear h
        go_wp2_with fail
        generalize wr.setCell ⟨w.heap.size + 1, 1, none⟩ (.int .i64 ((m1 : Int) + 1)) = z9 at *
        go_roundw
        case rel => exact ⟨k + 1, by omega, by go_num, KB2, by unfold cs4; rw [N0.out, N1.out, N2.out, N3.out]; exact KN2, B2⟩
        case measure => simp [intOf]; omega
      · rw [h] at hq
        simp only [h, Int.reduceEq, if_true, if_false, Nat.add_zero] at N0 N1 N2 N3
        have KB2 := Lib.hid (KB.out.far (p := ⟨w.heap.size + 1, 2, none⟩) (by simp) (.int .i64 ((m2 : Int) + 1)))
        have KN2 := Lib.hid (KN.out.set_ 2 (.int .i64 ((m2 : Int) + 1)))
        have B2 := Lib.hid (B.out.setCell (p := ⟨w.heap.size + 1, 2, none⟩) (by simp) (.int .i64 ((m2 : Int) + 1)))
        clear h
        go_wp2_with fail
        generalize wr.setCell ⟨w.heap.size + 1, 2, none⟩ (.int .i64 ((m2 : Int) + 1)) = z9 at *
        go_roundw
        case rel => exact ⟨k + 1, by omega, by go_num, KB2, by unfold cs4; rw [N0.out, N1.out, N2.out, N3.out]; exact KN2, B2⟩
        case measure => simp [intOf]; omega
      · rw [h] at hq
        simp only [h, Int.reduceEq, if_true, if_false, Nat.add_zero] at N0 N1 N2 N3
        have KB2 := Lib.hid (KB.out.far (p := ⟨w.heap.size + 1, 3, none⟩) (by simp) (.int .i64 ((m3 : Int) + 1)))
        have KN2 := Lib.hid (KN.out.set_ 3 (.int .i64 ((m3 : Int) + 1)))
        have B2 := Lib.hid (B.out.setCell (p := ⟨w.heap.size + 1, 3, none⟩) (by simp) (.int .i64 ((m3 : Int) + 1)))
        clear h
        go_wp2_with fail
        generalize wr.setCell ⟨w.heap.size + 1, 3, none⟩ (.int .i64 ((m3 : Int) + 1)) = z9 at *
        go_roundw
        case rel => exact ⟨k + 1, by omega, by go_num, KB2, by unfold cs4; rw [N0.out, N1.out, N2.out, N3.out]; exact KN2, B2⟩
        case measure => simp [intOf]; omega
    · have i2 : ¬ (k : Int) < (n : Int) := by omega
      obtain rfl : k = n := by omega
      rw [List.take_of_length_le (by rw [HL.out]; omega)] at KN
      have HS : Hid ((swB (bts xs) : Nat) = ((cnt xs 0 : Int) - cnt xs 2).natAbs + ((cnt xs 1 : Int) - cnt xs 3).natAbs) := Lib.hid (by unfold swB; rw [(bts_cnt xs).1, (bts_cnt xs).2])
      have HB4 : ∀ j : Int, cnt xs j ≤ 300 := fun j => Nat.le_trans (cnt_le _ _) (by rw [HL.out]; exact h3)
      have j0 := HB4 0
      have j1 := HB4 1
      have j2 := HB4 2
      have j3 := HB4 3
      unfold cs4 at KN
      clear HB4
      generalize cnt xs 0 = m0 at *
      generalize cnt xs 1 = m1 at *
      generalize cnt xs 2 = m2 at *
      generalize cnt xs 3 = m3 at *
      have c1 := fun w => apart_any m0 m2 (by omega) (by omega) w
      have c2 := fun w => apart_any m1 m3 (by omega) (by omega) w
      have p1 : ((m0 : Int) - m2).natAbs ≤ 300 := by omega
      have p2 : ((m1 : Int) - m3).natAbs ≤ 300 := by omega
      generalize ((m0 : Int) - m2).natAbs = q1 at *
      generalize ((m1 : Int) - m3).natAbs = q2 at *
      go_wp2_with fail
      have d0 := KN.out.drew.cell 0
      have d1 := KN.out.drew.cell 1
      have d2 := KN.out.drew.cell 2
      have d3 := KN.out.drew.cell 3
      simp only [List.getElem?_toArray, List.getElem?_cons_zero, List.getElem?_cons_succ] at d0 d1 d2 d3
      have BD := Lib.hid B.out.drew
      go_region_held3 (fun w' => w'.cell? ⟨w.heap.size + 1, 0, none⟩ = some (.int .i64 (m0 : Nat)) ∧ w'.cell? ⟨w.heap.size + 1, 1, none⟩ = some (.int .i64 (m1 : Nat)) ∧ w'.cell? ⟨w.heap.size + 1, 2, none⟩ = some (.int .i64 (m2 : Nat)) ∧ w'.cell? ⟨w.heap.size + 1, 3, none⟩ = some (.int .i64 (m3 : Nat)) ∧ Below w.heap.size w w')
        (first | exact ⟨d0, d1, d2, d3, BD.out⟩ | assumption | exact ⟨by assumption, by assumption, by assumption, by assumption, by assumption⟩)
        (first | (go_at_call 74; with_reducible refine (c1 _).mono ?_; rintro e w2 ⟨rfl, rfl⟩) | (go_at_call 74; with_reducible refine (c2 _).mono ?_; rintro e w2 ⟨rfl, rfl⟩))
      all_goals
        rename_i hH
        have BB := Lib.hid hH.2.2.2.2
        clear hH
        go_wp2
        go_ret
        exact ⟨rt_i (by rw [HS.out]; first | (push_cast; rfl) | (rw [IntKind.wrap_i64]; omega)), BB.out⟩
end Go.Proofs.Ythdgdkjaeebbcaa.PR
