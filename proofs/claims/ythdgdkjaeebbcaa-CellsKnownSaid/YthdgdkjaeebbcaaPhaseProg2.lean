/-
  What the program's Beat.Steady tells: a contract. Conditions: as many writes as 1000 at most, and no more sway than writes.
-/
import Derived.Test.YthdgdkjaeebbcaaPhaseProg
namespace Go.Proofs.Ythdgdkjaeebbcaa
set_option maxRecDepth 100000
open Go.RowKit Ow Ph
set_option linter.unusedVariables false
set_option linter.unusedSimpArgs false
theorem keep1 {w0 w1 : World} {p : Addr} {v : Value} (q1 : Below w0.heap.size w0 w1) (h : w0.cell? p = some v) : w1.cell? p = some v :=
  (q1.cell (World.block_lt_of_cell? w0 _ h)).trans h
def stB (b : Bt) (now : Int) : Bool := decide (b.n < 3) || (decide (b.t ≤ now) && decide (4 + ((b.n : Int) - (swB b : Nat)) ≤ now - b.t))
set_option maxHeartbeats 1000000 in
theorem steady_any (b : Bt) (now : Int) (hx : b.x.natAbs + b.y.natAbs < 304) (hs : swB b ≤ b.n) (hn : b.n ≤ 1000) (ht : i64 b.t) (hnow : i64 now) (w : World) :
    Calls Try.prog 66 #[b.val, .int .i64 now] w fun e w' => e = .returned (.bool (stB b now)) ∧ Below w.heap.size w w' := by
  have c1 := fun w => sway_any b hx w
  have c2 := fun w => behind_any b.t now ht hnow w
  obtain ⟨t1, t2⟩ := ht
  obtain ⟨n1, n2⟩ := hnow
  revert c1 hs
  unfold stB
  generalize swB b = s
  intro hs c1
  clear hx
  obtain ⟨x, y, n, t⟩ := b
  unfold Bt.val at c1 ⊢
  dsimp only at c1 c2 hs hn t1 t2 ⊢
  generalize fl x = X at *
  generalize fl y = Y at *
  have e3 : decide (n < 3) = decide ((n : Int) < 3) := by by_cases h : n < 3 <;> simp [h] <;> omega
  rw [e3]
  clear e3
  have hsn : (s : Int) ≤ n := by omega
  have hn' : (n : Int) ≤ 1000 := by omega
  by_cases h3 : (n : Int) < 3
  · go_enter Try.func66, Try.ntmps66
    go_wp2
    go_returns
    exact ⟨rt_b (by simp [h3]), by go_grown⟩
  by_cases hl : t ≤ now
  · have hd : decide (IntKind.u64.wrap (4 + IntKind.u64.wrap (IntKind.i64.wrap ((n : Int) - s))) ≤ (now - t) % 18446744073709551616) = decide (4 + ((n : Int) - s) ≤ now - t) := by
      rw [IntKind.wrap_i64, IntKind.wrap_u64, IntKind.wrap_u64]; congr 1; simp; omega
    have HD := Lib.hid hd
    clear hd
    generalize (now - t) % 18446744073709551616 = dd at *
    go_enter Try.func66, Try.ntmps66
    go_wp2_with fail
    have K0 := Lib.hid (Bk.new w 80 #[.complex .f64 X Y, .int .i64 n, .int .i64 t])
    have B0 : Hid (Below w.heap.size w (w.alloc (.cells #[.complex .f64 X Y, .int .i64 n, .int .i64 t] 80))) := Lib.hid (by go_grown)
    generalize (w.alloc (.cells #[.complex .f64 X Y, .int .i64 n, .int .i64 t] 80)) = w0 at *
    have k0 := K0.out.cell 0
    have k1 := K0.out.cell 1
    have k2 := K0.out.cell 2
    simp only [List.getElem?_toArray, List.getElem?_cons_zero, List.getElem?_cons_succ] at k0 k1 k2
    refine wp_region_held_drew (S := fun w' => w'.cell? ⟨w.heap.size, 0, none⟩ = some (.complex .f64 X Y) ∧ w'.cell? ⟨w.heap.size, 1, none⟩ = some (.int .i64 n) ∧ w'.cell? ⟨w.heap.size, 2, none⟩ = some (.int .i64 t)) (by kernel_rfl) ⟨k0, k1, k2⟩ (fun g => ?_)
    clear k0 k1 k2
    have B1 := Lib.hid B0.out.drew
    clear K0 B0
    generalize w0.drew = z at *
    refine tq 0 ?_ rfl (by kernel_rfl) (fun _ _ _ h => h) (by rfl) g ?_ ?_; rotate_left
    · intro w9 h9; obtain ⟨d0, d1, d2⟩ := h9; go_simp; try with_reducible rfl
    simp only [Act.put, ptA, ptB, ptC]
    refine tq 1 ?_ rfl (by kernel_rfl) (fun _ _ _ h => h) (by rfl) g ?_ ?_; rotate_left
    · intro w9 h9; obtain ⟨d0, d1, d2⟩ := h9; go_simp; try with_reducible rfl
    simp only [Act.put, ptA, ptB, ptC]
    refine tq 2 ?_ rfl (by kernel_rfl) (fun _ _ _ h => h) (by rfl) g ?_ ?_; rotate_left
    · intro w9 h9; obtain ⟨d0, d1, d2⟩ := h9; go_simp; try with_reducible rfl
    simp only [Act.put, ptA, ptB, ptC]
    refine tq 3 ?_ rfl (by kernel_rfl) (fun _ _ _ h => h) (by rfl) g ?_ ?_; rotate_left
    · intro w9 h9; obtain ⟨d0, d1, d2⟩ := h9; go_simp; try with_reducible rfl
    simp only [Act.put, ptA, ptB, ptC]
    refine tq 4 ?_ rfl (by kernel_rfl) (fun _ _ _ h => h) (by rfl) g ?_ ?_; rotate_left
    · intro w9 h9; obtain ⟨d0, d1, d2⟩ := h9; go_simp; try with_reducible rfl
    simp only [Act.put, ptA, ptB, ptC]
    refine tq 5 ?_ rfl (by kernel_rfl) (fun _ _ _ h => h) (by rfl) g ?_ ?_; rotate_left
    · intro w9 h9; obtain ⟨d0, d1, d2⟩ := h9; go_simp; try with_reducible rfl
    simp only [Act.put, ptA, ptB, ptC]
    refine tq 6 ?_ rfl (by kernel_rfl) (fun _ _ _ h => h) (by rfl) g ?_ ?_; rotate_left
    · intro w9 h9; obtain ⟨d0, d1, d2⟩ := h9; go_simp; try with_reducible rfl
    simp only [Act.put, ptA, ptB, ptC]
    refine tq 7 ?_ rfl (by kernel_rfl) (fun _ _ _ h => h) (by rfl) g ?_ ?_; rotate_left
    · intro w9 h9; obtain ⟨d0, d1, d2⟩ := h9; go_simp; try with_reducible rfl
    simp only [Act.put, ptA, ptB, ptC]
    refine tq 9 ?_ rfl (by kernel_rfl) (fun _ _ _ h => h) (by rfl) g ?_ ?_; rotate_left
    · intro w9 h9; obtain ⟨d0, d1, d2⟩ := h9; go_simp; try with_reducible rfl
    simp only [Act.put, ptA, ptB, ptC]
    refine tq 10 ?_ rfl (by kernel_rfl) (fun _ _ _ h => h) (by rfl) g ?_ ?_; rotate_left
    · intro w9 h9; obtain ⟨d0, d1, d2⟩ := h9; go_simp; try with_reducible rfl
    simp only [Act.put, ptA, ptB, ptC]
    refine tq 11 ?_ rfl (by kernel_rfl) (fun _ _ _ h => h) (by rfl) g ?_ ?_; rotate_left
    · intro w9 h9; obtain ⟨d0, d1, d2⟩ := h9; go_simp; try with_reducible rfl
    simp only [Act.put, ptA, ptB, ptC]
    refine tc 8 rfl (by kernel_rfl) (fun K9 hK => ?_)
    go_simp
    refine (c2 _).mono ?_
    rintro e w2 ⟨rfl, rfl⟩
    go_simp
    refine hK.out _ _ g (fun g1 => ?_)
    clear hK K9 g
    have g := g1
    clear g1
    refine tc 12 rfl (by kernel_rfl) (fun K9 hK => ?_)
    go_simp
    refine (c1 _).mono ?_
    rintro e w2 ⟨rfl, q⟩
    go_simp
    refine hK.out _ _ ⟨keep1 q g.1, keep1 q g.2.1, keep1 q g.2.2⟩ (fun g1 => ?_)
    clear hK K9 g
    have g := g1
    clear g1
    have B2 := Lib.hid (B1.out.trans (q.mono B1.out.size))
    clear q B1
    refine tq 13 ?_ rfl (by kernel_rfl) (fun _ _ _ h => h) (by rfl) g ?_ ?_; rotate_left
    · intro w9 h9; obtain ⟨d0, d1, d2⟩ := h9; go_simp; try with_reducible rfl
    simp only [Act.put, ptA, ptB, ptC]
    refine tq 14 ?_ rfl (by kernel_rfl) (fun _ _ _ h => h) (by rfl) g ?_ ?_; rotate_left
    · intro w9 h9; obtain ⟨d0, d1, d2⟩ := h9; go_simp; try with_reducible rfl
    simp only [Act.put, ptA, ptB, ptC]
    refine tq 15 ?_ rfl (by kernel_rfl) (fun _ _ _ h => h) (by rfl) g ?_ ?_; rotate_left
    · intro w9 h9; obtain ⟨d0, d1, d2⟩ := h9; go_simp; try with_reducible rfl
    simp only [Act.put, ptA, ptB, ptC]
    refine tq 16 ?_ rfl (by kernel_rfl) (fun _ _ _ h => h) (by rfl) g ?_ ?_; rotate_left
    · intro w9 h9; obtain ⟨d0, d1, d2⟩ := h9; go_simp; try with_reducible rfl
    simp only [Act.put, ptA, ptB, ptC]
    refine tq 17 ?_ rfl (by kernel_rfl) (fun _ _ _ h => h) (by rfl) g ?_ ?_; rotate_left
    · intro w9 h9; obtain ⟨d0, d1, d2⟩ := h9; go_simp; try with_reducible rfl
    simp only [Act.put, ptA, ptB, ptC]
    refine tq 18 ?_ rfl (by kernel_rfl) (fun _ _ _ h => h) (by rfl) g ?_ ?_; rotate_left
    · intro w9 h9; obtain ⟨d0, d1, d2⟩ := h9; go_simp; try with_reducible rfl
    simp only [Act.put, ptA, ptB, ptC]
    clear g
    refine wpAnyH_done (by kernel_rfl) ?_ _
    go_wp2
    go_ret
    exact ⟨rt_b (by rw [← HD.out]; simp [show ¬ (n : Int) < 3 by omega, hl]), B2.out⟩
  · have hl2 : decide (t ≤ now) = false := by simpa using hl
    go_enter Try.func66, Try.ntmps66
    go_wp2_with fail
    have K0 := Lib.hid (Bk.new w 80 #[.complex .f64 X Y, .int .i64 n, .int .i64 t])
    have B0 : Hid (Below w.heap.size w (w.alloc (.cells #[.complex .f64 X Y, .int .i64 n, .int .i64 t] 80))) := Lib.hid (by go_grown)
    generalize (w.alloc (.cells #[.complex .f64 X Y, .int .i64 n, .int .i64 t] 80)) = w0 at *
    have k0 := K0.out.cell 0
    have k1 := K0.out.cell 1
    have k2 := K0.out.cell 2
    simp only [List.getElem?_toArray, List.getElem?_cons_zero, List.getElem?_cons_succ] at k0 k1 k2
    refine wp_region_held_drew (S := fun w' => w'.cell? ⟨w.heap.size, 0, none⟩ = some (.complex .f64 X Y) ∧ w'.cell? ⟨w.heap.size, 1, none⟩ = some (.int .i64 n) ∧ w'.cell? ⟨w.heap.size, 2, none⟩ = some (.int .i64 t)) (by kernel_rfl) ⟨k0, k1, k2⟩ (fun g => ?_)
    clear k0 k1 k2
    have B1 := Lib.hid B0.out.drew
    clear K0 B0
    generalize w0.drew = z at *
    refine tq 0 ?_ rfl (by kernel_rfl) (fun _ _ _ h => h) (by rfl) g ?_ ?_; rotate_left
    · intro w9 h9; obtain ⟨d0, d1, d2⟩ := h9; go_simp; try with_reducible rfl
    simp only [Act.put, ptA, ptB, ptC]
    refine tq 1 ?_ rfl (by kernel_rfl) (fun _ _ _ h => h) (by rfl) g ?_ ?_; rotate_left
    · intro w9 h9; obtain ⟨d0, d1, d2⟩ := h9; go_simp; try with_reducible rfl
    simp only [Act.put, ptA, ptB, ptC]
    refine tq 2 ?_ rfl (by kernel_rfl) (fun _ _ _ h => h) (by rfl) g ?_ ?_; rotate_left
    · intro w9 h9; obtain ⟨d0, d1, d2⟩ := h9; go_simp; try with_reducible rfl
    simp only [Act.put, ptA, ptB, ptC]
    refine tq 3 (.bool false) rfl (by kernel_rfl) (fun _ _ _ h => h) (by rfl) g ?_ ?_
    · intro w9 h9; obtain ⟨d0, d1, d2⟩ := h9; go_simp; try with_reducible rfl
    simp only [Act.put, ptA, ptB, ptC]
    refine tq 4 ?_ rfl (by kernel_rfl) (fun _ _ _ h => h) (by rfl) g ?_ ?_; rotate_left
    · intro w9 h9; obtain ⟨d0, d1, d2⟩ := h9; go_simp; try with_reducible rfl
    simp only [Act.put, ptA, ptB, ptC]
    refine tu 5 rfl (by kernel_rfl) (fun _ _ _ h => h) (by rfl) g ?_
    simp only [Act.put, ptA, ptB, ptC]
    refine tu 6 rfl (by kernel_rfl) (fun _ _ _ h => h) (by rfl) g ?_
    simp only [Act.put, ptA, ptB, ptC]
    refine tu 7 rfl (by kernel_rfl) (fun _ _ _ h => h) (by rfl) g ?_
    simp only [Act.put, ptA, ptB, ptC]
    refine tu 8 rfl (by kernel_rfl) (fun _ _ _ h => h) (by rfl) g ?_
    simp only [Act.put, ptA, ptB, ptC]
    refine tu 9 rfl (by kernel_rfl) (fun _ _ _ h => h) (by rfl) g ?_
    simp only [Act.put, ptA, ptB, ptC]
    refine tu 10 rfl (by kernel_rfl) (fun _ _ _ h => h) (by rfl) g ?_
    simp only [Act.put, ptA, ptB, ptC]
    refine tu 11 rfl (by kernel_rfl) (fun _ _ _ h => h) (by rfl) g ?_
    simp only [Act.put, ptA, ptB, ptC]
    refine tu 12 rfl (by kernel_rfl) (fun _ _ _ h => h) (by rfl) g ?_
    simp only [Act.put, ptA, ptB, ptC]
    refine tu 13 rfl (by kernel_rfl) (fun _ _ _ h => h) (by rfl) g ?_
    simp only [Act.put, ptA, ptB, ptC]
    refine tu 14 rfl (by kernel_rfl) (fun _ _ _ h => h) (by rfl) g ?_
    simp only [Act.put, ptA, ptB, ptC]
    refine tu 15 rfl (by kernel_rfl) (fun _ _ _ h => h) (by rfl) g ?_
    simp only [Act.put, ptA, ptB, ptC]
    refine tu 16 rfl (by kernel_rfl) (fun _ _ _ h => h) (by rfl) g ?_
    simp only [Act.put, ptA, ptB, ptC]
    refine tq 17 ?_ rfl (by kernel_rfl) (fun _ _ _ h => h) (by rfl) g ?_ ?_; rotate_left
    · intro w9 h9; obtain ⟨d0, d1, d2⟩ := h9; go_simp; try with_reducible rfl
    simp only [Act.put, ptA, ptB, ptC]
    refine tq 18 ?_ rfl (by kernel_rfl) (fun _ _ _ h => h) (by rfl) g ?_ ?_; rotate_left
    · intro w9 h9; obtain ⟨d0, d1, d2⟩ := h9; go_simp; try with_reducible rfl
    simp only [Act.put, ptA, ptB, ptC]
    clear g
    refine wpAnyH_done (by kernel_rfl) ?_ _
    go_wp2
    go_ret
    exact ⟨rt_b (by rw [hl2]; simp [show ¬ (n : Int) < 3 by omega]), B1.out⟩
end Go.Proofs.Ythdgdkjaeebbcaa
