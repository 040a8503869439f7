/-
  What the document's Beat.Steady tells: a contract. Conditions: lists of 300 times at most.
-/
import Derived.Test.YthdgdkjaeebbcaaPhaseRef2
namespace Go.Proofs.Ythdgdkjaeebbcaa.PR
set_option maxRecDepth 100000
open Go.RowKit Ow Ph
set_option linter.unusedVariables false
set_option linter.unusedSimpArgs false
set_option maxHeartbeats 2000000 in
theorem rsteady_any (A : Option Addr) (c n : Nat) (xs : List Int) (now : Int) (hl : xs.length = n) (h3 : n ≤ 300) (hi : ∀ t ∈ xs, i64 t) (hnow : i64 now) (w : World) (hx : Rd w w.heap.size A (zv xs)) :
    Calls Try.prog 67 #[.agg #[.slice A n c], .int .i64 now] w fun e w' => e = .returned (.bool (stB (bts xs) now)) ∧ Below w.heap.size w w' := by
  have HN : Hid ((bts xs).n = n) := Lib.hid (by rw [(bts_ok xs).len, hl])
  have HSW : Hid (swB (bts xs) ≤ n) := Lib.hid (by rw [← hl]; exact (bts_ok xs).sw)
  have HLA : Hid (∀ h : n - 1 < xs.length, (bts xs).t = xs[n - 1]) := Lib.hid (fun h => by
    have hne : xs ≠ [] := by intro e; subst e; simp at h
    rw [bts_last xs hne, List.getLast_eq_getElem]
    congr 1; omega)
  have HL := Lib.hid hl
  have HI := Lib.hid hi
  have HX := Lib.hid hx
  obtain ⟨nw1, nw2⟩ := hnow
  unfold stB
  rw [HN.out]
  clear hl hi hx HN
  by_cases hf : n < 3
  · have hf' : (n : Int) < 3 := by omega
    go_enter Try.func67, Try.ntmps67
    go_wp2_with fail
    go_ret
    exact ⟨rt_b (by simp [hf]), by go_grown⟩
  have hf' : ¬ (n : Int) < 3 := by omega
  have hkx : n - 1 < xs.length := by rw [HL.out]; omega
  have hlast := HLA.out hkx
  have HXX : Hid ((zv xs)[n - 1]? = some (.int .i64 xs[n - 1])) := Lib.hid (zv_get xs (n - 1) hkx)
  obtain ⟨l1, l2⟩ := HI.out _ (List.getElem_mem hkx)
  obtain ⟨ad, rfl, hab, hcx⟩ := HX.out (by rw [zv_len]; omega)
  obtain ⟨s, hs⟩ : ∃ s, swB (bts xs) = s := ⟨_, rfl⟩
  have HS := Lib.hid hs
  have hsn : s ≤ n := by rw [← hs]; exact HSW.out
  rw [hs, hlast]
  have HX0 : Hid (Rd w w.heap.size (some ad) (zv xs)) := HX
  have K0 := Bk.new w 72 #[.slice (some ad) n c]
  have B0 : Hid (Below w.heap.size w (w.alloc (.cells #[.slice (some ad) n c] 72))) := Lib.hid (by go_grown)
  obtain ⟨ad', e', _, hcx'⟩ := (HX.out.below B0.out) (by rw [zv_len]; omega)
  injection e' with e'
  subst e'
  have cx := hcx' _ _ HXX.out
  have b0 := K0.cell 0
  simp only [List.getElem?_toArray, List.getElem?_cons_zero] at b0
  have KB := Lib.hid K0
  clear hcx hcx' hs hlast HLA HSW HX K0 hab
  generalize xs[n - 1] = l at *
  clear hkx
  have i2 : ((n - 1 : Nat) : Int) = (n : Int) - 1 := by omega
  by_cases hyes : l < now
  · have hy : decide (l < now) = true := decide_eq_true hyes
    go_enter Try.func67, Try.ntmps67
    go_wp2_with fail
    generalize (w.alloc (.cells #[.slice (some ad) n c] 72)) = w0 at *
    refine wp_region_held_drew (S := fun w' => w'.cell? ⟨w.heap.size, 0, none⟩ = some (.slice (some ad) n c)) (by kernel_rfl) b0 (fun g => ?_)
    have B1 := Lib.hid B0.out.drew
    have HR := Lib.hid ((HX0.out.below B0.out).mono B0.out.size)
    have HX1 : Hid (Rd w0.drew w0.drew.heap.size (some ad) (zv xs)) := HR
    clear b0 B0 KB cx HR
    generalize w0.drew = z at *
    refine tq 0 ?_ rfl (by kernel_rfl) (fun _ _ _ h => h) (by rfl) g ?_ ?_; rotate_left
    · intro w9 h9; go_simp; try with_reducible rfl
    simp only [Act.put, ptA, ptB, ptC]
    refine tq 1 ?_ rfl (by kernel_rfl) (fun _ _ _ h => h) (by rfl) g ?_ ?_; rotate_left
    · intro w9 h9; go_simp; try with_reducible rfl
    simp only [Act.put, ptA, ptB, ptC]
    refine tq 2 ?_ rfl (by kernel_rfl) (fun _ _ _ h => h) (by rfl) g ?_ ?_; rotate_left
    · intro w9 h9; go_simp; try with_reducible rfl
    simp only [Act.put, ptA, ptB, ptC]
    refine tq 3 ?_ rfl (by kernel_rfl) (fun _ _ _ h => h) (by rfl) g ?_ ?_; rotate_left
    · intro w9 h9; go_simp; try with_reducible rfl
    simp only [Act.put, ptA, ptB, ptC]
    refine tq 4 ?_ rfl (by kernel_rfl) (fun _ _ _ h => h) (by rfl) g ?_ ?_; rotate_left
    · intro w9 h9; go_simp; try with_reducible rfl
    simp only [Act.put, ptA, ptB, ptC]
    refine tq 5 ?_ rfl (by kernel_rfl) (fun _ _ _ h => h) (by rfl) g ?_ ?_; rotate_left
    · intro w9 h9; go_simp; try with_reducible rfl
    simp only [Act.put, ptA, ptB, ptC]
    refine tq 6 ?_ rfl (by kernel_rfl) (fun _ _ _ h => h) (by rfl) g ?_ ?_; rotate_left
    · intro w9 h9; go_simp; try with_reducible rfl
    simp only [Act.put, ptA, ptB, ptC]
    refine tq 7 ?_ rfl (by kernel_rfl) (fun _ _ _ h => h) (by rfl) g ?_ ?_; rotate_left
    · intro w9 h9; go_simp; try with_reducible rfl
    simp only [Act.put, ptA, ptB, ptC]
    refine tq 8 ?_ rfl (by kernel_rfl) (fun _ _ _ h => h) (by rfl) g ?_ ?_; rotate_left
    · intro w9 h9; go_simp; try with_reducible rfl
    simp only [Act.put, ptA, ptB, ptC]
    refine tq 9 ?_ rfl (by kernel_rfl) (fun _ _ _ h => h) (by rfl) g ?_ ?_; rotate_left
    · intro w9 h9; go_simp; try with_reducible rfl
    simp only [Act.put, ptA, ptB, ptC]
    refine tq 10 ?_ rfl (by kernel_rfl) (fun _ _ _ h => h) (by rfl) g ?_ ?_; rotate_left
    · intro w9 h9; go_simp; try with_reducible rfl
    simp only [Act.put, ptA, ptB, ptC]
    refine tq 11 ?_ rfl (by kernel_rfl) (fun _ _ _ h => h) (by rfl) g ?_ ?_; rotate_left
    · intro w9 h9; go_simp; try with_reducible rfl
    simp only [Act.put, ptA, ptB, ptC]
    refine tq 12 ?_ rfl (by kernel_rfl) (fun _ _ _ h => h) (by rfl) g ?_ ?_; rotate_left
    · intro w9 h9; go_simp; try with_reducible rfl
    simp only [Act.put, ptA, ptB, ptC]
    refine tq 13 ?_ rfl (by kernel_rfl) (fun _ _ _ h => h) (by rfl) g ?_ ?_; rotate_left
    · intro w9 h9; go_simp; try with_reducible rfl
    simp only [Act.put, ptA, ptB, ptC]
    refine tc 14 rfl (by kernel_rfl) (fun K9 hK => ?_)
    go_simp
    with_reducible refine (rsway_any (some ad) c n xs HL.out h3 HI.out _ HX1.out).mono ?_
    rintro e w2 ⟨rfl, q⟩
    rw [HS.out]
    go_simp
    refine hK.out _ _ (keep1 q g) (fun g1 => ?_)
    clear hK K9 g
    have g := g1
    clear g1
    have B2 := Lib.hid (B1.out.trans (q.mono B1.out.size))
    clear q B1 HX1
    refine tq 15 ?_ rfl (by kernel_rfl) (fun _ _ _ h => h) (by rfl) g ?_ ?_; rotate_left
    · intro w9 h9; go_simp; try with_reducible rfl
    simp only [Act.put, ptA, ptB, ptC]
    refine tq 16 ?_ rfl (by kernel_rfl) (fun _ _ _ h => h) (by rfl) g ?_ ?_; rotate_left
    · intro w9 h9; go_simp; try with_reducible rfl
    simp only [Act.put, ptA, ptB, ptC]
    refine tq 17 ?_ rfl (by kernel_rfl) (fun _ _ _ h => h) (by rfl) g ?_ ?_; rotate_left
    · intro w9 h9; go_simp; try with_reducible rfl
    simp only [Act.put, ptA, ptB, ptC]
    refine tq 18 ?_ rfl (by kernel_rfl) (fun _ _ _ h => h) (by rfl) g ?_ ?_; rotate_left
    · intro w9 h9; go_simp; try with_reducible rfl
    simp only [Act.put, ptA, ptB, ptC]
    refine tq 19 ?_ rfl (by kernel_rfl) (fun _ _ _ h => h) (by rfl) g ?_ ?_; rotate_left
    · intro w9 h9; go_simp; try with_reducible rfl
    simp only [Act.put, ptA, ptB, ptC]
    clear g
    refine wpAnyH_done (by kernel_rfl) ?_ _
    go_wp2
    go_ret
    refine ⟨rt_b ?_, B2.out⟩
    rw [decide_eq_false hf, decide_eq_true (show l ≤ now by omega), Bool.false_or, Bool.true_and]
    have e1 : IntKind.i64.wrap (4 + (n : Int)) = 4 + n := by rw [IntKind.wrap_i64]; omega
    have e2 : IntKind.i64.wrap (4 + (n : Int) - s) = 4 + n - s := by rw [IntKind.wrap_i64]; omega
    have e3 : IntKind.u64.wrap (4 + (n : Int) - s) = 4 + n - s := by rw [IntKind.wrap_u64]; omega
    have e4 : IntKind.u64.wrap (IntKind.u64.wrap now - IntKind.u64.wrap l) = now - l := by rw [IntKind.wrap_u64, IntKind.wrap_u64, IntKind.wrap_u64]; omega
    rw [e1, e2, e3, e4]
    exact decide_eq_decide.2 (by omega)
  · have hy : decide (l < now) = false := decide_eq_false hyes
    go_enter Try.func67, Try.ntmps67
    go_wp2_with fail
    generalize (w.alloc (.cells #[.slice (some ad) n c] 72)) = w0 at *
    refine wp_region_held_drew (S := fun w' => w'.cell? ⟨w.heap.size, 0, none⟩ = some (.slice (some ad) n c)) (by kernel_rfl) b0 (fun g => ?_)
    have B1 := Lib.hid B0.out.drew
    have HR := Lib.hid ((HX0.out.below B0.out).mono B0.out.size)
    have HX1 : Hid (Rd w0.drew w0.drew.heap.size (some ad) (zv xs)) := HR
    clear b0 B0 KB cx HR
    generalize w0.drew = z at *
    refine tq 0 ?_ rfl (by kernel_rfl) (fun _ _ _ h => h) (by rfl) g ?_ ?_; rotate_left
    · intro w9 h9; go_simp; try with_reducible rfl
    simp only [Act.put, ptA, ptB, ptC]
    refine tq 1 ?_ rfl (by kernel_rfl) (fun _ _ _ h => h) (by rfl) g ?_ ?_; rotate_left
    · intro w9 h9; go_simp; try with_reducible rfl
    simp only [Act.put, ptA, ptB, ptC]
    refine tq 2 (.bool false) rfl (by kernel_rfl) (fun _ _ _ h => h) (by rfl) g ?_ ?_
    · intro w9 h9; go_simp; try with_reducible rfl
    simp only [Act.put, ptA, ptB, ptC]
    refine tq 3 ?_ rfl (by kernel_rfl) (fun _ _ _ h => h) (by rfl) g ?_ ?_; rotate_left
    · intro w9 h9; go_simp; try with_reducible rfl
    simp only [Act.put, ptA, ptB, ptC]
    refine tu 4 rfl (by kernel_rfl) (fun _ _ _ h => h) (by rfl) g ?_
    simp only [Act.put, ptA, ptB, ptC]
    refine tu 5 rfl (by kernel_rfl) (fun _ _ _ h => h) (by rfl) g ?_
    simp only [Act.put, ptA, ptB, ptC]
    refine tu 6 rfl (by kernel_rfl) (fun _ _ _ h => h) (by rfl) g ?_
    simp only [Act.put, ptA, ptB, ptC]
    refine tu 7 rfl (by kernel_rfl) (fun _ _ _ h => h) (by rfl) g ?_
    simp only [Act.put, ptA, ptB, ptC]
    refine tu 8 rfl (by kernel_rfl) (fun _ _ _ h => h) (by rfl) g ?_
    simp only [Act.put, ptA, ptB, ptC]
    refine tu 9 rfl (by kernel_rfl) (fun _ _ _ h => h) (by rfl) g ?_
    simp only [Act.put, ptA, ptB, ptC]
    refine tu 10 rfl (by kernel_rfl) (fun _ _ _ h => h) (by rfl) g ?_
    simp only [Act.put, ptA, ptB, ptC]
    refine tu 11 rfl (by kernel_rfl) (fun _ _ _ h => h) (by rfl) g ?_
    simp only [Act.put, ptA, ptB, ptC]
    refine tu 12 rfl (by kernel_rfl) (fun _ _ _ h => h) (by rfl) g ?_
    simp only [Act.put, ptA, ptB, ptC]
    refine tu 13 rfl (by kernel_rfl) (fun _ _ _ h => h) (by rfl) g ?_
    simp only [Act.put, ptA, ptB, ptC]
    refine tu 14 rfl (by kernel_rfl) (fun _ _ _ h => h) (by rfl) g ?_
    simp only [Act.put, ptA, ptB, ptC]
    refine tu 15 rfl (by kernel_rfl) (fun _ _ _ h => h) (by rfl) g ?_
    simp only [Act.put, ptA, ptB, ptC]
    refine tu 16 rfl (by kernel_rfl) (fun _ _ _ h => h) (by rfl) g ?_
    simp only [Act.put, ptA, ptB, ptC]
    refine tu 17 rfl (by kernel_rfl) (fun _ _ _ h => h) (by rfl) g ?_
    simp only [Act.put, ptA, ptB, ptC]
    refine tq 18 ?_ rfl (by kernel_rfl) (fun _ _ _ h => h) (by rfl) g ?_ ?_; rotate_left
    · intro w9 h9; go_simp; try with_reducible rfl
    simp only [Act.put, ptA, ptB, ptC]
    refine tq 19 ?_ rfl (by kernel_rfl) (fun _ _ _ h => h) (by rfl) g ?_ ?_; rotate_left
    · intro w9 h9; go_simp; try with_reducible rfl
    simp only [Act.put, ptA, ptB, ptC]
    clear g
    refine wpAnyH_done (by kernel_rfl) ?_ _
    go_wp2
    go_ret
    exact ⟨rt_b (by by_cases h : l ≤ now <;> simp [hf, h] <;> omega), B1.out⟩
end Go.Proofs.Ythdgdkjaeebbcaa.PR
