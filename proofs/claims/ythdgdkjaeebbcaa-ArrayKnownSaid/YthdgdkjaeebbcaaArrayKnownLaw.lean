/-
  Layer 9, ArrayKnown: the chapter's examples; sizes at their ends. No conditions.
-/
import Derived.Test.YthdgdkjaeebbcaaRows
import Derived.Test.YthdgdkjaeebbcaaArrayWorks
import Derived.Deep.DeepCutAuto
import Derived.WalkKit
import Derived.ProofKit
import Derived.OpenShut
import Derived.ChangeOld
import Derived.Below
namespace Go.Proofs.Ythdgdkjaeebbcaa.arrayKnown
open Go.ChangeShapes Go.WideShapes Go.ChangeAt Go.RowKit Ow Ph Ro K2
set_option linter.unusedVariables false
set_option linter.unusedSimpArgs false
attribute [local go_sem] run_store_complex

theorem own : ownKnob Try.prog.godebug = none := by kernel_rfl
theorem laidOut : laidOutB Try.prog = true := by kernel_rfl

def kE : List Int := [(-9223372036854775808), (-1), 0, 1, 64, 65, 9223372036854775807]
def kW : List Nat := [1, 1, 1, 1, 64, 64, 64]
theorem kW_is (k : Nat) (h : k < 7) : kW.getD k 0 = cl64 (kE.getD k 0) := by
  rcases k with _|_|_|_|_|_|_|k <;> first | decide | omega
theorem kE_i64 (k : Nat) (h : k < 7) : i64 (kE.getD k 0) := by
  rcases k with _|_|_|_|_|_|_|k <;> first | exact ⟨by decide, by decide⟩ | omega
theorem kcell {z w : World} {g : Nat} {cs : Array Value} {t : TypeId} (hb : Below (w.alloc (.cells cs t)).heap.size (w.alloc (.cells cs t)) z) (hg : g = w.heap.size) (j : Nat) (u : Value) (hu : cs[j]? = some u) : z.cell? ⟨g, j, none⟩ = some u := by
  subst hg
  have h1 : Bk (w.alloc (.cells cs t)) w.heap.size t cs := heap_alloc_new w _
  rw [hb.cell (by simp), h1.cell, hu]
theorem sz_rep (n s : Nat) (h : 1 ≤ n) : szC ([] ++ List.replicate n (zc s)) (n : Int) = s := by
  have hg : gt ([] ++ List.replicate n (zc s)) (n : Int) = some (zc s) := by
    have := gt_mk (L := [] ++ List.replicate n (zc s)) (k := n - 1) (c := zc s) (by rw [List.nil_append, List.getElem?_replicate, if_pos (by omega)]) rfl
    rwa [show ((n - 1 : Nat) : Int) + 1 = (n : Int) by omega] at this
  unfold szC
  rw [hg]
  simp [zc]
theorem cell_last (n : Nat) (h : 1 ≤ n) : cellA (List.range' (([] : List Cl).length + 1) n) ((n : Int) - 1) = ((n : Int), true) := by
  unfold cellA
  rw [if_pos (by rw [List.length_range']; omega)]
  congr 1
  rw [show ((n : Int) - 1).toNat = n - 1 by omega, List.getD_eq_getElem?_getD, List.getElem?_range' (by omega)]
  simp
  omega
theorem cell_out (n : Nat) (h : n ≤ 64) (i : Int) (hi : i < 0 ∨ 64 ≤ i) : cellA (List.range' (([] : List Cl).length + 1) n) i = (0, false) := by
  unfold cellA
  rw [if_neg (by rw [List.length_range']; omega)]
theorem has_drew {w0 w : World} {P : Nat} {L : List Cl} (h : Has w0 P L w) : Has w0 P L w.drew := by obtain ⟨A, h1, h2⟩ := h; exact ⟨A, h1.drew, h2⟩
theorem hasA_drew {w0 w : World} {P G : Nat} {L : List Cl} {xs : List Nat} (h : HasA w0 P L G xs w) : HasA w0 P L G xs w.drew := by obtain ⟨A, h1, h2⟩ := h; exact ⟨A, h1.drew, h2⟩
theorem res_i {x y : Int} {w : World} (h : x = y) : (Result.ok (Next.value (.int .i64 x)) w) = .ok (Next.value (.int .i64 y)) w := by rw [h]

set_option maxRecDepth 100000 in
set_option maxHeartbeats 4000000 in
theorem walk (w : World) :
    Calls Try.prog 10 #[] w fun e w' => e = .returned (.bool true) ∧ Below w.heap.size w w' := by
  have B0 : Hid (Below w.heap.size w ((w.alloc (.cells #[.int .i64 (-9223372036854775808), .int .i64 (-1), .int .i64 0, .int .i64 1, .int .i64 64, .int .i64 65, .int .i64 9223372036854775807] 3)).alloc (.cells #[.int .i64 1, .int .i64 1, .int .i64 1, .int .i64 1, .int .i64 64, .int .i64 64, .int .i64 64] 3))) := Lib.hid (((Below.refl _ _).alloc (Nat.le_refl _) _).alloc (by simp) _)
  have HCE0 : Hid (∀ z, Below ((w.alloc (.cells #[.int .i64 (-9223372036854775808), .int .i64 (-1), .int .i64 0, .int .i64 1, .int .i64 64, .int .i64 65, .int .i64 9223372036854775807] 3)).alloc (.cells #[.int .i64 1, .int .i64 1, .int .i64 1, .int .i64 1, .int .i64 64, .int .i64 64, .int .i64 64] 3)).heap.size ((w.alloc (.cells #[.int .i64 (-9223372036854775808), .int .i64 (-1), .int .i64 0, .int .i64 1, .int .i64 64, .int .i64 65, .int .i64 9223372036854775807] 3)).alloc (.cells #[.int .i64 1, .int .i64 1, .int .i64 1, .int .i64 1, .int .i64 64, .int .i64 64, .int .i64 64] 3)) z → ∀ j, j < 7 → z.cell? ⟨w.heap.size, j, none⟩ = some (.int .i64 (kE.getD j 0))) := Lib.hid (fun z hz j hj => by
    refine kcell (w := w) (cs := #[.int .i64 (-9223372036854775808), .int .i64 (-1), .int .i64 0, .int .i64 1, .int .i64 64, .int .i64 65, .int .i64 9223372036854775807])  (((Below.refl _ _).alloc (Nat.le_refl _) _).trans (hz.mono (by simp))) rfl j _ ?_
    rcases j with _|_|_|_|_|_|_|j <;> first | rfl | omega)
  have HCW0 : Hid (∀ z, Below ((w.alloc (.cells #[.int .i64 (-9223372036854775808), .int .i64 (-1), .int .i64 0, .int .i64 1, .int .i64 64, .int .i64 65, .int .i64 9223372036854775807] 3)).alloc (.cells #[.int .i64 1, .int .i64 1, .int .i64 1, .int .i64 1, .int .i64 64, .int .i64 64, .int .i64 64] 3)).heap.size ((w.alloc (.cells #[.int .i64 (-9223372036854775808), .int .i64 (-1), .int .i64 0, .int .i64 1, .int .i64 64, .int .i64 65, .int .i64 9223372036854775807] 3)).alloc (.cells #[.int .i64 1, .int .i64 1, .int .i64 1, .int .i64 1, .int .i64 64, .int .i64 64, .int .i64 64] 3)) z → ∀ j, j < 7 → z.cell? ⟨w.heap.size + 1, j, none⟩ = some (.int .i64 (kW.getD j 0 : Nat))) := Lib.hid (fun z hz j hj => by
    refine kcell hz (by simp) j _ ?_
    rcases j with _|_|_|_|_|_|_|j <;> first | rfl | omega)
  have hsz : (w.alloc (.cells #[.int .i64 (-9223372036854775808), .int .i64 (-1), .int .i64 0, .int .i64 1, .int .i64 64, .int .i64 65, .int .i64 9223372036854775807] 3)).heap.size = w.heap.size + 1 := by simp
  go_enter Try.func10, Try.ntmps10
  go_wp2_with fail
  try rw [hsz]
  clear hsz
  generalize ((w.alloc (.cells #[.int .i64 (-9223372036854775808), .int .i64 (-1), .int .i64 0, .int .i64 1, .int .i64 64, .int .i64 65, .int .i64 9223372036854775807] 3)).alloc (.cells #[.int .i64 1, .int .i64 1, .int .i64 1, .int .i64 1, .int .i64 64, .int .i64 64, .int .i64 64] 3)) = w9 at *
  obtain ⟨g1, hg1⟩ : ∃ g1, w.heap.size = g1 := ⟨_, rfl⟩
  rw [hg1] at HCE0 HCW0
  obtain ⟨g2, hg2⟩ : ∃ g2, g1 + 1 = g2 := ⟨_, rfl⟩
  rw [hg2] at HCW0
  try rw [hg1]
  try rw [hg2]
  clear hg2
  go_loopw [3] (fun i wr => ∃ k : Nat, k ≤ 7 ∧ i = .int .i64 k ∧ Hid (Below w9.heap.size w9 wr)) (fun i _ => 7 - (intOf i).toNat)
  case atStart => exact ⟨0, Nat.zero_le _, rfl, Lib.hid (Below.refl _ _)⟩
  case round =>
    obtain ⟨k, hk, rfl, HB⟩ := hrel
    by_cases hlt : k < 7
    · have i1 : (k : Int) < 7 := by omega
      have i0 : (0 : Int) ≤ (k : Int) := by omega
      obtain ⟨j, hj⟩ : ∃ j, k + j = 6 := ⟨6 - k, by omega⟩
      have HJ : Hid ((6 : Int) - (k : Int) = (j : Int)) := Lib.hid (by omega)
      have hj1 : (j : Int) < 7 := by omega
      have hj0 : (0 : Int) ≤ (j : Int) := by omega
      have HIE := Lib.hid (kE_i64 k hlt)
      have HIS := Lib.hid (kE_i64 j (by omega))
      have HN := Lib.hid (kW_is k hlt).symm
      have HS := Lib.hid (kW_is j (by omega)).symm
      have HCE := Lib.hid (fun z hz => (⟨HCE0.out z hz k hlt, HCE0.out z hz j (by omega)⟩ : z.cell? ⟨g1, k, none⟩ = some (.int .i64 (kE.getD k 0)) ∧ z.cell? ⟨g1, j, none⟩ = some (.int .i64 (kE.getD j 0))))
      have HCW := Lib.hid (fun z hz => (⟨HCW0.out z hz k hlt, HCW0.out z hz j (by omega)⟩ : z.cell? ⟨g2, k, none⟩ = some (.int .i64 (kW.getD k 0 : Nat)) ∧ z.cell? ⟨g2, j, none⟩ = some (.int .i64 (kW.getD j 0 : Nat))))
      have HEND := Lib.hid (fun z hz => (⟨HCE0.out z hz 0 (by omega), HCE0.out z hz 6 (by omega)⟩ : z.cell? ⟨g1, 0, none⟩ = some (.int .i64 (-9223372036854775808)) ∧ z.cell? ⟨g1, 6, none⟩ = some (.int .i64 9223372036854775807)))
      have hn1 : 1 ≤ kW.getD k 0 := by rw [← HN.out]; exact cl64_ge _
      have hn2 : kW.getD k 0 ≤ 64 := by rw [← HN.out]; exact cl64_le _
      have hs1 : 1 ≤ kW.getD j 0 := by rw [← HS.out]; exact cl64_ge _
      have hs2 : kW.getD j 0 ≤ 64 := by rw [← HS.out]; exact cl64_le _
      generalize kE.getD k 0 = e at *
      generalize kE.getD j 0 = s at *
      generalize kW.getD k 0 = n at *
      generalize kW.getD j 0 = sz at *
      clear HCE0 HCW0
      go_wp2_with fail
      with_reducible refine (new_h HB.out).mono ?_
      rintro er w1 ⟨P, rfl, h1⟩
      have H1 := Lib.hid h1
      clear h1 HB
      go_wp2_with fail
      refine wp_region_held_drew (S := fun w' => (w'.cell? ⟨g1, k, none⟩ = some (.int .i64 e) ∧ w'.cell? ⟨g1, j, none⟩ = some (.int .i64 s))) (by kernel_rfl) (HCE.out _ H1.out.below.drew) (fun g => ?_)
      have H2 := Lib.hid (has_drew H1.out)
      clear H1
      generalize w1.drew = z at *
      clear w1
      refine tq 0 ?_ rfl (by kernel_rfl) (fun _ _ _ h => h) (by rfl) g ?_ ?_; rotate_left
      · intro w9 h9; obtain ⟨d0, d1⟩ := h9; go_simp; try with_reducible rfl
      simp only [Act.put, ptA, ptB, ptC]
      refine tq 1 ?_ rfl (by kernel_rfl) (fun _ _ _ h => h) (by rfl) g ?_ ?_; rotate_left
      · intro w9 h9; obtain ⟨d0, d1⟩ := h9; go_simp; try with_reducible rfl
      simp only [Act.put, ptA, ptB, ptC]
      refine tq 2 ?_ rfl (by kernel_rfl) (fun _ _ _ h => h) (by rfl) g ?_ ?_; rotate_left
      · intro w9 h9; obtain ⟨d0, d1⟩ := h9; go_simp; try with_reducible rfl
      simp only [Act.put, ptA, ptB, ptC]
      refine tq 3 ?_ rfl (by kernel_rfl) (fun _ _ _ h => h) (by rfl) g ?_ ?_; rotate_left
      · intro w9 h9; obtain ⟨d0, d1⟩ := h9; go_simp; try with_reducible rfl
      simp only [Act.put, ptA, ptB, ptC]
      refine tq 4 ?_ rfl (by kernel_rfl) (fun _ _ _ h => h) (by rfl) g ?_ ?_; rotate_left
      · intro w9 h9; obtain ⟨d0, d1⟩ := h9; go_simp; try with_reducible rfl
      simp only [Act.put, ptA, ptB, ptC]
      refine tq 5 ?_ rfl (by kernel_rfl) (fun _ _ _ h => h) (by rfl) g ?_ ?_; rotate_left
      · intro w9 h9; obtain ⟨d0, d1⟩ := h9; go_simp; try with_reducible rfl
      simp only [Act.put, ptA, ptB, ptC]
      refine tq 6 ?_ rfl (by kernel_rfl) (fun _ _ _ h => h) (by rfl) g ?_ ?_; rotate_left
      · intro w9 h9; obtain ⟨d0, d1⟩ := h9; go_simp; try with_reducible rfl
      simp only [Act.put, ptA, ptB, ptC]
      refine tq 7 ?_ rfl (by kernel_rfl) (fun _ _ _ h => h) (by rfl) g ?_ ?_; rotate_left
      · intro w9 h9; obtain ⟨d0, d1⟩ := h9; go_simp; try with_reducible rfl
      simp only [Act.put, ptA, ptB, ptC]
      refine tq 8 ?_ rfl (by kernel_rfl) (fun _ _ _ h => h) (by rfl) g ?_ ?_; rotate_left
      · intro w9 h9; obtain ⟨d0, d1⟩ := h9; go_simp; try with_reducible rfl
      simp only [Act.put, ptA, ptB, ptC]
      refine tq 9 ?_ rfl (by kernel_rfl) (fun _ _ _ h => h) (by rfl) g ?_ ?_; rotate_left
      · intro w9 h9; obtain ⟨d0, d1⟩ := h9; go_simp; try with_reducible rfl
      simp only [Act.put, ptA, ptB, ptC]
      refine tq 10 (.int .i64 (j : Int)) rfl (by kernel_rfl) (fun _ _ _ h => h) (by rfl) g ?_ ?_
      · intro w9 h9; obtain ⟨d0, d1⟩ := h9; go_simp; have h8 := HJ.out; simp only [IntKind.wrap_i64]; omega
      simp only [Act.put, ptA, ptB, ptC]
      refine tq 11 ?_ rfl (by kernel_rfl) (fun _ _ _ h => h) (by rfl) g ?_ ?_; rotate_left
      · intro w9 h9; obtain ⟨d0, d1⟩ := h9; go_simp; try with_reducible rfl
      simp only [Act.put, ptA, ptB, ptC]
      refine tq 12 ?_ rfl (by kernel_rfl) (fun _ _ _ h => h) (by rfl) g ?_ ?_; rotate_left
      · intro w9 h9; obtain ⟨d0, d1⟩ := h9; go_simp; try with_reducible rfl
      simp only [Act.put, ptA, ptB, ptC]
      refine tc 13 rfl (by kernel_rfl) (fun K9 hK => ?_)
      go_simp
      with_reducible refine (arrnew_h H2.out (by simp) e s HIE.out HIS.out n sz HN.out HS.out).mono ?_
      rintro er z1 ⟨G, rfl, q⟩
      have H3 := Lib.hid q
      clear q
      have gS := HCE.out _ H3.out.below
      go_simp
      refine hK.out _ _ gS (fun g1 => ?_)
      clear hK K9 g
      have g := g1
      clear g1
      clear gS
      clear H2 z
      refine tq 14 ?_ rfl (by kernel_rfl) (fun _ _ _ h => h) (by rfl) g ?_ ?_; rotate_left
      · intro w9 h9; obtain ⟨d0, d1⟩ := h9; go_simp; try with_reducible rfl
      simp only [Act.put, ptA, ptB, ptC]
      clear g
      refine wpAnyH_done (by kernel_rfl) ?_ _
      go_wp2_with fail
      with_reducible refine (arrlen_h H3.out n (by rw [List.length_range'])).mono ?_
      rintro er zz ⟨rfl, rfl⟩
      go_wp2_with fail
      with_reducible refine (arrcell_h H3.out ((n : Int) - 1) (i64_s _ (by omega) (by omega)) _ (cell_last n hn1)).mono ?_
      rintro er zz ⟨rfl, rfl⟩
      unfold atV
      dsimp only
      go_wp2_with fail
      refine wp_region_held_drew (S := fun w' => (w'.cell? ⟨g2, k, none⟩ = some (.int .i64 n) ∧ w'.cell? ⟨g2, j, none⟩ = some (.int .i64 sz))) (by kernel_rfl) (HCW.out _ H3.out.below.drew) (fun g => ?_)
      have H4 := Lib.hid (hasA_drew H3.out)
      clear H3
      generalize z1.drew = z at *
      clear z1
      refine tq 0 ?_ rfl (by kernel_rfl) (fun _ _ _ h => h) (by rfl) g ?_ ?_; rotate_left
      · intro w9 h9; obtain ⟨d0, d1⟩ := h9; go_simp; try with_reducible rfl
      simp only [Act.put, ptA, ptB, ptC]
      refine tq 2 ?_ rfl (by kernel_rfl) (fun _ _ _ h => h) (by rfl) g ?_ ?_; rotate_left
      · intro w9 h9; obtain ⟨d0, d1⟩ := h9; go_simp; try with_reducible rfl
      simp only [Act.put, ptA, ptB, ptC]
      refine tq 3 ?_ rfl (by kernel_rfl) (fun _ _ _ h => h) (by rfl) g ?_ ?_; rotate_left
      · intro w9 h9; obtain ⟨d0, d1⟩ := h9; go_simp; try with_reducible rfl
      simp only [Act.put, ptA, ptB, ptC]
      refine tq 4 ?_ rfl (by kernel_rfl) (fun _ _ _ h => h) (by rfl) g ?_ ?_; rotate_left
      · intro w9 h9; obtain ⟨d0, d1⟩ := h9; go_simp; try with_reducible rfl
      simp only [Act.put, ptA, ptB, ptC]
      refine tq 5 ?_ rfl (by kernel_rfl) (fun _ _ _ h => h) (by rfl) g ?_ ?_; rotate_left
      · intro w9 h9; obtain ⟨d0, d1⟩ := h9; go_simp; try with_reducible rfl
      simp only [Act.put, ptA, ptB, ptC]
      refine tc 1 rfl (by kernel_rfl) (fun K9 hK => ?_)
      go_simp
      with_reducible refine (arrlen_h H4.out n (by rw [List.length_range'])).mono ?_
      rintro er zz ⟨rfl, rfl⟩
      go_simp
      refine hK.out _ _ g (fun g1 => ?_)
      clear hK K9 g
      have g := g1
      clear g1
      refine tq 6 ?_ rfl (by kernel_rfl) (fun _ _ _ h => h) (by rfl) g ?_ ?_; rotate_left
      · intro w9 h9; obtain ⟨d0, d1⟩ := h9; go_simp; try with_reducible rfl
      simp only [Act.put, ptA, ptB, ptC]
      refine tq 7 ?_ rfl (by kernel_rfl) (fun _ _ _ h => h) (by rfl) g ?_ ?_; rotate_left
      · intro w9 h9; obtain ⟨d0, d1⟩ := h9; go_simp; try with_reducible rfl
      simp only [Act.put, ptA, ptB, ptC]
      refine tq 8 ?_ rfl (by kernel_rfl) (fun _ _ _ h => h) (by rfl) g ?_ ?_; rotate_left
      · intro w9 h9; obtain ⟨d0, d1⟩ := h9; go_simp; try with_reducible rfl
      simp only [Act.put, ptA, ptB, ptC]
      refine tq 9 ?_ rfl (by kernel_rfl) (fun _ _ _ h => h) (by rfl) g ?_ ?_; rotate_left
      · intro w9 h9; obtain ⟨d0, d1⟩ := h9; go_simp; try with_reducible rfl
      simp only [Act.put, ptA, ptB, ptC]
      refine tq 10 ?_ rfl (by kernel_rfl) (fun _ _ _ h => h) (by rfl) g ?_ ?_; rotate_left
      · intro w9 h9; obtain ⟨d0, d1⟩ := h9; go_simp; try with_reducible rfl
      simp only [Act.put, ptA, ptB, ptC]
      refine tq 11 ?_ rfl (by kernel_rfl) (fun _ _ _ h => h) (by rfl) g ?_ ?_; rotate_left
      · intro w9 h9; obtain ⟨d0, d1⟩ := h9; go_simp; try with_reducible rfl
      simp only [Act.put, ptA, ptB, ptC]
      refine tq 12 ?_ rfl (by kernel_rfl) (fun _ _ _ h => h) (by rfl) g ?_ ?_; rotate_left
      · intro w9 h9; obtain ⟨d0, d1⟩ := h9; go_simp; try with_reducible rfl
      simp only [Act.put, ptA, ptB, ptC]
      refine tq 13 ?_ rfl (by kernel_rfl) (fun _ _ _ h => h) (by rfl) g ?_ ?_; rotate_left
      · intro w9 h9; obtain ⟨d0, d1⟩ := h9; go_simp; try with_reducible rfl
      simp only [Act.put, ptA, ptB, ptC]
      refine tq 14 ?_ rfl (by kernel_rfl) (fun _ _ _ h => h) (by rfl) g ?_ ?_; rotate_left
      · intro w9 h9; obtain ⟨d0, d1⟩ := h9; go_simp; try with_reducible rfl
      simp only [Act.put, ptA, ptB, ptC]
      refine tq 15 ?_ rfl (by kernel_rfl) (fun _ _ _ h => h) (by rfl) g ?_ ?_; rotate_left
      · intro w9 h9; obtain ⟨d0, d1⟩ := h9; go_simp; try with_reducible rfl
      simp only [Act.put, ptA, ptB, ptC]
      refine tq 16 ?_ rfl (by kernel_rfl) (fun _ _ _ h => h) (by rfl) g ?_ ?_; rotate_left
      · intro w9 h9; obtain ⟨d0, d1⟩ := h9; go_simp; try with_reducible rfl
      simp only [Act.put, ptA, ptB, ptC]
      refine tq 17 ?_ rfl (by kernel_rfl) (fun _ _ _ h => h) (by rfl) g ?_ ?_; rotate_left
      · intro w9 h9; obtain ⟨d0, d1⟩ := h9; go_simp; try with_reducible rfl
      simp only [Act.put, ptA, ptB, ptC]
      refine tq 18 ?_ rfl (by kernel_rfl) (fun _ _ _ h => h) (by rfl) g ?_ ?_; rotate_left
      · intro w9 h9; obtain ⟨d0, d1⟩ := h9; go_simp; try with_reducible rfl
      simp only [Act.put, ptA, ptB, ptC]
      refine tq 19 ?_ rfl (by kernel_rfl) (fun _ _ _ h => h) (by rfl) g ?_ ?_; rotate_left
      · intro w9 h9; obtain ⟨d0, d1⟩ := h9; go_simp; try with_reducible rfl
      simp only [Act.put, ptA, ptB, ptC]
      refine tq 20 ?_ rfl (by kernel_rfl) (fun _ _ _ h => h) (by rfl) g ?_ ?_; rotate_left
      · intro w9 h9; obtain ⟨d0, d1⟩ := h9; go_simp; try with_reducible rfl
      simp only [Act.put, ptA, ptB, ptC]
      refine tq 21 ?_ rfl (by kernel_rfl) (fun _ _ _ h => h) (by rfl) g ?_ ?_; rotate_left
      · intro w9 h9; obtain ⟨d0, d1⟩ := h9; go_simp; try with_reducible rfl
      simp only [Act.put, ptA, ptB, ptC]
      refine tq 23 ?_ rfl (by kernel_rfl) (fun _ _ _ h => h) (by rfl) g ?_ ?_; rotate_left
      · intro w9 h9; obtain ⟨d0, d1⟩ := h9; go_simp; try with_reducible rfl
      simp only [Act.put, ptA, ptB, ptC]
      refine tq 24 ?_ rfl (by kernel_rfl) (fun _ _ _ h => h) (by rfl) g ?_ ?_; rotate_left
      · intro w9 h9; obtain ⟨d0, d1⟩ := h9; go_simp; try with_reducible rfl
      simp only [Act.put, ptA, ptB, ptC]
      refine tq 25 ?_ rfl (by kernel_rfl) (fun _ _ _ h => h) (by rfl) g ?_ ?_; rotate_left
      · intro w9 h9; obtain ⟨d0, d1⟩ := h9; go_simp; try with_reducible rfl
      simp only [Act.put, ptA, ptB, ptC]
      refine tq 26 ?_ rfl (by kernel_rfl) (fun _ _ _ h => h) (by rfl) g ?_ ?_; rotate_left
      · intro w9 h9; obtain ⟨d0, d1⟩ := h9; go_simp; try with_reducible rfl
      simp only [Act.put, ptA, ptB, ptC]
      refine tq 27 ?_ rfl (by kernel_rfl) (fun _ _ _ h => h) (by rfl) g ?_ ?_; rotate_left
      · intro w9 h9; obtain ⟨d0, d1⟩ := h9; go_simp; try with_reducible rfl
      simp only [Act.put, ptA, ptB, ptC]
      refine tq 28 (.int .i64 (j : Int)) rfl (by kernel_rfl) (fun _ _ _ h => h) (by rfl) g ?_ ?_
      · intro w9 h9; obtain ⟨d0, d1⟩ := h9; go_simp; have h8 := HJ.out; simp only [IntKind.wrap_i64]; omega
      simp only [Act.put, ptA, ptB, ptC]
      refine tq 29 ?_ rfl (by kernel_rfl) (fun _ _ _ h => h) (by rfl) g ?_ ?_; rotate_left
      · intro w9 h9; obtain ⟨d0, d1⟩ := h9; go_simp; try with_reducible rfl
      simp only [Act.put, ptA, ptB, ptC]
      refine tq 30 ?_ rfl (by kernel_rfl) (fun _ _ _ h => h) (by rfl) g ?_ ?_; rotate_left
      · intro w9 h9; obtain ⟨d0, d1⟩ := h9; go_simp; try with_reducible rfl
      simp only [Act.put, ptA, ptB, ptC]
      refine tc 22 rfl (by kernel_rfl) (fun K9 hK => ?_)
      go_simp
      with_reducible refine (size_h H4.out.has (n : Int)).mono ?_
      rintro er zz ⟨rfl, rfl⟩
      rw [sz_rep n sz (by omega)]
      go_simp
      refine hK.out _ _ g (fun g1 => ?_)
      clear hK K9 g
      have g := g1
      clear g1
      refine tq 31 ?_ rfl (by kernel_rfl) (fun _ _ _ h => h) (by rfl) g ?_ ?_; rotate_left
      · intro w9 h9; obtain ⟨d0, d1⟩ := h9; go_simp; try with_reducible rfl
      simp only [Act.put, ptA, ptB, ptC]
      refine tq 32 ?_ rfl (by kernel_rfl) (fun _ _ _ h => h) (by rfl) g ?_ ?_; rotate_left
      · intro w9 h9; obtain ⟨d0, d1⟩ := h9; go_simp; try with_reducible rfl
      simp only [Act.put, ptA, ptB, ptC]
      clear g
      refine wpAnyH_done (by kernel_rfl) ?_ _
      obtain ⟨ce0, ce6⟩ := HEND.out _ H4.out.below
      go_wp2_with fail
      with_reducible refine (arrcell_h H4.out (-9223372036854775808) (i64_s _ (by decide) (by decide)) _ (cell_out n hn2 _ (by omega))).mono ?_
      rintro er zz ⟨rfl, rfl⟩
      unfold atV
      dsimp only
      go_wp2_with fail
      with_reducible refine (arrcell_h H4.out 9223372036854775807 (i64_s _ (by decide) (by decide)) _ (cell_out n hn2 _ (by omega))).mono ?_
      rintro er zz ⟨rfl, rfl⟩
      unfold atV
      dsimp only
      have HE := Lib.hid H4.out.below
      clear H4 ce0 ce6
      go_wp2
      go_roundw
      case rel => exact ⟨k + 1, by omega, by go_num, HE⟩
      case measure => simp [intOf]; omega
    · obtain rfl : k = 7 := by omega
      go_wp2_with fail
      with_reducible refine (known_c _).mono ?_
      rintro er w3 ⟨rfl, q⟩
      have B9 := Lib.hid (B0.out.trans ((HB.out.trans (q.mono HB.out.size)).mono B0.out.size))
      clear q HB
      go_wp2
      go_ret
      exact ⟨rfl, B9.out⟩

set_option maxRecDepth 100000 in
theorem lifted (os : Os) (started : os.Started) (H : Type) (enc : TypeId × Value → H) :
    ReturnsInHanded {} Try.checked os 10 .any (Rows.arrayKnownSpec.pre6 enc Try.prog Try.f10 Rows.arrayKnownRow.domain false) (Rows.arrayKnownSpec.post enc Try.prog Try.f10 false true false false) := by
  refine returnsInHanded_of_change (C := Try.checked) own started (by kernel_rfl) Try.func10
    (ChangeSpec.witness6 (enc := enc) (C := Try.checked) false ⟨#[], #[], []⟩ 8 (by kernel_rfl) (by kernel_rfl) (by kernel_rfl) (by kernel_rfl)) ?_
  intro W base args ds gs before hval0 hW hcnd _
  have hval : ∀ (j : Nat) t v, Try.f10.params[j]? = some t → args[j]? = some v → Value.okWide Try.prog W .any base t v := hval0
  have hW' := hW
  obtain ⟨p, q, hA0, hV, rfl, hfz, hnd⟩ := hW
  have hA : DataW.TrodAll enc Try.prog W 0 (fun _ => true) true Try.f10.params.toList args.toList ds p := hA0
  rw [Try.params10] at hA hval
  obtain ⟨hargs, rfl, rfl⟩ := trodAll_nil hA
  obtain rfl : args = #[] := by cases args; simp_all
  obtain ⟨rfl, rfl⟩ := trodVars_none hV
  clear hA0 hval0
  refine (walk  W ).mono fun e W' ⟨he, bel⟩ => ?_
  subst he
  exact ⟨_, rfl, _, _, _, [], _, [], hW', trodAll_mk1 (shut_bool Try.underlying4 _), trodAll_mk0, rfl, bel.frame _, fun h => by cases h⟩

theorem over : Rows.arrayKnownRow.holds Try.pinned (OpenSpec.ofChange Rows.arrayKnownSpec) :=
  OpenClaim.holds_of_wide 10 Try.f10 rfl rfl rfl rfl rfl rfl rfl ⟨rfl, rfl, rfl, rfl, rfl⟩ rfl rfl rfl rfl rfl (by kernel_rfl) Try.func10 (by kernel_rfl)
    (of_decide_eq_true (by kernel_rfl)) (by unfold Func.isWrapper; first | (rw [if_pos (by decide +kernel)]; kernel_rfl) | (rw [if_neg (by decide +kernel)]; exact ⟨rfl, rfl⟩))
    (fun os started H enc _ => lifted os started H enc)

theorem proved : Rows.ArrayKnownSaid := over
#print axioms proved
end Go.Proofs.Ythdgdkjaeebbcaa.arrayKnown
