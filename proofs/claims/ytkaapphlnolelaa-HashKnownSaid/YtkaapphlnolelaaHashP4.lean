/-
  Layer 10's program: New: contract. Conditions: none.
-/
import Derived.Test.YtkaapphlnolelaaHashP3
import Derived.Deep.OwnRows
namespace Go.Proofs.Ytkaapphlnolelaa
set_option maxRecDepth 100000
open Go.RowKit Ow Ro K2 Hm
set_option linter.unusedVariables false
set_option linter.unusedSimpArgs false
theorem step_make_own {P : Program} {ops : Array Oper} {o : Oper} {a : Act} {w : World} {K : Act → World → Prop} {Q : Exit → Act → World → Prop} {E : Prop} (hgd : o.guard = none) (l c : Operand) (t : TypeId) (hop : o.op = Op.makeSlice t l c)
    (e : TypeId) (i : TypeInfo) (z : Value) (ht : P.underlying t = some (.slice e)) (hi : P.info? e = some i) (hz : i.zero = some z) (hsize : i.size = 1) (hz1 : z.cells = #[z])
    (kl kc : IntKind) (n : Nat) (hl : a.eval l = .int kl (n : Int)) (hc : a.eval c = .int kc (n : Int)) (hbytes : i.bytes * n ≤ 281474976710656) (h63 : n ≤ maxLen)
    (hK : ∀ (ad : Addr) (w' : World), ad.block = w.heap.size → w'.ownsRow w.heap.size e 1 (.slice (some ad) n n) n (List.replicate n z) → Below w.heap.size w w' → K (a.put o.dst (.slice (some ad) n n)) w') :
    if Region.wanted o (yielded ops a.tmps) = true then Oper.wp P o a w K Q else E := by
  have hw : Region.wanted o (yielded ops a.tmps) = true := by simp [Region.wanted, hgd]
  rw [if_pos hw]
  have hrun := run_make_row (P := P) t e i z ht hi hz hsize hz1 kl kc n hbytes (by have := h63; unfold maxLen at this; omega) w
  unfold Oper.wp
  simp [execOp, hop, hl, hc, hrun, Result.andThen]
  refine hK ⟨w.heap.size, 0, none⟩ _ rfl ?_ ((Below.refl _ _).alloc (Nat.le_refl _) _)
  have := World.ownsRow_lit (base := w.heap.size) (e := e) (size := 1) w (madeCells #[z] n) n (Nat.le_refl _) h63 (by rw [size_madeCells]; omega)
  rw [toList_madeCells_one] at this
  exact this
theorem qplace_info : (Try.prog.info? 67).map (fun i => (i.zero, i.size, i.bytes)) = some (some (.agg #[.int .i64 0, .int .i64 0]), 2, 16) := by kernel_rfl
theorem byte_info3 : (Try.prog.info? 5).map (fun i => (i.zero, i.size, i.bytes)) = some (some (.int .u8 0), 1, 1) := by kernel_rfl
theorem made_qplaces (n : Nat) : (madeCells #[.int .i64 0, .int .i64 0] (n * 2)).toList = qflat (List.replicate n e0) := by
  refine List.ext_getElem? fun j => ?_
  by_cases hj : j < n * 2
  · have hk : j / 2 < (List.replicate n e0).length := by rw [List.length_replicate]; omega
    have h := qflat_get (List.replicate n e0) (j / 2) (j % 2) hk (by omega)
    rw [show j / 2 * 2 + j % 2 = j by omega] at h
    rw [h, List.getElem_replicate]
    have hr : j % 2 = 0 ∨ j % 2 = 1 := by omega
    have hm : (madeCells #[.int .i64 0, .int .i64 0] (n * 2)).toList[j]? = some ((#[.int .i64 0, .int .i64 0] : Array Value)[j % 2]!) := by
      rw [Array.getElem?_toList]
      unfold madeCells
      simp [hj]
    rw [hm]
    rcases hr with e | e <;> rw [e] <;> rfl
  · rw [List.getElem?_eq_none (by rw [Array.length_toList, size_madeCells]; omega), List.getElem?_eq_none (by rw [qflat_len, List.length_replicate]; omega)]
theorem ln8_npl (M : Int) (h1 : 1 ≤ M) (h2 : M ≤ 64) : (2 : Nat) ^ ln8 (2 * M - 1).toNat = npl M ∧ ln8 (2 * M - 1).toNat ≤ 7 := by
  unfold ln8 npl
  (repeat' split) <;> first | omega | (refine ⟨?_, by omega⟩; rfl)
theorem wr_small (n : Nat) (h : n ≤ 128) : wrap64 (n : Int) = (n : Int) := by unfold wrap64; omega
def PNewP (w0 : World) (A : Ac) (K : Nat) (M : Int) (n : Nat) (e : Ending) (w' : World) : Prop := ∃ X, e = .returned (.pointer (some ⟨X, 0, none⟩)) ∧ HPDid w0 A X K M (List.replicate n e0) w'
set_option maxHeartbeats 2000000 in
theorem pnew_c {w0 w : World} {A : Ac} (hl : Lay w0 A w) (key most : Int) :
    Calls Try.prog 14 #[.int .i64 key, .int .i64 most] w (PNewP w0 A (cutN key 16).toNat (cutN most 64) (npl (cutN most 64))) := by
  obtain ⟨i0, hi0, hz0, hz1, hz2⟩ := info10 qplace_info
  obtain ⟨i3, hi3, hy0, hy1, hy2⟩ := info10 byte_info3
  have C1 := within_p key 16 (by decide)
  have C2 := within_p most 64 (by decide)
  have b1 := cutN_bd key 16 (by decide)
  have b2 := cutN_bd most 64 (by decide)
  obtain ⟨K, hK⟩ : ∃ K : Nat, cutN key 16 = (K : Int) := ⟨(cutN key 16).toNat, by omega⟩
  rw [hK] at C1 b1 ⊢
  rw [show ((K : Int)).toNat = K by omega]
  generalize cutN most 64 = M at *
  obtain ⟨hp1, hp2⟩ := ln8_npl M b2.1 b2.2
  have LC := Lib.hid (len_p (2 * M - 1) (by omega) (by omega))
  obtain ⟨j, hj⟩ : ∃ j, ln8 (2 * M - 1).toNat = j := ⟨_, rfl⟩
  obtain ⟨n, hn⟩ : ∃ n, npl M = n := ⟨_, rfl⟩
  have hnb := npl_le M
  rw [hj] at hp1 hp2 LC
  rw [hn] at hp1 hnb ⊢
  obtain ⟨X, hX⟩ : ∃ X, w.heap.size = X := ⟨_, rfl⟩
  have H0 : Hid (∃ A', Lay w0 A' (w.alloc (.cells #[.int .i64 K, .int .i64 M, .slice none 0 0, .slice none 0 0, .int .i64 0] 60)) ∧ A' (73, 0) = some (X, .cells #[.int .i64 K, .int .i64 M, .slice none 0 0, .slice none 0 0, .int .i64 0] 60) ∧ ∀ x : Rl, x ≠ (73, 0) → A' x = A x) := Lib.hid (by
    subst hX
    exact ⟨_, hl.new (73, 0) (o := .cells #[.int .i64 K, .int .i64 M, .slice none 0 0, .slice none 0 0, .int .i64 0] 60) ((Below.refl _ _).alloc (Nat.le_refl _) _) (Nat.le_refl _) (heap_alloc_new w _), up_same _ _ _ _, fun x hx => up_other _ _ _ hx⟩)
  have HP := Lib.hid hp1
  clear hl hj hn hK hp1
  go_enter Try.func14, Try.ntmps14
  go_wp2_with fail
  with_reducible refine (C1 _).mono ?_
  rintro e w' ⟨rfl, rfl⟩
  go_wp2_with fail
  with_reducible refine (C2 _).mono ?_
  rintro e w' ⟨rfl, rfl⟩
  go_wp2_with fail
  obtain ⟨A1, l1, a1, f1⟩ := H0.out
  generalize (w.alloc (.cells #[.int .i64 K, .int .i64 M, .slice none 0 0, .slice none 0 0, .int .i64 0] 60)) = wb at *
  have k0 : wb.cell? ⟨X, 0, none⟩ = some (.int .i64 K) := (l1.bk a1).cell 0
  have k3 : wb.cell? ⟨X, 3, none⟩ = some (.slice none 0 0) := (l1.bk a1).cell 3
  have z3 : wb.frozen? ⟨X, 3, none⟩ = false := (l1.bk a1).frozen 3
  have HL := Lib.hid l1
  have HA := Lib.hid a1
  have HF := Lib.hid f1
  clear H0 l1 a1 f1 C1 C2
  with_reducible refine (LC.out _).mono ?_
  rintro e w' ⟨rfl, rfl⟩
  have hw : wrap64 ((2 : Int) ^ j) = (n : Int) := by
    have h1 : (((2 : Nat) ^ j : Nat) : Int) = (n : Int) := by rw [HP.out]
    have h2 : (2 : Int) ^ j = (n : Int) := by rw [← h1]; simp
    rw [h2]; exact wr_small n hnb.2
  go_wp2_with fail
  rw [hw]
  clear hw HP
  have HNEW : Hid (∀ wc, wb.alloc (.cells (madeCells #[.int .i64 0, .int .i64 0] (n * 2)) 67) = wc → wc.cell? ⟨X, 3, none⟩ = some (.slice none 0 0) ∧ wc.frozen? ⟨X, 3, none⟩ = false ∧
      ∃ A2, Lay w0 A2 (wc.setCell ⟨X, 3, none⟩ (.slice (some ⟨wb.heap.size, 0, none⟩) n n)) ∧ A2 (73, 0) = some (X, .cells #[.int .i64 K, .int .i64 M, .slice none 0 0, .slice (some ⟨wb.heap.size, 0, none⟩) n n, .int .i64 0] 60) ∧ Row A2 (74, 0) 67 2 (.slice (some ⟨wb.heap.size, 0, none⟩) n n) n (qflat (List.replicate n e0)) ∧ ∀ x : Rl, ¬ (73 ≤ x.1 ∧ x.1 < 76) → A2 x = A x) := Lib.hid (fun wc hwc => by
    subst hwc
    have ho : (wb.alloc (.cells (madeCells #[.int .i64 0, .int .i64 0] (n * 2)) 67)).ownsRow wb.heap.size 67 2 (.slice (some ⟨wb.heap.size, 0, none⟩) n n) n (qflat (List.replicate n e0)) := by
      have := World.ownsRow_lit (base := wb.heap.size) (e := 67) (size := 2) wb (madeCells #[.int .i64 0, .int .i64 0] (n * 2)) n (Nat.le_refl _) (by unfold maxLen; omega) (by rw [size_madeCells])
      rwa [made_qplaces] at this
    obtain ⟨A2, l2, r2, f2⟩ := HL.out.newRow (74, 0) ((Below.refl _ _).alloc (Nat.le_refl _) _) ho (Nat.le_refl _)
    have a2 := (f2 (73, 0) (by simp)).trans HA.out
    refine ⟨(l2.bk a2).cell 3, (l2.bk a2).frozen 3, _, l2.set_ a2 3 (.slice (some ⟨wb.heap.size, 0, none⟩) n n), up_same _ _ _ _, r2.keep (up_other _ _ _ (by simp)), fun x hx => ?_⟩
    rw [up_other _ _ _ (fun e => by rw [e] at hx; simp at hx), f2 _ (fun e => by rw [e] at hx; simp at hx), HF.out _ (fun e => by rw [e] at hx; simp at hx)])
  clear HL HA HF k0 k3 z3
  have hrun := run_make (P := Try.prog) wb 58 67 i0 _ Try.underlying58 hi0 hz0 .i64 .i64 n n (by omega) (Int.le_refl _) (by rw [hz2]; omega) (by omega)
  simp only [Int.toNat_natCast] at hrun
  rw [hrun, hz1]
  clear hrun
  obtain ⟨wc, hwc⟩ : ∃ wc, wb.alloc (.cells (madeCells #[.int .i64 0, .int .i64 0] (n * 2)) 67) = wc := ⟨_, rfl⟩
  obtain ⟨k5, z5, hd5⟩ := HNEW.out wc hwc
  have HD5 := Lib.hid hd5
  rw [show wb.alloc (.cells (madeCells (Value.cells (.agg #[.int .i64 0, .int .i64 0])) (n * 2)) 67) = wc from hwc]
  clear hd5 hwc
  go_wp2_with fail
  obtain ⟨bp, hbp⟩ : ∃ bp, wb.heap.size = bp := ⟨_, rfl⟩
  rw [hbp] at HD5 ⊢
  clear hbp HNEW k5 z5
  generalize (wc.setCell ⟨X, 3, none⟩ (.slice (some ⟨bp, 0, none⟩) n n)) = wd at *
  obtain ⟨A2, l2, a2, r2, f2⟩ := HD5.out
  have x0 : wd.cell? ⟨X, 0, none⟩ = some (.int .i64 K) := (l2.bk a2).cell 0
  have x3 : wd.cell? ⟨X, 3, none⟩ = some (.slice (some ⟨bp, 0, none⟩) n n) := (l2.bk a2).cell 3
  have HL2 := Lib.hid l2
  have HA2 := Lib.hid a2
  have HR2 := Lib.hid r2
  have HF2 := Lib.hid f2
  obtain ⟨N, hN⟩ : ∃ N, n * K = N := ⟨_, rfl⟩
  have i1 : (n : Int) * (K : Int) = (N : Int) := by rw [← hN]; simp
  have hNb : N ≤ 2048 := by rw [← hN]; exact Nat.mul_le_mul hnb.2 (show K ≤ 16 by omega)
  have HN := Lib.hid hN
  clear HD5 l2 a2 r2 f2 hN
  refine wp_region_held_drew (S := fun w' => w'.cell? ⟨X, 3, none⟩ = some (.slice (some ⟨bp, 0, none⟩) n n) ∧ w'.cell? ⟨X, 0, none⟩ = some (.int .i64 K)) (by kernel_rfl) ⟨x3, x0⟩ (fun g => ?_)
  have HL3 := Lib.hid HL2.out.drew
  clear HL2 x0 x3
  generalize wd.drew = wd2 at *
  clear wd
  refine tq 0 ?_ rfl (by kernel_rfl) (fun _ _ _ h => h) (by rfl) g ?_ ?_; rotate_left
  · intro w9 h9; go_simp; try with_reducible rfl
  simp only [Act.put, ptA, ptB, ptC]
  refine tq 1 ?_ rfl (by kernel_rfl) (fun _ _ _ h => h) (by rfl) g ?_ ?_; rotate_left
  · intro w9 h9; go_simp; try with_reducible rfl
  simp only [Act.put, ptA, ptB, ptC]
  refine tq 2 ?_ rfl (by kernel_rfl) (fun _ _ _ h => h) (by rfl) g ?_ ?_; rotate_left
  · intro w9 h9; go_simp; try with_reducible rfl
  simp only [Act.put, ptA, ptB, ptC]
  refine tq 3 ?_ rfl (by kernel_rfl) (fun _ _ _ h => h) (by rfl) g ?_ ?_; rotate_left
  · intro w9 h9; go_simp; try with_reducible rfl
  simp only [Act.put, ptA, ptB, ptC]
  refine tq 4 ?_ rfl (by kernel_rfl) (fun _ _ _ h => h) (by rfl) g ?_ ?_; rotate_left
  · intro w9 h9; obtain ⟨h91, h92⟩ := h9; go_simp; try with_reducible rfl
  simp only [Act.put, ptA, ptB, ptC]
  refine tq 5 ?_ rfl (by kernel_rfl) (fun _ _ _ h => h) (by rfl) g ?_ ?_; rotate_left
  · intro w9 h9; go_simp; try with_reducible rfl
  simp only [Act.put, ptA, ptB, ptC]
  refine tq 6 ?_ rfl (by kernel_rfl) (fun _ _ _ h => h) (by rfl) g ?_ ?_; rotate_left
  · intro w9 h9; go_simp; try with_reducible rfl
  simp only [Act.put, ptA, ptB, ptC]
  refine tq 7 ?_ rfl (by kernel_rfl) (fun _ _ _ h => h) (by rfl) g ?_ ?_; rotate_left
  · intro w9 h9; go_simp; try with_reducible rfl
  simp only [Act.put, ptA, ptB, ptC]
  refine tq 8 ?_ rfl (by kernel_rfl) (fun _ _ _ h => h) (by rfl) g ?_ ?_; rotate_left
  · intro w9 h9; go_simp; try with_reducible rfl
  simp only [Act.put, ptA, ptB, ptC]
  refine tq 9 ?_ rfl (by kernel_rfl) (fun _ _ _ h => h) (by rfl) g ?_ ?_; rotate_left
  · intro w9 h9; obtain ⟨h91, h92⟩ := h9; go_simp; try with_reducible rfl
  simp only [Act.put, ptA, ptB, ptC]
  refine tq 10 (.int .i64 (N : Int)) rfl (by kernel_rfl) (fun _ _ _ h => h) (by rfl) g ?_ ?_
  · intro w9 h9; go_simp; exact IntWalk.i64_in _ (by omega)
  simp only [Act.put, ptA, ptB, ptC]
  refine tc 11 rfl (by kernel_rfl) (fun K9 hK => ?_)
  refine step_make_own rfl _ _ _ rfl 5 i3 _ Try.underlying22 hi3 hy0 hy1 rfl _ _ N rfl rfl ?a1 ?a2 ?_
  case a1 => rw [hy2]; omega
  case a2 => unfold maxLen; omega
  intro adn z1 hadn hown hb
  obtain ⟨A4, l4, r4, f4⟩ := HL3.out.newRow (75, 0) hb hown (Nat.le_refl _)
  have a4 := (f4 (73, 0) (by simp)).trans HA2.out
  have x0 : z1.cell? ⟨X, 0, none⟩ = some (.int .i64 K) := (l4.bk a4).cell 0
  have x2 : z1.cell? ⟨X, 2, none⟩ = some (.slice none 0 0) := (l4.bk a4).cell 2
  have y2 : z1.frozen? ⟨X, 2, none⟩ = false := (l4.bk a4).frozen 2
  have x3 : z1.cell? ⟨X, 3, none⟩ = some (.slice (some ⟨bp, 0, none⟩) n n) := (l4.bk a4).cell 3
  have HD : Hid (∃ A4, Lay w0 A4 z1 ∧ A4 (73, 0) = some (X, .cells #[.int .i64 K, .int .i64 M, .slice none 0 0, .slice (some ⟨bp, 0, none⟩) n n, .int .i64 0] 60) ∧ Row A4 (75, 0) 5 1 (.slice (some adn) N N) N (List.replicate N (.int .u8 0)) ∧ Row A4 (74, 0) 67 2 (.slice (some ⟨bp, 0, none⟩) n n) n (qflat (List.replicate n e0)) ∧ ∀ x : Rl, ¬ (73 ≤ x.1 ∧ x.1 < 76) → A4 x = A x) := Lib.hid ⟨A4, l4, a4, r4, HR2.out.keep (f4 _ (by simp)), fun x hx => (f4 x (fun e => by rw [e] at hx; simp at hx)).trans (HF2.out x hx)⟩
  clear hadn hown hb l4 a4 r4 f4 HL3
  refine hK.out _ _ ⟨x3, x0⟩ (fun g1 => ?_)
  clear hK K9 g
  have g := g1
  clear g1
  refine tq 12 ?_ rfl (by kernel_rfl) (fun _ _ _ h => h) (by rfl) g ?_ ?_; rotate_left
  · intro w9 h9; go_simp; try with_reducible rfl
  simp only [Act.put, ptA, ptB, ptC]
  refine tq 13 ?_ rfl (by kernel_rfl) (fun _ _ _ h => h) (by rfl) g ?_ ?_; rotate_left
  · intro w9 h9; go_simp; try with_reducible rfl
  simp only [Act.put, ptA, ptB, ptC]
  refine tc 14 rfl (by kernel_rfl) (fun K9 hK => ?_)
  have HE : Hid (HPDid w0 A X K M (List.replicate n e0) (z1.setCell ⟨X, 2, none⟩ (.slice (some adn) N N))) := Lib.hid (by
    obtain ⟨A4, l4, a4, r4, q4, f4⟩ := HD.out
    refine ⟨_, l4.set_ a4 2 (.slice (some adn) N N), ⟨.slice (some adn) N N, .slice (some ⟨bp, 0, none⟩) n n, List.replicate N 0, ?_, ?_, ?_, ?_, ?_, ?_⟩, fun x hx => ?_⟩
    · rw [up_same]
      have : keysT (List.replicate n e0) = [] := by
        unfold keysT
        rw [List.filter_eq_nil_iff.2 (fun t ht => by rw [List.eq_of_mem_replicate ht]; simp [e0]), List.map_nil]
      rw [this]
      rfl
    · rw [List.length_replicate]; exact q4.keep (up_other _ _ _ (by simp))
    · rw [List.length_replicate, HN.out]
      have e1 : bv (List.replicate N 0) = List.replicate N (.int .u8 0) := by unfold bv; rw [List.map_replicate]
      rw [e1]
      exact r4.keep (up_other _ _ _ (by simp))
    · rw [List.length_replicate, List.length_replicate, HN.out]
    · intro b hb; rw [List.eq_of_mem_replicate hb]; omega
    · intro p t hp hi
      have ht := List.mem_of_getElem? hp
      rw [List.eq_of_mem_replicate ht] at hi; cases hi
    · rw [up_other _ _ _ (fun e => by rw [e] at hx; simp at hx), f4 x hx])
  have v3 : (z1.setCell ⟨X, 2, none⟩ (.slice (some adn) N N)).cell? ⟨X, 3, none⟩ = some (.slice (some ⟨bp, 0, none⟩) n n) := by
    rw [World.cell?_setCell_other _ _ _ _ (fun e => by have := congrArg Addr.off e; dsimp only at this; omega)]; exact x3
  have v0 : (z1.setCell ⟨X, 2, none⟩ (.slice (some adn) N N)).cell? ⟨X, 0, none⟩ = some (.int .i64 K) := by
    rw [World.cell?_setCell_other _ _ _ _ (fun e => by have := congrArg Addr.off e; dsimp only at this; omega)]; exact x0
  clear HD
  go_simp
  refine hK.out _ _ ⟨v3, v0⟩ (fun g1 => ?_)
  clear hK K9 g x0 x2 y2 x3 v3 v0 g1
  generalize (z1.setCell ⟨X, 2, none⟩ (.slice (some adn) N N)) = z2 at *
  refine wpAnyH_done (by kernel_rfl) ?_ _
  go_wp2
  go_ret
  exact ⟨X, rfl, HE.out⟩
end Go.Proofs.Ytkaapphlnolelaa
