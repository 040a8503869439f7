/-
  Layer 8, CellsRuns: whatever is made, loaded, stored, written, dropped, swept: it is answered, and all cells are, what the document says; what is handed in is neither kept nor changed, what is told is new memory. No conditions.
-/
import Derived.Test.YthdgdkjaeebbcaaRows
import Derived.Test.YthdgdkjaeebbcaaCellsBoth
import Derived.Deep.DeepCutAuto
import Derived.IntWalk
import Derived.Deep.LoopGhost
import Derived.WalkKit
import Derived.ProofKit
import Derived.OpenShut
import Derived.ChangeOld
import Derived.Below
namespace Go.Proofs.Ythdgdkjaeebbcaa.cellsRuns
open Go.ChangeShapes Go.WideShapes Go.ChangeAt Go.RowKit Ow Ph Ro K2
set_option linter.unusedVariables false
set_option linter.unusedSimpArgs false
attribute [local go_sem] run_store_complex

theorem own : ownKnob Try.prog.godebug = none := by kernel_rfl
theorem laidOut : laidOutB Try.prog = true := by kernel_rfl

theorem two_grow {w0 w w' : World} {P X : Nat} {L : List Cl} (h : Two w0 P X L w) (hb : Below w.heap.size w w') : Two w0 P X L w' := by
  obtain ⟨A, h1, h2, h3⟩ := h
  exact ⟨A, h1.grow hb, h2, h3⟩
theorem two_drew {w0 w : World} {P X : Nat} {L : List Cl} (h : Two w0 P X L w) : Two w0 P X L w.drew := by
  obtain ⟨A, h1, h2, h3⟩ := h
  exact ⟨A, h1.drew, h2, h3⟩
theorem two_has {w0 w : World} {P X : Nat} {L : List Cl} (h : Two w0 P X L w) : Has w0 P L w := by
  obtain ⟨A, h1, h2, h3⟩ := h
  exact ⟨A, h1, h2⟩
theorem rlive_two {w0 w : World} {P X : Nat} {L : List Cl} (h : Two w0 P X L w) (hn : L.length ≤ 1000) :
    Calls Try.prog 17 #[.pointer (some ⟨X, 0, none⟩)] w fun e w' => e = .returned (.int .i64 (lv L : Nat)) ∧ w = w' := by
  obtain ⟨A, h1, h2, h3⟩ := h
  exact rlive_c h1 h3 hn
theorem two_size {w0 w : World} {P X : Nat} {L : List Cl} (h : Two w0 P X L w) : ∃ a cap, w.cell? ⟨X, 0, none⟩ = some (.slice a L.length cap) ∧ L.length ≤ cap ∧ cap ≤ maxLen := by
  obtain ⟨A, h1, h2, h3⟩ := h
  exact h3.size h1

set_option maxRecDepth 100000 in
set_option maxHeartbeats 100000000 in
theorem walk (a0 : Option Addr) (len0 cap0 : Nat) (L0 : List Opn) (w : World) (l0 : L0.length = len0) (f0 : ∀ x ∈ L0, x.fits) (c0 : len0 ≤ cap0) (m0 : cap0 ≤ 9223372036854775807) (r0 : OpsAt w w.heap.size a0 L0) :
    Calls Try.prog 3 #[.slice a0 len0 cap0] w fun e w' => e = .returned (.bool true) ∧ Below w.heap.size w w' := by
  have RR := Lib.hid r0
  have HL := Lib.hid l0
  have HF := Lib.hid f0
  clear r0 l0 f0
  go_enter Try.func3, Try.ntmps3
  go_wp2_with fail
  with_reducible refine (long_c a0 len0 cap0 L0 HL.out (by omega) HF.out w RR.out.row).mono ?_
  rintro e w' ⟨b, rfl, hb, rfl⟩
  cases b with
  | true =>
    clear hb
    go_wp2_with fail
    with_reducible refine (works_c _).mono ?_
    rintro e w9 ⟨rfl, q⟩
    go_wp2
    go_ret
    exact ⟨rfl, q⟩
  | false =>
    obtain ⟨h200, hbs⟩ := hb rfl
    rw [HL.out] at h200
    have HX0 := Lib.hid hbs
    clear hb hbs
    go_wp2_with fail
    with_reducible refine (new_c (Lay.start w)).mono ?_
    rintro e w4 ⟨P, rfl, A1, l1, p1, fr1⟩
    have HL1 := Lib.hid l1
    have HP1 := Lib.hid p1
    clear l1 p1 fr1
    go_wp2_with fail
    with_reducible refine (rnew_c HL1.out).mono ?_
    rintro e w5 ⟨X, rfl, A2, l2, s2, fr2⟩
    have H1 : Hid (Two w P X [] w5) := Lib.hid ⟨A2, l2, HP1.out.keep (fun x hx => fr2 x (by omega)), s2⟩
    clear l2 s2 fr2 HL1 HP1
    go_wp2_with fail
    go_loopw [5] (fun i wr => ∃ (k : Nat) (L : List Cl), k ≤ len0 ∧ i = .int .i64 k ∧ Hid (Two w P X L wr) ∧ Hid (OkL k L)) (fun i _ => len0 - (intOf i).toNat)
    case atStart => exact ⟨0, [], by omega, rfl, H1, Lib.hid ⟨by simp, fun c h => by simp at h⟩⟩
    case round =>
      obtain ⟨k, L, hkl, rfl, H2, OK⟩ := hrel
      clear H1
      by_cases hlt : k < len0
      · have hkx : k < L0.length := by rw [HL.out]; exact hlt
        have HFX := Lib.hid (HF.out _ (List.getElem_mem hkx))
        have HRX := Lib.hid (RR.out.bytes _ (List.getElem_mem hkx))
        have HX200 := Lib.hid (HX0.out _ (List.getElem_mem hkx))
        obtain ⟨ad, rfl, had, had2⟩ := ops_cell RR.out.row k 0 hkx (by omega)
        clear had had2
        have HC : Hid (∀ z, Below w.heap.size w z → ∀ r, r < 7 → z.cell? (ad.add (7 * k + r)) = L0[k].cells[r]?) := Lib.hid (fun z hz r hr => by
          obtain ⟨ad', e, hlt', h⟩ := ops_cell RR.out.row k r hkx hr
          injection e with e
          subst e
          rw [← h]
          exact hz.cell (by rw [add_block]; exact hlt'))
        generalize L0[k] = x at *
        have HC7 : Hid (∀ z, Below w.heap.size w z → z.cell? (ad.add (k * 7)) = some (.int .i64 x.kind) ∧ z.cell? ⟨(ad.add (k * 7)).block, (ad.add (k * 7)).off + 1, none⟩ = some (.int .i64 x.id) ∧ z.cell? ⟨(ad.add (k * 7)).block, (ad.add (k * 7)).off + 2, none⟩ = some (.int .i64 x.off) ∧ z.cell? ⟨(ad.add (k * 7)).block, (ad.add (k * 7)).off + 3, none⟩ = some (.int .i64 x.size) ∧ z.cell? ⟨(ad.add (k * 7)).block, (ad.add (k * 7)).off + 4, none⟩ = some (.int .i64 x.now) ∧ z.cell? ⟨(ad.add (k * 7)).block, (ad.add (k * 7)).off + 5, none⟩ = some (.int .u64 x.v) ∧ z.cell? ⟨(ad.add (k * 7)).block, (ad.add (k * 7)).off + 6, none⟩ = some (.slice x.a x.n x.c)) := Lib.hid (fun z hz => by
          have cq : ∀ r, 0 < r → r < 7 → z.cell? ⟨(ad.add (k * 7)).block, (ad.add (k * 7)).off + r, none⟩ = x.cells[r]? := fun r h1 h2 => by rw [Nat.mul_comm k 7, add_next _ _ _ h1]; exact HC.out z hz r h2
          exact ⟨by rw [Nat.mul_comm]; exact HC.out z hz 0 (by omega), cq 1 (by omega) (by omega), cq 2 (by omega) (by omega), cq 3 (by omega) (by omega), cq 4 (by omega) (by omega), cq 5 (by omega) (by omega), cq 6 (by omega) (by omega)⟩)
        have hso := (step_ok (x := x) (id := 0) (dr := true) OK.out HFX.out (fun _ => rfl)).ok
        obtain ⟨r, hr⟩ : ∃ r, stepL L x = r := ⟨_, rfl⟩
        have HST := Lib.hid hr
        rw [hr] at hso
        obtain ⟨d, L2⟩ := r
        dsimp only at hso
        have OK2 := Lib.hid hso
        have LE2 := Lib.hid hso.len
        have LV2 := Lib.hid (live_is hso)
        have HID1 := Lib.hid HFX.out.id.1
        have HID2 := Lib.hid HFX.out.id.2
        have HNOW := Lib.hid HFX.out.now
        clear hr hso hkx HC
        have hkk : k ≤ 200 := by omega
        have i1 : (k : Int) < (len0 : Int) := by omega
        have i3 : (0 : Int) ≤ (k : Int) := by omega
        go_wp2_with fail
        refine wp_region_held_drew (S := fun w' => w'.cell? (ad.add (k * 7)) = some (.int .i64 x.kind) ∧ w'.cell? ⟨(ad.add (k * 7)).block, (ad.add (k * 7)).off + 1, none⟩ = some (.int .i64 x.id) ∧ w'.cell? ⟨(ad.add (k * 7)).block, (ad.add (k * 7)).off + 2, none⟩ = some (.int .i64 x.off) ∧ w'.cell? ⟨(ad.add (k * 7)).block, (ad.add (k * 7)).off + 3, none⟩ = some (.int .i64 x.size) ∧ w'.cell? ⟨(ad.add (k * 7)).block, (ad.add (k * 7)).off + 4, none⟩ = some (.int .i64 x.now) ∧ w'.cell? ⟨(ad.add (k * 7)).block, (ad.add (k * 7)).off + 5, none⟩ = some (.int .u64 x.v) ∧ w'.cell? ⟨(ad.add (k * 7)).block, (ad.add (k * 7)).off + 6, none⟩ = some (.slice x.a x.n x.c)) (by kernel_rfl) (HC7.out wr.drew (two_has (two_drew H2.out)).below) (fun g => ?_)
        have H3 := Lib.hid (two_drew H2.out)
        clear H2
        generalize wr.drew = z at *
        clear wr
        refine tq 0 ?_ rfl (by kernel_rfl) (fun _ _ _ h => h) (by rfl) g ?_ ?_; rotate_left
        · intro w9 h9; obtain ⟨d0, d1, d2, d3, d4, d5, d6⟩ := h9; go_simp; try with_reducible rfl
        simp only [Act.put, ptA, ptB, ptC]
        refine tq 1 ?_ rfl (by kernel_rfl) (fun _ _ _ h => h) (by rfl) g ?_ ?_; rotate_left
        · intro w9 h9; obtain ⟨d0, d1, d2, d3, d4, d5, d6⟩ := h9; go_simp; try with_reducible rfl
        simp only [Act.put, ptA, ptB, ptC]
        refine tq 2 ?_ rfl (by kernel_rfl) (fun _ _ _ h => h) (by rfl) g ?_ ?_; rotate_left
        · intro w9 h9; obtain ⟨d0, d1, d2, d3, d4, d5, d6⟩ := h9; go_simp; try with_reducible rfl
        simp only [Act.put, ptA, ptB, ptC]
        refine tq 3 ?_ rfl (by kernel_rfl) (fun _ _ _ h => h) (by rfl) g ?_ ?_; rotate_left
        · intro w9 h9; obtain ⟨d0, d1, d2, d3, d4, d5, d6⟩ := h9; go_simp; try with_reducible rfl
        simp only [Act.put, ptA, ptB, ptC]
        refine tq 4 ?_ rfl (by kernel_rfl) (fun _ _ _ h => h) (by rfl) g ?_ ?_; rotate_left
        · intro w9 h9; obtain ⟨d0, d1, d2, d3, d4, d5, d6⟩ := h9; go_simp; try with_reducible rfl
        simp only [Act.put, ptA, ptB, ptC]
        refine tq 5 ?_ rfl (by kernel_rfl) (fun _ _ _ h => h) (by rfl) g ?_ ?_; rotate_left
        · intro w9 h9; obtain ⟨d0, d1, d2, d3, d4, d5, d6⟩ := h9; go_simp; try with_reducible rfl
        simp only [Act.put, ptA, ptB, ptC]
        refine tc 6 rfl (by kernel_rfl) (fun K9 hK => ?_)
        go_simp
        with_reducible refine (both_c H3.out OK.out (by omega) x HFX.out HX200.out HRX.out).mono ?_
        rintro e z2 ⟨rfl, q⟩
        rw [HST.out] at q
        dsimp only at q
        have H4 := Lib.hid q
        clear q H3
        go_simp
        refine hK.out _ _ (HC7.out z2 (two_has H4.out).below) (fun g1 => ?_)
        clear hK K9 g
        have g := g1
        clear g1
        clear z
        refine tq 7 ?_ rfl (by kernel_rfl) (fun _ _ _ h => h) (by rfl) g ?_ ?_; rotate_left
        · intro w9 h9; obtain ⟨d0, d1, d2, d3, d4, d5, d6⟩ := h9; go_simp; try with_reducible rfl
        simp only [Act.put, ptA, ptB, ptC]
        refine tq 8 ?_ rfl (by kernel_rfl) (fun _ _ _ h => h) (by rfl) g ?_ ?_; rotate_left
        · intro w9 h9; obtain ⟨d0, d1, d2, d3, d4, d5, d6⟩ := h9; go_simp; try with_reducible rfl
        simp only [Act.put, ptA, ptB, ptC]
        refine tq 9 ?_ rfl (by kernel_rfl) (fun _ _ _ h => h) (by rfl) g ?_ ?_; rotate_left
        · intro w9 h9; obtain ⟨d0, d1, d2, d3, d4, d5, d6⟩ := h9; go_simp; try with_reducible rfl
        simp only [Act.put, ptA, ptB, ptC]
        refine tq 11 ?_ rfl (by kernel_rfl) (fun _ _ _ h => h) (by rfl) g ?_ ?_; rotate_left
        · intro w9 h9; obtain ⟨d0, d1, d2, d3, d4, d5, d6⟩ := h9; go_simp; try with_reducible rfl
        simp only [Act.put, ptA, ptB, ptC]
        refine tc 10 rfl (by kernel_rfl) (fun K9 hK => ?_)
        go_simp
        with_reducible refine (live_h (two_has H4.out) (by have := LE2.out; omega) _ LV2.out).mono ?_
        rintro e z3 ⟨rfl, q⟩
        have H5 := Lib.hid (two_grow H4.out q)
        clear q H4
        go_simp
        refine hK.out _ _ (HC7.out z3 (two_has H5.out).below) (fun g1 => ?_)
        clear hK K9 g
        have g := g1
        clear g1
        clear z2
        refine tc 12 rfl (by kernel_rfl) (fun K9 hK => ?_)
        go_simp
        with_reducible refine (rlive_two H5.out (by have := LE2.out; omega)).mono ?_
        rintro e z4 ⟨rfl, rfl⟩
        go_simp
        refine hK.out _ _ g (fun g1 => ?_)
        clear hK K9 g
        have g := g1
        clear g1
        refine tq 13 ?_ rfl (by kernel_rfl) (fun _ _ _ h => h) (by rfl) g ?_ ?_; rotate_left
        · intro w9 h9; obtain ⟨d0, d1, d2, d3, d4, d5, d6⟩ := h9; go_simp; try with_reducible rfl
        simp only [Act.put, ptA, ptB, ptC]
        refine tq 14 ?_ rfl (by kernel_rfl) (fun _ _ _ h => h) (by rfl) g ?_ ?_; rotate_left
        · intro w9 h9; obtain ⟨d0, d1, d2, d3, d4, d5, d6⟩ := h9; go_simp; try with_reducible rfl
        simp only [Act.put, ptA, ptB, ptC]
        refine tq 15 ?_ rfl (by kernel_rfl) (fun _ _ _ h => h) (by rfl) g ?_ ?_; rotate_left
        · intro w9 h9; obtain ⟨d0, d1, d2, d3, d4, d5, d6⟩ := h9; go_simp; try with_reducible rfl
        simp only [Act.put, ptA, ptB, ptC]
        refine tq 16 ?_ rfl (by kernel_rfl) (fun _ _ _ h => h) (by rfl) g ?_ ?_; rotate_left
        · intro w9 h9; obtain ⟨d0, d1, d2, d3, d4, d5, d6⟩ := h9; go_simp; try with_reducible rfl
        simp only [Act.put, ptA, ptB, ptC]
        refine tq 17 ?_ rfl (by kernel_rfl) (fun _ _ _ h => h) (by rfl) g ?_ ?_; rotate_left
        · intro w9 h9; obtain ⟨d0, d1, d2, d3, d4, d5, d6⟩ := h9; go_simp; try with_reducible rfl
        simp only [Act.put, ptA, ptB, ptC]
        refine tq 18 ?_ rfl (by kernel_rfl) (fun _ _ _ h => h) (by rfl) g ?_ ?_; rotate_left
        · intro w9 h9; obtain ⟨d0, d1, d2, d3, d4, d5, d6⟩ := h9; go_simp; try with_reducible rfl
        simp only [Act.put, ptA, ptB, ptC]
        refine tq 19 ?_ rfl (by kernel_rfl) (fun _ _ _ h => h) (by rfl) g ?_ ?_; rotate_left
        · intro w9 h9; obtain ⟨d0, d1, d2, d3, d4, d5, d6⟩ := h9; go_simp; try with_reducible rfl
        simp only [Act.put, ptA, ptB, ptC]
        refine tq 20 ?_ rfl (by kernel_rfl) (fun _ _ _ h => h) (by rfl) g ?_ ?_; rotate_left
        · intro w9 h9; obtain ⟨d0, d1, d2, d3, d4, d5, d6⟩ := h9; go_simp; try with_reducible rfl
        simp only [Act.put, ptA, ptB, ptC]
        refine tq 21 ?_ rfl (by kernel_rfl) (fun _ _ _ h => h) (by rfl) g ?_ ?_; rotate_left
        · intro w9 h9; obtain ⟨d0, d1, d2, d3, d4, d5, d6⟩ := h9; go_simp; try with_reducible rfl
        simp only [Act.put, ptA, ptB, ptC]
        refine tq 22 ?_ rfl (by kernel_rfl) (fun _ _ _ h => h) (by rfl) g ?_ ?_; rotate_left
        · intro w9 h9; obtain ⟨d0, d1, d2, d3, d4, d5, d6⟩ := h9; go_simp; try with_reducible rfl
        simp only [Act.put, ptA, ptB, ptC]
        refine tq 23 ?_ rfl (by kernel_rfl) (fun _ _ _ h => h) (by rfl) g ?_ ?_; rotate_left
        · intro w9 h9; obtain ⟨d0, d1, d2, d3, d4, d5, d6⟩ := h9; go_simp; try with_reducible rfl
        simp only [Act.put, ptA, ptB, ptC]
        refine tq 24 ?_ rfl (by kernel_rfl) (fun _ _ _ h => h) (by rfl) g ?_ ?_; rotate_left
        · intro w9 h9; obtain ⟨d0, d1, d2, d3, d4, d5, d6⟩ := h9; go_simp; try with_reducible rfl
        simp only [Act.put, ptA, ptB, ptC]
        refine tq 25 ?_ rfl (by kernel_rfl) (fun _ _ _ h => h) (by rfl) g ?_ ?_; rotate_left
        · intro w9 h9; obtain ⟨d0, d1, d2, d3, d4, d5, d6⟩ := h9; go_simp; try with_reducible rfl
        simp only [Act.put, ptA, ptB, ptC]
        refine tq 26 ?_ rfl (by kernel_rfl) (fun _ _ _ h => h) (by rfl) g ?_ ?_; rotate_left
        · intro w9 h9; obtain ⟨d0, d1, d2, d3, d4, d5, d6⟩ := h9; go_simp; try with_reducible rfl
        simp only [Act.put, ptA, ptB, ptC]
        refine tq 27 ?_ rfl (by kernel_rfl) (fun _ _ _ h => h) (by rfl) g ?_ ?_; rotate_left
        · intro w9 h9; obtain ⟨d0, d1, d2, d3, d4, d5, d6⟩ := h9; go_simp; try with_reducible rfl
        simp only [Act.put, ptA, ptB, ptC]
        refine tc 28 rfl (by kernel_rfl) (fun K9 hK => ?_)
        go_simp
        with_reducible refine (alike_c H5.out OK2.out (by omega) x.id x.now HID1.out HID2.out HNOW.out).mono ?_
        rintro e z5 ⟨rfl, q⟩
        have H6 := Lib.hid q
        clear q H5
        go_simp
        refine hK.out _ _ (HC7.out z5 (two_has H6.out).below) (fun g1 => ?_)
        clear hK K9 g
        have g := g1
        clear g1
        clear z3
        refine tq 29 ?_ rfl (by kernel_rfl) (fun _ _ _ h => h) (by rfl) g ?_ ?_; rotate_left
        · intro w9 h9; obtain ⟨d0, d1, d2, d3, d4, d5, d6⟩ := h9; go_simp; try with_reducible rfl
        simp only [Act.put, ptA, ptB, ptC]
        refine tq 30 ?_ rfl (by kernel_rfl) (fun _ _ _ h => h) (by rfl) g ?_ ?_; rotate_left
        · intro w9 h9; obtain ⟨d0, d1, d2, d3, d4, d5, d6⟩ := h9; go_simp; try with_reducible rfl
        simp only [Act.put, ptA, ptB, ptC]
        clear g
        refine wpAnyH_done (by kernel_rfl) ?_ _
        go_wp2
        go_roundw
        case rel => exact ⟨k + 1, L2, by omega, by go_num, H6, OK2⟩
        case measure => simp [intOf]; omega
      · obtain rfl : k = len0 := by omega
        have hkk : L.length ≤ 200 := by have := OK.out.len; omega
        obtain ⟨mL, hmL⟩ : ∃ mL, L.length = mL := ⟨_, rfl⟩
        have HML := Lib.hid hmL
        have i9 : (mL : Int) ≤ 200 := by omega
        clear hkk hmL
        go_wp2_with fail
        go_loopw [6] (fun i w7 => ∃ j : Nat, j ≤ mL + 3 ∧ i = .int .i64 ((j : Int) - 1) ∧ Hid (Two w P X L w7)) (fun i _ => (mL + 3) - (intOf i + 1).toNat)
        case atStart => exact ⟨0, Nat.zero_le _, rfl, H2⟩
        case round =>
          clear H2
          obtain ⟨j, hj, rfl, H3⟩ := hrel
          obtain ⟨a, cap, x0, q1, q2⟩ := two_size H3.out
          rw [HML.out] at x0 q1
          have i4 : (0 : Int) ≤ (j : Int) := by omega
          by_cases hlt2 : j < mL + 3
          · have i5 : (j : Int) - 1 ≤ (mL : Int) + 1 := by omega
            have I64 : Hid (i64 (((j : Int) - 1) * 3)) := Lib.hid ⟨by omega, by omega⟩
            go_wp2_with fail
            with_reducible refine (alike_c H3.out OK.out (by omega) ((j : Int) - 1) (((j : Int) - 1) * 3) (by omega) (by omega) I64.out).mono ?_
            rintro e w8 ⟨rfl, q⟩
            have H4 := Lib.hid q
            clear q H3
            go_wp2
            go_roundw
            case rel => exact ⟨j + 1, by omega, by congr 1; omega, H4⟩
            case measure => simp [intOf]; omega
          · have i5 : (mL : Int) + 1 < (j : Int) - 1 := by omega
            go_wp2_with fail
            with_reducible refine (works_c _).mono ?_
            rintro e w9 ⟨rfl, q⟩
            have B9 := Lib.hid ((two_has H3.out).below.trans (q.mono (two_has H3.out).below.size))
            clear q H3
            go_wp2
            go_ret
            exact ⟨rfl, B9.out⟩

set_option maxRecDepth 100000 in
theorem lifted (os : Os) (started : os.Started) (H : Type) (enc : TypeId × Value → H) :
    ReturnsInHanded {} Try.checked os 3 .any (Rows.cellsRunsSpec.pre6 enc Try.prog Try.f3 Rows.cellsRunsRow.domain false) (Rows.cellsRunsSpec.post enc Try.prog Try.f3 false true false false) := by
  refine returnsInHanded_of_change (C := Try.checked) own started (by kernel_rfl) Try.func3
    (ChangeSpec.witness6 (enc := enc) (C := Try.checked) false ⟨#[], #[.slice none 0 0], []⟩ 8 (by kernel_rfl) (by kernel_rfl) (by kernel_rfl) (by kernel_rfl)) ?_
  intro W base args ds gs before hval0 hW hcnd _
  have hval : ∀ (j : Nat) t v, Try.f3.params[j]? = some t → args[j]? = some v → Value.okWide Try.prog W .any base t v := hval0
  have hW' := hW
  obtain ⟨p, q, hA0, hV, rfl, hfz, hnd⟩ := hW
  have hA : DataW.TrodAll enc Try.prog W 0 (fun _ => true) true Try.f3.params.toList args.toList ds p := hA0
  rw [Try.params3] at hA hval
  obtain ⟨v0, vs0, d0, ds0, p0, q0, hargs, rfl, rfl, h0, r0⟩ := trodAll_cons hA
  obtain ⟨rfl, rfl, rfl⟩ := trodAll_nil r0
  obtain rfl : args = #[v0] := by cases args; simp_all
  obtain ⟨rfl, rfl⟩ := trodVars_none hV
  obtain ⟨a0, len0, cap0, rfl⟩ := okWide_slice Try.underlying22 (hval 0 22 v0 rfl rfl)
  have k0 := h0
  have lt0 : ∀ x ∈ p0, x.block < W.heap.size := by obtain ⟨m, hm⟩ := k0; exact DataW.trod_lt m _ _ _ hm
  obtain ⟨L0, l0, f0, c0, m0, rr0⟩ := open_ops h0
  clear hA0 hval0
  refine (walk a0 len0 cap0 L0 W l0 f0 c0 m0 rr0).mono fun e W' ⟨he, bel⟩ => ?_
  subst he
  exact ⟨_, rfl, _, _, _, [], _, [], hW', trodAll_mk1 (shut_bool Try.underlying4 _), (trodAll_cons_mk (Below.trod laidOut (by kernel_rfl) (of_decide_eq_true (by kernel_rfl)) k0 bel lt0) trodAll_mk0), rfl, bel.frame _, fun h => by cases h⟩

theorem over : Rows.cellsRunsRow.holds Try.pinned (OpenSpec.ofChange Rows.cellsRunsSpec) :=
  OpenClaim.holds_of_wide 3 Try.f3 rfl rfl rfl rfl rfl rfl rfl ⟨rfl, rfl, rfl, rfl, rfl⟩ rfl rfl rfl rfl rfl (by kernel_rfl) Try.func3 (by kernel_rfl)
    (of_decide_eq_true (by kernel_rfl)) (by unfold Func.isWrapper; first | (rw [if_pos (by decide +kernel)]; kernel_rfl) | (rw [if_neg (by decide +kernel)]; exact ⟨rfl, rfl⟩))
    (fun os started H enc _ => lifted os started H enc)

theorem proved : Rows.CellsRunsSaid := over
#print axioms proved
end Go.Proofs.Ythdgdkjaeebbcaa.cellsRuns
