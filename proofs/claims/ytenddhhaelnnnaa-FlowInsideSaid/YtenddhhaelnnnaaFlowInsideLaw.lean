/-
  Proved: the statement FlowInside: all that may be done behind an instruction of a program are instructions of it; behind what is reached all is reached; and what is reached, but the first one, is behind something that is. No conditions.
-/
import Derived.Test.YtenddhhaelnnnaaRows
import Derived.Test.YtenddhhaelnnnaaFlowMath2
import Derived.Test.YtenddhhaelnnnaaBrief
import Derived.Handy
import Derived.WalkKit
import Derived.ProofKit
import Derived.OpenShut
import Derived.ChangeOld
import Derived.Below
namespace Go.Proofs.Ytenddhhaelnnnaa.flowInside
open Go.ChangeShapes Go.WideShapes Go.ChangeAt Go.RowKit Wi Ow
set_option linter.unusedVariables false
set_option linter.unusedSimpArgs false

theorem own : ownKnob Try.prog.godebug = none := by kernel_rfl
theorem laidOut : laidOutB Try.prog = true := by kernel_rfl

open Fl

set_option maxRecDepth 100000 in
set_option maxHeartbeats 20000000 in
theorem walk (a0 : Option Addr) (len0 cap0 : Nat) (L0 : List In) (w : World) (l0 : L0.length = len0) (f0 : ∀ x ∈ L0, x.fits) (c0 : len0 ≤ cap0) (m0 : cap0 ≤ 9223372036854775807) (r0 : Rd w w.heap.size a0 (iv L0)) :
    Calls Try.prog 5 #[.slice a0 len0 cap0] w fun e w' => e = .returned (.bool true) ∧ Below w.heap.size w w' := by
  obtain ⟨i0, hi0, hz0, hz1, hz2⟩ := info_parts bool_info
  have HF := Lib.hid f0
  have HR := Lib.hid r0
  have HL := Lib.hid l0
  clear f0 r0 l0
  have hcap : len0 ≤ 9223372036854775807 := by omega
  go_enter Try.func5, Try.ntmps5
  go_wp2_with fail
  refine (right_any a0 len0 cap0 L0 HL.out hcap w HR.out).mono ?_
  rintro e w1 ⟨b, rfl, rfl, hb⟩
  have HB := Lib.hid hb
  clear hb
  cases b
  · go_wp2_with fail
    refine (works_any _).mono ?_
    rintro e w1 ⟨rfl, q1⟩
    go_wp2
    go_ret
    exact ⟨rfl, q1⟩
  obtain ⟨hok, h400⟩ := HB.out rfl
  have HO := Lib.hid hok
  clear hok HB
  rw [HL.out] at h400
  go_wp2_with fail
  refine (targets_any a0 len0 cap0 L0 HL.out HO.out hcap w HR.out).mono ?_
  rintro e w1 ⟨vt, r, rfl, q1, hg⟩
  have B1 := Lib.hid q1
  clear q1
  rcases hg with ⟨hg, rfl, o1⟩ | ⟨_, hr⟩
  case inr =>
    have hr2 : (r != 0) = true := by simpa using hr
    clear hr
    go_wp2_with fail
    refine (works_any _).mono ?_
    rintro e w2 ⟨rfl, q2⟩
    have B2 := Lib.hid (below_then B1.out q2 (Nat.le_refl _))
    clear q2
    go_wp2
    go_ret
    exact ⟨rfl, B2.out⟩
  have h0 : 0 < len0 := by have := hg.some_; rw [HL.out] at this; exact this
  have h256 : len0 ≤ 256 := by have := hg.few; rw [HL.out] at this; exact this
  clear hg
  obtain ⟨at_, ct, rfl, hct, hmt⟩ := own_some o1 h0
  have htl : (tgts L0 len0).length = len0 := tgts_len _ _
  generalize tgts L0 len0 = t at *
  have HTL := Lib.hid htl
  have O1 := Lib.hid o1
  clear o1 htl
  go_wp2_with fail
  refine (reached_any a0 (some at_) len0 cap0 len0 ct L0 t HL.out HO.out HTL.out h0 (by omega) (by omega) w1 ((HR.out.below B1.out).mono B1.out.size) (Rd.of_own O1.out)).mono ?_
  rintro e w2 ⟨vr, R, rfl, o2, hfound, q2⟩
  have HNX : Hid (∀ (k : Nat) (w3 : World), k < len0 → Below w.heap.size w w3 → w3.ownsRow w.heap.size 3 1 (.slice (some at_) len0 ct) len0 (zv t) → Calls Try.prog 14 #[.slice a0 len0 cap0, .slice (some at_) len0 ct, .int .i64 k] w3 fun e w' => ∃ v, e = .returned v ∧ OwnZ w3 v w' ((nxt L0 t (k : Int)).map fun (j : Nat) => (j : Int))) :=
    Lib.hid fun k w3 hk hb ho => next_in a0 (some at_) len0 cap0 len0 ct L0 t k HL.out HO.out HTL.out (by omega) (by omega) hk w3 ((HR.out.below hb).mono hb.size) (Rd.of_own ho)
  have HLT : Hid (∀ (k j : Nat), j ∈ nxt L0 t (k : Int) → j < len0) := Lib.hid fun k j h => by have := nxt_lt L0 t k j h; rw [HL.out] at this; exact this
  have HLE : Hid (∀ (k : Nat), (nxt L0 t (k : Int)).length ≤ 2) := Lib.hid fun k => nxt_len L0 t k
  have HTW : Hid (∀ (k a b : Nat), nxt L0 t (k : Int) = [a, b] → a ≠ b) := Lib.hid fun k a b h => nxt_two L0 t k a b h
  obtain ⟨nx, hnx⟩ : ∃ nx : Nat → List Nat, nx = fun (i : Nat) => nxt L0 t (i : Int) := ⟨_, rfl⟩
  have hnk : ∀ k : Nat, nxt L0 t (k : Int) = nx k := fun k => by rw [hnx]
  rw [← hnx] at hfound
  simp only [hnk] at HNX HLT HLE HTW
  clear hnk hnx
  have HFD := Lib.hid hfound
  have O2 := Lib.hid o2
  have B2 := Lib.hid q2
  clear hfound o2 q2
  obtain ⟨ar, cr, rfl, hcr, hmr⟩ := own_some O2.out h0
  have hrl : R.length = len0 := HFD.out.len
  have cz : w2.cell? ar = some (.bool true) := bool_at (j := 0) O2.out h0 ((HFD.out.mark 0 h0).2 .zero)
  have i2 : (0 : Int) < (len0 : Int) := by omega
  go_wp2_with (refine wp_make_own _ rfl _ _ _ rfl 4 i0 _ Try.underlying33 hi0 hz0 hz1 rfl _ _ len0 rfl rfl ?a1 ?a2 ?_)
  case a1 => rw [hz2]; omega
  case a2 => unfold maxLen; omega
  intro af w3 haf o3 q3
  clear cz
  obtain ⟨c3, f3⟩ := own_at o3 0 h0
  rw [List.getElem?_replicate, if_pos h0] at c3
  have c3' : w3.cell? af = some (.bool false) := c3
  have f3' : w3.frozen? af = false := f3
  have ST := Lib.hid (Fi.start O1.out B1.out O2.out B2.out haf o3 q3)
  clear c3 f3 o3 q3 O1 O2 B1 B2 haf
  go_wp2_with fail
  clear c3' f3'
  go_loopw [7] (fun i wr => ∃ (k : Nat) (F : List Bool), k ≤ len0 ∧ i = .int .i64 k ∧ Hid (Fr len0 nx k F) ∧ Hid (Fi w len0 at_ ar af ct cr wr t R F)) (fun i _ => len0 - (intOf i).toNat)
  case atStart => exact ⟨0, _, Nat.zero_le _, rfl, Lib.hid (Fr.first h0), ST⟩
  case round =>
    clear ST
    obtain ⟨k, F, hk, rfl, hFr, hFi⟩ := hrel
    by_cases hlt : k < len0
    · have j1 : (0 : Int) ≤ (k : Int) := by omega
      have j2 : (k : Int) < (len0 : Int) := by omega
      go_wp2_with fail
      refine (HNX.out k wr hlt hFi.out.below hFi.out.tg).mono ?_
      rintro e w4 ⟨v, rfl, ho⟩
      have FN := Lib.hid (Fn.start hFi.out ho)
      have FI := Lib.hid (hFi.out.next ho.below)
      clear ho hFi
      have hl2 := HLE.out k
      obtain ⟨AV, cv, rfl, hcv, hmv, _⟩ := own_form FN.out.own
      unfold maxLen at hmv
      rw [List.length_map] at hcv FN
      go_wp2_with fail
      go_loopw [9] (fun i w5 => ∃ (r : Nat) (F' : List Bool), i = .int .i64 r ∧ r ≤ (nx k).length ∧ Hid (Fq len0 nx k r F') ∧ Hid (Fi w len0 at_ ar af ct cr w5 t R F') ∧ Hid (Fn w af (.slice AV (nx k).length cv) w5 ((nx k).map fun (j : Nat) => (j : Int)))) (fun i _ => (nx k).length - (intOf i).toNat)
      case atStart => exact ⟨0, F, rfl, Nat.zero_le _, Lib.hid hFr.out.go, FI, FN⟩
      case round =>
        clear FI FN hFr
        obtain ⟨r, F', rfl, hr, hFq, hFi, hFn⟩ := hrel
        by_cases hlr : r < (nx k).length
        · have oX := own_cast hFn.out.own (List.length_map _) rfl
          obtain ⟨av, rfl, _, hcy⟩ := (Rd.of_own oX) (by rw [zv_len, List.length_map]; omega)
          have hrm : r < ((nx k).map fun (j : Nat) => (j : Int)).length := by rw [List.length_map]; exact hlr
          have cy := hcy r _ (zv_get _ r hrm)
          rw [List.getElem_map] at cy
          have hj : (nx k)[r] < len0 := HLT.out k _ (List.getElem_mem hlr)
          obtain ⟨j, hjn⟩ : ∃ j, j = (nx k)[r] := ⟨_, rfl⟩
          rw [← hjn] at cy hj
          have HJN := Lib.hid hjn
          have HCL : Hid (Fl.Reach nx k → Fl.Reach nx j) := Lib.hid fun h => .step h (by rw [hjn]; exact List.getElem_mem hlr)
          clear hcy oX hrm hjn
          have NV : Hid (af.block ≠ av.block) := Lib.hid (by
            rcases hFn.out.apart with h | h
            · cases h
            · exact fun e => h (by rw [e]; rfl))
          have NR : Hid (af.block ≠ ar.block) := Lib.hid (fun e => hFi.out.n2 e.symm)
          have k1 : (0 : Int) ≤ (r : Int) := by omega
          have k2 : (r : Int) < ((nx k).length : Int) := by omega
          have k3 : (0 : Int) ≤ (j : Int) := by omega
          have k4 : (j : Int) < (len0 : Int) := by omega
          have hkr : k < R.length := by omega
          have hjr : j < R.length := by omega
          have hjf : j < F'.length := by rw [hFq.out.1]; exact hj
          have ck := (own_at hFi.out.rc k hlt).1
          have cj := (own_at hFi.out.rc j hj).1
          obtain ⟨cf, ff⟩ := own_at hFi.out.fr j hj
          rw [ov_get R k hkr] at ck
          rw [ov_get R j hjr] at cj
          rw [ov_get F' j hjf] at cf
          have HFJ : Hid ((ov F')[j]? = some (.bool F'[j])) := Lib.hid (ov_get F' j hjf)
          have HFA : Hid (F'[j]? = some F'[j]) := Lib.hid (List.getElem?_eq_getElem hjf)
          have HBK : Hid (R[k] = true ↔ Fl.Reach nx k) := Lib.hid (HFD.out.bool k hlt hkr)
          have HBJ : Hid (R[k] = true → R[j] = true) := Lib.hid fun h => (HFD.out.bool j hj hjr).2 (HCL.out (HBK.out.1 h))
          generalize R[k] = bk at *
          generalize R[j] = bj at *
          generalize F'[j] = fj at *
          clear hkr hjr hjf HCL
          cases bk
          · clear HBJ
            cases fj
            · go_wp2_with fail
              refine wp_region_held_drew (S := fun w' => w'.cell? (av.add r) = some (.int .i64 (j : Int)) ∧ w'.cell? (ar.add k) = some (.bool false)) (by kernel_rfl) ⟨cy, ck⟩ (fun g => ?_)
              have FI1 := Lib.hid (hFi.out.next (Below.refl _ _).drew)
              have FN1 : Hid (Fn w af (.slice (some av) (nx k).length cv) wr.drew ((nx k).map fun (j : Nat) => (j : Int))) := Lib.hid ⟨own_below hFn.out.own (Below.refl _ _).drew, hFn.out.apart⟩
              clear cy ck cj hFi hFn cf ff
              generalize wr.drew = z at *
              obtain ⟨cf, ff⟩ := own_at FI1.out.fr j hj
              rw [HFJ.out] at cf
              refine tq 0 ?_ rfl (by kernel_rfl) (fun _ _ _ h => h) (by rfl) g ?_ ?_; rotate_left
              · intro w9 h9; go_simp; try with_reducible rfl
              simp only [Act.put, ptA, ptB, ptC]
              refine tq 1 ?_ rfl (by kernel_rfl) (fun _ _ _ h => h) (by rfl) g ?_ ?_; rotate_left
              · intro w9 h9; go_simp; try with_reducible rfl
              simp only [Act.put, ptA, ptB, ptC]
              refine tq 2 ?_ rfl (by kernel_rfl) (fun _ _ _ h => h) (by rfl) g ?_ ?_; rotate_left
              · intro w9 h9; go_simp; try with_reducible rfl
              simp only [Act.put, ptA, ptB, ptC]
              refine tq 3 ?_ rfl (by kernel_rfl) (fun _ _ _ h => h) (by rfl) g ?_ ?_; rotate_left
              · intro w9 h9; go_simp; try with_reducible rfl
              simp only [Act.put, ptA, ptB, ptC]
              refine tq 4 ?_ rfl (by kernel_rfl) (fun _ _ _ h => h) (by rfl) g ?_ ?_; rotate_left
              · intro w9 h9; go_simp; try with_reducible rfl
              simp only [Act.put, ptA, ptB, ptC]
              refine tq 5 ?_ rfl (by kernel_rfl) (fun _ _ _ h => h) (by rfl) g ?_ ?_; rotate_left
              · intro w9 h9; go_simp; try with_reducible rfl
              simp only [Act.put, ptA, ptB, ptC]
              refine tq 6 ?_ rfl (by kernel_rfl) (fun _ _ _ h => h) (by rfl) g ?_ ?_; rotate_left
              · intro w9 h9; go_simp; try with_reducible rfl
              simp only [Act.put, ptA, ptB, ptC]
              refine tq 7 ?_ rfl (by kernel_rfl) (fun _ _ _ h => h) (by rfl) g ?_ ?_; rotate_left
              · intro w9 h9; go_simp; try with_reducible rfl
              simp only [Act.put, ptA, ptB, ptC]
              refine tq 8 ?_ rfl (by kernel_rfl) (fun _ _ _ h => h) (by rfl) g ?_ ?_; rotate_left
              · intro w9 h9; go_simp; try with_reducible rfl
              simp only [Act.put, ptA, ptB, ptC]
              refine tq 9 ?_ rfl (by kernel_rfl) (fun _ _ _ h => h) (by rfl) g ?_ ?_; rotate_left
              · intro w9 h9; go_simp; try with_reducible rfl
              simp only [Act.put, ptA, ptB, ptC]
              refine tq 10 ?_ rfl (by kernel_rfl) (fun _ _ _ h => h) (by rfl) g ?_ ?_; rotate_left
              · intro w9 h9; go_simp; try with_reducible rfl
              simp only [Act.put, ptA, ptB, ptC]
              refine tc 11 rfl (by kernel_rfl) (fun K9 hK => ?_)
              go_simp
              refine hK.out _ _ g (fun g1 => ?_)
              clear hK K9
              refine tq 12 ?_ rfl (by kernel_rfl) (fun _ _ _ h => h) (by rfl) g ?_ ?_; rotate_left
              · intro w9 h9; go_simp; try with_reducible rfl
              simp only [Act.put, ptA, ptB, ptC]
              refine tq 13 ?_ rfl (by kernel_rfl) (fun _ _ _ h => h) (by rfl) g ?_ ?_; rotate_left
              · intro w9 h9; go_simp; try with_reducible rfl
              simp only [Act.put, ptA, ptB, ptC]
              refine tq 14 ?_ rfl (by kernel_rfl) (fun _ _ _ h => h) (by rfl) g ?_ ?_; rotate_left
              · intro w9 h9; go_simp; try with_reducible rfl
              simp only [Act.put, ptA, ptB, ptC]
              refine tq 15 ?_ rfl (by kernel_rfl) (fun _ _ _ h => h) (by rfl) g ?_ ?_; rotate_left
              · intro w9 h9; go_simp; try with_reducible rfl
              simp only [Act.put, ptA, ptB, ptC]
              refine tq 16 ?_ rfl (by kernel_rfl) (fun _ _ _ h => h) (by rfl) g ?_ ?_; rotate_left
              · intro w9 h9; go_simp; try with_reducible rfl
              simp only [Act.put, ptA, ptB, ptC]
              refine tq 17 ?_ rfl (by kernel_rfl) (fun _ _ _ h => h) (by rfl) g ?_ ?_; rotate_left
              · intro w9 h9; go_simp; try with_reducible rfl
              simp only [Act.put, ptA, ptB, ptC]
              refine tq 18 ?_ rfl (by kernel_rfl) (fun _ _ _ h => h) (by rfl) g ?_ ?_; rotate_left
              · intro w9 h9; go_simp; try with_reducible rfl
              simp only [Act.put, ptA, ptB, ptC]
              refine tc 19 rfl (by kernel_rfl) (fun K9 hK => ?_)
              go_simp
              refine hK.out _ _ ⟨(World.cell?_setCell_far _ _ _ _ (by rw [add_block, add_block]; exact NV.out)).trans g.1, (World.cell?_setCell_far _ _ _ _ (by rw [add_block, add_block]; exact NR.out)).trans g.2⟩ (fun g2 => ?_)
              clear hK K9 g g1 g2
              refine wpAnyH_done (by kernel_rfl) ?_ _
              have FI2 := Lib.hid (FI1.out.put j false)
              have FN2 := Lib.hid (Fn.put FI1.out FN1.out j false)
              have FQ2 : Hid (Fq len0 nx k (r + 1) (F'.set j false)) := Lib.hid (by have h := hFq.out.step (b := false) hlr HJN.out hj HFA.out (by have h := HBK.out; simpa using h); exact h)
              clear FI1 FN1 cf ff
              go_wp2
              go_roundw
              case rel => exact ⟨r + 1, _, by go_num, by omega, FQ2, FI2, FN2⟩
              case measure => simp [intOf]; omega
            · go_wp2_with fail
              refine wp_region_held_drew (S := fun w' => w'.cell? (av.add r) = some (.int .i64 (j : Int)) ∧ w'.cell? (ar.add k) = some (.bool false)) (by kernel_rfl) ⟨cy, ck⟩ (fun g => ?_)
              have FI1 := Lib.hid (hFi.out.next (Below.refl _ _).drew)
              have FN1 : Hid (Fn w af (.slice (some av) (nx k).length cv) wr.drew ((nx k).map fun (j : Nat) => (j : Int))) := Lib.hid ⟨own_below hFn.out.own (Below.refl _ _).drew, hFn.out.apart⟩
              clear cy ck cj hFi hFn cf ff
              generalize wr.drew = z at *
              obtain ⟨cf, ff⟩ := own_at FI1.out.fr j hj
              rw [HFJ.out] at cf
              refine tq 0 ?_ rfl (by kernel_rfl) (fun _ _ _ h => h) (by rfl) g ?_ ?_; rotate_left
              · intro w9 h9; go_simp; try with_reducible rfl
              simp only [Act.put, ptA, ptB, ptC]
              refine tq 1 ?_ rfl (by kernel_rfl) (fun _ _ _ h => h) (by rfl) g ?_ ?_; rotate_left
              · intro w9 h9; go_simp; try with_reducible rfl
              simp only [Act.put, ptA, ptB, ptC]
              refine tq 2 ?_ rfl (by kernel_rfl) (fun _ _ _ h => h) (by rfl) g ?_ ?_; rotate_left
              · intro w9 h9; go_simp; try with_reducible rfl
              simp only [Act.put, ptA, ptB, ptC]
              refine tq 3 ?_ rfl (by kernel_rfl) (fun _ _ _ h => h) (by rfl) g ?_ ?_; rotate_left
              · intro w9 h9; go_simp; try with_reducible rfl
              simp only [Act.put, ptA, ptB, ptC]
              refine tq 4 ?_ rfl (by kernel_rfl) (fun _ _ _ h => h) (by rfl) g ?_ ?_; rotate_left
              · intro w9 h9; go_simp; try with_reducible rfl
              simp only [Act.put, ptA, ptB, ptC]
              refine tq 5 ?_ rfl (by kernel_rfl) (fun _ _ _ h => h) (by rfl) g ?_ ?_; rotate_left
              · intro w9 h9; go_simp; try with_reducible rfl
              simp only [Act.put, ptA, ptB, ptC]
              refine tq 6 ?_ rfl (by kernel_rfl) (fun _ _ _ h => h) (by rfl) g ?_ ?_; rotate_left
              · intro w9 h9; go_simp; try with_reducible rfl
              simp only [Act.put, ptA, ptB, ptC]
              refine tq 7 ?_ rfl (by kernel_rfl) (fun _ _ _ h => h) (by rfl) g ?_ ?_; rotate_left
              · intro w9 h9; go_simp; try with_reducible rfl
              simp only [Act.put, ptA, ptB, ptC]
              refine tq 8 ?_ rfl (by kernel_rfl) (fun _ _ _ h => h) (by rfl) g ?_ ?_; rotate_left
              · intro w9 h9; go_simp; try with_reducible rfl
              simp only [Act.put, ptA, ptB, ptC]
              refine tq 9 ?_ rfl (by kernel_rfl) (fun _ _ _ h => h) (by rfl) g ?_ ?_; rotate_left
              · intro w9 h9; go_simp; try with_reducible rfl
              simp only [Act.put, ptA, ptB, ptC]
              refine tq 10 ?_ rfl (by kernel_rfl) (fun _ _ _ h => h) (by rfl) g ?_ ?_; rotate_left
              · intro w9 h9; go_simp; try with_reducible rfl
              simp only [Act.put, ptA, ptB, ptC]
              refine tc 11 rfl (by kernel_rfl) (fun K9 hK => ?_)
              go_simp
              refine hK.out _ _ g (fun g1 => ?_)
              clear hK K9
              refine tq 12 ?_ rfl (by kernel_rfl) (fun _ _ _ h => h) (by rfl) g ?_ ?_; rotate_left
              · intro w9 h9; go_simp; try with_reducible rfl
              simp only [Act.put, ptA, ptB, ptC]
              refine tu 13 rfl (by kernel_rfl) (fun _ _ _ h => h) (by rfl) g ?_
              simp only [Act.put, ptA, ptB, ptC]
              refine tu 14 rfl (by kernel_rfl) (fun _ _ _ h => h) (by rfl) g ?_
              simp only [Act.put, ptA, ptB, ptC]
              refine tu 15 rfl (by kernel_rfl) (fun _ _ _ h => h) (by rfl) g ?_
              simp only [Act.put, ptA, ptB, ptC]
              refine tu 16 rfl (by kernel_rfl) (fun _ _ _ h => h) (by rfl) g ?_
              simp only [Act.put, ptA, ptB, ptC]
              refine tq 17 ?_ rfl (by kernel_rfl) (fun _ _ _ h => h) (by rfl) g ?_ ?_; rotate_left
              · intro w9 h9; go_simp; try with_reducible rfl
              simp only [Act.put, ptA, ptB, ptC]
              refine tq 18 ?_ rfl (by kernel_rfl) (fun _ _ _ h => h) (by rfl) g ?_ ?_; rotate_left
              · intro w9 h9; go_simp; try with_reducible rfl
              simp only [Act.put, ptA, ptB, ptC]
              refine tc 19 rfl (by kernel_rfl) (fun K9 hK => ?_)
              go_simp
              refine hK.out _ _ ⟨(World.cell?_setCell_far _ _ _ _ (by rw [add_block, add_block]; exact NV.out)).trans g.1, (World.cell?_setCell_far _ _ _ _ (by rw [add_block, add_block]; exact NR.out)).trans g.2⟩ (fun g2 => ?_)
              clear hK K9 g g1 g2
              refine wpAnyH_done (by kernel_rfl) ?_ _
              have FI2 := Lib.hid (FI1.out.put j true)
              have FN2 := Lib.hid (Fn.put FI1.out FN1.out j true)
              have FQ2 : Hid (Fq len0 nx k (r + 1) (F'.set j true)) := Lib.hid (by have h := hFq.out.step (b := false) hlr HJN.out hj HFA.out (by have h := HBK.out; simpa using h); exact h)
              clear FI1 FN1 cf ff
              go_wp2
              go_roundw
              case rel => exact ⟨r + 1, _, by go_num, by omega, FQ2, FI2, FN2⟩
              case measure => simp [intOf]; omega
          · obtain rfl := HBJ.out rfl
            cases fj
            · go_wp2_with fail
              refine wp_region_held_drew (S := fun w' => w'.cell? (av.add r) = some (.int .i64 (j : Int)) ∧ w'.cell? (ar.add k) = some (.bool true)) (by kernel_rfl) ⟨cy, ck⟩ (fun g => ?_)
              have FI1 := Lib.hid (hFi.out.next (Below.refl _ _).drew)
              have FN1 : Hid (Fn w af (.slice (some av) (nx k).length cv) wr.drew ((nx k).map fun (j : Nat) => (j : Int))) := Lib.hid ⟨own_below hFn.out.own (Below.refl _ _).drew, hFn.out.apart⟩
              clear cy ck cj hFi hFn cf ff
              generalize wr.drew = z at *
              obtain ⟨cf, ff⟩ := own_at FI1.out.fr j hj
              rw [HFJ.out] at cf
              refine tq 0 ?_ rfl (by kernel_rfl) (fun _ _ _ h => h) (by rfl) g ?_ ?_; rotate_left
              · intro w9 h9; go_simp; try with_reducible rfl
              simp only [Act.put, ptA, ptB, ptC]
              refine tq 1 ?_ rfl (by kernel_rfl) (fun _ _ _ h => h) (by rfl) g ?_ ?_; rotate_left
              · intro w9 h9; go_simp; try with_reducible rfl
              simp only [Act.put, ptA, ptB, ptC]
              refine tq 2 ?_ rfl (by kernel_rfl) (fun _ _ _ h => h) (by rfl) g ?_ ?_; rotate_left
              · intro w9 h9; go_simp; try with_reducible rfl
              simp only [Act.put, ptA, ptB, ptC]
              refine tq 3 ?_ rfl (by kernel_rfl) (fun _ _ _ h => h) (by rfl) g ?_ ?_; rotate_left
              · intro w9 h9; go_simp; try with_reducible rfl
              simp only [Act.put, ptA, ptB, ptC]
              refine tq 4 ?_ rfl (by kernel_rfl) (fun _ _ _ h => h) (by rfl) g ?_ ?_; rotate_left
              · intro w9 h9; go_simp; try with_reducible rfl
              simp only [Act.put, ptA, ptB, ptC]
              refine tq 5 ?_ rfl (by kernel_rfl) (fun _ _ _ h => h) (by rfl) g ?_ ?_; rotate_left
              · intro w9 h9; go_simp; try with_reducible rfl
              simp only [Act.put, ptA, ptB, ptC]
              refine tq 6 ?_ rfl (by kernel_rfl) (fun _ _ _ h => h) (by rfl) g ?_ ?_; rotate_left
              · intro w9 h9; go_simp; try with_reducible rfl
              simp only [Act.put, ptA, ptB, ptC]
              refine tq 7 ?_ rfl (by kernel_rfl) (fun _ _ _ h => h) (by rfl) g ?_ ?_; rotate_left
              · intro w9 h9; go_simp; try with_reducible rfl
              simp only [Act.put, ptA, ptB, ptC]
              refine tq 8 ?_ rfl (by kernel_rfl) (fun _ _ _ h => h) (by rfl) g ?_ ?_; rotate_left
              · intro w9 h9; go_simp; try with_reducible rfl
              simp only [Act.put, ptA, ptB, ptC]
              refine tq 9 ?_ rfl (by kernel_rfl) (fun _ _ _ h => h) (by rfl) g ?_ ?_; rotate_left
              · intro w9 h9; go_simp; try with_reducible rfl
              simp only [Act.put, ptA, ptB, ptC]
              refine tq 10 ?_ rfl (by kernel_rfl) (fun _ _ _ h => h) (by rfl) g ?_ ?_; rotate_left
              · intro w9 h9; go_simp; try with_reducible rfl
              simp only [Act.put, ptA, ptB, ptC]
              refine tc 11 rfl (by kernel_rfl) (fun K9 hK => ?_)
              go_simp
              refine hK.out _ _ g (fun g1 => ?_)
              clear hK K9
              refine tq 12 ?_ rfl (by kernel_rfl) (fun _ _ _ h => h) (by rfl) g ?_ ?_; rotate_left
              · intro w9 h9; go_simp; try with_reducible rfl
              simp only [Act.put, ptA, ptB, ptC]
              refine tq 13 ?_ rfl (by kernel_rfl) (fun _ _ _ h => h) (by rfl) g ?_ ?_; rotate_left
              · intro w9 h9; go_simp; try with_reducible rfl
              simp only [Act.put, ptA, ptB, ptC]
              refine tq 14 ?_ rfl (by kernel_rfl) (fun _ _ _ h => h) (by rfl) g ?_ ?_; rotate_left
              · intro w9 h9; go_simp; try with_reducible rfl
              simp only [Act.put, ptA, ptB, ptC]
              refine tq 15 ?_ rfl (by kernel_rfl) (fun _ _ _ h => h) (by rfl) g ?_ ?_; rotate_left
              · intro w9 h9; go_simp; try with_reducible rfl
              simp only [Act.put, ptA, ptB, ptC]
              refine tq 16 ?_ rfl (by kernel_rfl) (fun _ _ _ h => h) (by rfl) g ?_ ?_; rotate_left
              · intro w9 h9; go_simp; try with_reducible rfl
              simp only [Act.put, ptA, ptB, ptC]
              refine tq 17 ?_ rfl (by kernel_rfl) (fun _ _ _ h => h) (by rfl) g ?_ ?_; rotate_left
              · intro w9 h9; go_simp; try with_reducible rfl
              simp only [Act.put, ptA, ptB, ptC]
              refine tq 18 ?_ rfl (by kernel_rfl) (fun _ _ _ h => h) (by rfl) g ?_ ?_; rotate_left
              · intro w9 h9; go_simp; try with_reducible rfl
              simp only [Act.put, ptA, ptB, ptC]
              refine tc 19 rfl (by kernel_rfl) (fun K9 hK => ?_)
              go_simp
              refine hK.out _ _ ⟨(World.cell?_setCell_far _ _ _ _ (by rw [add_block, add_block]; exact NV.out)).trans g.1, (World.cell?_setCell_far _ _ _ _ (by rw [add_block, add_block]; exact NR.out)).trans g.2⟩ (fun g2 => ?_)
              clear hK K9 g g1 g2
              refine wpAnyH_done (by kernel_rfl) ?_ _
              have FI2 := Lib.hid (FI1.out.put j true)
              have FN2 := Lib.hid (Fn.put FI1.out FN1.out j true)
              have FQ2 : Hid (Fq len0 nx k (r + 1) (F'.set j true)) := Lib.hid (by have h := hFq.out.step (b := true) hlr HJN.out hj HFA.out (by have h := HBK.out; simpa using h); exact h)
              clear FI1 FN1 cf ff
              go_wp2
              go_roundw
              case rel => exact ⟨r + 1, _, by go_num, by omega, FQ2, FI2, FN2⟩
              case measure => simp [intOf]; omega
            · go_wp2_with fail
              refine wp_region_held_drew (S := fun w' => w'.cell? (av.add r) = some (.int .i64 (j : Int)) ∧ w'.cell? (ar.add k) = some (.bool true)) (by kernel_rfl) ⟨cy, ck⟩ (fun g => ?_)
              have FI1 := Lib.hid (hFi.out.next (Below.refl _ _).drew)
              have FN1 : Hid (Fn w af (.slice (some av) (nx k).length cv) wr.drew ((nx k).map fun (j : Nat) => (j : Int))) := Lib.hid ⟨own_below hFn.out.own (Below.refl _ _).drew, hFn.out.apart⟩
              clear cy ck cj hFi hFn cf ff
              generalize wr.drew = z at *
              obtain ⟨cf, ff⟩ := own_at FI1.out.fr j hj
              rw [HFJ.out] at cf
              refine tq 0 ?_ rfl (by kernel_rfl) (fun _ _ _ h => h) (by rfl) g ?_ ?_; rotate_left
              · intro w9 h9; go_simp; try with_reducible rfl
              simp only [Act.put, ptA, ptB, ptC]
              refine tq 1 ?_ rfl (by kernel_rfl) (fun _ _ _ h => h) (by rfl) g ?_ ?_; rotate_left
              · intro w9 h9; go_simp; try with_reducible rfl
              simp only [Act.put, ptA, ptB, ptC]
              refine tq 2 ?_ rfl (by kernel_rfl) (fun _ _ _ h => h) (by rfl) g ?_ ?_; rotate_left
              · intro w9 h9; go_simp; try with_reducible rfl
              simp only [Act.put, ptA, ptB, ptC]
              refine tq 3 ?_ rfl (by kernel_rfl) (fun _ _ _ h => h) (by rfl) g ?_ ?_; rotate_left
              · intro w9 h9; go_simp; try with_reducible rfl
              simp only [Act.put, ptA, ptB, ptC]
              refine tq 4 ?_ rfl (by kernel_rfl) (fun _ _ _ h => h) (by rfl) g ?_ ?_; rotate_left
              · intro w9 h9; go_simp; try with_reducible rfl
              simp only [Act.put, ptA, ptB, ptC]
              refine tq 5 ?_ rfl (by kernel_rfl) (fun _ _ _ h => h) (by rfl) g ?_ ?_; rotate_left
              · intro w9 h9; go_simp; try with_reducible rfl
              simp only [Act.put, ptA, ptB, ptC]
              refine tq 6 ?_ rfl (by kernel_rfl) (fun _ _ _ h => h) (by rfl) g ?_ ?_; rotate_left
              · intro w9 h9; go_simp; try with_reducible rfl
              simp only [Act.put, ptA, ptB, ptC]
              refine tq 7 ?_ rfl (by kernel_rfl) (fun _ _ _ h => h) (by rfl) g ?_ ?_; rotate_left
              · intro w9 h9; go_simp; try with_reducible rfl
              simp only [Act.put, ptA, ptB, ptC]
              refine tq 8 ?_ rfl (by kernel_rfl) (fun _ _ _ h => h) (by rfl) g ?_ ?_; rotate_left
              · intro w9 h9; go_simp; try with_reducible rfl
              simp only [Act.put, ptA, ptB, ptC]
              refine tq 9 ?_ rfl (by kernel_rfl) (fun _ _ _ h => h) (by rfl) g ?_ ?_; rotate_left
              · intro w9 h9; go_simp; try with_reducible rfl
              simp only [Act.put, ptA, ptB, ptC]
              refine tq 10 ?_ rfl (by kernel_rfl) (fun _ _ _ h => h) (by rfl) g ?_ ?_; rotate_left
              · intro w9 h9; go_simp; try with_reducible rfl
              simp only [Act.put, ptA, ptB, ptC]
              refine tc 11 rfl (by kernel_rfl) (fun K9 hK => ?_)
              go_simp
              refine hK.out _ _ g (fun g1 => ?_)
              clear hK K9
              refine tq 12 ?_ rfl (by kernel_rfl) (fun _ _ _ h => h) (by rfl) g ?_ ?_; rotate_left
              · intro w9 h9; go_simp; try with_reducible rfl
              simp only [Act.put, ptA, ptB, ptC]
              refine tu 13 rfl (by kernel_rfl) (fun _ _ _ h => h) (by rfl) g ?_
              simp only [Act.put, ptA, ptB, ptC]
              refine tu 14 rfl (by kernel_rfl) (fun _ _ _ h => h) (by rfl) g ?_
              simp only [Act.put, ptA, ptB, ptC]
              refine tu 15 rfl (by kernel_rfl) (fun _ _ _ h => h) (by rfl) g ?_
              simp only [Act.put, ptA, ptB, ptC]
              refine tu 16 rfl (by kernel_rfl) (fun _ _ _ h => h) (by rfl) g ?_
              simp only [Act.put, ptA, ptB, ptC]
              refine tq 17 ?_ rfl (by kernel_rfl) (fun _ _ _ h => h) (by rfl) g ?_ ?_; rotate_left
              · intro w9 h9; go_simp; try with_reducible rfl
              simp only [Act.put, ptA, ptB, ptC]
              refine tq 18 ?_ rfl (by kernel_rfl) (fun _ _ _ h => h) (by rfl) g ?_ ?_; rotate_left
              · intro w9 h9; go_simp; try with_reducible rfl
              simp only [Act.put, ptA, ptB, ptC]
              refine tc 19 rfl (by kernel_rfl) (fun K9 hK => ?_)
              go_simp
              refine hK.out _ _ ⟨(World.cell?_setCell_far _ _ _ _ (by rw [add_block, add_block]; exact NV.out)).trans g.1, (World.cell?_setCell_far _ _ _ _ (by rw [add_block, add_block]; exact NR.out)).trans g.2⟩ (fun g2 => ?_)
              clear hK K9 g g1 g2
              refine wpAnyH_done (by kernel_rfl) ?_ _
              have FI2 := Lib.hid (FI1.out.put j true)
              have FN2 := Lib.hid (Fn.put FI1.out FN1.out j true)
              have FQ2 : Hid (Fq len0 nx k (r + 1) (F'.set j true)) := Lib.hid (by have h := hFq.out.step (b := true) hlr HJN.out hj HFA.out (by have h := HBK.out; simpa using h); exact h)
              clear FI1 FN1 cf ff
              go_wp2
              go_roundw
              case rel => exact ⟨r + 1, _, by go_num, by omega, FQ2, FI2, FN2⟩
              case measure => simp [intOf]; omega
        · -- the inner loop is through
          have HD : Hid (Fr len0 nx (k + 1) F') := Lib.hid (hFq.out.done (by omega))
          have l1 : ¬ (2 < ((nx k).length : Int)) := by omega
          have oX := own_cast hFn.out.own (List.length_map _) rfl
          clear hFq
          by_cases h2 : (nx k).length = 2
          · obtain ⟨av, rfl, _, hcy⟩ := (Rd.of_own oX) (by rw [zv_len, List.length_map]; omega)
            obtain ⟨x, y, hxy⟩ : ∃ x y, nx k = [x, y] := by
              match hh : nx k, h2 with
              | [x, y], _ => exact ⟨x, y, rfl⟩
            have hne := HTW.out k x y hxy
            have cx0 : wr.cell? av = some (.int .i64 (x : Int)) := hcy 0 _ (by rw [hxy]; rfl)
            have cy0 : wr.cell? ⟨av.block, av.off + 1, none⟩ = some (.int .i64 (y : Int)) := hcy 1 _ (by rw [hxy]; rfl)
            have l3 : ((x : Int) == (y : Int)) = false := by simp; omega
            have lr : ¬ ((r : Int) < 2) := by omega
            clear hcy oX hxy hne l1 hr hlr hl2
            go_wp2_with fail
            refine wp_region_held_drew (S := fun w' => w'.cell? av = some (.int .i64 (x : Int)) ∧ w'.cell? ⟨av.block, av.off + 1, none⟩ = some (.int .i64 (y : Int))) (by kernel_rfl) ⟨cx0, cy0⟩ (fun g => ?_)
            have FI1 := Lib.hid (hFi.out.next (Below.refl _ _).drew)
            clear hFi hFn cx0 cy0
            generalize wr.drew = z at *
            refine tq 0 ?_ rfl (by kernel_rfl) (fun _ _ _ h => h) (by rfl) g ?_ ?_; rotate_left
            · intro w9 h9; go_simp; try with_reducible rfl
            simp only [Act.put, ptA, ptB, ptC]
            refine tq 1 ?_ rfl (by kernel_rfl) (fun _ _ _ h => h) (by rfl) g ?_ ?_; rotate_left
            · intro w9 h9; go_simp; try with_reducible rfl
            simp only [Act.put, ptA, ptB, ptC]
            refine tq 2 ?_ rfl (by kernel_rfl) (fun _ _ _ h => h) (by rfl) g ?_ ?_; rotate_left
            · intro w9 h9; go_simp; try with_reducible rfl
            simp only [Act.put, ptA, ptB, ptC]
            refine tq 3 ?_ rfl (by kernel_rfl) (fun _ _ _ h => h) (by rfl) g ?_ ?_; rotate_left
            · intro w9 h9; go_simp; try with_reducible rfl
            simp only [Act.put, ptA, ptB, ptC]
            refine tq 4 ?_ rfl (by kernel_rfl) (fun _ _ _ h => h) (by rfl) g ?_ ?_; rotate_left
            · intro w9 h9; go_simp; try with_reducible rfl
            simp only [Act.put, ptA, ptB, ptC]
            refine tq 5 ?_ rfl (by kernel_rfl) (fun _ _ _ h => h) (by rfl) g ?_ ?_; rotate_left
            · intro w9 h9; go_simp; try with_reducible rfl
            simp only [Act.put, ptA, ptB, ptC]
            refine tq 6 ?_ rfl (by kernel_rfl) (fun _ _ _ h => h) (by rfl) g ?_ ?_; rotate_left
            · intro w9 h9; go_simp; try with_reducible rfl
            simp only [Act.put, ptA, ptB, ptC]
            refine tq 7 ?_ rfl (by kernel_rfl) (fun _ _ _ h => h) (by rfl) g ?_ ?_; rotate_left
            · intro w9 h9; go_simp; try with_reducible rfl
            simp only [Act.put, ptA, ptB, ptC]
            refine tq 8 ?_ rfl (by kernel_rfl) (fun _ _ _ h => h) (by rfl) g ?_ ?_; rotate_left
            · intro w9 h9; go_simp; try with_reducible rfl
            simp only [Act.put, ptA, ptB, ptC]
            refine tq 9 ?_ rfl (by kernel_rfl) (fun _ _ _ h => h) (by rfl) g ?_ ?_; rotate_left
            · intro w9 h9; go_simp; try with_reducible rfl
            simp only [Act.put, ptA, ptB, ptC]
            refine tq 10 ?_ rfl (by kernel_rfl) (fun _ _ _ h => h) (by rfl) g ?_ ?_; rotate_left
            · intro w9 h9; go_simp; try with_reducible rfl
            simp only [Act.put, ptA, ptB, ptC]
            refine tq 11 ?_ rfl (by kernel_rfl) (fun _ _ _ h => h) (by rfl) g ?_ ?_; rotate_left
            · intro w9 h9; go_simp; try with_reducible rfl
            simp only [Act.put, ptA, ptB, ptC]
            refine tq 12 ?_ rfl (by kernel_rfl) (fun _ _ _ h => h) (by rfl) g ?_ ?_; rotate_left
            · intro w9 h9; go_simp; try with_reducible rfl
            simp only [Act.put, ptA, ptB, ptC]
            refine tq 13 ?_ rfl (by kernel_rfl) (fun _ _ _ h => h) (by rfl) g ?_ ?_; rotate_left
            · intro w9 h9; go_simp; try with_reducible rfl
            simp only [Act.put, ptA, ptB, ptC]
            refine tq 14 ?_ rfl (by kernel_rfl) (fun _ _ _ h => h) (by rfl) g ?_ ?_; rotate_left
            · intro w9 h9; go_simp; try with_reducible rfl
            simp only [Act.put, ptA, ptB, ptC]
            refine tq 15 ?_ rfl (by kernel_rfl) (fun _ _ _ h => h) (by rfl) g ?_ ?_; rotate_left
            · intro w9 h9; go_simp; try with_reducible rfl
            simp only [Act.put, ptA, ptB, ptC]
            refine tq 16 ?_ rfl (by kernel_rfl) (fun _ _ _ h => h) (by rfl) g ?_ ?_; rotate_left
            · intro w9 h9; go_simp; try with_reducible rfl
            simp only [Act.put, ptA, ptB, ptC]
            refine wpAnyH_done (by kernel_rfl) ?_ _
            clear g
            go_wp2
            go_roundw
            case rel => exact ⟨k + 1, F', by omega, by go_num, HD, FI1⟩
            case measure => simp [intOf]; omega
          · have l2 : (((nx k).length : Int) == 2) = false := by simp; omega
            have l5 : decide (2 < ((nx k).length : Int)) = false := by simp; omega
            clear oX h2 l1
            go_wp2_with fail
            refine wp_region_held_drew (S := fun _ => True) (by kernel_rfl) trivial (fun g => ?_)
            have FI1 := Lib.hid (hFi.out.next (Below.refl _ _).drew)
            clear hFi hFn
            generalize wr.drew = z at *
            refine tq 0 ?_ rfl (by kernel_rfl) (fun _ _ _ h => h) (by rfl) g ?_ ?_; rotate_left
            · intro w9 h9; go_simp; try with_reducible rfl
            simp only [Act.put, ptA, ptB, ptC]
            refine tq 1 ?_ rfl (by kernel_rfl) (fun _ _ _ h => h) (by rfl) g ?_ ?_; rotate_left
            · intro w9 h9; go_simp; try with_reducible rfl
            simp only [Act.put, ptA, ptB, ptC]
            refine tq 2 ?_ rfl (by kernel_rfl) (fun _ _ _ h => h) (by rfl) g ?_ ?_; rotate_left
            · intro w9 h9; go_simp; try with_reducible rfl
            simp only [Act.put, ptA, ptB, ptC]
            refine tq 3 ?_ rfl (by kernel_rfl) (fun _ _ _ h => h) (by rfl) g ?_ ?_; rotate_left
            · intro w9 h9; go_simp; try with_reducible rfl
            simp only [Act.put, ptA, ptB, ptC]
            refine tq 4 ?_ rfl (by kernel_rfl) (fun _ _ _ h => h) (by rfl) g ?_ ?_; rotate_left
            · intro w9 h9; go_simp; try with_reducible rfl
            simp only [Act.put, ptA, ptB, ptC]
            refine tq 5 ?_ rfl (by kernel_rfl) (fun _ _ _ h => h) (by rfl) g ?_ ?_; rotate_left
            · intro w9 h9; go_simp; try with_reducible rfl
            simp only [Act.put, ptA, ptB, ptC]
            refine tq 6 ?_ rfl (by kernel_rfl) (fun _ _ _ h => h) (by rfl) g ?_ ?_; rotate_left
            · intro w9 h9; go_simp; try with_reducible rfl
            simp only [Act.put, ptA, ptB, ptC]
            refine tq 7 ?_ rfl (by kernel_rfl) (fun _ _ _ h => h) (by rfl) g ?_ ?_; rotate_left
            · intro w9 h9; go_simp; try with_reducible rfl
            simp only [Act.put, ptA, ptB, ptC]
            refine tu 8 rfl (by kernel_rfl) (fun _ _ _ h => h) (by rfl) g ?_
            simp only [Act.put, ptA, ptB, ptC]
            refine tu 9 rfl (by kernel_rfl) (fun _ _ _ h => h) (by rfl) g ?_
            simp only [Act.put, ptA, ptB, ptC]
            refine tu 10 rfl (by kernel_rfl) (fun _ _ _ h => h) (by rfl) g ?_
            simp only [Act.put, ptA, ptB, ptC]
            refine tu 11 rfl (by kernel_rfl) (fun _ _ _ h => h) (by rfl) g ?_
            simp only [Act.put, ptA, ptB, ptC]
            refine tu 12 rfl (by kernel_rfl) (fun _ _ _ h => h) (by rfl) g ?_
            simp only [Act.put, ptA, ptB, ptC]
            refine tu 13 rfl (by kernel_rfl) (fun _ _ _ h => h) (by rfl) g ?_
            simp only [Act.put, ptA, ptB, ptC]
            refine tu 14 rfl (by kernel_rfl) (fun _ _ _ h => h) (by rfl) g ?_
            simp only [Act.put, ptA, ptB, ptC]
            refine tq 15 ?_ rfl (by kernel_rfl) (fun _ _ _ h => h) (by rfl) g ?_ ?_; rotate_left
            · intro w9 h9; go_simp; try with_reducible rfl
            simp only [Act.put, ptA, ptB, ptC]
            refine tq 16 ?_ rfl (by kernel_rfl) (fun _ _ _ h => h) (by rfl) g ?_ ?_; rotate_left
            · intro w9 h9; go_simp; try with_reducible rfl
            simp only [Act.put, ptA, ptB, ptC]
            refine wpAnyH_done (by kernel_rfl) ?_ _
            clear g
            go_wp2
            go_roundw
            case rel => exact ⟨k + 1, F', by omega, by go_num, HD, FI1⟩
            case measure => simp [intOf]; omega
    · have e1 : F = R := by
        have e : k = len0 := by omega
        have h := hFr.out
        rw [e] at h
        exact Fr.end_ h HFD.out HLT.out h0
      have FI1 : Hid (Fi w len0 at_ ar af ct cr wr t R R) := Lib.hid (by have h := hFi.out; rw [e1] at h; exact h)
      clear hFi hFr e1
      go_wp2_with fail
      refine (same_any (some ar) (some af) len0 cr len0 R hrl hcap wr (Rd.of_own FI1.out.rc) (Rd.of_own FI1.out.fr)).mono ?_
      rintro e w4 ⟨rfl, q⟩
      have B4 := Lib.hid (below_then FI1.out.below q (Nat.le_refl _))
      clear q
      go_wp2_with fail
      refine (works_any _).mono ?_
      rintro e w5 ⟨rfl, q⟩
      have B5 := Lib.hid (below_then B4.out q (Nat.le_refl _))
      clear q
      go_wp2
      go_ret
      exact ⟨rfl, B5.out⟩

set_option maxRecDepth 100000 in
theorem lifted (os : Os) (started : os.Started) (H : Type) (enc : TypeId × Value → H) :
    ReturnsInHanded {} Try.checked os 5 .any (Rows.flowInsideSpec.pre6 enc Try.prog Try.f5 Rows.flowInsideRow.domain false) (Rows.flowInsideSpec.post enc Try.prog Try.f5 false true false false) := by
  refine returnsInHanded_of_change (C := Try.checked) own started (by kernel_rfl) Try.func5
    (ChangeSpec.witness6 (enc := enc) (C := Try.checked) false ⟨#[], #[.slice none 0 0], []⟩ 8 (by kernel_rfl) (by kernel_rfl) (by kernel_rfl) (by kernel_rfl)) ?_
  intro W base args ds gs before hval0 hW hcnd _
  have hval : ∀ (j : Nat) t v, Try.f5.params[j]? = some t → args[j]? = some v → Value.okWide Try.prog W .any base t v := hval0
  have hW' := hW
  obtain ⟨p, q, hA0, hV, rfl, hfz, hnd⟩ := hW
  have hA : DataW.TrodAll enc Try.prog W 0 (fun _ => true) true Try.f5.params.toList args.toList ds p := hA0
  rw [Try.params5] at hA hval
  obtain ⟨v0, vs0, d0, ds0, p0, q0, hargs, rfl, rfl, h0, r0⟩ := trodAll_cons hA
  obtain ⟨rfl, rfl, rfl⟩ := trodAll_nil r0
  obtain rfl : args = #[v0] := by cases args; simp_all
  obtain ⟨rfl, rfl⟩ := trodVars_none hV
  obtain ⟨a0, len0, cap0, rfl⟩ := okWide_slice Try.underlying22 (hval 0 22 v0 rfl rfl)
  have k0 := h0
  have lt0 : ∀ x ∈ p0, x.block < W.heap.size := by obtain ⟨m, hm⟩ := k0; exact DataW.trod_lt m _ _ _ hm
  obtain ⟨L0, l0, f0, c0, m0, rr0⟩ := open_insns h0
  clear hA0 hval0
  refine (walk a0 len0 cap0 L0 W l0 f0 c0 m0 rr0).mono fun e W' ⟨he, bel⟩ => ?_
  subst he
  exact ⟨_, rfl, _, _, _, [], _, [], hW', trodAll_mk1 (shut_bool Try.underlying4 _), (trodAll_cons_mk (Below.trod laidOut (by kernel_rfl) (of_decide_eq_true (by kernel_rfl)) k0 bel lt0) trodAll_mk0), rfl, bel.frame _, fun h => by cases h⟩

theorem over : Rows.flowInsideRow.holds Try.pinned (OpenSpec.ofChange Rows.flowInsideSpec) :=
  OpenClaim.holds_of_wide 5 Try.f5 rfl rfl rfl rfl rfl rfl rfl ⟨rfl, rfl, rfl, rfl, rfl⟩ rfl rfl rfl rfl rfl (by kernel_rfl) Try.func5 (by kernel_rfl)
    (of_decide_eq_true (by kernel_rfl)) (by unfold Func.isWrapper; first | (rw [if_pos (by decide +kernel)]; kernel_rfl) | (rw [if_neg (by decide +kernel)]; exact ⟨rfl, rfl⟩))
    (fun os started H enc _ => lifted os started H enc)

theorem proved : Rows.FlowInsideSaid := over
#print axioms proved
end Go.Proofs.Ytenddhhaelnnnaa.flowInside
