/-
  Proved: the statement FlowMoved: what stands ahead of a program, and is gone through, moves all its targets by as many, and changes nothing else. No conditions.
-/
import Derived.Test.YtenddhhaelnnnaaRows
import Derived.Test.YtenddhhaelnnnaaFlowMath3
import Derived.Test.YtenddhhaelnnnaaBrief
import Derived.Handy
import Derived.WalkKit
import Derived.ProofKit
import Derived.OpenShut
import Derived.ChangeOld
import Derived.Below
namespace Go.Proofs.Ytenddhhaelnnnaa.flowMoved
open Go.ChangeShapes Go.WideShapes Go.ChangeAt Go.RowKit Wi Ow
set_option linter.unusedVariables false
set_option linter.unusedSimpArgs false

theorem own : ownKnob Try.prog.godebug = none := by kernel_rfl
theorem laidOut : laidOutB Try.prog = true := by kernel_rfl

open Fl

set_option maxRecDepth 100000 in
set_option maxHeartbeats 20000000 in
theorem walk (a0 : Option Addr) (len0 cap0 : Nat) (L0 : List In) (n1 : Int) (w : World) (l0 : L0.length = len0) (f0 : ∀ x ∈ L0, x.fits) (c0 : len0 ≤ cap0) (m0 : cap0 ≤ 9223372036854775807) (r0 : Rd w w.heap.size a0 (iv L0)) (w1 : (Lit.int .i64 n1).wf = true) :
    Calls Try.prog 6 #[.slice a0 len0 cap0, .int .i64 n1] w fun e w' => e = .returned (.bool true) ∧ Below w.heap.size w w' := by
  obtain ⟨i0, hi0, hz0, hz1, hz2⟩ := info_parts insn_info
  have HF := Lib.hid f0
  have HR := Lib.hid r0
  have HL := Lib.hid l0
  have hn1 : -9223372036854775808 ≤ n1 ∧ n1 ≤ 9223372036854775807 := bounds_i64 w1
  obtain ⟨hn1a, hn1b⟩ := hn1
  clear f0 r0 l0 w1
  have hcap : len0 ≤ 9223372036854775807 := by omega
  go_enter Try.func6, Try.ntmps6
  go_wp2_with fail
  refine (right_any a0 len0 cap0 L0 HL.out hcap w HR.out).mono ?_
  rintro e w1 ⟨b, rfl, rfl, hb⟩
  have HB := Lib.hid hb
  clear hb
  cases b
  · go_wp2_with fail
    refine (works_any _).mono ?_
    rintro e w1 ⟨rfl, q1⟩
    go_wp2
    go_ret
    exact ⟨rfl, q1⟩
  obtain ⟨hok, h400⟩ := HB.out rfl
  have HO := Lib.hid hok
  clear hok HB
  rw [HL.out] at h400
  by_cases h200 : 200 < len0
  · go_wp2_with fail
    refine (works_any _).mono ?_
    rintro e w1 ⟨rfl, q1⟩
    go_wp2
    go_ret
    exact ⟨rfl, q1⟩
  go_wp2_with fail
  refine (pick_any n1 hn1a hn1b w).mono ?_
  rintro e w1 ⟨p, rfl, hp, rfl⟩
  go_wp2_with fail
  go_loopw [5, 6] (fun b i wr => ∃ k : Nat, k ≤ p ∧ i = .int .i64 k ∧ Hid (OwnI w b wr (movs k))) (fun _ i _ => p - (intOf i).toNat)
  case atStart => exact ⟨0, Nat.zero_le _, rfl, Lib.hid ⟨World.ownsRow_nil _ _ _ _, Below.refl _ _⟩⟩
  case round =>
    obtain ⟨k, hk, rfl, hO⟩ := hrel
    by_cases hlt : k < p
    · have hml := movs_len k
      go_wp2_with (at_builtin; refine wpList_append_own_at _ rfl (.tmp 31) (.tmp 34) _ rfl w.heap.size 42 i0 _ 5 40 Try.underlying22 hi0 hz0 hz1 hz2 rfl (by decide) _ _ _ rfl (hO.out.own.alloc _) ⟨wr.heap.size, 0, none⟩ 1 1 (In.cells ⟨183, 0, 0, 0, (k : Int)⟩) rfl rfl (new_cells' _ #[.int .i64 183, .int .i64 0, .int .i64 0, .int .i64 0, .int .i64 (k : Int)] rfl) (cells_one _) ?a3 ?a4 ?a5 ?_)
      case a3 => rw [hml]; unfold maxLen; omega
      case a4 => rw [hml]; omega
      case a5 => have := hO.out.below.size; simp; omega
      intro v1 w1 hown1 hg1 _ hat1
      have R1 := Lib.hid (hO.out.step hown1 (by rw [hml]) hg1)
      clear hown1 hg1 hat1 hO
      go_wp2
      go_roundw
      case rel => exact ⟨k + 1, by omega, by go_num, Lib.hid (by rw [movs_succ]; exact R1.out)⟩
      case measure => simp [intOf]; omega
    obtain rfl : k = p := by omega
    go_wp2_with fail
    go_loopw [5, 7] (fun b i wr => ∃ j : Nat, j ≤ len0 ∧ i = .int .i64 j ∧ Hid (OwnI w b wr (movs k ++ L0.take j))) (fun _ i _ => len0 - (intOf i).toNat)
    case atStart => exact ⟨0, Nat.zero_le _, rfl, Lib.hid (by have h := hO.out; simpa using h)⟩
    case round =>
      clear hO
      obtain ⟨j, hj, rfl, hO⟩ := hrel
      by_cases hlt2 : j < len0
      · have hjl : j < L0.length := by rw [HL.out]; exact hlt2
        obtain ⟨ad, rfl, _, hcx⟩ := (HR.out.below hO.out.below) (by rw [iv_len]; omega)
        obtain ⟨x0, x1, x2, x3, x4⟩ := ins_cells hcx hjl
        have HT : Hid (L0.take (j + 1) = L0.take j ++ [L0[j]]) := Lib.hid (List.take_succ_eq_append_getElem hjl)
        have hml : (movs k ++ L0.take j).length = k + j := by rw [List.length_append, movs_len, List.length_take]; omega
        generalize L0[j] = x at *
        clear hcx hjl
        have jj1 : (0 : Int) ≤ (j : Int) := by omega
        have jj2 : (j : Int) < (len0 : Int) := by omega
        go_wp2_with (at_builtin; refine wpList_append_own_at _ rfl (.tmp 42) (.tmp 47) _ rfl w.heap.size 42 i0 _ 5 40 Try.underlying22 hi0 hz0 hz1 hz2 rfl (by decide) _ _ _ rfl (hO.out.own.alloc _) ⟨wr.heap.size, 0, none⟩ 1 1 x.cells rfl rfl (new_cells' _ #[.int .i64 x.op, .int .i64 x.dst, .int .i64 x.src, .int .i64 x.off, .int .i64 x.imm] rfl) (cells_one x) ?a3 ?a4 ?a5 ?_)
        case a3 => rw [hml]; unfold maxLen; omega
        case a4 => rw [hml]; omega
        case a5 => have := hO.out.below.size; simp; omega
        intro v1 w1 hown1 hg1 _ hat1
        have R1 := Lib.hid (hO.out.step hown1 (by rw [hml]) hg1)
        clear hown1 hg1 hat1 hO
        go_wp2
        go_roundw
        case rel => exact ⟨j + 1, by omega, by go_num, Lib.hid (by have h := R1.out; rw [List.append_assoc] at h; rw [HT.out]; exact h)⟩
        case measure => simp [intOf]; omega
      have e3 : L0.take j = L0 := List.take_of_length_le (by rw [HL.out]; omega)
      have HA := Lib.hid (ahead_movs k L0)
      have HOM := Lib.hid (ok_movs k L0 HO.out)
      have hMl : (movs k ++ L0).length = k + len0 := by rw [List.length_append, movs_len, HL.out]
      have hO2 := hO.out
      rw [e3] at hO2
      generalize movs k ++ L0 = M at *
      have OM : Hid (wr.ownsRow w.heap.size 42 5 u5 (k + len0) (iv M)) := Lib.hid (own_cast hO2.own hMl rfl)
      have BM := Lib.hid hO2.below
      have HML := Lib.hid hMl
      clear hO2 hMl hO e3
      obtain ⟨AM, cM, rfl, hcM, hmM, _⟩ := own_form OM.out
      unfold maxLen at hmM
      go_wp2_with fail
      refine (targets_any a0 len0 cap0 L0 HL.out HO.out hcap wr ((HR.out.below BM.out).mono BM.out.size)).mono ?_
      rintro e w1 ⟨vt, r, rfl, q1, hg⟩
      have OM1 := Lib.hid (own_below OM.out q1)
      have B1 := Lib.hid (below_then BM.out q1 (Nat.le_refl _))
      have HG := Lib.hid hg
      clear q1 hg OM
      go_wp2_with fail
      refine (targets_any AM (k + len0) cM M HML.out HOM.out (by omega) w1 (Rd.of_own OM1.out)).mono ?_
      rintro e w2 ⟨vu, s, rfl, q2, hg2⟩
      have OM2 := Lib.hid (own_below OM1.out q2)
      have B2 := Lib.hid (below_then B1.out q2 (Nat.le_refl _))
      have HG2 := Lib.hid hg2
      have Q2 := Lib.hid q2
      clear q2 hg2 OM1
      rcases HG.out with ⟨hg, hr, o1⟩ | ⟨_, hr⟩
      case inr =>
        have hr2 : (r != 0) = true := by simpa using hr
        clear hr HG HG2
        go_wp2_with fail
        refine (works_any _).mono ?_
        rintro e w3 ⟨rfl, q3⟩
        have B3 := Lib.hid (below_then B2.out q3 (Nat.le_refl _))
        clear q3
        go_wp2
        go_ret
        exact ⟨rfl, B3.out⟩
      subst hr
      have hM : Fl.Good M := hg.moved HA.out (by rw [HL.out]; omega)
      obtain ⟨rfl, o2⟩ : s = 0 ∧ w2.ownsRow w1.heap.size 3 1 vu (k + len0) (zv (tgts M (k + len0))) := by
        rcases HG2.out with ⟨_, h1, h2⟩ | ⟨h, _⟩
        · exact ⟨h1, h2⟩
        · exact absurd hM h
      have h0 : 0 < len0 := by have := hg.some_; rw [HL.out] at this; exact this
      have GL := Lib.hid hg
      clear HG HG2 hM hg
      obtain ⟨at_, ct, rfl, hct, hmt⟩ := own_some o1 h0
      obtain ⟨au, cu, rfl, hcu, hmu⟩ := own_some o2 (by omega)
      have O1 := Lib.hid (own_below o1 Q2.out)
      have O2 := Lib.hid o2
      clear o1 o2 Q2
      have TL := Lib.hid (tgts_len L0 len0)
      have UL := Lib.hid (tgts_len M (k + len0))
      have neq : (((k + len0 : Nat) : Int) != (k : Int) + (len0 : Int)) = false := by simp
      go_wp2_with fail
      refine (reached_any a0 (some at_) len0 cap0 len0 ct L0 (tgts L0 len0) HL.out HO.out TL.out h0 (by omega) (by omega) w2 ((HR.out.below B2.out).mono B2.out.size) (Rd.of_own O1.out)).mono ?_
      rintro e w3 ⟨vr, R, rfl, o3, fR, q3⟩
      have FR := Lib.hid fR
      have OM3 := Lib.hid (own_below OM2.out q3)
      have O13 := Lib.hid (own_below O1.out q3)
      have O23 := Lib.hid (own_below O2.out q3)
      have B3 := Lib.hid (below_then B2.out q3 (Nat.le_refl _))
      obtain ⟨ar, cr, rfl, hcr, hmr⟩ := own_some o3 h0
      have O3 := Lib.hid o3
      clear o3 q3 fR OM2 O1 O2
      go_wp2_with fail
      refine (reached_any AM (some au) (k + len0) cM (k + len0) cu M (tgts M (k + len0)) HML.out HOM.out UL.out (by omega) (by omega) (by omega) w3 (Rd.of_own OM3.out) (Rd.of_own O23.out)).mono ?_
      rintro e w4 ⟨vs, S, rfl, o4, fS, q4⟩
      have FS := Lib.hid fS
      have B4 := Lib.hid (below_then B3.out q4 (Nat.le_refl _))
      obtain ⟨as_, cs, rfl, hcs, hms⟩ := own_some o4 (by omega)
      have RT := Lib.hid (Rd.of_own (own_below O13.out q4))
      have RU := Lib.hid (Rd.of_own (own_below O23.out q4))
      have RR := Lib.hid (Rd.of_own (own_below O3.out q4))
      have RS := Lib.hid (Rd.of_own o4)
      have hRl : R.length = len0 := FR.out.len
      have hSl : S.length = k + len0 := FS.out.len
      have HTV : Hid (∀ i (hi : i < len0), (zv (tgts L0 len0))[i]? = some (.int .i64 (tgtV L0 i)) ∧ (zv (tgts M (k + len0)))[k + i]? = some (.int .i64 (up k (tgtV L0 i)))) := Lib.hid fun i hi => by
        have a1 : i < (tgts L0 len0).length := by rw [TL.out]; exact hi
        have a2 : k + i < (tgts M (k + len0)).length := by rw [UL.out]; omega
        rw [zv_get _ i a1, zv_get _ (k + i) a2, tgts_get, tgt_at HA.out GL.out HL.out i hi a2]
        exact ⟨rfl, rfl⟩
      have HBV : Hid (∀ i (hi : i < len0), ∃ b : Bool, (ov R)[i]? = some (.bool b) ∧ (ov S)[k + i]? = some (.bool b)) := Lib.hid fun i hi => by
        have a1 : i < R.length := by omega
        have a2 : k + i < S.length := by omega
        exact ⟨R[i], ov_get R i a1, by rw [ov_get S (k + i) a2, same_bool HA.out GL.out HL.out FR.out FS.out i hi a1 a2]⟩
      have HGE : Hid (∀ i, tgtV L0 i = -1 ∨ 0 ≤ tgtV L0 i) := Lib.hid fun i => tgt_ge L0 i
      have HTB : Hid (∀ i, i < len0 → tgtV L0 i < 1000) := Lib.hid fun i hi => by
        unfold tgtV
        split
        · generalize ((begN L0 (i + 1)).length : Int) + offA L0 i = y
          by_cases hr : 0 ≤ y ∧ y < (begN L0 L0.length).length
          · obtain ⟨m, rfl⟩ := Int.eq_ofNat_of_zero_le hr.1
            have hm : m < (begN L0 L0.length).length := by omega
            rw [valAt_in _ m hm]
            have hge := begN_ge L0 L0.length _ (List.getElem_mem hm)
            have hll := HL.out
            omega
          · rw [valAt_out _ y hr]; decide
        · decide
      clear o4 q4 fS OM3 O13 O23 O3 FR FS
      have hlen2 : ((k + len0 : Nat) : Int) = (k : Int) + (len0 : Int) := by omega
      go_wp2_with fail
      go_loopw [14] (fun i wr => ∃ m : Nat, m ≤ len0 ∧ i = .int .i64 m ∧ Hid (Below w4.heap.size w4 wr)) (fun i _ => len0 - (intOf i).toNat)
      case atStart => exact ⟨0, Nat.zero_le _, rfl, Lib.hid (Below.refl _ _)⟩
      case round =>
        obtain ⟨m, hm, rfl, hb⟩ := hrel
        by_cases hlm : m < len0
        · obtain ⟨at2, e1, _, hct2⟩ := (RT.out.below hb.out) (by rw [zv_len, TL.out]; omega)
          obtain rfl : at_ = at2 := by injection e1
          obtain ⟨au2, e2, _, hcu2⟩ := (RU.out.below hb.out) (by rw [zv_len, UL.out]; omega)
          obtain rfl : au = au2 := by injection e2
          obtain ⟨ar2, e3, _, hcr2⟩ := (RR.out.below hb.out) (by rw [ov_len]; omega)
          obtain rfl : ar = ar2 := by injection e3
          obtain ⟨as2, e4, _, hcs2⟩ := (RS.out.below hb.out) (by rw [ov_len]; omega)
          obtain rfl : as_ = as2 := by injection e4
          obtain ⟨bb, g1, g2⟩ := HBV.out m hlm
          have ct1 := hct2 m _ (HTV.out m hlm).1
          have cu1 := hcu2 (k + m) _ (HTV.out m hlm).2
          have cr1 := hcr2 m _ g1
          have cs1 := hcs2 (k + m) _ g2
          have hge := HGE.out m
          have htb := HTB.out m hlm
          clear e1 e2 e3 e4 hct2 hcu2 hcr2 hcs2 g1 g2
          generalize tgtV L0 m = z at *
          have m1 : (0 : Int) ≤ (m : Int) := by omega
          have m2 : (m : Int) < (len0 : Int) := by omega
          have m3 : (0 : Int) ≤ (k : Int) + (m : Int) := by omega
          have m4 : (k : Int) + (m : Int) < (k : Int) + (len0 : Int) := by omega
          have m5 : IntKind.i64.wrap ((k : Int) + (m : Int)) = (k : Int) + (m : Int) := by rw [IntKind.wrap_i64]; omega
          have m6 : ((k : Int) + (m : Int)).toNat = k + m := by omega
          rcases hge with hz | hz
          · subst hz
            have cu2 : wr.cell? (au.add (k + m)) = some (.int .i64 (-1)) := cu1
            clear cu1
            cases bb
            · go_wp2_with fail
              refine wp_region_held_drew (S := fun w' => w'.cell? (at_.add m) = some (.int .i64 (-1)) ∧ w'.cell? (au.add (k + m)) = some (.int .i64 (-1)) ∧ w'.cell? (ar.add m) = some (.bool false) ∧ w'.cell? (as_.add (k + m)) = some (.bool false)) (by kernel_rfl) ⟨ct1, cu2, cr1, cs1⟩ (fun g => ?_)
              clear ct1 cu2 cr1 cs1
              have B9 : Hid (Below w4.heap.size w4 wr.drew) := Lib.hid (hb.out.drew)
              generalize wr.drew = zw at *
              refine tq 0 ?_ rfl (by kernel_rfl) (fun _ _ _ h => h) (by rfl) g ?_ ?_; rotate_left
              · intro w9 h9; go_simp; try with_reducible rfl
              simp only [Act.put, ptA, ptB, ptC]
              refine tq 1 ?_ rfl (by kernel_rfl) (fun _ _ _ h => h) (by rfl) g ?_ ?_; rotate_left
              · intro w9 h9; go_simp; try with_reducible rfl
              simp only [Act.put, ptA, ptB, ptC]
              refine tq 2 ?_ rfl (by kernel_rfl) (fun _ _ _ h => h) (by rfl) g ?_ ?_; rotate_left
              · intro w9 h9; go_simp; try with_reducible rfl
              simp only [Act.put, ptA, ptB, ptC]
              refine tq 3 ?_ rfl (by kernel_rfl) (fun _ _ _ h => h) (by rfl) g ?_ ?_; rotate_left
              · intro w9 h9; go_simp; try with_reducible rfl
              simp only [Act.put, ptA, ptB, ptC]
              refine tq 4 ?_ rfl (by kernel_rfl) (fun _ _ _ h => h) (by rfl) g ?_ ?_; rotate_left
              · intro w9 h9; go_simp; try with_reducible rfl
              simp only [Act.put, ptA, ptB, ptC]
              refine tq 5 ?_ rfl (by kernel_rfl) (fun _ _ _ h => h) (by rfl) g ?_ ?_; rotate_left
              · intro w9 h9; go_simp; try with_reducible rfl
              simp only [Act.put, ptA, ptB, ptC]
              refine tq 6 ?_ rfl (by kernel_rfl) (fun _ _ _ h => h) (by rfl) g ?_ ?_; rotate_left
              · intro w9 h9; go_simp; try with_reducible rfl
              simp only [Act.put, ptA, ptB, ptC]
              refine tq 7 ?_ rfl (by kernel_rfl) (fun _ _ _ h => h) (by rfl) g ?_ ?_; rotate_left
              · intro w9 h9; go_simp; try with_reducible rfl
              simp only [Act.put, ptA, ptB, ptC]
              refine tq 8 ?_ rfl (by kernel_rfl) (fun _ _ _ h => h) (by rfl) g ?_ ?_; rotate_left
              · intro w9 h9; go_simp; try with_reducible rfl
              simp only [Act.put, ptA, ptB, ptC]
              refine tq 9 ?_ rfl (by kernel_rfl) (fun _ _ _ h => h) (by rfl) g ?_ ?_; rotate_left
              · intro w9 h9; go_simp; try with_reducible rfl
              simp only [Act.put, ptA, ptB, ptC]
              refine tq 10 ?_ rfl (by kernel_rfl) (fun _ _ _ h => h) (by rfl) g ?_ ?_; rotate_left
              · intro w9 h9; go_simp; try with_reducible rfl
              simp only [Act.put, ptA, ptB, ptC]
              refine tq 11 ?_ rfl (by kernel_rfl) (fun _ _ _ h => h) (by rfl) g ?_ ?_; rotate_left
              · intro w9 h9; go_simp; try with_reducible rfl
              simp only [Act.put, ptA, ptB, ptC]
              refine tq 12 ?_ rfl (by kernel_rfl) (fun _ _ _ h => h) (by rfl) g ?_ ?_; rotate_left
              · intro w9 h9; go_simp; try with_reducible rfl
              simp only [Act.put, ptA, ptB, ptC]
              refine tq 13 ?_ rfl (by kernel_rfl) (fun _ _ _ h => h) (by rfl) g ?_ ?_; rotate_left
              · intro w9 h9; go_simp; try with_reducible rfl
              simp only [Act.put, ptA, ptB, ptC]
              refine tq 14 ?_ rfl (by kernel_rfl) (fun _ _ _ h => h) (by rfl) g ?_ ?_; rotate_left
              · intro w9 h9; go_simp; try with_reducible rfl
              simp only [Act.put, ptA, ptB, ptC]
              refine tq 15 ?_ rfl (by kernel_rfl) (fun _ _ _ h => h) (by rfl) g ?_ ?_; rotate_left
              · intro w9 h9; go_simp; try with_reducible rfl
              simp only [Act.put, ptA, ptB, ptC]
              refine tq 16 ?_ rfl (by kernel_rfl) (fun _ _ _ h => h) (by rfl) g ?_ ?_; rotate_left
              · intro w9 h9; go_simp; try with_reducible rfl
              simp only [Act.put, ptA, ptB, ptC]
              refine tq 17 ?_ rfl (by kernel_rfl) (fun _ _ _ h => h) (by rfl) g ?_ ?_; rotate_left
              · intro w9 h9; go_simp; try with_reducible rfl
              simp only [Act.put, ptA, ptB, ptC]
              refine tq 18 ?_ rfl (by kernel_rfl) (fun _ _ _ h => h) (by rfl) g ?_ ?_; rotate_left
              · intro w9 h9; go_simp; try with_reducible rfl
              simp only [Act.put, ptA, ptB, ptC]
              refine tq 19 ?_ rfl (by kernel_rfl) (fun _ _ _ h => h) (by rfl) g ?_ ?_; rotate_left
              · intro w9 h9; go_simp; try with_reducible rfl
              simp only [Act.put, ptA, ptB, ptC]
              refine tq 20 ?_ rfl (by kernel_rfl) (fun _ _ _ h => h) (by rfl) g ?_ ?_; rotate_left
              · intro w9 h9; go_simp; try with_reducible rfl
              simp only [Act.put, ptA, ptB, ptC]
              refine tu 21 rfl (by kernel_rfl) (fun _ _ _ h => h) (by rfl) g ?_
              simp only [Act.put, ptA, ptB, ptC]
              refine tu 22 rfl (by kernel_rfl) (fun _ _ _ h => h) (by rfl) g ?_
              simp only [Act.put, ptA, ptB, ptC]
              refine tu 23 rfl (by kernel_rfl) (fun _ _ _ h => h) (by rfl) g ?_
              simp only [Act.put, ptA, ptB, ptC]
              refine tu 24 rfl (by kernel_rfl) (fun _ _ _ h => h) (by rfl) g ?_
              simp only [Act.put, ptA, ptB, ptC]
              refine tu 25 rfl (by kernel_rfl) (fun _ _ _ h => h) (by rfl) g ?_
              simp only [Act.put, ptA, ptB, ptC]
              refine tu 26 rfl (by kernel_rfl) (fun _ _ _ h => h) (by rfl) g ?_
              simp only [Act.put, ptA, ptB, ptC]
              refine tu 27 rfl (by kernel_rfl) (fun _ _ _ h => h) (by rfl) g ?_
              simp only [Act.put, ptA, ptB, ptC]
              refine tu 28 rfl (by kernel_rfl) (fun _ _ _ h => h) (by rfl) g ?_
              simp only [Act.put, ptA, ptB, ptC]
              refine tu 29 rfl (by kernel_rfl) (fun _ _ _ h => h) (by rfl) g ?_
              simp only [Act.put, ptA, ptB, ptC]
              refine tu 30 rfl (by kernel_rfl) (fun _ _ _ h => h) (by rfl) g ?_
              simp only [Act.put, ptA, ptB, ptC]
              refine tu 31 rfl (by kernel_rfl) (fun _ _ _ h => h) (by rfl) g ?_
              simp only [Act.put, ptA, ptB, ptC]
              refine tu 32 rfl (by kernel_rfl) (fun _ _ _ h => h) (by rfl) g ?_
              simp only [Act.put, ptA, ptB, ptC]
              refine tu 33 rfl (by kernel_rfl) (fun _ _ _ h => h) (by rfl) g ?_
              simp only [Act.put, ptA, ptB, ptC]
              refine tq 34 ?_ rfl (by kernel_rfl) (fun _ _ _ h => h) (by rfl) g ?_ ?_; rotate_left
              · intro w9 h9; go_simp; try with_reducible rfl
              simp only [Act.put, ptA, ptB, ptC]
              refine tq 35 ?_ rfl (by kernel_rfl) (fun _ _ _ h => h) (by rfl) g ?_ ?_; rotate_left
              · intro w9 h9; go_simp; try with_reducible rfl
              simp only [Act.put, ptA, ptB, ptC]
              refine tq 36 ?_ rfl (by kernel_rfl) (fun _ _ _ h => h) (by rfl) g ?_ ?_; rotate_left
              · intro w9 h9; go_simp; try with_reducible rfl
              simp only [Act.put, ptA, ptB, ptC]
              refine tq 37 ?_ rfl (by kernel_rfl) (fun _ _ _ h => h) (by rfl) g ?_ ?_; rotate_left
              · intro w9 h9; go_simp; try with_reducible rfl
              simp only [Act.put, ptA, ptB, ptC]
              refine tq 38 ?_ rfl (by kernel_rfl) (fun _ _ _ h => h) (by rfl) g ?_ ?_; rotate_left
              · intro w9 h9; go_simp; try with_reducible rfl
              simp only [Act.put, ptA, ptB, ptC]
              refine tq 39 ?_ rfl (by kernel_rfl) (fun _ _ _ h => h) (by rfl) g ?_ ?_; rotate_left
              · intro w9 h9; go_simp; try with_reducible rfl
              simp only [Act.put, ptA, ptB, ptC]
              refine tq 40 ?_ rfl (by kernel_rfl) (fun _ _ _ h => h) (by rfl) g ?_ ?_; rotate_left
              · intro w9 h9; go_simp; try with_reducible rfl
              simp only [Act.put, ptA, ptB, ptC]
              refine tq 41 ?_ rfl (by kernel_rfl) (fun _ _ _ h => h) (by rfl) g ?_ ?_; rotate_left
              · intro w9 h9; go_simp; try with_reducible rfl
              simp only [Act.put, ptA, ptB, ptC]
              refine tq 42 ?_ rfl (by kernel_rfl) (fun _ _ _ h => h) (by rfl) g ?_ ?_; rotate_left
              · intro w9 h9; go_simp; try with_reducible rfl
              simp only [Act.put, ptA, ptB, ptC]
              refine tq 43 ?_ rfl (by kernel_rfl) (fun _ _ _ h => h) (by rfl) g ?_ ?_; rotate_left
              · intro w9 h9; go_simp; try with_reducible rfl
              simp only [Act.put, ptA, ptB, ptC]
              refine tq 44 ?_ rfl (by kernel_rfl) (fun _ _ _ h => h) (by rfl) g ?_ ?_; rotate_left
              · intro w9 h9; go_simp; try with_reducible rfl
              simp only [Act.put, ptA, ptB, ptC]
              refine tq 45 ?_ rfl (by kernel_rfl) (fun _ _ _ h => h) (by rfl) g ?_ ?_; rotate_left
              · intro w9 h9; go_simp; try with_reducible rfl
              simp only [Act.put, ptA, ptB, ptC]
              refine tq 46 ?_ rfl (by kernel_rfl) (fun _ _ _ h => h) (by rfl) g ?_ ?_; rotate_left
              · intro w9 h9; go_simp; try with_reducible rfl
              simp only [Act.put, ptA, ptB, ptC]
              refine tq 47 ?_ rfl (by kernel_rfl) (fun _ _ _ h => h) (by rfl) g ?_ ?_; rotate_left
              · intro w9 h9; go_simp; try with_reducible rfl
              simp only [Act.put, ptA, ptB, ptC]
              refine tq 48 ?_ rfl (by kernel_rfl) (fun _ _ _ h => h) (by rfl) g ?_ ?_; rotate_left
              · intro w9 h9; go_simp; try with_reducible rfl
              simp only [Act.put, ptA, ptB, ptC]
              refine wpAnyH_done (by kernel_rfl) ?_ _
              clear g
              go_wp2
              go_roundw
              case rel => exact ⟨m + 1, by omega, by go_num, B9⟩
              case measure => simp [intOf]; omega
            · go_wp2_with fail
              refine wp_region_held_drew (S := fun w' => w'.cell? (at_.add m) = some (.int .i64 (-1)) ∧ w'.cell? (au.add (k + m)) = some (.int .i64 (-1)) ∧ w'.cell? (ar.add m) = some (.bool true) ∧ w'.cell? (as_.add (k + m)) = some (.bool true)) (by kernel_rfl) ⟨ct1, cu2, cr1, cs1⟩ (fun g => ?_)
              clear ct1 cu2 cr1 cs1
              have B9 : Hid (Below w4.heap.size w4 wr.drew) := Lib.hid (hb.out.drew)
              generalize wr.drew = zw at *
              refine tq 0 ?_ rfl (by kernel_rfl) (fun _ _ _ h => h) (by rfl) g ?_ ?_; rotate_left
              · intro w9 h9; go_simp; try with_reducible rfl
              simp only [Act.put, ptA, ptB, ptC]
              refine tq 1 ?_ rfl (by kernel_rfl) (fun _ _ _ h => h) (by rfl) g ?_ ?_; rotate_left
              · intro w9 h9; go_simp; try with_reducible rfl
              simp only [Act.put, ptA, ptB, ptC]
              refine tq 2 ?_ rfl (by kernel_rfl) (fun _ _ _ h => h) (by rfl) g ?_ ?_; rotate_left
              · intro w9 h9; go_simp; try with_reducible rfl
              simp only [Act.put, ptA, ptB, ptC]
              refine tq 3 ?_ rfl (by kernel_rfl) (fun _ _ _ h => h) (by rfl) g ?_ ?_; rotate_left
              · intro w9 h9; go_simp; try with_reducible rfl
              simp only [Act.put, ptA, ptB, ptC]
              refine tq 4 ?_ rfl (by kernel_rfl) (fun _ _ _ h => h) (by rfl) g ?_ ?_; rotate_left
              · intro w9 h9; go_simp; try with_reducible rfl
              simp only [Act.put, ptA, ptB, ptC]
              refine tq 5 ?_ rfl (by kernel_rfl) (fun _ _ _ h => h) (by rfl) g ?_ ?_; rotate_left
              · intro w9 h9; go_simp; try with_reducible rfl
              simp only [Act.put, ptA, ptB, ptC]
              refine tq 6 ?_ rfl (by kernel_rfl) (fun _ _ _ h => h) (by rfl) g ?_ ?_; rotate_left
              · intro w9 h9; go_simp; try with_reducible rfl
              simp only [Act.put, ptA, ptB, ptC]
              refine tq 7 ?_ rfl (by kernel_rfl) (fun _ _ _ h => h) (by rfl) g ?_ ?_; rotate_left
              · intro w9 h9; go_simp; try with_reducible rfl
              simp only [Act.put, ptA, ptB, ptC]
              refine tq 8 ?_ rfl (by kernel_rfl) (fun _ _ _ h => h) (by rfl) g ?_ ?_; rotate_left
              · intro w9 h9; go_simp; try with_reducible rfl
              simp only [Act.put, ptA, ptB, ptC]
              refine tq 9 ?_ rfl (by kernel_rfl) (fun _ _ _ h => h) (by rfl) g ?_ ?_; rotate_left
              · intro w9 h9; go_simp; try with_reducible rfl
              simp only [Act.put, ptA, ptB, ptC]
              refine tq 10 ?_ rfl (by kernel_rfl) (fun _ _ _ h => h) (by rfl) g ?_ ?_; rotate_left
              · intro w9 h9; go_simp; try with_reducible rfl
              simp only [Act.put, ptA, ptB, ptC]
              refine tq 11 ?_ rfl (by kernel_rfl) (fun _ _ _ h => h) (by rfl) g ?_ ?_; rotate_left
              · intro w9 h9; go_simp; try with_reducible rfl
              simp only [Act.put, ptA, ptB, ptC]
              refine tq 12 ?_ rfl (by kernel_rfl) (fun _ _ _ h => h) (by rfl) g ?_ ?_; rotate_left
              · intro w9 h9; go_simp; try with_reducible rfl
              simp only [Act.put, ptA, ptB, ptC]
              refine tq 13 ?_ rfl (by kernel_rfl) (fun _ _ _ h => h) (by rfl) g ?_ ?_; rotate_left
              · intro w9 h9; go_simp; try with_reducible rfl
              simp only [Act.put, ptA, ptB, ptC]
              refine tq 14 ?_ rfl (by kernel_rfl) (fun _ _ _ h => h) (by rfl) g ?_ ?_; rotate_left
              · intro w9 h9; go_simp; try with_reducible rfl
              simp only [Act.put, ptA, ptB, ptC]
              refine tq 15 ?_ rfl (by kernel_rfl) (fun _ _ _ h => h) (by rfl) g ?_ ?_; rotate_left
              · intro w9 h9; go_simp; try with_reducible rfl
              simp only [Act.put, ptA, ptB, ptC]
              refine tq 16 ?_ rfl (by kernel_rfl) (fun _ _ _ h => h) (by rfl) g ?_ ?_; rotate_left
              · intro w9 h9; go_simp; try with_reducible rfl
              simp only [Act.put, ptA, ptB, ptC]
              refine tq 17 ?_ rfl (by kernel_rfl) (fun _ _ _ h => h) (by rfl) g ?_ ?_; rotate_left
              · intro w9 h9; go_simp; try with_reducible rfl
              simp only [Act.put, ptA, ptB, ptC]
              refine tq 18 ?_ rfl (by kernel_rfl) (fun _ _ _ h => h) (by rfl) g ?_ ?_; rotate_left
              · intro w9 h9; go_simp; try with_reducible rfl
              simp only [Act.put, ptA, ptB, ptC]
              refine tq 19 ?_ rfl (by kernel_rfl) (fun _ _ _ h => h) (by rfl) g ?_ ?_; rotate_left
              · intro w9 h9; go_simp; try with_reducible rfl
              simp only [Act.put, ptA, ptB, ptC]
              refine tq 20 ?_ rfl (by kernel_rfl) (fun _ _ _ h => h) (by rfl) g ?_ ?_; rotate_left
              · intro w9 h9; go_simp; try with_reducible rfl
              simp only [Act.put, ptA, ptB, ptC]
              refine tu 21 rfl (by kernel_rfl) (fun _ _ _ h => h) (by rfl) g ?_
              simp only [Act.put, ptA, ptB, ptC]
              refine tu 22 rfl (by kernel_rfl) (fun _ _ _ h => h) (by rfl) g ?_
              simp only [Act.put, ptA, ptB, ptC]
              refine tu 23 rfl (by kernel_rfl) (fun _ _ _ h => h) (by rfl) g ?_
              simp only [Act.put, ptA, ptB, ptC]
              refine tu 24 rfl (by kernel_rfl) (fun _ _ _ h => h) (by rfl) g ?_
              simp only [Act.put, ptA, ptB, ptC]
              refine tu 25 rfl (by kernel_rfl) (fun _ _ _ h => h) (by rfl) g ?_
              simp only [Act.put, ptA, ptB, ptC]
              refine tu 26 rfl (by kernel_rfl) (fun _ _ _ h => h) (by rfl) g ?_
              simp only [Act.put, ptA, ptB, ptC]
              refine tu 27 rfl (by kernel_rfl) (fun _ _ _ h => h) (by rfl) g ?_
              simp only [Act.put, ptA, ptB, ptC]
              refine tu 28 rfl (by kernel_rfl) (fun _ _ _ h => h) (by rfl) g ?_
              simp only [Act.put, ptA, ptB, ptC]
              refine tu 29 rfl (by kernel_rfl) (fun _ _ _ h => h) (by rfl) g ?_
              simp only [Act.put, ptA, ptB, ptC]
              refine tu 30 rfl (by kernel_rfl) (fun _ _ _ h => h) (by rfl) g ?_
              simp only [Act.put, ptA, ptB, ptC]
              refine tu 31 rfl (by kernel_rfl) (fun _ _ _ h => h) (by rfl) g ?_
              simp only [Act.put, ptA, ptB, ptC]
              refine tu 32 rfl (by kernel_rfl) (fun _ _ _ h => h) (by rfl) g ?_
              simp only [Act.put, ptA, ptB, ptC]
              refine tu 33 rfl (by kernel_rfl) (fun _ _ _ h => h) (by rfl) g ?_
              simp only [Act.put, ptA, ptB, ptC]
              refine tq 34 ?_ rfl (by kernel_rfl) (fun _ _ _ h => h) (by rfl) g ?_ ?_; rotate_left
              · intro w9 h9; go_simp; try with_reducible rfl
              simp only [Act.put, ptA, ptB, ptC]
              refine tq 35 ?_ rfl (by kernel_rfl) (fun _ _ _ h => h) (by rfl) g ?_ ?_; rotate_left
              · intro w9 h9; go_simp; try with_reducible rfl
              simp only [Act.put, ptA, ptB, ptC]
              refine tq 36 ?_ rfl (by kernel_rfl) (fun _ _ _ h => h) (by rfl) g ?_ ?_; rotate_left
              · intro w9 h9; go_simp; try with_reducible rfl
              simp only [Act.put, ptA, ptB, ptC]
              refine tq 37 ?_ rfl (by kernel_rfl) (fun _ _ _ h => h) (by rfl) g ?_ ?_; rotate_left
              · intro w9 h9; go_simp; try with_reducible rfl
              simp only [Act.put, ptA, ptB, ptC]
              refine tq 38 ?_ rfl (by kernel_rfl) (fun _ _ _ h => h) (by rfl) g ?_ ?_; rotate_left
              · intro w9 h9; go_simp; try with_reducible rfl
              simp only [Act.put, ptA, ptB, ptC]
              refine tq 39 ?_ rfl (by kernel_rfl) (fun _ _ _ h => h) (by rfl) g ?_ ?_; rotate_left
              · intro w9 h9; go_simp; try with_reducible rfl
              simp only [Act.put, ptA, ptB, ptC]
              refine tq 40 ?_ rfl (by kernel_rfl) (fun _ _ _ h => h) (by rfl) g ?_ ?_; rotate_left
              · intro w9 h9; go_simp; try with_reducible rfl
              simp only [Act.put, ptA, ptB, ptC]
              refine tq 41 ?_ rfl (by kernel_rfl) (fun _ _ _ h => h) (by rfl) g ?_ ?_; rotate_left
              · intro w9 h9; go_simp; try with_reducible rfl
              simp only [Act.put, ptA, ptB, ptC]
              refine tq 42 ?_ rfl (by kernel_rfl) (fun _ _ _ h => h) (by rfl) g ?_ ?_; rotate_left
              · intro w9 h9; go_simp; try with_reducible rfl
              simp only [Act.put, ptA, ptB, ptC]
              refine tq 43 ?_ rfl (by kernel_rfl) (fun _ _ _ h => h) (by rfl) g ?_ ?_; rotate_left
              · intro w9 h9; go_simp; try with_reducible rfl
              simp only [Act.put, ptA, ptB, ptC]
              refine tq 44 ?_ rfl (by kernel_rfl) (fun _ _ _ h => h) (by rfl) g ?_ ?_; rotate_left
              · intro w9 h9; go_simp; try with_reducible rfl
              simp only [Act.put, ptA, ptB, ptC]
              refine tq 45 ?_ rfl (by kernel_rfl) (fun _ _ _ h => h) (by rfl) g ?_ ?_; rotate_left
              · intro w9 h9; go_simp; try with_reducible rfl
              simp only [Act.put, ptA, ptB, ptC]
              refine tq 46 ?_ rfl (by kernel_rfl) (fun _ _ _ h => h) (by rfl) g ?_ ?_; rotate_left
              · intro w9 h9; go_simp; try with_reducible rfl
              simp only [Act.put, ptA, ptB, ptC]
              refine tq 47 ?_ rfl (by kernel_rfl) (fun _ _ _ h => h) (by rfl) g ?_ ?_; rotate_left
              · intro w9 h9; go_simp; try with_reducible rfl
              simp only [Act.put, ptA, ptB, ptC]
              refine tq 48 ?_ rfl (by kernel_rfl) (fun _ _ _ h => h) (by rfl) g ?_ ?_; rotate_left
              · intro w9 h9; go_simp; try with_reducible rfl
              simp only [Act.put, ptA, ptB, ptC]
              refine wpAnyH_done (by kernel_rfl) ?_ _
              clear g
              go_wp2
              go_roundw
              case rel => exact ⟨m + 1, by omega, by go_num, B9⟩
              case measure => simp [intOf]; omega
          · have cu2 : wr.cell? (au.add (k + m)) = some (.int .i64 (z + k)) := by rw [cu1]; unfold up; rw [if_neg (by omega)]
            have z1 : decide (z < 0) = false := by simp; omega
            have z2 : decide (0 ≤ z) = true := by simp; omega
            have z3 : IntKind.i64.wrap (z + (k : Int)) = z + (k : Int) := by rw [IntKind.wrap_i64]; omega
            clear cu1
            cases bb
            · go_wp2_with fail
              refine wp_region_held_drew (S := fun w' => w'.cell? (at_.add m) = some (.int .i64 z) ∧ w'.cell? (au.add (k + m)) = some (.int .i64 (z + k)) ∧ w'.cell? (ar.add m) = some (.bool false) ∧ w'.cell? (as_.add (k + m)) = some (.bool false)) (by kernel_rfl) ⟨ct1, cu2, cr1, cs1⟩ (fun g => ?_)
              clear ct1 cu2 cr1 cs1
              have B9 : Hid (Below w4.heap.size w4 wr.drew) := Lib.hid (hb.out.drew)
              generalize wr.drew = zw at *
              refine tq 0 ?_ rfl (by kernel_rfl) (fun _ _ _ h => h) (by rfl) g ?_ ?_; rotate_left
              · intro w9 h9; go_simp; try with_reducible rfl
              simp only [Act.put, ptA, ptB, ptC]
              refine tq 1 ?_ rfl (by kernel_rfl) (fun _ _ _ h => h) (by rfl) g ?_ ?_; rotate_left
              · intro w9 h9; go_simp; try with_reducible rfl
              simp only [Act.put, ptA, ptB, ptC]
              refine tq 2 ?_ rfl (by kernel_rfl) (fun _ _ _ h => h) (by rfl) g ?_ ?_; rotate_left
              · intro w9 h9; go_simp; try with_reducible rfl
              simp only [Act.put, ptA, ptB, ptC]
              refine tq 3 ?_ rfl (by kernel_rfl) (fun _ _ _ h => h) (by rfl) g ?_ ?_; rotate_left
              · intro w9 h9; go_simp; try with_reducible rfl
              simp only [Act.put, ptA, ptB, ptC]
              refine tq 4 ?_ rfl (by kernel_rfl) (fun _ _ _ h => h) (by rfl) g ?_ ?_; rotate_left
              · intro w9 h9; go_simp; try with_reducible rfl
              simp only [Act.put, ptA, ptB, ptC]
              refine tq 5 ?_ rfl (by kernel_rfl) (fun _ _ _ h => h) (by rfl) g ?_ ?_; rotate_left
              · intro w9 h9; go_simp; try with_reducible rfl
              simp only [Act.put, ptA, ptB, ptC]
              refine tu 6 rfl (by kernel_rfl) (fun _ _ _ h => h) (by rfl) g ?_
              simp only [Act.put, ptA, ptB, ptC]
              refine tu 7 rfl (by kernel_rfl) (fun _ _ _ h => h) (by rfl) g ?_
              simp only [Act.put, ptA, ptB, ptC]
              refine tu 8 rfl (by kernel_rfl) (fun _ _ _ h => h) (by rfl) g ?_
              simp only [Act.put, ptA, ptB, ptC]
              refine tu 9 rfl (by kernel_rfl) (fun _ _ _ h => h) (by rfl) g ?_
              simp only [Act.put, ptA, ptB, ptC]
              refine tu 10 rfl (by kernel_rfl) (fun _ _ _ h => h) (by rfl) g ?_
              simp only [Act.put, ptA, ptB, ptC]
              refine tu 11 rfl (by kernel_rfl) (fun _ _ _ h => h) (by rfl) g ?_
              simp only [Act.put, ptA, ptB, ptC]
              refine tu 12 rfl (by kernel_rfl) (fun _ _ _ h => h) (by rfl) g ?_
              simp only [Act.put, ptA, ptB, ptC]
              refine tq 13 ?_ rfl (by kernel_rfl) (fun _ _ _ h => h) (by rfl) g ?_ ?_; rotate_left
              · intro w9 h9; go_simp; try with_reducible rfl
              simp only [Act.put, ptA, ptB, ptC]
              refine tq 14 ?_ rfl (by kernel_rfl) (fun _ _ _ h => h) (by rfl) g ?_ ?_; rotate_left
              · intro w9 h9; go_simp; try with_reducible rfl
              simp only [Act.put, ptA, ptB, ptC]
              refine tq 15 ?_ rfl (by kernel_rfl) (fun _ _ _ h => h) (by rfl) g ?_ ?_; rotate_left
              · intro w9 h9; go_simp; try with_reducible rfl
              simp only [Act.put, ptA, ptB, ptC]
              refine tq 16 ?_ rfl (by kernel_rfl) (fun _ _ _ h => h) (by rfl) g ?_ ?_; rotate_left
              · intro w9 h9; go_simp; try with_reducible rfl
              simp only [Act.put, ptA, ptB, ptC]
              refine tq 17 ?_ rfl (by kernel_rfl) (fun _ _ _ h => h) (by rfl) g ?_ ?_; rotate_left
              · intro w9 h9; go_simp; try with_reducible rfl
              simp only [Act.put, ptA, ptB, ptC]
              refine tq 18 ?_ rfl (by kernel_rfl) (fun _ _ _ h => h) (by rfl) g ?_ ?_; rotate_left
              · intro w9 h9; go_simp; try with_reducible rfl
              simp only [Act.put, ptA, ptB, ptC]
              refine tq 19 ?_ rfl (by kernel_rfl) (fun _ _ _ h => h) (by rfl) g ?_ ?_; rotate_left
              · intro w9 h9; go_simp; try with_reducible rfl
              simp only [Act.put, ptA, ptB, ptC]
              refine tq 20 ?_ rfl (by kernel_rfl) (fun _ _ _ h => h) (by rfl) g ?_ ?_; rotate_left
              · intro w9 h9; go_simp; try with_reducible rfl
              simp only [Act.put, ptA, ptB, ptC]
              refine tq 21 ?_ rfl (by kernel_rfl) (fun _ _ _ h => h) (by rfl) g ?_ ?_; rotate_left
              · intro w9 h9; go_simp; try with_reducible rfl
              simp only [Act.put, ptA, ptB, ptC]
              refine tq 22 ?_ rfl (by kernel_rfl) (fun _ _ _ h => h) (by rfl) g ?_ ?_; rotate_left
              · intro w9 h9; go_simp; try with_reducible rfl
              simp only [Act.put, ptA, ptB, ptC]
              refine tq 23 ?_ rfl (by kernel_rfl) (fun _ _ _ h => h) (by rfl) g ?_ ?_; rotate_left
              · intro w9 h9; go_simp; try with_reducible rfl
              simp only [Act.put, ptA, ptB, ptC]
              refine tq 24 ?_ rfl (by kernel_rfl) (fun _ _ _ h => h) (by rfl) g ?_ ?_; rotate_left
              · intro w9 h9; go_simp; try with_reducible rfl
              simp only [Act.put, ptA, ptB, ptC]
              refine tq 25 ?_ rfl (by kernel_rfl) (fun _ _ _ h => h) (by rfl) g ?_ ?_; rotate_left
              · intro w9 h9; go_simp; try with_reducible rfl
              simp only [Act.put, ptA, ptB, ptC]
              refine tq 26 ?_ rfl (by kernel_rfl) (fun _ _ _ h => h) (by rfl) g ?_ ?_; rotate_left
              · intro w9 h9; go_simp; try with_reducible rfl
              simp only [Act.put, ptA, ptB, ptC]
              refine tq 27 ?_ rfl (by kernel_rfl) (fun _ _ _ h => h) (by rfl) g ?_ ?_; rotate_left
              · intro w9 h9; go_simp; try with_reducible rfl
              simp only [Act.put, ptA, ptB, ptC]
              refine tq 28 ?_ rfl (by kernel_rfl) (fun _ _ _ h => h) (by rfl) g ?_ ?_; rotate_left
              · intro w9 h9; go_simp; try with_reducible rfl
              simp only [Act.put, ptA, ptB, ptC]
              refine tq 29 ?_ rfl (by kernel_rfl) (fun _ _ _ h => h) (by rfl) g ?_ ?_; rotate_left
              · intro w9 h9; go_simp; try with_reducible rfl
              simp only [Act.put, ptA, ptB, ptC]
              refine tq 30 ?_ rfl (by kernel_rfl) (fun _ _ _ h => h) (by rfl) g ?_ ?_; rotate_left
              · intro w9 h9; go_simp; try with_reducible rfl
              simp only [Act.put, ptA, ptB, ptC]
              refine tq 31 ?_ rfl (by kernel_rfl) (fun _ _ _ h => h) (by rfl) g ?_ ?_; rotate_left
              · intro w9 h9; go_simp; try with_reducible rfl
              simp only [Act.put, ptA, ptB, ptC]
              refine tq 32 ?_ rfl (by kernel_rfl) (fun _ _ _ h => h) (by rfl) g ?_ ?_; rotate_left
              · intro w9 h9; go_simp; try with_reducible rfl
              simp only [Act.put, ptA, ptB, ptC]
              refine tq 33 ?_ rfl (by kernel_rfl) (fun _ _ _ h => h) (by rfl) g ?_ ?_; rotate_left
              · intro w9 h9; go_simp; try with_reducible rfl
              simp only [Act.put, ptA, ptB, ptC]
              refine tq 34 ?_ rfl (by kernel_rfl) (fun _ _ _ h => h) (by rfl) g ?_ ?_; rotate_left
              · intro w9 h9; go_simp; try with_reducible rfl
              simp only [Act.put, ptA, ptB, ptC]
              refine tq 35 ?_ rfl (by kernel_rfl) (fun _ _ _ h => h) (by rfl) g ?_ ?_; rotate_left
              · intro w9 h9; go_simp; try with_reducible rfl
              simp only [Act.put, ptA, ptB, ptC]
              refine tq 36 ?_ rfl (by kernel_rfl) (fun _ _ _ h => h) (by rfl) g ?_ ?_; rotate_left
              · intro w9 h9; go_simp; try with_reducible rfl
              simp only [Act.put, ptA, ptB, ptC]
              refine tq 37 ?_ rfl (by kernel_rfl) (fun _ _ _ h => h) (by rfl) g ?_ ?_; rotate_left
              · intro w9 h9; go_simp; try with_reducible rfl
              simp only [Act.put, ptA, ptB, ptC]
              refine tq 38 ?_ rfl (by kernel_rfl) (fun _ _ _ h => h) (by rfl) g ?_ ?_; rotate_left
              · intro w9 h9; go_simp; try with_reducible rfl
              simp only [Act.put, ptA, ptB, ptC]
              refine tq 39 ?_ rfl (by kernel_rfl) (fun _ _ _ h => h) (by rfl) g ?_ ?_; rotate_left
              · intro w9 h9; go_simp; try with_reducible rfl
              simp only [Act.put, ptA, ptB, ptC]
              refine tq 40 ?_ rfl (by kernel_rfl) (fun _ _ _ h => h) (by rfl) g ?_ ?_; rotate_left
              · intro w9 h9; go_simp; try with_reducible rfl
              simp only [Act.put, ptA, ptB, ptC]
              refine tq 41 ?_ rfl (by kernel_rfl) (fun _ _ _ h => h) (by rfl) g ?_ ?_; rotate_left
              · intro w9 h9; go_simp; try with_reducible rfl
              simp only [Act.put, ptA, ptB, ptC]
              refine tq 42 ?_ rfl (by kernel_rfl) (fun _ _ _ h => h) (by rfl) g ?_ ?_; rotate_left
              · intro w9 h9; go_simp; try with_reducible rfl
              simp only [Act.put, ptA, ptB, ptC]
              refine tq 43 ?_ rfl (by kernel_rfl) (fun _ _ _ h => h) (by rfl) g ?_ ?_; rotate_left
              · intro w9 h9; go_simp; try with_reducible rfl
              simp only [Act.put, ptA, ptB, ptC]
              refine tq 44 ?_ rfl (by kernel_rfl) (fun _ _ _ h => h) (by rfl) g ?_ ?_; rotate_left
              · intro w9 h9; go_simp; try with_reducible rfl
              simp only [Act.put, ptA, ptB, ptC]
              refine tq 45 ?_ rfl (by kernel_rfl) (fun _ _ _ h => h) (by rfl) g ?_ ?_; rotate_left
              · intro w9 h9; go_simp; try with_reducible rfl
              simp only [Act.put, ptA, ptB, ptC]
              refine tq 46 ?_ rfl (by kernel_rfl) (fun _ _ _ h => h) (by rfl) g ?_ ?_; rotate_left
              · intro w9 h9; go_simp; try with_reducible rfl
              simp only [Act.put, ptA, ptB, ptC]
              refine tq 47 ?_ rfl (by kernel_rfl) (fun _ _ _ h => h) (by rfl) g ?_ ?_; rotate_left
              · intro w9 h9; go_simp; try with_reducible rfl
              simp only [Act.put, ptA, ptB, ptC]
              refine tq 48 ?_ rfl (by kernel_rfl) (fun _ _ _ h => h) (by rfl) g ?_ ?_; rotate_left
              · intro w9 h9; go_simp; try with_reducible rfl
              simp only [Act.put, ptA, ptB, ptC]
              refine wpAnyH_done (by kernel_rfl) ?_ _
              clear g
              go_wp2
              go_roundw
              case rel => exact ⟨m + 1, by omega, by go_num, B9⟩
              case measure => simp [intOf]; omega
            · go_wp2_with fail
              refine wp_region_held_drew (S := fun w' => w'.cell? (at_.add m) = some (.int .i64 z) ∧ w'.cell? (au.add (k + m)) = some (.int .i64 (z + k)) ∧ w'.cell? (ar.add m) = some (.bool true) ∧ w'.cell? (as_.add (k + m)) = some (.bool true)) (by kernel_rfl) ⟨ct1, cu2, cr1, cs1⟩ (fun g => ?_)
              clear ct1 cu2 cr1 cs1
              have B9 : Hid (Below w4.heap.size w4 wr.drew) := Lib.hid (hb.out.drew)
              generalize wr.drew = zw at *
              refine tq 0 ?_ rfl (by kernel_rfl) (fun _ _ _ h => h) (by rfl) g ?_ ?_; rotate_left
              · intro w9 h9; go_simp; try with_reducible rfl
              simp only [Act.put, ptA, ptB, ptC]
              refine tq 1 ?_ rfl (by kernel_rfl) (fun _ _ _ h => h) (by rfl) g ?_ ?_; rotate_left
              · intro w9 h9; go_simp; try with_reducible rfl
              simp only [Act.put, ptA, ptB, ptC]
              refine tq 2 ?_ rfl (by kernel_rfl) (fun _ _ _ h => h) (by rfl) g ?_ ?_; rotate_left
              · intro w9 h9; go_simp; try with_reducible rfl
              simp only [Act.put, ptA, ptB, ptC]
              refine tq 3 ?_ rfl (by kernel_rfl) (fun _ _ _ h => h) (by rfl) g ?_ ?_; rotate_left
              · intro w9 h9; go_simp; try with_reducible rfl
              simp only [Act.put, ptA, ptB, ptC]
              refine tq 4 ?_ rfl (by kernel_rfl) (fun _ _ _ h => h) (by rfl) g ?_ ?_; rotate_left
              · intro w9 h9; go_simp; try with_reducible rfl
              simp only [Act.put, ptA, ptB, ptC]
              refine tq 5 ?_ rfl (by kernel_rfl) (fun _ _ _ h => h) (by rfl) g ?_ ?_; rotate_left
              · intro w9 h9; go_simp; try with_reducible rfl
              simp only [Act.put, ptA, ptB, ptC]
              refine tu 6 rfl (by kernel_rfl) (fun _ _ _ h => h) (by rfl) g ?_
              simp only [Act.put, ptA, ptB, ptC]
              refine tu 7 rfl (by kernel_rfl) (fun _ _ _ h => h) (by rfl) g ?_
              simp only [Act.put, ptA, ptB, ptC]
              refine tu 8 rfl (by kernel_rfl) (fun _ _ _ h => h) (by rfl) g ?_
              simp only [Act.put, ptA, ptB, ptC]
              refine tu 9 rfl (by kernel_rfl) (fun _ _ _ h => h) (by rfl) g ?_
              simp only [Act.put, ptA, ptB, ptC]
              refine tu 10 rfl (by kernel_rfl) (fun _ _ _ h => h) (by rfl) g ?_
              simp only [Act.put, ptA, ptB, ptC]
              refine tu 11 rfl (by kernel_rfl) (fun _ _ _ h => h) (by rfl) g ?_
              simp only [Act.put, ptA, ptB, ptC]
              refine tu 12 rfl (by kernel_rfl) (fun _ _ _ h => h) (by rfl) g ?_
              simp only [Act.put, ptA, ptB, ptC]
              refine tq 13 ?_ rfl (by kernel_rfl) (fun _ _ _ h => h) (by rfl) g ?_ ?_; rotate_left
              · intro w9 h9; go_simp; try with_reducible rfl
              simp only [Act.put, ptA, ptB, ptC]
              refine tq 14 ?_ rfl (by kernel_rfl) (fun _ _ _ h => h) (by rfl) g ?_ ?_; rotate_left
              · intro w9 h9; go_simp; try with_reducible rfl
              simp only [Act.put, ptA, ptB, ptC]
              refine tq 15 ?_ rfl (by kernel_rfl) (fun _ _ _ h => h) (by rfl) g ?_ ?_; rotate_left
              · intro w9 h9; go_simp; try with_reducible rfl
              simp only [Act.put, ptA, ptB, ptC]
              refine tq 16 ?_ rfl (by kernel_rfl) (fun _ _ _ h => h) (by rfl) g ?_ ?_; rotate_left
              · intro w9 h9; go_simp; try with_reducible rfl
              simp only [Act.put, ptA, ptB, ptC]
              refine tq 17 ?_ rfl (by kernel_rfl) (fun _ _ _ h => h) (by rfl) g ?_ ?_; rotate_left
              · intro w9 h9; go_simp; try with_reducible rfl
              simp only [Act.put, ptA, ptB, ptC]
              refine tq 18 ?_ rfl (by kernel_rfl) (fun _ _ _ h => h) (by rfl) g ?_ ?_; rotate_left
              · intro w9 h9; go_simp; try with_reducible rfl
              simp only [Act.put, ptA, ptB, ptC]
              refine tq 19 ?_ rfl (by kernel_rfl) (fun _ _ _ h => h) (by rfl) g ?_ ?_; rotate_left
              · intro w9 h9; go_simp; try with_reducible rfl
              simp only [Act.put, ptA, ptB, ptC]
              refine tq 20 ?_ rfl (by kernel_rfl) (fun _ _ _ h => h) (by rfl) g ?_ ?_; rotate_left
              · intro w9 h9; go_simp; try with_reducible rfl
              simp only [Act.put, ptA, ptB, ptC]
              refine tq 21 ?_ rfl (by kernel_rfl) (fun _ _ _ h => h) (by rfl) g ?_ ?_; rotate_left
              · intro w9 h9; go_simp; try with_reducible rfl
              simp only [Act.put, ptA, ptB, ptC]
              refine tq 22 ?_ rfl (by kernel_rfl) (fun _ _ _ h => h) (by rfl) g ?_ ?_; rotate_left
              · intro w9 h9; go_simp; try with_reducible rfl
              simp only [Act.put, ptA, ptB, ptC]
              refine tq 23 ?_ rfl (by kernel_rfl) (fun _ _ _ h => h) (by rfl) g ?_ ?_; rotate_left
              · intro w9 h9; go_simp; try with_reducible rfl
              simp only [Act.put, ptA, ptB, ptC]
              refine tq 24 ?_ rfl (by kernel_rfl) (fun _ _ _ h => h) (by rfl) g ?_ ?_; rotate_left
              · intro w9 h9; go_simp; try with_reducible rfl
              simp only [Act.put, ptA, ptB, ptC]
              refine tq 25 ?_ rfl (by kernel_rfl) (fun _ _ _ h => h) (by rfl) g ?_ ?_; rotate_left
              · intro w9 h9; go_simp; try with_reducible rfl
              simp only [Act.put, ptA, ptB, ptC]
              refine tq 26 ?_ rfl (by kernel_rfl) (fun _ _ _ h => h) (by rfl) g ?_ ?_; rotate_left
              · intro w9 h9; go_simp; try with_reducible rfl
              simp only [Act.put, ptA, ptB, ptC]
              refine tq 27 ?_ rfl (by kernel_rfl) (fun _ _ _ h => h) (by rfl) g ?_ ?_; rotate_left
              · intro w9 h9; go_simp; try with_reducible rfl
              simp only [Act.put, ptA, ptB, ptC]
              refine tq 28 ?_ rfl (by kernel_rfl) (fun _ _ _ h => h) (by rfl) g ?_ ?_; rotate_left
              · intro w9 h9; go_simp; try with_reducible rfl
              simp only [Act.put, ptA, ptB, ptC]
              refine tq 29 ?_ rfl (by kernel_rfl) (fun _ _ _ h => h) (by rfl) g ?_ ?_; rotate_left
              · intro w9 h9; go_simp; try with_reducible rfl
              simp only [Act.put, ptA, ptB, ptC]
              refine tq 30 ?_ rfl (by kernel_rfl) (fun _ _ _ h => h) (by rfl) g ?_ ?_; rotate_left
              · intro w9 h9; go_simp; try with_reducible rfl
              simp only [Act.put, ptA, ptB, ptC]
              refine tq 31 ?_ rfl (by kernel_rfl) (fun _ _ _ h => h) (by rfl) g ?_ ?_; rotate_left
              · intro w9 h9; go_simp; try with_reducible rfl
              simp only [Act.put, ptA, ptB, ptC]
              refine tq 32 ?_ rfl (by kernel_rfl) (fun _ _ _ h => h) (by rfl) g ?_ ?_; rotate_left
              · intro w9 h9; go_simp; try with_reducible rfl
              simp only [Act.put, ptA, ptB, ptC]
              refine tq 33 ?_ rfl (by kernel_rfl) (fun _ _ _ h => h) (by rfl) g ?_ ?_; rotate_left
              · intro w9 h9; go_simp; try with_reducible rfl
              simp only [Act.put, ptA, ptB, ptC]
              refine tq 34 ?_ rfl (by kernel_rfl) (fun _ _ _ h => h) (by rfl) g ?_ ?_; rotate_left
              · intro w9 h9; go_simp; try with_reducible rfl
              simp only [Act.put, ptA, ptB, ptC]
              refine tq 35 ?_ rfl (by kernel_rfl) (fun _ _ _ h => h) (by rfl) g ?_ ?_; rotate_left
              · intro w9 h9; go_simp; try with_reducible rfl
              simp only [Act.put, ptA, ptB, ptC]
              refine tq 36 ?_ rfl (by kernel_rfl) (fun _ _ _ h => h) (by rfl) g ?_ ?_; rotate_left
              · intro w9 h9; go_simp; try with_reducible rfl
              simp only [Act.put, ptA, ptB, ptC]
              refine tq 37 ?_ rfl (by kernel_rfl) (fun _ _ _ h => h) (by rfl) g ?_ ?_; rotate_left
              · intro w9 h9; go_simp; try with_reducible rfl
              simp only [Act.put, ptA, ptB, ptC]
              refine tq 38 ?_ rfl (by kernel_rfl) (fun _ _ _ h => h) (by rfl) g ?_ ?_; rotate_left
              · intro w9 h9; go_simp; try with_reducible rfl
              simp only [Act.put, ptA, ptB, ptC]
              refine tq 39 ?_ rfl (by kernel_rfl) (fun _ _ _ h => h) (by rfl) g ?_ ?_; rotate_left
              · intro w9 h9; go_simp; try with_reducible rfl
              simp only [Act.put, ptA, ptB, ptC]
              refine tq 40 ?_ rfl (by kernel_rfl) (fun _ _ _ h => h) (by rfl) g ?_ ?_; rotate_left
              · intro w9 h9; go_simp; try with_reducible rfl
              simp only [Act.put, ptA, ptB, ptC]
              refine tq 41 ?_ rfl (by kernel_rfl) (fun _ _ _ h => h) (by rfl) g ?_ ?_; rotate_left
              · intro w9 h9; go_simp; try with_reducible rfl
              simp only [Act.put, ptA, ptB, ptC]
              refine tq 42 ?_ rfl (by kernel_rfl) (fun _ _ _ h => h) (by rfl) g ?_ ?_; rotate_left
              · intro w9 h9; go_simp; try with_reducible rfl
              simp only [Act.put, ptA, ptB, ptC]
              refine tq 43 ?_ rfl (by kernel_rfl) (fun _ _ _ h => h) (by rfl) g ?_ ?_; rotate_left
              · intro w9 h9; go_simp; try with_reducible rfl
              simp only [Act.put, ptA, ptB, ptC]
              refine tq 44 ?_ rfl (by kernel_rfl) (fun _ _ _ h => h) (by rfl) g ?_ ?_; rotate_left
              · intro w9 h9; go_simp; try with_reducible rfl
              simp only [Act.put, ptA, ptB, ptC]
              refine tq 45 ?_ rfl (by kernel_rfl) (fun _ _ _ h => h) (by rfl) g ?_ ?_; rotate_left
              · intro w9 h9; go_simp; try with_reducible rfl
              simp only [Act.put, ptA, ptB, ptC]
              refine tq 46 ?_ rfl (by kernel_rfl) (fun _ _ _ h => h) (by rfl) g ?_ ?_; rotate_left
              · intro w9 h9; go_simp; try with_reducible rfl
              simp only [Act.put, ptA, ptB, ptC]
              refine tq 47 ?_ rfl (by kernel_rfl) (fun _ _ _ h => h) (by rfl) g ?_ ?_; rotate_left
              · intro w9 h9; go_simp; try with_reducible rfl
              simp only [Act.put, ptA, ptB, ptC]
              refine tq 48 ?_ rfl (by kernel_rfl) (fun _ _ _ h => h) (by rfl) g ?_ ?_; rotate_left
              · intro w9 h9; go_simp; try with_reducible rfl
              simp only [Act.put, ptA, ptB, ptC]
              refine wpAnyH_done (by kernel_rfl) ?_ _
              clear g
              go_wp2
              go_roundw
              case rel => exact ⟨m + 1, by omega, by go_num, B9⟩
              case measure => simp [intOf]; omega
        · go_wp2_with fail
          refine (works_any _).mono ?_
          rintro e w5 ⟨rfl, q5⟩
          have B5 := Lib.hid (below_then (below_then B4.out hb.out (Nat.le_refl _)) q5 (Nat.le_refl _))
          clear q5
          go_wp2
          go_ret
          exact ⟨rfl, B5.out⟩

set_option maxRecDepth 100000 in
theorem lifted (os : Os) (started : os.Started) (H : Type) (enc : TypeId × Value → H) :
    ReturnsInHanded {} Try.checked os 6 .any (Rows.flowMovedSpec.pre6 enc Try.prog Try.f6 Rows.flowMovedRow.domain false) (Rows.flowMovedSpec.post enc Try.prog Try.f6 false true false false) := by
  refine returnsInHanded_of_change (C := Try.checked) own started (by kernel_rfl) Try.func6
    (ChangeSpec.witness6 (enc := enc) (C := Try.checked) false ⟨#[], #[.slice none 0 0, .int .i64 0], []⟩ 8 (by kernel_rfl) (by kernel_rfl) (by kernel_rfl) (by kernel_rfl)) ?_
  intro W base args ds gs before hval0 hW hcnd _
  have hval : ∀ (j : Nat) t v, Try.f6.params[j]? = some t → args[j]? = some v → Value.okWide Try.prog W .any base t v := hval0
  have hW' := hW
  obtain ⟨p, q, hA0, hV, rfl, hfz, hnd⟩ := hW
  have hA : DataW.TrodAll enc Try.prog W 0 (fun _ => true) true Try.f6.params.toList args.toList ds p := hA0
  rw [Try.params6] at hA hval
  obtain ⟨v0, vs0, d0, ds0, p0, q0, hargs, rfl, rfl, h0, r0⟩ := trodAll_cons hA
  obtain ⟨v1, vs1, d1, ds1, p1, q1, rfl, rfl, rfl, h1, r1⟩ := trodAll_cons r0
  obtain ⟨rfl, rfl, rfl⟩ := trodAll_nil r1
  obtain rfl : args = #[v0, v1] := by cases args; simp_all
  obtain ⟨rfl, rfl⟩ := trodVars_none hV
  obtain ⟨a0, len0, cap0, rfl⟩ := okWide_slice Try.underlying22 (hval 0 22 v0 rfl rfl)
  have k0 := h0
  have lt0 : ∀ x ∈ p0, x.block < W.heap.size := by obtain ⟨m, hm⟩ := k0; exact DataW.trod_lt m _ _ _ hm
  obtain ⟨L0, l0, f0, c0, m0, rr0⟩ := open_insns h0
  obtain ⟨n1, rfl, rfl, rfl, w1⟩ := open_int Try.underlying3 (hval 1 3 v1 rfl rfl) h1
  clear hA0 hval0
  refine (walk a0 len0 cap0 L0 n1 W l0 f0 c0 m0 rr0 w1).mono fun e W' ⟨he, bel⟩ => ?_
  subst he
  exact ⟨_, rfl, _, _, _, [], _, [], hW', trodAll_mk1 (shut_bool Try.underlying4 _), (trodAll_cons_mk (Below.trod laidOut (by kernel_rfl) (of_decide_eq_true (by kernel_rfl)) k0 bel lt0) (trodAll_cons_mk (shut_int Try.underlying3 w1) trodAll_mk0)), rfl, bel.frame _, fun h => by cases h⟩

theorem over : Rows.flowMovedRow.holds Try.pinned (OpenSpec.ofChange Rows.flowMovedSpec) :=
  OpenClaim.holds_of_wide 6 Try.f6 rfl rfl rfl rfl rfl rfl rfl ⟨rfl, rfl, rfl, rfl, rfl⟩ rfl rfl rfl rfl rfl (by kernel_rfl) Try.func6 (by kernel_rfl)
    (of_decide_eq_true (by kernel_rfl)) (by unfold Func.isWrapper; first | (rw [if_pos (by decide +kernel)]; kernel_rfl) | (rw [if_neg (by decide +kernel)]; exact ⟨rfl, rfl⟩))
    (fun os started H enc _ => lifted os started H enc)

theorem proved : Rows.FlowMovedSaid := over
#print axioms proved
end Go.Proofs.Ytenddhhaelnnnaa.flowMoved
