/-
  Proved: the statement InsnKnown: each operation that a byte may be, with fields about their ends, as many instructions as may be and one more, bytes as many as may be and more, are as the document says. No conditions.
-/
import Derived.Test.YtlimhdnpdhjdaaaRows
import Derived.Deep.RegionHeld3
import Derived.Test.YtlimhdnpdhjdaaaInsnOpen
import Derived.Test.YtlimhdnpdhjdaaaInsnWorks
import Derived.Test.YtlimhdnpdhjdaaaInsnChecksLaw
import Derived.Test.YtlimhdnpdhjdaaaInsnPutsLaw
import Derived.Test.YtlimhdnpdhjdaaaInsnGetsLaw
import Derived.Test.YtlimhdnpdhjdaaaInsnBackLaw
import Derived.Test.YtlimhdnpdhjdaaaInsnCutLaw
import Derived.Test.YtlimhdnpdhjdaaaInsnKnownR
import Derived.WalkKit
import Derived.ProofKit
import Derived.OpenShut
import Derived.ChangeOld
import Derived.Below
namespace Go.Proofs.Ytlimhdnpdhjdaaa.insnKnown
open Go.ChangeShapes Go.WideShapes Go.ChangeAt Go.RowKit Wi Ow
set_option linter.unusedVariables false
set_option linter.unusedSimpArgs false

theorem own : ownKnob Try.prog.godebug = none := by kernel_rfl
theorem laidOut : laidOutB Try.prog = true := by kernel_rfl



set_option maxRecDepth 100000 in
set_option maxHeartbeats 4000000 in
theorem walk (w : World) :
    Calls Try.prog 10 #[] w fun e w' => e = .returned (.bool true) ∧ Below w.heap.size w w' := by
  go_enter Try.func10, Try.ntmps10
  go_wp2_with fail
  have N := Lib.hid (Bk.new w 3 #[.int .i64 (-9223372036854775808), .int .i64 (-2147483648), .int .i64 (-2147483649), .int .i64 (-32769), .int .i64 (-32768), .int .i64 (-1), .int .i64 0, .int .i64 1, .int .i64 8, .int .i64 9, .int .i64 10, .int .i64 11, .int .i64 16, .int .i64 32, .int .i64 64, .int .i64 32767, .int .i64 32768, .int .i64 2147483647, .int .i64 2147483648, .int .i64 9223372036854775807])
  have HB := Lib.hid ((Below.refl w.heap.size w).alloc (Nat.le_refl _) (.cells #[.int .i64 (-9223372036854775808), .int .i64 (-2147483648), .int .i64 (-2147483649), .int .i64 (-32769), .int .i64 (-32768), .int .i64 (-1), .int .i64 0, .int .i64 1, .int .i64 8, .int .i64 9, .int .i64 10, .int .i64 11, .int .i64 16, .int .i64 32, .int .i64 64, .int .i64 32767, .int .i64 32768, .int .i64 2147483647, .int .i64 2147483648, .int .i64 9223372036854775807] 3))
  generalize World.alloc w (.cells #[.int .i64 (-9223372036854775808), .int .i64 (-2147483648), .int .i64 (-2147483649), .int .i64 (-32769), .int .i64 (-32768), .int .i64 (-1), .int .i64 0, .int .i64 1, .int .i64 8, .int .i64 9, .int .i64 10, .int .i64 11, .int .i64 16, .int .i64 32, .int .i64 64, .int .i64 32767, .int .i64 32768, .int .i64 2147483647, .int .i64 2147483648, .int .i64 9223372036854775807] 3) = v0 at *
  go_loopw [2] (fun s wr => ∃ op : Int, -1 ≤ op ∧ op ≤ 257 ∧ s = .int .i64 op ∧ Hid (Bk wr w.heap.size 3 #[.int .i64 (-9223372036854775808), .int .i64 (-2147483648), .int .i64 (-2147483649), .int .i64 (-32769), .int .i64 (-32768), .int .i64 (-1), .int .i64 0, .int .i64 1, .int .i64 8, .int .i64 9, .int .i64 10, .int .i64 11, .int .i64 16, .int .i64 32, .int .i64 64, .int .i64 32767, .int .i64 32768, .int .i64 2147483647, .int .i64 2147483648, .int .i64 9223372036854775807]) ∧ Hid (Below w.heap.size w wr)) (fun s _ => (257 - intOf s).toNat)
  case atStart => exact ⟨-1, by omega, by omega, rfl, N, HB⟩
  case round =>
    clear N HB
    obtain ⟨op, ho1, ho2, rfl, N, HB⟩ := hrel
    have z0 : i64 0 := by unfold i64; omega
    have z1 : i64 1 := by unfold i64; omega
    have z10 : i64 10 := by unfold i64; omega
    have z16 : i64 16 := by unfold i64; omega
    by_cases hlt : op ≤ 256
    · focus
        have oo : i64 op := by unfold i64; omega
        have y1 : 0 ≤ op % 256 ∧ op % 256 ≤ 255 := by omega
        have Y1 := Lib.hid y1
        clear y1
        go_wp2_with fail
        with_reducible refine (kchk op 0 0 0 0 oo z0 z0 z0 z0 _).mono ?_
        rintro e9 w1 ⟨rfl, qb⟩
        replace N := Lib.hid (bkk N.out qb)
        replace HB := Lib.hid (below_then HB.out qb (Nat.le_refl _))
        clear qb
        go_wp2_with fail
        with_reducible refine (kchk op 10 0 0 0 oo z10 z0 z0 z0 _).mono ?_
        rintro e9 w2 ⟨rfl, qb⟩
        replace N := Lib.hid (bkk N.out qb)
        replace HB := Lib.hid (below_then HB.out qb (Nat.le_refl _))
        clear qb
        go_wp2_with fail
        with_reducible refine (kchk op 0 1 0 0 oo z0 z1 z0 z0 _).mono ?_
        rintro e9 w3 ⟨rfl, qb⟩
        replace N := Lib.hid (bkk N.out qb)
        replace HB := Lib.hid (below_then HB.out qb (Nat.le_refl _))
        clear qb
        go_wp2_with fail
        with_reducible refine (kchk op 0 0 0 16 oo z0 z0 z0 z16 _).mono ?_
        rintro e9 w4 ⟨rfl, qb⟩
        replace N := Lib.hid (bkk N.out qb)
        replace HB := Lib.hid (below_then HB.out qb (Nat.le_refl _))
        clear qb
        go_wp2_with fail
        with_reducible refine (kchk op 0 0 1 0 oo z0 z0 z1 z0 _).mono ?_
        rintro e9 w5 ⟨rfl, qb⟩
        replace N := Lib.hid (bkk N.out qb)
        replace HB := Lib.hid (below_then HB.out qb (Nat.le_refl _))
        clear qb
        go_wp2_with fail
        with_reducible refine (kg1 _ Y1.out _).mono ?_
        rintro e9 w6 ⟨rfl, qb⟩
        replace N := Lib.hid (bkk N.out qb)
        replace HB := Lib.hid (below_then HB.out qb (Nat.le_refl _))
        clear qb
        go_wp2_with fail
        with_reducible refine (kg2 _ Y1.out _).mono ?_
        rintro e9 w7 ⟨rfl, qb⟩
        replace N := Lib.hid (bkk N.out qb)
        replace HB := Lib.hid (below_then HB.out qb (Nat.le_refl _))
        clear qb
        go_wp2_with fail
        go_roundw
        case rel => exact ⟨op + 1, by omega, by omega, by first | rfl | go_num, N, HB⟩
        case measure => simp [intOf]; omega
    · skip
      go_wp2_with fail
      have O := Lib.hid (Bk.new wr 3 #[.int .i64 24, .int .i64 97, .int .i64 98, .int .i64 99, .int .i64 121, .int .i64 183, .int .i64 191, .int .i64 135, .int .i64 212, .int .i64 220, .int .i64 5, .int .i64 21, .int .i64 29, .int .i64 22, .int .i64 133, .int .i64 149])
      replace N := Lib.hid (N.out.alloc (.cells #[.int .i64 24, .int .i64 97, .int .i64 98, .int .i64 99, .int .i64 121, .int .i64 183, .int .i64 191, .int .i64 135, .int .i64 212, .int .i64 220, .int .i64 5, .int .i64 21, .int .i64 29, .int .i64 22, .int .i64 133, .int .i64 149] 3))
      replace HB := Lib.hid (HB.out.alloc HB.out.size (.cells #[.int .i64 24, .int .i64 97, .int .i64 98, .int .i64 99, .int .i64 121, .int .i64 183, .int .i64 191, .int .i64 135, .int .i64 212, .int .i64 220, .int .i64 5, .int .i64 21, .int .i64 29, .int .i64 22, .int .i64 133, .int .i64 149] 3))
      generalize World.alloc wr (.cells #[.int .i64 24, .int .i64 97, .int .i64 98, .int .i64 99, .int .i64 121, .int .i64 183, .int .i64 191, .int .i64 135, .int .i64 212, .int .i64 220, .int .i64 5, .int .i64 21, .int .i64 29, .int .i64 22, .int .i64 133, .int .i64 149] 3) = v1 at *
      generalize hgo : wr.heap.size = go at *
      clear hgo
      go_loopw [4] (fun s wr => ∃ k : Nat, k ≤ 16 ∧ s = .int .i64 k ∧ Hid (Bk wr w.heap.size 3 #[.int .i64 (-9223372036854775808), .int .i64 (-2147483648), .int .i64 (-2147483649), .int .i64 (-32769), .int .i64 (-32768), .int .i64 (-1), .int .i64 0, .int .i64 1, .int .i64 8, .int .i64 9, .int .i64 10, .int .i64 11, .int .i64 16, .int .i64 32, .int .i64 64, .int .i64 32767, .int .i64 32768, .int .i64 2147483647, .int .i64 2147483648, .int .i64 9223372036854775807]) ∧ Hid (Bk wr go 3 #[.int .i64 24, .int .i64 97, .int .i64 98, .int .i64 99, .int .i64 121, .int .i64 183, .int .i64 191, .int .i64 135, .int .i64 212, .int .i64 220, .int .i64 5, .int .i64 21, .int .i64 29, .int .i64 22, .int .i64 133, .int .i64 149]) ∧ Hid (Below w.heap.size w wr)) (fun s _ => 16 - (intOf s).toNat)
      case atStart => exact ⟨0, by omega, rfl, N, O, HB⟩
      case round =>
        clear N O HB
        obtain ⟨k, hk, rfl, N, O, HB⟩ := hrel
        by_cases hlt2 : k < 16
        · obtain ⟨o, ho, oo⟩ := o_at k hlt2
          have OO := Lib.hid oo
          have HO := Lib.hid ho
          clear oo ho
          have i1 : (0 : Int) ≤ (k : Int) := by omega
          have i2 : (k : Int) < 16 := by omega
          go_wp2_with fail
          go_loopw [5] (fun s wr => ∃ i : Nat, i ≤ 20 ∧ s = .int .i64 i ∧ Hid (Bk wr w.heap.size 3 #[.int .i64 (-9223372036854775808), .int .i64 (-2147483648), .int .i64 (-2147483649), .int .i64 (-32769), .int .i64 (-32768), .int .i64 (-1), .int .i64 0, .int .i64 1, .int .i64 8, .int .i64 9, .int .i64 10, .int .i64 11, .int .i64 16, .int .i64 32, .int .i64 64, .int .i64 32767, .int .i64 32768, .int .i64 2147483647, .int .i64 2147483648, .int .i64 9223372036854775807]) ∧ Hid (Bk wr go 3 #[.int .i64 24, .int .i64 97, .int .i64 98, .int .i64 99, .int .i64 121, .int .i64 183, .int .i64 191, .int .i64 135, .int .i64 212, .int .i64 220, .int .i64 5, .int .i64 21, .int .i64 29, .int .i64 22, .int .i64 133, .int .i64 149]) ∧ Hid (Below w.heap.size w wr)) (fun s _ => 20 - (intOf s).toNat)
          case atStart => exact ⟨0, by omega, rfl, N, O, HB⟩
          case round =>
            clear N O HB
            obtain ⟨i, hi, rfl, N, O, HB⟩ := hrel
            by_cases hlt3 : i < 20
            · obtain ⟨e, he, ee⟩ := n_at i hlt3
              have cn := n_cell N.out he
              have co := o_cell O.out HO.out
              refine r3 (e := e) (o := o) hlt3 hlt2 OO.out ee co cn ?_
              intro t64 t65 t66 t67 t68 t69 t70 t71 t72 t73 t74 t75 t76 t77 t78 t79 t80 t81 t82 t83 t84 t85 t86 t87 t88 t89 t90 t91 t92 t93 t94 t95 t96 t97 t98 t99 t100 t101 t102 t103 t104 t105 t106 t107 t108 t109 t110 t111 t112 t113 t114 t115 t116 t117 t118 t119 t120 t121 t122 t123 t124 t125 t126 t127 t128 t129 t130 t131 t132 t133 t134 t135 t136 t137 t138 t139 t140 t141 t142 t143 t144 t145 t146 t147 t148 t149 t150 t151 t152 t153 t154 t155 w2 qb
              replace N := Lib.hid (bkk N.out qb)
              replace O := Lib.hid (bkk O.out qb)
              replace HB := Lib.hid (below_then HB.out qb (Nat.le_refl _))
              clear qb cn co he ee
              dsimp only
              go_roundw
              case rel => exact ⟨i + 1, by omega, by go_num, N, O, HB⟩
              case measure => simp [intOf]; omega
            · have e20 : ¬ ((i : Int) < 20) := by omega
              go_wp2_with fail
              go_roundw
              case rel => exact ⟨k + 1, by omega, by go_num, N, O, HB⟩
              case measure => simp [intOf]; omega
        · have e16 : ¬ ((k : Int) < 16) := by omega
          clear N O
          obtain ⟨i0, hi0, hz0, hz1, hz2⟩ := info_parts insn_info
          go_wp2_with fail
          go_loopw [6, 7] (fun l s wr => ∃ i : Nat, i ≤ 258 ∧ s = .int .i64 i ∧ Hid (OwnI w l wr (kL i))) (fun _ s _ => 258 - (intOf s).toNat)
          case atStart => exact ⟨0, by omega, rfl, Lib.hid ⟨World.ownsRow_nil _ _ _ _, HB.out⟩⟩
          case round =>
            clear HB
            obtain ⟨i, hi, rfl, hO⟩ := hrel
            by_cases hlt4 : i < 258
            · focus
                have HLE := Lib.hid (kL_len i)
                have i1 : (0 : Int) ≤ (i : Int) := by omega
                have HT := Lib.hid (kL_succ i)
                go_wp2_with (at_builtin; refine wpList_append_own_at _ rfl (.tmp 160) (.tmp 165) _ rfl w.heap.size 23 i0 _ 5 40 Try.underlying29 hi0 hz0 hz1 hz2 rfl (by decide) _ _ _ rfl (hO.out.own.alloc _) ⟨wr.heap.size, 0, none⟩ 1 1 (⟨183, (i : Int) % 10, 0, 0, (i : Int)⟩ : In).cells rfl rfl (new_cells' _ #[.int .i64 183, .int .i64 ((i : Int) % 10), .int .i64 0, .int .i64 0, .int .i64 (i : Int)] rfl) (cells_one _) ?a3 ?a4 ?a5 ?_)
                case a3 => have := HLE.out; unfold maxLen; omega
                case a4 => have := HLE.out; omega
                case a5 => have := hO.out.below.size; simp; omega
                intro v1 w1 hown1 hg1 _ hat1
                have R1 := Lib.hid (show OwnI w v1 w1 (kL (i + 1)) by rw [HT.out]; exact hO.out.step hown1 (by first | rfl | omega) hg1)
                clear hown1 hg1 hat1 hO HT HLE
                obtain ⟨A, cap, rfl, hc1, hc2, _⟩ := own_form R1.out.own
                have LE := kL_len (i + 1)
                have FI := Lib.hid (kL_fits (i + 1) (by omega))
                have CM : cap ≤ 9223372036854775807 := by unfold maxLen at hc2; omega
                have HC1 := Lib.hid hc1
                have HL := Lib.hid LE
                rw [LE] at hc1 ⊢
                clear LE hc2
                by_cases h253 : 253 < i
                · have g1 : (253 : Int) < (i : Int) := by omega
                  have WF := Lib.hid (wf_i64 (8 * (i : Int) - 3) (by unfold i64; omega))
                  have HB := Lib.hid R1.out.below
                  go_wp2_with fail
                  refine (insnPuts.walk A (i + 1) cap (kL (i + 1)) _ HL.out FI.out hc1 CM (Rd.of_own R1.out.own)).mono ?_
                  rintro e9 w5 ⟨rfl, qb⟩
                  replace R1 := Lib.hid (R1.out.more qb)
                  clear qb
                  go_wp2_with fail
                  refine (insnBack.walk A (i + 1) cap (kL (i + 1)) _ HL.out FI.out hc1 CM (Rd.of_own R1.out.own)).mono ?_
                  rintro e9 w5 ⟨rfl, qb⟩
                  replace R1 := Lib.hid (R1.out.more qb)
                  clear qb
                  go_wp2_with fail
                  refine (insnCut.walk A (i + 1) cap (kL (i + 1)) (8 * (i : Int) - 3) _ HL.out FI.out hc1 CM (Rd.of_own R1.out.own) WF.out).mono ?_
                  rintro e9 w5 ⟨rfl, qb⟩
                  replace R1 := Lib.hid (R1.out.more qb)
                  clear qb
                  go_wp2_with fail
                  go_roundw
                  case rel => exact ⟨i + 1, by omega, by go_num, Lib.hid (by have h9 := R1.out; rw [HL.out] at h9; exact h9)⟩
                  case measure => simp [intOf]; omega
                · have g1 : ¬ (253 : Int) < (i : Int) := by omega
                  go_wp2_with fail
                  go_roundw
                  case rel => exact ⟨i + 1, by omega, by go_num, Lib.hid (by have h9 := R1.out; rw [HL.out] at h9; exact h9)⟩
                  case measure => simp [intOf]; omega
            · have e258 : ¬ ((i : Int) < 258) := by omega
              have HB := Lib.hid hO.out.below
              clear hO i0 hi0 hz0 hz1 hz2
              obtain ⟨i0, hi0, hz0, hz1, hz2⟩ := info_parts byte_info
              go_wp2_with fail
              go_loopw [8, 9] (fun l s wr => ∃ i : Nat, i ≤ 2056 ∧ s = .int .i64 i ∧ Hid (OwnB w l wr (bL i))) (fun _ s _ => 2056 - (intOf s).toNat)
              case atStart => exact ⟨0, by omega, rfl, Lib.hid ⟨World.ownsRow_nil _ _ _ _, HB.out⟩⟩
              case round =>
                clear HB
                obtain ⟨i, hi, rfl, hO⟩ := hrel
                by_cases hlt5 : i < 2056
                · have HLE := Lib.hid (bL_len i)
                  have i1 : (0 : Int) ≤ (i : Int) := by omega
                  have HT := Lib.hid (bL_succ i)
                  have ce := byte_at wr i
                  have k1 : (0 : Int) ≤ (i : Int) % 8 := by omega
                  have k2 : (i : Int) % 8 < 8 := by omega
                  have hO1 := Lib.hid (own_al hO.out (.cells #[.int .u8 149, .int .u8 0, .int .u8 0, .int .u8 0, .int .u8 0, .int .u8 0, .int .u8 0, .int .u8 0] 5))
                  go_wp2_with (at_builtin; refine wpList_append_own_at _ rfl (.tmp 191) (.tmp 197) _ rfl w.heap.size 5 i0 _ 1 1 Try.underlying31 hi0 hz0 hz1 hz2 rfl (by decide) _ _ _ rfl (hO1.out.own.alloc _) ⟨wr.heap.size + 1, 0, none⟩ 1 1 [.int .u8 (bb i)] rfl rfl (new_cells' _ #[.int .u8 (bb i)] (by simp)) ?a2 ?a3 ?a4 ?a5 ?_)
                  case a2 => intro u hu; simp at hu; subst hu; rfl
                  case a3 => have := HLE.out; unfold maxLen; omega
                  case a4 => have := HLE.out; omega
                  case a5 => have := hO.out.below.size; simp; omega
                  intro v1 w1 hown1 hg1 _ hat1
                  have R1 := Lib.hid (show OwnB w v1 w1 (bL (i + 1)) by rw [HT.out]; exact hO1.out.step hown1 (by first | rfl | omega) hg1)
                  clear hown1 hg1 hat1 hO hO1 HT HLE ce k1 k2
                  go_wp2_with fail
                  go_roundw
                  case rel => exact ⟨i + 1, by omega, by go_num, R1⟩
                  case measure => simp [intOf]; omega
                · have e2056 : ¬ ((i : Int) < 2056) := by omega
                  have I2 := Lib.hid (show i = 2056 by omega)
                  obtain ⟨A, cap, hv, hc1, hc2, _⟩ := own_form hO.out.own
                  subst hv
                  have LE := bL_len i
                  have CM : cap ≤ 9223372036854775807 := by unfold maxLen at hc2; omega
                  have HL := Lib.hid LE
                  rw [LE] at hc1 ⊢
                  clear LE hc2
                  have BI := Lib.hid (bL_isB i)
                  have RR := Lib.hid (Rd.of_own hO.out.own)
                  have HB := Lib.hid hO.out.below
                  have l1 : (2048 : Int) ≤ (cap : Int) := by have := I2.out; omega
                  have l2 : (2051 : Int) ≤ (cap : Int) := by have := I2.out; omega
                  clear hO
                  go_wp2_with fail
                  refine (insnGets.walk A i cap (bL i) _ HL.out BI.out hc1 CM RR.out).mono ?_
                  rintro e9 w5 ⟨rfl, qb⟩
                  replace RR := Lib.hid ((RR.out.below qb).mono qb.size)
                  replace HB := Lib.hid (below_then HB.out qb (Nat.le_refl _))
                  clear qb
                  go_wp2_with fail
                  refine (kpart A i cap 2048 _ (by have := I2.out; omega) (by omega) CM RR.out).mono ?_
                  rintro e9 w5 ⟨rfl, qb⟩
                  replace RR := Lib.hid ((RR.out.below qb).mono qb.size)
                  replace HB := Lib.hid (below_then HB.out qb (Nat.le_refl _))
                  clear qb
                  go_wp2_with fail
                  refine (kpart A i cap 2051 _ (by have := I2.out; omega) (by omega) CM RR.out).mono ?_
                  rintro e9 w5 ⟨rfl, qb⟩
                  replace RR := Lib.hid ((RR.out.below qb).mono qb.size)
                  replace HB := Lib.hid (below_then HB.out qb (Nat.le_refl _))
                  clear qb
                  go_wp2_with fail
                  refine (works_any _).mono ?_
                  rintro e9 w5 ⟨rfl, qb⟩
                  replace RR := Lib.hid ((RR.out.below qb).mono qb.size)
                  replace HB := Lib.hid (below_then HB.out qb (Nat.le_refl _))
                  clear qb
                  go_wp2_with fail
                  go_ret
                  exact ⟨rfl, HB.out⟩

set_option maxRecDepth 100000 in
theorem lifted (os : Os) (started : os.Started) (H : Type) (enc : TypeId × Value → H) :
    ReturnsInHanded {} Try.checked os 10 .any (Rows.insnKnownSpec.pre6 enc Try.prog Try.f10 Rows.insnKnownRow.domain false) (Rows.insnKnownSpec.post enc Try.prog Try.f10 false true false false) := by
  refine returnsInHanded_of_change (C := Try.checked) own started (by kernel_rfl) Try.func10
    (ChangeSpec.witness6 (enc := enc) (C := Try.checked) false ⟨#[], #[], []⟩ 8 (by kernel_rfl) (by kernel_rfl) (by kernel_rfl) (by kernel_rfl)) ?_
  intro W base args ds gs before hval0 hW hcnd _
  have hval : ∀ (j : Nat) t v, Try.f10.params[j]? = some t → args[j]? = some v → Value.okWide Try.prog W .any base t v := hval0
  have hW' := hW
  obtain ⟨p, q, hA0, hV, rfl, hfz, hnd⟩ := hW
  have hA : DataW.TrodAll enc Try.prog W 0 (fun _ => true) true Try.f10.params.toList args.toList ds p := hA0
  rw [Try.params10] at hA hval
  obtain ⟨hargs, rfl, rfl⟩ := trodAll_nil hA
  obtain rfl : args = #[] := by cases args; simp_all
  obtain ⟨rfl, rfl⟩ := trodVars_none hV
  clear hA0 hval0
  refine (walk  W ).mono fun e W' ⟨he, bel⟩ => ?_
  subst he
  exact ⟨_, rfl, _, _, _, [], _, [], hW', trodAll_mk1 (shut_bool Try.underlying4 _), trodAll_mk0, rfl, bel.frame _, fun h => by cases h⟩

theorem over : Rows.insnKnownRow.holds Try.pinned (OpenSpec.ofChange Rows.insnKnownSpec) :=
  OpenClaim.holds_of_wide 10 Try.f10 rfl rfl rfl rfl rfl rfl rfl ⟨rfl, rfl, rfl, rfl, rfl⟩ rfl rfl rfl rfl rfl (by kernel_rfl) Try.func10 (by kernel_rfl)
    (of_decide_eq_true (by kernel_rfl)) (by unfold Func.isWrapper; first | (rw [if_pos (by decide +kernel)]; kernel_rfl) | (rw [if_neg (by decide +kernel)]; exact ⟨rfl, rfl⟩))
    (fun os started H enc _ => lifted os started H enc)

theorem proved : Rows.InsnKnownSaid := over
#print axioms proved
end Go.Proofs.Ytlimhdnpdhjdaaa.insnKnown
