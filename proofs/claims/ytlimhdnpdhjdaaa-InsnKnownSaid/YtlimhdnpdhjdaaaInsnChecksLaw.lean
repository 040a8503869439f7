/-
  Proved: the statement InsnChecks: of any instruction it is told what is wrong with it, its size and its width, as the document says. No conditions.
-/
import Derived.Test.YtlimhdnpdhjdaaaRows
import Derived.Test.YtlimhdnpdhjdaaaInsnOpen
import Derived.Test.YtlimhdnpdhjdaaaInsnRefs
import Derived.WalkKit
import Derived.ProofKit
import Derived.OpenShut
import Derived.ChangeOld
import Derived.Below
namespace Go.Proofs.Ytlimhdnpdhjdaaa.insnChecks
open Go.ChangeShapes Go.WideShapes Go.ChangeAt Go.RowKit Wi Ow
set_option linter.unusedVariables false
set_option linter.unusedSimpArgs false

theorem own : ownKnob Try.prog.godebug = none := by kernel_rfl
theorem laidOut : laidOutB Try.prog = true := by kernel_rfl

theorem five_keep {w W w2 : World} {g : Nat} {v0 v1 v2 v3 v4 : Value} (hb : Below W.heap.size W w2)
    (h : W.cell? ⟨g, 0, none⟩ = some v0 ∧ W.cell? ⟨g, 1, none⟩ = some v1 ∧ W.cell? ⟨g, 2, none⟩ = some v2 ∧ W.cell? ⟨g, 3, none⟩ = some v3 ∧ W.cell? ⟨g, 4, none⟩ = some v4 ∧ Below w.heap.size w W) :
    w2.cell? ⟨g, 0, none⟩ = some v0 ∧ w2.cell? ⟨g, 1, none⟩ = some v1 ∧ w2.cell? ⟨g, 2, none⟩ = some v2 ∧ w2.cell? ⟨g, 3, none⟩ = some v3 ∧ w2.cell? ⟨g, 4, none⟩ = some v4 ∧ Below w.heap.size w w2 := by
  have hg : g < W.heap.size := World.block_lt_of_cell? W _ h.1
  exact ⟨(hb.cell (p := ⟨g, 0, none⟩) hg).trans h.1, (hb.cell (p := ⟨g, 1, none⟩) hg).trans h.2.1, (hb.cell (p := ⟨g, 2, none⟩) hg).trans h.2.2.1, (hb.cell (p := ⟨g, 3, none⟩) hg).trans h.2.2.2.1, (hb.cell (p := ⟨g, 4, none⟩) hg).trans h.2.2.2.2.1, below_then h.2.2.2.2.2 hb (Nat.le_refl _)⟩

set_option maxRecDepth 100000 in
set_option maxHeartbeats 4000000 in
theorem walk (x0 : In) (w : World) (f0 : x0.fits) :
    Calls Try.prog 3 #[.agg #[.int .i64 x0.op, .int .i64 x0.dst, .int .i64 x0.src, .int .i64 x0.off, .int .i64 x0.imm]] w fun e w' => e = .returned (.bool true) ∧ Below w.heap.size w w' := by
  obtain ⟨f0, f1, f2, f3, f4⟩ := f0
  obtain ⟨op, dst, src, off, imm⟩ := x0
  simp only at f0 f1 f2 f3 f4 ⊢
  have g1 := f0.1
  have g2 := f0.2
  clear f0 f1 f2 f3 f4
  go_enter Try.func3, Try.ntmps3
  go_wp2_with fail
  have K := Bk.new w 23 #[.int .i64 op, .int .i64 dst, .int .i64 src, .int .i64 off, .int .i64 imm]
  have B0 : Below w.heap.size w (w.alloc (.cells #[.int .i64 op, .int .i64 dst, .int .i64 src, .int .i64 off, .int .i64 imm] 23)) := (Below.refl _ _).alloc (Nat.le_refl _) _
  obtain ⟨c0, c1, c2, c3, c4⟩ := box_cells K
  clear K
  generalize (w.alloc (.cells #[.int .i64 op, .int .i64 dst, .int .i64 src, .int .i64 off, .int .i64 imm] 23)) = w0 at *
  go_region_held3 (fun w' => w'.cell? ⟨w.heap.size, 0, none⟩ = some (.int .i64 op) ∧ w'.cell? ⟨w.heap.size, 1, none⟩ = some (.int .i64 dst) ∧ w'.cell? ⟨w.heap.size, 2, none⟩ = some (.int .i64 src) ∧ w'.cell? ⟨w.heap.size, 3, none⟩ = some (.int .i64 off) ∧ w'.cell? ⟨w.heap.size, 4, none⟩ = some (.int .i64 imm) ∧ Below w.heap.size w w')
    (first | exact ⟨c0, c1, c2, c3, c4, B0.drew⟩ | exact five_keep qb (by assumption) | exact five_keep qb ⟨by assumption, by assumption, by assumption, by assumption, by assumption, by assumption⟩ | exact five_keep qb ⟨c0, c1, c2, c3, c4, B0.drew⟩)
    (first | (go_at_call 11; refine (check_any _ _ _ _ _ _).mono ?_; rintro e w2 ⟨rfl, qb⟩) | (go_at_call 12; refine (refcheck_any _ _ _ _ _ _).mono ?_; rintro e w2 ⟨rfl, qb⟩) | (go_at_call 13; refine (size_any _ _ _ _ _ _).mono ?_; rintro e w2 ⟨rfl, qb⟩) | (go_at_call 14; refine (refsize_any _ _ _ _ _ _).mono ?_; rintro e w2 ⟨rfl, qb⟩) | (go_at_call 15; refine (width_any _ _ _ _ _ g1 g2 _).mono ?_; rintro e w2 ⟨rfl, qb⟩) | (go_at_call 16; refine (refwidth_any _ _ _ _ _ _).mono ?_; rintro e w2 ⟨rfl, qb⟩) | (go_at_call 17; refine (works_any _).mono ?_; rintro e w2 ⟨rfl, qb⟩))
  have BB : Hid (Below w.heap.size w w2) := by
    rename_i hH
    exact Lib.hid hH.2.2.2.2.2
  clear qb
  go_wp2
  go_ret
  exact ⟨rfl, BB.out⟩

set_option maxRecDepth 100000 in
theorem lifted (os : Os) (started : os.Started) (H : Type) (enc : TypeId × Value → H) :
    ReturnsInHanded {} Try.checked os 3 .any (Rows.insnChecksSpec.pre6 enc Try.prog Try.f3 Rows.insnChecksRow.domain false) (Rows.insnChecksSpec.post enc Try.prog Try.f3 false true false false) := by
  refine returnsInHanded_of_change (C := Try.checked) own started (by kernel_rfl) Try.func3
    (ChangeSpec.witness6 (enc := enc) (C := Try.checked) false ⟨#[], #[.agg #[.int .i64 0, .int .i64 0, .int .i64 0, .int .i64 0, .int .i64 0]], []⟩ 8 (by kernel_rfl) (by kernel_rfl) (by kernel_rfl) (by kernel_rfl)) ?_
  intro W base args ds gs before hval0 hW hcnd _
  have hval : ∀ (j : Nat) t v, Try.f3.params[j]? = some t → args[j]? = some v → Value.okWide Try.prog W .any base t v := hval0
  have hW' := hW
  obtain ⟨p, q, hA0, hV, rfl, hfz, hnd⟩ := hW
  have hA : DataW.TrodAll enc Try.prog W 0 (fun _ => true) true Try.f3.params.toList args.toList ds p := hA0
  rw [Try.params3] at hA hval
  obtain ⟨v0, vs0, d0, ds0, p0, q0, hargs, rfl, rfl, h0, r0⟩ := trodAll_cons hA
  obtain ⟨rfl, rfl, rfl⟩ := trodAll_nil r0
  obtain rfl : args = #[v0] := by cases args; simp_all
  obtain ⟨rfl, rfl⟩ := trodVars_none hV
  have k0 := h0
  have lt0 : ∀ x ∈ p0, x.block < W.heap.size := by obtain ⟨m, hm⟩ := k0; exact DataW.trod_lt m _ _ _ hm
  obtain ⟨x0, rfl, f0⟩ := open_insn (hval 0 23 v0 rfl rfl) h0
  clear hA0 hval0
  refine (walk x0 W f0).mono fun e W' ⟨he, bel⟩ => ?_
  subst he
  exact ⟨_, rfl, _, _, _, [], _, [], hW', trodAll_mk1 (shut_bool Try.underlying4 _), (trodAll_cons_mk (Below.trod laidOut (by kernel_rfl) (of_decide_eq_true (by kernel_rfl)) k0 bel lt0) trodAll_mk0), rfl, bel.frame _, fun h => by cases h⟩

theorem over : Rows.insnChecksRow.holds Try.pinned (OpenSpec.ofChange Rows.insnChecksSpec) :=
  OpenClaim.holds_of_wide 3 Try.f3 rfl rfl rfl rfl rfl rfl rfl ⟨rfl, rfl, rfl, rfl, rfl⟩ rfl rfl rfl rfl rfl (by kernel_rfl) Try.func3 (by kernel_rfl)
    (of_decide_eq_true (by kernel_rfl)) (by unfold Func.isWrapper; first | (rw [if_pos (by decide +kernel)]; kernel_rfl) | (rw [if_neg (by decide +kernel)]; exact ⟨rfl, rfl⟩))
    (fun os started H enc _ => lifted os started H enc)

theorem proved : Rows.InsnChecksSaid := over
#print axioms proved
end Go.Proofs.Ytlimhdnpdhjdaaa.insnChecks
