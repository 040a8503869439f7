/-
  Proved: the statement InsnBack: what was made of instructions, up to 400, is read as they were; each has as many bytes as its size says. No conditions.
-/
import Derived.Test.YtlimhdnpdhjdaaaRows
import Derived.Test.YtlimhdnpdhjdaaaInsnOpen
import Derived.Test.YtlimhdnpdhjdaaaInsnBackMath
import Derived.WalkKit
import Derived.ProofKit
import Derived.OpenShut
import Derived.ChangeOld
import Derived.Below
namespace Go.Proofs.Ytlimhdnpdhjdaaa.insnBack
open Go.ChangeShapes Go.WideShapes Go.ChangeAt Go.RowKit Wi Ow
set_option linter.unusedVariables false
set_option linter.unusedSimpArgs false

theorem own : ownKnob Try.prog.godebug = none := by kernel_rfl
theorem laidOut : laidOutB Try.prog = true := by kernel_rfl

/-- How many bytes instructions have. -/
theorem len_snoc (L : List In) (k : Nat) (hk : k < L.length) : ((putB (L.take (k + 1))).length : Int) = ((putB (L.take k)).length : Int) + 8 * sizeV L[k].op := by
  have hs := sizeV_bd L[k].op
  have h := oneB_len L[k].op L[k].dst L[k].src L[k].off L[k].imm
  rw [putB_snoc L k hk, List.length_append]
  unfold In.bytes
  omega

set_option maxRecDepth 100000 in
set_option maxHeartbeats 4000000 in
theorem walk (a0 : Option Addr) (len0 cap0 : Nat) (L0 : List In) (w : World) (l0 : L0.length = len0) (f0 : ∀ x ∈ L0, x.fits) (c0 : len0 ≤ cap0) (m0 : cap0 ≤ 9223372036854775807) (r0 : Rd w w.heap.size a0 (iv L0)) :
    Calls Try.prog 6 #[.slice a0 len0 cap0] w fun e w' => e = .returned (.bool true) ∧ Below w.heap.size w w' := by
  have HF := Lib.hid f0
  have HR := Lib.hid r0
  have HL := Lib.hid l0
  clear f0 r0 l0
  by_cases h400 : 400 < len0
  · go_enter Try.func6, Try.ntmps6
    go_wp2_with (go_at_call 17; refine (works_any _).mono ?_; rintro e w1 ⟨rfl, q1⟩)
    go_ret
    exact ⟨rfl, q1⟩
  have h400' : len0 ≤ 400 := by omega
  clear h400
  have C := put_any a0 len0 cap0 L0 HL.out HF.out (by omega) w HR.out
  by_cases he : putE L0 = 0
  · obtain ⟨p1, p2⟩ := putE_ok L0 he
    have hO : putO L0 = putB L0 := putO_of L0 he
    have hok : okL L0 := fun x hx => ⟨firstE_ok L0 p2 x hx, HF.out x hx⟩
    obtain ⟨g1, g2⟩ := get_put L0 hok p1
    have HOK := Lib.hid hok
    have HG1 := Lib.hid g1
    have HG2 := Lib.hid g2
    have HBY : Hid (isB (putB L0)) := Lib.hid (putB_isB L0 hok)
    rw [he, hO] at C
    have CC := Lib.hid C
    have hle : (putB L0).length ≤ 6400 := by have := putB_le L0; have := HL.out; omega
    clear C p1 p2 hO hok g1 g2 he
    go_enter Try.func6, Try.ntmps6
    go_wp2_with fail
    refine CC.out.mono ?_
    rintro e w1 ⟨vb, rfl, o1, q⟩
    obtain ⟨A1, k1, rfl, hk1, hm1, _⟩ := own_form o1
    have O1 := Lib.hid o1
    have B1 := Lib.hid q
    clear q o1 CC
    unfold maxLen at hm1
    go_wp2
    go_loopw [5, 6] (fun n i wr => ∃ k : Nat, k ≤ len0 ∧ i = .int .i64 k ∧ n = .int .i64 ((putB (L0.take k)).length : Int) ∧ Hid (Below w.heap.size w wr) ∧ Hid (wr.ownsRow w.heap.size 5 1 (.slice A1 (putB L0).length k1) (putB L0).length (bv (putB L0)))) (fun _ i _ => len0 - (intOf i).toNat)
    case atStart => exact ⟨0, Nat.zero_le _, rfl, rfl, B1, O1⟩
    case round =>
      clear B1 O1
      obtain ⟨k, hk, rfl, rfl, hb, ho⟩ := hrel
      by_cases hlt : k < len0
      · have hkl : k < L0.length := by rw [HL.out]; exact hlt
        have hpl : (putB (L0.take k)).length ≤ 6400 := by have := putB_le (L0.take k); have := List.length_take_le k L0; omega
        have HS := Lib.hid (len_snoc L0 k hkl)
        have hsv := sizeV_bd L0[k].op
        have hck := (HOK.out L0[k] (List.getElem_mem hkl)).1
        have HC : Hid (∀ w' : World, Below w.heap.size w w' → ∃ ad : Addr, a0 = some ad ∧ w'.cell? (ad.add (k * 5)) = some (.int .i64 L0[k].op) ∧ w'.cell? ⟨(ad.add (k * 5)).block, (ad.add (k * 5)).off + 1, none⟩ = some (.int .i64 L0[k].dst) ∧ w'.cell? ⟨(ad.add (k * 5)).block, (ad.add (k * 5)).off + 2, none⟩ = some (.int .i64 L0[k].src) ∧ w'.cell? ⟨(ad.add (k * 5)).block, (ad.add (k * 5)).off + 3, none⟩ = some (.int .i64 L0[k].off) ∧ w'.cell? ⟨(ad.add (k * 5)).block, (ad.add (k * 5)).off + 4, none⟩ = some (.int .i64 L0[k].imm)) :=
          Lib.hid fun w' hw' => by
            obtain ⟨ad, e, _, hc⟩ := (HR.out.below hw') (by rw [iv_len]; omega)
            exact ⟨ad, e, ins_cells hc hkl⟩
        generalize L0[k] = x at *
        clear hkl
        have ez : chkV x.op x.dst x.src x.off x.imm = 0 := hck
        clear hck
        obtain ⟨ad, had, c0, c1, c2, c3, c4⟩ := HC.out wr hb.out
        subst had
        go_wp2_with fail
        refine (size_any _ _ _ _ _ _).mono ?_
        rintro e w2 ⟨rfl, q⟩
        have B2 := Lib.hid (below_then hb.out q (Nat.le_refl _))
        have O2 := Lib.hid (own_below ho.out q)
        clear q hb ho c0 c1 c2 c3 c4
        obtain ⟨ad', had, c0, c1, c2, c3, c4⟩ := HC.out w2 B2.out
        obtain rfl : ad = ad' := by injection had
        clear had
        go_wp2_with fail
        refine (check_any _ _ _ _ _ _).mono ?_
        rintro e w3 ⟨rfl, q⟩
        have B3 := Lib.hid (below_then B2.out q (Nat.le_refl _))
        have O3 := Lib.hid (own_below O2.out q)
        clear q B2 O2 c0 c1 c2 c3 c4
        go_wp2
        go_roundw
        case rel => exact ⟨k + 1, by omega, by go_num, by rw [HS.out], B3, O3⟩
        case measure => simp [intOf]; omega
      · have e3 : L0.take k = L0 := List.take_of_length_le (by rw [HL.out]; omega)
        rw [e3]
        clear e3
        go_wp2_with fail
        refine (get_any A1 (putB L0).length k1 (putB L0) rfl hk1 hm1 HBY.out _ ((Rd.of_own ho.out))).mono ?_
        rintro e w2 ⟨vx, rfl, o2, q⟩
        rw [HG2.out] at o2
        rw [HG1.out]
        obtain ⟨A2, k2, rfl, hk2, hm2, _⟩ := own_form o2
        have R2 := Lib.hid (Rd.of_own o2)
        have B2 := Lib.hid (below_then hb.out q (Nat.le_refl _))
        clear q o2 hb ho
        unfold maxLen at hm2
        rw [HL.out]
        rw [HL.out] at hk2
        go_wp2_with fail
        refine (sameinsns_any A2 a0 len0 len0 k2 cap0 L0 L0 HL.out HL.out (by omega) (by omega) w2 R2.out ((HR.out.below B2.out).mono B2.out.size)).mono ?_
        rintro e w3 ⟨rfl, q⟩
        rw [decide_eq_true rfl]
        have B3 := Lib.hid (below_then B2.out q (Nat.le_refl _))
        clear q R2 B2
        go_wp2_with fail
        refine (works_any _).mono ?_
        rintro e w4 ⟨rfl, q⟩
        have B4 := Lib.hid (below_then B3.out q (Nat.le_refl _))
        clear q
        go_wp2
        go_ret
        exact ⟨rfl, B4.out⟩
  · have hO : putO L0 = [] := putO_none _ he
    rw [hO] at C
    have CC := Lib.hid C
    have ez : (putE L0 != 0) = true := bne_iff_ne.2 he
    clear C hO he
    go_enter Try.func6, Try.ntmps6
    go_wp2_with fail
    refine CC.out.mono ?_
    rintro e w1 ⟨vl, rfl, o1, q⟩
    obtain ⟨A1, k1, rfl, hk1, hm1, _⟩ := own_form o1
    have B1 := Lib.hid q
    clear q o1 CC
    go_wp2_with fail
    refine (works_any _).mono ?_
    rintro e w4 ⟨rfl, q⟩
    have B4 := Lib.hid (below_then B1.out q (Nat.le_refl _))
    clear q
    go_wp2
    go_ret
    exact ⟨rfl, B4.out⟩

set_option maxRecDepth 100000 in
theorem lifted (os : Os) (started : os.Started) (H : Type) (enc : TypeId × Value → H) :
    ReturnsInHanded {} Try.checked os 6 .any (Rows.insnBackSpec.pre6 enc Try.prog Try.f6 Rows.insnBackRow.domain false) (Rows.insnBackSpec.post enc Try.prog Try.f6 false true false false) := by
  refine returnsInHanded_of_change (C := Try.checked) own started (by kernel_rfl) Try.func6
    (ChangeSpec.witness6 (enc := enc) (C := Try.checked) false ⟨#[], #[.slice none 0 0], []⟩ 8 (by kernel_rfl) (by kernel_rfl) (by kernel_rfl) (by kernel_rfl)) ?_
  intro W base args ds gs before hval0 hW hcnd _
  have hval : ∀ (j : Nat) t v, Try.f6.params[j]? = some t → args[j]? = some v → Value.okWide Try.prog W .any base t v := hval0
  have hW' := hW
  obtain ⟨p, q, hA0, hV, rfl, hfz, hnd⟩ := hW
  have hA : DataW.TrodAll enc Try.prog W 0 (fun _ => true) true Try.f6.params.toList args.toList ds p := hA0
  rw [Try.params6] at hA hval
  obtain ⟨v0, vs0, d0, ds0, p0, q0, hargs, rfl, rfl, h0, r0⟩ := trodAll_cons hA
  obtain ⟨rfl, rfl, rfl⟩ := trodAll_nil r0
  obtain rfl : args = #[v0] := by cases args; simp_all
  obtain ⟨rfl, rfl⟩ := trodVars_none hV
  obtain ⟨a0, len0, cap0, rfl⟩ := okWide_slice Try.underlying29 (hval 0 29 v0 rfl rfl)
  have k0 := h0
  have lt0 : ∀ x ∈ p0, x.block < W.heap.size := by obtain ⟨m, hm⟩ := k0; exact DataW.trod_lt m _ _ _ hm
  obtain ⟨L0, l0, f0, c0, m0, rr0⟩ := open_insns h0
  clear hA0 hval0
  refine (walk a0 len0 cap0 L0 W l0 f0 c0 m0 rr0).mono fun e W' ⟨he, bel⟩ => ?_
  subst he
  exact ⟨_, rfl, _, _, _, [], _, [], hW', trodAll_mk1 (shut_bool Try.underlying4 _), (trodAll_cons_mk (Below.trod laidOut (by kernel_rfl) (of_decide_eq_true (by kernel_rfl)) k0 bel lt0) trodAll_mk0), rfl, bel.frame _, fun h => by cases h⟩

theorem over : Rows.insnBackRow.holds Try.pinned (OpenSpec.ofChange Rows.insnBackSpec) :=
  OpenClaim.holds_of_wide 6 Try.f6 rfl rfl rfl rfl rfl rfl rfl ⟨rfl, rfl, rfl, rfl, rfl⟩ rfl rfl rfl rfl rfl (by kernel_rfl) Try.func6 (by kernel_rfl)
    (of_decide_eq_true (by kernel_rfl)) (by unfold Func.isWrapper; first | (rw [if_pos (by decide +kernel)]; kernel_rfl) | (rw [if_neg (by decide +kernel)]; exact ⟨rfl, rfl⟩))
    (fun os started H enc _ => lifted os started H enc)

theorem proved : Rows.InsnBackSaid := over
#print axioms proved
end Go.Proofs.Ytlimhdnpdhjdaaa.insnBack
