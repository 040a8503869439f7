/-
  Layer 11, LruKnown: the chapter's examples, and sizes about their ends, are as the document says. No conditions.
-/
import Derived.Test.YthappjbghlifbaaRows
import Derived.Test.YthappjbghlifbaaLruKl
import Derived.Deep.DeepCutAuto
import Derived.IntWalk
import Derived.WalkKit
import Derived.ProofKit
import Derived.OpenShut
import Derived.ChangeOld
import Derived.Below
namespace Go.Proofs.Ythappjbghlifbaa.lruKnown
open Go.ChangeShapes Go.WideShapes Go.ChangeAt Go.RowKit Ow Ro K2
set_option linter.unusedVariables false
set_option linter.unusedSimpArgs false

theorem own : ownKnob Try.prog.godebug = none := by kernel_rfl
theorem laidOut : laidOutB Try.prog = true := by kernel_rfl



set_option maxRecDepth 100000 in
set_option maxHeartbeats 4000000 in
theorem walk (w : World) :
    Calls Try.prog 6 #[] w fun e w' => e = .returned (.bool true) ∧ Below w.heap.size w w' := by
  obtain ⟨i0, hi0, hz0, hz1, hz2⟩ := info_parts byte_info
  go_enter Try.func6, Try.ntmps6
  have kc := fun (w : World) (C : Array Value) (n c : Nat) => Lib.run_convert_bytes_const (P := Try.prog) w 27 _ C n c Try.underlying27 Try.underlying5
  go_wp2_with fail
  refine (KN.new w 1 2).mono ?_
  rintro e w1 ⟨X, rfl, h1⟩
  rw [show max 1 (min 1 (16 : Int)) = 1 by decide, show max 1 (min 2 (64 : Int)) = 2 by decide] at h1
  have H1 := Lib.hid h1
  clear h1
  go_wp2_with fail
  with_reducible refine ((H1.out.lit 99).put rfl (by simp) 3).mono ?_
  rintro e w2 ⟨ua1, uc1, rfl, q⟩
  rw [ka1] at q ⊢
  dsimp only [List.length_nil] at q ⊢
  have H2 := Lib.hid q
  clear q H1
  unfold putV
  go_wp2_with fail
  with_reducible refine ((H2.out.lit 97).put rfl (by simp) 1).mono ?_
  rintro e w3 ⟨ua2, uc2, rfl, q⟩
  rw [ka2] at q ⊢
  dsimp only [List.length_nil] at q ⊢
  have H3 := Lib.hid q
  clear q H2
  unfold putV
  go_wp2_with fail
  with_reducible refine ((H3.out.lit 97).put rfl (by simp) 9).mono ?_
  rintro e w4 ⟨ua3, uc3, rfl, q⟩
  rw [ka3] at q ⊢
  dsimp only [List.length_nil] at q ⊢
  have H4 := Lib.hid q
  clear q H3
  unfold putV
  go_wp2_with fail
  have H5 : Hid (KN w X 1 2 kA (w4.alloc (.cells #[.int .u8 97, .int .u8 98] 5 (2, 3)))) := Lib.hid (H4.out.grow ((Below.refl _ _).alloc (Nat.le_refl _) _))
  clear H4
  generalize (w4.alloc (.cells #[.int .u8 97, .int .u8 98] 5 (2, 3))) = w5 at *
  refine (H5.out.size (some ⟨w4.heap.size, 0, none⟩) 2 2 (by omega) 9).mono ?_
  rintro e w6 ⟨ua4, uc4, rfl, q⟩
  have H6 := Lib.hid q
  clear q H5
  unfold putV
  go_wp2_with fail
  refine (H6.out.size none 0 0 (by omega) 9).mono ?_
  rintro e w7 ⟨ua5, uc5, rfl, q⟩
  have H7 := Lib.hid q
  clear q H6
  unfold putV
  go_wp2_with fail
  with_reducible refine ((H7.out.lit 97).del rfl (by simp)).mono ?_
  rintro e w8 ⟨rfl, q⟩
  rw [ka5] at q
  rw [ka4]
  have H8 := Lib.hid q
  clear q H7
  unfold agetV
  go_wp2_with fail
  with_reducible refine ((H8.out.lit 97).del rfl (by simp)).mono ?_
  rintro e w9 ⟨rfl, q⟩
  rw [ka7] at q
  rw [ka6]
  have H9 := Lib.hid q
  clear q H8
  unfold agetV
  go_wp2_with fail
  have HPL : Hid (Calls Try.prog 11 #[.pointer (some ⟨X, 0, none⟩)] w9 fun e z' => e = .returned (.int .i64 1) ∧ z' = w9) := Lib.hid (by exact H9.out.plen)
  with_reducible refine HPL.out.mono ?_
  rintro e w10 ⟨rfl, rfl⟩
  clear HPL
  have HBW := Lib.hid H9.out.below
  clear H9 kc
  go_wp2_with fail
  have BE : Hid (Below w.heap.size w (w10.alloc (.cells #[.int .i64 (-9223372036854775808), .int .i64 0, .int .i64 1, .int .i64 16, .int .i64 17, .int .i64 64, .int .i64 65, .int .i64 9223372036854775807] 3))) := Lib.hid (HBW.out.alloc HBW.out.size _)
  obtain ⟨f, hf⟩ : ∃ f : Nat → Int, ∀ i, i < 8 → (w10.alloc (.cells #[.int .i64 (-9223372036854775808), .int .i64 0, .int .i64 1, .int .i64 16, .int .i64 17, .int .i64 64, .int .i64 65, .int .i64 9223372036854775807] 3)).cell? ⟨w10.heap.size, i, none⟩ = some (.int .i64 (f i)) := by
    refine ⟨fun i => ([-9223372036854775808, 0, 1, 16, 17, 64, 65, 9223372036854775807] : List Int).getD i 0, fun i hi => ?_⟩
    rw [(Bk.new w10 3 #[.int .i64 (-9223372036854775808), .int .i64 0, .int .i64 1, .int .i64 16, .int .i64 17, .int .i64 64, .int .i64 65, .int .i64 9223372036854775807]).cell i]
    match i, hi with
    | 0, _ => rfl
    | 1, _ => rfl
    | 2, _ => rfl
    | 3, _ => rfl
    | 4, _ => rfl
    | 5, _ => rfl
    | 6, _ => rfl
    | 7, _ => rfl
  have HFF := Lib.hid hf
  have lg : w10.heap.size < (w10.alloc (.cells #[.int .i64 (-9223372036854775808), .int .i64 0, .int .i64 1, .int .i64 16, .int .i64 17, .int .i64 64, .int .i64 65, .int .i64 9223372036854775807] 3)).heap.size := by rw [World.size_alloc]; omega
  have HW9 := Lib.hid BE.out.size
  clear hf HBW
  generalize w10.heap.size = g8 at *
  generalize (w10.alloc (.cells #[.int .i64 (-9223372036854775808), .int .i64 0, .int .i64 1, .int .i64 16, .int .i64 17, .int .i64 64, .int .i64 65, .int .i64 9223372036854775807] 3)) = wE at *
  go_loopw [16, 17, 18, 19, 20, 21, 22, 23, 24, 25, 26, 27] (fun i _ _ _ _ _ _ _ _ _ _ _ wr => ∃ j : Nat, j ≤ 8 ∧ i = .int .i64 j ∧ Hid (Below wE.heap.size wE wr)) (fun i _ _ _ _ _ _ _ _ _ _ _ _ => 8 - (intOf i).toNat)
  case atStart => exact ⟨0, by omega, rfl, Lib.hid (Below.refl _ _)⟩
  case round =>
    obtain ⟨j, hj, rfl, HB⟩ := hrel
    by_cases hlt : j < 8
    · have i1 : (j : Int) < 8 := by omega
      have i2 : (0 : Int) ≤ (j : Int) := by omega
      have c0 : wr.cell? ⟨g8, j, none⟩ = some (.int .i64 (f j)) := (HB.out.cell (p := ⟨g8, j, none⟩) lg).trans (HFF.out j hlt)
      have lg2 : g8 < wr.drew.heap.size := Nat.lt_of_lt_of_le lg HB.out.size
      generalize f j = e at *
      go_wp2_with fail
      refine wp_region_held_drew (S := fun w' => w'.cell? ⟨g8, j, none⟩ = some (.int .i64 e)) (by kernel_rfl) c0 (fun g => ?_)
      have HBZ : Hid (Below wE.heap.size wE wr.drew) := Lib.hid HB.out.drew
      have c1 : wr.drew.cell? ⟨g8, j, none⟩ = some (.int .i64 e) := c0
      clear c0 HB
      generalize wr.drew = z at *
      refine tq 0 ?_ rfl (by kernel_rfl) (fun _ _ _ h => h) (by rfl) g ?_ ?_; rotate_left
      · intro w9 h9; go_simp; try with_reducible rfl
      simp only [Act.put, ptA, ptB, ptC]
      refine tq 1 ?_ rfl (by kernel_rfl) (fun _ _ _ h => h) (by rfl) g ?_ ?_; rotate_left
      · intro w9 h9; go_simp; try with_reducible rfl
      simp only [Act.put, ptA, ptB, ptC]
      refine tq 2 ?_ rfl (by kernel_rfl) (fun _ _ _ h => h) (by rfl) g ?_ ?_; rotate_left
      · intro w9 h9; go_simp; try with_reducible rfl
      simp only [Act.put, ptA, ptB, ptC]
      refine tq 3 ?_ rfl (by kernel_rfl) (fun _ _ _ h => h) (by rfl) g ?_ ?_; rotate_left
      · intro w9 h9; go_simp; try with_reducible rfl
      simp only [Act.put, ptA, ptB, ptC]
      refine tq 4 ?_ rfl (by kernel_rfl) (fun _ _ _ h => h) (by rfl) g ?_ ?_; rotate_left
      · intro w9 h9; go_simp; try with_reducible rfl
      simp only [Act.put, ptA, ptB, ptC]
      refine tq 5 ?_ rfl (by kernel_rfl) (fun _ _ _ h => h) (by rfl) g ?_ ?_; rotate_left
      · intro w9 h9; go_simp; try with_reducible rfl
      simp only [Act.put, ptA, ptB, ptC]
      refine tq 6 ?_ rfl (by kernel_rfl) (fun _ _ _ h => h) (by rfl) g ?_ ?_; rotate_left
      · intro w9 h9; go_simp; try with_reducible rfl
      simp only [Act.put, ptA, ptB, ptC]
      refine tq 7 ?_ rfl (by kernel_rfl) (fun _ _ _ h => h) (by rfl) g ?_ ?_; rotate_left
      · intro w9 h9; go_simp; try with_reducible rfl
      simp only [Act.put, ptA, ptB, ptC]
      refine tc 8 rfl (by kernel_rfl) (fun K9 hK => ?_)
      go_simp
      with_reducible refine (KN.new z e e).mono ?_
      rintro e9 w1 ⟨X, rfl, q⟩
      have H1 := Lib.hid q
      have d1 := (q.below.cell (p := ⟨g8, j, none⟩) lg2).trans c1
      clear q
      go_simp
      refine hK.out _ _ d1 (fun g1 => ?_)
      clear hK K9 g
      have g := g1
      clear g1
      refine tq 9 ?_ rfl (by kernel_rfl) (fun _ _ _ h => h) (by rfl) g ?_ ?_; rotate_left
      · intro w9 h9; go_simp; try with_reducible rfl
      simp only [Act.put, ptA, ptB, ptC]
      clear g
      refine wpAnyH_done (by kernel_rfl) ?_ _
      have K1 : 1 ≤ max 1 (min e 16) := by omega
      have K2 : max 1 (min e 16) ≤ 16 := by omega
      have M1 : 1 ≤ max 1 (min e 64) := by omega
      have M2 : max 1 (min e 64) ≤ 64 := by omega
      go_wp2_with fail
      generalize max 1 (min e 16) = K at *
      generalize max 1 (min e 64) = M at *
      obtain ⟨kn, rfl⟩ : ∃ n : Nat, K = (n : Int) := ⟨K.toNat, by omega⟩
      obtain ⟨mn, rfl⟩ : ∃ n : Nat, M = (n : Int) := ⟨M.toNat, by omega⟩
      clear d1 c1
      have i3 : IntKind.i64.wrap ((mn : Int) + 1) = (mn : Int) + 1 := IntWalk.i64_in _ (by omega)
      have i4 : IntKind.i64.wrap ((kn : Int) + 1) = ((kn + 1 : Nat) : Int) := by rw [IntWalk.i64_in _ (by omega)]; omega
      go_loopw [20, 21, 22, 23, 24] (fun k _ _ _ _ wr => ∃ j : Nat, j ≤ mn + 1 ∧ k = .int .i64 j ∧ Hid (KN z X kn mn (ordK kn mn j) wr)) (fun k _ _ _ _ _ => mn + 1 - (intOf k).toNat)
      case atStart => exact ⟨0, by omega, rfl, Lib.hid (by rw [show ordK kn mn 0 = [] by simp [ordK, rowsK]]; exact H1.out)⟩
      case round =>
        clear H1
        obtain ⟨k, hk, rfl, H2⟩ := hrel
        by_cases hlk : k < mn + 1
        · have j1 : (k : Int) < (mn : Int) + 1 := by omega
          have j2 : IntKind.u8.wrap (k : Int) = (k : Int) := by rw [IntKind.wrap_u8]; omega
          have j3 : (0 : Int) < (kn : Int) := by omega
          have HOP := Lib.hid (ordK_put (n := kn) (m := mn) (k := k) (by omega) (by omega) (by omega))
          go_wp2_with (refine wp_make_own11 _ rfl _ _ _ rfl 5 i0 _ Try.underlying27 hi0 hz0 hz1 rfl _ _ kn rfl rfl ?a1 ?a2 ?_)
          case a1 => rw [hz2]; omega
          case a2 => unfold maxLen; omega
          intro adk wa hadn howna hba
          have HR : Hid (KNR z X kn mn (ordK kn mn k) (.slice (some adk) kn kn) (List.replicate kn 0) wa) := Lib.hid (by
            refine H2.out.row (ks := List.replicate kn 0) hba ?_
            rw [List.length_replicate]
            have e9 : bv (List.replicate kn 0) = List.replicate kn (Value.int .u8 0) := by unfold bv; rw [List.map_replicate]
            rw [e9]
            exact howna)
          obtain ⟨s1, s2, s3⟩ := HR.out.set0 (by omega) k
          obtain ⟨u9, s4⟩ := Option.isSome_iff_exists.1 s1
          have HS := Lib.hid s3
          have HKK := Lib.hid (keyK_len kn k)
          have HKB := Lib.hid (keyK_by kn k (by omega))
          clear hadn howna hba HR s1 s3 H2
          go_wp2_with fail
          with_reducible refine (HS.out.put HKK.out HKB.out _).mono ?_
          rintro e5 w5 ⟨ua, uc, rfl, q⟩
          rw [HOP.out] at q ⊢
          dsimp only at q ⊢
          have HQ := Lib.hid q
          clear q HS HKK HKB HOP s2 s4
          unfold putV
          by_cases hkm : k = mn
          · rw [if_pos hkm]
            dsimp only
            rw [keyK_len]
            subst hkm
            have j6 : (kn : Int) > 0 := j3
            have j7 : kn > 0 := by omega
            go_wp2
            go_roundw
            case rel => exact ⟨k + 1, by omega, by go_num, HQ⟩
            case measure => simp [intOf] <;> omega
          · rw [if_neg hkm]
            dsimp only [List.length_nil]
            have j5 : ((k : Int) == (mn : Int)) = false := by rw [beq_eq_false_iff_ne]; omega
            clear hkm
            go_wp2
            go_roundw
            case rel => exact ⟨k + 1, by omega, by go_num, HQ⟩
            case measure => simp [intOf]; omega
        · have hkm : k = mn + 1 := by omega
          have j1 : ¬ (k : Int) < (mn : Int) + 1 := by omega
          have H3 : Hid (KN z X kn mn (ordK kn mn (mn + 1)) wr) := Lib.hid (by rw [← hkm]; exact H2.out)
          have HOL := Lib.hid (ordK_len kn mn)
          generalize ordK kn mn (mn + 1) = o9 at *
          clear H2 hkm
          go_wp2_with (refine wp_make_own11 _ rfl _ _ _ rfl 5 i0 _ Try.underlying27 hi0 hz0 hz1 rfl _ _ (kn + 1) rfl rfl ?a1 ?a2 ?_)
          case a1 => first | omega | (rw [hz2]; omega)
          case a2 => unfold maxLen; omega
          intro adk wa hadn howna hba
          have H4 := Lib.hid (H3.out.grow hba)
          clear hadn howna hba H3
          go_wp2_with fail
          refine (H4.out.size (some adk) (kn + 1) (kn + 1) (by omega) 1).mono ?_
          rintro e5 w5 ⟨ua, uc, rfl, q⟩
          have H5 := Lib.hid q
          clear q H4
          unfold putV
          go_wp2_with fail
          with_reducible refine H5.out.plen.mono ?_
          rintro e6 w6 ⟨rfl, rfl⟩
          rw [HOL.out]
          have HB9 := Lib.hid (HBZ.out.trans (H5.out.below.mono HBZ.out.size))
          clear H5
          go_wp2
          go_roundw
          case rel => exact ⟨j + 1, by omega, by go_num, HB9⟩
          case measure => simp [intOf]; omega
    · have i1 : ¬ (j : Int) < 8 := by omega
      have HBB := Lib.hid (BE.out.trans (HB.out.mono BE.out.size))
      clear HB BE
      go_wp2_with fail
      with_reducible refine (known_c _).mono ?_
      rintro e9 w9 ⟨rfl, q⟩
      have HB9 := Lib.hid (HBB.out.trans (q.mono HBB.out.size))
      clear q HBB
      go_wp2
      go_ret
      exact ⟨rfl, HB9.out⟩

set_option maxRecDepth 100000 in
theorem lifted (os : Os) (started : os.Started) (H : Type) (enc : TypeId × Value → H) :
    ReturnsInHanded {} Try.checked os 6 .any (Rows.lruKnownSpec.pre6 enc Try.prog Try.f6 Rows.lruKnownRow.domain false) (Rows.lruKnownSpec.post enc Try.prog Try.f6 false true false false) := by
  refine returnsInHanded_of_change (C := Try.checked) own started (by kernel_rfl) Try.func6
    (ChangeSpec.witness6 (enc := enc) (C := Try.checked) false ⟨#[], #[], []⟩ 8 (by kernel_rfl) (by kernel_rfl) (by kernel_rfl) (by kernel_rfl)) ?_
  intro W base args ds gs before hval0 hW hcnd _
  have hval : ∀ (j : Nat) t v, Try.f6.params[j]? = some t → args[j]? = some v → Value.okWide Try.prog W .any base t v := hval0
  have hW' := hW
  obtain ⟨p, q, hA0, hV, rfl, hfz, hnd⟩ := hW
  have hA : DataW.TrodAll enc Try.prog W 0 (fun _ => true) true Try.f6.params.toList args.toList ds p := hA0
  rw [Try.params6] at hA hval
  obtain ⟨hargs, rfl, rfl⟩ := trodAll_nil hA
  obtain rfl : args = #[] := by cases args; simp_all
  obtain ⟨rfl, rfl⟩ := trodVars_none hV
  clear hA0 hval0
  refine (walk  W ).mono fun e W' ⟨he, bel⟩ => ?_
  subst he
  exact ⟨_, rfl, _, _, _, [], _, [], hW', trodAll_mk1 (shut_bool Try.underlying4 _), trodAll_mk0, rfl, bel.frame _, fun h => by cases h⟩

theorem over : Rows.lruKnownRow.holds Try.pinned (OpenSpec.ofChange Rows.lruKnownSpec) :=
  OpenClaim.holds_of_wide 6 Try.f6 rfl rfl rfl rfl rfl rfl rfl ⟨rfl, rfl, rfl, rfl, rfl⟩ rfl rfl rfl rfl rfl (by kernel_rfl) Try.func6 (by kernel_rfl)
    (of_decide_eq_true (by kernel_rfl)) (by unfold Func.isWrapper; first | (rw [if_pos (by decide +kernel)]; kernel_rfl) | (rw [if_neg (by decide +kernel)]; exact ⟨rfl, rfl⟩))
    (fun os started H enc _ => lifted os started H enc)

theorem proved : Rows.LruKnownSaid := over
#print axioms proved
end Go.Proofs.Ythappjbghlifbaa.lruKnown
