/-
  Layer 10, HashWears: keys that are put and taken away ever so often do not wear a table out: those that stay are found, and as many more may be put as ahead. No conditions.
-/
import Derived.Test.YtkaapphlnolelaaRows
import Derived.Test.YtkaapphlnolelaaHashAbs
import Derived.Test.YtkaapphlnolelaaHashOpen
import Derived.Deep.DeepCutAuto
import Derived.IntWalk
import Derived.WalkKit
import Derived.ProofKit
import Derived.OpenShut
import Derived.ChangeOld
import Derived.Below
namespace Go.Proofs.Ytkaapphlnolelaa.hashWears
open Go.ChangeShapes Go.WideShapes Go.ChangeAt Go.RowKit Ow Ro K2 Hm
set_option linter.unusedVariables false
set_option linter.unusedSimpArgs false

theorem own : ownKnob Try.prog.godebug = none := by kernel_rfl
theorem laidOut : laidOutB Try.prog = true := by kernel_rfl

/-- The key that stays (role 82), and another one's bytes (role 83). -/
def One (g : Nat) (b0 b1 : Int) (A : Ac) : Prop := A (82, 0) = some (g, .cells #[.int .u8 b0, .int .u8 b1] 5)
def Kb (g : Nat) (b0 b1 : Int) (B : Nat) (c0 c1 : Int) (A : Ac) : Prop := One g b0 b1 A ∧ A (83, 0) = some (B, .cells #[.int .u8 c0, .int .u8 c1] 5)
theorem one_fst (g : Nat) (b0 b1 : Int) : Fst (One g b0 b1) := fun A A' h ha => (h _ (by simp)).trans ha
theorem kb_fst (g : Nat) (b0 b1 : Int) (B : Nat) (c0 c1 : Int) : Fst (Kb g b0 b1 B c0 c1) := fun A A' h ha => ⟨(h _ (by simp)).trans ha.1, (h _ (by simp)).trans ha.2⟩
theorem two_rd {w : World} {g : Nat} {c0 c1 : Int} (h : Bk w g 5 #[.int .u8 c0, .int .u8 c1]) : Rd w w.heap.size (some ⟨g, 0, none⟩) (bv [c0, c1]) := fun _ => by
  refine ⟨_, rfl, h.lt, fun j u hu => ?_⟩
  rw [add_zero_at, h.cell j, ← hu]
  match j with
  | 0 => rfl
  | 1 => rfl
  | j + 2 => simp [bv]
section
variable {w0 w : World} {P K : Nat} {M : Int} {T : List Pl} {g B : Nat} {b0 b1 c0 c1 : Int}
theorem one_bk (h : PS w0 P K M T (One g b0 b1) w) : Bk w g 5 #[.int .u8 b0, .int .u8 b1] := by
  obtain ⟨A, h1, h2, h3⟩ := h
  exact h1.bk h3
theorem kb_bk (h : PS w0 P K M T (Kb g b0 b1 B c0 c1) w) : Bk w g 5 #[.int .u8 b0, .int .u8 b1] ∧ Bk w B 5 #[.int .u8 c0, .int .u8 c1] := by
  obtain ⟨A, h1, h2, h3, h4⟩ := h
  exact ⟨h1.bk h3, h1.bk h4⟩
theorem one_new (h : PS w0 P K M T (fun _ => True) w) (b0 b1 : Int) : PS w0 P K M T (One w.heap.size b0 b1) (w.alloc (.cells #[.int .u8 b0, .int .u8 b1] 5)) := by
  obtain ⟨A, h1, h2, h3⟩ := h
  exact ⟨_, h1.new (82, 0) ((Below.refl _ _).alloc (Nat.le_refl _) _) (Nat.le_refl _) (heap_alloc_new w _), h2.keep (fun x h8 h9 => up_other _ _ _ (fun e => by rw [e] at h9; simp at h9)), up_same _ _ _ _⟩
theorem kb_new (h : PS w0 P K M T (One g b0 b1) w) (c0 c1 : Int) : PS w0 P K M T (Kb g b0 b1 w.heap.size c0 c1) (w.alloc (.cells #[.int .u8 c0, .int .u8 c1] 5)) := by
  obtain ⟨A, h1, h2, h3⟩ := h
  exact ⟨_, h1.new (83, 0) ((Below.refl _ _).alloc (Nat.le_refl _) _) (Nat.le_refl _) (heap_alloc_new w _), h2.keep (fun x h8 h9 => up_other _ _ _ (fun e => by rw [e] at h9; simp at h9)), (up_other _ _ _ (by simp)).trans h3, up_same _ _ _ _⟩
theorem one_set (h : PS w0 P K M T (One g b0 b1) w) (i : Nat) (u : Int) (hi : i < 2) : PS w0 P K M T (One g (if i = 0 then u else b0) (if i = 0 then b1 else u)) (w.setCell ⟨g, i, none⟩ (.int .u8 u)) := by
  obtain ⟨A, h1, h2, h3⟩ := h
  refine ⟨_, h1.set_ h3 i (.int .u8 u), h2.keep (fun x h8 h9 => up_other _ _ _ (fun e => by rw [e] at h9; simp at h9)), ?_⟩
  unfold One
  rw [up_same]
  match i, hi with
  | 0, _ => rfl
  | 1, _ => rfl
theorem kb_set (h : PS w0 P K M T (Kb g b0 b1 B c0 c1) w) (u : Int) : PS w0 P K M T (Kb g b0 b1 B c0 u) (w.setCell ⟨B, 1, none⟩ (.int .u8 u)) := by
  obtain ⟨A, h1, h2, h3, h4⟩ := h
  exact ⟨_, h1.set_ h4 1 (.int .u8 u), h2.keep (fun x h8 h9 => up_other _ _ _ (fun e => by rw [e] at h9; simp at h9)), (up_other _ _ _ (by simp)).trans h3, up_same _ _ _ _⟩
theorem kb_one (h : PS w0 P K M T (Kb g b0 b1 B c0 c1) w) : PS w0 P K M T (One g b0 b1) w := h.mono fun A h => h.1
end
/-- The keys that are put at last. -/
def kk (b0 b1 : Int) (i : Nat) : List Int := if [(i : Int), 200] = [b0, b1] then [(i : Int), 201] else [(i : Int), 200]
def Hj (b0 b1 : Int) (j : Nat) : List KC := ([b0, b1], 77) :: (List.range j).map fun i => (kk b0 b1 i, (i : Int))
theorem Hj_len (b0 b1 : Int) (j : Nat) : (Hj b0 b1 j).length = j + 1 := by unfold Hj; rw [List.length_cons, List.length_map, List.length_range]
theorem Hj_succ (b0 b1 : Int) (j : Nat) : Hj b0 b1 (j + 1) = Hj b0 b1 j ++ [(kk b0 b1 j, (j : Int))] := by unfold Hj; rw [List.range_succ, List.map_append, List.cons_append]; rfl
theorem kk_head (b0 b1 : Int) (i : Nat) : ∃ z, kk b0 b1 i = [(i : Int), z] ∧ [(i : Int), z] ≠ [b0, b1] := by
  unfold kk
  split
  · rename_i h
    refine ⟨201, rfl, fun e => ?_⟩
    rw [← e] at h
    simp at h
  · rename_i h
    exact ⟨200, rfl, h⟩
theorem Hj_not (b0 b1 : Int) (j : Nat) (x z : Int) (h1 : [x, z] ≠ [b0, b1]) (h2 : ∀ i : Nat, i < j → (i : Int) ≠ x) : ∀ c, ([x, z], c) ∉ Hj b0 b1 j := fun c hm => by
  unfold Hj at hm
  rcases List.mem_cons.1 hm with h | h
  · injection h with h _
    exact h1 h
  · obtain ⟨i, hi, he⟩ := List.mem_map.1 h
    obtain ⟨y, hy, _⟩ := kk_head b0 b1 i
    rw [hy] at he
    injection he with he _
    injection he with he _
    exact h2 i (List.mem_range.1 hi) he
theorem byte_wrap (i : Nat) (h : i ≤ 7) : IntKind.u8.wrap (i : Int) = (i : Int) := by rw [IntKind.wrap_u8]; omega

set_option maxRecDepth 100000 in
set_option maxHeartbeats 4000000 in
theorem walk (a0 : Option Addr) (len0 cap0 : Nat) (L0 : List (List Int)) (a1 : Option Addr) (len1 cap1 : Nat) (L1 : List Int) (w : World) (l0 : L0.length = len0) (f0 : ∀ l ∈ L0, (∀ b ∈ l, 0 ≤ b ∧ b ≤ 255) ∧ l.length ≤ 9223372036854775807) (c0 : len0 ≤ cap0) (m0 : cap0 ≤ 9223372036854775807) (r0 : Txt w w.heap.size a0 L0) (l1 : L1.length = len1) (f1 : ∀ b ∈ L1, 0 ≤ b ∧ b ≤ 255) (c1 : len1 ≤ cap1) (m1 : cap1 ≤ 9223372036854775807) (z1 : a1 = none → len1 = 0 ∧ cap1 = 0) (r1 : Rd w w.heap.size a1 (bv L1)) :
    Calls Try.prog 6 #[.slice a0 len0 cap0, .slice a1 len1 cap1] w fun e w' => e = .returned (.bool true) ∧ Below w.heap.size w w' := by
  have RR := Lib.hid r0
  have HL := Lib.hid l0
  have HF := Lib.hid f0
  have RS := Lib.hid r1
  have HSL := Lib.hid l1
  have HSB := Lib.hid f1
  have HB0 := Lib.hid (Below.refl w.heap.size w)
  clear r0 l0 f0 r1 l1 f1 z1
  go_enter Try.func6, Try.ntmps6
  go_wp2_with fail
  with_reducible refine (fnew HB0.out 2 8).mono ?_
  rintro e w4 ⟨P, rfl, h1⟩
  have H1 : Hid (PS w P 2 8 (List.replicate 16 e0) (fun _ => True) w4) := Lib.hid h1
  have HT0 : Hid (Tab (List.replicate 16 e0) 2 8) := Lib.hid (Tab.start 2 8 (by omega) (by omega) (by omega) (by omega))
  clear h1
  have H2 := Lib.hid (one_new H1.out 1 1)
  go_wp2_with fail
  obtain ⟨g, hg⟩ : ∃ g, w4.heap.size = g := ⟨_, rfl⟩
  rw [hg] at H2 ⊢
  generalize (w4.alloc (.cells #[.int .u8 1, .int .u8 1] 5)) = w5 at *
  clear H1 hg
  go_loopw [7] (fun i wr => ∃ (k : Nat) (b0 b1 : Int), k ≤ 2 ∧ k ≤ len1 ∧ i = .int .i64 k ∧ (0 ≤ b0 ∧ b0 ≤ 255) ∧ (0 ≤ b1 ∧ b1 ≤ 255) ∧ Hid (PS w P 2 8 (List.replicate 16 e0) (One g b0 b1) wr)) (fun i _ => 3 - (intOf i).toNat)
  case atStart => exact ⟨0, 1, 1, by omega, by omega, rfl, by omega, by omega, H2⟩
  case round =>
    obtain ⟨k, b0, b1, hk, hk1, rfl, hb0, hb1, H3⟩ := hrel
    clear H2
    by_cases hc : k < len1 ∧ k < 2
    · obtain ⟨hc1, hc2⟩ := hc
      have i1 : (k : Int) < (len1 : Int) := by omega
      have i2 : (k : Int) < 2 := by omega
      have i3 : (0 : Int) ≤ (k : Int) := by omega
      have hkx : k < L1.length := by rw [HSL.out]; exact hc1
      obtain ⟨ad, rfl, _, hcell⟩ := (RS.out.below H3.out.below) (by rw [bv_len]; omega)
      have c0 := hcell k _ (bv_get L1 k hkx)
      have hu := HSB.out _ (List.getElem_mem hkx)
      generalize L1[k] = u at *
      have H4 := Lib.hid (one_set H3.out k u hc2)
      have d0 := (one_bk H3.out).cell k
      have z0 := (one_bk H3.out).frozen k
      have d1 : wr.cell? ⟨g, k, none⟩ = some (.int .u8 (if k = 0 then b0 else b1)) := by
        rw [d0]
        match k, hc2 with
        | 0, _ => rfl
        | 1, _ => rfl
      have e0 : (⟨g, 0, none⟩ : Addr).add k = ⟨g, k, none⟩ := add_zero_at g k
      have hn0 : 0 ≤ (if k = 0 then u else b0) ∧ (if k = 0 then u else b0) ≤ 255 := by split <;> omega
      have hn1 : 0 ≤ (if k = 0 then b1 else u) ∧ (if k = 0 then b1 else u) ≤ 255 := by split <;> omega
      generalize (if k = 0 then u else b0) = x0 at *
      generalize (if k = 0 then b1 else u) = x1 at *
      generalize (if k = 0 then b0 else b1) = y1 at *
      clear d0 hcell H3 hkx
      go_wp2
      go_roundw
      case rel => exact ⟨k + 1, x0, x1, by omega, by omega, by go_num, hn0, hn1, H4⟩
      case measure => simp [intOf]; omega
    · clear HT0
      have HT0 : Hid (Tab (List.replicate 16 e0) 2 8) := Lib.hid (Tab.start 2 8 (by omega) (by omega) (by omega) (by omega))
      have hor : k = len1 ∨ k = 2 := by omega
      have hbb : ∀ b ∈ [b0, b1], 0 ≤ b ∧ b ≤ 255 := fun b hb => by
        simp only [List.mem_cons, List.not_mem_nil, or_false] at hb
        rcases hb with rfl | rfl <;> assumption
      obtain ⟨T1, ht1, ht2, ht3⟩ := putH HT0.out (Holds.start 16) (k := [b0, b1]) rfl hbb (fun c h => by simp at h) (by simp) 77
      have HR1 := Lib.hid (two_rd (one_bk H3.out))
      have HT1 := Lib.hid ht2
      have HH1 : Hid (Holds T1 [([b0, b1], 77)]) := Lib.hid ht3
      have HP1 := Lib.hid ht1
      have HBB := Lib.hid hbb
      have jj : ((decide ((k : Int) < (len1 : Int)) && decide ((k : Int) < 2)) = false) := by
        rcases hor with h | h
        · have : ¬ (k : Int) < (len1 : Int) := by omega
          simp [this]
        · have : ¬ (k : Int) < 2 := by omega
          simp [this]
      clear ht1 ht2 ht3 hbb HT0
      by_cases hq : k < len1
      · have i1 : (k : Int) < (len1 : Int) := by omega
        have i2 : ¬ (k : Int) < 2 := by omega
        clear jj
        go_wp2_with fail
        have HT0 : Hid (Tab (List.replicate 16 e0) 2 8) := Lib.hid (Tab.start 2 8 (by omega) (by omega) (by omega) (by omega))
        with_reducible refine (fput H3.out (one_fst g b0 b1) HT0.out (some ⟨g, 0, none⟩) 2 2 [b0, b1] rfl (by omega) HBB.out HR1.out 77 HP1.out).mono ?_
        rintro e z1 ⟨rfl, q⟩
        have H4 : Hid (PS w P 2 8 T1 (One g b0 b1) z1) := Lib.hid q
        clear q H3 HR1 HP1 HT0
        dsimp only
        go_wp2_with fail
        go_loopw [8] (fun i wr => ∃ (t : Nat) (T : List Pl), t ≤ 3 ∧ i = .int .i64 t ∧ Hid (PS w P 2 8 T (One g b0 b1) wr) ∧ Hid (Tab T 2 8) ∧ Hid (Holds T [([b0, b1], 77)])) (fun i _ => 3 - (intOf i).toNat)
        case atStart => exact ⟨0, T1, by omega, rfl, H4, HT1, HH1⟩
        case round =>
          obtain ⟨t, T2, ht, rfl, H5, HT2, HH2⟩ := hrel
          clear H4 HT1 HH1
          by_cases hlt3 : t < 3
          · have i5 : (t : Int) < 3 := by omega
            go_wp2_with fail
            go_loopw [9] (fun i wr => ∃ (j : Nat) (T : List Pl), j ≤ len0 ∧ j ≤ 60 ∧ i = .int .i64 j ∧ Hid (PS w P 2 8 T (One g b0 b1) wr) ∧ Hid (Tab T 2 8) ∧ Hid (Holds T [([b0, b1], 77)])) (fun i _ => 61 - (intOf i).toNat)
            case atStart => exact ⟨0, T2, by omega, by omega, rfl, H5, HT2, HH2⟩
            case round =>
              obtain ⟨j, T3, hj, hj2, rfl, H6, HT3, HH3⟩ := hrel
              clear H5 HT2 HH2
              by_cases hcl : j < len0
              · have i6 : (j : Int) < (len0 : Int) := by omega
                by_cases hc60 : j < 60
                · have i7 : (j : Int) < 60 := by omega
                  have i8 : (0 : Int) ≤ (j : Int) := by omega
                  have hkG : L0[j]? = some (L0[j]'(by rw [HL.out]; exact hcl)) := List.getElem?_eq_getElem _
                  obtain ⟨hkb, hkm⟩ := HF.out _ (List.getElem_mem (by rw [HL.out]; exact hcl))
                  generalize L0[j]'(by rw [HL.out]; exact hcl) = ks at *
                  obtain ⟨ad, ax, cx, rfl, hA, hcc, hrr⟩ := RR.out.look hkG
                  have HC : Hid (∀ z, Below w.heap.size w z → z.cell? (ad.add j) = some (.slice ax ks.length cx) ∧ Rd z z.heap.size ax (bv ks)) := Lib.hid (fun z hz => ⟨(hz.cell (by rw [add_block]; exact hA)).trans hcc, (hrr.below hz).mono hz.size⟩)
                  have HKB := Lib.hid hkb
                  obtain ⟨q1, q2⟩ := HC.out _ H6.out.below
                  have HR := Lib.hid q2
                  clear hkG hA hcc hrr hkb q2
                  obtain ⟨n, hn⟩ : ∃ n, ks.length = n := ⟨_, rfl⟩
                  have HN := Lib.hid hn
                  rw [hn] at q1 HC hkm
                  clear hn
                  by_cases hn2 : n = 2
                  · subst hn2
                    go_wp2_with fail
                    with_reducible refine (samebytes_any ax (some ⟨g, 0, none⟩) 2 2 cx 2 ks [b0, b1] HN.out rfl (by omega) (by omega) _ HR.out (two_rd (one_bk H6.out))).mono ?_
                    rintro e z2 ⟨rfl, q⟩
                    have H7 := Lib.hid (H6.out.grow q)
                    clear q H6 HR q1
                    by_cases he : ks = [b0, b1]
                    · have hd : decide (ks = [b0, b1]) = true := decide_eq_true he
                      clear he
                      go_wp2
                      go_roundw
                      case rel => exact ⟨j + 1, T3, by omega, by omega, by go_num, H7, HT3, HH3⟩
                      case measure => simp [intOf]; omega
                    · have hd : decide (ks = [b0, b1]) = false := decide_eq_false he
                      have hnin : ∀ c, (ks, c) ∉ [([b0, b1], (77 : Int))] := fun c hm => by
                        rw [List.mem_singleton] at hm
                        injection hm with hm _
                        exact he hm
                      obtain ⟨T4, hp4, ht4, hh4⟩ := putH HT3.out HH3.out HN.out HKB.out hnin (by simp) (j : Int)
                      have HP4 := Lib.hid hp4
                      have HT4 := Lib.hid ht4
                      have HH4 := Lib.hid hh4
                      have hper : (([([b0, b1], (77 : Int))] : List KC) ++ [(ks, (j : Int))]).Perm ((ks, (j : Int)) :: [([b0, b1], (77 : Int))]) := List.perm_append_comm
                      have HF4 := Lib.hid (findH HT4.out HH4.out (k := ks) (c := (j : Int)) (by simp))
                      obtain ⟨ht5, hh5⟩ := delH HT4.out HH4.out hper
                      have HT5 := Lib.hid ht5
                      have HH5 := Lib.hid hh5
                      clear he hnin hp4 ht4 hh4 hper ht5 hh5
                      obtain ⟨q1, q2⟩ := HC.out _ H7.out.below
                      have HR := Lib.hid q2
                      clear q2
                      go_wp2_with fail
                      with_reducible refine (fput H7.out (one_fst g b0 b1) HT3.out ax 2 cx ks HN.out (by omega) HKB.out HR.out (j : Int) HP4.out).mono ?_
                      rintro e z3 ⟨rfl, q⟩
                      have H8 : Hid (PS w P 2 8 T4 (One g b0 b1) z3) := Lib.hid q
                      clear q H7 HR HP4 q1
                      dsimp only
                      obtain ⟨q1, q2⟩ := HC.out _ H8.out.below
                      have HR := Lib.hid q2
                      clear q2
                      go_wp2_with fail
                      with_reducible refine (fdel H8.out (one_fst g b0 b1) HT4.out ax 2 cx ks HN.out (by omega) HKB.out HR.out HF4.out).mono ?_
                      rintro e z4 ⟨rfl, q⟩
                      have H9 := Lib.hid q
                      clear q H8 HR HF4 q1
                      go_wp2_with fail
                      with_reducible refine (flen H9.out).mono ?_
                      rintro e z' ⟨rfl, rfl⟩
                      have hl1 := HH5.out.len
                      rw [← hl1]
                      clear hl1
                      generalize delT T4 (fat T4 ks) = T5 at *
                      go_wp2
                      go_roundw
                      case rel => exact ⟨j + 1, T5, by omega, by omega, by go_num, H9, HT5, HH5⟩
                      case measure => simp [intOf]; omega
                  · have hne : ((n : Int) != 2) = true := by simp; omega
                    clear HR
                    go_wp2
                    go_roundw
                    case rel => exact ⟨j + 1, T3, by omega, by omega, by go_num, H6, HT3, HH3⟩
                    case measure => simp [intOf]; omega
                · have i7 : ¬ (j : Int) < 60 := by omega
                  go_wp2
                  go_roundw
                  case rel => exact ⟨t + 1, T3, by omega, by go_num, H6, HT3, HH3⟩
                  case measure => simp [intOf]; omega
              · have i6 : ¬ (j : Int) < (len0 : Int) := by omega
                go_wp2
                go_roundw
                case rel => exact ⟨t + 1, T3, by omega, by go_num, H6, HT3, HH3⟩
                case measure => simp [intOf]; omega
          · have i5 : ¬ (t : Int) < 3 := by omega
            go_wp2_with fail
            go_loopw [13] (fun i wr => ∃ (j : Nat) (T : List Pl), j ≤ 7 ∧ i = .int .i64 j ∧ Hid (PS w P 2 8 T (One g b0 b1) wr) ∧ Hid (Tab T 2 8) ∧ Hid (Holds T (Hj b0 b1 j))) (fun i _ => 7 - (intOf i).toNat)
            case atStart => exact ⟨0, T2, by omega, rfl, H5, HT2, HH2⟩
            case round =>
              obtain ⟨j, T3, hj, rfl, H6, HT3, HH3⟩ := hrel
              clear H5 HT2 HH2
              by_cases hlt7 : j < 7
              · have i6 : (j : Int) < 7 := by omega
                have hbw := byte_wrap j hj
                go_wp2_with fail
                have H7 := Lib.hid (kb_new H6.out (j : Int) 200)
                obtain ⟨B, hB⟩ : ∃ B, wr.heap.size = B := ⟨_, rfl⟩
                rw [hB] at H7 ⊢
                generalize (wr.alloc (.cells #[.int .u8 (j : Int), .int .u8 200] 5)) = w6 at *
                clear H6 hB
                have HR6 := Lib.hid (two_rd (kb_bk H7.out).2)
                have HR7 := Lib.hid (two_rd (kb_bk H7.out).1)
                with_reducible refine (samebytes_any (some ⟨B, 0, none⟩) (some ⟨g, 0, none⟩) 2 2 2 2 [(j : Int), 200] [b0, b1] rfl rfl (by omega) (by omega) _ HR6.out HR7.out).mono ?_
                rintro e w7 ⟨rfl, q⟩
                have H8 := Lib.hid (H7.out.grow q)
                clear q H7 HR6 HR7
                by_cases he : [(j : Int), 200] = [b0, b1]
                · have HKK : Hid (kk b0 b1 j = [(j : Int), 201]) := Lib.hid (by unfold kk; rw [if_pos he])
                  rw [decide_eq_true he]
                  have H9 := Lib.hid (kb_set H8.out 201)
                  have d1 := (kb_bk H8.out).2.cell 1
                  have d2 := (kb_bk H8.out).2.frozen 1
                  simp only [List.getElem?_toArray, List.getElem?_cons_zero, List.getElem?_cons_succ] at d1
                  clear he H8
                  go_wp2_with fail
                  generalize (w7.setCell ⟨B, 1, none⟩ (.int .u8 201)) = w8 at *
                  have hby : ∀ b ∈ [(j : Int), 201], 0 ≤ b ∧ b ≤ 255 := fun b hb => by
                    simp only [List.mem_cons, List.not_mem_nil, or_false] at hb
                    rcases hb with rfl | rfl <;> omega
                  have hkk : kk b0 b1 j = [(j : Int), 201] := HKK.out
                  obtain ⟨y, hy1, hy2⟩ := kk_head b0 b1 j
                  rw [hkk] at hy1
                  have hyz : [(j : Int), 201] ≠ [b0, b1] := by rw [hy1]; exact hy2
                  obtain ⟨T4, hp4, ht4, hh4⟩ := putH HT3.out HH3.out (k := [(j : Int), 201]) rfl hby (Hj_not b0 b1 j (j : Int) 201 hyz (fun i hi => by omega)) (by rw [Hj_len]; omega) (j : Int)
                  rw [← hkk, ← Hj_succ] at hh4
                  have HP4 := Lib.hid hp4
                  have HT4 := Lib.hid ht4
                  have HH4 := Lib.hid hh4
                  have HBY := Lib.hid hby
                  have HR := Lib.hid (two_rd (kb_bk H9.out).2)
                  clear hp4 ht4 hh4 hby hkk hy1 hy2 hyz
                  go_wp2_with fail
                  with_reducible refine (fput H9.out (kb_fst g b0 b1 B (j : Int) 201) HT3.out (some ⟨B, 0, none⟩) 2 2 [(j : Int), 201] rfl (by omega) HBY.out HR.out (j : Int) HP4.out).mono ?_
                  rintro e z3 ⟨rfl, q⟩
                  have H10 : Hid (PS w P 2 8 T4 (One g b0 b1) z3) := Lib.hid (kb_one q)
                  clear q H9 HR HP4
                  dsimp only
                  go_wp2
                  go_roundw
                  case rel => exact ⟨j + 1, T4, by omega, by go_num, H10, HT4, HH4⟩
                  case measure => simp [intOf]; omega
                · have HKK : Hid (kk b0 b1 j = [(j : Int), 200]) := Lib.hid (by unfold kk; rw [if_neg he])
                  rw [decide_eq_false he]
                  have H9 := H8
                  clear he H8
                  have hby : ∀ b ∈ [(j : Int), 200], 0 ≤ b ∧ b ≤ 255 := fun b hb => by
                    simp only [List.mem_cons, List.not_mem_nil, or_false] at hb
                    rcases hb with rfl | rfl <;> omega
                  have hkk : kk b0 b1 j = [(j : Int), 200] := HKK.out
                  obtain ⟨y, hy1, hy2⟩ := kk_head b0 b1 j
                  rw [hkk] at hy1
                  have hyz : [(j : Int), 200] ≠ [b0, b1] := by rw [hy1]; exact hy2
                  obtain ⟨T4, hp4, ht4, hh4⟩ := putH HT3.out HH3.out (k := [(j : Int), 200]) rfl hby (Hj_not b0 b1 j (j : Int) 200 hyz (fun i hi => by omega)) (by rw [Hj_len]; omega) (j : Int)
                  rw [← hkk, ← Hj_succ] at hh4
                  have HP4 := Lib.hid hp4
                  have HT4 := Lib.hid ht4
                  have HH4 := Lib.hid hh4
                  have HBY := Lib.hid hby
                  have HR := Lib.hid (two_rd (kb_bk H9.out).2)
                  clear hp4 ht4 hh4 hby hkk hy1 hy2 hyz
                  go_wp2_with fail
                  with_reducible refine (fput H9.out (kb_fst g b0 b1 B (j : Int) 200) HT3.out (some ⟨B, 0, none⟩) 2 2 [(j : Int), 200] rfl (by omega) HBY.out HR.out (j : Int) HP4.out).mono ?_
                  rintro e z3 ⟨rfl, q⟩
                  have H10 : Hid (PS w P 2 8 T4 (One g b0 b1) z3) := Lib.hid (kb_one q)
                  clear q H9 HR HP4
                  dsimp only
                  go_wp2
                  go_roundw
                  case rel => exact ⟨j + 1, T4, by omega, by go_num, H10, HT4, HH4⟩
                  case measure => simp [intOf]; omega
              · have i6 : ¬ (j : Int) < 7 := by omega
                obtain rfl : j = 7 := by omega
                go_wp2_with fail
                have H7 := Lib.hid (kb_new H6.out 9 202)
                obtain ⟨B, hB⟩ : ∃ B, wr.heap.size = B := ⟨_, rfl⟩
                rw [hB] at H7 ⊢
                generalize (wr.alloc (.cells #[.int .u8 9, .int .u8 202] 5)) = w6 at *
                clear H6 hB
                have HR6 := Lib.hid (two_rd (kb_bk H7.out).2)
                have HR7 := Lib.hid (two_rd (kb_bk H7.out).1)
                with_reducible refine (samebytes_any (some ⟨B, 0, none⟩) (some ⟨g, 0, none⟩) 2 2 2 2 [(9 : Int), 202] [b0, b1] rfl rfl (by omega) (by omega) _ HR6.out HR7.out).mono ?_
                rintro e w7 ⟨rfl, q⟩
                have H8 := Lib.hid (H7.out.grow q)
                clear q H7 HR6 HR7
                by_cases he : [(9 : Int), 202] = [b0, b1]
                · rw [decide_eq_true he]
                  have HNE : Hid ([(9 : Int), 203] ≠ [b0, b1]) := Lib.hid (fun h => by rw [← h] at he; simp at he)
                  have H9 := Lib.hid (kb_set H8.out 203)
                  have d1 := (kb_bk H8.out).2.cell 1
                  have d2 := (kb_bk H8.out).2.frozen 1
                  simp only [List.getElem?_toArray, List.getElem?_cons_zero, List.getElem?_cons_succ] at d1
                  clear he H8
                  go_wp2_with fail
                  generalize (w7.setCell ⟨B, 1, none⟩ (.int .u8 203)) = w8 at *
                  have hby : ∀ b ∈ [(9 : Int), 203], 0 ≤ b ∧ b ≤ 255 := fun b hb => by
                    simp only [List.mem_cons, List.not_mem_nil, or_false] at hb
                    rcases hb with rfl | rfl <;> omega
                  have HPF := Lib.hid (putFull HH3.out (K := 2) (M := 8) (k := [(9 : Int), 203]) rfl (Hj_not b0 b1 7 9 203 HNE.out (fun i hi => by omega)) (by rw [Hj_len]; omega) 1)
                  have HFO := Lib.hid (findH HT3.out HH3.out (k := [b0, b1]) (c := 77) (by unfold Hj; simp))
                  have HBY := Lib.hid hby
                  have HR1 := Lib.hid (two_rd (kb_bk H9.out).1)
                  clear hby
                  go_wp2_with fail
                  with_reducible refine (ffind H9.out HT3.out (some ⟨g, 0, none⟩) 2 2 [b0, b1] rfl (by omega) HBB.out HR1.out HFO.out).mono ?_
                  rintro e z3 ⟨rfl, q, _⟩
                  have H10 := Lib.hid q
                  clear q H9 HR1 HFO
                  have HR2 := Lib.hid (two_rd (kb_bk H10.out).2)
                  go_wp2_with fail
                  with_reducible refine (fput H10.out (kb_fst g b0 b1 B 9 203) HT3.out (some ⟨B, 0, none⟩) 2 2 [(9 : Int), 203] rfl (by omega) HBY.out HR2.out 1 HPF.out).mono ?_
                  rintro e z4 ⟨rfl, q⟩
                  have HB4 := Lib.hid q.below
                  clear q H10 HR2 HPF
                  dsimp only
                  go_wp2_with fail
                  with_reducible refine (works_c _).mono ?_
                  rintro e z5 ⟨rfl, q⟩
                  have HB5 := Lib.hid (HB4.out.trans (q.mono HB4.out.size))
                  clear q
                  go_wp2
                  go_ret
                  exact ⟨rfl, HB5.out⟩
                · rw [decide_eq_false he]
                  have HNE : Hid ([(9 : Int), 202] ≠ [b0, b1]) := Lib.hid he
                  have H9 := H8
                  clear he H8
                  have hby : ∀ b ∈ [(9 : Int), 202], 0 ≤ b ∧ b ≤ 255 := fun b hb => by
                    simp only [List.mem_cons, List.not_mem_nil, or_false] at hb
                    rcases hb with rfl | rfl <;> omega
                  have HPF := Lib.hid (putFull HH3.out (K := 2) (M := 8) (k := [(9 : Int), 202]) rfl (Hj_not b0 b1 7 9 202 HNE.out (fun i hi => by omega)) (by rw [Hj_len]; omega) 1)
                  have HFO := Lib.hid (findH HT3.out HH3.out (k := [b0, b1]) (c := 77) (by unfold Hj; simp))
                  have HBY := Lib.hid hby
                  have HR1 := Lib.hid (two_rd (kb_bk H9.out).1)
                  clear hby
                  go_wp2_with fail
                  with_reducible refine (ffind H9.out HT3.out (some ⟨g, 0, none⟩) 2 2 [b0, b1] rfl (by omega) HBB.out HR1.out HFO.out).mono ?_
                  rintro e z3 ⟨rfl, q, _⟩
                  have H10 := Lib.hid q
                  clear q H9 HR1 HFO
                  have HR2 := Lib.hid (two_rd (kb_bk H10.out).2)
                  go_wp2_with fail
                  with_reducible refine (fput H10.out (kb_fst g b0 b1 B 9 202) HT3.out (some ⟨B, 0, none⟩) 2 2 [(9 : Int), 202] rfl (by omega) HBY.out HR2.out 1 HPF.out).mono ?_
                  rintro e z4 ⟨rfl, q⟩
                  have HB4 := Lib.hid q.below
                  clear q H10 HR2 HPF
                  dsimp only
                  go_wp2_with fail
                  with_reducible refine (works_c _).mono ?_
                  rintro e z5 ⟨rfl, q⟩
                  have HB5 := Lib.hid (HB4.out.trans (q.mono HB4.out.size))
                  clear q
                  go_wp2
                  go_ret
                  exact ⟨rfl, HB5.out⟩
      · have i1 : ¬ (k : Int) < (len1 : Int) := by omega
        clear jj
        go_wp2_with fail
        have HT0 : Hid (Tab (List.replicate 16 e0) 2 8) := Lib.hid (Tab.start 2 8 (by omega) (by omega) (by omega) (by omega))
        with_reducible refine (fput H3.out (one_fst g b0 b1) HT0.out (some ⟨g, 0, none⟩) 2 2 [b0, b1] rfl (by omega) HBB.out HR1.out 77 HP1.out).mono ?_
        rintro e z1 ⟨rfl, q⟩
        have H4 : Hid (PS w P 2 8 T1 (One g b0 b1) z1) := Lib.hid q
        clear q H3 HR1 HP1 HT0
        dsimp only
        go_wp2_with fail
        go_loopw [8] (fun i wr => ∃ (t : Nat) (T : List Pl), t ≤ 3 ∧ i = .int .i64 t ∧ Hid (PS w P 2 8 T (One g b0 b1) wr) ∧ Hid (Tab T 2 8) ∧ Hid (Holds T [([b0, b1], 77)])) (fun i _ => 3 - (intOf i).toNat)
        case atStart => exact ⟨0, T1, by omega, rfl, H4, HT1, HH1⟩
        case round =>
          obtain ⟨t, T2, ht, rfl, H5, HT2, HH2⟩ := hrel
          clear H4 HT1 HH1
          by_cases hlt3 : t < 3
          · have i5 : (t : Int) < 3 := by omega
            go_wp2_with fail
            go_loopw [9] (fun i wr => ∃ (j : Nat) (T : List Pl), j ≤ len0 ∧ j ≤ 60 ∧ i = .int .i64 j ∧ Hid (PS w P 2 8 T (One g b0 b1) wr) ∧ Hid (Tab T 2 8) ∧ Hid (Holds T [([b0, b1], 77)])) (fun i _ => 61 - (intOf i).toNat)
            case atStart => exact ⟨0, T2, by omega, by omega, rfl, H5, HT2, HH2⟩
            case round =>
              obtain ⟨j, T3, hj, hj2, rfl, H6, HT3, HH3⟩ := hrel
              clear H5 HT2 HH2
              by_cases hcl : j < len0
              · have i6 : (j : Int) < (len0 : Int) := by omega
                by_cases hc60 : j < 60
                · have i7 : (j : Int) < 60 := by omega
                  have i8 : (0 : Int) ≤ (j : Int) := by omega
                  have hkG : L0[j]? = some (L0[j]'(by rw [HL.out]; exact hcl)) := List.getElem?_eq_getElem _
                  obtain ⟨hkb, hkm⟩ := HF.out _ (List.getElem_mem (by rw [HL.out]; exact hcl))
                  generalize L0[j]'(by rw [HL.out]; exact hcl) = ks at *
                  obtain ⟨ad, ax, cx, rfl, hA, hcc, hrr⟩ := RR.out.look hkG
                  have HC : Hid (∀ z, Below w.heap.size w z → z.cell? (ad.add j) = some (.slice ax ks.length cx) ∧ Rd z z.heap.size ax (bv ks)) := Lib.hid (fun z hz => ⟨(hz.cell (by rw [add_block]; exact hA)).trans hcc, (hrr.below hz).mono hz.size⟩)
                  have HKB := Lib.hid hkb
                  obtain ⟨q1, q2⟩ := HC.out _ H6.out.below
                  have HR := Lib.hid q2
                  clear hkG hA hcc hrr hkb q2
                  obtain ⟨n, hn⟩ : ∃ n, ks.length = n := ⟨_, rfl⟩
                  have HN := Lib.hid hn
                  rw [hn] at q1 HC hkm
                  clear hn
                  by_cases hn2 : n = 2
                  · subst hn2
                    go_wp2_with fail
                    with_reducible refine (samebytes_any ax (some ⟨g, 0, none⟩) 2 2 cx 2 ks [b0, b1] HN.out rfl (by omega) (by omega) _ HR.out (two_rd (one_bk H6.out))).mono ?_
                    rintro e z2 ⟨rfl, q⟩
                    have H7 := Lib.hid (H6.out.grow q)
                    clear q H6 HR q1
                    by_cases he : ks = [b0, b1]
                    · have hd : decide (ks = [b0, b1]) = true := decide_eq_true he
                      clear he
                      go_wp2
                      go_roundw
                      case rel => exact ⟨j + 1, T3, by omega, by omega, by go_num, H7, HT3, HH3⟩
                      case measure => simp [intOf]; omega
                    · have hd : decide (ks = [b0, b1]) = false := decide_eq_false he
                      have hnin : ∀ c, (ks, c) ∉ [([b0, b1], (77 : Int))] := fun c hm => by
                        rw [List.mem_singleton] at hm
                        injection hm with hm _
                        exact he hm
                      obtain ⟨T4, hp4, ht4, hh4⟩ := putH HT3.out HH3.out HN.out HKB.out hnin (by simp) (j : Int)
                      have HP4 := Lib.hid hp4
                      have HT4 := Lib.hid ht4
                      have HH4 := Lib.hid hh4
                      have hper : (([([b0, b1], (77 : Int))] : List KC) ++ [(ks, (j : Int))]).Perm ((ks, (j : Int)) :: [([b0, b1], (77 : Int))]) := List.perm_append_comm
                      have HF4 := Lib.hid (findH HT4.out HH4.out (k := ks) (c := (j : Int)) (by simp))
                      obtain ⟨ht5, hh5⟩ := delH HT4.out HH4.out hper
                      have HT5 := Lib.hid ht5
                      have HH5 := Lib.hid hh5
                      clear he hnin hp4 ht4 hh4 hper ht5 hh5
                      obtain ⟨q1, q2⟩ := HC.out _ H7.out.below
                      have HR := Lib.hid q2
                      clear q2
                      go_wp2_with fail
                      with_reducible refine (fput H7.out (one_fst g b0 b1) HT3.out ax 2 cx ks HN.out (by omega) HKB.out HR.out (j : Int) HP4.out).mono ?_
                      rintro e z3 ⟨rfl, q⟩
                      have H8 : Hid (PS w P 2 8 T4 (One g b0 b1) z3) := Lib.hid q
                      clear q H7 HR HP4 q1
                      dsimp only
                      obtain ⟨q1, q2⟩ := HC.out _ H8.out.below
                      have HR := Lib.hid q2
                      clear q2
                      go_wp2_with fail
                      with_reducible refine (fdel H8.out (one_fst g b0 b1) HT4.out ax 2 cx ks HN.out (by omega) HKB.out HR.out HF4.out).mono ?_
                      rintro e z4 ⟨rfl, q⟩
                      have H9 := Lib.hid q
                      clear q H8 HR HF4 q1
                      go_wp2_with fail
                      with_reducible refine (flen H9.out).mono ?_
                      rintro e z' ⟨rfl, rfl⟩
                      have hl1 := HH5.out.len
                      rw [← hl1]
                      clear hl1
                      generalize delT T4 (fat T4 ks) = T5 at *
                      go_wp2
                      go_roundw
                      case rel => exact ⟨j + 1, T5, by omega, by omega, by go_num, H9, HT5, HH5⟩
                      case measure => simp [intOf]; omega
                  · have hne : ((n : Int) != 2) = true := by simp; omega
                    clear HR
                    go_wp2
                    go_roundw
                    case rel => exact ⟨j + 1, T3, by omega, by omega, by go_num, H6, HT3, HH3⟩
                    case measure => simp [intOf]; omega
                · have i7 : ¬ (j : Int) < 60 := by omega
                  go_wp2
                  go_roundw
                  case rel => exact ⟨t + 1, T3, by omega, by go_num, H6, HT3, HH3⟩
                  case measure => simp [intOf]; omega
              · have i6 : ¬ (j : Int) < (len0 : Int) := by omega
                go_wp2
                go_roundw
                case rel => exact ⟨t + 1, T3, by omega, by go_num, H6, HT3, HH3⟩
                case measure => simp [intOf]; omega
          · have i5 : ¬ (t : Int) < 3 := by omega
            go_wp2_with fail
            go_loopw [13] (fun i wr => ∃ (j : Nat) (T : List Pl), j ≤ 7 ∧ i = .int .i64 j ∧ Hid (PS w P 2 8 T (One g b0 b1) wr) ∧ Hid (Tab T 2 8) ∧ Hid (Holds T (Hj b0 b1 j))) (fun i _ => 7 - (intOf i).toNat)
            case atStart => exact ⟨0, T2, by omega, rfl, H5, HT2, HH2⟩
            case round =>
              obtain ⟨j, T3, hj, rfl, H6, HT3, HH3⟩ := hrel
              clear H5 HT2 HH2
              by_cases hlt7 : j < 7
              · have i6 : (j : Int) < 7 := by omega
                have hbw := byte_wrap j hj
                go_wp2_with fail
                have H7 := Lib.hid (kb_new H6.out (j : Int) 200)
                obtain ⟨B, hB⟩ : ∃ B, wr.heap.size = B := ⟨_, rfl⟩
                rw [hB] at H7 ⊢
                generalize (wr.alloc (.cells #[.int .u8 (j : Int), .int .u8 200] 5)) = w6 at *
                clear H6 hB
                have HR6 := Lib.hid (two_rd (kb_bk H7.out).2)
                have HR7 := Lib.hid (two_rd (kb_bk H7.out).1)
                with_reducible refine (samebytes_any (some ⟨B, 0, none⟩) (some ⟨g, 0, none⟩) 2 2 2 2 [(j : Int), 200] [b0, b1] rfl rfl (by omega) (by omega) _ HR6.out HR7.out).mono ?_
                rintro e w7 ⟨rfl, q⟩
                have H8 := Lib.hid (H7.out.grow q)
                clear q H7 HR6 HR7
                by_cases he : [(j : Int), 200] = [b0, b1]
                · have HKK : Hid (kk b0 b1 j = [(j : Int), 201]) := Lib.hid (by unfold kk; rw [if_pos he])
                  rw [decide_eq_true he]
                  have H9 := Lib.hid (kb_set H8.out 201)
                  have d1 := (kb_bk H8.out).2.cell 1
                  have d2 := (kb_bk H8.out).2.frozen 1
                  simp only [List.getElem?_toArray, List.getElem?_cons_zero, List.getElem?_cons_succ] at d1
                  clear he H8
                  go_wp2_with fail
                  generalize (w7.setCell ⟨B, 1, none⟩ (.int .u8 201)) = w8 at *
                  have hby : ∀ b ∈ [(j : Int), 201], 0 ≤ b ∧ b ≤ 255 := fun b hb => by
                    simp only [List.mem_cons, List.not_mem_nil, or_false] at hb
                    rcases hb with rfl | rfl <;> omega
                  have hkk : kk b0 b1 j = [(j : Int), 201] := HKK.out
                  obtain ⟨y, hy1, hy2⟩ := kk_head b0 b1 j
                  rw [hkk] at hy1
                  have hyz : [(j : Int), 201] ≠ [b0, b1] := by rw [hy1]; exact hy2
                  obtain ⟨T4, hp4, ht4, hh4⟩ := putH HT3.out HH3.out (k := [(j : Int), 201]) rfl hby (Hj_not b0 b1 j (j : Int) 201 hyz (fun i hi => by omega)) (by rw [Hj_len]; omega) (j : Int)
                  rw [← hkk, ← Hj_succ] at hh4
                  have HP4 := Lib.hid hp4
                  have HT4 := Lib.hid ht4
                  have HH4 := Lib.hid hh4
                  have HBY := Lib.hid hby
                  have HR := Lib.hid (two_rd (kb_bk H9.out).2)
                  clear hp4 ht4 hh4 hby hkk hy1 hy2 hyz
                  go_wp2_with fail
                  with_reducible refine (fput H9.out (kb_fst g b0 b1 B (j : Int) 201) HT3.out (some ⟨B, 0, none⟩) 2 2 [(j : Int), 201] rfl (by omega) HBY.out HR.out (j : Int) HP4.out).mono ?_
                  rintro e z3 ⟨rfl, q⟩
                  have H10 : Hid (PS w P 2 8 T4 (One g b0 b1) z3) := Lib.hid (kb_one q)
                  clear q H9 HR HP4
                  dsimp only
                  go_wp2
                  go_roundw
                  case rel => exact ⟨j + 1, T4, by omega, by go_num, H10, HT4, HH4⟩
                  case measure => simp [intOf]; omega
                · have HKK : Hid (kk b0 b1 j = [(j : Int), 200]) := Lib.hid (by unfold kk; rw [if_neg he])
                  rw [decide_eq_false he]
                  have H9 := H8
                  clear he H8
                  have hby : ∀ b ∈ [(j : Int), 200], 0 ≤ b ∧ b ≤ 255 := fun b hb => by
                    simp only [List.mem_cons, List.not_mem_nil, or_false] at hb
                    rcases hb with rfl | rfl <;> omega
                  have hkk : kk b0 b1 j = [(j : Int), 200] := HKK.out
                  obtain ⟨y, hy1, hy2⟩ := kk_head b0 b1 j
                  rw [hkk] at hy1
                  have hyz : [(j : Int), 200] ≠ [b0, b1] := by rw [hy1]; exact hy2
                  obtain ⟨T4, hp4, ht4, hh4⟩ := putH HT3.out HH3.out (k := [(j : Int), 200]) rfl hby (Hj_not b0 b1 j (j : Int) 200 hyz (fun i hi => by omega)) (by rw [Hj_len]; omega) (j : Int)
                  rw [← hkk, ← Hj_succ] at hh4
                  have HP4 := Lib.hid hp4
                  have HT4 := Lib.hid ht4
                  have HH4 := Lib.hid hh4
                  have HBY := Lib.hid hby
                  have HR := Lib.hid (two_rd (kb_bk H9.out).2)
                  clear hp4 ht4 hh4 hby hkk hy1 hy2 hyz
                  go_wp2_with fail
                  with_reducible refine (fput H9.out (kb_fst g b0 b1 B (j : Int) 200) HT3.out (some ⟨B, 0, none⟩) 2 2 [(j : Int), 200] rfl (by omega) HBY.out HR.out (j : Int) HP4.out).mono ?_
                  rintro e z3 ⟨rfl, q⟩
                  have H10 : Hid (PS w P 2 8 T4 (One g b0 b1) z3) := Lib.hid (kb_one q)
                  clear q H9 HR HP4
                  dsimp only
                  go_wp2
                  go_roundw
                  case rel => exact ⟨j + 1, T4, by omega, by go_num, H10, HT4, HH4⟩
                  case measure => simp [intOf]; omega
              · have i6 : ¬ (j : Int) < 7 := by omega
                obtain rfl : j = 7 := by omega
                go_wp2_with fail
                have H7 := Lib.hid (kb_new H6.out 9 202)
                obtain ⟨B, hB⟩ : ∃ B, wr.heap.size = B := ⟨_, rfl⟩
                rw [hB] at H7 ⊢
                generalize (wr.alloc (.cells #[.int .u8 9, .int .u8 202] 5)) = w6 at *
                clear H6 hB
                have HR6 := Lib.hid (two_rd (kb_bk H7.out).2)
                have HR7 := Lib.hid (two_rd (kb_bk H7.out).1)
                with_reducible refine (samebytes_any (some ⟨B, 0, none⟩) (some ⟨g, 0, none⟩) 2 2 2 2 [(9 : Int), 202] [b0, b1] rfl rfl (by omega) (by omega) _ HR6.out HR7.out).mono ?_
                rintro e w7 ⟨rfl, q⟩
                have H8 := Lib.hid (H7.out.grow q)
                clear q H7 HR6 HR7
                by_cases he : [(9 : Int), 202] = [b0, b1]
                · rw [decide_eq_true he]
                  have HNE : Hid ([(9 : Int), 203] ≠ [b0, b1]) := Lib.hid (fun h => by rw [← h] at he; simp at he)
                  have H9 := Lib.hid (kb_set H8.out 203)
                  have d1 := (kb_bk H8.out).2.cell 1
                  have d2 := (kb_bk H8.out).2.frozen 1
                  simp only [List.getElem?_toArray, List.getElem?_cons_zero, List.getElem?_cons_succ] at d1
                  clear he H8
                  go_wp2_with fail
                  generalize (w7.setCell ⟨B, 1, none⟩ (.int .u8 203)) = w8 at *
                  have hby : ∀ b ∈ [(9 : Int), 203], 0 ≤ b ∧ b ≤ 255 := fun b hb => by
                    simp only [List.mem_cons, List.not_mem_nil, or_false] at hb
                    rcases hb with rfl | rfl <;> omega
                  have HPF := Lib.hid (putFull HH3.out (K := 2) (M := 8) (k := [(9 : Int), 203]) rfl (Hj_not b0 b1 7 9 203 HNE.out (fun i hi => by omega)) (by rw [Hj_len]; omega) 1)
                  have HFO := Lib.hid (findH HT3.out HH3.out (k := [b0, b1]) (c := 77) (by unfold Hj; simp))
                  have HBY := Lib.hid hby
                  have HR1 := Lib.hid (two_rd (kb_bk H9.out).1)
                  clear hby
                  go_wp2_with fail
                  with_reducible refine (ffind H9.out HT3.out (some ⟨g, 0, none⟩) 2 2 [b0, b1] rfl (by omega) HBB.out HR1.out HFO.out).mono ?_
                  rintro e z3 ⟨rfl, q, _⟩
                  have H10 := Lib.hid q
                  clear q H9 HR1 HFO
                  have HR2 := Lib.hid (two_rd (kb_bk H10.out).2)
                  go_wp2_with fail
                  with_reducible refine (fput H10.out (kb_fst g b0 b1 B 9 203) HT3.out (some ⟨B, 0, none⟩) 2 2 [(9 : Int), 203] rfl (by omega) HBY.out HR2.out 1 HPF.out).mono ?_
                  rintro e z4 ⟨rfl, q⟩
                  have HB4 := Lib.hid q.below
                  clear q H10 HR2 HPF
                  dsimp only
                  go_wp2_with fail
                  with_reducible refine (works_c _).mono ?_
                  rintro e z5 ⟨rfl, q⟩
                  have HB5 := Lib.hid (HB4.out.trans (q.mono HB4.out.size))
                  clear q
                  go_wp2
                  go_ret
                  exact ⟨rfl, HB5.out⟩
                · rw [decide_eq_false he]
                  have HNE : Hid ([(9 : Int), 202] ≠ [b0, b1]) := Lib.hid he
                  have H9 := H8
                  clear he H8
                  have hby : ∀ b ∈ [(9 : Int), 202], 0 ≤ b ∧ b ≤ 255 := fun b hb => by
                    simp only [List.mem_cons, List.not_mem_nil, or_false] at hb
                    rcases hb with rfl | rfl <;> omega
                  have HPF := Lib.hid (putFull HH3.out (K := 2) (M := 8) (k := [(9 : Int), 202]) rfl (Hj_not b0 b1 7 9 202 HNE.out (fun i hi => by omega)) (by rw [Hj_len]; omega) 1)
                  have HFO := Lib.hid (findH HT3.out HH3.out (k := [b0, b1]) (c := 77) (by unfold Hj; simp))
                  have HBY := Lib.hid hby
                  have HR1 := Lib.hid (two_rd (kb_bk H9.out).1)
                  clear hby
                  go_wp2_with fail
                  with_reducible refine (ffind H9.out HT3.out (some ⟨g, 0, none⟩) 2 2 [b0, b1] rfl (by omega) HBB.out HR1.out HFO.out).mono ?_
                  rintro e z3 ⟨rfl, q, _⟩
                  have H10 := Lib.hid q
                  clear q H9 HR1 HFO
                  have HR2 := Lib.hid (two_rd (kb_bk H10.out).2)
                  go_wp2_with fail
                  with_reducible refine (fput H10.out (kb_fst g b0 b1 B 9 202) HT3.out (some ⟨B, 0, none⟩) 2 2 [(9 : Int), 202] rfl (by omega) HBY.out HR2.out 1 HPF.out).mono ?_
                  rintro e z4 ⟨rfl, q⟩
                  have HB4 := Lib.hid q.below
                  clear q H10 HR2 HPF
                  dsimp only
                  go_wp2_with fail
                  with_reducible refine (works_c _).mono ?_
                  rintro e z5 ⟨rfl, q⟩
                  have HB5 := Lib.hid (HB4.out.trans (q.mono HB4.out.size))
                  clear q
                  go_wp2
                  go_ret
                  exact ⟨rfl, HB5.out⟩

set_option maxRecDepth 100000 in
theorem lifted (os : Os) (started : os.Started) (H : Type) (enc : TypeId × Value → H) :
    ReturnsInHanded {} Try.checked os 6 .any (Rows.hashWearsSpec.pre6 enc Try.prog Try.f6 Rows.hashWearsRow.domain false) (Rows.hashWearsSpec.post enc Try.prog Try.f6 false true false false) := by
  refine returnsInHanded_of_change (C := Try.checked) own started (by kernel_rfl) Try.func6
    (ChangeSpec.witness6 (enc := enc) (C := Try.checked) false ⟨#[], #[.slice none 0 0, .slice none 0 0], []⟩ 8 (by kernel_rfl) (by kernel_rfl) (by kernel_rfl) (by kernel_rfl)) ?_
  intro W base args ds gs before hval0 hW hcnd _
  have hval : ∀ (j : Nat) t v, Try.f6.params[j]? = some t → args[j]? = some v → Value.okWide Try.prog W .any base t v := hval0
  have hW' := hW
  obtain ⟨p, q, hA0, hV, rfl, hfz, hnd⟩ := hW
  have hA : DataW.TrodAll enc Try.prog W 0 (fun _ => true) true Try.f6.params.toList args.toList ds p := hA0
  rw [Try.params6] at hA hval
  obtain ⟨v0, vs0, d0, ds0, p0, q0, hargs, rfl, rfl, h0, r0⟩ := trodAll_cons hA
  obtain ⟨v1, vs1, d1, ds1, p1, q1, rfl, rfl, rfl, h1, r1⟩ := trodAll_cons r0
  obtain ⟨rfl, rfl, rfl⟩ := trodAll_nil r1
  obtain rfl : args = #[v0, v1] := by cases args; simp_all
  obtain ⟨rfl, rfl⟩ := trodVars_none hV
  obtain ⟨a0, len0, cap0, rfl⟩ := okWide_slice Try.underlying42 (hval 0 42 v0 rfl rfl)
  have k0 := h0
  have lt0 : ∀ x ∈ p0, x.block < W.heap.size := by obtain ⟨m, hm⟩ := k0; exact DataW.trod_lt m _ _ _ hm
  obtain ⟨L0, l0, f0, c0, m0, rr0⟩ := open_txts h0
  obtain ⟨a1, len1, cap1, rfl⟩ := okWide_slice Try.underlying22 (hval 1 22 v1 rfl rfl)
  have k1 := h1
  have lt1 : ∀ x ∈ p1, x.block < W.heap.size := by obtain ⟨m, hm⟩ := k1; exact DataW.trod_lt m _ _ _ hm
  obtain ⟨L1, l1, f1, c1, m1, z1, rr1⟩ := open_bytes h1
  clear hA0 hval0
  refine (walk a0 len0 cap0 L0 a1 len1 cap1 L1 W l0 f0 c0 m0 rr0 l1 f1 c1 m1 z1 rr1).mono fun e W' ⟨he, bel⟩ => ?_
  subst he
  exact ⟨_, rfl, _, _, _, [], _, [], hW', trodAll_mk1 (shut_bool Try.underlying4 _), (trodAll_cons_mk (Below.trod laidOut (by kernel_rfl) (of_decide_eq_true (by kernel_rfl)) k0 bel lt0) (trodAll_cons_mk (Below.trod laidOut (by kernel_rfl) (of_decide_eq_true (by kernel_rfl)) k1 bel lt1) trodAll_mk0)), rfl, bel.frame _, fun h => by cases h⟩

theorem over : Rows.hashWearsRow.holds Try.pinned (OpenSpec.ofChange Rows.hashWearsSpec) :=
  OpenClaim.holds_of_wide 6 Try.f6 rfl rfl rfl rfl rfl rfl rfl ⟨rfl, rfl, rfl, rfl, rfl⟩ rfl rfl rfl rfl rfl (by kernel_rfl) Try.func6 (by kernel_rfl)
    (of_decide_eq_true (by kernel_rfl)) (by unfold Func.isWrapper; first | (rw [if_pos (by decide +kernel)]; kernel_rfl) | (rw [if_neg (by decide +kernel)]; exact ⟨rfl, rfl⟩))
    (fun os started H enc _ => lifted os started H enc)

theorem proved : Rows.HashWearsSaid := over
#print axioms proved
end Go.Proofs.Ytkaapphlnolelaa.hashWears
