/-
  What the document's answer of layer 2 tells of an operation (Table): contract.
-/
import Derived.Test.YtlimhdnpdhjdaaaInsnCheck
import Derived.Test.YtlimhdnpdhjdaaaInsnBytes
import Derived.Test.YtlimhdnpdhjdaaaOwn
namespace Go.Proofs.Ytlimhdnpdhjdaaa
open Go.RowKit Wi Ow
set_option linter.unusedVariables false
set_option linter.unusedSimpArgs false

theorem use_info : (Try.prog.info? 50).map (fun i => (i.zero, i.size, i.bytes)) = some (some (.agg #[.int .i64 0, .bool false, .bool false, .bool false, .bool false, .bool false]), 6, 16) := by kernel_rfl
/-- A row of the table: the operation, the bits of what it uses. -/
def rowC (r : Int × Int) : List Value := [.int .i64 r.1, .bool (ub r.2 1), .bool (ub r.2 2), .bool (ub r.2 4), .bool (ub r.2 8), .bool (ub r.2 16)]
def tv (l : List (Int × Int)) : List Value := l.flatMap rowC
theorem tv_app (a b : List (Int × Int)) : tv (a ++ b) = tv a ++ tv b := by unfold tv; simp
def tab0 : List (Int × Int) := [(24, 59), (5, 36), (133, 40), (149, 32)]
def tab1 (k : Nat) : List (Int × Int) := tab0 ++ (List.range k).flatMap fun (j : Nat) => [(1 + (96 + 8 * (j : Int)), 55), (2 + (96 + 8 * (j : Int)), 45), (3 + (96 + 8 * (j : Int)), 39)]
def row2 (o : Nat) (c : Int) : List (Int × Int) := if o = 8 then [(16 * (o : Int) + c, 49)] else [(16 * (o : Int) + c, 57), (16 * (o : Int) + c + 8, 51)]
def tab2 (o : Nat) : List (Int × Int) := tab1 4 ++ (List.range o).flatMap fun (j : Nat) => row2 j 4 ++ row2 j 7
def tab3 : List (Int × Int) := tab2 13 ++ [(212, 57), (220, 57)]
def row4 (o : Nat) (c : Int) : List (Int × Int) := if o = 8 ∨ o = 9 then [] else [(16 * (o : Int) + c, 45), (16 * (o : Int) + c + 8, 39)]
def tab4 (o : Nat) : List (Int × Int) := tab3 ++ (List.range o).flatMap fun (j : Nat) => row4 (j + 1) 5 ++ row4 (j + 1) 6
def tabT : List (Int × Int) := tab4 13
theorem tab1_succ (k : Nat) : tab1 (k + 1) = tab1 k ++ [(1 + (96 + 8 * (k : Int)), 55), (2 + (96 + 8 * (k : Int)), 45), (3 + (96 + 8 * (k : Int)), 39)] := by unfold tab1; rw [List.range_succ, List.flatMap_append, ← List.append_assoc]; simp
theorem tab2_succ (o : Nat) : tab2 (o + 1) = tab2 o ++ row2 o 4 ++ row2 o 7 := by unfold tab2; rw [List.range_succ, List.flatMap_append]; simp [List.append_assoc]
theorem tab4_succ (o : Nat) : tab4 (o + 1) = tab4 o ++ row4 (o + 1) 5 ++ row4 (o + 1) 6 := by unfold tab4; rw [List.range_succ, List.flatMap_append]; simp [List.append_assoc]
theorem tab1_le (k : Nat) (h : k ≤ 4) : (tab1 k).length ≤ 16 := by
  have : ∀ k : Fin 5, (tab1 k.val).length ≤ 16 := by decide +kernel
  exact this ⟨k, by omega⟩
theorem tab2_le (k : Nat) (h : k ≤ 13) : (tab2 k).length ≤ 66 := by
  have : ∀ k : Fin 14, (tab2 k.val).length ≤ 66 := by decide +kernel
  exact this ⟨k, by omega⟩
theorem tab4_le (k : Nat) (h : k ≤ 13) : (tab4 k).length ≤ 112 := by
  have : ∀ k : Fin 14, (tab4 k.val).length ≤ 112 := by decide +kernel
  exact this ⟨k, by omega⟩
theorem tvA (a : Int) : tv [(a, 49)] = [.int .i64 a, .bool true, .bool false, .bool false, .bool false, .bool true] := rfl
theorem tvB (a b : Int) : tv [(a, 57), (b, 51)] = [.int .i64 a, .bool true, .bool false, .bool false, .bool true, .bool true, .int .i64 b, .bool true, .bool true, .bool false, .bool false, .bool true] := rfl
theorem tvC (a b : Int) : tv [(a, 45), (b, 39)] = [.int .i64 a, .bool true, .bool false, .bool true, .bool true, .bool false, .int .i64 b, .bool true, .bool true, .bool true, .bool false, .bool false] := rfl
theorem tvD (a b c : Int) : tv [(a, 55), (b, 45), (c, 39)] = [.int .i64 a, .bool true, .bool true, .bool true, .bool false, .bool true, .int .i64 b, .bool true, .bool false, .bool true, .bool true, .bool false, .int .i64 c, .bool true, .bool true, .bool true, .bool false, .bool false] := rfl
theorem tvE (a b : Int) : tv [(a, 57), (b, 57)] = [.int .i64 a, .bool true, .bool false, .bool false, .bool true, .bool true, .int .i64 b, .bool true, .bool false, .bool false, .bool true, .bool true] := rfl
theorem tv_one (l : List (Int × Int)) : ∀ u ∈ tv l, u.oneCell' = true := by
  intro u hu
  unfold tv at hu
  obtain ⟨r, _, hr⟩ := List.mem_flatMap.1 hu
  simp [rowC] at hr
  rcases hr with rfl | rfl | rfl | rfl | rfl | rfl <;> rfl
theorem tv_len (l : List (Int × Int)) : (tv l).length = l.length * 6 := by
  induction l with
  | nil => rfl
  | cons x r ih => unfold tv at *; rw [List.flatMap_cons, List.length_append, ih]; simp [rowC]; omega
theorem new_of {w : World} {b : Nat} {news : List Value} (t : TypeId) (cs : Array Value) (hc : news = cs.toList) (hb : b = w.heap.size) : ∀ j u, news[j]? = some u → (w.alloc (.cells cs t)).cell? ((⟨b, 0, none⟩ : Addr).add j) = some u := by
  subst hc; exact new_cells' t cs hb
/-- What is owned, and that nothing else is changed. -/
structure Tb (w : World) (v : Value) (wr : World) (l : List (Int × Int)) : Prop where
  own : wr.ownsRow w.heap.size 50 6 v l.length (tv l)
  below : Below w.heap.size w wr
theorem Tb.step {w wr w1 : World} {v v1 : Value} {l m : List (Int × Int)} {n : Nat} {o : Obj} (h : Tb w v wr l) (ho : w1.ownsRow w.heap.size 50 6 v1 n (tv l ++ tv m)) (hg : (wr.alloc o).grownBy w1 v.ownBlock)
    (hm : n = (l ++ m).length) : Tb w v1 w1 (l ++ m) := by
  refine ⟨own_cast ho hm (by rw [tv_app]), ?_⟩
  have h1 := h.below.size
  exact (h.below.alloc (by omega) o).grown hg (by simp; omega) fun k hk => (h.own.lt k hk).1
def Rel5 (w : World) (o : Nat) (l i : Value) (wr : World) : Prop :=
  (i = .int .i64 4 ∧ Tb w l wr (tab2 o)) ∨ (i = .int .i64 7 ∧ Tb w l wr (tab2 o ++ row2 o 4)) ∨ (i = .int .i64 10 ∧ Tb w l wr (tab2 (o + 1)))
def Rel8 (w : World) (q : Nat) (l i : Value) (wr : World) : Prop :=
  (i = .int .i64 5 ∧ Tb w l wr (tab4 (q - 1))) ∨ (i = .int .i64 6 ∧ Tb w l wr (tab4 (q - 1) ++ row4 q 5)) ∨ (i = .int .i64 7 ∧ Tb w l wr (tab4 q))
theorem tab4_next (q : Nat) (h : 1 ≤ q) : tab4 q = tab4 (q - 1) ++ row4 q 5 ++ row4 q 6 := by
  have h1 := tab4_succ (q - 1)
  rw [Nat.sub_add_cancel h] at h1
  exact h1

set_option maxRecDepth 100000 in
set_option maxHeartbeats 4000000 in
theorem table_any (w : World) :
    Calls Try.prog 53 #[] w fun e w' => ∃ v, e = .returned v ∧ Tb w v w' tabT := by
  obtain ⟨i0, hi0, hz0, hz1, hz2⟩ := info_parts use_info
  go_enter Try.func53, Try.ntmps53
  have T0 : Hid (Tb w (.slice (some ⟨w.heap.size, 0, none⟩) 4 4) (w.alloc (.cells #[.int .i64 24, .bool true, .bool true, .bool false, .bool true, .bool true, .int .i64 5, .bool false, .bool false, .bool true, .bool false, .bool false, .int .i64 133, .bool false, .bool false, .bool false, .bool true, .bool false, .int .i64 149, .bool false, .bool false, .bool false, .bool false, .bool false] 50)) (tab1 0)) := Lib.hid
    ⟨own_cast (World.ownsRow_lit w _ 4 (Nat.le_refl _) (by unfold maxLen; omega) rfl) rfl rfl, (Below.refl _ _).alloc (Nat.le_refl _) _⟩
  go_wp2
  go_loopw [1, 2] (fun l i wr => ∃ k : Nat, k ≤ 4 ∧ i = .int .i64 k ∧ Hid (Tb w l wr (tab1 k))) (fun _ i _ => 4 - (intOf i).toNat)
  case atStart => exact ⟨0, Nat.zero_le _, rfl, T0⟩
  case round =>
    clear T0
    obtain ⟨k, hk, rfl, hT⟩ := hrel
    by_cases hlt : k < 4
    · go_wp2_with (at_builtin; refine wpList_append_own_at _ rfl (.tmp 22) (.tmp 32) _ rfl w.heap.size 50 i0 _ 6 16 Try.underlying65 hi0 hz0 hz1 hz2 rfl (by decide) _ _ _ rfl (hT.out.own.alloc _) ⟨wr.heap.size, 0, none⟩ 3 3 (tv [(1 + (96 + 8 * (k : Int)), 55), (2 + (96 + 8 * (k : Int)), 45), (3 + (96 + 8 * (k : Int)), 39)]) rfl (tv_len _) (new_of _ _ (tvD _ _ _) (by simp)) (tv_one _) ?a3 ?a4 ?a5 ?_)
      case a3 => have h := tab1_le k hk; unfold maxLen; omega
      case a4 => have h := tab1_le k hk; omega
      case a5 => have h := hT.out.below.size; simp; omega
      intro v1 w1 ho hg _ _
      have R := Lib.hid (hT.out.step ho hg (by simp [Nat.add_assoc]))
      clear ho hg hT
      go_wp2
      go_roundw
      case rel => exact ⟨k + 1, by omega, by go_num, by rw [tab1_succ]; exact R⟩
      case measure => simp [intOf]; omega
    · have hk4 : k = 4 := by omega
      have T1 : Hid (Tb w u1 wr (tab1 4)) := Lib.hid (by rw [← hk4]; exact hT.out)
      clear hT hk4
      go_wp2
      go_loopw [1, 4] (fun l i wr => ∃ o : Nat, o ≤ 13 ∧ i = .int .i64 o ∧ Hid (Tb w l wr (tab2 o))) (fun _ i _ => 13 - (intOf i).toNat)
      case atStart => exact ⟨0, Nat.zero_le _, rfl, Lib.hid (by have h := T1.out; simpa [tab2] using h)⟩
      case round =>
        clear T1
        obtain ⟨o, ho13, rfl, hT⟩ := hrel
        by_cases hlt : o < 13
        · have hle12 : (o : Int) ≤ 12 := by omega
          have T2 := hT
          clear hT
          go_wp2
          go_loopw [1, 5] (fun l i wr => Rel5 w o l i wr) (fun _ i _ => (10 - intOf i).toNat)
          case atStart => exact .inl ⟨rfl, T2.out⟩
          case round =>
            clear T2
            have hle := tab2_le o (by omega)
            have hle' : (tab2 o ++ row2 o 4).length ≤ 66 := by have h := tab2_le (o + 1) (by omega); rw [tab2_succ] at h; simp only [List.length_append] at h ⊢; omega
            have HLE := Lib.hid hle
            have HLE' := Lib.hid hle'
            clear hle hle'
            by_cases h8 : o = 8
            · have h8' : ((o : Int) == 8) = true := by simp; omega
              have hr : ∀ c, row2 o c = [(16 * (o : Int) + c, 49)] := fun c => if_pos h8
              have HR := Lib.hid hr
              clear hr h8
              rcases hrel with ⟨rfl, hT⟩ | ⟨rfl, hT⟩ | ⟨rfl, hT⟩
              · replace hT := Lib.hid hT
                go_wp2_with (at_builtin; refine wpList_append_own_at _ rfl (.tmp 48) (.tmp 51) _ rfl w.heap.size 50 i0 _ 6 16 Try.underlying65 hi0 hz0 hz1 hz2 rfl (by decide) _ _ _ rfl (hT.out.own.alloc _) ⟨wr.heap.size, 0, none⟩ 1 1 (tv [(16 * (o : Int) + 4, 49)]) rfl (tv_len _) (new_of _ _ (tvA _) (by simp)) (tv_one _) ?b3 ?b4 ?b5 ?_)
                case b3 => have h := HLE.out; unfold maxLen; omega
                case b4 => have h := HLE.out; omega
                case b5 => have h := hT.out.below.size; simp; omega
                intro v1 w1 ho hg _ _
                have R := Lib.hid (hT.out.step ho hg (by simp [Nat.add_assoc]))
                clear ho hg hT
                go_wp2
                go_roundw
                case rel => exact .inr (.inl ⟨rfl, by rw [HR.out]; exact R.out⟩)
                case measure => simp [intOf]
              · replace hT := Lib.hid hT
                go_wp2_with (at_builtin; refine wpList_append_own_at _ rfl (.tmp 48) (.tmp 51) _ rfl w.heap.size 50 i0 _ 6 16 Try.underlying65 hi0 hz0 hz1 hz2 rfl (by decide) _ _ _ rfl (hT.out.own.alloc _) ⟨wr.heap.size, 0, none⟩ 1 1 (tv [(16 * (o : Int) + 7, 49)]) rfl (tv_len _) (new_of _ _ (tvA _) (by simp)) (tv_one _) ?c3 ?c4 ?c5 ?_)
                case c3 => have h := HLE'.out; unfold maxLen; omega
                case c4 => have h := HLE'.out; omega
                case c5 => have h := hT.out.below.size; simp; omega
                intro v1 w1 ho hg _ _
                have R := Lib.hid (hT.out.step ho hg (by simp [Nat.add_assoc]))
                clear ho hg hT
                go_wp2
                go_roundw
                case rel => exact .inr (.inr ⟨rfl, by rw [tab2_succ, HR.out 7]; exact R.out⟩)
                case measure => simp [intOf]
              · replace hT := Lib.hid hT
                go_wp2
                go_roundw
                case rel => exact ⟨o + 1, by omega, by go_num, hT⟩
                case measure => simp [intOf]; omega
            · have h8' : ((o : Int) == 8) = false := by simp; omega
              have hr : ∀ c, row2 o c = [(16 * (o : Int) + c, 57), (16 * (o : Int) + c + 8, 51)] := fun c => if_neg h8
              have HR := Lib.hid hr
              clear hr h8
              rcases hrel with ⟨rfl, hT⟩ | ⟨rfl, hT⟩ | ⟨rfl, hT⟩
              · replace hT := Lib.hid hT
                go_wp2_with (at_builtin; refine wpList_append_own_at _ rfl (.tmp 53) (.tmp 59) _ rfl w.heap.size 50 i0 _ 6 16 Try.underlying65 hi0 hz0 hz1 hz2 rfl (by decide) _ _ _ rfl (hT.out.own.alloc _) ⟨wr.heap.size, 0, none⟩ 2 2 (tv [(16 * (o : Int) + 4, 57), (16 * (o : Int) + 4 + 8, 51)]) rfl (tv_len _) (new_of _ _ (tvB _ _) (by simp)) (tv_one _) ?d3 ?d4 ?d5 ?_)
                case d3 => have h := HLE.out; unfold maxLen; omega
                case d4 => have h := HLE.out; omega
                case d5 => have h := hT.out.below.size; simp; omega
                intro v1 w1 ho hg _ _
                have R := Lib.hid (hT.out.step ho hg (by simp [Nat.add_assoc]))
                clear ho hg hT
                go_wp2
                go_roundw
                case rel => exact .inr (.inl ⟨rfl, by rw [HR.out]; exact R.out⟩)
                case measure => simp [intOf]
              · replace hT := Lib.hid hT
                go_wp2_with (at_builtin; refine wpList_append_own_at _ rfl (.tmp 53) (.tmp 59) _ rfl w.heap.size 50 i0 _ 6 16 Try.underlying65 hi0 hz0 hz1 hz2 rfl (by decide) _ _ _ rfl (hT.out.own.alloc _) ⟨wr.heap.size, 0, none⟩ 2 2 (tv [(16 * (o : Int) + 7, 57), (16 * (o : Int) + 7 + 8, 51)]) rfl (tv_len _) (new_of _ _ (tvB _ _) (by simp)) (tv_one _) ?e3 ?e4 ?e5 ?_)
                case e3 => have h := HLE'.out; unfold maxLen; omega
                case e4 => have h := HLE'.out; omega
                case e5 => have h := hT.out.below.size; simp; omega
                intro v1 w1 ho hg _ _
                have R := Lib.hid (hT.out.step ho hg (by simp [Nat.add_assoc]))
                clear ho hg hT
                go_wp2
                go_roundw
                case rel => exact .inr (.inr ⟨rfl, by rw [tab2_succ, HR.out 7]; exact R.out⟩)
                case measure => simp [intOf]
              · replace hT := Lib.hid hT
                go_wp2
                go_roundw
                case rel => exact ⟨o + 1, by omega, by go_num, hT⟩
                case measure => simp [intOf]; omega
        · have hT' : Hid (Tb w u1 wr (tab2 13)) := Lib.hid (by rw [show 13 = o by omega]; exact hT.out)
          clear hT
          go_wp2_with (at_builtin; refine wpList_append_own_at _ rfl (.tmp 61) (.tmp 64) _ rfl w.heap.size 50 i0 _ 6 16 Try.underlying65 hi0 hz0 hz1 hz2 rfl (by decide) _ _ _ rfl (hT'.out.own.alloc _) ⟨wr.heap.size, 0, none⟩ 2 2 (tv [(212, 57), (220, 57)]) rfl (tv_len _) (new_of _ _ (tvE _ _) (by simp)) (tv_one _) ?f3 ?f4 ?f5 ?_)
          case f3 => have h := tab2_le 13 (by omega); unfold maxLen; omega
          case f4 => have h := tab2_le 13 (by omega); omega
          case f5 => have h := hT'.out.below.size; simp; omega
          intro v1 w1 ho hg _ _
          have T3 : Hid (Tb w v1 w1 (tab4 0)) := Lib.hid (by have h := hT'.out.step ho hg (by simp [Nat.add_assoc]); simpa [tab4, tab3] using h)
          clear ho hg hT'
          go_wp2
          go_loopw [1, 7] (fun l i wr => ∃ q : Nat, 1 ≤ q ∧ q ≤ 14 ∧ i = .int .i64 q ∧ Hid (Tb w l wr (tab4 (q - 1)))) (fun _ i _ => 14 - (intOf i).toNat)
          case atStart => exact ⟨1, by omega, by omega, rfl, T3⟩
          case round =>
            clear T3
            obtain ⟨q, hq1, hq14, rfl, hT⟩ := hrel
            by_cases hlt : q < 14
            · have hle13 : (q : Int) ≤ 13 := by omega
              by_cases h8 : q = 8
              · have h8' : ((q : Int) == 8) = true := by simp; omega
                have HN : Hid (tab4 (q + 1 - 1) = tab4 (q - 1)) := Lib.hid (by rw [Nat.add_sub_cancel, tab4_next q hq1]; simp [row4, h8])
                clear h8
                go_wp2
                go_roundw
                case rel => exact ⟨q + 1, by omega, by omega, by go_num, by rw [HN.out]; exact hT⟩
                case measure => simp [intOf]; omega
              · have h8' : ((q : Int) == 8) = false := by simp; omega
                by_cases h9 : q = 9
                · have h9' : ((q : Int) == 9) = true := by simp; omega
                  have HN : Hid (tab4 (q + 1 - 1) = tab4 (q - 1)) := Lib.hid (by rw [Nat.add_sub_cancel, tab4_next q hq1]; simp [row4, h9])
                  clear h9 h8
                  go_wp2
                  go_roundw
                  case rel => exact ⟨q + 1, by omega, by omega, by go_num, by rw [HN.out]; exact hT⟩
                  case measure => simp [intOf]; omega
                · have h9' : ((q : Int) == 9) = false := by simp; omega
                  have hr : ∀ c, row4 q c = [(16 * (q : Int) + c, 45), (16 * (q : Int) + c + 8, 39)] := fun c => if_neg (by omega)
                  have HR := Lib.hid hr
                  have HNX := Lib.hid (tab4_next q hq1)
                  have HLE := Lib.hid (tab4_le (q - 1) (by omega))
                  have HLE' : Hid ((tab4 (q - 1) ++ row4 q 5).length ≤ 112) := Lib.hid (by have h := tab4_le q (by omega); rw [tab4_next q hq1] at h; simp only [List.length_append] at h ⊢; omega)
                  have T4 := hT
                  clear hr h9 h8 hT
                  go_wp2
                  go_loopw [1, 8] (fun l i wr => Rel8 w q l i wr) (fun _ i _ => (7 - intOf i).toNat)
                  case atStart => exact .inl ⟨rfl, T4.out⟩
                  case round =>
                    clear T4
                    rcases hrel with ⟨rfl, hT⟩ | ⟨rfl, hT⟩ | ⟨rfl, hT⟩
                    · replace hT := Lib.hid hT
                      go_wp2_with (at_builtin; refine wpList_append_own_at _ rfl (.tmp 84) (.tmp 90) _ rfl w.heap.size 50 i0 _ 6 16 Try.underlying65 hi0 hz0 hz1 hz2 rfl (by decide) _ _ _ rfl (hT.out.own.alloc _) ⟨wr.heap.size, 0, none⟩ 2 2 (tv [(16 * (q : Int) + 5, 45), (16 * (q : Int) + 5 + 8, 39)]) rfl (tv_len _) (new_of _ _ (tvC _ _) (by simp)) (tv_one _) ?g3 ?g4 ?g5 ?_)
                      case g3 => have h := HLE.out; unfold maxLen; omega
                      case g4 => have h := HLE.out; omega
                      case g5 => have h := hT.out.below.size; simp; omega
                      intro v1 w1 ho hg _ _
                      have R := Lib.hid (hT.out.step ho hg (by simp [Nat.add_assoc]))
                      clear ho hg hT
                      go_wp2
                      go_roundw
                      case rel => exact .inr (.inl ⟨rfl, by rw [HR.out]; exact R.out⟩)
                      case measure => simp [intOf]
                    · replace hT := Lib.hid hT
                      go_wp2_with (at_builtin; refine wpList_append_own_at _ rfl (.tmp 84) (.tmp 90) _ rfl w.heap.size 50 i0 _ 6 16 Try.underlying65 hi0 hz0 hz1 hz2 rfl (by decide) _ _ _ rfl (hT.out.own.alloc _) ⟨wr.heap.size, 0, none⟩ 2 2 (tv [(16 * (q : Int) + 6, 45), (16 * (q : Int) + 6 + 8, 39)]) rfl (tv_len _) (new_of _ _ (tvC _ _) (by simp)) (tv_one _) ?h3 ?h4 ?h5 ?_)
                      case h3 => have h := HLE'.out; unfold maxLen; omega
                      case h4 => have h := HLE'.out; omega
                      case h5 => have h := hT.out.below.size; simp; omega
                      intro v1 w1 ho hg _ _
                      have R := Lib.hid (hT.out.step ho hg (by simp [Nat.add_assoc]))
                      clear ho hg hT
                      go_wp2
                      go_roundw
                      case rel => exact .inr (.inr ⟨rfl, by rw [HNX.out, HR.out 6]; exact R.out⟩)
                      case measure => simp [intOf]
                    · replace hT := Lib.hid hT
                      go_wp2
                      go_roundw
                      case rel => exact ⟨q + 1, by omega, by omega, by go_num, by rw [Nat.add_sub_cancel]; exact hT⟩
                      case measure => simp [intOf]; omega
            · have hT' : Hid (Tb w u1 wr tabT) := Lib.hid (by unfold tabT; rw [show 13 = q - 1 by omega]; exact hT.out)
              clear hT
              go_wp2
              go_ret
              exact ⟨_, rfl, hT'.out⟩
end Go.Proofs.Ytlimhdnpdhjdaaa
