/-
  Layer 11's document: without, use, Find, Del: contracts. Conditions: 1000 rows, 1000000 uses at most.
-/
import Derived.Test.YthappjbghlifbaaLruRef1
import Derived.Deep.Draws
import Derived.Maps.AppendAt
namespace Go.Proofs.Ythappjbghlifbaa
set_option maxRecDepth 100000
open Go.RowKit Ow Ro K2
set_option linter.unusedVariables false
set_option linter.unusedSimpArgs false
theorem row_info : (Try.prog.info? 60).map (fun i => (i.zero, i.size, i.bytes)) = some (some (.agg #[.slice none 0 0, .int .i64 0, .int .i64 0]), 3, 40) := by kernel_rfl
theorem lwo_succ {l : List Rw} {k p : Nat} {x : Rw} (h : l[k]? = some x) : (l.take (k + 1)).eraseIdx p = (l.take k).eraseIdx p ++ (if k = p then [] else [x]) := by
  have hk := (List.getElem?_eq_some_iff.1 h).1
  have hl : (l.take k).length = k := by rw [List.length_take]; omega
  rw [List.take_add_one, h, Option.toList_some]
  by_cases e : k = p
  · subst e
    rw [if_pos rfl, List.append_nil, List.eraseIdx_append_of_length_le (by omega), hl, Nat.sub_self, show [x].eraseIdx 0 = [] from rfl, List.append_nil, List.eraseIdx_of_length_le (by omega)]
  · rw [if_neg e]
    by_cases e2 : p < k
    · rw [List.eraseIdx_append_of_lt_length (by omega)]
    · rw [List.eraseIdx_of_length_le (by simp; omega), List.eraseIdx_of_length_le (by omega)]
theorem OwnR.form {w wr : World} {v : Value} {l : List Rw} (h : OwnR w v wr l) : ∃ a cap, v = .slice a l.length cap := by
  rcases h.own.2 with ⟨e, e2⟩ | ⟨g, cap, cur, e, _⟩
  · exact ⟨none, 0, by rw [e, e2]⟩
  · exact ⟨_, cap, e⟩
set_option maxHeartbeats 2000000 in
theorem lwithout_c {w0 w : World} {A : Ac} {X : Nat} {K M U : Int} {v : Value} {l : List Rw} {t : Nat} (hl : Lay w0 A w) (h : LS A X K M U v l t) (hlen : l.length ≤ 1000) (p : Nat) :
    Calls Try.prog 39 #[.pointer (some ⟨X, 0, none⟩), .int .i64 (p : Nat)] w fun e w' => ∃ v', e = .returned v' ∧ OwnR w v' w' (l.eraseIdx p) := by
  obtain ⟨i0, hi0, hz0, hz1, hz2⟩ := info10 row_info
  obtain ⟨av, cv, rfl, c8, c9⟩ := h.form
  have HL := Lib.hid hl
  have HH := Lib.hid h
  obtain ⟨m, hm⟩ : ∃ m, l.length = m := ⟨_, rfl⟩
  have HM := Lib.hid hm
  rw [hm] at hlen c8
  have H0 : Hid (OwnR w (.slice none 0 0) w ((l.take 0).eraseIdx p)) := Lib.hid (by simpa using OwnR.nil w)
  clear hl h hm
  go_enter Try.func39, Try.ntmps39
  go_wp2
  go_loopw [5, 6] (fun o i wr => ∃ j : Nat, j ≤ m ∧ i = .int .i64 j ∧ Hid (OwnR w o wr ((l.take j).eraseIdx p))) (fun _ i _ => m - (intOf i).toNat)
  case atStart => exact ⟨0, Nat.zero_le _, rfl, H0⟩
  case round =>
    clear H0
    obtain ⟨j, hj, rfl, HO⟩ := hrel
    have x3 := (HH.out.hd (HL.out.grow HO.out.below)).c3
    rw [HM.out] at x3
    by_cases hlt : j < m
    · have i1 : (j : Int) < (m : Int) := by omega
      have i2 : (0 : Int) ≤ (j : Int) := by omega
      have hje : l[j]? = some (l[j]'(by rw [HM.out]; exact hlt)) := List.getElem?_eq_getElem _
      generalize l[j]'(by rw [HM.out]; exact hlt) = x at *
      obtain ⟨ad, cap, a, c, e1, e2, _, _, c0, c1, c2, _, _⟩ := HH.out.look (HL.out.grow HO.out.below) hje
      simp only [Value.slice.injEq] at e1
      obtain ⟨rfl, _, rfl⟩ := e1
      have HS := Lib.hid (lwo_succ (p := p) hje)
      obtain ⟨av2, cv2, rfl⟩ := HO.out.form
      by_cases hp : j = p
      · have i3 : ((j : Int) != (p : Int)) = false := by simp [hp]
        have HO2 : Hid (OwnR w (.slice av2 ((l.take j).eraseIdx p).length cv2) wr ((l.take (j + 1)).eraseIdx p)) := Lib.hid (by rw [HS.out, if_pos hp, List.append_nil]; exact HO.out)
        clear HO HS hje e2 c0 c1 c2
        go_wp2
        go_roundw
        case rel => exact ⟨j + 1, by omega, by go_num, HO2⟩
        case measure => simp [intOf]; omega
      · have i3 : ((j : Int) != (p : Int)) = true := by simp; omega
        have HR : Hid (rcells x = [.slice a x.k.length c, .int .i64 x.c, .int .i64 x.u]) := Lib.hid (by unfold rcells; rw [e2])
        have HS2 : Hid ((l.take (j + 1)).eraseIdx p = (l.take j).eraseIdx p ++ [x]) := Lib.hid (by rw [HS.out, if_neg hp])
        have hgl : ((l.take j).eraseIdx p).length ≤ 1000 := by
          have h1 := List.length_eraseIdx_le (l.take j) p
          rw [List.length_take] at h1
          omega
        obtain ⟨G, hG⟩ : ∃ G, (l.take j).eraseIdx p = G := ⟨_, rfl⟩
        rw [hG] at HO HS2 hgl ⊢
        have HG := Lib.hid hG
        have NEW : Hid (∀ (i : Nat) (u : Value), [Value.slice a x.k.length c, Value.int .i64 x.c, Value.int .i64 x.u][i]? = some u → (wr.alloc (.cells #[.slice a x.k.length c, .int .i64 x.c, .int .i64 x.u] 60)).cell? ((⟨wr.heap.size, 0, none⟩ : Addr).add i) = some u) := Lib.hid (fun i u hu => by
          rw [add_zero_at, (Bk.new wr 60 #[.slice a x.k.length c, .int .i64 x.c, .int .i64 x.u]).cell i, ← hu]
          simp)
        clear HS hje e2 hp hG
        generalize x.k.length = q at *
        go_wp2_with (at_builtin; refine wpList_append_own_at _ rfl (.tmp 19) (.tmp 27) _ rfl w.heap.size 60 i0 _ 3 40 Try.underlying52 hi0 hz0 hz1 hz2 rfl (by decide) _ _ _ rfl (own_below HO.out.own ((Below.refl _ _).alloc (Nat.le_refl _) _)) ⟨wr.heap.size, 0, none⟩ 1 1 [.slice a q c, .int .i64 x.c, .int .i64 x.u] rfl rfl NEW.out ?a2 ?a3 ?a4 ?a5 ?_)
        case a2 => intro u hu; simp at hu; rcases hu with rfl | rfl | rfl <;> rfl
        case a3 => unfold maxLen; omega
        case a4 => omega
        case a5 => have := HO.out.below.size; simp; omega
        intro v1 w10 hown1 hg1 _ hat1
        have HO2 : Hid (OwnR w v1 w10 ((l.take (j + 1)).eraseIdx p)) := Lib.hid (by
          rw [HS2.out]
          exact HO.out.step (by rw [HR.out]; exact hown1) hg1)
        clear hown1 hg1 hat1 HO NEW c0 c1 c2 x3
        go_wp2
        go_roundw
        case rel => exact ⟨j + 1, by omega, by go_num, HO2⟩
        case measure => simp [intOf]; omega
    · have i1 : ¬ (j : Int) < (m : Int) := by omega
      have HO2 : Hid (OwnR w u5 wr (l.eraseIdx p)) := Lib.hid (by
        have h := HO.out
        rwa [List.take_of_length_le (by rw [HM.out]; omega)] at h)
      clear HO
      go_wp2
      go_ret
      exact ⟨_, rfl, HO2.out⟩
/-- Rows of the document that a call has changed. -/
def LSd (w0 : World) (A : Ac) (X : Nat) (K M U : Int) (v : Value) (l : List Rw) (t : Nat) (w' : World) : Prop := ∃ A', Lay w0 A' w' ∧ LS A' X K M U v l t ∧ ∀ x, x ≠ (100, 0) → x ≠ (101, 0) → A' x = A x
set_option maxHeartbeats 1000000 in
theorem luse_c {w0 w : World} {A : Ac} {X : Nat} {K M U : Int} {v : Value} {l : List Rw} {t : Nat} (hl : Lay w0 A w) (h : LS A X K M U v l t) (hU : 0 ≤ U ∧ U ≤ 1000000) {j : Nat} {x : Rw} (hj : l[j]? = some x) :
    Calls Try.prog 40 #[.pointer (some ⟨X, 0, none⟩), .int .i64 (j : Nat)] w fun e w' => e = .returned (.tuple #[]) ∧ LSd w0 A X K M (U + 1) v (l.set j ⟨x.v, x.k, x.c, U + 1, x.id⟩) t w' := by
  obtain ⟨A1, l1, h1, f1⟩ := h.used hl (U + 1)
  have hd := h.hd hl
  have x2 := hd.c2
  have z2 := hd.f2
  have i3 : IntKind.i64.wrap (U + 1) = U + 1 := IntWalk.i64_in _ (by omega)
  have HL := Lib.hid l1
  have HH := Lib.hid h1
  have HF := Lib.hid f1
  have HJ := Lib.hid hj
  have hjl := (List.getElem?_eq_some_iff.1 hj).1
  clear hl h hd l1 h1 f1 hj
  go_enter Try.func40, Try.ntmps40
  go_wp2_with fail
  generalize (w.setCell ⟨X, 2, none⟩ (.int .i64 (U + 1))) = w1 at *
  clear x2 z2
  have HD := Lib.hid HL.out.drew
  have q3 := (HH.out.hd HL.out).c3
  have q2 := (HH.out.hd HL.out).c2
  obtain ⟨ad, cap, a, c, rfl, e2, _, hne, _, _, y0, z0, _⟩ := HH.out.look HL.out HJ.out
  obtain ⟨B, hB⟩ : ∃ B, (ad.add (j * 3)).block = B := ⟨_, rfl⟩
  have hBX : X ≠ (ad.add (j * 3)).block := fun e => hne e.symm
  have HE : Hid (LSd w0 A X K M (U + 1) (.slice (some ad) l.length cap) (l.set j ⟨x.v, x.k, x.c, U + 1, x.id⟩) t (w1.drew.setCell ⟨(ad.add (j * 3)).block, (ad.add (j * 3)).off + 2, none⟩ (.int .i64 (U + 1)))) := Lib.hid (by
    obtain ⟨A2, l2, h2, f2⟩ := HH.out.put HD.out rfl HJ.out (U + 1)
    exact ⟨A2, l2, h2, fun y hy hy2 => (f2 y hy2).trans (HF.out y hy)⟩)
  have v3 : (w1.drew.setCell ⟨(ad.add (j * 3)).block, (ad.add (j * 3)).off + 2, none⟩ (.int .i64 (U + 1))).cell? ⟨X, 3, none⟩ = some (.slice (some ad) l.length cap) := by
    rw [World.cell?_setCell_other _ _ _ _ (fun e => hBX (congrArg Addr.block e).symm)]; exact q3
  have v2 : (w1.drew.setCell ⟨(ad.add (j * 3)).block, (ad.add (j * 3)).off + 2, none⟩ (.int .i64 (U + 1))).cell? ⟨X, 2, none⟩ = some (.int .i64 (U + 1)) := by
    rw [World.cell?_setCell_other _ _ _ _ (fun e => hBX (congrArg Addr.block e).symm)]; exact q2
  have y1 : w1.drew.cell? ⟨(ad.add (j * 3)).block, (ad.add (j * 3)).off + 2, none⟩ = some (.int .i64 x.u) := y0
  have z1 : w1.drew.frozen? ⟨(ad.add (j * 3)).block, (ad.add (j * 3)).off + 2, none⟩ = false := z0
  obtain ⟨m, hm⟩ : ∃ m, l.length = m := ⟨_, rfl⟩
  have HM := Lib.hid hm
  rw [hm] at q3 v3 hjl HE
  clear y0 z0 HL HH HF HJ HD e2 hne hB hm
  have p1 : (j : Int) < (m : Int) := by omega
  have p0 : (0 : Int) ≤ (j : Int) := by omega
  refine wp_region_held_drew (S := fun w' => w'.cell? ⟨X, 3, none⟩ = some (.slice (some ad) m cap) ∧ w'.cell? ⟨X, 2, none⟩ = some (.int .i64 (U + 1))) (by kernel_rfl) ⟨q3, q2⟩ (fun g => ?_)
  generalize w1.drew = z at *
  clear q3 q2
  refine tq 0 ?_ rfl (by kernel_rfl) (fun _ _ _ h => h) (by rfl) g ?_ ?_; rotate_left
  · intro w9 h9; go_simp; try with_reducible rfl
  simp only [Act.put, ptA, ptB, ptC]
  refine tq 1 ?_ rfl (by kernel_rfl) (fun _ _ _ h => h) (by rfl) g ?_ ?_; rotate_left
  · intro w9 h9; go_simp; try with_reducible rfl
  simp only [Act.put, ptA, ptB, ptC]
  refine tq 2 ?_ rfl (by kernel_rfl) (fun _ _ _ h => h) (by rfl) g ?_ ?_; rotate_left
  · intro w9 h9; go_simp; try with_reducible rfl
  simp only [Act.put, ptA, ptB, ptC]
  refine tq 3 ?_ rfl (by kernel_rfl) (fun _ _ _ h => h) (by rfl) g ?_ ?_; rotate_left
  · intro w9 h9; obtain ⟨h91, h92⟩ := h9; go_simp; try with_reducible rfl
  simp only [Act.put, ptA, ptB, ptC]
  refine tq 4 ?_ rfl (by kernel_rfl) (fun _ _ _ h => h) (by rfl) g ?_ ?_; rotate_left
  · intro w9 h9; go_simp; try with_reducible rfl
  simp only [Act.put, ptA, ptB, ptC]
  refine tq 5 ?_ rfl (by kernel_rfl) (fun _ _ _ h => h) (by rfl) g ?_ ?_; rotate_left
  · intro w9 h9; go_simp; try with_reducible rfl
  simp only [Act.put, ptA, ptB, ptC]
  refine tq 6 ?_ rfl (by kernel_rfl) (fun _ _ _ h => h) (by rfl) g ?_ ?_; rotate_left
  · intro w9 h9; go_simp; try with_reducible rfl
  simp only [Act.put, ptA, ptB, ptC]
  refine tq 7 ?_ rfl (by kernel_rfl) (fun _ _ _ h => h) (by rfl) g ?_ ?_; rotate_left
  · intro w9 h9; go_simp; try with_reducible rfl
  simp only [Act.put, ptA, ptB, ptC]
  refine tq 8 ?_ rfl (by kernel_rfl) (fun _ _ _ h => h) (by rfl) g ?_ ?_; rotate_left
  · intro w9 h9; obtain ⟨h91, h92⟩ := h9; go_simp; try with_reducible rfl
  simp only [Act.put, ptA, ptB, ptC]
  refine tq 9 ?_ rfl (by kernel_rfl) (fun _ _ _ h => h) (by rfl) g ?_ ?_; rotate_left
  · intro w9 h9; go_simp; try with_reducible rfl
  simp only [Act.put, ptA, ptB, ptC]
  refine tq 10 ?_ rfl (by kernel_rfl) (fun _ _ _ h => h) (by rfl) g ?_ ?_; rotate_left
  · intro w9 h9; go_simp; try with_reducible rfl
  simp only [Act.put, ptA, ptB, ptC]
  refine tc 11 rfl (by kernel_rfl) (fun K9 hK => ?_)
  go_simp
  refine hK.out _ _ ⟨v3, v2⟩ (fun g1 => ?_)
  clear hK K9 g g1
  refine wpAnyH_done (by kernel_rfl) ?_ _
  go_wp2
  go_end0
  exact ⟨rfl, by have := HE.out; rw [← HM.out] at this; exact this⟩
end Go.Proofs.Ythappjbghlifbaa
