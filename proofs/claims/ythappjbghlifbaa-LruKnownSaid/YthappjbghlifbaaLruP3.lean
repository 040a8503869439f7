/-
  Layer 11's program: slices.Delete, out, Del, room: contracts. No conditions.
-/
import Derived.Test.YthappjbghlifbaaLruP2
import Derived.Deep.RegionLaw
import Derived.Handy
namespace Go.Proofs.Ythappjbghlifbaa
set_option maxRecDepth 100000
open Go.RowKit Ow Ro K2
set_option linter.unusedVariables false
set_option linter.unusedSimpArgs false
theorem bk_setCells {w : World} {g : Nat} {t : TypeId} {cur : Array Value} (h : Bk w g t cur) (vs : List Value) (b : Nat) (hb : b + vs.length ≤ cur.size) :
    ∃ cur', Bk (w.setCells g b vs) g t cur' ∧ cur'.size = cur.size ∧ cur'.toList = cur.toList.take b ++ vs ++ cur.toList.drop (b + vs.length) := by
  induction vs generalizing w cur b with
  | nil => exact ⟨cur, h, rfl, by simp⟩
  | cons v vs ih =>
    rw [List.length_cons] at hb
    obtain ⟨cur', h1, h2, h3⟩ := ih (h.set_ b v) (b + 1) (by rw [Array.size_setIfInBounds]; omega)
    refine ⟨cur', h1, by rw [h2, Array.size_setIfInBounds], ?_⟩
    rw [h3, Array.toList_setIfInBounds]
    have hbl : b < cur.toList.length := by rw [Array.length_toList]; omega
    have e1 : (cur.toList.set b v).take (b + 1) = cur.toList.take b ++ [v] := by
      rw [List.take_succ_eq_append_getElem (by rw [List.length_set]; exact hbl), List.take_set_of_le (Nat.le_refl _), List.getElem_set_self]
    have e2 : (cur.toList.set b v).drop (b + 1 + vs.length) = cur.toList.drop (b + (v :: vs).length) := by
      rw [List.drop_set_of_lt (by omega), List.length_cons, show b + 1 + vs.length = b + (vs.length + 1) by omega]
    rw [e1, e2]
    simp
theorem grown_setCells (w : World) (g b : Nat) (vs : List Value) : w.grownBy (w.setCells g b vs) (some g) := by
  induction vs generalizing w b with
  | nil => exact World.grownBy.refl _ _
  | cons v vs ih => exact (grownBy_set w g b v).trans (ih (w.setCell ⟨g, b, none⟩ v) (b + 1))
theorem grown_drew {w w' : World} {r : Option Nat} (h : w.drew.grownBy w' r) : w.grownBy w' r := ⟨h.os, h.tape, h.output, h.size, h.block⟩
theorem run_clear_one (w : World) (ty : TypeId) (g b c : Nat) (cur : Array Value) (h : Bk w g 58 cur) (hb : b + 2 ≤ cur.size) :
    (Builtin.clear_ #[49] ty #[.slice (some ⟨g, b, none⟩) 1 c]).run Try.prog w = .ok (.tuple #[]) (w.setCells g b [.string ByteArray.empty, .int .i64 0]) := by
  obtain ⟨i0, hi0, hz0, hz1, hz2⟩ := info10 entry_info
  have hv : (zeroValue 58).run Try.prog w = .ok (.agg #[.string ByteArray.empty, .int .i64 0]) w := by
    simp [zeroValue, typeInfo, hi0, hz0]
  have hzc : (Builtin.zeroCells (Value.agg #[.string ByteArray.empty, .int .i64 0]).cells 1).toList = [.string ByteArray.empty, .int .i64 0] := by kernel_rfl
  have hst := run_storeCells_cells (P := Try.prog) g b [.string ByteArray.empty, .int .i64 0] 0 w (fun j hj => by
    rw [show b + 0 + j = b + j by omega, h.cell, Array.getElem?_eq_getElem (by simp at hj; omega)]; rfl) (fun j hj => by exact h.frozen _) (fun u hu => by simp at hu; rcases hu with rfl | rfl <;> rfl)
  simp only [Nat.add_zero] at hst
  simp [Builtin.clear_, run_underlying Try.underlying49, hv, hzc, hst]
/-- What a Delete leaves. -/
def DelP (w : World) (g n1 cap : Nat) (sz : Nat) (o2 : KO) (e : Ending) (w' : World) : Prop :=
  e = .returned (.slice (some ⟨g, 0, none⟩) n1 cap) ∧ w.grownBy w' (some g) ∧ ∃ cur', Bk w' g 58 cur' ∧ cur'.size = sz ∧ cur'.toList.take (n1 * 2) = pflat o2
set_option maxHeartbeats 2000000 in
theorem delete_p {w : World} {gb cap : Nat} {cur : Array Value} {o : KO} (hbk : Bk w gb 58 cur) (hlen : o.length ≤ 1000) (hc : o.length ≤ cap) (hm : cap ≤ maxLen) (hsz : cap * 2 ≤ cur.size) (hcl : cur.toList.take (o.length * 2) = pflat o) {p : Nat} (hp : p < o.length) :
    Calls Try.prog 43 #[.slice (some ⟨gb, 0, none⟩) o.length cap, .int .i64 (p : Nat), .int .i64 ((p : Int) + 1)] w (DelP w gb (o.length - 1) cap cur.size (o.eraseIdx p)) := by
  obtain ⟨i0, hi0, hz0, hz1, hz2⟩ := info10 entry_info
  obtain ⟨n, hn⟩ : ∃ n, o.length = n := ⟨_, rfl⟩
  obtain ⟨q, hq⟩ : ∃ q, n - (p + 1) = q := ⟨_, rfl⟩
  rw [hn] at hlen hc hcl hp ⊢
  have hmm : maxLen = 9223372036854775807 := rfl
  have hbd : Bk w.drew gb 58 cur := hbk
  -- the cells of a part
  have rd : ∀ (w' : World), Bk w' gb 58 cur → ∀ (j : Nat) (u : Value), (pflat o)[j]? = some u → w'.cell? ⟨gb, j, none⟩ = some u := fun w' hb j u hu => by
    rw [hb.cell, ← Array.getElem?_toList, ← hu, ← hcl, List.getElem?_take, if_pos]
    have := (List.getElem?_eq_some_iff.1 hu).1
    rw [pflat_len] at this
    omega
  have SRC : Hid (∃ A2 : Addr, (if cap = p + 1 then some (⟨gb, 0, none⟩ : Addr) else some ⟨gb, (p + 1) * 2, none⟩) = some A2 ∧ ∀ j u, (pflat (o.drop (p + 1)))[j]? = some u → w.drew.cell? (A2.add j) = some u) := Lib.hid (by
    by_cases hc : cap = p + 1
    · refine ⟨⟨gb, 0, none⟩, by rw [if_pos hc], fun j u hu => ?_⟩
      rw [List.drop_eq_nil_of_le (by omega)] at hu
      simp [pflat] at hu
    · refine ⟨⟨gb, (p + 1) * 2, none⟩, by rw [if_neg hc], fun j u hu => ?_⟩
      rw [Addr.add_lit]
      refine rd _ hbd _ u ?_
      rw [← pflat_drop, List.getElem?_drop] at hu
      exact hu)
  have hnews : Hid ((pflat (o.drop (p + 1))).length = q * 2) := Lib.hid (by rw [pflat_len, List.length_drop, hn, hq])
  have hone : Hid (∀ u ∈ pflat (o.drop (p + 1)), u.oneCell' = true) := Lib.hid (pflat_one _)
  obtain ⟨c1, hb1, hs1, hl1⟩ := bk_setCells hbd (pflat (o.drop (p + 1))) (p * 2) (by rw [hnews.out]; omega)
  obtain ⟨c2, hb2, hs2, hl2⟩ := bk_setCells hb1 [.string ByteArray.empty, .int .i64 0] ((n - 1) * 2) (by rw [hs1]; simp; omega)
  have ROOM : Hid (∀ j, j < (pflat (o.drop (p + 1))).length → (w.drew.cell? ⟨gb, 0 + p * 2 + j, none⟩).isSome = true ∧ w.drew.frozen? ⟨gb, 0 + p * 2 + j, none⟩ = false) := Lib.hid (fun j hj => ⟨by
    rw [hnews.out] at hj
    rw [hbd.cell, Array.getElem?_eq_getElem (by omega)]; rfl, hbd.frozen _⟩)
  have CLR : Hid ((Builtin.clear_ #[49] 0 #[.slice (some ⟨gb, (n - 1) * 2, none⟩) (n - (n - 1)) (cap - (n - 1))]).run Try.prog (w.drew.setCells gb (p * 2) (pflat (o.drop (p + 1)))) = .ok (.tuple #[]) ((w.drew.setCells gb (p * 2) (pflat (o.drop (p + 1)))).setCells gb ((n - 1) * 2) [.string ByteArray.empty, .int .i64 0])) := Lib.hid (by
    rw [show n - (n - 1) = 1 by omega]
    exact run_clear_one _ _ gb _ _ c1 hb1 (by rw [hs1]; omega))
  have HD : Hid (DelP w gb (n - 1) cap cur.size (o.eraseIdx p) (.returned (.slice (some ⟨gb, 0, none⟩) (n - 1) cap)) ((w.drew.setCells gb (p * 2) (pflat (o.drop (p + 1)))).setCells gb ((n - 1) * 2) [.string ByteArray.empty, .int .i64 0])) := Lib.hid (by
    refine ⟨rfl, ?_, c2, hb2, by rw [hs2, hs1], ?_⟩
    · exact World.grownBy.trans (grown_drew (grown_setCells w.drew gb _ _)) (grown_setCells _ gb _ _)
    · have e0 : (pflat (o.eraseIdx p)).length = (n - 1) * 2 := by rw [pflat_len, List.length_eraseIdx_of_lt (by omega), hn]
      have e1 : cur.toList.take (p * 2) = pflat (o.take p) := by
        rw [← pflat_take, ← hcl, List.take_take]
        congr 1
        omega
      have e2 : c1.toList.take ((n - 1) * 2) = pflat (o.eraseIdx p) := by
        rw [hl1, e1, ← pflat_app, ← List.eraseIdx_eq_take_drop_succ]
        exact List.take_left' e0
      rw [hl2, e2, List.append_assoc]
      exact List.take_left' e0)
  generalize ((w.drew.setCells gb (p * 2) (pflat (o.drop (p + 1)))).setCells gb ((n - 1) * 2) [.string ByteArray.empty, .int .i64 0]) = z3 at *
  obtain ⟨z2, hz2e⟩ : ∃ z2, w.drew.setCells gb (p * 2) (pflat (o.drop (p + 1))) = z2 := ⟨_, rfl⟩
  rw [hz2e] at CLR
  have HZ2 : Hid (w.drew.setCells gb (0 + p * 2) (pflat (o.drop (p + 1))) = z2) := Lib.hid (by rw [Nat.zero_add]; exact hz2e)
  have HQ := Lib.hid hq
  have I0 := Lib.hid hi0
  have i3 : ((p : Int) == (p : Int) + 1) = false := by rw [beq_eq_false_iff_ne]; omega
  have p0 : (0 : Int) ≤ (p : Int) := by omega
  have p1 : (p : Int) ≤ (n : Int) := by omega
  have p2 : (p : Int) + 1 ≤ (n : Int) := by omega
  have p4 : (n : Int) ≤ (cap : Int) := by omega
  have p5 : (p : Int) ≤ (cap : Int) := by omega
  have p6 : (p : Int) ≤ (p : Int) + 1 := by omega
  have p8 : (0 : Int) ≤ (p : Int) + 1 := by omega
  have hpq : Hid (p + q = n - 1) := Lib.hid (by omega)
  have hql : Hid (p + q ≤ cap) := Lib.hid (by omega)
  clear hbk hsz hcl hbd rd hb1 hs1 hl1 hb2 hs2 hl2 hz2e hn hq hi0 hz0
  go_enter Try.func43, Try.ntmps43
  go_wp2_with fail
  refine wp_region_held_drew (S := fun _ => True) (by kernel_rfl) trivial (fun g => ?_)
  generalize w.drew = z at *
  refine tq 0 ?_ rfl (by kernel_rfl) (fun _ _ _ h => h) (by rfl) g ?_ ?_; rotate_left
  · intro w9 h9; go_simp; try with_reducible rfl
  simp only [Act.put, ptA, ptB, ptC]
  refine tq 1 ?_ rfl (by kernel_rfl) (fun _ _ _ h => h) (by rfl) g ?_ ?_; rotate_left
  · intro w9 h9; go_simp; try with_reducible rfl
  simp only [Act.put, ptA, ptB, ptC]
  refine tq 2 ?_ rfl (by kernel_rfl) (fun _ _ _ h => h) (by rfl) g ?_ ?_; rotate_left
  · intro w9 h9; go_simp; try with_reducible rfl
  simp only [Act.put, ptA, ptB, ptC]
  refine tq 3 ?_ rfl (by kernel_rfl) (fun _ _ _ h => h) (by rfl) g ?_ ?_; rotate_left
  · intro w9 h9; go_simp; try with_reducible rfl
  simp only [Act.put, ptA, ptB, ptC]
  refine tq 4 ?_ rfl (by kernel_rfl) (fun _ _ _ h => h) (by rfl) g ?_ ?_; rotate_left
  · intro w9 h9; go_simp; try with_reducible rfl
  simp only [Act.put, ptA, ptB, ptC]
  refine tq 5 ?_ rfl (by kernel_rfl) (fun _ _ _ h => h) (by rfl) g ?_ ?_; rotate_left
  · intro w9 h9; go_simp; try with_reducible rfl
  simp only [Act.put, ptA, ptB, ptC]
  obtain ⟨A2, e2, d2⟩ := SRC.out
  simp only [e2, HQ.out]
  refine tc 6 rfl (by kernel_rfl) (fun K9 hK => ?_)
  refine step_append_room rfl (.tmp 22) (.tmp 25) _ rfl 58 i0 2 Try.underlying49 I0.out hz1 gb 0 p cap rfl A2 q (cap - (p + 1)) (pflat (o.drop (p + 1))) rfl hnews.out d2 hone.out hql.out ROOM.out ?_
  rw [HZ2.out]
  refine hK.out _ _ trivial (fun g1 => ?_)
  clear hK K9 g
  have g := g1
  clear g1
  clear d2
  simp only [hpq.out]
  refine tq 7 ?_ rfl (by kernel_rfl) (fun _ _ _ h => h) (by rfl) g ?_ ?_; rotate_left
  · intro w9 h9; go_simp; try with_reducible rfl
  simp only [Act.put, ptA, ptB, ptC]
  clear g
  refine wpAnyH_done (by kernel_rfl) ?_ _
  clear HZ2 ROOM SRC
  have kc := CLR.out
  go_wp2
  go_ret
  exact HD.out
/-- An entry goes. -/
theorem OG.erase {K M : Int} {o : KO} (h : OG K M o) (p : Nat) : OG K M (o.eraseIdx p) :=
  ⟨fun e he => h.len e (List.mem_of_mem_eraseIdx he), fun e he => h.byt e (List.mem_of_mem_eraseIdx he), h.nd.sublist (List.eraseIdx_sublist ..), by have := List.length_eraseIdx_le o p; have := h.small; omega, h.K1, h.K2, h.M1, h.M2⟩
/-- What 'out' answers. -/
def outV (x : List Int × Int) : Value := .agg #[.string (strOfNums x.1), .int .i64 x.2]
set_option maxHeartbeats 2000000 in
theorem out_p {w0 w : World} {A : Ac} {k X : Nat} {K M : Int} {v : Value} {o : KO} (hl : Lay w0 A w) (h : PX k A X K M v o) {p : Nat} {x : List Int × Int} (hp : o[p]? = some x) :
    Calls Try.prog 37 #[.pointer (some ⟨X, 0, none⟩), .int .i64 (p : Nat)] w fun e w' => e = .returned (outV x) ∧ PLd k w0 A X K M (o.eraseIdx p) w' := by
  have hs := h.good.small
  have hM := h.good.M2
  have hpl := (List.getElem?_eq_some_iff.1 hp).1
  have hpx := (List.getElem?_eq_some_iff.1 hp).2
  have g0 := pflat_get o p 0 hpl (by omega)
  have g1 := pflat_get o p 1 hpl (by omega)
  rw [hpx] at g0 g1
  obtain ⟨gb, cap, rfl, hc1, hc2, hgl, _, hlook⟩ := h.row.look hl (by omega)
  obtain ⟨cur, hr, h3, h4⟩ : ∃ cur, A (74, k) = some (gb, .cells cur 58) ∧ cap * 2 ≤ cur.size ∧ cur.toList.take (o.length * 2) = pflat o := by
    rcases h.row with ⟨e, _⟩ | ⟨g', cap', cur, e, hr, c1, c2, c3, c4⟩
    · cases e
    · simp only [Value.slice.injEq, Option.some.injEq, Addr.mk.injEq, and_true, true_and] at e
      obtain ⟨rfl, rfl⟩ := e
      exact ⟨cur, hr, c3, c4⟩
  have DC : Hid (∀ w', Below w.heap.size w w' → Calls Try.prog 43 #[.slice (some ⟨gb, 0, none⟩) o.length cap, .int .i64 (p : Nat), .int .i64 ((p : Int) + 1)] w' (DelP w' gb (o.length - 1) cap cur.size (o.eraseIdx p))) := Lib.hid (fun w' hb =>
    delete_p ((hl.grow hb).bk hr) (by omega) hc1 hc2 h3 h4 hpl)
  have d0 := (hlook w (Below.refl _ _)).1 (p * 2 + 0) (.string (strOfNums x.1)) (by rw [g0]; rfl)
  have d1 := (hlook w (Below.refl _ _)).1 (p * 2 + 1) (.int .i64 x.2) (by rw [g1]; rfl)
  rw [Nat.add_zero] at d0
  have c2 := (h.hd hl).c2
  have lX := (h.hd hl).lt
  have BW : Hid (Below w.heap.size w ((w.alloc (.cells #[.string ⟨#[]⟩, .int .i64 0] 58)).alloc (.cells #[.string (strOfNums x.1), .int .i64 x.2] 58))) := Lib.hid (((Below.refl _ _).alloc (Nat.le_refl _) _).alloc (by simp) _)
  have l0 := hl.new (72, 0) ((Below.refl _ _).alloc (Nat.le_refl _) _) (Nat.le_refl _) (Bk.new w 58 #[.string ⟨#[]⟩, .int .i64 0])
  have l1 := l0.new (72, 1) ((Below.refl _ _).alloc (Nat.le_refl _) _) (Nat.le_refl _) (Bk.new (w.alloc (.cells #[.string ⟨#[]⟩, .int .i64 0] 58)) 58 #[.string (strOfNums x.1), .int .i64 x.2])
  rw [World.size_alloc] at l1
  have HE : Hid (∀ w2, ((w.alloc (.cells #[.string ⟨#[]⟩, .int .i64 0] 58)).alloc (.cells #[.string (strOfNums x.1), .int .i64 x.2] 58)).grownBy w2 (some gb) → (∃ cur', Bk w2 gb 58 cur' ∧ cur'.size = cur.size ∧ cur'.toList.take ((o.length - 1) * 2) = pflat (o.eraseIdx p)) →
      (w2.cell? ⟨X, 2, none⟩ = some (.slice (some ⟨gb, 0, none⟩) o.length cap) ∧ w2.frozen? ⟨X, 2, none⟩ = false ∧ w2.cell? ⟨w.heap.size, 0, none⟩ = some (.string ⟨#[]⟩) ∧ w2.cell? ⟨w.heap.size, 1, none⟩ = some (.int .i64 0) ∧ w2.frozen? ⟨w.heap.size, 0, none⟩ = false ∧ w2.frozen? ⟨w.heap.size, 1, none⟩ = false ∧ w2.cell? ⟨w.heap.size + 1, 0, none⟩ = some (.string (strOfNums x.1)) ∧ w2.cell? ⟨w.heap.size + 1, 1, none⟩ = some (.int .i64 x.2)) ∧
      (((w2.setCell ⟨X, 2, none⟩ (.slice (some ⟨gb, 0, none⟩) (o.length - 1) cap)).setCell ⟨w.heap.size, 0, none⟩ (.string (strOfNums x.1))).setCell ⟨w.heap.size, 1, none⟩ (.int .i64 x.2)).cell? ⟨w.heap.size, 0, none⟩ = some (.string (strOfNums x.1)) ∧ (((w2.setCell ⟨X, 2, none⟩ (.slice (some ⟨gb, 0, none⟩) (o.length - 1) cap)).setCell ⟨w.heap.size, 0, none⟩ (.string (strOfNums x.1))).setCell ⟨w.heap.size, 1, none⟩ (.int .i64 x.2)).cell? ⟨w.heap.size, 1, none⟩ = some (.int .i64 x.2) ∧
      PLd k w0 A X K M (o.eraseIdx p) (((w2.setCell ⟨X, 2, none⟩ (.slice (some ⟨gb, 0, none⟩) (o.length - 1) cap)).setCell ⟨w.heap.size, 0, none⟩ (.string (strOfNums x.1))).setCell ⟨w.heap.size, 1, none⟩ (.int .i64 x.2))) := Lib.hid (fun w2 hg hq => by
    obtain ⟨cur', hb2, hs2, hl2⟩ := hq
    obtain ⟨A1, hA1⟩ : ∃ A1, ((A.up (72, 0) w.heap.size (.cells #[.string ⟨#[]⟩, .int .i64 0] 58)).up (72, 1) (w.heap.size + 1) (.cells #[.string (strOfNums x.1), .int .i64 x.2] 58)) = A1 := ⟨_, rfl⟩
    have f1 : ∀ y : Rl, y.1 ≠ 72 → A1 y = A y := fun y hy => by
      rw [← hA1, up_other _ _ _ (fun e => hy (by rw [e])), up_other _ _ _ (fun e => hy (by rw [e]))]
    have b1 : A1 (72, 1) = some (w.heap.size + 1, .cells #[.string (strOfNums x.1), .int .i64 x.2] 58) := by rw [← hA1]; exact up_same _ _ _ _
    have b0 : A1 (72, 0) = some (w.heap.size, .cells #[.string ⟨#[]⟩, .int .i64 0] 58) := by rw [← hA1, up_other _ _ _ (by simp)]; exact up_same _ _ _ _
    rw [hA1] at l1
    have l2 := l1.put ((f1 _ (by simp)).trans hr) hg hb2
    obtain ⟨A2, hA2⟩ : ∃ A2, A1.up (74, k) gb (.cells cur' 58) = A2 := ⟨_, rfl⟩
    have a2 : A2 (73, k) = some (X, .cells #[.int .i64 K, .int .i64 M, .slice (some ⟨gb, 0, none⟩) o.length cap] 51) := by
      rw [← hA2, up_other _ _ _ (by simp), f1 _ (by simp)]; exact h.head
    have b0' : A2 (72, 0) = some (w.heap.size, .cells #[.string ⟨#[]⟩, .int .i64 0] 58) := by rw [← hA2, up_other _ _ _ (by simp)]; exact b0
    have b1' : A2 (72, 1) = some (w.heap.size + 1, .cells #[.string (strOfNums x.1), .int .i64 x.2] 58) := by rw [← hA2, up_other _ _ _ (by simp)]; exact b1
    have r2 : A2 (74, k) = some (gb, .cells cur' 58) := by rw [← hA2]; exact up_same _ _ _ _
    have f2 : ∀ y : Rl, y.1 ≠ 72 → y ≠ (74, k) → A2 y = A y := fun y hy hy2 => by rw [← hA2, up_other _ _ _ hy2]; exact f1 y hy
    rw [hA2] at l2
    refine ⟨⟨(l2.bk a2).cell 2, (l2.bk a2).frozen 2, (l2.bk b0').cell 0, (l2.bk b0').cell 1, (l2.bk b0').frozen 0, (l2.bk b0').frozen 1, (l2.bk b1').cell 0, (l2.bk b1').cell 1⟩, ?_⟩
    have l3 := l2.set_ a2 2 (.slice (some ⟨gb, 0, none⟩) (o.length - 1) cap)
    have l4 := l3.set_ ((up_other _ _ _ (by simp)).trans b0') 0 (.string (strOfNums x.1))
    have l5 := l4.set_ (up_same _ _ _ _) 1 (.int .i64 x.2)
    refine ⟨(l5.bk (up_same _ _ _ _)).cell 0, (l5.bk (up_same _ _ _ _)).cell 1, ?_⟩
    refine ⟨_, l5, ⟨.slice (some ⟨gb, 0, none⟩) (o.length - 1) cap, ?_, PRow.keep (A := A2) ?_ ?_, h.good.erase p⟩, fun y h0 h1 h2 => ?_⟩
    · rw [up_other _ _ _ (by simp), up_other _ _ _ (by simp), up_same]; rfl
    · have e0 : (o.eraseIdx p).length = o.length - 1 := by rw [List.length_eraseIdx_of_lt hpl]
      exact .inr ⟨gb, cap, cur', by rw [e0], r2, by omega, hc2, by omega, by rw [e0]; exact hl2⟩
    · rw [up_other _ _ _ (by simp), up_other _ _ _ (by simp), up_other _ _ _ (by simp)]
    · rw [up_other _ _ _ (fun e => h0 (by rw [e])), up_other _ _ _ (fun e => h0 (by rw [e])), up_other _ _ _ h1]
      exact f2 y h0 h2)
  clear l0 l1
  unfold outV
  clear hl h hp hpx g0 g1 hr h3 h4 hlook
  generalize strOfNums x.1 = sx at *
  generalize x.2 = y at *
  generalize o.length = n at *
  have p0 : (0 : Int) ≤ (p : Int) := by omega
  have p1 : (p : Int) < (n : Int) := by omega
  have p7 : IntKind.i64.wrap ((p : Int) + 1) = (p : Int) + 1 := IntWalk.i64_in _ (by omega)
  go_enter Try.func37, Try.ntmps37
  go_wp2_with fail
  with_reducible refine (DC.out _ BW.out).mono ?_
  rintro e w2 ⟨rfl, hg, hq⟩
  obtain ⟨⟨e1, e2, e3, e4, e5, e6, e7, e8⟩, q0, q1, hpl2⟩ := HE.out w2 hg hq
  have Q0 := Lib.hid q0
  have Q1 := Lib.hid q1
  have HP2 := Lib.hid hpl2
  clear hg hq hpl2 q0 q1 HE DC BW d0 d1 c2
  go_wp2
  have q0 := Q0.out
  have q1 := Q1.out
  generalize (((w2.setCell ⟨X, 2, none⟩ (.slice (some ⟨gb, 0, none⟩) (n - 1) cap)).setCell ⟨w.heap.size, 0, none⟩ (.string sx)).setCell ⟨w.heap.size, 1, none⟩ (.int .i64 y)) = w3 at *
  clear Q0 Q1 e1 e2 e3 e4 e5 e6 e7 e8
  refine bodyPost_ret (by simp [results, Try.results37, q0, q1, go_sem]; try rfl) rfl ?_
  exact ⟨rfl, HP2.out⟩
set_option maxHeartbeats 1000000 in
theorem pdel_c {w0 w : World} {A : Ac} {k X : Nat} {K M : Int} {o : KO} (hl : Lay w0 A w) (h : PL k A X K M o) (a : Option Addr) (n c : Nat) (ks : List Int) (hn : ks.length = n) (hby : ∀ x ∈ ks, 0 ≤ x ∧ x ≤ 255) (hr : Rd w w.heap.size a (bv ks)) :
    Calls Try.prog 23 #[.pointer (some ⟨X, 0, none⟩), .slice a n c] w fun e w' => e = .returned (agetV (aget o ks)) ∧ PLd k w0 A X K M (awo o ks) w' := by
  obtain ⟨v, hx⟩ := h
  have WC := Lib.hid (where_p hl hx a n c ks hn hby hr)
  have HL := Lib.hid hl
  have HX := Lib.hid hx
  clear hl hx hn hby hr
  cases hp : pix o ks with
  | none =>
    rw [hp] at WC
    rw [pix_none_get hp, awo_none (pix_none_get hp)]
    clear hp
    unfold ixV at WC
    go_enter Try.func23, Try.ntmps23
    go_wp2_with fail
    with_reducible refine WC.out.mono ?_
    rintro e w2 ⟨rfl, q⟩
    have HQ : Hid (PLd k w0 A X K M o w2) := Lib.hid ⟨A, HL.out.grow q, ⟨v, HX.out⟩, Fp.refl⟩
    clear q
    go_wp2
    go_ret2
    exact ⟨rfl, HQ.out⟩
  | some p =>
    rw [hp] at WC
    obtain ⟨⟨x1, y⟩, hxp, hxk, hpl⟩ := pix_get hp
    rw [pix_some_get hp hxp]
    dsimp only at hxk ⊢
    subst hxk
    have OC : Hid (∀ w', Below w.heap.size w w' → Calls Try.prog 37 #[.pointer (some ⟨X, 0, none⟩), .int .i64 (p : Nat)] w' fun e w' => e = .returned (.agg #[.string (strOfNums x1), .int .i64 y]) ∧ PLd k w0 A X K M (awo o x1) w') := Lib.hid (fun w' hb => by
      have h := out_p (HL.out.grow hb) HX.out hxp
      rw [pget_erase HX.out.good hxp rfl] at h
      exact h)
    clear hp hxp hpl HX HL
    generalize strOfNums x1 = sx at *
    have kf : ∀ w : World, (Instr.field 58 (.agg #[.string sx, .int .i64 y]) 1).run Try.prog w = .ok (.int .i64 y) w := fun w => rfl
    unfold ixV at WC
    have i1 : ¬ (p : Int) < 0 := by omega
    go_enter Try.func23, Try.ntmps23
    go_wp2_with fail
    with_reducible refine WC.out.mono ?_
    rintro e w2 ⟨rfl, q⟩
    have OC2 := Lib.hid (OC.out w2 q)
    clear q OC WC
    go_wp2_with fail
    with_reducible refine OC2.out.mono ?_
    rintro e w3 ⟨rfl, q⟩
    have HQ := Lib.hid q
    clear q OC2
    go_wp2
    go_ret2
    exact ⟨rfl, HQ.out⟩
end Go.Proofs.Ythappjbghlifbaa
