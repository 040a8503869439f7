/-
  Layer 11's program: room; what Put appends: contracts. No conditions.
-/
import Derived.Test.YthappjbghlifbaaLruP3
namespace Go.Proofs.Ythappjbghlifbaa
set_option maxRecDepth 100000
open Go.RowKit Ow Ro K2
set_option linter.unusedVariables false
set_option linter.unusedSimpArgs false
/-- Who went: none, or a row of bytes. -/
def Gone (A : Ac) (v : Value) (xs : List Int) : Prop := (xs = [] ∧ v = .slice none 0 0) ∨ RowZ A (71, 0) v xs.length (bv xs)
theorem Gone.keep {A A' : Ac} {v : Value} {xs : List Int} (h : Gone A v xs) (hk : A' (71, 0) = A (71, 0)) : Gone A' v xs := h.imp id fun h => h.keep hk
theorem Gone.form {A : Ac} {v : Value} {xs : List Int} (h : Gone A v xs) : ∃ a c, v = .slice a xs.length c := by
  rcases h with ⟨rfl, rfl⟩ | h
  · exact ⟨none, 0, rfl⟩
  · obtain ⟨a, c, e, _⟩ := h.form
    exact ⟨a, c, e⟩
def RoomP (k : Nat) (w0 : World) (A : Ac) (X : Nat) (K M : Int) (o2 : KO) (x : List Int × Int) (e : Ending) (w' : World) : Prop := ∃ v A', e = .returned (.tuple #[v, .int .i64 x.2]) ∧ Lay w0 A' w' ∧ PL k A' X K M o2 ∧ Gone A' v x.1 ∧ Fg k A A'
/-- Who goes, where there is no room. -/
def oldest (M : Int) (o : KO) : List Int × Int := if (o.length : Int) = M then o.getLast?.getD ([], 0) else ([], 0)
def rest (M : Int) (o : KO) : KO := if (o.length : Int) = M then o.dropLast else o
theorem erase_last (o : KO) : o.eraseIdx (o.length - 1) = o.dropLast := by
  rw [List.dropLast_eq_take, List.eraseIdx_eq_take_drop_succ]
  by_cases h : o.length = 0
  · rw [List.eq_nil_of_length_eq_zero h]; rfl
  · rw [show o.length - 1 + 1 = o.length by omega, List.drop_length, List.append_nil]
set_option maxHeartbeats 2000000 in
theorem room_p {w0 w : World} {A : Ac} {k X : Nat} {K M : Int} {v : Value} {o : KO} (hl : Lay w0 A w) (h : PX k A X K M v o) :
    Calls Try.prog 35 #[.pointer (some ⟨X, 0, none⟩)] w (RoomP k w0 A X K M (rest M o) (oldest M o)) := by
  have hs := h.good.small
  have hM := h.good.M2
  have hM1 := h.good.M1
  obtain ⟨av, cv, rfl, hc1, hc2, _⟩ := h.row.form
  have hd := h.hd hl.drew
  have c1 := hd.c1
  have c2 := hd.c2
  have HL := Lib.hid hl.drew
  have HX := Lib.hid h
  clear hl h hd
  by_cases hf : (o.length : Int) = M
  · have hlast : o[o.length - 1]? = some (o[o.length - 1]'(by omega)) := List.getElem?_eq_getElem _
    have hgl : o.getLast?.getD ([], 0) = o[o.length - 1]'(by omega) := by rw [List.getLast?_eq_getElem?, hlast]; rfl
    unfold rest oldest
    rw [if_pos hf, if_pos hf, hgl]
    generalize o[o.length - 1]'(by omega) = x at *
    obtain ⟨x1, y⟩ := x
    have OC : Hid (∀ w' , Lay w0 A w' → Calls Try.prog 37 #[.pointer (some ⟨X, 0, none⟩), .int .i64 ((o.length - 1 : Nat) : Int)] w' fun e w' => e = .returned (.agg #[.string (strOfNums x1), .int .i64 y]) ∧ PLd k w0 A X K M o.dropLast w') := Lib.hid (fun w' hl => by
      have h := out_p hl HX.out hlast
      rw [erase_last] at h
      exact h)
    have HBY : Hid ((∀ b ∈ x1, 0 ≤ b ∧ b ≤ 255) ∧ x1.length ≤ 100000) := Lib.hid ⟨HX.out.good.byt _ (List.mem_of_getElem? hlast), by
      have h1 := HX.out.good.len _ (List.mem_of_getElem? hlast)
      have h2 := HX.out.good.K2
      dsimp only at h1
      omega⟩
    have i1 : ¬ (o.length : Int) < M := by omega
    have i2 : IntKind.i64.wrap ((o.length : Int) - 1) = ((o.length - 1 : Nat) : Int) := by rw [IntWalk.i64_in _ (by omega)]; omega
    clear hlast hgl HX
    generalize o.length - 1 = n1 at *
    generalize o.length = n at *
    generalize o.dropLast = o2 at *
    clear hf
    go_enter Try.func35, Try.ntmps35
    go_wp2_with fail
    refine wp_region_held_drew (S := fun w' => w'.cell? ⟨X, 1, none⟩ = some (.int .i64 M) ∧ w'.cell? ⟨X, 2, none⟩ = some (.slice av n cv)) (by kernel_rfl) ⟨c1, c2⟩ (fun g => ?_)
    generalize w.drew = z at *
    refine tq 0 ?_ rfl (by kernel_rfl) (fun _ _ _ h => h) (by rfl) g ?_ ?_; rotate_left
    · intro w9 h9; go_simp; try with_reducible rfl
    simp only [Act.put, ptA, ptB, ptC]
    refine tq 1 ?_ rfl (by kernel_rfl) (fun _ _ _ h => h) (by rfl) g ?_ ?_; rotate_left
    · intro w9 h9; go_simp; try with_reducible rfl
    simp only [Act.put, ptA, ptB, ptC]
    refine tq 2 ?_ rfl (by kernel_rfl) (fun _ _ _ h => h) (by rfl) g ?_ ?_; rotate_left
    · intro w9 h9; go_simp; try with_reducible rfl
    simp only [Act.put, ptA, ptB, ptC]
    refine tq 3 ?_ rfl (by kernel_rfl) (fun _ _ _ h => h) (by rfl) g ?_ ?_; rotate_left
    · intro w9 h9; obtain ⟨h91, h92⟩ := h9; go_simp; try with_reducible rfl
    simp only [Act.put, ptA, ptB, ptC]
    refine tq 4 ?_ rfl (by kernel_rfl) (fun _ _ _ h => h) (by rfl) g ?_ ?_; rotate_left
    · intro w9 h9; go_simp; try with_reducible rfl
    simp only [Act.put, ptA, ptB, ptC]
    refine tq 5 ?_ rfl (by kernel_rfl) (fun _ _ _ h => h) (by rfl) g ?_ ?_; rotate_left
    · intro w9 h9; go_simp; try with_reducible rfl
    simp only [Act.put, ptA, ptB, ptC]
    refine tq 6 ?_ rfl (by kernel_rfl) (fun _ _ _ h => h) (by rfl) g ?_ ?_; rotate_left
    · intro w9 h9; go_simp; try with_reducible rfl
    simp only [Act.put, ptA, ptB, ptC]
    refine tq 7 ?_ rfl (by kernel_rfl) (fun _ _ _ h => h) (by rfl) g ?_ ?_; rotate_left
    · intro w9 h9; go_simp; try with_reducible rfl
    simp only [Act.put, ptA, ptB, ptC]
    refine tq 8 ?_ rfl (by kernel_rfl) (fun _ _ _ h => h) (by rfl) g ?_ ?_; rotate_left
    · intro w9 h9; obtain ⟨h91, h92⟩ := h9; go_simp; try with_reducible rfl
    simp only [Act.put, ptA, ptB, ptC]
    refine tq 9 ?_ rfl (by kernel_rfl) (fun _ _ _ h => h) (by rfl) g ?_ ?_; rotate_left
    · intro w9 h9; go_simp; try with_reducible rfl
    simp only [Act.put, ptA, ptB, ptC]
    clear g
    refine wpAnyH_done (by kernel_rfl) ?_ _
    go_wp2_with fail
    with_reducible refine (OC.out z HL.out).mono ?_
    rintro e z2 ⟨rfl, q⟩
    have HQ := Lib.hid q
    clear q OC HL c1 c2
    go_wp2_with fail
    obtain ⟨B, hB⟩ : ∃ B, z2.heap.size = B := ⟨_, rfl⟩
    have HB : Hid (Below z2.heap.size z2 (z2.alloc (.cells #[.string (strOfNums x1), .int .i64 y] 58)).drew) := Lib.hid (((Below.refl _ _).alloc (Nat.le_refl _) _).drew)
    have d0 : (z2.alloc (.cells #[.string (strOfNums x1), .int .i64 y] 58)).drew.cell? ⟨z2.heap.size, 0, none⟩ = some (.string (strOfNums x1)) := (Bk.new z2 58 #[.string (strOfNums x1), .int .i64 y]).drew.cell 0
    have d1 : (z2.alloc (.cells #[.string (strOfNums x1), .int .i64 y] 58)).drew.cell? ⟨z2.heap.size, 1, none⟩ = some (.int .i64 y) := (Bk.new z2 58 #[.string (strOfNums x1), .int .i64 y]).drew.cell 1
    have lB : z2.heap.size < (z2.alloc (.cells #[.string (strOfNums x1), .int .i64 y] 58)).drew.heap.size := by rw [show (z2.alloc (.cells #[.string (strOfNums x1), .int .i64 y] 58)).drew.heap.size = (z2.alloc (.cells #[.string (strOfNums x1), .int .i64 y] 58)).heap.size from rfl, World.size_alloc]; omega
    refine wp_region_held_drew (S := fun w' => w'.cell? ⟨z2.heap.size, 0, none⟩ = some (.string (strOfNums x1)) ∧ w'.cell? ⟨z2.heap.size, 1, none⟩ = some (.int .i64 y)) (by kernel_rfl) ⟨d0, d1⟩ (fun g => ?_)
    rw [hB] at d0 d1 g lB ⊢
    have HB2 := HB
    clear HB d0 d1
    generalize (z2.alloc (.cells #[.string (strOfNums x1), .int .i64 y] 58)).drew = z3 at *
    obtain ⟨v9, z9, r9, q9⟩ := conv_bytes z3 x1 HBY.out.1 HBY.out.2
    have HD : Hid (RoomP k w0 A X K M o2 (x1, y) (.returned (.tuple #[v9, .int .i64 y])) z9) := Lib.hid (by
      obtain ⟨A1, l1, p1, f1⟩ := HQ.out
      obtain ⟨A2, l2, r2, f2⟩ := q9.lay (l1.grow HB2.out) (71, 0)
      exact ⟨v9, A2, rfl, l2, p1.keep (f2 _ (by simp)) (f2 _ (by simp)), .inr r2, fun y h0 h1 h2 h3 => (f2 y (fun e => h0 (by rw [e]))).trans (f1 y h1 h2 h3)⟩)
    have e0 := (q9.below.cell (p := ⟨B, 0, none⟩) lB).trans g.1
    have e1 := (q9.below.cell (p := ⟨B, 1, none⟩) lB).trans g.2
    obtain ⟨a9, k9, rfl, _, _⟩ := q9.form
    clear q9 HQ HB2 HBY lB hB
    refine tq 0 ?_ rfl (by kernel_rfl) (fun _ _ _ h => h) (by rfl) g ?_ ?_; rotate_left
    · intro w9 h9; go_simp; try with_reducible rfl
    simp only [Act.put, ptA, ptB, ptC]
    refine tq 1 ?_ rfl (by kernel_rfl) (fun _ _ _ h => h) (by rfl) g ?_ ?_; rotate_left
    · intro w9 h9; obtain ⟨h91, h92⟩ := h9; go_simp; try with_reducible rfl
    simp only [Act.put, ptA, ptB, ptC]
    refine tq 3 ?_ rfl (by kernel_rfl) (fun _ _ _ h => h) (by rfl) g ?_ ?_; rotate_left
    · intro w9 h9; go_simp; try with_reducible rfl
    simp only [Act.put, ptA, ptB, ptC]
    refine tq 4 ?_ rfl (by kernel_rfl) (fun _ _ _ h => h) (by rfl) g ?_ ?_; rotate_left
    · intro w9 h9; obtain ⟨h91, h92⟩ := h9; go_simp; try with_reducible rfl
    simp only [Act.put, ptA, ptB, ptC]
    refine tc 2 rfl (by kernel_rfl) (fun K9 hK => ?_)
    go_simp
    refine hK.out _ _ ⟨e0, e1⟩ (fun g1 => ?_)
    clear hK K9 g
    have g := g1
    clear g1
    refine tq 5 ?_ rfl (by kernel_rfl) (fun _ _ _ h => h) (by rfl) g ?_ ?_; rotate_left
    · intro w9 h9; go_simp; try with_reducible rfl
    simp only [Act.put, ptA, ptB, ptC]
    refine tq 6 ?_ rfl (by kernel_rfl) (fun _ _ _ h => h) (by rfl) g ?_ ?_; rotate_left
    · intro w9 h9; go_simp; try with_reducible rfl
    simp only [Act.put, ptA, ptB, ptC]
    clear g
    refine wpAnyH_done (by kernel_rfl) ?_ _
    go_wp2
    go_ret2
    exact HD.out
  · unfold rest oldest
    rw [if_neg hf, if_neg hf]
    have i1 : (o.length : Int) < M := by omega
    have HD : Hid (RoomP k w0 A X K M o ([], 0) (.returned (.tuple #[.slice none 0 0, .int .i64 0])) w.drew) := Lib.hid ⟨_, A, rfl, HL.out, ⟨_, HX.out⟩, .inl ⟨rfl, rfl⟩, fun _ _ _ _ _ => rfl⟩
    clear HX HL hf
    generalize o.length = n at *
    go_enter Try.func35, Try.ntmps35
    go_wp2_with fail
    refine wp_region_held_drew (S := fun w' => w'.cell? ⟨X, 1, none⟩ = some (.int .i64 M) ∧ w'.cell? ⟨X, 2, none⟩ = some (.slice av n cv)) (by kernel_rfl) ⟨c1, c2⟩ (fun g => ?_)
    generalize w.drew = z at *
    refine tq 0 ?_ rfl (by kernel_rfl) (fun _ _ _ h => h) (by rfl) g ?_ ?_; rotate_left
    · intro w9 h9; go_simp; try with_reducible rfl
    simp only [Act.put, ptA, ptB, ptC]
    refine tq 1 ?_ rfl (by kernel_rfl) (fun _ _ _ h => h) (by rfl) g ?_ ?_; rotate_left
    · intro w9 h9; go_simp; try with_reducible rfl
    simp only [Act.put, ptA, ptB, ptC]
    refine tq 2 ?_ rfl (by kernel_rfl) (fun _ _ _ h => h) (by rfl) g ?_ ?_; rotate_left
    · intro w9 h9; go_simp; try with_reducible rfl
    simp only [Act.put, ptA, ptB, ptC]
    refine tq 3 ?_ rfl (by kernel_rfl) (fun _ _ _ h => h) (by rfl) g ?_ ?_; rotate_left
    · intro w9 h9; obtain ⟨h91, h92⟩ := h9; go_simp; try with_reducible rfl
    simp only [Act.put, ptA, ptB, ptC]
    refine tq 4 ?_ rfl (by kernel_rfl) (fun _ _ _ h => h) (by rfl) g ?_ ?_; rotate_left
    · intro w9 h9; go_simp; try with_reducible rfl
    simp only [Act.put, ptA, ptB, ptC]
    refine tq 5 ?_ rfl (by kernel_rfl) (fun _ _ _ h => h) (by rfl) g ?_ ?_; rotate_left
    · intro w9 h9; go_simp; try with_reducible rfl
    simp only [Act.put, ptA, ptB, ptC]
    refine tq 6 ?_ rfl (by kernel_rfl) (fun _ _ _ h => h) (by rfl) g ?_ ?_; rotate_left
    · intro w9 h9; go_simp; try with_reducible rfl
    simp only [Act.put, ptA, ptB, ptC]
    refine tq 7 ?_ rfl (by kernel_rfl) (fun _ _ _ h => h) (by rfl) g ?_ ?_; rotate_left
    · intro w9 h9; go_simp; try with_reducible rfl
    simp only [Act.put, ptA, ptB, ptC]
    refine tq 8 ?_ rfl (by kernel_rfl) (fun _ _ _ h => h) (by rfl) g ?_ ?_; rotate_left
    · intro w9 h9; obtain ⟨h91, h92⟩ := h9; go_simp; try with_reducible rfl
    simp only [Act.put, ptA, ptB, ptC]
    refine tq 9 ?_ rfl (by kernel_rfl) (fun _ _ _ h => h) (by rfl) g ?_ ?_; rotate_left
    · intro w9 h9; go_simp; try with_reducible rfl
    simp only [Act.put, ptA, ptB, ptC]
    clear g
    refine wpAnyH_done (by kernel_rfl) ?_ _
    go_wp2
    go_ret2
    exact HD.out
end Go.Proofs.Ythappjbghlifbaa
