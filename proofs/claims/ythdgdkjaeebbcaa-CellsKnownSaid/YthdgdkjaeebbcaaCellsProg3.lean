/-
  What the program's cells do: New, Make, Drop: contracts. Conditions: cells of 64 bytes at most, written 300 times at most.
-/
import Derived.Test.YthdgdkjaeebbcaaCellsProg2
import Derived.Test.YthdgdkjaeebbcaaCellsMem2
import Derived.Maps.AppendAt
namespace Go.Proofs.Ythdgdkjaeebbcaa
set_option maxRecDepth 100000
open Go.RowKit Ow Ph Ro K2
set_option linter.unusedVariables false
set_option linter.unusedSimpArgs false
attribute [local go_sem] run_store_complex
theorem run_mk (P : Program) (t : TypeId) (w : World) : (Instr.makeMap t none).run P w = .ok (.map (some w.heap.size)) (w.alloc (.map #[] 0)) := rfl
attribute [local go_sem] run_mk
def NewP (w0 : World) (A : Ac) (e : Ending) (w' : World) : Prop := ∃ P, e = .returned (.pointer (some ⟨P, 0, none⟩)) ∧ Did w0 A P [] w'
theorem new_c {w0 w : World} {A : Ac} (hl : Lay w0 A w) :
    Calls Try.prog 13 #[] w (NewP w0 A) := by
  have HP : Hid (Did w0 A (w.heap.size + 1) [] ((w.alloc (.map #[] 0)).alloc (.cells #[.map (some w.heap.size), .slice none 0 0, .int .i64 0] 68))) := Lib.hid (by
    have h1 := hl.new (1, 0) (o := .map #[] 0) ((Below.refl _ _).alloc (Nat.le_refl _) _) (Nat.le_refl _) (heap_alloc_new w (.map #[] 0))
    have h2 := h1.new (0, 0) (o := .cells #[.map (some w.heap.size), .slice none 0 0, .int .i64 0] 68) ((Below.refl _ _).alloc (Nat.le_refl _) _) (Nat.le_refl _) (heap_alloc_new (w.alloc (.map #[] 0)) _)
    have e : (w.alloc (.map #[] 0)).heap.size = w.heap.size + 1 := by simp
    rw [e] at h2
    refine ⟨_, h2, ⟨_, _, _, _, _, _, PSx.empty (up_same _ _ _ _) (by rw [up_other _ _ _ (by simp), up_same])⟩, fun x hx => ?_⟩
    rw [up_other, up_other] <;> (intro e; rw [e] at hx; simp at hx))
  clear hl
  go_enter Try.func13, Try.ntmps13
  go_wp2
  go_ret
  exact ⟨_, rfl, HP.out⟩
/-- MAKE -/
def MadeP (w0 : World) (A : Ac) (P : Nat) (L : List Cl) (bs : List Int) (e : Ending) (w' : World) : Prop := e = .returned (.int .i64 ((L.length : Int) + 1)) ∧ Did w0 A P (L ++ [⟨bs.take 64, [], false, false⟩]) w'
set_option maxHeartbeats 1000000 in
theorem make_k {w0 w : World} {A : Ac} {P : Nat} {L : List Cl} (hl : Lay w0 A w) (h : PS A P L) (hn : L.length ≤ 900) (a : Option Addr) (len cp : Nat) (bs : List Int) (hlen : bs.length = len) (hm : len ≤ cp) (hm2 : cp ≤ 9223372036854775807) (h0 : a = none → len = 0 ∧ cp = 0)
    {r : Rl} (hr10 : 10 ≤ r.1) (hrd : Reads w0 A r a (bv bs)) :
    Calls Try.prog 23 #[.pointer (some ⟨P, 0, none⟩), .slice a len cp] w (MadeP w0 A P L bs) := by
  obtain ⟨m, es, c, D, E, ds, hx⟩ := h
  have hLn := hn
  obtain ⟨p0, p1, p2⟩ : w.cell? ⟨P, 0, none⟩ = some (.map (some m)) ∧ w.cell? ⟨P, 2, none⟩ = some (.int .i64 (L.length : Int)) ∧ w.frozen? ⟨P, 2, none⟩ = false := ⟨(hl.bk hx.head).cell 0, (hl.bk hx.head).cell 2, (hl.bk hx.head).frozen 2⟩
  have HL1 := Lib.hid (hl.set_ hx.head 2 (.int .i64 ((L.length : Int) + 1)))
  simp only [List.setIfInBounds_toArray, List.set_cons_succ, List.set_cons_zero] at HL1
  have HX := Lib.hid hx
  have HA : Hid (a = none → (min 64 len) = 0 ∧ cp = 0) := Lib.hid fun e => by have := h0 e; omega
  have HR : Hid (∀ z, Lay w0 (A.up (0, 0) P (.cells #[.map (some m), D, .int .i64 ((L.length : Int) + 1)] 68)) z → Rd z z.heap.size a (bv (bs.take 64))) := Lib.hid fun z hz => by
    have h1 : Reads w0 (A.up (0, 0) P (.cells #[.map (some m), D, .int .i64 ((L.length : Int) + 1)] 68)) r a (bv bs) := hrd.keep (up_other _ _ _ (by intro e; rw [e] at hr10; simp at hr10))
    have h2 := (h1.take 64).rd hz
    have h3 : (bv bs).take 64 = bv (bs.take 64) := by unfold bv; rw [List.map_take]
    rwa [h3] at h2
  have MP : Hid (∀ q (z : World) {A2 : Ac} , Lay w0 A2 z → A2 (1, 0) = some (m, .map es c) → (Instr.mapUpdate 66 (.map (some m)) (.int .i64 ((L.length : Int) + 1)) (.pointer (some ⟨q, 0, none⟩))).run Try.prog z = .ok () (putO z m (.map (es.push ⟨.int .i64 ((L.length : Int) + 1), .pointer (some ⟨q, 0, none⟩), c⟩) (c + 1)))) := Lib.hid fun q z A2 h1 h2 =>
    run_ins und_map und_int (h1.obj h2) (hx.none_ (id := (L.length : Int) + 1) (by have := gt_none_out (L := L) (k := L.length + 1) (.inr (by omega)); push_cast at this; exact this))
  have HP0 : Hid (∀ (A2 : Ac) b o o' z, Lay w0 ((A2.up (3, L.length + 1) b o).up (1, 0) m o') z → A2 (0, 0) = (A.up (0, 0) P (.cells #[.map (some m), D, .int .i64 ((L.length : Int) + 1)] 68)) (0, 0) → z.cell? ⟨P, 0, none⟩ = some (.map (some m)) ∧ z.cell? ⟨P, 2, none⟩ = some (.int .i64 ((L.length : Int) + 1))) := Lib.hid fun A2 b o o' z h1 h2 => by
    have h3 : ((A2.up (3, L.length + 1) b o).up (1, 0) m o') (0, 0) = some (P, .cells #[.map (some m), D, .int .i64 ((L.length : Int) + 1)] 68) := by
      rw [up_other _ _ _ (by simp), up_other _ _ _ (by simp), h2, up_same]
    exact ⟨(h1.bk h3).cell 0, (h1.bk h3).cell 2⟩
  unfold MadeP
  have e64 : (bs.take 64).length = min 64 len := by rw [List.length_take, hlen]
  clear hl hx hrd h0
  generalize bs.take 64 = ys at *
  have E64 := Lib.hid e64
  clear e64
  by_cases h64 : len ≤ 64
  · rw [Nat.min_eq_right h64] at E64 HA
    go_enter Try.func23, Try.ntmps23
    go_wp2_with fail
    obtain ⟨p3, p4⟩ : (w.setCell ⟨P, 2, none⟩ (.int .i64 ((L.length : Int) + 1))).cell? ⟨P, 0, none⟩ = some (.map (some m)) ∧ (w.setCell ⟨P, 2, none⟩ (.int .i64 ((L.length : Int) + 1))).cell? ⟨P, 2, none⟩ = some (.int .i64 ((L.length : Int) + 1)) := ⟨(HL1.out.bk (up_same _ _ _ _)).cell 0, (HL1.out.bk (up_same _ _ _ _)).cell 2⟩
    clear p0 p1 p2
    generalize (w.setCell ⟨P, 2, none⟩ (.int .i64 ((L.length : Int) + 1))) = w1 at *
    refine wp_region_held_drew (S := fun w' => w'.cell? ⟨P, 0, none⟩ = some (.map (some m)) ∧ w'.cell? ⟨P, 2, none⟩ = some (.int .i64 ((L.length : Int) + 1))) (by kernel_rfl) ⟨p3, p4⟩ (fun g => ?_)
    have HL2 := Lib.hid HL1.out.drew
    clear HL1 p3 p4
    generalize w1.drew = z at *
    clear w1
    refine tq 0 ?_ rfl (by kernel_rfl) (fun _ _ _ h => h) (by rfl) g ?_ ?_; rotate_left
    · intro w9 h9; obtain ⟨d0, d1⟩ := h9; go_simp; try with_reducible rfl
    simp only [Act.put, ptA, ptB, ptC]
    refine tq 1 ?_ rfl (by kernel_rfl) (fun _ _ _ h => h) (by rfl) g ?_ ?_; rotate_left
    · intro w9 h9; obtain ⟨d0, d1⟩ := h9; go_simp; try with_reducible rfl
    simp only [Act.put, ptA, ptB, ptC]
    refine tq 2 ?_ rfl (by kernel_rfl) (fun _ _ _ h => h) (by rfl) g ?_ ?_; rotate_left
    · intro w9 h9; obtain ⟨d0, d1⟩ := h9; go_simp; try with_reducible rfl
    simp only [Act.put, ptA, ptB, ptC]
    refine tq 3 ?_ rfl (by kernel_rfl) (fun _ _ _ h => h) (by rfl) g ?_ ?_; rotate_left
    · intro w9 h9; obtain ⟨d0, d1⟩ := h9; go_simp; try with_reducible rfl
    simp only [Act.put, ptA, ptB, ptC]
    refine tq 4 ?_ rfl (by kernel_rfl) (fun _ _ _ h => h) (by rfl) g ?_ ?_; rotate_left
    · intro w9 h9; obtain ⟨d0, d1⟩ := h9; go_simp; try with_reducible rfl
    simp only [Act.put, ptA, ptB, ptC]
    refine tq 5 ?_ rfl (by kernel_rfl) (fun _ _ _ h => h) (by rfl) g ?_ ?_; rotate_left
    · intro w9 h9; obtain ⟨d0, d1⟩ := h9; go_simp; try with_reducible rfl
    simp only [Act.put, ptA, ptB, ptC]
    refine tq 6 ?_ rfl (by kernel_rfl) (fun _ _ _ h => h) (by rfl) g ?_ ?_; rotate_left
    · intro w9 h9; obtain ⟨d0, d1⟩ := h9; go_simp; try with_reducible rfl
    simp only [Act.put, ptA, ptB, ptC]
    refine tq 7 ?_ rfl (by kernel_rfl) (fun _ _ _ h => h) (by rfl) g ?_ ?_; rotate_left
    · intro w9 h9; obtain ⟨d0, d1⟩ := h9; go_simp; try with_reducible rfl
    simp only [Act.put, ptA, ptB, ptC]
    refine tq 8 ?_ rfl (by kernel_rfl) (fun _ _ _ h => h) (by rfl) g ?_ ?_; rotate_left
    · intro w9 h9; obtain ⟨d0, d1⟩ := h9; go_simp; try with_reducible rfl
    simp only [Act.put, ptA, ptB, ptC]
    refine tc 9 rfl (by kernel_rfl) (fun K9 hK => ?_)
    go_simp
    with_reducible refine (clone_any a len cp ys E64.out HA.out (by omega) _ (HR.out z HL2.out)).mono ?_
    rintro e z1 ⟨v, rfl, q1⟩
    have HL3 : Hid (∃ A2, Lay w0 A2 z1 ∧ Row A2 (4, L.length + 1) 5 1 v len (bv ys) ∧ ∀ x, x ≠ (4, L.length + 1) → A2 x = _) := Lib.hid (HL2.out.newRow (4, L.length + 1) q1.below (own_cast q1.own E64.out rfl) (Nat.le_refl _))
    obtain ⟨A2, hl2, hrow, he2⟩ := HL3.out
    obtain ⟨av, cpv, rfl, _, _, _⟩ := hrow.form2
    clear HL2 HL3
    have HL2 := Lib.hid hl2
    have HROW := Lib.hid hrow
    have HE2 := Lib.hid he2
    have Q1 := Lib.hid q1.below
    clear q1 hl2 hrow he2
    go_simp
    refine hK.out _ _ ⟨keep1 Q1.out g.1, keep1 Q1.out g.2⟩ (fun g1 => ?_)
    clear hK K9 g
    have g := g1
    clear g1
    clear Q1
    clear z
    refine tc 10 rfl (by kernel_rfl) (fun K9 hK => ?_)
    go_simp
    with_reducible refine (new_any _).mono ?_
    rintro e z2 ⟨rfl, q1⟩
    have HL3 := Lib.hid (HL2.out.grow q1)
    have Q1 := Lib.hid q1
    clear q1 HL2
    unfold newB Bt.val
    dsimp only
    go_simp
    refine hK.out _ _ ⟨keep1 Q1.out g.1, keep1 Q1.out g.2⟩ (fun g1 => ?_)
    clear hK K9 g
    have g := g1
    clear g1
    clear Q1
    clear z1
    refine tq 11 ?_ rfl (by kernel_rfl) (fun _ _ _ h => h) (by rfl) g ?_ ?_; rotate_left
    · intro w9 h9; obtain ⟨d0, d1⟩ := h9; go_simp; try with_reducible rfl
    simp only [Act.put, ptA, ptB, ptC]
    refine tc 12 rfl (by kernel_rfl) (fun K9 hK => ?_)
    go_simp
    have HL4 := Lib.hid (HL3.out.new (3, L.length + 1) (o := (.cells #[.slice av len cpv, .complex .f64 (fl 0) (fl 0), .int .i64 0, .int .i64 0, .bool false] 82)) ((Below.refl _ _).alloc (Nat.le_refl _) _) (Nat.le_refl _) (heap_alloc_new z2 _))
    have Q1 : Hid (Below z2.heap.size z2 (z2.alloc (.cells #[.slice av len cpv, .complex .f64 (fl 0) (fl 0), .int .i64 0, .int .i64 0, .bool false] 82))) := Lib.hid ((Below.refl _ _).alloc (Nat.le_refl _) _)
    clear HL3
    generalize hz4 : z2.alloc (.cells #[.slice av len cpv, .complex .f64 (fl 0) (fl 0), .int .i64 0, .int .i64 0, .bool false] 82) = z4 at *
    generalize hq : z2.heap.size = q at *
    refine hK.out _ _ ⟨keep1 (by rw [hq]; exact Q1.out) g.1, keep1 (by rw [hq]; exact Q1.out) g.2⟩ (fun g1 => ?_)
    clear hK K9 g
    have g := g1
    clear g1
    clear Q1 hz4 hq
    clear z2
    refine tc 13 rfl (by kernel_rfl) (fun K9 hK => ?_)
    have hr := MP.out q _ HL4.out (by rw [up_other _ _ _ (by simp)]; exact (HE2.out _ (by simp)).trans ((up_other _ _ _ (by simp)).trans HX.out.map_))
    have HL5 : Hid (Lay w0 _ (putO z4 m _)) := Lib.hid (HL4.out.putO_ (r := (1, 0)) (by rw [up_other _ _ _ (by simp)]; exact (HE2.out _ (by simp)).trans ((up_other _ _ _ (by simp)).trans HX.out.map_)) (.map (es.push ⟨.int .i64 ((L.length : Int) + 1), .pointer (some ⟨q, 0, none⟩), c⟩) (c + 1)))
    have hd : Hid (PSx _ P (L ++ [⟨ys, [], false, false⟩]) m _ (c + 1) D (E ++ [(L.length + 1, q)]) ds) := Lib.hid (HX.out.made (cl := ⟨ys, [], false, false⟩) rfl rfl (A' := (A2.up (3, L.length + 1) q (.cells #[.slice av len cpv, .complex .f64 (fl 0) (fl 0), .int .i64 0, .int .i64 0, .bool false] 82)).up (1, 0) m (.map (es.push ⟨.int .i64 ((L.length : Int) + 1), .pointer (some ⟨q, 0, none⟩), c⟩) (c + 1)))
      (by rw [up_other _ _ _ (by simp), up_other _ _ _ (by simp), HE2.out _ (by simp), up_same]) (up_same _ _ _ _)
      ⟨by rw [up_other _ _ _ (by simp), up_same]; rfl, by show Row _ _ _ _ _ ys.length _; rw [E64.out]; exact HROW.out.keep (by rw [up_other _ _ _ (by simp), up_other _ _ _ (by simp)])⟩
      (fun x h10 h1 h2 h3 h4 => by rw [up_other _ _ _ h2, up_other _ _ _ h3, HE2.out _ h4, up_other _ _ _ h1]))
    have HD : Hid (Did w0 A P (L ++ [⟨ys, [], false, false⟩]) (putO z4 m (.map (es.push ⟨.int .i64 ((L.length : Int) + 1), .pointer (some ⟨q, 0, none⟩), c⟩) (c + 1)))) := Lib.hid ⟨_, HL5.out, ⟨_, _, _, _, _, _, hd.out⟩, fun x hx => by
      have n1 : ∀ (r : Rl), r.1 < 10 → x ≠ r := fun r hr e => by rw [e] at hx; omega
      rw [up_other _ _ _ (n1 _ (by simp)), up_other _ _ _ (n1 _ (by simp)), HE2.out _ (n1 _ (by simp)), up_other _ _ _ (n1 _ (by simp))]⟩
    clear hd
    have p0 : (putO z4 m (.map (es.push ⟨.int .i64 ((L.length : Int) + 1), .pointer (some ⟨q, 0, none⟩), c⟩) (c + 1))).cell? ⟨P, 0, none⟩ = some (.map (some m)) := (HP0.out A2 _ _ _ _ HL5.out (HE2.out _ (by simp))).1
    have p2 : (putO z4 m (.map (es.push ⟨.int .i64 ((L.length : Int) + 1), .pointer (some ⟨q, 0, none⟩), c⟩) (c + 1))).cell? ⟨P, 2, none⟩ = some (.int .i64 ((L.length : Int) + 1)) := (HP0.out A2 _ _ _ _ HL5.out (HE2.out _ (by simp))).2
    clear HL5 HL4 HROW HE2
    go_simp
    generalize (putO z4 m (.map (es.push ⟨.int .i64 ((L.length : Int) + 1), .pointer (some ⟨q, 0, none⟩), c⟩) (c + 1))) = z5 at *
    clear hr
    refine hK.out _ _ ⟨p0, p2⟩ (fun g1 => ?_)
    clear hK K9 g
    have g := g1
    clear g1
    have p2 := g.2
    clear g
    refine wpAnyH_done (by kernel_rfl) ?_ _
    go_wp2
    go_ret
    exact ⟨rfl, HD.out⟩
  · rw [Nat.min_eq_left (by omega)] at E64 HA
    go_enter Try.func23, Try.ntmps23
    go_wp2_with fail
    obtain ⟨p3, p4⟩ : (w.setCell ⟨P, 2, none⟩ (.int .i64 ((L.length : Int) + 1))).cell? ⟨P, 0, none⟩ = some (.map (some m)) ∧ (w.setCell ⟨P, 2, none⟩ (.int .i64 ((L.length : Int) + 1))).cell? ⟨P, 2, none⟩ = some (.int .i64 ((L.length : Int) + 1)) := ⟨(HL1.out.bk (up_same _ _ _ _)).cell 0, (HL1.out.bk (up_same _ _ _ _)).cell 2⟩
    clear p0 p1 p2
    generalize (w.setCell ⟨P, 2, none⟩ (.int .i64 ((L.length : Int) + 1))) = w1 at *
    refine wp_region_held_drew (S := fun w' => w'.cell? ⟨P, 0, none⟩ = some (.map (some m)) ∧ w'.cell? ⟨P, 2, none⟩ = some (.int .i64 ((L.length : Int) + 1))) (by kernel_rfl) ⟨p3, p4⟩ (fun g => ?_)
    have HL2 := Lib.hid HL1.out.drew
    clear HL1 p3 p4
    generalize w1.drew = z at *
    clear w1
    refine tq 0 ?_ rfl (by kernel_rfl) (fun _ _ _ h => h) (by rfl) g ?_ ?_; rotate_left
    · intro w9 h9; obtain ⟨d0, d1⟩ := h9; go_simp; try with_reducible rfl
    simp only [Act.put, ptA, ptB, ptC]
    refine tq 1 ?_ rfl (by kernel_rfl) (fun _ _ _ h => h) (by rfl) g ?_ ?_; rotate_left
    · intro w9 h9; obtain ⟨d0, d1⟩ := h9; go_simp; try with_reducible rfl
    simp only [Act.put, ptA, ptB, ptC]
    refine tq 2 ?_ rfl (by kernel_rfl) (fun _ _ _ h => h) (by rfl) g ?_ ?_; rotate_left
    · intro w9 h9; obtain ⟨d0, d1⟩ := h9; go_simp; try with_reducible rfl
    simp only [Act.put, ptA, ptB, ptC]
    refine tq 3 ?_ rfl (by kernel_rfl) (fun _ _ _ h => h) (by rfl) g ?_ ?_; rotate_left
    · intro w9 h9; obtain ⟨d0, d1⟩ := h9; go_simp; try with_reducible rfl
    simp only [Act.put, ptA, ptB, ptC]
    refine tq 4 ?_ rfl (by kernel_rfl) (fun _ _ _ h => h) (by rfl) g ?_ ?_; rotate_left
    · intro w9 h9; obtain ⟨d0, d1⟩ := h9; go_simp; try with_reducible rfl
    simp only [Act.put, ptA, ptB, ptC]
    refine tq 5 ?_ rfl (by kernel_rfl) (fun _ _ _ h => h) (by rfl) g ?_ ?_; rotate_left
    · intro w9 h9; obtain ⟨d0, d1⟩ := h9; go_simp; try with_reducible rfl
    simp only [Act.put, ptA, ptB, ptC]
    refine tq 6 ?_ rfl (by kernel_rfl) (fun _ _ _ h => h) (by rfl) g ?_ ?_; rotate_left
    · intro w9 h9; obtain ⟨d0, d1⟩ := h9; go_simp; try with_reducible rfl
    simp only [Act.put, ptA, ptB, ptC]
    refine tq 7 ?_ rfl (by kernel_rfl) (fun _ _ _ h => h) (by rfl) g ?_ ?_; rotate_left
    · intro w9 h9; obtain ⟨d0, d1⟩ := h9; go_simp; try with_reducible rfl
    simp only [Act.put, ptA, ptB, ptC]
    refine tq 8 ?_ rfl (by kernel_rfl) (fun _ _ _ h => h) (by rfl) g ?_ ?_; rotate_left
    · intro w9 h9; obtain ⟨d0, d1⟩ := h9; go_simp; try with_reducible rfl
    simp only [Act.put, ptA, ptB, ptC]
    refine tc 9 rfl (by kernel_rfl) (fun K9 hK => ?_)
    go_simp
    with_reducible refine (clone_any a 64 cp ys E64.out HA.out (by omega) _ (HR.out z HL2.out)).mono ?_
    rintro e z1 ⟨v, rfl, q1⟩
    have HL3 : Hid (∃ A2, Lay w0 A2 z1 ∧ Row A2 (4, L.length + 1) 5 1 v 64 (bv ys) ∧ ∀ x, x ≠ (4, L.length + 1) → A2 x = _) := Lib.hid (HL2.out.newRow (4, L.length + 1) q1.below (own_cast q1.own E64.out rfl) (Nat.le_refl _))
    obtain ⟨A2, hl2, hrow, he2⟩ := HL3.out
    obtain ⟨av, cpv, rfl, _, _, _⟩ := hrow.form2
    clear HL2 HL3
    have HL2 := Lib.hid hl2
    have HROW := Lib.hid hrow
    have HE2 := Lib.hid he2
    have Q1 := Lib.hid q1.below
    clear q1 hl2 hrow he2
    go_simp
    refine hK.out _ _ ⟨keep1 Q1.out g.1, keep1 Q1.out g.2⟩ (fun g1 => ?_)
    clear hK K9 g
    have g := g1
    clear g1
    clear Q1
    clear z
    refine tc 10 rfl (by kernel_rfl) (fun K9 hK => ?_)
    go_simp
    with_reducible refine (new_any _).mono ?_
    rintro e z2 ⟨rfl, q1⟩
    have HL3 := Lib.hid (HL2.out.grow q1)
    have Q1 := Lib.hid q1
    clear q1 HL2
    unfold newB Bt.val
    dsimp only
    go_simp
    refine hK.out _ _ ⟨keep1 Q1.out g.1, keep1 Q1.out g.2⟩ (fun g1 => ?_)
    clear hK K9 g
    have g := g1
    clear g1
    clear Q1
    clear z1
    refine tq 11 ?_ rfl (by kernel_rfl) (fun _ _ _ h => h) (by rfl) g ?_ ?_; rotate_left
    · intro w9 h9; obtain ⟨d0, d1⟩ := h9; go_simp; try with_reducible rfl
    simp only [Act.put, ptA, ptB, ptC]
    refine tc 12 rfl (by kernel_rfl) (fun K9 hK => ?_)
    go_simp
    have HL4 := Lib.hid (HL3.out.new (3, L.length + 1) (o := (.cells #[.slice av 64 cpv, .complex .f64 (fl 0) (fl 0), .int .i64 0, .int .i64 0, .bool false] 82)) ((Below.refl _ _).alloc (Nat.le_refl _) _) (Nat.le_refl _) (heap_alloc_new z2 _))
    have Q1 : Hid (Below z2.heap.size z2 (z2.alloc (.cells #[.slice av 64 cpv, .complex .f64 (fl 0) (fl 0), .int .i64 0, .int .i64 0, .bool false] 82))) := Lib.hid ((Below.refl _ _).alloc (Nat.le_refl _) _)
    clear HL3
    generalize hz4 : z2.alloc (.cells #[.slice av 64 cpv, .complex .f64 (fl 0) (fl 0), .int .i64 0, .int .i64 0, .bool false] 82) = z4 at *
    generalize hq : z2.heap.size = q at *
    refine hK.out _ _ ⟨keep1 (by rw [hq]; exact Q1.out) g.1, keep1 (by rw [hq]; exact Q1.out) g.2⟩ (fun g1 => ?_)
    clear hK K9 g
    have g := g1
    clear g1
    clear Q1 hz4 hq
    clear z2
    refine tc 13 rfl (by kernel_rfl) (fun K9 hK => ?_)
    have hr := MP.out q _ HL4.out (by rw [up_other _ _ _ (by simp)]; exact (HE2.out _ (by simp)).trans ((up_other _ _ _ (by simp)).trans HX.out.map_))
    have HL5 : Hid (Lay w0 _ (putO z4 m _)) := Lib.hid (HL4.out.putO_ (r := (1, 0)) (by rw [up_other _ _ _ (by simp)]; exact (HE2.out _ (by simp)).trans ((up_other _ _ _ (by simp)).trans HX.out.map_)) (.map (es.push ⟨.int .i64 ((L.length : Int) + 1), .pointer (some ⟨q, 0, none⟩), c⟩) (c + 1)))
    have hd : Hid (PSx _ P (L ++ [⟨ys, [], false, false⟩]) m _ (c + 1) D (E ++ [(L.length + 1, q)]) ds) := Lib.hid (HX.out.made (cl := ⟨ys, [], false, false⟩) rfl rfl (A' := (A2.up (3, L.length + 1) q (.cells #[.slice av 64 cpv, .complex .f64 (fl 0) (fl 0), .int .i64 0, .int .i64 0, .bool false] 82)).up (1, 0) m (.map (es.push ⟨.int .i64 ((L.length : Int) + 1), .pointer (some ⟨q, 0, none⟩), c⟩) (c + 1)))
      (by rw [up_other _ _ _ (by simp), up_other _ _ _ (by simp), HE2.out _ (by simp), up_same]) (up_same _ _ _ _)
      ⟨by rw [up_other _ _ _ (by simp), up_same]; rfl, by show Row _ _ _ _ _ ys.length _; rw [E64.out]; exact HROW.out.keep (by rw [up_other _ _ _ (by simp), up_other _ _ _ (by simp)])⟩
      (fun x h10 h1 h2 h3 h4 => by rw [up_other _ _ _ h2, up_other _ _ _ h3, HE2.out _ h4, up_other _ _ _ h1]))
    have HD : Hid (Did w0 A P (L ++ [⟨ys, [], false, false⟩]) (putO z4 m (.map (es.push ⟨.int .i64 ((L.length : Int) + 1), .pointer (some ⟨q, 0, none⟩), c⟩) (c + 1)))) := Lib.hid ⟨_, HL5.out, ⟨_, _, _, _, _, _, hd.out⟩, fun x hx => by
      have n1 : ∀ (r : Rl), r.1 < 10 → x ≠ r := fun r hr e => by rw [e] at hx; omega
      rw [up_other _ _ _ (n1 _ (by simp)), up_other _ _ _ (n1 _ (by simp)), HE2.out _ (n1 _ (by simp)), up_other _ _ _ (n1 _ (by simp))]⟩
    clear hd
    have p0 : (putO z4 m (.map (es.push ⟨.int .i64 ((L.length : Int) + 1), .pointer (some ⟨q, 0, none⟩), c⟩) (c + 1))).cell? ⟨P, 0, none⟩ = some (.map (some m)) := (HP0.out A2 _ _ _ _ HL5.out (HE2.out _ (by simp))).1
    have p2 : (putO z4 m (.map (es.push ⟨.int .i64 ((L.length : Int) + 1), .pointer (some ⟨q, 0, none⟩), c⟩) (c + 1))).cell? ⟨P, 2, none⟩ = some (.int .i64 ((L.length : Int) + 1)) := (HP0.out A2 _ _ _ _ HL5.out (HE2.out _ (by simp))).2
    clear HL5 HL4 HROW HE2
    go_simp
    generalize (putO z4 m (.map (es.push ⟨.int .i64 ((L.length : Int) + 1), .pointer (some ⟨q, 0, none⟩), c⟩) (c + 1))) = z5 at *
    clear hr
    refine hK.out _ _ ⟨p0, p2⟩ (fun g1 => ?_)
    clear hK K9 g
    have g := g1
    clear g1
    have p2 := g.2
    clear g
    refine wpAnyH_done (by kernel_rfl) ?_ _
    go_wp2
    go_ret
    exact ⟨rfl, HD.out⟩
theorem make_c {w0 w : World} {A : Ac} {P n : Nat} {L : List Cl} (hl : Lay w0 A w) (h : PS A P L) (ho : OkL n L) (hn : n ≤ 300) (a : Option Addr) (len cp : Nat) (bs : List Int) (hlen : bs.length = len) (hm : len ≤ cp) (hm2 : cp ≤ 9223372036854775807) (h0 : a = none → len = 0 ∧ cp = 0)
    {r : Rl} (hr10 : 10 ≤ r.1) (hrd : Reads w0 A r a (bv bs)) :
    Calls Try.prog 23 #[.pointer (some ⟨P, 0, none⟩), .slice a len cp] w (MadeP w0 A P L bs) :=
  make_k hl h (Nat.le_trans ho.len (by omega)) a len cp bs hlen hm hm2 h0 hr10 hrd
end Go.Proofs.Ythdgdkjaeebbcaa
