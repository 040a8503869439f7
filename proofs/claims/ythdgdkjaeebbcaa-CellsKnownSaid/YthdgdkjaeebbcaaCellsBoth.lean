/-
  The statements' both of layer 8: a call of the program's cells and the same of the document's: contract. Conditions: 299 cells at most, of 64 bytes at most, written 299 times at most.
-/
import Derived.Test.YthdgdkjaeebbcaaCellsAlike
namespace Go.Proofs.Ythdgdkjaeebbcaa
set_option maxRecDepth 100000
open Go.RowKit Ow Ph Ro K2
set_option linter.unusedVariables false
set_option linter.unusedSimpArgs false
/-- Amid a call of both: the program's cells, the document's, the call, and the bytes that are lent. -/
structure St (w0 : World) (P X : Nat) (Lp Lr : List Cl) (gb : Nat) (bx : Array Value) (avd : Addr) (m cv : Nat) (bs : List Int) (w : World) : Prop where
  ex : ∃ A, Lay w0 A w ∧ PS A P Lp ∧ RS w0 A X Lr ∧ A (31, 0) = some (gb, .cells bx 33) ∧ Row A (30, 0) 5 1 (.slice (some avd) (m + 5) cv) (m + 5) (bv (bs ++ mk5 5))
section
variable {w0 w w' : World} {P X gb m cv : Nat} {Lp Lr : List Cl} {bx : Array Value} {avd : Addr} {bs : List Int}
theorem St.grow (h : St w0 P X Lp Lr gb bx avd m cv bs w) (hb : Below w.heap.size w w') : St w0 P X Lp Lr gb bx avd m cv bs w' := by
  obtain ⟨A, h1, h2, h3, h4, h5⟩ := h.ex
  exact ⟨A, h1.grow hb, h2, h3, h4, h5⟩
theorem St.drew (h : St w0 P X Lp Lr gb bx avd m cv bs w) : St w0 P X Lp Lr gb bx avd m cv bs w.drew := by
  obtain ⟨A, h1, h2, h3, h4, h5⟩ := h.ex
  exact ⟨A, h1.drew, h2, h3, h4, h5⟩
theorem St.box (h : St w0 P X Lp Lr gb bx avd m cv bs w) : Bk w gb 33 bx := by
  obtain ⟨A, h1, h2, h3, h4, h5⟩ := h.ex
  exact h1.bk h4
theorem St.below (h : St w0 P X Lp Lr gb bx avd m cv bs w) : Below w0.heap.size w0 w := by
  obtain ⟨A, h1, h2, h3, h4, h5⟩ := h.ex
  exact h1.below
theorem St.room (h : St w0 P X Lp Lr gb bx avd m cv bs w) : m + 5 ≤ cv := by
  obtain ⟨A, h1, h2, h3, h4, h5⟩ := h.ex
  obtain ⟨_, _, e, h6, _⟩ := h5.form2
  simp only [Value.slice.injEq] at e
  omega
theorem St.lent (h : St w0 P X Lp Lr gb bx avd m cv bs w) : Rd w w.heap.size (some avd) (bv (bs ++ mk5 5)) := by
  obtain ⟨A, h1, h2, h3, h4, h5⟩ := h.ex
  exact (h5.reads (w0 := w0)).rd h1
theorem St.own (h : St w0 P X Lp Lr gb bx avd m cv bs w) : ∃ zs, w.ownsRow w0.heap.size 5 1 (.slice (some avd) (m + 5) cv) (m + 5) zs := by
  obtain ⟨A, h1, h2, h3, h4, h5⟩ := h.ex
  exact ⟨_, h5.own h1⟩
theorem St.spoiled {L : List Cl} (h : St w0 P X L L gb bx avd m cv bs w) (hg : w.grownBy w' (Value.slice (some avd) (m + 5) cv).ownBlock) : Two w0 P X L w' := by
  obtain ⟨A, h1, h2, h3, h4, h5⟩ := h.ex
  obtain ⟨A', h6, h7⟩ := lay_spoiled h1 h5 hg
  exact ⟨A', h6, h2.keep (fun x hx => h7 x (fun e => by rw [e] at hx; simp at hx)), h3.keep (fun x _ hx => h7 x (fun e => by rw [e] at hx; simp at hx))⟩
theorem St.prog {F : Nat} {args : Array Value} (h : St w0 P X Lp Lr gb bx avd m cv bs w) (E : Value) (L' : List Cl)
    (hc : ∀ A, Lay w0 A w → PS A P Lp → Reads w0 A (30, 0) (some avd) (bv bs) → Calls Try.prog F args w fun e w' => e = .returned E ∧ Did w0 A P L' w') :
    Calls Try.prog F args w fun e w' => e = .returned E ∧ St w0 P X L' Lr gb bx avd m cv bs w' := by
  obtain ⟨A, h1, h2, h3, h4, h5⟩ := h.ex
  have hr : Reads w0 A (30, 0) (some avd) (bv bs) := by
    have := (h5.reads (w0 := w0)).take bs.length
    have e : (bv (bs ++ mk5 5)).take bs.length = bv bs := by rw [bv_app, ← bv_len, List.take_left]
    rwa [e] at this
  refine (hc A h1 h2 hr).mono fun e w' hd => ?_
  obtain ⟨he, A', h6, h7, h8⟩ := hd
  exact ⟨he, A', h6, h7, h3.keep (fun x hx _ => h8 x hx), (h8 _ (by simp)).trans h4, h5.keep (h8 _ (by simp))⟩
theorem St.doc {F : Nat} {args : Array Value} (h : St w0 P X Lp Lr gb bx avd m cv bs w) (E : Value) (L' : List Cl)
    (hc : ∀ A, Lay w0 A w → RS w0 A X Lr → Calls Try.prog F args w fun e w' => e = .returned E ∧ RDid w0 A X L' w') :
    Calls Try.prog F args w fun e w' => e = .returned E ∧ St w0 P X Lp L' gb bx avd m cv bs w' := by
  obtain ⟨A, h1, h2, h3, h4, h5⟩ := h.ex
  refine (hc A h1 h3).mono fun e w' hd => ?_
  obtain ⟨he, A', h6, h7, h8⟩ := hd
  exact ⟨he, A', h6, h2.keep (fun x hx => h8 x (by omega)), h7, (h8 _ (by simp)).trans h4, h5.keep (h8 _ (by simp))⟩
theorem St.start {L : List Cl} {v7 : Value} (h : ∃ A1, Lay w0 A1 w ∧ PS A1 P L ∧ RS w0 A1 X L ∧ A1 (31, 0) = some (gb, .cells bx 33)) (q : OwnB w v7 w' (bs ++ mk5 5)) (hm : bs.length = m) :
    ∃ avd cv, v7 = .slice (some avd) (m + 5) cv ∧ St w0 P X L L gb bx avd m cv bs w' := by
  obtain ⟨A1, h1, h2, h3, h4⟩ := h
  obtain ⟨A2, h5, h6, h7⟩ := h1.newRow (30, 0) q.below q.own (Nat.le_refl _)
  have e : (bs ++ mk5 5).length = m + 5 := by rw [List.length_append, mk5_len, hm]
  rw [e] at h6
  obtain ⟨av, cv, rfl, _, _, h8⟩ := h6.form2
  cases av with
  | none => have := (h8 rfl).1; omega
  | some avd => exact ⟨avd, cv, rfl, A2, h5, h2.keep (fun x hx => h7 x (fun e => by rw [e] at hx; simp at hx)), h3.keep (fun x _ hx => h7 x (fun e => by rw [e] at hx; simp at hx)), (h7 _ (by simp)).trans h4, h6⟩
end
set_option maxRecDepth 100000 in
set_option maxHeartbeats 100000000 in
theorem both_c {w0 w : World} {P X n : Nat} {L : List Cl} (h : Two w0 P X L w) (ho : OkL n L) (hn : n ≤ 299) (x : Opn) (hx : x.fits) (hxn : x.n ≤ 200) (hr : Rd w0 w0.heap.size x.a (bv x.bs)) :
    Calls Try.prog 15 #[.pointer (some ⟨P, 0, none⟩), .pointer (some ⟨X, 0, none⟩), .agg #[.int .i64 x.kind, .int .i64 x.id, .int .i64 x.off, .int .i64 x.size, .int .i64 x.now, .int .u64 x.v, .slice x.a x.n x.c]] w (TwoP w0 P X (stepL L x).2) := by
  obtain ⟨kd, id, off, sz, now, v, a, m, c, bs⟩ := x
  obtain ⟨f1, ⟨f2, f2'⟩, ⟨f3, f3'⟩, f4, f5, f6, f7, f8, f9, f10, f11, f12⟩ := hx
  unfold stepL
  dsimp only at *
  obtain ⟨s1, s2⟩ := f1
  have HT := Lib.hid h
  have HO := Lib.hid ho
  have HN : Hid (n ≤ 299) := Lib.hid hn
  have HLN : Hid (L.length ≤ 299) := Lib.hid (by have := ho.len; omega)
  have HNOW := Lib.hid f5
  have HB := Lib.hid f8
  have HRO := Lib.hid hr
  have HRD : Hid (∀ z, Below w0.heap.size w0 z → Rd z z.heap.size a (bv bs)) := Lib.hid fun z hz => (hr.below hz).mono hz.size
  have HI1 := Lib.hid f2
  have HI2 := Lib.hid f2'
  have HF1 := Lib.hid f3
  have HF2 := Lib.hid f3'
  have HV1 := Lib.hid f6
  have HV2 := Lib.hid f7
  have HM11 := Lib.hid f11
  clear h ho hn f2 f2' f3 f3' f4 f5 f6 f7 f8 f9 f12 hr
  by_cases h0 : kd = 0
  · subst h0
    simp only [if_true]
    have hw : Hid (∃ A1, Lay w0 A1 (w.alloc (.cells #[.int .i64 (0), .int .i64 id, .int .i64 off, .int .i64 sz, .int .i64 now, .int .u64 v, .slice a m c] 33)) ∧ PS A1 P L ∧ RS w0 A1 X L ∧ A1 (31, 0) = some (w.heap.size, .cells #[.int .i64 (0), .int .i64 id, .int .i64 off, .int .i64 sz, .int .i64 now, .int .u64 v, .slice a m c] 33)) := Lib.hid (by
      obtain ⟨A, hl, hp, hs⟩ := HT.out
      refine ⟨_, hl.new (31, 0) (o := .cells #[.int .i64 (0), .int .i64 id, .int .i64 off, .int .i64 sz, .int .i64 now, .int .u64 v, .slice a m c] 33) ((Below.refl _ _).alloc (Nat.le_refl _) _) (Nat.le_refl _) (heap_alloc_new w _), hp.keep ?_, hs.keep ?_, up_same _ _ _ _⟩
      · intro x hx; exact up_other _ _ _ (fun e => by rw [e] at hx; simp at hx)
      · intro x _ hx; exact up_other _ _ _ (fun e => by rw [e] at hx; simp at hx))
    obtain ⟨c0, c1, c2, c3, c4, c5, c6⟩ := bk7 (Bk.new w 33 #[.int .i64 (0), .int .i64 id, .int .i64 off, .int .i64 sz, .int .i64 now, .int .u64 v, .slice a m c])
    go_enter Try.func15, Try.ntmps15
    go_wp2_with fail
    with_reducible refine (lentb_any a m c bs HB.out (by omega) _ (by obtain ⟨A1, l1, _⟩ := hw.out; exact (HRD.out _ l1.below))).mono ?_
    rintro e z1 ⟨v7, rfl, q⟩
    have HQ := Lib.hid (St.start hw.out q HB.out)
    clear q hw HT c0 c1 c2 c3 c4 c5 c6
    obtain ⟨avd, cv, rfl, H1⟩ := HQ.out
    clear HQ
    generalize w.heap.size = gb at *
    replace H1 := Lib.hid H1
    have hmc : m ≤ cv := by have := H1.out.room; omega
    obtain ⟨c0, c1, c2, c3, c4, c5, c6⟩ := bk7 H1.out.box
    go_wp2_with fail
    refine wp_region_held_drew (S := fun w' => w'.cell? ⟨gb, 0, none⟩ = some (.int .i64 0) ∧ w'.cell? ⟨gb, 1, none⟩ = some (.int .i64 id) ∧ w'.cell? ⟨gb, 2, none⟩ = some (.int .i64 off) ∧ w'.cell? ⟨gb, 3, none⟩ = some (.int .i64 sz) ∧ w'.cell? ⟨gb, 4, none⟩ = some (.int .i64 now) ∧ w'.cell? ⟨gb, 5, none⟩ = some (.int .u64 v) ∧ w'.cell? ⟨gb, 6, none⟩ = some (.slice a m c)) (by kernel_rfl) (bk7 H1.out.box) (fun g => ?_)
    have H2 := Lib.hid H1.out.drew
    clear H1 c0 c1 c2 c3 c4 c5 c6
    generalize z1.drew = z at *
    clear z1
    refine tq 0 ?_ rfl (by kernel_rfl) (fun _ _ _ h => h) (by rfl) g ?_ ?_; rotate_left
    · intro w9 h9; obtain ⟨d0, d1, d2, d3, d4, d5, d6⟩ := h9; go_simp; try with_reducible rfl
    simp only [Act.put, ptA, ptB, ptC]
    refine tq 1 ?_ rfl (by kernel_rfl) (fun _ _ _ h => h) (by rfl) g ?_ ?_; rotate_left
    · intro w9 h9; obtain ⟨d0, d1, d2, d3, d4, d5, d6⟩ := h9; go_simp; try with_reducible rfl
    simp only [Act.put, ptA, ptB, ptC]
    refine tq 2 ?_ rfl (by kernel_rfl) (fun _ _ _ h => h) (by rfl) g ?_ ?_; rotate_left
    · intro w9 h9; obtain ⟨d0, d1, d2, d3, d4, d5, d6⟩ := h9; go_simp; try with_reducible rfl
    simp only [Act.put, ptA, ptB, ptC]
    refine tq 3 ?_ rfl (by kernel_rfl) (fun _ _ _ h => h) (by rfl) g ?_ ?_; rotate_left
    · intro w9 h9; obtain ⟨d0, d1, d2, d3, d4, d5, d6⟩ := h9; go_simp; try with_reducible rfl
    simp only [Act.put, ptA, ptB, ptC]
    refine tq 4 ?_ rfl (by kernel_rfl) (fun _ _ _ h => h) (by rfl) g ?_ ?_; rotate_left
    · intro w9 h9; obtain ⟨d0, d1, d2, d3, d4, d5, d6⟩ := h9; go_simp; try with_reducible rfl
    simp only [Act.put, ptA, ptB, ptC]
    refine tq 5 ?_ rfl (by kernel_rfl) (fun _ _ _ h => h) (by rfl) g ?_ ?_; rotate_left
    · intro w9 h9; obtain ⟨d0, d1, d2, d3, d4, d5, d6⟩ := h9; go_simp; try with_reducible rfl
    simp only [Act.put, ptA, ptB, ptC]
    refine tq 7 ?_ rfl (by kernel_rfl) (fun _ _ _ h => h) (by rfl) g ?_ ?_; rotate_left
    · intro w9 h9; obtain ⟨d0, d1, d2, d3, d4, d5, d6⟩ := h9; go_simp; try with_reducible rfl
    simp only [Act.put, ptA, ptB, ptC]
    refine tq 8 ?_ rfl (by kernel_rfl) (fun _ _ _ h => h) (by rfl) g ?_ ?_; rotate_left
    · intro w9 h9; obtain ⟨d0, d1, d2, d3, d4, d5, d6⟩ := h9; go_simp; try with_reducible rfl
    simp only [Act.put, ptA, ptB, ptC]
    refine tq 9 ?_ rfl (by kernel_rfl) (fun _ _ _ h => h) (by rfl) g ?_ ?_; rotate_left
    · intro w9 h9; obtain ⟨d0, d1, d2, d3, d4, d5, d6⟩ := h9; go_simp; try with_reducible rfl
    simp only [Act.put, ptA, ptB, ptC]
    refine tc 6 rfl (by kernel_rfl) (fun K9 hK => ?_)
    go_simp
    refine (H2.out.prog (.int .i64 ((L.length : Int) + 1)) (mkL L bs) (fun A hA hP hR => (make_c hA hP HO.out (by have := HN.out; omega) (some avd) m cv bs HB.out (by have := H2.out.room; omega) (by obtain ⟨_, _, _, _, _, h5⟩ := H2.out.ex; obtain ⟨_, _, e, _, h6, _⟩ := h5.form2; simp only [Value.slice.injEq] at e; obtain ⟨_, _, rfl⟩ := e; unfold maxLen at h6; omega) (fun e => by cases e) (r := (30, 0)) (by simp) hR).mono fun e w2 h => h)).mono ?_
    rintro e z2 ⟨rfl, q⟩
    have H3 := Lib.hid q
    clear q H2
    go_simp
    refine hK.out _ _ (bk7 H3.out.box) (fun g1 => ?_)
    clear hK K9 g
    have g := g1
    clear g1
    clear z
    refine tc 10 rfl (by kernel_rfl) (fun K9 hK => ?_)
    go_simp
    refine (H3.out.doc (.int .i64 ((L.length : Int) + 1)) (mkL L bs) (fun A hA hS => (rmake_c hA hS (by have := HLN.out; omega) a m c bs HB.out (by omega) (r := (90, 0)) (by simp) (Reads.old HRO.out A _)).mono fun e w2 h => h)).mono ?_
    rintro e z3 ⟨rfl, q⟩
    have H4 := Lib.hid q
    clear q H3
    go_simp
    refine hK.out _ _ (bk7 H4.out.box) (fun g1 => ?_)
    clear hK K9 g
    have g := g1
    clear g1
    clear z2
    refine tq 11 ?_ rfl (by kernel_rfl) (fun _ _ _ h => h) (by rfl) g ?_ ?_; rotate_left
    · intro w9 h9; obtain ⟨d0, d1, d2, d3, d4, d5, d6⟩ := h9; go_simp; try with_reducible rfl
    simp only [Act.put, ptA, ptB, ptC]
    refine tq 12 ?_ rfl (by kernel_rfl) (fun _ _ _ h => h) (by rfl) g ?_ ?_; rotate_left
    · intro w9 h9; obtain ⟨d0, d1, d2, d3, d4, d5, d6⟩ := h9; go_simp; try with_reducible rfl
    simp only [Act.put, ptA, ptB, ptC]
    clear g
    refine wpAnyH_done (by kernel_rfl) ?_ _
    have H3 := H4
    clear H4
    have gS := bk7 H3.out.box
    obtain ⟨c0, c1, c2, c3, c4, c5, c6⟩ := gS
    go_wp2_with fail
    with_reducible refine (keptb_any (some avd) a m (m + 5) cv c bs rfl HB.out (by omega) H3.out.room _ H3.out.lent (HRD.out _ H3.out.below)).mono ?_
    rintro e z9 ⟨rfl, q⟩
    have H4 := Lib.hid (H3.out.grow q)
    clear q H3 c0 c1 c2 c3 c4 c5 c6
    go_wp2_with fail
    obtain ⟨zs, hzs⟩ := H4.out.own
    with_reducible refine (spoilb_any _ _ (m + 5) _ (by omega) _ hzs).mono ?_
    rintro e z10 ⟨rfl, q⟩
    have H5 := Lib.hid (H4.out.spoiled q)
    clear q H4 hzs
    go_wp2
    go_ret
    exact ⟨rfl, H5.out⟩
  by_cases h2 : kd = 2
  · subst h2
    simp only [Int.reduceEq, if_false, if_true]
    have HE : ∃ r, stC L id off sz v now = r := ⟨_, rfl⟩
    obtain ⟨⟨d, L2⟩, hE⟩ := HE
    rw [hE]
    have HE := Lib.hid hE
    clear hE
    dsimp only
    have hw : Hid (∃ A1, Lay w0 A1 (w.alloc (.cells #[.int .i64 (2), .int .i64 id, .int .i64 off, .int .i64 sz, .int .i64 now, .int .u64 v, .slice a m c] 33)) ∧ PS A1 P L ∧ RS w0 A1 X L ∧ A1 (31, 0) = some (w.heap.size, .cells #[.int .i64 (2), .int .i64 id, .int .i64 off, .int .i64 sz, .int .i64 now, .int .u64 v, .slice a m c] 33)) := Lib.hid (by
      obtain ⟨A, hl, hp, hs⟩ := HT.out
      refine ⟨_, hl.new (31, 0) (o := .cells #[.int .i64 (2), .int .i64 id, .int .i64 off, .int .i64 sz, .int .i64 now, .int .u64 v, .slice a m c] 33) ((Below.refl _ _).alloc (Nat.le_refl _) _) (Nat.le_refl _) (heap_alloc_new w _), hp.keep ?_, hs.keep ?_, up_same _ _ _ _⟩
      · intro x hx; exact up_other _ _ _ (fun e => by rw [e] at hx; simp at hx)
      · intro x _ hx; exact up_other _ _ _ (fun e => by rw [e] at hx; simp at hx))
    obtain ⟨c0, c1, c2, c3, c4, c5, c6⟩ := bk7 (Bk.new w 33 #[.int .i64 (2), .int .i64 id, .int .i64 off, .int .i64 sz, .int .i64 now, .int .u64 v, .slice a m c])
    go_enter Try.func15, Try.ntmps15
    go_wp2_with fail
    with_reducible refine (lentb_any a m c bs HB.out (by omega) _ (by obtain ⟨A1, l1, _⟩ := hw.out; exact (HRD.out _ l1.below))).mono ?_
    rintro e z1 ⟨v7, rfl, q⟩
    have HQ := Lib.hid (St.start hw.out q HB.out)
    clear q hw HT c0 c1 c2 c3 c4 c5 c6
    obtain ⟨avd, cv, rfl, H1⟩ := HQ.out
    clear HQ
    generalize w.heap.size = gb at *
    replace H1 := Lib.hid H1
    have hmc : m ≤ cv := by have := H1.out.room; omega
    obtain ⟨c0, c1, c2, c3, c4, c5, c6⟩ := bk7 H1.out.box
    go_wp2_with fail
    refine wp_region_held_drew (S := fun w' => w'.cell? ⟨gb, 0, none⟩ = some (.int .i64 2) ∧ w'.cell? ⟨gb, 1, none⟩ = some (.int .i64 id) ∧ w'.cell? ⟨gb, 2, none⟩ = some (.int .i64 off) ∧ w'.cell? ⟨gb, 3, none⟩ = some (.int .i64 sz) ∧ w'.cell? ⟨gb, 4, none⟩ = some (.int .i64 now) ∧ w'.cell? ⟨gb, 5, none⟩ = some (.int .u64 v) ∧ w'.cell? ⟨gb, 6, none⟩ = some (.slice a m c)) (by kernel_rfl) (bk7 H1.out.box) (fun g => ?_)
    have H2 := Lib.hid H1.out.drew
    clear H1 c0 c1 c2 c3 c4 c5 c6
    generalize z1.drew = z at *
    clear z1
    refine tq 0 ?_ rfl (by kernel_rfl) (fun _ _ _ h => h) (by rfl) g ?_ ?_; rotate_left
    · intro w9 h9; obtain ⟨d0, d1, d2, d3, d4, d5, d6⟩ := h9; go_simp; try with_reducible rfl
    simp only [Act.put, ptA, ptB, ptC]
    refine tq 1 ?_ rfl (by kernel_rfl) (fun _ _ _ h => h) (by rfl) g ?_ ?_; rotate_left
    · intro w9 h9; obtain ⟨d0, d1, d2, d3, d4, d5, d6⟩ := h9; go_simp; try with_reducible rfl
    simp only [Act.put, ptA, ptB, ptC]
    refine tq 2 ?_ rfl (by kernel_rfl) (fun _ _ _ h => h) (by rfl) g ?_ ?_; rotate_left
    · intro w9 h9; obtain ⟨d0, d1, d2, d3, d4, d5, d6⟩ := h9; go_simp; try with_reducible rfl
    simp only [Act.put, ptA, ptB, ptC]
    refine tq 3 ?_ rfl (by kernel_rfl) (fun _ _ _ h => h) (by rfl) g ?_ ?_; rotate_left
    · intro w9 h9; obtain ⟨d0, d1, d2, d3, d4, d5, d6⟩ := h9; go_simp; try with_reducible rfl
    simp only [Act.put, ptA, ptB, ptC]
    refine tq 4 ?_ rfl (by kernel_rfl) (fun _ _ _ h => h) (by rfl) g ?_ ?_; rotate_left
    · intro w9 h9; obtain ⟨d0, d1, d2, d3, d4, d5, d6⟩ := h9; go_simp; try with_reducible rfl
    simp only [Act.put, ptA, ptB, ptC]
    refine tq 5 ?_ rfl (by kernel_rfl) (fun _ _ _ h => h) (by rfl) g ?_ ?_; rotate_left
    · intro w9 h9; obtain ⟨d0, d1, d2, d3, d4, d5, d6⟩ := h9; go_simp; try with_reducible rfl
    simp only [Act.put, ptA, ptB, ptC]
    refine tq 6 ?_ rfl (by kernel_rfl) (fun _ _ _ h => h) (by rfl) g ?_ ?_; rotate_left
    · intro w9 h9; obtain ⟨d0, d1, d2, d3, d4, d5, d6⟩ := h9; go_simp; try with_reducible rfl
    simp only [Act.put, ptA, ptB, ptC]
    refine tq 7 ?_ rfl (by kernel_rfl) (fun _ _ _ h => h) (by rfl) g ?_ ?_; rotate_left
    · intro w9 h9; obtain ⟨d0, d1, d2, d3, d4, d5, d6⟩ := h9; go_simp; try with_reducible rfl
    simp only [Act.put, ptA, ptB, ptC]
    refine tq 8 ?_ rfl (by kernel_rfl) (fun _ _ _ h => h) (by rfl) g ?_ ?_; rotate_left
    · intro w9 h9; obtain ⟨d0, d1, d2, d3, d4, d5, d6⟩ := h9; go_simp; try with_reducible rfl
    simp only [Act.put, ptA, ptB, ptC]
    refine tq 9 ?_ rfl (by kernel_rfl) (fun _ _ _ h => h) (by rfl) g ?_ ?_; rotate_left
    · intro w9 h9; obtain ⟨d0, d1, d2, d3, d4, d5, d6⟩ := h9; go_simp; try with_reducible rfl
    simp only [Act.put, ptA, ptB, ptC]
    refine tq 10 ?_ rfl (by kernel_rfl) (fun _ _ _ h => h) (by rfl) g ?_ ?_; rotate_left
    · intro w9 h9; obtain ⟨d0, d1, d2, d3, d4, d5, d6⟩ := h9; go_simp; try with_reducible rfl
    simp only [Act.put, ptA, ptB, ptC]
    refine tq 12 ?_ rfl (by kernel_rfl) (fun _ _ _ h => h) (by rfl) g ?_ ?_; rotate_left
    · intro w9 h9; obtain ⟨d0, d1, d2, d3, d4, d5, d6⟩ := h9; go_simp; try with_reducible rfl
    simp only [Act.put, ptA, ptB, ptC]
    refine tq 13 ?_ rfl (by kernel_rfl) (fun _ _ _ h => h) (by rfl) g ?_ ?_; rotate_left
    · intro w9 h9; obtain ⟨d0, d1, d2, d3, d4, d5, d6⟩ := h9; go_simp; try with_reducible rfl
    simp only [Act.put, ptA, ptB, ptC]
    refine tq 14 ?_ rfl (by kernel_rfl) (fun _ _ _ h => h) (by rfl) g ?_ ?_; rotate_left
    · intro w9 h9; obtain ⟨d0, d1, d2, d3, d4, d5, d6⟩ := h9; go_simp; try with_reducible rfl
    simp only [Act.put, ptA, ptB, ptC]
    refine tq 15 ?_ rfl (by kernel_rfl) (fun _ _ _ h => h) (by rfl) g ?_ ?_; rotate_left
    · intro w9 h9; obtain ⟨d0, d1, d2, d3, d4, d5, d6⟩ := h9; go_simp; try with_reducible rfl
    simp only [Act.put, ptA, ptB, ptC]
    refine tq 16 ?_ rfl (by kernel_rfl) (fun _ _ _ h => h) (by rfl) g ?_ ?_; rotate_left
    · intro w9 h9; obtain ⟨d0, d1, d2, d3, d4, d5, d6⟩ := h9; go_simp; try with_reducible rfl
    simp only [Act.put, ptA, ptB, ptC]
    refine tq 17 ?_ rfl (by kernel_rfl) (fun _ _ _ h => h) (by rfl) g ?_ ?_; rotate_left
    · intro w9 h9; obtain ⟨d0, d1, d2, d3, d4, d5, d6⟩ := h9; go_simp; try with_reducible rfl
    simp only [Act.put, ptA, ptB, ptC]
    refine tq 18 ?_ rfl (by kernel_rfl) (fun _ _ _ h => h) (by rfl) g ?_ ?_; rotate_left
    · intro w9 h9; obtain ⟨d0, d1, d2, d3, d4, d5, d6⟩ := h9; go_simp; try with_reducible rfl
    simp only [Act.put, ptA, ptB, ptC]
    refine tq 19 ?_ rfl (by kernel_rfl) (fun _ _ _ h => h) (by rfl) g ?_ ?_; rotate_left
    · intro w9 h9; obtain ⟨d0, d1, d2, d3, d4, d5, d6⟩ := h9; go_simp; try with_reducible rfl
    simp only [Act.put, ptA, ptB, ptC]
    refine tq 20 ?_ rfl (by kernel_rfl) (fun _ _ _ h => h) (by rfl) g ?_ ?_; rotate_left
    · intro w9 h9; obtain ⟨d0, d1, d2, d3, d4, d5, d6⟩ := h9; go_simp; try with_reducible rfl
    simp only [Act.put, ptA, ptB, ptC]
    refine tq 21 ?_ rfl (by kernel_rfl) (fun _ _ _ h => h) (by rfl) g ?_ ?_; rotate_left
    · intro w9 h9; obtain ⟨d0, d1, d2, d3, d4, d5, d6⟩ := h9; go_simp; try with_reducible rfl
    simp only [Act.put, ptA, ptB, ptC]
    refine tq 22 ?_ rfl (by kernel_rfl) (fun _ _ _ h => h) (by rfl) g ?_ ?_; rotate_left
    · intro w9 h9; obtain ⟨d0, d1, d2, d3, d4, d5, d6⟩ := h9; go_simp; try with_reducible rfl
    simp only [Act.put, ptA, ptB, ptC]
    refine tc 11 rfl (by kernel_rfl) (fun K9 hK => ?_)
    go_simp
    refine (H2.out.prog (.bool d) L2 (fun A hA hP hR => by have := store_c hA hP HO.out (by have := HN.out; omega) id off sz v now ⟨HV1.out, by have := HV2.out; omega⟩ HNOW.out; rw [HE.out] at this; exact this.mono fun e w2 h => h)).mono ?_
    rintro e z2 ⟨rfl, q⟩
    have H3 := Lib.hid q
    clear q H2
    go_simp
    refine hK.out _ _ (bk7 H3.out.box) (fun g1 => ?_)
    clear hK K9 g
    have g := g1
    clear g1
    clear z
    refine tc 23 rfl (by kernel_rfl) (fun K9 hK => ?_)
    go_simp
    refine (H3.out.doc (.bool d) L2 (fun A hA hS => by have := rstore_c hA hS HO.out (by have := HN.out; omega) (by have := HLN.out; omega) id off sz v now HI1.out HI2.out HF1.out HF2.out HV1.out HV2.out HNOW.out; rw [HE.out] at this; exact this.mono fun e w2 h => h)).mono ?_
    rintro e z3 ⟨rfl, q⟩
    have H4 := Lib.hid q
    clear q H3
    go_simp
    refine hK.out _ _ (bk7 H4.out.box) (fun g1 => ?_)
    clear hK K9 g
    have g := g1
    clear g1
    clear z2
    refine tq 24 ?_ rfl (by kernel_rfl) (fun _ _ _ h => h) (by rfl) g ?_ ?_; rotate_left
    · intro w9 h9; obtain ⟨d0, d1, d2, d3, d4, d5, d6⟩ := h9; go_simp; try with_reducible rfl
    simp only [Act.put, ptA, ptB, ptC]
    refine tq 25 ?_ rfl (by kernel_rfl) (fun _ _ _ h => h) (by rfl) g ?_ ?_; rotate_left
    · intro w9 h9; obtain ⟨d0, d1, d2, d3, d4, d5, d6⟩ := h9; go_simp; try with_reducible rfl
    simp only [Act.put, ptA, ptB, ptC]
    clear g
    refine wpAnyH_done (by kernel_rfl) ?_ _
    have H3 := H4
    clear H4
    have gS := bk7 H3.out.box
    obtain ⟨c0, c1, c2, c3, c4, c5, c6⟩ := gS
    go_wp2_with fail
    with_reducible refine (keptb_any (some avd) a m (m + 5) cv c bs rfl HB.out (by omega) H3.out.room _ H3.out.lent (HRD.out _ H3.out.below)).mono ?_
    rintro e z9 ⟨rfl, q⟩
    have H4 := Lib.hid (H3.out.grow q)
    clear q H3 c0 c1 c2 c3 c4 c5 c6
    go_wp2_with fail
    obtain ⟨zs, hzs⟩ := H4.out.own
    with_reducible refine (spoilb_any _ _ (m + 5) _ (by omega) _ hzs).mono ?_
    rintro e z10 ⟨rfl, q⟩
    have H5 := Lib.hid (H4.out.spoiled q)
    clear q H4 hzs
    go_wp2
    go_ret
    exact ⟨rfl, H5.out⟩
  by_cases h3 : kd = 3
  · subst h3
    simp only [Int.reduceEq, if_false, if_true]
    have HE : ∃ r, wrC L id bs now = r := ⟨_, rfl⟩
    obtain ⟨⟨d, L2⟩, hE⟩ := HE
    rw [hE]
    have HE := Lib.hid hE
    clear hE
    dsimp only
    have hw : Hid (∃ A1, Lay w0 A1 (w.alloc (.cells #[.int .i64 (3), .int .i64 id, .int .i64 off, .int .i64 sz, .int .i64 now, .int .u64 v, .slice a m c] 33)) ∧ PS A1 P L ∧ RS w0 A1 X L ∧ A1 (31, 0) = some (w.heap.size, .cells #[.int .i64 (3), .int .i64 id, .int .i64 off, .int .i64 sz, .int .i64 now, .int .u64 v, .slice a m c] 33)) := Lib.hid (by
      obtain ⟨A, hl, hp, hs⟩ := HT.out
      refine ⟨_, hl.new (31, 0) (o := .cells #[.int .i64 (3), .int .i64 id, .int .i64 off, .int .i64 sz, .int .i64 now, .int .u64 v, .slice a m c] 33) ((Below.refl _ _).alloc (Nat.le_refl _) _) (Nat.le_refl _) (heap_alloc_new w _), hp.keep ?_, hs.keep ?_, up_same _ _ _ _⟩
      · intro x hx; exact up_other _ _ _ (fun e => by rw [e] at hx; simp at hx)
      · intro x _ hx; exact up_other _ _ _ (fun e => by rw [e] at hx; simp at hx))
    obtain ⟨c0, c1, c2, c3, c4, c5, c6⟩ := bk7 (Bk.new w 33 #[.int .i64 (3), .int .i64 id, .int .i64 off, .int .i64 sz, .int .i64 now, .int .u64 v, .slice a m c])
    go_enter Try.func15, Try.ntmps15
    go_wp2_with fail
    with_reducible refine (lentb_any a m c bs HB.out (by omega) _ (by obtain ⟨A1, l1, _⟩ := hw.out; exact (HRD.out _ l1.below))).mono ?_
    rintro e z1 ⟨v7, rfl, q⟩
    have HQ := Lib.hid (St.start hw.out q HB.out)
    clear q hw HT c0 c1 c2 c3 c4 c5 c6
    obtain ⟨avd, cv, rfl, H1⟩ := HQ.out
    clear HQ
    generalize w.heap.size = gb at *
    replace H1 := Lib.hid H1
    have hmc : m ≤ cv := by have := H1.out.room; omega
    obtain ⟨c0, c1, c2, c3, c4, c5, c6⟩ := bk7 H1.out.box
    go_wp2_with fail
    refine wp_region_held_drew (S := fun w' => w'.cell? ⟨gb, 0, none⟩ = some (.int .i64 3) ∧ w'.cell? ⟨gb, 1, none⟩ = some (.int .i64 id) ∧ w'.cell? ⟨gb, 2, none⟩ = some (.int .i64 off) ∧ w'.cell? ⟨gb, 3, none⟩ = some (.int .i64 sz) ∧ w'.cell? ⟨gb, 4, none⟩ = some (.int .i64 now) ∧ w'.cell? ⟨gb, 5, none⟩ = some (.int .u64 v) ∧ w'.cell? ⟨gb, 6, none⟩ = some (.slice a m c)) (by kernel_rfl) (bk7 H1.out.box) (fun g => ?_)
    have H2 := Lib.hid H1.out.drew
    clear H1 c0 c1 c2 c3 c4 c5 c6
    generalize z1.drew = z at *
    clear z1
    refine tq 0 ?_ rfl (by kernel_rfl) (fun _ _ _ h => h) (by rfl) g ?_ ?_; rotate_left
    · intro w9 h9; obtain ⟨d0, d1, d2, d3, d4, d5, d6⟩ := h9; go_simp; try with_reducible rfl
    simp only [Act.put, ptA, ptB, ptC]
    refine tq 1 ?_ rfl (by kernel_rfl) (fun _ _ _ h => h) (by rfl) g ?_ ?_; rotate_left
    · intro w9 h9; obtain ⟨d0, d1, d2, d3, d4, d5, d6⟩ := h9; go_simp; try with_reducible rfl
    simp only [Act.put, ptA, ptB, ptC]
    refine tq 2 ?_ rfl (by kernel_rfl) (fun _ _ _ h => h) (by rfl) g ?_ ?_; rotate_left
    · intro w9 h9; obtain ⟨d0, d1, d2, d3, d4, d5, d6⟩ := h9; go_simp; try with_reducible rfl
    simp only [Act.put, ptA, ptB, ptC]
    refine tq 3 ?_ rfl (by kernel_rfl) (fun _ _ _ h => h) (by rfl) g ?_ ?_; rotate_left
    · intro w9 h9; obtain ⟨d0, d1, d2, d3, d4, d5, d6⟩ := h9; go_simp; try with_reducible rfl
    simp only [Act.put, ptA, ptB, ptC]
    refine tq 4 ?_ rfl (by kernel_rfl) (fun _ _ _ h => h) (by rfl) g ?_ ?_; rotate_left
    · intro w9 h9; obtain ⟨d0, d1, d2, d3, d4, d5, d6⟩ := h9; go_simp; try with_reducible rfl
    simp only [Act.put, ptA, ptB, ptC]
    refine tq 5 ?_ rfl (by kernel_rfl) (fun _ _ _ h => h) (by rfl) g ?_ ?_; rotate_left
    · intro w9 h9; obtain ⟨d0, d1, d2, d3, d4, d5, d6⟩ := h9; go_simp; try with_reducible rfl
    simp only [Act.put, ptA, ptB, ptC]
    refine tq 6 ?_ rfl (by kernel_rfl) (fun _ _ _ h => h) (by rfl) g ?_ ?_; rotate_left
    · intro w9 h9; obtain ⟨d0, d1, d2, d3, d4, d5, d6⟩ := h9; go_simp; try with_reducible rfl
    simp only [Act.put, ptA, ptB, ptC]
    refine tq 7 ?_ rfl (by kernel_rfl) (fun _ _ _ h => h) (by rfl) g ?_ ?_; rotate_left
    · intro w9 h9; obtain ⟨d0, d1, d2, d3, d4, d5, d6⟩ := h9; go_simp; try with_reducible rfl
    simp only [Act.put, ptA, ptB, ptC]
    refine tq 8 ?_ rfl (by kernel_rfl) (fun _ _ _ h => h) (by rfl) g ?_ ?_; rotate_left
    · intro w9 h9; obtain ⟨d0, d1, d2, d3, d4, d5, d6⟩ := h9; go_simp; try with_reducible rfl
    simp only [Act.put, ptA, ptB, ptC]
    refine tq 9 ?_ rfl (by kernel_rfl) (fun _ _ _ h => h) (by rfl) g ?_ ?_; rotate_left
    · intro w9 h9; obtain ⟨d0, d1, d2, d3, d4, d5, d6⟩ := h9; go_simp; try with_reducible rfl
    simp only [Act.put, ptA, ptB, ptC]
    refine tq 11 ?_ rfl (by kernel_rfl) (fun _ _ _ h => h) (by rfl) g ?_ ?_; rotate_left
    · intro w9 h9; obtain ⟨d0, d1, d2, d3, d4, d5, d6⟩ := h9; go_simp; try with_reducible rfl
    simp only [Act.put, ptA, ptB, ptC]
    refine tq 12 ?_ rfl (by kernel_rfl) (fun _ _ _ h => h) (by rfl) g ?_ ?_; rotate_left
    · intro w9 h9; obtain ⟨d0, d1, d2, d3, d4, d5, d6⟩ := h9; go_simp; try with_reducible rfl
    simp only [Act.put, ptA, ptB, ptC]
    refine tq 13 ?_ rfl (by kernel_rfl) (fun _ _ _ h => h) (by rfl) g ?_ ?_; rotate_left
    · intro w9 h9; obtain ⟨d0, d1, d2, d3, d4, d5, d6⟩ := h9; go_simp; try with_reducible rfl
    simp only [Act.put, ptA, ptB, ptC]
    refine tq 14 ?_ rfl (by kernel_rfl) (fun _ _ _ h => h) (by rfl) g ?_ ?_; rotate_left
    · intro w9 h9; obtain ⟨d0, d1, d2, d3, d4, d5, d6⟩ := h9; go_simp; try with_reducible rfl
    simp only [Act.put, ptA, ptB, ptC]
    refine tq 15 ?_ rfl (by kernel_rfl) (fun _ _ _ h => h) (by rfl) g ?_ ?_; rotate_left
    · intro w9 h9; obtain ⟨d0, d1, d2, d3, d4, d5, d6⟩ := h9; go_simp; try with_reducible rfl
    simp only [Act.put, ptA, ptB, ptC]
    refine tq 16 ?_ rfl (by kernel_rfl) (fun _ _ _ h => h) (by rfl) g ?_ ?_; rotate_left
    · intro w9 h9; obtain ⟨d0, d1, d2, d3, d4, d5, d6⟩ := h9; go_simp; try with_reducible rfl
    simp only [Act.put, ptA, ptB, ptC]
    refine tq 17 ?_ rfl (by kernel_rfl) (fun _ _ _ h => h) (by rfl) g ?_ ?_; rotate_left
    · intro w9 h9; obtain ⟨d0, d1, d2, d3, d4, d5, d6⟩ := h9; go_simp; try with_reducible rfl
    simp only [Act.put, ptA, ptB, ptC]
    refine tc 10 rfl (by kernel_rfl) (fun K9 hK => ?_)
    go_simp
    refine (H2.out.prog (.bool d) L2 (fun A hA hP hR => by have := write_c hA hP HO.out (by have := HN.out; omega) id now HNOW.out (some avd) m cv bs HB.out (by omega) (r := (30, 0)) (by simp) hR; rw [HE.out] at this; exact this.mono fun e w2 h => h)).mono ?_
    rintro e z2 ⟨rfl, q⟩
    have H3 := Lib.hid q
    clear q H2
    go_simp
    refine hK.out _ _ (bk7 H3.out.box) (fun g1 => ?_)
    clear hK K9 g
    have g := g1
    clear g1
    clear z
    refine tc 18 rfl (by kernel_rfl) (fun K9 hK => ?_)
    go_simp
    refine (H3.out.doc (.bool d) L2 (fun A hA hS => by have := rwrite_c hA hS HO.out (by have := HN.out; omega) (by have := HLN.out; omega) id now HI1.out HI2.out HNOW.out a m c bs HB.out (by omega) (r := (90, 0)) (by simp) (Reads.old HRO.out A _); rw [HE.out] at this; exact this.mono fun e w2 h => h)).mono ?_
    rintro e z3 ⟨rfl, q⟩
    have H4 := Lib.hid q
    clear q H3
    go_simp
    refine hK.out _ _ (bk7 H4.out.box) (fun g1 => ?_)
    clear hK K9 g
    have g := g1
    clear g1
    clear z2
    refine tq 19 ?_ rfl (by kernel_rfl) (fun _ _ _ h => h) (by rfl) g ?_ ?_; rotate_left
    · intro w9 h9; obtain ⟨d0, d1, d2, d3, d4, d5, d6⟩ := h9; go_simp; try with_reducible rfl
    simp only [Act.put, ptA, ptB, ptC]
    refine tq 20 ?_ rfl (by kernel_rfl) (fun _ _ _ h => h) (by rfl) g ?_ ?_; rotate_left
    · intro w9 h9; obtain ⟨d0, d1, d2, d3, d4, d5, d6⟩ := h9; go_simp; try with_reducible rfl
    simp only [Act.put, ptA, ptB, ptC]
    clear g
    refine wpAnyH_done (by kernel_rfl) ?_ _
    have H3 := H4
    clear H4
    have gS := bk7 H3.out.box
    obtain ⟨c0, c1, c2, c3, c4, c5, c6⟩ := gS
    go_wp2_with fail
    with_reducible refine (keptb_any (some avd) a m (m + 5) cv c bs rfl HB.out (by omega) H3.out.room _ H3.out.lent (HRD.out _ H3.out.below)).mono ?_
    rintro e z9 ⟨rfl, q⟩
    have H4 := Lib.hid (H3.out.grow q)
    clear q H3 c0 c1 c2 c3 c4 c5 c6
    go_wp2_with fail
    obtain ⟨zs, hzs⟩ := H4.out.own
    with_reducible refine (spoilb_any _ _ (m + 5) _ (by omega) _ hzs).mono ?_
    rintro e z10 ⟨rfl, q⟩
    have H5 := Lib.hid (H4.out.spoiled q)
    clear q H4 hzs
    go_wp2
    go_ret
    exact ⟨rfl, H5.out⟩
  by_cases h4 : kd = 4
  · subst h4
    simp only [Int.reduceEq, if_false, if_true]
    have HE : ∃ r, drC L id = r := ⟨_, rfl⟩
    obtain ⟨⟨d, L2⟩, hE⟩ := HE
    rw [hE]
    have HE := Lib.hid hE
    clear hE
    dsimp only
    have hw : Hid (∃ A1, Lay w0 A1 (w.alloc (.cells #[.int .i64 (4), .int .i64 id, .int .i64 off, .int .i64 sz, .int .i64 now, .int .u64 v, .slice a m c] 33)) ∧ PS A1 P L ∧ RS w0 A1 X L ∧ A1 (31, 0) = some (w.heap.size, .cells #[.int .i64 (4), .int .i64 id, .int .i64 off, .int .i64 sz, .int .i64 now, .int .u64 v, .slice a m c] 33)) := Lib.hid (by
      obtain ⟨A, hl, hp, hs⟩ := HT.out
      refine ⟨_, hl.new (31, 0) (o := .cells #[.int .i64 (4), .int .i64 id, .int .i64 off, .int .i64 sz, .int .i64 now, .int .u64 v, .slice a m c] 33) ((Below.refl _ _).alloc (Nat.le_refl _) _) (Nat.le_refl _) (heap_alloc_new w _), hp.keep ?_, hs.keep ?_, up_same _ _ _ _⟩
      · intro x hx; exact up_other _ _ _ (fun e => by rw [e] at hx; simp at hx)
      · intro x _ hx; exact up_other _ _ _ (fun e => by rw [e] at hx; simp at hx))
    obtain ⟨c0, c1, c2, c3, c4, c5, c6⟩ := bk7 (Bk.new w 33 #[.int .i64 (4), .int .i64 id, .int .i64 off, .int .i64 sz, .int .i64 now, .int .u64 v, .slice a m c])
    go_enter Try.func15, Try.ntmps15
    go_wp2_with fail
    with_reducible refine (lentb_any a m c bs HB.out (by omega) _ (by obtain ⟨A1, l1, _⟩ := hw.out; exact (HRD.out _ l1.below))).mono ?_
    rintro e z1 ⟨v7, rfl, q⟩
    have HQ := Lib.hid (St.start hw.out q HB.out)
    clear q hw HT c0 c1 c2 c3 c4 c5 c6
    obtain ⟨avd, cv, rfl, H1⟩ := HQ.out
    clear HQ
    generalize w.heap.size = gb at *
    replace H1 := Lib.hid H1
    have hmc : m ≤ cv := by have := H1.out.room; omega
    obtain ⟨c0, c1, c2, c3, c4, c5, c6⟩ := bk7 H1.out.box
    go_wp2_with fail
    refine wp_region_held_drew (S := fun w' => w'.cell? ⟨gb, 0, none⟩ = some (.int .i64 4) ∧ w'.cell? ⟨gb, 1, none⟩ = some (.int .i64 id) ∧ w'.cell? ⟨gb, 2, none⟩ = some (.int .i64 off) ∧ w'.cell? ⟨gb, 3, none⟩ = some (.int .i64 sz) ∧ w'.cell? ⟨gb, 4, none⟩ = some (.int .i64 now) ∧ w'.cell? ⟨gb, 5, none⟩ = some (.int .u64 v) ∧ w'.cell? ⟨gb, 6, none⟩ = some (.slice a m c)) (by kernel_rfl) (bk7 H1.out.box) (fun g => ?_)
    have H2 := Lib.hid H1.out.drew
    clear H1 c0 c1 c2 c3 c4 c5 c6
    generalize z1.drew = z at *
    clear z1
    refine tq 0 ?_ rfl (by kernel_rfl) (fun _ _ _ h => h) (by rfl) g ?_ ?_; rotate_left
    · intro w9 h9; obtain ⟨d0, d1, d2, d3, d4, d5, d6⟩ := h9; go_simp; try with_reducible rfl
    simp only [Act.put, ptA, ptB, ptC]
    refine tq 1 ?_ rfl (by kernel_rfl) (fun _ _ _ h => h) (by rfl) g ?_ ?_; rotate_left
    · intro w9 h9; obtain ⟨d0, d1, d2, d3, d4, d5, d6⟩ := h9; go_simp; try with_reducible rfl
    simp only [Act.put, ptA, ptB, ptC]
    refine tq 2 ?_ rfl (by kernel_rfl) (fun _ _ _ h => h) (by rfl) g ?_ ?_; rotate_left
    · intro w9 h9; obtain ⟨d0, d1, d2, d3, d4, d5, d6⟩ := h9; go_simp; try with_reducible rfl
    simp only [Act.put, ptA, ptB, ptC]
    refine tq 4 ?_ rfl (by kernel_rfl) (fun _ _ _ h => h) (by rfl) g ?_ ?_; rotate_left
    · intro w9 h9; obtain ⟨d0, d1, d2, d3, d4, d5, d6⟩ := h9; go_simp; try with_reducible rfl
    simp only [Act.put, ptA, ptB, ptC]
    refine tq 5 ?_ rfl (by kernel_rfl) (fun _ _ _ h => h) (by rfl) g ?_ ?_; rotate_left
    · intro w9 h9; obtain ⟨d0, d1, d2, d3, d4, d5, d6⟩ := h9; go_simp; try with_reducible rfl
    simp only [Act.put, ptA, ptB, ptC]
    refine tq 6 ?_ rfl (by kernel_rfl) (fun _ _ _ h => h) (by rfl) g ?_ ?_; rotate_left
    · intro w9 h9; obtain ⟨d0, d1, d2, d3, d4, d5, d6⟩ := h9; go_simp; try with_reducible rfl
    simp only [Act.put, ptA, ptB, ptC]
    refine tc 3 rfl (by kernel_rfl) (fun K9 hK => ?_)
    go_simp
    refine (H2.out.prog (.bool d) L2 (fun A hA hP hR => by have := drop_c (n := 0) hA hP (fun m es c D E ds hx => by have := hx.dlen; have := HLN.out; omega) id; rw [HE.out] at this; exact this.mono fun e w2 h => h)).mono ?_
    rintro e z2 ⟨rfl, q⟩
    have H3 := Lib.hid q
    clear q H2
    go_simp
    refine hK.out _ _ (bk7 H3.out.box) (fun g1 => ?_)
    clear hK K9 g
    have g := g1
    clear g1
    clear z
    refine tc 7 rfl (by kernel_rfl) (fun K9 hK => ?_)
    go_simp
    refine (H3.out.doc (.bool d) L2 (fun A hA hS => by have := rdrop_c hA hS (by have := HLN.out; omega) id HI1.out HI2.out; rw [HE.out] at this; exact this.mono fun e w2 h => h)).mono ?_
    rintro e z3 ⟨rfl, q⟩
    have H4 := Lib.hid q
    clear q H3
    go_simp
    refine hK.out _ _ (bk7 H4.out.box) (fun g1 => ?_)
    clear hK K9 g
    have g := g1
    clear g1
    clear z2
    refine tq 8 ?_ rfl (by kernel_rfl) (fun _ _ _ h => h) (by rfl) g ?_ ?_; rotate_left
    · intro w9 h9; obtain ⟨d0, d1, d2, d3, d4, d5, d6⟩ := h9; go_simp; try with_reducible rfl
    simp only [Act.put, ptA, ptB, ptC]
    refine tq 9 ?_ rfl (by kernel_rfl) (fun _ _ _ h => h) (by rfl) g ?_ ?_; rotate_left
    · intro w9 h9; obtain ⟨d0, d1, d2, d3, d4, d5, d6⟩ := h9; go_simp; try with_reducible rfl
    simp only [Act.put, ptA, ptB, ptC]
    clear g
    refine wpAnyH_done (by kernel_rfl) ?_ _
    have H3 := H4
    clear H4
    have gS := bk7 H3.out.box
    obtain ⟨c0, c1, c2, c3, c4, c5, c6⟩ := gS
    go_wp2_with fail
    with_reducible refine (keptb_any (some avd) a m (m + 5) cv c bs rfl HB.out (by omega) H3.out.room _ H3.out.lent (HRD.out _ H3.out.below)).mono ?_
    rintro e z9 ⟨rfl, q⟩
    have H4 := Lib.hid (H3.out.grow q)
    clear q H3 c0 c1 c2 c3 c4 c5 c6
    go_wp2_with fail
    obtain ⟨zs, hzs⟩ := H4.out.own
    with_reducible refine (spoilb_any _ _ (m + 5) _ (by omega) _ hzs).mono ?_
    rintro e z10 ⟨rfl, q⟩
    have H5 := Lib.hid (H4.out.spoiled q)
    clear q H4 hzs
    go_wp2
    go_ret
    exact ⟨rfl, H5.out⟩
  by_cases h1 : kd = 1
  · subst h1
    simp only [Int.reduceEq, if_false, if_true]
    cases hld : ldC L id off sz with
    | none =>
      have HE := Lib.hid hld
      clear hld
      have hw : Hid (∃ A1, Lay w0 A1 (w.alloc (.cells #[.int .i64 (1), .int .i64 id, .int .i64 off, .int .i64 sz, .int .i64 now, .int .u64 v, .slice a m c] 33)) ∧ PS A1 P L ∧ RS w0 A1 X L ∧ A1 (31, 0) = some (w.heap.size, .cells #[.int .i64 (1), .int .i64 id, .int .i64 off, .int .i64 sz, .int .i64 now, .int .u64 v, .slice a m c] 33)) := Lib.hid (by
        obtain ⟨A, hl, hp, hs⟩ := HT.out
        refine ⟨_, hl.new (31, 0) (o := .cells #[.int .i64 (1), .int .i64 id, .int .i64 off, .int .i64 sz, .int .i64 now, .int .u64 v, .slice a m c] 33) ((Below.refl _ _).alloc (Nat.le_refl _) _) (Nat.le_refl _) (heap_alloc_new w _), hp.keep ?_, hs.keep ?_, up_same _ _ _ _⟩
        · intro x hx; exact up_other _ _ _ (fun e => by rw [e] at hx; simp at hx)
        · intro x _ hx; exact up_other _ _ _ (fun e => by rw [e] at hx; simp at hx))
      obtain ⟨c0, c1, c2, c3, c4, c5, c6⟩ := bk7 (Bk.new w 33 #[.int .i64 (1), .int .i64 id, .int .i64 off, .int .i64 sz, .int .i64 now, .int .u64 v, .slice a m c])
      go_enter Try.func15, Try.ntmps15
      go_wp2_with fail
      with_reducible refine (lentb_any a m c bs HB.out (by omega) _ (by obtain ⟨A1, l1, _⟩ := hw.out; exact (HRD.out _ l1.below))).mono ?_
      rintro e z1 ⟨v7, rfl, q⟩
      have HQ := Lib.hid (St.start hw.out q HB.out)
      clear q hw HT c0 c1 c2 c3 c4 c5 c6
      obtain ⟨avd, cv, rfl, H1⟩ := HQ.out
      clear HQ
      generalize w.heap.size = gb at *
      replace H1 := Lib.hid H1
      have hmc : m ≤ cv := by have := H1.out.room; omega
      obtain ⟨c0, c1, c2, c3, c4, c5, c6⟩ := bk7 H1.out.box
      go_wp2_with fail
      refine (H1.out.prog (ldV none) L (fun A hA hP hR => (load_any hA hP HO.out id off sz).mono fun e w2 h => ⟨by rw [h.1, HE.out], by rw [← h.2]; exact Did.same hA hP⟩)).mono ?_
      rintro e z2 ⟨rfl, q⟩
      have H2 := Lib.hid q
      clear q H1 c0 c1 c2 c3 c4 c5 c6
      obtain ⟨c0, c1, c2, c3, c4, c5, c6⟩ := bk7 H2.out.box
      unfold ldV
      go_wp2_with fail
      refine (H2.out.doc (ldV none) L (fun A hA hS => (rload_c hA hS HO.out (by have := HLN.out; omega) id off sz HI1.out HI2.out HF1.out HF2.out).mono fun e w2 h => ⟨by rw [h.1, HE.out], by rw [← h.2]; exact RDid.same hA hS⟩)).mono ?_
      rintro e z3 ⟨rfl, q⟩
      have H3 := Lib.hid q
      clear q H2 c0 c1 c2 c3 c4 c5 c6
      unfold ldV
      have gS := bk7 H3.out.box
      obtain ⟨c0, c1, c2, c3, c4, c5, c6⟩ := gS
      go_wp2_with fail
      with_reducible refine (keptb_any (some avd) a m (m + 5) cv c bs rfl HB.out (by omega) H3.out.room _ H3.out.lent (HRD.out _ H3.out.below)).mono ?_
      rintro e z9 ⟨rfl, q⟩
      have H4 := Lib.hid (H3.out.grow q)
      clear q H3 c0 c1 c2 c3 c4 c5 c6
      go_wp2_with fail
      obtain ⟨zs, hzs⟩ := H4.out.own
      with_reducible refine (spoilb_any _ _ (m + 5) _ (by omega) _ hzs).mono ?_
      rintro e z10 ⟨rfl, q⟩
      have H5 := Lib.hid (H4.out.spoiled q)
      clear q H4 hzs
      go_wp2
      go_ret
      exact ⟨rfl, H5.out⟩
    | some y =>
      have HE := Lib.hid hld
      clear hld
      have hw : Hid (∃ A1, Lay w0 A1 (w.alloc (.cells #[.int .i64 (1), .int .i64 id, .int .i64 off, .int .i64 sz, .int .i64 now, .int .u64 v, .slice a m c] 33)) ∧ PS A1 P L ∧ RS w0 A1 X L ∧ A1 (31, 0) = some (w.heap.size, .cells #[.int .i64 (1), .int .i64 id, .int .i64 off, .int .i64 sz, .int .i64 now, .int .u64 v, .slice a m c] 33)) := Lib.hid (by
        obtain ⟨A, hl, hp, hs⟩ := HT.out
        refine ⟨_, hl.new (31, 0) (o := .cells #[.int .i64 (1), .int .i64 id, .int .i64 off, .int .i64 sz, .int .i64 now, .int .u64 v, .slice a m c] 33) ((Below.refl _ _).alloc (Nat.le_refl _) _) (Nat.le_refl _) (heap_alloc_new w _), hp.keep ?_, hs.keep ?_, up_same _ _ _ _⟩
        · intro x hx; exact up_other _ _ _ (fun e => by rw [e] at hx; simp at hx)
        · intro x _ hx; exact up_other _ _ _ (fun e => by rw [e] at hx; simp at hx))
      obtain ⟨c0, c1, c2, c3, c4, c5, c6⟩ := bk7 (Bk.new w 33 #[.int .i64 (1), .int .i64 id, .int .i64 off, .int .i64 sz, .int .i64 now, .int .u64 v, .slice a m c])
      go_enter Try.func15, Try.ntmps15
      go_wp2_with fail
      with_reducible refine (lentb_any a m c bs HB.out (by omega) _ (by obtain ⟨A1, l1, _⟩ := hw.out; exact (HRD.out _ l1.below))).mono ?_
      rintro e z1 ⟨v7, rfl, q⟩
      have HQ := Lib.hid (St.start hw.out q HB.out)
      clear q hw HT c0 c1 c2 c3 c4 c5 c6
      obtain ⟨avd, cv, rfl, H1⟩ := HQ.out
      clear HQ
      generalize w.heap.size = gb at *
      replace H1 := Lib.hid H1
      have hmc : m ≤ cv := by have := H1.out.room; omega
      obtain ⟨c0, c1, c2, c3, c4, c5, c6⟩ := bk7 H1.out.box
      go_wp2_with fail
      refine (H1.out.prog (ldV (some y)) L (fun A hA hP hR => (load_any hA hP HO.out id off sz).mono fun e w2 h => ⟨by rw [h.1, HE.out], by rw [← h.2]; exact Did.same hA hP⟩)).mono ?_
      rintro e z2 ⟨rfl, q⟩
      have H2 := Lib.hid q
      clear q H1 c0 c1 c2 c3 c4 c5 c6
      obtain ⟨c0, c1, c2, c3, c4, c5, c6⟩ := bk7 H2.out.box
      unfold ldV
      go_wp2_with fail
      refine (H2.out.doc (ldV (some y)) L (fun A hA hS => (rload_c hA hS HO.out (by have := HLN.out; omega) id off sz HI1.out HI2.out HF1.out HF2.out).mono fun e w2 h => ⟨by rw [h.1, HE.out], by rw [← h.2]; exact RDid.same hA hS⟩)).mono ?_
      rintro e z3 ⟨rfl, q⟩
      have H3 := Lib.hid q
      clear q H2 c0 c1 c2 c3 c4 c5 c6
      unfold ldV
      have gS := bk7 H3.out.box
      obtain ⟨c0, c1, c2, c3, c4, c5, c6⟩ := gS
      go_wp2_with fail
      with_reducible refine (keptb_any (some avd) a m (m + 5) cv c bs rfl HB.out (by omega) H3.out.room _ H3.out.lent (HRD.out _ H3.out.below)).mono ?_
      rintro e z9 ⟨rfl, q⟩
      have H4 := Lib.hid (H3.out.grow q)
      clear q H3 c0 c1 c2 c3 c4 c5 c6
      go_wp2_with fail
      obtain ⟨zs, hzs⟩ := H4.out.own
      with_reducible refine (spoilb_any _ _ (m + 5) _ (by omega) _ hzs).mono ?_
      rintro e z10 ⟨rfl, q⟩
      have H5 := Lib.hid (H4.out.spoiled q)
      clear q H4 hzs
      go_wp2
      go_ret
      exact ⟨rfl, H5.out⟩
  by_cases h5 : kd = 5
  · subst h5
    simp only [Int.reduceEq, if_false, if_true]
    have hw : Hid (∃ A1, Lay w0 A1 (w.alloc (.cells #[.int .i64 (5), .int .i64 id, .int .i64 off, .int .i64 sz, .int .i64 now, .int .u64 v, .slice a m c] 33)) ∧ PS A1 P L ∧ RS w0 A1 X L ∧ A1 (31, 0) = some (w.heap.size, .cells #[.int .i64 (5), .int .i64 id, .int .i64 off, .int .i64 sz, .int .i64 now, .int .u64 v, .slice a m c] 33)) := Lib.hid (by
      obtain ⟨A, hl, hp, hs⟩ := HT.out
      refine ⟨_, hl.new (31, 0) (o := .cells #[.int .i64 (5), .int .i64 id, .int .i64 off, .int .i64 sz, .int .i64 now, .int .u64 v, .slice a m c] 33) ((Below.refl _ _).alloc (Nat.le_refl _) _) (Nat.le_refl _) (heap_alloc_new w _), hp.keep ?_, hs.keep ?_, up_same _ _ _ _⟩
      · intro x hx; exact up_other _ _ _ (fun e => by rw [e] at hx; simp at hx)
      · intro x _ hx; exact up_other _ _ _ (fun e => by rw [e] at hx; simp at hx))
    obtain ⟨c0, c1, c2, c3, c4, c5, c6⟩ := bk7 (Bk.new w 33 #[.int .i64 (5), .int .i64 id, .int .i64 off, .int .i64 sz, .int .i64 now, .int .u64 v, .slice a m c])
    go_enter Try.func15, Try.ntmps15
    go_wp2_with fail
    with_reducible refine (lentb_any a m c bs HB.out (by omega) _ (by obtain ⟨A1, l1, _⟩ := hw.out; exact (HRD.out _ l1.below))).mono ?_
    rintro e z1 ⟨v7, rfl, q⟩
    have HQ := Lib.hid (St.start hw.out q HB.out)
    clear q hw HT c0 c1 c2 c3 c4 c5 c6
    obtain ⟨avd, cv, rfl, H1⟩ := HQ.out
    clear HQ
    generalize w.heap.size = gb at *
    replace H1 := Lib.hid H1
    have hmc : m ≤ cv := by have := H1.out.room; omega
    obtain ⟨c0, c1, c2, c3, c4, c5, c6⟩ := bk7 H1.out.box
    go_wp2_with fail
    refine (H1.out.prog (.int .i64 (nG L : Nat)) (swL L) (fun A hA hP hR => by
      obtain ⟨mm, es, cc0, D, E, ds, hx⟩ := hP
      have := sweep_c hA hx (by have := HLN.out; omega)
      rw [gone_len hx] at this
      exact this.mono fun e w2 h => ⟨h.1, h.2⟩)).mono ?_
    rintro e z2 ⟨rfl, q⟩
    have H2 := Lib.hid q
    clear q H1 c0 c1 c2 c3 c4 c5 c6
    obtain ⟨c0, c1, c2, c3, c4, c5, c6⟩ := bk7 H2.out.box
    go_wp2_with fail
    refine (H2.out.doc (.int .i64 (nG L : Nat)) (swL L) (fun A hA hS => (rsweep_c hA hS (by have := HLN.out; omega)).mono fun e w2 h => ⟨h.1, h.2⟩)).mono ?_
    rintro e z3 ⟨rfl, q⟩
    have H3 := Lib.hid q
    clear q H2 c0 c1 c2 c3 c4 c5 c6
    have gS := bk7 H3.out.box
    obtain ⟨c0, c1, c2, c3, c4, c5, c6⟩ := gS
    go_wp2_with fail
    with_reducible refine (keptb_any (some avd) a m (m + 5) cv c bs rfl HB.out (by omega) H3.out.room _ H3.out.lent (HRD.out _ H3.out.below)).mono ?_
    rintro e z9 ⟨rfl, q⟩
    have H4 := Lib.hid (H3.out.grow q)
    clear q H3 c0 c1 c2 c3 c4 c5 c6
    go_wp2_with fail
    obtain ⟨zs, hzs⟩ := H4.out.own
    with_reducible refine (spoilb_any _ _ (m + 5) _ (by omega) _ hzs).mono ?_
    rintro e z10 ⟨rfl, q⟩
    have H5 := Lib.hid (H4.out.spoiled q)
    clear q H4 hzs
    go_wp2
    go_ret
    exact ⟨rfl, H5.out⟩
  rw [if_neg h0, if_neg h1, if_neg h2, if_neg h3, if_neg h4, if_neg h5]
  have e0 : (kd == 0) = false := by rw [beq_eq_false_iff_ne]; omega
  have e1 : (kd == 1) = false := by rw [beq_eq_false_iff_ne]; omega
  have e2 : (kd == 2) = false := by rw [beq_eq_false_iff_ne]; omega
  have e3 : (kd == 3) = false := by rw [beq_eq_false_iff_ne]; omega
  have e4 : (kd == 4) = false := by rw [beq_eq_false_iff_ne]; omega
  have e5 : (kd == 5) = false := by rw [beq_eq_false_iff_ne]; omega
  clear h0 h1 h2 h3 h4 h5
  dsimp only
  have hw : Hid (∃ A1, Lay w0 A1 (w.alloc (.cells #[.int .i64 (kd), .int .i64 id, .int .i64 off, .int .i64 sz, .int .i64 now, .int .u64 v, .slice a m c] 33)) ∧ PS A1 P L ∧ RS w0 A1 X L ∧ A1 (31, 0) = some (w.heap.size, .cells #[.int .i64 (kd), .int .i64 id, .int .i64 off, .int .i64 sz, .int .i64 now, .int .u64 v, .slice a m c] 33)) := Lib.hid (by
    obtain ⟨A, hl, hp, hs⟩ := HT.out
    refine ⟨_, hl.new (31, 0) (o := .cells #[.int .i64 (kd), .int .i64 id, .int .i64 off, .int .i64 sz, .int .i64 now, .int .u64 v, .slice a m c] 33) ((Below.refl _ _).alloc (Nat.le_refl _) _) (Nat.le_refl _) (heap_alloc_new w _), hp.keep ?_, hs.keep ?_, up_same _ _ _ _⟩
    · intro x hx; exact up_other _ _ _ (fun e => by rw [e] at hx; simp at hx)
    · intro x _ hx; exact up_other _ _ _ (fun e => by rw [e] at hx; simp at hx))
  obtain ⟨c0, c1, c2, c3, c4, c5, c6⟩ := bk7 (Bk.new w 33 #[.int .i64 (kd), .int .i64 id, .int .i64 off, .int .i64 sz, .int .i64 now, .int .u64 v, .slice a m c])
  go_enter Try.func15, Try.ntmps15
  go_wp2_with fail
  with_reducible refine (lentb_any a m c bs HB.out (by omega) _ (by obtain ⟨A1, l1, _⟩ := hw.out; exact (HRD.out _ l1.below))).mono ?_
  rintro e z1 ⟨v7, rfl, q⟩
  have HQ := Lib.hid (St.start hw.out q HB.out)
  clear q hw HT c0 c1 c2 c3 c4 c5 c6
  obtain ⟨avd, cv, rfl, H1⟩ := HQ.out
  clear HQ
  generalize w.heap.size = gb at *
  replace H1 := Lib.hid H1
  have hmc : m ≤ cv := by have := H1.out.room; omega
  obtain ⟨c0, c1, c2, c3, c4, c5, c6⟩ := bk7 H1.out.box
  go_wp2_with fail
  have H3 := H1
  clear H1
  with_reducible refine (keptb_any (some avd) a m (m + 5) cv c bs rfl HB.out (by omega) H3.out.room _ H3.out.lent (HRD.out _ H3.out.below)).mono ?_
  rintro e z9 ⟨rfl, q⟩
  have H4 := Lib.hid (H3.out.grow q)
  clear q H3 c0 c1 c2 c3 c4 c5 c6
  go_wp2_with fail
  obtain ⟨zs, hzs⟩ := H4.out.own
  with_reducible refine (spoilb_any _ _ (m + 5) _ (by omega) _ hzs).mono ?_
  rintro e z10 ⟨rfl, q⟩
  have H5 := Lib.hid (H4.out.spoiled q)
  clear q H4 hzs
  go_wp2
  go_ret
  exact ⟨rfl, H5.out⟩
end Go.Proofs.Ythdgdkjaeebbcaa
