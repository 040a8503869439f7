/-
  Layer 11's document: Put: contract. Conditions: 1000 rows, keys of 1000 bytes, 1000000 uses at most; the key is none of the rows' own memory.
-/
import Derived.Test.YthappjbghlifbaaLruRef4
import Derived.Deep.Draws
import Derived.OwnWalk
namespace Go.Proofs.Ythappjbghlifbaa
set_option maxRecDepth 100000
open Go.RowKit Ow Ro K2
set_option linter.unusedVariables false
set_option linter.unusedSimpArgs false
/-- The rows behind a Put that went well: l1 and the new one. -/
def PutD (w0 : World) (A : Ac) (X : Nat) (K M U c : Int) (l1 : List Rw) (t : Nat) (ks : List Int) (w' : World) : Prop := ∃ A' v' u, Lay w0 A' w' ∧ LS A' X K M (U + 1) v' (l1 ++ [⟨u, ks, c, U + 1, t⟩]) (t + 1) ∧ Fr A A' t
def putV (v : Value) (c e : Int) : Ending := .returned (.tuple #[v, .int .i64 c, .int .i64 e])
section
variable {w0 w : World} {A : Ac} {X : Nat} {K M U : Int} {v : Value} {l : List Rw} {t : Nat}
theorem lput_size (hl : Lay w0 A w) (h : LS A X K M U v l t) (ax : Option Addr) (n cx : Nat) (c : Int) (hK : ¬ (n : Int) = K) :
    Calls Try.prog 27 #[.pointer (some ⟨X, 0, none⟩), .slice ax n cx, .int .i64 c] w fun e w' => e = putV (.slice none 0 0) 0 14 ∧ w' = w := by
  have x0 := (h.hd hl).c0
  have i1 : ((n : Int) != K) = true := by simpa using hK
  clear hl h
  go_enter Try.func27, Try.ntmps27
  go_wp2
  go_ret3
  exact ⟨rfl, rfl⟩
theorem lput_twice (hl : Lay w0 A w) (h : LS A X K M U v l t) (hlen : l.length ≤ 1000) (ax : Option Addr) (n cx : Nat) (ks : List Int) (hn : ks.length = n) (hn2 : n ≤ 1000) (hr : Rd w w.heap.size ax (bv ks)) (c : Int) (hK : (n : Int) = K) (p : Nat) (hx : lix l ks = some p) :
    Calls Try.prog 27 #[.pointer (some ⟨X, 0, none⟩), .slice ax n cx, .int .i64 c] w fun e w' => e = putV (.slice none 0 0) 0 11 ∧ Below w.heap.size w w' := by
  have PC := Lib.hid (lat_c hl h hlen ax n cx ks hn (by omega) hr)
  rw [hx] at PC
  have x0 := (h.hd hl).c0
  have i1 : ((n : Int) != K) = false := by simpa using hK
  have i2 : (p : Int) ≥ 0 := by omega
  clear hl h hr hx
  go_enter Try.func27, Try.ntmps27
  go_wp2_with fail
  with_reducible refine PC.out.mono ?_
  rintro e w1 ⟨rfl, q⟩
  have HQ := Lib.hid q
  clear q
  unfold lixV
  go_wp2_with fail
  go_ret3
  exact ⟨rfl, HQ.out⟩
set_option maxHeartbeats 2000000 in
theorem lput_free (hl : Lay w0 A w) (h : LS A X K M U v l t) (hlen : l.length ≤ 999) (hU : 0 ≤ U ∧ U ≤ 1000000) (ax : Option Addr) (n cx : Nat) (ks : List Int) (hn : ks.length = n) (hn2 : n ≤ 1000) (hby : ∀ b ∈ ks, 0 ≤ b ∧ b ≤ 255) (hr : KP w0 A t ax ks) (c : Int) (hK : (n : Int) = K) (hx : lix l ks = none) (hM : ¬ (l.length : Int) = M) :
    Calls Try.prog 27 #[.pointer (some ⟨X, 0, none⟩), .slice ax n cx, .int .i64 c] w fun e w' => e = putV (.slice none 0 0) 0 0 ∧ PutD w0 A X K M U c l t ks w' := by
  have i3 : ((l.length : Int) == M) = false := by simpa using hM
  obtain ⟨i0, hi0, hz0, hz1, hz2⟩ := info10 row_info
  obtain ⟨a1, c1, rfl, c8, c9⟩ := h.form
  have PC := Lib.hid (lat_c hl h (by omega) ax n cx ks hn (by omega) (hr A w hl (fun _ _ _ _ _ => rfl)))
  rw [hx] at PC
  have HL := Lib.hid hl
  have HH := Lib.hid h
  have HNK := Lib.hid hn
  have HBY := Lib.hid hby
  have HKR := Lib.hid hr
  have x0 := (h.hd hl).c0
  have i1 : ((n : Int) != K) = false := by simpa using hK
  clear hl h hr hx hn hby
  go_enter Try.func27, Try.ntmps27
  go_wp2_with fail
  with_reducible refine PC.out.mono ?_
  rintro e w1 ⟨rfl, q⟩
  have H0 := Lib.hid (PS1.start HH.out (HL.out.grow q) #[.slice none 0 0, .int .i64 0, .int .i64 0])
  clear q x0
  unfold lixV
  go_wp2_with fail
  obtain ⟨gx, hgx⟩ : ∃ gx, w1.heap.size = gx := ⟨_, rfl⟩
  rw [hgx] at H0 ⊢
  clear hgx
  generalize (w1.alloc (.cells #[.slice none 0 0, .int .i64 0, .int .i64 0] 60)) = wa at *
  have x3 := H0.out.drew.hd.c3
  have x1 := H0.out.drew.hd.c1
  have H1 := Lib.hid H0.out.drew
  refine wp_region_held_drew (S := fun w' => w'.cell? ⟨X, 3, none⟩ = some (.slice a1 l.length c1) ∧ w'.cell? ⟨X, 1, none⟩ = some (.int .i64 M)) (by kernel_rfl) ⟨x3, x1⟩ (fun g => ?_)
  clear x3 x1 H0
  generalize wa.drew = wt at *
  refine tq 0 ?_ rfl (by kernel_rfl) (fun _ _ _ h => h) (by rfl) g ?_ ?_; rotate_left
  · intro w9 h9; go_simp; try with_reducible rfl
  simp only [Act.put, ptA, ptB, ptC]
  refine tq 1 ?_ rfl (by kernel_rfl) (fun _ _ _ h => h) (by rfl) g ?_ ?_; rotate_left
  · intro w9 h9; go_simp; try with_reducible rfl
  simp only [Act.put, ptA, ptB, ptC]
  refine tq 2 ?_ rfl (by kernel_rfl) (fun _ _ _ h => h) (by rfl) g ?_ ?_; rotate_left
  · intro w9 h9; go_simp; try with_reducible rfl
  simp only [Act.put, ptA, ptB, ptC]
  refine tq 3 ?_ rfl (by kernel_rfl) (fun _ _ _ h => h) (by rfl) g ?_ ?_; rotate_left
  · intro w9 h9; obtain ⟨h91, h92⟩ := h9; go_simp; try with_reducible rfl
  simp only [Act.put, ptA, ptB, ptC]
  refine tq 4 ?_ rfl (by kernel_rfl) (fun _ _ _ h => h) (by rfl) g ?_ ?_; rotate_left
  · intro w9 h9; go_simp; try with_reducible rfl
  simp only [Act.put, ptA, ptB, ptC]
  refine tq 5 ?_ rfl (by kernel_rfl) (fun _ _ _ h => h) (by rfl) g ?_ ?_; rotate_left
  · intro w9 h9; go_simp; try with_reducible rfl
  simp only [Act.put, ptA, ptB, ptC]
  refine tq 6 ?_ rfl (by kernel_rfl) (fun _ _ _ h => h) (by rfl) g ?_ ?_; rotate_left
  · intro w9 h9; go_simp; try with_reducible rfl
  simp only [Act.put, ptA, ptB, ptC]
  refine tq 7 ?_ rfl (by kernel_rfl) (fun _ _ _ h => h) (by rfl) g ?_ ?_; rotate_left
  · intro w9 h9; go_simp; try with_reducible rfl
  simp only [Act.put, ptA, ptB, ptC]
  refine tq 8 ?_ rfl (by kernel_rfl) (fun _ _ _ h => h) (by rfl) g ?_ ?_; rotate_left
  · intro w9 h9; obtain ⟨h91, h92⟩ := h9; go_simp; try with_reducible rfl
  simp only [Act.put, ptA, ptB, ptC]
  refine tq 9 ?_ rfl (by kernel_rfl) (fun _ _ _ h => h) (by rfl) g ?_ ?_; rotate_left
  · intro w9 h9; go_simp; try with_reducible rfl
  simp only [Act.put, ptA, ptB, ptC]
  clear g
  refine wpAnyH_done (by kernel_rfl) ?_ _
  go_wp2_with fail
  have H2 := Lib.hid H1.out.drew
  have x3 := H2.out.hd.c3
  have RK := Lib.hid (H2.out.rd HKR.out)
  refine wp_region_held_drew (S := fun _ => True) (by kernel_rfl) trivial (fun g => ?_)
  clear H1
  generalize wt.drew = z at *
  refine tq 0 ?_ rfl (by kernel_rfl) (fun _ _ _ h => h) (by rfl) g ?_ ?_; rotate_left
  · intro w9 h9; go_simp; try with_reducible rfl
  simp only [Act.put, ptA, ptB, ptC]
  refine tq 1 ?_ rfl (by kernel_rfl) (fun _ _ _ h => h) (by rfl) g ?_ ?_; rotate_left
  · intro w9 h9; go_simp; try with_reducible rfl
  simp only [Act.put, ptA, ptB, ptC]
  refine tq 2 ?_ rfl (by kernel_rfl) (fun _ _ _ h => h) (by rfl) g ?_ ?_; rotate_left
  · intro w9 h9; go_simp; try with_reducible rfl
  simp only [Act.put, ptA, ptB, ptC]
  refine tq 3 ?_ rfl (by kernel_rfl) (fun _ _ _ h => h) (by rfl) g ?_ ?_; rotate_left
  · intro w9 h9; go_simp; try with_reducible rfl
  simp only [Act.put, ptA, ptB, ptC]
  refine tq 5 ?_ rfl (by kernel_rfl) (fun _ _ _ h => h) (by rfl) g ?_ ?_; rotate_left
  · intro w9 h9; go_simp; try with_reducible rfl
  simp only [Act.put, ptA, ptB, ptC]
  refine tq 7 ?_ rfl (by kernel_rfl) (fun _ _ _ h => h) (by rfl) g ?_ ?_; rotate_left
  · intro w9 h9; go_simp; try with_reducible rfl
  simp only [Act.put, ptA, ptB, ptC]
  refine wpAnyH_ready (rs := [4, 6]) (by kernel_rfl) (by simp) (tr 4 rfl (fun K9 hK => ?_) (tr 6 rfl (fun K9 hK => ?_) AllReadyH.nil))
  · go_simp
    refine hK.out _ _ trivial (fun g1 => ?_)
    clear hK K9 g
    have g := g1
    clear g1
    clear x3
    refine tc 6 rfl (by kernel_rfl) (fun K9 hK => ?_)
    go_simp
    with_reducible refine (copyb_any ax n cx ks HNK.out (by omega) _ RK.out).mono ?_
    rintro e z3 ⟨u, rfl, q⟩
    have H3 := Lib.hid (H2.out.copied q)
    obtain ⟨au, cu, rfl, _, _, _⟩ := own_form q.own
    have x3 := H3.out.hd.c3
    clear q H2 RK
    go_simp
    refine hK.out _ _ trivial (fun g1 => ?_)
    clear hK K9 g
    have g := g1
    clear g1
    refine tq 8 ?_ rfl (by kernel_rfl) (fun _ _ _ h => h) (by rfl) g ?_ ?_; rotate_left
    · intro w9 h9; go_simp; try with_reducible rfl
    simp only [Act.put, ptA, ptB, ptC]
    refine tc 9 rfl (by kernel_rfl) (fun K9 hK => ?_)
    have H4 := Lib.hid (H3.out.grow ((Below.refl _ _).alloc (Nat.le_refl _) (.cells #[.slice au ks.length cu, .int .i64 c, .int .i64 0] 60)))
    have NEW : Hid (∀ (i : Nat) (u : Value), [Value.slice au ks.length cu, Value.int .i64 c, Value.int .i64 0][i]? = some u → (z3.alloc (.cells #[.slice au ks.length cu, .int .i64 c, .int .i64 0] 60)).cell? ((⟨z3.heap.size, 0, none⟩ : Addr).add i) = some u) := Lib.hid (fun i u hu => by
      rw [add_zero_at, (Bk.new z3 60 #[.slice au ks.length cu, .int .i64 c, .int .i64 0]).cell i, ← hu]
      simp)
    have x4 := H4.out.hd.c3
    go_simp
    refine hK.out _ _ trivial (fun g1 => ?_)
    clear hK K9 g
    have g := g1
    clear g1
    clear H3 x3
    obtain ⟨zb, hzb⟩ : ∃ zb, z3.heap.size = zb := ⟨_, rfl⟩
    rw [hzb] at NEW ⊢
    generalize (z3.alloc (.cells #[.slice au ks.length cu, .int .i64 c, .int .i64 0] 60)) = z4 at *
    clear hzb
    have OWN := Lib.hid H4.out.own
    refine tc 10 rfl (by kernel_rfl) (fun K9 hK => ?_)
    refine step_append_own_at rfl (.tmp 77) (.tmp 82) _ rfl w0.heap.size 60 i0 _ 3 40 Try.underlying52 hi0 hz0 hz1 hz2 rfl (by decide) (.slice a1 l.length c1) l.length (rflat l) rfl OWN.out.1 ⟨zb, 0, none⟩ 1 1 [.slice au ks.length cu, .int .i64 c, .int .i64 0] rfl rfl NEW.out ?a2 ?a3 ?a4 ?a5 ?_
    case a2 => intro u hu; simp at hu; rcases hu with rfl | rfl | rfl <;> rfl
    case a3 => unfold maxLen; omega
    case a4 => omega
    case a5 => exact OWN.out.2
    intro v9 z9 hown9 hg9 hat9
    have H5 := Lib.hid (H4.out.app c (by rw [HNK.out]; omega) HBY.out hown9 hg9 hat9)
    obtain ⟨av9, cv9, rfl⟩ : ∃ (a : Option Addr) (cc : Nat), v9 = .slice a (l.length + 1) cc := by
      obtain ⟨a, cc, e, _⟩ := H5.out.form
      exact ⟨a, cc, by rw [e]; simp⟩
    have y3 := H5.out.hd.c3
    have y4 := H5.out.hd.f3
    clear hown9 hg9 hat9
    refine hK.out _ _ trivial (fun g1 => ?_)
    clear hK K9 g
    have g := g1
    clear g1
    clear H4 NEW OWN x4
    refine tq 11 ?_ rfl (by kernel_rfl) (fun _ _ _ h => h) (by rfl) g ?_ ?_; rotate_left
    · intro w9 h9; go_simp; try with_reducible rfl
    simp only [Act.put, ptA, ptB, ptC]
    refine tq 12 ?_ rfl (by kernel_rfl) (fun _ _ _ h => h) (by rfl) g ?_ ?_; rotate_left
    · intro w9 h9; go_simp; try with_reducible rfl
    simp only [Act.put, ptA, ptB, ptC]
    refine tc 13 rfl (by kernel_rfl) (fun K9 hK => ?_)
    have H6 := Lib.hid H5.out.put
    go_simp
    refine hK.out _ _ trivial (fun g1 => ?_)
    clear hK K9 g
    have g := g1
    clear g1
    clear y3 y4 H5
    generalize (z9.setCell ⟨X, 3, none⟩ (.slice av9 (l.length + 1) cv9)) = z10 at *
    clear g
    refine wpAnyH_done (by kernel_rfl) ?_ _
    clear z9 z4
    have x3 := H6.out.hd.c3
    have i5 : IntKind.i64.wrap ((l.length : Int) + 1 - 1) = (l.length : Int) := by rw [IntWalk.i64_in _ (by omega)]; omega
    have i6 : IntKind.i64.wrap (((l.length + 1 : Nat) : Int) - 1) = (l.length : Int) := by rw [IntWalk.i64_in _ (by omega)]; omega
    go_wp2_with fail
    obtain ⟨A6, l6, h6, b6, f6⟩ := H6.out
    have HF6 := Lib.hid f6
    have HB6 := Lib.hid b6
    have HJ : (l ++ [(⟨.slice au ks.length cu, ks, c, 0, t⟩ : Rw)])[l.length]? = some ⟨.slice au ks.length cu, ks, c, 0, t⟩ := by rw [List.getElem?_append_right (Nat.le_refl _), Nat.sub_self]; rfl
    have LU := Lib.hid (luse_c l6 h6 hU HJ)
    clear l6 h6 b6 f6 HJ x3
    with_reducible refine LU.out.mono ?_
    rintro e z11 ⟨rfl, A7, l7, h7, f7⟩
    have b7 := (f7 (104, 0) (by simp) (by simp)).trans HB6.out
    have y0 := (l7.bk b7).cell 0
    have y1 := (l7.bk b7).cell 1
    simp only [List.getElem?_toArray, List.getElem?_cons_zero, List.getElem?_cons_succ] at y0 y1
    have HD : Hid (PutD w0 A X K M U c l t ks z11.drew) := Lib.hid ⟨A7, _, .slice au ks.length cu, l7.drew, by
      have h8 := h7
      rw [List.set_append_right _ _ (Nat.le_refl _), Nat.sub_self] at h8
      exact h8, fun x a b cc d => (f7 x (ne_1 a) (ne_1 b)).trans (HF6.out x a b cc d)⟩
    clear l7 h7 f7 b7 LU HF6 HB6 H6
    go_wp2_with fail
    refine wp_region_held_drew (S := fun w' => w'.cell? ⟨gx, 0, none⟩ = some (.slice none 0 0) ∧ w'.cell? ⟨gx, 1, none⟩ = some (.int .i64 0)) (by kernel_rfl) ⟨y0, y1⟩ (fun g => ?_)
    clear y0 y1
    generalize z11.drew = z12 at *
    refine tq 0 ?_ rfl (by kernel_rfl) (fun _ _ _ h => h) (by rfl) g ?_ ?_; rotate_left
    · intro w9 h9; go_simp; try with_reducible rfl
    simp only [Act.put, ptA, ptB, ptC]
    refine tq 1 ?_ rfl (by kernel_rfl) (fun _ _ _ h => h) (by rfl) g ?_ ?_; rotate_left
    · intro w9 h9; obtain ⟨h91, h92⟩ := h9; go_simp; try with_reducible rfl
    simp only [Act.put, ptA, ptB, ptC]
    refine tq 2 ?_ rfl (by kernel_rfl) (fun _ _ _ h => h) (by rfl) g ?_ ?_; rotate_left
    · intro w9 h9; go_simp; try with_reducible rfl
    simp only [Act.put, ptA, ptB, ptC]
    refine tq 3 ?_ rfl (by kernel_rfl) (fun _ _ _ h => h) (by rfl) g ?_ ?_; rotate_left
    · intro w9 h9; obtain ⟨h91, h92⟩ := h9; go_simp; try with_reducible rfl
    simp only [Act.put, ptA, ptB, ptC]
    refine tq 4 ?_ rfl (by kernel_rfl) (fun _ _ _ h => h) (by rfl) g ?_ ?_; rotate_left
    · intro w9 h9; go_simp; try with_reducible rfl
    simp only [Act.put, ptA, ptB, ptC]
    refine tq 5 ?_ rfl (by kernel_rfl) (fun _ _ _ h => h) (by rfl) g ?_ ?_; rotate_left
    · intro w9 h9; go_simp; try with_reducible rfl
    simp only [Act.put, ptA, ptB, ptC]
    refine tq 6 ?_ rfl (by kernel_rfl) (fun _ _ _ h => h) (by rfl) g ?_ ?_; rotate_left
    · intro w9 h9; go_simp; try with_reducible rfl
    simp only [Act.put, ptA, ptB, ptC]
    clear g
    refine wpAnyH_done (by kernel_rfl) ?_ _
    go_wp2
    go_ret3
    exact ⟨rfl, HD.out⟩
  · go_simp
    with_reducible refine (copyb_any ax n cx ks HNK.out (by omega) _ RK.out).mono ?_
    rintro e z3 ⟨u, rfl, q⟩
    have H3 := Lib.hid (H2.out.copied q)
    obtain ⟨au, cu, rfl, _, _, _⟩ := own_form q.own
    have x3 := H3.out.hd.c3
    clear q H2 RK
    go_simp
    refine hK.out _ _ trivial (fun g1 => ?_)
    clear hK K9 g
    have g := g1
    clear g1
    refine tq 8 ?_ rfl (by kernel_rfl) (fun _ _ _ h => h) (by rfl) g ?_ ?_; rotate_left
    · intro w9 h9; go_simp; try with_reducible rfl
    simp only [Act.put, ptA, ptB, ptC]
    refine wpAnyH_ready (rs := [4, 9]) (by kernel_rfl) (by simp) (tr 4 rfl (fun K9 hK => ?_) (tr 9 rfl (fun K9 hK => ?_) AllReadyH.nil))
    · go_simp
      refine hK.out _ _ trivial (fun g1 => ?_)
      clear hK K9 g
      have g := g1
      clear g1
      refine tc 9 rfl (by kernel_rfl) (fun K9 hK => ?_)
      have H4 := Lib.hid (H3.out.grow ((Below.refl _ _).alloc (Nat.le_refl _) (.cells #[.slice au ks.length cu, .int .i64 c, .int .i64 0] 60)))
      have NEW : Hid (∀ (i : Nat) (u : Value), [Value.slice au ks.length cu, Value.int .i64 c, Value.int .i64 0][i]? = some u → (z3.alloc (.cells #[.slice au ks.length cu, .int .i64 c, .int .i64 0] 60)).cell? ((⟨z3.heap.size, 0, none⟩ : Addr).add i) = some u) := Lib.hid (fun i u hu => by
        rw [add_zero_at, (Bk.new z3 60 #[.slice au ks.length cu, .int .i64 c, .int .i64 0]).cell i, ← hu]
        simp)
      have x4 := H4.out.hd.c3
      go_simp
      refine hK.out _ _ trivial (fun g1 => ?_)
      clear hK K9 g
      have g := g1
      clear g1
      clear H3 x3
      obtain ⟨zb, hzb⟩ : ∃ zb, z3.heap.size = zb := ⟨_, rfl⟩
      rw [hzb] at NEW ⊢
      generalize (z3.alloc (.cells #[.slice au ks.length cu, .int .i64 c, .int .i64 0] 60)) = z4 at *
      clear hzb
      have OWN := Lib.hid H4.out.own
      refine tc 10 rfl (by kernel_rfl) (fun K9 hK => ?_)
      refine step_append_own_at rfl (.tmp 77) (.tmp 82) _ rfl w0.heap.size 60 i0 _ 3 40 Try.underlying52 hi0 hz0 hz1 hz2 rfl (by decide) (.slice a1 l.length c1) l.length (rflat l) rfl OWN.out.1 ⟨zb, 0, none⟩ 1 1 [.slice au ks.length cu, .int .i64 c, .int .i64 0] rfl rfl NEW.out ?a2 ?a3 ?a4 ?a5 ?_
      case a2 => intro u hu; simp at hu; rcases hu with rfl | rfl | rfl <;> rfl
      case a3 => unfold maxLen; omega
      case a4 => omega
      case a5 => exact OWN.out.2
      intro v9 z9 hown9 hg9 hat9
      have H5 := Lib.hid (H4.out.app c (by rw [HNK.out]; omega) HBY.out hown9 hg9 hat9)
      obtain ⟨av9, cv9, rfl⟩ : ∃ (a : Option Addr) (cc : Nat), v9 = .slice a (l.length + 1) cc := by
        obtain ⟨a, cc, e, _⟩ := H5.out.form
        exact ⟨a, cc, by rw [e]; simp⟩
      have y3 := H5.out.hd.c3
      have y4 := H5.out.hd.f3
      clear hown9 hg9 hat9
      refine hK.out _ _ trivial (fun g1 => ?_)
      clear hK K9 g
      have g := g1
      clear g1
      clear H4 NEW OWN x4
      refine tq 11 ?_ rfl (by kernel_rfl) (fun _ _ _ h => h) (by rfl) g ?_ ?_; rotate_left
      · intro w9 h9; go_simp; try with_reducible rfl
      simp only [Act.put, ptA, ptB, ptC]
      refine tq 12 ?_ rfl (by kernel_rfl) (fun _ _ _ h => h) (by rfl) g ?_ ?_; rotate_left
      · intro w9 h9; go_simp; try with_reducible rfl
      simp only [Act.put, ptA, ptB, ptC]
      refine tc 13 rfl (by kernel_rfl) (fun K9 hK => ?_)
      have H6 := Lib.hid H5.out.put
      go_simp
      refine hK.out _ _ trivial (fun g1 => ?_)
      clear hK K9 g
      have g := g1
      clear g1
      clear y3 y4 H5
      generalize (z9.setCell ⟨X, 3, none⟩ (.slice av9 (l.length + 1) cv9)) = z10 at *
      clear g
      refine wpAnyH_done (by kernel_rfl) ?_ _
      clear z9 z4
      have x3 := H6.out.hd.c3
      have i5 : IntKind.i64.wrap ((l.length : Int) + 1 - 1) = (l.length : Int) := by rw [IntWalk.i64_in _ (by omega)]; omega
      have i6 : IntKind.i64.wrap (((l.length + 1 : Nat) : Int) - 1) = (l.length : Int) := by rw [IntWalk.i64_in _ (by omega)]; omega
      go_wp2_with fail
      obtain ⟨A6, l6, h6, b6, f6⟩ := H6.out
      have HF6 := Lib.hid f6
      have HB6 := Lib.hid b6
      have HJ : (l ++ [(⟨.slice au ks.length cu, ks, c, 0, t⟩ : Rw)])[l.length]? = some ⟨.slice au ks.length cu, ks, c, 0, t⟩ := by rw [List.getElem?_append_right (Nat.le_refl _), Nat.sub_self]; rfl
      have LU := Lib.hid (luse_c l6 h6 hU HJ)
      clear l6 h6 b6 f6 HJ x3
      with_reducible refine LU.out.mono ?_
      rintro e z11 ⟨rfl, A7, l7, h7, f7⟩
      have b7 := (f7 (104, 0) (by simp) (by simp)).trans HB6.out
      have y0 := (l7.bk b7).cell 0
      have y1 := (l7.bk b7).cell 1
      simp only [List.getElem?_toArray, List.getElem?_cons_zero, List.getElem?_cons_succ] at y0 y1
      have HD : Hid (PutD w0 A X K M U c l t ks z11.drew) := Lib.hid ⟨A7, _, .slice au ks.length cu, l7.drew, by
        have h8 := h7
        rw [List.set_append_right _ _ (Nat.le_refl _), Nat.sub_self] at h8
        exact h8, fun x a b cc d => (f7 x (ne_1 a) (ne_1 b)).trans (HF6.out x a b cc d)⟩
      clear l7 h7 f7 b7 LU HF6 HB6 H6
      go_wp2_with fail
      refine wp_region_held_drew (S := fun w' => w'.cell? ⟨gx, 0, none⟩ = some (.slice none 0 0) ∧ w'.cell? ⟨gx, 1, none⟩ = some (.int .i64 0)) (by kernel_rfl) ⟨y0, y1⟩ (fun g => ?_)
      clear y0 y1
      generalize z11.drew = z12 at *
      refine tq 0 ?_ rfl (by kernel_rfl) (fun _ _ _ h => h) (by rfl) g ?_ ?_; rotate_left
      · intro w9 h9; go_simp; try with_reducible rfl
      simp only [Act.put, ptA, ptB, ptC]
      refine tq 1 ?_ rfl (by kernel_rfl) (fun _ _ _ h => h) (by rfl) g ?_ ?_; rotate_left
      · intro w9 h9; obtain ⟨h91, h92⟩ := h9; go_simp; try with_reducible rfl
      simp only [Act.put, ptA, ptB, ptC]
      refine tq 2 ?_ rfl (by kernel_rfl) (fun _ _ _ h => h) (by rfl) g ?_ ?_; rotate_left
      · intro w9 h9; go_simp; try with_reducible rfl
      simp only [Act.put, ptA, ptB, ptC]
      refine tq 3 ?_ rfl (by kernel_rfl) (fun _ _ _ h => h) (by rfl) g ?_ ?_; rotate_left
      · intro w9 h9; obtain ⟨h91, h92⟩ := h9; go_simp; try with_reducible rfl
      simp only [Act.put, ptA, ptB, ptC]
      refine tq 4 ?_ rfl (by kernel_rfl) (fun _ _ _ h => h) (by rfl) g ?_ ?_; rotate_left
      · intro w9 h9; go_simp; try with_reducible rfl
      simp only [Act.put, ptA, ptB, ptC]
      refine tq 5 ?_ rfl (by kernel_rfl) (fun _ _ _ h => h) (by rfl) g ?_ ?_; rotate_left
      · intro w9 h9; go_simp; try with_reducible rfl
      simp only [Act.put, ptA, ptB, ptC]
      refine tq 6 ?_ rfl (by kernel_rfl) (fun _ _ _ h => h) (by rfl) g ?_ ?_; rotate_left
      · intro w9 h9; go_simp; try with_reducible rfl
      simp only [Act.put, ptA, ptB, ptC]
      clear g
      refine wpAnyH_done (by kernel_rfl) ?_ _
      go_wp2
      go_ret3
      exact ⟨rfl, HD.out⟩
    · have H4 := Lib.hid (H3.out.grow ((Below.refl _ _).alloc (Nat.le_refl _) (.cells #[.slice au ks.length cu, .int .i64 c, .int .i64 0] 60)))
      have NEW : Hid (∀ (i : Nat) (u : Value), [Value.slice au ks.length cu, Value.int .i64 c, Value.int .i64 0][i]? = some u → (z3.alloc (.cells #[.slice au ks.length cu, .int .i64 c, .int .i64 0] 60)).cell? ((⟨z3.heap.size, 0, none⟩ : Addr).add i) = some u) := Lib.hid (fun i u hu => by
        rw [add_zero_at, (Bk.new z3 60 #[.slice au ks.length cu, .int .i64 c, .int .i64 0]).cell i, ← hu]
        simp)
      have x4 := H4.out.hd.c3
      go_simp
      refine hK.out _ _ trivial (fun g1 => ?_)
      clear hK K9 g
      have g := g1
      clear g1
      clear H3 x3
      obtain ⟨zb, hzb⟩ : ∃ zb, z3.heap.size = zb := ⟨_, rfl⟩
      rw [hzb] at NEW ⊢
      generalize (z3.alloc (.cells #[.slice au ks.length cu, .int .i64 c, .int .i64 0] 60)) = z4 at *
      clear hzb
      refine tc 4 rfl (by kernel_rfl) (fun K9 hK => ?_)
      go_simp
      refine hK.out _ _ trivial (fun g1 => ?_)
      clear hK K9 g
      have g := g1
      clear g1
      have OWN := Lib.hid H4.out.own
      refine tc 10 rfl (by kernel_rfl) (fun K9 hK => ?_)
      refine step_append_own_at rfl (.tmp 77) (.tmp 82) _ rfl w0.heap.size 60 i0 _ 3 40 Try.underlying52 hi0 hz0 hz1 hz2 rfl (by decide) (.slice a1 l.length c1) l.length (rflat l) rfl OWN.out.1 ⟨zb, 0, none⟩ 1 1 [.slice au ks.length cu, .int .i64 c, .int .i64 0] rfl rfl NEW.out ?a2 ?a3 ?a4 ?a5 ?_
      case a2 => intro u hu; simp at hu; rcases hu with rfl | rfl | rfl <;> rfl
      case a3 => unfold maxLen; omega
      case a4 => omega
      case a5 => exact OWN.out.2
      intro v9 z9 hown9 hg9 hat9
      have H5 := Lib.hid (H4.out.app c (by rw [HNK.out]; omega) HBY.out hown9 hg9 hat9)
      obtain ⟨av9, cv9, rfl⟩ : ∃ (a : Option Addr) (cc : Nat), v9 = .slice a (l.length + 1) cc := by
        obtain ⟨a, cc, e, _⟩ := H5.out.form
        exact ⟨a, cc, by rw [e]; simp⟩
      have y3 := H5.out.hd.c3
      have y4 := H5.out.hd.f3
      clear hown9 hg9 hat9
      refine hK.out _ _ trivial (fun g1 => ?_)
      clear hK K9 g
      have g := g1
      clear g1
      clear H4 NEW OWN x4
      refine tq 11 ?_ rfl (by kernel_rfl) (fun _ _ _ h => h) (by rfl) g ?_ ?_; rotate_left
      · intro w9 h9; go_simp; try with_reducible rfl
      simp only [Act.put, ptA, ptB, ptC]
      refine tq 12 ?_ rfl (by kernel_rfl) (fun _ _ _ h => h) (by rfl) g ?_ ?_; rotate_left
      · intro w9 h9; go_simp; try with_reducible rfl
      simp only [Act.put, ptA, ptB, ptC]
      refine tc 13 rfl (by kernel_rfl) (fun K9 hK => ?_)
      have H6 := Lib.hid H5.out.put
      go_simp
      refine hK.out _ _ trivial (fun g1 => ?_)
      clear hK K9 g
      have g := g1
      clear g1
      clear y3 y4 H5
      generalize (z9.setCell ⟨X, 3, none⟩ (.slice av9 (l.length + 1) cv9)) = z10 at *
      clear g
      refine wpAnyH_done (by kernel_rfl) ?_ _
      clear z9 z4
      have x3 := H6.out.hd.c3
      have i5 : IntKind.i64.wrap ((l.length : Int) + 1 - 1) = (l.length : Int) := by rw [IntWalk.i64_in _ (by omega)]; omega
      have i6 : IntKind.i64.wrap (((l.length + 1 : Nat) : Int) - 1) = (l.length : Int) := by rw [IntWalk.i64_in _ (by omega)]; omega
      go_wp2_with fail
      obtain ⟨A6, l6, h6, b6, f6⟩ := H6.out
      have HF6 := Lib.hid f6
      have HB6 := Lib.hid b6
      have HJ : (l ++ [(⟨.slice au ks.length cu, ks, c, 0, t⟩ : Rw)])[l.length]? = some ⟨.slice au ks.length cu, ks, c, 0, t⟩ := by rw [List.getElem?_append_right (Nat.le_refl _), Nat.sub_self]; rfl
      have LU := Lib.hid (luse_c l6 h6 hU HJ)
      clear l6 h6 b6 f6 HJ x3
      with_reducible refine LU.out.mono ?_
      rintro e z11 ⟨rfl, A7, l7, h7, f7⟩
      have b7 := (f7 (104, 0) (by simp) (by simp)).trans HB6.out
      have y0 := (l7.bk b7).cell 0
      have y1 := (l7.bk b7).cell 1
      simp only [List.getElem?_toArray, List.getElem?_cons_zero, List.getElem?_cons_succ] at y0 y1
      have HD : Hid (PutD w0 A X K M U c l t ks z11.drew) := Lib.hid ⟨A7, _, .slice au ks.length cu, l7.drew, by
        have h8 := h7
        rw [List.set_append_right _ _ (Nat.le_refl _), Nat.sub_self] at h8
        exact h8, fun x a b cc d => (f7 x (ne_1 a) (ne_1 b)).trans (HF6.out x a b cc d)⟩
      clear l7 h7 f7 b7 LU HF6 HB6 H6
      go_wp2_with fail
      refine wp_region_held_drew (S := fun w' => w'.cell? ⟨gx, 0, none⟩ = some (.slice none 0 0) ∧ w'.cell? ⟨gx, 1, none⟩ = some (.int .i64 0)) (by kernel_rfl) ⟨y0, y1⟩ (fun g => ?_)
      clear y0 y1
      generalize z11.drew = z12 at *
      refine tq 0 ?_ rfl (by kernel_rfl) (fun _ _ _ h => h) (by rfl) g ?_ ?_; rotate_left
      · intro w9 h9; go_simp; try with_reducible rfl
      simp only [Act.put, ptA, ptB, ptC]
      refine tq 1 ?_ rfl (by kernel_rfl) (fun _ _ _ h => h) (by rfl) g ?_ ?_; rotate_left
      · intro w9 h9; obtain ⟨h91, h92⟩ := h9; go_simp; try with_reducible rfl
      simp only [Act.put, ptA, ptB, ptC]
      refine tq 2 ?_ rfl (by kernel_rfl) (fun _ _ _ h => h) (by rfl) g ?_ ?_; rotate_left
      · intro w9 h9; go_simp; try with_reducible rfl
      simp only [Act.put, ptA, ptB, ptC]
      refine tq 3 ?_ rfl (by kernel_rfl) (fun _ _ _ h => h) (by rfl) g ?_ ?_; rotate_left
      · intro w9 h9; obtain ⟨h91, h92⟩ := h9; go_simp; try with_reducible rfl
      simp only [Act.put, ptA, ptB, ptC]
      refine tq 4 ?_ rfl (by kernel_rfl) (fun _ _ _ h => h) (by rfl) g ?_ ?_; rotate_left
      · intro w9 h9; go_simp; try with_reducible rfl
      simp only [Act.put, ptA, ptB, ptC]
      refine tq 5 ?_ rfl (by kernel_rfl) (fun _ _ _ h => h) (by rfl) g ?_ ?_; rotate_left
      · intro w9 h9; go_simp; try with_reducible rfl
      simp only [Act.put, ptA, ptB, ptC]
      refine tq 6 ?_ rfl (by kernel_rfl) (fun _ _ _ h => h) (by rfl) g ?_ ?_; rotate_left
      · intro w9 h9; go_simp; try with_reducible rfl
      simp only [Act.put, ptA, ptB, ptC]
      clear g
      refine wpAnyH_done (by kernel_rfl) ?_ _
      go_wp2
      go_ret3
      exact ⟨rfl, HD.out⟩
set_option maxHeartbeats 4000000 in
theorem lput_full (hl : Lay w0 A w) (h : LS A X K M U v l t) (hlen : l.length ≤ 999) (hU : 0 ≤ U ∧ U ≤ 1000000) (ax : Option Addr) (n cx : Nat) (ks : List Int) (hn : ks.length = n) (hn2 : n ≤ 1000) (hby : ∀ b ∈ ks, 0 ≤ b ∧ b ≤ 255) (hr : KP w0 A t ax ks) (c : Int) (hK : (n : Int) = K) (hx : lix l ks = none) (hM : (l.length : Int) = M) (hpos : 0 < l.length) (x : Rw) (hx9 : l[mnt l l.length]? = some x) :
    Calls Try.prog 27 #[.pointer (some ⟨X, 0, none⟩), .slice ax n cx, .int .i64 c] w fun e w' => e = putV x.v x.c 0 ∧ PutD w0 A X K M U c (l.eraseIdx (mnt l l.length)) t ks w' := by
  have i3 : ((l.length : Int) == M) = true := by simpa using hM
  have HX9 := Lib.hid hx9
  clear hx9 hM
  obtain ⟨i0, hi0, hz0, hz1, hz2⟩ := info10 row_info
  obtain ⟨a1, c1, rfl, c8, c9⟩ := h.form
  have PC := Lib.hid (lat_c hl h (by omega) ax n cx ks hn (by omega) (hr A w hl (fun _ _ _ _ _ => rfl)))
  rw [hx] at PC
  have HL := Lib.hid hl
  have HH := Lib.hid h
  have HNK := Lib.hid hn
  have HBY := Lib.hid hby
  have HKR := Lib.hid hr
  have x0 := (h.hd hl).c0
  have i1 : ((n : Int) != K) = false := by simpa using hK
  clear hl h hr hx hn hby
  go_enter Try.func27, Try.ntmps27
  go_wp2_with fail
  with_reducible refine PC.out.mono ?_
  rintro e w1 ⟨rfl, q⟩
  have H0 := Lib.hid (PS1.start HH.out (HL.out.grow q) #[.slice none 0 0, .int .i64 0, .int .i64 0])
  clear q x0
  unfold lixV
  go_wp2_with fail
  obtain ⟨gx, hgx⟩ : ∃ gx, w1.heap.size = gx := ⟨_, rfl⟩
  rw [hgx] at H0 ⊢
  clear hgx
  generalize (w1.alloc (.cells #[.slice none 0 0, .int .i64 0, .int .i64 0] 60)) = wa at *
  have x3 := H0.out.drew.hd.c3
  have x1 := H0.out.drew.hd.c1
  have H1 := Lib.hid H0.out.drew
  refine wp_region_held_drew (S := fun w' => w'.cell? ⟨X, 3, none⟩ = some (.slice a1 l.length c1) ∧ w'.cell? ⟨X, 1, none⟩ = some (.int .i64 M)) (by kernel_rfl) ⟨x3, x1⟩ (fun g => ?_)
  clear x3 x1 H0
  generalize wa.drew = wt at *
  refine tq 0 ?_ rfl (by kernel_rfl) (fun _ _ _ h => h) (by rfl) g ?_ ?_; rotate_left
  · intro w9 h9; go_simp; try with_reducible rfl
  simp only [Act.put, ptA, ptB, ptC]
  refine tq 1 ?_ rfl (by kernel_rfl) (fun _ _ _ h => h) (by rfl) g ?_ ?_; rotate_left
  · intro w9 h9; go_simp; try with_reducible rfl
  simp only [Act.put, ptA, ptB, ptC]
  refine tq 2 ?_ rfl (by kernel_rfl) (fun _ _ _ h => h) (by rfl) g ?_ ?_; rotate_left
  · intro w9 h9; go_simp; try with_reducible rfl
  simp only [Act.put, ptA, ptB, ptC]
  refine tq 3 ?_ rfl (by kernel_rfl) (fun _ _ _ h => h) (by rfl) g ?_ ?_; rotate_left
  · intro w9 h9; obtain ⟨h91, h92⟩ := h9; go_simp; try with_reducible rfl
  simp only [Act.put, ptA, ptB, ptC]
  refine tq 4 ?_ rfl (by kernel_rfl) (fun _ _ _ h => h) (by rfl) g ?_ ?_; rotate_left
  · intro w9 h9; go_simp; try with_reducible rfl
  simp only [Act.put, ptA, ptB, ptC]
  refine tq 5 ?_ rfl (by kernel_rfl) (fun _ _ _ h => h) (by rfl) g ?_ ?_; rotate_left
  · intro w9 h9; go_simp; try with_reducible rfl
  simp only [Act.put, ptA, ptB, ptC]
  refine tq 6 ?_ rfl (by kernel_rfl) (fun _ _ _ h => h) (by rfl) g ?_ ?_; rotate_left
  · intro w9 h9; go_simp; try with_reducible rfl
  simp only [Act.put, ptA, ptB, ptC]
  refine tq 7 ?_ rfl (by kernel_rfl) (fun _ _ _ h => h) (by rfl) g ?_ ?_; rotate_left
  · intro w9 h9; go_simp; try with_reducible rfl
  simp only [Act.put, ptA, ptB, ptC]
  refine tq 8 ?_ rfl (by kernel_rfl) (fun _ _ _ h => h) (by rfl) g ?_ ?_; rotate_left
  · intro w9 h9; obtain ⟨h91, h92⟩ := h9; go_simp; try with_reducible rfl
  simp only [Act.put, ptA, ptB, ptC]
  refine tq 9 ?_ rfl (by kernel_rfl) (fun _ _ _ h => h) (by rfl) g ?_ ?_; rotate_left
  · intro w9 h9; go_simp; try with_reducible rfl
  simp only [Act.put, ptA, ptB, ptC]
  clear g
  refine wpAnyH_done (by kernel_rfl) ?_ _
  go_wp2_with fail
  clear i3
  go_loopw [10, 11] (fun f i wr => ∃ j : Nat, j ≤ l.length ∧ f = .int .i64 ((mnt l j : Nat)) ∧ i = .int .i64 j ∧ Hid (PS1 w0 A X K M U (.slice a1 l.length c1) l t t gx #[.slice none 0 0, .int .i64 0, .int .i64 0] wr)) (fun _ i _ => l.length - (intOf i).toNat)
  case atStart => exact ⟨0, Nat.zero_le _, rfl, rfl, H1⟩
  case round =>
    clear H1
    obtain ⟨j, hj, rfl, rfl, H1⟩ := hrel
    have x3 := H1.out.hd.c3
    by_cases hlt : j < l.length
    · have i1 : (j : Int) < (l.length : Int) := by omega
      have i2 : (0 : Int) ≤ (j : Int) := by omega
      have hml := mnt_lt l j hpos (by omega)
      have hje : l[j]? = some l[j] := List.getElem?_eq_getElem hlt
      have hfe : l[mnt l j]? = some l[mnt l j] := List.getElem?_eq_getElem hml
      have HS : Hid (mnt l (j + 1) = if l[j].u < l[mnt l j].u then j else mnt l j) := Lib.hid (by
        show (if (l.getD j rw0).u < (l.getD (mnt l j) rw0).u then j else mnt l j) = _
        rw [List.getD_eq_getElem?_getD, List.getD_eq_getElem?_getD, hje, hfe]
        rfl)
      generalize l[j] = xj at *
      generalize l[mnt l j] = xf at *
      obtain ⟨f, hf⟩ : ∃ f, mnt l j = f := ⟨_, rfl⟩
      rw [hf] at hml hfe HS ⊢
      clear hf
      have p1 : (f : Int) < (l.length : Int) := by omega
      have p0 : (0 : Int) ≤ (f : Int) := by omega
      obtain ⟨A', q1, q2, q3, q4⟩ := H1.out
      obtain ⟨ad, cap, ak, ck, e1, _, _, _, _, _, cj, _, _⟩ := q2.look q1 hje
      obtain ⟨ad2, cap2, ak2, ck2, e3, _, _, _, _, _, cf, _, _⟩ := q2.look q1 hfe
      simp only [Value.slice.injEq] at e1 e3
      obtain ⟨rfl, _, rfl⟩ := e1
      obtain ⟨e4, _, _⟩ := e3
      injection e4 with e4
      subst e4
      clear q1 q2 q3 q4 hje hfe
      have H2 := Lib.hid H1.out.drew
      go_wp2_with fail
      refine wp_region_held_drew (S := fun w' => w'.cell? ⟨X, 3, none⟩ = some (.slice (some ad) l.length c1) ∧ w'.cell? ⟨(ad.add (j * 3)).block, (ad.add (j * 3)).off + 2, none⟩ = some (.int .i64 xj.u) ∧ w'.cell? ⟨(ad.add (f * 3)).block, (ad.add (f * 3)).off + 2, none⟩ = some (.int .i64 xf.u)) (by kernel_rfl) ⟨x3, cj, cf⟩ (fun g => ?_)
      clear x3 cj cf H1
      generalize wr.drew = zr at *
      by_cases hu : xj.u < xf.u
      · rw [if_pos hu] at HS
        generalize xj.u = uj at *
        generalize xf.u = uf at *
        refine tq 0 ?_ rfl (by kernel_rfl) (fun _ _ _ h => h) (by rfl) g ?_ ?_; rotate_left
        · intro w9 h9; go_simp; try with_reducible rfl
        simp only [Act.put, ptA, ptB, ptC]
        refine tq 1 ?_ rfl (by kernel_rfl) (fun _ _ _ h => h) (by rfl) g ?_ ?_; rotate_left
        · intro w9 h9; go_simp; try with_reducible rfl
        simp only [Act.put, ptA, ptB, ptC]
        refine tq 2 ?_ rfl (by kernel_rfl) (fun _ _ _ h => h) (by rfl) g ?_ ?_; rotate_left
        · intro w9 h9; go_simp; try with_reducible rfl
        simp only [Act.put, ptA, ptB, ptC]
        refine tq 3 ?_ rfl (by kernel_rfl) (fun _ _ _ h => h) (by rfl) g ?_ ?_; rotate_left
        · intro w9 h9; obtain ⟨h91, h92, h93⟩ := h9; go_simp; try with_reducible rfl
        simp only [Act.put, ptA, ptB, ptC]
        refine tq 4 ?_ rfl (by kernel_rfl) (fun _ _ _ h => h) (by rfl) g ?_ ?_; rotate_left
        · intro w9 h9; go_simp; try with_reducible rfl
        simp only [Act.put, ptA, ptB, ptC]
        refine tq 5 ?_ rfl (by kernel_rfl) (fun _ _ _ h => h) (by rfl) g ?_ ?_; rotate_left
        · intro w9 h9; go_simp; try with_reducible rfl
        simp only [Act.put, ptA, ptB, ptC]
        refine tq 6 ?_ rfl (by kernel_rfl) (fun _ _ _ h => h) (by rfl) g ?_ ?_; rotate_left
        · intro w9 h9; go_simp; try with_reducible rfl
        simp only [Act.put, ptA, ptB, ptC]
        refine tq 7 ?_ rfl (by kernel_rfl) (fun _ _ _ h => h) (by rfl) g ?_ ?_; rotate_left
        · intro w9 h9; obtain ⟨h91, h92, h93⟩ := h9; go_simp; try with_reducible rfl
        simp only [Act.put, ptA, ptB, ptC]
        refine tq 8 ?_ rfl (by kernel_rfl) (fun _ _ _ h => h) (by rfl) g ?_ ?_; rotate_left
        · intro w9 h9; go_simp; try with_reducible rfl
        simp only [Act.put, ptA, ptB, ptC]
        refine tq 9 ?_ rfl (by kernel_rfl) (fun _ _ _ h => h) (by rfl) g ?_ ?_; rotate_left
        · intro w9 h9; go_simp; try with_reducible rfl
        simp only [Act.put, ptA, ptB, ptC]
        refine tq 10 ?_ rfl (by kernel_rfl) (fun _ _ _ h => h) (by rfl) g ?_ ?_; rotate_left
        · intro w9 h9; go_simp; try with_reducible rfl
        simp only [Act.put, ptA, ptB, ptC]
        refine tq 11 ?_ rfl (by kernel_rfl) (fun _ _ _ h => h) (by rfl) g ?_ ?_; rotate_left
        · intro w9 h9; obtain ⟨h91, h92, h93⟩ := h9; go_simp; try with_reducible rfl
        simp only [Act.put, ptA, ptB, ptC]
        refine tq 12 ?_ rfl (by kernel_rfl) (fun _ _ _ h => h) (by rfl) g ?_ ?_; rotate_left
        · intro w9 h9; go_simp; try with_reducible rfl
        simp only [Act.put, ptA, ptB, ptC]
        refine tq 13 ?_ rfl (by kernel_rfl) (fun _ _ _ h => h) (by rfl) g ?_ ?_; rotate_left
        · intro w9 h9; go_simp; try with_reducible rfl
        simp only [Act.put, ptA, ptB, ptC]
        refine tq 14 ?_ rfl (by kernel_rfl) (fun _ _ _ h => h) (by rfl) g ?_ ?_; rotate_left
        · intro w9 h9; go_simp; try with_reducible rfl
        simp only [Act.put, ptA, ptB, ptC]
        refine tq 15 ?_ rfl (by kernel_rfl) (fun _ _ _ h => h) (by rfl) g ?_ ?_; rotate_left
        · intro w9 h9; obtain ⟨h91, h92, h93⟩ := h9; go_simp; try with_reducible rfl
        simp only [Act.put, ptA, ptB, ptC]
        refine tq 16 ?_ rfl (by kernel_rfl) (fun _ _ _ h => h) (by rfl) g ?_ ?_; rotate_left
        · intro w9 h9; go_simp; try with_reducible rfl
        simp only [Act.put, ptA, ptB, ptC]
        clear g
        refine wpAnyH_done (by kernel_rfl) ?_ _
        go_wp2
        go_roundw
        case rel => exact ⟨j + 1, by omega, by rw [HS.out], by go_num, H2⟩
        case measure => simp [intOf]; omega
      · rw [if_neg hu] at HS
        generalize xj.u = uj at *
        generalize xf.u = uf at *
        refine tq 0 ?_ rfl (by kernel_rfl) (fun _ _ _ h => h) (by rfl) g ?_ ?_; rotate_left
        · intro w9 h9; go_simp; try with_reducible rfl
        simp only [Act.put, ptA, ptB, ptC]
        refine tq 1 ?_ rfl (by kernel_rfl) (fun _ _ _ h => h) (by rfl) g ?_ ?_; rotate_left
        · intro w9 h9; go_simp; try with_reducible rfl
        simp only [Act.put, ptA, ptB, ptC]
        refine tq 2 ?_ rfl (by kernel_rfl) (fun _ _ _ h => h) (by rfl) g ?_ ?_; rotate_left
        · intro w9 h9; go_simp; try with_reducible rfl
        simp only [Act.put, ptA, ptB, ptC]
        refine tq 3 ?_ rfl (by kernel_rfl) (fun _ _ _ h => h) (by rfl) g ?_ ?_; rotate_left
        · intro w9 h9; obtain ⟨h91, h92, h93⟩ := h9; go_simp; try with_reducible rfl
        simp only [Act.put, ptA, ptB, ptC]
        refine tq 4 ?_ rfl (by kernel_rfl) (fun _ _ _ h => h) (by rfl) g ?_ ?_; rotate_left
        · intro w9 h9; go_simp; try with_reducible rfl
        simp only [Act.put, ptA, ptB, ptC]
        refine tq 5 ?_ rfl (by kernel_rfl) (fun _ _ _ h => h) (by rfl) g ?_ ?_; rotate_left
        · intro w9 h9; go_simp; try with_reducible rfl
        simp only [Act.put, ptA, ptB, ptC]
        refine tq 6 ?_ rfl (by kernel_rfl) (fun _ _ _ h => h) (by rfl) g ?_ ?_; rotate_left
        · intro w9 h9; go_simp; try with_reducible rfl
        simp only [Act.put, ptA, ptB, ptC]
        refine tq 7 ?_ rfl (by kernel_rfl) (fun _ _ _ h => h) (by rfl) g ?_ ?_; rotate_left
        · intro w9 h9; obtain ⟨h91, h92, h93⟩ := h9; go_simp; try with_reducible rfl
        simp only [Act.put, ptA, ptB, ptC]
        refine tq 8 ?_ rfl (by kernel_rfl) (fun _ _ _ h => h) (by rfl) g ?_ ?_; rotate_left
        · intro w9 h9; go_simp; try with_reducible rfl
        simp only [Act.put, ptA, ptB, ptC]
        refine tq 9 ?_ rfl (by kernel_rfl) (fun _ _ _ h => h) (by rfl) g ?_ ?_; rotate_left
        · intro w9 h9; go_simp; try with_reducible rfl
        simp only [Act.put, ptA, ptB, ptC]
        refine tq 10 ?_ rfl (by kernel_rfl) (fun _ _ _ h => h) (by rfl) g ?_ ?_; rotate_left
        · intro w9 h9; go_simp; try with_reducible rfl
        simp only [Act.put, ptA, ptB, ptC]
        refine tq 11 ?_ rfl (by kernel_rfl) (fun _ _ _ h => h) (by rfl) g ?_ ?_; rotate_left
        · intro w9 h9; obtain ⟨h91, h92, h93⟩ := h9; go_simp; try with_reducible rfl
        simp only [Act.put, ptA, ptB, ptC]
        refine tq 12 ?_ rfl (by kernel_rfl) (fun _ _ _ h => h) (by rfl) g ?_ ?_; rotate_left
        · intro w9 h9; go_simp; try with_reducible rfl
        simp only [Act.put, ptA, ptB, ptC]
        refine tq 13 ?_ rfl (by kernel_rfl) (fun _ _ _ h => h) (by rfl) g ?_ ?_; rotate_left
        · intro w9 h9; go_simp; try with_reducible rfl
        simp only [Act.put, ptA, ptB, ptC]
        refine tq 14 ?_ rfl (by kernel_rfl) (fun _ _ _ h => h) (by rfl) g ?_ ?_; rotate_left
        · intro w9 h9; go_simp; try with_reducible rfl
        simp only [Act.put, ptA, ptB, ptC]
        refine tq 15 ?_ rfl (by kernel_rfl) (fun _ _ _ h => h) (by rfl) g ?_ ?_; rotate_left
        · intro w9 h9; obtain ⟨h91, h92, h93⟩ := h9; go_simp; try with_reducible rfl
        simp only [Act.put, ptA, ptB, ptC]
        refine tq 16 ?_ rfl (by kernel_rfl) (fun _ _ _ h => h) (by rfl) g ?_ ?_; rotate_left
        · intro w9 h9; go_simp; try with_reducible rfl
        simp only [Act.put, ptA, ptB, ptC]
        clear g
        refine wpAnyH_done (by kernel_rfl) ?_ _
        go_wp2
        go_roundw
        case rel => exact ⟨j + 1, by omega, by rw [HS.out], by go_num, H2⟩
        case measure => simp [intOf]; omega
    · have i1 : ¬ (j : Int) < (l.length : Int) := by omega
      obtain rfl : j = l.length := by omega
      have hml := mnt_lt l l.length hpos (Nat.le_refl _)
      obtain ⟨p, hp⟩ : ∃ p, mnt l l.length = p := ⟨_, rfl⟩
      have HPP := Lib.hid hp
      rw [hp] at hml HX9 ⊢
      clear hp
      have p1 : (p : Int) < (l.length : Int) := by omega
      have p0 : (0 : Int) ≤ (p : Int) := by omega
      obtain ⟨A', q1, q2, q3, q4⟩ := H1.out
      obtain ⟨ad, cap, ak, ck, e1, ev, _, _, k0, k1, k2, _, _⟩ := q2.look q1 HX9.out
      simp only [Value.slice.injEq] at e1
      obtain ⟨rfl, _, rfl⟩ := e1
      have HXV := Lib.hid ev
      clear q1 q2 q3 q4 ev
      obtain ⟨b0, d0⟩ := H1.out.box 0
      obtain ⟨b1, d1⟩ := H1.out.box 1
      obtain ⟨b2, d2⟩ := H1.out.box 2
      simp only [List.getElem?_toArray, List.getElem?_cons_zero, List.getElem?_cons_succ] at b0 b1 b2
      have HB := Lib.hid (H1.out.boxed (.slice ak x.k.length ck) (.int .i64 x.c) (.int .i64 x.u))
      go_wp2_with fail
      generalize (((wr.setCell ⟨gx, 0, none⟩ (.slice ak x.k.length ck)).setCell ⟨gx, 1, none⟩ (.int .i64 x.c)).setCell ⟨gx, 2, none⟩ (.int .i64 x.u)) = wb at *
      clear b0 b1 b2 d0 d1 d2 k0 k1 k2 x3 H1
      have WC : Hid (Calls Try.prog 39 #[.pointer (some ⟨X, 0, none⟩), .int .i64 (p : Nat)] wb fun e w' => ∃ v', e = .returned v' ∧ OwnR wb v' w' (l.eraseIdx p)) := Lib.hid (by
        obtain ⟨A', q1, q2, q3, q4⟩ := HB.out
        exact lwithout_c q1 q2 (by omega) p)
      with_reducible refine WC.out.mono ?_
      rintro e w2 ⟨v2, rfl, q⟩
      obtain ⟨L, hL⟩ : ∃ L, l.eraseIdx p = L := ⟨_, rfl⟩
      have HLL := Lib.hid hL
      have hlenL : L.length ≤ 999 := by
        have h1 := List.length_eraseIdx_le l p
        rw [hL] at h1
        omega
      have hm : ∀ e ∈ L, e ∈ l := fun e he => List.mem_of_mem_eraseIdx (by rw [hL]; exact he)
      rw [hL] at q
      obtain ⟨a2, k2, rfl⟩ := q.form
      have H1 := Lib.hid (HB.out.swap q hm)
      have d := (HB.out.grow q.below).hd
      have y3 := d.c3
      have z3 := d.f3
      clear q d hm hL HB WC
      go_wp2_with fail
      generalize (w2.setCell ⟨X, 3, none⟩ (.slice a2 L.length k2)) = wt at *
      clear y3 z3
      have H2 := Lib.hid H1.out.drew
      have x3 := H2.out.hd.c3
      have RK := Lib.hid (H2.out.rd HKR.out)
      refine wp_region_held_drew (S := fun _ => True) (by kernel_rfl) trivial (fun g => ?_)
      clear H1
      generalize wt.drew = z at *
      refine tq 0 ?_ rfl (by kernel_rfl) (fun _ _ _ h => h) (by rfl) g ?_ ?_; rotate_left
      · intro w9 h9; go_simp; try with_reducible rfl
      simp only [Act.put, ptA, ptB, ptC]
      refine tq 1 ?_ rfl (by kernel_rfl) (fun _ _ _ h => h) (by rfl) g ?_ ?_; rotate_left
      · intro w9 h9; go_simp; try with_reducible rfl
      simp only [Act.put, ptA, ptB, ptC]
      refine tq 2 ?_ rfl (by kernel_rfl) (fun _ _ _ h => h) (by rfl) g ?_ ?_; rotate_left
      · intro w9 h9; go_simp; try with_reducible rfl
      simp only [Act.put, ptA, ptB, ptC]
      refine tq 3 ?_ rfl (by kernel_rfl) (fun _ _ _ h => h) (by rfl) g ?_ ?_; rotate_left
      · intro w9 h9; go_simp; try with_reducible rfl
      simp only [Act.put, ptA, ptB, ptC]
      refine tq 5 ?_ rfl (by kernel_rfl) (fun _ _ _ h => h) (by rfl) g ?_ ?_; rotate_left
      · intro w9 h9; go_simp; try with_reducible rfl
      simp only [Act.put, ptA, ptB, ptC]
      refine tq 7 ?_ rfl (by kernel_rfl) (fun _ _ _ h => h) (by rfl) g ?_ ?_; rotate_left
      · intro w9 h9; go_simp; try with_reducible rfl
      simp only [Act.put, ptA, ptB, ptC]
      refine wpAnyH_ready (rs := [4, 6]) (by kernel_rfl) (by simp) (tr 4 rfl (fun K9 hK => ?_) (tr 6 rfl (fun K9 hK => ?_) AllReadyH.nil))
      · go_simp
        refine hK.out _ _ trivial (fun g1 => ?_)
        clear hK K9 g
        have g := g1
        clear g1
        clear x3
        refine tc 6 rfl (by kernel_rfl) (fun K9 hK => ?_)
        go_simp
        with_reducible refine (copyb_any ax n cx ks HNK.out (by omega) _ RK.out).mono ?_
        rintro e z3 ⟨u, rfl, q⟩
        have H3 := Lib.hid (H2.out.copied q)
        obtain ⟨au, cu, rfl, _, _, _⟩ := own_form q.own
        have x3 := H3.out.hd.c3
        clear q H2 RK
        go_simp
        refine hK.out _ _ trivial (fun g1 => ?_)
        clear hK K9 g
        have g := g1
        clear g1
        refine tq 8 ?_ rfl (by kernel_rfl) (fun _ _ _ h => h) (by rfl) g ?_ ?_; rotate_left
        · intro w9 h9; go_simp; try with_reducible rfl
        simp only [Act.put, ptA, ptB, ptC]
        refine tc 9 rfl (by kernel_rfl) (fun K9 hK => ?_)
        have H4 := Lib.hid (H3.out.grow ((Below.refl _ _).alloc (Nat.le_refl _) (.cells #[.slice au ks.length cu, .int .i64 c, .int .i64 0] 60)))
        have NEW : Hid (∀ (i : Nat) (u : Value), [Value.slice au ks.length cu, Value.int .i64 c, Value.int .i64 0][i]? = some u → (z3.alloc (.cells #[.slice au ks.length cu, .int .i64 c, .int .i64 0] 60)).cell? ((⟨z3.heap.size, 0, none⟩ : Addr).add i) = some u) := Lib.hid (fun i u hu => by
          rw [add_zero_at, (Bk.new z3 60 #[.slice au ks.length cu, .int .i64 c, .int .i64 0]).cell i, ← hu]
          simp)
        have x4 := H4.out.hd.c3
        go_simp
        refine hK.out _ _ trivial (fun g1 => ?_)
        clear hK K9 g
        have g := g1
        clear g1
        clear H3 x3
        obtain ⟨zb, hzb⟩ : ∃ zb, z3.heap.size = zb := ⟨_, rfl⟩
        rw [hzb] at NEW ⊢
        generalize (z3.alloc (.cells #[.slice au ks.length cu, .int .i64 c, .int .i64 0] 60)) = z4 at *
        clear hzb
        have OWN := Lib.hid H4.out.own
        refine tc 10 rfl (by kernel_rfl) (fun K9 hK => ?_)
        refine step_append_own_at rfl (.tmp 77) (.tmp 82) _ rfl w0.heap.size 60 i0 _ 3 40 Try.underlying52 hi0 hz0 hz1 hz2 rfl (by decide) (.slice a2 L.length k2) L.length (rflat L) rfl OWN.out.1 ⟨zb, 0, none⟩ 1 1 [.slice au ks.length cu, .int .i64 c, .int .i64 0] rfl rfl NEW.out ?a2 ?a3 ?a4 ?a5 ?_
        case a2 => intro u hu; simp at hu; rcases hu with rfl | rfl | rfl <;> rfl
        case a3 => unfold maxLen; omega
        case a4 => omega
        case a5 => exact OWN.out.2
        intro v9 z9 hown9 hg9 hat9
        have H5 := Lib.hid (H4.out.app c (by rw [HNK.out]; omega) HBY.out hown9 hg9 hat9)
        obtain ⟨av9, cv9, rfl⟩ : ∃ (a : Option Addr) (cc : Nat), v9 = .slice a (L.length + 1) cc := by
          obtain ⟨a, cc, e, _⟩ := H5.out.form
          exact ⟨a, cc, by rw [e]; simp⟩
        have y3 := H5.out.hd.c3
        have y4 := H5.out.hd.f3
        clear hown9 hg9 hat9
        refine hK.out _ _ trivial (fun g1 => ?_)
        clear hK K9 g
        have g := g1
        clear g1
        clear H4 NEW OWN x4
        refine tq 11 ?_ rfl (by kernel_rfl) (fun _ _ _ h => h) (by rfl) g ?_ ?_; rotate_left
        · intro w9 h9; go_simp; try with_reducible rfl
        simp only [Act.put, ptA, ptB, ptC]
        refine tq 12 ?_ rfl (by kernel_rfl) (fun _ _ _ h => h) (by rfl) g ?_ ?_; rotate_left
        · intro w9 h9; go_simp; try with_reducible rfl
        simp only [Act.put, ptA, ptB, ptC]
        refine tc 13 rfl (by kernel_rfl) (fun K9 hK => ?_)
        have H6 := Lib.hid H5.out.put
        go_simp
        refine hK.out _ _ trivial (fun g1 => ?_)
        clear hK K9 g
        have g := g1
        clear g1
        clear y3 y4 H5
        generalize (z9.setCell ⟨X, 3, none⟩ (.slice av9 (L.length + 1) cv9)) = z10 at *
        clear g
        refine wpAnyH_done (by kernel_rfl) ?_ _
        clear z9 z4
        have x3 := H6.out.hd.c3
        have i5 : IntKind.i64.wrap ((L.length : Int) + 1 - 1) = (L.length : Int) := by rw [IntWalk.i64_in _ (by omega)]; omega
        have i6 : IntKind.i64.wrap (((L.length + 1 : Nat) : Int) - 1) = (L.length : Int) := by rw [IntWalk.i64_in _ (by omega)]; omega
        go_wp2_with fail
        obtain ⟨A6, l6, h6, b6, f6⟩ := H6.out
        have HF6 := Lib.hid f6
        have HB6 := Lib.hid b6
        have HJ : (L ++ [(⟨.slice au ks.length cu, ks, c, 0, t⟩ : Rw)])[L.length]? = some ⟨.slice au ks.length cu, ks, c, 0, t⟩ := by rw [List.getElem?_append_right (Nat.le_refl _), Nat.sub_self]; rfl
        have LU := Lib.hid (luse_c l6 h6 hU HJ)
        clear l6 h6 b6 f6 HJ x3
        with_reducible refine LU.out.mono ?_
        rintro e z11 ⟨rfl, A7, l7, h7, f7⟩
        have b7 := (f7 (104, 0) (by simp) (by simp)).trans HB6.out
        have y0 := (l7.bk b7).cell 0
        have y1 := (l7.bk b7).cell 1
        simp only [List.getElem?_toArray, List.getElem?_cons_zero, List.getElem?_cons_succ] at y0 y1
        have HD : Hid (PutD w0 A X K M U c L t ks z11.drew) := Lib.hid ⟨A7, _, .slice au ks.length cu, l7.drew, by
          have h8 := h7
          rw [List.set_append_right _ _ (Nat.le_refl _), Nat.sub_self] at h8
          exact h8, fun x a b cc d => (f7 x (ne_1 a) (ne_1 b)).trans (HF6.out x a b cc d)⟩
        clear l7 h7 f7 b7 LU HF6 HB6 H6
        go_wp2_with fail
        refine wp_region_held_drew (S := fun w' => w'.cell? ⟨gx, 0, none⟩ = some (.slice ak x.k.length ck) ∧ w'.cell? ⟨gx, 1, none⟩ = some (.int .i64 x.c)) (by kernel_rfl) ⟨y0, y1⟩ (fun g => ?_)
        clear y0 y1
        generalize z11.drew = z12 at *
        refine tq 0 ?_ rfl (by kernel_rfl) (fun _ _ _ h => h) (by rfl) g ?_ ?_; rotate_left
        · intro w9 h9; go_simp; try with_reducible rfl
        simp only [Act.put, ptA, ptB, ptC]
        refine tq 1 ?_ rfl (by kernel_rfl) (fun _ _ _ h => h) (by rfl) g ?_ ?_; rotate_left
        · intro w9 h9; obtain ⟨h91, h92⟩ := h9; go_simp; try with_reducible rfl
        simp only [Act.put, ptA, ptB, ptC]
        refine tq 2 ?_ rfl (by kernel_rfl) (fun _ _ _ h => h) (by rfl) g ?_ ?_; rotate_left
        · intro w9 h9; go_simp; try with_reducible rfl
        simp only [Act.put, ptA, ptB, ptC]
        refine tq 3 ?_ rfl (by kernel_rfl) (fun _ _ _ h => h) (by rfl) g ?_ ?_; rotate_left
        · intro w9 h9; obtain ⟨h91, h92⟩ := h9; go_simp; try with_reducible rfl
        simp only [Act.put, ptA, ptB, ptC]
        refine tq 4 ?_ rfl (by kernel_rfl) (fun _ _ _ h => h) (by rfl) g ?_ ?_; rotate_left
        · intro w9 h9; go_simp; try with_reducible rfl
        simp only [Act.put, ptA, ptB, ptC]
        refine tq 5 ?_ rfl (by kernel_rfl) (fun _ _ _ h => h) (by rfl) g ?_ ?_; rotate_left
        · intro w9 h9; go_simp; try with_reducible rfl
        simp only [Act.put, ptA, ptB, ptC]
        refine tq 6 ?_ rfl (by kernel_rfl) (fun _ _ _ h => h) (by rfl) g ?_ ?_; rotate_left
        · intro w9 h9; go_simp; try with_reducible rfl
        simp only [Act.put, ptA, ptB, ptC]
        clear g
        refine wpAnyH_done (by kernel_rfl) ?_ _
        go_wp2
        go_ret3
        exact ⟨by rw [HXV.out]; rfl, by rw [HPP.out, HLL.out]; exact HD.out⟩
      · go_simp
        with_reducible refine (copyb_any ax n cx ks HNK.out (by omega) _ RK.out).mono ?_
        rintro e z3 ⟨u, rfl, q⟩
        have H3 := Lib.hid (H2.out.copied q)
        obtain ⟨au, cu, rfl, _, _, _⟩ := own_form q.own
        have x3 := H3.out.hd.c3
        clear q H2 RK
        go_simp
        refine hK.out _ _ trivial (fun g1 => ?_)
        clear hK K9 g
        have g := g1
        clear g1
        refine tq 8 ?_ rfl (by kernel_rfl) (fun _ _ _ h => h) (by rfl) g ?_ ?_; rotate_left
        · intro w9 h9; go_simp; try with_reducible rfl
        simp only [Act.put, ptA, ptB, ptC]
        refine wpAnyH_ready (rs := [4, 9]) (by kernel_rfl) (by simp) (tr 4 rfl (fun K9 hK => ?_) (tr 9 rfl (fun K9 hK => ?_) AllReadyH.nil))
        · go_simp
          refine hK.out _ _ trivial (fun g1 => ?_)
          clear hK K9 g
          have g := g1
          clear g1
          refine tc 9 rfl (by kernel_rfl) (fun K9 hK => ?_)
          have H4 := Lib.hid (H3.out.grow ((Below.refl _ _).alloc (Nat.le_refl _) (.cells #[.slice au ks.length cu, .int .i64 c, .int .i64 0] 60)))
          have NEW : Hid (∀ (i : Nat) (u : Value), [Value.slice au ks.length cu, Value.int .i64 c, Value.int .i64 0][i]? = some u → (z3.alloc (.cells #[.slice au ks.length cu, .int .i64 c, .int .i64 0] 60)).cell? ((⟨z3.heap.size, 0, none⟩ : Addr).add i) = some u) := Lib.hid (fun i u hu => by
            rw [add_zero_at, (Bk.new z3 60 #[.slice au ks.length cu, .int .i64 c, .int .i64 0]).cell i, ← hu]
            simp)
          have x4 := H4.out.hd.c3
          go_simp
          refine hK.out _ _ trivial (fun g1 => ?_)
          clear hK K9 g
          have g := g1
          clear g1
          clear H3 x3
          obtain ⟨zb, hzb⟩ : ∃ zb, z3.heap.size = zb := ⟨_, rfl⟩
          rw [hzb] at NEW ⊢
          generalize (z3.alloc (.cells #[.slice au ks.length cu, .int .i64 c, .int .i64 0] 60)) = z4 at *
          clear hzb
          have OWN := Lib.hid H4.out.own
          refine tc 10 rfl (by kernel_rfl) (fun K9 hK => ?_)
          refine step_append_own_at rfl (.tmp 77) (.tmp 82) _ rfl w0.heap.size 60 i0 _ 3 40 Try.underlying52 hi0 hz0 hz1 hz2 rfl (by decide) (.slice a2 L.length k2) L.length (rflat L) rfl OWN.out.1 ⟨zb, 0, none⟩ 1 1 [.slice au ks.length cu, .int .i64 c, .int .i64 0] rfl rfl NEW.out ?a2 ?a3 ?a4 ?a5 ?_
          case a2 => intro u hu; simp at hu; rcases hu with rfl | rfl | rfl <;> rfl
          case a3 => unfold maxLen; omega
          case a4 => omega
          case a5 => exact OWN.out.2
          intro v9 z9 hown9 hg9 hat9
          have H5 := Lib.hid (H4.out.app c (by rw [HNK.out]; omega) HBY.out hown9 hg9 hat9)
          obtain ⟨av9, cv9, rfl⟩ : ∃ (a : Option Addr) (cc : Nat), v9 = .slice a (L.length + 1) cc := by
            obtain ⟨a, cc, e, _⟩ := H5.out.form
            exact ⟨a, cc, by rw [e]; simp⟩
          have y3 := H5.out.hd.c3
          have y4 := H5.out.hd.f3
          clear hown9 hg9 hat9
          refine hK.out _ _ trivial (fun g1 => ?_)
          clear hK K9 g
          have g := g1
          clear g1
          clear H4 NEW OWN x4
          refine tq 11 ?_ rfl (by kernel_rfl) (fun _ _ _ h => h) (by rfl) g ?_ ?_; rotate_left
          · intro w9 h9; go_simp; try with_reducible rfl
          simp only [Act.put, ptA, ptB, ptC]
          refine tq 12 ?_ rfl (by kernel_rfl) (fun _ _ _ h => h) (by rfl) g ?_ ?_; rotate_left
          · intro w9 h9; go_simp; try with_reducible rfl
          simp only [Act.put, ptA, ptB, ptC]
          refine tc 13 rfl (by kernel_rfl) (fun K9 hK => ?_)
          have H6 := Lib.hid H5.out.put
          go_simp
          refine hK.out _ _ trivial (fun g1 => ?_)
          clear hK K9 g
          have g := g1
          clear g1
          clear y3 y4 H5
          generalize (z9.setCell ⟨X, 3, none⟩ (.slice av9 (L.length + 1) cv9)) = z10 at *
          clear g
          refine wpAnyH_done (by kernel_rfl) ?_ _
          clear z9 z4
          have x3 := H6.out.hd.c3
          have i5 : IntKind.i64.wrap ((L.length : Int) + 1 - 1) = (L.length : Int) := by rw [IntWalk.i64_in _ (by omega)]; omega
          have i6 : IntKind.i64.wrap (((L.length + 1 : Nat) : Int) - 1) = (L.length : Int) := by rw [IntWalk.i64_in _ (by omega)]; omega
          go_wp2_with fail
          obtain ⟨A6, l6, h6, b6, f6⟩ := H6.out
          have HF6 := Lib.hid f6
          have HB6 := Lib.hid b6
          have HJ : (L ++ [(⟨.slice au ks.length cu, ks, c, 0, t⟩ : Rw)])[L.length]? = some ⟨.slice au ks.length cu, ks, c, 0, t⟩ := by rw [List.getElem?_append_right (Nat.le_refl _), Nat.sub_self]; rfl
          have LU := Lib.hid (luse_c l6 h6 hU HJ)
          clear l6 h6 b6 f6 HJ x3
          with_reducible refine LU.out.mono ?_
          rintro e z11 ⟨rfl, A7, l7, h7, f7⟩
          have b7 := (f7 (104, 0) (by simp) (by simp)).trans HB6.out
          have y0 := (l7.bk b7).cell 0
          have y1 := (l7.bk b7).cell 1
          simp only [List.getElem?_toArray, List.getElem?_cons_zero, List.getElem?_cons_succ] at y0 y1
          have HD : Hid (PutD w0 A X K M U c L t ks z11.drew) := Lib.hid ⟨A7, _, .slice au ks.length cu, l7.drew, by
            have h8 := h7
            rw [List.set_append_right _ _ (Nat.le_refl _), Nat.sub_self] at h8
            exact h8, fun x a b cc d => (f7 x (ne_1 a) (ne_1 b)).trans (HF6.out x a b cc d)⟩
          clear l7 h7 f7 b7 LU HF6 HB6 H6
          go_wp2_with fail
          refine wp_region_held_drew (S := fun w' => w'.cell? ⟨gx, 0, none⟩ = some (.slice ak x.k.length ck) ∧ w'.cell? ⟨gx, 1, none⟩ = some (.int .i64 x.c)) (by kernel_rfl) ⟨y0, y1⟩ (fun g => ?_)
          clear y0 y1
          generalize z11.drew = z12 at *
          refine tq 0 ?_ rfl (by kernel_rfl) (fun _ _ _ h => h) (by rfl) g ?_ ?_; rotate_left
          · intro w9 h9; go_simp; try with_reducible rfl
          simp only [Act.put, ptA, ptB, ptC]
          refine tq 1 ?_ rfl (by kernel_rfl) (fun _ _ _ h => h) (by rfl) g ?_ ?_; rotate_left
          · intro w9 h9; obtain ⟨h91, h92⟩ := h9; go_simp; try with_reducible rfl
          simp only [Act.put, ptA, ptB, ptC]
          refine tq 2 ?_ rfl (by kernel_rfl) (fun _ _ _ h => h) (by rfl) g ?_ ?_; rotate_left
          · intro w9 h9; go_simp; try with_reducible rfl
          simp only [Act.put, ptA, ptB, ptC]
          refine tq 3 ?_ rfl (by kernel_rfl) (fun _ _ _ h => h) (by rfl) g ?_ ?_; rotate_left
          · intro w9 h9; obtain ⟨h91, h92⟩ := h9; go_simp; try with_reducible rfl
          simp only [Act.put, ptA, ptB, ptC]
          refine tq 4 ?_ rfl (by kernel_rfl) (fun _ _ _ h => h) (by rfl) g ?_ ?_; rotate_left
          · intro w9 h9; go_simp; try with_reducible rfl
          simp only [Act.put, ptA, ptB, ptC]
          refine tq 5 ?_ rfl (by kernel_rfl) (fun _ _ _ h => h) (by rfl) g ?_ ?_; rotate_left
          · intro w9 h9; go_simp; try with_reducible rfl
          simp only [Act.put, ptA, ptB, ptC]
          refine tq 6 ?_ rfl (by kernel_rfl) (fun _ _ _ h => h) (by rfl) g ?_ ?_; rotate_left
          · intro w9 h9; go_simp; try with_reducible rfl
          simp only [Act.put, ptA, ptB, ptC]
          clear g
          refine wpAnyH_done (by kernel_rfl) ?_ _
          go_wp2
          go_ret3
          exact ⟨by rw [HXV.out]; rfl, by rw [HPP.out, HLL.out]; exact HD.out⟩
        · have H4 := Lib.hid (H3.out.grow ((Below.refl _ _).alloc (Nat.le_refl _) (.cells #[.slice au ks.length cu, .int .i64 c, .int .i64 0] 60)))
          have NEW : Hid (∀ (i : Nat) (u : Value), [Value.slice au ks.length cu, Value.int .i64 c, Value.int .i64 0][i]? = some u → (z3.alloc (.cells #[.slice au ks.length cu, .int .i64 c, .int .i64 0] 60)).cell? ((⟨z3.heap.size, 0, none⟩ : Addr).add i) = some u) := Lib.hid (fun i u hu => by
            rw [add_zero_at, (Bk.new z3 60 #[.slice au ks.length cu, .int .i64 c, .int .i64 0]).cell i, ← hu]
            simp)
          have x4 := H4.out.hd.c3
          go_simp
          refine hK.out _ _ trivial (fun g1 => ?_)
          clear hK K9 g
          have g := g1
          clear g1
          clear H3 x3
          obtain ⟨zb, hzb⟩ : ∃ zb, z3.heap.size = zb := ⟨_, rfl⟩
          rw [hzb] at NEW ⊢
          generalize (z3.alloc (.cells #[.slice au ks.length cu, .int .i64 c, .int .i64 0] 60)) = z4 at *
          clear hzb
          refine tc 4 rfl (by kernel_rfl) (fun K9 hK => ?_)
          go_simp
          refine hK.out _ _ trivial (fun g1 => ?_)
          clear hK K9 g
          have g := g1
          clear g1
          have OWN := Lib.hid H4.out.own
          refine tc 10 rfl (by kernel_rfl) (fun K9 hK => ?_)
          refine step_append_own_at rfl (.tmp 77) (.tmp 82) _ rfl w0.heap.size 60 i0 _ 3 40 Try.underlying52 hi0 hz0 hz1 hz2 rfl (by decide) (.slice a2 L.length k2) L.length (rflat L) rfl OWN.out.1 ⟨zb, 0, none⟩ 1 1 [.slice au ks.length cu, .int .i64 c, .int .i64 0] rfl rfl NEW.out ?a2 ?a3 ?a4 ?a5 ?_
          case a2 => intro u hu; simp at hu; rcases hu with rfl | rfl | rfl <;> rfl
          case a3 => unfold maxLen; omega
          case a4 => omega
          case a5 => exact OWN.out.2
          intro v9 z9 hown9 hg9 hat9
          have H5 := Lib.hid (H4.out.app c (by rw [HNK.out]; omega) HBY.out hown9 hg9 hat9)
          obtain ⟨av9, cv9, rfl⟩ : ∃ (a : Option Addr) (cc : Nat), v9 = .slice a (L.length + 1) cc := by
            obtain ⟨a, cc, e, _⟩ := H5.out.form
            exact ⟨a, cc, by rw [e]; simp⟩
          have y3 := H5.out.hd.c3
          have y4 := H5.out.hd.f3
          clear hown9 hg9 hat9
          refine hK.out _ _ trivial (fun g1 => ?_)
          clear hK K9 g
          have g := g1
          clear g1
          clear H4 NEW OWN x4
          refine tq 11 ?_ rfl (by kernel_rfl) (fun _ _ _ h => h) (by rfl) g ?_ ?_; rotate_left
          · intro w9 h9; go_simp; try with_reducible rfl
          simp only [Act.put, ptA, ptB, ptC]
          refine tq 12 ?_ rfl (by kernel_rfl) (fun _ _ _ h => h) (by rfl) g ?_ ?_; rotate_left
          · intro w9 h9; go_simp; try with_reducible rfl
          simp only [Act.put, ptA, ptB, ptC]
          refine tc 13 rfl (by kernel_rfl) (fun K9 hK => ?_)
          have H6 := Lib.hid H5.out.put
          go_simp
          refine hK.out _ _ trivial (fun g1 => ?_)
          clear hK K9 g
          have g := g1
          clear g1
          clear y3 y4 H5
          generalize (z9.setCell ⟨X, 3, none⟩ (.slice av9 (L.length + 1) cv9)) = z10 at *
          clear g
          refine wpAnyH_done (by kernel_rfl) ?_ _
          clear z9 z4
          have x3 := H6.out.hd.c3
          have i5 : IntKind.i64.wrap ((L.length : Int) + 1 - 1) = (L.length : Int) := by rw [IntWalk.i64_in _ (by omega)]; omega
          have i6 : IntKind.i64.wrap (((L.length + 1 : Nat) : Int) - 1) = (L.length : Int) := by rw [IntWalk.i64_in _ (by omega)]; omega
          go_wp2_with fail
          obtain ⟨A6, l6, h6, b6, f6⟩ := H6.out
          have HF6 := Lib.hid f6
          have HB6 := Lib.hid b6
          have HJ : (L ++ [(⟨.slice au ks.length cu, ks, c, 0, t⟩ : Rw)])[L.length]? = some ⟨.slice au ks.length cu, ks, c, 0, t⟩ := by rw [List.getElem?_append_right (Nat.le_refl _), Nat.sub_self]; rfl
          have LU := Lib.hid (luse_c l6 h6 hU HJ)
          clear l6 h6 b6 f6 HJ x3
          with_reducible refine LU.out.mono ?_
          rintro e z11 ⟨rfl, A7, l7, h7, f7⟩
          have b7 := (f7 (104, 0) (by simp) (by simp)).trans HB6.out
          have y0 := (l7.bk b7).cell 0
          have y1 := (l7.bk b7).cell 1
          simp only [List.getElem?_toArray, List.getElem?_cons_zero, List.getElem?_cons_succ] at y0 y1
          have HD : Hid (PutD w0 A X K M U c L t ks z11.drew) := Lib.hid ⟨A7, _, .slice au ks.length cu, l7.drew, by
            have h8 := h7
            rw [List.set_append_right _ _ (Nat.le_refl _), Nat.sub_self] at h8
            exact h8, fun x a b cc d => (f7 x (ne_1 a) (ne_1 b)).trans (HF6.out x a b cc d)⟩
          clear l7 h7 f7 b7 LU HF6 HB6 H6
          go_wp2_with fail
          refine wp_region_held_drew (S := fun w' => w'.cell? ⟨gx, 0, none⟩ = some (.slice ak x.k.length ck) ∧ w'.cell? ⟨gx, 1, none⟩ = some (.int .i64 x.c)) (by kernel_rfl) ⟨y0, y1⟩ (fun g => ?_)
          clear y0 y1
          generalize z11.drew = z12 at *
          refine tq 0 ?_ rfl (by kernel_rfl) (fun _ _ _ h => h) (by rfl) g ?_ ?_; rotate_left
          · intro w9 h9; go_simp; try with_reducible rfl
          simp only [Act.put, ptA, ptB, ptC]
          refine tq 1 ?_ rfl (by kernel_rfl) (fun _ _ _ h => h) (by rfl) g ?_ ?_; rotate_left
          · intro w9 h9; obtain ⟨h91, h92⟩ := h9; go_simp; try with_reducible rfl
          simp only [Act.put, ptA, ptB, ptC]
          refine tq 2 ?_ rfl (by kernel_rfl) (fun _ _ _ h => h) (by rfl) g ?_ ?_; rotate_left
          · intro w9 h9; go_simp; try with_reducible rfl
          simp only [Act.put, ptA, ptB, ptC]
          refine tq 3 ?_ rfl (by kernel_rfl) (fun _ _ _ h => h) (by rfl) g ?_ ?_; rotate_left
          · intro w9 h9; obtain ⟨h91, h92⟩ := h9; go_simp; try with_reducible rfl
          simp only [Act.put, ptA, ptB, ptC]
          refine tq 4 ?_ rfl (by kernel_rfl) (fun _ _ _ h => h) (by rfl) g ?_ ?_; rotate_left
          · intro w9 h9; go_simp; try with_reducible rfl
          simp only [Act.put, ptA, ptB, ptC]
          refine tq 5 ?_ rfl (by kernel_rfl) (fun _ _ _ h => h) (by rfl) g ?_ ?_; rotate_left
          · intro w9 h9; go_simp; try with_reducible rfl
          simp only [Act.put, ptA, ptB, ptC]
          refine tq 6 ?_ rfl (by kernel_rfl) (fun _ _ _ h => h) (by rfl) g ?_ ?_; rotate_left
          · intro w9 h9; go_simp; try with_reducible rfl
          simp only [Act.put, ptA, ptB, ptC]
          clear g
          refine wpAnyH_done (by kernel_rfl) ?_ _
          go_wp2
          go_ret3
          exact ⟨by rw [HXV.out]; rfl, by rw [HPP.out, HLL.out]; exact HD.out⟩
end
end Go.Proofs.Ythappjbghlifbaa
