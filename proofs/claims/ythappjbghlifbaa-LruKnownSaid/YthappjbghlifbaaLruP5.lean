/-
  Layer 11's program: Put: contract. No conditions.
-/
import Derived.Test.YthappjbghlifbaaLruP4
namespace Go.Proofs.Ythappjbghlifbaa
set_option maxRecDepth 100000
open Go.RowKit Ow Ro K2
set_option linter.unusedVariables false
set_option linter.unusedSimpArgs false
/-- An append to the entries. -/
theorem papp {w0 w : World} {A : Ac} {r : Rl} {v : Value} {o : KO} (ty : TypeId) (hl : Lay w0 A w) (h : PRow A r v o) (hn : o.length ≤ 1000) (x : List Int × Int) (ad : Addr) (c : Nat) (hx : ∀ j u, (pcells x)[j]? = some u → w.cell? (ad.add j) = some u) :
    ∃ v' w' A', (Builtin.append_ #[49, 49] ty #[v, .slice (some ad) 1 c]).run Try.prog w = .ok v' w' ∧ Lay w0 A' w' ∧ PRow A' r v' (o ++ [x]) ∧ (∀ y, y ≠ r → A' y = A y) := by
  have hx1 : pflat [x] = pcells x := by simp [pflat]
  obtain ⟨a, cap, rfl, h1, h2, h3⟩ := h.form
  have grow : o.length = cap → ∃ v' w' A', (Builtin.append_ #[49, 49] ty #[.slice a o.length cap, .slice (some ad) 1 c]).run Try.prog w = .ok v' w' ∧ Lay w0 A' w' ∧ PRow A' r v' (o ++ [x]) ∧ (∀ y, y ≠ r → A' y = A y) := fun he => by
    obtain ⟨v', w', hr, hown, hb⟩ := grows w ty a o.length cap (pflat o) (pflat_len o) (fun ad' e j u hu => by
        subst e
        have h0 : 0 < o.length := by
          have := (List.getElem?_eq_some_iff.1 hu).1
          rw [pflat_len] at this
          omega
        obtain ⟨g, cap', e, _, _, _, _, hlook⟩ := h.look hl h0
        simp only [Value.slice.injEq, Option.some.injEq] at e
        obtain ⟨rfl, _⟩ := e
        rw [add_zero_at]
        exact (hlook w (Below.refl _ _)).1 j u hu) (fun e => by rw [(h3 e).1]; rfl) ad 1 c (pflat [x]) (by rw [pflat_len]; rfl) (by rw [hx1]; exact hx) (pflat_one _) (by omega) (by omega)
    obtain ⟨A2, l2, r2, f2⟩ := hl.newRow r hb hown (Nat.le_refl _)
    refine ⟨v', w', A2, hr, l2, ?_, f2⟩
    rcases r2.2 with ⟨e, e2⟩ | ⟨g, cap, cur, e, hr, c1, c2, c3, c4⟩
    · omega
    · exact .inr ⟨g, cap, cur, by rw [e]; simp, hr, by simpa using c1, c2, by omega, by
        rw [List.length_append, pflat_app]
        exact c4⟩
  by_cases he : o.length = cap
  · exact grow he
  · rcases h with ⟨e, rfl⟩ | ⟨g, cap', cur, e, hr, _, _, hc3, hc4⟩
    · simp only [Value.slice.injEq] at e
      exact absurd e.2.2.symm (by simpa using he)
    · simp only [Value.slice.injEq] at e
      obtain ⟨rfl, _, rfl⟩ := e
      obtain ⟨i0, hi0, hz0, hz1, hz2⟩ := info10 entry_info
      have hb := hl.bk hr
      have hsrc := Src.ofSlice (P := Try.prog) w (size := i0.size) (tx := 49) Try.underlying49 ad 1 c (pflat [x]) (by rw [hz1, pflat_len]; rfl) (by rw [hx1]; exact hx) (pflat_one _)
      have hlen : (pflat [x]).length = 2 := by rw [pflat_len]; rfl
      have hr2 := run_append_room_src (P := Try.prog) w 49 49 ty _ i0 Try.underlying49 hi0 g 0 o.length cap (.slice (some ad) 1 c) 1 (pflat [x]) hsrc (by omega) (fun j hj => by
        rw [hz1, hb.cell, Array.getElem?_eq_getElem (by omega)]; rfl) (fun j hj => hb.frozen _)
      rw [hz1, Nat.zero_add] at hr2
      obtain ⟨c1, hb1, hs1, hl1⟩ := bk_setCells hb (pflat [x]) (o.length * 2) (by omega)
      refine ⟨_, _, _, hr2, hl.put hr (grown_setCells w g _ _) hb1, .inr ⟨g, cap, c1, by simp, up_same _ _ _ _, by simp; omega, h2, by omega, ?_⟩, fun y hy => up_other _ _ _ hy⟩
      rw [hl1, hc4, ← pflat_app]
      exact List.take_left' (by rw [pflat_len])
theorem OG.add {K M : Int} {o : KO} (h : OG K M o) (ks : List Int) (c : Int) (hk : (ks.length : Int) = K) (hby : ∀ b ∈ ks, 0 ≤ b ∧ b ≤ 255) (hno : ∀ e ∈ o, e.1 ≠ ks) (hs : (o.length : Int) < M) : OG K M (o ++ [(ks, c)]) := by
  refine ⟨fun e he => ?_, fun e he => ?_, ?_, by rw [List.length_append, List.length_singleton]; omega, h.K1, h.K2, h.M1, h.M2⟩
  · rcases List.mem_append.1 he with h1 | h1
    · exact h.len e h1
    · rw [List.mem_singleton] at h1; subst h1; exact hk
  · rcases List.mem_append.1 he with h1 | h1
    · exact h.byt e h1
    · rw [List.mem_singleton] at h1; subst h1; exact hby
  · rw [List.pairwise_append]
    refine ⟨h.nd, List.pairwise_singleton _ _, fun a ha b hb => ?_⟩
    rw [List.mem_singleton] at hb
    subst hb
    exact hno a ha
/-- What a Put answers. -/
def PutZ (k : Nat) (w0 : World) (A : Ac) (X : Nat) (K M : Int) (o2 : KO) (x : List Int × Int) (er : Int) (e : Ending) (w' : World) : Prop := ∃ v A', e = putV v x.2 er ∧ Lay w0 A' w' ∧ PL k A' X K M o2 ∧ Gone A' v x.1 ∧ Fg k A A'
section
variable {w0 w : World} {A : Ac} {k X : Nat} {K M : Int} {o : KO}
theorem pput_size (hl : Lay w0 A w) (h : PL k A X K M o) (a : Option Addr) (n cx : Nat) (c : Int) (hK : ¬ (n : Int) = K) :
    Calls Try.prog 17 #[.pointer (some ⟨X, 0, none⟩), .slice a n cx, .int .i64 c] w (PutZ k w0 A X K M o ([], 0) 14) := by
  obtain ⟨v, hx⟩ := h
  have x0 := (hx.hd hl).c0
  have i1 : ((n : Int) != K) = true := by simpa using hK
  have HD : Hid (PutZ k w0 A X K M o ([], 0) 14 (putV (.slice none 0 0) 0 14) w) := Lib.hid ⟨_, A, rfl, hl, ⟨v, hx⟩, .inl ⟨rfl, rfl⟩, Fg.refl⟩
  clear hl hx
  go_enter Try.func17, Try.ntmps17
  go_wp2
  go_ret3
  exact HD.out
theorem pput_twice (hl : Lay w0 A w) (h : PL k A X K M o) (a : Option Addr) (n cx : Nat) (ks : List Int) (hn : ks.length = n) (hby : ∀ x ∈ ks, 0 ≤ x ∧ x ≤ 255) (hr : Rd w w.heap.size a (bv ks)) (c : Int) (hK : (n : Int) = K) (p : Nat) (hp : pix o ks = some p) :
    Calls Try.prog 17 #[.pointer (some ⟨X, 0, none⟩), .slice a n cx, .int .i64 c] w (PutZ k w0 A X K M o ([], 0) 11) := by
  obtain ⟨v, hx⟩ := h
  have x0 := (hx.hd hl).c0
  have WC := Lib.hid (where_p hl hx a n cx ks hn hby hr)
  rw [hp] at WC
  have i1 : ((n : Int) != K) = false := by simpa using hK
  have i2 : (p : Int) ≥ 0 := by omega
  have HD : Hid (∀ w', Below w.heap.size w w' → PutZ k w0 A X K M o ([], 0) 11 (putV (.slice none 0 0) 0 11) w') := Lib.hid (fun w' hb => ⟨_, A, rfl, hl.grow hb, ⟨v, hx⟩, .inl ⟨rfl, rfl⟩, Fg.refl⟩)
  unfold ixV at WC
  clear hl hx hn hby hr hp
  go_enter Try.func17, Try.ntmps17
  go_wp2_with fail
  with_reducible refine WC.out.mono ?_
  rintro e w1 ⟨rfl, q⟩
  have HE := Lib.hid (HD.out w1 q)
  clear q HD WC
  go_wp2
  go_ret3
  exact HE.out
set_option maxHeartbeats 2000000 in
theorem pput_new (hl : Lay w0 A w) (h : PL k A X K M o) (a : Option Addr) (n cx : Nat) (ks : List Int) (hn : ks.length = n) (hby : ∀ x ∈ ks, 0 ≤ x ∧ x ≤ 255) (hr : KDp k w0 A a ks) (c : Int) (hK : (n : Int) = K) (hp : pix o ks = none) :
    Calls Try.prog 17 #[.pointer (some ⟨X, 0, none⟩), .slice a n cx, .int .i64 c] w (PutZ k w0 A X K M ((ks, c) :: rest M o) (oldest M o) 0) := by
  obtain ⟨v, hx⟩ := h
  have x0 := (hx.hd hl).c0
  have WC := Lib.hid (where_p hl hx a n cx ks hn hby (hr.rd hl))
  rw [hp] at WC
  have RC : Hid (∀ w', Below w.heap.size w w' → Calls Try.prog 35 #[.pointer (some ⟨X, 0, none⟩)] w' (RoomP k w0 A X K M (rest M o) (oldest M o))) := Lib.hid (fun w' hb => room_p (hl.grow hb) hx)
  have i1 : ((n : Int) != K) = false := by simpa using hK
  have HNO : Hid (∀ e ∈ rest M o, e.1 ≠ ks) := Lib.hid (fun e he => by
    unfold pix at hp
    rw [List.findIdx?_eq_none_iff] at hp
    have hm : e ∈ o := by
      unfold rest at he
      split at he
      · exact (List.dropLast_sublist o).subset he
      · exact he
    simpa using hp e hm)
  have HSM : Hid (((rest M o).length : Int) < M) := Lib.hid (by
    have hs := hx.good.small
    have hM1 := hx.good.M1
    unfold rest
    split
    · rw [List.length_dropLast]; omega
    · omega)
  have HKR := Lib.hid hr
  have HNK := Lib.hid hn
  have HBY := Lib.hid hby
  have HKK : Hid ((ks.length : Int) = K) := Lib.hid (by rw [hn]; exact hK)
  unfold ixV at WC
  clear hl hx hr hn hby hp hK
  generalize rest M o = o2 at *
  generalize oldest M o = x9 at *
  go_enter Try.func17, Try.ntmps17
  go_wp2_with fail
  with_reducible refine WC.out.mono ?_
  rintro e w1 ⟨rfl, q⟩
  have RC1 := Lib.hid (RC.out w1 q)
  clear q RC WC x0
  go_wp2_with fail
  with_reducible refine RC1.out.mono ?_
  rintro e w2 ⟨v9, A2, rfl, l2, ⟨v2, p2⟩, hg2, f2⟩
  obtain ⟨x91, x92⟩ := x9
  obtain ⟨a9, k9, rfl⟩ := hg2.form
  have HL2 := Lib.hid l2.drew
  have HP2 := Lib.hid p2
  have HG2 := Lib.hid hg2
  have HF2 := Lib.hid f2
  obtain ⟨av, cv, rfl, hc1, hc2, _⟩ := p2.row.form
  have hl2 := p2.good.small
  have hM2 := p2.good.M2
  have hd := p2.hd l2.drew
  have c2 := hd.c2
  have RK := Lib.hid (HKR.out A2 w2.drew HL2.out f2)
  have HCV : Hid (∀ z, Rd z w2.drew.heap.size a (bv ks) → (convert 27 9 (.slice a n cx)).run Try.prog z = .ok (.string (strOfNums ks)) z) := Lib.hid (fun z hz => conv_str z _ a n cx ks HNK.out HBY.out hz)
  have s2 := HCV.out w2.drew RK.out
  clear l2 p2 hg2 f2 RC1 hd
  dsimp only
  go_wp2_with fail
  refine wp_region_last (S := fun w' => w'.cell? ⟨X, 2, none⟩ = some (.slice av o2.length cv) ∧ (convert 27 9 (.slice a n cx)).run Try.prog w' = .ok (.string (strOfNums ks)) w') 13 (by kernel_rfl) ⟨c2, s2⟩ (fun g => ?_)
  generalize w2.drew = z at *
  clear c2 s2
  refine lq 0 [13] ?_ rfl (by kernel_rfl) (fun _ _ _ h => h) (by rfl) g ?_ ?_; rotate_left
  · intro w9 h9; go_simp; try with_reducible rfl
  simp only [Act.put, ptA, ptB, ptC]
  refine lq 1 [13] ?_ rfl (by kernel_rfl) (fun _ _ _ h => h) (by rfl) g ?_ ?_; rotate_left
  · intro w9 h9; go_simp; try with_reducible rfl
  simp only [Act.put, ptA, ptB, ptC]
  refine lq 2 [13] ?_ rfl (by kernel_rfl) (fun _ _ _ h => h) (by rfl) g ?_ ?_; rotate_left
  · intro w9 h9; go_simp; try with_reducible rfl
  simp only [Act.put, ptA, ptB, ptC]
  refine lq 3 [13] ?_ rfl (by kernel_rfl) (fun _ _ _ h => h) (by rfl) g ?_ ?_; rotate_left
  · intro w9 h9; go_simp; try with_reducible rfl
  simp only [Act.put, ptA, ptB, ptC]
  refine lq 4 [13] ?_ rfl (by kernel_rfl) (fun _ _ _ h => h) (by rfl) g ?_ ?_; rotate_left
  · intro w9 h9; obtain ⟨h91, h92⟩ := h9; go_simp; try with_reducible rfl
  simp only [Act.put, ptA, ptB, ptC]
  refine lq 5 [13] ?_ rfl (by kernel_rfl) (fun _ _ _ h => h) (by rfl) g ?_ ?_; rotate_left
  · intro w9 h9; go_simp; try with_reducible rfl
  simp only [Act.put, ptA, ptB, ptC]
  refine lq 6 [13] ?_ rfl (by kernel_rfl) (fun _ _ _ h => h) (by rfl) g ?_ ?_; rotate_left
  · intro w9 h9; obtain ⟨h91, h92⟩ := h9; go_simp; try with_reducible rfl
  simp only [Act.put, ptA, ptB, ptC]
  refine lq 7 [13] ?_ rfl (by kernel_rfl) (fun _ _ _ h => h) (by rfl) g ?_ ?_; rotate_left
  · intro w9 h9; go_simp; try with_reducible rfl
  simp only [Act.put, ptA, ptB, ptC]
  refine lq 8 [13] ?_ rfl (by kernel_rfl) (fun _ _ _ h => h) (by rfl) g ?_ ?_; rotate_left
  · intro w9 h9; go_simp; try with_reducible rfl
  simp only [Act.put, ptA, ptB, ptC]
  have BA : Hid (Below z.heap.size z (z.alloc (.cells #[.string (strOfNums ks), .int .i64 c] 58))) := Lib.hid ((Below.refl _ _).alloc (Nat.le_refl _) _)
  have d1 := (HP2.out.hd (HL2.out.grow BA.out)).c2
  have d2 := HCV.out _ (RK.out.below BA.out)
  have NEW : Hid (∀ (j : Nat) (u : Value), (pcells (ks, c))[j]? = some u → (z.alloc (.cells #[.string (strOfNums ks), .int .i64 c] 58)).cell? ((⟨z.heap.size, 0, none⟩ : Addr).add j) = some u) := Lib.hid (fun j u hu => by
    rw [add_zero_at, (Bk.new z 58 #[.string (strOfNums ks), .int .i64 c]).cell j, ← hu]
    simp [pcells])
  refine lc 9 rfl (by kernel_rfl) (fun K9 hK => ?_)
  go_simp
  refine hK.out _ _ (fun _ => ⟨d1, d2⟩) (fun g1 => ?_)
  clear hK K9 g
  have g := g1 (by decide)
  clear g1
  clear d1 d2
  have HL3 := Lib.hid (HL2.out.grow BA.out)
  obtain ⟨zb, hzb⟩ : ∃ zb, z.heap.size = zb := ⟨_, rfl⟩
  have RK2 := Lib.hid ((RK.out.below BA.out).mono BA.out.size)
  rw [hzb] at NEW ⊢
  clear BA HL2 RK hzb
  generalize (z.alloc (.cells #[.string (strOfNums ks), .int .i64 c] 58)) = z1 at *
  obtain ⟨v4, z4, A4, r4, l4, p4, f4⟩ := papp 49 HL3.out HP2.out.row (by omega) (ks, c) ⟨zb, 0, none⟩ 1 NEW.out
  have a4 := (f4 (73, k) (by simp)).trans HP2.out.head
  obtain ⟨a5, c5, rfl, _⟩ : ∃ a c, v4 = .slice a (o2.length + 1) c ∧ True := by
    obtain ⟨a, c, e, _⟩ := p4.form
    exact ⟨a, c, by rw [e]; simp, trivial⟩
  have d3 : z4.cell? ⟨X, 2, none⟩ = some (.slice av o2.length cv) := (l4.bk a4).cell 2
  have t3 : z4.frozen? ⟨X, 2, none⟩ = false := (l4.bk a4).frozen 2
  have HD5 : Hid (∃ A5, Lay w0 A5 (z4.setCell ⟨X, 2, none⟩ (.slice a5 (o2.length + 1) c5)) ∧ PX k A5 X K M (.slice a5 (o2.length + 1) c5) (o2 ++ [(ks, c)]) ∧ ∀ y, y ≠ (73, k) → y ≠ (74, k) → A5 y = A2 y) := Lib.hid ⟨_, l4.set_ a4 2 _, ⟨by rw [up_same]; rfl, p4.keep (up_other _ _ _ (by simp)), HP2.out.good.add ks c HKK.out HBY.out HNO.out HSM.out⟩, fun y h1 h2 => (up_other _ _ _ h1).trans (f4 y h2)⟩
  have R4 := Lib.hid r4
  have HS4 : Hid ((convert 27 9 (.slice a n cx)).run Try.prog z4 = .ok (.string (strOfNums ks)) z4) := Lib.hid (by
    have hf : Fg k A A4 := fun y h0 h1 h2 h3 => (f4 y h3).trans (HF2.out y h0 h1 h2 h3)
    exact conv_str z4 _ a n cx ks HNK.out HBY.out (HKR.out A4 z4 l4 hf))
  clear r4 l4 p4 f4 a4 NEW HL3 RK2 HCV
  refine lc 10 rfl (by kernel_rfl) (fun K9 hK => ?_)
  refine step_append_run rfl (.tmp 31) (.tmp 36) _ rfl _ _ _ z4 rfl rfl R4.out ?_
  refine hK.out _ _ (fun _ => ⟨d3, HS4.out⟩) (fun g1 => ?_)
  clear hK K9 g
  have g := g1 (by decide)
  clear g1
  refine lq 11 [12, 13] ?_ rfl (by kernel_rfl) (fun _ _ _ h => h) (by rfl) g ?_ ?_; rotate_left
  · intro w9 h9; go_simp; try with_reducible rfl
  simp only [Act.put, ptA, ptB, ptC]
  refine lq 12 [13] ?_ rfl (by kernel_rfl) (fun _ _ _ h => h) (by rfl) g ?_ ?_; rotate_left
  · intro w9 h9; go_simp; try with_reducible rfl
  simp only [Act.put, ptA, ptB, ptC]
  refine lc 13 rfl (by kernel_rfl) (fun K9 hK => ?_)
  go_simp
  refine hK.out _ _ (fun h => absurd rfl h) (fun g1 => ?_)
  clear hK K9 g g1
  refine wpAnyL_done (by kernel_rfl) ?_ _
  generalize (z4.setCell ⟨X, 2, none⟩ (.slice a5 (o2.length + 1) c5)) = z5 at *
  clear d3 t3 R4 HS4 z4
  obtain ⟨A5, l5, p5, f5⟩ := HD5.out
  have c5x := (p5.hd l5).c2
  have i7 : IntKind.i64.wrap (((o2.length : Int) + 1) - 1) = ((o2.length : Nat) : Int) := by rw [IntWalk.i64_in _ (by omega)]; omega
  have i8 : IntKind.i64.wrap ((((o2.length + 1 : Nat)) : Int) - 1) = ((o2.length : Nat) : Int) := by rw [IntWalk.i64_in _ (by omega)]; omega
  have AC := Lib.hid (ahead_p l5 p5 (p := o2.length) (x := (ks, c)) (by rw [List.getElem?_append_right (Nat.le_refl _), Nat.sub_self]; rfl))
  have HF5 := Lib.hid f5
  clear l5 p5 f5 HD5
  go_wp2_with fail
  with_reducible refine AC.out.mono ?_
  rintro e z6 ⟨rfl, A6, l6, p6, f6⟩
  have HD : Hid (PutZ k w0 A X K M ((ks, c) :: o2) (x91, x92) 0 (putV (.slice a9 x91.length k9) x92 0) z6) := Lib.hid (by
    have e1 : (o2 ++ [(ks, c)]).eraseIdx o2.length = o2 := by
      rw [List.eraseIdx_append_of_length_le (Nat.le_refl _), Nat.sub_self]
      simp
    rw [e1] at p6
    exact ⟨_, A6, rfl, l6, p6, HG2.out.keep ((f6 (71, 0) (by simp) (by simp) (by simp)).trans (HF5.out (71, 0) (by simp) (by simp))), fun y h0 h1 h2 h3 => (f6 y h1 h2 h3).trans ((HF5.out y h2 h3).trans (HF2.out y h0 h1 h2 h3))⟩)
  clear l6 p6 f6 AC HF5 HG2 HF2 c5x
  go_wp2
  go_ret3
  exact HD.out
theorem pput_c (hl : Lay w0 A w) (h : PL k A X K M o) (a : Option Addr) (n cx : Nat) (ks : List Int) (hn : ks.length = n) (hby : ∀ x ∈ ks, 0 ≤ x ∧ x ≤ 255) (hr : KDp k w0 A a ks) (c : Int) :
    Calls Try.prog 17 #[.pointer (some ⟨X, 0, none⟩), .slice a n cx, .int .i64 c] w (PutZ k w0 A X K M (aput K M o ks c).2.2 (aput K M o ks c).1 (aput K M o ks c).2.1) := by
  unfold aput
  rw [hn]
  by_cases hK : (n : Int) = K
  · rw [if_pos hK]
    cases hp : pix o ks with
    | some p =>
      obtain ⟨x, hxp, _, _⟩ := pix_get hp
      rw [pix_some_get hp hxp]
      exact pput_twice hl h a n cx ks hn hby (hr.rd hl) c hK p hp
    | none =>
      rw [pix_none_get hp]
      have h2 := pput_new hl h a n cx ks hn hby hr c hK hp
      unfold rest oldest at h2
      by_cases hM : (o.length : Int) = M
      · rw [if_pos hM, if_pos hM] at h2
        simp only [Option.isSome_none, Bool.false_eq_true, if_false, if_pos hM]
        exact h2
      · rw [if_neg hM, if_neg hM] at h2
        simp only [Option.isSome_none, Bool.false_eq_true, if_false, if_neg hM]
        exact h2
  · rw [if_neg hK]
    exact pput_size hl h a n cx c hK
end
end Go.Proofs.Ythappjbghlifbaa
