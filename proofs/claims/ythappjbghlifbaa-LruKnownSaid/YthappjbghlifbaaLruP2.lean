/-
  Layer 11's program: ahead, Find: contracts. No conditions.
-/
import Derived.Test.YthappjbghlifbaaLruP1
import Derived.Maps.AppendAt
import Derived.Deep.Upon
namespace Go.Proofs.Ythappjbghlifbaa
set_option maxRecDepth 100000
open Go.RowKit Ow Ro K2
set_option linter.unusedVariables false
set_option linter.unusedSimpArgs false
/-- An append that has no room: a new row. -/
theorem grows (w : World) (ty : TypeId) (base : Option Addr) (n cap : Nat) (xs : List Value) (hxl : xs.length = n * 2) (hold : ∀ ad, base = some ad → ∀ j u, xs[j]? = some u → w.cell? (ad.add j) = some u) (hnil : base = none → n = 0)
    (a : Addr) (m c : Nat) (news : List Value) (hl : news.length = m * 2) (hnews : ∀ j u, news[j]? = some u → w.cell? (a.add j) = some u) (h1 : ∀ u ∈ news, u.oneCell' = true) (hg : cap < n + m) (hs : n + m ≤ 2000) :
    ∃ v' w', (Builtin.append_ #[49, 49] ty #[.slice base n cap, .slice (some a) m c]).run Try.prog w = .ok v' w' ∧ w'.ownsRow w.heap.size 58 2 v' (n + m) (xs ++ news) ∧ Below w.heap.size w w' := by
  obtain ⟨i0, hi0, hz0, hz1, hz2⟩ := info10 entry_info
  have hsrc := Src.ofSlice (P := Try.prog) w (size := i0.size) (tx := 49) Try.underlying49 a m c news (by rw [hz1]; exact hl) hnews h1
  have hf : (Builtin.firstCells i0.size n (.slice base n cap)).run Try.prog w.drew = .ok xs.toArray w.drew := by
    cases base with
    | none =>
      obtain rfl := hnil rfl
      have : xs = [] := List.eq_nil_of_length_eq_zero (by simpa using hxl)
      subst this
      exact run_firstCells_none w.drew _ 0 0 cap
    | some ad => exact run_firstCells_some w.drew i0.size n ad n cap xs (by rw [hz1]; exact hxl) (hold ad rfl)
  have hr := run_append_grow_src (P := Try.prog) w 49 49 ty _ i0 _ Try.underlying49 hi0 hz0 base n cap xs hf (.slice (some a) m c) m news hsrc hg (by omega) (growslice_fits hg (by rw [hz2]; omega))
  have hge := grownCap_ge w (n + m) cap 58
  have hcm : grownCap w (n + m) cap 58 ≤ maxLen := grownCap_le_maxLen w (n + m) cap 58 (by unfold maxLen; omega)
  refine ⟨_, _, hr, ⟨by rw [List.length_append, hxl, hl, Nat.add_mul], .inr ⟨w.heap.size, _, _, rfl, Nat.le_refl _, heap_alloc_new w.drew _, hge, hcm, ?_, ?_⟩⟩, ⟨rfl, rfl, rfl, by simp, fun k hk => Below.heap_alloc w.drew _ k hk⟩⟩
  · simp only [Array.size_append, List.size_toArray, size_zeroCells, List.length_append, hxl, hl, ← Nat.add_mul]
    show (n + m) * 2 + _ * 2 = _ * 2
    omega
  · have e : (xs ++ news).length = (n + m) * 2 := by rw [List.length_append, hxl, hl, Nat.add_mul]
    simp only [Array.toList_append]
    rw [← e]
    exact List.take_left
theorem step_append_run {P : Program} {ops : Array Oper} {o : Oper} {a : Act} {w : World} {K : Act → World → Prop} {Q : Exit → Act → World → Prop} {E : Prop} (hgd : o.guard = none) (s x : Operand) (t : TypeId)
    (ho : o.op = .call { callee := .builtin .append, args := #[s, x], argTypes := #[t, t] }) (vs vx v' : Value) (w' : World) (hs : a.eval s = vs) (hx : a.eval x = vx)
    (hr : (Builtin.append_ #[t, t] o.type #[vs, vx]).run P w = .ok v' w') (h : K (a.put o.dst v') w') :
    if Region.wanted o (yielded ops a.tmps) = true then Oper.wp P o a w K Q else E := by
  have hw : Region.wanted o (yielded ops a.tmps) = true := by simp [Region.wanted, hgd]
  rw [if_pos hw]
  unfold Oper.wp execOp
  simp only [ho, resolve, invoke, builtin, Sem.run_bind, Sem.run_pure, Result.andThen_ok, List.map_toArray, List.map_cons, List.map_nil, hs, hx, hr]
  exact h
/-- What 'ahead' makes: both appends. -/
def AhdP (w : World) (g n cap p : Nat) (o : KO) : Prop :=
  ∃ v1 w1 v2 w2, (Builtin.append_ #[49, 49] 49 #[.slice (some ⟨g, p * 2, none⟩) 1 1, .slice (some ⟨g, 0, none⟩) p cap]).run Try.prog w = .ok v1 w1 ∧
    (Builtin.append_ #[49, 49] 49 #[v1, .slice (if cap = p + 1 then some ⟨g, 0, none⟩ else some ⟨g, (p + 1) * 2, none⟩) (n - (p + 1)) (cap - (p + 1))]).run Try.prog w1 = .ok v2 w2 ∧
    Below w.heap.size w w1 ∧ Below w.heap.size w w2 ∧ ((v2 = .slice (some ⟨g, 0, none⟩) 1 1 ∧ n = 1 ∧ w2 = w) ∨ w2.ownsRow w.heap.size 58 2 v2 n (pflat o))
theorem ahd_runs {w0 w : World} {A : Ac} {r : Rl} {o : KO} {g cap : Nat} (hl : Lay w0 A w) (h : PRow A r (.slice (some ⟨g, 0, none⟩) o.length cap) o) (hn : o.length ≤ 1000) {p : Nat} {x : List Int × Int} (hp : o[p]? = some x) : AhdP w g o.length cap p (x :: o.eraseIdx p) := by
  have hpl := (List.getElem?_eq_some_iff.1 hp).1
  have hpx := (List.getElem?_eq_some_iff.1 hp).2
  obtain ⟨g', cap', e, hc1, hc2, hg, _, hlook⟩ := h.look hl (by omega)
  simp only [Value.slice.injEq, Option.some.injEq, Addr.mk.injEq, and_true, true_and] at e
  obtain ⟨rfl, rfl⟩ := e
  -- the cells of a part
  have part : ∀ (w' : World), Below w.heap.size w w' → ∀ (a b : Nat) (j : Nat) (u : Value), (pflat ((o.drop a).take b))[j]? = some u → w'.cell? ⟨g, a * 2 + j, none⟩ = some u := fun w' hb a b j u hu => by
    refine (hlook w' hb).1 _ u ?_
    rw [← pflat_take, ← pflat_drop, List.getElem?_take] at hu
    split at hu
    · rw [List.getElem?_drop] at hu; exact hu
    · cases hu
  have hx1 : pcells x = pflat ((o.drop p).take 1) := by
    rw [List.drop_eq_getElem_cons hpl, hpx]
    simp [pflat]
  have hxo : (o.drop p).take 1 = [x] := by rw [List.drop_eq_getElem_cons hpl, hpx]; rfl
  have addlit : ∀ (a j : Nat), (⟨g, a, none⟩ : Addr).add j = ⟨g, a + j, none⟩ := fun a j => Addr.add_lit _ _ _
  have hsrc2 : ∀ (w' : World), Below w.heap.size w w' → ∃ A2, (if cap = p + 1 then some (⟨g, 0, none⟩ : Addr) else some ⟨g, (p + 1) * 2, none⟩) = some A2 ∧ ∀ j u, (pflat (o.drop (p + 1)))[j]? = some u → w'.cell? (A2.add j) = some u := fun w' hb => by
    by_cases hc : cap = p + 1
    · refine ⟨⟨g, 0, none⟩, by rw [if_pos hc], fun j u hu => ?_⟩
      rw [List.drop_eq_nil_of_le (by omega)] at hu
      simp [pflat] at hu
    · refine ⟨⟨g, (p + 1) * 2, none⟩, by rw [if_neg hc], fun j u hu => ?_⟩
      rw [addlit]
      refine part w' hb (p + 1) (o.drop (p + 1)).length j u ?_
      rw [List.take_length]
      exact hu
  have hnews2 : (pflat (o.drop (p + 1))).length = (o.length - (p + 1)) * 2 := by rw [pflat_len, List.length_drop]
  have hall : pflat [x] ++ pflat (o.take p) ++ pflat (o.drop (p + 1)) = pflat (x :: o.eraseIdx p) := by
    rw [← pflat_app, ← pflat_app]
    congr 1
    rw [List.eraseIdx_eq_take_drop_succ]
    rfl
  by_cases hp0 : p = 0
  · subst hp0
    obtain ⟨i0, hi0, hz0, hz1, hz2⟩ := info10 entry_info
    have r1 := run_append_nothing (P := Try.prog) w 49 49 49 _ i0 Try.underlying49 hi0 (some ⟨g, 0 * 2, none⟩) 1 1 (Nat.le_refl _) (.slice (some ⟨g, 0, none⟩) 0 cap)
      (Src.ofSlice (P := Try.prog) w (size := i0.size) (tx := 49) Try.underlying49 _ 0 cap [] (by simp) (fun j u hu => by simp at hu) (fun u hu => by cases hu))
    obtain ⟨A2, e2, c2⟩ := hsrc2 w (Below.refl _ _)
    unfold AhdP
    rw [e2]
    by_cases hn1 : o.length = 1
    · have hd : pflat (o.drop (0 + 1)) = [] := by rw [List.drop_eq_nil_of_le (by omega)]; rfl
      have r2 := run_append_nothing (P := Try.prog) w 49 49 49 _ i0 Try.underlying49 hi0 (some ⟨g, 0 * 2, none⟩) 1 1 (Nat.le_refl _) (.slice (some A2) (o.length - (0 + 1)) (cap - (0 + 1)))
        (by
          rw [hn1]
          exact Src.ofSlice (P := Try.prog) w (size := i0.size) (tx := 49) Try.underlying49 _ 0 _ [] (by simp) (fun j u hu => by simp at hu) (fun u hu => by cases hu))
      exact ⟨_, _, _, _, r1, r2, Below.refl _ _, Below.refl _ _, .inl ⟨by simp, hn1, rfl⟩⟩
    · obtain ⟨v2, w2, r2, hown, hb2⟩ := grows w 49 (some ⟨g, 0 * 2, none⟩) 1 1 (pflat [x]) (by rw [pflat_len]; rfl) (fun ad e j u hu => by
          injection e with e
          subst e
          rw [addlit]
          have := part w (Below.refl _ _) 0 1 j u (by rw [hxo]; exact hu)
          exact this) (fun e => by cases e)
        A2 (o.length - (0 + 1)) (cap - (0 + 1)) (pflat (o.drop (0 + 1))) hnews2 c2 (pflat_one _) (by omega) (by omega)
      refine ⟨_, _, v2, w2, r1, r2, Below.refl _ _, hb2, .inr ?_⟩
      have e3 : 1 + (o.length - (0 + 1)) = o.length := by omega
      rw [e3] at hown
      rw [← hall, List.take_zero, show pflat [] = [] from rfl, List.append_nil]
      exact hown
  · obtain ⟨v1, w1, r1, hown1, hb1⟩ := grows w 49 (some ⟨g, p * 2, none⟩) 1 1 (pflat [x]) (by rw [pflat_len]; rfl) (fun ad e j u hu => by
          injection e with e
          subst e
          rw [addlit]
          exact part w (Below.refl _ _) p 1 j u (by rw [hxo]; exact hu)) (fun e => by cases e)
        ⟨g, 0, none⟩ p cap (pflat (o.take p)) (by rw [pflat_len, List.length_take]; congr 1; omega) (fun j u hu => by
          rw [addlit]
          exact part w (Below.refl _ _) 0 p j u (by rw [List.drop_zero]; exact hu)) (pflat_one _) (by omega) (by omega)
    obtain ⟨A2, e2, c2⟩ := hsrc2 w1 hb1
    obtain ⟨i0, hi0, hz0, hz1, hz2⟩ := info10 entry_info
    obtain ⟨v2, w2, r2, hown2, hg2, _, hat⟩ := run_append_own_at (P := Try.prog) w1 w.heap.size 49 49 _ i0 _ 2 24 Try.underlying49 hi0 hz0 hz1 hz2 rfl (by decide) v1 (1 + p) _ hown1 A2 (o.length - (p + 1)) (cap - (p + 1)) (pflat (o.drop (p + 1))) hnews2 c2 (pflat_one _) (by unfold maxLen; omega) (by omega) hb1.size
    unfold AhdP
    rw [e2]
    refine ⟨v1, w1, v2, w2, r1, r2, hb1, hb1.grown hg2 hb1.size (fun k hk => ?_), .inr ?_⟩
    · exact (hown1.lt k hk).1
    · have e3 : 1 + p + (o.length - (p + 1)) = o.length := by omega
      rw [e3, hall] at hown2
      exact hown2
theorem OG.perm {K M : Int} {o o2 : KO} (h : OG K M o) (hp : o2.Perm o) : OG K M o2 :=
  ⟨fun e he => h.len e (hp.mem_iff.1 he), fun e he => h.byt e (hp.mem_iff.1 he), (hp.pairwise_iff (fun {a b} hab e => hab e.symm)).2 h.nd, by rw [hp.length_eq]; exact h.small, h.K1, h.K2, h.M1, h.M2⟩
theorem ahd_perm {o : KO} {p : Nat} {x : List Int × Int} (hp : o[p]? = some x) : (x :: o.eraseIdx p).Perm o := by
  induction o generalizing p with
  | nil => simp at hp
  | cons y o ih =>
    cases p with
    | zero =>
      simp only [List.getElem?_cons_zero, Option.some.injEq] at hp
      subst hp
      exact List.Perm.refl _
    | succ p =>
      rw [List.getElem?_cons_succ] at hp
      rw [List.eraseIdx_cons_succ]
      exact (List.Perm.swap y x _).trans ((ih hp).cons y)
theorem PX.ahd {w0 w w2 : World} {A : Ac} {k X : Nat} {K M : Int} {o : KO} {g cap p : Nat} {x : List Int × Int} {v2 : Value} (h : PX k A X K M (.slice (some ⟨g, 0, none⟩) o.length cap) o) (hl : Lay w0 A w) (hp : o[p]? = some x) (hb : Below w.heap.size w w2)
    (hv : (v2 = .slice (some ⟨g, 0, none⟩) 1 1 ∧ o.length = 1 ∧ w2 = w) ∨ w2.ownsRow w.heap.size 58 2 v2 o.length (pflat (x :: o.eraseIdx p))) : PLd k w0 A X K M (x :: o.eraseIdx p) (w2.setCell ⟨X, 2, none⟩ v2) := by
  have hpl := (List.getElem?_eq_some_iff.1 hp).1
  have hg := h.good.perm (ahd_perm hp)
  have hlen : (x :: o.eraseIdx p).length = o.length := (ahd_perm hp).length_eq
  rcases hv with ⟨rfl, h1, rfl⟩ | hown
  · refine ⟨_, hl.set_ h.head 2 _, ⟨_, by rw [up_same]; rfl, PRow.keep ?_ (up_other _ _ _ (by simp)), hg⟩, fun y _ hy hy2 => up_other _ _ _ hy⟩
    have hxo : x :: o.eraseIdx p = o := by
      obtain ⟨y, rfl⟩ := List.length_eq_one_iff.1 h1
      have hp0 : p = 0 := by simp at hpl; omega
      subst hp0
      simp at hp
      subst hp
      rfl
    rw [hxo]
    rcases h.row with ⟨e, _⟩ | ⟨g', cap', cur, e, hr, c1, c2, c3, c4⟩
    · cases e
    · simp only [Value.slice.injEq, Option.some.injEq, Addr.mk.injEq, and_true, true_and] at e
      obtain ⟨rfl, rfl⟩ := e
      exact .inr ⟨g, 1, cur, by rw [h1], hr, by omega, by unfold maxLen; omega, by omega, c4⟩
  · exact h.swap hl hb (by rw [hlen]; exact hown) hg
set_option maxHeartbeats 2000000 in
theorem ahead_p {w0 w : World} {A : Ac} {k X : Nat} {K M : Int} {v : Value} {o : KO} (hl : Lay w0 A w) (h : PX k A X K M v o) {p : Nat} {x : List Int × Int} (hp : o[p]? = some x) :
    Calls Try.prog 36 #[.pointer (some ⟨X, 0, none⟩), .int .i64 (p : Nat)] w fun e w' => e = .returned (.tuple #[]) ∧ PLd k w0 A X K M (x :: o.eraseIdx p) w' := by
  have hs := h.good.small
  have hM := h.good.M2
  have hpl := (List.getElem?_eq_some_iff.1 hp).1
  obtain ⟨g0, cap, rfl, hc1, hc2, _, _, _⟩ := h.row.look hl (by omega)
  have AR := Lib.hid (ahd_runs hl.drew h.row (by omega) hp)
  have hd := h.hd hl.drew
  have c2 := hd.c2
  have HL := Lib.hid hl.drew
  have HX := Lib.hid h
  obtain ⟨m, hm⟩ : ∃ m, o.length = m := ⟨_, rfl⟩
  have HM := Lib.hid hm
  rw [hm] at hs hpl hc1 c2 AR
  have HP := Lib.hid hp
  clear hl h hd hm hp
  have p0 : (0 : Int) ≤ (p : Int) := by omega
  have p1 : (p : Int) ≤ (m : Int) := by omega
  have p2 : (p : Int) + 1 ≤ (m : Int) := by omega
  have p3 : (p : Int) + 1 ≤ (cap : Int) := by omega
  have p4 : (m : Int) ≤ (cap : Int) := by omega
  have p5 : (p : Int) ≤ (cap : Int) := by omega
  have p6 : (p : Int) ≤ (p : Int) + 1 := by omega
  have p7 : IntKind.i64.wrap ((p : Int) + 1) = ((p + 1 : Nat) : Int) := by rw [IntWalk.i64_in _ (by omega)]; omega
  have p8 : (0 : Int) ≤ (p : Int) + 1 := by omega
  go_enter Try.func36, Try.ntmps36
  go_wp2_with fail
  refine wp_region_last (S := fun w' => w'.cell? ⟨X, 2, none⟩ = some (.slice (some ⟨g0, 0, none⟩) m cap)) 28 (by kernel_rfl) c2 (fun g => ?_)
  generalize w.drew = z at *
  clear c2
  obtain ⟨v1, z1, v2, z2, r1, r2, hb1, hb2, hv⟩ := AR.out
  have R2 := Lib.hid r2
  have HV := Lib.hid hv
  have lX := (HX.out.hd HL.out).lt
  have d1 := (hb1.cell (p := ⟨X, 2, none⟩) lX).trans g
  have d2 := (hb2.cell (p := ⟨X, 2, none⟩) lX).trans g
  have f2 := (HX.out.hd (HL.out.grow hb2)).f2
  have HB2 := Lib.hid hb2
  clear AR r2 hb1 hb2
  obtain ⟨a2, k2, rfl⟩ : ∃ a c, v2 = .slice a m c := by
    rcases hv with ⟨e, rfl, _⟩ | h
    · exact ⟨_, _, e⟩
    · obtain ⟨a, c, e, _⟩ := own_form h
      exact ⟨a, c, e⟩
  clear hv
  refine lq 0 [28] ?_ rfl (by kernel_rfl) (fun _ _ _ h => h) (by rfl) g ?_ ?_; rotate_left
  · intro w9 h9; go_simp; try with_reducible rfl
  simp only [Act.put, ptA, ptB, ptC]
  refine lq 1 [28] ?_ rfl (by kernel_rfl) (fun _ _ _ h => h) (by rfl) g ?_ ?_; rotate_left
  · intro w9 h9; go_simp; try with_reducible rfl
  simp only [Act.put, ptA, ptB, ptC]
  refine lq 2 [28] ?_ rfl (by kernel_rfl) (fun _ _ _ h => h) (by rfl) g ?_ ?_; rotate_left
  · intro w9 h9; go_simp; try with_reducible rfl
  simp only [Act.put, ptA, ptB, ptC]
  refine lq 3 [28] ?_ rfl (by kernel_rfl) (fun _ _ _ h => h) (by rfl) g ?_ ?_; rotate_left
  · intro w9 h9; go_simp; try with_reducible rfl
  simp only [Act.put, ptA, ptB, ptC]
  refine lq 4 [28] ?_ rfl (by kernel_rfl) (fun _ _ _ h => h) (by rfl) g ?_ ?_; rotate_left
  · intro w9 h9; go_simp; try with_reducible rfl
  simp only [Act.put, ptA, ptB, ptC]
  refine lq 5 [28] ?_ rfl (by kernel_rfl) (fun _ _ _ h => h) (by rfl) g ?_ ?_; rotate_left
  · intro w9 h9; go_simp; try with_reducible rfl
  simp only [Act.put, ptA, ptB, ptC]
  refine lq 6 [28] ?_ rfl (by kernel_rfl) (fun _ _ _ h => h) (by rfl) g ?_ ?_; rotate_left
  · intro w9 h9; go_simp; try with_reducible rfl
  simp only [Act.put, ptA, ptB, ptC]
  refine lq 7 [28] ?_ rfl (by kernel_rfl) (fun _ _ _ h => h) (by rfl) g ?_ ?_; rotate_left
  · intro w9 h9; go_simp; try with_reducible rfl
  simp only [Act.put, ptA, ptB, ptC]
  refine lq 8 [28] ?_ rfl (by kernel_rfl) (fun _ _ _ h => h) (by rfl) g ?_ ?_; rotate_left
  · intro w9 h9; go_simp; try with_reducible rfl
  simp only [Act.put, ptA, ptB, ptC]
  refine lq 9 [28] ?_ rfl (by kernel_rfl) (fun _ _ _ h => h) (by rfl) g ?_ ?_; rotate_left
  · intro w9 h9; go_simp; try with_reducible rfl
  simp only [Act.put, ptA, ptB, ptC]
  refine lq 10 [28] ?_ rfl (by kernel_rfl) (fun _ _ _ h => h) (by rfl) g ?_ ?_; rotate_left
  · intro w9 h9; go_simp; try with_reducible rfl
  simp only [Act.put, ptA, ptB, ptC]
  refine lq 11 [28] ?_ rfl (by kernel_rfl) (fun _ _ _ h => h) (by rfl) g ?_ ?_; rotate_left
  · intro w9 h9; go_simp; try with_reducible rfl
  simp only [Act.put, ptA, ptB, ptC]
  refine lq 12 [28] ?_ rfl (by kernel_rfl) (fun _ _ _ h => h) (by rfl) g ?_ ?_; rotate_left
  · intro w9 h9; go_simp; try with_reducible rfl
  simp only [Act.put, ptA, ptB, ptC]
  refine lq 13 [28] ?_ rfl (by kernel_rfl) (fun _ _ _ h => h) (by rfl) g ?_ ?_; rotate_left
  · intro w9 h9; go_simp; try with_reducible rfl
  simp only [Act.put, ptA, ptB, ptC]
  refine lq 14 [28] ?_ rfl (by kernel_rfl) (fun _ _ _ h => h) (by rfl) g ?_ ?_; rotate_left
  · intro w9 h9; go_simp; try with_reducible rfl
  simp only [Act.put, ptA, ptB, ptC]
  refine lq 15 [28] ?_ rfl (by kernel_rfl) (fun _ _ _ h => h) (by rfl) g ?_ ?_; rotate_left
  · intro w9 h9; go_simp; try with_reducible rfl
  simp only [Act.put, ptA, ptB, ptC]
  refine lq 16 [28] ?_ rfl (by kernel_rfl) (fun _ _ _ h => h) (by rfl) g ?_ ?_; rotate_left
  · intro w9 h9; go_simp; try with_reducible rfl
  simp only [Act.put, ptA, ptB, ptC]
  refine lq 18 [28] ?_ rfl (by kernel_rfl) (fun _ _ _ h => h) (by rfl) g ?_ ?_; rotate_left
  · intro w9 h9; go_simp; try with_reducible rfl
  simp only [Act.put, ptA, ptB, ptC]
  refine lq 19 [28] ?_ rfl (by kernel_rfl) (fun _ _ _ h => h) (by rfl) g ?_ ?_; rotate_left
  · intro w9 h9; go_simp; try with_reducible rfl
  simp only [Act.put, ptA, ptB, ptC]
  refine lq 20 [28] ?_ rfl (by kernel_rfl) (fun _ _ _ h => h) (by rfl) g ?_ ?_; rotate_left
  · intro w9 h9; go_simp; try with_reducible rfl
  simp only [Act.put, ptA, ptB, ptC]
  refine lq 21 [28] ?_ rfl (by kernel_rfl) (fun _ _ _ h => h) (by rfl) g ?_ ?_; rotate_left
  · intro w9 h9; go_simp; try with_reducible rfl
  simp only [Act.put, ptA, ptB, ptC]
  refine lq 22 [28] ?_ rfl (by kernel_rfl) (fun _ _ _ h => h) (by rfl) g ?_ ?_; rotate_left
  · intro w9 h9; go_simp; try with_reducible rfl
  simp only [Act.put, ptA, ptB, ptC]
  refine lq 23 [28] ?_ rfl (by kernel_rfl) (fun _ _ _ h => h) (by rfl) g ?_ ?_; rotate_left
  · intro w9 h9; go_simp; try with_reducible rfl
  simp only [Act.put, ptA, ptB, ptC]
  refine lq 24 [28] ?_ rfl (by kernel_rfl) (fun _ _ _ h => h) (by rfl) g ?_ ?_; rotate_left
  · intro w9 h9; go_simp; try with_reducible rfl
  simp only [Act.put, ptA, ptB, ptC]
  refine lc 17 rfl (by kernel_rfl) (fun K9 hK => ?_)
  refine step_append_run rfl (.tmp 14) (.tmp 20) _ rfl _ _ v1 z1 rfl rfl r1 ?_
  refine hK.out _ _ (fun _ => d1) (fun g1 => ?_)
  clear hK K9 g
  have g := g1 (by decide)
  clear g1
  clear r1 d1
  refine lc 25 rfl (by kernel_rfl) (fun K9 hK => ?_)
  refine step_append_run rfl (.tmp 21) (.tmp 28) _ rfl _ _ _ z2 rfl rfl R2.out ?_
  refine hK.out _ _ (fun _ => d2) (fun g1 => ?_)
  clear hK K9 g
  have g := g1 (by decide)
  clear g1
  refine lq 26 [27, 28] ?_ rfl (by kernel_rfl) (fun _ _ _ h => h) (by rfl) g ?_ ?_; rotate_left
  · intro w9 h9; go_simp; try with_reducible rfl
  simp only [Act.put, ptA, ptB, ptC]
  refine lq 27 [28] ?_ rfl (by kernel_rfl) (fun _ _ _ h => h) (by rfl) g ?_ ?_; rotate_left
  · intro w9 h9; go_simp; try with_reducible rfl
  simp only [Act.put, ptA, ptB, ptC]
  refine lc 28 rfl (by kernel_rfl) (fun K9 hK => ?_)
  have HE := Lib.hid (HX.out.ahd HL.out HP.out HB2.out (by rw [HM.out]; exact HV.out))
  go_simp
  refine hK.out _ _ (fun h => absurd rfl h) (fun g1 => ?_)
  clear hK K9 g g1
  refine wpAnyL_done (by kernel_rfl) ?_ _
  go_wp2
  all_goals go_end0
  all_goals exact ⟨rfl, HE.out⟩
theorem pget_erase {K M : Int} {o : KO} {ks : List Int} {p : Nat} {x : List Int × Int} (h : OG K M o) (hp : o[p]? = some x) (hx : x.1 = ks) : o.eraseIdx p = awo o ks := by
  subst hx
  unfold awo
  exact filter_keep o p x h.nd hp (by simp) (fun y hy hR => by
    rw [bne_iff_ne]
    rcases hR with h1 | h1
    · exact fun e => h1 e.symm
    · exact h1)
set_option maxHeartbeats 1000000 in
theorem pfind_c {w0 w : World} {A : Ac} {k X : Nat} {K M : Int} {o : KO} (hl : Lay w0 A w) (h : PL k A X K M o) (a : Option Addr) (n c : Nat) (ks : List Int) (hn : ks.length = n) (hby : ∀ x ∈ ks, 0 ≤ x ∧ x ≤ 255) (hr : Rd w w.heap.size a (bv ks)) :
    Calls Try.prog 18 #[.pointer (some ⟨X, 0, none⟩), .slice a n c] w fun e w' => e = .returned (agetV (aget o ks)) ∧ PLd k w0 A X K M (afind o ks) w' := by
  obtain ⟨v, hx⟩ := h
  have WC := Lib.hid (where_p hl hx a n c ks hn hby hr)
  have HL := Lib.hid hl
  have HX := Lib.hid hx
  clear hl hx hn hby hr
  unfold afind
  cases hp : pix o ks with
  | none =>
    rw [hp] at WC
    rw [pix_none_get hp]
    clear hp
    unfold ixV at WC
    go_enter Try.func18, Try.ntmps18
    go_wp2_with fail
    with_reducible refine WC.out.mono ?_
    rintro e w2 ⟨rfl, q⟩
    have HQ : Hid (PLd k w0 A X K M o w2) := Lib.hid ⟨A, HL.out.grow q, ⟨v, HX.out⟩, Fp.refl⟩
    clear q
    go_wp2
    go_ret2
    exact ⟨rfl, HQ.out⟩
  | some p =>
    rw [hp] at WC
    obtain ⟨⟨x1, y⟩, hxp, hxk, hpl⟩ := pix_get hp
    rw [pix_some_get hp hxp]
    dsimp only at hxk ⊢
    subst hxk
    have HE : Hid (∀ w', PLd k w0 A X K M ((x1, y) :: o.eraseIdx p) w' → PLd k w0 A X K M ((x1, y) :: awo o x1) w') := Lib.hid (fun w' h => by
      rw [pget_erase HX.out.good hxp rfl] at h
      exact h)
    have AC : Hid (∀ w', Below w.heap.size w w' → Calls Try.prog 36 #[.pointer (some ⟨X, 0, none⟩), .int .i64 (p : Nat)] w' fun e w' => e = .returned (.tuple #[]) ∧ PLd k w0 A X K M ((x1, y) :: o.eraseIdx p) w') := Lib.hid (fun w' hb => ahead_p (HL.out.grow hb) HX.out hxp)
    clear hp hxp hpl HX HL
    unfold ixV at WC
    have i1 : ¬ (p : Int) < 0 := by omega
    go_enter Try.func18, Try.ntmps18
    go_wp2_with fail
    with_reducible refine WC.out.mono ?_
    rintro e w2 ⟨rfl, q⟩
    have AC2 := Lib.hid (AC.out w2 q)
    clear q AC WC
    go_wp2_with fail
    with_reducible refine AC2.out.mono ?_
    rintro e w3 ⟨rfl, q⟩
    have HQ := Lib.hid (HE.out w3 q)
    clear HE AC2
    obtain ⟨A3, l3, ⟨v3, hx3⟩, _⟩ := q
    obtain ⟨g, cap, rfl, hc1, hc2, _, _, h2⟩ := hx3.row.look l3 (by simp)
    have d1 := (h2 w3 (Below.refl _ _)).1 1 (.int .i64 y) rfl
    have d2 := (hx3.hd l3).c2
    have i2 : (0 : Int) < ((((x1, y) :: o.eraseIdx p).length : Nat) : Int) := by rw [List.length_cons]; omega
    clear l3 hx3 h2
    generalize ((x1, y) :: o.eraseIdx p).length = m at *
    go_wp2
    go_ret2
    exact ⟨rfl, HQ.out⟩
end Go.Proofs.Ythappjbghlifbaa
