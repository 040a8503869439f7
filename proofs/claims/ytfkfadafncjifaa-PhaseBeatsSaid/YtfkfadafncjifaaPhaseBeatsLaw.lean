/-
  Proved: the statement PhaseBeats: a beat that is written at any times tells of itself, behind each of them and asked at any time, what the document says; what it was stays as it was. No conditions.
-/
import Derived.Test.YtfkfadafncjifaaRows
import Derived.Test.YtfkfadafncjifaaPhaseOpen
import Derived.Test.YtfkfadafncjifaaPhaseRef3
import Derived.Deep.DeepCutAuto
import Derived.WalkKit
import Derived.ProofKit
import Derived.OpenShut
import Derived.ChangeOld
import Derived.Below
namespace Go.Proofs.Ytfkfadafncjifaa.phaseBeats
open Go.ChangeShapes Go.WideShapes Go.ChangeAt Go.RowKit Ow Ph
set_option linter.unusedVariables false
set_option linter.unusedSimpArgs false
attribute [local go_sem] run_store_complex

theorem own : ownKnob Try.prog.godebug = none := by kernel_rfl
theorem laidOut : laidOutB Try.prog = true := by kernel_rfl

theorem db_far3 {w : World} {v : Value} {xs : List Int} {r : Nat} (h : DB w v xs) (hv : v.ownBlock ≠ some r) (u x y : Value) : DB (((w.setCell ⟨r, 0, none⟩ u).setCell ⟨r, 1, none⟩ x).setCell ⟨r, 2, none⟩ y) v xs := by
  rcases h with h | ⟨hn, ad, c, rfl, hr⟩
  · exact .inl h
  · refine .inr ⟨hn, ad, c, rfl, fun hx => ?_⟩
    obtain ⟨ad', e, hb, hc⟩ := hr hx
    injection e with e
    subst e
    refine ⟨ad, rfl, by simpa [World.setCell] using hb, fun j u hu => ?_⟩
    rw [cfar (by rw [add_block]; exact fun e => hv (by rw [← e]; rfl))]
    exact hc j u hu
theorem db_far1 {w : World} {v : Value} {xs : List Int} {r : Nat} (h : DB w v xs) (hv : v.ownBlock ≠ some r) (u : Value) : DB (w.setCell ⟨r, 0, none⟩ u) v xs := by
  rcases h with h | ⟨hn, ad, c, rfl, hr⟩
  · exact .inl h
  · refine .inr ⟨hn, ad, c, rfl, fun hx => ?_⟩
    obtain ⟨ad', e, hb, hc⟩ := hr hx
    injection e with e
    subst e
    refine ⟨ad, rfl, by simpa [World.setCell] using hb, fun j u hu => ?_⟩
    rw [World.cell?_setCell_other _ _ _ _ (fun e => hv (by
      have h := congrArg Addr.block e
      rw [add_block] at h
      simp only [Value.ownBlock]
      rw [← h]))]
    exact hc j u hu
theorem db_of_rd {w : World} {A : Option Addr} {c n : Nat} {xs : List Int} (h : Rd w w.heap.size A (zv xs)) (hl : xs.length = n) (hne : xs ≠ []) : DB w (.slice A n c) xs := by
  subst hl
  obtain ⟨ad, rfl, _⟩ := h (by rw [zv_len]; exact List.length_pos_iff.2 hne)
  exact .inr ⟨hne, ad, c, rfl, h⟩
theorem writes_t (b : Bt) (n : Nat) (hb : b.n = n) (w : World) :
    Calls Try.prog 9 #[.agg #[.complex .f64 (fl b.x) (fl b.y), .int .i64 b.n, .int .i64 b.t]] w fun e w' => e = .returned (.int .i64 n) ∧ Below w.heap.size w w' := by
  subst hb; exact writes_any b w
theorem rsway_t (A : Option Addr) (c n s : Nat) (xs : List Int) (hl : xs.length = n) (h3 : n ≤ 300) (hi : ∀ t ∈ xs, i64 t) (hs : swB (bts xs) = s) (w : World) (hx : Rd w w.heap.size A (zv xs)) :
    Calls Try.prog 14 #[.agg #[.slice A n c]] w fun e w' => e = .returned (.int .i64 s) ∧ Below w.heap.size w w' := by
  subst hs; exact rsway_any A c n xs hl h3 hi w hx
theorem rsteady_t (A : Option Addr) (c n : Nat) (xs : List Int) (now : Int) (r : Bool) (hl : xs.length = n) (h3 : n ≤ 300) (hi : ∀ t ∈ xs, i64 t) (hnow : i64 now) (hr : stB (bts xs) now = r) (w : World) (hx : Rd w w.heap.size A (zv xs)) :
    Calls Try.prog 16 #[.agg #[.slice A n c], .int .i64 now] w fun e w' => e = .returned (.bool r) ∧ Below w.heap.size w w' := by
  subst hr; exact rsteady_any A c n xs now hl h3 hi hnow w hx

set_option maxRecDepth 100000 in
set_option maxHeartbeats 4000000 in
theorem walk (a0 : Option Addr) (len0 cap0 : Nat) (L0 : List Int) (n1 : Int) (w : World) (l0 : L0.length = len0) (f0 : ∀ t ∈ L0, i64 t) (c0 : len0 ≤ cap0) (m0 : cap0 ≤ 9223372036854775807) (r0 : Rd w w.heap.size a0 (zv L0)) (w1 : (Lit.int .i64 n1).wf = true) :
    Calls Try.prog 3 #[.slice a0 len0 cap0, .int .i64 n1] w fun e w' => e = .returned (.bool true) ∧ Below w.heap.size w w' := by
  have hn1 : i64 n1 := bounds_i64 w1
  have hcap : len0 ≤ 9223372036854775807 := by omega
  have HR := Lib.hid r0
  have HL := Lib.hid l0
  have HF := Lib.hid f0
  clear l0 f0 r0 w1
  go_enter Try.func3, Try.ntmps3
  go_wp2_with fail
  refine (new_t _).mono ?_
  rintro e w1 ⟨rfl, q⟩
  have R1 : Hid (Bk (w1.alloc (.cells #[.complex .f64 (fl newB.x) (fl newB.y), .int .i64 newB.n, .int .i64 newB.t] 25)) w1.heap.size 25 (bcells newB)) := Lib.hid (Bk.new w1 _ _)
  have B1 : Hid (Below w.heap.size w (w1.alloc (.cells #[.complex .f64 (fl newB.x) (fl newB.y), .int .i64 newB.n, .int .i64 newB.t] 25))) := Lib.hid (q.alloc q.size _)
  have hw5 : w.heap.size ≤ w1.heap.size := q.size
  clear q
  go_wp2_with fail
  generalize w1.heap.size = g5 at *
  generalize w1.alloc (.cells #[.complex .f64 (fl newB.x) (fl newB.y), .int .i64 newB.n, .int .i64 newB.t] 25) = w2 at *
  refine (rnew_any _).mono ?_
  rintro e w3 ⟨rfl, q⟩
  have R2 := Lib.hid ((R1.out.below q R1.out.lt).alloc (.cells #[.slice none 0 0] 28))
  have M2 : Hid (Bk (w3.alloc (.cells #[.slice none 0 0] 28)) w3.heap.size 28 #[.slice none 0 0]) := Lib.hid (Bk.new w3 _ _)
  have B2 : Hid (Below w.heap.size w (w3.alloc (.cells #[.slice none 0 0] 28))) := Lib.hid ((B1.out.trans (q.mono B1.out.size)).alloc (B1.out.trans (q.mono B1.out.size)).size _)
  have h56 : g5 < w3.heap.size := (R1.out.below q R1.out.lt).lt
  clear q R1 B1
  go_wp2_with fail
  have SZ : (w3.alloc (.cells #[.slice none 0 0] 28)).heap.size = w3.heap.size + 1 := by simp
  generalize w3.heap.size = g6 at *
  generalize w3.alloc (.cells #[.slice none 0 0] 28) = w4 at *
  clear w1 w3
  go_loopw [7] (fun i wr => ∃ k : Nat, k ≤ len0 ∧ k ≤ 200 ∧ i = .int .i64 k ∧ Hid (Bk wr g5 25 (bcells (bts (L0.take k)))) ∧ Hid (∃ v, Bk wr g6 28 #[v] ∧ DB wr v (L0.take k) ∧ ∀ b, v.ownBlock = some b → g6 + 1 ≤ b) ∧ Hid (Below w.heap.size w wr) ∧ g6 + 1 ≤ wr.heap.size) (fun i _ => 200 - (intOf i).toNat)
  case atStart => exact ⟨0, Nat.zero_le _, Nat.zero_le _, rfl, R2, Lib.hid ⟨_, M2.out, .inl ⟨rfl, rfl⟩, fun b h => by cases h⟩, B2, by omega⟩
  case round =>
    clear R2 M2 B2 SZ
    obtain ⟨k, hk, hk2, rfl, R, HM, B, hsz⟩ := hrel
    obtain ⟨v, M0, D0, O0⟩ := HM.out
    have M := Lib.hid M0
    have D := Lib.hid D0
    have O := Lib.hid O0
    clear HM M0 D0 O0
    by_cases hlt : k < len0
    · have i1 : (0 : Int) ≤ (k : Int) := by omega
      have i2 : (k : Int) < (len0 : Int) := by omega
      by_cases hl3 : k < 200
      · have i3 : (k : Int) < 200 := by omega
        have hkx : k < L0.length := by rw [HL.out]; exact hlt
        obtain ⟨ad, rfl, hab, _⟩ := (HR.out.below B.out) (by rw [zv_len]; omega)
        have HC : ∀ z : World, Below w.heap.size w z → z.cell? (ad.add k) = some (.int .i64 L0[k]) := fun z hz => by
          obtain ⟨ad', e, _, hc⟩ := (HR.out.below hz) (by rw [zv_len]; omega)
          injection e with e
          subst e
          exact hc k _ (zv_get L0 k hkx)
        have HE : Hid (bts (L0.take k ++ [L0[k]]) = wrB (bts (L0.take k)) L0[k]) := Lib.hid (bts_app _ _)
        have HT : Hid (L0.take (k + 1) = L0.take k ++ [L0[k]]) := Lib.hid (List.take_succ_eq_append_getElem hkx)
        have HV : Hid (i64 L0[k]) := Lib.hid (HF.out _ (List.getElem_mem hkx))
        have HO : Hid (OkB (bts (L0.take k)) k) := Lib.hid (by have := bts_ok (L0.take k); rwa [List.length_take, Nat.min_eq_left (Nat.le_of_lt hkx)] at this)
        have HLK : Hid ((L0.take k).length = k) := Lib.hid (by rw [List.length_take]; omega)
        have HFK : Hid (∀ t ∈ L0.take k, i64 t) := Lib.hid (fun t ht => HF.out t (List.mem_of_mem_take ht))
        have HBX : Hid (bts (L0.take k) = bts (L0.take k)) := Lib.hid rfl
        have HNE : (ad.add k).block ≠ g5 := by rw [add_block]; omega
        have HNE6 : (ad.add k).block ≠ g6 := by rw [add_block]; omega
        clear hab
        have HCH := Lib.hid HC
        clear HC
        generalize L0[k] = x at *
        clear hkx
        generalize L0.take k = xs at *
        obtain ⟨b, hb⟩ : ∃ b, bts xs = b := ⟨_, rfl⟩
        rw [hb] at R HE HO
        have HBX := Lib.hid hb
        obtain ⟨s, hs⟩ : ∃ s, swB b = s := ⟨_, rfl⟩
        have HS := Lib.hid hs
        clear hb hs
        obtain ⟨r0, r1, r2⟩ := bc3 R.out
        have RA := Lib.hid (R.out.alloc (.cells #[.complex .f64 (fl b.x) (fl b.y), .int .i64 b.n, .int .i64 b.t] 25))
        have WA : Hid (Bk (wr.alloc (.cells #[.complex .f64 (fl b.x) (fl b.y), .int .i64 b.n, .int .i64 b.t] 25)) wr.heap.size 25 (bcells b)) := Lib.hid (Bk.new wr _ _)
        have MA := Lib.hid (M.out.alloc (.cells #[.complex .f64 (fl b.x) (fl b.y), .int .i64 b.n, .int .i64 b.t] 25))
        have DA := Lib.hid (D.out.below ((Below.refl _ _).alloc (Nat.le_refl _) (.cells #[.complex .f64 (fl b.x) (fl b.y), .int .i64 b.n, .int .i64 b.t] 25)))
        have BA := Lib.hid (B.out.alloc B.out.size (.cells #[.complex .f64 (fl b.x) (fl b.y), .int .i64 b.n, .int .i64 b.t] 25))
        have h68 : g6 < wr.heap.size := by omega
        clear M D B
        obtain ⟨t0, t1, t2⟩ := bc3 WA.out
        go_wp2_with fail
        generalize wr.heap.size = g8 at *
        generalize wr.alloc (.cells #[.complex .f64 (fl b.x) (fl b.y), .int .i64 b.n, .int .i64 b.t] 25) = y0 at *
        clear r0 r1 r2 t0 t1 t2 R
        have R := RA
        have M := MA
        have D := DA
        have B := BA
        clear RA MA DA BA
        have hk302 : k ≤ 302 := by omega
        have O5 : v.ownBlock ≠ some g5 := fun e => by have := O.out _ e; omega
        have O6 : v.ownBlock ≠ some g6 := fun e => by have := O.out _ e; omega
        have e5 : b.n = k := HO.out.len
        have E5 := Lib.hid e5
        clear e5
        with_reducible refine (writes_t b k E5.out _).mono ?_
        rintro e y1 ⟨rfl, q⟩
        have RZ := Lib.hid (R.out.below q R.out.lt)
        have WZ := Lib.hid (WA.out.below q WA.out.lt)
        have MZ := Lib.hid (M.out.below q M.out.lt)
        have DZ := Lib.hid (D.out.below q)
        have BZ := Lib.hid (B.out.trans (q.mono B.out.size))
        clear q R WA M D B
        have R := RZ
        have WA := WZ
        have M := MZ
        have D := DZ
        have B := BZ
        clear RZ WZ MZ DZ BZ
        obtain ⟨t0, t1, t2⟩ := bc3 WA.out
        go_wp2_with fail
        with_reducible refine (sway_t b k s HO.out hk302 HS.out _).mono ?_
        rintro e y2 ⟨rfl, q⟩
        have RZ := Lib.hid (R.out.below q R.out.lt)
        have WZ := Lib.hid (WA.out.below q WA.out.lt)
        have MZ := Lib.hid (M.out.below q M.out.lt)
        have DZ := Lib.hid (D.out.below q)
        have BZ := Lib.hid (B.out.trans (q.mono B.out.size))
        clear q R WA M D B
        have R := RZ
        have WA := WZ
        have M := MZ
        have D := DZ
        have B := BZ
        clear RZ WZ MZ DZ BZ
        clear t0 t1 t2
        have cx := HCH.out _ B.out
        go_wp2_with fail
        refine wp_region_held_drew (S := fun w' => w'.cell? (ad.add k) = some (.int .i64 x)) (by kernel_rfl) cx (fun g => ?_)
        obtain ⟨r0, r1, r2⟩ := bc3 R.out.drew
        have R1 := Lib.hid R.out.drew
        have B1 := Lib.hid B.out.drew
        have WA1 := Lib.hid WA.out.drew
        have M1 := Lib.hid M.out.drew
        have D1 := Lib.hid (D.out.below (Below.refl _ _).drew)
        clear R B WA M D cx
        generalize hz : World.drew _ = z at *
        clear hz
        refine tq 1 ?_ rfl (by kernel_rfl) (fun _ _ _ h => h) (by rfl) g ?_ ?_; rotate_left
        · intro w9 h9; go_simp; try with_reducible rfl
        simp only [Act.put, ptA, ptB, ptC]
        refine tq 2 ?_ rfl (by kernel_rfl) (fun _ _ _ h => h) (by rfl) g ?_ ?_; rotate_left
        · intro w9 h9; go_simp; try with_reducible rfl
        simp only [Act.put, ptA, ptB, ptC]
        refine tq 3 ?_ rfl (by kernel_rfl) (fun _ _ _ h => h) (by rfl) g ?_ ?_; rotate_left
        · intro w9 h9; go_simp; try with_reducible rfl
        simp only [Act.put, ptA, ptB, ptC]
        refine tq 4 ?_ rfl (by kernel_rfl) (fun _ _ _ h => h) (by rfl) g ?_ ?_; rotate_left
        · intro w9 h9; go_simp; try with_reducible rfl
        simp only [Act.put, ptA, ptB, ptC]
        refine tc 0 rfl (by kernel_rfl) (fun K9 hK => ?_)
        go_simp
        refine hK.out _ _ g (fun g1 => ?_)
        clear hK K9 g
        have g := g1
        clear g1
        clear r0 r1 r2
        refine tc 5 rfl (by kernel_rfl) (fun K9 hK => ?_)
        go_simp
        refine (write_t b (wrB b x) x k HO.out hk302 HV.out rfl _).mono ?_
        rintro e w2 ⟨rfl, q⟩
        have R2 := Lib.hid (R1.out.below q R1.out.lt)
        have B2 := Lib.hid (B1.out.trans (q.mono B1.out.size))
        have WA2 := Lib.hid (WA1.out.below q WA1.out.lt)
        have M2 := Lib.hid (M1.out.below q M1.out.lt)
        have D2 := Lib.hid (D1.out.below q)
        go_simp
        refine hK.out _ _ (keep1 q g) (fun g1 => ?_)
        clear hK K9 g
        have g := g1
        clear g1
        clear R1 B1 q WA1 M1 D1
        clear z
        refine tc 6 rfl (by kernel_rfl) (fun K9 hK => ?_)
        obtain ⟨r0, r1, r2⟩ := bc3 R2.out
        obtain ⟨q0, q1, q2⟩ := bf3 R2.out
        go_simp
        refine hK.out _ _ ((cfar HNE _ _ _).trans g) (fun g1 => ?_)
        clear hK K9 g
        have g := g1
        clear g1
        have R := Lib.hid (bset R2.out (c := wrB b x))
        have B := Lib.hid (below_set3 B2.out (show _ ≤ g5 by omega) (.complex .f64 (fl (wrB b x).x) (fl (wrB b x).y)) (.int .i64 (wrB b x).n) (.int .i64 (wrB b x).t))
        have WA := Lib.hid (bfar WA2.out (Nat.ne_of_gt (Nat.lt_trans h56 h68)) (.complex .f64 (fl (wrB b x).x) (fl (wrB b x).y)) (.int .i64 (wrB b x).n) (.int .i64 (wrB b x).t))
        have M := Lib.hid (bfar M2.out (Nat.ne_of_gt h56) (.complex .f64 (fl (wrB b x).x) (fl (wrB b x).y)) (.int .i64 (wrB b x).n) (.int .i64 (wrB b x).t))
        have D := Lib.hid (db_far3 D2.out O5 (.complex .f64 (fl (wrB b x).x) (fl (wrB b x).y)) (.int .i64 (wrB b x).n) (.int .i64 (wrB b x).t))
        clear r0 r1 r2 q0 q1 q2 R2 B2 WA2 M2 D2
        clear g
        generalize (((w2.setCell ⟨g5, 0, none⟩ (.complex .f64 (fl (wrB b x).x) (fl (wrB b x).y))).setCell ⟨g5, 1, none⟩ (.int .i64 (wrB b x).n)).setCell ⟨g5, 2, none⟩ (.int .i64 (wrB b x).t)) = z9 at *
        clear w2
        refine wpAnyH_done (by kernel_rfl) ?_ _
        have cx := HCH.out _ B.out
        go_wp2_with fail
        refine wp_region_held_drew (S := fun w' => w'.cell? (ad.add k) = some (.int .i64 x)) (by kernel_rfl) cx (fun g => ?_)
        have R1 := Lib.hid R.out.drew
        have WA1 := Lib.hid WA.out.drew
        have M1 := Lib.hid M.out.drew
        have D1 := Lib.hid (D.out.below (Below.refl _ _).drew)
        have B1 := Lib.hid B.out.drew
        clear R WA M D B cx
        generalize hz : World.drew _ = z at *
        clear hz
        have s0 := M1.out.cell 0
        simp only [List.getElem?_toArray, List.getElem?_cons_zero] at s0
        refine tq 1 ?_ rfl (by kernel_rfl) (fun _ _ _ h => h) (by rfl) g ?_ ?_; rotate_left
        · intro w9 h9; go_simp; try with_reducible rfl
        simp only [Act.put, ptA, ptB, ptC]
        refine tq 2 ?_ rfl (by kernel_rfl) (fun _ _ _ h => h) (by rfl) g ?_ ?_; rotate_left
        · intro w9 h9; go_simp; try with_reducible rfl
        simp only [Act.put, ptA, ptB, ptC]
        refine tq 3 ?_ rfl (by kernel_rfl) (fun _ _ _ h => h) (by rfl) g ?_ ?_; rotate_left
        · intro w9 h9; go_simp; try with_reducible rfl
        simp only [Act.put, ptA, ptB, ptC]
        refine tq 4 ?_ rfl (by kernel_rfl) (fun _ _ _ h => h) (by rfl) g ?_ ?_; rotate_left
        · intro w9 h9; go_simp; try with_reducible rfl
        simp only [Act.put, ptA, ptB, ptC]
        refine tc 0 rfl (by kernel_rfl) (fun K9 hK => ?_)
        go_simp
        refine hK.out _ _ g (fun g1 => ?_)
        clear hK K9 g
        have g := g1
        clear g1
        clear s0
        refine tc 5 rfl (by kernel_rfl) (fun K9 hK => ?_)
        go_simp
        with_reducible refine (rwrite_any v xs x (by rw [HLK.out]; omega) _ D1.out).mono ?_
        rintro e w2 ⟨v2, rfl, D2, q, O2⟩
        have R2 := Lib.hid (R1.out.below q R1.out.lt)
        have WA2 := Lib.hid (WA1.out.below q WA1.out.lt)
        have M2 := Lib.hid (M1.out.below q M1.out.lt)
        have B2 := Lib.hid (B1.out.trans (q.mono B1.out.size))
        have hz6 : g6 < z.heap.size := M1.out.lt
        have P6 : v2.ownBlock ≠ some g6 := fun e => by have := O2 _ e; omega
        have PO : Hid (∀ b, v2.ownBlock = some b → g6 + 1 ≤ b) := Lib.hid (fun b e => by have := O2 _ e; omega)
        obtain ⟨A2, c2, rfl, _⟩ := D2.slice
        rw [show (xs ++ [x]).length = xs.length + 1 by simp] at *
        have DD2 := Lib.hid D2
        clear D2
        go_simp
        refine hK.out _ _ (keep1 q g) (fun g1 => ?_)
        clear hK K9 g
        have g := g1
        clear g1
        clear q R1 WA1 M1 D1 B1 O2
        refine tc 6 rfl (by kernel_rfl) (fun K9 hK => ?_)
        have s0 := M2.out.cell 0
        have s1 := M2.out.frozen 0
        simp only [List.getElem?_toArray, List.getElem?_cons_zero] at s0
        go_simp
        refine hK.out _ _ ((World.cell?_setCell_other _ _ _ _ (fun e => HNE6 (congrArg Addr.block e).symm)).trans g) (fun g1 => ?_)
        clear hK K9 g
        have g := g1
        clear g1
        have R := Lib.hid (R2.out.far (p := ⟨g6, 0, none⟩) (Nat.ne_of_lt h56) (Value.slice A2 (xs.length + 1) c2))
        have WA := Lib.hid (WA2.out.far (p := ⟨g6, 0, none⟩) (Nat.ne_of_gt h68) (Value.slice A2 (xs.length + 1) c2))
        have M : Hid (Bk (w2.setCell ⟨g6, 0, none⟩ (Value.slice A2 (xs.length + 1) c2)) g6 28 #[(Value.slice A2 (xs.length + 1) c2)]) := Lib.hid (M2.out.set_ 0 (Value.slice A2 (xs.length + 1) c2))
        have D := Lib.hid (db_far1 DD2.out P6 (Value.slice A2 (xs.length + 1) c2))
        have B := Lib.hid (B2.out.setCell (p := ⟨g6, 0, none⟩) (show w.heap.size ≤ g6 by omega) (Value.slice A2 (xs.length + 1) c2))
        clear s0 s1 R2 WA2 M2 DD2 B2
        clear g
        generalize w2.setCell ⟨g6, 0, none⟩ (Value.slice A2 (xs.length + 1) c2) = z9 at *
        refine wpAnyH_done (by kernel_rfl) ?_ _
        have hlen : (xs ++ [x]).length = k + 1 := by rw [List.length_append, HLK.out]; rfl
        have RD : Hid (Rd z9 z9.heap.size A2 (zv (xs ++ [x]))) := Lib.hid (by
          obtain ⟨A', c', e, h⟩ := D.out.slice
          injection e with e1 e2 e3
          rw [e1]; exact h)
        rw [show xs.length + 1 = k + 1 by rw [HLK.out]] at M
        have HB1 : Hid (bts (xs ++ [x]) = wrB b x) := HE
        have HO1 := Lib.hid (HO.out.wr x)
        obtain ⟨c, hc⟩ : ∃ c, wrB b x = c := ⟨_, rfl⟩
        rw [hc] at R HB1 HO1
        have HC1 := Lib.hid hc
        have E6 : Hid (c.n = k + 1) := Lib.hid HO1.out.len
        obtain ⟨s1, hs1⟩ : ∃ s1, swB c = s1 := ⟨_, rfl⟩
        have HS1 := Lib.hid hs1
        have HSR : Hid (swB (bts (xs ++ [x])) = s1) := Lib.hid (by rw [HB1.out]; exact hs1)
        obtain ⟨p1, hp1⟩ : ∃ p1, stB c n1 = p1 := ⟨_, rfl⟩
        have HP1 := Lib.hid hp1
        have HPR1 : Hid (stB (bts (xs ++ [x])) n1 = p1) := Lib.hid (by rw [HB1.out]; exact hp1)
        obtain ⟨p2, hp2⟩ : ∃ p2, stB c x = p2 := ⟨_, rfl⟩
        have HP2 := Lib.hid hp2
        have HPR2 : Hid (stB (bts (xs ++ [x])) x = p2) := Lib.hid (by rw [HB1.out]; exact hp2)
        have HFX : Hid (∀ t ∈ xs ++ [x], i64 t) := Lib.hid (fun t ht => by
          rcases List.mem_append.1 ht with h | h
          · exact HFK.out t h
          · rw [List.mem_singleton] at h; subst h; exact HV.out)
        have HTC : Hid (i64 c.t) := Lib.hid (by rw [← hc]; exact HV.out)
        have HLX := Lib.hid hlen
        have k301 : k + 1 ≤ 302 := by omega
        have k300 : k + 1 ≤ 300 := by omega
        clear hc hs1 hp1 hp2 hlen D
        have cx := HCH.out _ B.out
        obtain ⟨r0, r1, r2⟩ := bc3 R.out
        obtain ⟨t0, t1, t2⟩ := bc3 WA.out
        have m0 := M.out.cell 0
        simp only [List.getElem?_toArray, List.getElem?_cons_zero] at m0
        go_wp2_with fail
        go_cut [87] (fun s87 wx => s87 = .bool false ∧ Hid (Bk wx g5 25 (bcells c)) ∧ Hid (Bk wx g6 28 #[.slice A2 (k + 1) c2]) ∧ Hid (Rd wx wx.heap.size A2 (zv (xs ++ [x]))) ∧ Hid (Below w.heap.size w wx))
        case first =>
          refine wp_region_held_drew (S := fun w' => w'.cell? ⟨g8, 0, none⟩ = some (.complex .f64 (fl b.x) (fl b.y)) ∧ w'.cell? ⟨g8, 1, none⟩ = some (.int .i64 b.n) ∧ w'.cell? ⟨g8, 2, none⟩ = some (.int .i64 b.t) ∧ w'.cell? ⟨g5, 0, none⟩ = some (.complex .f64 (fl c.x) (fl c.y)) ∧ w'.cell? ⟨g5, 1, none⟩ = some (.int .i64 c.n) ∧ w'.cell? ⟨g5, 2, none⟩ = some (.int .i64 c.t) ∧ w'.cell? ⟨g6, 0, none⟩ = some (.slice A2 (k + 1) c2) ∧ w'.cell? (ad.add k) = some (.int .i64 x)) (by kernel_rfl) ⟨t0, t1, t2, r0, r1, r2, m0, cx⟩ (fun g => ?_)
          have R1 := Lib.hid R.out.drew
          have M1 := Lib.hid M.out.drew
          have RD1 : Hid (Rd z9.drew z9.drew.heap.size A2 (zv (xs ++ [x]))) := RD
          have B1 := Lib.hid B.out.drew
          clear R WA M RD B cx r0 r1 r2 t0 t1 t2 m0
          generalize hz : World.drew _ = z at *
          clear hz
          refine tq 0 ?_ rfl (by kernel_rfl) (fun _ _ _ h => h) (by rfl) g ?_ ?_; rotate_left
          · intro w9 h9; obtain ⟨d0, d1, d2, d3, d4, d5, d6, d7⟩ := h9; go_simp; try with_reducible rfl
          simp only [Act.put, ptA, ptB, ptC]
          refine tq 2 ?_ rfl (by kernel_rfl) (fun _ _ _ h => h) (by rfl) g ?_ ?_; rotate_left
          · intro w9 h9; obtain ⟨d0, d1, d2, d3, d4, d5, d6, d7⟩ := h9; go_simp; try with_reducible rfl
          simp only [Act.put, ptA, ptB, ptC]
          refine tc 1 rfl (by kernel_rfl) (fun K9 hK => ?_)
          go_simp
          with_reducible refine (writes_t b k E5.out _).mono ?_
          rintro e y1 ⟨rfl, q⟩
          go_simp
          refine hK.out _ _ ⟨keep1 q g.1, keep1 q g.2.1, keep1 q g.2.2.1, keep1 q g.2.2.2.1, keep1 q g.2.2.2.2.1, keep1 q g.2.2.2.2.2.1, keep1 q g.2.2.2.2.2.2.1, keep1 q g.2.2.2.2.2.2.2⟩ (fun g1 => ?_)
          clear hK K9 g
          have g := g1
          clear g1
          have R2 := Lib.hid (R1.out.below q R1.out.lt)
          have M2 := Lib.hid (M1.out.below q M1.out.lt)
          have RD2 := Lib.hid ((RD1.out.below q).mono q.size)
          have B2 := Lib.hid (B1.out.trans (q.mono B1.out.size))
          clear q R1 M1 RD1 B1
          have R1 := R2
          have M1 := M2
          have RD1 := RD2
          have B1 := B2
          clear R2 M2 RD2 B2
          refine tq 3 (.bool false) rfl (by kernel_rfl) (fun _ _ _ h => h) (by rfl) g ?_ ?_
          · intro w9 h9; obtain ⟨d0, d1, d2, d3, d4, d5, d6, d7⟩ := h9; go_simp; try simp
          simp only [Act.put, ptA, ptB, ptC]
          refine tq 4 ?_ rfl (by kernel_rfl) (fun _ _ _ h => h) (by rfl) g ?_ ?_; rotate_left
          · intro w9 h9; obtain ⟨d0, d1, d2, d3, d4, d5, d6, d7⟩ := h9; go_simp; try with_reducible rfl
          simp only [Act.put, ptA, ptB, ptC]
          refine tq 5 ?_ rfl (by kernel_rfl) (fun _ _ _ h => h) (by rfl) g ?_ ?_; rotate_left
          · intro w9 h9; obtain ⟨d0, d1, d2, d3, d4, d5, d6, d7⟩ := h9; go_simp; try with_reducible rfl
          simp only [Act.put, ptA, ptB, ptC]
          refine tq 7 ?_ rfl (by kernel_rfl) (fun _ _ _ h => h) (by rfl) g ?_ ?_; rotate_left
          · intro w9 h9; obtain ⟨d0, d1, d2, d3, d4, d5, d6, d7⟩ := h9; go_simp; try with_reducible rfl
          simp only [Act.put, ptA, ptB, ptC]
          refine tc 6 rfl (by kernel_rfl) (fun K9 hK => ?_)
          go_simp
          with_reducible refine (sway_t b k s HO.out hk302 HS.out _).mono ?_
          rintro e y2 ⟨rfl, q⟩
          go_simp
          refine hK.out _ _ ⟨keep1 q g.1, keep1 q g.2.1, keep1 q g.2.2.1, keep1 q g.2.2.2.1, keep1 q g.2.2.2.2.1, keep1 q g.2.2.2.2.2.1, keep1 q g.2.2.2.2.2.2.1, keep1 q g.2.2.2.2.2.2.2⟩ (fun g1 => ?_)
          clear hK K9 g
          have g := g1
          clear g1
          have R2 := Lib.hid (R1.out.below q R1.out.lt)
          have M2 := Lib.hid (M1.out.below q M1.out.lt)
          have RD2 := Lib.hid ((RD1.out.below q).mono q.size)
          have B2 := Lib.hid (B1.out.trans (q.mono B1.out.size))
          clear q R1 M1 RD1 B1
          have R1 := R2
          have M1 := M2
          have RD1 := RD2
          have B1 := B2
          clear R2 M2 RD2 B2
          refine tq 8 (.bool false) rfl (by kernel_rfl) (fun _ _ _ h => h) (by rfl) g ?_ ?_
          · intro w9 h9; obtain ⟨d0, d1, d2, d3, d4, d5, d6, d7⟩ := h9; go_simp; try simp
          simp only [Act.put, ptA, ptB, ptC]
          refine tq 9 ?_ rfl (by kernel_rfl) (fun _ _ _ h => h) (by rfl) g ?_ ?_; rotate_left
          · intro w9 h9; obtain ⟨d0, d1, d2, d3, d4, d5, d6, d7⟩ := h9; go_simp; try with_reducible rfl
          simp only [Act.put, ptA, ptB, ptC]
          refine tq 10 ?_ rfl (by kernel_rfl) (fun _ _ _ h => h) (by rfl) g ?_ ?_; rotate_left
          · intro w9 h9; obtain ⟨d0, d1, d2, d3, d4, d5, d6, d7⟩ := h9; go_simp; try with_reducible rfl
          simp only [Act.put, ptA, ptB, ptC]
          refine tq 11 ?_ rfl (by kernel_rfl) (fun _ _ _ h => h) (by rfl) g ?_ ?_; rotate_left
          · intro w9 h9; obtain ⟨d0, d1, d2, d3, d4, d5, d6, d7⟩ := h9; go_simp; try with_reducible rfl
          simp only [Act.put, ptA, ptB, ptC]
          refine tq 13 ?_ rfl (by kernel_rfl) (fun _ _ _ h => h) (by rfl) g ?_ ?_; rotate_left
          · intro w9 h9; obtain ⟨d0, d1, d2, d3, d4, d5, d6, d7⟩ := h9; go_simp; try with_reducible rfl
          simp only [Act.put, ptA, ptB, ptC]
          refine tc 12 rfl (by kernel_rfl) (fun K9 hK => ?_)
          go_simp
          with_reducible refine (writes_t c (k + 1) E6.out _).mono ?_
          rintro e y3 ⟨rfl, q⟩
          go_simp
          refine hK.out _ _ ⟨keep1 q g.1, keep1 q g.2.1, keep1 q g.2.2.1, keep1 q g.2.2.2.1, keep1 q g.2.2.2.2.1, keep1 q g.2.2.2.2.2.1, keep1 q g.2.2.2.2.2.2.1, keep1 q g.2.2.2.2.2.2.2⟩ (fun g1 => ?_)
          clear hK K9 g
          have g := g1
          clear g1
          have R2 := Lib.hid (R1.out.below q R1.out.lt)
          have M2 := Lib.hid (M1.out.below q M1.out.lt)
          have RD2 := Lib.hid ((RD1.out.below q).mono q.size)
          have B2 := Lib.hid (B1.out.trans (q.mono B1.out.size))
          clear q R1 M1 RD1 B1
          have R1 := R2
          have M1 := M2
          have RD1 := RD2
          have B1 := B2
          clear R2 M2 RD2 B2
          refine tc 14 rfl (by kernel_rfl) (fun K9 hK => ?_)
          go_simp
          with_reducible refine (rwrites_any A2 (k + 1) c2 _).mono ?_
          rintro e y4 ⟨rfl, q⟩
          go_simp
          refine hK.out _ _ ⟨keep1 q g.1, keep1 q g.2.1, keep1 q g.2.2.1, keep1 q g.2.2.2.1, keep1 q g.2.2.2.2.1, keep1 q g.2.2.2.2.2.1, keep1 q g.2.2.2.2.2.2.1, keep1 q g.2.2.2.2.2.2.2⟩ (fun g1 => ?_)
          clear hK K9 g
          have g := g1
          clear g1
          have R2 := Lib.hid (R1.out.below q R1.out.lt)
          have M2 := Lib.hid (M1.out.below q M1.out.lt)
          have RD2 := Lib.hid ((RD1.out.below q).mono q.size)
          have B2 := Lib.hid (B1.out.trans (q.mono B1.out.size))
          clear q R1 M1 RD1 B1
          have R1 := R2
          have M1 := M2
          have RD1 := RD2
          have B1 := B2
          clear R2 M2 RD2 B2
          refine tq 15 (.bool false) rfl (by kernel_rfl) (fun _ _ _ h => h) (by rfl) g ?_ ?_
          · intro w9 h9; obtain ⟨d0, d1, d2, d3, d4, d5, d6, d7⟩ := h9; go_simp; try simp
          simp only [Act.put, ptA, ptB, ptC]
          refine tq 16 ?_ rfl (by kernel_rfl) (fun _ _ _ h => h) (by rfl) g ?_ ?_; rotate_left
          · intro w9 h9; obtain ⟨d0, d1, d2, d3, d4, d5, d6, d7⟩ := h9; go_simp; try with_reducible rfl
          simp only [Act.put, ptA, ptB, ptC]
          refine tq 17 ?_ rfl (by kernel_rfl) (fun _ _ _ h => h) (by rfl) g ?_ ?_; rotate_left
          · intro w9 h9; obtain ⟨d0, d1, d2, d3, d4, d5, d6, d7⟩ := h9; go_simp; try with_reducible rfl
          simp only [Act.put, ptA, ptB, ptC]
          refine tq 18 ?_ rfl (by kernel_rfl) (fun _ _ _ h => h) (by rfl) g ?_ ?_; rotate_left
          · intro w9 h9; obtain ⟨d0, d1, d2, d3, d4, d5, d6, d7⟩ := h9; go_simp; try with_reducible rfl
          simp only [Act.put, ptA, ptB, ptC]
          refine tq 20 ?_ rfl (by kernel_rfl) (fun _ _ _ h => h) (by rfl) g ?_ ?_; rotate_left
          · intro w9 h9; obtain ⟨d0, d1, d2, d3, d4, d5, d6, d7⟩ := h9; go_simp; try with_reducible rfl
          simp only [Act.put, ptA, ptB, ptC]
          refine tc 19 rfl (by kernel_rfl) (fun K9 hK => ?_)
          go_simp
          with_reducible refine (sway_t c (k + 1) s1 HO1.out k301 HS1.out _).mono ?_
          rintro e y5 ⟨rfl, q⟩
          go_simp
          refine hK.out _ _ ⟨keep1 q g.1, keep1 q g.2.1, keep1 q g.2.2.1, keep1 q g.2.2.2.1, keep1 q g.2.2.2.2.1, keep1 q g.2.2.2.2.2.1, keep1 q g.2.2.2.2.2.2.1, keep1 q g.2.2.2.2.2.2.2⟩ (fun g1 => ?_)
          clear hK K9 g
          have g := g1
          clear g1
          have R2 := Lib.hid (R1.out.below q R1.out.lt)
          have M2 := Lib.hid (M1.out.below q M1.out.lt)
          have RD2 := Lib.hid ((RD1.out.below q).mono q.size)
          have B2 := Lib.hid (B1.out.trans (q.mono B1.out.size))
          clear q R1 M1 RD1 B1
          have R1 := R2
          have M1 := M2
          have RD1 := RD2
          have B1 := B2
          clear R2 M2 RD2 B2
          refine tc 21 rfl (by kernel_rfl) (fun K9 hK => ?_)
          go_simp
          with_reducible refine (rsway_t A2 c2 (k + 1) s1 (xs ++ [x]) HLX.out k300 HFX.out HSR.out _ RD1.out).mono ?_
          rintro e y6 ⟨rfl, q⟩
          go_simp
          refine hK.out _ _ ⟨keep1 q g.1, keep1 q g.2.1, keep1 q g.2.2.1, keep1 q g.2.2.2.1, keep1 q g.2.2.2.2.1, keep1 q g.2.2.2.2.2.1, keep1 q g.2.2.2.2.2.2.1, keep1 q g.2.2.2.2.2.2.2⟩ (fun g1 => ?_)
          clear hK K9 g
          have g := g1
          clear g1
          have R2 := Lib.hid (R1.out.below q R1.out.lt)
          have M2 := Lib.hid (M1.out.below q M1.out.lt)
          have RD2 := Lib.hid ((RD1.out.below q).mono q.size)
          have B2 := Lib.hid (B1.out.trans (q.mono B1.out.size))
          clear q R1 M1 RD1 B1
          have R1 := R2
          have M1 := M2
          have RD1 := RD2
          have B1 := B2
          clear R2 M2 RD2 B2
          refine tq 22 (.bool false) rfl (by kernel_rfl) (fun _ _ _ h => h) (by rfl) g ?_ ?_
          · intro w9 h9; obtain ⟨d0, d1, d2, d3, d4, d5, d6, d7⟩ := h9; go_simp; try simp
          simp only [Act.put, ptA, ptB, ptC]
          refine tq 23 ?_ rfl (by kernel_rfl) (fun _ _ _ h => h) (by rfl) g ?_ ?_; rotate_left
          · intro w9 h9; obtain ⟨d0, d1, d2, d3, d4, d5, d6, d7⟩ := h9; go_simp; try with_reducible rfl
          simp only [Act.put, ptA, ptB, ptC]
          refine tq 24 ?_ rfl (by kernel_rfl) (fun _ _ _ h => h) (by rfl) g ?_ ?_; rotate_left
          · intro w9 h9; obtain ⟨d0, d1, d2, d3, d4, d5, d6, d7⟩ := h9; go_simp; try with_reducible rfl
          simp only [Act.put, ptA, ptB, ptC]
          refine tq 25 ?_ rfl (by kernel_rfl) (fun _ _ _ h => h) (by rfl) g ?_ ?_; rotate_left
          · intro w9 h9; obtain ⟨d0, d1, d2, d3, d4, d5, d6, d7⟩ := h9; go_simp; try with_reducible rfl
          simp only [Act.put, ptA, ptB, ptC]
          refine tq 26 ?_ rfl (by kernel_rfl) (fun _ _ _ h => h) (by rfl) g ?_ ?_; rotate_left
          · intro w9 h9; obtain ⟨d0, d1, d2, d3, d4, d5, d6, d7⟩ := h9; go_simp; try with_reducible rfl
          simp only [Act.put, ptA, ptB, ptC]
          refine tq 28 ?_ rfl (by kernel_rfl) (fun _ _ _ h => h) (by rfl) g ?_ ?_; rotate_left
          · intro w9 h9; obtain ⟨d0, d1, d2, d3, d4, d5, d6, d7⟩ := h9; go_simp; try with_reducible rfl
          simp only [Act.put, ptA, ptB, ptC]
          refine tq 29 ?_ rfl (by kernel_rfl) (fun _ _ _ h => h) (by rfl) g ?_ ?_; rotate_left
          · intro w9 h9; obtain ⟨d0, d1, d2, d3, d4, d5, d6, d7⟩ := h9; go_simp; try with_reducible rfl
          simp only [Act.put, ptA, ptB, ptC]
          refine tc 27 rfl (by kernel_rfl) (fun K9 hK => ?_)
          go_simp
          with_reducible refine (steady_t c (k + 1) n1 p1 HO1.out k301 HTC.out hn1 HP1.out _).mono ?_
          rintro e y7 ⟨rfl, q⟩
          go_simp
          refine hK.out _ _ ⟨keep1 q g.1, keep1 q g.2.1, keep1 q g.2.2.1, keep1 q g.2.2.2.1, keep1 q g.2.2.2.2.1, keep1 q g.2.2.2.2.2.1, keep1 q g.2.2.2.2.2.2.1, keep1 q g.2.2.2.2.2.2.2⟩ (fun g1 => ?_)
          clear hK K9 g
          have g := g1
          clear g1
          have R2 := Lib.hid (R1.out.below q R1.out.lt)
          have M2 := Lib.hid (M1.out.below q M1.out.lt)
          have RD2 := Lib.hid ((RD1.out.below q).mono q.size)
          have B2 := Lib.hid (B1.out.trans (q.mono B1.out.size))
          clear q R1 M1 RD1 B1
          have R1 := R2
          have M1 := M2
          have RD1 := RD2
          have B1 := B2
          clear R2 M2 RD2 B2
          refine tc 30 rfl (by kernel_rfl) (fun K9 hK => ?_)
          go_simp
          with_reducible refine (rsteady_t A2 c2 (k + 1) (xs ++ [x]) n1 p1 HLX.out k300 HFX.out hn1 HPR1.out _ RD1.out).mono ?_
          rintro e y8 ⟨rfl, q⟩
          go_simp
          refine hK.out _ _ ⟨keep1 q g.1, keep1 q g.2.1, keep1 q g.2.2.1, keep1 q g.2.2.2.1, keep1 q g.2.2.2.2.1, keep1 q g.2.2.2.2.2.1, keep1 q g.2.2.2.2.2.2.1, keep1 q g.2.2.2.2.2.2.2⟩ (fun g1 => ?_)
          clear hK K9 g
          have g := g1
          clear g1
          have R2 := Lib.hid (R1.out.below q R1.out.lt)
          have M2 := Lib.hid (M1.out.below q M1.out.lt)
          have RD2 := Lib.hid ((RD1.out.below q).mono q.size)
          have B2 := Lib.hid (B1.out.trans (q.mono B1.out.size))
          clear q R1 M1 RD1 B1
          have R1 := R2
          have M1 := M2
          have RD1 := RD2
          have B1 := B2
          clear R2 M2 RD2 B2
          refine tq 31 (.bool false) rfl (by kernel_rfl) (fun _ _ _ h => h) (by rfl) g ?_ ?_
          · intro w9 h9; obtain ⟨d0, d1, d2, d3, d4, d5, d6, d7⟩ := h9; go_simp; try simp
          simp only [Act.put, ptA, ptB, ptC]
          refine tq 32 ?_ rfl (by kernel_rfl) (fun _ _ _ h => h) (by rfl) g ?_ ?_; rotate_left
          · intro w9 h9; obtain ⟨d0, d1, d2, d3, d4, d5, d6, d7⟩ := h9; go_simp; try with_reducible rfl
          simp only [Act.put, ptA, ptB, ptC]
          refine tq 33 ?_ rfl (by kernel_rfl) (fun _ _ _ h => h) (by rfl) g ?_ ?_; rotate_left
          · intro w9 h9; obtain ⟨d0, d1, d2, d3, d4, d5, d6, d7⟩ := h9; go_simp; try with_reducible rfl
          simp only [Act.put, ptA, ptB, ptC]
          refine tq 34 ?_ rfl (by kernel_rfl) (fun _ _ _ h => h) (by rfl) g ?_ ?_; rotate_left
          · intro w9 h9; obtain ⟨d0, d1, d2, d3, d4, d5, d6, d7⟩ := h9; go_simp; try with_reducible rfl
          simp only [Act.put, ptA, ptB, ptC]
          refine tq 35 ?_ rfl (by kernel_rfl) (fun _ _ _ h => h) (by rfl) g ?_ ?_; rotate_left
          · intro w9 h9; obtain ⟨d0, d1, d2, d3, d4, d5, d6, d7⟩ := h9; go_simp; try with_reducible rfl
          simp only [Act.put, ptA, ptB, ptC]
          refine tq 36 ?_ rfl (by kernel_rfl) (fun _ _ _ h => h) (by rfl) g ?_ ?_; rotate_left
          · intro w9 h9; obtain ⟨d0, d1, d2, d3, d4, d5, d6, d7⟩ := h9; go_simp; try with_reducible rfl
          simp only [Act.put, ptA, ptB, ptC]
          refine tq 37 ?_ rfl (by kernel_rfl) (fun _ _ _ h => h) (by rfl) g ?_ ?_; rotate_left
          · intro w9 h9; obtain ⟨d0, d1, d2, d3, d4, d5, d6, d7⟩ := h9; go_simp; try with_reducible rfl
          simp only [Act.put, ptA, ptB, ptC]
          refine tq 38 ?_ rfl (by kernel_rfl) (fun _ _ _ h => h) (by rfl) g ?_ ?_; rotate_left
          · intro w9 h9; obtain ⟨d0, d1, d2, d3, d4, d5, d6, d7⟩ := h9; go_simp; try with_reducible rfl
          simp only [Act.put, ptA, ptB, ptC]
          refine tq 40 ?_ rfl (by kernel_rfl) (fun _ _ _ h => h) (by rfl) g ?_ ?_; rotate_left
          · intro w9 h9; obtain ⟨d0, d1, d2, d3, d4, d5, d6, d7⟩ := h9; go_simp; try with_reducible rfl
          simp only [Act.put, ptA, ptB, ptC]
          refine tq 41 ?_ rfl (by kernel_rfl) (fun _ _ _ h => h) (by rfl) g ?_ ?_; rotate_left
          · intro w9 h9; obtain ⟨d0, d1, d2, d3, d4, d5, d6, d7⟩ := h9; go_simp; try with_reducible rfl
          simp only [Act.put, ptA, ptB, ptC]
          refine tq 42 ?_ rfl (by kernel_rfl) (fun _ _ _ h => h) (by rfl) g ?_ ?_; rotate_left
          · intro w9 h9; obtain ⟨d0, d1, d2, d3, d4, d5, d6, d7⟩ := h9; go_simp; try with_reducible rfl
          simp only [Act.put, ptA, ptB, ptC]
          refine tq 43 ?_ rfl (by kernel_rfl) (fun _ _ _ h => h) (by rfl) g ?_ ?_; rotate_left
          · intro w9 h9; obtain ⟨d0, d1, d2, d3, d4, d5, d6, d7⟩ := h9; go_simp; try with_reducible rfl
          simp only [Act.put, ptA, ptB, ptC]
          refine tq 44 ?_ rfl (by kernel_rfl) (fun _ _ _ h => h) (by rfl) g ?_ ?_; rotate_left
          · intro w9 h9; obtain ⟨d0, d1, d2, d3, d4, d5, d6, d7⟩ := h9; go_simp; try with_reducible rfl
          simp only [Act.put, ptA, ptB, ptC]
          refine tc 39 rfl (by kernel_rfl) (fun K9 hK => ?_)
          go_simp
          with_reducible refine (steady_t c (k + 1) x p2 HO1.out k301 HTC.out HV.out HP2.out _).mono ?_
          rintro e y9 ⟨rfl, q⟩
          go_simp
          refine hK.out _ _ ⟨keep1 q g.1, keep1 q g.2.1, keep1 q g.2.2.1, keep1 q g.2.2.2.1, keep1 q g.2.2.2.2.1, keep1 q g.2.2.2.2.2.1, keep1 q g.2.2.2.2.2.2.1, keep1 q g.2.2.2.2.2.2.2⟩ (fun g1 => ?_)
          clear hK K9 g
          have g := g1
          clear g1
          have R2 := Lib.hid (R1.out.below q R1.out.lt)
          have M2 := Lib.hid (M1.out.below q M1.out.lt)
          have RD2 := Lib.hid ((RD1.out.below q).mono q.size)
          have B2 := Lib.hid (B1.out.trans (q.mono B1.out.size))
          clear q R1 M1 RD1 B1
          have R1 := R2
          have M1 := M2
          have RD1 := RD2
          have B1 := B2
          clear R2 M2 RD2 B2
          refine tc 45 rfl (by kernel_rfl) (fun K9 hK => ?_)
          go_simp
          with_reducible refine (rsteady_t A2 c2 (k + 1) (xs ++ [x]) x p2 HLX.out k300 HFX.out HV.out HPR2.out _ RD1.out).mono ?_
          rintro e y10 ⟨rfl, q⟩
          go_simp
          refine hK.out _ _ ⟨keep1 q g.1, keep1 q g.2.1, keep1 q g.2.2.1, keep1 q g.2.2.2.1, keep1 q g.2.2.2.2.1, keep1 q g.2.2.2.2.2.1, keep1 q g.2.2.2.2.2.2.1, keep1 q g.2.2.2.2.2.2.2⟩ (fun g1 => ?_)
          clear hK K9 g
          have g := g1
          clear g1
          have R2 := Lib.hid (R1.out.below q R1.out.lt)
          have M2 := Lib.hid (M1.out.below q M1.out.lt)
          have RD2 := Lib.hid ((RD1.out.below q).mono q.size)
          have B2 := Lib.hid (B1.out.trans (q.mono B1.out.size))
          clear q R1 M1 RD1 B1
          have R1 := R2
          have M1 := M2
          have RD1 := RD2
          have B1 := B2
          clear R2 M2 RD2 B2
          refine tq 46 (.bool false) rfl (by kernel_rfl) (fun _ _ _ h => h) (by rfl) g ?_ ?_
          · intro w9 h9; obtain ⟨d0, d1, d2, d3, d4, d5, d6, d7⟩ := h9; go_simp; try simp
          simp only [Act.put, ptA, ptB, ptC]
          refine tq 47 ?_ rfl (by kernel_rfl) (fun _ _ _ h => h) (by rfl) g ?_ ?_; rotate_left
          · intro w9 h9; obtain ⟨d0, d1, d2, d3, d4, d5, d6, d7⟩ := h9; go_simp; try with_reducible rfl
          simp only [Act.put, ptA, ptB, ptC]
          clear g
          refine wpAnyH_done (by kernel_rfl) ?_ _
          go_wp2_with fail
          go_meet
          case rel => exact ⟨rfl, R1, M1, RD1, B1⟩
        case rest =>
          clear R WA M RD B cx r0 r1 r2 t0 t1 t2 m0
          obtain ⟨rfl, R, M, RD, B⟩ := hcut
          have FR : Hid (Bk wc g5 25 (bcells (bts (L0.take (k + 1))))) := Lib.hid (by rw [HT.out, HB1.out]; exact R.out)
          have FM : Hid (∃ v, Bk wc g6 28 #[v] ∧ DB wc v (L0.take (k + 1)) ∧ ∀ b, v.ownBlock = some b → g6 + 1 ≤ b) := Lib.hid ⟨_, M.out, by rw [HT.out]; exact db_of_rd RD.out HLX.out (by simp), fun b e => PO.out b (by cases A2 <;> exact e)⟩
          have hszc : g6 + 1 ≤ wc.heap.size := M.out.lt
          go_wp2
          go_roundw
          case rel => exact ⟨k + 1, by omega, by omega, by go_num, FR, FM, B, hszc⟩
          case measure => simp [intOf]; omega
      · have i3 : ¬ (k : Int) < 200 := by omega
        have HO : Hid (OkB (bts (L0.take k)) k) := Lib.hid (by have := bts_ok (L0.take k); rwa [List.length_take, Nat.min_eq_left (by rw [HL.out]; omega)] at this)
        have HLX : Hid ((L0.take k).length = k) := Lib.hid (by rw [List.length_take, HL.out]; omega)
        have HFX : Hid (∀ t ∈ L0.take k, i64 t) := Lib.hid (fun t ht => HF.out t (List.mem_of_mem_take ht))
        generalize L0.take k = xs at *
        obtain ⟨A2, c2, rfl, RD0⟩ := D.out.slice
        have RD := Lib.hid RD0
        rw [HLX.out] at M
        have HTC : Hid (i64 (bts xs).t) := Lib.hid (bts_t_i64 xs HFX.out)
        obtain ⟨c, hc⟩ : ∃ c, bts xs = c := ⟨_, rfl⟩
        rw [hc] at R HO HTC
        have E6 : Hid (c.n = k) := Lib.hid HO.out.len
        obtain ⟨p1, hp1⟩ : ∃ p1, stB c n1 = p1 := ⟨_, rfl⟩
        have HP1 := Lib.hid hp1
        have HPR1 : Hid (stB (bts xs) n1 = p1) := Lib.hid (by rw [hc]; exact hp1)
        have k302 : k ≤ 302 := by omega
        have k300 : k ≤ 300 := by omega
        clear hc hp1 RD0 D O
        obtain ⟨r0, r1, r2⟩ := bc3 R.out
        have m0 := M.out.cell 0
        simp only [List.getElem?_toArray, List.getElem?_cons_zero] at m0
        go_wp2_with fail
        refine wp_region_held_drew (S := fun w' => w'.cell? ⟨g5, 0, none⟩ = some (.complex .f64 (fl c.x) (fl c.y)) ∧ w'.cell? ⟨g5, 1, none⟩ = some (.int .i64 c.n) ∧ w'.cell? ⟨g5, 2, none⟩ = some (.int .i64 c.t) ∧ w'.cell? ⟨g6, 0, none⟩ = some (.slice A2 k c2)) (by kernel_rfl) ⟨r0, r1, r2, m0⟩ (fun g => ?_)
        have RD1 : Hid (Rd wr.drew wr.drew.heap.size A2 (zv xs)) := RD
        have B1 := Lib.hid B.out.drew
        clear R M RD B r0 r1 r2 m0
        generalize wr.drew = z at *
        refine tq 0 ?_ rfl (by kernel_rfl) (fun _ _ _ h => h) (by rfl) g ?_ ?_; rotate_left
        · intro w9 h9; obtain ⟨d0, d1, d2, d3⟩ := h9; go_simp; try with_reducible rfl
        simp only [Act.put, ptA, ptB, ptC]
        refine tq 2 ?_ rfl (by kernel_rfl) (fun _ _ _ h => h) (by rfl) g ?_ ?_; rotate_left
        · intro w9 h9; obtain ⟨d0, d1, d2, d3⟩ := h9; go_simp; try with_reducible rfl
        simp only [Act.put, ptA, ptB, ptC]
        refine tc 1 rfl (by kernel_rfl) (fun K9 hK => ?_)
        go_simp
        with_reducible refine (writes_t c k E6.out _).mono ?_
        rintro e y1 ⟨rfl, q⟩
        go_simp
        refine hK.out _ _ ⟨keep1 q g.1, keep1 q g.2.1, keep1 q g.2.2.1, keep1 q g.2.2.2⟩ (fun g1 => ?_)
        clear hK K9 g
        have g := g1
        clear g1
        have RD2 := Lib.hid ((RD1.out.below q).mono q.size)
        have B2 := Lib.hid (B1.out.trans (q.mono B1.out.size))
        clear q RD1 B1
        have RD1 := RD2
        have B1 := B2
        clear RD2 B2
        refine tc 3 rfl (by kernel_rfl) (fun K9 hK => ?_)
        go_simp
        with_reducible refine (rwrites_any A2 k c2 _).mono ?_
        rintro e y2 ⟨rfl, q⟩
        go_simp
        refine hK.out _ _ ⟨keep1 q g.1, keep1 q g.2.1, keep1 q g.2.2.1, keep1 q g.2.2.2⟩ (fun g1 => ?_)
        clear hK K9 g
        have g := g1
        clear g1
        have RD2 := Lib.hid ((RD1.out.below q).mono q.size)
        have B2 := Lib.hid (B1.out.trans (q.mono B1.out.size))
        clear q RD1 B1
        have RD1 := RD2
        have B1 := B2
        clear RD2 B2
        refine tq 4 (.bool true) rfl (by kernel_rfl) (fun _ _ _ h => h) (by rfl) g ?_ ?_
        · intro w9 h9; obtain ⟨d0, d1, d2, d3⟩ := h9; go_simp; try simp
        simp only [Act.put, ptA, ptB, ptC]
        refine tq 5 ?_ rfl (by kernel_rfl) (fun _ _ _ h => h) (by rfl) g ?_ ?_; rotate_left
        · intro w9 h9; obtain ⟨d0, d1, d2, d3⟩ := h9; go_simp; try with_reducible rfl
        simp only [Act.put, ptA, ptB, ptC]
        refine tq 6 ?_ rfl (by kernel_rfl) (fun _ _ _ h => h) (by rfl) g ?_ ?_; rotate_left
        · intro w9 h9; obtain ⟨d0, d1, d2, d3⟩ := h9; go_simp; try with_reducible rfl
        simp only [Act.put, ptA, ptB, ptC]
        refine tq 7 ?_ rfl (by kernel_rfl) (fun _ _ _ h => h) (by rfl) g ?_ ?_; rotate_left
        · intro w9 h9; obtain ⟨d0, d1, d2, d3⟩ := h9; go_simp; try with_reducible rfl
        simp only [Act.put, ptA, ptB, ptC]
        refine tq 9 ?_ rfl (by kernel_rfl) (fun _ _ _ h => h) (by rfl) g ?_ ?_; rotate_left
        · intro w9 h9; obtain ⟨d0, d1, d2, d3⟩ := h9; go_simp; try with_reducible rfl
        simp only [Act.put, ptA, ptB, ptC]
        refine tq 10 ?_ rfl (by kernel_rfl) (fun _ _ _ h => h) (by rfl) g ?_ ?_; rotate_left
        · intro w9 h9; obtain ⟨d0, d1, d2, d3⟩ := h9; go_simp; try with_reducible rfl
        simp only [Act.put, ptA, ptB, ptC]
        refine tc 8 rfl (by kernel_rfl) (fun K9 hK => ?_)
        go_simp
        with_reducible refine (steady_t c k n1 p1 HO.out k302 HTC.out hn1 HP1.out _).mono ?_
        rintro e y3 ⟨rfl, q⟩
        go_simp
        refine hK.out _ _ ⟨keep1 q g.1, keep1 q g.2.1, keep1 q g.2.2.1, keep1 q g.2.2.2⟩ (fun g1 => ?_)
        clear hK K9 g
        have g := g1
        clear g1
        have RD2 := Lib.hid ((RD1.out.below q).mono q.size)
        have B2 := Lib.hid (B1.out.trans (q.mono B1.out.size))
        clear q RD1 B1
        have RD1 := RD2
        have B1 := B2
        clear RD2 B2
        refine tc 11 rfl (by kernel_rfl) (fun K9 hK => ?_)
        go_simp
        with_reducible refine (rsteady_t A2 c2 k xs n1 p1 HLX.out k300 HFX.out hn1 HPR1.out _ RD1.out).mono ?_
        rintro e y4 ⟨rfl, q⟩
        go_simp
        refine hK.out _ _ ⟨keep1 q g.1, keep1 q g.2.1, keep1 q g.2.2.1, keep1 q g.2.2.2⟩ (fun g1 => ?_)
        clear hK K9 g
        have g := g1
        clear g1
        have RD2 := Lib.hid ((RD1.out.below q).mono q.size)
        have B2 := Lib.hid (B1.out.trans (q.mono B1.out.size))
        clear q RD1 B1
        have RD1 := RD2
        have B1 := B2
        clear RD2 B2
        refine tq 12 (.bool true) rfl (by kernel_rfl) (fun _ _ _ h => h) (by rfl) g ?_ ?_
        · intro w9 h9; obtain ⟨d0, d1, d2, d3⟩ := h9; go_simp; try simp
        simp only [Act.put, ptA, ptB, ptC]
        refine tq 13 ?_ rfl (by kernel_rfl) (fun _ _ _ h => h) (by rfl) g ?_ ?_; rotate_left
        · intro w9 h9; obtain ⟨d0, d1, d2, d3⟩ := h9; go_simp; try with_reducible rfl
        simp only [Act.put, ptA, ptB, ptC]
        refine tq 14 ?_ rfl (by kernel_rfl) (fun _ _ _ h => h) (by rfl) g ?_ ?_; rotate_left
        · intro w9 h9; obtain ⟨d0, d1, d2, d3⟩ := h9; go_simp; try with_reducible rfl
        simp only [Act.put, ptA, ptB, ptC]
        refine tc 15 rfl (by kernel_rfl) (fun K9 hK => ?_)
        go_simp
        with_reducible refine (known_any _).mono ?_
        rintro e y5 ⟨rfl, q⟩
        go_simp
        refine hK.out _ _ ⟨keep1 q g.1, keep1 q g.2.1, keep1 q g.2.2.1, keep1 q g.2.2.2⟩ (fun g1 => ?_)
        clear hK K9 g
        have g := g1
        clear g1
        have RD2 := Lib.hid ((RD1.out.below q).mono q.size)
        have B2 := Lib.hid (B1.out.trans (q.mono B1.out.size))
        clear q RD1 B1
        have RD1 := RD2
        have B1 := B2
        clear RD2 B2
        refine tq 16 ?_ rfl (by kernel_rfl) (fun _ _ _ h => h) (by rfl) g ?_ ?_; rotate_left
        · intro w9 h9; obtain ⟨d0, d1, d2, d3⟩ := h9; go_simp; try with_reducible rfl
        simp only [Act.put, ptA, ptB, ptC]
        refine tq 17 ?_ rfl (by kernel_rfl) (fun _ _ _ h => h) (by rfl) g ?_ ?_; rotate_left
        · intro w9 h9; obtain ⟨d0, d1, d2, d3⟩ := h9; go_simp; try with_reducible rfl
        simp only [Act.put, ptA, ptB, ptC]
        clear g
        refine wpAnyH_done (by kernel_rfl) ?_ _
        go_wp2
        go_ret
        exact ⟨rfl, B1.out⟩
    · have i2 : ¬ (k : Int) < (len0 : Int) := by omega
      have HO : Hid (OkB (bts (L0.take k)) k) := Lib.hid (by have := bts_ok (L0.take k); rwa [List.length_take, Nat.min_eq_left (by rw [HL.out]; omega)] at this)
      have HLX : Hid ((L0.take k).length = k) := Lib.hid (by rw [List.length_take, HL.out]; omega)
      have HFX : Hid (∀ t ∈ L0.take k, i64 t) := Lib.hid (fun t ht => HF.out t (List.mem_of_mem_take ht))
      generalize L0.take k = xs at *
      obtain ⟨A2, c2, rfl, RD0⟩ := D.out.slice
      have RD := Lib.hid RD0
      rw [HLX.out] at M
      have HTC : Hid (i64 (bts xs).t) := Lib.hid (bts_t_i64 xs HFX.out)
      obtain ⟨c, hc⟩ : ∃ c, bts xs = c := ⟨_, rfl⟩
      rw [hc] at R HO HTC
      have E6 : Hid (c.n = k) := Lib.hid HO.out.len
      obtain ⟨p1, hp1⟩ : ∃ p1, stB c n1 = p1 := ⟨_, rfl⟩
      have HP1 := Lib.hid hp1
      have HPR1 : Hid (stB (bts xs) n1 = p1) := Lib.hid (by rw [hc]; exact hp1)
      have k302 : k ≤ 302 := by omega
      have k300 : k ≤ 300 := by omega
      clear hc hp1 RD0 D O
      obtain ⟨r0, r1, r2⟩ := bc3 R.out
      have m0 := M.out.cell 0
      simp only [List.getElem?_toArray, List.getElem?_cons_zero] at m0
      go_wp2_with fail
      refine wp_region_held_drew (S := fun w' => w'.cell? ⟨g5, 0, none⟩ = some (.complex .f64 (fl c.x) (fl c.y)) ∧ w'.cell? ⟨g5, 1, none⟩ = some (.int .i64 c.n) ∧ w'.cell? ⟨g5, 2, none⟩ = some (.int .i64 c.t) ∧ w'.cell? ⟨g6, 0, none⟩ = some (.slice A2 k c2)) (by kernel_rfl) ⟨r0, r1, r2, m0⟩ (fun g => ?_)
      have RD1 : Hid (Rd wr.drew wr.drew.heap.size A2 (zv xs)) := RD
      have B1 := Lib.hid B.out.drew
      clear R M RD B r0 r1 r2 m0
      generalize wr.drew = z at *
      refine tq 0 ?_ rfl (by kernel_rfl) (fun _ _ _ h => h) (by rfl) g ?_ ?_; rotate_left
      · intro w9 h9; obtain ⟨d0, d1, d2, d3⟩ := h9; go_simp; try with_reducible rfl
      simp only [Act.put, ptA, ptB, ptC]
      refine tq 2 ?_ rfl (by kernel_rfl) (fun _ _ _ h => h) (by rfl) g ?_ ?_; rotate_left
      · intro w9 h9; obtain ⟨d0, d1, d2, d3⟩ := h9; go_simp; try with_reducible rfl
      simp only [Act.put, ptA, ptB, ptC]
      refine tc 1 rfl (by kernel_rfl) (fun K9 hK => ?_)
      go_simp
      with_reducible refine (writes_t c k E6.out _).mono ?_
      rintro e y1 ⟨rfl, q⟩
      go_simp
      refine hK.out _ _ ⟨keep1 q g.1, keep1 q g.2.1, keep1 q g.2.2.1, keep1 q g.2.2.2⟩ (fun g1 => ?_)
      clear hK K9 g
      have g := g1
      clear g1
      have RD2 := Lib.hid ((RD1.out.below q).mono q.size)
      have B2 := Lib.hid (B1.out.trans (q.mono B1.out.size))
      clear q RD1 B1
      have RD1 := RD2
      have B1 := B2
      clear RD2 B2
      refine tc 3 rfl (by kernel_rfl) (fun K9 hK => ?_)
      go_simp
      with_reducible refine (rwrites_any A2 k c2 _).mono ?_
      rintro e y2 ⟨rfl, q⟩
      go_simp
      refine hK.out _ _ ⟨keep1 q g.1, keep1 q g.2.1, keep1 q g.2.2.1, keep1 q g.2.2.2⟩ (fun g1 => ?_)
      clear hK K9 g
      have g := g1
      clear g1
      have RD2 := Lib.hid ((RD1.out.below q).mono q.size)
      have B2 := Lib.hid (B1.out.trans (q.mono B1.out.size))
      clear q RD1 B1
      have RD1 := RD2
      have B1 := B2
      clear RD2 B2
      refine tq 4 (.bool true) rfl (by kernel_rfl) (fun _ _ _ h => h) (by rfl) g ?_ ?_
      · intro w9 h9; obtain ⟨d0, d1, d2, d3⟩ := h9; go_simp; try simp
      simp only [Act.put, ptA, ptB, ptC]
      refine tq 5 ?_ rfl (by kernel_rfl) (fun _ _ _ h => h) (by rfl) g ?_ ?_; rotate_left
      · intro w9 h9; obtain ⟨d0, d1, d2, d3⟩ := h9; go_simp; try with_reducible rfl
      simp only [Act.put, ptA, ptB, ptC]
      refine tq 6 ?_ rfl (by kernel_rfl) (fun _ _ _ h => h) (by rfl) g ?_ ?_; rotate_left
      · intro w9 h9; obtain ⟨d0, d1, d2, d3⟩ := h9; go_simp; try with_reducible rfl
      simp only [Act.put, ptA, ptB, ptC]
      refine tq 7 ?_ rfl (by kernel_rfl) (fun _ _ _ h => h) (by rfl) g ?_ ?_; rotate_left
      · intro w9 h9; obtain ⟨d0, d1, d2, d3⟩ := h9; go_simp; try with_reducible rfl
      simp only [Act.put, ptA, ptB, ptC]
      refine tq 9 ?_ rfl (by kernel_rfl) (fun _ _ _ h => h) (by rfl) g ?_ ?_; rotate_left
      · intro w9 h9; obtain ⟨d0, d1, d2, d3⟩ := h9; go_simp; try with_reducible rfl
      simp only [Act.put, ptA, ptB, ptC]
      refine tq 10 ?_ rfl (by kernel_rfl) (fun _ _ _ h => h) (by rfl) g ?_ ?_; rotate_left
      · intro w9 h9; obtain ⟨d0, d1, d2, d3⟩ := h9; go_simp; try with_reducible rfl
      simp only [Act.put, ptA, ptB, ptC]
      refine tc 8 rfl (by kernel_rfl) (fun K9 hK => ?_)
      go_simp
      with_reducible refine (steady_t c k n1 p1 HO.out k302 HTC.out hn1 HP1.out _).mono ?_
      rintro e y3 ⟨rfl, q⟩
      go_simp
      refine hK.out _ _ ⟨keep1 q g.1, keep1 q g.2.1, keep1 q g.2.2.1, keep1 q g.2.2.2⟩ (fun g1 => ?_)
      clear hK K9 g
      have g := g1
      clear g1
      have RD2 := Lib.hid ((RD1.out.below q).mono q.size)
      have B2 := Lib.hid (B1.out.trans (q.mono B1.out.size))
      clear q RD1 B1
      have RD1 := RD2
      have B1 := B2
      clear RD2 B2
      refine tc 11 rfl (by kernel_rfl) (fun K9 hK => ?_)
      go_simp
      with_reducible refine (rsteady_t A2 c2 k xs n1 p1 HLX.out k300 HFX.out hn1 HPR1.out _ RD1.out).mono ?_
      rintro e y4 ⟨rfl, q⟩
      go_simp
      refine hK.out _ _ ⟨keep1 q g.1, keep1 q g.2.1, keep1 q g.2.2.1, keep1 q g.2.2.2⟩ (fun g1 => ?_)
      clear hK K9 g
      have g := g1
      clear g1
      have RD2 := Lib.hid ((RD1.out.below q).mono q.size)
      have B2 := Lib.hid (B1.out.trans (q.mono B1.out.size))
      clear q RD1 B1
      have RD1 := RD2
      have B1 := B2
      clear RD2 B2
      refine tq 12 (.bool true) rfl (by kernel_rfl) (fun _ _ _ h => h) (by rfl) g ?_ ?_
      · intro w9 h9; obtain ⟨d0, d1, d2, d3⟩ := h9; go_simp; try simp
      simp only [Act.put, ptA, ptB, ptC]
      refine tq 13 ?_ rfl (by kernel_rfl) (fun _ _ _ h => h) (by rfl) g ?_ ?_; rotate_left
      · intro w9 h9; obtain ⟨d0, d1, d2, d3⟩ := h9; go_simp; try with_reducible rfl
      simp only [Act.put, ptA, ptB, ptC]
      refine tq 14 ?_ rfl (by kernel_rfl) (fun _ _ _ h => h) (by rfl) g ?_ ?_; rotate_left
      · intro w9 h9; obtain ⟨d0, d1, d2, d3⟩ := h9; go_simp; try with_reducible rfl
      simp only [Act.put, ptA, ptB, ptC]
      refine tc 15 rfl (by kernel_rfl) (fun K9 hK => ?_)
      go_simp
      with_reducible refine (known_any _).mono ?_
      rintro e y5 ⟨rfl, q⟩
      go_simp
      refine hK.out _ _ ⟨keep1 q g.1, keep1 q g.2.1, keep1 q g.2.2.1, keep1 q g.2.2.2⟩ (fun g1 => ?_)
      clear hK K9 g
      have g := g1
      clear g1
      have RD2 := Lib.hid ((RD1.out.below q).mono q.size)
      have B2 := Lib.hid (B1.out.trans (q.mono B1.out.size))
      clear q RD1 B1
      have RD1 := RD2
      have B1 := B2
      clear RD2 B2
      refine tq 16 ?_ rfl (by kernel_rfl) (fun _ _ _ h => h) (by rfl) g ?_ ?_; rotate_left
      · intro w9 h9; obtain ⟨d0, d1, d2, d3⟩ := h9; go_simp; try with_reducible rfl
      simp only [Act.put, ptA, ptB, ptC]
      refine tq 17 ?_ rfl (by kernel_rfl) (fun _ _ _ h => h) (by rfl) g ?_ ?_; rotate_left
      · intro w9 h9; obtain ⟨d0, d1, d2, d3⟩ := h9; go_simp; try with_reducible rfl
      simp only [Act.put, ptA, ptB, ptC]
      clear g
      refine wpAnyH_done (by kernel_rfl) ?_ _
      go_wp2
      go_ret
      exact ⟨rfl, B1.out⟩

set_option maxRecDepth 100000 in
theorem lifted (os : Os) (started : os.Started) (H : Type) (enc : TypeId × Value → H) :
    ReturnsInHanded {} Try.checked os 3 .any (Rows.phaseBeatsSpec.pre6 enc Try.prog Try.f3 Rows.phaseBeatsRow.domain false) (Rows.phaseBeatsSpec.post enc Try.prog Try.f3 false true false false) := by
  refine returnsInHanded_of_change (C := Try.checked) own started (by kernel_rfl) Try.func3
    (ChangeSpec.witness6 (enc := enc) (C := Try.checked) false ⟨#[], #[.slice none 0 0, .int .i64 0], []⟩ 8 (by kernel_rfl) (by kernel_rfl) (by kernel_rfl) (by kernel_rfl)) ?_
  intro W base args ds gs before hval0 hW hcnd _
  have hval : ∀ (j : Nat) t v, Try.f3.params[j]? = some t → args[j]? = some v → Value.okWide Try.prog W .any base t v := hval0
  have hW' := hW
  obtain ⟨p, q, hA0, hV, rfl, hfz, hnd⟩ := hW
  have hA : DataW.TrodAll enc Try.prog W 0 (fun _ => true) true Try.f3.params.toList args.toList ds p := hA0
  rw [Try.params3] at hA hval
  obtain ⟨v0, vs0, d0, ds0, p0, q0, hargs, rfl, rfl, h0, r0⟩ := trodAll_cons hA
  obtain ⟨v1, vs1, d1, ds1, p1, q1, rfl, rfl, rfl, h1, r1⟩ := trodAll_cons r0
  obtain ⟨rfl, rfl, rfl⟩ := trodAll_nil r1
  obtain rfl : args = #[v0, v1] := by cases args; simp_all
  obtain ⟨rfl, rfl⟩ := trodVars_none hV
  obtain ⟨a0, len0, cap0, rfl⟩ := okWide_slice Try.underlying22 (hval 0 22 v0 rfl rfl)
  have k0 := h0
  have lt0 : ∀ x ∈ p0, x.block < W.heap.size := by obtain ⟨m, hm⟩ := k0; exact DataW.trod_lt m _ _ _ hm
  obtain ⟨L0, l0, f0, c0, m0, rr0⟩ := open_times h0
  obtain ⟨n1, rfl, rfl, rfl, w1⟩ := open_int Try.underlying3 (hval 1 3 v1 rfl rfl) h1
  clear hA0 hval0
  refine (walk a0 len0 cap0 L0 n1 W l0 f0 c0 m0 rr0 w1).mono fun e W' ⟨he, bel⟩ => ?_
  subst he
  exact ⟨_, rfl, _, _, _, [], _, [], hW', trodAll_mk1 (shut_bool Try.underlying4 _), (trodAll_cons_mk (Below.trod laidOut (by kernel_rfl) (of_decide_eq_true (by kernel_rfl)) k0 bel lt0) (trodAll_cons_mk (shut_int Try.underlying3 w1) trodAll_mk0)), rfl, bel.frame _, fun h => by cases h⟩

theorem over : Rows.phaseBeatsRow.holds Try.pinned (OpenSpec.ofChange Rows.phaseBeatsSpec) :=
  OpenClaim.holds_of_wide 3 Try.f3 rfl rfl rfl rfl rfl rfl rfl ⟨rfl, rfl, rfl, rfl, rfl⟩ rfl rfl rfl rfl rfl (by kernel_rfl) Try.func3 (by kernel_rfl)
    (of_decide_eq_true (by kernel_rfl)) (by unfold Func.isWrapper; first | (rw [if_pos (by decide +kernel)]; kernel_rfl) | (rw [if_neg (by decide +kernel)]; exact ⟨rfl, rfl⟩))
    (fun os started H enc _ => lifted os started H enc)

theorem proved : Rows.PhaseBeatsSaid := over
#print axioms proved
end Go.Proofs.Ytfkfadafncjifaa.phaseBeats
