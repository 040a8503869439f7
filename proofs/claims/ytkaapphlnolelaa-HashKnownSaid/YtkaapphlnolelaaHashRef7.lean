/-
  Layer 10's document: Put: contract. Conditions: a table as New makes it (Tab).
-/
import Derived.Test.YtkaapphlnolelaaHashP5
namespace Go.Proofs.Ytkaapphlnolelaa
set_option maxRecDepth 100000
open Go.RowKit Ow Ro K2 Hm
set_option linter.unusedVariables false
set_option linter.unusedSimpArgs false
def RDid (w0 : World) (A : Ac) (X : Nat) (K M : Int) (T : List Pl) (w : World) : Prop := ∃ A', Lay w0 A' w ∧ HS A' X K M T ∧ ∀ x : Rl, ¬ (50 ≤ x.1 ∧ x.1 < 67) → A' x = A x
def RPutP (w0 : World) (A : Ac) (X : Nat) (K M : Int) (r : Int × List Pl) (e : Ending) (w' : World) : Prop := e = .returned (.int .i64 r.1) ∧ RDid w0 A X K M r.2 w'
def dst (r n p : Nat) : Nat := if p ≤ r then r - p else r + n - p
theorem dst_next {r n p : Nat} (hr : r < n) (hp : p < n) (h : p ≠ r) : dst r n (wrap1 n p) < dst r n p := by
  unfold dst wrap1
  (repeat' split) <;> omega
theorem room_step {T : List Pl} {n p f r : Nat} (h : roomL T (wayL n p (f + 1)) = some r) : if (ed T p).is = 1 then roomL T (wayL n (wrap1 n p) f) = some r else p = r := by
  unfold wayL at h
  unfold roomL at h ⊢
  rw [List.find?_cons] at h
  split
  · rename_i e
    have : ((ed T p).is != 1) = false := by simp [e]
    rw [this] at h
    exact h
  · rename_i e
    have : ((ed T p).is != 1) = true := by simp [e]
    rw [this] at h
    injection h
theorem st3_is (w : World) (ad : Addr) (k : Nat) (v : Value) (p : Pl) : st3 w ad k v p = ((w.setCell (ad.add (k * 3)) (.int .i64 (p.is : Nat))).setCell ⟨(ad.add (k * 3)).block, (ad.add (k * 3)).off + 1, none⟩ v).setCell ⟨(ad.add (k * 3)).block, (ad.add (k * 3)).off + 2, none⟩ (.int .i64 p.cell) := by
  unfold st3
  rw [Nat.add_zero, ← add_next ad (k * 3) 1 (by omega), ← add_next ad (k * 3) 2 (by omega)]
set_option maxHeartbeats 2000000 in
theorem rput_c {w0 w : World} {A : Ac} {X K : Nat} {M : Int} {T : List Pl} (hl : Lay w0 A w) (h : HS A X (K : Nat) M T) (ht : Tab T K M) {r : Rl} (hr6 : ¬ (50 ≤ r.1 ∧ r.1 < 67)) (a : Option Addr) (nk ck : Nat) (ks : List Int) (hkn : ks.length = nk) (hk6 : nk ≤ 100000) (hkb : ∀ b ∈ ks, 0 ≤ b ∧ b ≤ 255) (hrd : Reads w0 A r a (bv ks)) (c : Int) :
    Calls Try.prog 17 #[.pointer (some ⟨X, 0, none⟩), .slice a nk ck, .int .i64 c] w (RPutP w0 A X (K : Nat) M (putT T K M ks c)) := by
  have PC := Lib.hid (place_c hl h (by have := ht.small; omega) ht.good.pos a nk ck ks hkn hk6 hkb (hrd.rd hl))
  obtain ⟨a0, cap, c1, c2, k0, k1, k2⟩ := h.head hl
  have HL := Lib.hid hl
  have HH := Lib.hid h
  have HRD := Lib.hid hrd
  have HT := Lib.hid ht
  have hcnt := ht.cnt
  have hsm := ht.small
  unfold putT
  by_cases hk : ks.length = K
  · rw [if_pos hk]
    have hne : ((nk : Int) != (K : Int)) = false := by simp; omega
    obtain ⟨f, hf⟩ : ∃ f, fat T ks = f := ⟨_, rfl⟩
    rw [ht.good.plc, hf] at PC
    rw [hf]
    cases f with
    | some p =>
      have p0 : (0 : Int) ≤ (p : Int) := by omega
      clear hl h hrd ht
      go_enter Try.func17, Try.ntmps17
      go_wp2_with fail
      with_reducible refine PC.out.mono ?_
      rintro e w1 ⟨rfl, q⟩
      have HD : Hid (RDid w0 A X (K : Nat) M T w1) := Lib.hid ⟨A, HL.out.grow q, HH.out, fun _ _ => rfl⟩
      clear q k0 k1 k2
      unfold plcV
      go_wp2
      go_ret
      exact ⟨rfl, HD.out⟩
    | none =>
      dsimp only
      obtain ⟨p, hp⟩ := ht.room ks
      obtain ⟨hp1, hp2⟩ := rat_lt hp
      have HRM : Hid (rat T ks = some p) := Lib.hid hp
      have HF := Lib.hid hf
      rw [hp]
      dsimp only
      obtain ⟨kl, hkl⟩ : ∃ kl, (keysT T).length = kl := ⟨_, rfl⟩
      have HKL := Lib.hid hkl
      rw [hkl] at hcnt ⊢
      clear hl h hrd ht hp hkl
      by_cases hm : (kl : Int) < M
      · rw [if_pos hm]
        go_enter Try.func17, Try.ntmps17
        go_wp2_with fail
        with_reducible refine PC.out.mono ?_
        rintro e w1 ⟨rfl, q⟩
        have HL1 := Lib.hid (HL.out.grow q)
        obtain ⟨a1, cap1, d1, d2, j0, j1, j2⟩ := HH.out.head HL1.out
        clear q k0 k1 k2 j0 j1 PC HL
        unfold plcV
        dsimp only
        go_wp2_with fail
        refine wp_region_held_drew (S := fun w' => w'.cell? ⟨X, 2, none⟩ = some (.int .i64 M)) (by kernel_rfl) j2 (fun g => ?_)
        have HL2 := Lib.hid HL1.out.drew
        clear HL1 j2
        generalize w1.drew = w2 at *
        clear w1
        refine tq 0 ?_ rfl (by kernel_rfl) (fun _ _ _ h => h) (by rfl) g ?_ ?_; rotate_left
        · intro w9 h9; go_simp; try with_reducible rfl
        simp only [Act.put, ptA, ptB, ptC]
        refine tq 2 ?_ rfl (by kernel_rfl) (fun _ _ _ h => h) (by rfl) g ?_ ?_; rotate_left
        · intro w9 h9; go_simp; try with_reducible rfl
        simp only [Act.put, ptA, ptB, ptC]
        refine tq 3 ?_ rfl (by kernel_rfl) (fun _ _ _ h => h) (by rfl) g ?_ ?_; rotate_left
        · intro w9 h9; go_simp; try with_reducible rfl
        simp only [Act.put, ptA, ptB, ptC]
        refine tq 4 ?_ rfl (by kernel_rfl) (fun _ _ _ h => h) (by rfl) g ?_ ?_; rotate_left
        · intro w9 h9; go_simp; try with_reducible rfl
        simp only [Act.put, ptA, ptB, ptC]
        refine tq 5 ?_ rfl (by kernel_rfl) (fun _ _ _ h => h) (by rfl) g ?_ ?_; rotate_left
        · intro w9 h9; go_simp; try with_reducible rfl
        simp only [Act.put, ptA, ptB, ptC]
        refine tc 1 rfl (by kernel_rfl) (fun K9 hK => ?_)
        go_simp
        with_reducible refine (rlen10_c HL2.out HH.out (by omega) HT.out.bsl).mono ?_
        rintro e w3 ⟨rfl, A3, hl3, hf3⟩
        rw [HKL.out]
        have HS3 := Lib.hid (HH.out.keep (A' := A3) (fun x h1 h2 => hf3 x (by omega) (by omega)))
        have HL3 := Lib.hid hl3
        have HF3 := Lib.hid hf3
        obtain ⟨a3, cap3, d1, d2, j0, j1, j2⟩ := HS3.out.head HL3.out
        clear hl3 hf3 HL2 HH
        go_simp
        refine hK.out _ _ j2 (fun g1 => ?_)
        clear hK K9 g
        have g := g1
        clear g1
        refine tq 6 ?_ rfl (by kernel_rfl) (fun _ _ _ h => h) (by rfl) g ?_ ?_; rotate_left
        · intro w9 h9; go_simp; try with_reducible rfl
        simp only [Act.put, ptA, ptB, ptC]
        refine wpAnyH_done (by kernel_rfl) ?_ _
        clear g
        have HRD3 : Hid (Reads w0 A3 r a (bv ks)) := Lib.hid (HRD.out.keep (HF3.out r (by omega) (by omega)))
        have hmm : ¬ M ≤ (kl : Int) := by omega
        obtain ⟨n, hnT⟩ : ∃ n, T.length = n := ⟨_, rfl⟩
        have HNT := Lib.hid hnT
        have hn1 : 1 ≤ n := by omega
        have hn3 : n ≤ 128 := by omega
        have hnz : ((n : Int) == 0) = false := by rw [beq_eq_false_iff_ne]; omega
        obtain ⟨s, hs⟩ : ∃ s, fnv ks = s := ⟨_, rfl⟩
        obtain ⟨p0, hp0⟩ : ∃ p0, s % n = p0 := ⟨_, rfl⟩
        have hpl : p0 < n := by rw [← hp0]; exact Nat.mod_lt _ (by omega)
        have hq0 : ((s : Nat) : Int).tmod (n : Nat) = (p0 : Nat) := by rw [← hp0]; rw [Int.tmod_eq_emod_of_nonneg (Int.natCast_nonneg s)]; rfl
        have hsl : s < 4294967296 := by rw [← hs]; exact fnv_lt ks
        have RSUM := Lib.hid (fun m : Nat => rsum10_any a nk ck ks hkn (by omega) hkb (w3.drewN m) ((HRD3.out.rd HL3.out).drewN m))
        have HR0 : Hid (roomL T (wayL n p0 n) = some p) := Lib.hid (by have := HRM.out; unfold rat way at this; rw [hnT, hs, hp0] at this; exact this)
        rw [hs] at RSUM
        rw [hnT] at j0 hp1 d1 hsm
        have HLm := Lib.hid (fun m : Nat => HL3.out.grow (below_drewN (Below.refl _ _) m))
        clear hs hp0 hnT HRM HL3 HF
        go_wp2_with fail
        go_quiet ((go_at_call 11; exact Calls.quiet_of_same ((RSUM.out _).mono fun _ _ h => ⟨h.1, h.2.symm⟩)))
        have HL4 := Lib.hid (HLm.out nq)
        generalize w3.drewN nq = w4 at *
        clear HLm RSUM j0 j1 j2 w3 d1 d2
        go_wp2_with fail
        go_loopw [7] (fun v wr => ∃ q f : Nat, q < n ∧ v = .int .i64 (q : Nat) ∧ Hid (roomL T (wayL n q f) = some p) ∧ w4 = wr) (fun v _ => dst p n (intOf v).toNat)
        case atStart => exact ⟨p0, n, hpl, rfl, HR0, rfl⟩
        case round =>
          obtain ⟨q, f, hq, rfl, HRQ, rfl⟩ := hrel
          clear HR0 hq0
          have hqT : q < T.length := by rw [HNT.out]; exact hq
          have HTQ := Lib.hid (ed_at hqT)
          obtain ⟨ad, cp, ak, ckk, d1, d2, e0, e1, e2, e3, e4, e5, e6, e7, e8⟩ := HS3.out.look HL4.out HTQ.out
          rw [HNT.out] at e0 d1
          have i1 : (q : Int) < (n : Int) := by omega
          cases f with
          | zero => exact absurd HRQ.out (by unfold wayL roomL; simp)
          | succ f =>
            have hst := room_step HRQ.out
            by_cases h1 : (ed T q).is = 1
            · rw [if_pos h1] at hst
              have hne2 : q ≠ p := fun h => hp2 (h ▸ h1)
              have hdn := dst_next hp1 hq hne2
              have hwl := wrap1_lt hq
              have hw : ((q : Int) + 1).tmod (n : Nat) = (wrap1 n q : Nat) := by
                rw [wrap1_mod hq, show (q : Int) + 1 = ((q + 1 : Nat) : Int) by omega, Int.tmod_eq_emod_of_nonneg (Int.natCast_nonneg (q + 1))]; rfl
              have i3 : (((ed T q).is : Int) == 1) = true := by simp [h1]
              have HST := Lib.hid hst
              clear hst h1 e8 e4 e5 e1 e2 HRQ
              generalize (ed T q).is = ti at *
              generalize wrap1 n q = q2 at *
              go_wp2
              go_roundw
              case rel => exact ⟨q2, f, hwl, rfl, HST, trivial⟩
              case measure => simpa [intOf] using hdn
            · rw [if_neg h1] at hst
              subst hst
              have i3 : (((ed T q).is : Int) == 1) = false := by rw [beq_eq_false_iff_ne]; omega
              generalize (ed T q).is = ti at *
              clear e8 e4 e5 e1 e2 HRQ
              go_wp2_with fail
              obtain ⟨v, l, hx⟩ := HS3.out
              have hll := hx.len
              obtain ⟨ad2, cap2, rfl, f1, f2, f3⟩ := hx.get HL4.out q (by omega)
              clear f3
              have hx0 : w4.cell? ⟨X, 0, none⟩ = some (.slice (some ad2) l.length cap2) := (HL4.out.bk hx.head).cell 0
              have hlq : q < l.length := by omega
              have HXX := Lib.hid hx
              have HLL := Lib.hid hll
              clear hx hll e0 e3 e6 e7
              refine wp_region_held_drew (S := fun w' => w'.cell? ⟨X, 0, none⟩ = some (.slice (some ad2) l.length cap2)) (by kernel_rfl) hx0 (fun g => ?_)
              have HL5 := Lib.hid HL4.out.drew
              have HR5 := Lib.hid (HRD3.out.rd HL5.out)
              clear HL4 hx0
              generalize w4.drew = w5 at *
              refine tq 0 ?_ rfl (by kernel_rfl) (fun _ _ _ h => h) (by rfl) g ?_ ?_; rotate_left
              · intro w9 h9; go_simp; try with_reducible rfl
              simp only [Act.put, ptA, ptB, ptC]
              refine tq 1 ?_ rfl (by kernel_rfl) (fun _ _ _ h => h) (by rfl) g ?_ ?_; rotate_left
              · intro w9 h9; go_simp; try with_reducible rfl
              simp only [Act.put, ptA, ptB, ptC]
              refine tq 2 ?_ rfl (by kernel_rfl) (fun _ _ _ h => h) (by rfl) g ?_ ?_; rotate_left
              · intro w9 h9; go_simp; try with_reducible rfl
              simp only [Act.put, ptA, ptB, ptC]
              refine tq 3 ?_ rfl (by kernel_rfl) (fun _ _ _ h => h) (by rfl) g ?_ ?_; rotate_left
              · intro w9 h9; go_simp; try with_reducible rfl
              simp only [Act.put, ptA, ptB, ptC]
              refine tq 4 ?_ rfl (by kernel_rfl) (fun _ _ _ h => h) (by rfl) g ?_ ?_; rotate_left
              · intro w9 h9; go_simp; try with_reducible rfl
              simp only [Act.put, ptA, ptB, ptC]
              refine tq 5 ?_ rfl (by kernel_rfl) (fun _ _ _ h => h) (by rfl) g ?_ ?_; rotate_left
              · intro w9 h9; go_simp; try with_reducible rfl
              simp only [Act.put, ptA, ptB, ptC]
              refine tq 7 ?_ rfl (by kernel_rfl) (fun _ _ _ h => h) (by rfl) g ?_ ?_; rotate_left
              · intro w9 h9; go_simp; try with_reducible rfl
              simp only [Act.put, ptA, ptB, ptC]
              refine tc 6 rfl (by kernel_rfl) (fun K9 hK => ?_)
              go_simp
              with_reducible refine (copyb_any a nk ck ks hkn (by omega) _ HR5.out).mono ?_
              rintro e w6 ⟨u, rfl, qq⟩
              obtain ⟨A6, hl6, hr6', hf6⟩ := HL5.out.newRow (52, q) qq.below qq.own (Nat.le_refl _)
              have hgt : ∀ rr, rr < 3 → w6.cell? (ad2.add (q * 3 + rr)) = (pcells l[q])[rr]? ∧ w6.frozen? (ad2.add (q * 3 + rr)) = false := fun rr hrr => by
                have hrow := HXX.out.row.keep (A' := A6) (hf6 _ (by simp))
                have ho := hrow.own hl6
                rcases ho.2 with ⟨e, _⟩ | ⟨g2, cap3, cur, e, _⟩
                · cases e
                · simp only [Value.slice.injEq, Option.some.injEq] at e
                  obtain ⟨rfl, _⟩ := e
                  rw [add_zero_at, ← pflat_get l q rr hlq hrr]
                  exact ⟨ho.cellAt _ (by omega), ho.frozenAt _⟩
              have hx6 : w6.cell? ⟨X, 0, none⟩ = some (.slice (some ad2) l.length cap2) := (hl6.bk ((hf6 _ (by simp)).trans HXX.out.head)).cell 0
              have hp3 := HXX.out.put3 hl6 hlq (fun x hx => hf6 x hx) u ⟨1, ks, c⟩ hr6'
              rw [st3_is] at hp3
              have hfr : ∀ z : World, (∃ A', Lay w0 A' z ∧ HS A' X (K : Nat) M (T.set q ⟨1, ks, c⟩) ∧ ∀ x, x ≠ (51, 0) → A' x = A6 x) → RDid w0 A X (K : Nat) M (T.set q ⟨1, ks, c⟩) z := fun z hz => by
                obtain ⟨A7, z1, z2, z3⟩ := hz
                exact ⟨A7, z1, z2, fun x hx => (z3 x (fun e => by rw [e] at hx; simp at hx)).trans ((hf6 x (fun e => by rw [e] at hx; simp at hx)).trans (HF3.out x (by omega) (by omega)))⟩
              have HD := Lib.hid (hfr _ hp3)
              have hfar : ad2.block ≠ X := by
                rcases HXX.out.row.2 with ⟨e, _⟩ | ⟨g2, cap3, cur, e, hA, _⟩
                · cases e
                · simp only [Value.slice.injEq, Option.some.injEq] at e
                  obtain ⟨rfl, _⟩ := e
                  exact HL5.out.far hA HXX.out.head (by simp)
              rcases hlk : l[q] with ⟨s1, t1⟩
              have y0 := hgt 0 (by omega)
              have y1 := hgt 1 (by omega)
              have y2 := hgt 2 (by omega)
              rw [hlk] at y0 y1 y2
              rw [Nat.add_zero] at y0
              rw [← add_next ad2 (q * 3) 1 (by omega)] at y1
              rw [← add_next ad2 (q * 3) 2 (by omega)] at y2
              obtain ⟨v0, z0⟩ := y0
              obtain ⟨v1, z1⟩ := y1
              obtain ⟨v2, z2⟩ := y2
              have v0' : w6.cell? (ad2.add (q * 3)) = some (.int .i64 (t1.is : Nat)) := v0
              have v1' : w6.cell? ⟨(ad2.add (q * 3)).block, (ad2.add (q * 3)).off + 1, none⟩ = some s1 := v1
              have v2' : w6.cell? ⟨(ad2.add (q * 3)).block, (ad2.add (q * 3)).off + 2, none⟩ = some (.int .i64 t1.cell) := v2
              have g1 : (w6.setCell (ad2.add (q * 3)) (.int .i64 1)).cell? ⟨(ad2.add (q * 3)).block, (ad2.add (q * 3)).off + 1, none⟩ = some s1 := by
                rw [World.cell?_setCell_other _ _ _ _ (fun e => by have := congrArg Addr.off e; simp at this)]; exact v1'
              obtain ⟨au, cu, rfl, _, _, _⟩ := own_form qq.own
              rw [hkn] at HD ⊢
              have g3 : (w6.setCell (ad2.add (q * 3)) (.int .i64 1)).cell? ⟨(ad2.add (q * 3)).block, (ad2.add (q * 3)).off + 2, none⟩ = some (.int .i64 t1.cell) := by
                rw [World.cell?_setCell_other _ _ _ _ (fun e => by have := congrArg Addr.off e; simp at this)]; exact v2'
              have g2 : ((w6.setCell (ad2.add (q * 3)) (.int .i64 1)).setCell ⟨(ad2.add (q * 3)).block, (ad2.add (q * 3)).off + 1, none⟩ (.slice au nk cu)).cell? ⟨(ad2.add (q * 3)).block, (ad2.add (q * 3)).off + 2, none⟩ = some (.int .i64 t1.cell) := by
                rw [World.cell?_setCell_other _ _ _ _ (fun e => by have := congrArg Addr.off e; simp at this), World.cell?_setCell_other _ _ _ _ (fun e => by have := congrArg Addr.off e; simp at this)]; exact v2'
              clear qq hgt hp3 hfr hl6 hr6' hf6 v0 v1 v2 HL5 HR5
              go_simp
              refine hK.out _ _ hx6 (fun g9 => ?_)
              clear hK K9 g
              have g := g9
              clear g9
              refine tq 8 ?_ rfl (by kernel_rfl) (fun _ _ _ h => h) (by rfl) g ?_ ?_; rotate_left
              · intro w9 h9; go_simp; try with_reducible rfl
              simp only [Act.put, ptA, ptB, ptC]
              refine tq 9 ?_ rfl (by kernel_rfl) (fun _ _ _ h => h) (by rfl) g ?_ ?_; rotate_left
              · intro w9 h9; go_simp; try with_reducible rfl
              simp only [Act.put, ptA, ptB, ptC]
              have hx7 : (((w6.setCell (ad2.add (q * 3)) (.int .i64 1)).setCell ⟨(ad2.add (q * 3)).block, (ad2.add (q * 3)).off + 1, none⟩ (.slice au nk cu)).setCell ⟨(ad2.add (q * 3)).block, (ad2.add (q * 3)).off + 2, none⟩ (.int .i64 c)).cell? ⟨X, 0, none⟩ = some (.slice (some ad2) l.length cap2) := by
                rw [World.cell?_setCell_other _ _ _ _ (fun e => by have h := congrArg Addr.block e; dsimp only at h; rw [add_block] at h; omega), World.cell?_setCell_other _ _ _ _ (fun e => by have h := congrArg Addr.block e; dsimp only at h; rw [add_block] at h; omega), World.cell?_setCell_other _ _ _ _ (fun e => by have h := congrArg Addr.block e; rw [add_block] at h; dsimp only at h; omega)]
                exact hx6
              refine tc 10 rfl (by kernel_rfl) (fun K9 hK => ?_)
              go_simp
              refine hK.out _ _ hx7 (fun g9 => ?_)
              clear hK K9 g g9 hx7 g1 g2 z0 z1 z2 v0' v1' v2'
              generalize (((w6.setCell (ad2.add (q * 3)) (.int .i64 1)).setCell ⟨(ad2.add (q * 3)).block, (ad2.add (q * 3)).off + 1, none⟩ (.slice au nk cu)).setCell ⟨(ad2.add (q * 3)).block, (ad2.add (q * 3)).off + 2, none⟩ (.int .i64 c)) = w7 at *
              refine wpAnyH_done (by kernel_rfl) ?_ _
              go_wp2
              go_ret
              exact ⟨rfl, HD.out⟩
      · rw [if_neg hm]
        go_enter Try.func17, Try.ntmps17
        go_wp2_with fail
        with_reducible refine PC.out.mono ?_
        rintro e w1 ⟨rfl, q⟩
        have HL1 := Lib.hid (HL.out.grow q)
        obtain ⟨a1, cap1, d1, d2, j0, j1, j2⟩ := HH.out.head HL1.out
        clear q k0 k1 k2 j0 j1 PC HL
        unfold plcV
        dsimp only
        go_wp2_with fail
        refine wp_region_held_drew (S := fun w' => w'.cell? ⟨X, 2, none⟩ = some (.int .i64 M)) (by kernel_rfl) j2 (fun g => ?_)
        have HL2 := Lib.hid HL1.out.drew
        clear HL1 j2
        generalize w1.drew = w2 at *
        clear w1
        refine tq 0 ?_ rfl (by kernel_rfl) (fun _ _ _ h => h) (by rfl) g ?_ ?_; rotate_left
        · intro w9 h9; go_simp; try with_reducible rfl
        simp only [Act.put, ptA, ptB, ptC]
        refine tq 2 ?_ rfl (by kernel_rfl) (fun _ _ _ h => h) (by rfl) g ?_ ?_; rotate_left
        · intro w9 h9; go_simp; try with_reducible rfl
        simp only [Act.put, ptA, ptB, ptC]
        refine tq 3 ?_ rfl (by kernel_rfl) (fun _ _ _ h => h) (by rfl) g ?_ ?_; rotate_left
        · intro w9 h9; go_simp; try with_reducible rfl
        simp only [Act.put, ptA, ptB, ptC]
        refine tq 4 ?_ rfl (by kernel_rfl) (fun _ _ _ h => h) (by rfl) g ?_ ?_; rotate_left
        · intro w9 h9; go_simp; try with_reducible rfl
        simp only [Act.put, ptA, ptB, ptC]
        refine tq 5 ?_ rfl (by kernel_rfl) (fun _ _ _ h => h) (by rfl) g ?_ ?_; rotate_left
        · intro w9 h9; go_simp; try with_reducible rfl
        simp only [Act.put, ptA, ptB, ptC]
        refine tc 1 rfl (by kernel_rfl) (fun K9 hK => ?_)
        go_simp
        with_reducible refine (rlen10_c HL2.out HH.out (by omega) HT.out.bsl).mono ?_
        rintro e w3 ⟨rfl, A3, hl3, hf3⟩
        rw [HKL.out]
        have HS3 := Lib.hid (HH.out.keep (A' := A3) (fun x h1 h2 => hf3 x (by omega) (by omega)))
        have HL3 := Lib.hid hl3
        have HF3 := Lib.hid hf3
        obtain ⟨a3, cap3, d1, d2, j0, j1, j2⟩ := HS3.out.head HL3.out
        clear hl3 hf3 HL2 HH
        go_simp
        refine hK.out _ _ j2 (fun g1 => ?_)
        clear hK K9 g
        have g := g1
        clear g1
        refine tq 6 ?_ rfl (by kernel_rfl) (fun _ _ _ h => h) (by rfl) g ?_ ?_; rotate_left
        · intro w9 h9; go_simp; try with_reducible rfl
        simp only [Act.put, ptA, ptB, ptC]
        refine wpAnyH_done (by kernel_rfl) ?_ _
        clear g
        have HD : Hid (RDid w0 A X (K : Nat) M T w3) := Lib.hid ⟨A3, HL3.out, HS3.out, fun x hx => HF3.out x (by omega) (by omega)⟩
        go_wp2
        go_ret
        exact ⟨rfl, HD.out⟩
  · rw [if_neg hk]
    have hne : ((nk : Int) != (K : Int)) = true := by simp; omega
    have HD : Hid (RDid w0 A X (K : Nat) M T w) := Lib.hid ⟨A, HL.out, HH.out, fun _ _ => rfl⟩
    clear hl h hrd ht k0 k2
    go_enter Try.func17, Try.ntmps17
    go_wp2
    go_ret
    exact ⟨rfl, HD.out⟩
end Go.Proofs.Ytkaapphlnolelaa
