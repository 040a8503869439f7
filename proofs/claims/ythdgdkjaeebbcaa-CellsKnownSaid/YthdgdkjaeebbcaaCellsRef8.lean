/-
  What the document's cells do: Write: contract. Conditions: 1000 cells at most, of 64 bytes at most, written 300 times at most.
-/
import Derived.Test.YthdgdkjaeebbcaaCellsRef7
namespace Go.Proofs.Ythdgdkjaeebbcaa
set_option maxRecDepth 100000
open Go.RowKit Ow Ph Ro K2
set_option linter.unusedVariables false
set_option linter.unusedSimpArgs false
set_option maxHeartbeats 2000000 in
theorem rwrite_c {w0 w : World} {A : Ac} {X n0 : Nat} {L : List Cl} (hl : Lay w0 A w) (h : RS w0 A X L) (ho : OkL n0 L) (hn0 : n0 ≤ 300) (hn : L.length ≤ 1000) (id now : Int) (h1 : -9223372036854775808 ≤ id) (h2 : id ≤ 9223372036854775807) (hnow : i64 now)
    (ab : Option Addr) (lenb capb : Nat) (b : List Int) (hlb : b.length = lenb) (hm1 : lenb ≤ 9223372036854775807) {r : Rl} (hr10 : ¬ (10 ≤ r.1 ∧ r.1 < 20)) (hrd : Reads w0 A r ab (bv b)) :
    Calls Try.prog 45 #[.pointer (some ⟨X, 0, none⟩), .int .i64 id, .slice ab lenb capb, .int .i64 now] w (RBoolP w0 A X (wrC L id b now)) := by
  have CT := there_c hl h hn id h1 h2
  have CS := rsize_c hl h hn id h1 h2
  have HS := Lib.hid (RDid.same hl h)
  unfold szC at CS
  cases hg : gt L id with
  | none =>
    rw [hg] at CT
    have e : wrC L id b now = (false, L) := by unfold wrC; rw [hg]
    rw [e]
    clear hl h hg e h1 CS hrd hlb
    go_enter Try.func45, Try.ntmps45
    go_wp2_with ((with_reducible refine CT.mono ?_); rintro e w' ⟨rfl, rfl⟩; rw [show (none : Option Cl).isSome = false from rfl])
    go_ret
    exact ⟨rfl, HS.out⟩
  | some c =>
    rw [hg] at CT CS
    simp only [Option.map_some, Option.getD_some] at CS
    simp only [Option.isSome_some] at CT
    have hok := gt_ok ho hg
    have hle := hok.len
    by_cases hi : c.bs.length = lenb
    · have e : wrC L id b now = (true, L.set (id.toNat - 1) { c with bs := b, ts := c.ts ++ [now] }) := by unfold wrC; rw [hg]; simp [hi, hlb]
      rw [e]
      clear e
      obtain ⟨k, rfl, hkL, hk, hsw⟩ := gt_yes hg
      have hoft := hok.often
      have e0 : ((k : Int) + 1).toNat - 1 = k := by omega
      rw [e0]
      clear e0
      obtain ⟨v, l, hx⟩ := h
      have hll := hx.len
      have hkl : k < l.length := by omega
      have hnth := hx.nth k hkl
      rw [hk] at hnth
      injection hnth with hnth
      rcases hlk : l[k] with ⟨s, bt, c0⟩
      have hat := hx.at_ k _ (List.getElem?_eq_getElem hkl)
      rw [hlk] at hat hnth
      dsimp only at hnth
      subst hnth
      obtain ⟨ad, cap, hv, c1, c2, hcl⟩ := rg hl hx.row k hkl
      have x0 : w.cell? ⟨X, 0, none⟩ = some v := (hl.bk hx.head).cell 0
      obtain ⟨n, hnl⟩ : ∃ n, l.length = n := ⟨_, rfl⟩
      rw [hnl] at hv c1
      subst hi
      obtain ⟨N, hN⟩ : ∃ N, c.bs.length = N := ⟨_, rfl⟩
      rw [hN] at CS hlb hle ⊢
      have HV := Lib.hid hv
      have HNL := Lib.hid hnl
      have HKL := Lib.hid hkl
      have HLK : Hid (l[k]'(HKL.out) = (s, bt, c)) := Lib.hid hlk
      have HX := Lib.hid hx
      have HAT := Lib.hid hat
      have HL1 := Lib.hid hl
      have HB := Lib.hid hlb
      have HRD : Hid (∀ z, Lay w0 A z → Rd z z.heap.size ab (bv b)) := Lib.hid fun z hz => hrd.rd hz
      have HGT : Hid (gt (L.set k { c with bs := b }) ((k : Int) + 1) = some { c with bs := b }) := Lib.hid (gt_at (by simp [hkL]) hsw)
      have HLN : Hid ((L.set k { c with bs := b }).length ≤ 1000) := Lib.hid (by rw [List.length_set]; exact hn)
      have HOFT : Hid (c.ts.length ≤ 300) := Lib.hid (by omega)
      have HNOW := Lib.hid hnow
      rw [HV.out] at x0
      have i1 : (k : Int) < (n : Int) := by omega
      have i0 : (0 : Int) ≤ (k : Int) := by omega
      have i5 : (n : Int) ≤ 1000 := by omega
      obtain ⟨LL, hLL⟩ : ∃ LL, LL = L.set k { c with bs := b, ts := c.ts ++ [now] } := ⟨_, rfl⟩
      rw [← hLL]
      have HLL := Lib.hid hLL
      have s1 : IntKind.i64.wrap ((k : Int) + 1 - 1) = (k : Int) := by rw [IntKind.wrap_i64]; omega
      have s2 : IntKind.i64.wrap (k : Int) = (k : Int) := IntWalk.i64_in _ (by omega)
      clear hl hx hll hkl hg hat hcl hrd hnl hlk hn hv hoft hnow ho hok hN hlb h1 h2 hk hkL hsw hLL HS
      go_enter Try.func45, Try.ntmps45
      go_wp2_with (first | ((with_reducible refine CT.mono ?_); rintro e w' ⟨rfl, rfl⟩) | ((with_reducible refine CS.mono ?_); rintro e w' ⟨rfl, rfl⟩))
      clear CT CS
      refine wp_region_held_drew (S := fun w' => w'.cell? ⟨X, 0, none⟩ = some (.slice (some ad) n cap)) (by kernel_rfl) x0 (fun g => ?_)
      have HL2 := Lib.hid HL1.out.drew
      clear HL1 x0
      generalize w.drew = z at *
      clear w
      refine tq 0 ?_ rfl (by kernel_rfl) (fun _ _ _ h => h) (by rfl) g ?_ ?_; rotate_left
      · intro w9 h9; go_simp; try with_reducible rfl
      simp only [Act.put, ptA, ptB, ptC]
      refine tq 1 ?_ rfl (by kernel_rfl) (fun _ _ _ h => h) (by rfl) g ?_ ?_; rotate_left
      · intro w9 h9; go_simp; try with_reducible rfl
      simp only [Act.put, ptA, ptB, ptC]
      refine tq 2 ?_ rfl (by kernel_rfl) (fun _ _ _ h => h) (by rfl) g ?_ ?_; rotate_left
      · intro w9 h9; go_simp; try with_reducible rfl
      simp only [Act.put, ptA, ptB, ptC]
      refine tq 3 ?_ rfl (by kernel_rfl) (fun _ _ _ h => h) (by rfl) g ?_ ?_; rotate_left
      · intro w9 h9; go_simp; try with_reducible rfl
      simp only [Act.put, ptA, ptB, ptC]
      refine tq 4 ?_ rfl (by kernel_rfl) (fun _ _ _ h => h) (by rfl) g ?_ ?_; rotate_left
      · intro w9 h9; go_simp; try with_reducible rfl
      simp only [Act.put, ptA, ptB, ptC]
      refine tq 5 ?_ rfl (by kernel_rfl) (fun _ _ _ h => h) (by rfl) g ?_ ?_; rotate_left
      · intro w9 h9; go_simp; try with_reducible rfl
      simp only [Act.put, ptA, ptB, ptC]
      refine tq 6 ?_ rfl (by kernel_rfl) (fun _ _ _ h => h) (by rfl) g ?_ ?_; rotate_left
      · intro w9 h9; go_simp; try with_reducible rfl
      simp only [Act.put, ptA, ptB, ptC]
      refine tc 7 rfl (by kernel_rfl) (fun K9 hK => ?_)
      go_simp
      with_reducible refine (copyb_any ab N capb b HB.out (by omega) z (HRD.out z HL2.out)).mono ?_
      rintro e z3 ⟨v3, rfl, q3⟩
      obtain ⟨A3, l3, r3, e3⟩ := HL2.out.newRow (12, k + 1) q3.below q3.own (Nat.le_refl _)
      rw [HB.out] at r3
      obtain ⟨av, cpv, rfl, _, _, _⟩ := r3.form2
      have x0 : z3.cell? ⟨X, 0, none⟩ = some (.slice (some ad) n cap) := by rw [← HV.out]; exact (l3.bk ((e3 _ (by simp)).trans HX.out.head)).cell 0
      have HL3 := Lib.hid l3
      have HR3 := Lib.hid r3
      have HE3 := Lib.hid e3
      clear q3 l3 r3 e3 HL2
      go_simp
      refine hK.out _ _ x0 (fun g1 => ?_)
      clear hK K9 g
      have g := g1
      clear g1
      clear x0
      clear z
      refine tq 8 ?_ rfl (by kernel_rfl) (fun _ _ _ h => h) (by rfl) g ?_ ?_; rotate_left
      · intro w9 h9; go_simp; try with_reducible rfl
      simp only [Act.put, ptA, ptB, ptC]
      refine tq 9 ?_ rfl (by kernel_rfl) (fun _ _ _ h => h) (by rfl) g ?_ ?_; rotate_left
      · intro w9 h9; go_simp; try with_reducible rfl
      simp only [Act.put, ptA, ptB, ptC]
      refine tc 10 rfl (by kernel_rfl) (fun K9 hK => ?_)
      have hrow3 := HX.out.row.keep (A' := A3) (HE3.out (11, 0) (by simp))
      obtain ⟨A5, p1, p2, p3⟩ := rp HL3.out hrow3 HKL.out (show 0 < 5 by omega) (ad := ad) (cap := cap) (by rw [HNL.out]; exact HV.out) (.slice av N cpv) (.slice av N cpv, bt, { c with bs := b }) (by rw [HLK.out]; simp [rcells])
      obtain ⟨ad', cap', e', _, _, hcl⟩ := rg HL3.out hrow3 k HKL.out
      rw [HNL.out, HV.out] at e'
      simp only [Value.slice.injEq, Option.some.injEq] at e'
      obtain ⟨rfl, _, rfl⟩ := e'
      have f2 := (hcl 0 (by omega)).2
      have q2 := (hcl 0 (by omega)).1
      rw [HLK.out] at q2
      simp only [rcells, List.getElem?_cons_zero, Nat.add_zero] at q2 f2 p1
      have hch := HX.out.changed (A' := A5) (t' := (.slice av N cpv, bt, { c with bs := b })) HKL.out ((p3 _ (by simp)).trans ((HE3.out _ (by simp)).trans HX.out.head)) p2
        ⟨by dsimp only; rw [HB.out]; exact HR3.out.keep (p3 _ (by simp)), by obtain ⟨a, m, e1, e2, e3⟩ := HAT.out.beat; exact ⟨a, m, e1, e2.keep ((p3 _ (by simp)).trans (HE3.out _ (by simp))), e3⟩⟩
        (fun x _ _ _ h9 h10 _ => (p3 x h9).trans (HE3.out x h10))
      have HD : Hid (RDid w0 A X (L.set k { c with bs := b }) (z3.setCell (ad.add (k * 5)) (.slice av N cpv))) := Lib.hid ⟨A5, p1, ⟨_, _, hch⟩, fun x hx => (p3 x (ne20 hx (by simp))).trans (HE3.out x (ne20 hx (by simp)))⟩
      have x0 : (z3.setCell (ad.add (k * 5)) (.slice av N cpv)).cell? ⟨X, 0, none⟩ = some (.slice (some ad) n cap) := by rw [← HV.out]; exact (p1.bk ((p3 _ (by simp)).trans ((HE3.out _ (by simp)).trans HX.out.head))).cell 0
      clear hrow3 p1 p2 p3 hcl hch
      go_simp
      refine hK.out _ _ x0 (fun g1 => ?_)
      clear hK K9 g
      have g := g1
      clear g1
      clear x0 f2 q2
      generalize (z3.setCell (ad.add (k * 5)) (.slice av N cpv)) = z4 at *
      clear g
      refine wpAnyH_done (by kernel_rfl) ?_ _
      clear s1 s2
      obtain ⟨A6, l6, h6, f6⟩ := HD.out
      have CW := rwritten_c l6 h6 HLN.out ((k : Int) + 1) now HGT.out HOFT.out HNOW.out
      dsimp only at CW
      have e0 : ((k : Int) + 1).toNat - 1 = k := by omega
      rw [e0, List.set_set, ← HLL.out] at CW
      have HF6 := Lib.hid f6
      clear l6 h6 f6 e0 HD
      go_wp2_with fail
      with_reducible refine CW.mono ?_
      rintro e w9 ⟨rfl, hd⟩
      have HD := Lib.hid (hd.trans HF6.out)
      clear hd CW
      go_wp2
      go_ret
      exact ⟨rfl, HD.out⟩
    · have e : wrC L id b now = (false, L) := by unfold wrC; rw [hg]; simp [hlb, hi]
      rw [e]
      have hne : ((c.bs.length : Int) != (lenb : Int)) = true := by simp; omega
      generalize c.bs.length = N at *
      clear hl h hg e h1 h2 hrd hlb hok ho hi
      go_enter Try.func45, Try.ntmps45
      go_wp2_with (first | ((with_reducible refine CT.mono ?_); rintro e w' ⟨rfl, rfl⟩) | ((with_reducible refine CS.mono ?_); rintro e w' ⟨rfl, rfl⟩))
      go_ret
      exact ⟨rfl, HS.out⟩
end Go.Proofs.Ythdgdkjaeebbcaa
