/-
  The statements' alike of layer 8: the program's cells and the document's tell the same: contract. Conditions: 300 cells at most, of 64 bytes at most, written 300 times at most.
-/
import Derived.Test.YthdgdkjaeebbcaaCellsRef9
import Derived.Test.YthdgdkjaeebbcaaCellsLong
namespace Go.Proofs.Ythdgdkjaeebbcaa
set_option maxRecDepth 100000
open Go.RowKit Ow Ph Ro K2
set_option linter.unusedVariables false
set_option linter.unusedSimpArgs false
/-- The program's cells and the document's, both L. -/
def Two (w0 : World) (P X : Nat) (L : List Cl) (w : World) : Prop := ∃ A, Lay w0 A w ∧ PS A P L ∧ RS w0 A X L
/-- What has a part is written over, and nobody's then. -/
theorem lay_spoiled {w0 w w' : World} {A : Ac} {r : Rl} {t : TypeId} {s n : Nat} {v : Value} {xs : List Value} (h : Lay w0 A w) (hR : Row A r t s v n xs) (hg : w.grownBy w' v.ownBlock) : ∃ A', Lay w0 A' w' ∧ ∀ x, x ≠ r → A' x = A x := by
  refine ⟨fun x => if x = r then none else A x, ⟨h.below.grown hg h.below.size (fun k hk => by obtain ⟨p, hp⟩ := hR.block k hk; exact (h.own _ _ _ hp).1), fun x b o e => ?_, fun x y b o o' e f => ?_⟩, fun x hx => if_neg hx⟩
  · by_cases hx : x = r
    · rw [if_pos hx] at e; cases e
    · rw [if_neg hx] at e
      have h1 := h.own x b o e
      refine ⟨h1.1, (hg.block b (lt_of_block h1.2) ?_).trans h1.2⟩
      intro hc
      obtain ⟨p, hp⟩ := hR.block b hc.symm
      exact hx (h.inj _ _ _ _ _ e hp)
  · by_cases hx : x = r
    · rw [if_pos hx] at e; cases e
    · by_cases hy : y = r
      · rw [if_pos hy] at f; cases f
      · rw [if_neg hx] at e
        rw [if_neg hy] at f
        exact h.inj _ _ _ _ _ e f
def TwoP (w0 : World) (P X : Nat) (L : List Cl) (e : Ending) (w' : World) : Prop := e = .returned (.bool true) ∧ Two w0 P X L w'
set_option maxRecDepth 100000 in
set_option maxHeartbeats 4000000 in
theorem alike_c {w0 w : World} {P X n : Nat} {L : List Cl} (h : Two w0 P X L w) (ho : OkL n L) (hn : n ≤ 300) (id now : Int) (h1 : -9223372036854775808 ≤ id) (h2 : id ≤ 9223372036854775807) (hnow : i64 now) :
    Calls Try.prog 18 #[.pointer (some ⟨P, 0, none⟩), .pointer (some ⟨X, 0, none⟩), .int .i64 id, .int .i64 now] w (TwoP w0 P X L) := by
  have HN := Lib.hid hn
  have HO := Lib.hid ho
  have HNOW := Lib.hid hnow
  have HL3 : Hid (L.length ≤ 1000) := Lib.hid (by have := ho.len; omega)
  have H1 := Lib.hid h1
  have H2 := Lib.hid h2
  obtain ⟨A, hl, hp, hr⟩ := h
  have HLa := Lib.hid hl
  have HPa := Lib.hid hp
  have HRa := Lib.hid hr
  have hb64 : (bsC L id).length ≤ 64 := by
    unfold bsC
    cases hg : gt L id with
    | none => exact Nat.zero_le _
    | some c => exact (gt_ok ho hg).len
  obtain ⟨bs, hbs⟩ : ∃ bs, bs = bsC L id := ⟨_, rfl⟩
  have HBS := Lib.hid hbs
  rw [← hbs] at hb64
  obtain ⟨N, hN⟩ : ∃ N, bs.length = N := ⟨_, rfl⟩
  have HBN := Lib.hid hN
  rw [hN] at hb64
  clear hl hp hr ho hn hnow h1 h2 hbs hN
  go_enter Try.func18, Try.ntmps18
  go_wp2_with fail
  with_reducible refine (bytes_any HLa.out HPa.out HO.out id).mono ?_
  rintro e w1 ⟨v1, rfl, q⟩
  rw [← HBS.out] at q
  obtain ⟨A1, l1, r1, e1⟩ := HLa.out.newRow (30, 0) q.below q.own (Nat.le_refl _)
  rw [HBN.out] at r1
  obtain ⟨a1, c1, rfl, _, _, _⟩ := r1.form2
  have HL1 := Lib.hid l1
  have HR1 := Lib.hid r1
  have HP1 := Lib.hid (HPa.out.keep (A' := A1) fun x hx => e1 x (fun e => by rw [e] at hx; simp at hx))
  have HS1 := Lib.hid (HRa.out.keep (A' := A1) fun x _ hx => e1 x (fun e => by rw [e] at hx; simp at hx))
  clear q l1 r1 e1 HLa HPa HRa
  go_wp2_with fail
  with_reducible refine (rbytes_c HL1.out HS1.out HO.out HL3.out id H1.out H2.out).mono ?_
  rintro e w2 ⟨v2, rfl, q⟩
  rw [← HBS.out] at q
  obtain ⟨a2, c2, rfl, _, _, _⟩ := own_form q.own
  have RV := Lib.hid (Rd.of_own q.own)
  rw [HBN.out]
  have HL2 := Lib.hid (HL1.out.grow q.below)
  clear q HL1
  go_wp2_with fail
  with_reducible refine (samebytes_any a1 a2 N N c1 c2 bs bs HBN.out HBN.out (by omega) (by omega) _ ((HR1.out.reads (w0 := w0)).rd HL2.out) RV.out).mono ?_
  rintro e w3 ⟨rfl, q⟩
  rw [decide_eq_true (rfl : bs = bs)]
  have HLb := Lib.hid (HL2.out.grow q)
  clear q HL2 RV
  go_wp2_with fail
  with_reducible refine (size_any HLb.out HP1.out id).mono ?_
  rintro e w' ⟨rfl, rfl⟩
  go_wp2_with fail
  with_reducible refine (rsize_c HLb.out HS1.out HL3.out id H1.out H2.out).mono ?_
  rintro e w' ⟨rfl, rfl⟩
  go_wp2_with fail
  with_reducible refine (version_any HLb.out HP1.out id).mono ?_
  rintro e w4 ⟨rfl, q⟩
  have HLc := Lib.hid (HLb.out.grow q)
  clear q HLb
  go_wp2_with fail
  with_reducible refine (rversion_c HLc.out HS1.out HL3.out id H1.out H2.out).mono ?_
  rintro e w' ⟨rfl, rfl⟩
  go_wp2_with fail
  with_reducible refine (steady_c HLc.out HP1.out HO.out HN.out id now HNOW.out).mono ?_
  rintro e w5 ⟨rfl, q⟩
  have HLd := Lib.hid (HLc.out.grow q)
  clear q HLc
  go_wp2_with fail
  with_reducible refine (rsteady_c HLd.out HS1.out HO.out HN.out HL3.out id now H1.out H2.out HNOW.out).mono ?_
  rintro e w6 ⟨rfl, q⟩
  have HLe := Lib.hid (HLd.out.grow q)
  clear q HLd
  go_wp2_with fail
  with_reducible refine (spoilb_any _ _ N _ (by omega) _ (HR1.out.own HLe.out)).mono ?_
  rintro e w7 ⟨rfl, q⟩
  obtain ⟨A2, l2, e2⟩ := lay_spoiled HLe.out HR1.out q
  have HLf := Lib.hid l2
  have HP2 := Lib.hid (HP1.out.keep (A' := A2) fun x hx => e2 x (fun e => by rw [e] at hx; simp at hx))
  have HS2 := Lib.hid (HS1.out.keep (A' := A2) fun x _ hx => e2 x (fun e => by rw [e] at hx; simp at hx))
  clear q l2 e2 HLe HP1 HS1 HR1
  go_wp2_with fail
  with_reducible refine (bytes_any HLf.out HP2.out HO.out id).mono ?_
  rintro e w8 ⟨v3, rfl, q⟩
  rw [← HBS.out] at q
  obtain ⟨a3, c3, rfl, _, _, _⟩ := own_form q.own
  have RV3 := Lib.hid (Rd.of_own q.own)
  rw [HBN.out]
  have HLg := Lib.hid (HLf.out.grow q.below)
  clear q HLf
  go_wp2_with fail
  with_reducible refine (rbytes_c HLg.out HS2.out HO.out HL3.out id H1.out H2.out).mono ?_
  rintro e w9 ⟨v4, rfl, q⟩
  rw [← HBS.out] at q
  obtain ⟨a4, c4, rfl, _, _, _⟩ := own_form q.own
  have RV4 := Lib.hid (Rd.of_own q.own)
  have RV5 := Lib.hid ((RV3.out.below q.below).mono q.below.size)
  rw [HBN.out]
  have HLh := Lib.hid (HLg.out.grow q.below)
  clear q HLg RV3
  go_wp2_with fail
  with_reducible refine (samebytes_any a3 a4 N N c3 c4 bs bs HBN.out HBN.out (by omega) (by omega) _ RV5.out RV4.out).mono ?_
  rintro e w10 ⟨rfl, q⟩
  rw [decide_eq_true (rfl : bs = bs)]
  have HT : Hid (Two w0 P X L w10) := Lib.hid ⟨A2, HLh.out.grow q, HP2.out, HS2.out⟩
  clear q HLh
  go_wp2
  go_ret
  exact ⟨rfl, HT.out⟩
end Go.Proofs.Ythdgdkjaeebbcaa
