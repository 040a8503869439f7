/-
  What the document's cells do: a cell was written: contract. Conditions: 1000 cells at most, written 300 times at most.
-/
import Derived.Test.YthdgdkjaeebbcaaCellsRef5
namespace Go.Proofs.Ythdgdkjaeebbcaa
set_option maxRecDepth 100000
open Go.RowKit Ow Ph Ro K2
set_option linter.unusedVariables false
set_option linter.unusedSimpArgs false
/-- A beat that was made gets a part. -/
theorem db_role {w0 w w' : World} {A : Ac} {v : Value} {ys : List Int} (hl : Lay w0 A w) (hb : Below w.heap.size w w') (hd : PR.DB w' v ys) (hne : ys ≠ []) (hown : ∀ b, v.ownBlock = some b → w.heap.size ≤ b) (r : Rl) :
    ∃ A' a m, Lay w0 A' w' ∧ v = .slice a ys.length m ∧ Reads w0 A' r a (zv ys) ∧ ∀ x, x ≠ r → A' x = A x := by
  rcases hd with ⟨h, _⟩ | ⟨_, ad, c, rfl, hr⟩
  · exact absurd h hne
  · have hpos : 0 < (zv ys).length := by rw [zv_len]; exact List.length_pos_iff.2 hne
    obtain ⟨ad', e, hlt, hc⟩ := hr hpos
    injection e with e
    subst e
    have ho : w'.heap[ad.block]? = some w'.heap[ad.block] := Array.getElem?_eq_getElem hlt
    refine ⟨A.up r ad.block w'.heap[ad.block], some ad, c, hl.new r hb (hown _ rfl) ho, rfl, fun _ => ⟨ad, rfl, .inr ⟨_, up_same _ _ _ _, fun w2 hw2 j u hu => ?_⟩⟩, fun x hx => up_other _ _ _ hx⟩
    rw [← hc j u hu]
    exact World.cell?_of_block (by rw [add_block, hw2, ho])
def RUnitP (w0 : World) (A : Ac) (X : Nat) (L : List Cl) (e : Ending) (w' : World) : Prop := e = .returned (.tuple #[]) ∧ RDid w0 A X L w'
set_option maxHeartbeats 2000000 in
theorem rwritten_c {w0 w : World} {A : Ac} {X : Nat} {L : List Cl} (hl : Lay w0 A w) (h : RS w0 A X L) (hn : L.length ≤ 1000) (id now : Int) {c : Cl} (hg : gt L id = some c) (hts : c.ts.length ≤ 300) (hnow : i64 now) :
    Calls Try.prog 65 #[.pointer (some ⟨X, 0, none⟩), .int .i64 id, .int .i64 now] w (RUnitP w0 A X (L.set (id.toNat - 1) { c with ts := c.ts ++ [now] })) := by
  obtain ⟨k, hk5, hk8, hk6, hk7⟩ := gt_yes hg
  obtain ⟨v, l, hx⟩ := h
  have hll := hx.len
  have hkl : k < l.length := by omega
  have hnth := hx.nth k hkl
  rw [hk6] at hnth
  injection hnth with hnth
  rcases hlk : l[k] with ⟨s, b, c0⟩
  have hat := hx.at_ k _ (List.getElem?_eq_getElem hkl)
  rw [hlk] at hat hnth
  dsimp only at hnth
  subst hnth
  obtain ⟨ad, cap, hv, c1, c2, hcl⟩ := rg hl hx.row k hkl
  rw [hlk] at hcl
  obtain ⟨a, m2, hb, hrd, hz⟩ := hat.beat
  dsimp only at hb hrd hz
  obtain ⟨m, hm⟩ : ∃ m, c.ts.length = m := ⟨_, rfl⟩
  -- what the first statement leaves
  obtain ⟨A1, p1, p2, p3⟩ := rp hl hx.row hkl (show 1 < 5 by omega) hv (.int .i64 ((m : Int) + 1)) (s, b, { c with ts := c.ts ++ [now] }) (by rw [hlk, ← hm]; simp [rcells])
  have x0 : w.cell? ⟨X, 0, none⟩ = some v := (hl.bk hx.head).cell 0
  have q1 : w.cell? (ad.add (k * 5 + 1)) = some (.int .i64 (m : Int)) := by rw [(hcl 1 (by omega)).1, ← hm]; rfl
  have f1 := (hcl 1 (by omega)).2
  rw [← add_next _ _ _ (by omega)] at q1 f1 p1
  have hkl1 : k < (l.set k (s, b, { c with ts := c.ts ++ [now] })).length := by rw [List.length_set]; exact hkl
  have hat1 : (l.set k (s, b, { c with ts := c.ts ++ [now] }))[k] = (s, b, { c with ts := c.ts ++ [now] }) := by simp
  have HL1 := Lib.hid p1
  have HX := Lib.hid hx
  have HROW1 := Lib.hid p2
  have HF1 := Lib.hid p3
  have HAT := Lib.hid hat
  have HHEAD : Hid (A1 (10, 0) = some (X, .cells #[v] 38)) := Lib.hid ((p3 _ (by simp)).trans hx.head)
  obtain ⟨nl, hnl⟩ : ∃ nl, l.length = nl := ⟨_, rfl⟩
  rw [hnl] at hv c1
  have HV := Lib.hid hv
  have HNL := Lib.hid hnl
  subst hb
  rw [hm] at HAT HROW1
  have HM := Lib.hid hm
  have HRD := Lib.hid hrd
  have HZ := Lib.hid hz
  have e0 : id.toNat - 1 = k := by omega
  rw [e0]
  subst hk5
  have HG : Hid (k < L.length) := Lib.hid hk8
  have hkn : (k : Int) < (nl : Int) := by omega
  have hk0 : (0 : Int) ≤ (k : Int) := by omega
  have hnl3 : (nl : Int) ≤ 1000 := by omega
  have hm3 : (m : Int) ≤ 300 := by omega
  have hm0 : (0 : Int) ≤ (m : Int) := by omega
  rw [HV.out] at x0
  clear hl hx hll hkl hg hat hcl hrd hz p1 p2 p3 hm hnl hk6 hk8 hlk e0 hn hkl1 hat1 hv hts hk7 hnow
  have HQ2 : Hid (∀ z, Lay w0 A1 z → z.cell? ⟨(ad.add (k * 5)).block, (ad.add (k * 5)).off + 2, none⟩ = some (.slice a m m2)) := Lib.hid (fun z hz => by
    obtain ⟨ad', cap', e', _, _, hc'⟩ := rg hz HROW1.out k (by rw [List.length_set, HNL.out]; omega)
    rw [List.length_set, HNL.out, HV.out] at e'
    simp only [Value.slice.injEq, Option.some.injEq] at e'
    obtain ⟨rfl, _, rfl⟩ := e'
    rw [add_next _ _ _ (by omega), (hc' 2 (by omega)).1]
    simp [rcells])
  have HDB : Hid (∀ z, Lay w0 A1 z → PR.DB z (.slice a m m2) c.ts) := Lib.hid (fun z hz => by
    by_cases hne : c.ts = []
    · obtain ⟨rfl, rfl⟩ := HZ.out hne
      have : m = 0 := by rw [← HM.out, hne]; rfl
      subst this
      exact .inl ⟨hne, rfl⟩
    · refine .inr ⟨hne, ?_⟩
      have hrd := (HRD.out.keep (A' := A1) (HF1.out _ (by simp))).rd hz
      obtain ⟨ad', e', _⟩ := hrd (by rw [zv_len]; exact List.length_pos_iff.2 hne)
      subst e'
      exact ⟨ad', m2, by rw [HM.out], hrd⟩)
  have HLD : Hid (Lay w0 A1 (w.drew.setCell ⟨(ad.add (k * 5)).block, (ad.add (k * 5)).off + 1, none⟩ (.int .i64 ((m : Int) + 1)))) := Lib.hid HL1.out.drew
  have s1 : IntKind.i64.wrap ((k : Int) + 1 - 1) = (k : Int) := by rw [IntKind.wrap_i64]; omega
  have s2 : IntKind.i64.wrap (k : Int) = (k : Int) := IntWalk.i64_in _ (by omega)
  have s3 : IntKind.i64.wrap ((m : Int) + 1) = (m : Int) + 1 := IntWalk.i64_in _ (by omega)
  go_enter Try.func65, Try.ntmps65
  go_wp2_with fail
  refine wp_region_held_drew (S := fun w' => w'.cell? ⟨X, 0, none⟩ = some (.slice (some ad) nl cap)) (by kernel_rfl) x0 (fun g => ?_)
  have f1' : w.drew.frozen? ⟨(ad.add (k * 5)).block, (ad.add (k * 5)).off + 1, none⟩ = false := f1
  have q1' : w.drew.cell? ⟨(ad.add (k * 5)).block, (ad.add (k * 5)).off + 1, none⟩ = some (.int .i64 (m : Int)) := q1
  have HL2 : Hid (Lay w0 A1 (w.drew.setCell ⟨(ad.add (k * 5)).block, (ad.add (k * 5)).off + 1, none⟩ (.int .i64 ((m : Int) + 1)))) := Lib.hid HLD.out
  clear HL1 HLD x0 q1 f1
  generalize w.drew = z at *
  clear w
  refine tq 0 ?_ rfl (by kernel_rfl) (fun _ _ _ h => h) (by rfl) g ?_ ?_; rotate_left
  · intro w9 h9; go_simp; try with_reducible rfl
  simp only [Act.put, ptA, ptB, ptC]
  refine tq 1 ?_ rfl (by kernel_rfl) (fun _ _ _ h => h) (by rfl) g ?_ ?_; rotate_left
  · intro w9 h9; go_simp; try with_reducible rfl
  simp only [Act.put, ptA, ptB, ptC]
  refine tq 2 ?_ rfl (by kernel_rfl) (fun _ _ _ h => h) (by rfl) g ?_ ?_; rotate_left
  · intro w9 h9; go_simp; try with_reducible rfl
  simp only [Act.put, ptA, ptB, ptC]
  refine tq 3 ?_ rfl (by kernel_rfl) (fun _ _ _ h => h) (by rfl) g ?_ ?_; rotate_left
  · intro w9 h9; go_simp; try with_reducible rfl
  simp only [Act.put, ptA, ptB, ptC]
  refine tq 4 ?_ rfl (by kernel_rfl) (fun _ _ _ h => h) (by rfl) g ?_ ?_; rotate_left
  · intro w9 h9; go_simp; try with_reducible rfl
  simp only [Act.put, ptA, ptB, ptC]
  refine tq 5 ?_ rfl (by kernel_rfl) (fun _ _ _ h => h) (by rfl) g ?_ ?_; rotate_left
  · intro w9 h9; go_simp; try with_reducible rfl
  simp only [Act.put, ptA, ptB, ptC]
  refine tq 6 ?_ rfl (by kernel_rfl) (fun _ _ _ h => h) (by rfl) g ?_ ?_; rotate_left
  · intro w9 h9; go_simp; try with_reducible rfl
  simp only [Act.put, ptA, ptB, ptC]
  refine tq 7 ?_ rfl (by kernel_rfl) (fun _ _ _ h => h) (by rfl) g ?_ ?_; rotate_left
  · intro w9 h9; go_simp; try with_reducible rfl
  simp only [Act.put, ptA, ptB, ptC]
  refine tq 8 ?_ rfl (by kernel_rfl) (fun _ _ _ h => h) (by rfl) g ?_ ?_; rotate_left
  · intro w9 h9; go_simp; try with_reducible rfl
  simp only [Act.put, ptA, ptB, ptC]
  refine tq 9 ?_ rfl (by kernel_rfl) (fun _ _ _ h => h) (by rfl) g ?_ ?_; rotate_left
  · intro w9 h9; go_simp; try with_reducible rfl
  simp only [Act.put, ptA, ptB, ptC]
  refine tq 10 ?_ rfl (by kernel_rfl) (fun _ _ _ h => h) (by rfl) g ?_ ?_; rotate_left
  · intro w9 h9; go_simp; try with_reducible rfl
  simp only [Act.put, ptA, ptB, ptC]
  refine tq 11 ?_ rfl (by kernel_rfl) (fun _ _ _ h => h) (by rfl) g ?_ ?_; rotate_left
  · intro w9 h9; go_simp; try with_reducible rfl
  simp only [Act.put, ptA, ptB, ptC]
  refine tq 12 ?_ rfl (by kernel_rfl) (fun _ _ _ h => h) (by rfl) g ?_ ?_; rotate_left
  · intro w9 h9; go_simp; try with_reducible rfl
  simp only [Act.put, ptA, ptB, ptC]
  refine tq 13 ?_ rfl (by kernel_rfl) (fun _ _ _ h => h) (by rfl) g ?_ ?_; rotate_left
  · intro w9 h9; go_simp; try with_reducible rfl
  simp only [Act.put, ptA, ptB, ptC]
  refine tc 14 rfl (by kernel_rfl) (fun K9 hK => ?_)
  go_simp
  refine hK.out _ _ g (fun g1 => ?_)
  clear hK K9 g
  have g := g1
  clear g1
  refine tq 15 ?_ rfl (by kernel_rfl) (fun _ _ _ h => h) (by rfl) g ?_ ?_; rotate_left
  · intro w9 h9; go_simp; try with_reducible rfl
  simp only [Act.put, ptA, ptB, ptC]
  refine tq 16 ?_ rfl (by kernel_rfl) (fun _ _ _ h => h) (by rfl) g ?_ ?_; rotate_left
  · intro w9 h9; go_simp; try with_reducible rfl
  simp only [Act.put, ptA, ptB, ptC]
  refine tq 17 ?_ rfl (by kernel_rfl) (fun _ _ _ h => h) (by rfl) g ?_ ?_; rotate_left
  · intro w9 h9; go_simp; try with_reducible rfl
  simp only [Act.put, ptA, ptB, ptC]
  refine tc 18 rfl (by kernel_rfl) (fun K9 hK => ?_)
  have x0 : (z.setCell ⟨(ad.add (k * 5)).block, (ad.add (k * 5)).off + 1, none⟩ (.int .i64 ((m : Int) + 1))).cell? ⟨X, 0, none⟩ = some (.slice (some ad) nl cap) := by rw [← HV.out]; exact (HL2.out.bk HHEAD.out).cell 0
  go_simp
  refine hK.out _ _ x0 (fun g1 => ?_)
  clear hK K9 g
  have g := g1
  clear g1
  clear x0 f1' q1'
  generalize (z.setCell ⟨(ad.add (k * 5)).block, (ad.add (k * 5)).off + 1, none⟩ (.int .i64 ((m : Int) + 1))) = z2 at *
  clear z
  have x0 := g
  clear g
  refine wpAnyH_done (by kernel_rfl) ?_ _
  go_wp2_with fail
  have q2 : z2.cell? ⟨(ad.add (k * 5)).block, (ad.add (k * 5)).off + 2, none⟩ = some (.slice a m m2) := HQ2.out z2 HL2.out
  refine wp_region_held_drew (S := fun w' => w'.cell? ⟨X, 0, none⟩ = some (.slice (some ad) nl cap)) (by kernel_rfl) x0 (fun g => ?_)
  have q2' : z2.drew.cell? ⟨(ad.add (k * 5)).block, (ad.add (k * 5)).off + 2, none⟩ = some (.slice a m m2) := q2
  have HL3 := Lib.hid HL2.out.drew
  clear HL2 x0 q2
  generalize z2.drew = z at *
  clear z2
  refine tq 0 ?_ rfl (by kernel_rfl) (fun _ _ _ h => h) (by rfl) g ?_ ?_; rotate_left
  · intro w9 h9; go_simp; try with_reducible rfl
  simp only [Act.put, ptA, ptB, ptC]
  refine tq 1 ?_ rfl (by kernel_rfl) (fun _ _ _ h => h) (by rfl) g ?_ ?_; rotate_left
  · intro w9 h9; go_simp; try with_reducible rfl
  simp only [Act.put, ptA, ptB, ptC]
  refine tq 2 ?_ rfl (by kernel_rfl) (fun _ _ _ h => h) (by rfl) g ?_ ?_; rotate_left
  · intro w9 h9; go_simp; try with_reducible rfl
  simp only [Act.put, ptA, ptB, ptC]
  refine tq 3 ?_ rfl (by kernel_rfl) (fun _ _ _ h => h) (by rfl) g ?_ ?_; rotate_left
  · intro w9 h9; go_simp; try with_reducible rfl
  simp only [Act.put, ptA, ptB, ptC]
  refine tq 4 ?_ rfl (by kernel_rfl) (fun _ _ _ h => h) (by rfl) g ?_ ?_; rotate_left
  · intro w9 h9; go_simp; try with_reducible rfl
  simp only [Act.put, ptA, ptB, ptC]
  refine tq 5 ?_ rfl (by kernel_rfl) (fun _ _ _ h => h) (by rfl) g ?_ ?_; rotate_left
  · intro w9 h9; go_simp; try with_reducible rfl
  simp only [Act.put, ptA, ptB, ptC]
  refine tq 6 ?_ rfl (by kernel_rfl) (fun _ _ _ h => h) (by rfl) g ?_ ?_; rotate_left
  · intro w9 h9; go_simp; try with_reducible rfl
  simp only [Act.put, ptA, ptB, ptC]
  refine tq 7 ?_ rfl (by kernel_rfl) (fun _ _ _ h => h) (by rfl) g ?_ ?_; rotate_left
  · intro w9 h9; go_simp; try with_reducible rfl
  simp only [Act.put, ptA, ptB, ptC]
  refine tq 8 ?_ rfl (by kernel_rfl) (fun _ _ _ h => h) (by rfl) g ?_ ?_; rotate_left
  · intro w9 h9; go_simp; try with_reducible rfl
  simp only [Act.put, ptA, ptB, ptC]
  refine tq 9 ?_ rfl (by kernel_rfl) (fun _ _ _ h => h) (by rfl) g ?_ ?_; rotate_left
  · intro w9 h9; go_simp; try with_reducible rfl
  simp only [Act.put, ptA, ptB, ptC]
  refine tq 10 ?_ rfl (by kernel_rfl) (fun _ _ _ h => h) (by rfl) g ?_ ?_; rotate_left
  · intro w9 h9; go_simp; try with_reducible rfl
  simp only [Act.put, ptA, ptB, ptC]
  refine tq 11 ?_ rfl (by kernel_rfl) (fun _ _ _ h => h) (by rfl) g ?_ ?_; rotate_left
  · intro w9 h9; go_simp; try with_reducible rfl
  simp only [Act.put, ptA, ptB, ptC]
  refine tq 12 ?_ rfl (by kernel_rfl) (fun _ _ _ h => h) (by rfl) g ?_ ?_; rotate_left
  · intro w9 h9; go_simp; try with_reducible rfl
  simp only [Act.put, ptA, ptB, ptC]
  refine tq 13 ?_ rfl (by kernel_rfl) (fun _ _ _ h => h) (by rfl) g ?_ ?_; rotate_left
  · intro w9 h9; go_simp; try with_reducible rfl
  simp only [Act.put, ptA, ptB, ptC]
  refine tq 15 ?_ rfl (by kernel_rfl) (fun _ _ _ h => h) (by rfl) g ?_ ?_; rotate_left
  · intro w9 h9; go_simp; try with_reducible rfl
  simp only [Act.put, ptA, ptB, ptC]
  refine tc 14 rfl (by kernel_rfl) (fun K9 hK => ?_)
  go_simp
  refine hK.out _ _ g (fun g1 => ?_)
  clear hK K9 g
  have g := g1
  clear g1
  clear q2'
  refine tc 16 rfl (by kernel_rfl) (fun K9 hK => ?_)
  go_simp
  have hdb : PR.DB z (.slice a m m2) c.ts := HDB.out z HL3.out
  with_reducible refine (PR.rwrite_any (.slice a m m2) c.ts now (by have := HM.out; omega) z hdb).mono ?_
  rintro e z3 ⟨v', rfl, hd3, hb3, ho3⟩
  obtain ⟨A4, a4, m4, hl4, rfl, hr4, he4⟩ := db_role HL3.out hb3 hd3 (by simp) ho3 (13, k + 1)
  have x0 : z3.cell? ⟨X, 0, none⟩ = some (.slice (some ad) nl cap) := by rw [← HV.out]; exact (hl4.bk ((he4 _ (by simp)).trans HHEAD.out)).cell 0
  have HL4 := Lib.hid hl4
  have HR4 := Lib.hid hr4
  have HE4 := Lib.hid he4
  clear hdb hd3 hb3 ho3 hl4 hr4 he4 HL3
  rw [List.length_append, HM.out, List.length_singleton]
  go_simp
  refine hK.out _ _ x0 (fun g1 => ?_)
  clear hK K9 g
  have g := g1
  clear g1
  clear x0
  clear z
  refine tq 17 ?_ rfl (by kernel_rfl) (fun _ _ _ h => h) (by rfl) g ?_ ?_; rotate_left
  · intro w9 h9; go_simp; try with_reducible rfl
  simp only [Act.put, ptA, ptB, ptC]
  refine tq 18 ?_ rfl (by kernel_rfl) (fun _ _ _ h => h) (by rfl) g ?_ ?_; rotate_left
  · intro w9 h9; go_simp; try with_reducible rfl
  simp only [Act.put, ptA, ptB, ptC]
  refine tc 19 rfl (by kernel_rfl) (fun K9 hK => ?_)
  have hrow3 := HROW1.out.keep (HE4.out (11, 0) (by simp))
  have hk3 : k < (l.set k (s, Value.slice a m m2, ({ c with ts := c.ts ++ [now] } : Cl))).length := by rw [List.length_set, HNL.out]; omega
  have hat3 : (l.set k (s, Value.slice a m m2, ({ c with ts := c.ts ++ [now] } : Cl)))[k] = (s, Value.slice a m m2, ({ c with ts := c.ts ++ [now] } : Cl)) := by simp
  obtain ⟨A5, p1, p2, p3⟩ := rp HL4.out hrow3 hk3 (show 2 < 5 by omega) (ad := ad) (cap := cap) (by rw [List.length_set, HNL.out]; exact HV.out) (.slice a4 (m + 1) m4) (s, .slice a4 (m + 1) m4, { c with ts := c.ts ++ [now] }) (by rw [hat3]; simp [rcells])
  obtain ⟨ad', cap', e', _, _, hcl⟩ := rg HL4.out hrow3 k hk3
  rw [List.length_set, HNL.out, HV.out] at e'
  simp only [Value.slice.injEq, Option.some.injEq] at e'
  obtain ⟨rfl, _, rfl⟩ := e'
  have f2 := (hcl 2 (by omega)).2
  have q2 := (hcl 2 (by omega)).1
  rw [hat3, ← add_next _ _ _ (by omega)] at q2
  simp only [rcells, List.getElem?_cons_zero, List.getElem?_cons_succ] at q2
  rw [← add_next _ _ _ (by omega)] at f2 p1
  rw [List.set_set] at p2
  have hkl : k < l.length := by rw [HNL.out]; omega
  have hch := HX.out.changed (A' := A5) (t' := (s, .slice a4 (m + 1) m4, { c with ts := c.ts ++ [now] })) hkl
    ((p3 _ (by simp)).trans ((HE4.out _ (by simp)).trans HHEAD.out)) p2
    ⟨HAT.out.row.keep ((p3 _ (by simp)).trans ((HE4.out _ (by simp)).trans (HF1.out _ (by simp)))), a4, m4, by dsimp only; rw [List.length_append, HM.out]; rfl, HR4.out.keep (p3 _ (by simp)), fun e => by simp at e⟩
    (fun x _ _ _ h9 _ h11 => (p3 x h9).trans ((HE4.out x h11).trans (HF1.out x h9)))
  have HD : Hid (RDid w0 A X (L.set k { c with ts := c.ts ++ [now] }) (z3.setCell ⟨(ad.add (k * 5)).block, (ad.add (k * 5)).off + 2, none⟩ (.slice a4 (m + 1) m4))) := Lib.hid ⟨A5, p1, ⟨_, _, hch⟩, fun x hx => (p3 x (ne20 hx (by simp))).trans ((HE4.out x (ne20 hx (by simp))).trans (HF1.out x (ne20 hx (by simp))))⟩
  have x0 : (z3.setCell ⟨(ad.add (k * 5)).block, (ad.add (k * 5)).off + 2, none⟩ (.slice a4 (m + 1) m4)).cell? ⟨X, 0, none⟩ = some (.slice (some ad) nl cap) := by rw [← HV.out]; exact (p1.bk ((p3 _ (by simp)).trans ((HE4.out _ (by simp)).trans HHEAD.out))).cell 0
  clear hrow3 hk3 hat3 p1 p2 p3 hcl hch hkl
  go_simp
  refine hK.out _ _ x0 (fun g1 => ?_)
  clear hK K9 g
  have g := g1
  clear g1
  clear x0 f2 q2
  generalize (z3.setCell ⟨(ad.add (k * 5)).block, (ad.add (k * 5)).off + 2, none⟩ (.slice a4 (m + 1) m4)) = z4 at *
  clear g
  refine wpAnyH_done (by kernel_rfl) ?_ _
  go_wp2
  refine bodyPost_ret (by simp [results, Try.results65, go_sem]; try rfl) rfl ?_
  exact ⟨rfl, HD.out⟩
end Go.Proofs.Ythdgdkjaeebbcaa
