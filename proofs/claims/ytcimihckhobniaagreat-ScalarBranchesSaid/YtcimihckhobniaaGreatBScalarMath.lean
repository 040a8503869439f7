/-
  What is known of a number, in three parts: the sets, and what each part tells of the others. Nothing of the program is named here.
-/
import Derived.Test.YtcimihckhobniaaGreatBSpanMath4
namespace Go.Proofs.YtcimihckhobniaaGreat.Sc
open Tn Sp
set_option linter.unusedVariables false
set_option linter.unusedSimpArgs false
structure C where
  t : T
  u : E
  s : E
theorem C.eq {a b : C} (h1 : a.t = b.t) (h2 : a.u = b.u) (h3 : a.s = b.s) : a = b := by cases a; cases b; simp at h1 h2 h3; subst h1 h2 h3; rfl
def mayC (x : C) : Prop := mayT x.t ∧ okU x.u ∧ okS x.s
def inC (x : C) (v : BitVec 64) : Bool := inT x.t v && (inE x.u (bi v) && inE x.s (sg (bi v)))
theorem inC_iff (x : C) (v : BitVec 64) : inC x v = true ↔ inT x.t v = true ∧ inE x.u (bi v) = true ∧ inE x.s (sg (bi v)) = true := by unfold inC; simp
theorem mk_may {t : T} {u s : E} (h1 : mayT t) (h2 : okU u) (h3 : okS s) : mayC ⟨t, u, s⟩ := And.intro h1 (And.intro h2 h3)
theorem mk_in {t : T} {u s : E} {v : BitVec 64} (h1 : inT t v = true) (h2 : inE u (bi v) = true) (h3 : inE s (sg (bi v)) = true) : inC ⟨t, u, s⟩ v = true := (inC_iff _ _).2 (And.intro h1 (And.intro h2 h3))
def withC (a b : C) : Bool := withT a.t b.t && (withE a.u b.u && withE a.s b.s)
theorem withC_iff (a b : C) : withC a b = true ↔ withT a.t b.t = true ∧ withE a.u b.u = true ∧ withE a.s b.s = true := by unfold withC; simp
theorem mk_with {t t2 : T} {u s u2 s2 : E} (h1 : withT t t2 = true) (h2 : withE u u2 = true) (h3 : withE s s2 = true) : withC ⟨t, u, s⟩ ⟨t2, u2, s2⟩ = true := (withC_iff _ _).2 (And.intro h1 (And.intro h2 h3))
def ofC (v : BitVec 64) : C := ⟨ofT v, ofE (bi v), ofE (sg (bi v))⟩
def anyC : C := ⟨anyT, uAll, sAll⟩
def onesC (n : Nat) : BitVec 64 := BitVec.ofNat 64 (2 ^ (8 * n) - 1)
def uptoC (n : Int) : C := if 8 ≤ n then anyC else if n < 1 then ofC 0#64 else ⟨⟨0#64, onesC n.toNat⟩, ⟨0, bi (onesC n.toNat)⟩, ⟨0, bi (onesC n.toNat)⟩⟩
def aloneC (x : C) : Bool := decide (x.u.lo = x.u.hi) || (x.t.m == 0#64 || decide (x.s.lo = x.s.hi))
def oneC (x : C) : Int := if x.u.lo = x.u.hi then x.u.lo else if x.t.m = 0#64 then bi x.t.v else if x.s.lo = x.s.hi then us x.s.lo else 0
def sortC (x : C) : C := ⟨exc x.t.v x.t.m, sortE x.u.lo x.u.hi, sortE x.s.lo x.s.hi⟩

theorem sg_bi (v : BitVec 64) : -9223372036854775808 ≤ sg (bi v) ∧ sg (bi v) ≤ 9223372036854775807 := sg_bd _ (bi_bd v).1 (bi_bd v).2
theorem us_sg_bi (v : BitVec 64) : us (sg (bi v)) = bi v := us_sg _ (bi_bd v).1 (bi_bd v).2
theorem may_ofC (v : BitVec 64) : mayC (ofC v) := And.intro (may_of v) (And.intro (okU_of _ (bi_bd v).1 (bi_bd v).2) (okS_of _ (sg_bi v).1 (sg_bi v).2))
theorem may_anyC : mayC anyC := mk_may may_any okU_all okS_all
/-! ### What both have -/
theorem withE_refl (a : E) : withE a a = true := by rw [withE_iff]; omega
theorem withE_trans {a b c : E} (h : withE a b = true) (g : withE b c = true) : withE a c = true := by rw [withE_iff] at *; omega
theorem withT_trans {a b c : T} (hb : mayT b) (hc : mayT c) (h : withT a b = true) (g : withT b c = true) : withT a c = true := by
  rw [with_iff _ _ hb] at h
  rw [with_iff _ _ hc] at g ⊢
  intro i hi hm
  have g1 := g i hi hm
  have h1 := h i hi g1.1
  exact ⟨h1.1, h1.2.trans g1.2⟩
theorem withC_trans {a b c : C} (hb : mayC b) (hc : mayC c) (h : withC a b = true) (g : withC b c = true) : withC a c = true := by
  rw [withC_iff] at *
  exact ⟨withT_trans hb.1 hc.1 h.1 g.1, withE_trans h.2.1 g.2.1, withE_trans h.2.2 g.2.2⟩
theorem withC_refl {a : C} (ha : mayC a) : withC a a = true := by
  rw [withC_iff]; exact ⟨with_self ha.1, withE_refl _, withE_refl _⟩
theorem withC_in {a b : C} (hb : mayC b) (h : withC a b = true) {v : BitVec 64} (hv : inC a v = true) : inC b v = true := by
  rw [withC_iff] at h
  rw [inC_iff] at *
  rw [withE_iff, withE_iff] at h
  rw [inE_iff, inE_iff] at *
  exact ⟨within_yes hb.1 h.1 hv.1, by omega, by omega⟩
theorem met_of {a b : E} {v : Int} (ha : inE a v = true) (hb : inE b v = true) : metE a b = true := by
  rw [inE_iff] at ha hb; unfold metE; exact decide_eq_true (by omega)
theorem meetE_eq {a b : E} (h : metE a b = true) : meetE a b = ⟨max a.lo b.lo, min a.hi b.hi⟩ := by
  unfold metE at h; unfold meetE; rw [if_pos (of_decide_eq_true h)]
theorem meetE_in {a b : E} {v : Int} (ha : inE a v = true) (hb : inE b v = true) : inE (meetE a b) v = true := by
  rw [meetE_eq (met_of ha hb)]; rw [inE_iff] at *; dsimp only; omega
theorem meetE_left {a b : E} (h : metE a b = true) : withE (meetE a b) a = true := by rw [meetE_eq h, withE_iff]; dsimp only; omega
theorem meetE_right {a b : E} (h : metE a b = true) : withE (meetE a b) b = true := by rw [meetE_eq h, withE_iff]; dsimp only; omega
theorem meetU_ok {a b : E} (ha : okU a) (h : metE a b = true) : okU (meetE a b) := by
  rw [meetE_eq h]; have h2 := of_decide_eq_true h; unfold okU at *; dsimp only; omega
theorem meetS_ok {a b : E} (ha : okS a) (h : metE a b = true) : okS (meetE a b) := by
  rw [meetE_eq h]; have h2 := of_decide_eq_true h; unfold okS at *; dsimp only; omega
theorem meetT_ok {a b : T} {v : BitVec 64} (ha : inT a v = true) (hb : inT b v = true) : meetOk a b = true := by
  cases h : meetOk a b
  · have := meet_none h v ha; rw [hb] at this; cases this
  · rfl
theorem meetT_in {a b : T} (ma : mayT a) (mb : mayT b) {v : BitVec 64} (ha : inT a v = true) (hb : inT b v = true) : inT (meetT a b) v = true := by
  rw [meet_in ma mb (meetT_ok ha hb), ha, hb]; rfl

/-! ### What one part tells of another -/
theorem one_in {t : T} (ht : mayT t) {v : BitVec 64} (h : inT t v = true) : oneT t v = v := by
  rw [in_iff] at h
  refine bt_ext ?_
  intro i hi
  unfold oneT
  simp only [BitVec.getLsbD_or, BitVec.getLsbD_and]
  have h1 := h i hi
  have h2 := (may_iff t).1 ht i hi
  revert h1 h2
  cases t.m.getLsbD i <;> cases t.v.getLsbD i <;> cases v.getLsbD i <;> simp
theorem fromU_in {t : T} (ht : mayT t) {v : BitVec 64} (h : inT t v = true) : inE (fromU t) (bi v) = true := by
  have := taken_u ht v; rw [one_in ht h] at this; exact this
theorem fromS_in {t : T} (ht : mayT t) {v : BitVec 64} (h : inT t v = true) : inE (fromS t) (sg (bi v)) = true := by
  have := taken_s ht v; rw [one_in ht h] at this; exact this
theorem toU_in {s : E} (hs : okS s) {v : BitVec 64} (h : inE s (sg (bi v)) = true) : inE (toU s) (bi v) = true := by
  have := toU_sound hs h; rw [us_sg_bi] at this; exact this
theorem toS_in {u : E} (hu : okU u) {v : BitVec 64} (h : inE u (bi v) = true) : inE (toS u) (sg (bi v)) = true := toS_sound hu h
theorem toT_low {u : E} (hu : okU u) {v : BitVec 64} (h : inE u (bi v) = true) : v &&& ~~~(toT u).m = (toT u).v := by
  have hk := dif_le hu
  have e1 := low_ones v (dif u) hk
  have e2 := toT_v hu
  have e3 := share hu h
  have e4 : (toT u).m = BitVec.ofNat 64 (2 ^ dif u - 1) := rfl
  rw [e4]
  rw [← bi_inj, e2, ← e3]
  unfold bi
  rw [e1]
  have := Nat.mod_le v.toNat (2 ^ dif u)
  rw [Int.ofNat_sub this, Int.natCast_emod, pow_cast]
theorem bi_lo {u : E} (hu : okU u) : ∃ v : BitVec 64, bi v = u.lo := by
  unfold okU at hu
  obtain ⟨v, hv⟩ := bi_of u.lo (by omega) (by omega)
  exact ⟨v, hv.symm⟩
theorem may_toT {u : E} (hu : okU u) : mayT (toT u) := by
  obtain ⟨v, hv⟩ := bi_lo hu
  have h : inE u (bi v) = true := by rw [inE_iff, hv]; unfold okU at hu; omega
  unfold mayT
  rw [← toT_low hu h, zero_iff]
  intro i hi
  simp only [BitVec.getLsbD_and, BitVec.getLsbD_not]
  cases (toT u).m.getLsbD i <;> simp
theorem toT_in {u : E} (hu : okU u) {v : BitVec 64} (h : inE u (bi v) = true) : inT (toT u) v = true := by
  rw [in_iff]
  intro i hi hm
  have := congrArg (fun x => x.getLsbD i) (toT_low hu h)
  simp only [BitVec.getLsbD_and, BitVec.getLsbD_not, hm, hi] at this
  simpa using this

/-! ### P5.2 -/
def onceC (x : C) : Option C :=
  if metE x.u (toU x.s) && metE (meetE x.u (toU x.s)) (fromU x.t) && metE x.s (toS (meetE (meetE x.u (toU x.s)) (fromU x.t))) && metE (meetE x.s (toS (meetE (meetE x.u (toU x.s)) (fromU x.t)))) (fromS x.t) && meetOk x.t (toT (meetE (meetE x.u (toU x.s)) (fromU x.t)))
  then some ⟨meetT x.t (toT (meetE (meetE x.u (toU x.s)) (fromU x.t))), meetE (meetE x.u (toU x.s)) (fromU x.t), meetE (meetE x.s (toS (meetE (meetE x.u (toU x.s)) (fromU x.t)))) (fromS x.t)⟩ else none
def normC (x : C) : Option C := (onceC x).bind onceC
theorem once_less {x y : C} (hx : mayC x) (h : onceC x = some y) : mayC y ∧ withC y x = true := by
  unfold onceC at h
  split at h
  · rename_i g
    simp only [Bool.and_eq_true] at g
    obtain ⟨⟨⟨⟨g1, g2⟩, g3⟩, g4⟩, g5⟩ := g
    injection h with h
    subst h
    have o1 := meetU_ok hx.2.1 g1
    have o2 := meetU_ok o1 g2
    have o3 := meetS_ok hx.2.2 g3
    have o4 := meetS_ok o3 g4
    exact And.intro (mk_may (may_meet _ _) o2 o4) (mk_with (meet_left hx.1 (may_toT o2) g5) (withE_trans (meetE_left g2) (meetE_left g1)) (withE_trans (meetE_left g4) (meetE_left g3)))
  · cases h
theorem once_has {x : C} (hx : mayC x) {v : BitVec 64} (hv : inC x v = true) : ∃ y, onceC x = some y ∧ inC y v = true := by
  rw [inC_iff] at hv
  have a1 := toU_in hx.2.2 hv.2.2
  have b1 := meetE_in hv.2.1 a1
  have g1 := met_of hv.2.1 a1
  have o1 := meetU_ok hx.2.1 g1
  have a2 := fromU_in hx.1 hv.1
  have b2 := meetE_in b1 a2
  have g2 := met_of b1 a2
  have o2 := meetU_ok o1 g2
  have a3 := toS_in o2 b2
  have b3 := meetE_in hv.2.2 a3
  have g3 := met_of hv.2.2 a3
  have a4 := fromS_in hx.1 hv.1
  have b4 := meetE_in b3 a4
  have g4 := met_of b3 a4
  have a5 := toT_in o2 b2
  have b5 := meetT_in hx.1 (may_toT o2) hv.1 a5
  have g5 := meetT_ok hv.1 a5
  have e : onceC x = some ⟨meetT x.t (toT (meetE (meetE x.u (toU x.s)) (fromU x.t))), meetE (meetE x.u (toU x.s)) (fromU x.t), meetE (meetE x.s (toS (meetE (meetE x.u (toU x.s)) (fromU x.t)))) (fromS x.t)⟩ := by
    unfold onceC
    rw [if_pos (by simp only [g1, g2, g3, g4, g5]; rfl)]
  exact Exists.intro _ (And.intro e (mk_in b5 b2 b4))
theorem norm_less {x y : C} (hx : mayC x) (h : normC x = some y) : mayC y ∧ withC y x = true := by
  unfold normC at h
  cases e : onceC x with
  | none => rw [e] at h; cases h
  | some z =>
    rw [e] at h
    have h1 := once_less hx e
    have h2 := once_less h1.1 h
    exact ⟨h2.1, withC_trans h1.1 hx h2.2 h1.2⟩
theorem norm_has {x : C} (hx : mayC x) {v : BitVec 64} (hv : inC x v = true) : ∃ y, normC x = some y ∧ inC y v = true := by
  obtain ⟨y, e, hy⟩ := once_has hx hv
  obtain ⟨z, f, hz⟩ := once_has (once_less hx e).1 hy
  exact ⟨z, by unfold normC; rw [e]; exact f, hz⟩

/-! ### The lower half; parts, settled -/
theorem may_upto (n : Int) : mayC (uptoC n) := by
  unfold uptoC
  split
  · exact may_anyC
  · split
    · exact may_ofC _
    · rename_i h1 h2
      have hn : n.toNat ≤ 7 := by omega
      have hb := bi_bd (onesC n.toNat)
      refine mk_may (may_mask _) ?_ ?_
      · unfold okU; dsimp only; omega
      unfold okS; dsimp only
      have : (onesC n.toNat).toNat ≤ 2 ^ 56 := by
        unfold onesC
        rw [BitVec.toNat_ofNat]
        have h3 : 2 ^ (8 * n.toNat) ≤ 2 ^ 56 := Nat.pow_le_pow_right (by decide) (by omega)
        exact Nat.le_trans (Nat.mod_le _ _) (by omega)
      have h5 : bi (onesC n.toNat) = ((onesC n.toNat).toNat : Int) := rfl
      omega
end Go.Proofs.YtcimihckhobniaaGreat.Sc
