/-
  What is known of a number, in three parts: the sets, and what each part tells of the others. Nothing of the program is named here.
-/
import Derived.Test.YtcimihckhobniaaGreatWSpanMath4
namespace Go.Proofs.YtcimihckhobniaaGreat.Sc
open Tn Sp
set_option linter.unusedVariables false
set_option linter.unusedSimpArgs false
structure C where
  t : T
  u : E
  s : E
theorem C.eq {a b : C} (h1 : a.t = b.t) (h2 : a.u = b.u) (h3 : a.s = b.s) : a = b := by cases a; cases b; simp at h1 h2 h3; subst h1 h2 h3; rfl
def mayC (x : C) : Prop := mayT x.t ∧ okU x.u ∧ okS x.s
def inC (x : C) (v : BitVec 64) : Bool := inT x.t v && (inE x.u (bi v) && inE x.s (sg (bi v)))
theorem inC_iff (x : C) (v : BitVec 64) : inC x v = true ↔ inT x.t v = true ∧ inE x.u (bi v) = true ∧ inE x.s (sg (bi v)) = true := by unfold inC; simp
theorem mk_may {t : T} {u s : E} (h1 : mayT t) (h2 : okU u) (h3 : okS s) : mayC ⟨t, u, s⟩ := And.intro h1 (And.intro h2 h3)
theorem mk_in {t : T} {u s : E} {v : BitVec 64} (h1 : inT t v = true) (h2 : inE u (bi v) = true) (h3 : inE s (sg (bi v)) = true) : inC ⟨t, u, s⟩ v = true := (inC_iff _ _).2 (And.intro h1 (And.intro h2 h3))
def withC (a b : C) : Bool := withT a.t b.t && (withE a.u b.u && withE a.s b.s)
theorem withC_iff (a b : C) : withC a b = true ↔ withT a.t b.t = true ∧ withE a.u b.u = true ∧ withE a.s b.s = true := by unfold withC; simp
theorem mk_with {t t2 : T} {u s u2 s2 : E} (h1 : withT t t2 = true) (h2 : withE u u2 = true) (h3 : withE s s2 = true) : withC ⟨t, u, s⟩ ⟨t2, u2, s2⟩ = true := (withC_iff _ _).2 (And.intro h1 (And.intro h2 h3))
def joinC (a b : C) : C := ⟨joinT a.t b.t, joinE a.u b.u, joinE a.s b.s⟩
def ofC (v : BitVec 64) : C := ⟨ofT v, ofE (bi v), ofE (sg (bi v))⟩
def anyC : C := ⟨anyT, uAll, sAll⟩
def onesC (n : Nat) : BitVec 64 := BitVec.ofNat 64 (2 ^ (8 * n) - 1)
def uptoC (n : Int) : C := if 8 ≤ n then anyC else if n < 1 then ofC 0#64 else ⟨⟨0#64, onesC n.toNat⟩, ⟨0, bi (onesC n.toNat)⟩, ⟨0, bi (onesC n.toNat)⟩⟩
def aloneC (x : C) : Bool := decide (x.u.lo = x.u.hi) || (x.t.m == 0#64 || decide (x.s.lo = x.s.hi))
def oneC (x : C) : Int := if x.u.lo = x.u.hi then x.u.lo else if x.t.m = 0#64 then bi x.t.v else if x.s.lo = x.s.hi then us x.s.lo else 0
def sortC (x : C) : C := ⟨exc x.t.v x.t.m, sortE x.u.lo x.u.hi, sortE x.s.lo x.s.hi⟩

theorem sg_bi (v : BitVec 64) : -9223372036854775808 ≤ sg (bi v) ∧ sg (bi v) ≤ 9223372036854775807 := sg_bd _ (bi_bd v).1 (bi_bd v).2
theorem may_ofC (v : BitVec 64) : mayC (ofC v) := And.intro (may_of v) (And.intro (okU_of _ (bi_bd v).1 (bi_bd v).2) (okS_of _ (sg_bi v).1 (sg_bi v).2))
theorem may_anyC : mayC anyC := mk_may may_any okU_all okS_all
theorem in_anyC (v : BitVec 64) : inC anyC v = true := by
  have a : inE uAll (bi v) = true := in_all (bi_bd v).1 (bi_bd v).2
  have b : inE sAll (sg (bi v)) = true := in_sall (sg_bi v).1 (sg_bi v).2
  have c : inT anyT v = true := by
    rw [in_iff]; intro i hi h
    have h2 : (BitVec.allOnes 64).getLsbD i = true := by rw [BitVec.getLsbD_allOnes]; exact decide_eq_true hi
    exact absurd (h2.symm.trans h) (by decide)
  rw [inC_iff]
  exact ⟨c, a, b⟩

/-! ### What both have -/
theorem withE_refl (a : E) : withE a a = true := by rw [withE_iff]; omega
theorem withE_trans {a b c : E} (h : withE a b = true) (g : withE b c = true) : withE a c = true := by rw [withE_iff] at *; omega
theorem withC_refl {a : C} (ha : mayC a) : withC a a = true := by
  rw [withC_iff]; exact ⟨with_self ha.1, withE_refl _, withE_refl _⟩
theorem withC_in {a b : C} (hb : mayC b) (h : withC a b = true) {v : BitVec 64} (hv : inC a v = true) : inC b v = true := by
  rw [withC_iff] at h
  rw [inC_iff] at *
  rw [withE_iff, withE_iff] at h
  rw [inE_iff, inE_iff] at *
  exact ⟨within_yes hb.1 h.1 hv.1, by omega, by omega⟩
theorem meetE_eq {a b : E} (h : metE a b = true) : meetE a b = ⟨max a.lo b.lo, min a.hi b.hi⟩ := by
  unfold metE at h; unfold meetE; rw [if_pos (of_decide_eq_true h)]
theorem meetE_left {a b : E} (h : metE a b = true) : withE (meetE a b) a = true := by rw [meetE_eq h, withE_iff]; dsimp only; omega
theorem meetE_right {a b : E} (h : metE a b = true) : withE (meetE a b) b = true := by rw [meetE_eq h, withE_iff]; dsimp only; omega
theorem meetU_ok {a b : E} (ha : okU a) (h : metE a b = true) : okU (meetE a b) := by
  rw [meetE_eq h]; have h2 := of_decide_eq_true h; unfold okU at *; dsimp only; omega
theorem meetS_ok {a b : E} (ha : okS a) (h : metE a b = true) : okS (meetE a b) := by
  rw [meetE_eq h]; have h2 := of_decide_eq_true h; unfold okS at *; dsimp only; omega
/-! ### What one part tells of another -/
theorem toT_low {u : E} (hu : okU u) {v : BitVec 64} (h : inE u (bi v) = true) : v &&& ~~~(toT u).m = (toT u).v := by
  have hk := dif_le hu
  have e1 := low_ones v (dif u) hk
  have e2 := toT_v hu
  have e3 := share hu h
  have e4 : (toT u).m = BitVec.ofNat 64 (2 ^ dif u - 1) := rfl
  rw [e4]
  rw [← bi_inj, e2, ← e3]
  unfold bi
  rw [e1]
  have := Nat.mod_le v.toNat (2 ^ dif u)
  rw [Int.ofNat_sub this, Int.natCast_emod, pow_cast]
theorem bi_lo {u : E} (hu : okU u) : ∃ v : BitVec 64, bi v = u.lo := by
  unfold okU at hu
  obtain ⟨v, hv⟩ := bi_of u.lo (by omega) (by omega)
  exact ⟨v, hv.symm⟩
theorem may_toT {u : E} (hu : okU u) : mayT (toT u) := by
  obtain ⟨v, hv⟩ := bi_lo hu
  have h : inE u (bi v) = true := by rw [inE_iff, hv]; unfold okU at hu; omega
  unfold mayT
  rw [← toT_low hu h, zero_iff]
  intro i hi
  simp only [BitVec.getLsbD_and, BitVec.getLsbD_not]
  cases (toT u).m.getLsbD i <;> simp
/-! ### P5.2 -/
def onceC (x : C) : Option C :=
  if metE x.u (toU x.s) && metE (meetE x.u (toU x.s)) (fromU x.t) && metE x.s (toS (meetE (meetE x.u (toU x.s)) (fromU x.t))) && metE (meetE x.s (toS (meetE (meetE x.u (toU x.s)) (fromU x.t)))) (fromS x.t) && meetOk x.t (toT (meetE (meetE x.u (toU x.s)) (fromU x.t)))
  then some ⟨meetT x.t (toT (meetE (meetE x.u (toU x.s)) (fromU x.t))), meetE (meetE x.u (toU x.s)) (fromU x.t), meetE (meetE x.s (toS (meetE (meetE x.u (toU x.s)) (fromU x.t)))) (fromS x.t)⟩ else none
def normC (x : C) : Option C := (onceC x).bind onceC
theorem once_less {x y : C} (hx : mayC x) (h : onceC x = some y) : mayC y ∧ withC y x = true := by
  unfold onceC at h
  split at h
  · rename_i g
    simp only [Bool.and_eq_true] at g
    obtain ⟨⟨⟨⟨g1, g2⟩, g3⟩, g4⟩, g5⟩ := g
    injection h with h
    subst h
    have o1 := meetU_ok hx.2.1 g1
    have o2 := meetU_ok o1 g2
    have o3 := meetS_ok hx.2.2 g3
    have o4 := meetS_ok o3 g4
    exact And.intro (mk_may (may_meet _ _) o2 o4) (mk_with (meet_left hx.1 (may_toT o2) g5) (withE_trans (meetE_left g2) (meetE_left g1)) (withE_trans (meetE_left g4) (meetE_left g3)))
  · cases h
/-! ### The lower half; parts, settled -/
end Go.Proofs.YtcimihckhobniaaGreat.Sc
