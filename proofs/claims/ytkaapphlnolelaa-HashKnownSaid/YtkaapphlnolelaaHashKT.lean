/-
  What the statements' kit does with lists of lists of bytes (held against one another, written over): contracts. Conditions: 1000 keys of 1000 bytes at most.
-/
import Derived.Test.YtkaapphlnolelaaHashP5
namespace Go.Proofs.Ytkaapphlnolelaa
set_option maxRecDepth 100000
open Go.RowKit Ow Ro K2 Hm
set_option linter.unusedVariables false
set_option linter.unusedSimpArgs false
/-- A list of lists of bytes, to be read. -/
def Txt (w : World) (B : Nat) (A : Option Addr) (G : List (List Int)) : Prop :=
  ∃ vs : List Value, Rd w B A vs ∧ vs.length = G.length ∧ ∀ (j : Nat) (bs : List Int), G[j]? = some bs → ∃ (a : Option Addr) (c : Nat), vs[j]? = some (Value.slice a bs.length c) ∧ Rd w B a (bv bs)
theorem Txt.below {w w' : World} {B : Nat} {A : Option Addr} {G : List (List Int)} (h : Txt w B A G) (hb : Below B w w') : Txt w' B A G := by
  obtain ⟨vs, h1, h2, h3⟩ := h
  exact ⟨vs, h1.below hb, h2, fun j bs hj => by obtain ⟨a, c, e, r⟩ := h3 j bs hj; exact ⟨a, c, e, r.below hb⟩⟩
theorem Txt.mono {w : World} {B B' : Nat} {A : Option Addr} {G : List (List Int)} (h : Txt w B A G) (hb : B ≤ B') : Txt w B' A G := by
  obtain ⟨vs, h1, h2, h3⟩ := h
  exact ⟨vs, h1.mono hb, h2, fun j bs hj => by obtain ⟨a, c, e, r⟩ := h3 j bs hj; exact ⟨a, c, e, r.mono hb⟩⟩
theorem Txt.look {w : World} {B : Nat} {A : Option Addr} {G : List (List Int)} (h : Txt w B A G) {j : Nat} {bs : List Int} (hj : G[j]? = some bs) : ∃ ad a c, A = some ad ∧ ad.block < B ∧ w.cell? (ad.add j) = some (.slice a bs.length c) ∧ Rd w B a (bv bs) := by
  obtain ⟨vs, h1, h2, h3⟩ := h
  obtain ⟨a, c, e, r⟩ := h3 j bs hj
  obtain ⟨ad, rfl, hb, hc⟩ := h1 (by have := (List.getElem?_eq_some_iff.1 hj).1; omega)
  exact ⟨ad, a, c, rfl, hb, hc j _ e, r⟩
theorem Txt.of_KI {w0 z : World} {A : Ac} {G : List (List Int)} {a : Option Addr} {n c : Nat} (h : KI w0 A G (.slice a n c) z) : Txt z z.heap.size a G := by
  obtain ⟨A', vs, h1, h2, h3, h4, h5⟩ := h
  obtain ⟨a', cap, e, _⟩ := h3.form2
  simp only [Value.slice.injEq] at e
  obtain ⟨rfl, rfl, rfl⟩ := e
  refine ⟨vs, (h3.reads (w0 := w0)).rd h1, h4, fun j bs hj => ?_⟩
  obtain ⟨u, e1, e2⟩ := h5 j bs hj
  obtain ⟨a2, c2, rfl, _⟩ := e2.form2
  exact ⟨a2, c2, e1, (e2.reads (w0 := w0)).rd h1⟩
theorem Txt.of_KQ {w0 z : World} {A : Ac} {G : List (List Int)} {a : Option Addr} {n c : Nat} (h : KQ w0 A G (.slice a n c) z) : Txt z z.heap.size a G := by
  obtain ⟨A', vs, h1, h2, h3, h4, h5⟩ := h
  obtain ⟨a', cap, e, _⟩ := h3.form2
  simp only [Value.slice.injEq] at e
  obtain ⟨rfl, rfl, rfl⟩ := e
  refine ⟨vs, (h3.reads (w0 := w0)).rd h1, h4, fun j bs hj => ?_⟩
  obtain ⟨u, e1, e2⟩ := h5 j bs hj
  obtain ⟨a2, c2, rfl, _⟩ := e2.form2
  exact ⟨a2, c2, e1, (e2.reads (w0 := w0)).rd h1⟩
set_option maxHeartbeats 1000000 in
theorem sametexts_any (A B : Option Addr) (n c d : Nat) (G : List (List Int)) (hn : G.length = n) (h1 : n ≤ 1000) (hb : ∀ g ∈ G, g.length ≤ 1000) (w : World) (hx : Txt w w.heap.size A G) (hy : Txt w w.heap.size B G) :
    Calls Try.prog 26 #[.slice A n c, .slice B n d] w fun e w' => e = .returned (.bool true) ∧ Below w.heap.size w w' := by
  have HN := Lib.hid hn
  have HX := Lib.hid hx
  have HY := Lib.hid hy
  have HB := Lib.hid hb
  clear hn hx hy hb
  have hne : ((n : Int) != (n : Int)) = false := by simp
  go_enter Try.func26, Try.ntmps26
  go_wp2
  go_loopw [5] (fun i wr => ∃ k : Nat, k ≤ n ∧ i = .int .i64 k ∧ Hid (Below w.heap.size w wr)) (fun i _ => n - (intOf i).toNat)
  case atStart => exact ⟨0, Nat.zero_le _, rfl, Lib.hid (Below.refl _ _)⟩
  case round =>
    obtain ⟨k, hk, rfl, hbl⟩ := hrel
    by_cases hlt : k < n
    · have hkG : G[k]? = some (G[k]'(by rw [HN.out]; exact hlt)) := List.getElem?_eq_getElem _
      have hgl := HB.out _ (List.getElem_mem (by rw [HN.out]; exact hlt))
      generalize G[k]'(by rw [HN.out]; exact hlt) = g at *
      obtain ⟨ad, a1, c1, rfl, hA, hc1, hr1⟩ := (HX.out.below hbl.out).look hkG
      obtain ⟨bd, a2, c2, rfl, hB, hc2, hr2⟩ := (HY.out.below hbl.out).look hkG
      have i1 : (0 : Int) ≤ (k : Int) := by omega
      have i2 : (k : Int) < (n : Int) := by omega
      have HR1 := Lib.hid (hr1.mono hbl.out.size)
      have HR2 := Lib.hid (hr2.mono hbl.out.size)
      obtain ⟨m, hm⟩ : ∃ m, g.length = m := ⟨_, rfl⟩
      have HM := Lib.hid hm
      rw [hm] at hc1 hc2 hgl
      have hA' : (ad.add k).block < wr.heap.size := by rw [add_block]; have := hbl.out.size; omega
      have hB' : (bd.add k).block < wr.heap.size := by rw [add_block]; have := hbl.out.size; omega
      clear hr1 hr2 hkG hm
      go_wp2_with fail
      refine wp_region_held_drew (S := fun w' => w'.cell? (ad.add k) = some (.slice a1 m c1) ∧ w'.cell? (bd.add k) = some (.slice a2 m c2)) (by kernel_rfl) ⟨hc1, hc2⟩ (fun g9 => ?_)
      have HBD : Hid (Below w.heap.size w wr.drew) := Lib.hid hbl.out.drew
      have HSB := Lib.hid (samebytes_any a1 a2 m m c1 c2 g g HM.out HM.out (by omega) (by omega) wr.drew HR1.out HR2.out)
      have hA2 : (ad.add k).block < wr.drew.heap.size := hA'
      have hB2 : (bd.add k).block < wr.drew.heap.size := hB'
      have hd1 : wr.drew.cell? (ad.add k) = some (.slice a1 m c1) := hc1
      have hd2 : wr.drew.cell? (bd.add k) = some (.slice a2 m c2) := hc2
      have hsz : w.heap.size ≤ wr.drew.heap.size := hbl.out.size
      have g := g9
      clear g9 hc1 hc2 hA' hB' hbl HR1 HR2
      generalize wr.drew = z at *
      clear wr
      refine tq 0 ?_ rfl (by kernel_rfl) (fun _ _ _ h => h) (by rfl) g ?_ ?_; rotate_left
      · intro w9 h9; go_simp; try with_reducible rfl
      simp only [Act.put, ptA, ptB, ptC]
      refine tq 1 ?_ rfl (by kernel_rfl) (fun _ _ _ h => h) (by rfl) g ?_ ?_; rotate_left
      · intro w9 h9; go_simp; try with_reducible rfl
      simp only [Act.put, ptA, ptB, ptC]
      refine tq 2 ?_ rfl (by kernel_rfl) (fun _ _ _ h => h) (by rfl) g ?_ ?_; rotate_left
      · intro w9 h9; go_simp; try with_reducible rfl
      simp only [Act.put, ptA, ptB, ptC]
      refine tq 3 ?_ rfl (by kernel_rfl) (fun _ _ _ h => h) (by rfl) g ?_ ?_; rotate_left
      · intro w9 h9; obtain ⟨h91, h92⟩ := h9; go_simp; try with_reducible rfl
      simp only [Act.put, ptA, ptB, ptC]
      refine tq 4 ?_ rfl (by kernel_rfl) (fun _ _ _ h => h) (by rfl) g ?_ ?_; rotate_left
      · intro w9 h9; go_simp; try with_reducible rfl
      simp only [Act.put, ptA, ptB, ptC]
      refine tq 5 ?_ rfl (by kernel_rfl) (fun _ _ _ h => h) (by rfl) g ?_ ?_; rotate_left
      · intro w9 h9; go_simp; try with_reducible rfl
      simp only [Act.put, ptA, ptB, ptC]
      refine tq 6 ?_ rfl (by kernel_rfl) (fun _ _ _ h => h) (by rfl) g ?_ ?_; rotate_left
      · intro w9 h9; go_simp; try with_reducible rfl
      simp only [Act.put, ptA, ptB, ptC]
      refine tq 7 ?_ rfl (by kernel_rfl) (fun _ _ _ h => h) (by rfl) g ?_ ?_; rotate_left
      · intro w9 h9; obtain ⟨h91, h92⟩ := h9; go_simp; try with_reducible rfl
      simp only [Act.put, ptA, ptB, ptC]
      refine tc 8 rfl (by kernel_rfl) (fun K9 hK => ?_)
      go_simp
      with_reducible refine HSB.out.mono ?_
      rintro e z2 ⟨rfl, q⟩
      rw [decide_eq_true rfl]
      have HB3 : Hid (Below w.heap.size w z2) := Lib.hid (HBD.out.trans (q.mono hsz))
      have hd3 := (q.cell hA2).trans hd1
      have hd4 := (q.cell hB2).trans hd2
      clear q
      go_simp
      refine hK.out _ _ ⟨hd3, hd4⟩ (fun g1 => ?_)
      clear hK K9 g hd3 hd4 hd1 hd2
      have g := g1
      clear g1
      refine tq 9 ?_ rfl (by kernel_rfl) (fun _ _ _ h => h) (by rfl) g ?_ ?_; rotate_left
      · intro w9 h9; go_simp; try with_reducible rfl
      simp only [Act.put, ptA, ptB, ptC]
      refine wpAnyH_done (by kernel_rfl) ?_ _
      go_wp2
      go_roundw
      case rel => exact ⟨k + 1, by omega, by go_num, HB3⟩
      case measure => simp [intOf]; omega
    · have i1 : ¬ (k : Int) < (n : Int) := by omega
      go_wp2
      go_ret
      exact ⟨rfl, hbl.out⟩
/-! ### Written over -/
def dn (A : Ac) (r : Rl) : Ac := fun x => if x = r then none else A x
theorem dn_other {A : Ac} {r x : Rl} (h : x ≠ r) : dn A r x = A x := if_neg h
theorem Ro.Lay.lost {w0 w w' : World} {A : Ac} {r : Rl} {t : TypeId} {s n : Nat} {v : Value} {xs : List Value} (hl : Lay w0 A w) (hr : Row A r t s v n xs) (hg : w.grownBy w' v.ownBlock) : Lay w0 (dn A r) w' := by
  refine ⟨?_, fun x b o e => ?_, fun x y b o o' e f => ?_⟩
  · refine hl.below.grown hg hl.below.size (fun k hk => ?_)
    obtain ⟨p, hp⟩ := hr.block k hk
    exact (hl.own _ _ _ hp).1
  · unfold dn at e
    split at e
    · cases e
    · rename_i hx
      have h1 := hl.own x b o e
      refine ⟨h1.1, (hg.block b (lt_of_block h1.2) ?_).trans h1.2⟩
      intro hb
      obtain ⟨p, hp⟩ := hr.block b hb.symm
      exact hx (hl.inj _ _ _ _ _ e hp)
  · unfold dn at e f
    split at e
    · cases e
    · split at f
      · cases f
      · exact hl.inj _ _ _ _ _ e f
def Oth (w0 : World) (A : Ac) (w' : World) : Prop := ∃ A', Lay w0 A' w' ∧ ∀ x : Rl, x.1 ≠ 65 → x.1 ≠ 66 → A' x = A x
def KS (w0 : World) (A : Ac) (G : List (List Int)) (v : Value) (k : Nat) (z : World) : Prop :=
  ∃ A' vs, Lay w0 A' z ∧ (∀ x : Rl, x.1 ≠ 65 → x.1 ≠ 66 → A' x = A x) ∧ Row A' (65, 0) 22 1 v G.length vs ∧ vs.length = G.length ∧ ∀ j bs, k ≤ j → G[j]? = some bs → ∃ u, vs[j]? = some u ∧ Row A' (66, j) 5 1 u bs.length (bv bs)
set_option maxHeartbeats 1000000 in
theorem spoiltexts_c {w0 w : World} {A : Ac} {G : List (List Int)} {v : Value} (h : KQ w0 A G v w) (hn : G.length ≤ 1000) (hb : ∀ g ∈ G, g.length ≤ 1000) :
    Calls Try.prog 28 #[v] w fun e w' => e = .returned (.tuple #[]) ∧ Oth w0 A w' := by
  have H0 : Hid (KS w0 A G v 0 w) := Lib.hid (by
    obtain ⟨A', vs, h1, h2, h3, h4, h5⟩ := h
    exact ⟨A', vs, h1, h2, h3, h4, fun j bs _ hj => h5 j bs hj⟩)
  obtain ⟨av, cv, rfl, _⟩ : ∃ a c, v = .slice a G.length c ∧ True := by
    obtain ⟨A', vs, h1, h2, h3, h4, h5⟩ := h
    obtain ⟨a, c, e, _⟩ := h3.form2
    exact ⟨a, c, e, trivial⟩
  have HB := Lib.hid hb
  obtain ⟨n, hnn⟩ : ∃ n, G.length = n := ⟨_, rfl⟩
  have HN := Lib.hid hnn
  rw [hnn] at hn H0 ⊢
  clear h hb hnn
  go_enter Try.func28, Try.ntmps28
  go_wp2
  go_loopw [2] (fun i wr => ∃ k : Nat, k ≤ n ∧ i = .int .i64 k ∧ Hid (KS w0 A G (.slice av n cv) k wr)) (fun i _ => n - (intOf i).toNat)
  case atStart => exact ⟨0, Nat.zero_le _, rfl, H0⟩
  case round =>
    clear H0
    obtain ⟨k, hk, rfl, HK⟩ := hrel
    by_cases hlt : k < n
    · have hkG : G[k]? = some (G[k]'(by rw [HN.out]; exact hlt)) := List.getElem?_eq_getElem _
      have hgl := HB.out _ (List.getElem_mem (by rw [HN.out]; exact hlt))
      generalize G[k]'(by rw [HN.out]; exact hlt) = g at *
      obtain ⟨A', vs, h1, h2, h3, h4, h5⟩ := HK.out
      obtain ⟨u, e1, e2⟩ := h5 k g (Nat.le_refl _) hkG
      have i1 : (0 : Int) ≤ (k : Int) := by omega
      have i2 : (k : Int) < (n : Int) := by omega
      obtain ⟨ad, rfl, _, hc⟩ := (((show Row A' (65, 0) 22 1 (.slice av n cv) n vs by rw [HN.out] at h3; exact h3).reads (w0 := w0)).rd h1) (by rw [h4, HN.out]; omega)
      have c0 := hc k u e1
      have SP := Lib.hid (spoilb_any w0.heap.size u g.length (bv g) (by omega) wr (e2.own h1))
      obtain ⟨au, cu, rfl, _⟩ := e2.form2
      have HK2 : Hid (∀ w', wr.grownBy w' (Value.slice au g.length cu).ownBlock → KS w0 A G (.slice (some ad) n cv) (k + 1) w') := Lib.hid (fun w' hg => by
        refine ⟨_, vs, h1.lost e2 hg, fun x hx hx2 => (dn_other (fun e => hx2 (by rw [e]))).trans (h2 x hx hx2), h3.keep (dn_other (by simp)), h4, fun j bs hj hjG => ?_⟩
        obtain ⟨u', e3, e4⟩ := h5 j bs (by omega) hjG
        exact ⟨u', e3, e4.keep (dn_other (by simp; omega))⟩)
      clear HK h1 h2 h3 h4 h5 e1 e2 hc hkG
      generalize g.length = gl at *
      go_wp2_with fail
      refine SP.out.mono ?_
      rintro e w2 ⟨rfl, q⟩
      have HK3 := Lib.hid (HK2.out w2 q)
      clear q HK2
      go_wp2
      go_roundw
      case rel => exact ⟨k + 1, by omega, by go_num, HK3⟩
      case measure => simp [intOf]; omega
    · have i1 : ¬ (k : Int) < (n : Int) := by omega
      have HE : Hid (Oth w0 A wr) := Lib.hid (by
        obtain ⟨A', vs, h1, h2, _⟩ := HK.out
        exact ⟨A', h1, h2⟩)
      clear HK
      go_wp2
      go_end0
      exact ⟨rfl, HE.out⟩
end Go.Proofs.Ytkaapphlnolelaa
