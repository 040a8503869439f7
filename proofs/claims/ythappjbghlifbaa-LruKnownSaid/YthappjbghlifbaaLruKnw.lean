/-
  Layer 11: the chapter's map (known): contract. No conditions.
-/
import Derived.Test.YthappjbghlifbaaLruP6
namespace Go.Proofs.Ythappjbghlifbaa
set_option maxRecDepth 100000
open Go.RowKit Ow Ro K2
set_option linter.unusedVariables false
set_option linter.unusedSimpArgs false
theorem KDp.of {w0 : World} {A : Ac} {r : Rl} {k : Nat} {ax : Option Addr} {ks : List Int} (h : Reads w0 A r ax (bv ks)) (h1 : r.1 ≠ 71) (h2 : r.1 ≠ 72) (h3 : r.1 ≠ 73) (h4 : r.1 ≠ 74) : KDp k w0 A ax ks := fun A' z hl hf =>
  (h.keep (hf r h1 h2 (fun e => h3 (by rw [e])) (fun e => h4 (by rw [e])))).rd hl
theorem KZ.txt {w0 z : World} {A : Ac} {G : List (List Int)} {ad : Addr} (h : KZ w0 A G ad G.length z) : Txt z z.heap.size (some ad) G := by
  obtain ⟨A', vs, h1, h2, h3, h4, h5⟩ := h
  refine ⟨vs, (h3.reads (w0 := w0)).rd h1, h4, fun j bs hj => ?_⟩
  obtain ⟨u, e1, e2⟩ := h5 j bs (List.getElem?_eq_some_iff.1 hj).1 hj
  obtain ⟨a2, c2, rfl, _⟩ := e2.form
  exact ⟨a2, c2, e1, (e2.reads (w0 := w0)).rd h1⟩
def K1 (A : Ac) (i g : Nat) (b : Int) : Prop := Row A (80, i) 5 1 (.slice (some ⟨g, 0, none⟩) 1 1) 1 (bv [b])
structure K3 (A : Ac) (ga gb gc : Nat) : Prop where
  a : K1 A 0 ga 97
  b : K1 A 1 gb 98
  c : K1 A 2 gc 99
theorem K3.keep {A A' : Ac} {ga gb gc : Nat} (h : K3 A ga gb gc) (hf : ∀ i, A' (80, i) = A (80, i)) : K3 A' ga gb gc := ⟨Row.keep h.a (hf 0), Row.keep h.b (hf 1), Row.keep h.c (hf 2)⟩
theorem fg_80 {A A' : Ac} {k : Nat} (h : Fg k A A') (i : Nat) : A' (80, i) = A (80, i) := h _ (by simp) (by simp) (by simp) (by simp)
theorem fp_80 {A A' : Ac} {k : Nat} (h : Fp k A A') (i : Nat) : A' (80, i) = A (80, i) := fg_80 h.fg i
theorem lit_new {w0 w : World} {A : Ac} (hl : Lay w0 A w) (i : Nat) (b : Int) : ∃ A', Lay w0 A' (w.alloc (.cells #[.int .u8 b] 5)) ∧ K1 A' i w.heap.size b ∧ ∀ x, x ≠ (80, i) → A' x = A x :=
  ⟨_, hl.new (80, i) ((Below.refl _ _).alloc (Nat.le_refl _) _) (Nat.le_refl _) (Bk.new w 5 #[.int .u8 b]), ⟨rfl, .inr ⟨w.heap.size, 1, _, rfl, up_same _ _ _ _, Nat.le_refl _, by unfold maxLen; omega, rfl, rfl⟩⟩, fun x hx => up_other _ _ _ hx⟩
/-- The map, the three keys. -/
def KW (w : World) (X : Nat) (o : KO) (ga gb gc : Nat) (z : World) : Prop := ∃ A, Lay w A z ∧ PL 0 A X 1 2 o ∧ K3 A ga gb gc
/-- .. and who went. -/
def KWG (w : World) (X : Nat) (o : KO) (ga gb gc : Nat) (v : Value) (xs : List Int) (z : World) : Prop := ∃ A, Lay w A z ∧ PL 0 A X 1 2 o ∧ K3 A ga gb gc ∧ Gone A v xs
section
variable {w z : World} {X ga gb gc : Nat} {o : KO}
theorem KWG.kw {v : Value} {xs : List Int} (h : KWG w X o ga gb gc v xs z) : KW w X o ga gb gc z := by
  obtain ⟨A, h1, h2, h3, _⟩ := h
  exact ⟨A, h1, h2, h3⟩
theorem kput {A : Ac} (l : Lay w A z) (p : PL 0 A X 1 2 o) (k3 : K3 A ga gb gc) (i g : Nat) (b : Int) (hb : 0 ≤ b ∧ b ≤ 255) (k1 : K1 A i g b) (c : Int) :
    Calls Try.prog 17 #[.pointer (some ⟨X, 0, none⟩), .slice (some ⟨g, 0, none⟩) 1 1, .int .i64 c] z fun e z' => ∃ v, e = putV v (aput 1 2 o [b] c).1.2 (aput 1 2 o [b] c).2.1 ∧ KWG w X (aput 1 2 o [b] c).2.2 ga gb gc v (aput 1 2 o [b] c).1.1 z' := by
  refine (pput_c l p (some ⟨g, 0, none⟩) 1 1 [b] rfl (fun x hx => by rw [List.mem_singleton] at hx; rw [hx]; exact hb) (KDp.of (Row.reads k1) (by simp) (by simp) (by simp) (by simp)) c).mono fun e z' q => ?_
  obtain ⟨v, A', he, l2, p2, g2, f2⟩ := q
  exact ⟨v, he, A', l2, p2, k3.keep (fg_80 f2), g2⟩
theorem KW.puta (h : KW w X o ga gb gc z) (c : Int) :
    Calls Try.prog 17 #[.pointer (some ⟨X, 0, none⟩), .slice (some ⟨ga, 0, none⟩) 1 1, .int .i64 c] z fun e z' => ∃ v, e = putV v (aput 1 2 o [97] c).1.2 (aput 1 2 o [97] c).2.1 ∧ KWG w X (aput 1 2 o [97] c).2.2 ga gb gc v (aput 1 2 o [97] c).1.1 z' := by
  obtain ⟨A, l, p, k⟩ := h
  exact kput l p k 0 ga 97 (by omega) k.a c
theorem KW.putb (h : KW w X o ga gb gc z) (c : Int) :
    Calls Try.prog 17 #[.pointer (some ⟨X, 0, none⟩), .slice (some ⟨gb, 0, none⟩) 1 1, .int .i64 c] z fun e z' => ∃ v, e = putV v (aput 1 2 o [98] c).1.2 (aput 1 2 o [98] c).2.1 ∧ KWG w X (aput 1 2 o [98] c).2.2 ga gb gc v (aput 1 2 o [98] c).1.1 z' := by
  obtain ⟨A, l, p, k⟩ := h
  exact kput l p k 1 gb 98 (by omega) k.b c
theorem KW.putc (h : KW w X o ga gb gc z) (c : Int) :
    Calls Try.prog 17 #[.pointer (some ⟨X, 0, none⟩), .slice (some ⟨gc, 0, none⟩) 1 1, .int .i64 c] z fun e z' => ∃ v, e = putV v (aput 1 2 o [99] c).1.2 (aput 1 2 o [99] c).2.1 ∧ KWG w X (aput 1 2 o [99] c).2.2 ga gb gc v (aput 1 2 o [99] c).1.1 z' := by
  obtain ⟨A, l, p, k⟩ := h
  exact kput l p k 2 gc 99 (by omega) k.c c
theorem KW.finda (h : KW w X o ga gb gc z) :
    Calls Try.prog 18 #[.pointer (some ⟨X, 0, none⟩), .slice (some ⟨ga, 0, none⟩) 1 1] z fun e z' => e = .returned (agetV (aget o [97])) ∧ KW w X (afind o [97]) ga gb gc z' := by
  obtain ⟨A, l, p, k⟩ := h
  refine (pfind_c l p (some ⟨ga, 0, none⟩) 1 1 [97] rfl (by simp) ((Row.reads k.a).rd l)).mono fun e z' q => ?_
  obtain ⟨he, A', l2, p2, f2⟩ := q
  exact ⟨he, A', l2, p2, k.keep (fp_80 f2)⟩
def kO3 : KO := [([99], 3), ([97], 1)]
theorem kn1 : aput 1 2 [] [97] 1 = (([], 0), 0, [([97], 1)]) := by kernel_rfl
theorem kn2 : aput 1 2 [([97], 1)] [98] 2 = (([], 0), 0, [([98], 2), ([97], 1)]) := by kernel_rfl
theorem kn3 : aget [([98], 2), ([97], 1)] [97] = some 1 := by kernel_rfl
theorem kn4 : afind [([98], 2), ([97], 1)] [97] = [([97], 1), ([98], 2)] := by kernel_rfl
theorem kn5 : aput 1 2 [([97], 1), ([98], 2)] [99] 3 = (([98], 2), 0, kO3) := by kernel_rfl
/-- What SameBytes of who went says; the keys behind. -/
theorem KWG.same {a : Option Addr} {c : Nat} (h : KWG w X o ga gb gc (.slice a 1 c) [98] z) :
    Calls Try.prog 25 #[.slice a 1 c, .slice (some ⟨gb, 0, none⟩) 1 1] z fun e z' => e = .returned (.bool true) ∧ KW w X o ga gb gc z' := by
  obtain ⟨A, l, p, k, g⟩ := h
  have hr : Rd z z.heap.size a (bv [98]) := by
    rcases g with ⟨e, _⟩ | g
    · cases e
    · exact (g.reads (w0 := w)).rd l
  have h := samebytes_any a (some ⟨gb, 0, none⟩) 1 1 c 1 [98] [98] rfl rfl (by omega) (by omega) z hr ((Row.reads k.b).rd l)
  refine h.mono fun e z' q => ⟨?_, A, l.grow q.2, p, k⟩
  rw [q.1]
  rfl
theorem KW.keys (h : KW w X o ga gb gc z) :
    Calls Try.prog 13 #[.pointer (some ⟨X, 0, none⟩)] z fun e z' => ∃ ad, e = .returned (.slice (some ad) (o.map (·.1)).length (o.map (·.1)).length) ∧ ∃ A, KZ w A (o.map (·.1)) ad (o.map (·.1)).length z' ∧ K3 A ga gb gc := by
  obtain ⟨A, l, p, k⟩ := h
  refine (pkeys_c l p).mono fun e z' q => ?_
  obtain ⟨ad, he, hk⟩ := q
  exact ⟨ad, he, A, hk, k⟩
theorem keys_lit {A : Ac} {ad : Addr} (h : KZ w A [[99], [97]] ad 2 z) (k : K3 A ga gb gc) :
    Calls Try.prog 14 #[.slice (some ad) 2 2, .slice (some ⟨z.heap.size, 0, none⟩) 2 2] (z.alloc (.cells #[.slice (some ⟨gc, 0, none⟩) 1 1, .slice (some ⟨ga, 0, none⟩) 1 1] 27)) fun e z' => e = .returned (.bool true) ∧ Below w.heap.size w z' := by
  have ht := KZ.txt (G := [[99], [97]]) h
  obtain ⟨A', vs, h1, h2, h3, h4, h5⟩ := h
  have k' : K3 A' ga gb gc := k.keep (fun i => h2 _ (by simp) (by simp) (by simp))
  have hb : Below z.heap.size z (z.alloc (.cells #[.slice (some ⟨gc, 0, none⟩) 1 1, .slice (some ⟨ga, 0, none⟩) 1 1] 27)) := (Below.refl _ _).alloc (Nat.le_refl _) _
  have ra := (((Row.reads k'.a).rd h1).below hb).mono hb.size
  have rc := (((Row.reads k'.c).rd h1).below hb).mono hb.size
  have hbk := Bk.new z 27 #[.slice (some ⟨gc, 0, none⟩) 1 1, .slice (some ⟨ga, 0, none⟩) 1 1]
  refine (sametexts_any (some ad) (some ⟨z.heap.size, 0, none⟩) 2 2 2 [[99], [97]] rfl (by omega) (by simp) _ ((ht.below hb).mono hb.size) ⟨[.slice (some ⟨gc, 0, none⟩) 1 1, .slice (some ⟨ga, 0, none⟩) 1 1], fun _ => ⟨_, rfl, by simp, fun j u hu => ?_⟩, rfl, fun j bs hj => ?_⟩).mono fun e z' q => ⟨q.1, (h1.below.trans (hb.mono h1.below.size)).trans (q.2.mono (by have := h1.below.size; have := hb.size; omega))⟩
  · rw [add_zero_at, hbk.cell j, ← hu]
    simp
  · match j, hj with
    | 0, hj => simp at hj; subst hj; exact ⟨_, 1, rfl, rc⟩
    | 1, hj => simp at hj; subst hj; exact ⟨_, 1, rfl, ra⟩
end
set_option maxHeartbeats 4000000 in
theorem known_c (w : World) : Calls Try.prog 9 #[] w fun e w' => e = .returned (.bool true) ∧ Below w.heap.size w w' := by
  go_enter Try.func9, Try.ntmps9
  go_wp2_with fail
  refine (pnew_c 0 (Lay.start w) 1 2).mono ?_
  rintro e w1 ⟨X, rfl, q⟩
  rw [show max 1 (min 1 (16 : Int)) = 1 by decide, show max 1 (min 2 (64 : Int)) = 2 by decide] at q
  have Q := Lib.hid q
  clear q
  have H1 : Hid (KW w X [] w1.heap.size (w1.heap.size + 1) (w1.heap.size + 2) (((w1.alloc (.cells #[.int .u8 97] 5)).alloc (.cells #[.int .u8 98] 5)).alloc (.cells #[.int .u8 99] 5))) := Lib.hid (by
    obtain ⟨A0, l0, p0, f0⟩ := Q.out
    obtain ⟨A1, l1, k1, f1⟩ := lit_new l0 0 97
    obtain ⟨A2, l2, k2, f2⟩ := lit_new l1 1 98
    obtain ⟨A3, l3, k3, f3⟩ := lit_new l2 2 99
    rw [World.size_alloc] at k2
    rw [World.size_alloc, World.size_alloc] at k3
    exact ⟨A3, l3, ((p0.keep (f1 _ (by simp)) (f1 _ (by simp))).keep (f2 _ (by simp)) (f2 _ (by simp))).keep (f3 _ (by simp)) (f3 _ (by simp)), (Row.keep (Row.keep k1 (f2 _ (by simp))) (f3 _ (by simp))), Row.keep k2 (f3 _ (by simp)), k3⟩)
  clear Q
  go_wp2_with fail
  generalize w1.heap.size = g at *
  generalize (((w1.alloc (.cells #[.int .u8 97] 5)).alloc (.cells #[.int .u8 98] 5)).alloc (.cells #[.int .u8 99] 5)) = z1 at *
  with_reducible refine (H1.out.puta 1).mono ?_
  rintro e z2 ⟨v, rfl, q⟩
  rw [kn1] at q ⊢
  dsimp only at q ⊢
  obtain ⟨A, l, p, k, gn⟩ := q
  obtain ⟨a1, c1, rfl⟩ := gn.form
  have H2 : Hid (KW w X [([97], 1)] g (g + 1) (g + 2) z2) := Lib.hid ⟨A, l, p, k⟩
  clear l p k gn H1
  unfold putV
  go_wp2_with fail
  with_reducible refine (H2.out.putb 2).mono ?_
  rintro e z3 ⟨v, rfl, q⟩
  rw [kn2] at q ⊢
  dsimp only at q ⊢
  obtain ⟨A, l, p, k, gn⟩ := q
  obtain ⟨a2, c2, rfl⟩ := gn.form
  have H3 : Hid (KW w X [([98], 2), ([97], 1)] g (g + 1) (g + 2) z3) := Lib.hid ⟨A, l, p, k⟩
  clear l p k gn H2
  unfold putV
  go_wp2_with fail
  with_reducible refine H3.out.finda.mono ?_
  rintro e z4 ⟨rfl, q⟩
  rw [kn4] at q
  rw [kn3]
  have H4 := Lib.hid q
  clear q H3
  unfold agetV
  go_wp2_with fail
  with_reducible refine (H4.out.putc 3).mono ?_
  rintro e z5 ⟨v, rfl, q⟩
  rw [kn5] at q ⊢
  dsimp only at q ⊢
  obtain ⟨A, l, p, k, gn⟩ := q
  obtain ⟨a3, c3, rfl⟩ := gn.form
  have H5 : Hid (KWG w X kO3 g (g + 1) (g + 2) (.slice a3 1 c3) [98] z5) := Lib.hid ⟨A, l, p, k, gn⟩
  clear l p k gn H4
  unfold putV
  dsimp only [List.length_cons, List.length_nil]
  go_wp2_with fail
  with_reducible refine H5.out.same.mono ?_
  rintro e z6 ⟨rfl, q⟩
  have H6 := Lib.hid q
  clear q H5
  go_wp2_with fail
  with_reducible refine H6.out.keys.mono ?_
  rintro e z7 ⟨ad, rfl, A, q, k3⟩
  have h7 : KZ w A [[99], [97]] ad 2 z7 := q
  have SL := Lib.hid (keys_lit h7 k3)
  clear q h7 k3 H6
  unfold kO3
  dsimp only [List.length_cons, List.length_nil, List.map_cons, List.map_nil]
  go_wp2_with fail
  refine SL.out.mono ?_
  rintro e z8 ⟨rfl, q⟩
  have H8 := Lib.hid q
  clear q SL
  go_wp2
  go_ret
  exact ⟨rfl, H8.out⟩
end Go.Proofs.Ythappjbghlifbaa
