/-
  Layer 10's document: Keys, Len: contracts. Conditions: 1000 places at most.
-/
import Derived.Test.YtkaapphlnolelaaHashRef5
namespace Go.Proofs.Ytkaapphlnolelaa
open Go.RowKit Ow Ro K2 Hm
set_option linter.unusedVariables false
set_option linter.unusedSimpArgs false
def keysT (T : List Pl) : List (List Int) := (T.filter fun t => t.is == 1).map (·.bs)
theorem keysT_succ (T : List Pl) (i : Nat) (t : Pl) (h : T[i]? = some t) : keysT (T.take (i + 1)) = keysT (T.take i) ++ (if t.is = 1 then [t.bs] else []) := by
  unfold keysT
  rw [List.take_add_one, h, Option.toList_some, List.filter_append, List.map_append]
  by_cases c : t.is = 1
  · rw [if_pos c, List.filter_cons_of_pos (by simp [c])]; rfl
  · rw [if_neg c, List.filter_cons_of_neg (by simp [c])]; rfl
theorem keysT_le (T : List Pl) : (keysT T).length ≤ T.length := by unfold keysT; rw [List.length_map]; exact List.length_filter_le _ _
/-- The keys told so far, G: the list's row, and each key's. -/
def KI (w0 : World) (A : Ac) (G : List (List Int)) (v : Value) (z : World) : Prop :=
  ∃ A' vs, Lay w0 A' z ∧ (∀ x : Rl, x.1 ≠ 63 → x.1 ≠ 64 → A' x = A x) ∧ Row A' (63, 0) 22 1 v G.length vs ∧ vs.length = G.length ∧ ∀ j bs, G[j]? = some bs → ∃ u, vs[j]? = some u ∧ Row A' (64, j) 5 1 u bs.length (bv bs)
/-- .. and one more key, which is not in the list yet. -/
def KI1 (w0 : World) (A : Ac) (G : List (List Int)) (v u : Value) (bs : List Int) (z : World) : Prop :=
  ∃ A' vs, Lay w0 A' z ∧ (∀ x : Rl, x.1 ≠ 63 → x.1 ≠ 64 → A' x = A x) ∧ Row A' (63, 0) 22 1 v G.length vs ∧ vs.length = G.length ∧ (∀ j bs, G[j]? = some bs → ∃ u, vs[j]? = some u ∧ Row A' (64, j) 5 1 u bs.length (bv bs)) ∧ Row A' (64, G.length) 5 1 u bs.length (bv bs)
theorem own_uniq {w : World} {base s n : Nat} {t : TypeId} {v : Value} {xs ys : List Value} (h : w.ownsRow base t s v n xs) (k : w.ownsRow base t s v n ys) : xs = ys := by
  rcases h.2 with ⟨e1, e2⟩ | ⟨g, cap, cur, e, hb, hg, h1, h2, h3, h4⟩
  · rcases k.2 with ⟨_, e4⟩ | ⟨g, cap, cur, e, _⟩
    · have a1 := h.1
      have a2 := k.1
      rw [e2, Nat.zero_mul] at a1 a2
      rw [List.eq_nil_of_length_eq_zero (l := xs) (by omega), List.eq_nil_of_length_eq_zero (l := ys) (by omega)]
    · rw [e1] at e; cases e
  · rcases k.2 with ⟨e5, _⟩ | ⟨g', cap', cur', e', hb', hg', h1', h2', h3', h4'⟩
    · rw [e] at e5; cases e5
    · rw [e] at e'
      simp only [Value.slice.injEq, Option.some.injEq, Addr.mk.injEq, and_true, true_and] at e'
      obtain ⟨rfl, rfl⟩ := e'
      rw [hg] at hg'
      simp only [Option.some.injEq, Obj.cells.injEq] at hg'
      obtain ⟨rfl, _⟩ := hg'
      rw [← h4, ← h4']
section
variable {w0 z z' : World} {A : Ac} {G : List (List Int)} {v u : Value} {bs : List Int} {X : Nat} {K M : Int} {T : List Pl}
theorem KI.hs (h : KI w0 A G v z) (hs : HS A X K M T) : ∃ A', Lay w0 A' z ∧ HS A' X K M T := by
  obtain ⟨A', vs, h1, h2, _⟩ := h
  exact ⟨A', h1, hs.keep (fun x hx hx2 => h2 x (by omega) (by omega))⟩
theorem KI.copied (h : KI w0 A G v z) (q : OwnB z u z' bs) : KI1 w0 A G v u bs z' := by
  obtain ⟨A', vs, h1, h2, h3, h4, h5⟩ := h
  obtain ⟨A2, l2, r2, f2⟩ := h1.newRow (64, G.length) q.below q.own (Nat.le_refl _)
  refine ⟨A2, vs, l2, fun x hx hx2 => (f2 x (fun e => hx2 (by rw [e]))).trans (h2 x hx hx2), h3.keep (f2 _ (by simp)), h4, fun j b hj => ?_, r2⟩
  obtain ⟨u', e1, e2⟩ := h5 j b hj
  have := (List.getElem?_eq_some_iff.1 hj).1
  exact ⟨u', e1, e2.keep (f2 _ (by simp; omega))⟩
theorem KI1.grow (h : KI1 w0 A G v u bs z) (hb : Below z.heap.size z z') : KI1 w0 A G v u bs z' := by
  obtain ⟨A', vs, h1, h2⟩ := h
  exact ⟨A', vs, h1.grow hb, h2⟩
theorem KI1.own (h : KI1 w0 A G v u bs z) : ∃ vs, vs.length = G.length ∧ z.ownsRow w0.heap.size 22 1 v G.length vs ∧ w0.heap.size ≤ z.heap.size := by
  obtain ⟨A', vs, h1, h2, h3, h4, h5⟩ := h
  exact ⟨vs, h4, h3.own h1, h1.below.size⟩
theorem KI1.app {v' : Value} {vs : List Value} (h : KI1 w0 A G v u bs z) (hvs : z.ownsRow w0.heap.size 22 1 v G.length vs) (ho : z'.ownsRow w0.heap.size 22 1 v' (G.length + 1) (vs ++ [u])) (hg : z.grownBy z' v.ownBlock) (hat : v'.ownBlock = v.ownBlock ∨ ∃ g, v'.ownBlock = some g ∧ z.heap.size ≤ g) :
    KI w0 A (G ++ [bs]) v' z' := by
  obtain ⟨A', vs', h1, h2, h3, h4, h5, h6⟩ := h
  have hv : vs' = vs := own_uniq (h3.own h1) hvs
  subst hv
  obtain ⟨A2, l2, r2, f2⟩ := h1.took h3 hg ho hat
  refine ⟨A2, vs' ++ [u], l2, fun x hx hx2 => (f2 x (fun e => hx (by rw [e]))).trans (h2 x hx hx2), ?_, by simp [h4], fun j b hj => ?_⟩
  · rw [List.length_append]; exact r2
  · by_cases e : j < G.length
    · rw [List.getElem?_append_left e] at hj
      obtain ⟨u', e1, e2⟩ := h5 j b hj
      exact ⟨u', by rw [List.getElem?_append_left (by omega)]; exact e1, e2.keep (f2 _ (by simp))⟩
    · rw [List.getElem?_append_right (by omega)] at hj
      have hj0 : j = G.length := by
        have := (List.getElem?_eq_some_iff.1 hj).1
        simp at this
        omega
      subst hj0
      simp at hj
      subst hj
      exact ⟨u, by rw [List.getElem?_append_right (by omega), h4]; simp, h6.keep (f2 _ (by simp))⟩
end
def KeysP (w0 : World) (A : Ac) (G : List (List Int)) (e : Ending) (w' : World) : Prop := ∃ v, e = .returned v ∧ KI w0 A G v w'
theorem txt_info : (Try.prog.info? 22).map (fun i => (i.zero, i.size, i.bytes)) = some (some (.slice none 0 0), 1, 24) := by kernel_rfl
set_option maxHeartbeats 2000000 in
theorem rkeys_c {w0 w : World} {A : Ac} {X : Nat} {K M : Int} {T : List Pl} (hl : Lay w0 A w) (h : HS A X K M T) (hn : T.length ≤ 1000) (hb : ∀ t ∈ T, t.bs.length ≤ 1000) :
    Calls Try.prog 27 #[.pointer (some ⟨X, 0, none⟩)] w (KeysP w0 A (keysT T)) := by
  obtain ⟨i0, hi0, hz0, hz1, hz2⟩ := info10 txt_info
  have H0 : Hid (KI w0 A (keysT (T.take 0)) (.slice none 0 0) w) := Lib.hid ⟨A, [], hl, fun _ _ _ => rfl, Row.nil _ _ _ _, rfl, fun j bs hj => by simp [keysT] at hj⟩
  have HH := Lib.hid h
  have HB := Lib.hid hb
  obtain ⟨n, hT⟩ : ∃ n, T.length = n := ⟨_, rfl⟩
  have HT := Lib.hid hT
  rw [hT] at hn
  clear hl h hb hT
  go_enter Try.func27, Try.ntmps27
  go_wp2
  go_loopw [3, 4] (fun v i wr => ∃ j : Nat, j ≤ n ∧ i = .int .i64 (j : Nat) ∧ Hid (KI w0 A (keysT (T.take j)) v wr)) (fun _ i _ => n - (intOf i).toNat)
  case atStart => exact ⟨0, Nat.zero_le _, rfl, H0⟩
  case round =>
    obtain ⟨j, hj, rfl, HK⟩ := hrel
    clear H0
    obtain ⟨A', hl, hs⟩ := HK.out.hs HH.out
    by_cases hlt : j < n
    · have i1 : (j : Int) < (n : Int) := by omega
      have i2 : (0 : Int) ≤ (j : Int) := by omega
      have htj : T[j]? = some (T[j]'(by rw [HT.out]; exact hlt)) := List.getElem?_eq_getElem _
      have hbl := HB.out _ (List.getElem_mem (by rw [HT.out]; exact hlt))
      generalize T[j]'(by rw [HT.out]; exact hlt) = t at *
      obtain ⟨ad, cp, ak, ckk, d1, d2, c0, c1, c2, c3, c4, c5, c6, c7, c8⟩ := hs.look hl htj
      rw [HT.out] at c0
      have HS1 := Lib.hid (keysT_succ T j t htj)
      have HR := Lib.hid c8
      have hkl : (keysT (T.take j)).length ≤ n := by have := keysT_le (T.take j); rw [List.length_take, HT.out] at this; omega
      clear hl hs htj c8 d1 d2 c1 c2 c5
      by_cases h1 : t.is = 1
      · have i3 : ((t.is : Int) == 1) = true := by simp [h1]
        rw [if_pos h1] at HS1
        generalize t.is = ti at *
        generalize t.bs = bs at *
        obtain ⟨G, hG⟩ : ∃ G, keysT (T.take j) = G := ⟨_, rfl⟩
        rw [hG] at HK HS1 hkl
        clear hG
        go_wp2_with fail
        with_reducible refine (copyb_any ak bs.length ckk bs rfl (by omega) _ HR.out).mono ?_
        rintro e z1 ⟨u, rfl, q⟩
        have HK1 := Lib.hid (HK.out.copied q)
        obtain ⟨au, cu, rfl, _, _, _⟩ := own_form q.own
        clear q HK HR
        have HK2 := Lib.hid (HK1.out.grow ((Below.refl _ _).alloc (Nat.le_refl _) (.cells #[.slice au bs.length cu] 22)))
        obtain ⟨vs, hvl, hown, hbase⟩ := HK2.out.own
        have HOWN := Lib.hid hown
        clear hown HK1
        obtain ⟨m, hm⟩ : ∃ m, bs.length = m := ⟨_, rfl⟩
        rw [hm] at HK2 HOWN hbase hbl c6 ⊢
        go_wp2_with (at_builtin; refine wpList_append_own_at _ rfl (.tmp 23) (.tmp 33) _ rfl w0.heap.size 22 i0 _ 1 24 Try.underlying42 hi0 hz0 hz1 hz2 rfl (by decide) _ _ _ rfl HOWN.out ⟨z1.heap.size, 0, none⟩ 1 1 [.slice au m cu] rfl rfl (cell_one_new _ _ _) ?a2 ?a3 ?a4 ?a5 ?_)
        case a2 => intro u hu; simp at hu; subst hu; rfl
        case a3 => unfold maxLen; omega
        case a4 => omega
        case a5 => exact hbase
        intro v1 w10 hown1 hg1 _ hat1
        have HKN : Hid (KI w0 A (keysT (T.take (j + 1))) v1 w10) := Lib.hid (by
          rw [HS1.out]
          exact HK2.out.app HOWN.out hown1 hg1 (hat1.imp id (fun e => ⟨_, e, by simp⟩)))
        clear hown1 hg1 hat1 HK2 HOWN hbase
        go_wp2
        go_roundw
        case rel => exact ⟨j + 1, by omega, by go_num, HKN⟩
        case measure => simp [intOf]; omega
      · have i3 : ((t.is : Int) == 1) = false := by rw [beq_eq_false_iff_ne]; omega
        rw [if_neg h1, List.append_nil] at HS1
        have HKN : Hid (KI w0 A (keysT (T.take (j + 1))) u3 wr) := Lib.hid (by rw [HS1.out]; exact HK.out)
        generalize t.is = ti at *
        clear HK HR HS1
        go_wp2
        go_roundw
        case rel => exact ⟨j + 1, by omega, by go_num, HKN⟩
        case measure => simp [intOf]; omega
    · have hjn : j = n := by omega
      obtain ⟨av, cv, d1, d2, e0, _, _⟩ := hs.head hl
      rw [HT.out] at e0
      have i1 : ¬ (j : Int) < (n : Int) := by omega
      have HKN : Hid (KI w0 A (keysT T) u3 wr) := Lib.hid (by
        have := HK.out
        rwa [List.take_of_length_le (by rw [HT.out]; omega)] at this)
      clear hl hs HK d1 d2
      go_wp2
      go_ret
      exact ⟨_, rfl, HKN.out⟩
def LenP (w0 : World) (A : Ac) (k : Nat) (e : Ending) (w' : World) : Prop := e = .returned (.int .i64 (k : Nat)) ∧ ∃ A', Lay w0 A' w' ∧ ∀ x : Rl, x.1 ≠ 63 → x.1 ≠ 64 → A' x = A x
theorem rlen10_c {w0 w : World} {A : Ac} {X : Nat} {K M : Int} {T : List Pl} (hl : Lay w0 A w) (h : HS A X K M T) (hn : T.length ≤ 1000) (hb : ∀ t ∈ T, t.bs.length ≤ 1000) :
    Calls Try.prog 25 #[.pointer (some ⟨X, 0, none⟩)] w (LenP w0 A (keysT T).length) := by
  have KC := Lib.hid (rkeys_c hl h hn hb)
  clear hl h
  go_enter Try.func25, Try.ntmps25
  go_wp2_with fail
  with_reducible refine KC.out.mono ?_
  rintro e w1 ⟨v, rfl, A', vs, h1, h2, h3, _⟩
  obtain ⟨a, c, rfl, _, _, _⟩ := h3.form2
  have HF : Hid (∃ A', Lay w0 A' w1 ∧ ∀ x : Rl, x.1 ≠ 63 → x.1 ≠ 64 → A' x = A x) := Lib.hid ⟨A', h1, h2⟩
  clear h1 h2 h3
  go_wp2
  go_ret
  exact ⟨rfl, HF.out⟩
end Go.Proofs.Ytkaapphlnolelaa
