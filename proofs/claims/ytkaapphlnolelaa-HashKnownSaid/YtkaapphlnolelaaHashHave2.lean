/-
  Layer 10: the statements' own list beside the program's table: a key more, a key less; the keys that are told. Conditions: none.
-/
import Derived.Test.YtkaapphlnolelaaHashHave
namespace Go.Proofs.Ytkaapphlnolelaa
set_option maxRecDepth 100000
open Go.RowKit Ow Ro K2 Hm
set_option linter.unusedVariables false
set_option linter.unusedSimpArgs false
def FV (v : Value) (l : List He) (t : Nat) (A : Ac) : Prop := HV A v l t
def FB (v : Value) (l : List He) (t B : Nat) (cs : Array Value) (A : Ac) : Prop := HV A v l t ∧ A (81, 0) = some (B, .cells cs 36)
def FK (v : Value) (l : List He) (t B : Nat) (cs : Array Value) (u : Value) (bs : List Int) (A : Ac) : Prop := FB v l t B cs A ∧ Row A (86, t) 5 1 u bs.length (bv bs)
theorem fv_fst (v : Value) (l : List He) (t : Nat) : Fst (FV v l t) := fun A A' h ha => HV.keep ha (fun x h1 h2 => h x (by omega))
theorem fb_fst (v : Value) (l : List He) (t B : Nat) (cs : Array Value) : Fst (FB v l t B cs) := fun A A' h ha => ⟨ha.1.keep (fun x h1 h2 => h x (by omega)), (h _ (by simp)).trans ha.2⟩
section
variable {w0 w w' : World} {P K : Nat} {M : Int} {T : List Pl} {F : Ac → Prop} {v v' u : Value} {l : List He} {t B : Nat} {cs : Array Value} {bs : List Int}
theorem ne_of {x : Rl} {a b : Nat} (h : x.1 ≠ a) : x ≠ (a, b) := fun e => h (by rw [e])
theorem fv_boxed (h : PS w0 P K M T (FV v l t) w) (cs : Array Value) : PS w0 P K M T (FB v l t w.heap.size cs) (w.alloc (.cells cs 36)) := by
  obtain ⟨A, h1, h2, h3⟩ := h
  exact ⟨_, h1.new (81, 0) ((Below.refl _ _).alloc (Nat.le_refl _) _) (Nat.le_refl _) (heap_alloc_new w _), h2.keep (fun x h8 h9 => up_other _ _ _ (ne_of (by omega))), HV.keep h3 (fun x h8 h9 => up_other _ _ _ (ne_of (by omega))), up_same _ _ _ _⟩
theorem fb_box (h : PS w0 P K M T (FB v l t B cs) w) (i : Nat) : w.cell? ⟨B, i, none⟩ = cs[i]? := by
  obtain ⟨A, h1, h2, h3, h4⟩ := h
  exact (h1.bk h4).cell i
theorem HV.later {A : Ac} (h : HV A v l t) : HV A v l (t + 1) := ⟨h.row, fun e he => by obtain ⟨a, b, c, d⟩ := h.keys e he; exact ⟨by omega, b, c, d⟩⟩
theorem fb_fv (h : PS w0 P K M T (FB v l t B cs) w) : PS w0 P K M T (FV v l (t + 1)) w := h.mono fun A ha => ha.1.later
theorem fb_copied (h : PS w0 P K M T (FB v l t B cs) w) (q : OwnB w u w' bs) : PS w0 P K M T (FK v l t B cs u bs) w' := by
  obtain ⟨A, h1, h2, h3, h4⟩ := h
  obtain ⟨A2, l2, r2, f2⟩ := h1.newRow (86, t) q.below q.own (Nat.le_refl _)
  refine ⟨A2, l2, h2.keep (fun x h8 h9 => f2 x (ne_of (by omega))), ⟨⟨h3.row.keep (f2 _ (by simp)), fun e he => ?_⟩, (f2 _ (by simp)).trans h4⟩, r2⟩
  obtain ⟨a, b, c, d⟩ := h3.keys e he
  exact ⟨a, b, c, d.keep (f2 _ (by simp; omega))⟩
theorem fk_own (h : PS w0 P K M T (FK v l t B cs u bs) w) : w.ownsRow w0.heap.size 51 2 v l.length (hflat l) ∧ w0.heap.size ≤ w.heap.size := by
  obtain ⟨A, h1, h2, ⟨h3, h4⟩, h5⟩ := h
  exact ⟨h3.row.own h1, h1.below.size⟩
theorem fk_app (h : PS w0 P K M T (FK v l t B cs u bs) w) (c : Int) (hb1 : bs.length ≤ 1000) (hb2 : ∀ b ∈ bs, 0 ≤ b ∧ b ≤ 255) (ho : w'.ownsRow w0.heap.size 51 2 v' (l.length + 1) (hflat l ++ [u, .int .i64 c])) (hg : w.grownBy w' v.ownBlock) (hat : v'.ownBlock = v.ownBlock ∨ ∃ g, v'.ownBlock = some g ∧ w.heap.size ≤ g) :
    PS w0 P K M T (FB v' (l ++ [⟨u, bs, c, t⟩]) (t + 1) B cs) w' := by
  obtain ⟨A, h1, h2, ⟨h3, h4⟩, h5⟩ := h
  obtain ⟨A2, l2, r2, f2⟩ := h1.took h3.row hg ho hat
  refine ⟨A2, l2, h2.keep (fun x h8 h9 => f2 x (ne_of (by omega))), ⟨?_, fun e he => ?_⟩, (f2 _ (by simp)).trans h4⟩
  · have e1 : hflat (l ++ [⟨u, bs, c, t⟩]) = hflat l ++ [u, .int .i64 c] := by rw [hflat_app]; rfl
    rw [e1, List.length_append]
    exact r2
  · rcases List.mem_append.1 he with h | h
    · obtain ⟨a, b, c, d⟩ := h3.keys e h
      exact ⟨by omega, b, c, d.keep (f2 _ (by simp))⟩
    · rw [List.mem_singleton] at h
      subst h
      exact ⟨Nat.lt_succ_self _, hb1, hb2, h5.keep (f2 _ (by simp))⟩
theorem perm_erase {α : Type} (l : List α) (p : Nat) (hp : p < l.length) : l.Perm (l[p] :: l.eraseIdx p) := by
  have e1 : l = l.take p ++ l[p] :: l.drop (p + 1) := by rw [← List.drop_eq_getElem_cons hp, List.take_append_drop]
  have h0 : (l.take p ++ l[p] :: l.drop (p + 1)).Perm (l[p] :: (l.take p ++ l.drop (p + 1))) := List.perm_middle
  rw [← e1] at h0
  rwa [List.eraseIdx_eq_take_drop_succ]
/-- A key less: the last one comes to its place. -/
def less (l : List He) (p : Nat) : List He := (l.set p (l.getD (l.length - 1) ⟨.slice none 0 0, [], 0, 0⟩)).take (l.length - 1)
theorem less_perm (l : List He) (p : Nat) (hp : p < l.length) : l.Perm (l[p] :: less l p) := by
  rcases l.eq_nil_or_concat with rfl | ⟨m, y, hl⟩
  · simp at hp
  · rw [List.concat_eq_append] at hl
    subst hl
    unfold less
    have e1 : (m ++ [y]).length - 1 = m.length := by simp
    have e2 : (m ++ [y]).getD m.length ⟨.slice none 0 0, [], 0, 0⟩ = y := by rw [List.getD_eq_getElem?_getD, List.getElem?_append_right (Nat.le_refl _), Nat.sub_self]; rfl
    rw [e1, e2]
    have hpm : p < m.length ∨ p = m.length := by rw [List.length_append, List.length_singleton] at hp; omega
    rcases hpm with h | rfl
    · rw [List.set_append_left _ _ h, List.take_append_of_le_length (by rw [List.length_set]; exact Nat.le_refl _), List.take_of_length_le (by rw [List.length_set]; exact Nat.le_refl _), List.getElem_append_left h]
      have p1 := perm_erase m p h
      have p2 := perm_erase (m.set p y) p (by rw [List.length_set]; exact h)
      rw [List.getElem_set_self, List.eraseIdx_set_eq] at p2
      have p3 : (m ++ [y]).Perm (y :: m) := List.perm_append_comm
      exact (p3.trans (p1.cons y)).trans ((List.Perm.swap _ _ _).trans (p2.symm.cons _))
    · rw [List.set_append_right _ _ (Nat.le_refl _), Nat.sub_self, List.take_append_of_le_length (Nat.le_refl _), List.take_of_length_le (Nat.le_refl _), List.getElem_append_right (Nat.le_refl _)]
      simp only [Nat.sub_self, List.getElem_cons_zero]
      exact List.perm_append_comm
theorem less_len (l : List He) (p : Nat) (hp : p < l.length) : (less l p).length = l.length - 1 := by unfold less; rw [List.length_take, List.length_set]; omega
theorem Row.cut {A : Ac} {r : Rl} {ty : TypeId} {a : Option Addr} {n m cap : Nat} {xs : List Value} {s : Nat} (h : Row A r ty s (.slice a n cap) n xs) (hm : m ≤ n) (hn : 0 < n) : Row A r ty s (.slice a m cap) m (xs.take (m * s)) := by
  have hms : m * s ≤ n * s := Nat.mul_le_mul_right s hm
  refine ⟨by rw [List.length_take, h.1]; omega, ?_⟩
  rcases h.2 with ⟨_, h0⟩ | ⟨g, cap', cur, e, hA, h1, h2, h3, h4⟩
  · omega
  · simp only [Value.slice.injEq] at e
    obtain ⟨rfl, _, rfl⟩ := e
    exact .inr ⟨g, cap, cur, rfl, hA, by omega, h2, h3, by rw [← h4, List.take_take, Nat.min_eq_left hms]⟩
/-- The world behind a store of a pair. -/
def sp2 (w : World) (ad : Addr) (p : Nat) (u : Value) (c : Int) : World := (w.setCell (ad.add (p * 2)) u).setCell ⟨(ad.add (p * 2)).block, (ad.add (p * 2)).off + 1, none⟩ (.int .i64 c)
theorem fb_less {ad : Addr} {cap p : Nat} {x y : He} (h : PS w0 P K M T (FB (.slice (some ad) l.length cap) l t B cs) w) (hp : l[p]? = some x) (hy : l[l.length - 1]? = some y) :
    PS w0 P K M T (FB (.slice (some ad) (l.length - 1) cap) (less l p) t B cs) (sp2 w ad p y.v y.c) := by
  obtain ⟨A, h1, h2, h3, h4⟩ := h
  have hpl := (List.getElem?_eq_some_iff.1 hp).1
  have ho := h3.row.own h1
  rcases ho.2 with ⟨e, _⟩ | ⟨g, cap', cur, e, _⟩
  · cases e
  · simp only [Value.slice.injEq, Option.some.injEq] at e
    obtain ⟨rfl, _⟩ := e
    have hx := (List.getElem?_eq_some_iff.1 hp).2
    obtain ⟨s1, s2⟩ := ho.stored (p * 2 + 0) y.v
    rw [hflat_set l p 0 hpl (by omega) y.v ⟨y.v, x.k, x.c, x.id⟩ (by rw [hx]; rfl)] at s1
    obtain ⟨A1, a1, a2, a3⟩ := h1.took h3.row s2 s1 (.inl rfl)
    have ho2 := a2.own a1
    obtain ⟨s3, s4⟩ := ho2.stored (p * 2 + 1) (.int .i64 y.c)
    rw [hflat_set _ p 1 (by rw [List.length_set]; exact hpl) (by omega) (.int .i64 y.c) y (by rw [List.getElem_set_self]; rfl), List.set_set] at s3
    obtain ⟨A2, b1, b2, b3⟩ := a1.took a2 s4 s3 (.inl rfl)
    have hd : l.getD (l.length - 1) ⟨.slice none 0 0, [], 0, 0⟩ = y := by rw [List.getD_eq_getElem?_getD, hy]; rfl
    have hcut := Row.cut b2 (m := l.length - 1) (by omega) (by omega)
    have hfl : (hflat (l.set p y)).take ((l.length - 1) * 2) = hflat (less l p) := by
      rw [hflat_take _ _ (by rw [List.length_set]; omega)]
      unfold less
      rw [hd]
    rw [hfl] at hcut
    have hfr : ∀ z : Rl, z ≠ (85, 0) → A2 z = A z := fun z hz => (b3 z hz).trans (a3 z hz)
    refine ⟨A2, ?_, h2.keep (fun z h8 h9 => hfr z (ne_of (by omega))), ⟨?_, fun e he => ?_⟩, (hfr _ (by simp)).trans h4⟩
    · unfold sp2
      rw [add_zero_at]
      exact b1
    · rw [less_len l p hpl]; exact hcut
    · have hm : e ∈ l := by
        have h5 := List.mem_of_mem_take he
        rcases List.mem_or_eq_of_mem_set h5 with h6 | h6
        · exact h6
        · rw [h6, hd]; exact List.mem_of_getElem? hy
      obtain ⟨k1, k2, k3, k4⟩ := h3.keys e hm
      exact ⟨k1, k2, k3, k4.keep (hfr _ (by simp))⟩
theorem hk_less (l : List He) (p : Nat) {x : He} (hp : l[p]? = some x) : (hk l).Perm ((x.k, x.c) :: hk (less l p)) := by
  have hpl := (List.getElem?_eq_some_iff.1 hp).1
  have h := (less_perm l p hpl).map fun e : He => (e.k, e.c)
  rw [(List.getElem?_eq_some_iff.1 hp).2] at h
  exact h
theorem at_f (h : PS w0 P K M T F w) (hF : ∀ A, F A → HV A v l t) (hlen : l.length ≤ 1000) (ax : Option Addr) (n cx : Nat) (ks : List Int) (hn : ks.length = n) (hn2 : n ≤ 100000) (hr : Rd w w.heap.size ax (bv ks)) :
    Calls Try.prog 29 #[v, .slice ax n cx] w fun e w' => AtP l ks e ∧ PS w0 P K M T F w' ∧ Below w.heap.size w w' := by
  have h0 := h
  obtain ⟨A, h1, h2, h3⟩ := h
  exact (at_c h1 (hF A h3) hlen ax n cx ks hn hn2 hr).mono fun e w' h => ⟨h.1, h0.grow h.2, h.2⟩
/-- .. and the keys that were told. -/
def PQ (w0 : World) (P K : Nat) (M : Int) (T : List Pl) (F : Ac → Prop) (G : List (List Int)) (kv : Value) (w : World) : Prop := ∃ A, KQ w0 A G kv w ∧ HP A P K M T ∧ F A
theorem PQ.grow {G : List (List Int)} {kv : Value} (h : PQ w0 P K M T F G kv w) (hb : Below w.heap.size w w') : PQ w0 P K M T F G kv w' := by
  obtain ⟨A, h1, h2⟩ := h
  exact ⟨A, h1.grow hb, h2⟩
theorem PQ.ps {G : List (List Int)} {kv : Value} (h : PQ w0 P K M T F G kv w) (hF : Fst F) : PS w0 P K M T F w := by
  obtain ⟨A, ⟨A', vs, k1, k2, k3⟩, h2, h3⟩ := h
  exact ⟨A', k1, h2.keep (fun x h8 h9 => k2 x (by omega) (by omega)), hF A A' (fun x h8 => k2 x (by omega) (by omega)) h3⟩
theorem PQ.txt {G : List (List Int)} {a : Option Addr} {n c : Nat} (h : PQ w0 P K M T F G (.slice a n c) w) : Txt w w.heap.size a G := by
  obtain ⟨A, h1, h2⟩ := h
  exact Txt.of_KQ h1
theorem fkeys (h : PS w0 P K M T F w) (ht : Tab T K M) :
    Calls Try.prog 23 #[.pointer (some ⟨P, 0, none⟩)] w fun e w' => ∃ a c, e = .returned (.slice a (keysT T).length c) ∧ PQ w0 P K M T F (keysT T) (.slice a (keysT T).length c) w' := by
  obtain ⟨A, h1, h2, h3⟩ := h
  refine (pkeys_c h1 h2 ht).mono fun e w' h => ?_
  obtain ⟨v, he, hk⟩ := h
  have hk0 := hk
  obtain ⟨A', vs, k1, k2, k3, _⟩ := hk
  obtain ⟨a, c, rfl, _⟩ := k3.form2
  exact ⟨a, c, he, A, hk0, h2, h3⟩
end
end Go.Proofs.Ytkaapphlnolelaa
