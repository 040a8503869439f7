/-
  Layer 10's tables: the way of a key, a key put and taken away: mathematics over the list of places.
-/
import Derived.Test.YtkaapphlnolelaaHashRef6
namespace Go.Proofs.Ytkaapphlnolelaa
set_option maxRecDepth 100000
open Go.RowKit Ow Ro K2 Hm
set_option linter.unusedVariables false
set_option linter.unusedSimpArgs false
def ed (T : List Pl) (x : Nat) : Pl := T.getD x e0
theorem ed_of {T : List Pl} {x : Nat} {t : Pl} (h : T[x]? = some t) : ed T x = t := by unfold ed; rw [List.getD_eq_getElem?_getD, h]; rfl
theorem ed_at {T : List Pl} {x : Nat} (h : x < T.length) : T[x]? = some (ed T x) := by unfold ed; rw [List.getD_eq_getElem?_getD, List.getElem?_eq_getElem h]; rfl
theorem ed_mem {T : List Pl} {x : Nat} (h : x < T.length) : ed T x ∈ T := List.mem_of_getElem? (ed_at h)
theorem ed_set_same {T : List Pl} {r : Nat} (t : Pl) (h : r < T.length) : ed (T.set r t) r = t := ed_of (List.getElem?_set_self h)
theorem ed_set_other {T : List Pl} {r x : Nat} (t : Pl) (h : x ≠ r) : ed (T.set r t) x = ed T x := by
  unfold ed
  rw [List.getD_eq_getElem?_getD, List.getD_eq_getElem?_getD, List.getElem?_set_ne (fun e => h e.symm)]
def wayL (n : Nat) : Nat → Nat → List Nat
  | _, 0 => []
  | p, f + 1 => p :: wayL n (wrap1 n p) f
theorem wrap1_mod {n p : Nat} (h : p < n) : wrap1 n p = (p + 1) % n := by
  unfold wrap1
  split
  · rename_i e; rw [e, Nat.mod_self]
  · rw [Nat.mod_eq_of_lt (by omega)]
theorem wayL_len (n p f : Nat) : (wayL n p f).length = f := by
  induction f generalizing p with
  | zero => rfl
  | succ f ih => unfold wayL; rw [List.length_cons, ih]
theorem wayL_get {n p f i : Nat} (hp : p < n) (hi : i < f) : (wayL n p f)[i]? = some ((p + i) % n) := by
  induction f generalizing p i with
  | zero => omega
  | succ f ih =>
    unfold wayL
    cases i with
    | zero => rw [List.getElem?_cons_zero, Nat.add_zero, Nat.mod_eq_of_lt hp]
    | succ i =>
      rw [List.getElem?_cons_succ, ih (wrap1_lt hp) (by omega), wrap1_mod hp, Nat.mod_add_mod]
      congr 2
      omega
theorem wayL_lt {n p f x : Nat} (hp : p < n) (hx : x ∈ wayL n p f) : x < n := by
  induction f generalizing p with
  | zero => simp [wayL] at hx
  | succ f ih =>
    unfold wayL at hx
    rcases List.mem_cons.1 hx with rfl | h
    · exact hp
    · exact ih (wrap1_lt hp) h
theorem wayL_all {n p x : Nat} (hp : p < n) (hx : x < n) : x ∈ wayL n p n := by
  have h : (p + (x + n - p) % n) % n = x := by
    rw [Nat.add_mod_mod, show p + (x + n - p) = x + n by omega, Nat.add_mod_right, Nat.mod_eq_of_lt hx]
  have := wayL_get (f := n) hp (Nat.mod_lt (x + n - p) (by omega : n > 0))
  rw [h] at this
  exact List.mem_of_getElem? this
def fndL (T : List Pl) (k : List Int) : List Nat → Option Nat
  | [] => none
  | x :: l => if (ed T x).is = 0 then none else if (ed T x).is = 1 ∧ (ed T x).bs = k then some x else fndL T k l
theorem fnd_way {T : List Pl} {k : List Int} (f p : Nat) (hp : p < T.length) : fnd T k f p = fndL T k (wayL T.length p f) := by
  induction f generalizing p with
  | zero => rfl
  | succ f ih =>
    unfold wayL fndL
    rw [fnd_step (ed_at hp), ih _ (wrap1_lt hp)]
def Pass (T : List Pl) (k : List Int) (x : Nat) : Prop := (ed T x).is ≠ 0 ∧ ¬ ((ed T x).is = 1 ∧ (ed T x).bs = k)
theorem fndL_pass {T : List Pl} {k : List Int} (q l : List Nat) (h : ∀ x ∈ q, Pass T k x) : fndL T k (q ++ l) = fndL T k l := by
  induction q with
  | nil => rfl
  | cons x q ih =>
    have hx := h x (by simp)
    rw [List.cons_append]
    rw [fndL, if_neg hx.1, if_neg hx.2]
    exact ih (fun y hy => h y (by simp [hy]))
def roomL (T : List Pl) (l : List Nat) : Option Nat := l.find? fun x => (ed T x).is != 1
theorem roomL_app {T : List Pl} {q l : List Nat} {r : Nat} (h : roomL T q = some r) : roomL T (q ++ l) = some r := by unfold roomL at *; rw [List.find?_append, h]; rfl
theorem roomL_snoc {T : List Pl} (q : List Nat) (x : Nat) : roomL T (q ++ [x]) = match roomL T q with | some r => some r | none => if (ed T x).is = 1 then none else some x := by
  unfold roomL
  rw [List.find?_append]
  cases h : List.find? (fun x => (ed T x).is != 1) q with
  | some r => rfl
  | none =>
    rw [List.find?_cons, List.find?_nil]
    by_cases e : (ed T x).is = 1
    · simp [e]
    · have : ((ed T x).is != 1) = true := by simp [e]
      rw [this]; simp [e]
theorem roomL_is {T : List Pl} {l : List Nat} {r : Nat} (h : roomL T l = some r) : (ed T r).is ≠ 1 ∧ r ∈ l := by
  unfold roomL at h
  have h1 := List.find?_some h
  exact ⟨by simpa using h1, List.mem_of_find?_eq_some h⟩
theorem fndL_is {T : List Pl} {k : List Int} {l : List Nat} {x : Nat} (h : fndL T k l = some x) : (ed T x).is = 1 ∧ (ed T x).bs = k ∧ x ∈ l := by
  induction l with
  | nil => cases h
  | cons y l ih =>
    unfold fndL at h
    split at h
    · cases h
    · split at h
      · rename_i h2
        injection h with h
        subst h
        exact ⟨h2.1, h2.2, by simp⟩
      · obtain ⟨a, b, c⟩ := ih h
        exact ⟨a, b, by simp [c]⟩
theorem fndL_kept {T : List Pl} {k : List Int} {l : List Nat} {q r : Nat} {t : Pl} (h : fndL T k l = some q) (hr : r < T.length) (hne : r ≠ q) (hp : Pass (T.set r t) k r) : fndL (T.set r t) k l = some q := by
  induction l with
  | nil => cases h
  | cons x l ih =>
    unfold fndL at h ⊢
    split at h
    · cases h
    · rename_i h0
      split at h
      · rename_i h1
        injection h with h
        subst h
        rw [ed_set_other t (fun e => hne e.symm), if_neg h0, if_pos h1]
      · rename_i h1
        by_cases e : x = r
        · subst e
          rw [if_neg hp.1, if_neg hp.2]
          exact ih h
        · rw [ed_set_other t e, if_neg h0, if_neg h1]
          exact ih h
theorem fndL_new {T : List Pl} {k : List Int} {l : List Nat} {r : Nat} {t : Pl} (h : fndL T k l = none) (hm : roomL T l = some r) (hr : r < T.length) (h1 : t.is = 1) (h2 : t.bs = k) : fndL (T.set r t) k l = some r := by
  have hi := (roomL_is hm).1
  induction l with
  | nil => cases hm
  | cons x l ih =>
    by_cases e : (ed T x).is = 1
    · have hx : x ≠ r := fun e' => hi (e' ▸ e)
      have hm' : roomL T l = some r := by
        unfold roomL at hm ⊢
        rw [List.find?_cons] at hm
        simpa [e] using hm
      unfold fndL at h ⊢
      rw [if_neg (by omega)] at h
      rw [ed_set_other t hx, if_neg (by omega)]
      split at h
      · cases h
      · rename_i h3
        rw [if_neg h3]
        exact ih h hm'
    · have hx : x = r := by
        unfold roomL at hm
        rw [List.find?_cons] at hm
        have : ((ed T x).is != 1) = true := by simp [e]
        rw [this] at hm
        injection hm
      subst hx
      unfold fndL
      rw [ed_set_same t hr, if_neg (by omega), if_pos ⟨h1, h2⟩]
def way (T : List Pl) (k : List Int) : List Nat := wayL T.length (fnv k % T.length) T.length
def fat (T : List Pl) (k : List Int) : Option Nat := fndL T k (way T k)
def rat (T : List Pl) (k : List Int) : Option Nat := roomL T (way T k)
theorem way_set (T : List Pl) (r : Nat) (t : Pl) (k : List Int) : way (T.set r t) k = way T k := by unfold way; rw [List.length_set]
theorem plc_fat {T : List Pl} {K : Int} {k : List Int} (hn : 1 ≤ T.length) : plc T K k = if (k.length : Int) = K then fat T k else none := by
  unfold plc fat way
  rw [fnd_way _ _ (Nat.mod_lt _ hn)]
structure Good (T : List Pl) (K : Nat) : Prop where
  pos : 1 ≤ T.length
  len : ∀ t ∈ T, t.is = 1 → t.bs.length = K
  fd : ∀ p t, T[p]? = some t → t.is = 1 → fat T t.bs = some p
theorem fat_lt {T : List Pl} {k : List Int} {x : Nat} (h : fat T k = some x) : x < T.length ∧ (ed T x).is = 1 ∧ (ed T x).bs = k := by
  obtain ⟨a, b, c⟩ := fndL_is h
  by_cases hn : 1 ≤ T.length
  · exact ⟨wayL_lt (Nat.mod_lt _ hn) c, a, b⟩
  · have h0 : T.length = 0 := by omega
    unfold way at c
    rw [h0] at c
    simp [wayL] at c
theorem rat_lt {T : List Pl} {k : List Int} {x : Nat} (h : rat T k = some x) : x < T.length ∧ (ed T x).is ≠ 1 := by
  obtain ⟨a, c⟩ := roomL_is h
  by_cases hn : 1 ≤ T.length
  · exact ⟨wayL_lt (Nat.mod_lt _ hn) c, a⟩
  · have h0 : T.length = 0 := by omega
    unfold way at c
    rw [h0] at c
    simp [wayL] at c
section
variable {T : List Pl} {K : Nat} {k : List Int} {c : Int} {r p : Nat}
theorem Good.none_len (h : Good T K) (hk : k.length ≠ K) : fat T k = none := by
  cases e : fat T k with
  | none => rfl
  | some x =>
    obtain ⟨a, b, c⟩ := fat_lt e
    exact absurd (c ▸ h.len _ (ed_mem a) b) hk
theorem Good.plc (h : Good T K) : plc T (K : Int) k = fat T k := by
  rw [plc_fat h.pos]
  split
  · rfl
  · rename_i hk
    exact (h.none_len (fun e => hk (by omega))).symm
theorem Good.put (h : Good T K) (hk : k.length = K) (hf : fat T k = none) (hr : rat T k = some r) (c : Int) : Good (T.set r ⟨1, k, c⟩) K := by
  obtain ⟨hr1, hr2⟩ := rat_lt hr
  refine ⟨by rw [List.length_set]; exact h.pos, fun t ht hi => ?_, fun p t hp hi => ?_⟩
  · rcases List.mem_or_eq_of_mem_set ht with h1 | rfl
    · exact h.len t h1 hi
    · exact hk
  · by_cases e : p = r
    · subst e
      rw [List.getElem?_set_self hr1] at hp
      injection hp with hp
      subst hp
      unfold fat
      rw [way_set]
      exact fndL_new hf hr hr1 rfl rfl
    · rw [List.getElem?_set_ne (fun e' => e e'.symm)] at hp
      have h1 := h.fd p t hp hi
      unfold fat
      rw [way_set]
      refine fndL_kept h1 hr1 (fun e' => e e'.symm) ?_
      unfold Pass
      rw [ed_set_same _ hr1]
      exact ⟨by simp, fun h2 => by rw [show k = t.bs from h2.2, h1] at hf; cases hf⟩
theorem Good.del (h : Good T K) (hf : fat T k = some r) : Good (T.set r ⟨2, [], 0⟩) K := by
  obtain ⟨hr1, hr2, hr3⟩ := fat_lt hf
  refine ⟨by rw [List.length_set]; exact h.pos, fun t ht hi => ?_, fun p t hp hi => ?_⟩
  · rcases List.mem_or_eq_of_mem_set ht with h1 | rfl
    · exact h.len t h1 hi
    · cases hi
  · by_cases e : p = r
    · subst e
      rw [List.getElem?_set_self hr1] at hp
      injection hp with hp
      subst hp
      cases hi
    · rw [List.getElem?_set_ne (fun e' => e e'.symm)] at hp
      have h1 := h.fd p t hp hi
      unfold fat
      rw [way_set]
      refine fndL_kept h1 hr1 (fun e' => e e'.symm) ?_
      unfold Pass
      rw [ed_set_same _ hr1]
      exact ⟨by simp, fun h2 => by cases h2.1⟩
theorem Good.start (n K : Nat) (hn : 1 ≤ n) : Good (List.replicate n e0) K := by
  refine ⟨by rw [List.length_replicate]; exact hn, fun t ht hi => ?_, fun p t hp hi => ?_⟩
  · rw [List.eq_of_mem_replicate ht] at hi; cases hi
  · have ht := List.mem_of_getElem? hp
    rw [List.eq_of_mem_replicate ht] at hi; cases hi
theorem rat_some (hn : 1 ≤ T.length) (hc : (keysT T).length < T.length) : ∃ r, rat T k = some r := by
  cases e : rat T k with
  | some r => exact ⟨r, rfl⟩
  | none =>
    exfalso
    have h1 : ∀ t ∈ T, t.is == 1 := fun t ht => by
      obtain ⟨x, hx, rfl⟩ := List.getElem_of_mem ht
      unfold rat roomL at e
      have h2 := List.find?_eq_none.1 e x (wayL_all (Nat.mod_lt _ hn) hx)
      rw [ed_of (List.getElem?_eq_getElem hx)] at h2
      simpa using h2
    unfold keysT at hc
    rw [List.length_map, List.filter_eq_self.2 h1] at hc
    omega
/-! ### What a table holds -/
abbrev KC := List Int × Int
def pairs (T : List Pl) : List KC := (T.filter fun t => t.is == 1).map fun t => (t.bs, t.cell)
def Holds (T : List Pl) (H : List KC) : Prop := H.Perm (pairs T)
theorem pairs_len (T : List Pl) : (pairs T).length = (keysT T).length := by unfold pairs keysT; rw [List.length_map, List.length_map]
theorem pairs_mem {x : KC} : x ∈ pairs T ↔ ∃ p, p < T.length ∧ (ed T p).is = 1 ∧ (ed T p).bs = x.1 ∧ (ed T p).cell = x.2 := by
  unfold pairs
  rw [List.mem_map]
  constructor
  · rintro ⟨t, ht, rfl⟩
    rw [List.mem_filter] at ht
    obtain ⟨p, hp, rfl⟩ := List.getElem_of_mem ht.1
    refine ⟨p, hp, ?_⟩
    rw [ed_of (List.getElem?_eq_getElem hp)]
    exact ⟨by simpa using ht.2, rfl, rfl⟩
  · rintro ⟨p, hp, h1, h2, h3⟩
    exact ⟨ed T p, List.mem_filter.2 ⟨ed_mem hp, by simp [h1]⟩, by rw [h2, h3]⟩
def prOf (t : Pl) : List KC := if t.is = 1 then [(t.bs, t.cell)] else []
theorem pairs_erase (hr : r < T.length) : (pairs T).Perm (prOf T[r] ++ pairs (T.eraseIdx r)) := by
  have h : T.Perm (T[r] :: T.eraseIdx r) := by
    have e1 : T = T.take r ++ T[r] :: T.drop (r + 1) := by rw [← List.drop_eq_getElem_cons hr, List.take_append_drop]
    have h0 : (T.take r ++ T[r] :: T.drop (r + 1)).Perm (T[r] :: (T.take r ++ T.drop (r + 1))) := List.perm_middle
    rw [← e1] at h0
    rwa [List.eraseIdx_eq_take_drop_succ]
  have h2 := (h.filter fun t => t.is == 1).map fun t => (t.bs, t.cell)
  refine h2.trans ?_
  unfold prOf pairs
  by_cases e : T[r].is = 1
  · rw [List.filter_cons_of_pos (by simp [e]), if_pos e]; exact List.Perm.refl _
  · rw [List.filter_cons_of_neg (by simp [e]), if_neg e]; exact List.Perm.refl _
theorem pairs_set (hr : r < T.length) (t : Pl) : (pairs (T.set r t)).Perm (prOf t ++ pairs (T.eraseIdx r)) := by
  have h := pairs_erase (T := T.set r t) (r := r) (by rw [List.length_set]; exact hr)
  rwa [List.getElem_set_self, List.eraseIdx_set_eq] at h
theorem Holds.start (n : Nat) : Holds (List.replicate n e0) [] := by
  unfold Holds
  have : pairs (List.replicate n e0) = [] := by
    unfold pairs
    rw [List.filter_eq_nil_iff.2 (fun t ht => by rw [List.eq_of_mem_replicate ht]; simp [e0]), List.map_nil]
  rw [this]
theorem Holds.put {H : List KC} (h : Holds T H) (hr : r < T.length) (hi : (ed T r).is ≠ 1) (k : List Int) (c : Int) : Holds (T.set r ⟨1, k, c⟩) (H ++ [(k, c)]) := by
  have h1 := pairs_erase hr
  have h2 := pairs_set hr ⟨1, k, c⟩
  have e1 : prOf T[r] = [] := by
    rw [ed_of (List.getElem?_eq_getElem hr)] at hi
    unfold prOf; rw [if_neg hi]
  rw [e1, List.nil_append] at h1
  exact (List.perm_append_comm.trans ((h.trans h1).cons (k, c))).trans h2.symm
theorem Holds.del {H H2 : List KC} (h : Holds T H) (hr : r < T.length) (hi : (ed T r).is = 1) (h2 : H.Perm (((ed T r).bs, (ed T r).cell) :: H2)) : Holds (T.set r ⟨2, [], 0⟩) H2 := by
  have h1 := pairs_erase hr
  have h3 := pairs_set hr ⟨2, [], 0⟩
  have e1 : prOf T[r] = [((ed T r).bs, (ed T r).cell)] := by
    rw [ed_of (List.getElem?_eq_getElem hr)] at hi ⊢
    unfold prOf; rw [if_pos hi]
  rw [e1] at h1
  exact (((h2.symm.trans h).trans h1).cons_inv).trans h3.symm
theorem Holds.len {H : List KC} (h : Holds T H) : H.length = (keysT T).length := by rw [← pairs_len]; exact h.length_eq
theorem Holds.some_ {H : List KC} (h : Holds T H) (g : Good T K) (hm : (k, c) ∈ H) : ∃ p, fat T k = some p ∧ (ed T p).cell = c := by
  obtain ⟨p, h1, h2, h3, h4⟩ := pairs_mem.1 (h.mem_iff.1 hm)
  dsimp only at h3 h4
  have := g.fd p _ (ed_at h1) h2
  rw [h3] at this
  exact ⟨p, this, h4⟩
theorem Holds.none_ {H : List KC} (h : Holds T H) (hm : ∀ c, (k, c) ∉ H) : fat T k = none := by
  cases e : fat T k with
  | none => rfl
  | some p =>
    obtain ⟨h1, h2, h3⟩ := fat_lt e
    exact absurd (h.mem_iff.2 (pairs_mem.2 ⟨p, h1, h2, h3, rfl⟩)) (hm _)
theorem keys_nodup (g : Good T K) : (keysT T).Nodup := by
  unfold keysT List.Nodup
  rw [List.pairwise_map, List.pairwise_filter, List.pairwise_iff_getElem]
  intro i j hi hj hij h1 h2 e
  have a := g.fd i _ (List.getElem?_eq_getElem hi) (by simpa using h1)
  have b := g.fd j _ (List.getElem?_eq_getElem hj) (by simpa using h2)
  rw [e, b] at a
  injection a with a
  omega
theorem keys_fst {H : List KC} (h : Holds T H) : (H.map (·.1)).Perm (keysT T) := by
  have := h.map (·.1)
  unfold pairs at this
  rw [List.map_map] at this
  exact this
end
end Go.Proofs.Ytkaapphlnolelaa
