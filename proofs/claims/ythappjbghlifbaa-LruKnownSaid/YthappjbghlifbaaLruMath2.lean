/-
  Layer 11's document: its rows stay good; what is looked up. Mathematics; no program.
-/
import Derived.Test.YthappjbghlifbaaLruMath
namespace Go.Proofs.Ythappjbghlifbaa
set_option maxRecDepth 100000
open Go.RowKit Ow Ro K2
set_option linter.unusedVariables false
set_option linter.unusedSimpArgs false
abbrev KO := List (List Int × Int)
/-- The cell of a key. -/
def aget (o : KO) (ks : List Int) : Option Int := (o.find? fun e => e.1 == ks).map (·.2)
/-- Without a key. -/
def awo (o : KO) (ks : List Int) : KO := o.filter fun e => e.1 != ks
def afind (o : KO) (ks : List Int) : KO := match aget o ks with
  | none => o
  | some c => (ks, c) :: awo o ks
def agetV : Option Int → Value
  | none => .tuple #[.int .i64 0, .bool false]
  | some c => .tuple #[.int .i64 c, .bool true]
/-- Put: who goes, the error, the keys. -/
def aput (K M : Int) (o : KO) (ks : List Int) (c : Int) : (List Int × Int) × Int × KO :=
  if (ks.length : Int) = K then
    if (aget o ks).isSome then (([], 0), 11, o)
    else if (o.length : Int) = M then (o.getLast?.getD ([], 0), 0, (ks, c) :: o.dropLast)
    else (([], 0), 0, (ks, c) :: o)
  else (([], 0), 14, o)
section
variable {K M : Int} {n : Nat} {l : List Rw} {ks : List Int}
theorem LG.nil (hM : 0 ≤ M) (n : Nat) : LG K M n [] := ⟨(fun e h => by cases h), List.Pairwise.nil, List.Pairwise.nil, (fun e h => by cases h), by simpa using hM⟩
theorem LG.later (h : LG K M n l) : LG K M (n + 1) l := ⟨fun e he => by have := h.uses e he; omega, h.du, h.dk, h.len, h.small⟩
theorem LG.erase (h : LG K M n l) (p : Nat) : LG K M n (l.eraseIdx p) :=
  ⟨fun e he => h.uses e (List.mem_of_mem_eraseIdx he), h.du.sublist (List.eraseIdx_sublist ..), h.dk.sublist (List.eraseIdx_sublist ..), fun e he => h.len e (List.mem_of_mem_eraseIdx he), by have := List.length_eraseIdx_le l p; have := h.small; omega⟩
theorem LG.put (h : LG K M n l) (hs : (l.length : Int) < M) (u : Value) (hk : (ks.length : Int) = K) (hx : lix l ks = none) (c : Int) (t : Nat) : LG K M (n + 1) (l ++ [⟨u, ks, c, ((n + 1 : Nat) : Int), t⟩]) := by
  have hnk : ∀ e ∈ l, e.k ≠ ks := fun e he => by
    unfold lix at hx
    rw [List.findIdx?_eq_none_iff] at hx
    simpa using hx e he
  refine ⟨fun e he => ?_, ?_, ?_, fun e he => ?_, by rw [List.length_append]; simp; omega⟩
  · rcases List.mem_append.1 he with h1 | h1
    · have := h.uses e h1; omega
    · rw [List.mem_singleton] at h1; subst h1; dsimp only; omega
  · rw [List.pairwise_append]
    refine ⟨h.du, List.pairwise_singleton _ _, fun a ha b hb => ?_⟩
    rw [List.mem_singleton] at hb
    subst hb
    have := h.uses a ha
    dsimp only
    omega
  · rw [List.pairwise_append]
    refine ⟨h.dk, List.pairwise_singleton _ _, fun a ha b hb => ?_⟩
    rw [List.mem_singleton] at hb
    subst hb
    exact hnk a ha
  · rcases List.mem_append.1 he with h1 | h1
    · exact h.len e h1
    · rw [List.mem_singleton] at h1; subst h1; exact hk
theorem pw_set {α : Type} {R : α → α → Prop} {x' : α} : ∀ (l : List α) (p : Nat), l.Pairwise R → (∀ y ∈ l.eraseIdx p, R x' y ∧ R y x') → (l.set p x').Pairwise R
  | [], p, _, _ => by simp
  | y :: l, 0, h, h2 => by
    rw [List.set_cons_zero, List.pairwise_cons]
    exact ⟨fun z hz => (h2 z (by rw [List.eraseIdx_cons_zero]; exact hz)).1, (List.pairwise_cons.1 h).2⟩
  | y :: l, p + 1, h, h2 => by
    rw [List.eraseIdx_cons_succ] at h2
    rw [List.set_cons_succ, List.pairwise_cons]
    refine ⟨fun z hz => ?_, pw_set l p (List.pairwise_cons.1 h).2 (fun z hz => h2 z (List.mem_cons_of_mem _ hz))⟩
    rcases List.mem_or_eq_of_mem_set hz with h3 | h3
    · exact (List.pairwise_cons.1 h).1 z h3
    · rw [h3]; exact (h2 y (List.mem_cons_self ..)).2
theorem LG.used (h : LG K M n l) {p : Nat} {x : Rw} (hx : l[p]? = some x) : LG K M (n + 1) (l.set p (usd x ((n + 1 : Nat) : Int))) := by
  have hm := List.mem_of_getElem? hx
  have e1 : l.eraseIdx p = l.filter fun e => e.k != x.k := filter_keep l p x h.dk hx (by simp) (fun y hy hR => by
    rw [bne_iff_ne]
    rcases hR with h1 | h1
    · exact fun e => h1 e.symm
    · exact h1)
  refine ⟨fun e he => ?_, pw_set l p h.du fun y hy => ?_, pw_set l p h.dk fun y hy => ?_, fun e he => ?_, by rw [List.length_set]; exact h.small⟩
  · rcases List.mem_or_eq_of_mem_set he with h1 | h1
    · have := h.uses e h1; omega
    · subst h1; unfold usd; dsimp only; omega
  · have := h.uses y (List.mem_of_mem_eraseIdx hy)
    unfold usd
    dsimp only
    omega
  · rw [e1, List.mem_filter, bne_iff_ne] at hy
    exact ⟨fun e => hy.2 e.symm, hy.2⟩
  · rcases List.mem_or_eq_of_mem_set he with h1 | h1
    · exact h.len e h1
    · subst h1; exact h.len x hm
theorem ordR_du (hd : l.Pairwise fun a b => a.u ≠ b.u) : (ordR l n).Pairwise fun a b => a.u ≠ b.u := by
  induction n with
  | zero => exact List.Pairwise.nil
  | succ n ih =>
    unfold ordR
    rw [List.pairwise_append]
    refine ⟨hd.filter _, ih, fun a ha b hb => ?_⟩
    rw [List.mem_filter] at ha
    have h1 := ha.2
    unfold atU at h1
    rw [beq_iff_eq] at h1
    have := ordR_mem.1 hb
    omega
theorem ordR_perm (h : LG K M n l) : (ordR l n).Perm l := by
  rw [List.perm_ext_iff_of_nodup]
  · intro e
    rw [ordR_mem]
    exact ⟨fun h => h.1, fun he => ⟨he, h.uses e he⟩⟩
  · exact (ordR_du h.du).imp fun h e => h (by rw [e])
  · exact h.du.imp fun h e => h (by rw [e])
theorem OD_len (h : LG K M n l) : (OD l n).length = l.length := by unfold OD; rw [List.length_map]; exact (ordR_perm h).length_eq
theorem OD_none (h : LG K M n l) (hx : lix l ks = none) : aget (OD l n) ks = none := by
  unfold lix at hx
  rw [List.findIdx?_eq_none_iff] at hx
  unfold aget
  rw [Option.map_eq_none_iff, List.find?_eq_none]
  intro e he
  unfold OD at he
  rw [List.mem_map] at he
  obtain ⟨x, hx1, rfl⟩ := he
  have := hx x ((ordR_perm h).mem_iff.1 hx1)
  simpa using this
theorem key_uniq : ∀ (l : List Rw), (l.Pairwise fun a b => a.k ≠ b.k) → ∀ x ∈ l, ∀ y ∈ l, x.k = y.k → x = y
  | [], _, x, hx, _, _, _ => by cases hx
  | z :: l, h, x, hx, y, hy, e => by
    have hp := List.pairwise_cons.1 h
    rcases List.mem_cons.1 hx with e1 | h1
    · rcases List.mem_cons.1 hy with e2 | h2
      · rw [e1, e2]
      · subst e1; exact absurd e (hp.1 y h2)
    · rcases List.mem_cons.1 hy with e2 | h2
      · subst e2; exact absurd e.symm (hp.1 x h1)
      · exact key_uniq l hp.2 x h1 y h2 e
theorem OD_some (h : LG K M n l) {p : Nat} {x : Rw} (hx : l[p]? = some x) : aget (OD l n) x.k = some x.c := by
  have hm := List.mem_of_getElem? hx
  have hmo := (ordR_perm h).mem_iff.2 hm
  unfold aget
  cases hf : (OD l n).find? fun e => e.1 == x.k with
  | none =>
    rw [List.find?_eq_none] at hf
    exact absurd (hf (x.k, x.c) (by unfold OD; exact List.mem_map.2 ⟨x, hmo, rfl⟩)) (by simp)
  | some e =>
    have h1 := List.find?_some hf
    have h2 := List.mem_of_find?_eq_some hf
    unfold OD at h2
    rw [List.mem_map] at h2
    obtain ⟨y, hy, rfl⟩ := h2
    have hy2 := (ordR_perm h).mem_iff.1 hy
    obtain rfl := key_uniq l h.dk y hy2 x hm (by simpa using h1)
    rfl
theorem lpk_get (h : LG K M n l) : lpkV l (lix l ks) = agetV (aget (OD l n) ks) := by
  cases hx : lix l ks with
  | none => rw [OD_none h hx]; rfl
  | some p =>
    obtain ⟨x, h1, rfl⟩ := lix_get hx
    rw [OD_some h h1, lpkV_some h1]
    rfl
end
end Go.Proofs.Ythappjbghlifbaa
