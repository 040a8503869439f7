/-
  Plain mathematics and memory for FlowInside: what is behind something that is reached, told step by step. No program.
-/
import Derived.Test.YtenddhhaelnnnaaFlowWorks
namespace Go.Proofs.Ytenddhhaelnnnaa
open Go.RowKit Wi Ow Fl
set_option linter.unusedVariables false
set_option linter.unusedSimpArgs false
def Fr (n : Nat) (nx : Nat → List Nat) (i : Nat) (F : List Bool) : Prop := F.length = n ∧ ∀ j, j < n → (F[j]? = some true ↔ (j = 0 ∨ ∃ h, h < i ∧ Fl.Reach nx h ∧ j ∈ nx h))
def Fq (n : Nat) (nx : Nat → List Nat) (i r : Nat) (F : List Bool) : Prop := F.length = n ∧ ∀ j, j < n → (F[j]? = some true ↔ (j = 0 ∨ (∃ h, h < i ∧ Fl.Reach nx h ∧ j ∈ nx h) ∨ (Fl.Reach nx i ∧ j ∈ (nx i).take r)))
theorem Fr.first {n : Nat} {nx : Nat → List Nat} (h0 : 0 < n) : Fr n nx 0 ((List.replicate n false).set 0 true) := by
  refine ⟨by simp, fun j hj => ?_⟩
  rw [List.getElem?_set]
  by_cases e : 0 = j
  · subst e; simp [h0]
  · rw [if_neg e, List.getElem?_replicate, if_pos hj]
    constructor
    · intro h; cases h
    · rintro (h | ⟨h, hh, _⟩)
      · exact absurd h.symm e
      · omega
theorem Fr.go {n : Nat} {nx : Nat → List Nat} {i : Nat} {F : List Bool} (h : Fr n nx i F) : Fq n nx i 0 F := by
  refine ⟨h.1, fun j hj => ?_⟩
  rw [h.2 j hj]
  constructor
  · rintro (a | a)
    · exact .inl a
    · exact .inr (.inl a)
  · rintro (a | a | ⟨_, a⟩)
    · exact .inl a
    · exact .inr a
    · simp at a
theorem Fq.step {n : Nat} {nx : Nat → List Nat} {i r : Nat} {F : List Bool} (h : Fq n nx i r F) (hr : r < (nx i).length) {m : Nat} (hm : m = (nx i)[r]) (hmn : m < n) {a b : Bool} (ha : F[m]? = some a) (hb : b = true ↔ Fl.Reach nx i) : Fq n nx i (r + 1) (F.set m (a || b)) := by
  refine ⟨by rw [List.length_set]; exact h.1, fun j hj => ?_⟩
  rw [List.getElem?_set, List.take_succ_eq_append_getElem hr, ← hm]
  by_cases e : m = j
  · subst e
    rw [if_pos rfl, if_pos (by rw [h.1]; exact hmn)]
    have h1 := h.2 m hmn
    rw [ha] at h1
    constructor
    · intro h2
      injection h2 with h2
      cases a
      · simp at h2; exact .inr (.inr ⟨hb.1 h2, by simp⟩)
      · rcases h1.1 rfl with h3 | h3 | h3
        · exact .inl h3
        · exact .inr (.inl h3)
        · exact .inr (.inr ⟨h3.1, List.mem_append_left _ h3.2⟩)
    · intro h2
      cases a
      · have hn : ¬ _ := fun x => absurd (h1.2 x) (by simp)
        have : b = true := by
          rcases h2 with h3 | h3 | h3
          · exact absurd (.inl h3) hn
          · exact absurd (.inr (.inl h3)) hn
          · exact hb.2 h3.1
        simp [this]
      · simp
  · rw [if_neg e, h.2 j hj, List.mem_append, List.mem_singleton]
    constructor
    · rintro (a | a | a)
      · exact .inl a
      · exact .inr (.inl a)
      · exact .inr (.inr ⟨a.1, .inl a.2⟩)
    · rintro (a | a | ⟨a, b | b⟩)
      · exact .inl a
      · exact .inr (.inl a)
      · exact .inr (.inr ⟨a, b⟩)
      · exact absurd b.symm e
theorem Fq.done {n : Nat} {nx : Nat → List Nat} {i r : Nat} {F : List Bool} (h : Fq n nx i r F) (hr : (nx i).length ≤ r) : Fr n nx (i + 1) F := by
  refine ⟨h.1, fun j hj => ?_⟩
  rw [h.2 j hj, List.take_of_length_le hr]
  constructor
  · rintro (a | ⟨x, hx, a⟩ | a)
    · exact .inl a
    · exact .inr ⟨x, by omega, a⟩
    · exact .inr ⟨i, by omega, a⟩
  · rintro (a | ⟨x, hx, a⟩)
    · exact .inl a
    · by_cases e : x = i
      · subst e; exact .inr (.inr a)
      · exact .inr (.inl ⟨x, by omega, a⟩)
theorem Fr.end_ {n : Nat} {nx : Nat → List Nat} {F R : List Bool} (h : Fr n nx n F) (hR : Fl.Found n nx R) (hlt : ∀ k j, j ∈ nx k → j < n) (h0 : 0 < n) : F = R := by
  have key : ∀ j, j < n → (F[j]? = some true ↔ R[j]? = some true) := fun j hj => by
    rw [h.2 j hj, hR.mark j hj]
    constructor
    · rintro (rfl | ⟨x, _, hx, hj⟩)
      · exact .zero
      · exact .step hx hj
    · intro hr
      cases hr with
      | zero => exact .inl rfl
      | @step x _ hx hm =>
        refine .inr ⟨x, ?_, hx, hm⟩
        cases hx with
        | zero => exact h0
        | step _ h2 => exact hlt _ _ h2
  apply List.ext_getElem?
  intro j
  by_cases hj : j < n
  · have h1 : F[j]? = some (F[j]'(by rw [h.1]; exact hj)) := List.getElem?_eq_getElem _
    have h2 : R[j]? = some (R[j]'(by rw [hR.len]; exact hj)) := List.getElem?_eq_getElem _
    have k := key j hj
    rw [h1, h2] at k ⊢
    congr 1
    rw [Bool.eq_iff_iff]
    simpa using k
  · rw [List.getElem?_eq_none (by rw [h.1]; omega), List.getElem?_eq_none (by rw [hR.len]; omega)]
/-- The three rows: targets, what is reached, what is behind that. -/
structure Fi (w : World) (n : Nat) (at_ ar af : Addr) (ct cr : Nat) (wr : World) (t : List Int) (R F : List Bool) : Prop where
  tg : wr.ownsRow w.heap.size 3 1 (.slice (some at_) n ct) n (zv t)
  rc : wr.ownsRow w.heap.size 4 1 (.slice (some ar) n cr) n (ov R)
  fr : wr.ownsRow w.heap.size 4 1 (.slice (some af) n n) n (ov F)
  below : Below w.heap.size w wr
  n1 : at_.block ≠ af.block
  n2 : ar.block ≠ af.block
theorem Fi.next {w wr w2 : World} {n : Nat} {at_ ar af : Addr} {ct cr : Nat} {t : List Int} {R F : List Bool} (h : Fi w n at_ ar af ct cr wr t R F) (hb : Below wr.heap.size wr w2) : Fi w n at_ ar af ct cr w2 t R F :=
  ⟨own_below h.tg hb, own_below h.rc hb, own_below h.fr hb, below_then h.below hb (Nat.le_refl _), h.n1, h.n2⟩
theorem Fi.put {w wr : World} {n : Nat} {at_ ar af : Addr} {ct cr : Nat} {t : List Int} {R F : List Bool} (h : Fi w n at_ ar af ct cr wr t R F) (j : Nat) (b : Bool) : Fi w n at_ ar af ct cr (wr.setCell (af.add j) (.bool b)) t R (F.set j b) := by
  obtain ⟨h1, h2⟩ := own_put h.fr j (.bool b)
  rw [ov_set] at h1
  exact ⟨h.tg.kept h2 (.inr (fun e => h.n1 (by injection e))), h.rc.kept h2 (.inr (fun e => h.n2 (by injection e))), h1, h.below.grown h2 h.below.size (fun k hk => by injection hk with hk; subst hk; exact (h.fr.lt af.block rfl).1), h.n1, h.n2⟩
theorem Fi.drew {w wr : World} {n : Nat} {at_ ar af : Addr} {ct cr : Nat} {t : List Int} {R F : List Bool} (h : Fi w n at_ ar af ct cr wr t R F) (m : Nat) : Fi w n at_ ar af ct cr (wr.drewN m) t R F :=
  h.next (below_drewN (Below.refl _ _) m)
theorem Fi.start {w w1 w2 w3 : World} {n : Nat} {at_ ar af : Addr} {ct cr : Nat} {t : List Int} {R : List Bool} (o1 : w1.ownsRow w.heap.size 3 1 (.slice (some at_) n ct) n (zv t)) (b1 : Below w.heap.size w w1)
    (o2 : w2.ownsRow w1.heap.size 4 1 (.slice (some ar) n cr) n (ov R)) (b2 : Below w1.heap.size w1 w2) (haf : af.block = w2.heap.size) (o3 : w3.ownsRow w2.heap.size 4 1 (.slice (some af) n n) n (List.replicate n (.bool false))) (b3 : Below w2.heap.size w2 w3) :
    Fi w n at_ ar af ct cr (w3.setCell af (.bool true)) t R ((List.replicate n false).set 0 true) := by
  have s1 := b1.size
  have s2 := b2.size
  have e1 : List.replicate n (Value.bool false) = ov (List.replicate n false) := by simp [ov]
  rw [e1] at o3
  have k1 := own_below (own_below o1 b2) b3
  have k2 := own_below (own_base o2 s1) b3
  have k3 := own_base (base' := w.heap.size) o3 (by omega)
  have l1 := (o1.lt at_.block rfl).2
  have l2 := (o2.lt ar.block rfl).2
  exact Fi.put (j := 0) (b := true) ⟨k1, k2, k3, below_then (below_then b1 b2 (Nat.le_refl _)) b3 (Nat.le_refl _), by omega, by omega⟩
/-- What Next told, beside the three rows. -/
structure Fn (w : World) (af : Addr) (v : Value) (wr : World) (l : List Int) : Prop where
  own : wr.ownsRow w.heap.size 3 1 v l.length (zv l)
  apart : v.ownBlock = none ∨ v.ownBlock ≠ some af.block
theorem Fn.start {w wr w2 : World} {n : Nat} {at_ ar af : Addr} {ct cr : Nat} {t : List Int} {R F : List Bool} {v : Value} {l : List Int} (h : Fi w n at_ ar af ct cr wr t R F) (ho : OwnZ wr v w2 l) : Fn w af v w2 l := by
  refine ⟨own_base ho.own h.below.size, ?_⟩
  cases hv : v.ownBlock with
  | none => exact .inl rfl
  | some k =>
    have h1 := (ho.own.lt k hv).1
    refine .inr fun e => ?_
    injection e with e
    have := (h.fr.lt af.block rfl).2
    omega
theorem Fn.put {w wr : World} {n : Nat} {at_ ar af : Addr} {ct cr : Nat} {t : List Int} {R F : List Bool} {v : Value} {l : List Int} (h : Fi w n at_ ar af ct cr wr t R F) (x : Fn w af v wr l) (j : Nat) (b : Bool) : Fn w af v (wr.setCell (af.add j) (.bool b)) l :=
  ⟨x.own.kept (own_put h.fr j (.bool b)).2 x.apart, x.apart⟩
theorem Fn.drew {w wr : World} {af : Addr} {v : Value} {l : List Int} (x : Fn w af v wr l) (m : Nat) : Fn w af v (wr.drewN m) l := ⟨own_below x.own (below_drewN (Below.refl _ _) m), x.apart⟩
end Go.Proofs.Ytenddhhaelnnnaa
