/-
  Plain mathematics of layer 6: where instructions begin, to which jumps lead, which are done behind which, which there is a way to; and that what stands ahead moves all. No program.
-/
import Derived.Test.YtenddhhaelnnnaaInsnBytes
namespace Go.Proofs.Ytenddhhaelnnnaa
namespace Fl
open Wi
set_option linter.unusedVariables false
set_option linter.unusedSimpArgs false

def zv (l : List Int) : List Value := l.map (.int .i64 ·)
def nv (l : List Nat) : List Value := l.map fun (j : Nat) => .int .i64 (j : Int)
def ov (l : List Bool) : List Value := l.map .bool
theorem zv_len (l : List Int) : (zv l).length = l.length := by simp [zv]
theorem nv_len (l : List Nat) : (nv l).length = l.length := by simp [nv]
theorem ov_len (l : List Bool) : (ov l).length = l.length := by simp [ov]
theorem zv_app (l m : List Int) : zv (l ++ m) = zv l ++ zv m := by simp [zv]
theorem nv_app (l m : List Nat) : nv (l ++ m) = nv l ++ nv m := by simp [nv]
theorem zv_get (l : List Int) (k : Nat) (hk : k < l.length) : (zv l)[k]? = some (.int .i64 l[k]) := by simp [zv, hk]
theorem nv_get (l : List Nat) (k : Nat) (hk : k < l.length) : (nv l)[k]? = some (.int .i64 (l[k] : Int)) := by simp [nv, hk]
theorem ov_get (l : List Bool) (k : Nat) (hk : k < l.length) : (ov l)[k]? = some (.bool l[k]) := by simp [ov, hk]
theorem nv_zv (l : List Nat) : nv l = zv (l.map fun (j : Nat) => (j : Int)) := by simp [nv, zv]
theorem ov_set (l : List Bool) (k : Nat) (b : Bool) : (ov l).set k (.bool b) = ov (l.set k b) := by simp [ov, List.map_set]
theorem zv_set (l : List Int) (k : Nat) (z : Int) : (zv l).set k (.int .i64 z) = zv (l.set k z) := by simp [zv, List.map_set]

/-- A jump class; a jump class and this operation; it jumps. -/
def isJ (op : Int) : Bool := op % 8 == 5 || op % 8 == 6
def isOp (op o : Int) : Bool := isJ op && op / 16 == o
def jmpV (op : Int) : Bool := isJ op && !(isOp op 8) && !(isOp op 9)

/-- A list's number at a place; -1: it has none. -/
def valAt (t : List Int) (i : Int) : Int := if 0 ≤ i ∧ i < t.length then t[i.toNat]?.getD (-1) else -1
theorem valAt_in (t : List Int) (k : Nat) (hk : k < t.length) : valAt t k = t[k] := by
  unfold valAt; rw [if_pos (by omega), Int.toNat_natCast, List.getElem?_eq_getElem hk]; rfl
theorem valAt_out (t : List Int) (i : Int) (h : ¬ (0 ≤ i ∧ i < t.length)) : valAt t i = -1 := if_neg h

/-- Of each slot the place of the instruction that begins there; the first k instructions. -/
def opA (L : List In) (k : Nat) : Int := (L[k]?.map (·.op)).getD 0
theorem opA_get (L : List In) (k : Nat) (hk : k < L.length) : opA L k = L[k].op := by unfold opA; rw [List.getElem?_eq_getElem hk]; rfl
def offA (L : List In) (k : Nat) : Int := (L[k]?.map (·.off)).getD 0
theorem offA_get (L : List In) (k : Nat) (hk : k < L.length) : offA L k = L[k].off := by unfold offA; rw [List.getElem?_eq_getElem hk]; rfl
def begF (k : Nat) (op : Int) : List Int := (k : Int) :: (if op = 24 then [-1] else [])
def begN (L : List In) : Nat → List Int
  | 0 => []
  | k + 1 => begN L k ++ begF k (opA L k)
theorem begF_len (k : Nat) (op : Int) : ((begF k op).length : Int) = sizeV op := by unfold begF sizeV; split <;> rfl
theorem begN_succ (L : List In) (k : Nat) : begN L (k + 1) = begN L k ++ begF k (opA L k) := rfl
theorem begN_len (L : List In) (k : Nat) : ((begN L (k + 1)).length : Int) = (begN L k).length + sizeV (opA L k) := by
  rw [begN_succ, List.length_append, Int.natCast_add, begF_len]
theorem begN_le (L : List In) (k : Nat) : (begN L k).length ≤ 2 * k := by
  induction k with
  | zero => simp [begN]
  | succ k ih => have := begN_len L k; unfold sizeV at this; split at this <;> omega
theorem begN_ge (L : List In) (k : Nat) (z : Int) (h : z ∈ begN L k) : z = -1 ∨ (0 ≤ z ∧ z < k) := by
  induction k with
  | zero => simp [begN] at h
  | succ k ih =>
    rw [begN_succ, List.mem_append] at h
    rcases h with h | h
    · have := ih h; omega
    · unfold begF at h; split at h <;> simp at h <;> omega

/-- The target of the k-th; which are right; the last one. -/
def tgtV (L : List In) (k : Nat) : Int := if jmpV (opA L k) then valAt (begN L L.length) ((begN L (k + 1)).length + offA L k) else -1
def tgts (L : List In) (n : Nat) : List Int := (List.range n).map (tgtV L)
theorem tgts_len (L : List In) (n : Nat) : (tgts L n).length = n := by simp [tgts]
theorem tgts_succ (L : List In) (n : Nat) : tgts L (n + 1) = tgts L n ++ [tgtV L n] := by simp [tgts, List.range_succ]
theorem tgts_get (L : List In) (n k : Nat) (hk : k < (tgts L n).length) : (tgts L n)[k] = tgtV L k := by simp [tgts]
def okT (L : List In) (k : Nat) : Prop := ∀ i, i < k → jmpV (opA L i) = true → tgtV L i ≠ -1
theorem okT_succ {L : List In} {k : Nat} (h : okT L k) (h2 : jmpV (opA L k) = true → tgtV L k ≠ -1) : okT L (k + 1) := fun i hi hj => by
  by_cases e : i = k
  · subst e; exact h2 hj
  · exact h i (by omega) hj
def endOk (op : Int) : Prop := isOp op 9 = true ∨ isOp op 0 = true
structure Good (L : List In) : Prop where
  some_ : 0 < L.length
  few : L.length ≤ 256
  jumps : okT L L.length
  last : endOk (opA L (L.length - 1))
/-- Instructions as the statements take them. -/
def okI (x : In) : Prop := 0 ≤ x.op ∧ x.op ≤ 255 ∧ -32768 ≤ x.off ∧ x.off ≤ 32767

/-- Those of some places that a program of n has. -/
def insN (n : Nat) (l : List Int) : List Nat := l.filterMap fun (z : Int) => if 0 ≤ z ∧ z < n then some z.toNat else none
theorem insN_app (n : Nat) (l m : List Int) : insN n (l ++ m) = insN n l ++ insN n m := by simp [insN, List.filterMap_append]
theorem insN_in (n : Nat) (z : Int) (h : 0 ≤ z ∧ z < n) : insN n [z] = [z.toNat] := by simp [insN, h]
theorem insN_out (n : Nat) (z : Int) (h : ¬ (0 ≤ z ∧ z < n)) : insN n [z] = [] := by unfold insN; rw [List.filterMap_cons, if_neg h]; rfl
theorem insN_len (n : Nat) (l : List Int) : (insN n l).length ≤ l.length := List.length_filterMap_le _ _
theorem mem_insN (n : Nat) (l : List Int) (j : Nat) : j ∈ insN n l ↔ (j : Int) ∈ l ∧ j < n := by
  unfold insN
  rw [List.mem_filterMap]
  constructor
  · rintro ⟨z, hz, h⟩
    split at h
    · rename_i hr
      injection h with h
      have e : (j : Int) = z := by omega
      exact ⟨e ▸ hz, by omega⟩
    · cases h
  · rintro ⟨h1, h2⟩
    exact ⟨j, h1, by rw [if_pos (by omega), Int.toNat_natCast]⟩
/-- Which may be done behind the one at i. -/
def nxt (L : List In) (t : List Int) (i : Int) : List Nat :=
  if 0 ≤ i ∧ i < L.length then
    (if isOp (opA L i.toNat) 9 then [] else if isOp (opA L i.toNat) 0 ∨ valAt t i = i + 1 then insN L.length [valAt t i] else insN L.length [i + 1, valAt t i])
  else []
theorem nxt_lt (L : List In) (t : List Int) (i : Int) (j : Nat) (h : j ∈ nxt L t i) : j < L.length := by
  unfold nxt at h
  split at h
  · split at h
    · cases h
    · split at h <;> exact ((mem_insN _ _ _).1 h).2
  · cases h
theorem nxt_len (L : List In) (t : List Int) (i : Int) : (nxt L t i).length ≤ 2 := by
  unfold nxt
  split
  · split
    · simp
    · split
      · exact Nat.le_trans (insN_len _ _) (by simp)
      · exact Nat.le_trans (insN_len _ _) (by simp)
  · simp
theorem nxt_two (L : List In) (t : List Int) (i : Int) (a b : Nat) (h : nxt L t i = [a, b]) : a ≠ b := by
  unfold nxt at h
  split at h
  · split at h
    · cases h
    · split at h
      · have := insN_len L.length [valAt t i]; rw [h] at this; simp at this
      · rename_i h0 h1 h2
        have e : insN L.length [i + 1, valAt t i] = insN L.length [i + 1] ++ insN L.length [valAt t i] := insN_app _ [_] [_]
        rw [e] at h
        by_cases p : 0 ≤ i + 1 ∧ i + 1 < L.length <;> by_cases q : 0 ≤ valAt t i ∧ valAt t i < L.length
        · rw [insN_in _ _ p, insN_in _ _ q] at h
          injection h with h3 h4
          injection h4 with h4 _
          intro e; apply h2; right; omega
        · rw [insN_in _ _ p, insN_out _ _ q] at h; cases h
        · rw [insN_out _ _ p, insN_in _ _ q] at h; cases h
        · rw [insN_out _ _ p, insN_out _ _ q] at h; cases h
  · cases h

/-- There is a way to it. -/
inductive Reach (nx : Nat → List Nat) : Nat → Prop
  | zero : Reach nx 0
  | step {i j : Nat} : Reach nx i → j ∈ nx i → Reach nx j

/-- A list of what was found, and the marks of it. -/
structure Bfs (n : Nat) (nx : Nat → List Nat) (Q : List Nat) (R : List Bool) : Prop where
  len : R.length = n
  nod : Q.Nodup
  lt : ∀ j, j ∈ Q → j < n
  mark : ∀ j, R[j]? = some true ↔ j ∈ Q
  reach : ∀ j, j ∈ Q → Reach nx j
  zero : 0 ∈ Q
theorem Bfs.first {n : Nat} {nx : Nat → List Nat} (h : 0 < n) : Bfs n nx [0] ((List.replicate n false).set 0 true) := by
  refine ⟨by simp, by simp, by simp; omega, fun j => ?_, by simp; exact .zero, by simp⟩
  rw [List.getElem?_set]
  by_cases e : 0 = j
  · subst e; simp [h]
  · rw [if_neg e, List.getElem?_replicate]
    constructor
    · intro h; split at h <;> simp at h
    · intro h; simp at h; omega
theorem Bfs.push {n : Nat} {nx : Nat → List Nat} {Q : List Nat} {R : List Bool} (h : Bfs n nx Q R) {j : Nat} (hj : j < n) (hr : R[j]? = some false) (hR : Reach nx j) : Bfs n nx (Q ++ [j]) (R.set j true) := by
  have hn : j ∉ Q := fun hm => by have := (h.mark j).2 hm; rw [hr] at this; cases this
  refine ⟨by rw [List.length_set]; exact h.len, ?_, ?_, fun i => ?_, ?_, List.mem_append_left _ h.zero⟩
  · rw [List.nodup_append]
    refine ⟨h.nod, by simp, fun a ha b hb => ?_⟩
    simp at hb; subst hb; intro e; subst e; exact hn ha
  · intro i hi
    rw [List.mem_append] at hi
    rcases hi with hi | hi
    · exact h.lt i hi
    · simp at hi; subst hi; exact hj
  · rw [List.getElem?_set, List.mem_append, List.mem_singleton]
    by_cases e : j = i
    · subst e; rw [if_pos rfl, if_pos (by rw [h.len]; exact hj)]; simp
    · rw [if_neg e, h.mark i]
      constructor
      · exact .inl
      · rintro (a | a)
        · exact a
        · exact absurd a.symm e
  · intro i hi
    rw [List.mem_append] at hi
    rcases hi with hi | hi
    · exact h.reach i hi
    · simp at hi; subst hi; exact hR
theorem Bfs.full {n : Nat} {nx : Nat → List Nat} {Q : List Nat} {R : List Bool} (h : Bfs n nx Q R) (hl : Q.length = n) (j : Nat) (hj : j < n) : j ∈ Q := by
  refine Classical.byContradiction fun hn => ?_
  have hd : (j :: Q).Nodup := List.nodup_cons.2 ⟨hn, h.nod⟩
  have hs : (j :: Q) ⊆ List.range n := fun i hi => by
    rw [List.mem_range]
    rcases List.mem_cons.1 hi with e | e
    · subst e; exact hj
    · exact h.lt i e
  have := List.Nodup.length_le_of_subset hd hs
  simp at this; omega
theorem Bfs.le {n : Nat} {nx : Nat → List Nat} {Q : List Nat} {R : List Bool} (h : Bfs n nx Q R) : Q.length ≤ n := by
  have hs : Q ⊆ List.range n := fun i hi => by rw [List.mem_range]; exact h.lt i hi
  have := List.Nodup.length_le_of_subset h.nod hs
  simpa using this
/-- What is known when all is found. -/
structure Found (n : Nat) (nx : Nat → List Nat) (R : List Bool) : Prop where
  len : R.length = n
  mark : ∀ j, j < n → (R[j]? = some true ↔ Reach nx j)
theorem Bfs.done {n : Nat} {nx : Nat → List Nat} {Q : List Nat} {R : List Bool} (h : Bfs n nx Q R) (hd : ∀ q, q ∈ Q → ∀ j, j ∈ nx q → j ∈ Q) : Found n nx R := by
  refine ⟨h.len, fun j hj => ?_⟩
  rw [h.mark j]
  refine ⟨h.reach j, fun hr => ?_⟩
  clear hj
  induction hr with
  | zero => exact h.zero
  | step _ hm ih => exact hd _ ih _ hm
theorem Bfs.all {n : Nat} {nx : Nat → List Nat} {Q : List Nat} {R : List Bool} (h : Bfs n nx Q R) (hl : Q.length = n) : Found n nx R :=
  ⟨h.len, fun j hj => by rw [h.mark j]; exact ⟨h.reach j, fun _ => h.full hl j hj⟩⟩
/-- What was gone through: behind the first k of the list, and m of what is behind the next one, all is found. -/
def Did (nx : Nat → List Nat) (Q : List Nat) (k : Nat) : Prop := ∀ i q, i < k → Q[i]? = some q → ∀ j, j ∈ nx q → j ∈ Q
theorem Did.more {nx : Nat → List Nat} {Q : List Nat} {k : Nat} (h : Did nx Q k) (hk : k ≤ Q.length) (P : List Nat) : Did nx (Q ++ P) k := fun i q hi hq j hj => by
  rw [List.getElem?_append_left (by omega)] at hq
  exact List.mem_append_left _ (h i q hi hq j hj)
theorem Did.all {nx : Nat → List Nat} {Q : List Nat} (h : Did nx Q Q.length) : ∀ q, q ∈ Q → ∀ j, j ∈ nx q → j ∈ Q := fun q hq j hj => by
  obtain ⟨i, hi, e⟩ := List.getElem_of_mem hq
  exact h i q hi (by rw [List.getElem?_eq_getElem hi, e]) j hj
theorem Did.succ {nx : Nat → List Nat} {Q : List Nat} {k q : Nat} (h : Did nx Q k) (hq : Q[k]? = some q) (hn : ∀ j, j ∈ nx q → j ∈ Q) : Did nx Q (k + 1) := fun i p hi hp j hj => by
  by_cases e : i = k
  · subst e; rw [hq] at hp; injection hp with hp; subst hp; exact hn j hj
  · exact h i p (by omega) hp j hj
theorem Found.false_ {n : Nat} {nx : Nat → List Nat} {R : List Bool} (h : Found n nx R) {j : Nat} (hj : j < n) (hr : ¬ Reach nx j) : R[j]? = some false := by
  have hl := h.len
  have e : R[j]? = some R[j] := List.getElem?_eq_getElem (by omega)
  cases hb : R[j]
  · rw [e, hb]
  · exact absurd ((h.mark j hj).1 (by rw [e, hb])) hr
theorem Found.bool {n : Nat} {nx : Nat → List Nat} {R : List Bool} (h : Found n nx R) (j : Nat) (hj : j < n) (hl : j < R.length) : R[j] = true ↔ Reach nx j := by
  rw [← h.mark j hj, List.getElem?_eq_getElem hl]; simp

/-- What stands ahead of a program, and is gone through. -/
structure Ahead (n : Nat) (M L : List In) : Prop where
  len : M.length = n + L.length
  ahead : ∀ k, k < n → opA M k = 183
  op : ∀ k, opA M (n + k) = opA L k
  off : ∀ k, offA M (n + k) = offA L k
def up (n : Nat) (z : Int) : Int := if z = -1 then -1 else z + n
theorem beg_ahead {n : Nat} {M L : List In} (h : Ahead n M L) (k : Nat) (hk : k ≤ n) : begN M k = (List.range k).map fun (j : Nat) => (j : Int) := by
  induction k with
  | zero => rfl
  | succ k ih => rw [begN_succ, ih (by omega), h.ahead k (by omega), List.range_succ, List.map_append]; rfl
theorem beg_moved {n : Nat} {M L : List In} (h : Ahead n M L) (k : Nat) : begN M (n + k) = (List.range n).map (fun (j : Nat) => (j : Int)) ++ (begN L k).map (up n) := by
  induction k with
  | zero => rw [Nat.add_zero, beg_ahead h n (Nat.le_refl _)]; simp [begN]
  | succ k ih =>
    rw [← Nat.add_assoc, begN_succ, ih, h.op k, begN_succ, List.map_append, List.append_assoc]
    congr 2
    have e1 : up n (k : Int) = ((n + k : Nat) : Int) := by unfold up; rw [if_neg (by omega)]; omega
    unfold begF
    by_cases e : opA L k = 24
    · rw [if_pos e]; simp [e1]; rfl
    · rw [if_neg e]; simp [e1]
theorem moved_val (n : Nat) (t : List Int) (z : Int) (hz : valAt t z ≠ -1) : valAt ((List.range n).map (fun (j : Nat) => (j : Int)) ++ t.map (up n)) (z + n) = valAt t z + n := by
  by_cases h : 0 ≤ z ∧ z < t.length
  · obtain ⟨k, rfl⟩ := Int.eq_ofNat_of_zero_le h.1
    have hk : k < t.length := by omega
    rw [valAt_in t k hk] at hz ⊢
    have hl : k + n < ((List.range n).map (fun (j : Nat) => (j : Int)) ++ t.map (up n)).length := by simp; omega
    have := valAt_in _ (k + n) hl
    rw [show ((k : Int) + (n : Int)) = ((k + n : Nat) : Int) by omega, this, List.getElem_append_right (by simp)]
    simp [up, hz]
  · exact absurd (valAt_out t z h) hz
theorem tgt_ahead {n : Nat} {M L : List In} (h : Ahead n M L) (k : Nat) (hk : k < n) : tgtV M k = -1 := by
  unfold tgtV; rw [h.ahead k hk]; rfl
theorem tgt_moved {n : Nat} {M L : List In} (h : Ahead n M L) (k : Nat) (ok : jmpV (opA L k) = true → tgtV L k ≠ -1) : tgtV M (n + k) = up n (tgtV L k) := by
  unfold tgtV
  rw [h.op, h.off]
  by_cases hj : jmpV (opA L k) = true
  · have h1 := ok hj
    unfold tgtV at h1
    rw [if_pos hj] at h1
    rw [if_pos hj, if_pos hj]
    have e : ((begN M (n + k + 1)).length : Int) = (begN L (k + 1)).length + n := by
      rw [Nat.add_assoc, beg_moved h]; simp; omega
    rw [e, h.len, beg_moved h, show ((begN L (k + 1)).length : Int) + n + offA L k = ((begN L (k + 1)).length + offA L k) + n by omega, moved_val n _ _ h1]
    unfold up; rw [if_neg h1]
  · rw [if_neg hj, if_neg hj]; rfl
theorem Good.moved {n : Nat} {M L : List In} (h : Ahead n M L) (g : Good L) (hn : n + L.length ≤ 256) : Good M := by
  have h0 := g.some_
  refine ⟨by rw [h.len]; omega, by rw [h.len]; exact hn, fun i hi hj => ?_, ?_⟩
  · rw [h.len] at hi
    by_cases hlt : i < n
    · rw [h.ahead i hlt] at hj; cases hj
    · obtain ⟨k, rfl⟩ : ∃ k, i = n + k := ⟨i - n, by omega⟩
      rw [h.op] at hj
      have h1 := g.jumps k (by omega) hj
      rw [tgt_moved h k (fun _ => h1)]
      unfold up
      rw [if_neg h1]
      unfold tgtV at h1 ⊢
      rw [if_pos hj] at h1 ⊢
      intro e
      have : ∀ z, valAt (begN L L.length) z ≠ -1 → 0 ≤ valAt (begN L L.length) z := fun z hz => by
        by_cases hr : 0 ≤ z ∧ z < (begN L L.length).length
        · obtain ⟨m, rfl⟩ := Int.eq_ofNat_of_zero_le hr.1
          have hm : m < (begN L L.length).length := by omega
          rw [valAt_in _ m hm] at hz ⊢
          rcases begN_ge L L.length _ (List.getElem_mem hm) with e | e
          · exact absurd e hz
          · exact e.1
        · exact absurd (valAt_out _ z hr) hz
      have := this _ h1
      omega
  · rw [h.len, show n + L.length - 1 = n + (L.length - 1) by omega, h.op]; exact g.last
theorem tgt_ge (L : List In) (k : Nat) : tgtV L k = -1 ∨ 0 ≤ tgtV L k := by
  unfold tgtV
  split
  · generalize hz : ((begN L (k + 1)).length : Int) + offA L k = z
    by_cases hr : 0 ≤ z ∧ z < (begN L L.length).length
    · obtain ⟨m, rfl⟩ := Int.eq_ofNat_of_zero_le hr.1
      have hm : m < (begN L L.length).length := by omega
      rw [valAt_in _ m hm]
      rcases begN_ge L L.length _ (List.getElem_mem hm) with e | e
      · exact .inl e
      · exact .inr e.1
    · exact .inl (valAt_out _ z hr)
  · exact .inl rfl
theorem valAt_tgts (L : List In) (n k : Nat) (hk : k < n) : valAt (tgts L n) k = tgtV L k := by
  rw [valAt_in _ k (by rw [tgts_len]; exact hk), tgts_get]
theorem ins_moved (n m : Nat) (z : Int) (hz : z = -1 ∨ 0 ≤ z) : insN (n + m) [up n z] = (insN m [z]).map (n + ·) := by
  unfold up
  rcases hz with rfl | hz
  · rw [if_pos rfl, insN_out _ _ (by omega), insN_out _ _ (by omega)]; rfl
  · rw [if_neg (by omega)]
    by_cases h : z < m
    · rw [insN_in _ _ (by omega), insN_in _ _ (by omega)]; simp; omega
    · rw [insN_out _ _ (by omega), insN_out _ _ (by omega)]; rfl
theorem nxt_ahead {n : Nat} {M L : List In} (h : Ahead n M L) (hL : 0 < L.length) (k : Nat) (hk : k < n) : nxt M (tgts M M.length) k = [k + 1] := by
  have hl := h.len
  have hv : valAt (tgts M M.length) k = -1 := by rw [valAt_tgts _ _ _ (by omega), tgt_ahead h k hk]
  have hno : ¬ (isOp 183 0 = true ∨ (-1 : Int) = (k : Int) + 1) := by
    rintro (h | h)
    · exact absurd h (by decide)
    · omega
  unfold nxt
  rw [if_pos (by omega), Int.toNat_natCast, h.ahead k hk, hv, if_neg (by decide), if_neg hno]
  have e : insN M.length [(k : Int) + 1, -1] = insN M.length [(k : Int) + 1] ++ insN M.length [-1] := insN_app _ [_] [_]
  rw [e, insN_in _ _ (by omega), insN_out _ _ (by omega)]
  simp
theorem nxt_moved {n : Nat} {M L : List In} (h : Ahead n M L) (g : Good L) (k : Nat) (hk : k < L.length) : nxt M (tgts M M.length) (n + k : Nat) = (nxt L (tgts L L.length) k).map (n + ·) := by
  have hl := h.len
  have e1 : valAt (tgts M M.length) (n + k : Nat) = up n (tgtV L k) := by rw [valAt_tgts _ _ _ (by omega), tgt_moved h k (g.jumps k hk)]
  have e2 : valAt (tgts L L.length) k = tgtV L k := valAt_tgts _ _ _ hk
  have e3 := tgt_ge L k
  unfold nxt
  rw [if_pos (show (0 : Int) ≤ ((n + k : Nat) : Int) ∧ ((n + k : Nat) : Int) < (M.length : Int) by omega), if_pos (show (0 : Int) ≤ (k : Int) ∧ (k : Int) < (L.length : Int) by omega), Int.toNat_natCast, Int.toNat_natCast, h.op, e1, e2]
  by_cases h9 : isOp (opA L k) 9 = true
  · rw [if_pos h9, if_pos h9]; rfl
  · rw [if_neg h9, if_neg h9]
    have e4 : (up n (tgtV L k) = ((n + k : Nat) : Int) + 1) ↔ (tgtV L k = (k : Int) + 1) := by unfold up; split <;> omega
    by_cases h0 : isOp (opA L k) 0 = true ∨ tgtV L k = (k : Int) + 1
    · rw [if_pos h0, if_pos (h0.imp id e4.2), hl, ins_moved _ _ _ e3]
    · rw [if_neg h0, if_neg (fun x => h0 (x.imp id e4.1)), hl]
      have a1 : insN (n + L.length) [((n + k : Nat) : Int) + 1, up n (tgtV L k)] = insN (n + L.length) [((n + k : Nat) : Int) + 1] ++ insN (n + L.length) [up n (tgtV L k)] := insN_app _ [_] [_]
      have a2 : insN L.length [(k : Int) + 1, tgtV L k] = insN L.length [(k : Int) + 1] ++ insN L.length [tgtV L k] := insN_app _ [_] [_]
      have a3 : (((n + k : Nat) : Int) + 1) = up n ((k : Int) + 1) := by unfold up; rw [if_neg (by omega)]; omega
      rw [a1, a2, a3, ins_moved _ _ _ e3, ins_moved _ _ _ (.inr (by omega)), List.map_append]
/-- Ways are moved too. -/
theorem reach_moved {n : Nat} {M L : List In} (h : Ahead n M L) (g : Good L) (k : Nat) (hk : k < L.length) :
    Reach (fun i => nxt M (tgts M M.length) i) (n + k) ↔ Reach (fun i => nxt L (tgts L L.length) i) k := by
  have hL := g.some_
  constructor
  · have key : ∀ j, Reach (fun i => nxt M (tgts M M.length) i) j → j < n ∨ ∃ i, j = n + i ∧ i < L.length ∧ Reach (fun i => nxt L (tgts L L.length) i) i := by
      intro j hj
      induction hj with
      | zero =>
        by_cases h0 : 0 < n
        · exact .inl h0
        · exact .inr ⟨0, by omega, hL, .zero⟩
      | @step a b _ hm ih =>
        rcases ih with ih | ⟨i, rfl, hi, hr⟩
        · simp only [nxt_ahead h hL a ih, List.mem_singleton] at hm
          subst hm
          by_cases h0 : a + 1 < n
          · exact .inl h0
          · exact .inr ⟨0, by omega, hL, .zero⟩
        · simp only [nxt_moved h g i hi, List.mem_map] at hm
          obtain ⟨c, hc, rfl⟩ := hm
          exact .inr ⟨c, rfl, nxt_lt _ _ _ _ hc, .step hr hc⟩
    intro hr
    rcases key _ hr with h1 | ⟨i, e, _, h2⟩
    · omega
    · obtain rfl : k = i := by omega
      exact h2
  · intro hr
    have base : ∀ a, a ≤ n → Reach (fun i => nxt M (tgts M M.length) i) a := by
      intro a
      induction a with
      | zero => exact fun _ => .zero
      | succ a ih => exact fun ha => .step (ih (by omega)) (by simp only [nxt_ahead h hL a (by omega), List.mem_singleton])
    clear hk
    have : ∀ j, Reach (fun i => nxt L (tgts L L.length) i) j → j < L.length ∧ Reach (fun i => nxt M (tgts M M.length) i) (n + j) := by
      intro j hj
      induction hj with
      | zero => exact ⟨hL, base n (Nat.le_refl _)⟩
      | @step a b _ hm ih => exact ⟨nxt_lt _ _ _ _ hm, .step ih.2 (by simp only [nxt_moved h g a ih.1, List.mem_map]; exact ⟨b, hm, rfl⟩)⟩
    exact (this k hr).2
end Fl
end Go.Proofs.Ytenddhhaelnnnaa
