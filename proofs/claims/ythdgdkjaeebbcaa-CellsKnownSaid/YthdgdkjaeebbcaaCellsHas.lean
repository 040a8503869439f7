/-
  The program's cells alone, of all memory: the contracts once more, without parts. Conditions: as they have.
-/
import Derived.Test.YthdgdkjaeebbcaaCellsProg7
namespace Go.Proofs.Ythdgdkjaeebbcaa
set_option maxRecDepth 100000
open Go.RowKit Ow Ph Ro K2
set_option linter.unusedVariables false
set_option linter.unusedSimpArgs false
/-- At P are the cells L; what was there in w0 is as it was. -/
def Has (w0 : World) (P : Nat) (L : List Cl) (w : World) : Prop := ∃ A, Lay w0 A w ∧ PS A P L
theorem Did.has {w0 w : World} {A : Ac} {P : Nat} {L : List Cl} (h : Did w0 A P L w) : Has w0 P L w := by
  obtain ⟨A', h1, h2, _⟩ := h
  exact ⟨A', h1, h2⟩
section
variable {w0 w w' : World} {P n : Nat} {L : List Cl}
theorem Has.below (h : Has w0 P L w) : Below w0.heap.size w0 w := by obtain ⟨A, h1, _⟩ := h; exact h1.below
theorem Has.grow (h : Has w0 P L w) (hb : Below w.heap.size w w') : Has w0 P L w' := by obtain ⟨A, h1, h2⟩ := h; exact ⟨A, h1.grow hb, h2⟩
theorem reads_lit {A : Ac} {r : Rl} {g : Nat} {cs : Array Value} {t : TypeId} (h : A r = some (g, .cells cs t)) : Reads w0 A r (some ⟨g, 0, none⟩) cs.toList := fun _ =>
  ⟨_, rfl, .inr ⟨_, h, fun w' hw j u hu => by
    have hb : Bk w' g t cs := hw
    rw [add_zero_at, hb.cell, ← hu, Array.getElem?_toList]⟩⟩
/-- A literal's row beside all that there is. -/
theorem lay_lit {A : Ac} (hl : Lay w0 A w) (hp : PS A P L) (r : Rl) (hr : 10 ≤ r.1) (cs : Array Value) (t : TypeId) : ∃ A', Lay w0 A' (w.alloc (.cells cs t)) ∧ PS A' P L ∧ Reads w0 A' r (some ⟨w.heap.size, 0, none⟩) cs.toList :=
  ⟨_, hl.new r (o := .cells cs t) ((Below.refl _ _).alloc (Nat.le_refl _) _) (Nat.le_refl _) (heap_alloc_new w _), hp.keep (fun x hx => up_other _ _ _ (fun e => by rw [e] at hx; omega)), reads_lit (up_same _ _ _ _)⟩
def NewH (w0 : World) (e : Ending) (w' : World) : Prop := ∃ P, e = .returned (.pointer (some ⟨P, 0, none⟩)) ∧ Has w0 P [] w'
theorem new_h (hb : Below w0.heap.size w0 w) : Calls Try.prog 13 #[] w (NewH w0) := by
  have hl : Lay w0 (fun _ => none) w := ⟨hb, fun _ _ _ h => (by cases h), fun _ _ _ _ _ h => (by cases h)⟩
  refine (new_c hl).mono fun e w' h => ?_
  obtain ⟨P, h1, h2⟩ := h
  exact ⟨P, h1, h2.has⟩
def IntH (w0 : World) (P : Nat) (k : Int) (L : List Cl) (e : Ending) (w' : World) : Prop := e = .returned (.int .i64 k) ∧ Has w0 P L w'
def BoolH (w0 : World) (P : Nat) (x : Bool × List Cl) (e : Ending) (w' : World) : Prop := e = .returned (.bool x.1) ∧ Has w0 P x.2 w'
def mkL (L : List Cl) (bs : List Int) : List Cl := L ++ [⟨bs.take 64, [], false, false⟩]
/-- Make of a slice that was there from the start. -/
theorem make_h (h : Has w0 P L w) (ho : OkL n L) (hn : n ≤ 300) (a : Option Addr) (len cp : Nat) (bs : List Int) (hlen : bs.length = len) (hm : len ≤ cp) (hm2 : cp ≤ 9223372036854775807) (h0 : a = none → len = 0 ∧ cp = 0) (hrd : Rd w0 w0.heap.size a (bv bs)) :
    Calls Try.prog 23 #[.pointer (some ⟨P, 0, none⟩), .slice a len cp] w (IntH w0 P ((L.length : Int) + 1) (mkL L bs)) := by
  obtain ⟨A, h1, h2⟩ := h
  refine (make_c h1 h2 ho hn a len cp bs hlen hm hm2 h0 (r := (90, 0)) (by simp) (Reads.old hrd A _)).mono fun e w' h => ?_
  exact ⟨h.1, h.2.has⟩
/-- Make of a literal. -/
theorem make_lit (h : Has w0 P L w) (ho : OkL n L) (hn : n ≤ 300) (cs : Array Value) (k : Nat) (bs : List Int) (hbs : cs.toList = bv bs) (hlen : bs.length = k) (hk : k ≤ 1000) :
    Calls Try.prog 23 #[.pointer (some ⟨P, 0, none⟩), .slice (some ⟨w.heap.size, 0, none⟩) k k] (w.alloc (.cells cs 5)) (IntH w0 P ((L.length : Int) + 1) (mkL L bs)) := by
  obtain ⟨A, h1, h2⟩ := h
  obtain ⟨A', h3, h4, h5⟩ := lay_lit h1 h2 (90, 0) (by simp) cs 5
  rw [hbs] at h5
  refine (make_c h3 h4 ho hn (some ⟨w.heap.size, 0, none⟩) k k bs hlen (Nat.le_refl _) (by omega) (fun e => by cases e) (r := (90, 0)) (by simp) h5).mono fun e w' h => ?_
  exact ⟨h.1, h.2.has⟩
theorem size_h (h : Has w0 P L w) (id : Int) : Calls Try.prog 25 #[.pointer (some ⟨P, 0, none⟩), .int .i64 id] w fun e w' => e = .returned (.int .i64 (szC L id : Nat)) ∧ w = w' := by
  obtain ⟨A, h1, h2⟩ := h; exact size_any h1 h2 id
theorem version_h (h : Has w0 P L w) (id : Int) : Calls Try.prog 20 #[.pointer (some ⟨P, 0, none⟩), .int .i64 id] w fun e w' => e = .returned (.int .i64 (vsC L id : Nat)) ∧ Below w.heap.size w w' := by
  obtain ⟨A, h1, h2⟩ := h; exact version_any h1 h2 id
theorem bytes_h (h : Has w0 P L w) (ho : OkL n L) (id : Int) : Calls Try.prog 19 #[.pointer (some ⟨P, 0, none⟩), .int .i64 id] w fun e w' => ∃ v, e = .returned v ∧ OwnB w v w' (bsC L id) := by
  obtain ⟨A, h1, h2⟩ := h; exact bytes_any h1 h2 ho id
theorem load_h (h : Has w0 P L w) (ho : OkL n L) (id off size : Int) (r : Option Int) (hr : ldC L id off size = r) : Calls Try.prog 26 #[.pointer (some ⟨P, 0, none⟩), .int .i64 id, .int .i64 off, .int .i64 size] w fun e w' => e = .returned (ldV r) ∧ w = w' := by
  subst hr; obtain ⟨A, h1, h2⟩ := h; exact load_any h1 h2 ho id off size
theorem store_h (h : Has w0 P L w) (ho : OkL n L) (hn : n ≤ 300) (id off size v now : Int) (hv : 0 ≤ v ∧ v < 18446744073709551616) (hnow : i64 now) (x : Bool × List Cl) (hx : stC L id off size v now = x) :
    Calls Try.prog 24 #[.pointer (some ⟨P, 0, none⟩), .int .i64 id, .int .i64 off, .int .i64 size, .int .u64 v, .int .i64 now] w (BoolH w0 P x) := by
  subst hx; obtain ⟨A, h1, h2⟩ := h
  exact (store_c h1 h2 ho hn id off size v now hv hnow).mono fun e w' h => ⟨h.1, h.2.has⟩
theorem write_h (h : Has w0 P L w) (ho : OkL n L) (hn : n ≤ 300) (id now : Int) (hnow : i64 now) (ab : Option Addr) (lenb capb : Nat) (b : List Int) (hlb : b.length = lenb) (hm1 : lenb ≤ 9223372036854775807) (hrd : Rd w0 w0.heap.size ab (bv b)) (x : Bool × List Cl) (hx : wrC L id b now = x) :
    Calls Try.prog 40 #[.pointer (some ⟨P, 0, none⟩), .int .i64 id, .slice ab lenb capb, .int .i64 now] w (BoolH w0 P x) := by
  subst hx; obtain ⟨A, h1, h2⟩ := h
  exact (write_c h1 h2 ho hn id now hnow ab lenb capb b hlb hm1 (r := (90, 0)) (by simp) (Reads.old hrd A _)).mono fun e w' h => ⟨h.1, h.2.has⟩
theorem drop_h (h : Has w0 P L w) (hn : L.length ≤ 900) (id : Int) (x : Bool × List Cl) (hx : drC L id = x) :
    Calls Try.prog 28 #[.pointer (some ⟨P, 0, none⟩), .int .i64 id] w (BoolH w0 P x) := by
  subst hx; obtain ⟨A, h1, h2⟩ := h
  exact (drop_c h1 h2 (n := 0) (fun m es c D E ds hx => by have := hx.dlen; omega) id).mono fun e w' h => ⟨h.1, h.2.has⟩
/-- How many are dropped, and there. -/
def isG (L : List Cl) (k : Nat) : Bool := match gt L (k : Int) with | none => false | some c => c.gone
def isL (L : List Cl) (k : Nat) : Bool := (gt L (k : Int)).isSome
def nG (L : List Cl) : Nat := ((List.range (L.length + 1)).filter (isG L)).length
def nL (L : List Cl) : Nat := ((List.range (L.length + 1)).filter (isL L)).length
theorem sub_len {l1 l2 : List Nat} (h1 : l1.Nodup) (h : ∀ x ∈ l1, x ∈ l2) : l1.length ≤ l2.length := by
  induction l1 generalizing l2 with
  | nil => simp
  | cons a l ih =>
    rw [List.nodup_cons] at h1
    have ha := h a (by simp)
    have := ih (l2 := l2.erase a) h1.2 fun x hx => by
      refine (List.mem_erase_of_ne ?_).2 (h x (by simp [hx]))
      intro e; subst e; exact h1.1 hx
    rw [List.length_erase_of_mem ha] at this
    have := List.length_pos_of_mem ha
    simp only [List.length_cons]
    omega
theorem same_len {l1 l2 : List Nat} (h1 : l1.Nodup) (h2 : l2.Nodup) (h : ∀ x, x ∈ l1 ↔ x ∈ l2) : l1.length = l2.length := Nat.le_antisymm (sub_len h1 fun x hx => (h x).1 hx) (sub_len h2 fun x hx => (h x).2 hx)
theorem gone_len {A : Ac} {m : Nat} {es : Array MapEntry} {c : Nat} {D : Value} {E : List En} {ds : List Nat} (h : PSx A P L m es c D E ds) : ds.length = nG L := by
  refine same_len h.dnd (List.nodup_range.filter _) fun x => ?_
  rw [h.dmem, List.mem_filter, List.mem_range]
  unfold isG
  constructor
  · rintro ⟨c, h1, h2⟩
    have := gt_some h1
    rw [h1]
    exact ⟨by omega, h2⟩
  · rintro ⟨_, h2⟩
    cases hg : gt L (x : Int) with
    | none => rw [hg] at h2; cases h2
    | some c => rw [hg] at h2; exact ⟨c, rfl, h2⟩
theorem live_len {A : Ac} {m : Nat} {es : Array MapEntry} {c : Nat} {D : Value} {E : List En} {ds : List Nat} (h : PSx A P L m es c D E ds) : E.length = nL L := by
  have h0 : E.length = (E.map (·.1)).length := by simp
  rw [h0]
  refine same_len h.ents.nodup (List.nodup_range.filter _) fun x => ?_
  rw [List.mem_filter, List.mem_range]
  unfold isL
  constructor
  · intro hx
    obtain ⟨e, he, rfl⟩ := List.mem_map.1 hx
    obtain ⟨c, s, h1, _⟩ := h.cells e.1 e.2 he
    have := gt_some h1
    rw [h1]
    exact ⟨by omega, rfl⟩
  · rintro ⟨_, h2⟩
    cases hg : gt L (x : Int) with
    | none => rw [hg] at h2; cases h2
    | some c =>
      obtain ⟨q, hq⟩ := h.all x c hg
      exact List.mem_map.2 ⟨_, hq, rfl⟩
theorem sweep_h (h : Has w0 P L w) (hn : L.length ≤ 900) (k : Int) (hk : (nG L : Int) = k) (L' : List Cl) (hL' : swL L = L') :
    Calls Try.prog 29 #[.pointer (some ⟨P, 0, none⟩)] w (IntH w0 P k L') := by
  subst hk hL'; obtain ⟨A, h1, m, es, c, D, E, ds, hx⟩ := h
  rw [← gone_len hx]
  exact (sweep_c h1 hx (by omega)).mono fun e w' h => ⟨h.1, h.2.has⟩
theorem live_h (h : Has w0 P L w) (hn : L.length ≤ 900) (k : Int) (hk : (nL L : Int) - nG L = k) :
    Calls Try.prog 16 #[.pointer (some ⟨P, 0, none⟩)] w fun e w' => e = .returned (.int .i64 k) ∧ Below w.heap.size w w' := by
  subst hk; obtain ⟨A, h1, m, es, c, D, E, ds, hx⟩ := h
  have h2 := hx.elen
  have h3 := hx.dlen
  have := live_any h1 hx (by omega) (by omega)
  rw [live_len hx, gone_len hx] at this
  exact this
end
end Go.Proofs.Ythdgdkjaeebbcaa
