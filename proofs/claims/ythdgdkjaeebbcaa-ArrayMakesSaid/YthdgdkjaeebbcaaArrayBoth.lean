/-
  Layer 9: the program's cells and array beside the document's: contracts. Conditions: 900 cells at most.
-/
import Derived.Test.YthdgdkjaeebbcaaArrayRef
import Derived.Test.YthdgdkjaeebbcaaArrayWorks
import Derived.Test.YthdgdkjaeebbcaaCellsAlike
namespace Go.Proofs.Ythdgdkjaeebbcaa
set_option maxRecDepth 100000
open Go.RowKit Ow Ph Ro K2
set_option linter.unusedVariables false
set_option linter.unusedSimpArgs false
/-- Cells of noughts alone. -/
def ZL (L : List Cl) : Prop := ∀ c ∈ L, ∃ s, s ≤ 64 ∧ c = zc s
theorem ZL.nil : ZL [] := fun c h => by simp at h
theorem ZL.app {L : List Cl} (h : ZL L) (n s : Nat) (hs : s ≤ 64) : ZL (L ++ List.replicate n (zc s)) := fun c hc => by
  rcases List.mem_append.1 hc with h1 | h1
  · exact h c h1
  · exact ⟨s, hs, List.eq_of_mem_replicate h1⟩
theorem zc_ok (n s : Nat) (hs : s ≤ 64) : OkC n (zc s) :=
  ⟨fun b hb => by rw [List.eq_of_mem_replicate hb]; omega, by simpa [zc] using hs, by simp [zc], fun t ht => by simp [zc] at ht, fun h => by simp [zc] at h⟩
theorem ZL.ok {L : List Cl} (h : ZL L) {n : Nat} (hn : L.length ≤ n) : OkL n L := ⟨hn, fun c hc => by obtain ⟨s, hs, rfl⟩ := h c hc; exact zc_ok n s hs⟩
def Three (w0 : World) (P X : Nat) (L1 L : List Cl) (G : Nat) (xs : List Nat) (w : World) : Prop := ∃ A, Lay w0 A w ∧ PS A P L1 ∧ RS w0 A X L ∧ ArrAt 86 20 A 0 G xs
def Four (w0 : World) (P X : Nat) (L : List Cl) (G G2 : Nat) (xs : List Nat) (w : World) : Prop := ∃ A, Lay w0 A w ∧ PS A P L ∧ RS w0 A X L ∧ ArrAt 86 20 A 0 G xs ∧ ArrAt 87 22 A 0 G2 xs
def Five (w0 : World) (P X : Nat) (L : List Cl) (G G2 : Nat) (xs : List Nat) (v : Value) (bs : List Int) (w : World) : Prop :=
  ∃ A, Lay w0 A w ∧ PS A P L ∧ RS w0 A X L ∧ ArrAt 86 20 A 0 G xs ∧ ArrAt 87 22 A 0 G2 xs ∧ Row A (30, 0) 5 1 v bs.length (bv bs)
section
variable {w0 w w' : World} {P X G G2 : Nat} {L : List Cl} {xs : List Nat} {v : Value} {bs : List Int}
theorem Two.drew (h : Two w0 P X L w) : Two w0 P X L w.drew := by obtain ⟨A, h1, h2⟩ := h; exact ⟨A, h1.drew, h2⟩
theorem Two.below (h : Two w0 P X L w) : Below w0.heap.size w0 w := by obtain ⟨A, h1, h2⟩ := h; exact h1.below
theorem Three.drew {L1 : List Cl} (h : Three w0 P X L1 L G xs w) : Three w0 P X L1 L G xs w.drew := by obtain ⟨A, h1, h2⟩ := h; exact ⟨A, h1.drew, h2⟩
theorem Three.below {L1 : List Cl} (h : Three w0 P X L1 L G xs w) : Below w0.heap.size w0 w := by obtain ⟨A, h1, h2⟩ := h; exact h1.below
theorem Four.below (h : Four w0 P X L G G2 xs w) : Below w0.heap.size w0 w := by obtain ⟨A, h1, h2⟩ := h; exact h1.below
theorem Four.grow (h : Four w0 P X L G G2 xs w) (hb : Below w.heap.size w w') : Four w0 P X L G G2 xs w' := by obtain ⟨A, h1, h2⟩ := h; exact ⟨A, h1.grow hb, h2⟩
theorem Five.grow (h : Five w0 P X L G G2 xs v bs w) (hb : Below w.heap.size w w') : Five w0 P X L G G2 xs v bs w' := by obtain ⟨A, h1, h2⟩ := h; exact ⟨A, h1.grow hb, h2⟩
theorem Five.four (h : Five w0 P X L G G2 xs v bs w) : Four w0 P X L G G2 xs w := by obtain ⟨A, h1, h2, h3, h4, h5, h6⟩ := h; exact ⟨A, h1, h2, h3, h4, h5⟩
theorem Four.two (h : Four w0 P X L G G2 xs w) : Two w0 P X L w := by obtain ⟨A, h1, h2, h3, _⟩ := h; exact ⟨A, h1, h2, h3⟩
theorem Four.has (h : Four w0 P X L G G2 xs w) : Has w0 P L w := by obtain ⟨A, h1, h2, _⟩ := h; exact ⟨A, h1, h2⟩
def TwoNew (w0 : World) (P : Nat) (e : Ending) (w' : World) : Prop := ∃ X, e = .returned (.pointer (some ⟨X, 0, none⟩)) ∧ Two w0 P X [] w'
theorem rnew_h (h : Has w0 P [] w) : Calls Try.prog 14 #[] w (TwoNew w0 P) := by
  obtain ⟨A, h1, h2⟩ := h
  refine (rnew_c h1).mono fun e w' hm => ?_
  obtain ⟨X, rfl, A', h3, h4, h5⟩ := hm
  exact ⟨X, rfl, A', h3, h2.keep (fun x hx => h5 x (by omega)), h4⟩
def NewT (w0 : World) (P X : Nat) (L : List Cl) (n sz : Nat) (e : Ending) (w' : World) : Prop := ∃ G, e = .returned (.pointer (some ⟨G, 0, none⟩)) ∧ Three w0 P X (L ++ List.replicate n (zc sz)) L G (List.range' (L.length + 1) n) w'
theorem arrnew_t (h : Two w0 P X L w) (hn : L.length ≤ 800) (m s : Int) (hm : i64 m) (hs : i64 s) (n sz : Nat) (e1 : cl64 m = n) (e2 : cl64 s = sz) :
    Calls Try.prog 31 #[.pointer (some ⟨P, 0, none⟩), .int .i64 m, .int .i64 s] w (NewT w0 P X L n sz) := by
  subst e1 e2
  obtain ⟨A, h1, h2, h3⟩ := h
  refine (arrnew_c h1 h2 0 hn m s hm.1 hm.2 hs.1 hs.2).mono fun e w' h => ?_
  obtain ⟨G, A', h4, h5, h6, h7, h8⟩ := h
  exact ⟨G, h4, A', h5, h6, h3.keep (fun x hx hx2 => h8 x hx (fun e => by rw [e] at hx2; simp at hx2) (fun e => by rw [e] at hx2; simp at hx2) (fun e => by rw [e] at hx2; simp at hx2)), h7⟩
def NewF (w0 : World) (P X : Nat) (L : List Cl) (G : Nat) (n : Nat) (b : Nat) (e : Ending) (w' : World) : Prop := ∃ G2, e = .returned (.pointer (some ⟨G2, 0, none⟩)) ∧ Four w0 P X L G G2 (List.range' (b + 1) n) w'
theorem rarrnew_t {n sz b : Nat} (h : Three w0 P X (L ++ List.replicate n (zc sz)) L G (List.range' (b + 1) n) w) (hb : L.length = b) (hn : b ≤ 800) (m s : Int) (hm : i64 m) (hs : i64 s) (e1 : cl64 m = n) (e2 : cl64 s = sz) :
    Calls Try.prog 32 #[.pointer (some ⟨X, 0, none⟩), .int .i64 m, .int .i64 s] w (NewF w0 P X (L ++ List.replicate n (zc sz)) G n b) := by
  subst e1 e2 hb
  obtain ⟨A, h1, h2, h3, h9⟩ := h
  refine (rarrnew_c h1 h3 0 hn m s hm.1 hm.2 hs.1 hs.2).mono fun e w' h => ?_
  obtain ⟨G2, A', h4, h5, h6, h7, h8⟩ := h
  have f : ∀ x : Rl, x.1 < 10 ∨ x.1 = 20 ∨ x.1 = 21 → A' x = A x := fun x hx => h8 x (by omega) (fun e => by rw [e] at hx; simp at hx) (fun e => by rw [e] at hx; simp at hx) (fun e => by rw [e] at hx; simp at hx)
  exact ⟨G2, h4, A', h5, h2.keep (fun x hx => f x (.inl hx)), h6, h9.keep (f _ (by simp)) (f _ (by simp)), h7⟩
theorem four_len (h : Four w0 P X L G G2 xs w) (n : Nat) (hn : xs.length = n) : Calls Try.prog 33 #[.pointer (some ⟨G, 0, none⟩)] w fun e w' => e = .returned (.int .i64 (n : Nat)) ∧ w = w' := by
  subst hn; obtain ⟨A, h1, h2, h3, h4, h5⟩ := h; exact arrlen_c h1 h4
theorem four_rlen (h : Four w0 P X L G G2 xs w) (n : Nat) (hn : xs.length = n) : Calls Try.prog 34 #[.pointer (some ⟨G2, 0, none⟩)] w fun e w' => e = .returned (.int .i64 (n : Nat)) ∧ w = w' := by
  subst hn; obtain ⟨A, h1, h2, h3, h4, h5⟩ := h; exact rarrlen_c h1 h5
theorem four_cell (h : Four w0 P X L G G2 xs w) (i : Int) (hi : i64 i) (x : Int) (ok : Bool) (hr : cellA xs i = (x, ok)) : Calls Try.prog 35 #[.pointer (some ⟨G, 0, none⟩), .int .i64 i] w fun e w' => e = .returned (.tuple #[.int .i64 x, .bool ok]) ∧ w = w' := by
  obtain ⟨A, h1, h2, h3, h4, h5⟩ := h; have := arrcell_c h1 h4 i hi.1 hi.2; rw [hr] at this; exact this
theorem four_rcell (h : Four w0 P X L G G2 xs w) (i : Int) (hi : i64 i) (x : Int) (ok : Bool) (hr : cellA xs i = (x, ok)) : Calls Try.prog 36 #[.pointer (some ⟨G2, 0, none⟩), .int .i64 i] w fun e w' => e = .returned (.tuple #[.int .i64 x, .bool ok]) ∧ w = w' := by
  obtain ⟨A, h1, h2, h3, h4, h5⟩ := h; have := rarrcell_c h1 h5 i hi.1 hi.2; rw [hr] at this; exact this
theorem four_rlive (h : Four w0 P X L G G2 xs w) (hn : L.length ≤ 900) (k : Int) (hk : (lv L : Int) = k) : Calls Try.prog 17 #[.pointer (some ⟨X, 0, none⟩)] w fun e w' => e = .returned (.int .i64 k) ∧ w = w' := by
  subst hk; obtain ⟨A, h1, h2, h3, h4, h5⟩ := h; exact rlive_c h1 h3 (by omega)
theorem four_rsize (h : Four w0 P X L G G2 xs w) (hn : L.length ≤ 900) (id : Int) (hi : i64 id) : Calls Try.prog 37 #[.pointer (some ⟨X, 0, none⟩), .int .i64 id] w fun e w' => e = .returned (.int .i64 (szC L id : Nat)) ∧ w = w' := by
  obtain ⟨A, h1, h2, h3, h4, h5⟩ := h; exact rsize_c h1 h3 (by omega) id hi.1 hi.2
def BytesF (w0 : World) (P X : Nat) (L : List Cl) (G G2 : Nat) (xs : List Nat) (bs : List Int) (n : Nat) (e : Ending) (w' : World) : Prop := ∃ a c, e = .returned (.slice a n c) ∧ Five w0 P X L G G2 xs (.slice a n c) bs w'
theorem four_bytes (h : Four w0 P X L G G2 xs w) {m : Nat} (ho : OkL m L) (id : Int) (n : Nat) (hb : bsC L id = bs) (hn : bs.length = n) :
    Calls Try.prog 19 #[.pointer (some ⟨P, 0, none⟩), .int .i64 id] w (BytesF w0 P X L G G2 xs bs n) := by
  subst hb hn
  obtain ⟨A, h1, h2, h3, h4, h5⟩ := h
  refine (bytes_any h1 h2 ho id).mono fun e w' h => ?_
  obtain ⟨v, rfl, q⟩ := h
  obtain ⟨A1, l1, r1, e1⟩ := h1.newRow (30, 0) q.below q.own (Nat.le_refl _)
  obtain ⟨a1, c1, rfl, _, _, _⟩ := r1.form2
  exact ⟨a1, c1, rfl, A1, l1, h2.keep fun x hx => e1 x (fun e => by rw [e] at hx; simp at hx), h3.keep fun x _ hx => e1 x (fun e => by rw [e] at hx; simp at hx), h4.keep (e1 _ (by simp)) (e1 _ (by simp)), h5.keep (e1 _ (by simp)) (e1 _ (by simp)), r1⟩
theorem five_rbytes (h : Five w0 P X L G G2 xs v bs w) (hL : L.length ≤ 900) {m : Nat} (ho : OkL m L) (id : Int) (hi : i64 id) (hb : bsC L id = bs) :
    Calls Try.prog 38 #[.pointer (some ⟨X, 0, none⟩), .int .i64 id] w fun e w' => ∃ v, e = .returned v ∧ OwnB w v w' bs := by
  subst hb
  obtain ⟨A, h1, h2, h3, h4, h5, h6⟩ := h
  exact rbytes_c h1 h3 ho (by omega) id hi.1 hi.2
theorem five_same {a a2 : Option Addr} {n c c2 : Nat} (h : Five w0 P X L G G2 xs (.slice a n c) bs w) (hn : bs.length = n) (h64 : n ≤ 64) (h2 : Rd w w.heap.size a2 (bv bs)) :
    Calls Try.prog 22 #[.slice a n c, .slice a2 n c2] w fun e w' => e = .returned (.bool true) ∧ Below w.heap.size w w' := by
  obtain ⟨A, h1, _, _, _, _, h6⟩ := h
  rw [hn] at h6
  have := samebytes_any a a2 n n c c2 bs bs hn hn (by omega) (by omega) w ((h6.reads (w0 := w0)).rd h1) h2
  rw [decide_eq_true (rfl : bs = bs)] at this
  exact this
end
theorem cellA_bd (b n : Nat) (i : Int) : 0 ≤ (cellA (List.range' (b + 1) n) i).1 ∧ (cellA (List.range' (b + 1) n) i).1 ≤ b + n := by
  unfold cellA
  split
  · rename_i h
    rw [List.length_range'] at h
    dsimp only
    rw [List.getD_eq_getElem?_getD, List.getElem?_range' (by omega)]
    simp
    omega
  · simp; omega
theorem bsC_le {n : Nat} {L : List Cl} (ho : OkL n L) (id : Int) : (bsC L id).length ≤ 64 := by
  unfold bsC
  cases hg : gt L id with
  | none => exact Nat.zero_le _
  | some c => exact (gt_ok ho hg).len
end Go.Proofs.Ythdgdkjaeebbcaa
