/-
  Layer 9: two arrays with one set of cells: contracts. Conditions: 300 cells at most.
-/
import Derived.Test.YthdgdkjaeebbcaaArrayWorks
import Derived.Test.YthdgdkjaeebbcaaCellsCount
import Derived.Test.YthdgdkjaeebbcaaCellsMath2
namespace Go.Proofs.Ythdgdkjaeebbcaa
set_option maxRecDepth 100000
open Go.RowKit Ow Ph Ro K2
set_option linter.unusedVariables false
set_option linter.unusedSimpArgs false
/-- A row is copied over, from its beginning on. -/
theorem row_over {w0 w : World} {A : Ac} {r : Rl} {t : TypeId} {n cap g : Nat} {cur : Array Value} {xs cs : List Value} (hl : Lay w0 A w) (hA : A r = some (g, .cells cur t)) (h1 : n ≤ cap) (h2 : cap ≤ maxLen) (h3 : cur.size = cap * 1) (h4 : cur.toList.take (n * 1) = xs) (hcs : cs.length ≤ n) :
    ∃ A', Lay w0 A' (w.setRow g (cur.toList.take 0 ++ (cs ++ cur.toList.drop (0 + cs.length))).toArray) ∧ Row A' r t 1 (.slice (some ⟨g, 0, none⟩) n cap) n (cs ++ xs.drop cs.length) ∧ ∀ x, x ≠ r → A' x = A x := by
  have hxl : xs.length = n := by subst h4; simp; omega
  refine ⟨A.up r g (.cells (cur.toList.take 0 ++ (cs ++ cur.toList.drop (0 + cs.length))).toArray t), hl.put hA ?_ (setRow_heap w g cur _ t _ (hl.obj hA)), ⟨by rw [List.length_append, List.length_drop, hxl]; omega, .inr ⟨g, cap, _, rfl, up_same _ _ _ _, h1, h2, ?_, ?_⟩⟩, fun x hx => up_other _ _ _ hx⟩
  · exact ⟨rfl, rfl, rfl, by simp [World.setRow], fun k hk hne => setRow_other w g k _ (fun e => hne (by rw [e]))⟩
  · simp; omega
  · subst h4
    simp only [List.take_zero, List.nil_append, Nat.zero_add, Nat.mul_one]
    rw [List.take_append, List.take_of_length_le hcs, List.drop_take]
/-- Two arrays, the bytes to be written, the numbers seen. -/
def Ap (w0 : World) (P : Nat) (L : List Cl) (G n1 G2 n2 : Nat) (vd : Value) (D : List Int) (vs : Value) (k : Nat) (w : World) : Prop :=
  ∃ A, Lay w0 A w ∧ PS A P L ∧ ArrAt 86 20 A 0 G (List.range' 1 n1) ∧ ArrAt 86 20 A 1 G2 (List.range' (n1 + 1) n2) ∧ Row A (32, 0) 5 1 vd D.length (bv D) ∧ Row A (33, 0) 3 1 vs k (dv (List.range' 1 k))
def Ap1 (w0 : World) (P : Nat) (L : List Cl) (G n1 G2 n2 : Nat) (vd : Value) (D : List Int) (vs : Value) (k : Nat) (v : Value) (bs : List Int) (w : World) : Prop :=
  ∃ A, Lay w0 A w ∧ PS A P L ∧ ArrAt 86 20 A 0 G (List.range' 1 n1) ∧ ArrAt 86 20 A 1 G2 (List.range' (n1 + 1) n2) ∧ Row A (32, 0) 5 1 vd D.length (bv D) ∧ Row A (33, 0) 3 1 vs k (dv (List.range' 1 k)) ∧ Row A (34, 0) 5 1 v bs.length (bv bs)
section
variable {w0 w w' : World} {P G n1 G2 n2 k n : Nat} {L : List Cl} {vd vs v : Value} {D bs : List Int}
theorem Ap.below (h : Ap w0 P L G n1 G2 n2 vd D vs k w) : Below w0.heap.size w0 w := by obtain ⟨A, h1, h2⟩ := h; exact h1.below
theorem Ap.grow (h : Ap w0 P L G n1 G2 n2 vd D vs k w) (hb : Below w.heap.size w w') : Ap w0 P L G n1 G2 n2 vd D vs k w' := by obtain ⟨A, h1, h2⟩ := h; exact ⟨A, h1.grow hb, h2⟩
theorem Ap1.grow (h : Ap1 w0 P L G n1 G2 n2 vd D vs k v bs w) (hb : Below w.heap.size w w') : Ap1 w0 P L G n1 G2 n2 vd D vs k v bs w' := by obtain ⟨A, h1, h2⟩ := h; exact ⟨A, h1.grow hb, h2⟩
theorem Ap1.ap (h : Ap1 w0 P L G n1 G2 n2 vd D vs k v bs w) : Ap w0 P L G n1 G2 n2 vd D vs k w := by obtain ⟨A, h1, h2, h3, h4, h5, h6, h7⟩ := h; exact ⟨A, h1, h2, h3, h4, h5, h6⟩
theorem Ap.has (h : Ap w0 P L G n1 G2 n2 vd D vs k w) : Has w0 P L w := by obtain ⟨A, h1, h2, _⟩ := h; exact ⟨A, h1, h2⟩
def NewB (w0 : World) (P : Nat) (L : List Cl) (G n1 n2 : Nat) (e : Ending) (w' : World) : Prop := ∃ G2, e = .returned (.pointer (some ⟨G2, 0, none⟩)) ∧ Ap w0 P L G n1 G2 n2 (.slice none 0 0) [] (.slice none 0 0) 0 w'
theorem arrnew_b {sz : Nat} (h : HasA w0 P L G (List.range' (([] : List Cl).length + 1) n1) w) (hL : L.length = n1) (hn : n1 ≤ 800) (m s : Int) (hm : i64 m) (hs : i64 s) (e1 : cl64 m = n2) (e2 : cl64 s = sz) (L2 : List Cl) (hL2 : L ++ List.replicate n2 (zc sz) = L2) :
    Calls Try.prog 31 #[.pointer (some ⟨P, 0, none⟩), .int .i64 m, .int .i64 s] w (NewB w0 P L2 G n1 n2) := by
  subst e1 e2 hL2
  obtain ⟨A, h1, h2, h3⟩ := h
  refine (arrnew_c h1 h2 1 (by omega) m s hm.1 hm.2 hs.1 hs.2).mono fun e w' h => ?_
  obtain ⟨G2, A', h4, h5, h6, h7, h8⟩ := h
  rw [hL] at h7
  exact ⟨G2, h4, A', h5, h6, h3.keep (h8 _ (by simp) (by simp) (by simp) (by simp)) (h8 _ (by simp) (by simp) (by simp) (by simp)), h7, Row.nil _ _ _ _, Row.nil _ _ _ _⟩
theorem ap_len (h : Ap w0 P L G n1 G2 n2 vd D vs k w) : Calls Try.prog 33 #[.pointer (some ⟨G, 0, none⟩)] w fun e w' => e = .returned (.int .i64 (n1 : Nat)) ∧ w = w' := by
  obtain ⟨A, h1, h2, h3, h4, h5⟩ := h; have := arrlen_c h1 h3; rwa [List.length_range'] at this
theorem ap_len2 (h : Ap w0 P L G n1 G2 n2 vd D vs k w) : Calls Try.prog 33 #[.pointer (some ⟨G2, 0, none⟩)] w fun e w' => e = .returned (.int .i64 (n2 : Nat)) ∧ w = w' := by
  obtain ⟨A, h1, h2, h3, h4, h5⟩ := h; have := arrlen_c h1 h4; rwa [List.length_range'] at this
theorem cellA_in (a n j : Nat) (hj : j < n) : cellA (List.range' a n) (j : Int) = (((a + j : Nat) : Int), true) := by
  unfold cellA
  rw [if_pos (by rw [List.length_range']; omega)]
  congr 1
  rw [show ((j : Int)).toNat = j by omega, List.getD_eq_getElem?_getD, List.getElem?_range' (by omega)]
  simp
theorem cellA_no (a n j : Nat) (hj : n ≤ j) : cellA (List.range' a n) (j : Int) = (0, false) := by
  unfold cellA
  rw [if_neg (by rw [List.length_range']; omega)]
theorem ap_cell (h : Ap w0 P L G n1 G2 n2 vd D vs k w) (j : Nat) (hj : j ≤ 1000) (x : Int) (ok : Bool) (hx : cellA (List.range' 1 n1) (j : Int) = (x, ok)) : Calls Try.prog 35 #[.pointer (some ⟨G, 0, none⟩), .int .i64 (j : Int)] w fun e w' => e = .returned (.tuple #[.int .i64 x, .bool ok]) ∧ w = w' := by
  obtain ⟨A, h1, h2, h3, h4, h5⟩ := h; have := arrcell_c h1 h3 (j : Int) (by omega) (by omega); rw [hx] at this; exact this
theorem ap_cell2 (h : Ap w0 P L G n1 G2 n2 vd D vs k w) (j : Nat) (hj : j ≤ 1000) (x : Int) (ok : Bool) (hx : cellA (List.range' (n1 + 1) n2) (j : Int) = (x, ok)) : Calls Try.prog 35 #[.pointer (some ⟨G2, 0, none⟩), .int .i64 (j : Int)] w fun e w' => e = .returned (.tuple #[.int .i64 x, .bool ok]) ∧ w = w' := by
  obtain ⟨A, h1, h2, h3, h4, h5⟩ := h; have := arrcell_c h1 h4 (j : Int) (by omega) (by omega); rw [hx] at this; exact this
theorem Ap.data {ad : Addr} {s : Nat} (h : Ap w0 P L G n1 G2 n2 vd D vs k w) (ho : w'.ownsRow w.heap.size 5 1 (.slice (some ad) s s) s (List.replicate s (.int .u8 0))) (hb : Below w.heap.size w w') :
    Ap w0 P L G n1 G2 n2 (.slice (some ad) s s) (List.replicate s 0) vs k w' := by
  obtain ⟨A, h1, h2, h3, h4, h5, h6⟩ := h
  obtain ⟨A2, l1, r1, e1⟩ := h1.newRow (32, 0) hb ho (Nat.le_refl _)
  refine ⟨A2, l1, h2.keep (fun x hx => e1 x (fun e => by rw [e] at hx; simp at hx)), h3.keep (e1 _ (by simp)) (e1 _ (by simp)), h4.keep (e1 _ (by simp)) (e1 _ (by simp)), ?_, h6.keep (e1 _ (by simp))⟩
  rw [List.length_replicate]
  unfold bv
  rw [List.map_replicate]
  exact r1
/-- What lies in the data's block, and what lies there when something was copied over it. -/
theorem Ap.over {ad : Addr} {s : Nat} (h : Ap w0 P L G n1 G2 n2 (.slice (some ad) s s) D vs k w) (hs : D.length = s) (b : List Int) (hb : b.length ≤ s) :
    ∃ g cur, ad = ⟨g, 0, none⟩ ∧ w.heap[g]? = some (.cells cur 5) ∧ cur.size = s ∧ Ap w0 P L G n1 G2 n2 (.slice (some ad) s s) (b ++ D.drop b.length) vs k (w.setRow g (cur.toList.take 0 ++ (bv b ++ cur.toList.drop (0 + (bv b).length))).toArray) := by
  obtain ⟨A, h1, h2, h3, h4, h5, h6⟩ := h
  rw [hs] at h5
  obtain ⟨a, cap, e, c1, c2, c3, c4⟩ := h5.form
  injection e with e e2 e3
  subst e3
  obtain ⟨hz, cur, hA, hcur, htk⟩ := c3 ad e.symm
  obtain ⟨g, hg⟩ : ∃ g, ad = ⟨g, 0, none⟩ := ⟨ad.block, hz⟩
  subst hg
  obtain ⟨A2, l1, r1, e1⟩ := row_over h1 hA c1 c2 hcur htk (cs := bv b) (by rw [bv_len]; exact hb)
  refine ⟨g, cur, rfl, h1.obj hA, by omega, A2, l1, h2.keep (fun x hx => e1 x (fun e => by rw [e] at hx; simp at hx)), h3.keep (e1 _ (by simp)) (e1 _ (by simp)), h4.keep (e1 _ (by simp)) (e1 _ (by simp)), ?_, h6.keep (e1 _ (by simp))⟩
  have e5 : bv b ++ (bv D).drop (bv b).length = bv (b ++ D.drop b.length) := by rw [bv_app, bv_len]; unfold bv; rw [List.map_drop]
  rw [e5] at r1
  rw [show (b ++ D.drop b.length).length = s by rw [List.length_append, List.length_drop, hs]; omega]
  exact r1
def BoolA (w0 : World) (P : Nat) (G n1 G2 n2 : Nat) (vd : Value) (D : List Int) (vs : Value) (k : Nat) (x : Bool × List Cl) (e : Ending) (w' : World) : Prop := e = .returned (.bool x.1) ∧ Ap w0 P x.2 G n1 G2 n2 vd D vs k w'
theorem ap_write {a : Option Addr} {s c : Nat} (h : Ap w0 P L G n1 G2 n2 (.slice a s c) D vs k w) (hs : D.length = s) (hs2 : s ≤ 64) (ho : OkL n L) (hn : n ≤ 300) (id : Int) (x : Bool × List Cl) (hx : wrC L id D 1 = x) :
    Calls Try.prog 40 #[.pointer (some ⟨P, 0, none⟩), .int .i64 id, .slice a s c, .int .i64 1] w (BoolA w0 P G n1 G2 n2 (.slice a s c) D vs k x) := by
  subst hx
  obtain ⟨A, h1, h2, h3, h4, h5, h6⟩ := h
  have h5' := h5
  rw [hs] at h5'
  refine (write_c h1 h2 ho hn id 1 (i64_s 1 (by decide) (by decide)) a s c D hs (by omega) (r := (32, 0)) (by simp) (h5'.reads (w0 := w0))).mono fun e w' h => ?_
  obtain ⟨h7, A2, l1, l2, l3⟩ := h
  exact ⟨h7, A2, l1, l2, h3.keep (l3 _ (by simp)) (l3 _ (by simp)), h4.keep (l3 _ (by simp)) (l3 _ (by simp)), h5.keep (l3 _ (by simp)), h6.keep (l3 _ (by simp))⟩
def IntA (w0 : World) (P : Nat) (G n1 G2 n2 : Nat) (vd : Value) (D : List Int) (vs : Value) (k : Nat) (i : Int) (L : List Cl) (e : Ending) (w' : World) : Prop := e = .returned (.int .i64 i) ∧ Ap w0 P L G n1 G2 n2 vd D vs k w'
theorem ap_make1 (h : Ap w0 P L G n1 G2 n2 vd D vs k w) (hn : L.length ≤ 800) :
    Calls Try.prog 23 #[.pointer (some ⟨P, 0, none⟩), .slice (some ⟨w.heap.size, 0, none⟩) 1 1] (w.alloc (.cells #[.int .u8 1] 5)) (IntA w0 P G n1 G2 n2 vd D vs k ((L.length : Int) + 1) (L ++ [⟨[1], [], false, false⟩])) := by
  obtain ⟨A, h1, h2, h3, h4, h5, h6⟩ := h
  have hl := h1.new (90, 0) (o := .cells #[.int .u8 1] 5) ((Below.refl _ _).alloc (Nat.le_refl _) _) (Nat.le_refl _) (heap_alloc_new w _)
  have hk : ∀ x : Rl, x.1 ≠ 90 → (A.up (90, 0) w.heap.size (.cells #[.int .u8 1] 5)) x = A x := fun x hx => up_other _ _ _ (fun e => by rw [e] at hx; simp at hx)
  refine (make_k hl (h2.keep (fun x hx => hk x (by omega))) (by omega) (some ⟨w.heap.size, 0, none⟩) 1 1 [1] rfl (Nat.le_refl _) (by omega) (fun e => by cases e) (r := (90, 0)) (by simp) (reads_lit (up_same _ _ _ _))).mono fun e w' h => ?_
  obtain ⟨h7, A2, l1, l2, l3⟩ := h
  exact ⟨h7, A2, l1, l2, (h3.keep (hk _ (by simp)) (hk _ (by simp))).keep (l3 _ (by simp)) (l3 _ (by simp)), (h4.keep (hk _ (by simp)) (hk _ (by simp))).keep (l3 _ (by simp)) (l3 _ (by simp)), (h5.keep (hk _ (by simp))).keep (l3 _ (by simp)), (h6.keep (hk _ (by simp))).keep (l3 _ (by simp))⟩
theorem ap_sweep (h : Ap w0 P L G n1 G2 n2 vd D vs k w) (hn : L.length ≤ 900) (i : Int) (hi : (nG L : Int) = i) (L' : List Cl) (hL' : swL L = L') :
    Calls Try.prog 29 #[.pointer (some ⟨P, 0, none⟩)] w (IntA w0 P G n1 G2 n2 vd D vs k i L') := by
  subst hi hL'
  obtain ⟨A, h1, ⟨m, es, c, D2, E, ds, hx⟩, h3, h4, h5, h6⟩ := h
  rw [← gone_len hx]
  refine (sweep_c h1 hx (by omega)).mono fun e w' h => ?_
  obtain ⟨h7, A2, l1, l2, l3⟩ := h
  exact ⟨h7, A2, l1, l2, h3.keep (l3 _ (by simp)) (l3 _ (by simp)), h4.keep (l3 _ (by simp)) (l3 _ (by simp)), h5.keep (l3 _ (by simp)), h6.keep (l3 _ (by simp))⟩
theorem Ap.seen (h : Ap w0 P L G n1 G2 n2 vd D vs k w) : ∃ a c, vs = .slice a k c ∧ w.ownsRow w0.heap.size 3 1 vs k (dv (List.range' 1 k)) := by
  obtain ⟨A, h1, h2, h3, h4, h5, h6⟩ := h
  obtain ⟨a, c, e, _⟩ := h6.form2
  exact ⟨a, c, e, h6.own h1⟩
theorem Ap.app {v' : Value} (h : Ap w0 P L G n1 G2 n2 vd D vs k w) (ho : w'.ownsRow w0.heap.size 3 1 v' (k + 1) (dv (List.range' 1 k) ++ [.int .i64 ((k + 1 : Nat) : Int)])) (hg : w.grownBy w' vs.ownBlock) (hat : v'.ownBlock = vs.ownBlock ∨ ∃ g, v'.ownBlock = some g ∧ w.heap.size ≤ g) :
    ∃ av cv, v' = .slice av (k + 1) cv ∧ Ap w0 P L G n1 G2 n2 vd D v' (k + 1) w' := by
  obtain ⟨A, h1, h2, h3, h4, h5, h6⟩ := h
  obtain ⟨A2, l1, r1, e1⟩ := h1.took h6 hg ho hat
  obtain ⟨av, cv, rfl, _, _, _⟩ := r1.form2
  refine ⟨av, cv, rfl, A2, l1, h2.keep (fun x hx => e1 x (fun e => by rw [e] at hx; simp at hx)), h3.keep (e1 _ (by simp)) (e1 _ (by simp)), h4.keep (e1 _ (by simp)) (e1 _ (by simp)), h5.keep (e1 _ (by simp)), ?_⟩
  have e : dv (List.range' 1 (k + 1)) = dv (List.range' 1 k) ++ [.int .i64 ((k + 1 : Nat) : Int)] := by
    rw [List.range'_concat, dv_app]
    simp [dv, Nat.add_comm]
  rw [e]
  exact r1
def BytesA (w w0 : World) (P : Nat) (L : List Cl) (G n1 G2 n2 : Nat) (vd : Value) (D : List Int) (vs : Value) (k : Nat) (bs : List Int) (n : Nat) (e : Ending) (w' : World) : Prop := ∃ a c, e = .returned (.slice a n c) ∧ Ap1 w0 P L G n1 G2 n2 vd D vs k (.slice a n c) bs w' ∧ Below w.heap.size w w'
theorem ap_bytes (h : Ap w0 P L G n1 G2 n2 vd D vs k w) {m : Nat} (ho : OkL m L) (id : Int) (n : Nat) (hb : bsC L id = bs) (hn : bs.length = n) :
    Calls Try.prog 19 #[.pointer (some ⟨P, 0, none⟩), .int .i64 id] w (BytesA w w0 P L G n1 G2 n2 vd D vs k bs n) := by
  subst hb hn
  obtain ⟨A, h1, h2, h3, h4, h5, h6⟩ := h
  refine (bytes_any h1 h2 ho id).mono fun e w' h => ?_
  obtain ⟨v, rfl, q⟩ := h
  obtain ⟨A1, l1, r1, e1⟩ := h1.newRow (34, 0) q.below q.own (Nat.le_refl _)
  obtain ⟨a1, c1, rfl, _, _, _⟩ := r1.form2
  exact ⟨a1, c1, rfl, ⟨A1, l1, h2.keep fun x hx => e1 x (fun e => by rw [e] at hx; simp at hx), h3.keep (e1 _ (by simp)) (e1 _ (by simp)), h4.keep (e1 _ (by simp)) (e1 _ (by simp)), h5.keep (e1 _ (by simp)), h6.keep (e1 _ (by simp)), r1⟩, q.below⟩
theorem ap_same {a a2 : Option Addr} {c n2' c2 : Nat} (h : Ap1 w0 P L G n1 G2 n2 vd D vs k (.slice a n c) bs w) (hn : bs.length = n) (h64 : n ≤ 64) (h2 : Rd w w.heap.size a2 (bv bs)) :
    Calls Try.prog 22 #[.slice a n c, .slice a2 n c2] w fun e w' => e = .returned (.bool true) ∧ Below w.heap.size w w' := by
  obtain ⟨A, h1, _, _, _, _, _, h6⟩ := h
  rw [hn] at h6
  have := samebytes_any a a2 n n c c2 bs bs hn hn (by omega) (by omega) w ((h6.reads (w0 := w0)).rd h1) h2
  rw [decide_eq_true (rfl : bs = bs)] at this
  exact this
/-- The data as it is read. -/
theorem Ap1.data {a : Option Addr} {s c : Nat} (h : Ap1 w0 P L G n1 G2 n2 (.slice a s c) D vs k v bs w) (hs : D.length = s) : Rd w w.heap.size a (bv D) := by
  obtain ⟨A, h1, h2, h3, h4, h5, h6, h7⟩ := h
  rw [hs] at h5
  exact (h5.reads (w0 := w0)).rd h1
end
end Go.Proofs.Ythdgdkjaeebbcaa
