/-
  Layer 11's program in memory: the entries (roles 73, 74), texts as rows of bytes, rows of bytes made of texts. No conditions.
-/
import Derived.Test.YthappjbghlifbaaLruDoc
import Derived.Test.YthappjbghlifbaaLast
import Derived.Laws.IdiomStrings
import Derived.Lib.Bytes
import Derived.Lib.SlBytesConst
import Derived.Lib.MinMax
import Derived.Deep.AppendSrc
namespace Go.Proofs.Ythappjbghlifbaa
set_option maxRecDepth 100000
open Go.RowKit Ow Ro K2
set_option linter.unusedVariables false
set_option linter.unusedSimpArgs false
/-! ### Texts -/
theorem nat8 {n m : Int} (hn : 0 ≤ n ∧ n ≤ 255) (hm : 0 ≤ m ∧ m ≤ 255) (h : UInt8.ofNat n.toNat = UInt8.ofNat m.toNat) : n = m := by
  have h2 := congrArg UInt8.toNat h
  simp only [UInt8.toNat_ofNat'] at h2
  omega
theorem str_inj {a b : List Int} (ha : ∀ x ∈ a, 0 ≤ x ∧ x ≤ 255) (hb : ∀ x ∈ b, 0 ≤ x ∧ x ≤ 255) (h : strOfNums a = strOfNums b) : a = b := by
  have h2 : a.map (fun n => UInt8.ofNat n.toNat) = b.map (fun n => UInt8.ofNat n.toNat) := by rw [← strOfNums_data, ← strOfNums_data, h]
  clear h
  induction a generalizing b with
  | nil => cases b with
    | nil => rfl
    | cons y b => simp at h2
  | cons x a ih => cases b with
    | nil => simp at h2
    | cons y b =>
      rw [List.map_cons, List.map_cons] at h2
      injection h2 with h3 h4
      rw [nat8 (ha x (by simp)) (hb y (by simp)) h3, ih (fun z hz => ha z (by simp [hz])) (fun z hz => hb z (by simp [hz])) h4]
theorem str_beq {a b : List Int} (ha : ∀ x ∈ a, 0 ≤ x ∧ x ≤ 255) (hb : ∀ x ∈ b, 0 ≤ x ∧ x ≤ 255) : ((strOfNums a).toList == (strOfNums b).toList) = (a == b) := by
  rw [Go.Lib.strOfNums_toList, Go.Lib.strOfNums_toList]
  by_cases h : a = b
  · rw [h, beq_self_eq_true, beq_self_eq_true]
  · rw [beq_eq_false_iff_ne.2 h, beq_eq_false_iff_ne.2 (fun e => h (str_inj ha hb (by
      have h1 : ∀ x y : ByteArray, x.data = y.data → x = y := fun x y e => by cases x; cases y; congr
      refine h1 _ _ ?_
      unfold strOfNums
      dsimp only
      rw [show a.map (fun n => UInt8.ofNat n.toNat) = b.map (fun n => UInt8.ofNat n.toNat) from e])))]
/-- A list of bytes as a text. -/
theorem conv_str (w : World) (B : Nat) (a : Option Addr) (n c : Nat) (ks : List Int) (hn : ks.length = n) (hby : ∀ x ∈ ks, 0 ≤ x ∧ x ≤ 255) (hr : Rd w B a (bv ks)) :
    (convert 27 9 (.slice a n c)).run Try.prog w = .ok (.string (strOfNums ks)) w := by
  subst hn
  cases a with
  | none =>
    have h0 : ks = [] := by
      cases ks with
      | nil => rfl
      | cons x l => obtain ⟨ad, e, _⟩ := hr (by rw [bv_len]; simp); cases e
    subst h0
    exact run_convert_bytes_nil w _ _ Try.underlying27 Try.underlying5 0 c _ Try.underlying9
  | some ad =>
    have h := run_convert_bytes_back (P := Try.prog) w 27 9 _ ad c (ks.map fun n => UInt8.ofNat n.toNat) Try.underlying27 Try.underlying5 Try.underlying9 (fun j hj => by
      rw [List.length_map] at hj
      obtain ⟨ad', e, _, hc⟩ := hr (by rw [bv_len]; omega)
      injection e with e
      subst e
      rw [hc j _ (bv_get ks j hj), List.getElem_map]
      have := hby _ (List.getElem_mem hj)
      congr 2
      simp only [UInt8.toNat_ofNat']
      omega)
    rw [List.length_map] at h
    exact h
/-- A row of bytes that is marked behind its end, as a text makes it. -/
def RowZ (A : Ac) (r : Rl) (v : Value) (n : Nat) (xs : List Value) : Prop :=
  ∃ g cap cur, v = .slice (some ⟨g, 0, none⟩) n cap ∧ A r = some (g, .cells cur 5 (cap, cap + 1)) ∧ n ≤ cap ∧ cap ≤ maxLen ∧ cur.size = cap ∧ cur.toList.take n = xs ∧ xs.length = n
/-- .. by itself. -/
structure OwnZ (w : World) (v : Value) (w' : World) (ks : List Int) : Prop where
  row : ∃ g cap cur, v = .slice (some ⟨g, 0, none⟩) ks.length cap ∧ w.heap.size ≤ g ∧ w'.heap[g]? = some (.cells cur 5 (cap, cap + 1)) ∧ ks.length ≤ cap ∧ cap ≤ maxLen ∧ cur.size = cap ∧ cur.toList.take ks.length = bv ks
  below : Below w.heap.size w w'
theorem conv_bytes (w : World) (ks : List Int) (hby : ∀ x ∈ ks, 0 ≤ x ∧ x ≤ 255) (hk : ks.length ≤ 100000) :
    ∃ v w', (convert 9 27 (.string (strOfNums ks))).run Try.prog w = .ok v w' ∧ OwnZ w v w' ks := by
  have h := run_bytes_of_string (P := Try.prog) w 9 27 _ (strOfNums ks) Try.underlying9 Try.underlying27 Try.underlying5
  have hs := strOfNums_size ks
  rw [hs] at h
  have hge := grownCap_ge w ks.length 0 5
  have hcm : grownCap w ks.length 0 5 ≤ maxLen := grownCap_le_maxLen w ks.length 0 5 (by unfold maxLen; omega)
  generalize grownCap w ks.length 0 5 = cap at *
  have hsz : (bytesRow (strOfNums ks) cap).size = cap := by
    unfold bytesRow
    rw [Array.size_append, Array.size_map, Array.size_replicate]
    have : (strOfNums ks).data.size = ks.length := hs
    rw [this, hs]
    omega
  rw [hsz] at h
  refine ⟨_, _, h, ⟨w.heap.size, cap, _, rfl, Nat.le_refl _, heap_alloc_new w.drew _, hge, hcm, hsz, ?_⟩, ⟨rfl, rfl, rfl, by simp, fun k hk => Below.heap_alloc w.drew _ k hk⟩⟩
  apply List.ext_getElem?
  intro j
  rw [List.getElem?_take, Array.getElem?_toList]
  by_cases hj : j < ks.length
  · rw [if_pos hj, bytesRow_at _ _ _ (by show j < (strOfNums ks).data.size; rw [show (strOfNums ks).data.size = ks.length from hs]; exact hj), bv_get ks j hj]
    have hb := hby _ (List.getElem_mem hj)
    congr 2
    have : (strOfNums ks).data[j]'(by rw [show (strOfNums ks).data.size = ks.length from hs]; exact hj) = UInt8.ofNat (ks[j]).toNat := by
      simp [strOfNums]
    rw [this]
    simp only [UInt8.toNat_ofNat']
    omega
  · rw [if_neg hj, List.getElem?_eq_none (by rw [bv_len]; omega)]
section
variable {w0 w w' : World} {A A' : Ac} {r : Rl} {v : Value} {n : Nat} {xs : List Value} {ks : List Int}
theorem RowZ.keep (h : RowZ A r v n xs) (hk : A' r = A r) : RowZ A' r v n xs := by
  obtain ⟨g, cap, cur, e, hr, h1⟩ := h
  exact ⟨g, cap, cur, e, hk.trans hr, h1⟩
theorem RowZ.form (h : RowZ A r v n xs) : ∃ a cap, v = .slice a n cap ∧ n ≤ cap ∧ cap ≤ maxLen := by
  obtain ⟨g, cap, cur, e, hr, h1, h2, _⟩ := h
  exact ⟨_, cap, e, h1, h2⟩
theorem RowZ.reads {a : Option Addr} {cap : Nat} (h : RowZ A r (.slice a n cap) n xs) : Reads w0 A r a xs := fun hx => by
  obtain ⟨g, cap', cur, e, hr, h1, h2, h3, h4, h5⟩ := h
  injection e with e1 e2 e3
  subst e1
  refine ⟨_, rfl, .inr ⟨_, hr, fun w' hw j u hu => ?_⟩⟩
  have e0 : (⟨g, 0, none⟩ : Addr).add j = ⟨g, j, none⟩ := add_zero_at g j
  rw [e0, cell_of_row w' g j _ _ _ hw, ← Array.getElem?_toList, ← hu, ← h4, List.getElem?_take, if_pos]
  have := (List.getElem?_eq_some_iff.1 hu).1
  omega
theorem OwnZ.form (h : OwnZ w v w' ks) : ∃ a cap, v = .slice a ks.length cap ∧ ks.length ≤ cap ∧ cap ≤ maxLen := by
  obtain ⟨g, cap, cur, e, _, _, h1, h2, _⟩ := h.row
  exact ⟨_, cap, e, h1, h2⟩
theorem OwnZ.lay (q : OwnZ w v w' ks) (h : Lay w0 A w) (r : Rl) : ∃ A', Lay w0 A' w' ∧ RowZ A' r v ks.length (bv ks) ∧ ∀ x, x ≠ r → A' x = A x := by
  obtain ⟨g, cap, cur, e, hg, ho, h1, h2, h3, h4⟩ := q.row
  exact ⟨A.up r g _, h.new r q.below hg ho, ⟨g, cap, cur, e, up_same _ _ _ _, h1, h2, h3, h4, bv_len ks⟩, fun x hx => up_other _ _ _ hx⟩
end
/-! ### Entries -/
def pcells (e : List Int × Int) : List Value := [.string (strOfNums e.1), .int .i64 e.2]
def pflat (o : KO) : List Value := o.flatMap pcells
theorem pflat_cons (e : List Int × Int) (o : KO) : pflat (e :: o) = pcells e ++ pflat o := by unfold pflat; rw [List.flatMap_cons]
theorem pflat_app (o p : KO) : pflat (o ++ p) = pflat o ++ pflat p := by unfold pflat; rw [List.flatMap_append]
theorem pflat_len (o : KO) : (pflat o).length = o.length * 2 := by
  induction o with
  | nil => rfl
  | cons e o ih => rw [pflat_cons, List.length_append, ih, List.length_cons]; show 2 + _ = _; omega
theorem pflat_one (o : KO) : ∀ u ∈ pflat o, u.oneCell' = true := fun u hu => by
  unfold pflat at hu
  obtain ⟨e, _, h⟩ := List.mem_flatMap.1 hu
  simp [pcells] at h
  rcases h with rfl | rfl <;> rfl
theorem pflat_get (o : KO) (k r : Nat) (hk : k < o.length) (hr : r < 2) : (pflat o)[k * 2 + r]? = (pcells o[k])[r]? := by
  induction o generalizing k with
  | nil => simp at hk
  | cons e o ih =>
    have hl : (pcells e).length = 2 := rfl
    rw [pflat_cons]
    cases k with
    | zero => rw [List.getElem?_append_left (by rw [hl]; omega)]; simp
    | succ k =>
      rw [List.getElem?_append_right (by rw [hl]; omega), hl, show (k + 1) * 2 + r - 2 = k * 2 + r by omega]
      simpa using ih k (by simpa using hk)
theorem pflat_drop (o : KO) (k : Nat) : (pflat o).drop (k * 2) = pflat (o.drop k) := by
  induction o generalizing k with
  | nil => simp [pflat]
  | cons e o ih =>
    cases k with
    | zero => simp
    | succ k =>
      rw [pflat_cons, List.drop_succ_cons, ← ih k, show (k + 1) * 2 = 2 + k * 2 by omega, ← List.drop_drop]
      congr 1
theorem pflat_take (o : KO) (k : Nat) : (pflat o).take (k * 2) = pflat (o.take k) := by
  induction o generalizing k with
  | nil => simp [pflat]
  | cons e o ih =>
    cases k with
    | zero => simp [pflat]
    | succ k =>
      have hl : (pcells e).length = 2 := rfl
      rw [pflat_cons, List.take_succ_cons, pflat_cons, ← ih k, show (k + 1) * 2 = 2 + k * 2 by omega, List.take_add, List.take_left' hl, List.drop_left' hl]
/-- The entries' row: its block may be greater than what the slice may grow to. -/
def PRow (A : Ac) (r : Rl) (v : Value) (o : KO) : Prop :=
  (v = .slice none 0 0 ∧ o = []) ∨ ∃ g cap cur, v = .slice (some ⟨g, 0, none⟩) o.length cap ∧ A r = some (g, .cells cur 58) ∧ o.length ≤ cap ∧ cap ≤ maxLen ∧ cap * 2 ≤ cur.size ∧ cur.toList.take (o.length * 2) = pflat o
structure OG (K M : Int) (o : KO) : Prop where
  len : ∀ e ∈ o, (e.1.length : Int) = K
  byt : ∀ e ∈ o, ∀ b ∈ e.1, 0 ≤ b ∧ b ≤ 255
  nd : o.Pairwise fun a b => a.1 ≠ b.1
  small : (o.length : Int) ≤ M
  K1 : 1 ≤ K
  K2 : K ≤ 16
  M1 : 1 ≤ M
  M2 : M ≤ 64
structure PX (k : Nat) (A : Ac) (X : Nat) (K M : Int) (v : Value) (o : KO) : Prop where
  head : A (73, k) = some (X, .cells #[.int .i64 K, .int .i64 M, v] 51)
  row : PRow A (74, k) v o
  good : OG K M o
def PL (k : Nat) (A : Ac) (X : Nat) (K M : Int) (o : KO) : Prop := ∃ v, PX k A X K M v o
/-- Role 72: boxes that a call has left. -/
def Fp (k : Nat) (A A' : Ac) : Prop := ∀ x : Rl, x.1 ≠ 72 → x ≠ (73, k) → x ≠ (74, k) → A' x = A x
/-- Role 71: the key that went. -/
def Fg (k : Nat) (A A' : Ac) : Prop := ∀ x : Rl, x.1 ≠ 71 → x.1 ≠ 72 → x ≠ (73, k) → x ≠ (74, k) → A' x = A x
def PLd (k : Nat) (w0 : World) (A : Ac) (X : Nat) (K M : Int) (o : KO) (w' : World) : Prop := ∃ A', Lay w0 A' w' ∧ PL k A' X K M o ∧ Fp k A A'
def KDp (k : Nat) (w0 : World) (A : Ac) (ax : Option Addr) (ks : List Int) : Prop := ∀ (A' : Ac) (z : World), Lay w0 A' z → Fg k A A' → Rd z z.heap.size ax (bv ks)
section
variable {w0 w w' : World} {A A' A2 : Ac} {r : Rl} {v : Value} {o : KO} {k X : Nat} {K M : Int}
theorem Fp.refl : Fp k A A := fun _ _ _ _ => rfl
theorem Fp.trans (h : Fp k A A') (h2 : Fp k A' A2) : Fp k A A2 := fun x z a b => (h2 x z a b).trans (h x z a b)
theorem Fg.refl : Fg k A A := fun _ _ _ _ _ => rfl
theorem Fg.trans (h : Fg k A A') (h2 : Fg k A' A2) : Fg k A A2 := fun x y z a b => (h2 x y z a b).trans (h x y z a b)
theorem Fp.fg (h : Fp k A A') : Fg k A A' := fun x _ z a b => h x z a b
theorem PRow.keep (h : PRow A r v o) (hk : A' r = A r) : PRow A' r v o := by
  rcases h with h0 | ⟨g, cap, cur, e, hr, h1⟩
  · exact .inl h0
  · exact .inr ⟨g, cap, cur, e, hk.trans hr, h1⟩
theorem PRow.form (h : PRow A r v o) : ∃ a cap, v = .slice a o.length cap ∧ o.length ≤ cap ∧ cap ≤ maxLen ∧ (a = none → o = [] ∧ cap = 0) := by
  rcases h with ⟨rfl, rfl⟩ | ⟨g, cap, cur, e, hr, h1, h2, _⟩
  · exact ⟨none, 0, rfl, Nat.le_refl _, Nat.zero_le _, fun _ => ⟨rfl, rfl⟩⟩
  · exact ⟨_, cap, e, h1, h2, fun e => by cases e⟩
/-- What is there to be read, where there is an entry. -/
theorem PRow.look (h : PRow A r v o) (hl : Lay w0 A w) (ho : 0 < o.length) : ∃ g cap, v = .slice (some ⟨g, 0, none⟩) o.length cap ∧ o.length ≤ cap ∧ cap ≤ maxLen ∧ g < w.heap.size ∧ (∃ p, A r = some (g, p)) ∧
    ∀ w', Below w.heap.size w w' → (∀ j u, (pflat o)[j]? = some u → w'.cell? ⟨g, j, none⟩ = some u) ∧ ∀ j, j < cap * 2 → (w'.cell? ⟨g, j, none⟩).isSome = true ∧ w'.frozen? ⟨g, j, none⟩ = false := by
  rcases h with ⟨rfl, rfl⟩ | ⟨g, cap, cur, e, hr, h1, h2, h3, h4⟩
  · simp at ho
  · refine ⟨g, cap, e, h1, h2, lt_of_block (hl.obj hr), ⟨_, hr⟩, fun w' hb => ?_⟩
    have hb := (hl.grow hb).bk hr
    refine ⟨fun j u hu => ?_, fun j hj => ⟨?_, hb.frozen j⟩⟩
    · rw [hb.cell, ← Array.getElem?_toList, ← hu, ← h4, List.getElem?_take, if_pos]
      have := (List.getElem?_eq_some_iff.1 hu).1
      rw [pflat_len] at this
      exact this
    · rw [hb.cell, Array.getElem?_eq_getElem (by omega)]
      rfl
theorem PX.keep (h : PX k A X K M v o) (h1 : A' (73, k) = A (73, k)) (h2 : A' (74, k) = A (74, k)) : PX k A' X K M v o := ⟨h1.trans h.head, h.row.keep h2, h.good⟩
theorem PL.keep (h : PL k A X K M o) (h1 : A' (73, k) = A (73, k)) (h2 : A' (74, k) = A (74, k)) : PL k A' X K M o := by
  obtain ⟨v, hx⟩ := h
  exact ⟨v, hx.keep h1 h2⟩
structure PHd (w : World) (X : Nat) (K M : Int) (v : Value) : Prop where
  c0 : w.cell? ⟨X, 0, none⟩ = some (.int .i64 K)
  c1 : w.cell? ⟨X, 1, none⟩ = some (.int .i64 M)
  c2 : w.cell? ⟨X, 2, none⟩ = some v
  f2 : w.frozen? ⟨X, 2, none⟩ = false
  lt : X < w.heap.size
theorem PX.hd (h : PX k A X K M v o) (hl : Lay w0 A w) : PHd w X K M v :=
  ⟨(hl.bk h.head).cell 0, (hl.bk h.head).cell 1, (hl.bk h.head).cell 2, (hl.bk h.head).frozen 2, (hl.bk h.head).lt⟩
theorem PLd.grow (h : PLd k w0 A X K M o w) (hb : Below w.heap.size w w') : PLd k w0 A X K M o w' := by
  obtain ⟨A', h1, h2⟩ := h
  exact ⟨A', h1.grow hb, h2⟩
theorem KDp.rd {ax : Option Addr} {ks : List Int} (h : KDp k w0 A ax ks) (hl : Lay w0 A w) : Rd w w.heap.size ax (bv ks) := h A w hl Fg.refl
theorem KDp.next {ax : Option Addr} {ks : List Int} (h : KDp k w0 A ax ks) (hf : Fg k A A') : KDp k w0 A' ax ks := fun A2 z h1 h2 => h A2 z h1 (hf.trans h2)
/-- The list is another one, in new memory. -/
theorem PX.swap (h : PX k A X K M v o) (hl : Lay w0 A w) {o2 : KO} {v2 : Value} (hb : Below w.heap.size w w') (hr : w'.ownsRow w.heap.size 58 2 v2 o2.length (pflat o2)) (hg : OG K M o2) :
    PLd k w0 A X K M o2 (w'.setCell ⟨X, 2, none⟩ v2) := by
  obtain ⟨A2, l2, r2, f2⟩ := hl.newRow (74, k) hb hr (Nat.le_refl _)
  have a2 := (f2 (73, k) (by simp)).trans h.head
  refine ⟨_, l2.set_ a2 2 v2, ⟨v2, by rw [up_same]; rfl, ?_, hg⟩, fun x _ hx hx2 => (up_other _ _ _ hx).trans (f2 x hx2)⟩
  refine PRow.keep ?_ (up_other _ _ _ (by simp))
  rcases r2.2 with ⟨e, e2⟩ | ⟨g, cap, cur, e, hr, h1, h2, h3, h4⟩
  · exact .inl ⟨e, List.eq_nil_of_length_eq_zero e2⟩
  · exact .inr ⟨g, cap, cur, e, hr, h1, h2, by omega, h4⟩
end
theorem entry_info : (Try.prog.info? 58).map (fun i => (i.zero, i.size, i.bytes)) = some (some (.agg #[.string ByteArray.empty, .int .i64 0]), 2, 24) := by kernel_rfl
end Go.Proofs.Ythappjbghlifbaa
