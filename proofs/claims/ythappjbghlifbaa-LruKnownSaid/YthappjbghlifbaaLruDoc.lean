/-
  Layer 11's document: each function over its keys in the order of use: contracts. Conditions: at most 64 keys, keys of 1000 bytes, 100000 uses; the key is none of the document's own memory.
-/
import Derived.Test.YthappjbghlifbaaLruMath2
import Derived.Test.YthappjbghlifbaaLruPut
import Derived.Test.YthappjbghlifbaaLruNew
namespace Go.Proofs.Ythappjbghlifbaa
set_option maxRecDepth 100000
open Go.RowKit Ow Ro K2
set_option linter.unusedVariables false
set_option linter.unusedSimpArgs false
/-- The document's map: its keys, at most b uses. -/
def DL (A : Ac) (X : Nat) (K M : Int) (o : KO) (b : Nat) : Prop := ∃ (v : Value) (l : List Rw) (n t : Nat), LS A X K M (n : Nat) v l t ∧ LG K M n l ∧ OD l n = o ∧ n ≤ b
def Fd (A A' : Ac) : Prop := ∀ x : Rl, ¬ (100 ≤ x.1 ∧ x.1 ≤ 104) → A' x = A x
/-- A key that is read, whatever the document does. -/
def KD (w0 : World) (A : Ac) (ax : Option Addr) (ks : List Int) : Prop := ∀ (A' : Ac) (z : World), Lay w0 A' z → Fd A A' → Rd z z.heap.size ax (bv ks)
def DLd (w0 : World) (A : Ac) (X : Nat) (K M : Int) (o : KO) (b : Nat) (w' : World) : Prop := ∃ A', Lay w0 A' w' ∧ DL A' X K M o b ∧ Fd A A'
section
variable {w0 w : World} {A A' : Ac} {X : Nat} {K M : Int} {o : KO} {b : Nat}
theorem fd_12 (h : ∀ x : Rl, x ≠ (100, 0) → x ≠ (101, 0) → A' x = A x) : Fd A A' := fun x hx => h x (fun e => hx (by rw [e]; simp)) (fun e => hx (by rw [e]; simp))
theorem fd_fr {t : Nat} (h : Fr A A' t) : Fd A A' := fun x hx => h x (fun e => hx (by omega)) (fun e => hx (by omega)) (fun e => hx (by omega)) (fun e => hx (by rw [e]; simp))
theorem KD.kr {ax : Option Addr} {ks : List Int} (h : KD w0 A ax ks) : KR w0 A ax ks := fun A' z h1 h2 => h A' z h1 (fd_12 h2)
theorem KD.kp {ax : Option Addr} {ks : List Int} (h : KD w0 A ax ks) (t : Nat) : KP w0 A t ax ks := fun A' z h1 h2 => h A' z h1 (fd_fr h2)
theorem KD.rd {ax : Option Addr} {ks : List Int} (h : KD w0 A ax ks) (hl : Lay w0 A w) : Rd w w.heap.size ax (bv ks) := h A w hl (fun _ _ => rfl)
theorem DL.keep (h : DL A X K M o b) (he : ∀ x : Rl, 100 ≤ x.1 → x.1 ≤ 102 → A' x = A x) : DL A' X K M o b := by
  obtain ⟨v, l, n, t, h1, h2⟩ := h
  exact ⟨v, l, n, t, h1.keep he, h2⟩
theorem DL.more (h : DL A X K M o b) {b' : Nat} (hb : b ≤ b') : DL A X K M o b' := by
  obtain ⟨v, l, n, t, h1, h2, h3, h4⟩ := h
  exact ⟨v, l, n, t, h1, h2, h3, by omega⟩
theorem DL.len (h : DL A X K M o b) : (o.length : Int) ≤ M := by
  obtain ⟨v, l, n, t, h1, h2, rfl, h4⟩ := h
  rw [OD_len h2]
  exact h2.small
theorem DLd.grow {w' : World} (h : DLd w0 A X K M o b w) (hb : Below w.heap.size w w') : DLd w0 A X K M o b w' := by
  obtain ⟨A', h1, h2⟩ := h
  exact ⟨A', h1.grow hb, h2⟩
theorem dnew_c (hl : Lay w0 A w) (key most : Int) :
    Calls Try.prog 8 #[.int .i64 key, .int .i64 most] w fun e w' => ∃ X, e = .returned (.pointer (some ⟨X, 0, none⟩)) ∧ DLd w0 A X (max 1 (min key 16)) (max 1 (min most 64)) [] 0 w' := by
  refine (lnew_c hl key most 0).mono fun e w' h => ?_
  obtain ⟨X, A', he, h1, h2, h3⟩ := h
  exact ⟨X, he, A', h1, ⟨_, [], 0, 0, h2, LG.nil (by omega) 0, rfl, Nat.le_refl _⟩, fun x hx => h3 x (fun e => hx (by rw [e]; simp))⟩
theorem dlen_c (hl : Lay w0 A w) (h : DL A X K M o b) :
    Calls Try.prog 12 #[.pointer (some ⟨X, 0, none⟩)] w fun e w' => e = .returned (.int .i64 (o.length : Nat)) ∧ w' = w := by
  obtain ⟨v, l, n, t, h1, h2, rfl, h4⟩ := h
  rw [OD_len h2]
  exact llen_c hl h1
theorem dpeek_c (hl : Lay w0 A w) (h : DL A X K M o b) (hM : M ≤ 64) (ax : Option Addr) (nk cx : Nat) (ks : List Int) (hn : ks.length = nk) (hn2 : nk ≤ 1000) (hr : KD w0 A ax ks) :
    Calls Try.prog 29 #[.pointer (some ⟨X, 0, none⟩), .slice ax nk cx] w fun e w' => e = .returned (agetV (aget o ks)) ∧ Below w.heap.size w w' := by
  obtain ⟨v, l, n, t, h1, h2, rfl, h4⟩ := h
  have hs := h2.small
  rw [← lpk_get h2]
  exact lpeek_c hl h1 (by omega) ax nk cx ks hn (by omega) (hr.rd hl)
theorem dfind_c (hl : Lay w0 A w) (h : DL A X K M o b) (hM : M ≤ 64) (hb : b ≤ 100000) (ax : Option Addr) (nk cx : Nat) (ks : List Int) (hn : ks.length = nk) (hn2 : nk ≤ 1000) (hr : KD w0 A ax ks) :
    Calls Try.prog 28 #[.pointer (some ⟨X, 0, none⟩), .slice ax nk cx] w fun e w' => e = .returned (agetV (aget o ks)) ∧ DLd w0 A X K M (afind o ks) (b + 1) w' := by
  obtain ⟨v, l, n, t, h1, h2, rfl, h4⟩ := h
  have hs := h2.small
  refine (lfind_c hl h1 (by omega) (by omega) ax nk cx ks hn (by omega) hr.kr).mono fun e w' q => ?_
  obtain ⟨q1, A', q2, q3, q4⟩ := q
  refine ⟨by rw [← lpk_get h2]; exact q1, A', q2, ?_, fd_12 q4⟩
  cases hx : lix l ks with
  | none =>
    rw [hx] at q3
    refine ⟨v, l, n, t, q3, h2, ?_, by omega⟩
    unfold afind
    rw [OD_none h2 hx]
  | some p =>
    rw [hx] at q3
    obtain ⟨x, h5, rfl⟩ := lix_get hx
    have hgd : l.getD p rw0 = x := by rw [List.getD_eq_getElem?_getD, h5]; rfl
    have e1 : lfdL l (n : Nat) (some p) = l.set p (usd x ((n + 1 : Nat) : Int)) := by
      show l.set p (usd (l.getD p rw0) ((n : Int) + 1)) = _
      rw [hgd]
      rfl
    rw [e1] at q3
    refine ⟨v, _, n + 1, t, q3, h2.used h5, ?_, by omega⟩
    rw [OD_used h2 h5]
    unfold afind
    rw [OD_some h2 h5]
    rfl
theorem awo_none {o : KO} {ks : List Int} (h : aget o ks = none) : awo o ks = o := by
  unfold aget at h
  rw [Option.map_eq_none_iff, List.find?_eq_none] at h
  unfold awo
  rw [List.filter_eq_self]
  intro e he
  have := h e he
  simpa using this
theorem ddel_c (hl : Lay w0 A w) (h : DL A X K M o b) (hM : M ≤ 64) (ax : Option Addr) (nk cx : Nat) (ks : List Int) (hn : ks.length = nk) (hn2 : nk ≤ 1000) (hr : KD w0 A ax ks) :
    Calls Try.prog 30 #[.pointer (some ⟨X, 0, none⟩), .slice ax nk cx] w fun e w' => e = .returned (agetV (aget o ks)) ∧ DLd w0 A X K M (awo o ks) b w' := by
  obtain ⟨v, l, n, t, h1, h2, rfl, h4⟩ := h
  have hs := h2.small
  refine (ldel_c hl h1 (by omega) ax nk cx ks hn (by omega) (hr.rd hl)).mono fun e w' q => ?_
  obtain ⟨q1, v', A', q2, q3, q4⟩ := q
  refine ⟨by rw [← lpk_get h2]; exact q1, A', q2, ?_, fd_12 q4⟩
  cases hx : lix l ks with
  | none =>
    rw [hx] at q3
    exact ⟨v', l, n, t, q3, h2, (awo_none (OD_none h2 hx)).symm, by omega⟩
  | some p =>
    rw [hx] at q3
    obtain ⟨x, h5, rfl⟩ := lix_get hx
    exact ⟨v', _, n, t, q3, h2.erase p, OD_erase h2 h5, by omega⟩
/-- What a Put answers: who went, in memory that is read. -/
def PutA (K M : Int) (o : KO) (ks : List Int) (c : Int) (e : Ending) (w' : World) : Prop := ∃ (a : Option Addr) (cp : Nat), e = putV (.slice a (aput K M o ks c).1.1.length cp) (aput K M o ks c).1.2 (aput K M o ks c).2.1 ∧ Rd w' w'.heap.size a (bv (aput K M o ks c).1.1)
theorem rd_nil (w : World) (B : Nat) (a : Option Addr) : Rd w B a (bv []) := fun h => by simp [bv] at h
theorem dput_c (hl : Lay w0 A w) (h : DL A X K M o b) (hM1 : 1 ≤ M) (hM : M ≤ 64) (hb : b ≤ 100000) (ax : Option Addr) (nk cx : Nat) (ks : List Int) (hn : ks.length = nk) (hn2 : nk ≤ 1000) (hby : ∀ b ∈ ks, 0 ≤ b ∧ b ≤ 255) (hr : KD w0 A ax ks) (c : Int) :
    Calls Try.prog 27 #[.pointer (some ⟨X, 0, none⟩), .slice ax nk cx, .int .i64 c] w fun e w' => PutA K M o ks c e w' ∧ DLd w0 A X K M (aput K M o ks c).2.2 (b + 1) w' := by
  have h0 := h
  obtain ⟨v, l, n, t, h1, h2, rfl, h4⟩ := h
  have hs := h2.small
  by_cases hK : (nk : Int) = K
  · have hK2 : (ks.length : Int) = K := by rw [hn]; exact hK
    cases hx : lix l ks with
    | some p =>
      obtain ⟨x, h5, rfl⟩ := lix_get hx
      have e1 : aput K M (OD l n) x.k c = (([], 0), 11, OD l n) := by
        unfold aput
        rw [if_pos hK2, if_pos (by rw [OD_some h2 h5]; rfl)]
      unfold PutA
      rw [e1]
      refine (lput_twice hl h1 (by omega) ax nk cx x.k hn hn2 (hr.rd hl) c hK p hx).mono fun e w' q => ?_
      exact ⟨⟨none, 0, q.1, rd_nil _ _ _⟩, A, hl.grow q.2, h0.more (by omega), fun _ _ => rfl⟩
    | none =>
      have hg : ¬ (aget (OD l n) ks).isSome = true := by rw [OD_none h2 hx]; simp
      by_cases hf : (l.length : Int) = M
      · have hpos : 0 < l.length := by omega
        have hml := mnt_lt l l.length hpos (Nat.le_refl _)
        have hxe : l[mnt l l.length]? = some (l[mnt l l.length]'hml) := List.getElem?_eq_getElem _
        generalize l[mnt l l.length]'hml = x at hxe
        have hlast := OD_last h2 hxe
        have e1 : aput K M (OD l n) ks c = ((x.k, x.c), 0, (ks, c) :: OD (l.eraseIdx (mnt l l.length)) n) := by
          unfold aput
          rw [if_pos hK2, if_neg hg, if_pos (by rw [OD_len h2]; exact hf), hlast, List.getLast?_concat, List.dropLast_concat]
          rfl
        unfold PutA
        rw [e1]
        refine (lput_full hl h1 (by omega) (by omega) ax nk cx ks hn hn2 hby (hr.kp t) c hK hx hf hpos x hxe).mono fun e w' q => ?_
        obtain ⟨q1, A', v', u, q2, q3, q4⟩ := q
        have hkx := h1.keys x (List.mem_of_getElem? hxe)
        obtain ⟨a, cp, ev, _⟩ := hkx.2.2.2.form2
        have hrow := hkx.2.2.2.keep (q4 (102, x.id) (by simp) (by simp) (by simp) (by have := hkx.1; simp; omega))
        rw [ev] at hrow q1
        have hel : (l.eraseIdx (mnt l l.length)).length + 1 = l.length := by rw [List.length_eraseIdx_of_lt hml]; omega
        exact ⟨⟨a, cp, q1, (hrow.reads (w0 := w0)).rd q2⟩, A', q2, ⟨v', _, n + 1, t + 1, q3, (h2.erase _).put (by omega) u hK2 (lix_none fun i e he => by
          have h6 := List.mem_of_mem_eraseIdx (List.mem_of_getElem? he)
          unfold lix at hx
          rw [List.findIdx?_eq_none_iff] at hx
          simpa using hx e h6) c t, OD_put (h2.erase _) u ks c t, by omega⟩, fd_fr q4⟩
      · have e1 : aput K M (OD l n) ks c = (([], 0), 0, (ks, c) :: OD l n) := by
          unfold aput
          rw [if_pos hK2, if_neg hg, if_neg (by rw [OD_len h2]; exact hf)]
        unfold PutA
        rw [e1]
        refine (lput_free hl h1 (by omega) (by omega) ax nk cx ks hn hn2 hby (hr.kp t) c hK hx hf).mono fun e w' q => ?_
        obtain ⟨q1, A', v', u, q2, q3, q4⟩ := q
        exact ⟨⟨none, 0, q1, rd_nil _ _ _⟩, A', q2, ⟨v', _, n + 1, t + 1, q3, h2.put (by omega) u hK2 hx c t, OD_put h2 u ks c t, by omega⟩, fd_fr q4⟩
  · have e1 : aput K M (OD l n) ks c = (([], 0), 14, OD l n) := by
      unfold aput
      rw [if_neg (by rw [hn]; exact hK)]
    unfold PutA
    rw [e1]
    refine (lput_size hl h1 ax nk cx c hK).mono fun e w' q => ?_
    obtain ⟨q1, rfl⟩ := q
    exact ⟨⟨none, 0, q1, rd_nil _ _ _⟩, A, hl, h0.more (by omega), fun _ _ => rfl⟩
theorem dkeys_c (hl : Lay w0 A w) (h : DL A X K M o b) (hM : M ≤ 64) (hb : b ≤ 100000) :
    Calls Try.prog 15 #[.pointer (some ⟨X, 0, none⟩)] w (KeysP w0 A (o.map (·.1))) := by
  obtain ⟨v, l, n, t, h1, h2, rfl, h4⟩ := h
  have hs := h2.small
  rw [← keysD_ord]
  exact lkeys_c hl h1 (by omega) (by omega) (by rw [keysD_ord, List.length_map, OD_len h2]; omega)
end
end Go.Proofs.Ythappjbghlifbaa
