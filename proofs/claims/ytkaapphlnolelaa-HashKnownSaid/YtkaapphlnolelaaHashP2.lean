/-
  Layer 10's program: what is stored; Find, Del, Put: contracts. Conditions: a table as New makes it (Tab).
-/
import Derived.Test.YtkaapphlnolelaaHashWhere
import Derived.Laws.CopyOwn
namespace Go.Proofs.Ytkaapphlnolelaa
set_option maxRecDepth 100000
open Go.RowKit Ow Ro K2 Hm
set_option linter.unusedVariables false
set_option linter.unusedSimpArgs false
/-- A table, as New makes it and calls leave it. -/
structure Tab (T : List Pl) (K : Nat) (M : Int) : Prop where
  good : Good T K
  pow : ∃ e, T.length = 2 ^ e
  big : 2 * M ≤ (T.length : Int)
  small : T.length ≤ 128
  cnt : ((keysT T).length : Int) ≤ M
  M1 : 1 ≤ M
  K1 : 1 ≤ K
  K2 : K ≤ 16
  byte : ∀ t ∈ T, ∀ b ∈ t.bs, 0 ≤ b ∧ b ≤ 255
  bsl : ∀ t ∈ T, t.bs.length ≤ 1000
section
variable {T : List Pl} {K : Nat} {M : Int} {k : List Int} {r : Nat}
theorem keys_put (hr : r < T.length) (hi : (ed T r).is ≠ 1) (k : List Int) (c : Int) : (keysT (T.set r ⟨1, k, c⟩)).length = (keysT T).length + 1 := by
  rw [← pairs_len, ← pairs_len, (pairs_set hr ⟨1, k, c⟩).length_eq, (pairs_erase hr).length_eq]
  rw [ed_of (List.getElem?_eq_getElem hr)] at hi
  unfold prOf
  rw [if_neg hi]
  simp
theorem keys_del (hr : r < T.length) (hi : (ed T r).is = 1) : (keysT (T.set r ⟨2, [], 0⟩)).length + 1 = (keysT T).length := by
  rw [← pairs_len, ← pairs_len, (pairs_set hr ⟨2, [], 0⟩).length_eq, (pairs_erase hr).length_eq]
  rw [ed_of (List.getElem?_eq_getElem hr)] at hi
  unfold prOf
  rw [if_pos hi]
  simp
theorem Tab.put (h : Tab T K M) (hk : k.length = K) (hb : ∀ b ∈ k, 0 ≤ b ∧ b ≤ 255) (hf : fat T k = none) (hr : rat T k = some r) (hm : ((keysT T).length : Int) < M) (c : Int) : Tab (T.set r ⟨1, k, c⟩) K M := by
  obtain ⟨r1, r2⟩ := rat_lt hr
  have h3 := h.K2
  refine ⟨h.good.put hk hf hr c, ?_, ?_, ?_, ?_, h.M1, h.K1, h.K2, fun t ht => ?_, fun t ht => ?_⟩
  · rw [List.length_set]; exact h.pow
  · rw [List.length_set]; exact h.big
  · rw [List.length_set]; exact h.small
  · rw [keys_put r1 r2]; omega
  · rcases List.mem_or_eq_of_mem_set ht with h1 | rfl
    · exact h.byte t h1
    · exact hb
  · rcases List.mem_or_eq_of_mem_set ht with h1 | rfl
    · exact h.bsl t h1
    · dsimp only; omega
theorem Tab.del (h : Tab T K M) (hf : fat T k = some r) : Tab (T.set r ⟨2, [], 0⟩) K M := by
  obtain ⟨r1, r2, _⟩ := fat_lt hf
  have hc := h.cnt
  refine ⟨h.good.del hf, ?_, ?_, ?_, ?_, h.M1, h.K1, h.K2, fun t ht => ?_, fun t ht => ?_⟩
  · rw [List.length_set]; exact h.pow
  · rw [List.length_set]; exact h.big
  · rw [List.length_set]; exact h.small
  · have := keys_del r1 r2; omega
  · rcases List.mem_or_eq_of_mem_set ht with h1 | rfl
    · exact h.byte t h1
    · simp
  · rcases List.mem_or_eq_of_mem_set ht with h1 | rfl
    · exact h.bsl t h1
    · simp
theorem Tab.room (h : Tab T K M) (k : List Int) : ∃ r, rat T k = some r := rat_some h.good.pos (by have := h.cnt; have := h.big; have := h.M1; omega)
end
/-! ### Stores -/
section
variable {w0 w : World} {A : Ac} {X K : Nat} {M : Int} {vr vp : Value} {T : List Pl} {R : List Int} {p : Nat}
theorem HPx.put1 {A2 : Ac} {ap : Addr} {cp : Nat} {L : List Pl} (hr : Row A2 (74, 0) 67 2 (.slice (some ap) L.length cp) L.length (qflat L)) (hl : Lay w0 A2 w) {r : Nat} (hp : p < L.length) (hr2 : r < 2) (u : Value) (t' : Pl) (ht : (qcells L[p]).set r u = qcells t') :
    ∃ A', Lay w0 A' (w.setCell (ap.add (p * 2 + r)) u) ∧ Row A' (74, 0) 67 2 (.slice (some ap) (L.set p t').length cp) (L.set p t').length (qflat (L.set p t')) ∧ ∀ x, x ≠ (74, 0) → A' x = A2 x := by
  have ho := hr.own hl
  rcases ho.2 with ⟨e, _⟩ | ⟨g, cap', cur, e, _⟩
  · cases e
  · simp only [Value.slice.injEq, Option.some.injEq] at e
    obtain ⟨rfl, _⟩ := e
    obtain ⟨h1, h2⟩ := ho.stored (p * 2 + r) u
    rw [qflat_set L p r hp hr2 u t' ht] at h1
    rw [add_zero_at]
    obtain ⟨A', h3, h4, h5⟩ := hl.took hr h2 h1 (.inl rfl)
    exact ⟨A', h3, by rw [List.length_set]; exact h4, h5⟩
/-- The world behind a store of a whole place. -/
def st2 (w : World) (ap : Addr) (p : Nat) (t : Pl) : World :=
  (w.setCell (ap.add (p * 2)) (.int .i64 (t.is : Nat))).setCell ⟨(ap.add (p * 2)).block, (ap.add (p * 2)).off + 1, none⟩ (.int .i64 t.cell)
theorem HPx.wrote {ap : Addr} {cp : Nat} (hx : HPx A X K M T vr (.slice (some ap) T.length cp) R) (hl : Lay w0 A w) (hp : p < T.length) (t : Pl) (hk : t.is = 1 → t.bs = pcs R K p) (n : Nat) (hn : (keysT (T.set p t)).length = n) :
    (st2 w ap p t).cell? ⟨X, 4, none⟩ = some (.int .i64 ((keysT T).length : Nat)) ∧ (st2 w ap p t).frozen? ⟨X, 4, none⟩ = false ∧
      ∃ A', Lay w0 A' ((st2 w ap p t).setCell ⟨X, 4, none⟩ (.int .i64 (n : Nat))) ∧ HP A' X K M (T.set p t) ∧ ∀ x : Rl, ¬ (73 ≤ x.1 ∧ x.1 < 76) → A' x = A x := by
  obtain ⟨A1, a1, a2, a3⟩ := HPx.put1 (p := p) hx.places hl hp (r := 0) (by omega) (.int .i64 (t.is : Nat)) ⟨t.is, T[p].bs, T[p].cell⟩ rfl
  obtain ⟨A2, b1, b2, b3⟩ := HPx.put1 (p := p) a2 a1 (by rw [List.length_set]; exact hp) (r := 1) (by omega) (.int .i64 t.cell) t (by rw [List.getElem_set_self]; rfl)
  rw [List.set_set] at b2
  rw [Nat.add_zero] at b1
  rw [← add_next ap (p * 2) 1 (by omega)] at b1
  have hh : A2 (73, 0) = _ := (b3 _ (by simp)).trans ((a3 _ (by simp)).trans hx.head)
  have hb := b1.bk hh
  refine ⟨hb.cell 4, hb.frozen 4, _, b1.set_ hh 4 (.int .i64 (n : Nat)), ⟨vr, .slice (some ap) T.length cp, R, ?_, ?_, ?_, ?_, hx.byte, ?_⟩, fun x hx2 => ?_⟩
  · rw [up_same, hn]; rfl
  · rw [List.length_set] at b2 ⊢; exact b2.keep (up_other _ _ _ (by simp))
  · rw [List.length_set]; exact hx.row.keep ((up_other _ _ _ (by simp)).trans ((b3 _ (by simp)).trans (a3 _ (by simp))))
  · rw [List.length_set]; exact hx.len
  · intro q t' hq hi
    by_cases e : q = p
    · subst e
      rw [List.getElem?_set_self hp] at hq
      injection hq with hq
      subst hq
      exact hk hi
    · rw [List.getElem?_set_ne (fun h => e h.symm)] at hq
      exact hx.keys q t' hq hi
  · rw [up_other _ _ _ (fun e => by rw [e] at hx2; simp at hx2), b3 _ (fun e => by rw [e] at hx2; simp at hx2), a3 _ (fun e => by rw [e] at hx2; simp at hx2)]
def putR (R ks : List Int) (K p : Nat) : List Int := R.take (p * K) ++ (ks ++ R.drop (p * K + K))
theorem pcs_put_same (hk : R.length = T.length * K) (hp : p < T.length) (ks : List Int) (hks : ks.length = K) : pcs (putR R ks K p) K p = ks := by
  obtain ⟨_, h2⟩ := pcs_len hk hp
  unfold pcs putR
  rw [List.drop_append_of_le_length (by rw [List.length_take]; omega), List.drop_eq_nil_of_le (by rw [List.length_take]; omega), List.nil_append, ← hks, List.take_left]
theorem putR_len (hk : R.length = T.length * K) (hp : p < T.length) (ks : List Int) (hks : ks.length = K) : (putR R ks K p).length = R.length := by
  obtain ⟨_, h2⟩ := pcs_len hk hp
  unfold putR
  rw [List.length_append, List.length_append, List.length_take, List.length_drop]
  omega
theorem pcs_put_other (hk : R.length = T.length * K) (hp : p < T.length) (ks : List Int) (hks : ks.length = K) {q : Nat} (hq : q < T.length) (hne : q ≠ p) : pcs (putR R ks K p) K q = pcs R K q := by
  obtain ⟨_, h2⟩ := pcs_len hk hp
  obtain ⟨_, h3⟩ := pcs_len hk hq
  unfold pcs
  refine List.ext_getElem? fun j => ?_
  rw [List.getElem?_take, List.getElem?_take]
  split
  · rename_i hj
    rw [List.getElem?_drop, List.getElem?_drop]
    unfold putR
    by_cases e : q < p
    · have : (q + 1) * K ≤ p * K := Nat.mul_le_mul_right K e
      rw [Nat.succ_mul] at this
      rw [List.getElem?_append_left (by rw [List.length_take]; omega), List.getElem?_take, if_pos (by omega)]
    · have : (p + 1) * K ≤ q * K := Nat.mul_le_mul_right K (by omega)
      rw [Nat.succ_mul] at this
      rw [List.getElem?_append_right (by rw [List.length_take]; omega), List.length_take, List.getElem?_append_right (by omega), List.getElem?_drop]
      congr 1
      omega
  · rfl
theorem HPx.copied {g cr : Nat} (hx : HPx A X K M T (.slice (some ⟨g, 0, none⟩) (T.length * K) cr) vp R) (hl : Lay w0 A w) (hp : p < T.length) (hi : (ed T p).is ≠ 1) (ks : List Int) (hks : ks.length = K) (hb : ∀ b ∈ ks, 0 ≤ b ∧ b ≤ 255) :
    ∃ cur : Array Value, w.heap[g]? = some (.cells cur 5 (0, 0)) ∧ p * K + (bv ks).length ≤ cur.size ∧
      ∃ A', Lay w0 A' (w.setRow g (cur.toList.take (p * K) ++ (bv ks ++ cur.toList.drop (p * K + (bv ks).length))).toArray) ∧ HPx A' X K M T (.slice (some ⟨g, 0, none⟩) (T.length * K) cr) vp (putR R ks K p) ∧ ∀ x, x ≠ (75, 0) → A' x = A x := by
  obtain ⟨h1, h2⟩ := pcs_len hx.len hp
  rcases hx.row.2 with ⟨e, _⟩ | ⟨g', cap, cur, e, hA, c1, c2, c3, c4⟩
  · cases e
  · simp only [Value.slice.injEq, Option.some.injEq, Addr.mk.injEq, and_true, true_and] at e
    obtain ⟨rfl, rfl⟩ := e
    have hlen := hx.len
    have hcs : (cur.toList.take (p * K) ++ (bv ks ++ cur.toList.drop (p * K + (bv ks).length))).length = cur.size := by
      rw [List.length_append, List.length_append, List.length_take, List.length_drop, bv_len, Array.length_toList]
      omega
    refine ⟨cur, hl.obj hA, by rw [bv_len]; omega, A.up (75, 0) g (.cells (cur.toList.take (p * K) ++ (bv ks ++ cur.toList.drop (p * K + (bv ks).length))).toArray 5), hl.put hA ?_ (setRow_heap w g cur _ _ _ (hl.obj hA)), ⟨?_, ?_, ⟨?_, .inr ⟨g, cr, _, rfl, up_same _ _ _ _, c1, c2, ?_, ?_⟩⟩, ?_, ?_, ?_⟩, fun x hx => up_other _ _ _ hx⟩
    · exact ⟨rfl, rfl, rfl, by simp [World.setRow], fun k hk hne => setRow_other w g k _ (fun e => hne (by rw [e]))⟩
    · rw [up_other _ _ _ (by simp)]; exact hx.head
    · exact hx.places.keep (up_other _ _ _ (by simp))
    · rw [bv_len, putR_len hx.len hp ks hks]; omega
    · rw [List.size_toArray, hcs]; exact c3
    · have c5 : bv R = cur.toList.take (T.length * K * 1) := c4.symm
      rw [Nat.mul_one] at c5 ⊢
      have e1 : bv (putR R ks K p) = (bv R).take (p * K) ++ (bv ks ++ (bv R).drop (p * K + K)) := by
        unfold putR bv
        rw [List.map_append, List.map_append, List.map_take, List.map_drop]
      rw [e1, c5, bv_len, hks]
      have hpk : p * K + K ≤ T.length * K := by omega
      have hcl : cur.toList.length = cur.size := Array.length_toList
      have hsz : T.length * K ≤ cur.toList.length := by rw [hcl]; omega
      have m1 : min (p * K) cur.toList.length = p * K := by omega
      have m2 : min (T.length * K) cur.toList.length = T.length * K := by omega
      have m3 : min (p * K) (T.length * K) = p * K := by omega
      have t1 : (cur.toList.take (p * K)).take (T.length * K) = cur.toList.take (p * K) := by rw [List.take_take]; congr 1; omega
      have t2 : (bv ks).take (T.length * K - p * K) = bv ks := List.take_of_length_le (by rw [bv_len]; omega)
      have t3 : (cur.toList.take (T.length * K)).take (p * K) = cur.toList.take (p * K) := by rw [List.take_take]; congr 1
      show (cur.toList.take (p * K) ++ (bv ks ++ cur.toList.drop (p * K + K))).take (T.length * K) = _
      rw [List.take_append, t1, List.take_append, List.length_take, m1, t2, bv_len, hks, t3, List.drop_take, Nat.sub_sub]
    · rw [putR_len hx.len hp ks hks]; exact hx.len
    · intro b hbm
      unfold putR at hbm
      rcases List.mem_append.1 hbm with h | h
      · exact hx.byte b (List.mem_of_mem_take h)
      · rcases List.mem_append.1 h with h | h
        · exact hb b h
        · exact hx.byte b (List.mem_of_mem_drop h)
    · intro q t hq hit
      have hql := (List.getElem?_eq_some_iff.1 hq).1
      have hne : q ≠ p := fun e => by subst e; rw [ed_of hq] at hi; exact hi hit
      rw [pcs_put_other hx.len hp ks hks hql hne]
      exact hx.keys q t hq hit
end
end Go.Proofs.Ytkaapphlnolelaa
