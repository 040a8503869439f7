/-
  Layer 11: two maps of the program beside one another: contracts. No conditions.
-/
import Derived.Test.YthappjbghlifbaaLruAll
import Derived.Laws.CopyOwn
namespace Go.Proofs.Ythappjbghlifbaa
set_option maxRecDepth 100000
open Go.RowKit Ow Ro K2
set_option linter.unusedVariables false
set_option linter.unusedSimpArgs false
def L2 (w : World) (X Y : Nat) (o : KO) (z : World) : Prop := ∃ A, Lay w A z ∧ PL 0 A X 2 5 o ∧ PL 1 A Y 2 5 o
/-- .. and a key; o of the one, p of the other. -/
def L3 (w : World) (X Y : Nat) (o p : KO) (v : Value) (ks : List Int) (z : World) : Prop := ∃ A, Lay w A z ∧ PL 0 A X 2 5 o ∧ PL 1 A Y 2 5 p ∧ Row A (80, 0) 5 1 v 2 (bv ks)
section
variable {w z z' : World} {X Y : Nat} {o p : KO} {v : Value} {ks : List Int} {a : Option Addr} {c : Nat}
theorem L2.grow (h : L2 w X Y o z) (hb : Below z.heap.size z z') : L2 w X Y o z' := by
  obtain ⟨A, h1, h2⟩ := h
  exact ⟨A, h1.grow hb, h2⟩
theorem L2.below (h : L2 w X Y o z) : Below w.heap.size w z := by
  obtain ⟨A, h1, _⟩ := h
  exact h1.below
theorem L2.good (h : L2 w X Y o z) : OG 2 5 o := by
  obtain ⟨A, h1, ⟨v, hx⟩, h3⟩ := h
  exact hx.good
theorem L3.l2 (h : L3 w X Y o o v ks z) : L2 w X Y o z := by
  obtain ⟨A, h1, h2, h3, _⟩ := h
  exact ⟨A, h1, h2, h3⟩
theorem L2.key (h : L2 w X Y o z) {g : Nat} {cur : List Value} (hb : Below z.heap.size z z') (hg : z.heap.size ≤ g) (ho : z'.heap[g]? = some (.cells cur.toArray 5)) (hc : cur = bv ks) (hk : ks.length = 2) : L3 w X Y o o (.slice (some ⟨g, 0, none⟩) 2 2) ks z' := by
  obtain ⟨A, h1, h2, h3⟩ := h
  subst hc
  refine ⟨_, h1.new (80, 0) hb hg ho, h2.keep (up_other _ _ _ (by simp)) (up_other _ _ _ (by simp)), h3.keep (up_other _ _ _ (by simp)) (up_other _ _ _ (by simp)), ⟨by rw [bv_len, hk], .inr ⟨g, 2, _, rfl, up_same _ _ _ _, Nat.le_refl _, by unfold maxLen; omega, by simp [bv_len, hk], ?_⟩⟩⟩
  rw [List.take_of_length_le (by simp [bv_len, hk])]
theorem fg_one {A A' : Ac} (h : Fg 0 A A') (x : Rl) (hx : x.2 = 1) (h1 : x.1 = 73 ∨ x.1 = 74) : A' x = A x := h x (by omega) (by omega) (fun e => by rw [e] at hx; simp at hx) (fun e => by rw [e] at hx; simp at hx)
theorem fg_nul {A A' : Ac} (h : Fg 1 A A') (x : Rl) (hx : x.2 = 0) (h1 : x.1 = 73 ∨ x.1 = 74) : A' x = A x := h x (by omega) (by omega) (fun e => by rw [e] at hx; simp at hx) (fun e => by rw [e] at hx; simp at hx)
theorem L3.xput (h : L3 w X Y o p (.slice a 2 c) ks z) (hk : ks.length = 2) (hby : ∀ x ∈ ks, 0 ≤ x ∧ x ≤ 255) (ce : Int) :
    Calls Try.prog 17 #[.pointer (some ⟨X, 0, none⟩), .slice a 2 c, .int .i64 ce] z fun e z' => ∃ u, e = putV u (aput 2 5 o ks ce).1.2 (aput 2 5 o ks ce).2.1 ∧ L3 w X Y (aput 2 5 o ks ce).2.2 p (.slice a 2 c) ks z' := by
  obtain ⟨A, l, h2, h3, h4⟩ := h
  refine (pput_c l h2 a 2 c ks hk hby (KDp.of (h4.reads (w0 := w)) (by simp) (by simp) (by simp) (by simp)) ce).mono fun e z' q => ?_
  obtain ⟨u, A', he, l2, p2, g2, f2⟩ := q
  exact ⟨u, he, A', l2, p2, h3.keep (fg_one f2 _ rfl (by simp)) (fg_one f2 _ rfl (by simp)), h4.keep (fg_dl f2 _ (by simp))⟩
theorem L3.yput (h : L3 w X Y o p (.slice a 2 c) ks z) (hk : ks.length = 2) (hby : ∀ x ∈ ks, 0 ≤ x ∧ x ≤ 255) (ce : Int) :
    Calls Try.prog 17 #[.pointer (some ⟨Y, 0, none⟩), .slice a 2 c, .int .i64 ce] z fun e z' => ∃ u, e = putV u (aput 2 5 p ks ce).1.2 (aput 2 5 p ks ce).2.1 ∧ L3 w X Y o (aput 2 5 p ks ce).2.2 (.slice a 2 c) ks z' := by
  obtain ⟨A, l, h2, h3, h4⟩ := h
  refine (pput_c l h3 a 2 c ks hk hby (KDp.of (h4.reads (w0 := w)) (by simp) (by simp) (by simp) (by simp)) ce).mono fun e z' q => ?_
  obtain ⟨u, A', he, l2, p2, g2, f2⟩ := q
  exact ⟨u, he, A', l2, h2.keep (fg_nul f2 _ rfl (by simp)) (fg_nul f2 _ rfl (by simp)), p2, h4.keep (fg_dl f2 _ (by simp))⟩
theorem L3.xfind (h : L3 w X Y o p (.slice a 2 c) ks z) (hk : ks.length = 2) (hby : ∀ x ∈ ks, 0 ≤ x ∧ x ≤ 255) :
    Calls Try.prog 18 #[.pointer (some ⟨X, 0, none⟩), .slice a 2 c] z fun e z' => e = .returned (agetV (aget o ks)) ∧ L3 w X Y (afind o ks) p (.slice a 2 c) ks z' := by
  obtain ⟨A, l, h2, h3, h4⟩ := h
  refine (pfind_c l h2 a 2 c ks hk hby ((h4.reads (w0 := w)).rd l)).mono fun e z' q => ?_
  obtain ⟨he, A', l2, p2, f⟩ := q
  have f2 := f.fg
  exact ⟨he, A', l2, p2, h3.keep (fg_one f2 _ rfl (by simp)) (fg_one f2 _ rfl (by simp)), h4.keep (fg_dl f2 _ (by simp))⟩
theorem L3.yfind (h : L3 w X Y o p (.slice a 2 c) ks z) (hk : ks.length = 2) (hby : ∀ x ∈ ks, 0 ≤ x ∧ x ≤ 255) :
    Calls Try.prog 18 #[.pointer (some ⟨Y, 0, none⟩), .slice a 2 c] z fun e z' => e = .returned (agetV (aget p ks)) ∧ L3 w X Y o (afind p ks) (.slice a 2 c) ks z' := by
  obtain ⟨A, l, h2, h3, h4⟩ := h
  refine (pfind_c l h3 a 2 c ks hk hby ((h4.reads (w0 := w)).rd l)).mono fun e z' q => ?_
  obtain ⟨he, A', l2, p2, f⟩ := q
  have f2 := f.fg
  exact ⟨he, A', l2, h2.keep (fg_nul f2 _ rfl (by simp)) (fg_nul f2 _ rfl (by simp)), p2, h4.keep (fg_dl f2 _ (by simp))⟩
theorem L3.xdel (h : L3 w X Y o p (.slice a 2 c) ks z) (hk : ks.length = 2) (hby : ∀ x ∈ ks, 0 ≤ x ∧ x ≤ 255) :
    Calls Try.prog 23 #[.pointer (some ⟨X, 0, none⟩), .slice a 2 c] z fun e z' => e = .returned (agetV (aget o ks)) ∧ L3 w X Y (awo o ks) p (.slice a 2 c) ks z' := by
  obtain ⟨A, l, h2, h3, h4⟩ := h
  refine (pdel_c l h2 a 2 c ks hk hby ((h4.reads (w0 := w)).rd l)).mono fun e z' q => ?_
  obtain ⟨he, A', l2, p2, f⟩ := q
  have f2 := f.fg
  exact ⟨he, A', l2, p2, h3.keep (fg_one f2 _ rfl (by simp)) (fg_one f2 _ rfl (by simp)), h4.keep (fg_dl f2 _ (by simp))⟩
theorem L3.ydel (h : L3 w X Y o p (.slice a 2 c) ks z) (hk : ks.length = 2) (hby : ∀ x ∈ ks, 0 ≤ x ∧ x ≤ 255) :
    Calls Try.prog 23 #[.pointer (some ⟨Y, 0, none⟩), .slice a 2 c] z fun e z' => e = .returned (agetV (aget p ks)) ∧ L3 w X Y o (awo p ks) (.slice a 2 c) ks z' := by
  obtain ⟨A, l, h2, h3, h4⟩ := h
  refine (pdel_c l h3 a 2 c ks hk hby ((h4.reads (w0 := w)).rd l)).mono fun e z' q => ?_
  obtain ⟨he, A', l2, p2, f⟩ := q
  have f2 := f.fg
  exact ⟨he, A', l2, h2.keep (fg_nul f2 _ rfl (by simp)) (fg_nul f2 _ rfl (by simp)), p2, h4.keep (fg_dl f2 _ (by simp))⟩
/-- Both maps, and keys to be read. -/
def L2T (w : World) (X Y : Nat) (o : KO) (ad : Addr) (z : World) : Prop := L2 w X Y o z ∧ Txt z z.heap.size (some ad) (o.map (·.1))
theorem L2T.grow {ad : Addr} (h : L2T w X Y o ad z) (hb : Below z.heap.size z z') : L2T w X Y o ad z' := ⟨h.1.grow hb, (h.2.below hb).mono hb.size⟩
theorem L2.xkeys (h : L2 w X Y o z) :
    Calls Try.prog 13 #[.pointer (some ⟨X, 0, none⟩)] z fun e z' => ∃ ad, e = .returned (.slice (some ad) o.length o.length) ∧ L2T w X Y o ad z' := by
  obtain ⟨A, l, h2, h3⟩ := h
  refine (pkeys_b l h2).mono fun e z' q => ?_
  obtain ⟨⟨ad, he, hk⟩, hb⟩ := q
  exact ⟨ad, by rw [List.length_map] at he; exact he, ⟨A, l.grow hb, h2, h3⟩, hk.txt⟩
theorem L2T.ykeys {ad : Addr} (h : L2T w X Y o ad z) :
    Calls Try.prog 13 #[.pointer (some ⟨Y, 0, none⟩)] z fun e z' => ∃ ad2, e = .returned (.slice (some ad2) o.length o.length) ∧ L2T w X Y o ad z' ∧ Txt z' z'.heap.size (some ad2) (o.map (·.1)) := by
  have h0 := h
  obtain ⟨⟨A, l, h2, h3⟩, ht⟩ := h
  refine (pkeys_b l h3).mono fun e z' q => ?_
  obtain ⟨⟨ad2, he, hk⟩, hb⟩ := q
  exact ⟨ad2, by rw [List.length_map] at he; exact he, h0.grow hb, hk.txt⟩
theorem L2T.peek {ad : Addr} (h : L2T w X Y o ad z) {j : Nat} (hj : j < o.length) : ∃ a1 n1 c1, z.cell? (ad.add j) = some (.slice a1 n1 c1) ∧
    Calls Try.prog 20 #[.pointer (some ⟨X, 0, none⟩), .slice a1 n1 c1] z fun e z' => ∃ r, e = .returned (agetV r) ∧ L2T w X Y o ad z' := by
  have h0 := h
  obtain ⟨⟨A, l, h2, h3⟩, ht⟩ := h
  obtain ⟨ad', a1, c1, e, hb, hc, hr⟩ := ht.look (j := j) (bs := (o[j]).1) (by rw [List.getElem?_map, List.getElem?_eq_getElem hj]; rfl)
  injection e with e
  subst e
  have hby : ∀ b ∈ (o[j]).1, 0 ≤ b ∧ b ≤ 255 := by
    obtain ⟨v, hx⟩ := h2
    exact hx.good.byt _ (List.getElem_mem hj)
  exact ⟨a1, _, c1, hc, (ppeek_c l h2 a1 _ c1 _ rfl hby hr).mono fun e z' q => ⟨_, q.1, h0.grow q.2⟩⟩
theorem L2.xlen (h : L2 w X Y o z) : Calls Try.prog 11 #[.pointer (some ⟨X, 0, none⟩)] z fun e z' => e = .returned (.int .i64 (o.length : Nat)) ∧ z' = z := by
  obtain ⟨A, l, h2, h3⟩ := h
  exact plen_c l h2
theorem L2.ylen (h : L2 w X Y o z) : Calls Try.prog 11 #[.pointer (some ⟨Y, 0, none⟩)] z fun e z' => e = .returned (.int .i64 (o.length : Nat)) ∧ z' = z := by
  obtain ⟨A, l, h2, h3⟩ := h
  exact plen_c l h3
theorem new_twin (w : World) :
    Calls Try.prog 7 #[.int .i64 2, .int .i64 5] w fun e w' => ∃ X, e = .returned (.pointer (some ⟨X, 0, none⟩)) ∧
      Calls Try.prog 7 #[.int .i64 2, .int .i64 5] w' fun e w2 => ∃ Y, e = .returned (.pointer (some ⟨Y, 0, none⟩)) ∧ L2 w X Y [] w2 := by
  refine (pnew_c 0 (Lay.start w) 2 5).mono fun e w' q => ?_
  obtain ⟨X, he, A1, l1, p1, f1⟩ := q
  refine ⟨X, he, (pnew_c 1 l1 2 5).mono fun e w2 q => ?_⟩
  obtain ⟨Y, he2, A2, l2, p2, f2⟩ := q
  exact ⟨Y, he2, A2, l2, p1.keep (fg_nul f2.fg _ rfl (by simp)) (fg_nul f2.fg _ rfl (by simp)), p2⟩
end
/-- A key of two bytes out of any. -/
def key2 (bs : List Int) : List Int := bs.take 2 ++ ([0, 0] : List Int).drop (bs.take 2).length
theorem key2_len (bs : List Int) : (key2 bs).length = 2 := by
  unfold key2
  rw [List.length_append, List.length_drop, List.length_take]
  simp
  omega
theorem key2_by {bs : List Int} (h : ∀ b ∈ bs, 0 ≤ b ∧ b ≤ 255) : ∀ b ∈ key2 bs, 0 ≤ b ∧ b ≤ 255 := fun b hb => by
  unfold key2 at hb
  rcases List.mem_append.1 hb with h1 | h1
  · exact h b (List.mem_of_mem_take h1)
  · have := List.mem_of_mem_drop h1
    simp at this
    omega
theorem key2_bv (bs : List Int) : splice [Value.int .u8 0, Value.int .u8 0] 0 (bv (bs.take 2)) = bv (key2 bs) := by
  unfold splice key2 bv
  rw [List.take_zero, List.nil_append, List.map_append, List.map_drop, List.length_map, Nat.zero_add]
  rfl
theorem byte_size : (Try.prog.info? 5).map (·.size) = some 1 := by kernel_rfl
end Go.Proofs.Ythappjbghlifbaa
