/-
  Layer 11's document: what a Put makes of the rows. No conditions.
-/
import Derived.Test.YthappjbghlifbaaLruRef3
namespace Go.Proofs.Ythappjbghlifbaa
set_option maxRecDepth 100000
open Go.RowKit Ow Ro K2
set_option linter.unusedVariables false
set_option linter.unusedSimpArgs false
/-- An append to a row of our own, as one step of a drawing region. -/
theorem step_append_own_at {P : Program} {ops : Array Oper} {o : Oper} {a : Act} {w : World} {K : Act → World → Prop} {Q : Exit → Act → World → Prop} {E : Prop} (hgd : o.guard = none) (s x : Operand) (t : TypeId)
    (ho : o.op = .call { callee := .builtin .append, args := #[s, x], argTypes := #[t, t] })
    (base : Nat) (e : TypeId) (i : TypeInfo) (z : Value) (size bytes : Nat) (ht : P.underlying t = some (.slice e)) (hi : P.info? e = some i) (hz : i.zero = some z)
    (hsize : i.size = size) (hby : i.bytes = bytes) (hzs : z.cells.size = size) (hsz : 0 < size)
    (v : Value) (n : Nat) (xs : List Value) (hs : a.eval s = v) (hown : w.ownsRow base e size v n xs)
    (ad : Addr) (m c : Nat) (news : List Value) (hx : a.eval x = .slice (some ad) m c) (hl : news.length = m * size) (hnews : ∀ j u, news[j]? = some u → w.cell? (ad.add j) = some u) (h1 : ∀ u ∈ news, u.oneCell' = true)
    (h63 : n + m ≤ maxLen) (hbytes : (n + m) * bytes ≤ 140737488355328) (hbase : base ≤ w.heap.size)
    (h : ∀ v' w', w'.ownsRow base e size v' (n + m) (xs ++ news) → w.grownBy w' v.ownBlock → (v'.ownBlock = v.ownBlock ∨ ∃ g, v'.ownBlock = some g ∧ w.heap.size ≤ g) → K (a.put o.dst v') w') :
    if Region.wanted o (yielded ops a.tmps) = true then Oper.wp P o a w K Q else E := by
  have hw : Region.wanted o (yielded ops a.tmps) = true := by simp [Region.wanted, hgd]
  rw [if_pos hw]
  obtain ⟨v', w', hr, h2, h3, h4, h5⟩ := run_append_own_at (P := P) w base t o.type e i z size bytes ht hi hz hsize hby hzs hsz v n xs hown ad m c news hl hnews h1 h63 hbytes hbase
  unfold Oper.wp execOp
  simp only [ho, resolve, invoke, builtin, Sem.run_bind, Sem.run_pure, Result.andThen_ok, List.map_toArray, List.map_cons, List.map_nil, hs, hx, hr]
  exact h v' w' h2 h3 (h5.imp id fun e => ⟨_, e, Nat.le_refl _⟩)
/-- Every role but those that a Put touches. -/
def Fr (A A' : Ac) (t : Nat) : Prop := ∀ x : Rl, x.1 ≠ 100 → x.1 ≠ 101 → x.1 ≠ 104 → x ≠ (102, t) → A' x = A x
/-- A key that is read, whatever a Put does. -/
def KP (w0 : World) (A : Ac) (t : Nat) (ax : Option Addr) (ks : List Int) : Prop := ∀ (A' : Ac) (z : World), Lay w0 A' z → Fr A A' t → Rd z z.heap.size ax (bv ks)
theorem ne_1 {x : Rl} {a b : Nat} (h : x.1 ≠ a) : x ≠ (a, b) := fun e => h (by rw [e])
def PS1 (w0 : World) (A : Ac) (X : Nat) (K M U : Int) (v : Value) (l : List Rw) (t T gx : Nat) (gcs : Array Value) (z : World) : Prop := ∃ A', Lay w0 A' z ∧ LS A' X K M U v l T ∧ A' (104, 0) = some (gx, .cells gcs 60) ∧ Fr A A' t
def PS2 (w0 : World) (A : Ac) (X : Nat) (K M U : Int) (v : Value) (l : List Rw) (t gx : Nat) (gcs : Array Value) (u : Value) (ks : List Int) (z : World) : Prop := ∃ A', Lay w0 A' z ∧ LS A' X K M U v l t ∧ A' (104, 0) = some (gx, .cells gcs 60) ∧ Fr A A' t ∧ Row A' (102, t) 5 1 u ks.length (bv ks)
def PS3 (w0 : World) (A : Ac) (X : Nat) (K M U : Int) (v v' : Value) (l : List Rw) (t gx : Nat) (gcs : Array Value) (z : World) : Prop := ∃ A', Lay w0 A' z ∧ A' (100, 0) = some (X, .cells #[.int .i64 K, .int .i64 M, .int .i64 U, v] 54) ∧ Row A' (101, 0) 60 3 v' l.length (rflat l) ∧ (∀ e ∈ l, LK A' (t + 1) e) ∧ A' (104, 0) = some (gx, .cells gcs 60) ∧ Fr A A' t
section
variable {w0 w w' z z' : World} {A : Ac} {X : Nat} {K M U : Int} {v v' u : Value} {l : List Rw} {t T gx : Nat} {gcs : Array Value} {ks : List Int} {ax : Option Addr}
theorem PS1.start (h : LS A X K M U v l t) (hl : Lay w0 A w) (gcs : Array Value) : PS1 w0 A X K M U v l t t w.heap.size gcs (w.alloc (.cells gcs 60)) :=
  ⟨_, hl.new (104, 0) ((Below.refl _ _).alloc (Nat.le_refl _) _) (Nat.le_refl _) (heap_alloc_new w _), h.keep (fun x h1 h2 => up_other _ _ _ (ne_1 (by omega))), up_same _ _ _ _, fun x _ _ h3 _ => up_other _ _ _ (ne_1 h3)⟩
theorem PS1.drew (h : PS1 w0 A X K M U v l t T gx gcs z) : PS1 w0 A X K M U v l t T gx gcs z.drew := by
  obtain ⟨A', h1, h2⟩ := h
  exact ⟨A', h1.drew, h2⟩
theorem PS1.grow (h : PS1 w0 A X K M U v l t T gx gcs z) (hb : Below z.heap.size z z') : PS1 w0 A X K M U v l t T gx gcs z' := by
  obtain ⟨A', h1, h2⟩ := h
  exact ⟨A', h1.grow hb, h2⟩
theorem PS1.hd (h : PS1 w0 A X K M U v l t T gx gcs z) : LHd z X K M U v := by
  obtain ⟨A', h1, h2, _⟩ := h
  exact h2.hd h1
theorem PS1.rd (h : PS1 w0 A X K M U v l t T gx gcs z) (hr : KP w0 A t ax ks) : Rd z z.heap.size ax (bv ks) := by
  obtain ⟨A', h1, h2, h3, h4⟩ := h
  exact hr A' z h1 h4
theorem PS1.box (h : PS1 w0 A X K M U v l t T gx gcs z) (i : Nat) : z.cell? ⟨gx, i, none⟩ = gcs[i]? ∧ z.frozen? ⟨gx, i, none⟩ = false := by
  obtain ⟨A', h1, h2, h3, h4⟩ := h
  exact ⟨(h1.bk h3).cell i, (h1.bk h3).frozen i⟩
theorem PS1.form (h : PS1 w0 A X K M U v l t T gx gcs z) : ∃ a cap, v = .slice a l.length cap ∧ l.length ≤ cap ∧ cap ≤ maxLen := by
  obtain ⟨A', h1, h2, _⟩ := h
  exact h2.form
theorem PS1.copied (h : PS1 w0 A X K M U v l t t gx gcs z) (q : OwnB z u z' ks) : PS2 w0 A X K M U v l t gx gcs u ks z' := by
  obtain ⟨A', h1, h2, h3, h4⟩ := h
  obtain ⟨A2, l2, r2, f2⟩ := h1.newRow (102, t) q.below q.own (Nat.le_refl _)
  refine ⟨A2, l2, ⟨(f2 _ (by simp)).trans h2.head, h2.row.keep (f2 _ (by simp)), fun e he => ?_⟩, (f2 _ (by simp)).trans h3, fun x a b c d => (f2 x d).trans (h4 x a b c d), r2⟩
  have hk := h2.keys e he
  exact hk.keep (f2 _ (by have := hk.1; simp; omega))
theorem PS2.grow (h : PS2 w0 A X K M U v l t gx gcs u ks z) (hb : Below z.heap.size z z') : PS2 w0 A X K M U v l t gx gcs u ks z' := by
  obtain ⟨A', h1, h2⟩ := h
  exact ⟨A', h1.grow hb, h2⟩
theorem PS2.hd (h : PS2 w0 A X K M U v l t gx gcs u ks z) : LHd z X K M U v := by
  obtain ⟨A', h1, h2, _⟩ := h
  exact h2.hd h1
theorem PS2.own (h : PS2 w0 A X K M U v l t gx gcs u ks z) : z.ownsRow w0.heap.size 60 3 v l.length (rflat l) ∧ w0.heap.size ≤ z.heap.size := by
  obtain ⟨A', h1, h2, _⟩ := h
  exact ⟨h2.row.own h1, h1.below.size⟩
theorem LK.later {A : Ac} {e : Rw} (h : LK A t e) : LK A (t + 1) e := ⟨by have := h.1; omega, h.2⟩
theorem PS2.app (h : PS2 w0 A X K M U v l t gx gcs u ks z) (c : Int) (hb1 : ks.length ≤ 1000) (hb2 : ∀ b ∈ ks, 0 ≤ b ∧ b ≤ 255) (ho : z'.ownsRow w0.heap.size 60 3 v' (l.length + 1) (rflat l ++ [u, .int .i64 c, .int .i64 0])) (hg : z.grownBy z' v.ownBlock) (hat : v'.ownBlock = v.ownBlock ∨ ∃ g, v'.ownBlock = some g ∧ z.heap.size ≤ g) :
    PS3 w0 A X K M U v v' (l ++ [⟨u, ks, c, 0, t⟩]) t gx gcs z' := by
  obtain ⟨A', h1, h2, h3, h4, h5⟩ := h
  obtain ⟨A2, l2, r2, f2⟩ := h1.took h2.row hg ho hat
  refine ⟨A2, l2, (f2 _ (by simp)).trans h2.head, ?_, fun e he => ?_, (f2 _ (by simp)).trans h3, fun x a b c d => (f2 x (ne_1 b)).trans (h4 x a b c d)⟩
  · rw [rflat_app, List.length_append]
    exact r2
  · rcases List.mem_append.1 he with h | h
    · exact ((h2.keys e h).keep (f2 _ (by simp))).later
    · rw [List.mem_singleton] at h
      subst h
      exact ⟨Nat.lt_succ_self _, hb1, hb2, h5.keep (f2 _ (by simp))⟩
theorem PS3.hd (h : PS3 w0 A X K M U v v' l t gx gcs z) : LHd z X K M U v := by
  obtain ⟨A', h1, h2, _⟩ := h
  exact ⟨(h1.bk h2).cell 0, (h1.bk h2).cell 1, (h1.bk h2).cell 2, (h1.bk h2).cell 3, (h1.bk h2).frozen 2, (h1.bk h2).frozen 3, (h1.bk h2).lt⟩
theorem PS3.form (h : PS3 w0 A X K M U v v' l t gx gcs z) : ∃ a cap, v' = .slice a l.length cap ∧ l.length ≤ cap ∧ cap ≤ maxLen := by
  obtain ⟨A', h1, h2, h3, _⟩ := h
  obtain ⟨a, cap, e, h1, h2, _⟩ := h3.form2
  exact ⟨a, cap, e, h1, h2⟩
theorem PS3.put (h : PS3 w0 A X K M U v v' l t gx gcs z) : PS1 w0 A X K M U v' l t (t + 1) gx gcs (z.setCell ⟨X, 3, none⟩ v') := by
  obtain ⟨A', h1, h2, h3, h4, h5, h6⟩ := h
  exact ⟨_, h1.set_ h2 3 v', ⟨by rw [up_same]; rfl, h3.keep (up_other _ _ _ (by simp)), fun e he => (h4 e he).keep (up_other _ _ _ (by simp))⟩, (up_other _ _ _ (by simp)).trans h5, fun x a b c d => (up_other _ _ _ (ne_1 a)).trans (h6 x a b c d)⟩
/-- The box has another row. -/
theorem PS1.boxed {g0 g1 g2 : Value} (h : PS1 w0 A X K M U v l t T gx #[g0, g1, g2] z) (a b c : Value) : PS1 w0 A X K M U v l t T gx #[a, b, c] (((z.setCell ⟨gx, 0, none⟩ a).setCell ⟨gx, 1, none⟩ b).setCell ⟨gx, 2, none⟩ c) := by
  obtain ⟨A', h1, h2, h3, h4⟩ := h
  have s1 := h1.set_ h3 0 a
  have s2 := s1.set_ (up_same _ _ _ _) 1 b
  have s3 := s2.set_ (up_same _ _ _ _) 2 c
  exact ⟨_, s3, h2.keep (fun x a b => (up_other _ _ _ (ne_1 (by omega))).trans ((up_other _ _ _ (ne_1 (by omega))).trans (up_other _ _ _ (ne_1 (by omega))))), up_same _ _ _ _, fun x a b c d => ((up_other _ _ _ (ne_1 c)).trans ((up_other _ _ _ (ne_1 c)).trans (up_other _ _ _ (ne_1 c)))).trans (h4 x a b c d)⟩
/-- The rows are other ones. -/
theorem PS1.swap {v2 : Value} {l2 : List Rw} (h : PS1 w0 A X K M U v l t T gx gcs z) (q : OwnR z v2 z' l2) (hm : ∀ e ∈ l2, e ∈ l) : PS1 w0 A X K M U v2 l2 t T gx gcs (z'.setCell ⟨X, 3, none⟩ v2) := by
  obtain ⟨A', h1, h2, h3, h4⟩ := h
  obtain ⟨A2, l2, s2, f2⟩ := h2.swap h1 q hm
  exact ⟨A2, l2, s2, (f2 _ (by simp) (by simp)).trans h3, fun x a b c d => (f2 x (ne_1 a) (ne_1 b)).trans (h4 x a b c d)⟩
end
/-! ### Who was used longest ago -/
def mnt (l : List Rw) : Nat → Nat
  | 0 => 0
  | i + 1 => if (l.getD i rw0).u < (l.getD (mnt l i) rw0).u then i else mnt l i
theorem mnt_lt (l : List Rw) (i : Nat) (h : 0 < l.length) (hi : i ≤ l.length) : mnt l i < l.length := by
  induction i with
  | zero => exact h
  | succ i ih =>
    unfold mnt
    split
    · omega
    · exact ih (by omega)
theorem mnt_least (l : List Rw) (i : Nat) : ∀ j, j < i → (l.getD (mnt l i) rw0).u ≤ (l.getD j rw0).u := by
  induction i with
  | zero => intro j h; omega
  | succ i ih =>
    intro j hj
    unfold mnt
    split
    · rename_i h
      by_cases e : j = i
      · subst e; exact Int.le_refl _
      · have := ih j (by omega); omega
    · by_cases e : j = i
      · subst e; omega
      · exact ih j (by omega)
end Go.Proofs.Ythappjbghlifbaa
