/-
  Layer 11: the program and the document beside one another; an act: contract. Conditions: 99000 uses.
-/
import Derived.Test.YthappjbghlifbaaLruKnw
import Derived.Test.YthappjbghlifbaaLruOpen
namespace Go.Proofs.Ythappjbghlifbaa
set_option maxRecDepth 100000
open Go.RowKit Ow Ro K2
set_option linter.unusedVariables false
set_option linter.unusedSimpArgs false
def pickP (w : World) (m : Int) (e : Ending) (w' : World) : Prop := ∃ p : Nat, e = .returned (.int .i64 (p : Int)) ∧ (p : Int) < m ∧ w = w'
theorem pick6 (k : Int) (h1 : -9223372036854775808 ≤ k) (h2 : k ≤ 9223372036854775807) (w : World) :
    Calls Try.prog 22 #[.int .i64 k, .int .i64 6] w (pickP w 6) := by
  have b1 := Int.tmod_lt_of_pos k (show (0 : Int) < 6 by decide)
  have b2 : -6 < k.tmod 6 := by
    have h := Int.tmod_lt_of_pos (-k) (show (0 : Int) < 6 by decide)
    rw [Int.neg_tmod] at h
    omega
  by_cases hn : k.tmod 6 < 0
  · go_enter Try.func22, Try.ntmps22
    go_wp2
    go_ret
    refine ⟨(k.tmod 6 + 6).toNat, ?_, by omega, rfl⟩
    rw [Int.toNat_of_nonneg (by omega)]
    rfl
  · go_enter Try.func22, Try.ntmps22
    go_wp2
    go_ret
    refine ⟨(k.tmod 6).toNat, ?_, by omega, rfl⟩
    rw [Int.toNat_of_nonneg (by omega)]
    rfl
theorem pick5 (k : Int) (h1 : -9223372036854775808 ≤ k) (h2 : k ≤ 9223372036854775807) (w : World) :
    Calls Try.prog 22 #[.int .i64 k, .int .i64 5] w (pickP w 5) := by
  have b1 := Int.tmod_lt_of_pos k (show (0 : Int) < 5 by decide)
  have b2 : -5 < k.tmod 5 := by
    have h := Int.tmod_lt_of_pos (-k) (show (0 : Int) < 5 by decide)
    rw [Int.neg_tmod] at h
    omega
  by_cases hn : k.tmod 5 < 0
  · go_enter Try.func22, Try.ntmps22
    go_wp2
    go_ret
    refine ⟨(k.tmod 5 + 5).toNat, ?_, by omega, rfl⟩
    rw [Int.toNat_of_nonneg (by omega)]
    rfl
  · go_enter Try.func22, Try.ntmps22
    go_wp2
    go_ret
    refine ⟨(k.tmod 5).toNat, ?_, by omega, rfl⟩
    rw [Int.toNat_of_nonneg (by omega)]
    rfl
theorem KD.low {w0 : World} {A : Ac} {ax : Option Addr} {ks : List Int} (h : Rd w0 w0.heap.size ax (bv ks)) : KD w0 A ax ks := fun A' z hl _ => (h.below hl.below).mono hl.below.size
/-- Both maps. -/
def TW (w0 : World) (X Y : Nat) (K M : Int) (o : KO) (b : Nat) (z : World) : Prop := ∃ A, Lay w0 A z ∧ PL 0 A X K M o ∧ DL A Y K M o b
/-- .. what was lent, the act's box; o of the program, p of the document. -/
def TL (w0 : World) (X Y : Nat) (K M : Int) (o p : KO) (b : Nat) (v : Value) (zs : List Int) (B : Nat) (cs : Array Value) (z : World) : Prop :=
  ∃ A, Lay w0 A z ∧ PL 0 A X K M o ∧ DL A Y K M p b ∧ Row A (80, 0) 5 1 v zs.length (bv zs) ∧ A (81, 0) = some (B, .cells cs 29)
/-- .. and who went. -/
def TG (w0 : World) (X Y : Nat) (K M : Int) (o p : KO) (b : Nat) (v : Value) (zs : List Int) (B : Nat) (cs : Array Value) (u : Value) (xs : List Int) (z : World) : Prop :=
  ∃ A, Lay w0 A z ∧ PL 0 A X K M o ∧ DL A Y K M p b ∧ Row A (80, 0) 5 1 v zs.length (bv zs) ∧ A (81, 0) = some (B, .cells cs 29) ∧ Gone A u xs
section
variable {w0 z z' : World} {X Y : Nat} {K M : Int} {o p : KO} {b : Nat} {v u : Value} {zs xs : List Int} {B : Nat} {cs : Array Value}
theorem fg_dl {A A' : Ac} {k : Nat} (h : Fg k A A') (x : Rl) (hx : 75 ≤ x.1) : A' x = A x := h x (by omega) (by omega) (fun e => by rw [e] at hx; simp at hx) (fun e => by rw [e] at hx; simp at hx)
theorem fd_low {A A' : Ac} (h : Fd A A') (x : Rl) (hx : x.1 < 100) : A' x = A x := h x (by omega)
theorem TW.grow (h : TW w0 X Y K M o b z) (hb : Below z.heap.size z z') : TW w0 X Y K M o b z' := by
  obtain ⟨A, h1, h2⟩ := h
  exact ⟨A, h1.grow hb, h2⟩
theorem TW.below (h : TW w0 X Y K M o b z) : Below w0.heap.size w0 z := by
  obtain ⟨A, h1, _⟩ := h
  exact h1.below
theorem TL.grow (h : TL w0 X Y K M o p b v zs B cs z) (hb : Below z.heap.size z z') : TL w0 X Y K M o p b v zs B cs z' := by
  obtain ⟨A, h1, h2⟩ := h
  exact ⟨A, h1.grow hb, h2⟩
theorem TG.grow (h : TG w0 X Y K M o p b v zs B cs u xs z) (hb : Below z.heap.size z z') : TG w0 X Y K M o p b v zs B cs u xs z' := by
  obtain ⟨A, h1, h2⟩ := h
  exact ⟨A, h1.grow hb, h2⟩
theorem TL.below (h : TL w0 X Y K M o p b v zs B cs z) : Below w0.heap.size w0 z := by
  obtain ⟨A, h1, _⟩ := h
  exact h1.below
theorem TG.below (h : TG w0 X Y K M o p b v zs B cs u xs z) : Below w0.heap.size w0 z := by
  obtain ⟨A, h1, _⟩ := h
  exact h1.below
theorem TL.box (h : TL w0 X Y K M o p b v zs B cs z) (i : Nat) : z.cell? ⟨B, i, none⟩ = cs[i]? := by
  obtain ⟨A, h1, _, _, _, h5⟩ := h
  exact (h1.bk h5).cell i
theorem TG.box (h : TG w0 X Y K M o p b v zs B cs u xs z) (i : Nat) : z.cell? ⟨B, i, none⟩ = cs[i]? := by
  obtain ⟨A, h1, _, _, _, h5, _⟩ := h
  exact (h1.bk h5).cell i
theorem TL.rd {a : Option Addr} {n c : Nat} (h : TL w0 X Y K M o p b (.slice a n c) zs B cs z) : Rd z z.heap.size a (bv zs) := by
  obtain ⟨A, h1, _, _, h4, _⟩ := h
  obtain ⟨a', c', e, _⟩ := h4.form2
  simp only [Value.slice.injEq] at e
  obtain ⟨rfl, rfl, rfl⟩ := e
  exact (h4.reads (w0 := w0)).rd h1
theorem TW.boxed (h : TW w0 X Y K M o b z) (cs : Array Value) : ∃ A, Lay w0 A (z.alloc (.cells cs 29)) ∧ PL 0 A X K M o ∧ DL A Y K M o b ∧ A (81, 0) = some (z.heap.size, .cells cs 29) := by
  obtain ⟨A, h1, h2, h3⟩ := h
  exact ⟨_, h1.new (81, 0) ((Below.refl _ _).alloc (Nat.le_refl _) _) (Nat.le_refl _) (Bk.new z 29 cs), h2.keep (up_other _ _ _ (by simp)) (up_other _ _ _ (by simp)), h3.keep (fun x h1 h2 => up_other _ _ _ (fun e => by rw [e] at h1; simp at h1)), up_same _ _ _ _⟩
theorem TL.of {A : Ac} (l : Lay w0 A z) (h2 : PL 0 A X K M o) (h3 : DL A Y K M p b) (h5 : A (81, 0) = some (B, .cells cs 29)) (q : OwnB z v z' zs) : TL w0 X Y K M o p b v zs B cs z' := by
  obtain ⟨A2, l2, r2, f2⟩ := l.newRow (80, 0) q.below q.own (Nat.le_refl _)
  exact ⟨A2, l2, h2.keep (f2 _ (by simp)) (f2 _ (by simp)), h3.keep (fun x h1 h2 => f2 x (fun e => by rw [e] at h1; simp at h1)), r2, (f2 _ (by simp)).trans h5⟩
/-- A key is what was lent, but its end. -/
theorem kdp_take {A : Ac} {a : Option Addr} {n c nk : Nat} (h : Row A (80, 0) 5 1 (.slice a n c) n (bv zs)) (ks : List Int) (hk : (bv zs).take nk = bv ks) : KDp 0 w0 A a ks := by
  have hr := (h.reads (w0 := w0)).take nk
  rw [hk] at hr
  exact KDp.of hr (by simp) (by simp) (by simp) (by simp)
theorem TL.pput {a : Option Addr} {n c : Nat} (h : TL w0 X Y K M o p b (.slice a n c) zs B cs z) (hzl : zs.length = n) (nk ck : Nat) (ks : List Int) (hn : ks.length = nk) (hby : ∀ x ∈ ks, 0 ≤ x ∧ x ≤ 255) (hk : (bv zs).take nk = bv ks) (ce : Int) :
    Calls Try.prog 17 #[.pointer (some ⟨X, 0, none⟩), .slice a nk ck, .int .i64 ce] z fun e z' => ∃ u, e = putV u (aput K M o ks ce).1.2 (aput K M o ks ce).2.1 ∧ TG w0 X Y K M (aput K M o ks ce).2.2 p b (.slice a n c) zs B cs u (aput K M o ks ce).1.1 z' := by
  obtain ⟨A, l, h2, h3, h4, h5⟩ := h
  refine (pput_c l h2 a nk ck ks hn hby (kdp_take (by rw [hzl] at h4; exact h4) ks hk) ce).mono fun e z' q => ?_
  obtain ⟨u, A', he, l2, p2, g2, f2⟩ := q
  exact ⟨u, he, A', l2, p2, h3.keep (fun x a b => fg_dl f2 x (by omega)), h4.keep (fg_dl f2 _ (by simp)), (fg_dl f2 _ (by simp)).trans h5, g2⟩
theorem TG.rput (h : TG w0 X Y K M o p b v zs B cs u xs z) (hb : b ≤ 100000) (ax : Option Addr) (nk cx : Nat) (ks : List Int) (hn : ks.length = nk) (hn2 : nk ≤ 1000) (hby : ∀ x ∈ ks, 0 ≤ x ∧ x ≤ 255) (hr : Rd w0 w0.heap.size ax (bv ks)) (ce : Int) :
    Calls Try.prog 27 #[.pointer (some ⟨Y, 0, none⟩), .slice ax nk cx, .int .i64 ce] z fun e z' => PutA K M p ks ce e z' ∧ TG w0 X Y K M o (aput K M p ks ce).2.2 (b + 1) v zs B cs u xs z' := by
  obtain ⟨A, l, h2, h3, h4, h5, h6⟩ := h
  obtain ⟨vx, hx⟩ := h2
  refine (dput_c l h3 hx.good.M1 hx.good.M2 hb ax nk cx ks hn hn2 hby (KD.low hr) ce).mono fun e z' q => ?_
  obtain ⟨q1, A', l2, p2, f2⟩ := q
  exact ⟨q1, A', l2, ⟨vx, hx.keep (fd_low f2 _ (by simp)) (fd_low f2 _ (by simp))⟩, p2, h4.keep (fd_low f2 _ (by simp)), (fd_low f2 _ (by simp)).trans h5, h6.keep (fd_low f2 _ (by simp))⟩
theorem TG.same {a b2 : Option Addr} {n c d : Nat} (h : TG w0 X Y K M o p b v zs B cs (.slice a n c) xs z) (hn : xs.length = n) (hn2 : n ≤ 1000) (hr : Rd z z.heap.size b2 (bv xs)) :
    Calls Try.prog 25 #[.slice a n c, .slice b2 n d] z fun e z' => e = .returned (.bool true) ∧ TG w0 X Y K M o p b v zs B cs (.slice a n c) xs z' := by
  have hra : Rd z z.heap.size a (bv xs) := by
    obtain ⟨A, l, h2, h3, h4, h5, h6⟩ := h
    rcases h6 with ⟨rfl, e⟩ | g
    · exact rd_nil _ _ _
    · rw [hn] at g
      exact (g.reads (w0 := w0)).rd l
  refine (samebytes_any a b2 n n c d xs xs hn hn (by omega) (by omega) z hra hr).mono fun e z' q => ⟨?_, h.grow q.2⟩
  rw [q.1, decide_eq_true rfl]
theorem TG.spoil (h : TG w0 X Y K M o p b v zs B cs u xs z) (hn2 : xs.length ≤ 1000) :
    Calls Try.prog 16 #[u] z fun e z' => e = .returned (.tuple #[]) ∧ TL w0 X Y K M o p b v zs B cs z' := by
  obtain ⟨A, l, h2, h3, h4, h5, h6⟩ := h
  refine (spoil_gone l h6 (by omega)).mono fun e z' q => ?_
  obtain ⟨q1, A', l2, f2⟩ := q
  exact ⟨q1, A', l2, h2.keep (f2 _ (by simp)) (f2 _ (by simp)), h3.keep (fun x a b => f2 x (fun e => by rw [e] at a; simp at a)), h4.keep (f2 _ (by simp)), (f2 _ (by simp)).trans h5⟩
theorem TL.pfind {a : Option Addr} {n c : Nat} (h : TL w0 X Y K M o p b (.slice a n c) zs B cs z) (hzl : zs.length = n) (nk ck : Nat) (ks : List Int) (hn : ks.length = nk) (hby : ∀ x ∈ ks, 0 ≤ x ∧ x ≤ 255) (hk : (bv zs).take nk = bv ks) :
    Calls Try.prog 18 #[.pointer (some ⟨X, 0, none⟩), .slice a nk ck] z fun e z' => e = .returned (agetV (aget o ks)) ∧ TL w0 X Y K M (afind o ks) p b (.slice a n c) zs B cs z' := by
  obtain ⟨A, l, h2, h3, h4, h5⟩ := h
  refine (pfind_c l h2 a nk ck ks hn hby ((kdp_take (by rw [hzl] at h4; exact h4) ks hk).rd l)).mono fun e z' q => ?_
  obtain ⟨he, A', l2, p2, f2'⟩ := q
  have f2 := f2'.fg
  exact ⟨he, A', l2, p2, h3.keep (fun x a b => fg_dl f2 x (by omega)), h4.keep (fg_dl f2 _ (by simp)), (fg_dl f2 _ (by simp)).trans h5⟩
theorem TL.pdel {a : Option Addr} {n c : Nat} (h : TL w0 X Y K M o p b (.slice a n c) zs B cs z) (hzl : zs.length = n) (nk ck : Nat) (ks : List Int) (hn : ks.length = nk) (hby : ∀ x ∈ ks, 0 ≤ x ∧ x ≤ 255) (hk : (bv zs).take nk = bv ks) :
    Calls Try.prog 23 #[.pointer (some ⟨X, 0, none⟩), .slice a nk ck] z fun e z' => e = .returned (agetV (aget o ks)) ∧ TL w0 X Y K M (awo o ks) p b (.slice a n c) zs B cs z' := by
  obtain ⟨A, l, h2, h3, h4, h5⟩ := h
  refine (pdel_c l h2 a nk ck ks hn hby ((kdp_take (by rw [hzl] at h4; exact h4) ks hk).rd l)).mono fun e z' q => ?_
  obtain ⟨he, A', l2, p2, f2'⟩ := q
  have f2 := f2'.fg
  exact ⟨he, A', l2, p2, h3.keep (fun x a b => fg_dl f2 x (by omega)), h4.keep (fg_dl f2 _ (by simp)), (fg_dl f2 _ (by simp)).trans h5⟩
theorem TL.ppeek {a : Option Addr} {n c : Nat} (h : TL w0 X Y K M o p b (.slice a n c) zs B cs z) (hzl : zs.length = n) (nk ck : Nat) (ks : List Int) (hn : ks.length = nk) (hby : ∀ x ∈ ks, 0 ≤ x ∧ x ≤ 255) (hk : (bv zs).take nk = bv ks) :
    Calls Try.prog 20 #[.pointer (some ⟨X, 0, none⟩), .slice a nk ck] z fun e z' => e = .returned (agetV (aget o ks)) ∧ TL w0 X Y K M o p b (.slice a n c) zs B cs z' := by
  have h0 := h
  obtain ⟨A, l, h2, h3, h4, h5⟩ := h
  exact (ppeek_c l h2 a nk ck ks hn hby ((kdp_take (by rw [hzl] at h4; exact h4) ks hk).rd l)).mono fun e z' q => ⟨q.1, h0.grow q.2⟩
theorem TL.rfind (h : TL w0 X Y K M o p b v zs B cs z) (hb : b ≤ 100000) (ax : Option Addr) (nk cx : Nat) (ks : List Int) (hn : ks.length = nk) (hn2 : nk ≤ 1000) (hr : Rd w0 w0.heap.size ax (bv ks)) :
    Calls Try.prog 28 #[.pointer (some ⟨Y, 0, none⟩), .slice ax nk cx] z fun e z' => e = .returned (agetV (aget p ks)) ∧ TL w0 X Y K M o (afind p ks) (b + 1) v zs B cs z' := by
  obtain ⟨A, l, h2, h3, h4, h5⟩ := h
  obtain ⟨vx, hx⟩ := h2
  refine (dfind_c l h3 hx.good.M2 hb ax nk cx ks hn hn2 (KD.low hr)).mono fun e z' q => ?_
  obtain ⟨q1, A', l2, p2, f2⟩ := q
  exact ⟨q1, A', l2, ⟨vx, hx.keep (fd_low f2 _ (by simp)) (fd_low f2 _ (by simp))⟩, p2, h4.keep (fd_low f2 _ (by simp)), (fd_low f2 _ (by simp)).trans h5⟩
theorem TL.rdel (h : TL w0 X Y K M o p b v zs B cs z) (ax : Option Addr) (nk cx : Nat) (ks : List Int) (hn : ks.length = nk) (hn2 : nk ≤ 1000) (hr : Rd w0 w0.heap.size ax (bv ks)) :
    Calls Try.prog 30 #[.pointer (some ⟨Y, 0, none⟩), .slice ax nk cx] z fun e z' => e = .returned (agetV (aget p ks)) ∧ TL w0 X Y K M o (awo p ks) b v zs B cs z' := by
  obtain ⟨A, l, h2, h3, h4, h5⟩ := h
  obtain ⟨vx, hx⟩ := h2
  refine (ddel_c l h3 hx.good.M2 ax nk cx ks hn hn2 (KD.low hr)).mono fun e z' q => ?_
  obtain ⟨q1, A', l2, p2, f2⟩ := q
  exact ⟨q1, A', l2, ⟨vx, hx.keep (fd_low f2 _ (by simp)) (fd_low f2 _ (by simp))⟩, p2, h4.keep (fd_low f2 _ (by simp)), (fd_low f2 _ (by simp)).trans h5⟩
theorem TL.rpeek (h : TL w0 X Y K M o p b v zs B cs z) (ax : Option Addr) (nk cx : Nat) (ks : List Int) (hn : ks.length = nk) (hn2 : nk ≤ 1000) (hr : Rd w0 w0.heap.size ax (bv ks)) :
    Calls Try.prog 29 #[.pointer (some ⟨Y, 0, none⟩), .slice ax nk cx] z fun e z' => e = .returned (agetV (aget p ks)) ∧ TL w0 X Y K M o p b v zs B cs z' := by
  have h0 := h
  obtain ⟨A, l, h2, h3, h4, h5⟩ := h
  obtain ⟨vx, hx⟩ := h2
  exact (dpeek_c l h3 hx.good.M2 ax nk cx ks hn hn2 (KD.low hr)).mono fun e z' q => ⟨q.1, h0.grow q.2⟩
theorem TL.more (h : TL w0 X Y K M o p b v zs B cs z) : TL w0 X Y K M o p (b + 1) v zs B cs z := by
  obtain ⟨A, l, h2, h3, h4, h5⟩ := h
  exact ⟨A, l, h2, h3.more (by omega), h4, h5⟩
theorem TL.spoil (h : TL w0 X Y K M o o b v zs B cs z) (hz : zs.length ≤ 90000) :
    Calls Try.prog 16 #[v] z fun e z' => e = .returned (.tuple #[]) ∧ TW w0 X Y K M o b z' := by
  obtain ⟨A, l, h2, h3, h4, h5⟩ := h
  refine (spoilb_any w0.heap.size v zs.length (bv zs) hz z (h4.own l)).mono fun e z' q => ?_
  exact ⟨q.1, dn A (80, 0), l.lost h4 q.2, h2.keep (dn_other (by simp)) (dn_other (by simp)), h3.keep (fun x a b => dn_other (fun e => by rw [e] at a; simp at a))⟩
end
theorem bv_pre11 (xs ys : List Int) (n : Nat) (h : xs.length = n) : (bv (xs ++ ys)).take n = bv xs := by unfold bv; rw [← List.map_take, ← h, List.take_left]
theorem aput_len {K M : Int} {o : KO} {ks : List Int} {c : Int} (h : OG K M o) : (aput K M o ks c).1.1.length ≤ 1000 := by
  unfold aput
  split
  · split
    · simp
    · split
      · dsimp only
        cases hg : o.getLast? with
        | none => simp
        | some e =>
          have h1 := h.len e (List.mem_of_getLast? hg)
          have h2 := h.K2
          show e.1.length ≤ 1000
          omega
      · simp
  · simp
end Go.Proofs.Ythappjbghlifbaa
