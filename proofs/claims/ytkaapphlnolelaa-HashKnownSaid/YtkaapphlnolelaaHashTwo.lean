/-
  Layer 10: the program's table and the document's beside one another: contracts. Conditions: a table as New makes it (Tab).
-/
import Derived.Test.YtkaapphlnolelaaHashOpen
namespace Go.Proofs.Ytkaapphlnolelaa
set_option maxRecDepth 100000
open Go.RowKit Ow Ro K2 Hm
set_option linter.unusedVariables false
set_option linter.unusedSimpArgs false
def Tw (w0 : World) (P X K : Nat) (M : Int) (T : List Pl) (w : World) : Prop := ∃ A, Lay w0 A w ∧ HP A P K M T ∧ HS A X (K : Nat) M T
/-- .. and a row that is lent; the program is at T, the document at S. -/
def TL (w0 : World) (P X K : Nat) (M : Int) (T S : List Pl) (v : Value) (zs : List Int) (B : Nat) (cs : Array Value) (w : World) : Prop :=
  ∃ A, Lay w0 A w ∧ HP A P K M T ∧ HS A X (K : Nat) M S ∧ Row A (80, 0) 5 1 v zs.length (bv zs) ∧ A (81, 0) = some (B, .cells cs 36)
/-- .. a box. -/
def TB (w0 : World) (P X K : Nat) (M : Int) (T : List Pl) (B : Nat) (cs : Array Value) (w : World) : Prop :=
  ∃ A, Lay w0 A w ∧ HP A P K M T ∧ HS A X (K : Nat) M T ∧ A (81, 0) = some (B, .cells cs 36)
/-- .. and the program's keys that were told. -/
def TQ (w0 : World) (P X K : Nat) (M : Int) (T : List Pl) (G : List (List Int)) (v : Value) (w : World) : Prop :=
  ∃ A, KQ w0 A G v w ∧ HP A P K M T ∧ HS A X (K : Nat) M T
section
variable {w0 w w' : World} {P X K : Nat} {M : Int} {T S : List Pl} {v : Value} {zs : List Int} {B : Nat} {cs : Array Value} {G : List (List Int)}
theorem Tw.grow (h : Tw w0 P X K M T w) (hb : Below w.heap.size w w') : Tw w0 P X K M T w' := by
  obtain ⟨A, h1, h2⟩ := h
  exact ⟨A, h1.grow hb, h2⟩
theorem TL.grow (h : TL w0 P X K M T S v zs B cs w) (hb : Below w.heap.size w w') : TL w0 P X K M T S v zs B cs w' := by
  obtain ⟨A, h1, h2⟩ := h
  exact ⟨A, h1.grow hb, h2⟩
theorem TQ.grow (h : TQ w0 P X K M T G v w) (hb : Below w.heap.size w w') : TQ w0 P X K M T G v w' := by
  obtain ⟨A, h1, h2⟩ := h
  exact ⟨A, h1.grow hb, h2⟩
theorem Tw.below (h : Tw w0 P X K M T w) : Below w0.heap.size w0 w := by
  obtain ⟨A, h1, h2⟩ := h
  exact h1.below
theorem TL.below (h : TL w0 P X K M T S v zs B cs w) : Below w0.heap.size w0 w := by
  obtain ⟨A, h1, h2⟩ := h
  exact h1.below
theorem TQ.below (h : TQ w0 P X K M T G v w) : Below w0.heap.size w0 w := by
  obtain ⟨A, ⟨A', vs, h1, _⟩, h2⟩ := h
  exact h1.below
theorem tnew_h {key most : Int} (h : HasP w0 P K M T w) (hM : cutN key 16 = (K : Nat)) (hT : T = List.replicate (npl M) e0) (hm : cutN most 64 = M) : Calls Try.prog 15 #[.int .i64 key, .int .i64 most] w fun e w' => ∃ X, e = .returned (.pointer (some ⟨X, 0, none⟩)) ∧ Tw w0 P X K M T w' := by
  obtain ⟨A, h1, h2⟩ := h
  refine (rnew10_c h1 key most).mono fun e w' h => ?_
  obtain ⟨X, he, A', h3, h4, h5⟩ := h
  rw [hM, hm, ← hT] at h4
  exact ⟨X, he, A', h3, h2.keep (fun x h6 h7 => h5 x (by omega)), h4⟩
theorem Tw.boxed (h : Tw w0 P X K M T w) (cs : Array Value) : TB w0 P X K M T w.heap.size cs (w.alloc (.cells cs 36)) := by
  obtain ⟨A, h1, h2, h3⟩ := h
  refine ⟨A.up (81, 0) w.heap.size (.cells cs 36), h1.new (81, 0) ((Below.refl _ _).alloc (Nat.le_refl _) _) (Nat.le_refl _) (heap_alloc_new w _), h2.keep (fun x h6 h7 => up_other _ _ _ (fun e => by rw [e] at h7; simp at h7)), h3.keep (fun x h6 h7 => up_other _ _ _ (fun e => by rw [e] at h7; simp at h7)), up_same _ _ _ _⟩
theorem TB.below (h : TB w0 P X K M T B cs w) : Below w0.heap.size w0 w := by
  obtain ⟨A, h1, h2⟩ := h
  exact h1.below
theorem TB.box (h : TB w0 P X K M T B cs w) (i : Nat) : w.cell? ⟨B, i, none⟩ = cs[i]? := by
  obtain ⟨A, h1, h2, h3, h4⟩ := h
  exact (h1.bk h4).cell i
theorem TL.box (h : TL w0 P X K M T S v zs B cs w) (i : Nat) : w.cell? ⟨B, i, none⟩ = cs[i]? := by
  obtain ⟨A, h1, h2, h3, h4, h5⟩ := h
  exact (h1.bk h5).cell i
theorem TL.drew (h : TL w0 P X K M T S v zs B cs w) : TL w0 P X K M T S v zs B cs w.drew := by
  obtain ⟨A, h1, h2⟩ := h
  exact ⟨A, h1.drew, h2⟩
theorem TB.lent (h : TB w0 P X K M T B cs w) (q : OwnB w v w' zs) : TL w0 P X K M T T v zs B cs w' := by
  obtain ⟨A, h1, h2, h3, h4⟩ := h
  obtain ⟨A2, l2, r2, f2⟩ := h1.newRow (80, 0) q.below q.own (Nat.le_refl _)
  exact ⟨A2, l2, h2.keep (fun x h6 h7 => f2 x (fun e => by rw [e] at h7; simp at h7)), h3.keep (fun x h6 h7 => f2 x (fun e => by rw [e] at h7; simp at h7)), r2, (f2 _ (by simp)).trans h4⟩
theorem TL.rd {a : Option Addr} {n c : Nat} (h : TL w0 P X K M T S (.slice a n c) zs B cs w) : Rd w w.heap.size a (bv zs) := by
  obtain ⟨A, h1, h2, h3, h4, h10⟩ := h
  obtain ⟨a', cap, e, _⟩ := h4.form2
  simp only [Value.slice.injEq] at e
  obtain ⟨rfl, rfl, rfl⟩ := e
  exact (h4.reads (w0 := w0)).rd h1
theorem tput_p (h : TL w0 P X K M T S v zs B cs w) (ht : Tab T K M) (a : Option Addr) (nk ck : Nat) (ks : List Int) (hkn : ks.length = nk) (hk6 : nk ≤ 100000) (hkb : ∀ b ∈ ks, 0 ≤ b ∧ b ≤ 255) (hrd : Rd w w.heap.size a (bv ks)) (c : Int) :
    Calls Try.prog 16 #[.pointer (some ⟨P, 0, none⟩), .slice a nk ck, .int .i64 c] w fun e w' => e = .returned (.int .i64 (putT T K M ks c).1) ∧ TL w0 P X K M (putT T K M ks c).2 S v zs B cs w' := by
  obtain ⟨A, h1, h2, h3, h4, h10⟩ := h
  refine (pput_c h1 h2 ht a nk ck ks hkn hk6 hkb hrd c).mono fun e w' h => ?_
  obtain ⟨he, A', h5, h6, h7⟩ := h
  exact ⟨he, A', h5, h6, h3.keep (fun x h8 h9 => h7 x (by omega)), h4.keep (h7 _ (by simp)), (h7 _ (by simp)).trans h10⟩
theorem tdel_p (h : TL w0 P X K M T S v zs B cs w) (ht : Tab T K M) (a : Option Addr) (nk ck : Nat) (ks : List Int) (hkn : ks.length = nk) (hk6 : nk ≤ 100000) (hkb : ∀ b ∈ ks, 0 ≤ b ∧ b ≤ 255) (hrd : Rd w w.heap.size a (bv ks)) :
    Calls Try.prog 20 #[.pointer (some ⟨P, 0, none⟩), .slice a nk ck] w fun e w' => e = .returned (fdV T (fat T ks)) ∧ TL w0 P X K M (delT T (fat T ks)) S v zs B cs w' := by
  obtain ⟨A, h1, h2, h3, h4, h10⟩ := h
  refine (pdel_c h1 h2 ht a nk ck ks hkn hk6 hkb hrd).mono fun e w' h => ?_
  obtain ⟨he, A', h5, h6, h7⟩ := h
  exact ⟨he, A', h5, h6, h3.keep (fun x h8 h9 => h7 x (by omega)), h4.keep (h7 _ (by simp)), (h7 _ (by simp)).trans h10⟩
theorem tfind_p (h : TL w0 P X K M T S v zs B cs w) (ht : Tab T K M) (a : Option Addr) (nk ck : Nat) (ks : List Int) (hkn : ks.length = nk) (hk6 : nk ≤ 100000) (hkb : ∀ b ∈ ks, 0 ≤ b ∧ b ≤ 255) (hrd : Rd w w.heap.size a (bv ks)) :
    Calls Try.prog 18 #[.pointer (some ⟨P, 0, none⟩), .slice a nk ck] w fun e w' => e = .returned (fdV T (fat T ks)) ∧ TL w0 P X K M T S v zs B cs w' := by
  have h0 := h
  obtain ⟨A, h1, h2, h3, h4, h10⟩ := h
  exact (pfind_c h1 h2 ht a nk ck ks hkn hk6 hkb hrd).mono fun e w' h => ⟨h.1, h0.grow h.2⟩
theorem tput_r (h : TL w0 P X K M T S v zs B cs w) (ht : Tab S K M) (a : Option Addr) (nk ck : Nat) (ks : List Int) (hkn : ks.length = nk) (hk6 : nk ≤ 100000) (hkb : ∀ b ∈ ks, 0 ≤ b ∧ b ≤ 255) (hrd : Rd w0 w0.heap.size a (bv ks)) (c : Int) :
    Calls Try.prog 17 #[.pointer (some ⟨X, 0, none⟩), .slice a nk ck, .int .i64 c] w fun e w' => e = .returned (.int .i64 (putT S K M ks c).1) ∧ TL w0 P X K M T (putT S K M ks c).2 v zs B cs w' := by
  obtain ⟨A, h1, h2, h3, h4, h10⟩ := h
  refine (rput_c h1 h3 ht (r := (0, 0)) (by simp) a nk ck ks hkn hk6 hkb (Reads.old hrd A (0, 0)) c).mono fun e w' h => ?_
  obtain ⟨he, A', h5, h6, h7⟩ := h
  exact ⟨he, A', h5, h2.keep (fun x h8 h9 => h7 x (by omega)), h6, h4.keep (h7 _ (by simp)), (h7 _ (by simp)).trans h10⟩
theorem tdel_r (h : TL w0 P X K M T S v zs B cs w) (ht : Tab S K M) (a : Option Addr) (nk ck : Nat) (ks : List Int) (hkn : ks.length = nk) (hk6 : nk ≤ 100000) (hkb : ∀ b ∈ ks, 0 ≤ b ∧ b ≤ 255) (hrd : Rd w0 w0.heap.size a (bv ks)) :
    Calls Try.prog 21 #[.pointer (some ⟨X, 0, none⟩), .slice a nk ck] w fun e w' => e = .returned (fdV S (fat S ks)) ∧ TL w0 P X K M T (delT S (fat S ks)) v zs B cs w' := by
  obtain ⟨A, h1, h2, h3, h4, h10⟩ := h
  refine (rdel_c h1 h3 (by have := ht.small; omega) ht.good.pos a nk ck ks hkn hk6 hkb ((hrd.below h1.below).mono h1.below.size)).mono fun e w' h => ?_
  obtain ⟨he, A', h5, h6, h7⟩ := h
  rw [ht.good.plc] at he h6
  exact ⟨he, A', h5, h2.keep (fun x h8 h9 => h7 x (by omega)), h6, h4.keep (h7 _ (by simp)), (h7 _ (by simp)).trans h10⟩
theorem tfind_r (h : TL w0 P X K M T S v zs B cs w) (ht : Tab S K M) (a : Option Addr) (nk ck : Nat) (ks : List Int) (hkn : ks.length = nk) (hk6 : nk ≤ 100000) (hkb : ∀ b ∈ ks, 0 ≤ b ∧ b ≤ 255) (hrd : Rd w0 w0.heap.size a (bv ks)) :
    Calls Try.prog 19 #[.pointer (some ⟨X, 0, none⟩), .slice a nk ck] w fun e w' => e = .returned (fdV S (fat S ks)) ∧ TL w0 P X K M T S v zs B cs w' := by
  have h0 := h
  obtain ⟨A, h1, h2, h3, h4, h10⟩ := h
  have hc := find_c h1 h3 (by have := ht.small; omega) ht.good.pos a nk ck ks hkn hk6 hkb ((hrd.below h1.below).mono h1.below.size)
  rw [ht.good.plc] at hc
  exact hc.mono fun e w' h => ⟨h.1, h0.grow h.2⟩
theorem tspoil (h : TL w0 P X K M T T v zs B cs w) (hz : zs.length ≤ 90000) :
    Calls Try.prog 22 #[v] w fun e w' => e = .returned (.tuple #[]) ∧ Tw w0 P X K M T w' := by
  obtain ⟨A, h1, h2, h3, h4, h10⟩ := h
  refine (spoilb_any w0.heap.size v zs.length (bv zs) hz w (h4.own h1)).mono fun e w' h => ?_
  refine ⟨h.1, dn A (80, 0), h1.lost h4 h.2, h2.keep (fun x h8 h9 => dn_other (fun e => by rw [e] at h9; simp at h9)), h3.keep (fun x h8 h9 => dn_other (fun e => by rw [e] at h9; simp at h9))⟩
theorem Tab.keys_le (ht : Tab T K M) : (keysT T).length ≤ 1000 ∧ ∀ g ∈ keysT T, g.length ≤ 1000 := by
  refine ⟨by have := keysT_le T; have := ht.small; omega, fun g hg => ?_⟩
  unfold keysT at hg
  obtain ⟨t, h1, rfl⟩ := List.mem_map.1 hg
  exact ht.bsl t (List.mem_filter.1 h1).1
theorem tkeys_p (h : Tw w0 P X K M T w) (ht : Tab T K M) :
    Calls Try.prog 23 #[.pointer (some ⟨P, 0, none⟩)] w fun e w' => ∃ a c, e = .returned (.slice a (keysT T).length c) ∧ TQ w0 P X K M T (keysT T) (.slice a (keysT T).length c) w' := by
  obtain ⟨A, h1, h2, h3⟩ := h
  refine (pkeys_c h1 h2 ht).mono fun e w' h => ?_
  obtain ⟨v, he, hk⟩ := h
  have hk0 := hk
  obtain ⟨A', vs, k1, k2, k3, _⟩ := hk
  obtain ⟨a, c, rfl, _⟩ := k3.form2
  exact ⟨a, c, he, A, hk0, h2, h3⟩
theorem tlen_p (h : TQ w0 P X K M T G v w) :
    Calls Try.prog 24 #[.pointer (some ⟨P, 0, none⟩)] w fun e w' => e = .returned (.int .i64 ((keysT T).length : Nat)) ∧ w = w' := by
  obtain ⟨A, ⟨A', vs, k1, k2, k3⟩, h2, h3⟩ := h
  exact plen_p k1 (h2.keep (fun x h8 h9 => k2 x (by omega) (by omega)))
theorem TQ.other {A : Ac} (h : TQ w0 P X K M T G v w) {A2 A' : Ac} {vs : List Value} (k1 : Lay w0 A2 w') (hA : ∀ x : Rl, x.1 ≠ 63 → x.1 ≠ 64 → A2 x = A' x) (hv : (∀ x : Rl, x.1 ≠ 65 → x.1 ≠ 66 → A' x = A x) ∧ Row A' (65, 0) 22 1 v G.length vs ∧ vs.length = G.length ∧ ∀ j bs, G[j]? = some bs → ∃ u, vs[j]? = some u ∧ Row A' (66, j) 5 1 u bs.length (bv bs)) (h2 : HP A P K M T) (h3 : HS A X (K : Nat) M T) : TQ w0 P X K M T G v w' := by
  obtain ⟨f, r, l, q⟩ := hv
  refine ⟨fun x => if x.1 = 65 ∨ x.1 = 66 then A x else A2 x, ⟨A2, vs, k1, fun x h8 h9 => (if_neg (by omega)).symm, r.keep (hA _ (by simp) (by simp)), l, fun j bs hj => ?_⟩, h2.keep (fun x h8 h9 => ?_), h3.keep (fun x h8 h9 => ?_)⟩
  · obtain ⟨u, e1, e2⟩ := q j bs hj
    exact ⟨u, e1, e2.keep (hA _ (by simp) (by simp))⟩
  · rw [if_neg (by omega), hA x (by omega) (by omega), f x (by omega) (by omega)]
  · rw [if_neg (by omega), hA x (by omega) (by omega), f x (by omega) (by omega)]
theorem tlen_r (h : TQ w0 P X K M T G v w) (ht : Tab T K M) :
    Calls Try.prog 25 #[.pointer (some ⟨X, 0, none⟩)] w fun e w' => e = .returned (.int .i64 ((keysT T).length : Nat)) ∧ TQ w0 P X K M T G v w' := by
  have h0 := h
  obtain ⟨A, ⟨A', vs, k1, k2, k3⟩, h2, h3⟩ := h
  refine (rlen10_c k1 (h3.keep (fun x h8 h9 => k2 x (by omega) (by omega))) (by have := ht.small; omega) ht.bsl).mono fun e w' h => ?_
  obtain ⟨he, A2, q1, q2⟩ := h
  exact ⟨he, h0.other q1 q2 ⟨k2, k3⟩ h2 h3⟩
theorem tkeys_r (h : TQ w0 P X K M T G v w) (ht : Tab T K M) :
    Calls Try.prog 27 #[.pointer (some ⟨X, 0, none⟩)] w fun e w' => ∃ a c, e = .returned (.slice a (keysT T).length c) ∧ TQ w0 P X K M T G v w' ∧ Txt w' w'.heap.size a (keysT T) := by
  have h0 := h
  obtain ⟨A, ⟨A', vs, k1, k2, k3⟩, h2, h3⟩ := h
  refine (rkeys_c k1 (h3.keep (fun x h8 h9 => k2 x (by omega) (by omega))) (by have := ht.small; omega) ht.bsl).mono fun e w' h => ?_
  obtain ⟨u, he, hk⟩ := h
  have hk0 := hk
  obtain ⟨A2, vs2, q1, q2, q3, _⟩ := hk
  obtain ⟨a, c, rfl, _⟩ := q3.form2
  exact ⟨a, c, he, h0.other q1 q2 ⟨k2, k3⟩ h2 h3, Txt.of_KI hk0⟩
theorem TQ.txt {a : Option Addr} {n c : Nat} (h : TQ w0 P X K M T G (.slice a n c) w) : Txt w w.heap.size a G := by
  obtain ⟨A, h1, h2⟩ := h
  exact Txt.of_KQ h1
theorem tspoils (h : TQ w0 P X K M T G v w) (hn : G.length ≤ 1000) (hb : ∀ g ∈ G, g.length ≤ 1000) :
    Calls Try.prog 28 #[v] w fun e w' => e = .returned (.tuple #[]) ∧ Tw w0 P X K M T w' := by
  obtain ⟨A, h1, h2, h3⟩ := h
  refine (spoiltexts_c h1 hn hb).mono fun e w' h => ?_
  obtain ⟨he, A', q1, q2⟩ := h
  exact ⟨he, A', q1, h2.keep (fun x h8 h9 => q2 x (by omega) (by omega)), h3.keep (fun x h8 h9 => q2 x (by omega) (by omega))⟩
theorem TQ.tw (h : TQ w0 P X K M T G v w) : Tw w0 P X K M T w := by
  obtain ⟨A, ⟨A', vs, k1, k2, k3⟩, h2, h3⟩ := h
  exact ⟨A', k1, h2.keep (fun x h8 h9 => k2 x (by omega) (by omega)), h3.keep (fun x h8 h9 => k2 x (by omega) (by omega))⟩
end
end Go.Proofs.Ytkaapphlnolelaa
