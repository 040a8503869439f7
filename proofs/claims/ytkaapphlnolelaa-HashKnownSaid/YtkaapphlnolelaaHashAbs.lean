/-
  Layer 10: a table as a list of keys and cells: what calls do with it; contracts with whatever else is kept. Conditions: a table as New makes it (Tab).
-/
import Derived.Test.YtkaapphlnolelaaHashTwo
namespace Go.Proofs.Ytkaapphlnolelaa
set_option maxRecDepth 100000
open Go.RowKit Ow Ro K2 Hm
set_option linter.unusedVariables false
set_option linter.unusedSimpArgs false
section
variable {T : List Pl} {K : Nat} {M : Int} {k : List Int} {c : Int} {H H2 : List KC}
theorem putH (ht : Tab T K M) (hh : Holds T H) (hk : k.length = K) (hb : ∀ b ∈ k, 0 ≤ b ∧ b ≤ 255) (hn : ∀ c, (k, c) ∉ H) (hl : (H.length : Int) < M) (c : Int) : ∃ T', putT T K M k c = (0, T') ∧ Tab T' K M ∧ Holds T' (H ++ [(k, c)]) := by
  have hf := hh.none_ hn
  obtain ⟨r, hr⟩ := ht.room k
  have hm : ((keysT T).length : Int) < M := by rw [← hh.len]; exact hl
  obtain ⟨r1, r2⟩ := rat_lt hr
  refine ⟨T.set r ⟨1, k, c⟩, ?_, ht.put hk hb hf hr hm c, hh.put r1 r2 k c⟩
  unfold putT
  rw [if_pos hk, hf]
  dsimp only
  rw [if_pos hm, hr]
theorem putFull (hh : Holds T H) (hk : k.length = K) (hn : ∀ c, (k, c) ∉ H) (hl : ¬ (H.length : Int) < M) (c : Int) : putT T K M k c = (12, T) := by
  have hf := hh.none_ hn
  unfold putT
  rw [if_pos hk, hf]
  dsimp only
  rw [if_neg (by rw [← hh.len]; exact hl)]
theorem putTwice (ht : Tab T K M) (hh : Holds T H) (hk : k.length = K) {c0 : Int} (hm : (k, c0) ∈ H) (c : Int) : putT T K M k c = (11, T) := by
  obtain ⟨p, h1, h2⟩ := hh.some_ ht.good hm
  unfold putT
  rw [if_pos hk, h1]
theorem putSize (hk : ¬ k.length = K) (c : Int) : putT T K M k c = (14, T) := by
  unfold putT
  rw [if_neg hk]
theorem findH (ht : Tab T K M) (hh : Holds T H) (hm : (k, c) ∈ H) : fdV T (fat T k) = .tuple #[.int .i64 c, .bool true] := by
  obtain ⟨p, h1, h2⟩ := hh.some_ ht.good hm
  rw [fdV_some h1, h2]
theorem findN (hh : Holds T H) (hn : ∀ c, (k, c) ∉ H) : fdV T (fat T k) = .tuple #[.int .i64 0, .bool false] ∧ delT T (fat T k) = T := by
  rw [hh.none_ hn]
  exact ⟨rfl, rfl⟩
theorem delH (ht : Tab T K M) (hh : Holds T H) (hp : H.Perm ((k, c) :: H2)) : Tab (delT T (fat T k)) K M ∧ Holds (delT T (fat T k)) H2 := by
  obtain ⟨p, h1, h2⟩ := hh.some_ ht.good (hp.mem_iff.2 (by simp : (k, c) ∈ (k, c) :: H2))
  obtain ⟨l1, l2, l3⟩ := fat_lt h1
  refine ⟨ht.delT k, ?_⟩
  rw [h1]
  exact hh.del l1 l2 (by rw [l3, h2]; exact hp)
theorem lenH (hh : Holds T H) : ((keysT T).length : Int) = (H.length : Int) := by rw [hh.len]
end
/-- A table of the program, and whatever else there is. -/
def PS (w0 : World) (P K : Nat) (M : Int) (T : List Pl) (F : Ac → Prop) (w : World) : Prop := ∃ A, Lay w0 A w ∧ HP A P K M T ∧ F A
/-- What does not hang on the table's own memory. -/
def Fst (F : Ac → Prop) : Prop := ∀ A A' : Ac, (∀ x : Rl, 80 ≤ x.1 → A' x = A x) → F A → F A'
section
variable {w0 w w' : World} {P K : Nat} {M : Int} {T : List Pl} {F : Ac → Prop}
theorem PS.grow (h : PS w0 P K M T F w) (hb : Below w.heap.size w w') : PS w0 P K M T F w' := by
  obtain ⟨A, h1, h2⟩ := h
  exact ⟨A, h1.grow hb, h2⟩
theorem PS.drew (h : PS w0 P K M T F w) : PS w0 P K M T F w.drew := by
  obtain ⟨A, h1, h2⟩ := h
  exact ⟨A, h1.drew, h2⟩
theorem PS.below (h : PS w0 P K M T F w) : Below w0.heap.size w0 w := by
  obtain ⟨A, h1, h2⟩ := h
  exact h1.below
theorem PS.mono {F' : Ac → Prop} (h : PS w0 P K M T F w) (hf : ∀ A, F A → F' A) : PS w0 P K M T F' w := by
  obtain ⟨A, h1, h2, h3⟩ := h
  exact ⟨A, h1, h2, hf A h3⟩
theorem fnew (hb : Below w0.heap.size w0 w) (key most : Int) : Calls Try.prog 14 #[.int .i64 key, .int .i64 most] w fun e w' => ∃ X, e = .returned (.pointer (some ⟨X, 0, none⟩)) ∧ PS w0 X (cutN key 16).toNat (cutN most 64) (List.replicate (npl (cutN most 64)) e0) (fun _ => True) w' :=
  (pnew_c (lay_none hb) key most).mono fun e w' h => by
    obtain ⟨X, he, A', h1, h2, h3⟩ := h
    exact ⟨X, he, A', h1, h2, trivial⟩
theorem fput (h : PS w0 P K M T F w) (hF : Fst F) (ht : Tab T K M) (a : Option Addr) (nk ck : Nat) (ks : List Int) (hkn : ks.length = nk) (hk6 : nk ≤ 100000) (hkb : ∀ b ∈ ks, 0 ≤ b ∧ b ≤ 255) (hrd : Rd w w.heap.size a (bv ks)) (c : Int) {r : Int × List Pl} (hr : putT T K M ks c = r) :
    Calls Try.prog 16 #[.pointer (some ⟨P, 0, none⟩), .slice a nk ck, .int .i64 c] w fun e w' => e = .returned (.int .i64 r.1) ∧ PS w0 P K M r.2 F w' := by
  obtain ⟨A, h1, h2, h3⟩ := h
  subst hr
  refine (pput_c h1 h2 ht a nk ck ks hkn hk6 hkb hrd c).mono fun e w' h => ?_
  obtain ⟨he, A', h5, h6, h7⟩ := h
  exact ⟨he, A', h5, h6, hF A A' (fun x h8 => h7 x (by omega)) h3⟩
theorem fdel (h : PS w0 P K M T F w) (hF : Fst F) (ht : Tab T K M) (a : Option Addr) (nk ck : Nat) (ks : List Int) (hkn : ks.length = nk) (hk6 : nk ≤ 100000) (hkb : ∀ b ∈ ks, 0 ≤ b ∧ b ≤ 255) (hrd : Rd w w.heap.size a (bv ks)) {v : Value} (hv : fdV T (fat T ks) = v) :
    Calls Try.prog 20 #[.pointer (some ⟨P, 0, none⟩), .slice a nk ck] w fun e w' => e = .returned v ∧ PS w0 P K M (delT T (fat T ks)) F w' := by
  obtain ⟨A, h1, h2, h3⟩ := h
  subst hv
  refine (pdel_c h1 h2 ht a nk ck ks hkn hk6 hkb hrd).mono fun e w' h => ?_
  obtain ⟨he, A', h5, h6, h7⟩ := h
  exact ⟨he, A', h5, h6, hF A A' (fun x h8 => h7 x (by omega)) h3⟩
theorem ffind (h : PS w0 P K M T F w) (ht : Tab T K M) (a : Option Addr) (nk ck : Nat) (ks : List Int) (hkn : ks.length = nk) (hk6 : nk ≤ 100000) (hkb : ∀ b ∈ ks, 0 ≤ b ∧ b ≤ 255) (hrd : Rd w w.heap.size a (bv ks)) {v : Value} (hv : fdV T (fat T ks) = v) :
    Calls Try.prog 18 #[.pointer (some ⟨P, 0, none⟩), .slice a nk ck] w fun e w' => e = .returned v ∧ PS w0 P K M T F w' ∧ Below w.heap.size w w' := by
  have h0 := h
  obtain ⟨A, h1, h2, h3⟩ := h
  subst hv
  exact (pfind_c h1 h2 ht a nk ck ks hkn hk6 hkb hrd).mono fun e w' h => ⟨h.1, h0.grow h.2, h.2⟩
theorem flen (h : PS w0 P K M T F w) :
    Calls Try.prog 24 #[.pointer (some ⟨P, 0, none⟩)] w fun e w' => e = .returned (.int .i64 ((keysT T).length : Nat)) ∧ w = w' := by
  obtain ⟨A, h1, h2, h3⟩ := h
  exact plen_p h1 h2
end
end Go.Proofs.Ytkaapphlnolelaa
