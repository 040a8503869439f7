/-
  Layer 10: works: contract; a table stays a table. Conditions: none.
-/
import Derived.Test.YtkaapphlnolelaaHashP5
namespace Go.Proofs.Ytkaapphlnolelaa
set_option maxRecDepth 100000
open Go.RowKit Ow Ro K2 Hm
set_option linter.unusedVariables false
set_option linter.unusedSimpArgs false
section
variable {T : List Pl} {K : Nat} {M : Int}
theorem npl_pow (M : Int) : ∃ e, npl M = 2 ^ e := by
  unfold npl
  (repeat' split)
  · exact ⟨1, rfl⟩
  · exact ⟨2, rfl⟩
  · exact ⟨3, rfl⟩
  · exact ⟨4, rfl⟩
  · exact ⟨5, rfl⟩
  · exact ⟨6, rfl⟩
  · exact ⟨7, rfl⟩
theorem npl_big (M : Int) (h : M ≤ 64) : 2 * M ≤ (npl M : Int) := by unfold npl; (repeat' split) <;> omega
theorem Tab.start (K : Nat) (M : Int) (hK : 1 ≤ K) (hK2 : K ≤ 16) (hM : 1 ≤ M) (hM2 : M ≤ 64) : Tab (List.replicate (npl M) e0) K M := by
  have h0 := npl_le M
  refine ⟨Good.start _ _ (by omega), ?_, ?_, ?_, ?_, hM, hK, hK2, fun t ht => ?_, fun t ht => ?_⟩
  · rw [List.length_replicate]; exact npl_pow M
  · rw [List.length_replicate]; exact npl_big M hM2
  · rw [List.length_replicate]; exact h0.2
  · have := (Holds.start (npl M)).len
    rw [← this]
    simp
    omega
  · rw [List.eq_of_mem_replicate ht]; simp [e0]
  · rw [List.eq_of_mem_replicate ht]; simp [e0]
theorem Tab.putT (h : Tab T K M) (k : List Int) (hb : ∀ b ∈ k, 0 ≤ b ∧ b ≤ 255) (c : Int) : Tab (putT T K M k c).2 K M := by
  unfold Go.Proofs.Ytkaapphlnolelaa.putT
  split
  · rename_i hk
    cases hf : fat T k with
    | some p => exact h
    | none =>
      dsimp only
      split
      · rename_i hm
        cases hr : rat T k with
        | some r => exact h.put hk hb hf hr hm c
        | none => exact h
      · exact h
  · exact h
theorem Tab.delT (h : Tab T K M) (k : List Int) : Tab (delT T (fat T k)) K M := by
  cases hf : fat T k with
  | none => exact h
  | some p => exact h.del hf
end
theorem lit_key (w : World) (b : Int) : Rd (w.alloc (.cells #[.int .u8 b] 5)) (w.alloc (.cells #[.int .u8 b] 5)).heap.size (some ⟨w.heap.size, 0, none⟩) (bv [b]) := fun _ => by
  refine ⟨_, rfl, by rw [World.size_alloc]; exact Nat.lt_succ_self _, fun j u hu => ?_⟩
  rw [add_zero_at]
  have h := (Bk.new w 5 #[.int .u8 b]).cell j
  rw [h]
  unfold bv at hu
  rw [← hu]
  cases j with
  | zero => rfl
  | succ j => simp
def wT0 : List Pl := List.replicate 4 e0
def wT1 : List Pl := (putT wT0 1 2 [97] 7).2
def wT2 : List Pl := (putT wT1 1 2 [98] 9).2
def wT3 : List Pl := delT wT2 (fat wT2 [97])
theorem w_e1 : (putT wT0 1 2 [97] 7).1 = 0 := by kernel_rfl
theorem w_e2 : putT wT1 1 2 [97] 8 = (11, wT1) := by kernel_rfl
theorem w_e3 : (putT wT1 1 2 [98] 9).1 = 0 := by kernel_rfl
theorem w_e4 : putT wT2 1 2 [99] 1 = (12, wT2) := by kernel_rfl
theorem w_e5 : fdV wT2 (fat wT2 [97]) = .tuple #[.int .i64 7, .bool true] := by kernel_rfl
theorem w_e6 : fdV wT3 (fat wT3 [97]) = .tuple #[.int .i64 0, .bool false] := by kernel_rfl
theorem w_e7 : fdV wT3 (fat wT3 [98]) = .tuple #[.int .i64 9, .bool true] := by kernel_rfl
theorem w_t0 : Tab wT0 1 2 := Tab.start 1 2 (by omega) (by omega) (by omega) (by omega)
theorem w_f1 : putT wT0 1 2 [97] 7 = (0, wT1) := Prod.ext w_e1 rfl
theorem w_f3 : putT wT1 1 2 [98] 9 = (0, wT2) := Prod.ext w_e3 rfl
theorem w_t1 : Tab wT1 1 2 := w_t0.putT [97] (by simp) 7
theorem w_t2 : Tab wT2 1 2 := w_t1.putT [98] (by simp) 9
theorem w_t3 : Tab wT3 1 2 := w_t2.delT [97]
theorem b_lit (b : Int) (h : 0 ≤ b ∧ b ≤ 255) : ∀ x ∈ [b], 0 ≤ x ∧ x ≤ 255 := fun x hx => by rw [List.mem_singleton] at hx; subst hx; exact h
/-! ### Without roles -/
def HasP (w0 : World) (X K : Nat) (M : Int) (T : List Pl) (w : World) : Prop := ∃ A, Lay w0 A w ∧ HP A X K M T
section
variable {w0 w : World} {X K : Nat} {M : Int} {T : List Pl}
theorem lay_none (hb : Below w0.heap.size w0 w) : Lay w0 (fun _ => none) w := ⟨hb, (fun _ _ _ h => by cases h), (fun _ _ _ _ _ h => by cases h)⟩
theorem HasP.grow {w' : World} (h : HasP w0 X K M T w) (hb : Below w.heap.size w w') : HasP w0 X K M T w' := by
  obtain ⟨A, h1, h2⟩ := h
  exact ⟨A, h1.grow hb, h2⟩
theorem HasP.below (h : HasP w0 X K M T w) : Below w0.heap.size w0 w := by
  obtain ⟨A, h1, h2⟩ := h
  exact h1.below
theorem pnew_h (hb : Below w0.heap.size w0 w) (key most : Int) : Calls Try.prog 14 #[.int .i64 key, .int .i64 most] w fun e w' => ∃ X, e = .returned (.pointer (some ⟨X, 0, none⟩)) ∧ HasP w0 X (cutN key 16).toNat (cutN most 64) (List.replicate (npl (cutN most 64)) e0) w' :=
  (pnew_c (lay_none hb) key most).mono fun e w' h => by
    obtain ⟨X, he, A', h1, h2, h3⟩ := h
    exact ⟨X, he, A', h1, h2⟩
theorem pput_h (h : HasP w0 X K M T w) (ht : Tab T K M) (a : Option Addr) (nk ck : Nat) (ks : List Int) (hkn : ks.length = nk) (hk6 : nk ≤ 100000) (hkb : ∀ b ∈ ks, 0 ≤ b ∧ b ≤ 255) (hrd : Rd w w.heap.size a (bv ks)) (c : Int) {r : Int × List Pl} (hr : putT T K M ks c = r) :
    Calls Try.prog 16 #[.pointer (some ⟨X, 0, none⟩), .slice a nk ck, .int .i64 c] w fun e w' => e = .returned (.int .i64 r.1) ∧ HasP w0 X K M r.2 w' := by
  obtain ⟨A, h1, h2⟩ := h
  refine (pput_c h1 h2 ht a nk ck ks hkn hk6 hkb hrd c).mono fun e w' h => ?_
  obtain ⟨he, A', h3, h4, _⟩ := h
  subst hr
  exact ⟨he, A', h3, h4⟩
theorem pdel_h (h : HasP w0 X K M T w) (ht : Tab T K M) (a : Option Addr) (nk ck : Nat) (ks : List Int) (hkn : ks.length = nk) (hk6 : nk ≤ 100000) (hkb : ∀ b ∈ ks, 0 ≤ b ∧ b ≤ 255) (hrd : Rd w w.heap.size a (bv ks)) {v : Value} (hv : fdV T (fat T ks) = v) :
    Calls Try.prog 20 #[.pointer (some ⟨X, 0, none⟩), .slice a nk ck] w fun e w' => e = .returned v ∧ HasP w0 X K M (delT T (fat T ks)) w' := by
  obtain ⟨A, h1, h2⟩ := h
  refine (pdel_c h1 h2 ht a nk ck ks hkn hk6 hkb hrd).mono fun e w' h => ?_
  obtain ⟨he, A', h3, h4, _⟩ := h
  subst hv
  exact ⟨he, A', h3, h4⟩
theorem pfind_h (h : HasP w0 X K M T w) (ht : Tab T K M) (a : Option Addr) (nk ck : Nat) (ks : List Int) (hkn : ks.length = nk) (hk6 : nk ≤ 100000) (hkb : ∀ b ∈ ks, 0 ≤ b ∧ b ≤ 255) (hrd : Rd w w.heap.size a (bv ks)) {v : Value} (hv : fdV T (fat T ks) = v) :
    Calls Try.prog 18 #[.pointer (some ⟨X, 0, none⟩), .slice a nk ck] w fun e w' => e = .returned v ∧ HasP w0 X K M T w' := by
  obtain ⟨A, h1, h2⟩ := h
  refine (pfind_c h1 h2 ht a nk ck ks hkn hk6 hkb hrd).mono fun e w' h => ?_
  subst hv
  exact ⟨h.1, A, h1.grow h.2, h2⟩
end
theorem sum_nil (w : World) : Calls Try.prog 10 #[.slice none 0 0] w fun e w' => e = .returned (.int .u32 2166136261) ∧ w = w' :=
  (sum_p none 0 0 [] rfl (by omega) (by simp) w Rd.nil).mono fun e w' h => ⟨by rw [h.1, fnv_nil]; rfl, h.2⟩
set_option maxRecDepth 100000 in
set_option maxHeartbeats 2000000 in
theorem works_c (w : World) :
    Calls Try.prog 8 #[] w fun e w' => e = .returned (.bool true) ∧ Below w.heap.size w w' := by
  have HB0 := Lib.hid (Below.refl w.heap.size w)
  go_enter Try.func8, Try.ntmps8
  go_wp2_with fail
  with_reducible refine (pnew_h HB0.out 1 2).mono ?_
  rintro e w1 ⟨X, rfl, h1⟩
  have H1 : Hid (HasP w X 1 2 wT0 w1) := Lib.hid h1
  clear h1
  go_wp2_with fail
  have HG1 := Lib.hid (H1.out.grow ((Below.refl _ _).alloc (Nat.le_refl _) (.cells #[.int .u8 97] 5)))
  have LK1 := Lib.hid (lit_key w1 97)
  with_reducible refine (pput_h HG1.out w_t0 (some ⟨w1.heap.size, 0, none⟩) 1 1 [97] rfl (by omega) (b_lit 97 (by omega)) LK1.out 7 w_f1).mono ?_
  rintro e w2 ⟨rfl, hn⟩
  have H2 : Hid (HasP w X 1 2 wT1 w2) := Lib.hid hn
  clear hn HG1 LK1 H1
  go_wp2_with fail
  have HG2 := Lib.hid (H2.out.grow ((Below.refl _ _).alloc (Nat.le_refl _) (.cells #[.int .u8 97] 5)))
  have LK2 := Lib.hid (lit_key w2 97)
  with_reducible refine (pput_h HG2.out w_t1 (some ⟨w2.heap.size, 0, none⟩) 1 1 [97] rfl (by omega) (b_lit 97 (by omega)) LK2.out 8 w_e2).mono ?_
  rintro e w3 ⟨rfl, hn⟩
  have H3 : Hid (HasP w X 1 2 wT1 w3) := Lib.hid hn
  clear hn HG2 LK2 H2
  go_wp2_with fail
  have HG3 := Lib.hid (H3.out.grow ((Below.refl _ _).alloc (Nat.le_refl _) (.cells #[.int .u8 98] 5)))
  have LK3 := Lib.hid (lit_key w3 98)
  with_reducible refine (pput_h HG3.out w_t1 (some ⟨w3.heap.size, 0, none⟩) 1 1 [98] rfl (by omega) (b_lit 98 (by omega)) LK3.out 9 w_f3).mono ?_
  rintro e w4 ⟨rfl, hn⟩
  have H4 : Hid (HasP w X 1 2 wT2 w4) := Lib.hid hn
  clear hn HG3 LK3 H3
  go_wp2_with fail
  have HG4 := Lib.hid (H4.out.grow ((Below.refl _ _).alloc (Nat.le_refl _) (.cells #[.int .u8 99] 5)))
  have LK4 := Lib.hid (lit_key w4 99)
  with_reducible refine (pput_h HG4.out w_t2 (some ⟨w4.heap.size, 0, none⟩) 1 1 [99] rfl (by omega) (b_lit 99 (by omega)) LK4.out 1 w_e4).mono ?_
  rintro e w5 ⟨rfl, hn⟩
  have H5 : Hid (HasP w X 1 2 wT2 w5) := Lib.hid hn
  clear hn HG4 LK4 H4
  go_wp2_with fail
  have HG5 := Lib.hid (H5.out.grow ((Below.refl _ _).alloc (Nat.le_refl _) (.cells #[.int .u8 97] 5)))
  have LK5 := Lib.hid (lit_key w5 97)
  with_reducible refine (pdel_h HG5.out w_t2 (some ⟨w5.heap.size, 0, none⟩) 1 1 [97] rfl (by omega) (b_lit 97 (by omega)) LK5.out w_e5).mono ?_
  rintro e w6 ⟨rfl, hn⟩
  have H6 : Hid (HasP w X 1 2 wT3 w6) := Lib.hid hn
  clear hn HG5 LK5 H5
  go_wp2_with fail
  have HG6 := Lib.hid (H6.out.grow ((Below.refl _ _).alloc (Nat.le_refl _) (.cells #[.int .u8 97] 5)))
  have LK6 := Lib.hid (lit_key w6 97)
  with_reducible refine (pfind_h HG6.out w_t3 (some ⟨w6.heap.size, 0, none⟩) 1 1 [97] rfl (by omega) (b_lit 97 (by omega)) LK6.out w_e6).mono ?_
  rintro e w7 ⟨rfl, hn⟩
  have H7 : Hid (HasP w X 1 2 wT3 w7) := Lib.hid hn
  clear hn HG6 LK6 H6
  go_wp2_with fail
  have HG7 := Lib.hid (H7.out.grow ((Below.refl _ _).alloc (Nat.le_refl _) (.cells #[.int .u8 98] 5)))
  have LK7 := Lib.hid (lit_key w7 98)
  with_reducible refine (pfind_h HG7.out w_t3 (some ⟨w7.heap.size, 0, none⟩) 1 1 [98] rfl (by omega) (b_lit 98 (by omega)) LK7.out w_e7).mono ?_
  rintro e w8 ⟨rfl, hn⟩
  have H8 : Hid (HasP w X 1 2 wT3 w8) := Lib.hid hn
  clear hn HG7 LK7 H7
  go_wp2_with (first | (with_reducible refine (sum_nil _).mono ?_; rintro e w' ⟨rfl, rfl⟩))
  go_ret
  exact ⟨rfl, H8.out.below⟩
end Go.Proofs.Ytkaapphlnolelaa
