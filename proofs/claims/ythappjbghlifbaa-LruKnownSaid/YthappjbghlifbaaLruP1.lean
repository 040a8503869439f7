/-
  Layer 11's program: New, Len: contracts. No conditions.
-/
import Derived.Test.YthappjbghlifbaaLruPMem
namespace Go.Proofs.Ythappjbghlifbaa
set_option maxRecDepth 100000
open Go.RowKit Ow Ro K2
set_option linter.unusedVariables false
set_option linter.unusedSimpArgs false
theorem within_p (n most : Int) (w : World) (hm : 1 ≤ most) : Calls Try.prog 24 #[.int .i64 n, .int .i64 most] w fun e w' => e = .returned (.int .i64 (max 1 (min n most))) ∧ w = w' := by
  go_enter Try.func24, Try.ntmps24
  go_wp2
  go_ret
  exact ⟨rt_i10 (by omega), rfl⟩
theorem pnew_c {w0 w : World} {A : Ac} (k : Nat) (hl : Lay w0 A w) (key most : Int) :
    Calls Try.prog 7 #[.int .i64 key, .int .i64 most] w fun e w' => ∃ X, e = .returned (.pointer (some ⟨X, 0, none⟩)) ∧ PLd k w0 A X (max 1 (min key 16)) (max 1 (min most 64)) [] w' := by
  have HL := Lib.hid hl
  clear hl
  go_enter Try.func7, Try.ntmps7
  go_wp2_with fail
  refine (within_p key 16 _ (by omega)).mono ?_
  rintro e w1 ⟨rfl, rfl⟩
  go_wp2_with fail
  refine (within_p most 64 _ (by omega)).mono ?_
  rintro e w1 ⟨rfl, rfl⟩
  have HD : Hid (∀ K M : Int, K = max 1 (min key 16) → M = max 1 (min most 64) → PLd k w0 A w.heap.size K M [] (w.alloc (.cells #[.int .i64 K, .int .i64 M, .slice none 0 0] 51))) := Lib.hid (fun K M hK hM => by
    refine ⟨_, HL.out.new (73, k) ((Below.refl _ _).alloc (Nat.le_refl _) _) (Nat.le_refl _) (Bk.new w 51 #[.int .i64 K, .int .i64 M, .slice none 0 0]), ⟨.slice none 0 0, up_same _ _ _ _, .inl ⟨rfl, rfl⟩, ?_⟩, fun x _ h1 h2 => up_other _ _ _ h1⟩
    exact ⟨fun e h => (by cases h), fun e h => (by cases h), List.Pairwise.nil, by simp; omega, by omega, by omega, by omega, by omega⟩)
  obtain ⟨K, hK⟩ : ∃ K, K = max 1 (min key 16) := ⟨_, rfl⟩
  obtain ⟨M, hM⟩ : ∃ M, M = max 1 (min most 64) := ⟨_, rfl⟩
  rw [← hK, ← hM]
  have HE := Lib.hid (HD.out K M hK hM)
  have HK := Lib.hid hK
  have HM := Lib.hid hM
  clear hK hM HD HL
  go_wp2
  go_ret
  refine ⟨_, rfl, ?_⟩
  rw [← HK.out, ← HM.out]
  exact HE.out
theorem plen_c {w0 w : World} {A : Ac} {k X : Nat} {K M : Int} {o : KO} (hl : Lay w0 A w) (h : PL k A X K M o) :
    Calls Try.prog 11 #[.pointer (some ⟨X, 0, none⟩)] w fun e w' => e = .returned (.int .i64 (o.length : Nat)) ∧ w' = w := by
  obtain ⟨v, hx⟩ := h
  obtain ⟨a, c, rfl, _⟩ := hx.row.form
  have c2 := (hx.hd hl).c2
  clear hl hx
  go_enter Try.func11, Try.ntmps11
  go_wp2
  go_ret
  exact ⟨rfl, rfl⟩
/-! ### Where a key is -/
def pix (o : KO) (ks : List Int) : Option Nat := o.findIdx? fun e => e.1 == ks
theorem pix_none {o : KO} {ks : List Int} (h : ∀ e ∈ o, (e.1 == ks) = false) : pix o ks = none := by
  unfold pix
  rw [List.findIdx?_eq_none_iff]
  exact h
theorem pix_some {o : KO} {ks : List Int} {j : Nat} {x : List Int × Int} (hj : o[j]? = some x) (hx : (x.1 == ks) = true) (h : ∀ e ∈ o.take j, (e.1 == ks) = false) : pix o ks = some j := by
  unfold pix
  rw [List.findIdx?_eq_some_iff_getElem]
  have hjl := (List.getElem?_eq_some_iff.1 hj).1
  have hje := (List.getElem?_eq_some_iff.1 hj).2
  refine ⟨hjl, by rw [hje]; exact hx, fun i hi => ?_⟩
  have := h _ (List.mem_take_iff_getElem.2 ⟨i, by omega, rfl⟩)
  rw [this]; simp
theorem pix_get {o : KO} {ks : List Int} {j : Nat} (h : pix o ks = some j) : ∃ x, o[j]? = some x ∧ x.1 = ks ∧ j < o.length := by
  unfold pix at h
  rw [List.findIdx?_eq_some_iff_getElem] at h
  obtain ⟨hj, h1, _⟩ := h
  exact ⟨_, List.getElem?_eq_getElem hj, by simpa using h1, hj⟩
set_option maxHeartbeats 1000000 in
theorem pred_p (B : Nat) (a : Option Addr) (n c : Nat) (ks e1 : List Int) (e2 : Int) (w : World) (hb : w.cell? ⟨B, 0, none⟩ = some (.slice a n c)) (hB : B < w.heap.size)
    (hn : ks.length = n) (hby : ∀ x ∈ ks, 0 ≤ x ∧ x ≤ 255) (hby2 : ∀ x ∈ e1, 0 ≤ x ∧ x ≤ 255) (hr : Rd w w.heap.size a (bv ks)) :
    Calls Try.prog 42 #[.agg #[.string (strOfNums e1), .int .i64 e2], .pointer (some ⟨B, 0, none⟩)] w fun e w' => e = .returned (.bool (e1 == ks)) ∧ Below w.heap.size w w' := by
  have cv := conv_str (w.alloc (.cells #[.string (strOfNums e1), .int .i64 e2] 58)) w.heap.size a n c ks hn hby (hr.below ((Below.refl w.heap.size w).alloc (Nat.le_refl _) _))
  have BW : Hid (Below w.heap.size w (w.alloc (.cells #[.string (strOfNums e1), .int .i64 e2] 58))) := Lib.hid ((Below.refl w.heap.size w).alloc (Nat.le_refl _) _)
  have HS := Lib.hid (str_beq hby2 hby)
  clear hr hn hby hby2
  go_enter Try.func42, Try.ntmps42
  go_wp2
  go_ret
  exact ⟨by show Ending.returned (.bool ((strOfNums e1).toList == (strOfNums ks).toList)) = _; rw [HS.out], BW.out⟩
/-- The entries that are looked through. -/
def ixV : Option Nat → Int
  | none => -1
  | some p => (p : Nat)
theorem enter_pred (args : Array Value) (w : World) : (callFunc 42 args).run Try.prog w = .ok (.enter 42 args) w := by kernel_rfl
set_option maxHeartbeats 2000000 in
theorem index_p {w0 w : World} {A : Ac} {r : Rl} {v : Value} {o : KO} (hl : Lay w0 A w) (h : PRow A r v o) (hlen : o.length ≤ 1000) (hok : ∀ e ∈ o, ∀ b ∈ e.1, 0 ≤ b ∧ b ≤ 255)
    (B : Nat) (a : Option Addr) (n c : Nat) (ks : List Int) (hb : w.cell? ⟨B, 0, none⟩ = some (.slice a n c)) (hB : B < w.heap.size) (hn : ks.length = n) (hby : ∀ x ∈ ks, 0 ≤ x ∧ x ≤ 255) (hr : Rd w w.heap.size a (bv ks)) :
    Calls Try.prog 41 #[v, .func (.func 42) #[] #[.pointer (some ⟨B, 0, none⟩)]] w fun e w' => e = .returned (.int .i64 (ixV (pix o ks))) ∧ Below w.heap.size w w' := by
  obtain ⟨av, cv, rfl, hc1, hc2, _⟩ := h.form
  have HLK : Hid (0 < o.length → ∃ g, av = some ⟨g, 0, none⟩ ∧ ∀ wr, Below w.heap.size w wr → ∀ (j : Nat) (u : Value), (pflat o)[j]? = some u → wr.cell? ⟨g, j, none⟩ = some u) := Lib.hid (fun h0 => by
    obtain ⟨g, cap, e, _, _, hg, _, h2⟩ := h.look hl h0
    simp only [Value.slice.injEq] at e
    exact ⟨g, e.1, fun wr hb => (h2 wr hb).1⟩)
  have HP : Hid (∀ wr (e1 : List Int) (e2 : Int), (∀ x ∈ e1, 0 ≤ x ∧ x ≤ 255) → Below w.heap.size w wr → Calls Try.prog 42 #[.agg #[.string (strOfNums e1), .int .i64 e2], .pointer (some ⟨B, 0, none⟩)] wr fun e w' => e = .returned (.bool (e1 == ks)) ∧ Below wr.heap.size wr w') :=
    Lib.hid (fun wr e1 e2 h2 hw => pred_p B a n c ks e1 e2 wr ((hw.cell (p := ⟨B, 0, none⟩) hB).trans hb) (by have := hw.size; omega) hn hby h2 ((hr.below hw).mono hw.size))
  have HOK := Lib.hid hok
  obtain ⟨m, hm⟩ : ∃ m, o.length = m := ⟨_, rfl⟩
  have HM := Lib.hid hm
  rw [hm] at hlen hc1 ⊢
  clear hl h hb hB hn hby hr hok hm
  go_enter Try.func41, Try.ntmps41
  go_wp2
  go_loopw [5, 8] (fun x i wr => ∃ j : Nat, j ≤ m ∧ i = .int .i64 j ∧ Hid (Below w.heap.size w wr) ∧ Hid (∀ e ∈ o.take j, (e.1 == ks) = false)) (fun _ i _ => m - (intOf i).toNat)
  case atStart => exact ⟨0, Nat.zero_le _, rfl, Lib.hid (Below.refl _ _), Lib.hid (fun e h => by simp at h)⟩
  case round =>
    obtain ⟨j, hj, rfl, HB, HI⟩ := hrel
    by_cases hlt : j < m
    · have i1 : (j : Int) < (m : Int) := by omega
      have i2 : (0 : Int) ≤ (j : Int) := by omega
      have hjo : j < o.length := by rw [HM.out]; exact hlt
      have hje : o[j]? = some o[j] := List.getElem?_eq_getElem hjo
      have HT := Lib.hid (List.take_succ_eq_append_getElem hjo)
      obtain ⟨g, rfl, hc⟩ := HLK.out (by omega)
      have g0 := pflat_get o j 0 hjo (by omega)
      have g1 := pflat_get o j 1 hjo (by omega)
      have hxm := HOK.out _ (List.getElem_mem hjo)
      generalize o[j] = x at *
      have d0 := hc wr HB.out (j * 2 + 0) (.string (strOfNums x.1)) (by rw [g0]; rfl)
      have d1 := hc wr HB.out (j * 2 + 1) (.int .i64 x.2) (by rw [g1]; rfl)
      have HJE := Lib.hid hje
      have HC := Lib.hid (HP.out wr x.1 x.2 hxm HB.out)
      clear hje hc g0 g1 hxm hjo
      rw [Nat.add_zero] at d0
      go_wp2_with fail
      with_reducible refine HC.out.mono ?_
      rintro e w2 ⟨rfl, q⟩
      have HB2 : Hid (Below w.heap.size w w2) := Lib.hid (HB.out.trans (q.mono HB.out.size))
      clear q HC d0 d1 HB
      cases hx : (x.1 == ks) with
      | true =>
        have HR : Hid (pix o ks = some j) := Lib.hid (pix_some HJE.out hx HI.out)
        clear hx
        go_wp2
        go_ret
        exact ⟨by rw [HR.out]; rfl, HB2.out⟩
      | false =>
        have HI2 : Hid (∀ e ∈ o.take (j + 1), (e.1 == ks) = false) := Lib.hid (by
          rw [HT.out]
          intro y hy
          rcases List.mem_append.1 hy with h | h
          · exact HI.out y h
          · rw [List.mem_singleton] at h; rw [h]; exact hx)
        clear hx
        go_wp2
        go_roundw
        case rel => exact ⟨j + 1, by omega, by go_num, HB2, HI2⟩
        case measure => simp [intOf]; omega
    · have i1 : ¬ (j : Int) < (m : Int) := by omega
      have HR : Hid (pix o ks = none) := Lib.hid (pix_none (by
        have := HI.out
        rwa [List.take_of_length_le (by rw [HM.out]; omega)] at this))
      go_wp2
      go_ret
      exact ⟨by rw [HR.out]; rfl, HB.out⟩
theorem where_p {w0 w : World} {A : Ac} {k X : Nat} {K M : Int} {v : Value} {o : KO} (hl : Lay w0 A w) (h : PX k A X K M v o) (a : Option Addr) (n c : Nat) (ks : List Int) (hn : ks.length = n) (hby : ∀ x ∈ ks, 0 ≤ x ∧ x ≤ 255) (hr : Rd w w.heap.size a (bv ks)) :
    Calls Try.prog 34 #[.pointer (some ⟨X, 0, none⟩), .slice a n c] w fun e w' => e = .returned (.int .i64 (ixV (pix o ks))) ∧ Below w.heap.size w w' := by
  have hs := h.good.small
  have hM := h.good.M2
  have BW : Below w.heap.size w (w.alloc (.cells #[.slice a n c] 27)) := (Below.refl w.heap.size w).alloc (Nat.le_refl _) _
  have hb : (w.alloc (.cells #[.slice a n c] 27)).cell? ⟨w.heap.size, 0, none⟩ = some (.slice a n c) := (Bk.new w 27 #[.slice a n c]).cell 0
  have IX := Lib.hid (index_p (hl.grow BW) h.row (by omega) h.good.byt w.heap.size a n c ks hb (by simp) hn hby ((hr.below BW).mono BW.size))
  have HB := Lib.hid BW
  have c2 := (h.hd (hl.grow BW)).c2
  have c2' := (h.hd hl).c2
  have lX := (h.hd hl).lt
  clear hl h hn hby hr hb BW
  go_enter Try.func34, Try.ntmps34
  go_wp2_with fail
  with_reducible refine IX.out.mono ?_
  rintro e w2 ⟨rfl, q⟩
  have HB2 : Hid (Below w.heap.size w w2) := Lib.hid (HB.out.trans (q.mono HB.out.size))
  clear q IX HB c2 c2'
  go_wp2
  go_ret
  exact ⟨rfl, HB2.out⟩
/-! ### What is looked up -/
theorem pix_none_get {o : KO} {ks : List Int} (h : pix o ks = none) : aget o ks = none := by
  unfold pix at h
  rw [List.findIdx?_eq_none_iff] at h
  unfold aget
  rw [Option.map_eq_none_iff, List.find?_eq_none]
  intro e he
  rw [h e he]
  simp
theorem pix_some_get {o : KO} {ks : List Int} {j : Nat} {x : List Int × Int} (h : pix o ks = some j) (hj : o[j]? = some x) : aget o ks = some x.2 := by
  unfold pix at h
  unfold aget
  rw [List.findIdx?_eq_some_iff_getElem] at h
  obtain ⟨hjl, h1, h2⟩ := h
  have hx := (List.getElem?_eq_some_iff.1 hj).2
  have : o.find? (fun e => e.1 == ks) = some x := by
    rw [List.find?_eq_some_iff_getElem]
    refine ⟨by rw [← hx]; exact h1, j, hjl, hx, fun i hi => ?_⟩
    have := h2 i hi
    simpa using this
  rw [this]
  rfl
theorem ppeek_c {w0 w : World} {A : Ac} {k X : Nat} {K M : Int} {o : KO} (hl : Lay w0 A w) (h : PL k A X K M o) (a : Option Addr) (n c : Nat) (ks : List Int) (hn : ks.length = n) (hby : ∀ x ∈ ks, 0 ≤ x ∧ x ≤ 255) (hr : Rd w w.heap.size a (bv ks)) :
    Calls Try.prog 20 #[.pointer (some ⟨X, 0, none⟩), .slice a n c] w fun e w' => e = .returned (agetV (aget o ks)) ∧ Below w.heap.size w w' := by
  obtain ⟨v, hx⟩ := h
  have hs := hx.good.small
  have hM := hx.good.M2
  have WC := Lib.hid (where_p hl hx a n c ks hn hby hr)
  have HL := Lib.hid hl
  have HX := Lib.hid hx
  clear hl hx hn hby hr
  cases hp : pix o ks with
  | none =>
    rw [hp] at WC
    rw [pix_none_get hp]
    clear hp
    unfold ixV at WC
    go_enter Try.func20, Try.ntmps20
    go_wp2_with fail
    with_reducible refine WC.out.mono ?_
    rintro e w2 ⟨rfl, q⟩
    have HQ := Lib.hid q
    clear q
    go_wp2
    go_ret2
    exact ⟨rfl, HQ.out⟩
  | some p =>
    rw [hp] at WC
    obtain ⟨x, hxp, _, hpl⟩ := pix_get hp
    rw [pix_some_get hp hxp]
    have g1 := pflat_get o p 1 hpl (by omega)
    rw [(List.getElem?_eq_some_iff.1 hxp).2] at g1
    obtain ⟨g, cap, rfl, hc1, hc2, _, _, h2⟩ := HX.out.row.look HL.out (by omega)
    have HD : Hid (∀ w', Below w.heap.size w w' → w'.cell? ⟨g, p * 2 + 1, none⟩ = some (.int .i64 x.2) ∧ w'.cell? ⟨X, 2, none⟩ = some (.slice (some ⟨g, 0, none⟩) o.length cap)) := Lib.hid (fun w' hb => ⟨(h2 w' hb).1 (p * 2 + 1) _ (by rw [g1]; rfl), (HX.out.hd (HL.out.grow hb)).c2⟩)
    clear hp g1 h2 hxp
    generalize x.2 = y at *
    obtain ⟨m, hm⟩ : ∃ m, o.length = m := ⟨_, rfl⟩
    rw [hm] at hs hpl hc1 HD
    clear HX HL hm
    unfold ixV at WC
    have i1 : ¬ (p : Int) < 0 := by omega
    have i2 : (p : Int) < (m : Int) := by omega
    have i3 : (0 : Int) ≤ (p : Int) := by omega
    go_enter Try.func20, Try.ntmps20
    go_wp2_with fail
    with_reducible refine WC.out.mono ?_
    rintro e w2 ⟨rfl, q⟩
    obtain ⟨d1, d2⟩ := HD.out w2 q
    have HQ := Lib.hid q
    clear q
    go_wp2
    go_ret2
    exact ⟨rfl, HQ.out⟩
end Go.Proofs.Ythappjbghlifbaa
