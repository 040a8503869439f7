/-
  Layer 9, ArrayApart: places have unlike cells, also of two arrays with one set of cells; what is written into one is read there alone; and writing, making, sweeping move no place. No conditions.
-/
import Derived.Test.YthdgdkjaeebbcaaRows
import Derived.Test.YthdgdkjaeebbcaaArrayTwo
import Derived.Test.YthdgdkjaeebbcaaArrayOpen
import Derived.Deep.DeepCutAuto
import Derived.Laws.CopyOwn
import Derived.WalkKit
import Derived.ProofKit
import Derived.OpenShut
import Derived.ChangeOld
import Derived.Below
namespace Go.Proofs.Ythdgdkjaeebbcaa.arrayApart
open Go.ChangeShapes Go.WideShapes Go.ChangeAt Go.RowKit Ow Ph Ro K2
set_option linter.unusedVariables false
set_option linter.unusedSimpArgs false
attribute [local go_sem] run_store_complex

theorem own : ownKnob Try.prog.godebug = none := by kernel_rfl
theorem laidOut : laidOutB Try.prog = true := by kernel_rfl

def pickM (w : World) (n : Int) (e : Ending) (w' : World) : Prop := ∃ r : Nat, (r : Int) < n ∧ e = .returned (.int .i64 (r : Int)) ∧ w = w'
theorem pick_m (k n : Int) (h1 : -9223372036854775808 ≤ k) (h2 : k ≤ 9223372036854775807) (hn : 1 ≤ n) (hn2 : n ≤ 1000) (w : World) :
    Calls Try.prog 27 #[.int .i64 k, .int .i64 n] w (pickM w n) := by
  have b1 := Int.tmod_lt_of_pos k (show (0 : Int) < n by omega)
  have b2 : -n < k.tmod n := by
    have h := Int.tmod_lt_of_pos (-k) (show (0 : Int) < n by omega)
    rw [Int.neg_tmod] at h
    omega
  have hz : (n == 0) = false := by rw [beq_eq_false_iff_ne]; omega
  generalize hq : k.tmod n = q at *
  by_cases h : q < 0
  · go_enter Try.func27, Try.ntmps27
    go_wp2
    go_ret
    exact ⟨(q + n).toNat, by omega, rt_i9 (by omega), rfl⟩
  · go_enter Try.func27, Try.ntmps27
    go_wp2
    go_ret
    exact ⟨q.toNat, by omega, rt_i9 (by omega), rfl⟩
/-- The bytes of the cell k + 1. -/
def bk9 (n1 z1 z2 r : Nat) (D : List Int) (k : Nat) : List Int := if k = r then D else List.replicate (if k < n1 then z1 else z2) 0
def sk9 (n1 z1 z2 k : Nat) : Nat := if k < n1 then z1 else z2
def Lz (n1 z1 n2 z2 : Nat) : List Cl := ([] ++ List.replicate n1 (zc z1)) ++ List.replicate n2 (zc z2)
theorem lz_len (n1 z1 n2 z2 : Nat) : (Lz n1 z1 n2 z2).length = n1 + n2 := by unfold Lz; simp
theorem lz_get (n1 z1 n2 z2 k : Nat) (h : k < n1 + n2) : (Lz n1 z1 n2 z2)[k]? = some (zc (sk9 n1 z1 z2 k)) := by
  unfold Lz sk9
  rw [List.nil_append]
  by_cases c : k < n1
  · rw [List.getElem?_append_left (by simpa using c), List.getElem?_replicate, if_pos c, if_pos c]
  · rw [List.getElem?_append_right (by simpa using c), List.getElem?_replicate, List.length_replicate, if_pos (by omega), if_neg c]
theorem okc_zc (n s : Nat) (hs : s ≤ 64) : OkC n (zc s) :=
  ⟨fun b hb => by rw [List.eq_of_mem_replicate hb]; omega, by simpa [zc] using hs, by simp [zc], fun t ht => by simp [zc] at ht, fun h => by simp [zc] at h⟩
theorem lz_ok (n1 z1 n2 z2 : Nat) (h1 : n1 ≤ 64) (h2 : n2 ≤ 64) (h3 : z1 ≤ 64) (h4 : z2 ≤ 64) : OkL 200 (Lz n1 z1 n2 z2) := ⟨by rw [lz_len]; omega, fun c hc => by
  obtain ⟨k, hk⟩ := List.getElem?_of_mem hc
  have h5 := (List.getElem?_eq_some_iff.1 hk).1
  rw [lz_len] at h5
  rw [lz_get _ _ _ _ _ h5] at hk
  injection hk with hk
  subst hk
  refine okc_zc _ _ ?_
  unfold sk9; split <;> omega⟩
def Lf (n1 z1 n2 z2 r : Nat) (D : List Int) : List Cl := (Lz n1 z1 n2 z2).set r ⟨D, [1], false, false⟩ ++ [⟨[1], [], false, false⟩]
theorem lf_len (n1 z1 n2 z2 r : Nat) (D : List Int) : (Lf n1 z1 n2 z2 r D).length = n1 + n2 + 1 := by unfold Lf; simp [lz_len]
theorem lz_wr (n1 z1 n2 z2 r : Nat) (D : List Int) (hr : r < n1) (hD : D.length = z1) : wrC (Lz n1 z1 n2 z2) (1 + (r : Int)) D 1 = (true, (Lz n1 z1 n2 z2).set r ⟨D, [1], false, false⟩) := by
  have hg : gt (Lz n1 z1 n2 z2) (1 + (r : Int)) = some (zc z1) := by
    have := gt_mk (L := Lz n1 z1 n2 z2) (k := r) (c := zc z1) (by rw [lz_get _ _ _ _ _ (by omega)]; unfold sk9; rw [if_pos hr]) rfl
    rwa [show (r : Int) + 1 = (1 + (r : Int)) by omega] at this
  unfold wrC
  rw [hg]
  dsimp only
  rw [if_pos (by unfold zc; simp [hD]), show (1 + (r : Int)).toNat - 1 = r by omega]
  rfl
theorem lz_sz (n1 z1 n2 z2 r : Nat) (hr : r < n1) : szC (Lz n1 z1 n2 z2) (1 + (r : Int)) = z1 := by
  have hg : gt (Lz n1 z1 n2 z2) (1 + (r : Int)) = some (zc z1) := by
    have := gt_mk (L := Lz n1 z1 n2 z2) (k := r) (c := zc z1) (by rw [lz_get _ _ _ _ _ (by omega)]; unfold sk9; rw [if_pos hr]) rfl
    rwa [show (r : Int) + 1 = (1 + (r : Int)) by omega] at this
  unfold szC
  rw [hg]
  simp [zc]
theorem lw_ok (n1 z1 n2 z2 r : Nat) (D : List Int) (h1 : n1 ≤ 64) (h2 : n2 ≤ 64) (h3 : z1 ≤ 64) (h4 : z2 ≤ 64) (hb : ∀ b ∈ D, 0 ≤ b ∧ b ≤ 255) (hD : D.length = z1) : OkL 200 ((Lz n1 z1 n2 z2).set r ⟨D, [1], false, false⟩) :=
  okl_set (lz_ok n1 z1 n2 z2 h1 h2 h3 h4) ⟨hb, by dsimp only; omega, by simp, by intro t ht; simp at ht; subst ht; exact i64_s 1 (by decide) (by decide), by simp⟩
theorem lf_gone (n1 z1 n2 z2 r : Nat) (D : List Int) : ∀ c ∈ Lf n1 z1 n2 z2 r D, c.gone = false ∧ c.swept = false := by
  intro c hc
  unfold Lf at hc
  rcases List.mem_append.1 hc with h | h
  · rcases List.mem_or_eq_of_mem_set h with h | h
    · unfold Lz at h
      rw [List.nil_append] at h
      rcases List.mem_append.1 h with h | h
      · rw [List.eq_of_mem_replicate h]; exact ⟨rfl, rfl⟩
      · rw [List.eq_of_mem_replicate h]; exact ⟨rfl, rfl⟩
    · rw [h]; exact ⟨rfl, rfl⟩
  · simp only [List.mem_singleton] at h
    rw [h]; exact ⟨rfl, rfl⟩
theorem sw_none {L : List Cl} (h : ∀ c ∈ L, c.gone = false ∧ c.swept = false) : swL L = L ∧ nG L = 0 ∧ lv L = L.length := by
  refine ⟨?_, ?_, ?_⟩
  · unfold swL
    conv => rhs; rw [← List.map_id L]
    refine List.map_congr_left fun c hc => ?_
    rw [(h c hc).1]; rfl
  · rw [nG_eq, List.countP_eq_zero]
    intro c hc
    simp [(h c hc).1]
  · unfold lv
    rw [List.countP_eq_length]
    intro c hc
    simp [(h c hc).1]
theorem lf_gt (n1 z1 n2 z2 r : Nat) (D : List Int) (k : Nat) (hk : k < n1 + n2) (hr : r < n1) : ∃ c, gt (Lf n1 z1 n2 z2 r D) ((k : Int) + 1) = some c ∧ c.bs = bk9 n1 z1 z2 r D k := by
  unfold bk9
  by_cases c : k = r
  · subst c
    refine ⟨⟨D, [1], false, false⟩, gt_mk ?_ rfl, by rw [if_pos rfl]⟩
    unfold Lf
    rw [List.getElem?_append_left (by rw [List.length_set, lz_len]; exact hk), List.getElem?_set_self (by rw [lz_len]; exact hk)]
  · refine ⟨zc (sk9 n1 z1 z2 k), gt_mk ?_ rfl, by rw [if_neg c]; rfl⟩
    unfold Lf
    rw [List.getElem?_append_left (by rw [List.length_set, lz_len]; exact hk), List.getElem?_set_ne (fun e => c e.symm), lz_get _ _ _ _ _ hk]
theorem bk9_len (n1 z1 z2 r : Nat) (D : List Int) (k : Nat) (hr : r < n1) (hD : D.length = z1) : (bk9 n1 z1 z2 r D k).length = sk9 n1 z1 z2 k := by
  unfold bk9 sk9
  by_cases c : k = r
  · subst c
    rw [if_pos rfl, if_pos hr, hD]
  · rw [if_neg c, List.length_replicate]
theorem lf_bs (n1 z1 n2 z2 r : Nat) (D : List Int) (k : Nat) (hk : k < n1 + n2) (hr : r < n1) : bsC (Lf n1 z1 n2 z2 r D) ((k : Int) + 1) = bk9 n1 z1 z2 r D k := by
  obtain ⟨c, h1, h2⟩ := lf_gt n1 z1 n2 z2 r D k hk hr
  unfold bsC
  rw [h1]
  exact h2
theorem lf_sz (n1 z1 n2 z2 r : Nat) (D : List Int) (k : Nat) (hk : k < n1 + n2) (hr : r < n1) (hD : D.length = z1) : szC (Lf n1 z1 n2 z2 r D) ((k : Int) + 1) = sk9 n1 z1 z2 k := by
  obtain ⟨c, h1, h2⟩ := lf_gt n1 z1 n2 z2 r D k hk hr
  unfold szC
  rw [h1, ← bk9_len n1 z1 z2 r D k hr hD, ← h2]
  rfl
/-- What copy leaves. -/
def cp9 (b : List Int) (z : Nat) : List Int := b.take z ++ (List.replicate z (0 : Int)).drop (b.take z).length
theorem cp9_len (b : List Int) (z : Nat) : (cp9 b z).length = z := by unfold cp9; simp; omega
theorem cp9_ok (b : List Int) (z : Nat) (h : ∀ x ∈ b, 0 ≤ x ∧ x ≤ 255) : ∀ x ∈ cp9 b z, 0 ≤ x ∧ x ≤ 255 := by
  intro x hx
  unfold cp9 at hx
  rcases List.mem_append.1 hx with hx | hx
  · exact h x (List.mem_of_mem_take hx)
  · rw [List.eq_of_mem_replicate (List.mem_of_mem_drop hx)]; omega
theorem cp9_nil (b : List Int) (z : Nat) (h : b.length = 0) : List.replicate z (0 : Int) = cp9 b z := by
  obtain rfl := List.eq_nil_of_length_eq_zero h
  simp [cp9]
theorem box2 {z w : World} {g : Nat} {cs : Array Value} {t : TypeId} (hb : Below (w.alloc (.cells cs t)).heap.size (w.alloc (.cells cs t)) z) (hg : g = w.heap.size) (j : Nat) (u : Value) (hu : cs[j]? = some u) : z.cell? ⟨g, j, none⟩ = some u := by
  subst hg
  have h1 : Bk (w.alloc (.cells cs t)) w.heap.size t cs := heap_alloc_new w _
  rw [hb.cell (p := ⟨w.heap.size, j, none⟩) (by simp), h1.cell, hu]

set_option maxRecDepth 100000 in
set_option maxHeartbeats 4000000 in
theorem walk (x0 : Qn) (x1 : Qn) (n2 : Int) (a3 : Option Addr) (len3 cap3 : Nat) (L3 : List Int) (w : World) (f0 : x0.fits) (f1 : x1.fits) (w2 : (Lit.int .i64 n2).wf = true) (l3 : L3.length = len3) (f3 : ∀ b ∈ L3, 0 ≤ b ∧ b ≤ 255) (c3 : len3 ≤ cap3) (m3 : cap3 ≤ 9223372036854775807) (z3 : a3 = none → len3 = 0 ∧ cap3 = 0) (r3 : Rd w w.heap.size a3 (bv L3)) :
    Calls Try.prog 9 #[.agg #[.int .i64 x0.m, .int .i64 x0.s], .agg #[.int .i64 x1.m, .int .i64 x1.s], .int .i64 n2, .slice a3 len3 cap3] w fun e w' => e = .returned (.bool true) ∧ Below w.heap.size w w' := by
  have AT := Lib.hid (bounds_i64 w2)
  clear w2
  generalize n2 = at2 at *
  obtain ⟨ma, sa⟩ := x0
  obtain ⟨mb, sb⟩ := x1
  obtain ⟨hma, hsa⟩ := f0
  obtain ⟨hmb, hsb⟩ := f1
  dsimp only at hma hsa hmb hsb
  have HMA := Lib.hid hma
  have HSA := Lib.hid hsa
  have HMB := Lib.hid hmb
  have HSB := Lib.hid hsb
  clear hma hsa hmb hsb
  dsimp only
  obtain ⟨i0, hi0, hz0, hz1, hz2⟩ := info9 byte9
  obtain ⟨j0, hj0, hy0, hy1, hy2⟩ := info9 int9
  have hszb : (Try.prog.info? 5).map (·.size) = some 1 := by kernel_rfl
  obtain ⟨n1, hn1⟩ : ∃ n1, cl64 ma = n1 := ⟨_, rfl⟩
  obtain ⟨z1, hz1'⟩ : ∃ z1, cl64 sa = z1 := ⟨_, rfl⟩
  obtain ⟨n2, hn2⟩ : ∃ n2, cl64 mb = n2 := ⟨_, rfl⟩
  obtain ⟨z2, hz2'⟩ : ∃ z2, cl64 sb = z2 := ⟨_, rfl⟩
  have hn1a := cl64_ge ma
  have hn1b := cl64_le ma
  have hz1a := cl64_ge sa
  have hz1b := cl64_le sa
  have hn2a := cl64_ge mb
  have hn2b := cl64_le mb
  have hz2a := cl64_ge sb
  have hz2b := cl64_le sb
  rw [hn1] at hn1a hn1b
  rw [hz1'] at hz1a hz1b
  rw [hn2] at hn2a hn2b
  rw [hz2'] at hz2a hz2b
  have HN1 := Lib.hid hn1
  have HZ1 := Lib.hid hz1'
  have HN2 := Lib.hid hn2
  have HZ2 := Lib.hid hz2'
  clear hn1 hz1' hn2 hz2'
  have B0 : Hid (Below w.heap.size w ((w.alloc (.cells #[.int .i64 ma, .int .i64 sa] 58)).alloc (.cells #[.int .i64 mb, .int .i64 sb] 58))) := Lib.hid (((Below.refl _ _).alloc (Nat.le_refl _) _).alloc (by simp) _)
  have HBX : Hid (∀ z, Below ((w.alloc (.cells #[.int .i64 ma, .int .i64 sa] 58)).alloc (.cells #[.int .i64 mb, .int .i64 sb] 58)).heap.size ((w.alloc (.cells #[.int .i64 ma, .int .i64 sa] 58)).alloc (.cells #[.int .i64 mb, .int .i64 sb] 58)) z → z.cell? ⟨w.heap.size, 0, none⟩ = some (.int .i64 ma) ∧ z.cell? ⟨w.heap.size, 1, none⟩ = some (.int .i64 sa) ∧ z.cell? ⟨w.heap.size + 1, 0, none⟩ = some (.int .i64 mb) ∧ z.cell? ⟨w.heap.size + 1, 1, none⟩ = some (.int .i64 sb)) := Lib.hid (fun z hz =>
    have h1 : Below (w.alloc (.cells #[.int .i64 ma, .int .i64 sa] 58)).heap.size (w.alloc (.cells #[.int .i64 ma, .int .i64 sa] 58)) z := ((Below.refl _ _).alloc (Nat.le_refl _) _).trans (hz.mono (by simp))
    ⟨box2 h1 rfl 0 _ rfl, box2 h1 rfl 1 _ rfl, box2 hz (by simp) 0 _ rfl, box2 hz (by simp) 1 _ rfl⟩)
  have RR : Hid (Rd w w.heap.size a3 (bv L3)) := Lib.hid r3
  have HL3 := Lib.hid l3
  have HF3 := Lib.hid f3
  have hsz : (w.alloc (.cells #[.int .i64 ma, .int .i64 sa] 58)).heap.size = w.heap.size + 1 := by simp
  clear r3 l3 f3
  go_enter Try.func9, Try.ntmps9
  go_wp2_with fail
  try rw [hsz]
  clear hsz
  generalize ((w.alloc (.cells #[.int .i64 ma, .int .i64 sa] 58)).alloc (.cells #[.int .i64 mb, .int .i64 sb] 58)) = w9 at *
  obtain ⟨g1, hg1⟩ : ∃ g1, w.heap.size = g1 := ⟨_, rfl⟩
  obtain ⟨g2, hg2⟩ : ∃ g2, g1 + 1 = g2 := ⟨_, rfl⟩
  rw [hg1, hg2] at HBX
  try rw [hg1]
  try rw [hg2]
  clear hg2
  with_reducible refine (new_h (Below.refl w9.heap.size w9)).mono ?_
  rintro er w4 ⟨P, rfl, h1⟩
  have H1 := Lib.hid h1
  clear h1
  obtain ⟨c0, c1, _, _⟩ := HBX.out w4 H1.out.below
  go_wp2_with fail
  with_reducible refine (arrnew_h H1.out (by simp) ma sa HMA.out HSA.out n1 z1 HN1.out HZ1.out).mono ?_
  rintro er w5 ⟨G, rfl, h2⟩
  have H2 := Lib.hid h2
  clear h2 H1 c0 c1
  obtain ⟨_, _, c0, c1⟩ := HBX.out w5 H2.out.below
  go_wp2_with fail
  with_reducible refine (arrnew_b H2.out (by simp) (by omega) mb sb HMB.out HSB.out HN2.out HZ2.out (Lz n1 z1 n2 z2) rfl).mono ?_
  rintro er w6 ⟨G2, rfl, h3⟩
  have H3 := Lib.hid h3
  clear h3 H2 c0 c1 HBX
  go_wp2_with fail
  with_reducible refine (ap_len H3.out).mono ?_
  rintro er w' ⟨rfl, rfl⟩
  go_wp2_with fail
  with_reducible refine (pick_m at2 (n1 : Int) AT.out.1 AT.out.2 (by omega) (by omega) _).mono ?_
  rintro er w' ⟨r, hr', rfl, rfl⟩
  have hr : r < n1 := by omega
  clear hr'
  go_wp2_with fail
  with_reducible refine (ap_cell H3.out r (by omega) (1 + (r : Int)) true (by rw [cellA_in _ _ _ hr]; push_cast; rfl)).mono ?_
  rintro er w' ⟨rfl, rfl⟩
  go_wp2_with fail
  with_reducible refine (size_h H3.out.has (1 + (r : Int))).mono ?_
  rintro er w' ⟨rfl, rfl⟩
  rw [lz_sz n1 z1 n2 z2 r hr]
  go_wp2_with (refine wp_make_own _ rfl _ _ _ rfl 5 i0 _ Try.underlying31 hi0 hz0 hz1 rfl _ _ z1 rfl rfl ?a1 ?a2 ?_)
  case a1 => rw [hz2]; omega
  case a2 => unfold maxLen; omega
  intro add w7 hadd howd hbd
  have H4 := Lib.hid (H3.out.data howd hbd)
  clear hadd howd hbd H3
  obtain ⟨D, hD⟩ : ∃ D, cp9 L3 z1 = D := ⟨_, rfl⟩
  have HDL : Hid (D.length = z1) := Lib.hid (by rw [← hD]; exact cp9_len _ _)
  have HDB : Hid (∀ b ∈ D, 0 ≤ b ∧ b ≤ 255) := Lib.hid (by rw [← hD]; exact cp9_ok _ _ HF3.out)
  have OKW : Hid (OkL 200 ((Lz n1 z1 n2 z2).set r ⟨D, [1], false, false⟩)) := Lib.hid (lw_ok n1 z1 n2 z2 r D hn1b hn2b hz1b hz2b HDB.out HDL.out)
  have OK8 : Hid (OkL 201 (Lf n1 z1 n2 z2 r D)) := Lib.hid (okl_app OKW.out ⟨by intro b hb; simp only [List.mem_singleton] at hb; subst hb; omega, by simp, by simp, by simp, by simp⟩)
  have LE8 : Hid ((Lf n1 z1 n2 z2 r D).length ≤ 900) := Lib.hid (by rw [lf_len]; omega)
  have HSW := Lib.hid (sw_none (lf_gone n1 z1 n2 z2 r D))
  have HLV : Hid ((nL (Lf n1 z1 n2 z2 r D) : Int) - nG (Lf n1 z1 n2 z2 r D) = (n1 : Int) + (n2 : Int) + 1) := Lib.hid (by rw [live_is OK8.out, HSW.out.2.2, lf_len]; push_cast; rfl)
  have OKZ := Lib.hid (lz_ok n1 z1 n2 z2 hn1b hn2b hz1b hz2b)
  have HD0 := Lib.hid hD
  by_cases h0 : len3 = 0
  · have H5 : Hid (Ap w9 P (Lz n1 z1 n2 z2) G n1 G2 n2 (.slice (some add) z1 z1) D (.slice none 0 0) 0 w7) := Lib.hid (by
      rw [← hD, ← cp9_nil _ _ (by rw [HL3.out, h0])]
      exact H4.out)
    clear hD H4
    have hmin : Nat.min len3 z1 = 0 := by rw [h0]; exact Nat.zero_min _
    go_wp2_with (with_reducible refine wpList_copy_nothing rfl (.tmp 50) (.tmp 51) _ _ rfl 5 Try.underlying31 hszb _ _ _ _ _ _ rfl rfl hmin ?_)
    go_wp2_with fail
    with_reducible refine (ap_write H5.out HDL.out hz1b OKZ.out (by omega) (1 + (r : Int)) _ (lz_wr n1 z1 n2 z2 r D hr HDL.out)).mono ?_
    rintro er w8b ⟨rfl, h6⟩
    dsimp only at h6 ⊢
    have H6 := Lib.hid h6
    clear h6 H5
    have hlw : ((Lz n1 z1 n2 z2).set r (⟨D, [1], false, false⟩ : Cl)).length ≤ 800 := by have := OKW.out.len; omega
    go_wp2_with fail
    with_reducible refine (ap_make1 H6.out hlw).mono ?_
    rintro er w8c ⟨rfl, h7⟩
    have hlw2 : ((((Lz n1 z1 n2 z2).set r (⟨D, [1], false, false⟩ : Cl)).length : Nat) : Int) ≤ 800 := by omega
    have H7 : Hid (Ap w9 P (Lf n1 z1 n2 z2 r D) G n1 G2 n2 (.slice (some add) z1 z1) D (.slice none 0 0) 0 w8c) := Lib.hid h7
    clear h7 H6
    generalize ((((Lz n1 z1 n2 z2).set r (⟨D, [1], false, false⟩ : Cl)).length : Nat) : Int) = lw at *
    go_wp2_with fail
    with_reducible refine (ap_sweep H7.out LE8.out 0 (by rw [HSW.out.2.1]; simp) _ HSW.out.1).mono ?_
    rintro er w8d ⟨rfl, h8⟩
    have H80 := Lib.hid h8
    clear h8 H7
    go_wp2_with fail
    go_loopw [15, 16] (fun vs i wr => ∃ (k : Nat) (av : Option Addr) (cv : Nat), k ≤ n1 + n2 ∧ vs = .slice av k cv ∧ i = .int .i64 k ∧ Hid (Ap w9 P (Lf n1 z1 n2 z2 r D) G n1 G2 n2 (.slice (some add) z1 z1) D (.slice av k cv) k wr)) (fun vs i _ => n1 + n2 - (intOf i).toNat)
    case atStart => exact ⟨0, none, 0, Nat.zero_le _, rfl, rfl, H80⟩
    case round =>
      clear H80
      obtain ⟨k, av, cv, hk, rfl, rfl, H8⟩ := hrel
      by_cases hlt : k < n1 + n2
      · have i1 : (k : Int) < (n1 : Int) + (n2 : Int) := by omega
        have i3 : (0 : Int) ≤ (k : Int) := by omega
        have hsk : sk9 n1 z1 z2 k ≤ 64 := by unfold sk9; split <;> omega
        have hsk1 : 1 ≤ sk9 n1 z1 z2 k := by unfold sk9; split <;> omega
        go_wp2_with fail
        with_reducible refine (ap_len H8.out).mono ?_
        rintro er w' ⟨rfl, rfl⟩
        go_wp2_with fail
        with_reducible refine (ap_len2 H8.out).mono ?_
        rintro er w' ⟨rfl, rfl⟩
        by_cases hk1 : k < n1
        · have i4 : (k : Int) < (n1 : Int) := by omega
          go_wp2_with fail
          with_reducible refine (ap_cell H8.out k (by omega) ((k : Int) + 1) true (by rw [cellA_in _ _ _ hk1]; push_cast; rw [Int.add_comm])).mono ?_
          rintro er w' ⟨rfl, rfl⟩
          go_wp2_with fail
          with_reducible refine (ap_len H8.out).mono ?_
          rintro er w' ⟨rfl, rfl⟩
          go_wp2_with fail
          go_loopw [19] (fun i wr => ∃ j : Nat, j ≤ k ∧ i = .int .i64 j ∧ Hid (Ap w9 P (Lf n1 z1 n2 z2 r D) G n1 G2 n2 (.slice (some add) z1 z1) D (.slice av k cv) k wr)) (fun i _ => k - (intOf i).toNat)
          case atStart => exact ⟨0, Nat.zero_le _, rfl, H8⟩
          case round =>
            obtain ⟨j, hj, rfl, H9⟩ := hrel
            clear H8
            by_cases hjk : j < k
            · obtain ⟨_, _, _, hown⟩ := H9.out.seen
              obtain ⟨ads, rfl⟩ : ∃ ads, av = some ads := by
                cases av with
                | none =>
                  rcases hown.2 with ⟨_, e⟩ | ⟨g, cap', cur, e, _⟩
                  · omega
                  · cases e
                | some ads => exact ⟨ads, rfl⟩
              have hsc : wr.cell? (ads.add j) = some (.int .i64 ((j : Int) + 1)) := by
                rw [(own_at hown j hjk).1]
                unfold dv
                rw [List.getElem?_map, List.getElem?_range' hjk]
                simp
                omega
              have hne : ((j : Int) + 1 == (k : Int) + 1) = false := by rw [beq_eq_false_iff_ne]; omega
              have i5 : (j : Int) < (k : Int) := by omega
              clear hown
              go_wp2
              go_roundw
              case rel => exact ⟨j + 1, by omega, by go_num, H9⟩
              case measure => simp [intOf]; omega
            · obtain rfl : j = k := by omega
              have hbase := H9.out.below.size
              obtain ⟨_, _, _, hown⟩ := H9.out.seen
              have HOWN := Lib.hid hown
              clear hown
              go_wp2_with (at_builtin; refine wpList_append_own_at _ rfl (.tmp 105) (.tmp 107) _ rfl w9.heap.size 3 j0 _ 1 8 Try.underlying50 hj0 hy0 hy1 hy2 rfl (by decide) _ _ _ rfl (HOWN.out.alloc _) ⟨wr.heap.size, 0, none⟩ 1 1 [.int .i64 ((j : Int) + 1)] rfl rfl (cell_one_new _ _ _) ?a2 ?a3 ?a4 ?a5 ?_)
              case a2 => intro u hu; simp at hu; subst hu; rfl
              case a3 => unfold maxLen; omega
              case a4 => omega
              case a5 => simp; omega
              intro v1 w10 hown1 hg1 _ hat1
              obtain ⟨av2, cv2, rfl, h10⟩ := (H9.out.grow ((Below.refl _ _).alloc (Nat.le_refl _) (.cells #[.int .i64 ((j : Int) + 1)] 3))).app (own_cast hown1 rfl (by push_cast; rfl)) hg1 (hat1.imp id (fun e => ⟨_, e, by simp⟩))
              have H10 := Lib.hid h10
              clear hown1 hg1 hat1 h10 H9 HOWN hbase
              by_cases hkr : j = r
              · have i6 : ((j : Int) == (r : Int)) = true := by simp [hkr]
                have HKR := Lib.hid hkr
                clear hkr
                go_wp2_with fail
                with_reducible refine (size_h H10.out.has ((j : Int) + 1)).mono ?_
                rintro er w' ⟨rfl, rfl⟩
                rw [lf_sz n1 z1 n2 z2 r D j (by omega) hr HDL.out]
                go_wp2_with (refine wp_make_own _ rfl _ _ _ rfl 5 i0 _ Try.underlying31 hi0 hz0 hz1 rfl _ _ (sk9 n1 z1 z2 j) rfl rfl ?a1 ?a2 ?_)
                case a1 => rw [hz2]; omega
                case a2 => unfold maxLen; omega
                intro adw w11 hadw howw hbw
                have H11 := Lib.hid (H10.out.grow hbw)
                have RW : Hid (Rd w11 w11.heap.size (some adw) (bv (List.replicate (sk9 n1 z1 z2 j) 0))) := Lib.hid (by
                  have := Rd.of_own howw
                  unfold bv
                  rw [List.map_replicate]
                  exact this)
                clear hadw howw hbw H10
                go_wp2_with fail
                with_reducible refine (ap_bytes H11.out OK8.out ((j : Int) + 1) (sk9 n1 z1 z2 j) (lf_bs n1 z1 n2 z2 r D j (by omega) hr) (bk9_len n1 z1 z2 r D j hr HDL.out)).mono ?_
                rintro er w12 ⟨ab, cb, rfl, h12, hbw2⟩
                have H12 := Lib.hid h12
                have RD : Hid (Rd w12 w12.heap.size (some add) (bv (bk9 n1 z1 z2 r D j))) := Lib.hid (by unfold bk9; rw [if_pos HKR.out]; exact h12.data HDL.out)
                have hz9 : sk9 n1 z1 z2 j = z1 := by unfold sk9; rw [if_pos (by have := HKR.out; omega)]
                have HBL := Lib.hid (bk9_len n1 z1 z2 r D j hr HDL.out)
                clear h12 H11 RW hbw2
                rw [hz9] at H12 HBL ⊢
                go_wp2_with fail
                with_reducible refine (ap_same (n2' := 0) H12.out HBL.out hz1b RD.out).mono ?_
                rintro er w13 ⟨rfl, q⟩
                have H13 := Lib.hid (H12.out.grow q).ap
                clear q H12 RD HBL
                go_wp2
                go_roundw
                case rel => exact ⟨j + 1, av2, cv2, by omega, rfl, by go_num, H13⟩
                case measure => simp [intOf]; omega
              · have i6 : ((j : Int) == (r : Int)) = false := by rw [beq_eq_false_iff_ne]; omega
                have HKR := Lib.hid hkr
                clear hkr
                go_wp2_with fail
                with_reducible refine (size_h H10.out.has ((j : Int) + 1)).mono ?_
                rintro er w' ⟨rfl, rfl⟩
                rw [lf_sz n1 z1 n2 z2 r D j (by omega) hr HDL.out]
                go_wp2_with (refine wp_make_own _ rfl _ _ _ rfl 5 i0 _ Try.underlying31 hi0 hz0 hz1 rfl _ _ (sk9 n1 z1 z2 j) rfl rfl ?a1 ?a2 ?_)
                case a1 => rw [hz2]; omega
                case a2 => unfold maxLen; omega
                intro adw w11 hadw howw hbw
                have H11 := Lib.hid (H10.out.grow hbw)
                have RW : Hid (Rd w11 w11.heap.size (some adw) (bv (List.replicate (sk9 n1 z1 z2 j) 0))) := Lib.hid (by
                  have := Rd.of_own howw
                  unfold bv
                  rw [List.map_replicate]
                  exact this)
                clear hadw howw hbw H10
                go_wp2_with fail
                with_reducible refine (ap_bytes H11.out OK8.out ((j : Int) + 1) (sk9 n1 z1 z2 j) (lf_bs n1 z1 n2 z2 r D j (by omega) hr) (bk9_len n1 z1 z2 r D j hr HDL.out)).mono ?_
                rintro er w12 ⟨ab, cb, rfl, h12, hbw2⟩
                have H12 := Lib.hid h12
                have RD : Hid (Rd w12 w12.heap.size (some adw) (bv (bk9 n1 z1 z2 r D j))) := Lib.hid (by unfold bk9; rw [if_neg HKR.out]; exact (RW.out.below hbw2).mono hbw2.size)
                have HBL := Lib.hid (bk9_len n1 z1 z2 r D j hr HDL.out)
                clear h12 H11 RW hbw2
                go_wp2_with fail
                with_reducible refine (ap_same (n2' := 0) H12.out HBL.out hsk RD.out).mono ?_
                rintro er w13 ⟨rfl, q⟩
                have H13 := Lib.hid (H12.out.grow q).ap
                clear q H12 RD HBL
                go_wp2
                go_roundw
                case rel => exact ⟨j + 1, av2, cv2, by omega, rfl, by go_num, H13⟩
                case measure => simp [intOf]; omega
        · have i4 : (n1 : Int) ≤ (k : Int) := by omega
          have hsub : (k : Int) - (n1 : Int) = ((k - n1 : Nat) : Int) := by omega
          go_wp2_with fail
          with_reducible refine (ap_cell H8.out k (by omega) 0 false (cellA_no _ _ _ (by omega))).mono ?_
          rintro er w' ⟨rfl, rfl⟩
          go_wp2_with fail
          with_reducible refine (ap_len H8.out).mono ?_
          rintro er w' ⟨rfl, rfl⟩
          go_wp2_with fail
          with_reducible refine (ap_len H8.out).mono ?_
          rintro er w' ⟨rfl, rfl⟩
          go_wp2_with fail
          with_reducible refine (ap_cell2 H8.out (k - n1) (by omega) ((k : Int) + 1) true (by rw [cellA_in _ _ _ (by omega)]; congr 1; omega)).mono ?_
          rintro er w' ⟨rfl, rfl⟩
          go_wp2_with fail
          go_loopw [19] (fun i wr => ∃ j : Nat, j ≤ k ∧ i = .int .i64 j ∧ Hid (Ap w9 P (Lf n1 z1 n2 z2 r D) G n1 G2 n2 (.slice (some add) z1 z1) D (.slice av k cv) k wr)) (fun i _ => k - (intOf i).toNat)
          case atStart => exact ⟨0, Nat.zero_le _, rfl, H8⟩
          case round =>
            obtain ⟨j, hj, rfl, H9⟩ := hrel
            clear H8
            by_cases hjk : j < k
            · obtain ⟨_, _, _, hown⟩ := H9.out.seen
              obtain ⟨ads, rfl⟩ : ∃ ads, av = some ads := by
                cases av with
                | none =>
                  rcases hown.2 with ⟨_, e⟩ | ⟨g, cap', cur, e, _⟩
                  · omega
                  · cases e
                | some ads => exact ⟨ads, rfl⟩
              have hsc : wr.cell? (ads.add j) = some (.int .i64 ((j : Int) + 1)) := by
                rw [(own_at hown j hjk).1]
                unfold dv
                rw [List.getElem?_map, List.getElem?_range' hjk]
                simp
                omega
              have hne : ((j : Int) + 1 == (k : Int) + 1) = false := by rw [beq_eq_false_iff_ne]; omega
              have i5 : (j : Int) < (k : Int) := by omega
              clear hown
              go_wp2
              go_roundw
              case rel => exact ⟨j + 1, by omega, by go_num, H9⟩
              case measure => simp [intOf]; omega
            · obtain rfl : j = k := by omega
              have hbase := H9.out.below.size
              obtain ⟨_, _, _, hown⟩ := H9.out.seen
              have HOWN := Lib.hid hown
              clear hown
              go_wp2_with (at_builtin; refine wpList_append_own_at _ rfl (.tmp 105) (.tmp 107) _ rfl w9.heap.size 3 j0 _ 1 8 Try.underlying50 hj0 hy0 hy1 hy2 rfl (by decide) _ _ _ rfl (HOWN.out.alloc _) ⟨wr.heap.size, 0, none⟩ 1 1 [.int .i64 ((j : Int) + 1)] rfl rfl (cell_one_new _ _ _) ?a2 ?a3 ?a4 ?a5 ?_)
              case a2 => intro u hu; simp at hu; subst hu; rfl
              case a3 => unfold maxLen; omega
              case a4 => omega
              case a5 => simp; omega
              intro v1 w10 hown1 hg1 _ hat1
              obtain ⟨av2, cv2, rfl, h10⟩ := (H9.out.grow ((Below.refl _ _).alloc (Nat.le_refl _) (.cells #[.int .i64 ((j : Int) + 1)] 3))).app (own_cast hown1 rfl (by push_cast; rfl)) hg1 (hat1.imp id (fun e => ⟨_, e, by simp⟩))
              have H10 := Lib.hid h10
              clear hown1 hg1 hat1 h10 H9 HOWN hbase
              have hkr : ¬ j = r := by omega
              have i6 : ((j : Int) == (r : Int)) = false := by rw [beq_eq_false_iff_ne]; omega
              have HKR := Lib.hid hkr
              clear hkr
              go_wp2_with fail
              with_reducible refine (size_h H10.out.has ((j : Int) + 1)).mono ?_
              rintro er w' ⟨rfl, rfl⟩
              rw [lf_sz n1 z1 n2 z2 r D j (by omega) hr HDL.out]
              go_wp2_with (refine wp_make_own _ rfl _ _ _ rfl 5 i0 _ Try.underlying31 hi0 hz0 hz1 rfl _ _ (sk9 n1 z1 z2 j) rfl rfl ?a1 ?a2 ?_)
              case a1 => rw [hz2]; omega
              case a2 => unfold maxLen; omega
              intro adw w11 hadw howw hbw
              have H11 := Lib.hid (H10.out.grow hbw)
              have RW : Hid (Rd w11 w11.heap.size (some adw) (bv (List.replicate (sk9 n1 z1 z2 j) 0))) := Lib.hid (by
                have := Rd.of_own howw
                unfold bv
                rw [List.map_replicate]
                exact this)
              clear hadw howw hbw H10
              go_wp2_with fail
              with_reducible refine (ap_bytes H11.out OK8.out ((j : Int) + 1) (sk9 n1 z1 z2 j) (lf_bs n1 z1 n2 z2 r D j (by omega) hr) (bk9_len n1 z1 z2 r D j hr HDL.out)).mono ?_
              rintro er w12 ⟨ab, cb, rfl, h12, hbw2⟩
              have H12 := Lib.hid h12
              have RD : Hid (Rd w12 w12.heap.size (some adw) (bv (bk9 n1 z1 z2 r D j))) := Lib.hid (by unfold bk9; rw [if_neg HKR.out]; exact (RW.out.below hbw2).mono hbw2.size)
              have HBL := Lib.hid (bk9_len n1 z1 z2 r D j hr HDL.out)
              clear h12 H11 RW hbw2
              go_wp2_with fail
              with_reducible refine (ap_same (n2' := 0) H12.out HBL.out hsk RD.out).mono ?_
              rintro er w13 ⟨rfl, q⟩
              have H13 := Lib.hid (H12.out.grow q).ap
              clear q H12 RD HBL
              go_wp2
              go_roundw
              case rel => exact ⟨j + 1, av2, cv2, by omega, rfl, by go_num, H13⟩
              case measure => simp [intOf]; omega
      · obtain rfl : k = n1 + n2 := by omega
        go_wp2_with fail
        with_reducible refine (ap_len H8.out).mono ?_
        rintro er w' ⟨rfl, rfl⟩
        go_wp2_with fail
        with_reducible refine (ap_len2 H8.out).mono ?_
        rintro er w' ⟨rfl, rfl⟩
        go_wp2_with fail
        with_reducible refine (live_h H8.out.has LE8.out ((n1 : Int) + (n2 : Int) + 1) HLV.out).mono ?_
        rintro er w9b ⟨rfl, q⟩
        have H9 := Lib.hid (H8.out.grow q)
        clear q H8
        go_wp2_with fail
        with_reducible refine (ap_len H9.out).mono ?_
        rintro er w' ⟨rfl, rfl⟩
        go_wp2_with fail
        with_reducible refine (ap_len2 H9.out).mono ?_
        rintro er w' ⟨rfl, rfl⟩
        go_wp2_with fail
        with_reducible refine (known_c _).mono ?_
        rintro er w9c ⟨rfl, q⟩
        have B9 := Lib.hid (B0.out.trans ((H9.out.below.trans (q.mono H9.out.below.size)).mono B0.out.size))
        clear q H9
        go_wp2
        go_ret
        exact ⟨rfl, B9.out⟩
  · obtain ⟨adb, rfl, _, hcx⟩ := (RR.out.below (B0.out.trans (H4.out.below.mono B0.out.size))) (by rw [bv_len, HL3.out]; omega)
    obtain ⟨g, cur, rfl, hgc, hcs, h5⟩ := H4.out.over (by rw [List.length_replicate]) (L3.take z1) (by rw [List.length_take]; omega)
    have H5 : Hid (Ap w9 P (Lz n1 z1 n2 z2) G n1 G2 n2 (.slice (some ⟨g, 0, none⟩) z1 z1) D (.slice none 0 0) 0 (w7.setRow g (cur.toList.take 0 ++ (bv (L3.take z1) ++ cur.toList.drop (0 + (bv (L3.take z1)).length))).toArray)) := Lib.hid (by
      rw [← hD]
      exact h5)
    have hsrc : ∀ j v, (bv (L3.take z1))[j]? = some v → w7.cell? (adb.add j) = some v := fun j v hv => hcx j v (by
      have e : bv (L3.take z1) = (bv L3).take z1 := by unfold bv; rw [List.map_take]
      rw [e, List.getElem?_take] at hv
      split at hv
      · exact hv
      · cases hv)
    have hcl : (bv (L3.take z1)).length = Nat.min len3 z1 := by rw [bv_len, List.length_take, HL3.out]; exact Nat.min_comm _ _
    have hfit : 0 + (bv (L3.take z1)).length ≤ cur.size := by rw [bv_len, List.length_take, hcs]; omega
    have HGC := Lib.hid hgc
    have HSRC := Lib.hid hsrc
    have HCL := Lib.hid hcl
    have HFIT := Lib.hid hfit
    clear hgc hcs h5 hcx hsrc hcl hfit hD H4
    go_wp2_with (with_reducible refine wpList_copy_own rfl (.tmp 50) (.tmp 51) _ _ rfl 5 Try.underlying31 hszb g 0 _ _ adb _ _ rfl rfl cur _ HGC.out (bv (L3.take z1)) HCL.out HSRC.out HFIT.out (bv_one _) ?_; generalize (w7.setRow g (cur.toList.take 0 ++ (bv (L3.take z1) ++ cur.toList.drop (0 + (bv (L3.take z1)).length))).toArray) = w8 at *)
    clear HGC HSRC HCL HFIT
    go_wp2_with fail
    with_reducible refine (ap_write H5.out HDL.out hz1b OKZ.out (by omega) (1 + (r : Int)) _ (lz_wr n1 z1 n2 z2 r D hr HDL.out)).mono ?_
    rintro er w8b ⟨rfl, h6⟩
    dsimp only at h6 ⊢
    have H6 := Lib.hid h6
    clear h6 H5
    have hlw : ((Lz n1 z1 n2 z2).set r (⟨D, [1], false, false⟩ : Cl)).length ≤ 800 := by have := OKW.out.len; omega
    go_wp2_with fail
    with_reducible refine (ap_make1 H6.out hlw).mono ?_
    rintro er w8c ⟨rfl, h7⟩
    have hlw2 : ((((Lz n1 z1 n2 z2).set r (⟨D, [1], false, false⟩ : Cl)).length : Nat) : Int) ≤ 800 := by omega
    have H7 : Hid (Ap w9 P (Lf n1 z1 n2 z2 r D) G n1 G2 n2 (.slice (some ⟨g, 0, none⟩) z1 z1) D (.slice none 0 0) 0 w8c) := Lib.hid h7
    clear h7 H6
    generalize ((((Lz n1 z1 n2 z2).set r (⟨D, [1], false, false⟩ : Cl)).length : Nat) : Int) = lw at *
    go_wp2_with fail
    with_reducible refine (ap_sweep H7.out LE8.out 0 (by rw [HSW.out.2.1]; simp) _ HSW.out.1).mono ?_
    rintro er w8d ⟨rfl, h8⟩
    have H80 := Lib.hid h8
    clear h8 H7
    go_wp2_with fail
    go_loopw [15, 16] (fun vs i wr => ∃ (k : Nat) (av : Option Addr) (cv : Nat), k ≤ n1 + n2 ∧ vs = .slice av k cv ∧ i = .int .i64 k ∧ Hid (Ap w9 P (Lf n1 z1 n2 z2 r D) G n1 G2 n2 (.slice (some ⟨g, 0, none⟩) z1 z1) D (.slice av k cv) k wr)) (fun vs i _ => n1 + n2 - (intOf i).toNat)
    case atStart => exact ⟨0, none, 0, Nat.zero_le _, rfl, rfl, H80⟩
    case round =>
      clear H80
      obtain ⟨k, av, cv, hk, rfl, rfl, H8⟩ := hrel
      by_cases hlt : k < n1 + n2
      · have i1 : (k : Int) < (n1 : Int) + (n2 : Int) := by omega
        have i3 : (0 : Int) ≤ (k : Int) := by omega
        have hsk : sk9 n1 z1 z2 k ≤ 64 := by unfold sk9; split <;> omega
        have hsk1 : 1 ≤ sk9 n1 z1 z2 k := by unfold sk9; split <;> omega
        go_wp2_with fail
        with_reducible refine (ap_len H8.out).mono ?_
        rintro er w' ⟨rfl, rfl⟩
        go_wp2_with fail
        with_reducible refine (ap_len2 H8.out).mono ?_
        rintro er w' ⟨rfl, rfl⟩
        by_cases hk1 : k < n1
        · have i4 : (k : Int) < (n1 : Int) := by omega
          go_wp2_with fail
          with_reducible refine (ap_cell H8.out k (by omega) ((k : Int) + 1) true (by rw [cellA_in _ _ _ hk1]; push_cast; rw [Int.add_comm])).mono ?_
          rintro er w' ⟨rfl, rfl⟩
          go_wp2_with fail
          with_reducible refine (ap_len H8.out).mono ?_
          rintro er w' ⟨rfl, rfl⟩
          go_wp2_with fail
          go_loopw [19] (fun i wr => ∃ j : Nat, j ≤ k ∧ i = .int .i64 j ∧ Hid (Ap w9 P (Lf n1 z1 n2 z2 r D) G n1 G2 n2 (.slice (some ⟨g, 0, none⟩) z1 z1) D (.slice av k cv) k wr)) (fun i _ => k - (intOf i).toNat)
          case atStart => exact ⟨0, Nat.zero_le _, rfl, H8⟩
          case round =>
            obtain ⟨j, hj, rfl, H9⟩ := hrel
            clear H8
            by_cases hjk : j < k
            · obtain ⟨_, _, _, hown⟩ := H9.out.seen
              obtain ⟨ads, rfl⟩ : ∃ ads, av = some ads := by
                cases av with
                | none =>
                  rcases hown.2 with ⟨_, e⟩ | ⟨g, cap', cur, e, _⟩
                  · omega
                  · cases e
                | some ads => exact ⟨ads, rfl⟩
              have hsc : wr.cell? (ads.add j) = some (.int .i64 ((j : Int) + 1)) := by
                rw [(own_at hown j hjk).1]
                unfold dv
                rw [List.getElem?_map, List.getElem?_range' hjk]
                simp
                omega
              have hne : ((j : Int) + 1 == (k : Int) + 1) = false := by rw [beq_eq_false_iff_ne]; omega
              have i5 : (j : Int) < (k : Int) := by omega
              clear hown
              go_wp2
              go_roundw
              case rel => exact ⟨j + 1, by omega, by go_num, H9⟩
              case measure => simp [intOf]; omega
            · obtain rfl : j = k := by omega
              have hbase := H9.out.below.size
              obtain ⟨_, _, _, hown⟩ := H9.out.seen
              have HOWN := Lib.hid hown
              clear hown
              go_wp2_with (at_builtin; refine wpList_append_own_at _ rfl (.tmp 105) (.tmp 107) _ rfl w9.heap.size 3 j0 _ 1 8 Try.underlying50 hj0 hy0 hy1 hy2 rfl (by decide) _ _ _ rfl (HOWN.out.alloc _) ⟨wr.heap.size, 0, none⟩ 1 1 [.int .i64 ((j : Int) + 1)] rfl rfl (cell_one_new _ _ _) ?a2 ?a3 ?a4 ?a5 ?_)
              case a2 => intro u hu; simp at hu; subst hu; rfl
              case a3 => unfold maxLen; omega
              case a4 => omega
              case a5 => simp; omega
              intro v1 w10 hown1 hg1 _ hat1
              obtain ⟨av2, cv2, rfl, h10⟩ := (H9.out.grow ((Below.refl _ _).alloc (Nat.le_refl _) (.cells #[.int .i64 ((j : Int) + 1)] 3))).app (own_cast hown1 rfl (by push_cast; rfl)) hg1 (hat1.imp id (fun e => ⟨_, e, by simp⟩))
              have H10 := Lib.hid h10
              clear hown1 hg1 hat1 h10 H9 HOWN hbase
              by_cases hkr : j = r
              · have i6 : ((j : Int) == (r : Int)) = true := by simp [hkr]
                have HKR := Lib.hid hkr
                clear hkr
                go_wp2_with fail
                with_reducible refine (size_h H10.out.has ((j : Int) + 1)).mono ?_
                rintro er w' ⟨rfl, rfl⟩
                rw [lf_sz n1 z1 n2 z2 r D j (by omega) hr HDL.out]
                go_wp2_with (refine wp_make_own _ rfl _ _ _ rfl 5 i0 _ Try.underlying31 hi0 hz0 hz1 rfl _ _ (sk9 n1 z1 z2 j) rfl rfl ?a1 ?a2 ?_)
                case a1 => rw [hz2]; omega
                case a2 => unfold maxLen; omega
                intro adw w11 hadw howw hbw
                have H11 := Lib.hid (H10.out.grow hbw)
                have RW : Hid (Rd w11 w11.heap.size (some adw) (bv (List.replicate (sk9 n1 z1 z2 j) 0))) := Lib.hid (by
                  have := Rd.of_own howw
                  unfold bv
                  rw [List.map_replicate]
                  exact this)
                clear hadw howw hbw H10
                go_wp2_with fail
                with_reducible refine (ap_bytes H11.out OK8.out ((j : Int) + 1) (sk9 n1 z1 z2 j) (lf_bs n1 z1 n2 z2 r D j (by omega) hr) (bk9_len n1 z1 z2 r D j hr HDL.out)).mono ?_
                rintro er w12 ⟨ab, cb, rfl, h12, hbw2⟩
                have H12 := Lib.hid h12
                have RD : Hid (Rd w12 w12.heap.size (some ⟨g, 0, none⟩) (bv (bk9 n1 z1 z2 r D j))) := Lib.hid (by unfold bk9; rw [if_pos HKR.out]; exact h12.data HDL.out)
                have hz9 : sk9 n1 z1 z2 j = z1 := by unfold sk9; rw [if_pos (by have := HKR.out; omega)]
                have HBL := Lib.hid (bk9_len n1 z1 z2 r D j hr HDL.out)
                clear h12 H11 RW hbw2
                rw [hz9] at H12 HBL ⊢
                go_wp2_with fail
                with_reducible refine (ap_same (n2' := 0) H12.out HBL.out hz1b RD.out).mono ?_
                rintro er w13 ⟨rfl, q⟩
                have H13 := Lib.hid (H12.out.grow q).ap
                clear q H12 RD HBL
                go_wp2
                go_roundw
                case rel => exact ⟨j + 1, av2, cv2, by omega, rfl, by go_num, H13⟩
                case measure => simp [intOf]; omega
              · have i6 : ((j : Int) == (r : Int)) = false := by rw [beq_eq_false_iff_ne]; omega
                have HKR := Lib.hid hkr
                clear hkr
                go_wp2_with fail
                with_reducible refine (size_h H10.out.has ((j : Int) + 1)).mono ?_
                rintro er w' ⟨rfl, rfl⟩
                rw [lf_sz n1 z1 n2 z2 r D j (by omega) hr HDL.out]
                go_wp2_with (refine wp_make_own _ rfl _ _ _ rfl 5 i0 _ Try.underlying31 hi0 hz0 hz1 rfl _ _ (sk9 n1 z1 z2 j) rfl rfl ?a1 ?a2 ?_)
                case a1 => rw [hz2]; omega
                case a2 => unfold maxLen; omega
                intro adw w11 hadw howw hbw
                have H11 := Lib.hid (H10.out.grow hbw)
                have RW : Hid (Rd w11 w11.heap.size (some adw) (bv (List.replicate (sk9 n1 z1 z2 j) 0))) := Lib.hid (by
                  have := Rd.of_own howw
                  unfold bv
                  rw [List.map_replicate]
                  exact this)
                clear hadw howw hbw H10
                go_wp2_with fail
                with_reducible refine (ap_bytes H11.out OK8.out ((j : Int) + 1) (sk9 n1 z1 z2 j) (lf_bs n1 z1 n2 z2 r D j (by omega) hr) (bk9_len n1 z1 z2 r D j hr HDL.out)).mono ?_
                rintro er w12 ⟨ab, cb, rfl, h12, hbw2⟩
                have H12 := Lib.hid h12
                have RD : Hid (Rd w12 w12.heap.size (some adw) (bv (bk9 n1 z1 z2 r D j))) := Lib.hid (by unfold bk9; rw [if_neg HKR.out]; exact (RW.out.below hbw2).mono hbw2.size)
                have HBL := Lib.hid (bk9_len n1 z1 z2 r D j hr HDL.out)
                clear h12 H11 RW hbw2
                go_wp2_with fail
                with_reducible refine (ap_same (n2' := 0) H12.out HBL.out hsk RD.out).mono ?_
                rintro er w13 ⟨rfl, q⟩
                have H13 := Lib.hid (H12.out.grow q).ap
                clear q H12 RD HBL
                go_wp2
                go_roundw
                case rel => exact ⟨j + 1, av2, cv2, by omega, rfl, by go_num, H13⟩
                case measure => simp [intOf]; omega
        · have i4 : (n1 : Int) ≤ (k : Int) := by omega
          have hsub : (k : Int) - (n1 : Int) = ((k - n1 : Nat) : Int) := by omega
          go_wp2_with fail
          with_reducible refine (ap_cell H8.out k (by omega) 0 false (cellA_no _ _ _ (by omega))).mono ?_
          rintro er w' ⟨rfl, rfl⟩
          go_wp2_with fail
          with_reducible refine (ap_len H8.out).mono ?_
          rintro er w' ⟨rfl, rfl⟩
          go_wp2_with fail
          with_reducible refine (ap_len H8.out).mono ?_
          rintro er w' ⟨rfl, rfl⟩
          go_wp2_with fail
          with_reducible refine (ap_cell2 H8.out (k - n1) (by omega) ((k : Int) + 1) true (by rw [cellA_in _ _ _ (by omega)]; congr 1; omega)).mono ?_
          rintro er w' ⟨rfl, rfl⟩
          go_wp2_with fail
          go_loopw [19] (fun i wr => ∃ j : Nat, j ≤ k ∧ i = .int .i64 j ∧ Hid (Ap w9 P (Lf n1 z1 n2 z2 r D) G n1 G2 n2 (.slice (some ⟨g, 0, none⟩) z1 z1) D (.slice av k cv) k wr)) (fun i _ => k - (intOf i).toNat)
          case atStart => exact ⟨0, Nat.zero_le _, rfl, H8⟩
          case round =>
            obtain ⟨j, hj, rfl, H9⟩ := hrel
            clear H8
            by_cases hjk : j < k
            · obtain ⟨_, _, _, hown⟩ := H9.out.seen
              obtain ⟨ads, rfl⟩ : ∃ ads, av = some ads := by
                cases av with
                | none =>
                  rcases hown.2 with ⟨_, e⟩ | ⟨g, cap', cur, e, _⟩
                  · omega
                  · cases e
                | some ads => exact ⟨ads, rfl⟩
              have hsc : wr.cell? (ads.add j) = some (.int .i64 ((j : Int) + 1)) := by
                rw [(own_at hown j hjk).1]
                unfold dv
                rw [List.getElem?_map, List.getElem?_range' hjk]
                simp
                omega
              have hne : ((j : Int) + 1 == (k : Int) + 1) = false := by rw [beq_eq_false_iff_ne]; omega
              have i5 : (j : Int) < (k : Int) := by omega
              clear hown
              go_wp2
              go_roundw
              case rel => exact ⟨j + 1, by omega, by go_num, H9⟩
              case measure => simp [intOf]; omega
            · obtain rfl : j = k := by omega
              have hbase := H9.out.below.size
              obtain ⟨_, _, _, hown⟩ := H9.out.seen
              have HOWN := Lib.hid hown
              clear hown
              go_wp2_with (at_builtin; refine wpList_append_own_at _ rfl (.tmp 105) (.tmp 107) _ rfl w9.heap.size 3 j0 _ 1 8 Try.underlying50 hj0 hy0 hy1 hy2 rfl (by decide) _ _ _ rfl (HOWN.out.alloc _) ⟨wr.heap.size, 0, none⟩ 1 1 [.int .i64 ((j : Int) + 1)] rfl rfl (cell_one_new _ _ _) ?a2 ?a3 ?a4 ?a5 ?_)
              case a2 => intro u hu; simp at hu; subst hu; rfl
              case a3 => unfold maxLen; omega
              case a4 => omega
              case a5 => simp; omega
              intro v1 w10 hown1 hg1 _ hat1
              obtain ⟨av2, cv2, rfl, h10⟩ := (H9.out.grow ((Below.refl _ _).alloc (Nat.le_refl _) (.cells #[.int .i64 ((j : Int) + 1)] 3))).app (own_cast hown1 rfl (by push_cast; rfl)) hg1 (hat1.imp id (fun e => ⟨_, e, by simp⟩))
              have H10 := Lib.hid h10
              clear hown1 hg1 hat1 h10 H9 HOWN hbase
              have hkr : ¬ j = r := by omega
              have i6 : ((j : Int) == (r : Int)) = false := by rw [beq_eq_false_iff_ne]; omega
              have HKR := Lib.hid hkr
              clear hkr
              go_wp2_with fail
              with_reducible refine (size_h H10.out.has ((j : Int) + 1)).mono ?_
              rintro er w' ⟨rfl, rfl⟩
              rw [lf_sz n1 z1 n2 z2 r D j (by omega) hr HDL.out]
              go_wp2_with (refine wp_make_own _ rfl _ _ _ rfl 5 i0 _ Try.underlying31 hi0 hz0 hz1 rfl _ _ (sk9 n1 z1 z2 j) rfl rfl ?a1 ?a2 ?_)
              case a1 => rw [hz2]; omega
              case a2 => unfold maxLen; omega
              intro adw w11 hadw howw hbw
              have H11 := Lib.hid (H10.out.grow hbw)
              have RW : Hid (Rd w11 w11.heap.size (some adw) (bv (List.replicate (sk9 n1 z1 z2 j) 0))) := Lib.hid (by
                have := Rd.of_own howw
                unfold bv
                rw [List.map_replicate]
                exact this)
              clear hadw howw hbw H10
              go_wp2_with fail
              with_reducible refine (ap_bytes H11.out OK8.out ((j : Int) + 1) (sk9 n1 z1 z2 j) (lf_bs n1 z1 n2 z2 r D j (by omega) hr) (bk9_len n1 z1 z2 r D j hr HDL.out)).mono ?_
              rintro er w12 ⟨ab, cb, rfl, h12, hbw2⟩
              have H12 := Lib.hid h12
              have RD : Hid (Rd w12 w12.heap.size (some adw) (bv (bk9 n1 z1 z2 r D j))) := Lib.hid (by unfold bk9; rw [if_neg HKR.out]; exact (RW.out.below hbw2).mono hbw2.size)
              have HBL := Lib.hid (bk9_len n1 z1 z2 r D j hr HDL.out)
              clear h12 H11 RW hbw2
              go_wp2_with fail
              with_reducible refine (ap_same (n2' := 0) H12.out HBL.out hsk RD.out).mono ?_
              rintro er w13 ⟨rfl, q⟩
              have H13 := Lib.hid (H12.out.grow q).ap
              clear q H12 RD HBL
              go_wp2
              go_roundw
              case rel => exact ⟨j + 1, av2, cv2, by omega, rfl, by go_num, H13⟩
              case measure => simp [intOf]; omega
      · obtain rfl : k = n1 + n2 := by omega
        go_wp2_with fail
        with_reducible refine (ap_len H8.out).mono ?_
        rintro er w' ⟨rfl, rfl⟩
        go_wp2_with fail
        with_reducible refine (ap_len2 H8.out).mono ?_
        rintro er w' ⟨rfl, rfl⟩
        go_wp2_with fail
        with_reducible refine (live_h H8.out.has LE8.out ((n1 : Int) + (n2 : Int) + 1) HLV.out).mono ?_
        rintro er w9b ⟨rfl, q⟩
        have H9 := Lib.hid (H8.out.grow q)
        clear q H8
        go_wp2_with fail
        with_reducible refine (ap_len H9.out).mono ?_
        rintro er w' ⟨rfl, rfl⟩
        go_wp2_with fail
        with_reducible refine (ap_len2 H9.out).mono ?_
        rintro er w' ⟨rfl, rfl⟩
        go_wp2_with fail
        with_reducible refine (known_c _).mono ?_
        rintro er w9c ⟨rfl, q⟩
        have B9 := Lib.hid (B0.out.trans ((H9.out.below.trans (q.mono H9.out.below.size)).mono B0.out.size))
        clear q H9
        go_wp2
        go_ret
        exact ⟨rfl, B9.out⟩

set_option maxRecDepth 100000 in
theorem lifted (os : Os) (started : os.Started) (H : Type) (enc : TypeId × Value → H) :
    ReturnsInHanded {} Try.checked os 9 .any (Rows.arrayApartSpec.pre6 enc Try.prog Try.f9 Rows.arrayApartRow.domain false) (Rows.arrayApartSpec.post enc Try.prog Try.f9 false true false false) := by
  refine returnsInHanded_of_change (C := Try.checked) own started (by kernel_rfl) Try.func9
    (ChangeSpec.witness6 (enc := enc) (C := Try.checked) false ⟨#[], #[.agg #[.int .i64 0, .int .i64 0], .agg #[.int .i64 0, .int .i64 0], .int .i64 0, .slice none 0 0], []⟩ 8 (by kernel_rfl) (by kernel_rfl) (by kernel_rfl) (by kernel_rfl)) ?_
  intro W base args ds gs before hval0 hW hcnd _
  have hval : ∀ (j : Nat) t v, Try.f9.params[j]? = some t → args[j]? = some v → Value.okWide Try.prog W .any base t v := hval0
  have hW' := hW
  obtain ⟨p, q, hA0, hV, rfl, hfz, hnd⟩ := hW
  have hA : DataW.TrodAll enc Try.prog W 0 (fun _ => true) true Try.f9.params.toList args.toList ds p := hA0
  rw [Try.params9] at hA hval
  obtain ⟨v0, vs0, d0, ds0, p0, q0, hargs, rfl, rfl, h0, r0⟩ := trodAll_cons hA
  obtain ⟨v1, vs1, d1, ds1, p1, q1, rfl, rfl, rfl, h1, r1⟩ := trodAll_cons r0
  obtain ⟨v2, vs2, d2, ds2, p2, q2, rfl, rfl, rfl, h2, r2⟩ := trodAll_cons r1
  obtain ⟨v3, vs3, d3, ds3, p3, q3, rfl, rfl, rfl, h3, r3⟩ := trodAll_cons r2
  obtain ⟨rfl, rfl, rfl⟩ := trodAll_nil r3
  obtain rfl : args = #[v0, v1, v2, v3] := by cases args; simp_all
  obtain ⟨rfl, rfl⟩ := trodVars_none hV
  have k0 := h0
  have lt0 : ∀ x ∈ p0, x.block < W.heap.size := by obtain ⟨m, hm⟩ := k0; exact DataW.trod_lt m _ _ _ hm
  obtain ⟨x0, rfl, f0⟩ := open_ask (hval 0 58 v0 rfl rfl) h0
  have k1 := h1
  have lt1 : ∀ x ∈ p1, x.block < W.heap.size := by obtain ⟨m, hm⟩ := k1; exact DataW.trod_lt m _ _ _ hm
  obtain ⟨x1, rfl, f1⟩ := open_ask (hval 1 58 v1 rfl rfl) h1
  obtain ⟨n2, rfl, rfl, rfl, w2⟩ := open_int Try.underlying3 (hval 2 3 v2 rfl rfl) h2
  obtain ⟨a3, len3, cap3, rfl⟩ := okWide_slice Try.underlying31 (hval 3 31 v3 rfl rfl)
  have k3 := h3
  have lt3 : ∀ x ∈ p3, x.block < W.heap.size := by obtain ⟨m, hm⟩ := k3; exact DataW.trod_lt m _ _ _ hm
  obtain ⟨L3, l3, f3, c3, m3, z3, rr3⟩ := open_bytes h3
  clear hA0 hval0
  refine (walk x0 x1 n2 a3 len3 cap3 L3 W f0 f1 w2 l3 f3 c3 m3 z3 rr3).mono fun e W' ⟨he, bel⟩ => ?_
  subst he
  exact ⟨_, rfl, _, _, _, [], _, [], hW', trodAll_mk1 (shut_bool Try.underlying4 _), (trodAll_cons_mk (Below.trod laidOut (by kernel_rfl) (of_decide_eq_true (by kernel_rfl)) k0 bel lt0) (trodAll_cons_mk (Below.trod laidOut (by kernel_rfl) (of_decide_eq_true (by kernel_rfl)) k1 bel lt1) (trodAll_cons_mk (shut_int Try.underlying3 w2) (trodAll_cons_mk (Below.trod laidOut (by kernel_rfl) (of_decide_eq_true (by kernel_rfl)) k3 bel lt3) trodAll_mk0)))), rfl, bel.frame _, fun h => by cases h⟩

theorem over : Rows.arrayApartRow.holds Try.pinned (OpenSpec.ofChange Rows.arrayApartSpec) :=
  OpenClaim.holds_of_wide 9 Try.f9 rfl rfl rfl rfl rfl rfl rfl ⟨rfl, rfl, rfl, rfl, rfl⟩ rfl rfl rfl rfl rfl (by kernel_rfl) Try.func9 (by kernel_rfl)
    (of_decide_eq_true (by kernel_rfl)) (by unfold Func.isWrapper; first | (rw [if_pos (by decide +kernel)]; kernel_rfl) | (rw [if_neg (by decide +kernel)]; exact ⟨rfl, rfl⟩))
    (fun os started H enc _ => lifted os started H enc)

theorem proved : Rows.ArrayApartSaid := over
#print axioms proved
end Go.Proofs.Ythdgdkjaeebbcaa.arrayApart
