/-
  What the program's cells tell: contracts of what changes nothing. Conditions: cells of 64 bytes at most, written 300 times at most.
-/
import Derived.Test.YthdgdkjaeebbcaaCellsMem
import Derived.Test.YthdgdkjaeebbcaaBrief
import Derived.Test.YthdgdkjaeebbcaaRows
import Derived.WalkKit
import Derived.WalkSpells
import Derived.WalkLawsBesides
import Derived.Below
import Derived.Handy
import Derived.Lib.Hide
import Derived.Deep.Light
import Derived.Laws.StructEq
import Derived.Deep.RegionHeld3
import Derived.BigQuiet
import Derived.Deep.QuietTactic
import Derived.StillTailTactics
namespace Go.Proofs.Ythdgdkjaeebbcaa
set_option maxRecDepth 100000
open Go.RowKit Ow Ph Ro K2
set_option linter.unusedVariables false
set_option linter.unusedSimpArgs false
attribute [local go_sem] run_store_complex
def szC (L : List Cl) (id : Int) : Nat := ((gt L id).map fun c => c.bs.length).getD 0
theorem size_any {w0 w : World} {A : Ac} {P : Nat} {L : List Cl} (hl : Lay w0 A w) (h : PS A P L) (id : Int) :
    Calls Try.prog 25 #[.pointer (some ⟨P, 0, none⟩), .int .i64 id] w fun e w' => e = .returned (.int .i64 (szC L id : Nat)) ∧ w = w' := by
  unfold szC
  cases hg : gt L id with
  | none =>
    obtain ⟨m, hc, hr⟩ := h.look_none hl hg (zero_ptr w)
    clear hl h hg
    go_enter Try.func25, Try.ntmps25
    go_wp2
    go_ret
    exact ⟨rfl, rfl⟩
  | some c =>
    obtain ⟨m, q, s, hc, hr, hat⟩ := h.look_some hl hg
    obtain ⟨a, cap, rfl, h1, h2, _, _⟩ := hat.row.form
    have k0 : w.cell? ⟨q, 0, none⟩ = some (.slice a c.bs.length cap) := (hl.bk hat.blk).cell 0
    clear hl h hg hat
    go_enter Try.func25, Try.ntmps25
    go_wp2
    go_ret
    exact ⟨rfl, rfl⟩
def vsC (L : List Cl) (id : Int) : Nat := ((gt L id).map fun c => c.ts.length).getD 0
theorem version_any {w0 w : World} {A : Ac} {P : Nat} {L : List Cl} (hl : Lay w0 A w) (h : PS A P L) (id : Int) :
    Calls Try.prog 20 #[.pointer (some ⟨P, 0, none⟩), .int .i64 id] w fun e w' => e = .returned (.int .i64 (vsC L id : Nat)) ∧ Below w.heap.size w w' := by
  unfold vsC
  cases hg : gt L id with
  | none =>
    obtain ⟨m, hc, hr⟩ := h.look_none hl hg (zero_ptr w)
    clear hl h hg
    go_enter Try.func20, Try.ntmps20
    go_wp2
    go_ret
    exact ⟨rfl, Below.refl _ _⟩
  | some c =>
    obtain ⟨m, q, s, hc, hr, hat⟩ := h.look_some hl hg
    have k1 : w.cell? ⟨q, 1, none⟩ = some (.complex .f64 (fl (bts c.ts).x) (fl (bts c.ts).y)) := (hl.bk hat.blk).cell 1
    have k2 : w.cell? ⟨q, 2, none⟩ = some (.int .i64 (bts c.ts).n) := (hl.bk hat.blk).cell 2
    have k3 : w.cell? ⟨q, 3, none⟩ = some (.int .i64 (bts c.ts).t) := (hl.bk hat.blk).cell 3
    have C := fun w => writes_any (bts c.ts) w
    have hn := Lib.hid (bts_ok c.ts).len
    unfold Bt.val at C
    clear hl h hg hat
    generalize bts c.ts = b at *
    go_enter Try.func20, Try.ntmps20
    go_wp2_with fail
    with_reducible refine (C _).mono ?_
    rintro e w' ⟨rfl, q1⟩
    go_wp2
    go_ret
    exact ⟨by rw [hn.out]; rfl, q1⟩
theorem clone_any (a : Option Addr) (n cp : Nat) (xs : List Int) (hn : xs.length = n) (h0 : a = none → n = 0 ∧ cp = 0) (h1 : n ≤ 100000) (w : World) (hx : Rd w w.heap.size a (bv xs)) :
    Calls Try.prog 53 #[.slice a n cp] w fun e w' => ∃ v, e = .returned v ∧ OwnB w v w' xs := by
  obtain ⟨i0, hi0, hz0, hz1, hz2⟩ := info_parts byte_info
  cases a with
  | none =>
    obtain ⟨rfl, rfl⟩ := h0 rfl
    obtain rfl : xs = [] := List.length_eq_zero_iff.1 hn
    have he : ∀ w : World, (binOp .eql 31 (.slice none 0 0) (.slice none 0 0)).run Try.prog w = .ok (.bool true) w := fun _ => rfl
    go_enter Try.func53, Try.ntmps53
    go_wp2
    go_ret
    exact ⟨_, rfl, World.ownsRow_nil _ _ _ _, Below.refl _ _⟩
  | some ad =>
    have HN := Lib.hid hn
    have he : ∀ w : World, (binOp .eql 31 (.slice (some ad) n cp) (.slice none 0 0)).run Try.prog w = .ok (.bool false) w := fun _ => rfl
    have OWN : Hid ((w.alloc (.cells #[] 5)).ownsRow w.heap.size 5 1 (.slice (some ⟨w.heap.size, 0, none⟩) 0 0) 0 (bv [])) := Lib.hid (World.ownsRow_lit (base := w.heap.size) (e := 5) (size := 1) w #[] 0 (Nat.le_refl _) (by unfold maxLen; omega) rfl)
    have HCX : Hid (∀ j u, (bv xs)[j]? = some u → (w.alloc (.cells #[] 5)).cell? (ad.add j) = some u) := Lib.hid (fun j u hu => by
      have hp : 0 < (bv xs).length := by have := (List.getElem?_eq_some_iff.1 hu).1; omega
      obtain ⟨ad', e, hb, hc⟩ := (hx.below ((Below.refl w.heap.size w).alloc (Nat.le_refl _) (.cells #[] 5))) hp
      injection e with e
      subst e
      exact hc j u hu)
    have HLZ : Hid ((bv xs).length = n * 1) := Lib.hid (by rw [bv_len, hn, Nat.mul_one])
    have BW : Hid (Below w.heap.size w (w.alloc (.cells #[] 5))) := Lib.hid (by go_grown)
    clear hx hn h0
    go_enter Try.func53, Try.ntmps53
    go_wp2_with (at_builtin; refine wpList_append_own_at _ rfl (.tmp 5) (.tmp 6) _ rfl w.heap.size 5 i0 _ 1 1 Try.underlying31 hi0 hz0 hz1 hz2 rfl (by decide) _ _ _ rfl OWN.out ad n cp (bv xs) rfl HLZ.out HCX.out ?a2 ?a3 ?a4 ?a5 ?_)
    case a2 => exact bv_one xs
    case a3 => unfold maxLen; omega
    case a4 => omega
    case a5 => simp
    intro v8 z8 hown8 hg8 _ hat8
    have R : Hid (OwnB w v8 z8 xs) := Lib.hid ⟨own_cast hown8 (by rw [HN.out]) (by simp [bv]), BW.out.grown hg8 (by simp) fun k hk => by simp [Value.ownBlock] at hk; omega⟩
    clear hown8 hg8 hat8
    go_wp2
    go_ret
    exact ⟨_, rfl, R.out⟩
def bsC (L : List Cl) (id : Int) : List Int := ((gt L id).map fun c => c.bs).getD []
theorem bytes_any {w0 w : World} {A : Ac} {P n : Nat} {L : List Cl} (hl : Lay w0 A w) (h : PS A P L) (ho : OkL n L) (id : Int) :
    Calls Try.prog 19 #[.pointer (some ⟨P, 0, none⟩), .int .i64 id] w fun e w' => ∃ v, e = .returned v ∧ OwnB w v w' (bsC L id) := by
  unfold bsC
  cases hg : gt L id with
  | none =>
    obtain ⟨m, hc, hr⟩ := h.look_none hl hg (zero_ptr w)
    clear hl h hg
    go_enter Try.func19, Try.ntmps19
    go_wp2
    go_ret
    exact ⟨_, rfl, World.ownsRow_nil _ _ _ _, Below.refl _ _⟩
  | some c =>
    obtain ⟨m, q, s, hc, hr, hat⟩ := h.look_some hl hg
    have hle := (gt_ok ho hg).len
    obtain ⟨a, cap, rfl, h1, h2, h3⟩ := hat.row.form2
    have k0 : w.cell? ⟨q, 0, none⟩ = some (.slice a c.bs.length cap) := (hl.bk hat.blk).cell 0
    have HX := Lib.hid ((hat.row.reads (w0 := w0)).rd hl)
    have C := fun w hx => clone_any a c.bs.length cap c.bs rfl h3 (by omega) w hx
    clear hl h hg hat h1 h2 h3 ho
    go_enter Try.func19, Try.ntmps19
    go_wp2_with fail
    with_reducible refine (C _ HX.out).mono ?_
    rintro e w' ⟨v, rfl, q1⟩
    have Q1 := Lib.hid q1
    clear q1
    go_wp2
    go_ret
    exact ⟨_, rfl, Q1.out⟩
theorem live_any {w0 w : World} {A : Ac} {P : Nat} {L : List Cl} {m : Nat} {es : Array MapEntry} {c : Nat} {D : Value} {E : List En} {ds : List Nat} (hl : Lay w0 A w) (h : PSx A P L m es c D E ds) (h1 : E.length ≤ 100000) (h2 : ds.length ≤ 100000) :
    Calls Try.prog 16 #[.pointer (some ⟨P, 0, none⟩)] w fun e w' => e = .returned (.int .i64 ((E.length : Int) - ds.length)) ∧ Below w.heap.size w w' := by
  have k0 := (hl.bk h.head).cell 0
  have k1 := (hl.bk h.head).cell 1
  simp only [List.getElem?_toArray, List.getElem?_cons_zero, List.getElem?_cons_succ] at k0 k1
  obtain ⟨a, cap, rfl, _, _, _⟩ := h.drop.form2
  have k2 := hl.obj h.map_
  have HE := Lib.hid h.ents.size
  have h1' : es.size ≤ 100000 := by rw [HE.out]; exact h1
  rw [← HE.out]
  clear hl h h1
  go_enter Try.func16, Try.ntmps16
  go_wp2_with fail
  refine wp_region_held_drew (S := fun w' => w'.cell? ⟨P, 0, none⟩ = some (.map (some m)) ∧ w'.cell? ⟨P, 1, none⟩ = some (.slice a ds.length cap) ∧ w'.heap[m]? = some (.map es c)) (by kernel_rfl) ⟨k0, k1, k2⟩ (fun g => ?_)
  clear k0 k1 k2
  refine tq 0 ?_ rfl (by kernel_rfl) (fun _ _ _ h => h) (by rfl) g ?_ ?_; rotate_left
  · intro w9 h9; obtain ⟨d0, d1, d2⟩ := h9; go_simp; try with_reducible rfl
  simp only [Act.put, ptA, ptB, ptC]
  refine tq 1 ?_ rfl (by kernel_rfl) (fun _ _ _ h => h) (by rfl) g ?_ ?_; rotate_left
  · intro w9 h9; obtain ⟨d0, d1, d2⟩ := h9; go_simp; try with_reducible rfl
  simp only [Act.put, ptA, ptB, ptC]
  refine tq 2 ?_ rfl (by kernel_rfl) (fun _ _ _ h => h) (by rfl) g ?_ ?_; rotate_left
  · intro w9 h9; obtain ⟨d0, d1, d2⟩ := h9; go_simp; try with_reducible rfl
  simp only [Act.put, ptA, ptB, ptC]
  refine tq 3 ?_ rfl (by kernel_rfl) (fun _ _ _ h => h) (by rfl) g ?_ ?_; rotate_left
  · intro w9 h9; obtain ⟨d0, d1, d2⟩ := h9; go_simp; try with_reducible rfl
  simp only [Act.put, ptA, ptB, ptC]
  refine tq 4 ?_ rfl (by kernel_rfl) (fun _ _ _ h => h) (by rfl) g ?_ ?_; rotate_left
  · intro w9 h9; obtain ⟨d0, d1, d2⟩ := h9; have d3 := fun ty => run_lenm (P := Try.prog) und_map d2 ty; go_simp; try with_reducible rfl
  simp only [Act.put, ptA, ptB, ptC]
  refine tq 5 ?_ rfl (by kernel_rfl) (fun _ _ _ h => h) (by rfl) g ?_ ?_; rotate_left
  · intro w9 h9; obtain ⟨d0, d1, d2⟩ := h9; go_simp; try with_reducible rfl
  simp only [Act.put, ptA, ptB, ptC]
  refine tq 6 ?_ rfl (by kernel_rfl) (fun _ _ _ h => h) (by rfl) g ?_ ?_; rotate_left
  · intro w9 h9; obtain ⟨d0, d1, d2⟩ := h9; go_simp; try with_reducible rfl
  simp only [Act.put, ptA, ptB, ptC]
  refine tq 7 ?_ rfl (by kernel_rfl) (fun _ _ _ h => h) (by rfl) g ?_ ?_; rotate_left
  · intro w9 h9; obtain ⟨d0, d1, d2⟩ := h9; go_simp; try with_reducible rfl
  simp only [Act.put, ptA, ptB, ptC]
  refine tq 8 ?_ rfl (by kernel_rfl) (fun _ _ _ h => h) (by rfl) g ?_ ?_; rotate_left
  · intro w9 h9; obtain ⟨d0, d1, d2⟩ := h9; go_simp; try with_reducible rfl
  simp only [Act.put, ptA, ptB, ptC]
  refine tq 9 ?_ rfl (by kernel_rfl) (fun _ _ _ h => h) (by rfl) g ?_ ?_; rotate_left
  · intro w9 h9; obtain ⟨d0, d1, d2⟩ := h9; go_simp; try with_reducible rfl
  simp only [Act.put, ptA, ptB, ptC]
  refine tq 10 ?_ rfl (by kernel_rfl) (fun _ _ _ h => h) (by rfl) g ?_ ?_; rotate_left
  · intro w9 h9; obtain ⟨d0, d1, d2⟩ := h9; go_simp; try with_reducible rfl
  simp only [Act.put, ptA, ptB, ptC]
  refine tq 11 ?_ rfl (by kernel_rfl) (fun _ _ _ h => h) (by rfl) g ?_ ?_; rotate_left
  · intro w9 h9; obtain ⟨d0, d1, d2⟩ := h9; go_simp; try with_reducible rfl
  simp only [Act.put, ptA, ptB, ptC]
  clear g
  refine wpAnyH_done (by kernel_rfl) ?_ _
  go_wp2
  go_ret
  exact ⟨rt_i (by rw [IntKind.wrap_i64]; omega), (Below.refl _ _).drew⟩
/-- Whether a number is inside. -/
def insB (n : Nat) (off size : Int) : Bool := decide ((size = 1 ∨ size = 2 ∨ size = 4 ∨ size = 8) ∧ 0 ≤ off ∧ off ≤ n - size)
theorem insB_true {n : Nat} {off size : Int} (h : insB n off size = true) : (size = 1 ∨ size = 2 ∨ size = 4 ∨ size = 8) ∧ 0 ≤ off ∧ off ≤ n - size := by simpa [insB] using h
theorem inside_any {w : World} (q n cap : Nat) (a : Option Addr) (off size : Int) (hn : n ≤ 64) (k0 : w.cell? ⟨q, 0, none⟩ = some (.slice a n cap)) :
    Calls Try.prog 56 #[.pointer (some ⟨q, 0, none⟩), .int .i64 off, .int .i64 size] w fun e w' => e = .returned (.bool (insB n off size)) ∧ w = w' := by
  by_cases hs : size = 1 ∨ size = 2 ∨ size = 4 ∨ size = 8
  · by_cases h0 : 0 ≤ off
    · have e : insB n off size = decide (off ≤ n - size) := by unfold insB; simp [hs, h0]
      rw [e]
      clear e
      rcases hs with rfl | rfl | rfl | rfl
      all_goals
        go_enter Try.func56, Try.ntmps56
        go_wp2
        go_ret
        exact ⟨rfl, rfl⟩
    · have e : insB n off size = false := by unfold insB; simp [h0]
      rw [e]
      clear e
      rcases hs with rfl | rfl | rfl | rfl
      all_goals
        go_enter Try.func56, Try.ntmps56
        go_wp2
        go_ret
        exact ⟨rfl, rfl⟩
  · have e : insB n off size = false := by unfold insB; simp [hs]
    rw [e]
    have e1 : (size == 1) = false := by rw [beq_eq_false_iff_ne]; omega
    have e2 : (size == 2) = false := by rw [beq_eq_false_iff_ne]; omega
    have e3 : (size == 4) = false := by rw [beq_eq_false_iff_ne]; omega
    have e4 : (size == 8) = false := by rw [beq_eq_false_iff_ne]; omega
    clear e hs
    go_enter Try.func56, Try.ntmps56
    go_wp2
    go_ret
    exact ⟨rfl, rfl⟩
end Go.Proofs.Ythdgdkjaeebbcaa
