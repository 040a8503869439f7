/-
  Layer 9's program without parts, and the statements' known: contracts. Conditions: 800 cells at most.
-/
import Derived.Test.YthdgdkjaeebbcaaArrayNew
import Derived.WalkMore
import Derived.IntWalk
namespace Go.Proofs.Ythdgdkjaeebbcaa
set_option maxRecDepth 100000
open Go.RowKit Ow Ph Ro K2
set_option linter.unusedVariables false
set_option linter.unusedSimpArgs false
def HasA (w0 : World) (P : Nat) (L : List Cl) (G : Nat) (xs : List Nat) (w : World) : Prop := ∃ A, Lay w0 A w ∧ PS A P L ∧ ArrAt 86 20 A 0 G xs
section
variable {w0 w w' : World} {P G : Nat} {L : List Cl} {xs : List Nat}
theorem HasA.has (h : HasA w0 P L G xs w) : Has w0 P L w := by obtain ⟨A, h1, h2, _⟩ := h; exact ⟨A, h1, h2⟩
theorem HasA.grow (h : HasA w0 P L G xs w) (hb : Below w.heap.size w w') : HasA w0 P L G xs w' := by obtain ⟨A, h1, h2⟩ := h; exact ⟨A, h1.grow hb, h2⟩
theorem HasA.below (h : HasA w0 P L G xs w) : Below w0.heap.size w0 w := h.has.below
def NewAH (w0 : World) (P : Nat) (L : List Cl) (n sz : Nat) (e : Ending) (w' : World) : Prop := ∃ G, e = .returned (.pointer (some ⟨G, 0, none⟩)) ∧ HasA w0 P (L ++ List.replicate n (zc sz)) G (List.range' (L.length + 1) n) w'
theorem arrnew_h (h : Has w0 P L w) (hn : L.length ≤ 800) (m s : Int) (hm : i64 m) (hs : i64 s) (n sz : Nat) (e1 : cl64 m = n) (e2 : cl64 s = sz) :
    Calls Try.prog 31 #[.pointer (some ⟨P, 0, none⟩), .int .i64 m, .int .i64 s] w (NewAH w0 P L n sz) := by
  subst e1 e2
  obtain ⟨A, h1, h2⟩ := h
  refine (arrnew_c h1 h2 0 hn m s hm.1 hm.2 hs.1 hs.2).mono fun e w' h => ?_
  obtain ⟨G, A', h3, h4, h5, h6, _⟩ := h
  exact ⟨G, h3, A', h4, h5, h6⟩
theorem arrlen_h (h : HasA w0 P L G xs w) (n : Nat) (hn : xs.length = n) : Calls Try.prog 33 #[.pointer (some ⟨G, 0, none⟩)] w fun e w' => e = .returned (.int .i64 (n : Nat)) ∧ w = w' := by
  subst hn; obtain ⟨A, h1, h2, h3⟩ := h; exact arrlen_c h1 h3
theorem arrcell_h (h : HasA w0 P L G xs w) (i : Int) (hi : i64 i) (r : Int × Bool) (hr : cellA xs i = r) : Calls Try.prog 35 #[.pointer (some ⟨G, 0, none⟩), .int .i64 i] w fun e w' => e = .returned (atV r) ∧ w = w' := by
  subst hr; obtain ⟨A, h1, h2, h3⟩ := h; exact arrcell_c h1 h3 i hi.1 hi.2
end
theorem i64_s (n : Int) (h1 : -9223372036854775808 ≤ n) (h2 : n ≤ 9223372036854775807) : i64 n := ⟨h1, h2⟩
set_option maxRecDepth 100000 in
set_option maxHeartbeats 2000000 in
theorem known_c (w : World) :
    Calls Try.prog 39 #[] w fun e w' => e = .returned (.bool true) ∧ Below w.heap.size w w' := by
  have HB0 := Lib.hid (Below.refl w.heap.size w)
  go_enter Try.func39, Try.ntmps39
  go_wp2_with fail
  with_reducible refine (new_h HB0.out).mono ?_
  rintro e w1 ⟨P, rfl, h1⟩
  have H1 := Lib.hid h1
  clear h1
  go_wp2_with fail
  with_reducible refine (arrnew_h H1.out (by simp) 3 4 (i64_s _ (by decide) (by decide)) (i64_s _ (by decide) (by decide)) 3 4 (by decide) (by decide)).mono ?_
  rintro e w2 ⟨G, rfl, h2⟩
  have H2 := Lib.hid h2
  clear h2 H1
  go_wp2_with fail
  with_reducible refine (arrcell_h H2.out 0 (i64_s _ (by decide) (by decide)) (1, true) (by decide)).mono ?_
  rintro e w' ⟨rfl, rfl⟩
  unfold atV
  go_wp2_with fail
  with_reducible refine (arrcell_h H2.out 2 (i64_s _ (by decide) (by decide)) (3, true) (by decide)).mono ?_
  rintro e w' ⟨rfl, rfl⟩
  unfold atV
  go_wp2_with fail
  with_reducible refine (arrcell_h H2.out 3 (i64_s _ (by decide) (by decide)) (0, false) (by decide)).mono ?_
  rintro e w' ⟨rfl, rfl⟩
  unfold atV
  go_wp2_with fail
  with_reducible refine (arrlen_h H2.out 3 (by decide)).mono ?_
  rintro e w' ⟨rfl, rfl⟩
  go_wp2_with fail
  have e4 : szC ([] ++ List.replicate 3 (zc 4)) 3 = 4 := by decide
  with_reducible refine (size_h H2.out.has 3).mono ?_
  rintro e w' ⟨rfl, rfl⟩
  rw [e4]
  clear e4
  go_wp2_with fail
  with_reducible refine (live_h H2.out.has (by decide) 3 (by decide)).mono ?_
  rintro e w3 ⟨rfl, q⟩
  have B3 := Lib.hid (H2.out.grow q).below
  clear q H2
  go_wp2
  go_ret
  exact ⟨rfl, B3.out⟩
end Go.Proofs.Ythdgdkjaeebbcaa
