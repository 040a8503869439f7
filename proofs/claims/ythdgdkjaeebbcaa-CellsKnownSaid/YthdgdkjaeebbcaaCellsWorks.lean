/-
  The statements' works of layer 8: contract. No conditions.
-/
import Derived.Test.YthdgdkjaeebbcaaCellsHas
namespace Go.Proofs.Ythdgdkjaeebbcaa
set_option maxRecDepth 100000
open Go.RowKit Ow Ph Ro K2
set_option linter.unusedVariables false
set_option linter.unusedSimpArgs false
attribute [local go_sem] run_store_complex
def w1L : List Cl := [⟨[1, 2, 3], [], false, false⟩]
def w2L : List Cl := [⟨[205, 171, 3], [5], false, false⟩]
def w3L : List Cl := [⟨[205, 171, 3], [5], true, false⟩]
def w4L : List Cl := [⟨[205, 171, 3], [5], true, true⟩]
theorem okl_one (n : Nat) (hn : 1 ≤ n) (c : Cl) (hc : OkC n c) : OkL n [c] := ⟨by simpa using hn, fun d hd => by simp only [List.mem_singleton] at hd; subst hd; exact hc⟩
theorem ok0 : OkL 1 ([] : List Cl) := ⟨by simp, fun c h => by simp at h⟩
theorem ok1 : OkL 1 w1L := okl_one 1 (by omega) _ ⟨by decide, by decide, by decide, by simp, by decide⟩
theorem ok2 : OkL 1 w2L := okl_one 1 (by omega) _ ⟨by decide, by decide, by decide, by simp [i64], by decide⟩
theorem ok3 : OkL 1 w3L := okl_one 1 (by omega) _ ⟨by decide, by decide, by decide, by simp [i64], by decide⟩
theorem ok4 : OkL 1 w4L := okl_one 1 (by omega) _ ⟨by decide, by decide, by decide, by simp [i64], by decide⟩
theorem i5 : i64 5 := ⟨by decide, by decide⟩
theorem e_mk : mkL [] [1, 2, 3] = w1L := by rfl
theorem e_l1 : ldC w1L 1 1 2 = some 770 := by rfl
theorem e_l2 : ldC w1L 1 2 2 = none := by rfl
theorem e_st : stC w1L 1 0 2 43981 5 = (true, w2L) := by rfl
theorem e_dr : drC w2L 1 = (true, w3L) := by rfl
theorem e_l3 : ldC w3L 1 0 1 = some 205 := by rfl
theorem e_ng : ((nG w3L : Nat) : Int) = 1 := by decide
theorem e_sw : swL w3L = w4L := by rfl
theorem e_l4 : ldC w4L 1 0 1 = none := by rfl
set_option maxRecDepth 100000 in
set_option maxHeartbeats 2000000 in
theorem works_c (w : World) :
    Calls Try.prog 12 #[] w fun e w' => e = .returned (.bool true) ∧ Below w.heap.size w w' := by
  have HB0 := Lib.hid (Below.refl w.heap.size w)
  go_enter Try.func12, Try.ntmps12
  go_wp2_with fail
  with_reducible refine (new_h HB0.out).mono ?_
  rintro e w1 ⟨P, rfl, h1⟩
  have H1 := Lib.hid h1
  clear h1
  go_wp2_with fail
  with_reducible refine (make_lit H1.out ok0 (by decide) #[.int .u8 1, .int .u8 2, .int .u8 3] 3 [1, 2, 3] rfl rfl (by decide)).mono ?_
  rintro e w2 ⟨rfl, h2⟩
  rw [e_mk] at h2
  have H2 := Lib.hid h2
  clear h2 H1
  have e0 : ((([] : List Cl).length : Nat) : Int) + 1 = 1 := rfl
  rw [e0]
  clear e0
  go_wp2_with fail
  with_reducible refine (load_h H2.out ok1 1 1 2 _ e_l1).mono ?_
  rintro e w' ⟨rfl, rfl⟩
  unfold ldV
  go_wp2_with fail
  with_reducible refine (load_h H2.out ok1 1 2 2 _ e_l2).mono ?_
  rintro e w' ⟨rfl, rfl⟩
  unfold ldV
  go_wp2_with fail
  with_reducible refine (store_h H2.out ok1 (by decide) 1 0 2 43981 5 (by decide) i5 _ e_st).mono ?_
  rintro e w3 ⟨rfl, h3⟩
  dsimp only at h3 ⊢
  have H3 := Lib.hid h3
  clear h3 H2
  go_wp2_with fail
  with_reducible refine (drop_h H3.out (by decide) 1 _ e_dr).mono ?_
  rintro e w4 ⟨rfl, h4⟩
  dsimp only at h4 ⊢
  have H4 := Lib.hid h4
  clear h4 H3
  go_wp2_with fail
  with_reducible refine (load_h H4.out ok3 1 0 1 _ e_l3).mono ?_
  rintro e w' ⟨rfl, rfl⟩
  unfold ldV
  go_wp2_with fail
  with_reducible refine (sweep_h H4.out (by decide) 1 e_ng _ e_sw).mono ?_
  rintro e w5 ⟨rfl, h5⟩
  have H5 := Lib.hid h5
  clear h5 H4
  go_wp2_with fail
  with_reducible refine (load_h H5.out ok4 1 0 1 _ e_l4).mono ?_
  rintro e w' ⟨rfl, rfl⟩
  unfold ldV
  go_wp2_with fail
  with_reducible refine (make_h H5.out ok4 (by decide) none 0 0 [] rfl (by decide) (by decide) (fun _ => ⟨rfl, rfl⟩) Rd.nil).mono ?_
  rintro e w6 ⟨rfl, h6⟩
  have e2 : ((w4L.length : Nat) : Int) + 1 = 2 := rfl
  rw [e2]
  clear e2
  have H6 := Lib.hid h6.below
  clear h6 H5
  go_wp2
  go_ret
  exact ⟨rfl, H6.out⟩
end Go.Proofs.Ythdgdkjaeebbcaa
