/-
  The statements' does of layer 8 (a call of the program's cells): contract. Conditions: cells of 64 bytes at most, written 300 times at most.
-/
import Derived.Test.YthdgdkjaeebbcaaCellsOps
import Derived.Test.YthdgdkjaeebbcaaCellsCount
namespace Go.Proofs.Ythdgdkjaeebbcaa
set_option maxRecDepth 100000
open Go.RowKit Ow Ph Ro K2
set_option linter.unusedVariables false
set_option linter.unusedSimpArgs false
attribute [local go_sem] run_store_complex
/-- What a call does. -/
def stepL (L : List Cl) (x : Opn) : Bool × List Cl :=
  if x.kind = 0 then (true, mkL L x.bs)
  else if x.kind = 1 then ((ldC L x.id x.off x.size).isSome, L)
  else if x.kind = 2 then stC L x.id x.off x.size x.v x.now
  else if x.kind = 3 then wrC L x.id x.bs x.now
  else if x.kind = 4 then drC L x.id
  else if x.kind = 5 then (true, swL L)
  else (true, L)
theorem bk7 {w : World} {g : Nat} {t : TypeId} {v0 v1 v2 v3 v4 v5 v6 : Value} (h : Bk w g t #[v0, v1, v2, v3, v4, v5, v6]) :
    w.cell? ⟨g, 0, none⟩ = some v0 ∧ w.cell? ⟨g, 1, none⟩ = some v1 ∧ w.cell? ⟨g, 2, none⟩ = some v2 ∧ w.cell? ⟨g, 3, none⟩ = some v3 ∧ w.cell? ⟨g, 4, none⟩ = some v4 ∧ w.cell? ⟨g, 5, none⟩ = some v5 ∧ w.cell? ⟨g, 6, none⟩ = some v6 :=
  ⟨h.cell 0, h.cell 1, h.cell 2, h.cell 3, h.cell 4, h.cell 5, h.cell 6⟩
set_option maxRecDepth 100000 in
set_option maxHeartbeats 4000000 in
theorem does_c {w0 w : World} {A : Ac} {P n : Nat} {L : List Cl} (hl : Lay w0 A w) (h : PS A P L) (ho : OkL n L) (hn : n ≤ 300) (x : Opn) (hx : x.fits) (hr : Rd w0 w0.heap.size x.a (bv x.bs)) :
    Calls Try.prog 21 #[.pointer (some ⟨P, 0, none⟩), .agg #[.int .i64 x.kind, .int .i64 x.id, .int .i64 x.off, .int .i64 x.size, .int .i64 x.now, .int .u64 x.v, .slice x.a x.n x.c]] w (BoolP w0 A P (stepL L x)) := by
  obtain ⟨kd, id, off, sz, now, v, a, m, c, bs⟩ := x
  obtain ⟨f1, f2, f3, f4, f5, f6, f7, f8, f9, f10, f11, f12⟩ := hx
  unfold stepL
  dsimp only at *
  have hnow := f5
  obtain ⟨s1, s2⟩ := f1
  have hlen := ho.len
  have hl1 := Lib.hid (hl.alloc_ (.cells #[.int .i64 kd, .int .i64 id, .int .i64 off, .int .i64 sz, .int .i64 now, .int .u64 v, .slice a m c] 33))
  obtain ⟨c0, c1, c2, c3, c4, c5, c6⟩ := bk7 (Bk.new w 33 #[.int .i64 kd, .int .i64 id, .int .i64 off, .int .i64 sz, .int .i64 now, .int .u64 v, .slice a m c])
  have HS := Lib.hid h
  have HO := Lib.hid ho
  have HN := Lib.hid hnow
  have HR := Lib.hid (Reads.old hr A (90, 0))
  have HB := Lib.hid f8
  have HZ := Lib.hid f12
  clear hl h ho f2 f3 f4 f5 f8 f9 f12 hr hnow
  by_cases h0 : kd = 0
  · subst h0
    simp only [if_true]
    go_enter Try.func21, Try.ntmps21
    go_wp2_with fail
    with_reducible refine (make_c hl1.out HS.out HO.out (by omega) a m c bs HB.out f10 f11 HZ.out (r := (90, 0)) (by simp) HR.out).mono ?_
    rintro e w' ⟨rfl, q⟩
    have Q := Lib.hid q
    clear q
    go_wp2
    go_ret
    exact ⟨rfl, Q.out⟩
  by_cases h1 : kd = 1
  · subst h1
    simp only [Int.reduceEq, if_false, if_true]
    have HD := Lib.hid (Did.same hl1.out HS.out)
    cases hld : ldC L id off sz with
    | none =>
      have LD := Lib.hid hld
      clear hld
      go_enter Try.func21, Try.ntmps21
      go_wp2_with fail
      with_reducible refine (load_any hl1.out HS.out HO.out id off sz).mono ?_
      rintro e w' ⟨rfl, rfl⟩
      rw [LD.out]
      unfold ldV
      go_wp2
      go_ret
      exact ⟨rfl, HD.out⟩
    | some y =>
      have LD := Lib.hid hld
      clear hld
      go_enter Try.func21, Try.ntmps21
      go_wp2_with fail
      with_reducible refine (load_any hl1.out HS.out HO.out id off sz).mono ?_
      rintro e w' ⟨rfl, rfl⟩
      rw [LD.out]
      unfold ldV
      go_wp2
      go_ret
      exact ⟨rfl, HD.out⟩
  by_cases h2 : kd = 2
  · subst h2
    simp only [Int.reduceEq, if_false, if_true]
    go_enter Try.func21, Try.ntmps21
    go_wp2_with fail
    with_reducible refine (store_c hl1.out HS.out HO.out hn id off sz v now ⟨f6, by omega⟩ HN.out).mono ?_
    rintro e w' ⟨rfl, q⟩
    have Q := Lib.hid q
    clear q
    go_wp2
    go_ret
    exact ⟨rfl, Q.out⟩
  by_cases h3 : kd = 3
  · subst h3
    simp only [Int.reduceEq, if_false, if_true]
    go_enter Try.func21, Try.ntmps21
    go_wp2_with fail
    with_reducible refine (write_c hl1.out HS.out HO.out hn id now HN.out a m c bs HB.out (by omega) (r := (90, 0)) (by simp) HR.out).mono ?_
    rintro e w' ⟨rfl, q⟩
    have Q := Lib.hid q
    clear q
    go_wp2
    go_ret
    exact ⟨rfl, Q.out⟩
  by_cases h4 : kd = 4
  · subst h4
    simp only [Int.reduceEq, if_false, if_true]
    go_enter Try.func21, Try.ntmps21
    go_wp2_with fail
    with_reducible refine (drop_c hl1.out HS.out (n := 0) (fun m es c D E ds hx => by have := hx.dlen; omega) id).mono ?_
    rintro e w' ⟨rfl, q⟩
    have Q := Lib.hid q
    clear q
    go_wp2
    go_ret
    exact ⟨rfl, Q.out⟩
  by_cases h5 : kd = 5
  · subst h5
    simp only [Int.reduceEq, if_false, if_true]
    obtain ⟨mm, es, cc0, D, E, ds, hx⟩ := HS.out
    have HX := Lib.hid hx
    clear hx
    go_enter Try.func21, Try.ntmps21
    go_wp2_with fail
    with_reducible refine (sweep_c hl1.out HX.out (by omega)).mono ?_
    rintro e w' ⟨rfl, q⟩
    have Q := Lib.hid q
    clear q
    go_wp2
    go_ret
    exact ⟨rfl, Q.out⟩
  have HD := Lib.hid (Did.same hl1.out HS.out)
  rw [if_neg h0, if_neg h1, if_neg h2, if_neg h3, if_neg h4, if_neg h5]
  have e0 : (kd == 0) = false := by rw [beq_eq_false_iff_ne]; omega
  have e1 : (kd == 1) = false := by rw [beq_eq_false_iff_ne]; omega
  have e2 : (kd == 2) = false := by rw [beq_eq_false_iff_ne]; omega
  have e3 : (kd == 3) = false := by rw [beq_eq_false_iff_ne]; omega
  have e4 : (kd == 4) = false := by rw [beq_eq_false_iff_ne]; omega
  have e5 : (kd == 5) = false := by rw [beq_eq_false_iff_ne]; omega
  clear h0 h1 h2 h3 h4 h5
  go_enter Try.func21, Try.ntmps21
  go_wp2
  go_ret
  exact ⟨rfl, HD.out⟩
end Go.Proofs.Ythdgdkjaeebbcaa
