/-
  What the statements' kit does with lists of instructions (written over, looked at again): contracts.
-/
import Derived.Test.YtlimhdnpdhjdaaaKitInsns
namespace Go.Proofs.Ytlimhdnpdhjdaaa
open Go.RowKit Wi Ow
set_option linter.unusedVariables false
set_option linter.unusedSimpArgs false

/-- Five cells of a row that is our own are written. -/
theorem own_five {w : World} {base g n cap : Nat} {zs : List Value} (k : Nat) (u0 u1 u2 u3 u4 : Value) (h : w.ownsRow base 23 5 (.slice (some ⟨g, 0, none⟩) n cap) n zs) :
    (∃ ys, (((((w.setCell ⟨g, k, none⟩ u0).setCell ⟨g, k + 1, none⟩ u1).setCell ⟨g, k + 2, none⟩ u2).setCell ⟨g, k + 3, none⟩ u3).setCell ⟨g, k + 4, none⟩ u4).ownsRow base 23 5 (.slice (some ⟨g, 0, none⟩) n cap) n ys) ∧
      w.grownBy (((((w.setCell ⟨g, k, none⟩ u0).setCell ⟨g, k + 1, none⟩ u1).setCell ⟨g, k + 2, none⟩ u2).setCell ⟨g, k + 3, none⟩ u3).setCell ⟨g, k + 4, none⟩ u4) (some g) := by
  have h1 := h.stored k u0
  have h2 := h1.1.stored (k + 1) u1
  have h3 := h2.1.stored (k + 2) u2
  have h4 := h3.1.stored (k + 3) u3
  have h5 := h4.1.stored (k + 4) u4
  exact ⟨⟨_, h5.1⟩, grown_trans (grown_trans (grown_trans (grown_trans h1.2 h2.2) h3.2) h4.2) h5.2⟩
set_option maxHeartbeats 1000000 in
theorem spoili_any (base : Nat) (v : Value) (n : Nat) (zs : List Value) (h1 : n ≤ 90000) (w : World) (hown : w.ownsRow base 23 5 v n zs) :
    Calls Try.prog 28 #[v] w fun e w' => e = .returned (.tuple #[]) ∧ w.grownBy w' v.ownBlock := by
  obtain ⟨A, cap, rfl, hcap, hmax, hA⟩ := own_form hown
  have HO := Lib.hid hown
  have HA := Lib.hid hA
  clear hown hA
  go_enter Try.func28, Try.ntmps28
  go_wp2
  go_loopw [2] (fun i wr => ∃ k : Nat, k ≤ n ∧ i = .int .i64 k ∧ Hid (∃ zs, wr.ownsRow base 23 5 (.slice A n cap) n zs) ∧ Hid (w.grownBy wr (Value.slice A n cap).ownBlock)) (fun i _ => n - (intOf i).toNat)
  case atStart => exact ⟨0, Nat.zero_le _, rfl, Lib.hid ⟨zs, HO.out⟩, Lib.hid (World.grownBy.refl _ _)⟩
  case round =>
    obtain ⟨k, hk, rfl, hO, hG⟩ := hrel
    by_cases hlt : k < n
    · obtain ⟨g, rfl, _, _⟩ := HA.out (by omega)
      obtain ⟨ys, hys⟩ := hO.out
      have hg0 := (hys.lt g rfl).2
      go_wp2_with fail
      refine (marki_any (k + 7) (by omega) _).mono ?_
      rintro e w1 ⟨rfl, q1⟩
      have hys1 := own_below hys q1
      have HG1 := Lib.hid (grown_trans hG.out (grown_below q1 _))
      have hyl : ys.length = n * 5 := hys.1
      have hat : ∀ j, j < n * 5 → ∃ y, w1.cell? ⟨g, j, none⟩ = some y := fun j hj => ⟨ys[j]'(by omega), by rw [hys1.cellAt j hj]; exact List.getElem?_eq_getElem (by omega)⟩
      obtain ⟨y0, c0⟩ := hat (k * 5) (by omega)
      obtain ⟨y1, c1⟩ := hat (k * 5 + 1) (by omega)
      obtain ⟨y2, c2⟩ := hat (k * 5 + 2) (by omega)
      obtain ⟨y3, c3⟩ := hat (k * 5 + 3) (by omega)
      obtain ⟨y4, c4⟩ := hat (k * 5 + 4) (by omega)
      have f0 := hys1.frozenAt (k * 5)
      have f1 := hys1.frozenAt (k * 5 + 1)
      have f2 := hys1.frozenAt (k * 5 + 2)
      have f3 := hys1.frozenAt (k * 5 + 3)
      have f4 := hys1.frozenAt (k * 5 + 4)
      have HY := Lib.hid hys1
      clear hat hys hys1 hyl hO hG q1
      go_wp2
      go_roundw
      case rel => exact ⟨k + 1, by omega, by go_num, Lib.hid (own_five (k * 5) _ _ _ _ _ HY.out).1, Lib.hid (grown_trans HG1.out (own_five (k * 5) _ _ _ _ _ HY.out).2)⟩
      case measure => simp [intOf]; omega
    · have hG2 := hG
      clear hG hO
      go_wp2
      go_end0
      exact ⟨rfl, hG2.out⟩
theorem mkI_at (xs : List In) (k : Nat) (hk : k < 5) : ∃ h : xs.length + k < (xs ++ mkI 5).length, (xs ++ mkI 5)[xs.length + k]'h = ⟨250 + (k : Int), 0, 0, 0, 77 * (k : Int)⟩ := by
  have h : xs.length + k < (xs ++ mkI 5).length := by rw [List.length_append, mkI_len]; omega
  refine ⟨h, ?_⟩
  rw [List.getElem_append_right (by omega)]
  simp [mkI]
set_option maxRecDepth 100000 in
set_option maxHeartbeats 2000000 in
theorem kepti_any (A B : Option Addr) (n m c d : Nat) (xs : List In) (hn : m = n + 5) (hl : xs.length = n) (h1 : n ≤ 900000) (hmc : m ≤ c) (w : World) (hx : Rd w w.heap.size A (iv (xs ++ mkI 5))) (hy : Rd w w.heap.size B (iv xs)) :
    Calls Try.prog 23 #[.slice A m c, .slice B n d] w fun e w' => e = .returned (.bool true) ∧ Below w.heap.size w w' := by
  subst hn
  have HL := Lib.hid hl
  have HX := Lib.hid hx
  have HY := Lib.hid hy
  have HT : Hid (Rd w w.heap.size A (iv xs)) := Lib.hid (by
    have h := hx.take (5 * n)
    have e : (iv (xs ++ mkI 5)).take (5 * n) = iv xs := by rw [iv_app, ← hl, ← iv_len, List.take_left]
    rw [e] at h
    exact h)
  clear hl hx hy
  have C := sameinsns_any A B n n c d xs xs HL.out HL.out (by omega) (by omega) w HT.out HY.out
  rw [decide_eq_true rfl] at C
  have CC := Lib.hid C
  clear C
  go_enter Try.func23, Try.ntmps23
  go_wp2_with fail
  refine CC.out.mono ?_
  rintro e w1 ⟨rfl, q1⟩
  have B1 := Lib.hid q1
  clear q1 CC
  go_wp2
  go_loopw [5] (fun i wr => ∃ k : Nat, k ≤ 5 ∧ i = .int .i64 k ∧ Hid (Below w.heap.size w wr)) (fun i _ => 5 - (intOf i).toNat)
  case atStart => exact ⟨0, Nat.zero_le _, rfl, B1⟩
  case round =>
    clear B1
    obtain ⟨k, hk, rfl, hb⟩ := hrel
    by_cases hlt : k < 5
    · obtain ⟨ad, rfl, hab, hc⟩ := (HX.out.below hb.out) (by rw [iv_len, List.length_append, mkI_len]; omega)
      obtain ⟨hlt2, hel⟩ := mkI_at xs k hlt
      have hcc := ins_cells hc hlt2
      rw [hel, HL.out] at hcc
      obtain ⟨x0, x1, x2, x3, x4⟩ := hcc
      simp only at x0 x1 x2 x3 x4
      have hbk : (ad.add ((n + k) * 5)).block < wr.heap.size := by rw [add_block]; have := hb.out.size; omega
      clear hc hlt2 hel
      have i1 : (0 : Int) ≤ (n : Int) + (k : Int) := by omega
      have i2 : (n : Int) + (k : Int) < (n : Int) + 5 := by omega
      have i3 : ((n : Int) + (k : Int)).toNat = n + k := by omega
      have i4 : IntKind.i64.wrap ((n : Int) + (k : Int)) = (n : Int) + (k : Int) := IntWalk.i64_in _ (by omega)
      have q1 := ins_same ⟨250 + (k : Int), 0, 0, 0, 77 * (k : Int)⟩ ⟨250 + (k : Int), 0, 0, 0, 77 * (k : Int)⟩ rfl
      have q2 := ins_guard (.agg #[.int .i64 (250 + (k : Int)), .int .i64 0, .int .i64 0, .int .i64 0, .int .i64 (77 * (k : Int))]) (.agg #[.int .i64 (250 + (k : Int)), .int .i64 0, .int .i64 0, .int .i64 0, .int .i64 (77 * (k : Int))]) ⟨_, rfl⟩ ⟨_, rfl⟩
      simp only at q1
      have hbb := hb.out
      go_wp2_with fail
      go_region_held3 (fun w' => w'.cell? (ad.add ((n + k) * 5)) = some (.int .i64 (250 + (k : Int))) ∧ w'.cell? ⟨(ad.add ((n + k) * 5)).block, (ad.add ((n + k) * 5)).off + 1, none⟩ = some (.int .i64 0) ∧ w'.cell? ⟨(ad.add ((n + k) * 5)).block, (ad.add ((n + k) * 5)).off + 2, none⟩ = some (.int .i64 0) ∧ w'.cell? ⟨(ad.add ((n + k) * 5)).block, (ad.add ((n + k) * 5)).off + 3, none⟩ = some (.int .i64 0) ∧ w'.cell? ⟨(ad.add ((n + k) * 5)).block, (ad.add ((n + k) * 5)).off + 4, none⟩ = some (.int .i64 (77 * (k : Int))))
        (first | exact ⟨x0, x1, x2, x3, x4⟩ | exact ⟨(qb.cell hbk).trans x0, (qb.cell (p := ⟨_, _, none⟩) hbk).trans x1, (qb.cell (p := ⟨_, _, none⟩) hbk).trans x2, (qb.cell (p := ⟨_, _, none⟩) hbk).trans x3, (qb.cell (p := ⟨_, _, none⟩) hbk).trans x4⟩)
        (first | (go_at_call 39; refine (marki_any k (by omega) _).mono ?_; rintro e w2 ⟨rfl, qb⟩))
      have R : Hid (Below w.heap.size w w2) := Lib.hid ((hbb.drew).trans (qb.mono hbb.size))
      clear qb i3 i4
      go_wp2
      go_roundw
      case rel => exact ⟨k + 1, by omega, by go_num, R⟩
      case measure => simp [intOf]; omega
    · have hb2 := hb
      clear hb
      go_wp2
      go_ret
      exact ⟨rfl, hb2.out⟩
end Go.Proofs.Ytlimhdnpdhjdaaa
