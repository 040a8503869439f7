/-
  The statements' Long of layer 10: contract. No conditions.
-/
import Derived.Test.YtkaapphlnolelaaHashTwo
import Derived.IntWalk
namespace Go.Proofs.Ytkaapphlnolelaa
set_option maxRecDepth 100000
open Go.RowKit Ow Ro K2 Hm
set_option linter.unusedVariables false
set_option linter.unusedSimpArgs false
def LongP (w : World) (L : List Opn) (e : Ending) (w' : World) : Prop := ∃ b, e = .returned (.bool b) ∧ (b = false → L.length ≤ 400 ∧ ∀ x ∈ L, x.n ≤ 100) ∧ w = w'
theorem ops_cell {w : World} {a : Option Addr} {B : Nat} {L : List Opn} (h : Rd w B a (opv L)) (k r : Nat) (hk : k < L.length) (hr : r < 3) : ∃ ad, a = some ad ∧ ad.block < B ∧ w.cell? (ad.add (3 * k + r)) = L[k].cells[r]? := by
  obtain ⟨ad, e, hb, hc⟩ := h (by rw [opv_len]; omega)
  refine ⟨ad, e, hb, ?_⟩
  have hl : L[k].cells.length = 3 := rfl
  have h1 : L[k].cells[r]? = some (L[k].cells[r]'(by rw [hl]; exact hr)) := List.getElem?_eq_getElem _
  rw [h1]
  exact hc _ _ (by rw [opv_get L k r hk hr, h1])
set_option maxHeartbeats 1000000 in
theorem long_c (a : Option Addr) (len c : Nat) (L : List Opn) (hl : L.length = len) (hm : len ≤ 9223372036854775807) (hx : ∀ x ∈ L, x.fits) (w : World) (hr : Rd w w.heap.size a (opv L)) :
    Calls Try.prog 13 #[.slice a len c] w (LongP w L) := by
  have HL := Lib.hid hl
  have HR := Lib.hid hr
  have HX := Lib.hid hx
  clear hl hr hx
  by_cases h200 : len ≤ 400
  · have i2 : (len : Int) ≤ 400 := by omega
    go_enter Try.func13, Try.ntmps13
    go_wp2_with fail
    go_loop [3] (fun i => ∃ k : Nat, k ≤ len ∧ i = .int .i64 k ∧ Hid (∀ j (h : j < L.length), j < k → L[j].n ≤ 100)) (fun i => len - (intOf i).toNat)
    case atStart => exact ⟨0, Nat.zero_le _, rfl, Lib.hid (fun j _ h => absurd h (by omega))⟩
    case round =>
      obtain ⟨k, hk, rfl, HI⟩ := hrel
      by_cases hlt : k < len
      · have hkl : k < L.length := by rw [HL.out]; exact hlt
        obtain ⟨ad, rfl, _, c6⟩ := ops_cell HR.out k 2 hkl (by omega)
        have hfx := HX.out _ (List.getElem_mem hkl)
        have hn1 := hfx.room
        have hn2 := hfx.most
        have e6 : L[k].cells[2]? = some (.slice L[k].a L[k].n L[k].c) := rfl
        rw [e6] at c6
        have HN : Hid (∀ (h : L[k].n ≤ 100) j (h : j < L.length), j < k + 1 → L[j].n ≤ 100) := Lib.hid (fun h j hj hjk => by
          by_cases e : j = k
          · subst e; exact h
          · exact HI.out j hj (by omega))
        have HM : Hid (L[k] ∈ L) := Lib.hid (List.getElem_mem hkl)
        have c6' : w.cell? ⟨(ad.add (3 * k)).block, (ad.add (3 * k)).off + 2, none⟩ = some (.slice L[k].a L[k].n L[k].c) := by rw [add_next _ _ _ (by omega)]; exact c6
        have c6'' : w.cell? ⟨(ad.add (k * 3)).block, (ad.add (k * 3)).off + 2, none⟩ = some (.slice L[k].a L[k].n L[k].c) := by rw [Nat.mul_comm k 3]; exact c6'
        clear hfx e6 c6 c6'
        have i3 : (k : Int) < (len : Int) := by omega
        by_cases hb : L[k].n ≤ 100
        · have HN2 := Lib.hid (HN.out hb)
          clear HN HM
          have hb2 : (L[k].n : Int) ≤ 100 := by omega
          generalize L[k].n = n at *
          generalize L[k].a = a2 at *
          generalize L[k].c = c2 at *
          clear hkl
          go_wp2
          go_round
          case rel => exact ⟨k + 1, by omega, by go_num, HN2⟩
          case measure => simp [intOf]; omega
        · clear HN HM
          have hb2 : (100 : Int) < (L[k].n : Int) := by omega
          generalize L[k].n = n at *
          generalize L[k].a = a2 at *
          generalize L[k].c = c2 at *
          clear hkl
          go_wp2
          go_ret
          exact ⟨true, rfl, fun h => (by cases h), rfl⟩
      · obtain rfl : k = len := by omega
        have HQ : Hid (∀ x ∈ L, x.n ≤ 100) := Lib.hid (fun x hx => by
          obtain ⟨j, hj, rfl⟩ := List.getElem_of_mem hx
          exact HI.out j hj (by rw [← HL.out]; exact hj))
        go_wp2
        go_ret
        exact ⟨false, rfl, fun _ => ⟨by rw [HL.out]; exact h200, HQ.out⟩, rfl⟩
  · have i2 : (400 : Int) < (len : Int) := by omega
    go_enter Try.func13, Try.ntmps13
    go_wp2
    go_ret
    exact ⟨true, rfl, fun h => (by cases h), rfl⟩
end Go.Proofs.Ytkaapphlnolelaa
