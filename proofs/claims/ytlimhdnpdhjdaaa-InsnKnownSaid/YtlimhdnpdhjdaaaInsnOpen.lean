/-
  How an instruction, a list of instructions, a list of bytes that come in are read: for the rows' own steps of layer 2's statements.
-/
import Derived.Test.YtlimhdnpdhjdaaaInsnWorks
import Derived.Deep.Slices
import Derived.Deep.Fields
import Derived.OpenShut
import Derived.ProofKit
namespace Go.Proofs.Ytlimhdnpdhjdaaa
open Go.RowKit Wi Ow
open Go.ChangeShapes Go.WideShapes Go.Deep
set_option linter.unusedVariables false
set_option linter.unusedSimpArgs false

/-- Rows that were made one behind the other are not one. -/
theorem own_apart {w w' : World} {b1 B s1 s2 n1 n2 : Nat} {e1 e2 : TypeId} {v1 v2 : Value} {xs1 xs2 : List Value} (h1 : w.ownsRow b1 e1 s1 v1 n1 xs1) (h2 : w'.ownsRow B e2 s2 v2 n2 xs2) (hB : w.heap.size ≤ B) : v2.ownBlock = none ∨ v2.ownBlock ≠ v1.ownBlock := by
  cases h : v2.ownBlock with
  | none => exact .inl rfl
  | some k =>
    refine .inr fun e => ?_
    have g2 := (h2.lt k h).1
    have g1 := (h1.lt k e.symm).2
    omega
theorem own_apart' {w w' : World} {b1 B s1 s2 n1 n2 : Nat} {e1 e2 : TypeId} {v1 v2 : Value} {xs1 xs2 : List Value} (h1 : w.ownsRow b1 e1 s1 v1 n1 xs1) (h2 : w'.ownsRow B e2 s2 v2 n2 xs2) (hB : w.heap.size ≤ B) : v1.ownBlock = none ∨ v1.ownBlock ≠ v2.ownBlock := by
  cases h : v1.ownBlock with
  | none => exact .inl rfl
  | some k =>
    refine .inr fun e => ?_
    have g1 := (h1.lt k h).2
    have g2 := (h2.lt k e.symm).1
    omega
/-- A list of instructions that is our own, with marks behind it, reads as the list. -/
theorem rd_lent {w : World} {base cap : Nat} {A : Option Addr} {L M : List In} (h : w.ownsRow base 23 5 (.slice A (L ++ M).length cap) (L ++ M).length (iv (L ++ M))) : Rd w w.heap.size A (iv L) := by
  have h1 := (Rd.of_own h).take (5 * L.length)
  have e : (iv (L ++ M)).take (5 * L.length) = iv L := by rw [iv_app, ← iv_len, List.take_left]
  rw [e] at h1
  exact h1
theorem rd_lentb {w : World} {base cap : Nat} {A : Option Addr} {L M : List Int} (h : w.ownsRow base 5 1 (.slice A (L ++ M).length cap) (L ++ M).length (bv (L ++ M))) : Rd w w.heap.size A (bv L) := by
  have h1 := (Rd.of_own h).take L.length
  have e : (bv (L ++ M)).take L.length = bv L := by rw [bv_app, ← bv_len, List.take_left]
  rw [e] at h1
  exact h1
theorem putO_le (L : List In) : (putO L).length ≤ 16 * L.length := by
  unfold putO
  split
  · exact putB_le L
  · simp
section
variable {H : Type} {enc : TypeId × Value → H} {w : World} {base : Nat} {spare : Nat → Bool} {held : Bool}
/-- The cells of an instruction that comes in. -/
theorem insn_of {fuel : Nat} {cs : List Value} {y : DataW H × List MemPlace} (h : DataW.trod enc Try.prog w base spare held fuel 23 cs = some y) : ∃ x : In, cs = x.cells ∧ x.fits := by
  obtain ⟨xs, n, _, _, hlen, hxl, hf⟩ := DataW.trod_struct Try.underlying23 h
  have h5 : cs.length = 5 := hlen.trans (by kernel_rfl)
  match cs, h5 with
  | [c0, c1, c2, c3, c4], _ =>
    match xs, hxl with
    | [y0, y1, y2, y3, y4], _ =>
      have g1 : Try.prog.cellsOf 3 = 1 := by kernel_rfl
      have k0 := hf 0 _ rfl
      have k1 := hf 1 _ rfl
      have k2 := hf 2 _ rfl
      have k3 := hf 3 _ rfl
      have k4 := hf 4 _ rfl
      simp [g1] at k0 k1 k2 k3 k4
      obtain ⟨n0, e0, _, w0⟩ := DataW.trod_int Try.underlying3 k0
      obtain ⟨n1, e1, _, w1⟩ := DataW.trod_int Try.underlying3 k1
      obtain ⟨n2, e2, _, w2⟩ := DataW.trod_int Try.underlying3 k2
      obtain ⟨n3, e3, _, w3⟩ := DataW.trod_int Try.underlying3 k3
      obtain ⟨n4, e4, _, w4⟩ := DataW.trod_int Try.underlying3 k4
      simp at e0 e1 e2 e3 e4
      subst e0 e1 e2 e3 e4
      exact ⟨⟨n0, n1, n2, n3, n4⟩, rfl, bounds_i64 w0, bounds_i64 w1, bounds_i64 w2, bounds_i64 w3, bounds_i64 w4⟩
theorem open_insn {r : Reach} {b0 : Nat} {v : Value} {d : DataW H} {p : List MemPlace} (hv : Value.okWide Try.prog w r b0 23 v) (h : DataW.Trod enc Try.prog w base spare held 23 v d p) :
    ∃ x : In, v = .agg #[.int .i64 x.op, .int .i64 x.dst, .int .i64 x.src, .int .i64 x.off, .int .i64 x.imm] ∧ x.fits := by
  obtain ⟨cs, rfl, _⟩ := okWide_struct Try.underlying23 hv
  obtain ⟨fuel, hf⟩ := h
  obtain ⟨x, e, hx⟩ := insn_of hf
  refine ⟨x, ?_, hx⟩
  obtain ⟨l⟩ := cs
  simp [Value.cells] at e
  rw [e]; rfl
theorem iv_get (L : List In) (k r : Nat) (hk : k < L.length) (hr : r < 5) : (iv L)[5 * k + r]? = L[k].cells[r]? := by
  have h := iv_at L k hk
  match r, hr with
  | 0, _ => exact h.1
  | 1, _ => exact h.2.1
  | 2, _ => exact h.2.2.1
  | 3, _ => exact h.2.2.2.1
  | 4, _ => exact h.2.2.2.2
/-- A list of instructions that comes in. -/
theorem open_insns {a : Option Addr} {len cap : Nat} {d : DataW H} {p : List MemPlace} (h : DataW.Trod enc Try.prog w base spare held 29 (.slice a len cap) d p) :
    ∃ L : List In, L.length = len ∧ (∀ x ∈ L, x.fits) ∧ len ≤ cap ∧ cap ≤ 9223372036854775807 ∧ Rd w w.heap.size a (iv L) := by
  obtain ⟨fuel, hf⟩ := h
  rcases open_slice Try.underlying29 hf with ⟨hcs, _⟩ | ⟨ad, l, c, m, n, D, Pl, hcs, _, hl, hm, hmm, _, hi⟩
  · simp [Value.cells] at hcs
    obtain ⟨rfl, rfl, rfl⟩ := hcs
    exact ⟨[], rfl, fun _ h => by simp at h, Nat.le_refl _, by omega, Rd.nil⟩
  · simp [Value.cells] at hcs
    obtain ⟨rfl, rfl, rfl⟩ := hcs
    have hlm : len ≤ m := by rw [hmm]; split <;> omega
    have g5 : Try.prog.cellsOf 23 = 5 := by kernel_rfl
    have hx : ∀ i, ∃ x : In, i < len → x.fits ∧ ∀ r, r < 5 → w.cell? (ad.add (5 * i + r)) = x.cells[r]? := fun i => by
      by_cases hlt : i < len
      · obtain ⟨cs', hc, ht⟩ := hi i (by omega)
        rw [g5] at hc
        obtain ⟨_, _, hat⟩ := World.cells?_some hc
        obtain ⟨x, rfl, hfit⟩ := insn_of ht
        refine ⟨x, fun _ => ⟨hfit, fun r hr => ?_⟩⟩
        rw [← hat r hr, add_twice, Nat.mul_comm]
      · exact ⟨⟨0, 0, 0, 0, 0⟩, fun h => absurd h hlt⟩
    refine ⟨(List.range len).map fun i => Classical.choose (hx i), by simp, fun x hxm => ?_, hl, by unfold maxLen at hm; omega, fun hpos => ?_⟩
    · obtain ⟨i, hir, rfl⟩ := List.mem_map.1 hxm
      exact (Classical.choose_spec (hx i) (List.mem_range.1 hir)).1
    · have hcell : ∀ j u, (iv ((List.range len).map fun i => Classical.choose (hx i)))[j]? = some u → w.cell? (ad.add j) = some u := by
        intro j u hu
        have hj : j < 5 * len := by
          have h1 := (List.getElem?_eq_some_iff.1 hu).1
          rw [iv_len] at h1
          simpa using h1
        have hk : j / 5 < len := by omega
        have hsp := (Classical.choose_spec (hx (j / 5)) hk).2 (j % 5) (by omega)
        have hg := iv_get ((List.range len).map fun i => Classical.choose (hx i)) (j / 5) (j % 5) (by simpa using hk) (by omega)
        rw [show 5 * (j / 5) + j % 5 = j by omega] at hsp hg
        rw [hsp, ← hu, hg]
        simp
      refine ⟨ad, rfl, ?_, hcell⟩
      have h0 := List.getElem?_eq_getElem hpos
      have h1 := World.block_lt_of_cell? w _ (hcell 0 _ h0)
      rw [add_block] at h1
      exact h1
/-- A list of bytes that comes in. -/
theorem open_bytes {a : Option Addr} {len cap : Nat} {d : DataW H} {p : List MemPlace} (h : DataW.Trod enc Try.prog w base spare held 31 (.slice a len cap) d p) :
    ∃ l : List Int, l.length = len ∧ isB l ∧ len ≤ cap ∧ cap ≤ 9223372036854775807 ∧ Rd w w.heap.size a (bv l) := by
  obtain ⟨fuel, hf⟩ := h
  rcases open_ints Try.underlying31 Try.underlying5 (by kernel_rfl) hf with ⟨hcs, _⟩ | ⟨x, l, c, zs, hcs, _, hl, hm, hz, _, hcell, hwz⟩
  · simp [Value.cells] at hcs
    obtain ⟨rfl, rfl, rfl⟩ := hcs
    exact ⟨[], rfl, fun _ h => by simp at h, Nat.le_refl _, by omega, Rd.nil⟩
  · simp [Value.cells] at hcs
    obtain ⟨rfl, rfl, rfl⟩ := hcs
    have hle : len ≤ zs.length := by rw [hz]; split <;> omega
    refine ⟨zs.take len, by rw [List.length_take]; omega, fun b hb => ?_, hl, by unfold maxLen at hm; omega, fun hpos => ?_⟩
    · exact bounds_u8 (hwz b (List.mem_of_mem_take hb))
    · have hc2 : ∀ j u, (bv (zs.take len))[j]? = some u → w.cell? (x.add j) = some u := by
        intro j u hu
        have hj : j < len := by
          have h1 := (List.getElem?_eq_some_iff.1 hu).1
          rw [bv_len, List.length_take] at h1
          omega
        rw [hcell j (by omega), ← hu]
        unfold bv
        rw [List.getElem?_map, List.getElem?_take, if_pos hj, List.getElem?_eq_getElem (by omega)]
        simp [List.getD_eq_getElem?_getD, List.getElem?_eq_getElem (show j < zs.length by omega)]
      refine ⟨x, rfl, ?_, hc2⟩
      have h0 := List.getElem?_eq_getElem hpos
      have h1 := World.block_lt_of_cell? w _ (hc2 0 _ h0)
      rw [add_block] at h1
      exact h1
end
end Go.Proofs.Ytlimhdnpdhjdaaa
