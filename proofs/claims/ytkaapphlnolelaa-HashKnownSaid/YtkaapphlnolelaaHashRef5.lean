/-
  Layer 10's document: New: contract. Conditions: none.
-/
import Derived.Test.YtkaapphlnolelaaHashRef4
import Derived.Deep.OwnRows
namespace Go.Proofs.Ytkaapphlnolelaa
open Go.RowKit Ow Ro K2 Hm
set_option linter.unusedVariables false
set_option linter.unusedSimpArgs false
/-- make of n elements, n a letter, of any size. -/
theorem wp_make_any {P : Program} (w : World) {ops : Array Oper} {rest : List Oper} {o : Oper} {a : Act} {Q : Exit → Act → World → Prop}
    (hg : o.guard = none) (l c : Operand) (t : TypeId) (hop : o.op = Op.makeSlice t l c)
    (e : TypeId) (i : TypeInfo) (z : Value) (ht : P.underlying t = some (.slice e)) (hi : P.info? e = some i) (hz : i.zero = some z)
    (kl kc : IntKind) (n : Nat) (hl : a.eval l = .int kl (n : Int)) (hc : a.eval c = .int kc (n : Int)) (hbytes : (i.bytes : Int) * (n : Int) ≤ 281474976710656) (h63 : (n : Int) ≤ 9223372036854775807)
    (hK : ∀ w', w.alloc (.cells (madeCells z.cells (n * i.size)) e) = w' → wpList P ops Q rest (a.put o.dst (.slice (some ⟨w.heap.size, 0, none⟩) n n)) w') :
    wpList P ops Q (o :: rest) a w := by
  refine wpList_plain hg fun K hK' => ?_
  have hrun := run_make (P := P) w t e i z ht hi hz kl kc n n (by omega) (Int.le_refl _) hbytes h63
  simp only [Int.toNat_natCast] at hrun
  unfold Oper.wp
  simp [execOp, hop, hl, hc, hrun, Result.andThen]
  exact hK' _ _ (hK _ rfl)
theorem place_info : (Try.prog.info? 70).map (fun i => (i.zero, i.size, i.bytes)) = some (some (.agg #[.int .i64 0, .slice none 0 0, .int .i64 0]), 3, 40) := by kernel_rfl
theorem info10 {P : Program} {t : TypeId} {z : Value} {a b : Nat} (h : (P.info? t).map (fun i => (i.zero, i.size, i.bytes)) = some (some z, a, b)) : ∃ i, P.info? t = some i ∧ i.zero = some z ∧ i.size = a ∧ i.bytes = b := by
  cases hi : P.info? t with
  | none => rw [hi] at h; cases h
  | some i =>
    rw [hi] at h
    simp only [Option.map_some, Option.some.injEq, Prod.mk.injEq] at h
    exact ⟨i, rfl, h.1, h.2.1, h.2.2⟩
def e0 : Pl := ⟨0, [], 0⟩
theorem made_places (n : Nat) : (madeCells #[.int .i64 0, .slice none 0 0, .int .i64 0] (n * 3)).toList = pflat (List.replicate n (.slice none 0 0, e0)) := by
  refine List.ext_getElem? fun j => ?_
  by_cases hj : j < n * 3
  · have hk : j / 3 < (List.replicate n ((.slice none 0 0, e0) : P3)).length := by rw [List.length_replicate]; omega
    have h := pflat_get (List.replicate n (.slice none 0 0, e0)) (j / 3) (j % 3) hk (by omega)
    rw [show j / 3 * 3 + j % 3 = j by omega] at h
    rw [h, List.getElem_replicate]
    have hr : j % 3 = 0 ∨ j % 3 = 1 ∨ j % 3 = 2 := by omega
    have hm : (madeCells #[.int .i64 0, .slice none 0 0, .int .i64 0] (n * 3)).toList[j]? = some ((#[.int .i64 0, .slice none 0 0, .int .i64 0] : Array Value)[j % 3]!) := by
      rw [Array.getElem?_toList]
      unfold madeCells
      simp [hj]
    rw [hm]
    rcases hr with e | e | e <;> rw [e] <;> rfl
  · rw [List.getElem?_eq_none (by rw [Array.length_toList, size_madeCells]; omega), List.getElem?_eq_none (by rw [pflat_len, List.length_replicate]; omega)]
/-- The least power of two that is at least twice m, m from 1 to 64. -/
def npl (m : Int) : Nat := if m ≤ 1 then 2 else if m ≤ 2 then 4 else if m ≤ 4 then 8 else if m ≤ 8 then 16 else if m ≤ 16 then 32 else if m ≤ 32 then 64 else 128
theorem npl_le (m : Int) : 2 ≤ npl m ∧ npl m ≤ 128 := by unfold npl; (repeat' split) <;> omega
theorem cutN_bd (n high : Int) (h : 1 ≤ high) : 1 ≤ cutN n high ∧ cutN n high ≤ high := by unfold cutN; (repeat' split) <;> omega
def RNewH (w0 : World) (A : Ac) (K M : Int) (n : Nat) (e : Ending) (w' : World) : Prop := ∃ X, e = .returned (.pointer (some ⟨X, 0, none⟩)) ∧ HDid w0 A X K M (List.replicate n e0) w'
set_option maxHeartbeats 1000000 in
theorem rnew10_c {w0 w : World} {A : Ac} (hl : Lay w0 A w) (key most : Int) :
    Calls Try.prog 15 #[.int .i64 key, .int .i64 most] w (RNewH w0 A (cutN key 16) (cutN most 64) (npl (cutN most 64))) := by
  obtain ⟨i0, hi0, hz0, hz1, hz2⟩ := info10 place_info
  have C1 := rcut10_any key 16
  have C2 := rcut10_any most 64
  have b1 := cutN_bd key 16 (by decide)
  have b2 := cutN_bd most 64 (by decide)
  generalize cutN key 16 = K at *
  generalize cutN most 64 = M at *
  obtain ⟨X, hX⟩ : ∃ X, w.heap.size = X := ⟨_, rfl⟩
  have H0 : Hid (∃ A', Lay w0 A' (w.alloc (.cells #[.slice none 0 0, .int .i64 K, .int .i64 M] 65)) ∧ A' (50, 0) = some (X, .cells #[.slice none 0 0, .int .i64 K, .int .i64 M] 65) ∧ ∀ x : Rl, x ≠ (50, 0) → A' x = A x) := Lib.hid (by
    subst hX
    exact ⟨_, hl.new (50, 0) (o := .cells #[.slice none 0 0, .int .i64 K, .int .i64 M] 65) ((Below.refl _ _).alloc (Nat.le_refl _) _) (Nat.le_refl _) (heap_alloc_new w _), up_same _ _ _ _, fun x hx => up_other _ _ _ hx⟩)
  clear hl
  go_enter Try.func15, Try.ntmps15
  go_wp2_with fail
  with_reducible refine (C1 _).mono ?_
  rintro e w' ⟨rfl, rfl⟩
  go_wp2_with fail
  with_reducible refine (C2 _).mono ?_
  rintro e w' ⟨rfl, rfl⟩
  go_wp2_with fail
  clear hX
  obtain ⟨A1, l1, a1, f1⟩ := H0.out
  generalize (w.alloc (.cells #[.slice none 0 0, .int .i64 K, .int .i64 M] 65)) = wb at *
  have k0 : wb.cell? ⟨X, 0, none⟩ = some (.slice none 0 0) := (l1.bk a1).cell 0
  have k2 : wb.cell? ⟨X, 2, none⟩ = some (.int .i64 M) := (l1.bk a1).cell 2
  have z0 : wb.frozen? ⟨X, 0, none⟩ = false := (l1.bk a1).frozen 0
  have HL := Lib.hid l1
  have HA := Lib.hid a1
  have HF := Lib.hid f1
  clear H0 l1 a1 f1 C1 C2
  go_loopw [6] (fun i wr => ∃ j : Nat, (2 ≤ j ∧ j ≤ npl M) ∧ (j = 2 ∨ j = 4 ∨ j = 8 ∨ j = 16 ∨ j = 32 ∨ j = 64 ∨ j = 128) ∧ i = .int .i64 (j : Nat) ∧ wb = wr) (fun i _ => 200 - (intOf i).toNat)
  case atStart => exact ⟨2, ⟨by omega, (npl_le M).1⟩, .inl rfl, rfl, rfl⟩
  case round =>
    obtain ⟨j, ⟨hj1, hj2⟩, hj3, rfl, rfl⟩ := hrel
    by_cases hlt : (j : Int) < 2 * M
    · have hn : 2 * j ≤ npl M := by
        unfold npl at hj2 ⊢
        rcases hj3 with rfl | rfl | rfl | rfl | rfl | rfl | rfl <;> (repeat' split) <;> omega
      have hn2 := (npl_le M).2
      go_wp2
      go_roundw
      case rel => exact ⟨2 * j, ⟨by omega, hn⟩, by omega, by go_num, trivial⟩
      case measure => simp [intOf]; omega
    · have hj : j = npl M := by
        unfold npl at hj2 ⊢
        rcases hj3 with rfl | rfl | rfl | rfl | rfl | rfl | rfl <;> revert hj2 <;> (repeat' split) <;> omega
      have hjb : 2 ≤ j ∧ j ≤ 128 := by have := npl_le M; omega
      have HNEW : Hid (∀ wc, wb.alloc (.cells (madeCells #[.int .i64 0, .slice none 0 0, .int .i64 0] (j * 3)) 70) = wc → wc.cell? ⟨X, 0, none⟩ = some (.slice none 0 0) ∧ wc.frozen? ⟨X, 0, none⟩ = false ∧ HDid w0 A X K M (List.replicate j e0) (wc.setCell ⟨X, 0, none⟩ (.slice (some ⟨wb.heap.size, 0, none⟩) j j))) := Lib.hid (fun wc hwc => by
        subst hwc
        have ho : (wb.alloc (.cells (madeCells #[.int .i64 0, .slice none 0 0, .int .i64 0] (j * 3)) 70)).ownsRow wb.heap.size 70 3 (.slice (some ⟨wb.heap.size, 0, none⟩) j j) j (pflat (List.replicate j (.slice none 0 0, e0))) := by
          have := World.ownsRow_lit (base := wb.heap.size) (e := 70) (size := 3) wb (madeCells #[.int .i64 0, .slice none 0 0, .int .i64 0] (j * 3)) j (Nat.le_refl _) (by unfold maxLen; omega) (by rw [size_madeCells])
          rwa [made_places] at this
        obtain ⟨A2, l2, r2, f2⟩ := HL.out.newRow (51, 0) ((Below.refl _ _).alloc (Nat.le_refl _) _) ho (Nat.le_refl _)
        have a2 := (f2 (50, 0) (by simp)).trans HA.out
        refine ⟨(l2.bk a2).cell 0, (l2.bk a2).frozen 0, _, l2.set_ a2 0 (.slice (some ⟨wb.heap.size, 0, none⟩) j j), ⟨_, List.replicate j (.slice none 0 0, e0), up_same _ _ _ _, ?_, ?_, fun k t hk => ?_⟩, fun x hx => ?_⟩
        · rw [List.length_replicate]
          exact r2.keep (up_other _ _ _ (by simp))
        · rw [List.map_replicate]
        · rw [List.getElem?_replicate] at hk
          split at hk
          · injection hk with hk
            subst hk
            exact Row.nil _ _ _ _
          · cases hk
        · rw [up_other _ _ _ (fun e => by rw [e] at hx; simp at hx), f2 _ (fun e => by rw [e] at hx; simp at hx), HF.out _ (fun e => by rw [e] at hx; simp at hx)])
      rw [← hj]
      have HJ := Lib.hid hj
      clear hj hj2 HL HA HF k0 z0
      go_wp2_with (refine wp_make_any _ rfl _ _ _ rfl 70 i0 _ Try.underlying63 hi0 hz0 _ _ j rfl rfl (by rw [hz2]; omega) (by omega) ?_; intro wc hwc; rw [hz1] at hwc; obtain ⟨k5, z5, hd5⟩ := HNEW.out wc hwc; have HD5 := Lib.hid hd5; clear hd5 hwc)
      go_ret
      exact ⟨X, rfl, by rw [← HJ.out]; exact HD5.out⟩
end Go.Proofs.Ytkaapphlnolelaa
