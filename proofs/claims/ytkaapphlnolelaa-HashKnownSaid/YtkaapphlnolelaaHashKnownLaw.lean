/-
  Layer 10, HashKnown: published sums, the chapter's examples, sizes about their ends, tables that run full and empty, are as the document says. Closed: no conditions.
-/
import Derived.Test.YtkaapphlnolelaaRows
import Derived.Test.YtkaapphlnolelaaHashKn
import Derived.Test.YtkaapphlnolelaaHashSumsLaw
import Derived.Test.YtkaapphlnolelaaHashRunsLaw
import Derived.Test.YtkaapphlnolelaaHashHoldsLaw
import Derived.Test.YtkaapphlnolelaaHashWearsLaw
import Derived.Lib.MinMax
import Derived.Lib.SlBytesConst
import Derived.IntWalk
import Derived.WalkKit
import Derived.ProofKit
import Derived.OpenShut
import Derived.ChangeOld
import Derived.Below
namespace Go.Proofs.Ytkaapphlnolelaa.hashKnown
open Go.ChangeShapes Go.WideShapes Go.ChangeAt Go.RowKit Ow Ro K2 Hm
set_option linter.unusedVariables false
set_option linter.unusedSimpArgs false

theorem own : ownKnob Try.prog.godebug = none := by kernel_rfl
theorem laidOut : laidOutB Try.prog = true := by kernel_rfl

def nl : List Int := [-9223372036854775808, -1, 0, 1, 2, 3, 15, 16, 17, 63, 64, 65, 9223372036854775807]
def nA : Array Value := #[.int .i64 (-9223372036854775808), .int .i64 (-1), .int .i64 0, .int .i64 1, .int .i64 2, .int .i64 3, .int .i64 15, .int .i64 16, .int .i64 17, .int .i64 63, .int .i64 64, .int .i64 65, .int .i64 9223372036854775807]
theorem nl_at (i : Nat) (h : i < 13) : ∃ v : Int, nA[i]? = some (.int .i64 v) ∧ (Lit.int .i64 v).wf = true := by
  have hh : i = 0 ∨ i = 1 ∨ i = 2 ∨ i = 3 ∨ i = 4 ∨ i = 5 ∨ i = 6 ∨ i = 7 ∨ i = 8 ∨ i = 9 ∨ i = 10 ∨ i = 11 ∨ i = 12 := by omega
  rcases hh with rfl | rfl | rfl | rfl | rfl | rfl | rfl | rfl | rfl | rfl | rfl | rfl | rfl <;> exact ⟨_, rfl, rfl⟩
theorem op_info : (Try.prog.info? 36).map (fun i => (i.zero, i.size, i.bytes)) = some (some (.agg #[.int .i64 0, .int .i64 0, .slice none 0 0]), 3, 40) := by kernel_rfl
theorem size_is (v : Int) : ∃ s : Nat, max 1 (min v 16) = (s : Int) + 1 ∧ s ≤ 15 := ⟨(max 1 (min v 16) - 1).toNat, by omega, by omega⟩
theorem wrap8_bd (x : Int) : 0 ≤ IntKind.u8.wrap x ∧ IntKind.u8.wrap x ≤ 255 := by rw [IntKind.wrap_u8]; omega
theorem lit_bytes (w : World) (bs : List Int) : Rd (w.alloc (.cells (bv bs).toArray 5)) (w.alloc (.cells (bv bs).toArray 5)).heap.size (some ⟨w.heap.size, 0, none⟩) (bv bs) := fun hp => by
  refine ⟨_, rfl, by rw [World.size_alloc]; exact Nat.lt_succ_self _, fun j u hu => ?_⟩
  rw [add_zero_at, (Bk.new w 5 (bv bs).toArray).cell j, List.getElem?_toArray]
  exact hu
theorem lit_mark (w : World) (bs : List Int) (fr : Nat × Nat) : Rd (w.alloc (.cells (bv bs).toArray 5 fr)) (w.alloc (.cells (bv bs).toArray 5 fr)).heap.size (some ⟨w.heap.size, 0, none⟩) (bv bs) := fun hp => by
  refine ⟨_, rfl, by rw [World.size_alloc]; exact Nat.lt_succ_self _, fun j u hu => ?_⟩
  rw [add_zero_at, World.cell?_alloc_mark w (bv bs).toArray _ fr j, List.getElem?_toArray]
  exact hu
theorem fnv_a : fnv [97] = 3826002220 := by kernel_rfl
theorem fnv_foobar : fnv [102, 111, 111, 98, 97, 114] = 3214735720 := by kernel_rfl
theorem txt4 (w : World) : Txt (((((w.alloc (.cells #[.int .u8 0, .int .u8 0] 5)).alloc (.cells #[.int .u8 1, .int .u8 2] 5)).alloc (.cells #[.int .u8 7, .int .u8 7] 5)).alloc (.cells #[.int .u8 0, .int .u8 1] 5)).alloc (.cells #[.slice (some ⟨w.heap.size, 0, none⟩) 2 2, .slice (some ⟨w.heap.size + 1, 0, none⟩) 2 2, .slice (some ⟨w.heap.size + 1 + 1, 0, none⟩) 2 2, .slice (some ⟨w.heap.size + 1 + 1 + 1, 0, none⟩) 2 2] 22))
    (((((w.alloc (.cells #[.int .u8 0, .int .u8 0] 5)).alloc (.cells #[.int .u8 1, .int .u8 2] 5)).alloc (.cells #[.int .u8 7, .int .u8 7] 5)).alloc (.cells #[.int .u8 0, .int .u8 1] 5)).alloc (.cells #[.slice (some ⟨w.heap.size, 0, none⟩) 2 2, .slice (some ⟨w.heap.size + 1, 0, none⟩) 2 2, .slice (some ⟨w.heap.size + 1 + 1, 0, none⟩) 2 2, .slice (some ⟨w.heap.size + 1 + 1 + 1, 0, none⟩) 2 2] 22)).heap.size
    (some ⟨w.heap.size + 1 + 1 + 1 + 1, 0, none⟩) [[0, 0], [1, 2], [7, 7], [0, 1]] ∧
    Below w.heap.size w (((((w.alloc (.cells #[.int .u8 0, .int .u8 0] 5)).alloc (.cells #[.int .u8 1, .int .u8 2] 5)).alloc (.cells #[.int .u8 7, .int .u8 7] 5)).alloc (.cells #[.int .u8 0, .int .u8 1] 5)).alloc (.cells #[.slice (some ⟨w.heap.size, 0, none⟩) 2 2, .slice (some ⟨w.heap.size + 1, 0, none⟩) 2 2, .slice (some ⟨w.heap.size + 1 + 1, 0, none⟩) 2 2, .slice (some ⟨w.heap.size + 1 + 1 + 1, 0, none⟩) 2 2] 22)) := by
  have B0 := Below.refl w.heap.size w
  have k0 := Bk.new w 5 #[.int .u8 0, .int .u8 0]
  have s0 := World.size_alloc w (.cells #[.int .u8 0, .int .u8 0] 5)
  have B1 := B0.alloc (by omega) (.cells #[.int .u8 0, .int .u8 0] 5)
  generalize w.alloc (.cells #[.int .u8 0, .int .u8 0] 5) = w1 at *
  have k1 := Bk.new w1 5 #[.int .u8 1, .int .u8 2]
  have s1 := World.size_alloc w1 (.cells #[.int .u8 1, .int .u8 2] 5)
  have B2 := B1.alloc (by omega) (.cells #[.int .u8 1, .int .u8 2] 5)
  have k0 := k0.alloc (.cells #[.int .u8 1, .int .u8 2] 5)
  generalize w1.alloc (.cells #[.int .u8 1, .int .u8 2] 5) = w2 at *
  have k2 := Bk.new w2 5 #[.int .u8 7, .int .u8 7]
  have s2 := World.size_alloc w2 (.cells #[.int .u8 7, .int .u8 7] 5)
  have B3 := B2.alloc (by omega) (.cells #[.int .u8 7, .int .u8 7] 5)
  have k0 := k0.alloc (.cells #[.int .u8 7, .int .u8 7] 5)
  have k1 := k1.alloc (.cells #[.int .u8 7, .int .u8 7] 5)
  generalize w2.alloc (.cells #[.int .u8 7, .int .u8 7] 5) = w3 at *
  have k3 := Bk.new w3 5 #[.int .u8 0, .int .u8 1]
  have s3 := World.size_alloc w3 (.cells #[.int .u8 0, .int .u8 1] 5)
  have B4 := B3.alloc (by omega) (.cells #[.int .u8 0, .int .u8 1] 5)
  have k0 := k0.alloc (.cells #[.int .u8 0, .int .u8 1] 5)
  have k1 := k1.alloc (.cells #[.int .u8 0, .int .u8 1] 5)
  have k2 := k2.alloc (.cells #[.int .u8 0, .int .u8 1] 5)
  generalize w3.alloc (.cells #[.int .u8 0, .int .u8 1] 5) = w4 at *
  have k4 := Bk.new w4 22 #[.slice (some ⟨w.heap.size, 0, none⟩) 2 2, .slice (some ⟨w.heap.size + 1, 0, none⟩) 2 2, .slice (some ⟨w.heap.size + 1 + 1, 0, none⟩) 2 2, .slice (some ⟨w.heap.size + 1 + 1 + 1, 0, none⟩) 2 2]
  have s4 := World.size_alloc w4 (.cells #[.slice (some ⟨w.heap.size, 0, none⟩) 2 2, .slice (some ⟨w.heap.size + 1, 0, none⟩) 2 2, .slice (some ⟨w.heap.size + 1 + 1, 0, none⟩) 2 2, .slice (some ⟨w.heap.size + 1 + 1 + 1, 0, none⟩) 2 2] 22)
  have B5 := B4.alloc (by omega) (.cells #[.slice (some ⟨w.heap.size, 0, none⟩) 2 2, .slice (some ⟨w.heap.size + 1, 0, none⟩) 2 2, .slice (some ⟨w.heap.size + 1 + 1, 0, none⟩) 2 2, .slice (some ⟨w.heap.size + 1 + 1 + 1, 0, none⟩) 2 2] 22)
  have k0 := k0.alloc (.cells #[.slice (some ⟨w.heap.size, 0, none⟩) 2 2, .slice (some ⟨w.heap.size + 1, 0, none⟩) 2 2, .slice (some ⟨w.heap.size + 1 + 1, 0, none⟩) 2 2, .slice (some ⟨w.heap.size + 1 + 1 + 1, 0, none⟩) 2 2] 22)
  have k1 := k1.alloc (.cells #[.slice (some ⟨w.heap.size, 0, none⟩) 2 2, .slice (some ⟨w.heap.size + 1, 0, none⟩) 2 2, .slice (some ⟨w.heap.size + 1 + 1, 0, none⟩) 2 2, .slice (some ⟨w.heap.size + 1 + 1 + 1, 0, none⟩) 2 2] 22)
  have k2 := k2.alloc (.cells #[.slice (some ⟨w.heap.size, 0, none⟩) 2 2, .slice (some ⟨w.heap.size + 1, 0, none⟩) 2 2, .slice (some ⟨w.heap.size + 1 + 1, 0, none⟩) 2 2, .slice (some ⟨w.heap.size + 1 + 1 + 1, 0, none⟩) 2 2] 22)
  have k3 := k3.alloc (.cells #[.slice (some ⟨w.heap.size, 0, none⟩) 2 2, .slice (some ⟨w.heap.size + 1, 0, none⟩) 2 2, .slice (some ⟨w.heap.size + 1 + 1, 0, none⟩) 2 2, .slice (some ⟨w.heap.size + 1 + 1 + 1, 0, none⟩) 2 2] 22)
  generalize w4.alloc (.cells #[.slice (some ⟨w.heap.size, 0, none⟩) 2 2, .slice (some ⟨w.heap.size + 1, 0, none⟩) 2 2, .slice (some ⟨w.heap.size + 1 + 1, 0, none⟩) 2 2, .slice (some ⟨w.heap.size + 1 + 1 + 1, 0, none⟩) 2 2] 22) = w5 at *
  have e1 : w1.heap.size = w.heap.size + 1 := by omega
  rw [e1] at k1
  have e2 : w2.heap.size = w.heap.size + 1 + 1 := by omega
  rw [e2] at k2
  have e3 : w3.heap.size = w.heap.size + 1 + 1 + 1 := by omega
  rw [e3] at k3
  have e4 : w4.heap.size = w.heap.size + 1 + 1 + 1 + 1 := by omega
  rw [e4] at k4
  refine ⟨⟨[.slice (some ⟨w.heap.size, 0, none⟩) 2 2, .slice (some ⟨w.heap.size + 1, 0, none⟩) 2 2, .slice (some ⟨w.heap.size + 1 + 1, 0, none⟩) 2 2, .slice (some ⟨w.heap.size + 1 + 1 + 1, 0, none⟩) 2 2], fun _ => ⟨_, rfl, k4.lt, fun j u hu => ?_⟩, rfl, fun j bs hj => ?_⟩, B5⟩
  · rw [add_zero_at, k4.cell j, ← hu]
    simp
  · have rd : ∀ {g : Nat} {x y : Int}, Bk w5 g 5 #[.int .u8 x, .int .u8 y] → Rd w5 w5.heap.size (some ⟨g, 0, none⟩) (bv [x, y]) := fun hk _ => by
      refine ⟨_, rfl, hk.lt, fun j u hu => ?_⟩
      rw [add_zero_at, hk.cell j, ← hu]
      match j with
      | 0 => rfl
      | 1 => rfl
      | j + 2 => simp [bv]
    match j with
    | 0 => simp at hj; subst hj; exact ⟨_, _, rfl, rd k0⟩
    | 1 => simp at hj; subst hj; exact ⟨_, _, rfl, rd k1⟩
    | 2 => simp at hj; subst hj; exact ⟨_, _, rfl, rd k2⟩
    | 3 => simp at hj; subst hj; exact ⟨_, _, rfl, rd k3⟩
    | j + 4 => simp at hj

set_option maxRecDepth 100000 in
set_option maxHeartbeats 4000000 in
theorem walk (w : World) :
    Calls Try.prog 7 #[] w fun e w' => e = .returned (.bool true) ∧ Below w.heap.size w w' := by
  have HB0 := Lib.hid (Below.refl w.heap.size w)
  obtain ⟨i0, hi0, hz0, hz1, hz2⟩ := info10 byte_info3
  obtain ⟨j0, hj0, hy0, hy1, hy2⟩ := info10 op_info
  go_enter Try.func7, Try.ntmps7
  go_wp2_with fail
  have HBW : Hid (Below w.heap.size w (w.alloc (.cells nA 3))) := Lib.hid ((Below.refl _ _).alloc (Nat.le_refl _) _)
  have HNB : Hid (Bk (w.alloc (.cells nA 3)) w.heap.size 3 nA) := Lib.hid (Bk.new w _ _)
  unfold nA at HBW HNB
  generalize (w.alloc (.cells #[.int .i64 (-9223372036854775808), .int .i64 (-1), .int .i64 0, .int .i64 1, .int .i64 2, .int .i64 3, .int .i64 15, .int .i64 16, .int .i64 17, .int .i64 63, .int .i64 64, .int .i64 65, .int .i64 9223372036854775807] 3)) = w9 at *
  have HN : Hid (∀ i, i < 13 → ∃ v : Int, (∀ z, Below w9.heap.size w9 z → z.cell? ⟨w.heap.size, i, none⟩ = some (.int .i64 v)) ∧ (Lit.int .i64 v).wf = true) := Lib.hid (fun i hi => by
    obtain ⟨v, h1, h2⟩ := nl_at i hi
    refine ⟨v, fun z hz => ?_, h2⟩
    have hb : Bk w9 w.heap.size 3 nA := HNB.out
    exact (hz.cell (p := ⟨w.heap.size, i, none⟩) hb.lt).trans ((hb.cell i).trans h1))
  clear HNB
  obtain ⟨gn, hgn⟩ : ∃ gn, w.heap.size = gn := ⟨_, rfl⟩
  have HGN := Lib.hid hgn
  rw [hgn] at HN HBW ⊢
  clear hgn HB0
  go_loopw [2] (fun i wr => ∃ a : Nat, a ≤ 13 ∧ i = .int .i64 a ∧ Hid (Below w9.heap.size w9 wr)) (fun i _ => 13 - (intOf i).toNat)
  case atStart => exact ⟨0, by omega, rfl, Lib.hid (Below.refl _ _)⟩
  case round =>
    obtain ⟨a, ha, rfl, H1⟩ := hrel
    by_cases hlt : a < 13
    · have i1 : (a : Int) < 13 := by omega
      have i2 : (0 : Int) ≤ (a : Int) := by omega
      obtain ⟨va, ca, wa⟩ := HN.out a hlt
      have HCA := Lib.hid ca
      clear ca
      go_wp2_with fail
      go_loopw [3] (fun i wr => ∃ b : Nat, b ≤ 13 ∧ i = .int .i64 b ∧ Hid (Below w9.heap.size w9 wr)) (fun i _ => 13 - (intOf i).toNat)
      case atStart => exact ⟨0, by omega, rfl, H1⟩
      case round =>
        obtain ⟨b, hb, rfl, H2⟩ := hrel
        clear H1
        by_cases hlt2 : b < 13
        · have i3 : (b : Int) < 13 := by omega
          have i4 : (0 : Int) ≤ (b : Int) := by omega
          obtain ⟨vb, cb, wb⟩ := HN.out b hlt2
          have HCB := Lib.hid cb
          clear cb
          obtain ⟨s, hs0, hs15⟩ := size_is va
          obtain ⟨sz, hsz⟩ : ∃ sz : Int, (s : Int) + 1 = sz := ⟨_, rfl⟩
          have hs : max 1 (min va 16) = sz := hs0.trans hsz
          have HSZ := Lib.hid hsz
          clear hs0 hsz
          have ca := HCA.out _ H2.out
          have H3 := Lib.hid (KL.start H2.out)
          go_wp2_with fail
          clear ca H2 hs
          go_loopw [5, 6] (fun lv i wr => ∃ (j : Nat) (L : List Opn) (av : Option Addr) (cv : Nat), j ≤ 67 ∧ i = .int .i64 j ∧ L.length = 4 * j ∧ lv = .slice av L.length cv ∧ Hid (KL w9 j L (.slice av L.length cv) wr)) (fun _ i _ => 67 - (intOf i).toNat)
          case atStart => exact ⟨0, [], none, 0, by omega, rfl, rfl, rfl, H3⟩
          case round =>
            obtain ⟨j, L, av, cv, hj, rfl, hLj, rfl, H4⟩ := hrel
            have HLJ := Lib.hid hLj
            clear H3 hLj
            by_cases hlt3 : j < 67
            · have i5 : (j : Int) < 67 := by omega
              go_wp2_with fail
              have hszz := HSZ.out
              have ht9 : sz.toNat = s + 1 := by omega
              have hsz1 : sz - 1 = (s : Int) := by omega
              have hrun := run_make (P := Try.prog) wr 22 5 i0 _ Try.underlying22 hi0 hz0 .i64 .i64 sz sz (by omega) (Int.le_refl _) (by rw [hz2]; omega) (by omega)
              rw [ht9] at hrun
              rw [hrun, hz1]
              rw [show madeCells (Value.cells (.int .u8 0)) ((s + 1) * 1) = (bv (List.replicate (s + 1) 0)).toArray from made_bytes (s + 1)]
              clear hrun ht9 hszz
              have hszb : 1 ≤ sz ∧ sz ≤ 16 := by have := HSZ.out; omega
              have H5 := Lib.hid (H4.out.made (List.replicate (s + 1) 0))
              obtain ⟨g, hg⟩ : ∃ g, wr.heap.size = g := ⟨_, rfl⟩
              rw [hg] at H5 ⊢
              generalize (wr.alloc (.cells (bv (List.replicate (s + 1) 0)).toArray 5)) = w6 at *
              clear H4 hg
              have c0 := (H5.out.cell 0).1
              have f0 := (H5.out.cell 0).2
              rw [show (bv (List.replicate (s + 1) 0))[0]? = some (.int .u8 0) from rfl] at c0
              have f1 := (H5.out.cell s).2
              have hu8 : 0 ≤ (j : Int) * 37 % 256 ∧ (j : Int) * 37 % 256 ≤ 255 := by omega
              have H6 := Lib.hid (H5.out.set 0 ((j : Int) * 37 % 256))
              obtain ⟨bs1, hbs1⟩ : ∃ bs1, (List.replicate (s + 1) (0 : Int)).set 0 ((j : Int) * 37 % 256) = bs1 := ⟨_, rfl⟩
              have hl1 : bs1.length = s + 1 := by rw [← hbs1, List.length_set, List.length_replicate]
              have hb1 : ∀ b ∈ bs1, 0 ≤ b ∧ b ≤ 255 := by rw [← hbs1]; exact set_bd (fun b hb => by rw [List.eq_of_mem_replicate hb]; omega) 0 hu8
              rw [hbs1] at H6
              obtain ⟨y, hy⟩ : ∃ y, bs1[s]? = some y := ⟨_, List.getElem?_eq_getElem (by omega)⟩
              have c1 := (H6.out.cell s).1
              rw [show (bv bs1)[s]? = some (.int .u8 y) by unfold bv; rw [List.getElem?_map, hy]; rfl] at c1
              have H7 := Lib.hid (H6.out.set s (bits .xor .u8 y (j : Int)))
              obtain ⟨bs2, hbs2⟩ : ∃ bs2, bs1.set s (bits .xor .u8 y (j : Int)) = bs2 := ⟨_, rfl⟩
              have HL2 : Hid (bs2.length = s + 1) := Lib.hid (by rw [← hbs2, List.length_set]; exact hl1)
              have HB2 : Hid (∀ b ∈ bs2, 0 ≤ b ∧ b ≤ 255) := Lib.hid (by rw [← hbs2]; exact set_bd hb1 s (xor8_bd _ _))
              rw [hbs2] at H7
              clear hbs1 hl1 hb1 hy hbs2 H5 H6 hu8
              obtain ⟨x8, hx8⟩ : ∃ x8, bits .xor .u8 y (j : Int) = x8 := ⟨_, rfl⟩
              rw [hx8] at H7
              by_cases hs0 : 0 < s
              · have H8 := Lib.hid (H7.out.grow ((Below.refl _ _).alloc (Nat.le_refl _) (.cells #[Value.int .i64 0, Value.int .i64 (j : Int), Value.slice (some ⟨g, 0, none⟩) (s + 1) (s + 1), Value.int .i64 1, Value.int .i64 0, Value.slice (some ⟨g, 0, none⟩) (s + 1) (s + 1), Value.int .i64 (1 + (j : Int) % 3 % 2), Value.int .i64 0, Value.slice (some ⟨g, 0, none⟩) (s + 1) (s + 1), Value.int .i64 1, Value.int .i64 0, Value.slice (some ⟨g, 1, none⟩) s s] 36)))
                have OWN := Lib.hid H8.out.own
                have hsz : ((w6.setCell ⟨g, 0, none⟩ (.int .u8 ((j : Int) * 37 % 256))).setCell ⟨g, s, none⟩ (.int .u8 x8)).heap.size = w6.heap.size := by simp
                have NEW : Hid (∀ (i : Nat) (u : Value), [Value.int .i64 0, Value.int .i64 (j : Int), Value.slice (some ⟨g, 0, none⟩) (s + 1) (s + 1), Value.int .i64 1, Value.int .i64 0, Value.slice (some ⟨g, 0, none⟩) (s + 1) (s + 1), Value.int .i64 (1 + (j : Int) % 3 % 2), Value.int .i64 0, Value.slice (some ⟨g, 0, none⟩) (s + 1) (s + 1), Value.int .i64 1, Value.int .i64 0, Value.slice (some ⟨g, 1, none⟩) s s][i]? = some u → (((w6.setCell ⟨g, 0, none⟩ (.int .u8 ((j : Int) * 37 % 256))).setCell ⟨g, s, none⟩ (.int .u8 x8)).alloc (.cells #[Value.int .i64 0, Value.int .i64 (j : Int), Value.slice (some ⟨g, 0, none⟩) (s + 1) (s + 1), Value.int .i64 1, Value.int .i64 0, Value.slice (some ⟨g, 0, none⟩) (s + 1) (s + 1), Value.int .i64 (1 + (j : Int) % 3 % 2), Value.int .i64 0, Value.slice (some ⟨g, 0, none⟩) (s + 1) (s + 1), Value.int .i64 1, Value.int .i64 0, Value.slice (some ⟨g, 1, none⟩) s s] 36)).cell? ((⟨w6.heap.size, 0, none⟩ : Addr).add i) = some u) := Lib.hid (fun i u hu => by
                  rw [add_zero_at, ← hsz, (Bk.new ((w6.setCell ⟨g, 0, none⟩ (.int .u8 ((j : Int) * 37 % 256))).setCell ⟨g, s, none⟩ (.int .u8 x8)) 36 #[Value.int .i64 0, Value.int .i64 (j : Int), Value.slice (some ⟨g, 0, none⟩) (s + 1) (s + 1), Value.int .i64 1, Value.int .i64 0, Value.slice (some ⟨g, 0, none⟩) (s + 1) (s + 1), Value.int .i64 (1 + (j : Int) % 3 % 2), Value.int .i64 0, Value.slice (some ⟨g, 0, none⟩) (s + 1) (s + 1), Value.int .i64 1, Value.int .i64 0, Value.slice (some ⟨g, 1, none⟩) s s]).cell i, ← hu]
                  simp)
                have HXX : Hid (∀ x ∈ [(⟨0, (j : Int), some ⟨g, 0, none⟩, s + 1, s + 1, bs2⟩ : Opn), ⟨1, 0, some ⟨g, 0, none⟩, s + 1, s + 1, bs2⟩, ⟨1 + (j : Int) % 3 % 2, 0, some ⟨g, 0, none⟩, s + 1, s + 1, bs2⟩, ⟨1, 0, some ⟨g, 1, none⟩, s, s, bs2.drop 1⟩], x.fits ∧ (x.bs = [] ∨ ∃ m, x.a = some ⟨g, m, none⟩ ∧ x.bs = bs2.drop m)) := Lib.hid (fun x hx => by
                  have hbb := HB2.out
                  have hll := HL2.out
                  simp only [List.mem_cons, List.not_mem_nil, or_false] at hx
                  rcases hx with rfl | rfl | rfl | rfl
                  · exact ⟨⟨by unfold i64; dsimp only; omega, by unfold i64; dsimp only; omega, hll, hbb, Nat.le_refl _, by dsimp only; omega, fun h => by cases h⟩, .inr ⟨0, rfl, rfl⟩⟩
                  · exact ⟨⟨by unfold i64; dsimp only; omega, by unfold i64; dsimp only; omega, hll, hbb, Nat.le_refl _, by dsimp only; omega, fun h => by cases h⟩, .inr ⟨0, rfl, rfl⟩⟩
                  · exact ⟨⟨by unfold i64; dsimp only; omega, by unfold i64; dsimp only; omega, hll, hbb, Nat.le_refl _, by dsimp only; omega, fun h => by cases h⟩, .inr ⟨0, rfl, rfl⟩⟩
                  · exact ⟨⟨by unfold i64; dsimp only; omega, by unfold i64; dsimp only; omega, by dsimp only; rw [List.length_drop]; omega, (fun b hb => hbb b (List.mem_of_mem_drop hb)), Nat.le_refl _, by first | omega | (dsimp only; omega), fun h => by cases h⟩, .inr ⟨1, rfl, rfl⟩⟩)
                clear hsz H7
                go_wp2_with (at_builtin; refine wpList_append_own_at _ rfl (.tmp 50) (.tmp 65) _ rfl w9.heap.size 36 j0 _ 3 40 Try.underlying29 hj0 hy0 hy1 hy2 rfl (by decide) _ _ _ rfl OWN.out.1 ⟨w6.heap.size, 0, none⟩ 4 4 [Value.int .i64 0, Value.int .i64 (j : Int), Value.slice (some ⟨g, 0, none⟩) (s + 1) (s + 1), Value.int .i64 1, Value.int .i64 0, Value.slice (some ⟨g, 0, none⟩) (s + 1) (s + 1), Value.int .i64 (1 + (j : Int) % 3 % 2), Value.int .i64 0, Value.slice (some ⟨g, 0, none⟩) (s + 1) (s + 1), Value.int .i64 1, Value.int .i64 0, Value.slice (some ⟨g, 1, none⟩) s s] rfl rfl NEW.out ?a2 ?a3 ?a4 ?a5 ?_)
                case a2 => intro u hu; simp at hu; rcases hu with rfl | rfl | rfl | rfl | rfl | rfl | rfl | rfl | rfl | rfl | rfl | rfl <;> rfl
                case a3 => have := HLJ.out; unfold maxLen; omega
                case a4 => have := HLJ.out; omega
                case a5 => exact OWN.out.2
                intro v1 w10 hown1 hg1 _ hat1
                have hK := H8.out.app [(⟨0, (j : Int), some ⟨g, 0, none⟩, s + 1, s + 1, bs2⟩ : Opn), ⟨1, 0, some ⟨g, 0, none⟩, s + 1, s + 1, bs2⟩, ⟨1 + (j : Int) % 3 % 2, 0, some ⟨g, 0, none⟩, s + 1, s + 1, bs2⟩, ⟨1, 0, some ⟨g, 1, none⟩, s, s, bs2.drop 1⟩] HXX.out (k := 4) rfl hown1 hg1 (hat1.imp id (fun e => ⟨_, e, by simp⟩))
                obtain ⟨av2, cv2, hv1, _, _⟩ := hK.form
                have HV1 := Lib.hid hv1
                have HKN := Lib.hid hK
                have HLN : Hid ((L ++ [(⟨0, (j : Int), some ⟨g, 0, none⟩, s + 1, s + 1, bs2⟩ : Opn), ⟨1, 0, some ⟨g, 0, none⟩, s + 1, s + 1, bs2⟩, ⟨1 + (j : Int) % 3 % 2, 0, some ⟨g, 0, none⟩, s + 1, s + 1, bs2⟩, ⟨1, 0, some ⟨g, 1, none⟩, s, s, bs2.drop 1⟩]).length = 4 * (j + 1)) := Lib.hid (by rw [List.length_append, HLJ.out]; simp; omega)
                clear hown1 hg1 hat1 hK H8 OWN NEW hv1
                generalize (L ++ [(⟨0, (j : Int), some ⟨g, 0, none⟩, s + 1, s + 1, bs2⟩ : Opn), ⟨1, 0, some ⟨g, 0, none⟩, s + 1, s + 1, bs2⟩, ⟨1 + (j : Int) % 3 % 2, 0, some ⟨g, 0, none⟩, s + 1, s + 1, bs2⟩, ⟨1, 0, some ⟨g, 1, none⟩, s, s, bs2.drop 1⟩]) = L2 at *
                go_wp2_with fail
                rw [HV1.out] at HKN ⊢
                clear HV1
                go_roundw
                case rel => exact ⟨j + 1, L2, av2, cv2, by omega, by go_num, HLN.out, rfl, HKN⟩
                case measure => simp [intOf]; omega
              · obtain rfl : s = 0 := by omega
                have H8 := Lib.hid (H7.out.grow ((Below.refl _ _).alloc (Nat.le_refl _) (.cells #[Value.int .i64 0, Value.int .i64 (j : Int), Value.slice (some ⟨g, 0, none⟩) 1 1, Value.int .i64 1, Value.int .i64 0, Value.slice (some ⟨g, 0, none⟩) 1 1, Value.int .i64 (1 + (j : Int) % 3 % 2), Value.int .i64 0, Value.slice (some ⟨g, 0, none⟩) 1 1, Value.int .i64 1, Value.int .i64 0, Value.slice (some ⟨g, 0, none⟩) 0 0] 36)))
                have OWN := Lib.hid H8.out.own
                have hsz : ((w6.setCell ⟨g, 0, none⟩ (.int .u8 ((j : Int) * 37 % 256))).setCell ⟨g, 0, none⟩ (.int .u8 x8)).heap.size = w6.heap.size := by simp
                have NEW : Hid (∀ (i : Nat) (u : Value), [Value.int .i64 0, Value.int .i64 (j : Int), Value.slice (some ⟨g, 0, none⟩) 1 1, Value.int .i64 1, Value.int .i64 0, Value.slice (some ⟨g, 0, none⟩) 1 1, Value.int .i64 (1 + (j : Int) % 3 % 2), Value.int .i64 0, Value.slice (some ⟨g, 0, none⟩) 1 1, Value.int .i64 1, Value.int .i64 0, Value.slice (some ⟨g, 0, none⟩) 0 0][i]? = some u → (((w6.setCell ⟨g, 0, none⟩ (.int .u8 ((j : Int) * 37 % 256))).setCell ⟨g, 0, none⟩ (.int .u8 x8)).alloc (.cells #[Value.int .i64 0, Value.int .i64 (j : Int), Value.slice (some ⟨g, 0, none⟩) 1 1, Value.int .i64 1, Value.int .i64 0, Value.slice (some ⟨g, 0, none⟩) 1 1, Value.int .i64 (1 + (j : Int) % 3 % 2), Value.int .i64 0, Value.slice (some ⟨g, 0, none⟩) 1 1, Value.int .i64 1, Value.int .i64 0, Value.slice (some ⟨g, 0, none⟩) 0 0] 36)).cell? ((⟨w6.heap.size, 0, none⟩ : Addr).add i) = some u) := Lib.hid (fun i u hu => by
                  rw [add_zero_at, ← hsz, (Bk.new ((w6.setCell ⟨g, 0, none⟩ (.int .u8 ((j : Int) * 37 % 256))).setCell ⟨g, 0, none⟩ (.int .u8 x8)) 36 #[Value.int .i64 0, Value.int .i64 (j : Int), Value.slice (some ⟨g, 0, none⟩) 1 1, Value.int .i64 1, Value.int .i64 0, Value.slice (some ⟨g, 0, none⟩) 1 1, Value.int .i64 (1 + (j : Int) % 3 % 2), Value.int .i64 0, Value.slice (some ⟨g, 0, none⟩) 1 1, Value.int .i64 1, Value.int .i64 0, Value.slice (some ⟨g, 0, none⟩) 0 0]).cell i, ← hu]
                  simp)
                have HXX : Hid (∀ x ∈ [(⟨0, (j : Int), some ⟨g, 0, none⟩, 1, 1, bs2⟩ : Opn), ⟨1, 0, some ⟨g, 0, none⟩, 1, 1, bs2⟩, ⟨1 + (j : Int) % 3 % 2, 0, some ⟨g, 0, none⟩, 1, 1, bs2⟩, ⟨1, 0, some ⟨g, 0, none⟩, 0, 0, []⟩], x.fits ∧ (x.bs = [] ∨ ∃ m, x.a = some ⟨g, m, none⟩ ∧ x.bs = bs2.drop m)) := Lib.hid (fun x hx => by
                  have hbb := HB2.out
                  have hll := HL2.out
                  simp only [List.mem_cons, List.not_mem_nil, or_false] at hx
                  rcases hx with rfl | rfl | rfl | rfl
                  · exact ⟨⟨by unfold i64; dsimp only; omega, by unfold i64; dsimp only; omega, hll, hbb, Nat.le_refl _, by dsimp only; omega, fun h => by cases h⟩, .inr ⟨0, rfl, rfl⟩⟩
                  · exact ⟨⟨by unfold i64; dsimp only; omega, by unfold i64; dsimp only; omega, hll, hbb, Nat.le_refl _, by dsimp only; omega, fun h => by cases h⟩, .inr ⟨0, rfl, rfl⟩⟩
                  · exact ⟨⟨by unfold i64; dsimp only; omega, by unfold i64; dsimp only; omega, hll, hbb, Nat.le_refl _, by dsimp only; omega, fun h => by cases h⟩, .inr ⟨0, rfl, rfl⟩⟩
                  · exact ⟨⟨by unfold i64; dsimp only; omega, by unfold i64; dsimp only; omega, rfl, (fun b hb => by cases hb), Nat.le_refl _, by first | omega | (dsimp only; omega), fun h => by cases h⟩, .inl rfl⟩)
                clear hsz H7
                go_wp2_with (at_builtin; refine wpList_append_own_at _ rfl (.tmp 50) (.tmp 65) _ rfl w9.heap.size 36 j0 _ 3 40 Try.underlying29 hj0 hy0 hy1 hy2 rfl (by decide) _ _ _ rfl OWN.out.1 ⟨w6.heap.size, 0, none⟩ 4 4 [Value.int .i64 0, Value.int .i64 (j : Int), Value.slice (some ⟨g, 0, none⟩) 1 1, Value.int .i64 1, Value.int .i64 0, Value.slice (some ⟨g, 0, none⟩) 1 1, Value.int .i64 (1 + (j : Int) % 3 % 2), Value.int .i64 0, Value.slice (some ⟨g, 0, none⟩) 1 1, Value.int .i64 1, Value.int .i64 0, Value.slice (some ⟨g, 0, none⟩) 0 0] rfl rfl NEW.out ?a2 ?a3 ?a4 ?a5 ?_)
                case a2 => intro u hu; simp at hu; rcases hu with rfl | rfl | rfl | rfl | rfl | rfl | rfl | rfl | rfl | rfl | rfl | rfl <;> rfl
                case a3 => have := HLJ.out; unfold maxLen; omega
                case a4 => have := HLJ.out; omega
                case a5 => exact OWN.out.2
                intro v1 w10 hown1 hg1 _ hat1
                have hK := H8.out.app [(⟨0, (j : Int), some ⟨g, 0, none⟩, 1, 1, bs2⟩ : Opn), ⟨1, 0, some ⟨g, 0, none⟩, 1, 1, bs2⟩, ⟨1 + (j : Int) % 3 % 2, 0, some ⟨g, 0, none⟩, 1, 1, bs2⟩, ⟨1, 0, some ⟨g, 0, none⟩, 0, 0, []⟩] HXX.out (k := 4) rfl hown1 hg1 (hat1.imp id (fun e => ⟨_, e, by simp⟩))
                obtain ⟨av2, cv2, hv1, _, _⟩ := hK.form
                have HV1 := Lib.hid hv1
                have HKN := Lib.hid hK
                have HLN : Hid ((L ++ [(⟨0, (j : Int), some ⟨g, 0, none⟩, 1, 1, bs2⟩ : Opn), ⟨1, 0, some ⟨g, 0, none⟩, 1, 1, bs2⟩, ⟨1 + (j : Int) % 3 % 2, 0, some ⟨g, 0, none⟩, 1, 1, bs2⟩, ⟨1, 0, some ⟨g, 0, none⟩, 0, 0, []⟩]).length = 4 * (j + 1)) := Lib.hid (by rw [List.length_append, HLJ.out]; simp; omega)
                clear hown1 hg1 hat1 hK H8 OWN NEW hv1
                generalize (L ++ [(⟨0, (j : Int), some ⟨g, 0, none⟩, 1, 1, bs2⟩ : Opn), ⟨1, 0, some ⟨g, 0, none⟩, 1, 1, bs2⟩, ⟨1 + (j : Int) % 3 % 2, 0, some ⟨g, 0, none⟩, 1, 1, bs2⟩, ⟨1, 0, some ⟨g, 0, none⟩, 0, 0, []⟩]) = L2 at *
                go_wp2_with fail
                rw [HV1.out] at HKN ⊢
                clear HV1
                go_roundw
                case rel => exact ⟨j + 1, L2, av2, cv2, by omega, by go_num, HLN.out, rfl, HKN⟩
                case measure => simp [intOf]; omega
            · have i5 : ¬ (j : Int) < 67 := by omega
              obtain rfl : j = 67 := by omega
              have hL : L.length = 268 := HLJ.out
              obtain ⟨_, _, e9, hcv, hcm⟩ := H4.out.form
              simp only [Value.slice.injEq] at e9
              obtain ⟨rfl, _, rfl⟩ := e9
              rw [hL] at H4 hcv ⊢
              have HLL := Lib.hid hL
              clear hL
              have ca := HCA.out _ H4.out.below
              have cb := HCB.out _ H4.out.below
              have i6 : (200 : Int) ≤ (cv : Int) := by omega
              go_wp2_with fail
              refine wp_region_held_drew (S := fun w' => w'.cell? ⟨gn, a, none⟩ = some (.int .i64 va) ∧ w'.cell? ⟨gn, b, none⟩ = some (.int .i64 vb)) (by kernel_rfl) ⟨ca, cb⟩ (fun g => ?_)
              have H5 := Lib.hid H4.out.drew
              clear H4 ca cb
              generalize wr.drew = z0 at *
              refine tq 0 ?_ rfl (by kernel_rfl) (fun _ _ _ h => h) (by rfl) g ?_ ?_; rotate_left
              · intro w9 h9; go_simp; try with_reducible rfl
              simp only [Act.put, ptA, ptB, ptC]
              refine tq 1 ?_ rfl (by kernel_rfl) (fun _ _ _ h => h) (by rfl) g ?_ ?_; rotate_left
              · intro w9 h9; go_simp; try with_reducible rfl
              simp only [Act.put, ptA, ptB, ptC]
              refine tq 2 ?_ rfl (by kernel_rfl) (fun _ _ _ h => h) (by rfl) g ?_ ?_; rotate_left
              · intro w9 h9; go_simp; try with_reducible rfl
              simp only [Act.put, ptA, ptB, ptC]
              refine tq 3 ?_ rfl (by kernel_rfl) (fun _ _ _ h => h) (by rfl) g ?_ ?_; rotate_left
              · intro w9 h9; obtain ⟨h91, h92⟩ := h9; go_simp; try with_reducible rfl
              simp only [Act.put, ptA, ptB, ptC]
              refine tq 4 ?_ rfl (by kernel_rfl) (fun _ _ _ h => h) (by rfl) g ?_ ?_; rotate_left
              · intro w9 h9; go_simp; try with_reducible rfl
              simp only [Act.put, ptA, ptB, ptC]
              refine tq 5 ?_ rfl (by kernel_rfl) (fun _ _ _ h => h) (by rfl) g ?_ ?_; rotate_left
              · intro w9 h9; go_simp; try with_reducible rfl
              simp only [Act.put, ptA, ptB, ptC]
              refine tq 6 ?_ rfl (by kernel_rfl) (fun _ _ _ h => h) (by rfl) g ?_ ?_; rotate_left
              · intro w9 h9; go_simp; try with_reducible rfl
              simp only [Act.put, ptA, ptB, ptC]
              refine tq 7 ?_ rfl (by kernel_rfl) (fun _ _ _ h => h) (by rfl) g ?_ ?_; rotate_left
              · intro w9 h9; obtain ⟨h91, h92⟩ := h9; go_simp; try with_reducible rfl
              simp only [Act.put, ptA, ptB, ptC]
              refine tq 8 ?_ rfl (by kernel_rfl) (fun _ _ _ h => h) (by rfl) g ?_ ?_; rotate_left
              · intro w9 h9; go_simp; try with_reducible rfl
              simp only [Act.put, ptA, ptB, ptC]
              refine tq 9 ?_ rfl (by kernel_rfl) (fun _ _ _ h => h) (by rfl) g ?_ ?_; rotate_left
              · intro w9 h9; go_simp; try with_reducible rfl
              simp only [Act.put, ptA, ptB, ptC]
              refine tc 10 rfl (by kernel_rfl) (fun K9 hK => ?_)
              go_simp
              have hop := H5.out.ops 200
              with_reducible refine (hashRuns.walk va vb av 200 cv (L.take 200) z0 wa wb (by rw [List.length_take, HLL.out]; decide) hop.2 (by omega) (by have := hcm; unfold maxLen at this; omega) hop.1).mono ?_
              rintro e z1 ⟨rfl, q⟩
              have H6 := Lib.hid (H5.out.grow q)
              clear q H5 hop
              have ca := HCA.out _ H6.out.below
              have cb := HCB.out _ H6.out.below
              go_simp
              refine hK.out _ _ ⟨ca, cb⟩ (fun g1 => ?_)
              clear hK K9 g ca cb
              have g := g1
              clear g1
              refine tq 11 ?_ rfl (by kernel_rfl) (fun _ _ _ h => h) (by rfl) g ?_ ?_; rotate_left
              · intro w9 h9; go_simp; try with_reducible rfl
              simp only [Act.put, ptA, ptB, ptC]
              refine tq 12 ?_ rfl (by kernel_rfl) (fun _ _ _ h => h) (by rfl) g ?_ ?_; rotate_left
              · intro w9 h9; go_simp; try with_reducible rfl
              simp only [Act.put, ptA, ptB, ptC]
              refine tq 13 ?_ rfl (by kernel_rfl) (fun _ _ _ h => h) (by rfl) g ?_ ?_; rotate_left
              · intro w9 h9; go_simp; try with_reducible rfl
              simp only [Act.put, ptA, ptB, ptC]
              refine tq 14 ?_ rfl (by kernel_rfl) (fun _ _ _ h => h) (by rfl) g ?_ ?_; rotate_left
              · intro w9 h9; go_simp; try with_reducible rfl
              simp only [Act.put, ptA, ptB, ptC]
              refine tq 15 ?_ rfl (by kernel_rfl) (fun _ _ _ h => h) (by rfl) g ?_ ?_; rotate_left
              · intro w9 h9; go_simp; try with_reducible rfl
              simp only [Act.put, ptA, ptB, ptC]
              refine tq 16 ?_ rfl (by kernel_rfl) (fun _ _ _ h => h) (by rfl) g ?_ ?_; rotate_left
              · intro w9 h9; obtain ⟨h91, h92⟩ := h9; go_simp; try with_reducible rfl
              simp only [Act.put, ptA, ptB, ptC]
              refine tq 17 ?_ rfl (by kernel_rfl) (fun _ _ _ h => h) (by rfl) g ?_ ?_; rotate_left
              · intro w9 h9; go_simp; try with_reducible rfl
              simp only [Act.put, ptA, ptB, ptC]
              refine tq 18 ?_ rfl (by kernel_rfl) (fun _ _ _ h => h) (by rfl) g ?_ ?_; rotate_left
              · intro w9 h9; go_simp; try with_reducible rfl
              simp only [Act.put, ptA, ptB, ptC]
              refine tq 19 ?_ rfl (by kernel_rfl) (fun _ _ _ h => h) (by rfl) g ?_ ?_; rotate_left
              · intro w9 h9; go_simp; try with_reducible rfl
              simp only [Act.put, ptA, ptB, ptC]
              refine tq 20 ?_ rfl (by kernel_rfl) (fun _ _ _ h => h) (by rfl) g ?_ ?_; rotate_left
              · intro w9 h9; obtain ⟨h91, h92⟩ := h9; go_simp; try with_reducible rfl
              simp only [Act.put, ptA, ptB, ptC]
              refine tq 21 ?_ rfl (by kernel_rfl) (fun _ _ _ h => h) (by rfl) g ?_ ?_; rotate_left
              · intro w9 h9; go_simp; try with_reducible rfl
              simp only [Act.put, ptA, ptB, ptC]
              refine tc 22 rfl (by kernel_rfl) (fun K9 hK => ?_)
              go_simp
              have hop := H6.out.ops 268
              rw [List.take_of_length_le (by rw [HLL.out]; omega)] at hop
              with_reducible refine (hashHolds.walk va vb av 268 cv L z1 wa wb HLL.out hop.2 hcv (by have := hcm; unfold maxLen at this; omega) hop.1).mono ?_
              rintro e z2 ⟨rfl, q⟩
              have H7 := Lib.hid (H6.out.grow q).below
              clear q H6 hop
              have ca := HCA.out _ H7.out
              have cb := HCB.out _ H7.out
              go_simp
              refine hK.out _ _ ⟨ca, cb⟩ (fun g1 => ?_)
              clear hK K9 g ca cb
              have g := g1
              clear g1
              refine tq 23 ?_ rfl (by kernel_rfl) (fun _ _ _ h => h) (by rfl) g ?_ ?_; rotate_left
              · intro w9 h9; go_simp; try with_reducible rfl
              simp only [Act.put, ptA, ptB, ptC]
              refine tq 24 ?_ rfl (by kernel_rfl) (fun _ _ _ h => h) (by rfl) g ?_ ?_; rotate_left
              · intro w9 h9; go_simp; try with_reducible rfl
              simp only [Act.put, ptA, ptB, ptC]
              refine wpAnyH_done (by kernel_rfl) ?_ _
              clear g
              go_wp2
              go_roundw
              case rel => exact ⟨b + 1, by omega, by go_num, H7⟩
              case measure => simp [intOf]; omega
        · have i3 : ¬ (b : Int) < 13 := by omega
          have ca := HCA.out _ H2.out
          obtain ⟨m, hm, hm70⟩ : ∃ m : Nat, max 0 (min va 70) = (m : Int) ∧ m ≤ 70 := ⟨(max 0 (min va 70)).toNat, by omega, by omega⟩
          go_wp2_with fail
          with_reducible refine (row_any m (by omega) _).mono ?_
          rintro e z1 ⟨v, rfl, q⟩
          have hnil : v = .slice none 0 0 ∧ (rowB m).length = 0 ∨ ∃ ad c, v = .slice (some ad) (rowB m).length c := by
            rcases q.own.2 with h | ⟨g, cap, cur, e, _⟩
            · exact .inl h
            · exact .inr ⟨_, _, e⟩
          obtain ⟨ax, cx, rfl, cx1, cx2, _⟩ := own_form q.own
          have hz : ax = none → (rowB m).length = 0 ∧ cx = 0 := fun h => by
            rcases hnil with ⟨e, h2⟩ | ⟨ad, c, e⟩
            · simp only [Value.slice.injEq] at e
              exact ⟨h2, e.2.2⟩
            · simp only [Value.slice.injEq] at e
              rw [h] at e
              cases e.1
          have HR := Lib.hid (Rd.of_own q.own)
          have HB3 := Lib.hid (H2.out.trans (q.below.mono H2.out.size))
          clear q hnil ca H2 hm
          go_wp2_with fail
          with_reducible refine (hashSums.walk ax (rowB m).length cx (rowB m) z1 rfl (rowB_ok m) cx1 (by have := cx2; unfold maxLen at this; omega) hz HR.out).mono ?_
          rintro e z2 ⟨rfl, q⟩
          have HB4 := Lib.hid (HB3.out.trans (q.mono HB3.out.size))
          clear q HB3 HR
          go_wp2
          go_roundw
          case rel => exact ⟨a + 1, by omega, by go_num, HB4⟩
          case measure => simp [intOf]; omega
    · have i1 : ¬ (a : Int) < 13 := by omega
      have kc := fun (w : World) (C : Array Value) (n c : Nat) => Lib.run_convert_bytes_const (P := Try.prog) w 22 5 C n c Try.underlying22 Try.underlying5
      go_wp2_with fail
      refine (sum_p (some ⟨wr.heap.size, 0, none⟩) 1 1 [97] rfl (by omega) (fun x hx => by rw [List.mem_singleton] at hx; omega) _ (lit_mark wr [97] _)).mono ?_
      rintro e z1 ⟨rfl, hw'⟩
      rw [fnv_a]
      have B1 : Hid (Below w9.heap.size w9 z1) := Lib.hid (by rw [← hw']; exact H1.out.trans (((Below.refl _ _).alloc (Nat.le_refl _) _).mono H1.out.size))
      clear hw' H1
      go_wp2_with fail
      refine (sum_p (some ⟨z1.heap.size, 0, none⟩) 6 6 [102, 111, 111, 98, 97, 114] rfl (by omega) (fun x hx => by simp only [List.mem_cons, List.not_mem_nil, or_false] at hx; omega) _ (lit_mark z1 [102, 111, 111, 98, 97, 114] _)).mono ?_
      rintro e z2 ⟨rfl, hw'⟩
      rw [fnv_foobar]
      have B2 : Hid (Below w9.heap.size w9 z2) := Lib.hid (by rw [← hw']; exact B1.out.trans (((Below.refl _ _).alloc (Nat.le_refl _) _).mono B1.out.size))
      clear hw' B1 kc
      go_wp2_with fail
      obtain ⟨T4, B4⟩ := txt4 z2
      refine (hashWears.walk (some ⟨z2.heap.size + 1 + 1 + 1 + 1, 0, none⟩) 4 4 [[0, 0], [1, 2], [7, 7], [0, 1]] none 0 0 [] _ rfl (fun l hl => by simp only [List.mem_cons, List.not_mem_nil, or_false] at hl; rcases hl with rfl | rfl | rfl | rfl <;> exact ⟨fun b hb => by simp only [List.mem_cons, List.not_mem_nil, or_false] at hb; omega, by decide⟩) (by omega) (by omega) T4 rfl (fun b hb => by cases hb) (by omega) (by omega) (fun _ => ⟨rfl, rfl⟩) Rd.nil).mono ?_
      rintro e z3 ⟨rfl, q⟩
      have B5 : Hid (Below w9.heap.size w9 z3) := Lib.hid ((B2.out.trans (B4.mono B2.out.size)).trans (q.mono (by have := B2.out.size; have := B4.size; omega)))
      clear q T4 B4 B2
      go_wp2_with fail
      with_reducible refine (works_c _).mono ?_
      rintro e z4 ⟨rfl, q⟩
      have B6 : Hid (Below w.heap.size w z4) := Lib.hid (by
        have h1 := B5.out.trans (q.mono B5.out.size)
        have h2 := HBW.out
        rw [← HGN.out] at h2
        exact h2.trans (h1.mono h2.size))
      clear q B5
      go_wp2
      go_ret
      exact ⟨rfl, B6.out⟩

set_option maxRecDepth 100000 in
theorem lifted (os : Os) (started : os.Started) (H : Type) (enc : TypeId × Value → H) :
    ReturnsInHanded {} Try.checked os 7 .any (Rows.hashKnownSpec.pre6 enc Try.prog Try.f7 Rows.hashKnownRow.domain false) (Rows.hashKnownSpec.post enc Try.prog Try.f7 false true false false) := by
  refine returnsInHanded_of_change (C := Try.checked) own started (by kernel_rfl) Try.func7
    (ChangeSpec.witness6 (enc := enc) (C := Try.checked) false ⟨#[], #[], []⟩ 8 (by kernel_rfl) (by kernel_rfl) (by kernel_rfl) (by kernel_rfl)) ?_
  intro W base args ds gs before hval0 hW hcnd _
  have hval : ∀ (j : Nat) t v, Try.f7.params[j]? = some t → args[j]? = some v → Value.okWide Try.prog W .any base t v := hval0
  have hW' := hW
  obtain ⟨p, q, hA0, hV, rfl, hfz, hnd⟩ := hW
  have hA : DataW.TrodAll enc Try.prog W 0 (fun _ => true) true Try.f7.params.toList args.toList ds p := hA0
  rw [Try.params7] at hA hval
  obtain ⟨hargs, rfl, rfl⟩ := trodAll_nil hA
  obtain rfl : args = #[] := by cases args; simp_all
  obtain ⟨rfl, rfl⟩ := trodVars_none hV
  clear hA0 hval0
  refine (walk  W ).mono fun e W' ⟨he, bel⟩ => ?_
  subst he
  exact ⟨_, rfl, _, _, _, [], _, [], hW', trodAll_mk1 (shut_bool Try.underlying4 _), trodAll_mk0, rfl, bel.frame _, fun h => by cases h⟩

theorem over : Rows.hashKnownRow.holds Try.pinned (OpenSpec.ofChange Rows.hashKnownSpec) :=
  OpenClaim.holds_of_wide 7 Try.f7 rfl rfl rfl rfl rfl rfl rfl ⟨rfl, rfl, rfl, rfl, rfl⟩ rfl rfl rfl rfl rfl (by kernel_rfl) Try.func7 (by kernel_rfl)
    (of_decide_eq_true (by kernel_rfl)) (by unfold Func.isWrapper; first | (rw [if_pos (by decide +kernel)]; kernel_rfl) | (rw [if_neg (by decide +kernel)]; exact ⟨rfl, rfl⟩))
    (fun os started H enc _ => lifted os started H enc)

theorem proved : Rows.HashKnownSaid := over
#print axioms proved
end Go.Proofs.Ytkaapphlnolelaa.hashKnown
