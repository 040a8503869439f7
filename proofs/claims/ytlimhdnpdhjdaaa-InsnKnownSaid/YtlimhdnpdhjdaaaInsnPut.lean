/-
  What the program's package insn appends (appendLowest, appendInsn): contracts. Conditions: the numbers are of 64 bits; the slice is the calls' own.
-/
import Derived.Test.YtlimhdnpdhjdaaaInsnCheck
import Derived.Test.YtlimhdnpdhjdaaaInsnBytes
import Derived.Test.YtlimhdnpdhjdaaaOwn
namespace Go.Proofs.Ytlimhdnpdhjdaaa
open Go.RowKit Wi Ow
set_option linter.unusedVariables false
set_option linter.unusedSimpArgs false

theorem byte_info : (Try.prog.info? 5).map (fun i => (i.zero, i.size, i.bytes)) = some (some (.int .u8 0), 1, 1) := by kernel_rfl
def bv (l : List Int) : List Value := l.map (Value.int .u8)
theorem bv_len (l : List Int) : (bv l).length = l.length := by unfold bv; simp
theorem bv_app (l m : List Int) : bv (l ++ m) = bv l ++ bv m := by unfold bv; simp
theorem bv_one (l : List Int) : ∀ u ∈ bv l, u.oneCell' = true := ints_oneCell _ _

/-- One append behind a block for what is appended. -/
theorem apd_step {w wr w1 : World} {o : Obj} {vb b v' : Value} (ha : Apd w wr vb b) (hg : (wr.alloc o).grownBy w1 b.ownBlock) (hat : v'.ownBlock = b.ownBlock ∨ v'.ownBlock = some (wr.heap.size + 1)) : Apd w w1 vb v' :=
  (ha.trans (Apd.alloc wr o b)).trans (own_apd_of hg (by simpa using hat))
set_option maxHeartbeats 1000000 in
theorem low_any (base : Nat) (vb : Value) (xs : List Int) (v : Int) (n : Nat) (h1 : -9223372036854775808 ≤ v) (h2 : v ≤ 9223372036854775807) (hn : n ≤ 8) (hx : xs.length ≤ 1000000)
    (w : World) (hown : w.ownsRow base 5 1 vb xs.length (bv xs)) (hb : base ≤ w.heap.size) :
    Calls Try.prog 54 #[vb, .int .i64 v, .int .i64 n] w fun e w' => ∃ v', e = .returned v' ∧ w'.ownsRow base 5 1 v' (xs ++ lowB v n).length (bv (xs ++ lowB v n)) ∧ Apd w w' vb v' := by
  obtain ⟨i0, hi0, hz0, hz1, hz2⟩ := info_parts byte_info
  have HO := Lib.hid hown
  clear hown
  go_enter Try.func54, Try.ntmps54
  go_wp2
  go_loopw [0, 1, 8] (fun b t i wr => ∃ k : Nat, k ≤ n ∧ i = .int .i64 k ∧ t = .int .i64 (shv v k) ∧ Hid (wr.ownsRow base 5 1 b (xs ++ lowB v k).length (bv (xs ++ lowB v k))) ∧ Hid (Apd w wr vb b)) (fun _ _ i _ => n - (intOf i).toNat)
  case atStart => exact ⟨0, Nat.zero_le _, rfl, by rw [shv_zero], Lib.hid (by rw [lowB_zero, List.append_nil]; exact HO.out), Lib.hid (Apd.refl _ _)⟩
  case round =>
    obtain ⟨k, hk, rfl, rfl, ho, ha⟩ := hrel
    have hv := shv_bd v k h1 h2
    by_cases hlt : k < n
    · have hl : (xs ++ lowB v k).length = xs.length + k := by rw [List.length_append, lowB_len]
      have HL := Lib.hid hl
      clear hl
      go_wp2_with (at_builtin; refine wpList_append_own_at _ rfl (.tmp 10) (.tmp 13) _ rfl base 5 i0 _ 1 1 Try.underlying31 hi0 hz0 hz1 hz2 rfl (by decide) _ _ _ rfl (ho.out.alloc _) ⟨wr.heap.size, 0, none⟩ 1 1 _ rfl rfl (cell_one_new _ _ _) ?c2 ?c3 ?c4 ?c5 ?_)
      case c2 => intro u hu; simp at hu; subst hu; rfl
      case c3 => rw [HL.out]; unfold maxLen; omega
      case c4 => rw [HL.out]; omega
      case c5 => have := ha.out.size; simp; omega
      intro v1 w1 hown1 hg1 _ hat1
      have R1 := Lib.hid (apd_step ha.out hg1 hat1)
      have R2 := Lib.hid hown1
      clear hown1 hg1 hat1 ha ho
      go_wp2
      go_roundw
      case rel => exact ⟨k + 1, by omega, by go_num, by rw [shv_succ], Lib.hid (own_cast R2.out (by simp [lowB_succ, Nat.add_assoc]) (by simp [lowB_succ, bv])), R1⟩
      case measure => simp [intOf]; omega
    · obtain rfl : k = n := by omega
      go_wp2
      go_ret
      exact ⟨_, rfl, ho.out, ha.out⟩
theorem reg_byte (src dst : Int) (h1 : 0 ≤ src) (h2 : src ≤ 10) (h3 : 0 ≤ dst) (h4 : dst ≤ 10) : bits BinOp.or IntKind.i64 (src * 16) dst = 16 * src + dst := by
  obtain ⟨a, rfl⟩ := Int.eq_ofNat_of_zero_le h1
  obtain ⟨b, rfl⟩ := Int.eq_ofNat_of_zero_le h3
  have h : ∀ a b : Fin 11, bits BinOp.or IntKind.i64 (((a.val : Nat) : Int) * 16) ((b.val : Nat) : Int) = 16 * ((a.val : Nat) : Int) + ((b.val : Nat) : Int) := by decide +kernel
  exact h ⟨a, by omega⟩ ⟨b, by omega⟩
theorem box_cells {w : World} {b : Nat} {op dst src off imm : Int} (h : Bk w b 23 #[.int .i64 op, .int .i64 dst, .int .i64 src, .int .i64 off, .int .i64 imm]) :
    w.cell? ⟨b, 0, none⟩ = some (.int .i64 op) ∧ w.cell? ⟨b, 1, none⟩ = some (.int .i64 dst) ∧ w.cell? ⟨b, 2, none⟩ = some (.int .i64 src) ∧ w.cell? ⟨b, 3, none⟩ = some (.int .i64 off) ∧ w.cell? ⟨b, 4, none⟩ = some (.int .i64 imm) :=
  ⟨h.cell 0, h.cell 1, h.cell 2, h.cell 3, h.cell 4⟩
set_option maxHeartbeats 1000000 in
theorem appi_any (base : Nat) (vb : Value) (xs : List Int) (op dst src off imm : Int) (g1 : 0 ≤ op) (g2 : op ≤ 255) (g3 : 0 ≤ dst) (g4 : dst ≤ 10) (g5 : 0 ≤ src) (g6 : src ≤ 10) (ho : i64 off) (hi : i64 imm) (hx : xs.length ≤ 900000)
    (w : World) (hown : w.ownsRow base 5 1 vb xs.length (bv xs)) (hb : base ≤ w.heap.size) :
    Calls Try.prog 40 #[vb, .agg #[.int .i64 op, .int .i64 dst, .int .i64 src, .int .i64 off, .int .i64 imm]] w fun e w' => ∃ v', e = .returned v' ∧ w'.ownsRow base 5 1 v' (xs ++ oneB op dst src off imm).length (bv (xs ++ oneB op dst src off imm)) ∧ Apd w w' vb v' := by
  obtain ⟨i0, hi0, hz0, hz1, hz2⟩ := info_parts byte_info
  have hne := Lib.hid (own_lt hown (b := w.heap.size) (Nat.le_refl _))
  have HO := Lib.hid hown
  have er := reg_byte src dst g5 g6 g3 g4
  clear hown
  go_enter Try.func40, Try.ntmps40
  go_wp2_with (at_builtin; refine wpList_append_own_at _ rfl (.tmp 5) (.tmp 16) _ rfl base 5 i0 _ 1 1 Try.underlying31 hi0 hz0 hz1 hz2 rfl (by decide) _ _ _ rfl ((HO.out.alloc _).alloc _) ⟨w.heap.size + 1, 0, none⟩ 2 2 [.int .u8 op, .int .u8 (16 * src + dst)] rfl rfl ?c1 ?c2 ?c3 ?c4 ?c5 ?_)
  case c1 => exact new_cells' _ #[.int .u8 op, .int .u8 (16 * src + dst)] (by simp)
  case c2 => intro u hu; simp at hu; rcases hu with rfl | rfl <;> rfl
  case c3 => unfold maxLen; omega
  case c4 => omega
  case c5 => simp; omega
  intro v1 w1 hown1 hg1 _ hat1
  have A1 : Hid (Apd w w1 vb v1) := Lib.hid (((Apd.alloc w _ vb).trans (Apd.alloc _ _ vb)).trans (own_apd_of hg1 (by simpa using hat1)))
  have O1 : Hid (w1.ownsRow base 5 1 v1 (xs ++ [op, 16 * src + dst]).length (bv (xs ++ [op, 16 * src + dst]))) := Lib.hid (own_cast hown1 (by simp) (by simp [bv]))
  have K1 : Hid (Bk w1 w.heap.size 23 #[.int .i64 op, .int .i64 dst, .int .i64 src, .int .i64 off, .int .i64 imm]) := Lib.hid (((Bk.new w _ _).alloc _).apd ⟨hg1, by simpa using hat1.imp id fun h => ⟨_, h, by simp⟩⟩ hne.out)
  have N1 : Hid (v1.ownBlock ≠ some w.heap.size) := Lib.hid (apd_ne (w := (w.alloc (.cells #[.int .i64 op, .int .i64 dst, .int .i64 src, .int .i64 off, .int .i64 imm] 23))) ((Apd.alloc _ _ vb).trans (own_apd_of hg1 (by simpa using hat1))) hne.out (by simp))
  clear hown1 hg1 hat1
  obtain ⟨c10, c11, c12, c13, c14⟩ := box_cells K1.out
  go_wp2_with fail
  refine (low_any base _ (xs ++ [op, 16 * src + dst]) off 2 ho.1 ho.2 (by omega) (by simp [lowB_len]; omega) _ O1.out (by have := A1.out.size; omega)).mono ?_
  rintro e w2 ⟨v2, rfl, q1, q2⟩
  have O2 := Lib.hid q1
  have A2 := Lib.hid (A1.out.trans q2)
  have K2 := Lib.hid (K1.out.apd q2 N1.out)
  have N2 := Lib.hid (apd_ne q2 N1.out K1.out.lt)
  clear q1 q2 O1 A1 K1 N1 c10 c11 c12 c13 c14
  obtain ⟨c20, c21, c22, c23, c24⟩ := box_cells K2.out
  go_wp2_with fail
  refine (low_any base _ ((xs ++ [op, 16 * src + dst]) ++ lowB off 2) imm 4 hi.1 hi.2 (by omega) (by simp [lowB_len]; omega) _ O2.out (by have := A2.out.size; omega)).mono ?_
  rintro e w3 ⟨v3, rfl, q1, q2⟩
  have O3 := Lib.hid q1
  have A3 := Lib.hid (A2.out.trans q2)
  have K3 := Lib.hid (K2.out.apd q2 N2.out)
  have N3 := Lib.hid (apd_ne q2 N2.out K2.out.lt)
  clear q1 q2 O2 A2 K2 N2 c20 c21 c22 c23 c24
  obtain ⟨c30, c31, c32, c33, c34⟩ := box_cells K3.out
  go_wp2_with fail
  refine (size_any op dst src off imm _).mono ?_
  rintro e w4 ⟨rfl, q1⟩
  have O4 := Lib.hid (own_below O3.out q1)
  have A4 := Lib.hid (A3.out.trans (Apd.of_below q1 v3))
  have K4 := Lib.hid (K3.out.below q1 K3.out.lt)
  have N4 := N3
  clear q1 O3 A3 K3 N3 c30 c31 c32 c33 c34
  obtain ⟨c40, c41, c42, c43, c44⟩ := box_cells K4.out
  by_cases h24 : op = 24
  · have es : sizeV op = 2 := if_pos h24
    have HS := Lib.hid h24
    clear h24
    go_wp2_with fail

    refine (low_any base v3 (((xs ++ [op, 16 * src + dst]) ++ lowB off 2) ++ lowB imm 4) 0 4 (by omega) (by omega) (by omega) (by simp [lowB_len]; omega) _ O4.out (by have := A4.out.size; omega)).mono ?_
    rintro e w5 ⟨v5, rfl, q1, q2⟩
    have O5 := Lib.hid q1
    have A5 := Lib.hid (A4.out.trans q2)
    have K5 := Lib.hid (K4.out.apd q2 N4.out)
    have N5 := Lib.hid (apd_ne q2 N4.out K4.out.lt)
    clear q1 q2 O4 A4 K4 N4 c40 c41 c42 c43 c44
    obtain ⟨c50, c51, c52, c53, c54⟩ := box_cells K5.out
    go_wp2_with fail
    refine (low_any base _ ((((xs ++ [op, 16 * src + dst]) ++ lowB off 2) ++ lowB imm 4) ++ lowB 0 4) (imm / 4294967296) 4 (by have := hi.1; omega) (by have := hi.2; omega) (by omega) (by simp [lowB_len]; omega) _ O5.out (by have := A5.out.size; omega)).mono ?_
    rintro e w6 ⟨v6, rfl, q1, q2⟩
    have O6 := Lib.hid q1
    have A6 := Lib.hid (A5.out.trans q2)
    have K6 := Lib.hid (K5.out.apd q2 N5.out)
    have N6 := Lib.hid (apd_ne q2 N5.out K5.out.lt)
    clear q1 q2 O5 A5 K5 N5 c50 c51 c52 c53 c54
    obtain ⟨c60, c61, c62, c63, c64⟩ := box_cells K6.out
    go_wp2
    go_ret
    have e : oneB op dst src off imm = [op, 16 * src + dst] ++ lowB off 2 ++ lowB imm 4 ++ (lowB 0 4 ++ lowB (imm / 4294967296) 4) := by unfold oneB; rw [if_pos HS.out]
    exact ⟨_, rfl, own_cast O6.out (by rw [e]; simp) (by rw [e]; simp), A6.out⟩
  · have es : sizeV op = 1 := if_neg h24
    have HS := Lib.hid h24
    clear h24
    go_wp2
    go_ret
    have e : oneB op dst src off imm = [op, 16 * src + dst] ++ lowB off 2 ++ lowB imm 4 := by unfold oneB; rw [if_neg HS.out]; simp
    exact ⟨_, rfl, own_cast O4.out (by rw [e]; simp) (by rw [e]; simp), A4.out⟩
end Go.Proofs.Ytlimhdnpdhjdaaa
