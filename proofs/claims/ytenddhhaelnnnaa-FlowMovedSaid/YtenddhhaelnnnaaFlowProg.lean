/-
  What the program's package flow tells of an instruction and of lists (isOfJumps, isJump, jumps, valueAt, inside): contracts. Conditions: operations of a byte.
-/
import Derived.Test.YtenddhhaelnnnaaFlowBase
namespace Go.Proofs.Ytenddhhaelnnnaa
open Go.RowKit Wi Ow Fl
set_option linter.unusedVariables false
set_option linter.unusedSimpArgs false

theorem isof_any (op dst src off imm : Int) (h1 : 0 ≤ op) (h2 : op ≤ 255) (w : World) :
    Calls Try.prog 42 #[.agg #[.int .i64 op, .int .i64 dst, .int .i64 src, .int .i64 off, .int .i64 imm]] w fun e w' => e = .returned (.bool (isJ op)) ∧ Below w.heap.size w w' := by
  have e7 := and7 op h1 h2
  go_enter Try.func42, Try.ntmps42
  go_wp2
  all_goals
    go_ret
    refine ⟨rt_b ?_, (Below.refl _ _).alloc (Nat.le_refl _) _⟩
    unfold isJ
    simp_all
theorem isjump_no (op dst src off imm o : Int) (h1 : 0 ≤ op) (h2 : op ≤ 255) (h : isJ op = false) (w : World) :
    Calls Try.prog 33 #[.agg #[.int .i64 op, .int .i64 dst, .int .i64 src, .int .i64 off, .int .i64 imm], .int .i64 o] w fun e w' => e = .returned (.bool (isOp op o)) ∧ Below w.heap.size w w' := by
  have hr : isOp op o = false := by unfold isOp; rw [h]; rfl
  rw [hr]
  go_enter Try.func33, Try.ntmps33
  go_wp2_with fail
  refine (isof_any op dst src off imm h1 h2 _).mono ?_
  rintro e w1 ⟨rfl, q⟩
  go_wp2
  go_ret
  exact ⟨rfl, below_box q⟩
theorem isjump_yes (op dst src off imm o : Int) (h1 : 0 ≤ op) (h2 : op ≤ 255) (h : isJ op = true) (w : World) :
    Calls Try.prog 33 #[.agg #[.int .i64 op, .int .i64 dst, .int .i64 src, .int .i64 off, .int .i64 imm], .int .i64 o] w fun e w' => e = .returned (.bool (isOp op o)) ∧ Below w.heap.size w w' := by
  have hr : isOp op o = (op / 16 == o) := by unfold isOp; rw [h]; rfl
  rw [hr]
  clear hr
  go_enter Try.func33, Try.ntmps33
  go_wp2_with fail
  refine (isof_any op dst src off imm h1 h2 _).mono ?_
  rintro e w1 ⟨rfl, q⟩
  have K := (Bk.new w 42 #[.int .i64 op, .int .i64 dst, .int .i64 src, .int .i64 off, .int .i64 imm]).below q (by simp)
  obtain ⟨d0, d1, d2, d3, d4⟩ := box_cells K
  have B := Lib.hid (below_box q)
  clear q K
  go_wp2
  go_ret
  exact ⟨rfl, B.out⟩
theorem isjump_any (op dst src off imm o : Int) (h1 : 0 ≤ op) (h2 : op ≤ 255) (w : World) :
    Calls Try.prog 33 #[.agg #[.int .i64 op, .int .i64 dst, .int .i64 src, .int .i64 off, .int .i64 imm], .int .i64 o] w fun e w' => e = .returned (.bool (isOp op o)) ∧ Below w.heap.size w w' := by
  cases h : isJ op
  · exact isjump_no op dst src off imm o h1 h2 h w
  · exact isjump_yes op dst src off imm o h1 h2 h w
theorem jumps_any (op dst src off imm : Int) (h1 : 0 ≤ op) (h2 : op ≤ 255) (w : World) :
    Calls Try.prog 31 #[.agg #[.int .i64 op, .int .i64 dst, .int .i64 src, .int .i64 off, .int .i64 imm]] w fun e w' => e = .returned (.bool (jmpV op)) ∧ Below w.heap.size w w' := by
  cases h : isJ op
  · have hr : jmpV op = false := by unfold jmpV; rw [h]; rfl
    rw [hr]
    clear hr
    go_enter Try.func31, Try.ntmps31
    go_wp2_with fail
    refine (isof_any op dst src off imm h1 h2 _).mono ?_
    rintro e w1 ⟨rfl, q⟩
    go_wp2
    go_ret
    exact ⟨rfl, below_box q⟩
  · have hr : jmpV op = (!(isOp op 8) && !(isOp op 9)) := by unfold jmpV; rw [h]; rfl
    rw [hr]
    clear hr
    cases h8 : isOp op 8
    · go_enter Try.func31, Try.ntmps31
      go_wp2_with fail
      refine (isof_any op dst src off imm h1 h2 _).mono ?_
      rintro e w1 ⟨rfl, q⟩
      have K := Lib.hid ((Bk.new w 42 #[.int .i64 op, .int .i64 dst, .int .i64 src, .int .i64 off, .int .i64 imm]).below q (by simp))
      obtain ⟨d0, d1, d2, d3, d4⟩ := box_cells K.out
      have B := Lib.hid (below_box q)
      clear q
      go_wp2_with fail
      refine (isjump_any op dst src off imm 8 h1 h2 _).mono ?_
      rintro e w2 ⟨rfl, q⟩
      have K2 := Lib.hid (K.out.below q K.out.lt)
      have B2 := Lib.hid (below_then B.out q (Nat.le_refl _))
      clear q d0 d1 d2 d3 d4 K B
      obtain ⟨d0, d1, d2, d3, d4⟩ := box_cells K2.out
      go_wp2_with fail
      refine (isjump_any op dst src off imm 9 h1 h2 _).mono ?_
      rintro e w3 ⟨rfl, q⟩
      have B3 := Lib.hid (below_then B2.out q (Nat.le_refl _))
      clear q
      go_wp2
      go_ret
      exact ⟨rfl, B3.out⟩
    · go_enter Try.func31, Try.ntmps31
      go_wp2_with fail
      refine (isof_any op dst src off imm h1 h2 _).mono ?_
      rintro e w1 ⟨rfl, q⟩
      have K := Lib.hid ((Bk.new w 42 #[.int .i64 op, .int .i64 dst, .int .i64 src, .int .i64 off, .int .i64 imm]).below q (by simp))
      obtain ⟨d0, d1, d2, d3, d4⟩ := box_cells K.out
      have B := Lib.hid (below_box q)
      clear q
      go_wp2_with fail
      refine (isjump_any op dst src off imm 8 h1 h2 _).mono ?_
      rintro e w2 ⟨rfl, q⟩
      have B2 := Lib.hid (below_then B.out q (Nat.le_refl _))
      clear q d0 d1 d2 d3 d4 K B
      go_wp2
      go_ret
      exact ⟨rfl, B2.out⟩
theorem valat_any (A : Option Addr) (n c : Nat) (t : List Int) (i : Int) (hn : t.length = n) (hm : n ≤ 9223372036854775807) (w : World) (hr : Rd w w.heap.size A (zv t)) :
    Calls Try.prog 32 #[.slice A n c, .int .i64 i] w fun e w' => e = .returned (.int .i64 (valAt t i)) ∧ w = w' := by
  by_cases h : 0 ≤ i ∧ i < n
  · obtain ⟨k, rfl⟩ := Int.eq_ofNat_of_zero_le h.1
    have hk : k < t.length := by omega
    obtain ⟨ad, rfl, _, hc⟩ := hr (by rw [zv_len]; omega)
    have cx := hc k _ (zv_get t k hk)
    rw [valAt_in t k hk]
    generalize t[k] = x at *
    have i1 : (0 : Int) ≤ (k : Int) := by omega
    have i2 : (k : Int) < (n : Int) := h.2
    clear hc hr h hk hn
    go_enter Try.func32, Try.ntmps32
    go_wp2
    go_ret
    exact ⟨rfl, rfl⟩
  · rw [valAt_out t i (by rw [hn]; exact h)]
    clear hr hn
    by_cases h0 : i < 0
    · clear h
      go_enter Try.func32, Try.ntmps32
      go_wp2
      go_ret
      exact ⟨rfl, rfl⟩
    · have h3 : (n : Int) ≤ i := by omega
      clear h
      go_enter Try.func32, Try.ntmps32
      go_wp2
      go_ret
      exact ⟨rfl, rfl⟩
/-- A row of numbers of our own, and that nothing else is changed. -/
theorem int_info : (Try.prog.info? 3).map (fun i => (i.zero, i.size, i.bytes)) = some (some (.int .i64 0), 1, 8) := by kernel_rfl
structure OwnZ (w : World) (v : Value) (wr : World) (l : List Int) : Prop where
  own : wr.ownsRow w.heap.size 3 1 v l.length (zv l)
  below : Below w.heap.size w wr
theorem OwnZ.step {w wr w1 : World} {v v1 : Value} {l : List Int} {x : Int} {n : Nat} {o : Obj} (h : OwnZ w v wr l) (ho : w1.ownsRow w.heap.size 3 1 v1 n (zv l ++ [.int .i64 x])) (hn : n = l.length + 1) (hg : (wr.alloc o).grownBy w1 v.ownBlock) : OwnZ w v1 w1 (l ++ [x]) :=
  ⟨own_cast ho (by rw [hn]; simp) (by rw [zv_app]; rfl), (h.below.alloc (by have := h.below.size; omega) o).grown hg (by have := h.below.size; simp; omega) fun k hk => (h.own.lt k hk).1⟩
theorem OwnZ.more {w wr w1 : World} {v : Value} {l : List Int} (h : OwnZ w v wr l) (hb : Below wr.heap.size wr w1) : OwnZ w v w1 l := ⟨own_below h.own hb, below_then h.below hb (Nat.le_refl _)⟩
theorem one_int (x : Int) : ∀ u ∈ [Value.int .i64 x], u.oneCell' = true := by
  intro u hu
  simp at hu
  subst hu
  rfl
set_option maxHeartbeats 1000000 in
theorem inside_any (A B : Option Addr) (n c m d : Nat) (ps : List Int) (hm : ps.length = m) (h1 : n ≤ 9223372036854775807) (h2 : m ≤ 1000000) (w : World) (hr : Rd w w.heap.size B (zv ps)) :
    Calls Try.prog 40 #[.slice A n c, .slice B m d] w fun e w' => ∃ v, e = .returned v ∧ OwnZ w v w' ((insN n ps).map fun (j : Nat) => (j : Int)) := by
  obtain ⟨i0, hi0, hz0, hz1, hz2⟩ := info_parts int_info
  have HM := Lib.hid hm
  have HR := Lib.hid hr
  clear hm hr
  go_enter Try.func40, Try.ntmps40
  go_wp2
  go_loopw [5, 10] (fun b i wr => ∃ k : Nat, k ≤ m ∧ i = .int .i64 k ∧ Hid (OwnZ w b wr ((insN n (ps.take k)).map fun (j : Nat) => (j : Int)))) (fun _ i _ => m - (intOf i).toNat)
  case atStart => exact ⟨0, Nat.zero_le _, rfl, Lib.hid ⟨World.ownsRow_nil _ _ _ _, Below.refl _ _⟩⟩
  case round =>
    obtain ⟨k, hk, rfl, hO⟩ := hrel
    by_cases hlt : k < m
    · have hkx : k < ps.length := by rw [HM.out]; exact hlt
      obtain ⟨ad, rfl, _, hcx⟩ := (HR.out.below hO.out.below) (by rw [zv_len]; omega)
      have cx := hcx k _ (zv_get ps k hkx)
      have HT : Hid (insN n (ps.take (k + 1)) = insN n (ps.take k) ++ insN n [ps[k]]) := Lib.hid (by rw [List.take_succ_eq_append_getElem hkx, insN_app])
      have HLE : Hid ((insN n (ps.take k)).length ≤ k) := Lib.hid (Nat.le_trans (insN_len _ _) (by rw [List.length_take]; omega))
      generalize ps[k] = x at *
      clear hcx hkx
      have i1 : (0 : Int) ≤ (k : Int) := by omega
      have i2 : (k : Int) < (m : Int) := by omega
      by_cases hx : 0 ≤ x ∧ x < n
      · have x1 := hx.1
        have x2 := hx.2
        have HI := Lib.hid (insN_in n x hx)
        clear hx
        go_wp2_with (at_builtin; refine wpList_append_own_at _ rfl (.tmp 22) (.tmp 24) _ rfl w.heap.size 3 i0 _ 1 8 Try.underlying26 hi0 hz0 hz1 hz2 rfl (by decide) _ _ _ rfl (hO.out.own.alloc _) ⟨wr.heap.size, 0, none⟩ 1 1 [.int .i64 x] rfl rfl (new_cells' _ #[.int .i64 x] rfl) (one_int x) ?a3 ?a4 ?a5 ?_)
        case a3 => have := HLE.out; unfold maxLen; simp; omega
        case a4 => have := HLE.out; simp; omega
        case a5 => have := hO.out.below.size; simp; omega
        intro v1 w1 hown1 hg1 _ hat1
        have R1 := Lib.hid (hO.out.step hown1 (by simp) hg1)
        clear hown1 hg1 hat1 hO
        go_wp2
        go_roundw
        case rel => exact ⟨k + 1, by omega, by go_num, Lib.hid (by rw [HT.out, HI.out, List.map_append]; have h := R1.out; simpa [Int.toNat_of_nonneg x1] using h)⟩
        case measure => simp [intOf]; omega
      · have HI := Lib.hid (insN_out n x hx)
        have R1 : Hid (OwnZ w u5 wr ((insN n (ps.take (k + 1))).map fun (j : Nat) => (j : Int))) := Lib.hid (by rw [HT.out, HI.out, List.append_nil]; exact hO.out)
        clear hO HT HI HLE
        by_cases hx0 : x < 0
        · clear hx
          go_wp2
          go_roundw
          case rel => exact ⟨k + 1, by omega, by go_num, R1⟩
          case measure => simp [intOf]; omega
        · have hx3 : (n : Int) ≤ x := by omega
          clear hx
          go_wp2
          go_roundw
          case rel => exact ⟨k + 1, by omega, by go_num, R1⟩
          case measure => simp [intOf]; omega
    · have e3 : ps.take k = ps := List.take_of_length_le (by rw [HM.out]; omega)
      have R : Hid (OwnZ w u5 wr ((insN n ps).map fun (j : Nat) => (j : Int))) := Lib.hid (by have := hO.out; rw [e3] at this; exact this)
      clear e3 hO
      go_wp2
      go_ret
      exact ⟨_, rfl, R.out⟩
end Go.Proofs.Ytenddhhaelnnnaa
