/-
  What the statements' kit does with lists of instructions (held against one another, copied, lent, looked at again, written over): contracts.
-/
import Derived.Test.YtlimhdnpdhjdaaaKitBytes
import Derived.Test.YtlimhdnpdhjdaaaInsnGets
import Derived.Deep.RegionHeld3
import Derived.Laws.StructEq
namespace Go.Proofs.Ytlimhdnpdhjdaaa
open Go.RowKit Wi Ow
set_option linter.unusedVariables false
set_option linter.unusedSimpArgs false

theorem ins_st : Try.prog.underlying 23 = some (.struct (Try.prog.fieldsOf 23)) := by kernel_rfl
theorem ins_in : Try.prog.stoodInHeld 23 = false := by kernel_rfl
theorem ins_eg : Try.prog.eqGuardType Try.prog.depth 23 = false := by kernel_rfl
theorem ins_neq (a0 a1 a2 a3 a4 b0 b1 b2 b3 b4 : Int) (w : World) : (binOp .neq 23 (.agg #[.int .i64 a0, .int .i64 a1, .int .i64 a2, .int .i64 a3, .int .i64 a4]) (.agg #[.int .i64 b0, .int .i64 b1, .int .i64 b2, .int .i64 b3, .int .i64 b4])).run Try.prog w = .ok (.bool (!(a0 == b0 && a1 == b1 && a2 == b2 && a3 == b3 && a4 == b4))) w := by
  rw [run_neq_struct, run_equalIn_agg _ _ _ _ _ ins_st ins_in]
  simp only [Program.fieldsOf, Try.underlying23]
  cases h0 : (a0 == b0) <;> cases h1 : (a1 == b1) <;> cases h2 : (a2 == b2) <;> cases h3 : (a3 == b3) <;> cases h4 : (a4 == b4) <;> simp [go_sem, h0, h1, h2, h3, h4]
theorem ins_same (x y : In) (h : x = y) (w : World) : (binOp .neq 23 (.agg #[.int .i64 x.op, .int .i64 x.dst, .int .i64 x.src, .int .i64 x.off, .int .i64 x.imm]) (.agg #[.int .i64 y.op, .int .i64 y.dst, .int .i64 y.src, .int .i64 y.off, .int .i64 y.imm])).run Try.prog w = .ok (.bool false) w := by
  subst h; rw [ins_neq]; simp
theorem ins_other (x y : In) (h : x ≠ y) (w : World) : (binOp .neq 23 (.agg #[.int .i64 x.op, .int .i64 x.dst, .int .i64 x.src, .int .i64 x.off, .int .i64 x.imm]) (.agg #[.int .i64 y.op, .int .i64 y.dst, .int .i64 y.src, .int .i64 y.off, .int .i64 y.imm])).run Try.prog w = .ok (.bool true) w := by
  rw [ins_neq]
  congr 2
  rw [Bool.not_eq_true', ← Bool.not_eq_true]
  intro hb
  simp only [Bool.and_eq_true, beq_iff_eq] at hb
  obtain ⟨⟨⟨⟨a, b⟩, c⟩, d⟩, e⟩ := hb
  cases x; cases y; simp_all
theorem ins_guard (x y : Value) (hx : ∃ a, x = .agg a) (hy : ∃ b, y = .agg b) (o1 o2 : Operand) (w : World) : (eqGuard .neq 23 o1 o2 x y).run Try.prog w = .ok () w := by
  obtain ⟨a, rfl⟩ := hx
  obtain ⟨b, rfl⟩ := hy
  exact run_eqGuard_agg w .neq _ o1 o2 a b ins_eg
set_option maxHeartbeats 1000000 in
theorem sameinsns_any (A B : Option Addr) (n m c d : Nat) (xs ys : List In) (hn : xs.length = n) (hm : ys.length = m) (h1 : n ≤ 9223372036854775807) (h2 : m ≤ 9223372036854775807) (w : World) (hx : Rd w w.heap.size A (iv xs)) (hy : Rd w w.heap.size B (iv ys)) :
    Calls Try.prog 27 #[.slice A n c, .slice B m d] w fun e w' => e = .returned (.bool (decide (xs = ys))) ∧ Below w.heap.size w w' := by
  have HN := Lib.hid hn
  have HM := Lib.hid hm
  have HX := Lib.hid hx
  have HY := Lib.hid hy
  clear hn hm hx hy
  by_cases hl : n = m
  · obtain rfl : n = m := hl
    go_enter Try.func27, Try.ntmps27
    go_wp2
    go_loopw [5] (fun i wr => ∃ k : Nat, k ≤ n ∧ i = .int .i64 k ∧ Hid (Below w.heap.size w wr) ∧ Hid (xs.take k = ys.take k)) (fun i _ => n - (intOf i).toNat)
    case atStart => exact ⟨0, Nat.zero_le _, rfl, Lib.hid (Below.refl _ _), Lib.hid rfl⟩
    case round =>
      obtain ⟨k, hk, rfl, hb, ht⟩ := hrel
      by_cases hlt : k < n
      · have hkx : k < xs.length := by rw [HN.out]; exact hlt
        have hky : k < ys.length := by rw [HM.out]; exact hlt
        obtain ⟨ad, rfl, _, hcx⟩ := (HX.out.below hb.out) (by rw [iv_len]; omega)
        obtain ⟨bd, rfl, _, hcy⟩ := (HY.out.below hb.out) (by rw [iv_len]; omega)
        obtain ⟨x0, x1, x2, x3, x4⟩ := ins_cells hcx hkx
        obtain ⟨y0, y1, y2, y3, y4⟩ := ins_cells hcy hky
        have HT := Lib.hid (take_eq_succ ht.out hkx hky)
        have HD : Hid (xs[k] ≠ ys[k] → xs ≠ ys) := Lib.hid fun h e => h (by subst e; rfl)
        generalize xs[k] = x at *
        generalize ys[k] = y at *
        clear hcx hcy hkx hky
        have i1 : (0 : Int) ≤ (k : Int) := by omega
        have i2 : (k : Int) < (n : Int) := by omega
        have q2 := ins_guard (.agg #[.int .i64 x.op, .int .i64 x.dst, .int .i64 x.src, .int .i64 x.off, .int .i64 x.imm]) (.agg #[.int .i64 y.op, .int .i64 y.dst, .int .i64 y.src, .int .i64 y.off, .int .i64 y.imm]) ⟨_, rfl⟩ ⟨_, rfl⟩
        by_cases he : x = y
        · have q1 := ins_same x y he
          have HT2 := Lib.hid (HT.out he)
          clear he HT HD
          go_wp2_with fail
          go_quiet (fail)
          go_wp2
          go_roundw
          case rel => exact ⟨k + 1, by omega, by go_num, Lib.hid (below_drewN hb.out _), HT2⟩
          case measure => simp [intOf]; omega
        · have q1 := ins_other x y he
          have HT2 := Lib.hid (HD.out he)
          clear he HT HD
          go_wp2_with fail
          go_quiet (fail)
          go_wp2
          go_ret
          exact ⟨rt_b (by simp [HT2.out]), below_drewN hb.out _⟩
      · have e1 : xs = ys := by
          have h := ht.out
          rw [List.take_of_length_le (by rw [HN.out]; omega), List.take_of_length_le (by rw [HM.out]; omega)] at h
          exact h
        have E1 := Lib.hid e1
        clear e1
        go_wp2
        go_ret
        exact ⟨rt_b (by simp [E1.out]), hb.out⟩
  · have hl' : ((n : Int) != (m : Int)) = true := by simp; omega
    have hne : xs ≠ ys := by intro e; subst e; have := HN.out; have := HM.out; omega
    have HE := Lib.hid hne
    clear hl hne
    go_enter Try.func27, Try.ntmps27
    go_wp2
    go_ret
    exact ⟨rt_b (by simp [HE.out]), Below.refl _ _⟩
theorem marki_any (i : Nat) (h : i ≤ 100000) (w : World) :
    Calls Try.prog 39 #[.int .i64 i] w fun e w' => e = .returned (.agg #[.int .i64 (250 + (i : Int)), .int .i64 0, .int .i64 0, .int .i64 0, .int .i64 (77 * (i : Int))]) ∧ Below w.heap.size w w' := by
  go_enter Try.func39, Try.ntmps39
  go_wp2
  refine bodyPost_ret (v := .agg #[.int .i64 (250 + (i : Int)), .int .i64 0, .int .i64 0, .int .i64 0, .int .i64 (77 * (i : Int))]) (by simp [results, Try.results39, go_sem]) rfl ⟨rfl, (Below.refl _ _).alloc (Nat.le_refl _) _⟩
/-- A row of our own, and that nothing else is changed. -/
structure OwnI (w : World) (v : Value) (wr : World) (l : List In) : Prop where
  own : wr.ownsRow w.heap.size 23 5 v l.length (iv l)
  below : Below w.heap.size w wr
theorem OwnI.step {w wr w1 : World} {v v1 : Value} {l : List In} {x : In} {n : Nat} {o : Obj} (h : OwnI w v wr l) (ho : w1.ownsRow w.heap.size 23 5 v1 n (iv l ++ x.cells)) (hn : n = l.length + 1) (hg : (wr.alloc o).grownBy w1 v.ownBlock) : OwnI w v1 w1 (l ++ [x]) :=
  ⟨own_cast ho (by rw [hn]; simp) (by rw [iv_app]; simp [iv]), (h.below.alloc (by have := h.below.size; omega) o).grown hg (by have := h.below.size; simp; omega) fun k hk => (h.own.lt k hk).1⟩
theorem OwnI.more {w wr w1 : World} {v : Value} {l : List In} (h : OwnI w v wr l) (hb : Below wr.heap.size wr w1) : OwnI w v w1 l := ⟨own_below h.own hb, below_then h.below hb (Nat.le_refl _)⟩
theorem cells_one (x : In) : ∀ u ∈ x.cells, u.oneCell' = true := by
  intro u hu
  simp [In.cells] at hu
  rcases hu with rfl | rfl | rfl | rfl | rfl <;> rfl
set_option maxHeartbeats 1000000 in
theorem copyi_any (A : Option Addr) (n c : Nat) (xs : List In) (hn : xs.length = n) (h1 : n ≤ 1000000) (w : World) (hx : Rd w w.heap.size A (iv xs)) :
    Calls Try.prog 30 #[.slice A n c] w fun e w' => ∃ v, e = .returned v ∧ OwnI w v w' xs := by
  obtain ⟨i0, hi0, hz0, hz1, hz2⟩ := info_parts insn_info
  have HN := Lib.hid hn
  have HX := Lib.hid hx
  clear hn hx
  go_enter Try.func30, Try.ntmps30
  go_wp2
  go_loopw [3, 4] (fun b i wr => ∃ k : Nat, k ≤ n ∧ i = .int .i64 k ∧ Hid (OwnI w b wr (xs.take k))) (fun _ i _ => n - (intOf i).toNat)
  case atStart => exact ⟨0, Nat.zero_le _, rfl, Lib.hid ⟨World.ownsRow_nil _ _ _ _, Below.refl _ _⟩⟩
  case round =>
    obtain ⟨k, hk, rfl, hO⟩ := hrel
    by_cases hlt : k < n
    · have hkx : k < xs.length := by rw [HN.out]; exact hlt
      obtain ⟨ad, rfl, _, hcx⟩ := (HX.out.below hO.out.below) (by rw [iv_len]; omega)
      obtain ⟨x0, x1, x2, x3, x4⟩ := ins_cells hcx hkx
      have HT := Lib.hid (List.take_succ_eq_append_getElem hkx)
      have HLE : Hid ((xs.take k).length = k) := Lib.hid (by rw [List.length_take]; omega)
      generalize xs[k] = x at *
      clear hcx hkx
      go_wp2_with (at_builtin; refine wpList_append_own_at _ rfl (.tmp 11) (.tmp 16) _ rfl w.heap.size 23 i0 _ 5 40 Try.underlying29 hi0 hz0 hz1 hz2 rfl (by decide) _ _ _ rfl (hO.out.own.alloc _) ⟨wr.heap.size, 0, none⟩ 1 1 x.cells rfl rfl (new_cells' _ #[.int .i64 x.op, .int .i64 x.dst, .int .i64 x.src, .int .i64 x.off, .int .i64 x.imm] rfl) (cells_one x) ?a3 ?a4 ?a5 ?_)
      case a3 => have := HLE.out; unfold maxLen; omega
      case a4 => have := HLE.out; omega
      case a5 => have := hO.out.below.size; simp; omega
      intro v1 w1 hown1 hg1 _ hat1
      have R1 := Lib.hid (hO.out.step hown1 (by first | rfl | (simp only [List.length_take]; done) | (simp only [List.length_take]; omega)) hg1)
      clear hown1 hg1 hat1 hO
      go_wp2
      go_roundw
      case rel => exact ⟨k + 1, by omega, by go_num, Lib.hid (by rw [HT.out]; exact R1.out)⟩
      case measure => simp [intOf]; omega
    · have e3 : xs.take k = xs := List.take_of_length_le (by rw [HN.out]; omega)
      have R : Hid (OwnI w u3 wr xs) := Lib.hid (by rw [← e3]; exact hO.out)
      clear e3 hO
      go_wp2
      go_ret
      exact ⟨_, rfl, R.out⟩
/-- The marks behind a list that is lent. -/
def mkI (k : Nat) : List In := (List.range k).map fun (j : Nat) => ⟨250 + (j : Int), 0, 0, 0, 77 * (j : Int)⟩
theorem mkI_succ (k : Nat) : mkI (k + 1) = mkI k ++ [⟨250 + (k : Int), 0, 0, 0, 77 * (k : Int)⟩] := by unfold mkI; rw [List.range_succ, List.map_append]; rfl
theorem mkI_len (k : Nat) : (mkI k).length = k := by unfold mkI; simp
set_option maxHeartbeats 1000000 in
theorem lenti_any (A : Option Addr) (n c : Nat) (xs : List In) (hn : xs.length = n) (h1 : n ≤ 900000) (w : World) (hx : Rd w w.heap.size A (iv xs)) :
    Calls Try.prog 18 #[.slice A n c] w fun e w' => ∃ v, e = .returned v ∧ OwnI w v w' (xs ++ mkI 5) := by
  obtain ⟨i0, hi0, hz0, hz1, hz2⟩ := info_parts insn_info
  have HN := Lib.hid hn
  have HX := Lib.hid hx
  clear hn hx
  go_enter Try.func18, Try.ntmps18
  go_wp2_with fail
  refine (copyi_any A n c xs HN.out (by omega) _ HX.out).mono ?_
  rintro e w1 ⟨v, rfl, q⟩
  have Q := Lib.hid q
  clear q
  go_wp2
  go_loopw [3, 4] (fun b i wr => ∃ k : Nat, k ≤ 5 ∧ i = .int .i64 k ∧ Hid (OwnI w b wr (xs ++ mkI k))) (fun _ i _ => 5 - (intOf i).toNat)
  case atStart => exact ⟨0, Nat.zero_le _, rfl, Lib.hid (by have h := Q.out; simpa [mkI] using h)⟩
  case round =>
    clear Q
    obtain ⟨k, hk, rfl, hO⟩ := hrel
    by_cases hlt : k < 5
    · have HLE : Hid ((xs ++ mkI k).length = n + k) := Lib.hid (by rw [List.length_append, mkI_len, HN.out])
      go_wp2_with (first | (go_at_call 39; refine (marki_any k (by omega) _).mono ?_; rintro e w2 ⟨rfl, q2⟩; have hO2 := Lib.hid (hO.out.more q2)) | (at_builtin; refine wpList_append_own_at _ rfl (.tmp 11) (.tmp 14) _ rfl w.heap.size 23 i0 _ 5 40 Try.underlying29 hi0 hz0 hz1 hz2 rfl (by decide) _ _ _ rfl (hO2.out.own.alloc _) ⟨w2.heap.size, 0, none⟩ 1 1 (In.cells ⟨250 + (k : Int), 0, 0, 0, 77 * (k : Int)⟩) rfl rfl (new_cells' _ #[.int .i64 (250 + (k : Int)), .int .i64 0, .int .i64 0, .int .i64 0, .int .i64 (77 * (k : Int))] rfl) (cells_one _) ?a3 ?a4 ?a5 ?_))
      case a3 => have := HLE.out; unfold maxLen; omega
      case a4 => have := HLE.out; omega
      case a5 => have := hO2.out.below.size; simp; omega
      intro v1 w1 hown1 hg1 _ hat1
      have R1 := Lib.hid (hO2.out.step hown1 (by simp [Nat.add_assoc]) hg1)
      clear hown1 hg1 hat1 hO hO2 q2
      go_wp2
      go_roundw
      case rel => exact ⟨k + 1, by omega, by go_num, Lib.hid (by rw [mkI_succ, ← List.append_assoc]; exact R1.out)⟩
      case measure => simp [intOf]; omega
    · have R : Hid (OwnI w u3 wr (xs ++ mkI 5)) := Lib.hid (by rw [show 5 = k by omega]; exact hO.out)
      clear hO
      go_wp2
      go_ret
      exact ⟨_, rfl, R.out⟩
end Go.Proofs.Ytlimhdnpdhjdaaa
