/-
  Proved: the statement PhaseStays: what is steady at a time is so at each later one; what was written fewer than 3 times always; written in step it is steady as soon as 4 behind the last time. No conditions.
-/
import Derived.Test.YtfkfadafncjifaaRows
import Derived.Test.YtfkfadafncjifaaPhaseOpen
import Derived.Deep.DeepCutAuto
import Derived.WalkKit
import Derived.ProofKit
import Derived.OpenShut
import Derived.ChangeOld
import Derived.Below
namespace Go.Proofs.Ytfkfadafncjifaa.phaseStays
open Go.ChangeShapes Go.WideShapes Go.ChangeAt Go.RowKit Ow Ph
set_option linter.unusedVariables false
set_option linter.unusedSimpArgs false
attribute [local go_sem] run_store_complex

theorem own : ownKnob Try.prog.godebug = none := by kernel_rfl
theorem laidOut : laidOutB Try.prog = true := by kernel_rfl

theorem tm_bd (a : Int) (m : Int) (hm : 0 < m) : -m < a.tmod m ∧ a.tmod m < m := ⟨Int.lt_tmod_of_pos a hm, Int.tmod_lt_of_pos a hm⟩
theorem st_mono {b : Bt} {p q : Int} (h : stB b p = true) (hq : p ≤ q) : stB b q = true := by
  unfold stB at *
  simp only [Bool.or_eq_true, Bool.and_eq_true, decide_eq_true_eq] at *
  omega
theorem st_few {b : Bt} (h : b.n < 3) (p : Int) : stB b p = true := by unfold stB; simp [h]
theorem writes_t (b : Bt) (n : Nat) (hb : b.n = n) (w : World) :
    Calls Try.prog 9 #[.agg #[.complex .f64 (fl b.x) (fl b.y), .int .i64 b.n, .int .i64 b.t]] w fun e w' => e = .returned (.int .i64 n) ∧ Below w.heap.size w w' := by
  subst hb; exact writes_any b w
/-- Written in step, so often; last at T. -/
def Step (c : Bt) (n : Nat) (r T : Int) : Prop := OkB c n ∧ swB c = n ∧ c.t = T ∧ ∃ l, bts l = c ∧ l.length = n ∧ ∀ t ∈ l, t % 4 = r
theorem step_wr {c : Bt} {n : Nat} {r T : Int} (h : Step c n r T) (t : Int) (ht : t % 4 = r) : Step (wrB c t) (n + 1) r t := by
  obtain ⟨h1, _, _, l, rfl, h4, h5⟩ := h
  have hl : ∀ x ∈ l ++ [t], x % 4 = r := by
    intro x hx
    rcases List.mem_append.1 hx with hx | hx
    · exact h5 x hx
    · rw [List.mem_singleton] at hx; subst hx; exact ht
  refine ⟨h1.wr t, ?_, rfl, l ++ [t], bts_app l t, by rw [List.length_append, h4]; rfl, hl⟩
  rw [← bts_app, sw_step _ r hl, List.length_append, h4]; rfl
theorem step_new (t : Int) : Step (wrB newB t) 1 (t % 4) t := by
  have hl : ∀ x ∈ [t], x % 4 = t % 4 := by intro x hx; rw [List.mem_singleton] at hx; rw [hx]
  exact ⟨bts_ok [t], sw_step [t] (t % 4) hl, rfl, [t], rfl, rfl, hl⟩
theorem step_now {c : Bt} {n : Nat} {r T : Int} (h : Step c n r T) : stB c (T + 4) = true ∧ stB c (T + 3) = decide (n < 3) := by
  obtain ⟨h1, h2, h3, _⟩ := h
  unfold stB
  rw [h1.len, h2, h3]
  constructor
  · simp; omega
  · by_cases h : n < 3 <;> simp [h]
    omega

set_option maxRecDepth 100000 in
set_option maxHeartbeats 4000000 in
theorem walk (a0 : Option Addr) (len0 cap0 : Nat) (L0 : List Int) (n1 : Int) (n2 : Int) (n3 : Int) (a4 : Option Addr) (len4 cap4 : Nat) (L4 : List Int) (w : World) (l0 : L0.length = len0) (f0 : ∀ t ∈ L0, i64 t) (c0 : len0 ≤ cap0) (m0 : cap0 ≤ 9223372036854775807) (r0 : Rd w w.heap.size a0 (zv L0)) (w1 : (Lit.int .i64 n1).wf = true) (w2 : (Lit.int .i64 n2).wf = true) (w3 : (Lit.int .i64 n3).wf = true) (l4 : L4.length = len4) (f4 : ∀ t ∈ L4, i64 t) (c4 : len4 ≤ cap4) (m4 : cap4 ≤ 9223372036854775807) (r4 : Rd w w.heap.size a4 (zv L4)) :
    Calls Try.prog 5 #[.slice a0 len0 cap0, .int .i64 n1, .int .i64 n2, .int .i64 n3, .slice a4 len4 cap4] w fun e w' => e = .returned (.bool true) ∧ Below w.heap.size w w' := by
  have hn1 : i64 n1 := bounds_i64 w1
  have hn2 : i64 n2 := bounds_i64 w2
  have hn3 : i64 n3 := bounds_i64 w3
  have hcap : len0 ≤ 9223372036854775807 := by omega
  have hcap4 : len4 ≤ 9223372036854775807 := by omega
  have W1 := written_any a0 len0 cap0 L0 l0 hcap f0 w r0
  have HR4 := Lib.hid r4
  have HL4 := Lib.hid l4
  have HF4 := Lib.hid f4
  obtain ⟨b, hb, OB, TB⟩ := lit_bt (l := L0.take 300) (fun t ht => f0 t (List.mem_of_mem_take ht))
  rw [hb] at W1
  rw [List.length_take, l0, Nat.min_comm] at OB
  have HO : Hid (OkB b b.n) := Lib.hid (by have h := OB.len; rw [h]; exact OB)
  have N3 : b.n ≤ 302 := by have h := OB.len; omega
  have HF : Hid (len0 < 3 → b.n < 3) := Lib.hid (by have h := OB.len; omega)
  have HT := Lib.hid TB
  clear hb OB TB l0 f0 r0 w1 w2 w3 r4 l4 f4
  obtain ⟨p, hp⟩ : ∃ p, stB b n1 = p := ⟨_, rfl⟩
  have HP := Lib.hid hp
  clear hp
  go_enter Try.func5, Try.ntmps5
  go_wp2_with fail
  refine W1.mono ?_
  rintro e w1 ⟨rfl, q1⟩
  have A1 : Hid (Bk (w1.alloc (.cells (bcells b) 25)) w1.heap.size 25 (bcells b)) := Lib.hid (Bk.new w1 _ _)
  have B1 : Hid (Below w.heap.size w (w1.alloc (.cells (bcells b) 25))) := Lib.hid (q1.alloc q1.size _)
  clear q1 W1
  unfold Bt.val
  go_upto_region 2 with (fail)
  have hz : ∃ z, z = w1.alloc (.cells #[.complex .f64 (fl b.x) (fl b.y), .int .i64 b.n, .int .i64 b.t] 25) := ⟨_, rfl⟩
  obtain ⟨z, hz⟩ := hz
  generalize w1.heap.size = g11 at *
  have A : Hid (Bk z g11 25 (bcells b)) := Lib.hid (by rw [hz]; exact A1.out)
  have B : Hid (Below w.heap.size w z) := Lib.hid (by rw [hz]; exact B1.out)
  rw [← hz]
  clear A1 B1 hz
  obtain ⟨r0, r1, r2⟩ := bc3 A.out
  go_cut [39] (fun s39 wx => s39 = .bool false ∧ Hid (Below w.heap.size w wx))
  case first =>
    go_wp2_with fail
    refine (steady_t b b.n n1 p HO.out N3 HT.out hn1 HP.out _).mono ?_
    rintro e w2 ⟨rfl, q⟩
    have A2 := Lib.hid (A.out.below q A.out.lt)
    have B2 := Lib.hid (B.out.trans (q.mono B.out.size))
    clear A B q r0 r1 r2
    obtain ⟨r0, r1, r2⟩ := bc3 A2.out
    by_cases h3 : len0 < 3
    · obtain rfl : p = true := by rw [← HP.out]; exact st_few (HF.out h3) n1
      have P1 : Hid (stB b n1 = true) := HP
      have h3' : (len0 : Int) < 3 := by omega
      go_wp2_with fail
      all_goals
        first
          | with_reducible refine (steady_t b b.n n1 true HO.out N3 HT.out hn1 P1.out _).mono ?_
          | with_reducible refine (steady_t b b.n n2 true HO.out N3 HT.out hn2 (st_mono P1.out (by omega)) _).mono ?_
        rintro e w4 ⟨rfl, q⟩
        have A := Lib.hid (A2.out.below q A2.out.lt)
        have B := Lib.hid (B2.out.trans (q.mono B2.out.size))
        clear A2 B2 q r0 r1 r2
        obtain ⟨r0, r1, r2⟩ := bc3 A.out
        go_wp2_with fail
        refine (steady_t b b.n n1 true HO.out N3 HT.out hn1 P1.out _).mono ?_
        rintro e w5 ⟨rfl, q⟩
        have A2 := Lib.hid (A.out.below q A.out.lt)
        have B2 := Lib.hid (B.out.trans (q.mono B.out.size))
        clear A B q r0 r1 r2
        obtain ⟨r0, r1, r2⟩ := bc3 A2.out
        go_wp2_with fail
        go_meet
        case rel => exact ⟨rfl, B2⟩
    · have h3' : ¬ (len0 : Int) < 3 := by omega
      cases p with
      | true =>
        have P1 : Hid (stB b n1 = true) := HP
        go_wp2_with fail
        all_goals
          first
            | with_reducible refine (steady_t b b.n n1 true HO.out N3 HT.out hn1 P1.out _).mono ?_
            | with_reducible refine (steady_t b b.n n2 true HO.out N3 HT.out hn2 (st_mono P1.out (by omega)) _).mono ?_
          rintro e w4 ⟨rfl, q⟩
          have A := Lib.hid (A2.out.below q A2.out.lt)
          have B := Lib.hid (B2.out.trans (q.mono B2.out.size))
          clear A2 B2 q r0 r1 r2
          obtain ⟨r0, r1, r2⟩ := bc3 A.out
          go_wp2_with fail
          go_meet
          case rel => exact ⟨rfl, B⟩
      | false =>
        go_wp2_with fail
        go_meet
        case rel => exact ⟨rfl, B2⟩
  case rest =>
    clear A B r0 r1 r2
    obtain ⟨rfl, B⟩ := hcut
    have hkk := tm_bd n3 1152921504606846976 (by decide)
    obtain ⟨t0, hkq⟩ : ∃ kk, n3.tmod 1152921504606846976 = kk := ⟨_, rfl⟩
    rw [hkq] at hkk
    go_wp2_with fail
    refine (new_t _).mono ?_
    rintro e w3 ⟨rfl, q⟩
    have B1 := Lib.hid (B.out.trans (q.mono B.out.size))
    clear B q
    have HST := Lib.hid (step_new t0)
    obtain ⟨c, hc⟩ : ∃ c, wrB newB t0 = c := ⟨_, rfl⟩
    rw [hc] at HST
    have HC := Lib.hid hc
    clear hc
    go_wp2_with fail
    refine (write_t newB c t0 0 (bts_ok []) (by decide) (by unfold i64; omega) HC.out _).mono ?_
    rintro e w4 ⟨rfl, q⟩
    have B2 : Hid (Below w.heap.size w (w4.alloc (.cells #[.complex .f64 (fl c.x) (fl c.y), .int .i64 c.n, .int .i64 c.t] 25))) := Lib.hid ((B1.out.trans (q.mono B1.out.size)).alloc (B1.out.trans (q.mono B1.out.size)).size _)
    have R2 : Hid (Bk (w4.alloc (.cells #[.complex .f64 (fl c.x) (fl c.y), .int .i64 c.n, .int .i64 c.t] 25)) w4.heap.size 25 (bcells c)) := Lib.hid (Bk.new w4 _ _)
    have hw13 : w.heap.size ≤ w4.heap.size := (B1.out.trans (q.mono B1.out.size)).size
    clear B1 q HC
    go_wp2_with fail
    generalize w4.heap.size = g13 at *
    generalize (w4.alloc (.cells #[.complex .f64 (fl c.x) (fl c.y), .int .i64 c.n, .int .i64 c.t] 25)) = w5 at *
    clear w4 w3
    go_loopw [12, 14] (fun t i wr => ∃ (k : Nat) (c : Bt) (T : Int), k ≤ len4 ∧ k ≤ 300 ∧ t = .int .i64 T ∧ i = .int .i64 k ∧ Hid (Step c (k + 1) (t0 % 4) T) ∧ Hid (t0 - k * 4194304 ≤ T ∧ T ≤ t0 + k * 4194304) ∧ Hid (Bk wr g13 25 (bcells c)) ∧ Hid (Below w.heap.size w wr)) (fun _ i _ => 300 - (intOf i).toNat)
    case atStart => exact ⟨0, c, t0, Nat.zero_le _, Nat.zero_le _, rfl, rfl, HST, Lib.hid (by omega), R2, B2⟩
    case round =>
      clear R2 B2 HST
      obtain ⟨k, c, T, hk, hk3, rfl, rfl, HST, HB, R, B⟩ := hrel
      by_cases hlt : k < len4
      · have i1 : (0 : Int) ≤ (k : Int) := by omega
        have i2 : (k : Int) < (len4 : Int) := by omega
        by_cases hl3 : k < 300
        · have i3 : (k : Int) < 300 := by omega
          have hkx : k < L4.length := by rw [HL4.out]; exact hlt
          obtain ⟨ad, rfl, hab, hcx⟩ := (HR4.out.below B.out) (by rw [zv_len]; omega)
          have cx := hcx k _ (zv_get L4 k hkx)
          clear hcx
          generalize L4[k] = v at *
          have hvv := tm_bd v 1048576 (by decide)
          have hT := HB.out
          obtain ⟨u, hu⟩ : ∃ u, v.tmod 1048576 = u := ⟨_, rfl⟩
          rw [hu] at hvv
          have hTb : -2305843009213693952 ≤ T ∧ T ≤ 2305843009213693952 := by omega
          have HB2 : Hid (t0 - ((k + 1 : Nat) : Int) * 4194304 ≤ T + 4 * u ∧ T + 4 * u ≤ t0 + ((k + 1 : Nat) : Int) * 4194304) := Lib.hid (by omega)
          have HI : Hid (i64 (T + 4 * u)) := Lib.hid (by unfold i64; omega)
          obtain ⟨c2, hc2⟩ : ∃ c2, wrB c (T + 4 * u) = c2 := ⟨_, rfl⟩
          have HS2 : Hid (Step c2 (k + 1 + 1) (t0 % 4) (T + 4 * u)) := Lib.hid (by
            rw [← hc2]
            refine step_wr HST.out _ ?_
            obtain ⟨l, hl1, hl2, hl3⟩ := HST.out.2.2.2
            have hT4 : T % 4 = t0 % 4 := by
              have hne : l ≠ [] := by intro e; subst e; simp at hl2
              have h1 := hl3 _ (List.getLast_mem hne)
              have h2 := bts_last l hne
              rw [hl1, HST.out.2.2.1] at h2
              rw [h2]; exact h1
            omega)
          have HC2 := Lib.hid hc2
          have HO : Hid (OkB c (k + 1)) := Lib.hid HST.out.1
          have k302 : k + 1 ≤ 302 := by omega
          clear hc2 HST hT hab hkx HB
          obtain ⟨r0, r1, r2⟩ := bc3 R.out
          go_wp2_with fail
          refine (write_t c c2 (T + 4 * u) (k + 1) HO.out k302 HI.out HC2.out _).mono ?_
          rintro e z9 ⟨rfl, q⟩
          have R2 := Lib.hid (R.out.below q R.out.lt)
          have B2 := Lib.hid (B.out.trans (q.mono B.out.size))
          clear R B q r0 r1 r2
          obtain ⟨r0, r1, r2⟩ := bc3 R2.out
          obtain ⟨q0, q1, q2⟩ := bf3 R2.out
          have R := Lib.hid (bset R2.out (c := c2))
          have B := Lib.hid (below_set3 B2.out hw13 (.complex .f64 (fl c2.x) (fl c2.y)) (.int .i64 c2.n) (.int .i64 c2.t))
          go_wp2_with fail
          clear r0 r1 r2 q0 q1 q2 R2 B2
          go_wp2
          go_roundw
          case rel => exact ⟨k + 1, c2, T + 4 * u, by omega, by omega, rfl, by go_num, HS2, HB2, R, B⟩
          case measure => simp [intOf]; omega
        · have i3 : ¬ (k : Int) < 300 := by omega
          have ON : Hid (OkB c (k + 1)) := Lib.hid HST.out.1
          have OS : Hid (swB c = k + 1) := Lib.hid HST.out.2.1
          have OT : Hid (i64 c.t) := Lib.hid (by have h := HST.out.2.2.1; rw [h]; have := HB.out; unfold i64; omega)
          have O4 : Hid (stB c (T + 4) = true) := Lib.hid (step_now HST.out).1
          have O3 : Hid (stB c (T + 3) = decide (k + 1 < 3)) := Lib.hid (step_now HST.out).2
          have OL : Hid (c.n = k + 1) := Lib.hid ON.out.len
          have hT : -9223372036854775808 + 10 ≤ T ∧ T ≤ 9223372036854775807 - 10 := by have := HB.out; omega
          clear HST HB
          have k302 : k + 1 ≤ 302 := by omega
          obtain ⟨r0, r1, r2⟩ := bc3 R.out
          go_wp2_with fail
          with_reducible refine (writes_t c (k + 1) OL.out _).mono ?_
          rintro e x1 ⟨rfl, q⟩
          have R2 := Lib.hid (R.out.below q R.out.lt)
          have B2 := Lib.hid (B.out.trans (q.mono B.out.size))
          clear q R B r0 r1 r2
          have R := R2
          have B := B2
          clear R2 B2
          obtain ⟨r0, r1, r2⟩ := bc3 R.out
          have k3 : decide (((k + 1 : Nat) : Int) < 3) = decide (k + 1 < 3) := by by_cases h : k + 1 < 3 <;> simp [h] <;> omega
          have K3 := Lib.hid k3
          clear k3
          go_wp2_with fail
          with_reducible refine (sway_t c (k + 1) (k + 1) ON.out k302 OS.out _).mono ?_
          rintro e x2 ⟨rfl, q⟩
          have R2 := Lib.hid (R.out.below q R.out.lt)
          have B2 := Lib.hid (B.out.trans (q.mono B.out.size))
          clear q R B r0 r1 r2
          have R := R2
          have B := B2
          clear R2 B2
          obtain ⟨r0, r1, r2⟩ := bc3 R.out
          go_wp2_with fail
          with_reducible refine (steady_t c (k + 1) (T + 4) true ON.out k302 OT.out (by unfold i64; omega) O4.out _).mono ?_
          rintro e x3 ⟨rfl, q⟩
          have R2 := Lib.hid (R.out.below q R.out.lt)
          have B2 := Lib.hid (B.out.trans (q.mono B.out.size))
          clear q R B r0 r1 r2
          have R := R2
          have B := B2
          clear R2 B2
          obtain ⟨r0, r1, r2⟩ := bc3 R.out
          go_wp2_with fail
          with_reducible refine (steady_t c (k + 1) (T + 3) (decide (k + 1 < 3)) ON.out k302 OT.out (by unfold i64; omega) O3.out _).mono ?_
          rintro e x4 ⟨rfl, q⟩
          have R2 := Lib.hid (R.out.below q R.out.lt)
          have B2 := Lib.hid (B.out.trans (q.mono B.out.size))
          clear q R B r0 r1 r2
          have R := R2
          have B := B2
          clear R2 B2
          obtain ⟨r0, r1, r2⟩ := bc3 R.out
          go_wp2_with fail
          all_goals
            with_reducible refine (known_any _).mono ?_
            rintro e x5 ⟨rfl, q⟩
            have B2 := Lib.hid (B.out.trans (q.mono B.out.size))
            clear q R B r0 r1 r2
            go_wp2_with fail
            go_ret
            exact ⟨rfl, B2.out⟩
      · have i2 : ¬ (k : Int) < (len4 : Int) := by omega
        have ON : Hid (OkB c (k + 1)) := Lib.hid HST.out.1
        have OS : Hid (swB c = k + 1) := Lib.hid HST.out.2.1
        have OT : Hid (i64 c.t) := Lib.hid (by have h := HST.out.2.2.1; rw [h]; have := HB.out; unfold i64; omega)
        have O4 : Hid (stB c (T + 4) = true) := Lib.hid (step_now HST.out).1
        have O3 : Hid (stB c (T + 3) = decide (k + 1 < 3)) := Lib.hid (step_now HST.out).2
        have OL : Hid (c.n = k + 1) := Lib.hid ON.out.len
        have hT : -9223372036854775808 + 10 ≤ T ∧ T ≤ 9223372036854775807 - 10 := by have := HB.out; omega
        clear HST HB
        have k302 : k + 1 ≤ 302 := by omega
        obtain ⟨r0, r1, r2⟩ := bc3 R.out
        go_wp2_with fail
        with_reducible refine (writes_t c (k + 1) OL.out _).mono ?_
        rintro e x1 ⟨rfl, q⟩
        have R2 := Lib.hid (R.out.below q R.out.lt)
        have B2 := Lib.hid (B.out.trans (q.mono B.out.size))
        clear q R B r0 r1 r2
        have R := R2
        have B := B2
        clear R2 B2
        obtain ⟨r0, r1, r2⟩ := bc3 R.out
        have k3 : decide (((k + 1 : Nat) : Int) < 3) = decide (k + 1 < 3) := by by_cases h : k + 1 < 3 <;> simp [h] <;> omega
        have K3 := Lib.hid k3
        clear k3
        go_wp2_with fail
        with_reducible refine (sway_t c (k + 1) (k + 1) ON.out k302 OS.out _).mono ?_
        rintro e x2 ⟨rfl, q⟩
        have R2 := Lib.hid (R.out.below q R.out.lt)
        have B2 := Lib.hid (B.out.trans (q.mono B.out.size))
        clear q R B r0 r1 r2
        have R := R2
        have B := B2
        clear R2 B2
        obtain ⟨r0, r1, r2⟩ := bc3 R.out
        go_wp2_with fail
        with_reducible refine (steady_t c (k + 1) (T + 4) true ON.out k302 OT.out (by unfold i64; omega) O4.out _).mono ?_
        rintro e x3 ⟨rfl, q⟩
        have R2 := Lib.hid (R.out.below q R.out.lt)
        have B2 := Lib.hid (B.out.trans (q.mono B.out.size))
        clear q R B r0 r1 r2
        have R := R2
        have B := B2
        clear R2 B2
        obtain ⟨r0, r1, r2⟩ := bc3 R.out
        go_wp2_with fail
        with_reducible refine (steady_t c (k + 1) (T + 3) (decide (k + 1 < 3)) ON.out k302 OT.out (by unfold i64; omega) O3.out _).mono ?_
        rintro e x4 ⟨rfl, q⟩
        have R2 := Lib.hid (R.out.below q R.out.lt)
        have B2 := Lib.hid (B.out.trans (q.mono B.out.size))
        clear q R B r0 r1 r2
        have R := R2
        have B := B2
        clear R2 B2
        obtain ⟨r0, r1, r2⟩ := bc3 R.out
        go_wp2_with fail
        all_goals
          with_reducible refine (known_any _).mono ?_
          rintro e x5 ⟨rfl, q⟩
          have B2 := Lib.hid (B.out.trans (q.mono B.out.size))
          clear q R B r0 r1 r2
          go_wp2_with fail
          go_ret
          exact ⟨rfl, B2.out⟩

set_option maxRecDepth 100000 in
theorem lifted (os : Os) (started : os.Started) (H : Type) (enc : TypeId × Value → H) :
    ReturnsInHanded {} Try.checked os 5 .any (Rows.phaseStaysSpec.pre6 enc Try.prog Try.f5 Rows.phaseStaysRow.domain false) (Rows.phaseStaysSpec.post enc Try.prog Try.f5 false true false false) := by
  refine returnsInHanded_of_change (C := Try.checked) own started (by kernel_rfl) Try.func5
    (ChangeSpec.witness6 (enc := enc) (C := Try.checked) false ⟨#[], #[.slice none 0 0, .int .i64 0, .int .i64 0, .int .i64 0, .slice none 0 0], []⟩ 8 (by kernel_rfl) (by kernel_rfl) (by kernel_rfl) (by kernel_rfl)) ?_
  intro W base args ds gs before hval0 hW hcnd _
  have hval : ∀ (j : Nat) t v, Try.f5.params[j]? = some t → args[j]? = some v → Value.okWide Try.prog W .any base t v := hval0
  have hW' := hW
  obtain ⟨p, q, hA0, hV, rfl, hfz, hnd⟩ := hW
  have hA : DataW.TrodAll enc Try.prog W 0 (fun _ => true) true Try.f5.params.toList args.toList ds p := hA0
  rw [Try.params5] at hA hval
  obtain ⟨v0, vs0, d0, ds0, p0, q0, hargs, rfl, rfl, h0, r0⟩ := trodAll_cons hA
  obtain ⟨v1, vs1, d1, ds1, p1, q1, rfl, rfl, rfl, h1, r1⟩ := trodAll_cons r0
  obtain ⟨v2, vs2, d2, ds2, p2, q2, rfl, rfl, rfl, h2, r2⟩ := trodAll_cons r1
  obtain ⟨v3, vs3, d3, ds3, p3, q3, rfl, rfl, rfl, h3, r3⟩ := trodAll_cons r2
  obtain ⟨v4, vs4, d4, ds4, p4, q4, rfl, rfl, rfl, h4, r4⟩ := trodAll_cons r3
  obtain ⟨rfl, rfl, rfl⟩ := trodAll_nil r4
  obtain rfl : args = #[v0, v1, v2, v3, v4] := by cases args; simp_all
  obtain ⟨rfl, rfl⟩ := trodVars_none hV
  obtain ⟨a0, len0, cap0, rfl⟩ := okWide_slice Try.underlying22 (hval 0 22 v0 rfl rfl)
  have k0 := h0
  have lt0 : ∀ x ∈ p0, x.block < W.heap.size := by obtain ⟨m, hm⟩ := k0; exact DataW.trod_lt m _ _ _ hm
  obtain ⟨L0, l0, f0, c0, m0, rr0⟩ := open_times h0
  obtain ⟨n1, rfl, rfl, rfl, w1⟩ := open_int Try.underlying3 (hval 1 3 v1 rfl rfl) h1
  obtain ⟨n2, rfl, rfl, rfl, w2⟩ := open_int Try.underlying3 (hval 2 3 v2 rfl rfl) h2
  obtain ⟨n3, rfl, rfl, rfl, w3⟩ := open_int Try.underlying3 (hval 3 3 v3 rfl rfl) h3
  obtain ⟨a4, len4, cap4, rfl⟩ := okWide_slice Try.underlying22 (hval 4 22 v4 rfl rfl)
  have k4 := h4
  have lt4 : ∀ x ∈ p4, x.block < W.heap.size := by obtain ⟨m, hm⟩ := k4; exact DataW.trod_lt m _ _ _ hm
  obtain ⟨L4, l4, f4, c4, m4, rr4⟩ := open_times h4
  clear hA0 hval0
  refine (walk a0 len0 cap0 L0 n1 n2 n3 a4 len4 cap4 L4 W l0 f0 c0 m0 rr0 w1 w2 w3 l4 f4 c4 m4 rr4).mono fun e W' ⟨he, bel⟩ => ?_
  subst he
  exact ⟨_, rfl, _, _, _, [], _, [], hW', trodAll_mk1 (shut_bool Try.underlying4 _), (trodAll_cons_mk (Below.trod laidOut (by kernel_rfl) (of_decide_eq_true (by kernel_rfl)) k0 bel lt0) (trodAll_cons_mk (shut_int Try.underlying3 w1) (trodAll_cons_mk (shut_int Try.underlying3 w2) (trodAll_cons_mk (shut_int Try.underlying3 w3) (trodAll_cons_mk (Below.trod laidOut (by kernel_rfl) (of_decide_eq_true (by kernel_rfl)) k4 bel lt4) trodAll_mk0))))), rfl, bel.frame _, fun h => by cases h⟩

theorem over : Rows.phaseStaysRow.holds Try.pinned (OpenSpec.ofChange Rows.phaseStaysSpec) :=
  OpenClaim.holds_of_wide 5 Try.f5 rfl rfl rfl rfl rfl rfl rfl ⟨rfl, rfl, rfl, rfl, rfl⟩ rfl rfl rfl rfl rfl (by kernel_rfl) Try.func5 (by kernel_rfl)
    (of_decide_eq_true (by kernel_rfl)) (by unfold Func.isWrapper; first | (rw [if_pos (by decide +kernel)]; kernel_rfl) | (rw [if_neg (by decide +kernel)]; exact ⟨rfl, rfl⟩))
    (fun os started H enc _ => lifted os started H enc)

theorem proved : Rows.PhaseStaysSaid := over
#print axioms proved
end Go.Proofs.Ytfkfadafncjifaa.phaseStays
