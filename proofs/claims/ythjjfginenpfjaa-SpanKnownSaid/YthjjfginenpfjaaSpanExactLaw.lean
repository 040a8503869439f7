/-
  Proved: the statement SpanExact: of numbers alone sums, differences, bits, shifts and cuts are one number alone. No conditions.
-/
import Derived.Test.YthjjfginenpfjaaRows
import Derived.Test.YthjjfginenpfjaaSpanTo
import Derived.Deep.RegionHeld3
import Derived.Deep.DeepCutAuto
import Derived.WalkKit
import Derived.ProofKit
import Derived.OpenShut
import Derived.ChangeOld
import Derived.Below
import Derived.Handy
namespace Go.Proofs.Ythjjfginenpfjaa.spanExact
open Go.ChangeShapes Go.WideShapes Go.ChangeAt Go.RowKit Tn Ow Sp
set_option linter.unusedVariables false
set_option linter.unusedSimpArgs false

theorem own : ownKnob Try.prog.godebug = none := by kernel_rfl
theorem laidOut : laidOutB Try.prog = true := by kernel_rfl

theorem wr_bd (n : Int) : 0 ≤ IntKind.u64.wrap n ∧ IntKind.u64.wrap n ≤ 18446744073709551615 := by rw [IntKind.wrap_u64]; omega
theorem in_us {a : E} {s : Int} (ha : okS a) (h : inE a s = true) : 0 ≤ us s ∧ us s ≤ 18446744073709551615 := by
  rw [inE_iff] at h; unfold okS at ha; exact us_bd s (by omega) (by omega)
theorem in_sg {a : E} {s : Int} (ha : okS a) (h : inE a s = true) : sg (us s) = s := by
  rw [inE_iff] at h; unfold okS at ha; exact sg_us s (by omega) (by omega)
theorem and63 (n : Int) : bits .and .i64 n 63 = n % 64 := by
  unfold bits
  have e : (BitVec.ofInt IntKind.i64.bits n &&& BitVec.ofInt IntKind.i64.bits 63).toNat = (n % 64).toNat := by
    show ((BitVec.ofInt 64 n) &&& (63#64)).toNat = _
    rw [BitVec.toNat_and, BitVec.toNat_ofInt]
    have e2 := Nat.and_two_pow_sub_one_eq_mod (n % ((2 ^ 64 : Nat) : Int)).toNat 6
    simp only [Nat.reducePow, Nat.reduceSub] at e2 ⊢
    show (n % ((18446744073709551616 : Nat) : Int)).toNat &&& 63 = _
    rw [e2]
    omega
  show IntKind.i64.wrap (((BitVec.ofInt IntKind.i64.bits n &&& BitVec.ofInt IntKind.i64.bits 63).toNat : Nat) : Int) = _
  rw [e]
  rw [IntKind.wrap_i64]
  omega
theorem kk (k : Nat) (h : k ≤ 63) : min (IntKind.u64.wrap (k : Int)).toNat 64 = k := by rw [IntKind.wrap_u64]; omega
theorem wr_sg {a : E} {s : Int} (ha : okS a) (h : inE a s = true) : wrap64 (us s) = s := by
  rw [inE_iff] at h; unfold okS at ha; rw [sg_wrap _ (us_bd s (by omega) (by omega)).1 (us_bd s (by omega) (by omega)).2]; exact sg_us s (by omega) (by omega)
theorem wr_us {a : E} {s : Int} (ha : okS a) (h : inE a s = true) (k : Nat) : sg (IntKind.u64.wrap (s / 2 ^ k)) = s / 2 ^ k := by
  rw [inE_iff] at h; unfold okS at ha
  have b := div_pow_bd s k (by omega) (by omega)
  rw [us_wrap _ b.1 b.2]; exact sg_us _ b.1 b.2
theorem uof_to (v : Int) (r : E) (h : ofE v = r) (w : World) :
    Calls Try.prog 47 #[.int .u64 v] w fun e w' => e = .returned (.agg #[.int .u64 r.lo, .int .u64 r.hi]) ∧ Below w.heap.size w w' := by subst h; exact uof_any v w
theorem tot_lit (x : Int) (a : E) (ha : ofE x = a) (hx : 0 ≤ x ∧ x ≤ 18446744073709551615) (w : World) :
    Calls Try.prog 43 #[.agg #[.int .u64 a.lo, .int .u64 a.hi]] w fun e w' => e = .returned (.agg #[.int .u64 x, .int .u64 0]) ∧ Below w.heap.size w w' := by
  subst ha
  obtain ⟨X, rfl⟩ := bi_of x hx.1 hx.2
  have h := tot_any (ofE (bi X)) (okU_of _ hx.1 hx.2) w
  rw [alone_toT] at h
  exact h
theorem sof_to (v : Int) (r : E) (hv : 0 ≤ v ∧ v ≤ 18446744073709551615) (h : ofE (sg v) = r) (w : World) :
    Calls Try.prog 69 #[.int .u64 v] w fun e w' => e = .returned (.agg #[.int .i64 r.lo, .int .i64 r.hi]) ∧ Below w.heap.size w w' := by subst h; exact sof_any v hv.1 hv.2 w

set_option maxRecDepth 100000 in
set_option maxHeartbeats 4000000 in
theorem walk (n0 : Int) (n1 : Int) (n2 : Int) (w : World) (w0 : (Lit.int .u64 n0).wf = true) (w1 : (Lit.int .u64 n1).wf = true) (w2 : (Lit.int .i64 n2).wf = true) :
    Calls Try.prog 10 #[.int .u64 n0, .int .u64 n1, .int .i64 n2] w fun e w' => e = .returned (.bool true) ∧ Below w.heap.size w w' := by
  have h0 := bounds_u64 w0
  have h1 := bounds_u64 w1
  have hn := bounds_i64 w2
  have H0 := Lib.hid h0
  have H1 := Lib.hid h1
  obtain ⟨k, hk⟩ : ∃ k : Nat, n2 % 64 = (k : Int) := ⟨(n2 % 64).toNat, by omega⟩
  have HK := Lib.hid hk
  have mk : bits BinOp.and IntKind.i64 n2 63 = (k : Int) := (and63 n2).trans hk
  have kb : k ≤ 63 := by omega
  clear hk w0 w1 w2
  have q1 := U_neq
  have q2 := U_guard .neq
  have q3 := S_neq
  have q4 := S_guard .neq
  have q5 := T_neq
  have q6 := T_guard .neq
  obtain ⟨a, ea⟩ : ∃ r : E, ofE n0 = r := ⟨_, rfl⟩
  have EA := Lib.hid ea
  have OA := Lib.hid (show okU a by rw [← ea]; exact okU_of _ h0.1 h0.2)
  obtain ⟨b, eb⟩ : ∃ r : E, ofE n1 = r := ⟨_, rfl⟩
  have EB := Lib.hid eb
  have OB := Lib.hid (show okU b by rw [← eb]; exact okU_of _ h1.1 h1.2)
  obtain ⟨s, es⟩ : ∃ r : E, ofE (sg n0) = r := ⟨_, rfl⟩
  have ES := Lib.hid es
  have OS := Lib.hid (show okS s by rw [← es]; exact okS_of _ (sg_bd _ h0.1 h0.2).1 (sg_bd _ h0.1 h0.2).2)
  have F3 := Lib.hid (show uAnd a b = ofE (bits BinOp.and IntKind.u64 n0 n1) from by rw [← ea, ← eb, alone_and, bits_and _ _ h0.1 h0.2 h1.1 h1.2])
  have F4 := Lib.hid (show uOr a b = ofE (bits BinOp.or IntKind.u64 n0 n1) from by rw [← ea, ← eb, alone_or, bits_or _ _ h0.1 h0.2 h1.1 h1.2])
  have F5 := Lib.hid (show rsh a k = ofE (n0 / 2 ^ min (IntKind.u64.wrap (k : Int)).toNat 64) from by rw [kk k kb, ← ea]; rfl)
  have F6 := Lib.hid (show uCut a = ofE (n0.tmod 4294967296) from by rw [← ea, Int.tmod_eq_emod_of_nonneg h0.1]; exact alone_cut n0)
  have F7 := Lib.hid (show toS a = s from by rw [← ea, ← es]; exact alone_toS n0)
  have F8 := Lib.hid (show toU s = a from by rw [← ea, ← es, alone_toU, us_sg _ h0.1 h0.2])
  have F1 := Lib.hid (show n0 + n1 ≤ 18446744073709551615 → uAdd a b = ofE (n0 + n1) by intro h; rw [← ea, ← eb]; exact alone_add _ _ h)
  have F2 := Lib.hid (show n1 ≤ n0 → uSub a b = ofE (n0 - n1) by intro h; rw [← ea, ← eb]; exact alone_sub _ _ h)
  have F9 := Lib.hid (show n1 ≠ 0 → uDiv a b = ofE (IntKind.u64.wrap (n0.tdiv n1)) by intro h; rw [← ea, ← eb, Int.tdiv_eq_ediv_of_nonneg h0.1, wru (n0 / n1) (Int.ediv_nonneg h0.1 h1.1) (by have := Int.ediv_le_self n1 h0.1; omega)]; exact alone_div _ _ h)
  have FA := Lib.hid (show n1 ≠ 0 → uMod a b = ofE (n0.tmod n1) by intro h; rw [← ea, ← eb, Int.tmod_eq_emod_of_nonneg h0.1]; exact alone_mod _ _ h0.1 h)
  clear ea eb es
  go_enter Try.func10, Try.ntmps10
  go_wp2_with fail
  have HB := Lib.hid (Below.refl w.heap.size w)
  with_reducible refine (uof_to n0 a EA.out _).mono ?_
  rintro e w1 ⟨rfl, qb⟩
  replace HB := Lib.hid (below_then HB.out qb (Nat.le_refl _))
  clear qb
  go_wp2_with fail
  have A0 := (Bk.new w1 24 #[.int .u64 a.lo, .int .u64 a.hi])
  have A := Lib.hid A0
  clear A0
  replace HB := Lib.hid (below_al HB.out (.cells #[.int .u64 a.lo, .int .u64 a.hi] 24))
  skip
  generalize (w1.alloc (.cells #[.int .u64 a.lo, .int .u64 a.hi] 24)) = v1 at *
  obtain ⟨cA0, cA1⟩ := tcells A.out
  with_reducible refine (uof_to n1 b EB.out _).mono ?_
  rintro e w2 ⟨rfl, qb⟩
  replace A := Lib.hid (A.out.below qb A.out.lt)
  replace HB := Lib.hid (below_then HB.out qb (Nat.le_refl _))
  clear qb cA0 cA1
  obtain ⟨cA0, cA1⟩ := tcells A.out
  obtain ⟨dA0, dA1⟩ := tcells (A.out.alloc (.cells #[.int .u64 b.lo, .int .u64 b.hi] 24))
  go_upto_region 4 with (fail)
  clear dA0 dA1
  have B0 := Bk.new w2 24 #[.int .u64 b.lo, .int .u64 b.hi]
  replace A := Lib.hid (A.out.alloc (.cells #[.int .u64 b.lo, .int .u64 b.hi] 24))
  have B := Lib.hid B0
  clear B0
  replace HB := Lib.hid (below_al HB.out (.cells #[.int .u64 b.lo, .int .u64 b.hi] 24))
  clear cA0 cA1
  generalize (w2.alloc (.cells #[.int .u64 b.lo, .int .u64 b.hi] 24)) = v9 at *
  obtain ⟨cA0, cA1⟩ := tcells A.out
  obtain ⟨cB0, cB1⟩ := tcells B.out
  go_cut [9, 45] (fun s9 s45 wx => s45 = .bool false ∧ Hid (wx.cell? ⟨w1.heap.size, 0, none⟩ = some (.int .u64 a.lo) ∧ wx.cell? ⟨w1.heap.size, 1, none⟩ = some (.int .u64 a.hi) ∧ wx.cell? ⟨w2.heap.size, 0, none⟩ = some (.int .u64 b.lo) ∧ wx.cell? ⟨w2.heap.size, 1, none⟩ = some (.int .u64 b.hi)) ∧ Hid (Below w.heap.size w wx))
  case first =>
    by_cases ho : n0 + n1 ≤ 18446744073709551615
    · have o1 : (decide (n0 + n1 < n0)) = false := decide_eq_false (by omega)
      have o2 : (decide (IntKind.u64.wrap (n0 + n1) < n0)) = false := decide_eq_false (by rw [IntKind.wrap_u64]; omega)
      have G1 := Lib.hid (F1.out ho)
      by_cases hs : n1 ≤ n0
      · have s1 : decide (n1 ≤ n0) = true := decide_eq_true hs
        have G2 := Lib.hid (F2.out hs)
        go_wp2_with fail
        with_reducible refine (uadd_to a b _ OA.out OB.out G1.out _).mono ?_
        rintro e w3 ⟨rfl, qb⟩
        replace A := Lib.hid (A.out.below qb A.out.lt)
        replace B := Lib.hid (B.out.below qb B.out.lt)
        replace HB := Lib.hid (below_then HB.out qb (Nat.le_refl _))
        clear qb cA0 cA1 cB0 cB1
        obtain ⟨cA0, cA1⟩ := tcells A.out
        obtain ⟨cB0, cB1⟩ := tcells B.out
        go_wp2_with fail
        with_reducible refine (uof_any _ _).mono ?_
        rintro e w4 ⟨rfl, qb⟩
        replace A := Lib.hid (A.out.below qb A.out.lt)
        replace B := Lib.hid (B.out.below qb B.out.lt)
        replace HB := Lib.hid (below_then HB.out qb (Nat.le_refl _))
        clear qb cA0 cA1 cB0 cB1
        obtain ⟨cA0, cA1⟩ := tcells A.out
        obtain ⟨cB0, cB1⟩ := tcells B.out
        go_wp2_with fail
        with_reducible refine (usub_to a b _ OA.out OB.out G2.out _).mono ?_
        rintro e w5 ⟨rfl, qb⟩
        replace A := Lib.hid (A.out.below qb A.out.lt)
        replace B := Lib.hid (B.out.below qb B.out.lt)
        replace HB := Lib.hid (below_then HB.out qb (Nat.le_refl _))
        clear qb cA0 cA1 cB0 cB1
        obtain ⟨cA0, cA1⟩ := tcells A.out
        obtain ⟨cB0, cB1⟩ := tcells B.out
        go_wp2_with fail
        with_reducible refine (uof_any _ _).mono ?_
        rintro e w6 ⟨rfl, qb⟩
        replace A := Lib.hid (A.out.below qb A.out.lt)
        replace B := Lib.hid (B.out.below qb B.out.lt)
        replace HB := Lib.hid (below_then HB.out qb (Nat.le_refl _))
        clear qb cA0 cA1 cB0 cB1
        obtain ⟨cA0, cA1⟩ := tcells A.out
        obtain ⟨cB0, cB1⟩ := tcells B.out
        go_wp2_with fail
        skip
        go_meet
        exact ⟨rfl, Lib.hid ⟨cA0, cA1, cB0, cB1⟩, HB⟩
      · have s1 : decide (n1 ≤ n0) = false := decide_eq_false hs
        go_wp2_with fail
        with_reducible refine (uadd_to a b _ OA.out OB.out G1.out _).mono ?_
        rintro e w3 ⟨rfl, qb⟩
        replace A := Lib.hid (A.out.below qb A.out.lt)
        replace B := Lib.hid (B.out.below qb B.out.lt)
        replace HB := Lib.hid (below_then HB.out qb (Nat.le_refl _))
        clear qb cA0 cA1 cB0 cB1
        obtain ⟨cA0, cA1⟩ := tcells A.out
        obtain ⟨cB0, cB1⟩ := tcells B.out
        go_wp2_with fail
        with_reducible refine (uof_any _ _).mono ?_
        rintro e w4 ⟨rfl, qb⟩
        replace A := Lib.hid (A.out.below qb A.out.lt)
        replace B := Lib.hid (B.out.below qb B.out.lt)
        replace HB := Lib.hid (below_then HB.out qb (Nat.le_refl _))
        clear qb cA0 cA1 cB0 cB1
        obtain ⟨cA0, cA1⟩ := tcells A.out
        obtain ⟨cB0, cB1⟩ := tcells B.out
        go_wp2_with fail
        skip
        go_meet
        exact ⟨rfl, Lib.hid ⟨cA0, cA1, cB0, cB1⟩, HB⟩
    · have o2 : (decide (IntKind.u64.wrap (n0 + n1) < n0)) = true := decide_eq_true (by rw [IntKind.wrap_u64]; omega)
      by_cases hs : n1 ≤ n0
      · have s1 : decide (n1 ≤ n0) = true := decide_eq_true hs
        have G2 := Lib.hid (F2.out hs)
        go_wp2_with fail
        with_reducible refine (usub_to a b _ OA.out OB.out G2.out _).mono ?_
        rintro e w3 ⟨rfl, qb⟩
        replace A := Lib.hid (A.out.below qb A.out.lt)
        replace B := Lib.hid (B.out.below qb B.out.lt)
        replace HB := Lib.hid (below_then HB.out qb (Nat.le_refl _))
        clear qb cA0 cA1 cB0 cB1
        obtain ⟨cA0, cA1⟩ := tcells A.out
        obtain ⟨cB0, cB1⟩ := tcells B.out
        go_wp2_with fail
        with_reducible refine (uof_any _ _).mono ?_
        rintro e w4 ⟨rfl, qb⟩
        replace A := Lib.hid (A.out.below qb A.out.lt)
        replace B := Lib.hid (B.out.below qb B.out.lt)
        replace HB := Lib.hid (below_then HB.out qb (Nat.le_refl _))
        clear qb cA0 cA1 cB0 cB1
        obtain ⟨cA0, cA1⟩ := tcells A.out
        obtain ⟨cB0, cB1⟩ := tcells B.out
        go_wp2_with fail
        skip
        go_meet
        exact ⟨rfl, Lib.hid ⟨cA0, cA1, cB0, cB1⟩, HB⟩
      · have s1 : decide (n1 ≤ n0) = false := decide_eq_false hs
        go_wp2_with fail
        skip
        go_meet
        exact ⟨rfl, Lib.hid ⟨cA0, cA1, cB0, cB1⟩, HB⟩
  case rest =>
    clear HB cA0 cA1 cB0 cB1 A B F1 F2
    obtain ⟨rfl, HC, HB⟩ := hcut
    obtain ⟨cA0, cA1, cB0, cB1⟩ := HC.out
    clear HC
    go_upto_region 6 with (fail)
    go_cut [104] (fun s104 wx => s104 = .bool false ∧ Hid (wx.cell? ⟨w1.heap.size, 0, none⟩ = some (.int .u64 a.lo) ∧ wx.cell? ⟨w1.heap.size, 1, none⟩ = some (.int .u64 a.hi) ∧ wx.cell? ⟨w2.heap.size, 0, none⟩ = some (.int .u64 b.lo) ∧ wx.cell? ⟨w2.heap.size, 1, none⟩ = some (.int .u64 b.hi)) ∧ Hid (Below w.heap.size w wx))
    case first =>
      refine wp_region_held_drew (S := fun w' => w'.cell? ⟨w1.heap.size, 0, none⟩ = some (.int .u64 a.lo) ∧ w'.cell? ⟨w1.heap.size, 1, none⟩ = some (.int .u64 a.hi) ∧ w'.cell? ⟨w2.heap.size, 0, none⟩ = some (.int .u64 b.lo) ∧ w'.cell? ⟨w2.heap.size, 1, none⟩ = some (.int .u64 b.hi) ∧ Below w.heap.size w w') (by kernel_rfl) ?_ (fun hHeld => ?_)
      · exact ⟨cA0, cA1, cB0, cB1, HB.out.drew⟩
      refine wpAnyH_take (i := 0) (oi := { dst := some 46, op := Op.load 24 (Operand.tmp 7), type := 24, pos := "outright.go:108", after := #[], guard := none }) (v := ?_) rfl (by kernel_rfl) (by kernel_rfl) (by kernel_rfl) (fun _ _ _ h => h) (Or.inl ⟨by rfl, ?_⟩) hHeld ?_
      rotate_left
      · intro w9 hSw
        try dsimp only at hSw
        go_simp
        try with_reducible rfl
      try simp only [Act.put, List.setIfInBounds_toArray, List.set_cons_zero, List.set_cons_succ]
      refine wpAnyH_take (i := 1) (oi := { dst := some 47, op := Op.load 24 (Operand.tmp 8), type := 24, pos := "outright.go:108", after := #[], guard := none }) (v := ?_) rfl (by kernel_rfl) (by kernel_rfl) (by kernel_rfl) (fun _ _ _ h => h) (Or.inl ⟨by rfl, ?_⟩) hHeld ?_
      rotate_left
      · intro w9 hSw
        try dsimp only at hSw
        go_simp
        try with_reducible rfl
      try simp only [Act.put, List.setIfInBounds_toArray, List.set_cons_zero, List.set_cons_succ]
      refine wpAnyH_take (i := 3) (oi := { dst := some 49, op := Op.move (Operand.tmp 0), type := 22, pos := "outright.go:108", after := #[], guard := none }) (v := ?_) rfl (by kernel_rfl) (by kernel_rfl) (by kernel_rfl) (fun _ _ _ h => h) (Or.inl ⟨by rfl, ?_⟩) hHeld ?_
      rotate_left
      · intro w9 hSw
        try dsimp only at hSw
        go_simp
        try with_reducible rfl
      try simp only [Act.put, List.setIfInBounds_toArray, List.set_cons_zero, List.set_cons_succ]
      refine wpAnyH_take (i := 4) (oi := { dst := some 50, op := Op.move (Operand.tmp 1), type := 22, pos := "outright.go:108", after := #[], guard := none }) (v := ?_) rfl (by kernel_rfl) (by kernel_rfl) (by kernel_rfl) (fun _ _ _ h => h) (Or.inl ⟨by rfl, ?_⟩) hHeld ?_
      rotate_left
      · intro w9 hSw
        try dsimp only at hSw
        go_simp
        try with_reducible rfl
      try simp only [Act.put, List.setIfInBounds_toArray, List.set_cons_zero, List.set_cons_succ]
      refine wpAnyH_take (i := 5) (oi := { dst := some 51, op := Op.binOp BinOp.and 22 (Operand.tmp 49) (Operand.tmp 50) 22, type := 22, pos := "outright.go:108", after := #[{ on := 3, ground := Ground.data }, { on := 4, ground := Ground.data }], guard := none }) (v := ?_) rfl (by kernel_rfl) (by kernel_rfl) (by kernel_rfl) (fun _ _ _ h => h) (Or.inl ⟨by rfl, ?_⟩) hHeld ?_
      rotate_left
      · intro w9 hSw
        try dsimp only at hSw
        go_simp
        try with_reducible rfl
      try simp only [Act.put, List.setIfInBounds_toArray, List.set_cons_zero, List.set_cons_succ]
      refine wpAnyH_ready (rs := [2]) (by kernel_rfl) (by simp) ?_
      refine AllReadyH.cons (o := { dst := some 48, op := Op.call { callee := Callee.value (Operand.func 31), args := #[Operand.tmp 46, Operand.tmp 47], argTypes := #[24, 24] }, type := 24, pos := "outright.go:108", after := #[{ on := 0, ground := Ground.data }, { on := 1, ground := Ground.data }], guard := none }) rfl (fun K hK => ?_) AllReadyH.nil
      go_simp
      (go_at_call 31; with_reducible refine (uand_to a b _ OA.out OB.out F3.out _).mono ?_; rintro e z1 ⟨rfl, qb⟩)
      refine hK.out _ _ ?_ (fun g1 => ?_)
      · exact keep4 qb hHeld
      clear hK K qb
      skip
      try simp only [Act.put, List.setIfInBounds_toArray, List.set_cons_zero, List.set_cons_succ]
      refine wpAnyH_ready (rs := [6]) (by kernel_rfl) (by simp) ?_
      refine AllReadyH.cons (o := { dst := some 52, op := Op.call { callee := Callee.value (Operand.func 47), args := #[Operand.tmp 51], argTypes := #[22] }, type := 24, pos := "outright.go:108", after := #[{ on := 5, ground := Ground.data }, { on := 2, ground := Ground.chain }], guard := none }) rfl (fun K hK => ?_) AllReadyH.nil
      go_simp
      (go_at_call 47; with_reducible refine (uof_any _ _).mono ?_; rintro e z2 ⟨rfl, qb⟩)
      refine hK.out _ _ ?_ (fun g2 => ?_)
      · exact keep4 qb g1
      clear hK K qb
      clear g1
      try simp only [Act.put, List.setIfInBounds_toArray, List.set_cons_zero, List.set_cons_succ]
      refine wpAnyH_take (i := 7) (oi := { dst := some 53, op := Op.binOp BinOp.neq 24 (Operand.tmp 48) (Operand.tmp 52) 24, type := 4, pos := "outright.go:108", after := #[{ on := 2, ground := Ground.data }, { on := 6, ground := Ground.data }], guard := none }) (v := ?_) rfl (by kernel_rfl) (by kernel_rfl) (by kernel_rfl) (fun _ _ _ h => h) (Or.inl ⟨by rfl, ?_⟩) g2 ?_
      rotate_left
      · intro w9 hSw
        try dsimp only at hSw
        go_simp
        try with_reducible rfl
      try simp only [Act.put, List.setIfInBounds_toArray, List.set_cons_zero, List.set_cons_succ]
      refine wpAnyH_take (i := 8) (oi := { dst := some 54, op := Op.move (Operand.tmp 53), type := 4, pos := "outright.go:108", after := #[{ on := 7, ground := Ground.data }, { on := 6, ground := Ground.chain }], guard := none }) (v := ?_) rfl (by kernel_rfl) (by kernel_rfl) (by kernel_rfl) (fun _ _ _ h => h) (Or.inl ⟨by rfl, ?_⟩) g2 ?_
      rotate_left
      · intro w9 hSw
        try dsimp only at hSw
        go_simp
        try with_reducible rfl
      try simp only [Act.put, List.setIfInBounds_toArray, List.set_cons_zero, List.set_cons_succ]
      refine wpAnyH_take (i := 9) (oi := { dst := some 55, op := Op.load 24 (Operand.tmp 7), type := 24, pos := "outright.go:108", after := #[{ on := 8, ground := Ground.guard }], guard := some (8, false) }) (v := ?_) rfl (by kernel_rfl) (by kernel_rfl) (by kernel_rfl) (fun _ _ _ h => h) (Or.inl ⟨by rfl, ?_⟩) g2 ?_
      rotate_left
      · intro w9 hSw
        try dsimp only at hSw
        go_simp
        try with_reducible rfl
      try simp only [Act.put, List.setIfInBounds_toArray, List.set_cons_zero, List.set_cons_succ]
      refine wpAnyH_take (i := 10) (oi := { dst := some 56, op := Op.load 24 (Operand.tmp 8), type := 24, pos := "outright.go:108", after := #[{ on := 8, ground := Ground.guard }], guard := some (8, false) }) (v := ?_) rfl (by kernel_rfl) (by kernel_rfl) (by kernel_rfl) (fun _ _ _ h => h) (Or.inl ⟨by rfl, ?_⟩) g2 ?_
      rotate_left
      · intro w9 hSw
        try dsimp only at hSw
        go_simp
        try with_reducible rfl
      try simp only [Act.put, List.setIfInBounds_toArray, List.set_cons_zero, List.set_cons_succ]
      refine wpAnyH_take (i := 12) (oi := { dst := some 58, op := Op.move (Operand.tmp 0), type := 22, pos := "outright.go:108", after := #[{ on := 8, ground := Ground.guard }], guard := some (8, false) }) (v := ?_) rfl (by kernel_rfl) (by kernel_rfl) (by kernel_rfl) (fun _ _ _ h => h) (Or.inl ⟨by rfl, ?_⟩) g2 ?_
      rotate_left
      · intro w9 hSw
        try dsimp only at hSw
        go_simp
        try with_reducible rfl
      try simp only [Act.put, List.setIfInBounds_toArray, List.set_cons_zero, List.set_cons_succ]
      refine wpAnyH_take (i := 13) (oi := { dst := some 59, op := Op.move (Operand.tmp 1), type := 22, pos := "outright.go:108", after := #[{ on := 8, ground := Ground.guard }], guard := some (8, false) }) (v := ?_) rfl (by kernel_rfl) (by kernel_rfl) (by kernel_rfl) (fun _ _ _ h => h) (Or.inl ⟨by rfl, ?_⟩) g2 ?_
      rotate_left
      · intro w9 hSw
        try dsimp only at hSw
        go_simp
        try with_reducible rfl
      try simp only [Act.put, List.setIfInBounds_toArray, List.set_cons_zero, List.set_cons_succ]
      refine wpAnyH_take (i := 14) (oi := { dst := some 60, op := Op.binOp BinOp.or 22 (Operand.tmp 58) (Operand.tmp 59) 22, type := 22, pos := "outright.go:108", after := #[{ on := 12, ground := Ground.data }, { on := 13, ground := Ground.data }, { on := 8, ground := Ground.guard }], guard := some (8, false) }) (v := ?_) rfl (by kernel_rfl) (by kernel_rfl) (by kernel_rfl) (fun _ _ _ h => h) (Or.inl ⟨by rfl, ?_⟩) g2 ?_
      rotate_left
      · intro w9 hSw
        try dsimp only at hSw
        go_simp
        try with_reducible rfl
      try simp only [Act.put, List.setIfInBounds_toArray, List.set_cons_zero, List.set_cons_succ]
      refine wpAnyH_ready (rs := [11]) (by kernel_rfl) (by simp) ?_
      refine AllReadyH.cons (o := { dst := some 57, op := Op.call { callee := Callee.value (Operand.func 33), args := #[Operand.tmp 55, Operand.tmp 56], argTypes := #[24, 24] }, type := 24, pos := "outright.go:108", after := #[{ on := 9, ground := Ground.data }, { on := 10, ground := Ground.data }, { on := 8, ground := Ground.chain }, { on := 8, ground := Ground.guard }], guard := some (8, false) }) rfl (fun K hK => ?_) AllReadyH.nil
      go_simp
      (go_at_call 33; with_reducible refine (uor_to a b _ OA.out OB.out F4.out _).mono ?_; rintro e z3 ⟨rfl, qb⟩)
      refine hK.out _ _ ?_ (fun g3 => ?_)
      · exact keep4 qb g2
      clear hK K qb
      clear g2
      try simp only [Act.put, List.setIfInBounds_toArray, List.set_cons_zero, List.set_cons_succ]
      refine wpAnyH_ready (rs := [15]) (by kernel_rfl) (by simp) ?_
      refine AllReadyH.cons (o := { dst := some 61, op := Op.call { callee := Callee.value (Operand.func 47), args := #[Operand.tmp 60], argTypes := #[22] }, type := 24, pos := "outright.go:108", after := #[{ on := 14, ground := Ground.data }, { on := 11, ground := Ground.chain }, { on := 8, ground := Ground.guard }], guard := some (8, false) }) rfl (fun K hK => ?_) AllReadyH.nil
      go_simp
      (go_at_call 47; with_reducible refine (uof_any _ _).mono ?_; rintro e z4 ⟨rfl, qb⟩)
      refine hK.out _ _ ?_ (fun g4 => ?_)
      · exact keep4 qb g3
      clear hK K qb
      clear g3
      try simp only [Act.put, List.setIfInBounds_toArray, List.set_cons_zero, List.set_cons_succ]
      refine wpAnyH_take (i := 16) (oi := { dst := some 62, op := Op.binOp BinOp.neq 24 (Operand.tmp 57) (Operand.tmp 61) 24, type := 4, pos := "outright.go:108", after := #[{ on := 11, ground := Ground.data }, { on := 15, ground := Ground.data }, { on := 8, ground := Ground.guard }], guard := some (8, false) }) (v := ?_) rfl (by kernel_rfl) (by kernel_rfl) (by kernel_rfl) (fun _ _ _ h => h) (Or.inl ⟨by rfl, ?_⟩) g4 ?_
      rotate_left
      · intro w9 hSw
        try dsimp only at hSw
        go_simp
        try with_reducible rfl
      try simp only [Act.put, List.setIfInBounds_toArray, List.set_cons_zero, List.set_cons_succ]
      refine wpAnyH_take (i := 17) (oi := { dst := some 63, op := Op.pick (Operand.tmp 54) (Operand.const (Value.bool true)) (Operand.tmp 62), type := 4, pos := "outright.go:108", after := #[{ on := 8, ground := Ground.data }, { on := 16, ground := Ground.data }], guard := none }) (v := ?_) rfl (by kernel_rfl) (by kernel_rfl) (by kernel_rfl) (fun _ _ _ h => h) (Or.inl ⟨by rfl, ?_⟩) g4 ?_
      rotate_left
      · intro w9 hSw
        try dsimp only at hSw
        go_simp
        try with_reducible rfl
      try simp only [Act.put, List.setIfInBounds_toArray, List.set_cons_zero, List.set_cons_succ]
      refine wpAnyH_take (i := 18) (oi := { dst := some 64, op := Op.move (Operand.tmp 63), type := 4, pos := "outright.go:108", after := #[{ on := 17, ground := Ground.data }, { on := 15, ground := Ground.chain }], guard := none }) (v := ?_) rfl (by kernel_rfl) (by kernel_rfl) (by kernel_rfl) (fun _ _ _ h => h) (Or.inl ⟨by rfl, ?_⟩) g4 ?_
      rotate_left
      · intro w9 hSw
        try dsimp only at hSw
        go_simp
        try with_reducible rfl
      try simp only [Act.put, List.setIfInBounds_toArray, List.set_cons_zero, List.set_cons_succ]
      refine wpAnyH_take (i := 19) (oi := { dst := some 65, op := Op.load 24 (Operand.tmp 7), type := 24, pos := "outright.go:108", after := #[{ on := 18, ground := Ground.guard }], guard := some (18, false) }) (v := ?_) rfl (by kernel_rfl) (by kernel_rfl) (by kernel_rfl) (fun _ _ _ h => h) (Or.inl ⟨by rfl, ?_⟩) g4 ?_
      rotate_left
      · intro w9 hSw
        try dsimp only at hSw
        go_simp
        try with_reducible rfl
      try simp only [Act.put, List.setIfInBounds_toArray, List.set_cons_zero, List.set_cons_succ]
      refine wpAnyH_take (i := 20) (oi := { dst := some 66, op := Op.move (Operand.tmp 2), type := 3, pos := "outright.go:108", after := #[{ on := 18, ground := Ground.guard }], guard := some (18, false) }) (v := ?_) rfl (by kernel_rfl) (by kernel_rfl) (by kernel_rfl) (fun _ _ _ h => h) (Or.inl ⟨by rfl, ?_⟩) g4 ?_
      rotate_left
      · intro w9 hSw
        try dsimp only at hSw
        go_simp
        try with_reducible rfl
      try simp only [Act.put, List.setIfInBounds_toArray, List.set_cons_zero, List.set_cons_succ]
      refine wpAnyH_take (i := 22) (oi := { dst := some 68, op := Op.move (Operand.tmp 0), type := 22, pos := "outright.go:108", after := #[{ on := 18, ground := Ground.guard }], guard := some (18, false) }) (v := ?_) rfl (by kernel_rfl) (by kernel_rfl) (by kernel_rfl) (fun _ _ _ h => h) (Or.inl ⟨by rfl, ?_⟩) g4 ?_
      rotate_left
      · intro w9 hSw
        try dsimp only at hSw
        go_simp
        try with_reducible rfl
      try simp only [Act.put, List.setIfInBounds_toArray, List.set_cons_zero, List.set_cons_succ]
      refine wpAnyH_take (i := 23) (oi := { dst := some 69, op := Op.move (Operand.tmp 2), type := 3, pos := "outright.go:108", after := #[{ on := 18, ground := Ground.guard }], guard := some (18, false) }) (v := ?_) rfl (by kernel_rfl) (by kernel_rfl) (by kernel_rfl) (fun _ _ _ h => h) (Or.inl ⟨by rfl, ?_⟩) g4 ?_
      rotate_left
      · intro w9 hSw
        try dsimp only at hSw
        go_simp
        try with_reducible rfl
      try simp only [Act.put, List.setIfInBounds_toArray, List.set_cons_zero, List.set_cons_succ]
      refine wpAnyH_take (i := 24) (oi := { dst := some 70, op := Op.binOp BinOp.and 3 (Operand.tmp 69) (Operand.const (Value.int IntKind.i64 63)) 3, type := 3, pos := "outright.go:108", after := #[{ on := 23, ground := Ground.data }, { on := 18, ground := Ground.guard }], guard := some (18, false) }) (v := ?_) rfl (by kernel_rfl) (by kernel_rfl) (by kernel_rfl) (fun _ _ _ h => h) (Or.inl ⟨by rfl, ?_⟩) g4 ?_
      rotate_left
      · intro w9 hSw
        try dsimp only at hSw
        go_simp
        try with_reducible rfl
      try simp only [Act.put, List.setIfInBounds_toArray, List.set_cons_zero, List.set_cons_succ]
      refine wpAnyH_take (i := 25) (oi := { dst := some 71, op := Op.convert 3 60 (Operand.tmp 70), type := 60, pos := "outright.go:108", after := #[{ on := 24, ground := Ground.data }, { on := 18, ground := Ground.guard }], guard := some (18, false) }) (v := ?_) rfl (by kernel_rfl) (by kernel_rfl) (by kernel_rfl) (fun _ _ _ h => h) (Or.inl ⟨by rfl, ?_⟩) g4 ?_
      rotate_left
      · intro w9 hSw
        try dsimp only at hSw
        go_simp
        try with_reducible rfl
      try simp only [Act.put, List.setIfInBounds_toArray, List.set_cons_zero, List.set_cons_succ]
      refine wpAnyH_take (i := 26) (oi := { dst := some 72, op := Op.binOp BinOp.shr 22 (Operand.tmp 68) (Operand.tmp 71) 60, type := 22, pos := "outright.go:108", after := #[{ on := 22, ground := Ground.data }, { on := 25, ground := Ground.data }, { on := 18, ground := Ground.guard }], guard := some (18, false) }) (v := ?_) rfl (by kernel_rfl) (by kernel_rfl) (by kernel_rfl) (fun _ _ _ h => h) (Or.inl ⟨by rfl, ?_⟩) g4 ?_
      rotate_left
      · intro w9 hSw
        try dsimp only at hSw
        go_simp
        try with_reducible rfl
      try simp only [Act.put, List.setIfInBounds_toArray, List.set_cons_zero, List.set_cons_succ]
      refine wpAnyH_ready (rs := [21]) (by kernel_rfl) (by simp) ?_
      refine AllReadyH.cons (o := { dst := some 67, op := Op.call { callee := Callee.value (Operand.func 37), args := #[Operand.tmp 65, Operand.tmp 66], argTypes := #[24, 3] }, type := 24, pos := "outright.go:108", after := #[{ on := 19, ground := Ground.data }, { on := 20, ground := Ground.data }, { on := 18, ground := Ground.chain }, { on := 18, ground := Ground.guard }], guard := some (18, false) }) rfl (fun K hK => ?_) AllReadyH.nil
      go_simp
      (go_at_call 37; with_reducible refine (ursh_to a _ n2 k HK.out OA.out F5.out _).mono ?_; rintro e z5 ⟨rfl, qb⟩)
      refine hK.out _ _ ?_ (fun g5 => ?_)
      · exact keep4 qb g4
      clear hK K qb
      clear g4
      try simp only [Act.put, List.setIfInBounds_toArray, List.set_cons_zero, List.set_cons_succ]
      refine wpAnyH_ready (rs := [27]) (by kernel_rfl) (by simp) ?_
      refine AllReadyH.cons (o := { dst := some 73, op := Op.call { callee := Callee.value (Operand.func 47), args := #[Operand.tmp 72], argTypes := #[22] }, type := 24, pos := "outright.go:108", after := #[{ on := 26, ground := Ground.data }, { on := 21, ground := Ground.chain }, { on := 18, ground := Ground.guard }], guard := some (18, false) }) rfl (fun K hK => ?_) AllReadyH.nil
      go_simp
      (go_at_call 47; with_reducible refine (uof_any _ _).mono ?_; rintro e z6 ⟨rfl, qb⟩)
      refine hK.out _ _ ?_ (fun g6 => ?_)
      · exact keep4 qb g5
      clear hK K qb
      clear g5
      try simp only [Act.put, List.setIfInBounds_toArray, List.set_cons_zero, List.set_cons_succ]
      refine wpAnyH_take (i := 28) (oi := { dst := some 74, op := Op.binOp BinOp.neq 24 (Operand.tmp 67) (Operand.tmp 73) 24, type := 4, pos := "outright.go:108", after := #[{ on := 21, ground := Ground.data }, { on := 27, ground := Ground.data }, { on := 18, ground := Ground.guard }], guard := some (18, false) }) (v := ?_) rfl (by kernel_rfl) (by kernel_rfl) (by kernel_rfl) (fun _ _ _ h => h) (Or.inl ⟨by rfl, ?_⟩) g6 ?_
      rotate_left
      · intro w9 hSw
        try dsimp only at hSw
        go_simp
        try with_reducible rfl
      try simp only [Act.put, List.setIfInBounds_toArray, List.set_cons_zero, List.set_cons_succ]
      refine wpAnyH_take (i := 29) (oi := { dst := some 75, op := Op.pick (Operand.tmp 64) (Operand.const (Value.bool true)) (Operand.tmp 74), type := 4, pos := "outright.go:108", after := #[{ on := 18, ground := Ground.data }, { on := 28, ground := Ground.data }], guard := none }) (v := ?_) rfl (by kernel_rfl) (by kernel_rfl) (by kernel_rfl) (fun _ _ _ h => h) (Or.inl ⟨by rfl, ?_⟩) g6 ?_
      rotate_left
      · intro w9 hSw
        try dsimp only at hSw
        go_simp
        try with_reducible rfl
      try simp only [Act.put, List.setIfInBounds_toArray, List.set_cons_zero, List.set_cons_succ]
      refine wpAnyH_take (i := 30) (oi := { dst := some 76, op := Op.move (Operand.tmp 75), type := 4, pos := "outright.go:108", after := #[{ on := 29, ground := Ground.data }, { on := 27, ground := Ground.chain }], guard := none }) (v := ?_) rfl (by kernel_rfl) (by kernel_rfl) (by kernel_rfl) (fun _ _ _ h => h) (Or.inl ⟨by rfl, ?_⟩) g6 ?_
      rotate_left
      · intro w9 hSw
        try dsimp only at hSw
        go_simp
        try with_reducible rfl
      try simp only [Act.put, List.setIfInBounds_toArray, List.set_cons_zero, List.set_cons_succ]
      refine wpAnyH_take (i := 31) (oi := { dst := some 77, op := Op.load 24 (Operand.tmp 7), type := 24, pos := "outright.go:108", after := #[{ on := 30, ground := Ground.guard }], guard := some (30, false) }) (v := ?_) rfl (by kernel_rfl) (by kernel_rfl) (by kernel_rfl) (fun _ _ _ h => h) (Or.inl ⟨by rfl, ?_⟩) g6 ?_
      rotate_left
      · intro w9 hSw
        try dsimp only at hSw
        go_simp
        try with_reducible rfl
      try simp only [Act.put, List.setIfInBounds_toArray, List.set_cons_zero, List.set_cons_succ]
      refine wpAnyH_take (i := 33) (oi := { dst := some 79, op := Op.move (Operand.tmp 0), type := 22, pos := "outright.go:108", after := #[{ on := 30, ground := Ground.guard }], guard := some (30, false) }) (v := ?_) rfl (by kernel_rfl) (by kernel_rfl) (by kernel_rfl) (fun _ _ _ h => h) (Or.inl ⟨by rfl, ?_⟩) g6 ?_
      rotate_left
      · intro w9 hSw
        try dsimp only at hSw
        go_simp
        try with_reducible rfl
      try simp only [Act.put, List.setIfInBounds_toArray, List.set_cons_zero, List.set_cons_succ]
      refine wpAnyH_take (i := 34) (oi := { dst := some 80, op := Op.binOp BinOp.rem 22 (Operand.tmp 79) (Operand.const (Value.int IntKind.u64 4294967296)) 22, type := 22, pos := "outright.go:108", after := #[{ on := 33, ground := Ground.data }, { on := 30, ground := Ground.guard }], guard := some (30, false) }) (v := ?_) rfl (by kernel_rfl) (by kernel_rfl) (by kernel_rfl) (fun _ _ _ h => h) (Or.inl ⟨by rfl, ?_⟩) g6 ?_
      rotate_left
      · intro w9 hSw
        try dsimp only at hSw
        go_simp
        try with_reducible rfl
      try simp only [Act.put, List.setIfInBounds_toArray, List.set_cons_zero, List.set_cons_succ]
      refine wpAnyH_ready (rs := [32]) (by kernel_rfl) (by simp) ?_
      refine AllReadyH.cons (o := { dst := some 78, op := Op.call { callee := Callee.value (Operand.func 39), args := #[Operand.tmp 77], argTypes := #[24] }, type := 24, pos := "outright.go:108", after := #[{ on := 31, ground := Ground.data }, { on := 30, ground := Ground.chain }, { on := 30, ground := Ground.guard }], guard := some (30, false) }) rfl (fun K hK => ?_) AllReadyH.nil
      go_simp
      (go_at_call 39; with_reducible refine (ucut_to a _ OA.out F6.out _).mono ?_; rintro e z7 ⟨rfl, qb⟩)
      refine hK.out _ _ ?_ (fun g7 => ?_)
      · exact keep4 qb g6
      clear hK K qb
      clear g6
      try simp only [Act.put, List.setIfInBounds_toArray, List.set_cons_zero, List.set_cons_succ]
      refine wpAnyH_ready (rs := [35]) (by kernel_rfl) (by simp) ?_
      refine AllReadyH.cons (o := { dst := some 81, op := Op.call { callee := Callee.value (Operand.func 47), args := #[Operand.tmp 80], argTypes := #[22] }, type := 24, pos := "outright.go:108", after := #[{ on := 34, ground := Ground.data }, { on := 32, ground := Ground.chain }, { on := 30, ground := Ground.guard }], guard := some (30, false) }) rfl (fun K hK => ?_) AllReadyH.nil
      go_simp
      (go_at_call 47; with_reducible refine (uof_any _ _).mono ?_; rintro e z8 ⟨rfl, qb⟩)
      refine hK.out _ _ ?_ (fun g8 => ?_)
      · exact keep4 qb g7
      clear hK K qb
      clear g7
      try simp only [Act.put, List.setIfInBounds_toArray, List.set_cons_zero, List.set_cons_succ]
      refine wpAnyH_take (i := 36) (oi := { dst := some 82, op := Op.binOp BinOp.neq 24 (Operand.tmp 78) (Operand.tmp 81) 24, type := 4, pos := "outright.go:108", after := #[{ on := 32, ground := Ground.data }, { on := 35, ground := Ground.data }, { on := 30, ground := Ground.guard }], guard := some (30, false) }) (v := ?_) rfl (by kernel_rfl) (by kernel_rfl) (by kernel_rfl) (fun _ _ _ h => h) (Or.inl ⟨by rfl, ?_⟩) g8 ?_
      rotate_left
      · intro w9 hSw
        try dsimp only at hSw
        go_simp
        try with_reducible rfl
      try simp only [Act.put, List.setIfInBounds_toArray, List.set_cons_zero, List.set_cons_succ]
      refine wpAnyH_take (i := 37) (oi := { dst := some 83, op := Op.pick (Operand.tmp 76) (Operand.const (Value.bool true)) (Operand.tmp 82), type := 4, pos := "outright.go:108", after := #[{ on := 30, ground := Ground.data }, { on := 36, ground := Ground.data }], guard := none }) (v := ?_) rfl (by kernel_rfl) (by kernel_rfl) (by kernel_rfl) (fun _ _ _ h => h) (Or.inl ⟨by rfl, ?_⟩) g8 ?_
      rotate_left
      · intro w9 hSw
        try dsimp only at hSw
        go_simp
        try with_reducible rfl
      try simp only [Act.put, List.setIfInBounds_toArray, List.set_cons_zero, List.set_cons_succ]
      refine wpAnyH_take (i := 38) (oi := { dst := some 84, op := Op.move (Operand.tmp 83), type := 4, pos := "outright.go:108", after := #[{ on := 37, ground := Ground.data }, { on := 35, ground := Ground.chain }], guard := none }) (v := ?_) rfl (by kernel_rfl) (by kernel_rfl) (by kernel_rfl) (fun _ _ _ h => h) (Or.inl ⟨by rfl, ?_⟩) g8 ?_
      rotate_left
      · intro w9 hSw
        try dsimp only at hSw
        go_simp
        try with_reducible rfl
      try simp only [Act.put, List.setIfInBounds_toArray, List.set_cons_zero, List.set_cons_succ]
      refine wpAnyH_take (i := 39) (oi := { dst := some 85, op := Op.load 24 (Operand.tmp 7), type := 24, pos := "outright.go:108", after := #[{ on := 38, ground := Ground.guard }], guard := some (38, false) }) (v := ?_) rfl (by kernel_rfl) (by kernel_rfl) (by kernel_rfl) (fun _ _ _ h => h) (Or.inl ⟨by rfl, ?_⟩) g8 ?_
      rotate_left
      · intro w9 hSw
        try dsimp only at hSw
        go_simp
        try with_reducible rfl
      try simp only [Act.put, List.setIfInBounds_toArray, List.set_cons_zero, List.set_cons_succ]
      refine wpAnyH_take (i := 41) (oi := { dst := some 87, op := Op.move (Operand.tmp 0), type := 22, pos := "outright.go:108", after := #[{ on := 38, ground := Ground.guard }], guard := some (38, false) }) (v := ?_) rfl (by kernel_rfl) (by kernel_rfl) (by kernel_rfl) (fun _ _ _ h => h) (Or.inl ⟨by rfl, ?_⟩) g8 ?_
      rotate_left
      · intro w9 hSw
        try dsimp only at hSw
        go_simp
        try with_reducible rfl
      try simp only [Act.put, List.setIfInBounds_toArray, List.set_cons_zero, List.set_cons_succ]
      refine wpAnyH_ready (rs := [40]) (by kernel_rfl) (by simp) ?_
      refine AllReadyH.cons (o := { dst := some 86, op := Op.call { callee := Callee.value (Operand.func 41), args := #[Operand.tmp 85], argTypes := #[24] }, type := 35, pos := "outright.go:108", after := #[{ on := 39, ground := Ground.data }, { on := 38, ground := Ground.chain }, { on := 38, ground := Ground.guard }], guard := some (38, false) }) rfl (fun K hK => ?_) AllReadyH.nil
      go_simp
      (go_at_call 41; with_reducible refine (tos_to a s OA.out F7.out _).mono ?_; rintro e z9 ⟨rfl, qb⟩)
      refine hK.out _ _ ?_ (fun g9 => ?_)
      · exact keep4 qb g8
      clear hK K qb
      clear g8
      try simp only [Act.put, List.setIfInBounds_toArray, List.set_cons_zero, List.set_cons_succ]
      refine wpAnyH_ready (rs := [42]) (by kernel_rfl) (by simp) ?_
      refine AllReadyH.cons (o := { dst := some 88, op := Op.call { callee := Callee.value (Operand.func 69), args := #[Operand.tmp 87], argTypes := #[22] }, type := 35, pos := "outright.go:108", after := #[{ on := 41, ground := Ground.data }, { on := 40, ground := Ground.chain }, { on := 38, ground := Ground.guard }], guard := some (38, false) }) rfl (fun K hK => ?_) AllReadyH.nil
      go_simp
      (go_at_call 69; with_reducible refine (sof_to n0 s H0.out ES.out _).mono ?_; rintro e z10 ⟨rfl, qb⟩)
      refine hK.out _ _ ?_ (fun g10 => ?_)
      · exact keep4 qb g9
      clear hK K qb
      clear g9
      try simp only [Act.put, List.setIfInBounds_toArray, List.set_cons_zero, List.set_cons_succ]
      refine wpAnyH_take (i := 43) (oi := { dst := some 89, op := Op.binOp BinOp.neq 35 (Operand.tmp 86) (Operand.tmp 88) 35, type := 4, pos := "outright.go:108", after := #[{ on := 40, ground := Ground.data }, { on := 42, ground := Ground.data }, { on := 38, ground := Ground.guard }], guard := some (38, false) }) (v := ?_) rfl (by kernel_rfl) (by kernel_rfl) (by kernel_rfl) (fun _ _ _ h => h) (Or.inl ⟨by rfl, ?_⟩) g10 ?_
      rotate_left
      · intro w9 hSw
        try dsimp only at hSw
        go_simp
        try with_reducible rfl
      try simp only [Act.put, List.setIfInBounds_toArray, List.set_cons_zero, List.set_cons_succ]
      refine wpAnyH_take (i := 44) (oi := { dst := some 90, op := Op.pick (Operand.tmp 84) (Operand.const (Value.bool true)) (Operand.tmp 89), type := 4, pos := "outright.go:108", after := #[{ on := 38, ground := Ground.data }, { on := 43, ground := Ground.data }], guard := none }) (v := ?_) rfl (by kernel_rfl) (by kernel_rfl) (by kernel_rfl) (fun _ _ _ h => h) (Or.inl ⟨by rfl, ?_⟩) g10 ?_
      rotate_left
      · intro w9 hSw
        try dsimp only at hSw
        go_simp
        try with_reducible rfl
      try simp only [Act.put, List.setIfInBounds_toArray, List.set_cons_zero, List.set_cons_succ]
      refine wpAnyH_take (i := 45) (oi := { dst := some 91, op := Op.move (Operand.tmp 90), type := 4, pos := "outright.go:108", after := #[{ on := 44, ground := Ground.data }, { on := 42, ground := Ground.chain }], guard := none }) (v := ?_) rfl (by kernel_rfl) (by kernel_rfl) (by kernel_rfl) (fun _ _ _ h => h) (Or.inl ⟨by rfl, ?_⟩) g10 ?_
      rotate_left
      · intro w9 hSw
        try dsimp only at hSw
        go_simp
        try with_reducible rfl
      try simp only [Act.put, List.setIfInBounds_toArray, List.set_cons_zero, List.set_cons_succ]
      refine wpAnyH_take (i := 46) (oi := { dst := some 92, op := Op.move (Operand.tmp 0), type := 22, pos := "outright.go:108", after := #[{ on := 45, ground := Ground.guard }], guard := some (45, false) }) (v := ?_) rfl (by kernel_rfl) (by kernel_rfl) (by kernel_rfl) (fun _ _ _ h => h) (Or.inl ⟨by rfl, ?_⟩) g10 ?_
      rotate_left
      · intro w9 hSw
        try dsimp only at hSw
        go_simp
        try with_reducible rfl
      try simp only [Act.put, List.setIfInBounds_toArray, List.set_cons_zero, List.set_cons_succ]
      refine wpAnyH_take (i := 49) (oi := { dst := some 95, op := Op.load 24 (Operand.tmp 7), type := 24, pos := "outright.go:108", after := #[{ on := 45, ground := Ground.guard }], guard := some (45, false) }) (v := ?_) rfl (by kernel_rfl) (by kernel_rfl) (by kernel_rfl) (fun _ _ _ h => h) (Or.inl ⟨by rfl, ?_⟩) g10 ?_
      rotate_left
      · intro w9 hSw
        try dsimp only at hSw
        go_simp
        try with_reducible rfl
      try simp only [Act.put, List.setIfInBounds_toArray, List.set_cons_zero, List.set_cons_succ]
      refine wpAnyH_ready (rs := [47]) (by kernel_rfl) (by simp) ?_
      refine AllReadyH.cons (o := { dst := some 93, op := Op.call { callee := Callee.value (Operand.func 69), args := #[Operand.tmp 92], argTypes := #[22] }, type := 35, pos := "outright.go:108", after := #[{ on := 46, ground := Ground.data }, { on := 45, ground := Ground.chain }, { on := 45, ground := Ground.guard }], guard := some (45, false) }) rfl (fun K hK => ?_) AllReadyH.nil
      go_simp
      (go_at_call 69; with_reducible refine (sof_to n0 s H0.out ES.out _).mono ?_; rintro e z11 ⟨rfl, qb⟩)
      refine hK.out _ _ ?_ (fun g11 => ?_)
      · exact keep4 qb g10
      clear hK K qb
      clear g10
      try simp only [Act.put, List.setIfInBounds_toArray, List.set_cons_zero, List.set_cons_succ]
      refine wpAnyH_ready (rs := [48]) (by kernel_rfl) (by simp) ?_
      refine AllReadyH.cons (o := { dst := some 94, op := Op.call { callee := Callee.value (Operand.func 65), args := #[Operand.tmp 93], argTypes := #[35] }, type := 24, pos := "outright.go:108", after := #[{ on := 47, ground := Ground.data }, { on := 47, ground := Ground.chain }, { on := 45, ground := Ground.guard }], guard := some (45, false) }) rfl (fun K hK => ?_) AllReadyH.nil
      go_simp
      (go_at_call 65; with_reducible refine (tou_to s a OS.out F8.out _).mono ?_; rintro e z12 ⟨rfl, qb⟩)
      refine hK.out _ _ ?_ (fun g12 => ?_)
      · exact keep4 qb g11
      clear hK K qb
      clear g11
      try simp only [Act.put, List.setIfInBounds_toArray, List.set_cons_zero, List.set_cons_succ]
      refine wpAnyH_take (i := 50) (oi := { dst := some 96, op := Op.binOp BinOp.neq 24 (Operand.tmp 94) (Operand.tmp 95) 24, type := 4, pos := "outright.go:108", after := #[{ on := 48, ground := Ground.data }, { on := 49, ground := Ground.data }, { on := 45, ground := Ground.guard }], guard := some (45, false) }) (v := ?_) rfl (by kernel_rfl) (by kernel_rfl) (by kernel_rfl) (fun _ _ _ h => h) (Or.inl ⟨by rfl, ?_⟩) g12 ?_
      rotate_left
      · intro w9 hSw
        try dsimp only at hSw
        go_simp
        try with_reducible rfl
      try simp only [Act.put, List.setIfInBounds_toArray, List.set_cons_zero, List.set_cons_succ]
      refine wpAnyH_take (i := 51) (oi := { dst := some 97, op := Op.pick (Operand.tmp 91) (Operand.const (Value.bool true)) (Operand.tmp 96), type := 4, pos := "outright.go:108", after := #[{ on := 45, ground := Ground.data }, { on := 50, ground := Ground.data }], guard := none }) (v := ?_) rfl (by kernel_rfl) (by kernel_rfl) (by kernel_rfl) (fun _ _ _ h => h) (Or.inl ⟨by rfl, ?_⟩) g12 ?_
      rotate_left
      · intro w9 hSw
        try dsimp only at hSw
        go_simp
        try with_reducible rfl
      try simp only [Act.put, List.setIfInBounds_toArray, List.set_cons_zero, List.set_cons_succ]
      refine wpAnyH_take (i := 52) (oi := { dst := some 98, op := Op.move (Operand.tmp 97), type := 4, pos := "outright.go:108", after := #[{ on := 51, ground := Ground.data }, { on := 48, ground := Ground.chain }], guard := none }) (v := ?_) rfl (by kernel_rfl) (by kernel_rfl) (by kernel_rfl) (fun _ _ _ h => h) (Or.inl ⟨by rfl, ?_⟩) g12 ?_
      rotate_left
      · intro w9 hSw
        try dsimp only at hSw
        go_simp
        try with_reducible rfl
      try simp only [Act.put, List.setIfInBounds_toArray, List.set_cons_zero, List.set_cons_succ]
      refine wpAnyH_take (i := 53) (oi := { dst := some 99, op := Op.load 24 (Operand.tmp 7), type := 24, pos := "outright.go:108", after := #[{ on := 52, ground := Ground.guard }], guard := some (52, false) }) (v := ?_) rfl (by kernel_rfl) (by kernel_rfl) (by kernel_rfl) (fun _ _ _ h => h) (Or.inl ⟨by rfl, ?_⟩) g12 ?_
      rotate_left
      · intro w9 hSw
        try dsimp only at hSw
        go_simp
        try with_reducible rfl
      try simp only [Act.put, List.setIfInBounds_toArray, List.set_cons_zero, List.set_cons_succ]
      refine wpAnyH_take (i := 55) (oi := { dst := some 101, op := Op.move (Operand.tmp 0), type := 22, pos := "outright.go:108", after := #[{ on := 52, ground := Ground.guard }], guard := some (52, false) }) (v := ?_) rfl (by kernel_rfl) (by kernel_rfl) (by kernel_rfl) (fun _ _ _ h => h) (Or.inl ⟨by rfl, ?_⟩) g12 ?_
      rotate_left
      · intro w9 hSw
        try dsimp only at hSw
        go_simp
        try with_reducible rfl
      try simp only [Act.put, List.setIfInBounds_toArray, List.set_cons_zero, List.set_cons_succ]
      refine wpAnyH_take (i := 56) (oi := { dst := some 102, op := Op.build 38 #[(0, Operand.tmp 101)], type := 38, pos := "outright.go:108", after := #[{ on := 55, ground := Ground.data }, { on := 52, ground := Ground.guard }], guard := some (52, false) }) (v := ?_) rfl (by kernel_rfl) (by kernel_rfl) (by kernel_rfl) (fun _ _ _ h => h) (Or.inl ⟨by rfl, ?_⟩) g12 ?_
      rotate_left
      · intro w9 hSw
        try dsimp only at hSw
        go_simp
        try with_reducible rfl
      try simp only [Act.put, List.setIfInBounds_toArray, List.set_cons_zero, List.set_cons_succ]
      refine wpAnyH_ready (rs := [54]) (by kernel_rfl) (by simp) ?_
      refine AllReadyH.cons (o := { dst := some 100, op := Op.call { callee := Callee.value (Operand.func 43), args := #[Operand.tmp 99], argTypes := #[24] }, type := 38, pos := "outright.go:108", after := #[{ on := 53, ground := Ground.data }, { on := 52, ground := Ground.chain }, { on := 52, ground := Ground.guard }], guard := some (52, false) }) rfl (fun K hK => ?_) AllReadyH.nil
      go_simp
      (go_at_call 43; with_reducible refine (tot_lit n0 a EA.out H0.out _).mono ?_; rintro e z13 ⟨rfl, qb⟩)
      refine hK.out _ _ ?_ (fun g13 => ?_)
      · exact keep4 qb g12
      clear hK K qb
      clear g12
      try simp only [Act.put, List.setIfInBounds_toArray, List.set_cons_zero, List.set_cons_succ]
      refine wpAnyH_take (i := 57) (oi := { dst := some 103, op := Op.binOp BinOp.neq 38 (Operand.tmp 100) (Operand.tmp 102) 38, type := 4, pos := "outright.go:108", after := #[{ on := 54, ground := Ground.data }, { on := 56, ground := Ground.data }, { on := 52, ground := Ground.guard }], guard := some (52, false) }) (v := ?_) rfl (by kernel_rfl) (by kernel_rfl) (by kernel_rfl) (fun _ _ _ h => h) (Or.inl ⟨by rfl, ?_⟩) g13 ?_
      rotate_left
      · intro w9 hSw
        try dsimp only at hSw
        go_simp
        try with_reducible rfl
      try simp only [Act.put, List.setIfInBounds_toArray, List.set_cons_zero, List.set_cons_succ]
      refine wpAnyH_take (i := 58) (oi := { dst := some 104, op := Op.pick (Operand.tmp 98) (Operand.const (Value.bool true)) (Operand.tmp 103), type := 4, pos := "outright.go:108", after := #[{ on := 52, ground := Ground.data }, { on := 57, ground := Ground.data }], guard := none }) (v := ?_) rfl (by kernel_rfl) (by kernel_rfl) (by kernel_rfl) (fun _ _ _ h => h) (Or.inl ⟨by rfl, ?_⟩) g13 ?_
      rotate_left
      · intro w9 hSw
        try dsimp only at hSw
        go_simp
        try with_reducible rfl
      try simp only [Act.put, List.setIfInBounds_toArray, List.set_cons_zero, List.set_cons_succ]
      refine wpAnyH_done (by kernel_rfl) ?_ _
      go_wp2_with fail
      go_meet
      exact ⟨rfl, Lib.hid ⟨g13.1, g13.2.1, g13.2.2.1, g13.2.2.2.1⟩, Lib.hid g13.2.2.2.2⟩
    case rest =>
      clear HB cA0 cA1 cB0 cB1
      obtain ⟨rfl, HC, HB⟩ := hcut
      obtain ⟨cA0, cA1, cB0, cB1⟩ := HC.out
      clear HC
      go_upto_region 8 with (fail)
      go_cut [126] (fun s126 wx => s126 = .bool false ∧ Hid (Below w.heap.size w wx))
      case first =>
        by_cases hy : n1 = 0
        · have y1 : (n1 != 0) = false := by simp [hy]
          clear hy
          refine wp_region_held_drew (S := fun w' => w'.cell? ⟨w1.heap.size, 0, none⟩ = some (.int .u64 a.lo) ∧ w'.cell? ⟨w1.heap.size, 1, none⟩ = some (.int .u64 a.hi) ∧ w'.cell? ⟨w2.heap.size, 0, none⟩ = some (.int .u64 b.lo) ∧ w'.cell? ⟨w2.heap.size, 1, none⟩ = some (.int .u64 b.hi) ∧ Below w.heap.size w w') (by kernel_rfl) ?_ (fun hHeld => ?_)
          · exact ⟨cA0, cA1, cB0, cB1, HB.out.drew⟩
          refine wpAnyH_take (i := 0) (oi := { dst := some 105, op := Op.move (Operand.tmp 1), type := 22, pos := "outright.go:111", after := #[], guard := none }) (v := ?_) rfl (by kernel_rfl) (by kernel_rfl) (by kernel_rfl) (fun _ _ _ h => h) (Or.inl ⟨by rfl, ?_⟩) hHeld ?_
          rotate_left
          · intro w9 hSw
            try dsimp only at hSw
            go_simp
            try with_reducible rfl
          try simp only [Act.put, List.setIfInBounds_toArray, List.set_cons_zero, List.set_cons_succ]
          refine wpAnyH_take (i := 1) (oi := { dst := some 106, op := Op.binOp BinOp.neq 22 (Operand.tmp 105) (Operand.const (Value.int IntKind.u64 0)) 22, type := 4, pos := "outright.go:111", after := #[{ on := 0, ground := Ground.data }], guard := none }) (v := ?_) rfl (by kernel_rfl) (by kernel_rfl) (by kernel_rfl) (fun _ _ _ h => h) (Or.inl ⟨by rfl, ?_⟩) hHeld ?_
          rotate_left
          · intro w9 hSw
            try dsimp only at hSw
            go_simp
            try with_reducible rfl
          try simp only [Act.put, List.setIfInBounds_toArray, List.set_cons_zero, List.set_cons_succ]
          refine wpAnyH_take (i := 2) (oi := { dst := some 107, op := Op.move (Operand.tmp 106), type := 4, pos := "outright.go:111", after := #[{ on := 1, ground := Ground.data }], guard := none }) (v := ?_) rfl (by kernel_rfl) (by kernel_rfl) (by kernel_rfl) (fun _ _ _ h => h) (Or.inl ⟨by rfl, ?_⟩) hHeld ?_
          rotate_left
          · intro w9 hSw
            try dsimp only at hSw
            go_simp
            try with_reducible rfl
          try simp only [Act.put, List.setIfInBounds_toArray, List.set_cons_zero, List.set_cons_succ]
          refine wpAnyH_take (i := 3) (oi := { dst := some 108, op := Op.load 24 (Operand.tmp 7), type := 24, pos := "outright.go:111", after := #[{ on := 2, ground := Ground.guard }], guard := some (2, true) }) (v := undef) rfl (by kernel_rfl) (by kernel_rfl) (by kernel_rfl) (fun _ _ _ h => h) (Or.inr ⟨by rfl, rfl⟩) hHeld ?_
          try simp only [Act.put, List.setIfInBounds_toArray, List.set_cons_zero, List.set_cons_succ]
          refine wpAnyH_take (i := 4) (oi := { dst := some 109, op := Op.load 24 (Operand.tmp 8), type := 24, pos := "outright.go:111", after := #[{ on := 2, ground := Ground.guard }], guard := some (2, true) }) (v := undef) rfl (by kernel_rfl) (by kernel_rfl) (by kernel_rfl) (fun _ _ _ h => h) (Or.inr ⟨by rfl, rfl⟩) hHeld ?_
          try simp only [Act.put, List.setIfInBounds_toArray, List.set_cons_zero, List.set_cons_succ]
          refine wpAnyH_take (i := 5) (oi := { dst := some 110, op := Op.call { callee := Callee.value (Operand.func 27), args := #[Operand.tmp 108, Operand.tmp 109], argTypes := #[24, 24] }, type := 24, pos := "outright.go:111", after := #[{ on := 3, ground := Ground.data }, { on := 4, ground := Ground.data }, { on := 2, ground := Ground.chain }, { on := 2, ground := Ground.guard }], guard := some (2, true) }) (v := undef) rfl (by kernel_rfl) (by kernel_rfl) (by kernel_rfl) (fun _ _ _ h => h) (Or.inr ⟨by rfl, rfl⟩) hHeld ?_
          try simp only [Act.put, List.setIfInBounds_toArray, List.set_cons_zero, List.set_cons_succ]
          refine wpAnyH_take (i := 6) (oi := { dst := some 111, op := Op.move (Operand.tmp 0), type := 22, pos := "outright.go:111", after := #[{ on := 2, ground := Ground.guard }], guard := some (2, true) }) (v := undef) rfl (by kernel_rfl) (by kernel_rfl) (by kernel_rfl) (fun _ _ _ h => h) (Or.inr ⟨by rfl, rfl⟩) hHeld ?_
          try simp only [Act.put, List.setIfInBounds_toArray, List.set_cons_zero, List.set_cons_succ]
          refine wpAnyH_take (i := 7) (oi := { dst := some 112, op := Op.move (Operand.tmp 1), type := 22, pos := "outright.go:111", after := #[{ on := 2, ground := Ground.guard }], guard := some (2, true) }) (v := undef) rfl (by kernel_rfl) (by kernel_rfl) (by kernel_rfl) (fun _ _ _ h => h) (Or.inr ⟨by rfl, rfl⟩) hHeld ?_
          try simp only [Act.put, List.setIfInBounds_toArray, List.set_cons_zero, List.set_cons_succ]
          refine wpAnyH_take (i := 8) (oi := { dst := some 113, op := Op.binOp BinOp.quo 22 (Operand.tmp 111) (Operand.tmp 112) 22, type := 22, pos := "outright.go:111", after := #[{ on := 6, ground := Ground.data }, { on := 7, ground := Ground.data }, { on := 2, ground := Ground.guard }], guard := some (2, true) }) (v := undef) rfl (by kernel_rfl) (by kernel_rfl) (by kernel_rfl) (fun _ _ _ h => h) (Or.inr ⟨by rfl, rfl⟩) hHeld ?_
          try simp only [Act.put, List.setIfInBounds_toArray, List.set_cons_zero, List.set_cons_succ]
          refine wpAnyH_take (i := 9) (oi := { dst := some 114, op := Op.call { callee := Callee.value (Operand.func 47), args := #[Operand.tmp 113], argTypes := #[22] }, type := 24, pos := "outright.go:111", after := #[{ on := 8, ground := Ground.data }, { on := 5, ground := Ground.chain }, { on := 2, ground := Ground.guard }], guard := some (2, true) }) (v := undef) rfl (by kernel_rfl) (by kernel_rfl) (by kernel_rfl) (fun _ _ _ h => h) (Or.inr ⟨by rfl, rfl⟩) hHeld ?_
          try simp only [Act.put, List.setIfInBounds_toArray, List.set_cons_zero, List.set_cons_succ]
          refine wpAnyH_take (i := 10) (oi := { dst := some 115, op := Op.binOp BinOp.neq 24 (Operand.tmp 110) (Operand.tmp 114) 24, type := 4, pos := "outright.go:111", after := #[{ on := 5, ground := Ground.data }, { on := 9, ground := Ground.data }, { on := 2, ground := Ground.guard }], guard := some (2, true) }) (v := undef) rfl (by kernel_rfl) (by kernel_rfl) (by kernel_rfl) (fun _ _ _ h => h) (Or.inr ⟨by rfl, rfl⟩) hHeld ?_
          try simp only [Act.put, List.setIfInBounds_toArray, List.set_cons_zero, List.set_cons_succ]
          refine wpAnyH_take (i := 11) (oi := { dst := some 116, op := Op.move (Operand.tmp 115), type := 4, pos := "outright.go:111", after := #[{ on := 10, ground := Ground.data }, { on := 9, ground := Ground.chain }, { on := 2, ground := Ground.guard }], guard := some (2, true) }) (v := undef) rfl (by kernel_rfl) (by kernel_rfl) (by kernel_rfl) (fun _ _ _ h => h) (Or.inr ⟨by rfl, rfl⟩) hHeld ?_
          try simp only [Act.put, List.setIfInBounds_toArray, List.set_cons_zero, List.set_cons_succ]
          refine wpAnyH_take (i := 12) (oi := { dst := some 117, op := Op.load 24 (Operand.tmp 7), type := 24, pos := "outright.go:111", after := #[{ on := 11, ground := Ground.guard }], guard := some (11, false) }) (v := undef) rfl (by kernel_rfl) (by kernel_rfl) (by kernel_rfl) (fun _ _ _ h => h) (Or.inr ⟨by rfl, rfl⟩) hHeld ?_
          try simp only [Act.put, List.setIfInBounds_toArray, List.set_cons_zero, List.set_cons_succ]
          refine wpAnyH_take (i := 13) (oi := { dst := some 118, op := Op.load 24 (Operand.tmp 8), type := 24, pos := "outright.go:111", after := #[{ on := 11, ground := Ground.guard }], guard := some (11, false) }) (v := undef) rfl (by kernel_rfl) (by kernel_rfl) (by kernel_rfl) (fun _ _ _ h => h) (Or.inr ⟨by rfl, rfl⟩) hHeld ?_
          try simp only [Act.put, List.setIfInBounds_toArray, List.set_cons_zero, List.set_cons_succ]
          refine wpAnyH_take (i := 14) (oi := { dst := some 119, op := Op.call { callee := Callee.value (Operand.func 29), args := #[Operand.tmp 117, Operand.tmp 118], argTypes := #[24, 24] }, type := 24, pos := "outright.go:111", after := #[{ on := 12, ground := Ground.data }, { on := 13, ground := Ground.data }, { on := 11, ground := Ground.chain }, { on := 11, ground := Ground.guard }], guard := some (11, false) }) (v := undef) rfl (by kernel_rfl) (by kernel_rfl) (by kernel_rfl) (fun _ _ _ h => h) (Or.inr ⟨by rfl, rfl⟩) hHeld ?_
          try simp only [Act.put, List.setIfInBounds_toArray, List.set_cons_zero, List.set_cons_succ]
          refine wpAnyH_take (i := 15) (oi := { dst := some 120, op := Op.move (Operand.tmp 0), type := 22, pos := "outright.go:111", after := #[{ on := 11, ground := Ground.guard }], guard := some (11, false) }) (v := undef) rfl (by kernel_rfl) (by kernel_rfl) (by kernel_rfl) (fun _ _ _ h => h) (Or.inr ⟨by rfl, rfl⟩) hHeld ?_
          try simp only [Act.put, List.setIfInBounds_toArray, List.set_cons_zero, List.set_cons_succ]
          refine wpAnyH_take (i := 16) (oi := { dst := some 121, op := Op.move (Operand.tmp 1), type := 22, pos := "outright.go:111", after := #[{ on := 11, ground := Ground.guard }], guard := some (11, false) }) (v := undef) rfl (by kernel_rfl) (by kernel_rfl) (by kernel_rfl) (fun _ _ _ h => h) (Or.inr ⟨by rfl, rfl⟩) hHeld ?_
          try simp only [Act.put, List.setIfInBounds_toArray, List.set_cons_zero, List.set_cons_succ]
          refine wpAnyH_take (i := 17) (oi := { dst := some 122, op := Op.binOp BinOp.rem 22 (Operand.tmp 120) (Operand.tmp 121) 22, type := 22, pos := "outright.go:111", after := #[{ on := 15, ground := Ground.data }, { on := 16, ground := Ground.data }, { on := 11, ground := Ground.guard }], guard := some (11, false) }) (v := undef) rfl (by kernel_rfl) (by kernel_rfl) (by kernel_rfl) (fun _ _ _ h => h) (Or.inr ⟨by rfl, rfl⟩) hHeld ?_
          try simp only [Act.put, List.setIfInBounds_toArray, List.set_cons_zero, List.set_cons_succ]
          refine wpAnyH_take (i := 18) (oi := { dst := some 123, op := Op.call { callee := Callee.value (Operand.func 47), args := #[Operand.tmp 122], argTypes := #[22] }, type := 24, pos := "outright.go:111", after := #[{ on := 17, ground := Ground.data }, { on := 14, ground := Ground.chain }, { on := 11, ground := Ground.guard }], guard := some (11, false) }) (v := undef) rfl (by kernel_rfl) (by kernel_rfl) (by kernel_rfl) (fun _ _ _ h => h) (Or.inr ⟨by rfl, rfl⟩) hHeld ?_
          try simp only [Act.put, List.setIfInBounds_toArray, List.set_cons_zero, List.set_cons_succ]
          refine wpAnyH_take (i := 19) (oi := { dst := some 124, op := Op.binOp BinOp.neq 24 (Operand.tmp 119) (Operand.tmp 123) 24, type := 4, pos := "outright.go:111", after := #[{ on := 14, ground := Ground.data }, { on := 18, ground := Ground.data }, { on := 11, ground := Ground.guard }], guard := some (11, false) }) (v := undef) rfl (by kernel_rfl) (by kernel_rfl) (by kernel_rfl) (fun _ _ _ h => h) (Or.inr ⟨by rfl, rfl⟩) hHeld ?_
          try simp only [Act.put, List.setIfInBounds_toArray, List.set_cons_zero, List.set_cons_succ]
          refine wpAnyH_take (i := 20) (oi := { dst := some 125, op := Op.pick (Operand.tmp 116) (Operand.const (Value.bool true)) (Operand.tmp 124), type := 4, pos := "outright.go:111", after := #[{ on := 11, ground := Ground.data }, { on := 19, ground := Ground.data }, { on := 2, ground := Ground.guard }], guard := some (2, true) }) (v := undef) rfl (by kernel_rfl) (by kernel_rfl) (by kernel_rfl) (fun _ _ _ h => h) (Or.inr ⟨by rfl, rfl⟩) hHeld ?_
          try simp only [Act.put, List.setIfInBounds_toArray, List.set_cons_zero, List.set_cons_succ]
          refine wpAnyH_take (i := 21) (oi := { dst := some 126, op := Op.pick (Operand.tmp 107) (Operand.tmp 125) (Operand.const (Value.bool false)), type := 4, pos := "outright.go:111", after := #[{ on := 2, ground := Ground.data }, { on := 20, ground := Ground.data }], guard := none }) (v := ?_) rfl (by kernel_rfl) (by kernel_rfl) (by kernel_rfl) (fun _ _ _ h => h) (Or.inl ⟨by rfl, ?_⟩) hHeld ?_
          rotate_left
          · intro w9 hSw
            try dsimp only at hSw
            go_simp
            try with_reducible rfl
          try simp only [Act.put, List.setIfInBounds_toArray, List.set_cons_zero, List.set_cons_succ]
          refine wpAnyH_done (by kernel_rfl) ?_ _
          go_wp2_with fail
          go_meet
          exact ⟨rfl, Lib.hid hHeld.2.2.2.2⟩
        · have y1 : (n1 != 0) = true := by simp [hy]
          have G9 := Lib.hid (F9.out hy)
          have GA := Lib.hid (FA.out hy)
          have y2 : 0 < n1 := by omega
          have y3 : (n1 == 0) = false := by simp [hy]
          refine wp_region_held_drew (S := fun w' => w'.cell? ⟨w1.heap.size, 0, none⟩ = some (.int .u64 a.lo) ∧ w'.cell? ⟨w1.heap.size, 1, none⟩ = some (.int .u64 a.hi) ∧ w'.cell? ⟨w2.heap.size, 0, none⟩ = some (.int .u64 b.lo) ∧ w'.cell? ⟨w2.heap.size, 1, none⟩ = some (.int .u64 b.hi) ∧ Below w.heap.size w w') (by kernel_rfl) ?_ (fun hHeld => ?_)
          · exact ⟨cA0, cA1, cB0, cB1, HB.out.drew⟩
          refine wpAnyH_take (i := 0) (oi := { dst := some 105, op := Op.move (Operand.tmp 1), type := 22, pos := "outright.go:111", after := #[], guard := none }) (v := ?_) rfl (by kernel_rfl) (by kernel_rfl) (by kernel_rfl) (fun _ _ _ h => h) (Or.inl ⟨by rfl, ?_⟩) hHeld ?_
          rotate_left
          · intro w9 hSw
            try dsimp only at hSw
            go_simp
            try with_reducible rfl
          try simp only [Act.put, List.setIfInBounds_toArray, List.set_cons_zero, List.set_cons_succ]
          refine wpAnyH_take (i := 1) (oi := { dst := some 106, op := Op.binOp BinOp.neq 22 (Operand.tmp 105) (Operand.const (Value.int IntKind.u64 0)) 22, type := 4, pos := "outright.go:111", after := #[{ on := 0, ground := Ground.data }], guard := none }) (v := ?_) rfl (by kernel_rfl) (by kernel_rfl) (by kernel_rfl) (fun _ _ _ h => h) (Or.inl ⟨by rfl, ?_⟩) hHeld ?_
          rotate_left
          · intro w9 hSw
            try dsimp only at hSw
            go_simp
            try with_reducible rfl
          try simp only [Act.put, List.setIfInBounds_toArray, List.set_cons_zero, List.set_cons_succ]
          refine wpAnyH_take (i := 2) (oi := { dst := some 107, op := Op.move (Operand.tmp 106), type := 4, pos := "outright.go:111", after := #[{ on := 1, ground := Ground.data }], guard := none }) (v := ?_) rfl (by kernel_rfl) (by kernel_rfl) (by kernel_rfl) (fun _ _ _ h => h) (Or.inl ⟨by rfl, ?_⟩) hHeld ?_
          rotate_left
          · intro w9 hSw
            try dsimp only at hSw
            go_simp
            try with_reducible rfl
          try simp only [Act.put, List.setIfInBounds_toArray, List.set_cons_zero, List.set_cons_succ]
          refine wpAnyH_take (i := 3) (oi := { dst := some 108, op := Op.load 24 (Operand.tmp 7), type := 24, pos := "outright.go:111", after := #[{ on := 2, ground := Ground.guard }], guard := some (2, true) }) (v := ?_) rfl (by kernel_rfl) (by kernel_rfl) (by kernel_rfl) (fun _ _ _ h => h) (Or.inl ⟨by rfl, ?_⟩) hHeld ?_
          rotate_left
          · intro w9 hSw
            try dsimp only at hSw
            go_simp
            try with_reducible rfl
          try simp only [Act.put, List.setIfInBounds_toArray, List.set_cons_zero, List.set_cons_succ]
          refine wpAnyH_take (i := 4) (oi := { dst := some 109, op := Op.load 24 (Operand.tmp 8), type := 24, pos := "outright.go:111", after := #[{ on := 2, ground := Ground.guard }], guard := some (2, true) }) (v := ?_) rfl (by kernel_rfl) (by kernel_rfl) (by kernel_rfl) (fun _ _ _ h => h) (Or.inl ⟨by rfl, ?_⟩) hHeld ?_
          rotate_left
          · intro w9 hSw
            try dsimp only at hSw
            go_simp
            try with_reducible rfl
          try simp only [Act.put, List.setIfInBounds_toArray, List.set_cons_zero, List.set_cons_succ]
          refine wpAnyH_take (i := 6) (oi := { dst := some 111, op := Op.move (Operand.tmp 0), type := 22, pos := "outright.go:111", after := #[{ on := 2, ground := Ground.guard }], guard := some (2, true) }) (v := ?_) rfl (by kernel_rfl) (by kernel_rfl) (by kernel_rfl) (fun _ _ _ h => h) (Or.inl ⟨by rfl, ?_⟩) hHeld ?_
          rotate_left
          · intro w9 hSw
            try dsimp only at hSw
            go_simp
            try with_reducible rfl
          try simp only [Act.put, List.setIfInBounds_toArray, List.set_cons_zero, List.set_cons_succ]
          refine wpAnyH_take (i := 7) (oi := { dst := some 112, op := Op.move (Operand.tmp 1), type := 22, pos := "outright.go:111", after := #[{ on := 2, ground := Ground.guard }], guard := some (2, true) }) (v := ?_) rfl (by kernel_rfl) (by kernel_rfl) (by kernel_rfl) (fun _ _ _ h => h) (Or.inl ⟨by rfl, ?_⟩) hHeld ?_
          rotate_left
          · intro w9 hSw
            try dsimp only at hSw
            go_simp
            try with_reducible rfl
          try simp only [Act.put, List.setIfInBounds_toArray, List.set_cons_zero, List.set_cons_succ]
          refine wpAnyH_take (i := 8) (oi := { dst := some 113, op := Op.binOp BinOp.quo 22 (Operand.tmp 111) (Operand.tmp 112) 22, type := 22, pos := "outright.go:111", after := #[{ on := 6, ground := Ground.data }, { on := 7, ground := Ground.data }, { on := 2, ground := Ground.guard }], guard := some (2, true) }) (v := ?_) rfl (by kernel_rfl) (by kernel_rfl) (by kernel_rfl) (fun _ _ _ h => h) (Or.inl ⟨by rfl, ?_⟩) hHeld ?_
          rotate_left
          · intro w9 hSw
            try dsimp only at hSw
            go_simp
            try with_reducible rfl
          try simp only [Act.put, List.setIfInBounds_toArray, List.set_cons_zero, List.set_cons_succ]
          refine wpAnyH_ready (rs := [5]) (by kernel_rfl) (by simp) ?_
          refine AllReadyH.cons (o := { dst := some 110, op := Op.call { callee := Callee.value (Operand.func 27), args := #[Operand.tmp 108, Operand.tmp 109], argTypes := #[24, 24] }, type := 24, pos := "outright.go:111", after := #[{ on := 3, ground := Ground.data }, { on := 4, ground := Ground.data }, { on := 2, ground := Ground.chain }, { on := 2, ground := Ground.guard }], guard := some (2, true) }) rfl (fun K hK => ?_) AllReadyH.nil
          go_simp
          (go_at_call 27; with_reducible refine (udiv_to a b _ OA.out OB.out G9.out _).mono ?_; rintro e z1 ⟨rfl, qb⟩)
          refine hK.out _ _ ?_ (fun g1 => ?_)
          · exact keep4 qb hHeld
          clear hK K qb
          skip
          try simp only [Act.put, List.setIfInBounds_toArray, List.set_cons_zero, List.set_cons_succ]
          refine wpAnyH_ready (rs := [9]) (by kernel_rfl) (by simp) ?_
          refine AllReadyH.cons (o := { dst := some 114, op := Op.call { callee := Callee.value (Operand.func 47), args := #[Operand.tmp 113], argTypes := #[22] }, type := 24, pos := "outright.go:111", after := #[{ on := 8, ground := Ground.data }, { on := 5, ground := Ground.chain }, { on := 2, ground := Ground.guard }], guard := some (2, true) }) rfl (fun K hK => ?_) AllReadyH.nil
          go_simp
          (go_at_call 47; with_reducible refine (uof_any _ _).mono ?_; rintro e z2 ⟨rfl, qb⟩)
          refine hK.out _ _ ?_ (fun g2 => ?_)
          · exact keep4 qb g1
          clear hK K qb
          clear g1
          try simp only [Act.put, List.setIfInBounds_toArray, List.set_cons_zero, List.set_cons_succ]
          refine wpAnyH_take (i := 10) (oi := { dst := some 115, op := Op.binOp BinOp.neq 24 (Operand.tmp 110) (Operand.tmp 114) 24, type := 4, pos := "outright.go:111", after := #[{ on := 5, ground := Ground.data }, { on := 9, ground := Ground.data }, { on := 2, ground := Ground.guard }], guard := some (2, true) }) (v := ?_) rfl (by kernel_rfl) (by kernel_rfl) (by kernel_rfl) (fun _ _ _ h => h) (Or.inl ⟨by rfl, ?_⟩) g2 ?_
          rotate_left
          · intro w9 hSw
            try dsimp only at hSw
            go_simp
            try with_reducible rfl
          try simp only [Act.put, List.setIfInBounds_toArray, List.set_cons_zero, List.set_cons_succ]
          refine wpAnyH_take (i := 11) (oi := { dst := some 116, op := Op.move (Operand.tmp 115), type := 4, pos := "outright.go:111", after := #[{ on := 10, ground := Ground.data }, { on := 9, ground := Ground.chain }, { on := 2, ground := Ground.guard }], guard := some (2, true) }) (v := ?_) rfl (by kernel_rfl) (by kernel_rfl) (by kernel_rfl) (fun _ _ _ h => h) (Or.inl ⟨by rfl, ?_⟩) g2 ?_
          rotate_left
          · intro w9 hSw
            try dsimp only at hSw
            go_simp
            try with_reducible rfl
          try simp only [Act.put, List.setIfInBounds_toArray, List.set_cons_zero, List.set_cons_succ]
          refine wpAnyH_take (i := 12) (oi := { dst := some 117, op := Op.load 24 (Operand.tmp 7), type := 24, pos := "outright.go:111", after := #[{ on := 11, ground := Ground.guard }], guard := some (11, false) }) (v := ?_) rfl (by kernel_rfl) (by kernel_rfl) (by kernel_rfl) (fun _ _ _ h => h) (Or.inl ⟨by rfl, ?_⟩) g2 ?_
          rotate_left
          · intro w9 hSw
            try dsimp only at hSw
            go_simp
            try with_reducible rfl
          try simp only [Act.put, List.setIfInBounds_toArray, List.set_cons_zero, List.set_cons_succ]
          refine wpAnyH_take (i := 13) (oi := { dst := some 118, op := Op.load 24 (Operand.tmp 8), type := 24, pos := "outright.go:111", after := #[{ on := 11, ground := Ground.guard }], guard := some (11, false) }) (v := ?_) rfl (by kernel_rfl) (by kernel_rfl) (by kernel_rfl) (fun _ _ _ h => h) (Or.inl ⟨by rfl, ?_⟩) g2 ?_
          rotate_left
          · intro w9 hSw
            try dsimp only at hSw
            go_simp
            try with_reducible rfl
          try simp only [Act.put, List.setIfInBounds_toArray, List.set_cons_zero, List.set_cons_succ]
          refine wpAnyH_take (i := 15) (oi := { dst := some 120, op := Op.move (Operand.tmp 0), type := 22, pos := "outright.go:111", after := #[{ on := 11, ground := Ground.guard }], guard := some (11, false) }) (v := ?_) rfl (by kernel_rfl) (by kernel_rfl) (by kernel_rfl) (fun _ _ _ h => h) (Or.inl ⟨by rfl, ?_⟩) g2 ?_
          rotate_left
          · intro w9 hSw
            try dsimp only at hSw
            go_simp
            try with_reducible rfl
          try simp only [Act.put, List.setIfInBounds_toArray, List.set_cons_zero, List.set_cons_succ]
          refine wpAnyH_take (i := 16) (oi := { dst := some 121, op := Op.move (Operand.tmp 1), type := 22, pos := "outright.go:111", after := #[{ on := 11, ground := Ground.guard }], guard := some (11, false) }) (v := ?_) rfl (by kernel_rfl) (by kernel_rfl) (by kernel_rfl) (fun _ _ _ h => h) (Or.inl ⟨by rfl, ?_⟩) g2 ?_
          rotate_left
          · intro w9 hSw
            try dsimp only at hSw
            go_simp
            try with_reducible rfl
          try simp only [Act.put, List.setIfInBounds_toArray, List.set_cons_zero, List.set_cons_succ]
          refine wpAnyH_take (i := 17) (oi := { dst := some 122, op := Op.binOp BinOp.rem 22 (Operand.tmp 120) (Operand.tmp 121) 22, type := 22, pos := "outright.go:111", after := #[{ on := 15, ground := Ground.data }, { on := 16, ground := Ground.data }, { on := 11, ground := Ground.guard }], guard := some (11, false) }) (v := ?_) rfl (by kernel_rfl) (by kernel_rfl) (by kernel_rfl) (fun _ _ _ h => h) (Or.inl ⟨by rfl, ?_⟩) g2 ?_
          rotate_left
          · intro w9 hSw
            try dsimp only at hSw
            go_simp
            try with_reducible rfl
          try simp only [Act.put, List.setIfInBounds_toArray, List.set_cons_zero, List.set_cons_succ]
          refine wpAnyH_ready (rs := [14]) (by kernel_rfl) (by simp) ?_
          refine AllReadyH.cons (o := { dst := some 119, op := Op.call { callee := Callee.value (Operand.func 29), args := #[Operand.tmp 117, Operand.tmp 118], argTypes := #[24, 24] }, type := 24, pos := "outright.go:111", after := #[{ on := 12, ground := Ground.data }, { on := 13, ground := Ground.data }, { on := 11, ground := Ground.chain }, { on := 11, ground := Ground.guard }], guard := some (11, false) }) rfl (fun K hK => ?_) AllReadyH.nil
          go_simp
          (go_at_call 29; with_reducible refine (umod_to a b _ OA.out OB.out GA.out _).mono ?_; rintro e z3 ⟨rfl, qb⟩)
          refine hK.out _ _ ?_ (fun g3 => ?_)
          · exact keep4 qb g2
          clear hK K qb
          clear g2
          try simp only [Act.put, List.setIfInBounds_toArray, List.set_cons_zero, List.set_cons_succ]
          refine wpAnyH_ready (rs := [18]) (by kernel_rfl) (by simp) ?_
          refine AllReadyH.cons (o := { dst := some 123, op := Op.call { callee := Callee.value (Operand.func 47), args := #[Operand.tmp 122], argTypes := #[22] }, type := 24, pos := "outright.go:111", after := #[{ on := 17, ground := Ground.data }, { on := 14, ground := Ground.chain }, { on := 11, ground := Ground.guard }], guard := some (11, false) }) rfl (fun K hK => ?_) AllReadyH.nil
          go_simp
          (go_at_call 47; with_reducible refine (uof_any _ _).mono ?_; rintro e z4 ⟨rfl, qb⟩)
          refine hK.out _ _ ?_ (fun g4 => ?_)
          · exact keep4 qb g3
          clear hK K qb
          clear g3
          try simp only [Act.put, List.setIfInBounds_toArray, List.set_cons_zero, List.set_cons_succ]
          refine wpAnyH_take (i := 19) (oi := { dst := some 124, op := Op.binOp BinOp.neq 24 (Operand.tmp 119) (Operand.tmp 123) 24, type := 4, pos := "outright.go:111", after := #[{ on := 14, ground := Ground.data }, { on := 18, ground := Ground.data }, { on := 11, ground := Ground.guard }], guard := some (11, false) }) (v := ?_) rfl (by kernel_rfl) (by kernel_rfl) (by kernel_rfl) (fun _ _ _ h => h) (Or.inl ⟨by rfl, ?_⟩) g4 ?_
          rotate_left
          · intro w9 hSw
            try dsimp only at hSw
            go_simp
            try with_reducible rfl
          try simp only [Act.put, List.setIfInBounds_toArray, List.set_cons_zero, List.set_cons_succ]
          refine wpAnyH_take (i := 20) (oi := { dst := some 125, op := Op.pick (Operand.tmp 116) (Operand.const (Value.bool true)) (Operand.tmp 124), type := 4, pos := "outright.go:111", after := #[{ on := 11, ground := Ground.data }, { on := 19, ground := Ground.data }, { on := 2, ground := Ground.guard }], guard := some (2, true) }) (v := ?_) rfl (by kernel_rfl) (by kernel_rfl) (by kernel_rfl) (fun _ _ _ h => h) (Or.inl ⟨by rfl, ?_⟩) g4 ?_
          rotate_left
          · intro w9 hSw
            try dsimp only at hSw
            go_simp
            try with_reducible rfl
          try simp only [Act.put, List.setIfInBounds_toArray, List.set_cons_zero, List.set_cons_succ]
          refine wpAnyH_take (i := 21) (oi := { dst := some 126, op := Op.pick (Operand.tmp 107) (Operand.tmp 125) (Operand.const (Value.bool false)), type := 4, pos := "outright.go:111", after := #[{ on := 2, ground := Ground.data }, { on := 20, ground := Ground.data }], guard := none }) (v := ?_) rfl (by kernel_rfl) (by kernel_rfl) (by kernel_rfl) (fun _ _ _ h => h) (Or.inl ⟨by rfl, ?_⟩) g4 ?_
          rotate_left
          · intro w9 hSw
            try dsimp only at hSw
            go_simp
            try with_reducible rfl
          try simp only [Act.put, List.setIfInBounds_toArray, List.set_cons_zero, List.set_cons_succ]
          refine wpAnyH_done (by kernel_rfl) ?_ _
          go_wp2_with fail
          go_meet
          exact ⟨rfl, Lib.hid g4.2.2.2.2⟩
      case rest =>
        clear HB cA0 cA1 cB0 cB1 F9 FA
        obtain ⟨rfl, HB⟩ := hcut
        go_wp2_with fail
        with_reducible refine (works_any _).mono ?_
        rintro e w3 ⟨rfl, qb⟩
        replace HB := Lib.hid (below_then HB.out qb (Nat.le_refl _))
        clear qb
        go_wp2_with fail
        go_returns
        exact ⟨rfl, HB.out⟩

set_option maxRecDepth 100000 in
theorem lifted (os : Os) (started : os.Started) (H : Type) (enc : TypeId × Value → H) :
    ReturnsInHanded {} Try.checked os 10 .any (Rows.spanExactSpec.pre6 enc Try.prog Try.f10 Rows.spanExactRow.domain false) (Rows.spanExactSpec.post enc Try.prog Try.f10 false true false false) := by
  refine returnsInHanded_of_change (C := Try.checked) own started (by kernel_rfl) Try.func10
    (ChangeSpec.witness6 (enc := enc) (C := Try.checked) false ⟨#[], #[.int .u64 0, .int .u64 0, .int .i64 0], []⟩ 8 (by kernel_rfl) (by kernel_rfl) (by kernel_rfl) (by kernel_rfl)) ?_
  intro W base args ds gs before hval0 hW hcnd _
  have hval : ∀ (j : Nat) t v, Try.f10.params[j]? = some t → args[j]? = some v → Value.okWide Try.prog W .any base t v := hval0
  have hW' := hW
  obtain ⟨p, q, hA0, hV, rfl, hfz, hnd⟩ := hW
  have hA : DataW.TrodAll enc Try.prog W 0 (fun _ => true) true Try.f10.params.toList args.toList ds p := hA0
  rw [Try.params10] at hA hval
  obtain ⟨v0, vs0, d0, ds0, p0, q0, hargs, rfl, rfl, h0, r0⟩ := trodAll_cons hA
  obtain ⟨v1, vs1, d1, ds1, p1, q1, rfl, rfl, rfl, h1, r1⟩ := trodAll_cons r0
  obtain ⟨v2, vs2, d2, ds2, p2, q2, rfl, rfl, rfl, h2, r2⟩ := trodAll_cons r1
  obtain ⟨rfl, rfl, rfl⟩ := trodAll_nil r2
  obtain rfl : args = #[v0, v1, v2] := by cases args; simp_all
  obtain ⟨rfl, rfl⟩ := trodVars_none hV
  obtain ⟨n0, rfl, rfl, rfl, w0⟩ := open_int Try.underlying22 (hval 0 22 v0 rfl rfl) h0
  obtain ⟨n1, rfl, rfl, rfl, w1⟩ := open_int Try.underlying22 (hval 1 22 v1 rfl rfl) h1
  obtain ⟨n2, rfl, rfl, rfl, w2⟩ := open_int Try.underlying3 (hval 2 3 v2 rfl rfl) h2
  clear hA0 hval0
  refine (walk n0 n1 n2 W w0 w1 w2).mono fun e W' ⟨he, bel⟩ => ?_
  subst he
  exact ⟨_, rfl, _, _, _, [], _, [], hW', trodAll_mk1 (shut_bool Try.underlying4 _), (trodAll_cons_mk (shut_int Try.underlying22 w0) (trodAll_cons_mk (shut_int Try.underlying22 w1) (trodAll_cons_mk (shut_int Try.underlying3 w2) trodAll_mk0))), rfl, bel.frame _, fun h => by cases h⟩

theorem over : Rows.spanExactRow.holds Try.pinned (OpenSpec.ofChange Rows.spanExactSpec) :=
  OpenClaim.holds_of_wide 10 Try.f10 rfl rfl rfl rfl rfl rfl rfl ⟨rfl, rfl, rfl, rfl, rfl⟩ rfl rfl rfl rfl rfl (by kernel_rfl) Try.func10 (by kernel_rfl)
    (of_decide_eq_true (by kernel_rfl)) (by unfold Func.isWrapper; first | (rw [if_pos (by decide +kernel)]; kernel_rfl) | (rw [if_neg (by decide +kernel)]; exact ⟨rfl, rfl⟩))
    (fun os started H enc _ => lifted os started H enc)

theorem proved : Rows.SpanExactSaid := over
#print axioms proved
end Go.Proofs.Ythjjfginenpfjaa.spanExact
