/-
  Proved: the statement SpanSigned: of any numbers with a sign all that is promised is what the document says. No conditions.
-/
import Derived.Test.YthjjfginenpfjaaRows
import Derived.Test.YthjjfginenpfjaaSpanTo
import Derived.Test.YthjjfginenpfjaaSpanR5
import Derived.Deep.RegionHeld3
import Derived.WalkKit
import Derived.ProofKit
import Derived.OpenShut
import Derived.ChangeOld
import Derived.Below
import Derived.Handy
namespace Go.Proofs.Ythjjfginenpfjaa.spanSigned
open Go.ChangeShapes Go.WideShapes Go.ChangeAt Go.RowKit Tn Ow Sp
set_option linter.unusedVariables false
set_option linter.unusedSimpArgs false

theorem own : ownKnob Try.prog.godebug = none := by kernel_rfl
theorem laidOut : laidOutB Try.prog = true := by kernel_rfl

theorem rsmeet_to (a b r : E) (o : Bool) (h : meetE a b = r) (g : metE a b = o) (w : World) :
    Calls Try.prog 52 #[.agg #[.int .i64 a.lo, .int .i64 a.hi], .agg #[.int .i64 b.lo, .int .i64 b.hi]] w fun e w' => e = .returned (.tuple #[.agg #[.int .i64 r.lo, .int .i64 r.hi], .bool o]) ∧ Below w.heap.size w w' := by subst h g; exact rsmeet_any a b w
theorem rsin_to (a : E) (v : Int) (r : Bool) (hv : 0 ≤ v ∧ v ≤ 18446744073709551615) (h : inE a (sg v) = r) (w : World) :
    Calls Try.prog 54 #[.agg #[.int .i64 a.lo, .int .i64 a.hi], .int .u64 v] w fun e w' => e = .returned (.bool r) ∧ Below w.heap.size w w' := by subst h; exact rsin_any a v hv.1 hv.2 w
theorem rswith_to (a b : E) (r : Bool) (h : withE a b = r) (w : World) :
    Calls Try.prog 56 #[.agg #[.int .i64 a.lo, .int .i64 a.hi], .agg #[.int .i64 b.lo, .int .i64 b.hi]] w fun e w' => e = .returned (.bool r) ∧ Below w.heap.size w w' := by subst h; exact rswith_any a b w
theorem cell_al {w : World} {p : Addr} {v : Value} (h : w.cell? p = some v) (o : Obj) : (w.alloc o).cell? p = some v := (World.cell?_alloc_lt w o p (World.block_lt_of_cell? w _ h)).trans h

set_option maxRecDepth 100000 in
set_option maxHeartbeats 4000000 in
theorem walk (x0 : E) (x1 : E) (n2 : Int) (n3 : Int) (w : World) (f0 : inS x0) (f1 : inS x1) (w2 : (Lit.int .i64 n2).wf = true) (w3 : (Lit.int .u64 n3).wf = true) :
    Calls Try.prog 4 #[.agg #[.int .i64 x0.lo, .int .i64 x0.hi], .agg #[.int .i64 x1.lo, .int .i64 x1.hi], .int .i64 n2, .int .u64 n3] w fun e w' => e = .returned (.bool true) ∧ Below w.heap.size w w' := by
  have hn := bounds_i64 w2
  have h3 := bounds_u64 w3
  obtain ⟨k, hk⟩ : ∃ k : Nat, n2 % 64 = (k : Int) := ⟨(n2 % 64).toNat, by omega⟩
  have HK := Lib.hid hk
  have HN := Lib.hid hn
  have H3 := Lib.hid h3
  clear hk hn h3 w2 w3
  obtain ⟨a, ea⟩ : ∃ a : E, sortE x0.lo x0.hi = a := ⟨_, rfl⟩
  have EA := Lib.hid ea
  have OA := Lib.hid (show okS a by rw [← ea]; exact ok_sortS f0)
  clear ea
  obtain ⟨b, eb⟩ : ∃ a : E, sortE x1.lo x1.hi = a := ⟨_, rfl⟩
  have EB := Lib.hid eb
  have OB := Lib.hid (show okS b by rw [← eb]; exact ok_sortS f1)
  clear eb
  obtain ⟨m, em⟩ : ∃ r : E, meetE a b = r := ⟨_, rfl⟩
  obtain ⟨o, eo⟩ : ∃ r : Bool, metE a b = r := ⟨_, rfl⟩
  obtain ⟨p, ep⟩ : ∃ r : Bool, inE a (sg n3) = r := ⟨_, rfl⟩
  obtain ⟨q, eq⟩ : ∃ r : Bool, withE a b = r := ⟨_, rfl⟩
  have EM := Lib.hid em
  have EO := Lib.hid eo
  have EP := Lib.hid ep
  have EQ := Lib.hid eq
  clear em eo ep eq
  have q1 := U_neq
  have q2 := U_guard .neq
  have q3 := S_neq
  have q4 := S_guard .neq
  have q5 := S_eql
  have q6 := S_guard .eql
  go_enter Try.func4, Try.ntmps4
  go_wp2_with fail
  have K0 := ((Bk.new w 35 #[.int .i64 x0.lo, .int .i64 x0.hi]).alloc (.cells #[.int .i64 x1.lo, .int .i64 x1.hi] 35))
  have K1 := (Bk.new (w.alloc (.cells #[.int .i64 x0.lo, .int .i64 x0.hi] 35)) 35 #[.int .i64 x1.lo, .int .i64 x1.hi])
  rw [World.size_alloc] at K1
  have B0 : Below w.heap.size w ((w.alloc (.cells #[.int .i64 x0.lo, .int .i64 x0.hi] 35)).alloc (.cells #[.int .i64 x1.lo, .int .i64 x1.hi] 35)) := by go_grown
  generalize ((w.alloc (.cells #[.int .i64 x0.lo, .int .i64 x0.hi] 35)).alloc (.cells #[.int .i64 x1.lo, .int .i64 x1.hi] 35)) = w0 at *
  have H0 := Lib.hid K0
  have H1 := Lib.hid K1
  have HB := Lib.hid B0
  clear K0 K1 B0
  have P := H0
  clear H0
  obtain ⟨cP0, cP1⟩ := tcells P.out
  have Q := H1
  clear H1
  obtain ⟨cQ0, cQ1⟩ := tcells Q.out
  with_reducible refine (ss_to x0 x1 a b EA.out EB.out _).mono ?_
  rintro e w1 ⟨rfl, qb⟩
  replace P := Lib.hid (P.out.below qb P.out.lt)
  replace Q := Lib.hid (Q.out.below qb Q.out.lt)
  replace HB := Lib.hid (below_then HB.out qb (Nat.le_refl _))
  clear qb cP0 cP1 cQ0 cQ1
  obtain ⟨cP0, cP1⟩ := tcells P.out
  obtain ⟨cQ0, cQ1⟩ := tcells Q.out
  obtain ⟨dP0, dP1⟩ := tcells ((P.out.alloc (.cells #[.int .i64 a.lo, .int .i64 a.hi] 35)).alloc (.cells #[.int .i64 b.lo, .int .i64 b.hi] 35))
  obtain ⟨dQ0, dQ1⟩ := tcells ((Q.out.alloc (.cells #[.int .i64 a.lo, .int .i64 a.hi] 35)).alloc (.cells #[.int .i64 b.lo, .int .i64 b.hi] 35))
  go_wp2_with fail
  clear dP0 dP1 dQ0 dQ1
  replace P := Lib.hid ((P.out.alloc (.cells #[.int .i64 a.lo, .int .i64 a.hi] 35)).alloc (.cells #[.int .i64 b.lo, .int .i64 b.hi] 35))
  replace Q := Lib.hid ((Q.out.alloc (.cells #[.int .i64 a.lo, .int .i64 a.hi] 35)).alloc (.cells #[.int .i64 b.lo, .int .i64 b.hi] 35))
  have A0 := ((Bk.new w1 35 #[.int .i64 a.lo, .int .i64 a.hi]).alloc (.cells #[.int .i64 b.lo, .int .i64 b.hi] 35))
  have A := Lib.hid A0
  clear A0
  have B0 := (Bk.new (w1.alloc (.cells #[.int .i64 a.lo, .int .i64 a.hi] 35)) 35 #[.int .i64 b.lo, .int .i64 b.hi])
  rw [World.size_alloc] at B0
  have B := Lib.hid B0
  clear B0
  replace HB := Lib.hid (below_al (below_al HB.out (.cells #[.int .i64 a.lo, .int .i64 a.hi] 35)) (.cells #[.int .i64 b.lo, .int .i64 b.hi] 35))
  clear cP0 cP1 cQ0 cQ1
  generalize ((w1.alloc (.cells #[.int .i64 a.lo, .int .i64 a.hi] 35)).alloc (.cells #[.int .i64 b.lo, .int .i64 b.hi] 35)) = v1 at *
  obtain ⟨cP0, cP1⟩ := tcells P.out
  obtain ⟨cQ0, cQ1⟩ := tcells Q.out
  obtain ⟨cA0, cA1⟩ := tcells A.out
  obtain ⟨cB0, cB1⟩ := tcells B.out
  clear P cP0 cP1
  clear Q cQ0 cQ1
  with_reducible refine (smee_to a b m o EM.out EO.out _).mono ?_
  rintro e w2 ⟨rfl, qb⟩
  replace A := Lib.hid (A.out.below qb A.out.lt)
  replace B := Lib.hid (B.out.below qb B.out.lt)
  replace HB := Lib.hid (below_then HB.out qb (Nat.le_refl _))
  clear qb cA0 cA1 cB0 cB1
  obtain ⟨cA0, cA1⟩ := tcells A.out
  obtain ⟨cB0, cB1⟩ := tcells B.out
  obtain ⟨dA0, dA1⟩ := tcells (A.out.alloc (.cells #[.int .i64 m.lo, .int .i64 m.hi] 35))
  obtain ⟨dB0, dB1⟩ := tcells (B.out.alloc (.cells #[.int .i64 m.lo, .int .i64 m.hi] 35))
  go_wp2_with fail
  clear dA0 dA1 dB0 dB1
  replace A := Lib.hid (A.out.alloc (.cells #[.int .i64 m.lo, .int .i64 m.hi] 35))
  replace B := Lib.hid (B.out.alloc (.cells #[.int .i64 m.lo, .int .i64 m.hi] 35))
  have M0 := (Bk.new w2 35 #[.int .i64 m.lo, .int .i64 m.hi])
  have M := Lib.hid M0
  clear M0
  replace HB := Lib.hid (below_al HB.out (.cells #[.int .i64 m.lo, .int .i64 m.hi] 35))
  clear cA0 cA1 cB0 cB1
  generalize (w2.alloc (.cells #[.int .i64 m.lo, .int .i64 m.hi] 35)) = v2 at *
  obtain ⟨cA0, cA1⟩ := tcells A.out
  obtain ⟨cB0, cB1⟩ := tcells B.out
  obtain ⟨cM0, cM1⟩ := tcells M.out
  with_reducible refine (rsmeet_to a b m o EM.out EO.out _).mono ?_
  rintro e w3 ⟨rfl, qb⟩
  replace A := Lib.hid (A.out.below qb A.out.lt)
  replace B := Lib.hid (B.out.below qb B.out.lt)
  replace M := Lib.hid (M.out.below qb M.out.lt)
  replace HB := Lib.hid (below_then HB.out qb (Nat.le_refl _))
  clear qb cA0 cA1 cB0 cB1 cM0 cM1
  obtain ⟨cA0, cA1⟩ := tcells A.out
  obtain ⟨cB0, cB1⟩ := tcells B.out
  obtain ⟨cM0, cM1⟩ := tcells M.out
  obtain ⟨dA0, dA1⟩ := tcells (A.out.alloc (.cells #[.int .i64 m.lo, .int .i64 m.hi] 35))
  obtain ⟨dB0, dB1⟩ := tcells (B.out.alloc (.cells #[.int .i64 m.lo, .int .i64 m.hi] 35))
  obtain ⟨dM0, dM1⟩ := tcells (M.out.alloc (.cells #[.int .i64 m.lo, .int .i64 m.hi] 35))
  go_wp2_with fail
  clear dA0 dA1 dB0 dB1 dM0 dM1
  replace A := Lib.hid (A.out.alloc (.cells #[.int .i64 m.lo, .int .i64 m.hi] 35))
  replace B := Lib.hid (B.out.alloc (.cells #[.int .i64 m.lo, .int .i64 m.hi] 35))
  replace M := Lib.hid (M.out.alloc (.cells #[.int .i64 m.lo, .int .i64 m.hi] 35))
  have N0 := (Bk.new w3 35 #[.int .i64 m.lo, .int .i64 m.hi])
  have N := Lib.hid N0
  clear N0
  replace HB := Lib.hid (below_al HB.out (.cells #[.int .i64 m.lo, .int .i64 m.hi] 35))
  clear cA0 cA1 cB0 cB1 cM0 cM1
  generalize (w3.alloc (.cells #[.int .i64 m.lo, .int .i64 m.hi] 35)) = v3 at *
  obtain ⟨cA0, cA1⟩ := tcells A.out
  obtain ⟨cB0, cB1⟩ := tcells B.out
  obtain ⟨cM0, cM1⟩ := tcells M.out
  obtain ⟨cN0, cN1⟩ := tcells N.out
  refine wp_region_held_drew (S := fun w' => w'.cell? ⟨w1.heap.size, 0, none⟩ = some (.int .i64 a.lo) ∧ w'.cell? ⟨w1.heap.size, 1, none⟩ = some (.int .i64 a.hi) ∧ w'.cell? ⟨w1.heap.size + 1, 0, none⟩ = some (.int .i64 b.lo) ∧ w'.cell? ⟨w1.heap.size + 1, 1, none⟩ = some (.int .i64 b.hi) ∧ w'.cell? ⟨w2.heap.size, 0, none⟩ = some (.int .i64 m.lo) ∧ w'.cell? ⟨w2.heap.size, 1, none⟩ = some (.int .i64 m.hi) ∧ w'.cell? ⟨w3.heap.size, 0, none⟩ = some (.int .i64 m.lo) ∧ w'.cell? ⟨w3.heap.size, 1, none⟩ = some (.int .i64 m.hi) ∧ Below w.heap.size w w') (by kernel_rfl) ?_ (fun hHeld => ?_)
  · exact ⟨cA0, cA1, cB0, cB1, cM0, cM1, cN0, cN1, HB.out.drew⟩
  refine wpAnyH_take (i := 0) (oi := { dst := some 33, op := Op.load 35 (Operand.tmp 11), type := 35, pos := "law.go:42", after := #[], guard := none }) (v := ?_) rfl (by kernel_rfl) (by kernel_rfl) (by kernel_rfl) (fun _ _ _ h => h) (Or.inl ⟨by rfl, ?_⟩) hHeld ?_
  rotate_left
  · intro w9 hSw
    try dsimp only at hSw
    go_simp
    try with_reducible rfl
  try simp only [Act.put, List.setIfInBounds_toArray, List.set_cons_zero, List.set_cons_succ]
  refine wpAnyH_take (i := 1) (oi := { dst := some 34, op := Op.load 35 (Operand.tmp 13), type := 35, pos := "law.go:42", after := #[], guard := none }) (v := ?_) rfl (by kernel_rfl) (by kernel_rfl) (by kernel_rfl) (fun _ _ _ h => h) (Or.inl ⟨by rfl, ?_⟩) hHeld ?_
  rotate_left
  · intro w9 hSw
    try dsimp only at hSw
    go_simp
    try with_reducible rfl
  try simp only [Act.put, List.setIfInBounds_toArray, List.set_cons_zero, List.set_cons_succ]
  refine wpAnyH_take (i := 2) (oi := { dst := some 35, op := Op.binOp BinOp.neq 35 (Operand.tmp 33) (Operand.tmp 34) 35, type := 4, pos := "law.go:42", after := #[{ on := 0, ground := Ground.data }, { on := 1, ground := Ground.data }], guard := none }) (v := ?_) rfl (by kernel_rfl) (by kernel_rfl) (by kernel_rfl) (fun _ _ _ h => h) (Or.inl ⟨by rfl, ?_⟩) hHeld ?_
  rotate_left
  · intro w9 hSw
    try dsimp only at hSw
    go_simp
    try with_reducible rfl
  try simp only [Act.put, List.setIfInBounds_toArray, List.set_cons_zero, List.set_cons_succ]
  refine wpAnyH_take (i := 3) (oi := { dst := some 36, op := Op.move (Operand.tmp 35), type := 4, pos := "law.go:42", after := #[{ on := 2, ground := Ground.data }], guard := none }) (v := ?_) rfl (by kernel_rfl) (by kernel_rfl) (by kernel_rfl) (fun _ _ _ h => h) (Or.inl ⟨by rfl, ?_⟩) hHeld ?_
  rotate_left
  · intro w9 hSw
    try dsimp only at hSw
    go_simp
    try with_reducible rfl
  try simp only [Act.put, List.setIfInBounds_toArray, List.set_cons_zero, List.set_cons_succ]
  refine wpAnyH_take (i := 4) (oi := { dst := some 37, op := Op.move (Operand.tmp 12), type := 4, pos := "law.go:42", after := #[{ on := 3, ground := Ground.guard }], guard := some (3, false) }) (v := ?_) rfl (by kernel_rfl) (by kernel_rfl) (by kernel_rfl) (fun _ _ _ h => h) (Or.inl ⟨by rfl, ?_⟩) hHeld ?_
  rotate_left
  · intro w9 hSw
    try dsimp only at hSw
    go_simp
    try with_reducible rfl
  try simp only [Act.put, List.setIfInBounds_toArray, List.set_cons_zero, List.set_cons_succ]
  refine wpAnyH_take (i := 5) (oi := { dst := some 38, op := Op.move (Operand.tmp 14), type := 4, pos := "law.go:42", after := #[{ on := 3, ground := Ground.guard }], guard := some (3, false) }) (v := ?_) rfl (by kernel_rfl) (by kernel_rfl) (by kernel_rfl) (fun _ _ _ h => h) (Or.inl ⟨by rfl, ?_⟩) hHeld ?_
  rotate_left
  · intro w9 hSw
    try dsimp only at hSw
    go_simp
    try with_reducible rfl
  try simp only [Act.put, List.setIfInBounds_toArray, List.set_cons_zero, List.set_cons_succ]
  refine wpAnyH_take (i := 6) (oi := { dst := some 39, op := Op.binOp BinOp.neq 4 (Operand.tmp 37) (Operand.tmp 38) 4, type := 4, pos := "law.go:42", after := #[{ on := 4, ground := Ground.data }, { on := 5, ground := Ground.data }, { on := 3, ground := Ground.guard }], guard := some (3, false) }) (v := ?_) rfl (by kernel_rfl) (by kernel_rfl) (by kernel_rfl) (fun _ _ _ h => h) (Or.inl ⟨by rfl, ?_⟩) hHeld ?_
  rotate_left
  · intro w9 hSw
    try dsimp only at hSw
    go_simp
    try with_reducible rfl
  try simp only [Act.put, List.setIfInBounds_toArray, List.set_cons_zero, List.set_cons_succ]
  refine wpAnyH_take (i := 7) (oi := { dst := some 40, op := Op.pick (Operand.tmp 36) (Operand.const (Value.bool true)) (Operand.tmp 39), type := 4, pos := "law.go:42", after := #[{ on := 3, ground := Ground.data }, { on := 6, ground := Ground.data }], guard := none }) (v := ?_) rfl (by kernel_rfl) (by kernel_rfl) (by kernel_rfl) (fun _ _ _ h => h) (Or.inl ⟨by rfl, ?_⟩) hHeld ?_
  rotate_left
  · intro w9 hSw
    try dsimp only at hSw
    go_simp
    try with_reducible rfl
  try simp only [Act.put, List.setIfInBounds_toArray, List.set_cons_zero, List.set_cons_succ]
  refine wpAnyH_take (i := 8) (oi := { dst := some 41, op := Op.move (Operand.tmp 40), type := 4, pos := "law.go:42", after := #[{ on := 7, ground := Ground.data }, { on := 3, ground := Ground.chain }], guard := none }) (v := ?_) rfl (by kernel_rfl) (by kernel_rfl) (by kernel_rfl) (fun _ _ _ h => h) (Or.inl ⟨by rfl, ?_⟩) hHeld ?_
  rotate_left
  · intro w9 hSw
    try dsimp only at hSw
    go_simp
    try with_reducible rfl
  try simp only [Act.put, List.setIfInBounds_toArray, List.set_cons_zero, List.set_cons_succ]
  refine wpAnyH_take (i := 9) (oi := { dst := some 42, op := Op.load 35 (Operand.tmp 9), type := 35, pos := "law.go:42", after := #[{ on := 8, ground := Ground.guard }], guard := some (8, false) }) (v := ?_) rfl (by kernel_rfl) (by kernel_rfl) (by kernel_rfl) (fun _ _ _ h => h) (Or.inl ⟨by rfl, ?_⟩) hHeld ?_
  rotate_left
  · intro w9 hSw
    try dsimp only at hSw
    go_simp
    try with_reducible rfl
  try simp only [Act.put, List.setIfInBounds_toArray, List.set_cons_zero, List.set_cons_succ]
  refine wpAnyH_take (i := 10) (oi := { dst := some 43, op := Op.move (Operand.tmp 3), type := 22, pos := "law.go:42", after := #[{ on := 8, ground := Ground.guard }], guard := some (8, false) }) (v := ?_) rfl (by kernel_rfl) (by kernel_rfl) (by kernel_rfl) (fun _ _ _ h => h) (Or.inl ⟨by rfl, ?_⟩) hHeld ?_
  rotate_left
  · intro w9 hSw
    try dsimp only at hSw
    go_simp
    try with_reducible rfl
  try simp only [Act.put, List.setIfInBounds_toArray, List.set_cons_zero, List.set_cons_succ]
  refine wpAnyH_take (i := 12) (oi := { dst := some 45, op := Op.load 35 (Operand.tmp 9), type := 35, pos := "law.go:42", after := #[{ on := 8, ground := Ground.guard }], guard := some (8, false) }) (v := ?_) rfl (by kernel_rfl) (by kernel_rfl) (by kernel_rfl) (fun _ _ _ h => h) (Or.inl ⟨by rfl, ?_⟩) hHeld ?_
  rotate_left
  · intro w9 hSw
    try dsimp only at hSw
    go_simp
    try with_reducible rfl
  try simp only [Act.put, List.setIfInBounds_toArray, List.set_cons_zero, List.set_cons_succ]
  refine wpAnyH_take (i := 13) (oi := { dst := some 46, op := Op.move (Operand.tmp 3), type := 22, pos := "law.go:42", after := #[{ on := 8, ground := Ground.guard }], guard := some (8, false) }) (v := ?_) rfl (by kernel_rfl) (by kernel_rfl) (by kernel_rfl) (fun _ _ _ h => h) (Or.inl ⟨by rfl, ?_⟩) hHeld ?_
  rotate_left
  · intro w9 hSw
    try dsimp only at hSw
    go_simp
    try with_reducible rfl
  try simp only [Act.put, List.setIfInBounds_toArray, List.set_cons_zero, List.set_cons_succ]
  refine wpAnyH_ready (rs := [11]) (by kernel_rfl) (by simp) ?_
  refine AllReadyH.cons (o := { dst := some 44, op := Op.call { callee := Callee.value (Operand.func 53), args := #[Operand.tmp 42, Operand.tmp 43], argTypes := #[35, 22] }, type := 4, pos := "law.go:42", after := #[{ on := 9, ground := Ground.data }, { on := 10, ground := Ground.data }, { on := 8, ground := Ground.chain }, { on := 8, ground := Ground.guard }], guard := some (8, false) }) rfl (fun K hK => ?_) AllReadyH.nil
  go_simp
  (go_at_call 53; with_reducible refine (sin_to a n3 p H3.out EP.out _).mono ?_; rintro e z1 ⟨rfl, qb⟩)
  refine hK.out _ _ ?_ (fun g1 => ?_)
  · exact keep8 qb hHeld
  clear hK K qb
  skip
  try simp only [Act.put, List.setIfInBounds_toArray, List.set_cons_zero, List.set_cons_succ]
  refine wpAnyH_ready (rs := [14]) (by kernel_rfl) (by simp) ?_
  refine AllReadyH.cons (o := { dst := some 47, op := Op.call { callee := Callee.value (Operand.func 54), args := #[Operand.tmp 45, Operand.tmp 46], argTypes := #[35, 22] }, type := 4, pos := "law.go:42", after := #[{ on := 12, ground := Ground.data }, { on := 13, ground := Ground.data }, { on := 11, ground := Ground.chain }, { on := 8, ground := Ground.guard }], guard := some (8, false) }) rfl (fun K hK => ?_) AllReadyH.nil
  go_simp
  (go_at_call 54; with_reducible refine (rsin_to a n3 p H3.out EP.out _).mono ?_; rintro e z2 ⟨rfl, qb⟩)
  refine hK.out _ _ ?_ (fun g2 => ?_)
  · exact keep8 qb g1
  clear hK K qb
  clear g1
  try simp only [Act.put, List.setIfInBounds_toArray, List.set_cons_zero, List.set_cons_succ]
  refine wpAnyH_take (i := 15) (oi := { dst := some 48, op := Op.binOp BinOp.neq 4 (Operand.tmp 44) (Operand.tmp 47) 4, type := 4, pos := "law.go:42", after := #[{ on := 11, ground := Ground.data }, { on := 14, ground := Ground.data }, { on := 8, ground := Ground.guard }], guard := some (8, false) }) (v := ?_) rfl (by kernel_rfl) (by kernel_rfl) (by kernel_rfl) (fun _ _ _ h => h) (Or.inl ⟨by rfl, ?_⟩) g2 ?_
  rotate_left
  · intro w9 hSw
    try dsimp only at hSw
    go_simp
    try with_reducible rfl
  try simp only [Act.put, List.setIfInBounds_toArray, List.set_cons_zero, List.set_cons_succ]
  refine wpAnyH_take (i := 16) (oi := { dst := some 49, op := Op.pick (Operand.tmp 41) (Operand.const (Value.bool true)) (Operand.tmp 48), type := 4, pos := "law.go:42", after := #[{ on := 8, ground := Ground.data }, { on := 15, ground := Ground.data }], guard := none }) (v := ?_) rfl (by kernel_rfl) (by kernel_rfl) (by kernel_rfl) (fun _ _ _ h => h) (Or.inl ⟨by rfl, ?_⟩) g2 ?_
  rotate_left
  · intro w9 hSw
    try dsimp only at hSw
    go_simp
    try with_reducible rfl
  try simp only [Act.put, List.setIfInBounds_toArray, List.set_cons_zero, List.set_cons_succ]
  refine wpAnyH_take (i := 17) (oi := { dst := some 50, op := Op.move (Operand.tmp 49), type := 4, pos := "law.go:42", after := #[{ on := 16, ground := Ground.data }, { on := 14, ground := Ground.chain }], guard := none }) (v := ?_) rfl (by kernel_rfl) (by kernel_rfl) (by kernel_rfl) (fun _ _ _ h => h) (Or.inl ⟨by rfl, ?_⟩) g2 ?_
  rotate_left
  · intro w9 hSw
    try dsimp only at hSw
    go_simp
    try with_reducible rfl
  try simp only [Act.put, List.setIfInBounds_toArray, List.set_cons_zero, List.set_cons_succ]
  refine wpAnyH_take (i := 18) (oi := { dst := some 51, op := Op.load 35 (Operand.tmp 9), type := 35, pos := "law.go:42", after := #[{ on := 17, ground := Ground.guard }], guard := some (17, false) }) (v := ?_) rfl (by kernel_rfl) (by kernel_rfl) (by kernel_rfl) (fun _ _ _ h => h) (Or.inl ⟨by rfl, ?_⟩) g2 ?_
  rotate_left
  · intro w9 hSw
    try dsimp only at hSw
    go_simp
    try with_reducible rfl
  try simp only [Act.put, List.setIfInBounds_toArray, List.set_cons_zero, List.set_cons_succ]
  refine wpAnyH_take (i := 19) (oi := { dst := some 52, op := Op.load 35 (Operand.tmp 10), type := 35, pos := "law.go:42", after := #[{ on := 17, ground := Ground.guard }], guard := some (17, false) }) (v := ?_) rfl (by kernel_rfl) (by kernel_rfl) (by kernel_rfl) (fun _ _ _ h => h) (Or.inl ⟨by rfl, ?_⟩) g2 ?_
  rotate_left
  · intro w9 hSw
    try dsimp only at hSw
    go_simp
    try with_reducible rfl
  try simp only [Act.put, List.setIfInBounds_toArray, List.set_cons_zero, List.set_cons_succ]
  refine wpAnyH_take (i := 21) (oi := { dst := some 54, op := Op.load 35 (Operand.tmp 9), type := 35, pos := "law.go:42", after := #[{ on := 17, ground := Ground.guard }], guard := some (17, false) }) (v := ?_) rfl (by kernel_rfl) (by kernel_rfl) (by kernel_rfl) (fun _ _ _ h => h) (Or.inl ⟨by rfl, ?_⟩) g2 ?_
  rotate_left
  · intro w9 hSw
    try dsimp only at hSw
    go_simp
    try with_reducible rfl
  try simp only [Act.put, List.setIfInBounds_toArray, List.set_cons_zero, List.set_cons_succ]
  refine wpAnyH_take (i := 22) (oi := { dst := some 55, op := Op.load 35 (Operand.tmp 10), type := 35, pos := "law.go:42", after := #[{ on := 17, ground := Ground.guard }], guard := some (17, false) }) (v := ?_) rfl (by kernel_rfl) (by kernel_rfl) (by kernel_rfl) (fun _ _ _ h => h) (Or.inl ⟨by rfl, ?_⟩) g2 ?_
  rotate_left
  · intro w9 hSw
    try dsimp only at hSw
    go_simp
    try with_reducible rfl
  try simp only [Act.put, List.setIfInBounds_toArray, List.set_cons_zero, List.set_cons_succ]
  refine wpAnyH_ready (rs := [20]) (by kernel_rfl) (by simp) ?_
  refine AllReadyH.cons (o := { dst := some 53, op := Op.call { callee := Callee.value (Operand.func 55), args := #[Operand.tmp 51, Operand.tmp 52], argTypes := #[35, 35] }, type := 4, pos := "law.go:42", after := #[{ on := 18, ground := Ground.data }, { on := 19, ground := Ground.data }, { on := 17, ground := Ground.chain }, { on := 17, ground := Ground.guard }], guard := some (17, false) }) rfl (fun K hK => ?_) AllReadyH.nil
  go_simp
  (go_at_call 55; with_reducible refine (swith_to a b q EQ.out _).mono ?_; rintro e z3 ⟨rfl, qb⟩)
  refine hK.out _ _ ?_ (fun g3 => ?_)
  · exact keep8 qb g2
  clear hK K qb
  clear g2
  try simp only [Act.put, List.setIfInBounds_toArray, List.set_cons_zero, List.set_cons_succ]
  refine wpAnyH_ready (rs := [23]) (by kernel_rfl) (by simp) ?_
  refine AllReadyH.cons (o := { dst := some 56, op := Op.call { callee := Callee.value (Operand.func 56), args := #[Operand.tmp 54, Operand.tmp 55], argTypes := #[35, 35] }, type := 4, pos := "law.go:42", after := #[{ on := 21, ground := Ground.data }, { on := 22, ground := Ground.data }, { on := 20, ground := Ground.chain }, { on := 17, ground := Ground.guard }], guard := some (17, false) }) rfl (fun K hK => ?_) AllReadyH.nil
  go_simp
  (go_at_call 56; with_reducible refine (rswith_to a b q EQ.out _).mono ?_; rintro e z4 ⟨rfl, qb⟩)
  refine hK.out _ _ ?_ (fun g4 => ?_)
  · exact keep8 qb g3
  clear hK K qb
  clear g3
  try simp only [Act.put, List.setIfInBounds_toArray, List.set_cons_zero, List.set_cons_succ]
  refine wpAnyH_take (i := 24) (oi := { dst := some 57, op := Op.binOp BinOp.neq 4 (Operand.tmp 53) (Operand.tmp 56) 4, type := 4, pos := "law.go:42", after := #[{ on := 20, ground := Ground.data }, { on := 23, ground := Ground.data }, { on := 17, ground := Ground.guard }], guard := some (17, false) }) (v := ?_) rfl (by kernel_rfl) (by kernel_rfl) (by kernel_rfl) (fun _ _ _ h => h) (Or.inl ⟨by rfl, ?_⟩) g4 ?_
  rotate_left
  · intro w9 hSw
    try dsimp only at hSw
    go_simp
    try with_reducible rfl
  try simp only [Act.put, List.setIfInBounds_toArray, List.set_cons_zero, List.set_cons_succ]
  refine wpAnyH_take (i := 25) (oi := { dst := some 58, op := Op.pick (Operand.tmp 50) (Operand.const (Value.bool true)) (Operand.tmp 57), type := 4, pos := "law.go:42", after := #[{ on := 17, ground := Ground.data }, { on := 24, ground := Ground.data }], guard := none }) (v := ?_) rfl (by kernel_rfl) (by kernel_rfl) (by kernel_rfl) (fun _ _ _ h => h) (Or.inl ⟨by rfl, ?_⟩) g4 ?_
  rotate_left
  · intro w9 hSw
    try dsimp only at hSw
    go_simp
    try with_reducible rfl
  try simp only [Act.put, List.setIfInBounds_toArray, List.set_cons_zero, List.set_cons_succ]
  refine wpAnyH_take (i := 26) (oi := { dst := some 59, op := Op.move (Operand.tmp 58), type := 4, pos := "law.go:42", after := #[{ on := 25, ground := Ground.data }, { on := 23, ground := Ground.chain }], guard := none }) (v := ?_) rfl (by kernel_rfl) (by kernel_rfl) (by kernel_rfl) (fun _ _ _ h => h) (Or.inl ⟨by rfl, ?_⟩) g4 ?_
  rotate_left
  · intro w9 hSw
    try dsimp only at hSw
    go_simp
    try with_reducible rfl
  try simp only [Act.put, List.setIfInBounds_toArray, List.set_cons_zero, List.set_cons_succ]
  refine wpAnyH_take (i := 27) (oi := { dst := some 60, op := Op.load 35 (Operand.tmp 9), type := 35, pos := "law.go:42", after := #[{ on := 26, ground := Ground.guard }], guard := some (26, false) }) (v := ?_) rfl (by kernel_rfl) (by kernel_rfl) (by kernel_rfl) (fun _ _ _ h => h) (Or.inl ⟨by rfl, ?_⟩) g4 ?_
  rotate_left
  · intro w9 hSw
    try dsimp only at hSw
    go_simp
    try with_reducible rfl
  try simp only [Act.put, List.setIfInBounds_toArray, List.set_cons_zero, List.set_cons_succ]
  refine wpAnyH_take (i := 28) (oi := { dst := some 61, op := Op.load 35 (Operand.tmp 10), type := 35, pos := "law.go:42", after := #[{ on := 26, ground := Ground.guard }], guard := some (26, false) }) (v := ?_) rfl (by kernel_rfl) (by kernel_rfl) (by kernel_rfl) (fun _ _ _ h => h) (Or.inl ⟨by rfl, ?_⟩) g4 ?_
  rotate_left
  · intro w9 hSw
    try dsimp only at hSw
    go_simp
    try with_reducible rfl
  try simp only [Act.put, List.setIfInBounds_toArray, List.set_cons_zero, List.set_cons_succ]
  refine wpAnyH_take (i := 30) (oi := { dst := some 63, op := Op.load 35 (Operand.tmp 9), type := 35, pos := "law.go:42", after := #[{ on := 26, ground := Ground.guard }], guard := some (26, false) }) (v := ?_) rfl (by kernel_rfl) (by kernel_rfl) (by kernel_rfl) (fun _ _ _ h => h) (Or.inl ⟨by rfl, ?_⟩) g4 ?_
  rotate_left
  · intro w9 hSw
    try dsimp only at hSw
    go_simp
    try with_reducible rfl
  try simp only [Act.put, List.setIfInBounds_toArray, List.set_cons_zero, List.set_cons_succ]
  refine wpAnyH_take (i := 31) (oi := { dst := some 64, op := Op.load 35 (Operand.tmp 10), type := 35, pos := "law.go:42", after := #[{ on := 26, ground := Ground.guard }], guard := some (26, false) }) (v := ?_) rfl (by kernel_rfl) (by kernel_rfl) (by kernel_rfl) (fun _ _ _ h => h) (Or.inl ⟨by rfl, ?_⟩) g4 ?_
  rotate_left
  · intro w9 hSw
    try dsimp only at hSw
    go_simp
    try with_reducible rfl
  try simp only [Act.put, List.setIfInBounds_toArray, List.set_cons_zero, List.set_cons_succ]
  refine wpAnyH_ready (rs := [29]) (by kernel_rfl) (by simp) ?_
  refine AllReadyH.cons (o := { dst := some 62, op := Op.call { callee := Callee.value (Operand.func 57), args := #[Operand.tmp 60, Operand.tmp 61], argTypes := #[35, 35] }, type := 35, pos := "law.go:42", after := #[{ on := 27, ground := Ground.data }, { on := 28, ground := Ground.data }, { on := 26, ground := Ground.chain }, { on := 26, ground := Ground.guard }], guard := some (26, false) }) rfl (fun K hK => ?_) AllReadyH.nil
  go_simp
  (go_at_call 57; with_reducible refine (sjoi_any a b _).mono ?_; rintro e z5 ⟨rfl, qb⟩)
  refine hK.out _ _ ?_ (fun g5 => ?_)
  · exact keep8 qb g4
  clear hK K qb
  clear g4
  try simp only [Act.put, List.setIfInBounds_toArray, List.set_cons_zero, List.set_cons_succ]
  refine wpAnyH_ready (rs := [32]) (by kernel_rfl) (by simp) ?_
  refine AllReadyH.cons (o := { dst := some 65, op := Op.call { callee := Callee.value (Operand.func 58), args := #[Operand.tmp 63, Operand.tmp 64], argTypes := #[35, 35] }, type := 35, pos := "law.go:42", after := #[{ on := 30, ground := Ground.data }, { on := 31, ground := Ground.data }, { on := 29, ground := Ground.chain }, { on := 26, ground := Ground.guard }], guard := some (26, false) }) rfl (fun K hK => ?_) AllReadyH.nil
  go_simp
  (go_at_call 58; with_reducible refine (rsjoin_any a b _).mono ?_; rintro e z6 ⟨rfl, qb⟩)
  refine hK.out _ _ ?_ (fun g6 => ?_)
  · exact keep8 qb g5
  clear hK K qb
  clear g5
  try simp only [Act.put, List.setIfInBounds_toArray, List.set_cons_zero, List.set_cons_succ]
  refine wpAnyH_take (i := 33) (oi := { dst := some 66, op := Op.binOp BinOp.neq 35 (Operand.tmp 62) (Operand.tmp 65) 35, type := 4, pos := "law.go:42", after := #[{ on := 29, ground := Ground.data }, { on := 32, ground := Ground.data }, { on := 26, ground := Ground.guard }], guard := some (26, false) }) (v := ?_) rfl (by kernel_rfl) (by kernel_rfl) (by kernel_rfl) (fun _ _ _ h => h) (Or.inl ⟨by rfl, ?_⟩) g6 ?_
  rotate_left
  · intro w9 hSw
    try dsimp only at hSw
    go_simp
    try with_reducible rfl
  try simp only [Act.put, List.setIfInBounds_toArray, List.set_cons_zero, List.set_cons_succ]
  refine wpAnyH_take (i := 34) (oi := { dst := some 67, op := Op.pick (Operand.tmp 59) (Operand.const (Value.bool true)) (Operand.tmp 66), type := 4, pos := "law.go:42", after := #[{ on := 26, ground := Ground.data }, { on := 33, ground := Ground.data }], guard := none }) (v := ?_) rfl (by kernel_rfl) (by kernel_rfl) (by kernel_rfl) (fun _ _ _ h => h) (Or.inl ⟨by rfl, ?_⟩) g6 ?_
  rotate_left
  · intro w9 hSw
    try dsimp only at hSw
    go_simp
    try with_reducible rfl
  try simp only [Act.put, List.setIfInBounds_toArray, List.set_cons_zero, List.set_cons_succ]
  refine wpAnyH_done (by kernel_rfl) ?_ _
  have KA := Lib.hid g6
  clear HB cA0 cA1 cB0 cB1 cM0 cM1 cN0 cN1 A B M N g6
  obtain ⟨cA0, cA1, cB0, cB1, cM0, cM1, cN0, cN1, HB0⟩ := KA.out
  have HB := Lib.hid HB0
  clear HB0 KA
  generalize z6 = y4 at *
  go_wp2_with fail
  clear cM0 cM1
  clear cN0 cN1
  refine wp_region_held_drew (S := fun w' => w'.cell? ⟨w1.heap.size, 0, none⟩ = some (.int .i64 a.lo) ∧ w'.cell? ⟨w1.heap.size, 1, none⟩ = some (.int .i64 a.hi) ∧ w'.cell? ⟨w1.heap.size + 1, 0, none⟩ = some (.int .i64 b.lo) ∧ w'.cell? ⟨w1.heap.size + 1, 1, none⟩ = some (.int .i64 b.hi) ∧ Below w.heap.size w w') (by kernel_rfl) ?_ (fun hHeld => ?_)
  · exact ⟨cA0, cA1, cB0, cB1, HB.out.drew⟩
  refine wpAnyH_take (i := 0) (oi := { dst := some 68, op := Op.load 35 (Operand.tmp 9), type := 35, pos := "law.go:45", after := #[], guard := none }) (v := ?_) rfl (by kernel_rfl) (by kernel_rfl) (by kernel_rfl) (fun _ _ _ h => h) (Or.inl ⟨by rfl, ?_⟩) hHeld ?_
  rotate_left
  · intro w9 hSw
    try dsimp only at hSw
    go_simp
    try with_reducible rfl
  try simp only [Act.put, List.setIfInBounds_toArray, List.set_cons_zero, List.set_cons_succ]
  refine wpAnyH_take (i := 1) (oi := { dst := some 69, op := Op.load 35 (Operand.tmp 10), type := 35, pos := "law.go:45", after := #[], guard := none }) (v := ?_) rfl (by kernel_rfl) (by kernel_rfl) (by kernel_rfl) (fun _ _ _ h => h) (Or.inl ⟨by rfl, ?_⟩) hHeld ?_
  rotate_left
  · intro w9 hSw
    try dsimp only at hSw
    go_simp
    try with_reducible rfl
  try simp only [Act.put, List.setIfInBounds_toArray, List.set_cons_zero, List.set_cons_succ]
  refine wpAnyH_take (i := 3) (oi := { dst := some 71, op := Op.load 35 (Operand.tmp 9), type := 35, pos := "law.go:45", after := #[], guard := none }) (v := ?_) rfl (by kernel_rfl) (by kernel_rfl) (by kernel_rfl) (fun _ _ _ h => h) (Or.inl ⟨by rfl, ?_⟩) hHeld ?_
  rotate_left
  · intro w9 hSw
    try dsimp only at hSw
    go_simp
    try with_reducible rfl
  try simp only [Act.put, List.setIfInBounds_toArray, List.set_cons_zero, List.set_cons_succ]
  refine wpAnyH_take (i := 4) (oi := { dst := some 72, op := Op.load 35 (Operand.tmp 10), type := 35, pos := "law.go:45", after := #[], guard := none }) (v := ?_) rfl (by kernel_rfl) (by kernel_rfl) (by kernel_rfl) (fun _ _ _ h => h) (Or.inl ⟨by rfl, ?_⟩) hHeld ?_
  rotate_left
  · intro w9 hSw
    try dsimp only at hSw
    go_simp
    try with_reducible rfl
  try simp only [Act.put, List.setIfInBounds_toArray, List.set_cons_zero, List.set_cons_succ]
  refine wpAnyH_ready (rs := [2]) (by kernel_rfl) (by simp) ?_
  refine AllReadyH.cons (o := { dst := some 70, op := Op.call { callee := Callee.value (Operand.func 59), args := #[Operand.tmp 68, Operand.tmp 69], argTypes := #[35, 35] }, type := 35, pos := "law.go:45", after := #[{ on := 0, ground := Ground.data }, { on := 1, ground := Ground.data }], guard := none }) rfl (fun K hK => ?_) AllReadyH.nil
  go_simp
  (go_at_call 59; with_reducible refine (sadd_any a b OA.out OB.out _).mono ?_; rintro e z1 ⟨rfl, qb⟩)
  refine hK.out _ _ ?_ (fun g1 => ?_)
  · exact keep4 qb hHeld
  clear hK K qb
  skip
  try simp only [Act.put, List.setIfInBounds_toArray, List.set_cons_zero, List.set_cons_succ]
  refine wpAnyH_ready (rs := [5]) (by kernel_rfl) (by simp) ?_
  refine AllReadyH.cons (o := { dst := some 73, op := Op.call { callee := Callee.value (Operand.func 60), args := #[Operand.tmp 71, Operand.tmp 72], argTypes := #[35, 35] }, type := 35, pos := "law.go:45", after := #[{ on := 3, ground := Ground.data }, { on := 4, ground := Ground.data }, { on := 2, ground := Ground.chain }], guard := none }) rfl (fun K hK => ?_) AllReadyH.nil
  go_simp
  (go_at_call 60; with_reducible refine (rsadd_any a b OA.out OB.out _).mono ?_; rintro e z2 ⟨rfl, qb⟩)
  refine hK.out _ _ ?_ (fun g2 => ?_)
  · exact keep4 qb g1
  clear hK K qb
  clear g1
  try simp only [Act.put, List.setIfInBounds_toArray, List.set_cons_zero, List.set_cons_succ]
  refine wpAnyH_take (i := 6) (oi := { dst := some 74, op := Op.binOp BinOp.neq 35 (Operand.tmp 70) (Operand.tmp 73) 35, type := 4, pos := "law.go:45", after := #[{ on := 2, ground := Ground.data }, { on := 5, ground := Ground.data }], guard := none }) (v := ?_) rfl (by kernel_rfl) (by kernel_rfl) (by kernel_rfl) (fun _ _ _ h => h) (Or.inl ⟨by rfl, ?_⟩) g2 ?_
  rotate_left
  · intro w9 hSw
    try dsimp only at hSw
    go_simp
    try with_reducible rfl
  try simp only [Act.put, List.setIfInBounds_toArray, List.set_cons_zero, List.set_cons_succ]
  refine wpAnyH_take (i := 7) (oi := { dst := some 75, op := Op.move (Operand.tmp 74), type := 4, pos := "law.go:45", after := #[{ on := 6, ground := Ground.data }, { on := 5, ground := Ground.chain }], guard := none }) (v := ?_) rfl (by kernel_rfl) (by kernel_rfl) (by kernel_rfl) (fun _ _ _ h => h) (Or.inl ⟨by rfl, ?_⟩) g2 ?_
  rotate_left
  · intro w9 hSw
    try dsimp only at hSw
    go_simp
    try with_reducible rfl
  try simp only [Act.put, List.setIfInBounds_toArray, List.set_cons_zero, List.set_cons_succ]
  refine wpAnyH_take (i := 8) (oi := { dst := some 76, op := Op.load 35 (Operand.tmp 9), type := 35, pos := "law.go:45", after := #[{ on := 7, ground := Ground.guard }], guard := some (7, false) }) (v := ?_) rfl (by kernel_rfl) (by kernel_rfl) (by kernel_rfl) (fun _ _ _ h => h) (Or.inl ⟨by rfl, ?_⟩) g2 ?_
  rotate_left
  · intro w9 hSw
    try dsimp only at hSw
    go_simp
    try with_reducible rfl
  try simp only [Act.put, List.setIfInBounds_toArray, List.set_cons_zero, List.set_cons_succ]
  refine wpAnyH_take (i := 9) (oi := { dst := some 77, op := Op.load 35 (Operand.tmp 10), type := 35, pos := "law.go:45", after := #[{ on := 7, ground := Ground.guard }], guard := some (7, false) }) (v := ?_) rfl (by kernel_rfl) (by kernel_rfl) (by kernel_rfl) (fun _ _ _ h => h) (Or.inl ⟨by rfl, ?_⟩) g2 ?_
  rotate_left
  · intro w9 hSw
    try dsimp only at hSw
    go_simp
    try with_reducible rfl
  try simp only [Act.put, List.setIfInBounds_toArray, List.set_cons_zero, List.set_cons_succ]
  refine wpAnyH_take (i := 11) (oi := { dst := some 79, op := Op.load 35 (Operand.tmp 9), type := 35, pos := "law.go:45", after := #[{ on := 7, ground := Ground.guard }], guard := some (7, false) }) (v := ?_) rfl (by kernel_rfl) (by kernel_rfl) (by kernel_rfl) (fun _ _ _ h => h) (Or.inl ⟨by rfl, ?_⟩) g2 ?_
  rotate_left
  · intro w9 hSw
    try dsimp only at hSw
    go_simp
    try with_reducible rfl
  try simp only [Act.put, List.setIfInBounds_toArray, List.set_cons_zero, List.set_cons_succ]
  refine wpAnyH_take (i := 12) (oi := { dst := some 80, op := Op.load 35 (Operand.tmp 10), type := 35, pos := "law.go:45", after := #[{ on := 7, ground := Ground.guard }], guard := some (7, false) }) (v := ?_) rfl (by kernel_rfl) (by kernel_rfl) (by kernel_rfl) (fun _ _ _ h => h) (Or.inl ⟨by rfl, ?_⟩) g2 ?_
  rotate_left
  · intro w9 hSw
    try dsimp only at hSw
    go_simp
    try with_reducible rfl
  try simp only [Act.put, List.setIfInBounds_toArray, List.set_cons_zero, List.set_cons_succ]
  refine wpAnyH_ready (rs := [10]) (by kernel_rfl) (by simp) ?_
  refine AllReadyH.cons (o := { dst := some 78, op := Op.call { callee := Callee.value (Operand.func 61), args := #[Operand.tmp 76, Operand.tmp 77], argTypes := #[35, 35] }, type := 35, pos := "law.go:45", after := #[{ on := 8, ground := Ground.data }, { on := 9, ground := Ground.data }, { on := 7, ground := Ground.chain }, { on := 7, ground := Ground.guard }], guard := some (7, false) }) rfl (fun K hK => ?_) AllReadyH.nil
  go_simp
  (go_at_call 61; with_reducible refine (ssub_any a b OA.out OB.out _).mono ?_; rintro e z3 ⟨rfl, qb⟩)
  refine hK.out _ _ ?_ (fun g3 => ?_)
  · exact keep4 qb g2
  clear hK K qb
  clear g2
  try simp only [Act.put, List.setIfInBounds_toArray, List.set_cons_zero, List.set_cons_succ]
  refine wpAnyH_ready (rs := [13]) (by kernel_rfl) (by simp) ?_
  refine AllReadyH.cons (o := { dst := some 81, op := Op.call { callee := Callee.value (Operand.func 62), args := #[Operand.tmp 79, Operand.tmp 80], argTypes := #[35, 35] }, type := 35, pos := "law.go:45", after := #[{ on := 11, ground := Ground.data }, { on := 12, ground := Ground.data }, { on := 10, ground := Ground.chain }, { on := 7, ground := Ground.guard }], guard := some (7, false) }) rfl (fun K hK => ?_) AllReadyH.nil
  go_simp
  (go_at_call 62; with_reducible refine (rssub_any a b OA.out OB.out _).mono ?_; rintro e z4 ⟨rfl, qb⟩)
  refine hK.out _ _ ?_ (fun g4 => ?_)
  · exact keep4 qb g3
  clear hK K qb
  clear g3
  try simp only [Act.put, List.setIfInBounds_toArray, List.set_cons_zero, List.set_cons_succ]
  refine wpAnyH_take (i := 14) (oi := { dst := some 82, op := Op.binOp BinOp.neq 35 (Operand.tmp 78) (Operand.tmp 81) 35, type := 4, pos := "law.go:45", after := #[{ on := 10, ground := Ground.data }, { on := 13, ground := Ground.data }, { on := 7, ground := Ground.guard }], guard := some (7, false) }) (v := ?_) rfl (by kernel_rfl) (by kernel_rfl) (by kernel_rfl) (fun _ _ _ h => h) (Or.inl ⟨by rfl, ?_⟩) g4 ?_
  rotate_left
  · intro w9 hSw
    try dsimp only at hSw
    go_simp
    try with_reducible rfl
  try simp only [Act.put, List.setIfInBounds_toArray, List.set_cons_zero, List.set_cons_succ]
  refine wpAnyH_take (i := 15) (oi := { dst := some 83, op := Op.pick (Operand.tmp 75) (Operand.const (Value.bool true)) (Operand.tmp 82), type := 4, pos := "law.go:45", after := #[{ on := 7, ground := Ground.data }, { on := 14, ground := Ground.data }], guard := none }) (v := ?_) rfl (by kernel_rfl) (by kernel_rfl) (by kernel_rfl) (fun _ _ _ h => h) (Or.inl ⟨by rfl, ?_⟩) g4 ?_
  rotate_left
  · intro w9 hSw
    try dsimp only at hSw
    go_simp
    try with_reducible rfl
  try simp only [Act.put, List.setIfInBounds_toArray, List.set_cons_zero, List.set_cons_succ]
  refine wpAnyH_take (i := 16) (oi := { dst := some 84, op := Op.move (Operand.tmp 83), type := 4, pos := "law.go:45", after := #[{ on := 15, ground := Ground.data }, { on := 13, ground := Ground.chain }], guard := none }) (v := ?_) rfl (by kernel_rfl) (by kernel_rfl) (by kernel_rfl) (fun _ _ _ h => h) (Or.inl ⟨by rfl, ?_⟩) g4 ?_
  rotate_left
  · intro w9 hSw
    try dsimp only at hSw
    go_simp
    try with_reducible rfl
  try simp only [Act.put, List.setIfInBounds_toArray, List.set_cons_zero, List.set_cons_succ]
  refine wpAnyH_take (i := 17) (oi := { dst := some 85, op := Op.load 35 (Operand.tmp 9), type := 35, pos := "law.go:45", after := #[{ on := 16, ground := Ground.guard }], guard := some (16, false) }) (v := ?_) rfl (by kernel_rfl) (by kernel_rfl) (by kernel_rfl) (fun _ _ _ h => h) (Or.inl ⟨by rfl, ?_⟩) g4 ?_
  rotate_left
  · intro w9 hSw
    try dsimp only at hSw
    go_simp
    try with_reducible rfl
  try simp only [Act.put, List.setIfInBounds_toArray, List.set_cons_zero, List.set_cons_succ]
  refine wpAnyH_take (i := 18) (oi := { dst := some 86, op := Op.move (Operand.tmp 2), type := 3, pos := "law.go:45", after := #[{ on := 16, ground := Ground.guard }], guard := some (16, false) }) (v := ?_) rfl (by kernel_rfl) (by kernel_rfl) (by kernel_rfl) (fun _ _ _ h => h) (Or.inl ⟨by rfl, ?_⟩) g4 ?_
  rotate_left
  · intro w9 hSw
    try dsimp only at hSw
    go_simp
    try with_reducible rfl
  try simp only [Act.put, List.setIfInBounds_toArray, List.set_cons_zero, List.set_cons_succ]
  refine wpAnyH_take (i := 20) (oi := { dst := some 88, op := Op.load 35 (Operand.tmp 9), type := 35, pos := "law.go:45", after := #[{ on := 16, ground := Ground.guard }], guard := some (16, false) }) (v := ?_) rfl (by kernel_rfl) (by kernel_rfl) (by kernel_rfl) (fun _ _ _ h => h) (Or.inl ⟨by rfl, ?_⟩) g4 ?_
  rotate_left
  · intro w9 hSw
    try dsimp only at hSw
    go_simp
    try with_reducible rfl
  try simp only [Act.put, List.setIfInBounds_toArray, List.set_cons_zero, List.set_cons_succ]
  refine wpAnyH_take (i := 21) (oi := { dst := some 89, op := Op.move (Operand.tmp 2), type := 3, pos := "law.go:45", after := #[{ on := 16, ground := Ground.guard }], guard := some (16, false) }) (v := ?_) rfl (by kernel_rfl) (by kernel_rfl) (by kernel_rfl) (fun _ _ _ h => h) (Or.inl ⟨by rfl, ?_⟩) g4 ?_
  rotate_left
  · intro w9 hSw
    try dsimp only at hSw
    go_simp
    try with_reducible rfl
  try simp only [Act.put, List.setIfInBounds_toArray, List.set_cons_zero, List.set_cons_succ]
  refine wpAnyH_ready (rs := [19]) (by kernel_rfl) (by simp) ?_
  refine AllReadyH.cons (o := { dst := some 87, op := Op.call { callee := Callee.value (Operand.func 63), args := #[Operand.tmp 85, Operand.tmp 86], argTypes := #[35, 3] }, type := 35, pos := "law.go:45", after := #[{ on := 17, ground := Ground.data }, { on := 18, ground := Ground.data }, { on := 16, ground := Ground.chain }, { on := 16, ground := Ground.guard }], guard := some (16, false) }) rfl (fun K hK => ?_) AllReadyH.nil
  go_simp
  (go_at_call 63; with_reducible refine (srsh_any a n2 k HK.out OA.out _).mono ?_; rintro e z5 ⟨rfl, qb⟩)
  refine hK.out _ _ ?_ (fun g5 => ?_)
  · exact keep4 qb g4
  clear hK K qb
  clear g4
  try simp only [Act.put, List.setIfInBounds_toArray, List.set_cons_zero, List.set_cons_succ]
  refine wpAnyH_ready (rs := [22]) (by kernel_rfl) (by simp) ?_
  refine AllReadyH.cons (o := { dst := some 90, op := Op.call { callee := Callee.value (Operand.func 64), args := #[Operand.tmp 88, Operand.tmp 89], argTypes := #[35, 3] }, type := 35, pos := "law.go:45", after := #[{ on := 20, ground := Ground.data }, { on := 21, ground := Ground.data }, { on := 19, ground := Ground.chain }, { on := 16, ground := Ground.guard }], guard := some (16, false) }) rfl (fun K hK => ?_) AllReadyH.nil
  go_simp
  (go_at_call 64; with_reducible refine (rsrsh_any a n2 k HK.out HN.out OA.out _).mono ?_; rintro e z6 ⟨rfl, qb⟩)
  refine hK.out _ _ ?_ (fun g6 => ?_)
  · exact keep4 qb g5
  clear hK K qb
  clear g5
  try simp only [Act.put, List.setIfInBounds_toArray, List.set_cons_zero, List.set_cons_succ]
  refine wpAnyH_take (i := 23) (oi := { dst := some 91, op := Op.binOp BinOp.neq 35 (Operand.tmp 87) (Operand.tmp 90) 35, type := 4, pos := "law.go:45", after := #[{ on := 19, ground := Ground.data }, { on := 22, ground := Ground.data }, { on := 16, ground := Ground.guard }], guard := some (16, false) }) (v := ?_) rfl (by kernel_rfl) (by kernel_rfl) (by kernel_rfl) (fun _ _ _ h => h) (Or.inl ⟨by rfl, ?_⟩) g6 ?_
  rotate_left
  · intro w9 hSw
    try dsimp only at hSw
    go_simp
    try with_reducible rfl
  try simp only [Act.put, List.setIfInBounds_toArray, List.set_cons_zero, List.set_cons_succ]
  refine wpAnyH_take (i := 24) (oi := { dst := some 92, op := Op.pick (Operand.tmp 84) (Operand.const (Value.bool true)) (Operand.tmp 91), type := 4, pos := "law.go:45", after := #[{ on := 16, ground := Ground.data }, { on := 23, ground := Ground.data }], guard := none }) (v := ?_) rfl (by kernel_rfl) (by kernel_rfl) (by kernel_rfl) (fun _ _ _ h => h) (Or.inl ⟨by rfl, ?_⟩) g6 ?_
  rotate_left
  · intro w9 hSw
    try dsimp only at hSw
    go_simp
    try with_reducible rfl
  try simp only [Act.put, List.setIfInBounds_toArray, List.set_cons_zero, List.set_cons_succ]
  refine wpAnyH_take (i := 25) (oi := { dst := some 93, op := Op.move (Operand.tmp 92), type := 4, pos := "law.go:45", after := #[{ on := 24, ground := Ground.data }, { on := 22, ground := Ground.chain }], guard := none }) (v := ?_) rfl (by kernel_rfl) (by kernel_rfl) (by kernel_rfl) (fun _ _ _ h => h) (Or.inl ⟨by rfl, ?_⟩) g6 ?_
  rotate_left
  · intro w9 hSw
    try dsimp only at hSw
    go_simp
    try with_reducible rfl
  try simp only [Act.put, List.setIfInBounds_toArray, List.set_cons_zero, List.set_cons_succ]
  refine wpAnyH_take (i := 26) (oi := { dst := some 94, op := Op.load 35 (Operand.tmp 9), type := 35, pos := "law.go:45", after := #[{ on := 25, ground := Ground.guard }], guard := some (25, false) }) (v := ?_) rfl (by kernel_rfl) (by kernel_rfl) (by kernel_rfl) (fun _ _ _ h => h) (Or.inl ⟨by rfl, ?_⟩) g6 ?_
  rotate_left
  · intro w9 hSw
    try dsimp only at hSw
    go_simp
    try with_reducible rfl
  try simp only [Act.put, List.setIfInBounds_toArray, List.set_cons_zero, List.set_cons_succ]
  refine wpAnyH_take (i := 28) (oi := { dst := some 96, op := Op.load 35 (Operand.tmp 9), type := 35, pos := "law.go:45", after := #[{ on := 25, ground := Ground.guard }], guard := some (25, false) }) (v := ?_) rfl (by kernel_rfl) (by kernel_rfl) (by kernel_rfl) (fun _ _ _ h => h) (Or.inl ⟨by rfl, ?_⟩) g6 ?_
  rotate_left
  · intro w9 hSw
    try dsimp only at hSw
    go_simp
    try with_reducible rfl
  try simp only [Act.put, List.setIfInBounds_toArray, List.set_cons_zero, List.set_cons_succ]
  refine wpAnyH_ready (rs := [27]) (by kernel_rfl) (by simp) ?_
  refine AllReadyH.cons (o := { dst := some 95, op := Op.call { callee := Callee.value (Operand.func 65), args := #[Operand.tmp 94], argTypes := #[35] }, type := 24, pos := "law.go:45", after := #[{ on := 26, ground := Ground.data }, { on := 25, ground := Ground.chain }, { on := 25, ground := Ground.guard }], guard := some (25, false) }) rfl (fun K hK => ?_) AllReadyH.nil
  go_simp
  (go_at_call 65; with_reducible refine (tou_any a OA.out _).mono ?_; rintro e z7 ⟨rfl, qb⟩)
  refine hK.out _ _ ?_ (fun g7 => ?_)
  · exact keep4 qb g6
  clear hK K qb
  clear g6
  try simp only [Act.put, List.setIfInBounds_toArray, List.set_cons_zero, List.set_cons_succ]
  refine wpAnyH_ready (rs := [29]) (by kernel_rfl) (by simp) ?_
  refine AllReadyH.cons (o := { dst := some 97, op := Op.call { callee := Callee.value (Operand.func 66), args := #[Operand.tmp 96], argTypes := #[35] }, type := 24, pos := "law.go:45", after := #[{ on := 28, ground := Ground.data }, { on := 27, ground := Ground.chain }, { on := 25, ground := Ground.guard }], guard := some (25, false) }) rfl (fun K hK => ?_) AllReadyH.nil
  go_simp
  (go_at_call 66; with_reducible refine (rtou_any a OA.out _).mono ?_; rintro e z8 ⟨rfl, qb⟩)
  refine hK.out _ _ ?_ (fun g8 => ?_)
  · exact keep4 qb g7
  clear hK K qb
  clear g7
  try simp only [Act.put, List.setIfInBounds_toArray, List.set_cons_zero, List.set_cons_succ]
  refine wpAnyH_take (i := 30) (oi := { dst := some 98, op := Op.binOp BinOp.neq 24 (Operand.tmp 95) (Operand.tmp 97) 24, type := 4, pos := "law.go:45", after := #[{ on := 27, ground := Ground.data }, { on := 29, ground := Ground.data }, { on := 25, ground := Ground.guard }], guard := some (25, false) }) (v := ?_) rfl (by kernel_rfl) (by kernel_rfl) (by kernel_rfl) (fun _ _ _ h => h) (Or.inl ⟨by rfl, ?_⟩) g8 ?_
  rotate_left
  · intro w9 hSw
    try dsimp only at hSw
    go_simp
    try with_reducible rfl
  try simp only [Act.put, List.setIfInBounds_toArray, List.set_cons_zero, List.set_cons_succ]
  refine wpAnyH_take (i := 31) (oi := { dst := some 99, op := Op.pick (Operand.tmp 93) (Operand.const (Value.bool true)) (Operand.tmp 98), type := 4, pos := "law.go:45", after := #[{ on := 25, ground := Ground.data }, { on := 30, ground := Ground.data }], guard := none }) (v := ?_) rfl (by kernel_rfl) (by kernel_rfl) (by kernel_rfl) (fun _ _ _ h => h) (Or.inl ⟨by rfl, ?_⟩) g8 ?_
  rotate_left
  · intro w9 hSw
    try dsimp only at hSw
    go_simp
    try with_reducible rfl
  try simp only [Act.put, List.setIfInBounds_toArray, List.set_cons_zero, List.set_cons_succ]
  refine wpAnyH_done (by kernel_rfl) ?_ _
  have KA := Lib.hid g8
  clear HB cA0 cA1 cB0 cB1 g8
  obtain ⟨cA0, cA1, cB0, cB1, HB0⟩ := KA.out
  have HB := Lib.hid HB0
  clear HB0 KA
  generalize z8 = y5 at *
  go_wp2_with fail
  with_reducible refine (sall_any _).mono ?_
  rintro e w4 ⟨rfl, qb⟩
  replace cA0 := keep1 qb cA0
  replace cA1 := keep1 qb cA1
  replace cB0 := keep1 qb cB0
  replace cB1 := keep1 qb cB1
  replace HB := Lib.hid (below_then HB.out qb (Nat.le_refl _))
  clear qb
  go_wp2_with fail
  with_reducible refine (rsall_any _).mono ?_
  rintro e w5 ⟨rfl, qb⟩
  replace cA0 := keep1 qb cA0
  replace cA1 := keep1 qb cA1
  replace cB0 := keep1 qb cB0
  replace cB1 := keep1 qb cB1
  replace HB := Lib.hid (below_then HB.out qb (Nat.le_refl _))
  clear qb
  go_wp2_with fail
  with_reducible refine (sof_any n3 H3.out.1 H3.out.2 _).mono ?_
  rintro e w6 ⟨rfl, qb⟩
  replace cA0 := keep1 qb cA0
  replace cA1 := keep1 qb cA1
  replace cB0 := keep1 qb cB0
  replace cB1 := keep1 qb cB1
  replace HB := Lib.hid (below_then HB.out qb (Nat.le_refl _))
  clear qb
  go_wp2_with fail
  with_reducible refine (rsof_any n3 H3.out.1 H3.out.2 _).mono ?_
  rintro e w7 ⟨rfl, qb⟩
  replace cA0 := keep1 qb cA0
  replace cA1 := keep1 qb cA1
  replace cB0 := keep1 qb cB0
  replace cB1 := keep1 qb cB1
  replace HB := Lib.hid (below_then HB.out qb (Nat.le_refl _))
  clear qb
  go_wp2_with fail
  with_reducible refine (works_any _).mono ?_
  rintro e w8 ⟨rfl, qb⟩
  replace cA0 := keep1 qb cA0
  replace cA1 := keep1 qb cA1
  replace cB0 := keep1 qb cB0
  replace cB1 := keep1 qb cB1
  replace HB := Lib.hid (below_then HB.out qb (Nat.le_refl _))
  clear qb
  go_wp2_with fail
  go_returns
  exact ⟨rfl, HB.out⟩

set_option maxRecDepth 100000 in
theorem lifted (os : Os) (started : os.Started) (H : Type) (enc : TypeId × Value → H) :
    ReturnsInHanded {} Try.checked os 4 .any (Rows.spanSignedSpec.pre6 enc Try.prog Try.f4 Rows.spanSignedRow.domain false) (Rows.spanSignedSpec.post enc Try.prog Try.f4 false true false false) := by
  refine returnsInHanded_of_change (C := Try.checked) own started (by kernel_rfl) Try.func4
    (ChangeSpec.witness6 (enc := enc) (C := Try.checked) false ⟨#[], #[.agg #[.int .i64 0, .int .i64 0], .agg #[.int .i64 0, .int .i64 0], .int .i64 0, .int .u64 0], []⟩ 8 (by kernel_rfl) (by kernel_rfl) (by kernel_rfl) (by kernel_rfl)) ?_
  intro W base args ds gs before hval0 hW hcnd _
  have hval : ∀ (j : Nat) t v, Try.f4.params[j]? = some t → args[j]? = some v → Value.okWide Try.prog W .any base t v := hval0
  have hW' := hW
  obtain ⟨p, q, hA0, hV, rfl, hfz, hnd⟩ := hW
  have hA : DataW.TrodAll enc Try.prog W 0 (fun _ => true) true Try.f4.params.toList args.toList ds p := hA0
  rw [Try.params4] at hA hval
  obtain ⟨v0, vs0, d0, ds0, p0, q0, hargs, rfl, rfl, h0, r0⟩ := trodAll_cons hA
  obtain ⟨v1, vs1, d1, ds1, p1, q1, rfl, rfl, rfl, h1, r1⟩ := trodAll_cons r0
  obtain ⟨v2, vs2, d2, ds2, p2, q2, rfl, rfl, rfl, h2, r2⟩ := trodAll_cons r1
  obtain ⟨v3, vs3, d3, ds3, p3, q3, rfl, rfl, rfl, h3, r3⟩ := trodAll_cons r2
  obtain ⟨rfl, rfl, rfl⟩ := trodAll_nil r3
  obtain rfl : args = #[v0, v1, v2, v3] := by cases args; simp_all
  obtain ⟨rfl, rfl⟩ := trodVars_none hV
  have k0 := h0
  have lt0 : ∀ x ∈ p0, x.block < W.heap.size := by obtain ⟨m, hm⟩ := k0; exact DataW.trod_lt m _ _ _ hm
  obtain ⟨x0, f0, rfl⟩ := open_s (hval 0 35 v0 rfl rfl) h0
  have k1 := h1
  have lt1 : ∀ x ∈ p1, x.block < W.heap.size := by obtain ⟨m, hm⟩ := k1; exact DataW.trod_lt m _ _ _ hm
  obtain ⟨x1, f1, rfl⟩ := open_s (hval 1 35 v1 rfl rfl) h1
  obtain ⟨n2, rfl, rfl, rfl, w2⟩ := open_int Try.underlying3 (hval 2 3 v2 rfl rfl) h2
  obtain ⟨n3, rfl, rfl, rfl, w3⟩ := open_int Try.underlying22 (hval 3 22 v3 rfl rfl) h3
  clear hA0 hval0
  refine (walk x0 x1 n2 n3 W f0 f1 w2 w3).mono fun e W' ⟨he, bel⟩ => ?_
  subst he
  exact ⟨_, rfl, _, _, _, [], _, [], hW', trodAll_mk1 (shut_bool Try.underlying4 _), (trodAll_cons_mk (Below.trod laidOut (by kernel_rfl) (of_decide_eq_true (by kernel_rfl)) k0 bel lt0) (trodAll_cons_mk (Below.trod laidOut (by kernel_rfl) (of_decide_eq_true (by kernel_rfl)) k1 bel lt1) (trodAll_cons_mk (shut_int Try.underlying3 w2) (trodAll_cons_mk (shut_int Try.underlying22 w3) trodAll_mk0)))), rfl, bel.frame _, fun h => by cases h⟩

theorem over : Rows.spanSignedRow.holds Try.pinned (OpenSpec.ofChange Rows.spanSignedSpec) :=
  OpenClaim.holds_of_wide 4 Try.f4 rfl rfl rfl rfl rfl rfl rfl ⟨rfl, rfl, rfl, rfl, rfl⟩ rfl rfl rfl rfl rfl (by kernel_rfl) Try.func4 (by kernel_rfl)
    (of_decide_eq_true (by kernel_rfl)) (by unfold Func.isWrapper; first | (rw [if_pos (by decide +kernel)]; kernel_rfl) | (rw [if_neg (by decide +kernel)]; exact ⟨rfl, rfl⟩))
    (fun os started H enc _ => lifted os started H enc)

theorem proved : Rows.SpanSignedSaid := over
#print axioms proved
end Go.Proofs.Ythjjfginenpfjaa.spanSigned
