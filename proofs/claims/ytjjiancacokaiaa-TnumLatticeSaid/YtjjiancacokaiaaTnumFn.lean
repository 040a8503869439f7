/-
  The statements' own small functions of layer 3 (May, one, has, alu, known): contracts. Conditions: the numbers are of 64 bits.
-/
import Derived.Test.YtjjiancacokaiaaTnumMul
import Derived.Test.YtjjiancacokaiaaTnumAnd
import Derived.Test.YtjjiancacokaiaaWordAlu
namespace Go.Proofs.Ytjjiancacokaiaa
open Go.RowKit Tn Ow
set_option linter.unusedVariables false
set_option linter.unusedSimpArgs false
theorem nat_bi (x : BitVec 64) : (bi x).toNat = x.toNat := by unfold bi; exact Int.toNat_natCast _
theorem av0 (x y : BitVec 64) : Wd.aluV 0 true (bi x) (bi y) = bi (x + y) := bi_add x y
theorem av1 (x y : BitVec 64) : Wd.aluV 1 true (bi x) (bi y) = bi (x - y) := bi_sub x y
theorem av2 (x y : BitVec 64) : Wd.aluV 2 true (bi x) (bi y) = bi (x * y) := bi_mul x y
theorem av4 (x y : BitVec 64) : Wd.aluV 4 true (bi x) (bi y) = bi (x ||| y) := by
  show (((bi x).toNat ||| (bi y).toNat : Nat) : Int) = _
  rw [nat_bi, nat_bi, ← BitVec.toNat_or]; rfl
theorem av5 (x y : BitVec 64) : Wd.aluV 5 true (bi x) (bi y) = bi (x &&& y) := by
  show (((bi x).toNat &&& (bi y).toNat : Nat) : Int) = _
  rw [nat_bi, nat_bi, ← BitVec.toNat_and]; rfl
theorem av10 (x y : BitVec 64) : Wd.aluV 10 true (bi x) (bi y) = bi (x ^^^ y) := by
  show (((bi x).toNat ^^^ (bi y).toNat : Nat) : Int) = _
  rw [nat_bi, nat_bi, ← BitVec.toNat_xor]; rfl
theorem w6' (a b : Int) : Wd.aluV 6 true a b = a * 2 ^ (b % 64).toNat % 18446744073709551616 := rfl
theorem w7' (a b : Int) : Wd.aluV 7 true a b = a / 2 ^ (b % 64).toNat := rfl
theorem w12' (a b : Int) : Wd.aluV 12 true a b = Wd.sgnW 64 a / 2 ^ (b % 64).toNat % 18446744073709551616 := rfl
theorem n12' (a b : Int) : Wd.aluV 12 false a b = Wd.sgnW 32 (a % 4294967296) / 2 ^ (b % 4294967296 % 32).toNat % 4294967296 := rfl
theorem av6 (x : BitVec 64) (z : Int) (k : Nat) (hz : z % 64 = (k : Int)) : Wd.aluV 6 true (bi x) z = bi (x <<< k) := by
  rw [w6', hz, Int.toNat_natCast]; exact bi_shl x k
theorem av7 (x : BitVec 64) (z : Int) (k : Nat) (hz : z % 64 = (k : Int)) : Wd.aluV 7 true (bi x) z = bi (x >>> k) := by
  rw [w7', hz, Int.toNat_natCast]; exact bi_shr x k
theorem av12 (x : BitVec 64) (z : Int) (k : Nat) (hz : z % 64 = (k : Int)) : Wd.aluV 12 true (bi x) z = bi (x.sshiftRight k) := by
  have h := bi_bd x
  rw [w12', hz, Int.toNat_natCast, ← Wd.sgn64 (bi x) h.1 h.2]; exact bi_sar x k
theorem av12n (x : BitVec 64) (z : Int) (k : Nat) (h0 : 0 ≤ z) (h1 : z ≤ 18446744073709551615) (hz : z % 32 = (k : Int)) : Wd.aluV 12 false (bi x) z = bi (dn32 x k) := by
  rw [n12']
  have e : (z % 4294967296 % 32).toNat = k := by omega
  rw [e, ← bi_sar32]
  have e2 : Wd.sgnW 32 (bi x % 4294967296) = wrap32 (bi x) := by
    have := Wd.sgn32 (bi x)
    rw [← this]
    unfold wrap64 wrap32
    have := bi_bd x
    omega
  rw [e2]
theorem lawalu_any (op a b : Int) (h1 : 0 ≤ a) (h2 : a ≤ 18446744073709551615) (h3 : 0 ≤ b) (h4 : b ≤ 18446744073709551615) (w : World) :
    Calls Try.prog 48 #[.int .i64 op, .int .u64 a, .int .u64 b] w fun e w' => e = .returned (.int .u64 (Wd.aluV op true a b)) ∧ w = w' := by
  go_enter Try.func48, Try.ntmps48
  go_wp2_with (go_at_call 49; refine (alu_any _ _ _ _ h1 h2 h3 h4 _).mono ?_; rintro e w' ⟨rfl, rfl⟩)
  go_returns
  exact ⟨rfl, rfl⟩
/-- An operation of the statements' alu whose answer is known. -/
theorem alu_is (op a b r : Int) (h : Wd.aluV op true a b = r) (h1 : 0 ≤ a ∧ a ≤ 18446744073709551615) (h3 : 0 ≤ b ∧ b ≤ 18446744073709551615) (w : World) :
    Calls Try.prog 48 #[.int .i64 op, .int .u64 a, .int .u64 b] w fun e w' => e = .returned (.int .u64 r) ∧ w = w' := by
  subst h; exact lawalu_any op a b h1.1 h1.2 h3.1 h3.2 w
theorem alun_is (a b r : Int) (h : Wd.aluV 12 false a b = r) (h1 : 0 ≤ a ∧ a ≤ 18446744073709551615) (h3 : 0 ≤ b ∧ b ≤ 18446744073709551615) (w : World) :
    Calls Try.prog 49 #[.int .i64 12, .bool false, .int .u64 a, .int .u64 b] w fun e w' => e = .returned (.tuple #[.int .u64 r, .bool true]) ∧ w = w' := by
  subst h; exact alu_any 12 false a b h1.1 h1.2 h3.1 h3.2 w
theorem may_any (a : T) (w : World) :
    Calls Try.prog 12 #[.agg #[.int .u64 (bi a.v), .int .u64 (bi a.m)]] w fun e w' => e = .returned (.agg #[.int .u64 (bi (exc a.v a.m).v), .int .u64 (bi (exc a.v a.m).m)]) ∧ Below w.heap.size w w' := by
  have h0 := bi_bd a.v
  have h1 := bi_bd a.m
  go_enter Try.func12, Try.ntmps12
  go_wp2
  go_returns
  exact ⟨rt_t (bi_andNot _ _) rfl, by go_grown⟩
theorem one_any (a : T) (v : BitVec 64) (w : World) :
    Calls Try.prog 46 #[.agg #[.int .u64 (bi a.v), .int .u64 (bi a.m)], .int .u64 (bi v)] w fun e w' => e = .returned (.int .u64 (bi (oneT a v))) ∧ Below w.heap.size w w' := by
  have h0 := bi_bd a.v
  have h1 := bi_bd a.m
  have h2 := bi_bd v
  go_enter Try.func46, Try.ntmps46
  go_wp2
  go_returns
  exact ⟨rt_i (by simp only [bi_and, bi_or]; rfl), by go_grown⟩
theorem may_dec (a : T) (h : mayT a) : (bits .and .u64 (bi a.v) (bi a.m) == 0) = true := by
  rw [bi_and, bi_eq0, beq_iff_eq]; exact h
theorem has_any (a : T) (v : BitVec 64) (ha : mayT a) (hv : inT a v = true) (w : World) :
    Calls Try.prog 47 #[.agg #[.int .u64 (bi a.v), .int .u64 (bi a.m)], .int .u64 (bi v)] w fun e w' => e = .returned (.bool true) ∧ Below w.heap.size w w' := by
  have h0 := bi_bd a.v
  have h1 := bi_bd a.m
  have h2 := bi_bd v
  have e1 := may_dec a ha
  have HV := Lib.hid hv
  clear ha hv
  go_enter Try.func47, Try.ntmps47
  go_wp2_with (go_at_call 19; refine (in_any a v _).mono ?_; rw [HV.out]; rintro e w' ⟨rfl, qb⟩)
  go_returns
  exact ⟨rfl, below_then ((Below.refl _ _).alloc (Nat.le_refl _) _) qb (Nat.le_refl _)⟩
theorem kof (n : Int) (h : 0 ≤ n ∧ n ≤ 18446744073709551615) (w : World) :
    Calls Try.prog 15 #[.int .u64 n] w fun e w' => e = .returned (.agg #[.int .u64 n, .int .u64 0]) ∧ Below w.heap.size w w' := by
  obtain ⟨x, rfl⟩ := bi_of n h.1 h.2
  exact of_any x w
theorem kany (w : World) :
    Calls Try.prog 17 #[] w fun e w' => e = .returned (.agg #[.int .u64 0, .int .u64 18446744073709551615]) ∧ Below w.heap.size w w' := any_any w
theorem kadd (w : World) :
    Calls Try.prog 26 #[.agg #[.int .u64 4, .int .u64 2], .agg #[.int .u64 0, .int .u64 1]] w fun e w' => e = .returned (.agg #[.int .u64 4, .int .u64 3]) ∧ Below w.heap.size w w' :=
  (add_any ⟨4#64, 2#64⟩ ⟨0#64, 1#64⟩ w)
theorem kmul (w : World) :
    Calls Try.prog 30 #[.agg #[.int .u64 6, .int .u64 0], .agg #[.int .u64 7, .int .u64 0]] w fun e w' => e = .returned (.agg #[.int .u64 42, .int .u64 0]) ∧ Below w.heap.size w w' := by
  have h := mul_any (ofT 6#64) (ofT 7#64) w
  rw [mul_alone] at h
  exact h
theorem kin1 (w : World) :
    Calls Try.prog 19 #[.agg #[.int .u64 0, .int .u64 18446744073709551615], .int .u64 9] w fun e w' => e = .returned (.bool true) ∧ Below w.heap.size w w' := in_any anyT 9#64 w
theorem kin2 (w : World) :
    Calls Try.prog 19 #[.agg #[.int .u64 8, .int .u64 0], .int .u64 9] w fun e w' => e = .returned (.bool false) ∧ Below w.heap.size w w' := in_any (ofT 8#64) 9#64 w
theorem kql (a b : Int) (w : World) : (binOp .eql 24 (.agg #[.int .u64 a, .int .u64 b]) (.agg #[.int .u64 a, .int .u64 b])).run Try.prog w = .ok (.bool true) w := by
  rw [tn_eql0]; simp
theorem kguard (op : BinOp) (a b c d : Int) (o1 o2 : Operand) (w : World) : (eqGuard op 24 o1 o2 (.agg #[.int .u64 a, .int .u64 b]) (.agg #[.int .u64 c, .int .u64 d])).run Try.prog w = .ok () w := run_eqGuard_agg w op _ o1 o2 _ _ tn_eg
set_option maxHeartbeats 1000000 in
theorem known_any (w : World) :
    Calls Try.prog 25 #[] w fun e w' => e = .returned (.bool true) ∧ Below w.heap.size w w' := by
  have HB := Lib.hid (Below.refl w.heap.size w)
  have q1 := kql 4 3
  have q2 := kguard .eql 4 3 4 3
  have q3 := kql 42 0
  have q4 := kguard .eql 42 0 42 0
  go_enter Try.func25, Try.ntmps25
  go_wp2_with fail
  with_reducible refine (kadd _).mono ?_
  rintro e w0 ⟨rfl, qb⟩
  have HB := Lib.hid (below_then HB.out qb (Nat.le_refl _))
  clear qb
  go_wp2_with fail
  with_reducible refine (kof 6 (by decide) _).mono ?_
  rintro e w1 ⟨rfl, qb⟩
  have HB := Lib.hid (below_then HB.out qb (Nat.le_refl _))
  clear qb
  go_wp2_with fail
  with_reducible refine (kof 7 (by decide) _).mono ?_
  rintro e w2 ⟨rfl, qb⟩
  have HB := Lib.hid (below_then HB.out qb (Nat.le_refl _))
  clear qb
  go_wp2_with fail
  with_reducible refine (kmul _).mono ?_
  rintro e w3 ⟨rfl, qb⟩
  have HB := Lib.hid (below_then HB.out qb (Nat.le_refl _))
  clear qb
  go_wp2_with fail
  with_reducible refine (kof 42 (by decide) _).mono ?_
  rintro e w4 ⟨rfl, qb⟩
  have HB := Lib.hid (below_then HB.out qb (Nat.le_refl _))
  clear qb
  go_wp2_with fail
  with_reducible refine (kany _).mono ?_
  rintro e w5 ⟨rfl, qb⟩
  have HB := Lib.hid (below_then HB.out qb (Nat.le_refl _))
  clear qb
  go_wp2_with fail
  with_reducible refine (kin1 _).mono ?_
  rintro e w6 ⟨rfl, qb⟩
  have HB := Lib.hid (below_then HB.out qb (Nat.le_refl _))
  clear qb
  go_wp2_with fail
  with_reducible refine (kof 8 (by decide) _).mono ?_
  rintro e w7 ⟨rfl, qb⟩
  have HB := Lib.hid (below_then HB.out qb (Nat.le_refl _))
  clear qb
  go_wp2_with fail
  with_reducible refine (kin2 _).mono ?_
  rintro e w8 ⟨rfl, qb⟩
  have HB := Lib.hid (below_then HB.out qb (Nat.le_refl _))
  clear qb
  go_wp2_with fail
  go_returns
  exact ⟨rfl, HB.out⟩
end Go.Proofs.Ytjjiancacokaiaa
