/-
  known, of layer 7's statements: a contract. No conditions.
-/
import Derived.Test.YtfkfadafncjifaaPhaseLow
namespace Go.Proofs.Ytfkfadafncjifaa
open Go.RowKit Ow Ph
set_option linter.unusedVariables false
set_option linter.unusedSimpArgs false
attribute [local go_sem] run_store_complex
/-- What a beat tells that was written at given times. -/
theorem lit_bt {l : List Int} (h : ∀ t ∈ l, i64 t) : ∃ b, bts l = b ∧ OkB b l.length ∧ i64 b.t := ⟨_, rfl, bts_ok l, bts_t_i64 l h⟩
theorem rd_new {w : World} {t : TypeId} {l : List Int} : Rd (w.alloc (.cells (zv l).toArray t)) (w.alloc (.cells (zv l).toArray t)).heap.size (some ⟨w.heap.size, 0, none⟩) (zv l) := fun _ =>
  ⟨_, rfl, by simp, fun j u hu => new_cells' t _ rfl j u (by simpa using hu)⟩
theorem rd_new' {w : World} {t : TypeId} {b : Nat} {l : List Int} (hb : b = w.heap.size) : Rd (w.alloc (.cells (zv l).toArray t)) (w.alloc (.cells (zv l).toArray t)).heap.size (some ⟨b, 0, none⟩) (zv l) := by subst hb; exact rd_new
theorem val_agg (b : Bt) : b.val = .agg (bcells b) := rfl
set_option maxHeartbeats 4000000 in
theorem known_any (w : World) : Calls Try.prog 17 #[] w fun e w' => e = .returned (.bool true) ∧ Below w.heap.size w w' := by
  obtain ⟨b, hb, OB, TB⟩ := lit_bt (l := [4, 8, 12]) (by simp [i64])
  obtain ⟨c, hc, OC, TC⟩ := lit_bt (l := [1, 2, 3, 4]) (by simp [i64])
  obtain ⟨n, hn, ON, TN⟩ := lit_bt (l := []) (by simp)
  have s1 : Hid (swB b = 3) := Lib.hid (by rw [← hb]; decide +kernel)
  have s2 : Hid (stB b 15 = false) := Lib.hid (by rw [← hb]; decide +kernel)
  have s3 : Hid (stB b 16 = true) := Lib.hid (by rw [← hb]; decide +kernel)
  have s4 : Hid (swB c = 0) := Lib.hid (by rw [← hc]; decide +kernel)
  have s5 : Hid (stB c 11 = false) := Lib.hid (by rw [← hc]; decide +kernel)
  have s6 : Hid (stB c 12 = true) := Lib.hid (by rw [← hc]; decide +kernel)
  have s7 : Hid (stB n 0 = true) := Lib.hid (by rw [← hn]; decide +kernel)
  have W1 := fun (A : Option Addr) (w : World) (hr : Rd w w.heap.size A (zv [4, 8, 12])) => written_any A 3 3 [4, 8, 12] rfl (by decide) (by simp [i64]) w hr
  have W2 := fun (A : Option Addr) (w : World) (hr : Rd w w.heap.size A (zv [1, 2, 3, 4])) => written_any A 4 4 [1, 2, 3, 4] rfl (by decide) (by simp [i64]) w hr
  rw [show ([4, 8, 12] : List Int).take 300 = [4, 8, 12] from rfl, hb] at W1
  rw [show ([1, 2, 3, 4] : List Int).take 300 = [1, 2, 3, 4] from rfl, hc] at W2
  have N1 := new_t
  rw [show newB = n from hn] at N1
  clear hb hc hn
  go_enter Try.func17, Try.ntmps17
  go_wp2_with fail
  refine (W1 _ _ rd_new).mono ?_
  rintro e w1 ⟨rfl, q1⟩
  have B1 : Hid (Below w.heap.size w w1) := Lib.hid (((Below.refl _ _).alloc (Nat.le_refl _) _).trans (q1.mono (by simp)))
  clear q1
  unfold Bt.val
  go_wp2_with fail
  have R : Hid (Bk (w1.alloc (.cells #[.complex .f64 (fl b.x) (fl b.y), .int .i64 b.n, .int .i64 b.t] 25)) w1.heap.size 25 (bcells b)) := Lib.hid (Bk.new w1 _ _)
  have B2 : Hid (Below w.heap.size w (w1.alloc (.cells #[.complex .f64 (fl b.x) (fl b.y), .int .i64 b.n, .int .i64 b.t] 25))) := Lib.hid (B1.out.alloc B1.out.size _)
  have HS : (w1.alloc (.cells #[.complex .f64 (fl b.x) (fl b.y), .int .i64 b.n, .int .i64 b.t] 25)).heap.size = w1.heap.size + 1 := by simp
  generalize hg1 : w1.heap.size = g1 at *
  generalize (w1.alloc (.cells #[.complex .f64 (fl b.x) (fl b.y), .int .i64 b.n, .int .i64 b.t] 25)) = w2 at *
  clear B1 hg1
  refine (W2 _ _ (rd_new' HS.symm)).mono ?_
  clear HS
  rintro e w3 ⟨rfl, q1⟩
  have B3 : Hid (Below w.heap.size w w3) := Lib.hid ((B2.out.alloc B2.out.size _).trans (q1.mono (by have := B2.out.size; simp; omega)))
  have R3 := Lib.hid ((R.out.alloc _).below q1 (R.out.alloc _).lt)
  clear q1 R B2
  unfold Bt.val
  have R := Lib.hid (R3.out.alloc (.cells #[.complex .f64 (fl c.x) (fl c.y), .int .i64 c.n, .int .i64 c.t] 25))
  have T : Hid (Bk (w3.alloc (.cells #[.complex .f64 (fl c.x) (fl c.y), .int .i64 c.n, .int .i64 c.t] 25)) w3.heap.size 25 (bcells c)) := Lib.hid (Bk.new w3 _ _)
  have B : Hid (Below w.heap.size w (w3.alloc (.cells #[.complex .f64 (fl c.x) (fl c.y), .int .i64 c.n, .int .i64 c.t] 25))) := Lib.hid (B3.out.alloc B3.out.size _)
  clear R3 B3
  obtain ⟨r0, r1, r2⟩ := bc3 R.out
  obtain ⟨t0, t1, t2⟩ := bc3 T.out
  go_wp2_with fail
  generalize hg2 : w3.heap.size = g2 at *
  generalize (w3.alloc (.cells #[.complex .f64 (fl c.x) (fl c.y), .int .i64 c.n, .int .i64 c.t] 25)) = w4 at *
  clear hg2
  refine (sway_t b 3 3 OB (by decide) s1.out _).mono ?_
  rintro e v0 ⟨rfl, q1⟩
  have R5 := Lib.hid (R.out.below q1 R.out.lt)
  have T5 := Lib.hid (T.out.below q1 T.out.lt)
  have B5 := Lib.hid (B.out.trans (q1.mono B.out.size))
  clear q1 R T B r0 r1 r2 t0 t1 t2
  clear w4
  have R := R5
  have T := T5
  have B := B5
  clear R5 T5 B5
  obtain ⟨r0, r1, r2⟩ := bc3 R.out
  obtain ⟨t0, t1, t2⟩ := bc3 T.out
  go_wp2_with fail
  refine (steady_t b 3 15 false OB (by decide) TB (by constructor <;> decide) s2.out _).mono ?_
  rintro e v1 ⟨rfl, q1⟩
  have R5 := Lib.hid (R.out.below q1 R.out.lt)
  have T5 := Lib.hid (T.out.below q1 T.out.lt)
  have B5 := Lib.hid (B.out.trans (q1.mono B.out.size))
  clear q1 R T B r0 r1 r2 t0 t1 t2
  clear v0
  have R := R5
  have T := T5
  have B := B5
  clear R5 T5 B5
  obtain ⟨r0, r1, r2⟩ := bc3 R.out
  obtain ⟨t0, t1, t2⟩ := bc3 T.out
  go_wp2_with fail
  refine (steady_t b 3 16 true OB (by decide) TB (by constructor <;> decide) s3.out _).mono ?_
  rintro e v2 ⟨rfl, q1⟩
  have R5 := Lib.hid (R.out.below q1 R.out.lt)
  have T5 := Lib.hid (T.out.below q1 T.out.lt)
  have B5 := Lib.hid (B.out.trans (q1.mono B.out.size))
  clear q1 R T B r0 r1 r2 t0 t1 t2
  clear v1
  have R := R5
  have T := T5
  have B := B5
  clear R5 T5 B5
  obtain ⟨r0, r1, r2⟩ := bc3 R.out
  obtain ⟨t0, t1, t2⟩ := bc3 T.out
  go_wp2_with fail
  refine (sway_t c 4 0 OC (by decide) s4.out _).mono ?_
  rintro e v3 ⟨rfl, q1⟩
  have R5 := Lib.hid (R.out.below q1 R.out.lt)
  have T5 := Lib.hid (T.out.below q1 T.out.lt)
  have B5 := Lib.hid (B.out.trans (q1.mono B.out.size))
  clear q1 R T B r0 r1 r2 t0 t1 t2
  clear v2
  have R := R5
  have T := T5
  have B := B5
  clear R5 T5 B5
  obtain ⟨r0, r1, r2⟩ := bc3 R.out
  obtain ⟨t0, t1, t2⟩ := bc3 T.out
  go_wp2_with fail
  refine (steady_t c 4 11 false OC (by decide) TC (by constructor <;> decide) s5.out _).mono ?_
  rintro e v4 ⟨rfl, q1⟩
  have R5 := Lib.hid (R.out.below q1 R.out.lt)
  have T5 := Lib.hid (T.out.below q1 T.out.lt)
  have B5 := Lib.hid (B.out.trans (q1.mono B.out.size))
  clear q1 R T B r0 r1 r2 t0 t1 t2
  clear v3
  have R := R5
  have T := T5
  have B := B5
  clear R5 T5 B5
  obtain ⟨r0, r1, r2⟩ := bc3 R.out
  obtain ⟨t0, t1, t2⟩ := bc3 T.out
  go_wp2_with fail
  refine (steady_t c 4 12 true OC (by decide) TC (by constructor <;> decide) s6.out _).mono ?_
  rintro e v5 ⟨rfl, q1⟩
  have R5 := Lib.hid (R.out.below q1 R.out.lt)
  have T5 := Lib.hid (T.out.below q1 T.out.lt)
  have B5 := Lib.hid (B.out.trans (q1.mono B.out.size))
  clear q1 R T B r0 r1 r2 t0 t1 t2
  clear v4
  have R := R5
  have T := T5
  have B := B5
  clear R5 T5 B5
  obtain ⟨r0, r1, r2⟩ := bc3 R.out
  obtain ⟨t0, t1, t2⟩ := bc3 T.out
  go_wp2_with fail
  refine (N1 _).mono ?_
  rintro e v6 ⟨rfl, q1⟩
  have R5 := Lib.hid (R.out.below q1 R.out.lt)
  have T5 := Lib.hid (T.out.below q1 T.out.lt)
  have B5 := Lib.hid (B.out.trans (q1.mono B.out.size))
  clear q1 R T B r0 r1 r2 t0 t1 t2
  clear v5
  have R := R5
  have T := T5
  have B := B5
  clear R5 T5 B5
  obtain ⟨r0, r1, r2⟩ := bc3 R.out
  obtain ⟨t0, t1, t2⟩ := bc3 T.out
  go_wp2_with fail
  refine (steady_t n 0 0 true ON (by decide) TN (by constructor <;> decide) s7.out _).mono ?_
  rintro e v7 ⟨rfl, q1⟩
  have R5 := Lib.hid (R.out.below q1 R.out.lt)
  have T5 := Lib.hid (T.out.below q1 T.out.lt)
  have B5 := Lib.hid (B.out.trans (q1.mono B.out.size))
  clear q1 R T B r0 r1 r2 t0 t1 t2
  clear v6
  have R := R5
  have T := T5
  have B := B5
  clear R5 T5 B5
  obtain ⟨r0, r1, r2⟩ := bc3 R.out
  obtain ⟨t0, t1, t2⟩ := bc3 T.out
  go_wp2
  go_ret
  exact ⟨rfl, B.out⟩
end Go.Proofs.Ytfkfadafncjifaa
