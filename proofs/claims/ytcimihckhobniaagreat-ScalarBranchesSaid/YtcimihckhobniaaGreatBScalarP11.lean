/-
  What the program's layer 5 tells: contracts, eleventh part: what the lessons are, by reckoning. Conditions: scalars may be, where that is said.
-/
import Derived.Test.YtcimihckhobniaaGreatBScalarP10
namespace Go.Proofs.YtcimihckhobniaaGreat.Sc
open Go.RowKit Tn Ow Sp
set_option linter.unusedVariables false
set_option linter.unusedSimpArgs false
set_option maxRecDepth 100000
theorem nb {x : Bool} (h : (!x) = false) : x = true := by simpa using h
theorem nt {x : Bool} (h : (!x) = true) : x = false := by simpa using h
theorem al_of {x y : Bool} (h : (x && y) = false) (g : y = true) : x = false := by rw [g] at h; simpa using h
theorem ap_u {d : Int} (hd : d = 0 ∨ d = 1) {h l : E} (hh : okU h) (hl : okU l) : apOk .u64 d h l = belowE 0 18446744073709551615 d l h ∧ (apOk .u64 d h l = true → apHi .u64 d h l = highE d l h ∧ apLo .u64 d h l = lowE d l h) := by
  unfold okU at hh hl
  have e1 : IntKind.u64.wrap (l.lo + d) = if l.lo + d ≤ 18446744073709551615 then l.lo + d else 0 := by rw [IntKind.wrap_u64]; split <;> omega
  have e2 : IntKind.u64.wrap (h.hi - d) = if 0 ≤ h.hi - d then h.hi - d else 18446744073709551615 := by rw [IntKind.wrap_u64]; split <;> omega
  refine ⟨?_, ?_⟩
  · unfold apOk belowE
    rw [e1, e2, Bool.eq_iff_iff]
    simp only [Bool.and_eq_true, Bool.not_eq_true', decide_eq_true_eq, decide_eq_false_iff_not]
    split <;> split <;> omega
  · intro g
    unfold apOk at g
    rw [e1, e2] at g
    simp only [Bool.and_eq_true, Bool.not_eq_true', decide_eq_true_eq, decide_eq_false_iff_not] at g
    unfold apHi apLo highE lowE
    rw [e1, e2]
    revert g
    split <;> split <;> intro g
    · exact ⟨rfl, rfl⟩
    all_goals exfalso; omega
theorem ap_s {d : Int} (hd : d = 0 ∨ d = 1) {h l : E} (hh : okS h) (hl : okS l) : apOk .i64 d h l = belowE (-9223372036854775808) 9223372036854775807 d l h ∧ (apOk .i64 d h l = true → apHi .i64 d h l = highE d l h ∧ apLo .i64 d h l = lowE d l h) := by
  unfold okS at hh hl
  have e1 : IntKind.i64.wrap (l.lo + d) = if l.lo + d ≤ 9223372036854775807 then l.lo + d else -9223372036854775808 := by rw [IntKind.wrap_i64]; split <;> omega
  have e2 : IntKind.i64.wrap (h.hi - d) = if -9223372036854775808 ≤ h.hi - d then h.hi - d else 9223372036854775807 := by rw [IntKind.wrap_i64]; split <;> omega
  refine ⟨?_, ?_⟩
  · unfold apOk belowE
    rw [e1, e2, Bool.eq_iff_iff]
    simp only [Bool.and_eq_true, Bool.not_eq_true', decide_eq_true_eq, decide_eq_false_iff_not]
    split <;> split <;> omega
  · intro g
    unfold apOk at g
    rw [e1, e2] at g
    simp only [Bool.and_eq_true, Bool.not_eq_true', decide_eq_true_eq, decide_eq_false_iff_not] at g
    unfold apHi apLo highE lowE
    rw [e1, e2]
    revert g
    split <;> split <;> intro g
    · exact ⟨rfl, rfl⟩
    all_goals exfalso; omega
theorem ex_u {x : E} (hx : okU x) (hn : ¬ x.lo = x.hi) (v : Int) : exE .u64 x v = woE x v := by
  unfold okU at hx
  unfold exE woE
  by_cases h : v = x.lo
  · have b1 : (v == x.lo) = true := by simpa using h
    rw [if_pos b1, if_pos h.symm, IntKind.wrap_u64]; congr 1; omega
  · have b1 : ¬ (v == x.lo) = true := by simpa using h
    rw [if_neg b1]
    by_cases h2 : v = x.hi
    · have b2 : (v == x.hi) = true := by simpa using h2
      rw [if_pos b2, if_neg (show ¬ x.lo = v from fun e => h e.symm), if_pos h2.symm, IntKind.wrap_u64]; congr 1; omega
    · have b2 : ¬ (v == x.hi) = true := by simpa using h2
      rw [if_neg b2, if_neg (show ¬ x.lo = v from fun e => h e.symm), if_neg (show ¬ x.hi = v from fun e => h2 e.symm)]
theorem ex_s {x : E} (hx : okS x) (hn : ¬ x.lo = x.hi) (v : Int) : exE .i64 x v = woE x v := by
  unfold okS at hx
  unfold exE woE
  by_cases h : v = x.lo
  · have b1 : (v == x.lo) = true := by simpa using h
    rw [if_pos b1, if_pos h.symm, IntKind.wrap_i64]; congr 1; omega
  · have b1 : ¬ (v == x.lo) = true := by simpa using h
    rw [if_neg b1]
    by_cases h2 : v = x.hi
    · have b2 : (v == x.hi) = true := by simpa using h2
      rw [if_pos b2, if_neg (show ¬ x.lo = v from fun e => h e.symm), if_pos h2.symm, IntKind.wrap_i64]; congr 1; omega
    · have b2 : ¬ (v == x.hi) = true := by simpa using h2
      rw [if_neg b2, if_neg (show ¬ x.lo = v from fun e => h e.symm), if_neg (show ¬ x.hi = v from fun e => h2 e.symm)]
theorem not_alone {x : C} (h : aloneC x = false) : ¬ x.u.lo = x.u.hi ∧ ¬ x.s.lo = x.s.hi := by
  unfold aloneC at h
  simp only [Bool.or_eq_false_iff, decide_eq_false_iff_not] at h
  exact ⟨h.1, h.2.2⟩
theorem ex_wo {x : C} (hx : mayC x) (h : aloneC x = false) (v : Int) : woC x v = some (exC x v) := by
  have hn := not_alone h
  unfold woC exC
  rw [if_neg (by rintro (g | g); exact hn.1 g.1; exact hn.2 g.1), ex_u hx.2.1 hn.1, ex_s hx.2.2 hn.2]
def optP (r : (C × C) × Bool) : Option (C × C) := if r.2 = true then some r.1 else none
theorem ls_both (a b : C) : bothC a b = optP ((mtC a b, mtC a b), mtB a b) := by
  unfold bothC meetC optP mtB mtC
  split <;> rfl
theorem ls_off {a b : C} (ha : mayC a) (hb : mayC b) (hal : (aloneC a && aloneC b) = false) : offC a b = optP ((dfC a b, dfC b a), true) := by
  unfold offC optP dfC
  cases h1 : aloneC a <;> cases h2 : aloneC b
  · rfl
  · simp [ex_wo ha h1]
  · simp [ex_wo hb h2]
  · rw [h1, h2] at hal; cases hal
theorem ls_set (a b : C) : setC a b = optP ((djC a b, djC b a), djB a b && djB b a) := by
  unfold setC optP djC djB noT noC noB
  cases h1 : aloneC a <;> cases h2 : aloneC b <;> simp <;> (repeat' split) <;> simp_all
theorem ls_lu {d : Int} (hd : d = 0 ∨ d = 1) {a b : C} (ha : mayC a) (hb : mayC b) : lessU d a b = optP ((above_u2 d b a, above_u1 d b a), apOk .u64 d b.u a.u) := by
  obtain ⟨e1, e2⟩ := ap_u hd hb.2.1 ha.2.1
  unfold lessU optP above_u1 above_u2
  rw [← e1]
  cases g : apOk .u64 d b.u a.u
  · rfl
  · obtain ⟨q1, q2⟩ := e2 g
    simp [q1, q2]
theorem ls_ls {d : Int} (hd : d = 0 ∨ d = 1) {a b : C} (ha : mayC a) (hb : mayC b) : lessS d a b = optP ((above_s2 d b a, above_s1 d b a), apOk .i64 d b.s a.s) := by
  obtain ⟨e1, e2⟩ := ap_s hd hb.2.2 ha.2.2
  unfold lessS optP above_s1 above_s2
  rw [← e1]
  cases g : apOk .i64 d b.s a.s
  · rfl
  · obtain ⟨q1, q2⟩ := e2 g
    simp [q1, q2]
theorem swp_opt {x y : C} {r : Bool} : swp2 (optP ((x, y), r)) = optP ((y, x), r) := by cases r <;> rfl
theorem ls_learn (op : Int) (taken : Bool) (hop : Wd.jumpOk op = true) {a b : C} (ha : mayC a) (hb : mayC b) (hal : (aloneC a && aloneC b) = false) :
    learnC (if taken = true then op else counterI op) (decide (op = 4) && !taken) a b = optP (lsR op taken a b) := by
  rcases jump_cases hop with rfl | rfl | rfl | rfl | rfl | rfl | rfl | rfl | rfl | rfl | rfl <;> cases taken
  · exact ls_off ha hb hal
  · exact ls_both a b
  · exact ls_lu (.inl rfl) ha hb
  · exact (congrArg swp2 (ls_lu (.inr rfl) hb ha)).trans swp_opt
  · exact ls_lu (.inr rfl) ha hb
  · exact (congrArg swp2 (ls_lu (.inl rfl) hb ha)).trans swp_opt
  · exact ls_set a b
  · rfl
  · exact ls_both a b
  · exact ls_off ha hb hal
  · exact ls_ls (.inl rfl) ha hb
  · exact (congrArg swp2 (ls_ls (.inr rfl) hb ha)).trans swp_opt
  · exact ls_ls (.inr rfl) ha hb
  · exact (congrArg swp2 (ls_ls (.inl rfl) hb ha)).trans swp_opt
  · exact (congrArg swp2 (ls_lu (.inl rfl) hb ha)).trans swp_opt
  · exact ls_lu (.inr rfl) ha hb
  · exact (congrArg swp2 (ls_lu (.inr rfl) hb ha)).trans swp_opt
  · exact ls_lu (.inl rfl) ha hb
  · exact (congrArg swp2 (ls_ls (.inl rfl) hb ha)).trans swp_opt
  · exact ls_ls (.inr rfl) ha hb
  · exact (congrArg swp2 (ls_ls (.inr rfl) hb ha)).trans swp_opt
  · exact ls_ls (.inl rfl) ha hb
def brV (o : Option (C × C)) : Value := .tuple #[.agg #[.int .u64 (bi ((o.getD (zeroC, zeroC)).1).t.v), .int .u64 (bi ((o.getD (zeroC, zeroC)).1).t.m), .int .u64 (((o.getD (zeroC, zeroC)).1).u.lo), .int .u64 (((o.getD (zeroC, zeroC)).1).u.hi), .int .i64 (((o.getD (zeroC, zeroC)).1).s.lo), .int .i64 (((o.getD (zeroC, zeroC)).1).s.hi)], .agg #[.int .u64 (bi ((o.getD (zeroC, zeroC)).2).t.v), .int .u64 (bi ((o.getD (zeroC, zeroC)).2).t.m), .int .u64 (((o.getD (zeroC, zeroC)).2).u.lo), .int .u64 (((o.getD (zeroC, zeroC)).2).u.hi), .int .i64 (((o.getD (zeroC, zeroC)).2).s.lo), .int .i64 (((o.getD (zeroC, zeroC)).2).s.hi)], .bool o.isSome]
theorem br_sel (r : Bool) (x y : C) : Value.tuple #[.agg #[.int .u64 (bi (selC r x).t.v), .int .u64 (bi (selC r x).t.m), .int .u64 ((selC r x).u.lo), .int .u64 ((selC r x).u.hi), .int .i64 ((selC r x).s.lo), .int .i64 ((selC r x).s.hi)], .agg #[.int .u64 (bi (selC r y).t.v), .int .u64 (bi (selC r y).t.m), .int .u64 ((selC r y).u.lo), .int .u64 ((selC r y).u.hi), .int .i64 ((selC r y).s.lo), .int .i64 ((selC r y).s.hi)], .bool r] = brV (if r = true then some (x, y) else none) := by cases r <;> rfl
section
variable {op : Int} {wide taken : Bool} {a b p q : C} {ok : Bool}
theorem br_1 (h0 : (!(Wd.jumpOk op)) = true) : branchC op wide taken a b = some (a, b) := by unfold branchC; rw [if_pos (nt h0)]
theorem br_2 (h0 : (!(Wd.jumpOk op)) = false) (h1 : ((aloneC a && aloneC b) && Wd.jumpOk op) = true) : branchC op wide taken a b = if ((bif (aloneC a && aloneC b) then Wd.jumpV op wide (oneC a) (oneC b) else false) == taken) = true then some (a, b) else none := by
  have g : (aloneC a && aloneC b) = true := by rw [Bool.and_eq_true] at h1; exact h1.1
  unfold branchC
  rw [if_neg (by rw [nb h0]; decide), if_pos g, g]
  rfl
theorem br_3 (h0 : (!(Wd.jumpOk op)) = false) (h1 : ((aloneC a && aloneC b) && Wd.jumpOk op) = false) (h2 : (!wide && (!(!wideJ op a b))) = true) : branchC op wide taken a b = some (a, b) := by
  unfold branchC
  rw [if_neg (by rw [nb h0]; decide), if_neg (by rw [al_of h1 (nb h0)]; decide), if_pos (by simpa using h2)]
theorem br_4 (ha : mayC a) (hb : mayC b) (hls : lsR op taken a b = ((p, q), ok)) (h0 : (!(Wd.jumpOk op)) = false) (h1 : ((aloneC a && aloneC b) && Wd.jumpOk op) = false) (h2 : (!wide && (!(!wideJ op a b))) = false) : branchC op wide taken a b = (optP ((p, q), ok)).bind normP := by
  unfold branchC
  rw [if_neg (by rw [nb h0]; decide), if_neg (by rw [al_of h1 (nb h0)]; decide), if_neg (by intro g; rw [Bool.not_not, g] at h2; cases h2), ls_learn op taken (nb h0) ha hb (al_of h1 (nb h0)), hls]
theorem no_n {x : Option C} (h : x.isSome = false) : x = none := by cases x <;> simp_all
theorem so_s {x : Option C} (h : x.isSome = true) : x = some (x.getD zeroC) := by cases x <;> simp_all
theorem ls_may (hop : Wd.jumpOk op = true) (ha : mayC a) (hb : mayC b) (hal : (aloneC a && aloneC b) = false) (hls : lsR op taken a b = ((p, q), ok)) (hok : ok = true) : mayC p ∧ mayC q := by
  have h := learn_ok (if taken = true then op else counterI op) (decide (op = 4) && !taken) ha hb
  rw [ls_learn op taken hop ha hb hal, hls, hok] at h
  obtain ⟨h1, h2⟩ := h p q rfl
  exact ⟨h1.1, h2.1⟩
end
end Go.Proofs.YtcimihckhobniaaGreat.Sc
