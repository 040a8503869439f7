/-
  What the program's flow.Next tells: contract. Conditions: operations of a byte.
-/
import Derived.Test.YtenddhhaelnnnaaFlowProg
namespace Go.Proofs.Ytenddhhaelnnnaa
open Go.RowKit Wi Ow Fl
set_option linter.unusedVariables false
set_option linter.unusedSimpArgs false

/-- A row that was made just now reads as its cells. -/
theorem rd_new (w : World) (t : TypeId) (cs : Array Value) : Rd (w.alloc (.cells cs t)) (w.alloc (.cells cs t)).heap.size (some ⟨w.heap.size, 0, none⟩) cs.toList := fun _ =>
  ⟨_, rfl, by simp, new_cells w t cs⟩
theorem OwnZ.back {w w1 w2 : World} {v : Value} {l : List Int} (h : OwnZ w1 v w2 l) (hb : Below w.heap.size w w1) : OwnZ w v w2 l :=
  ⟨own_base h.own hb.size, below_then hb h.below (Nat.le_refl _)⟩
theorem OwnZ.box {w w1 w2 : World} {v : Value} {l : List Int} {o : Obj} (h : OwnZ (w1.alloc o) v w2 l) (hb : Below w.heap.size w w1) : OwnZ w v w2 l :=
  h.back (hb.alloc hb.size _)
theorem OwnZ.nil (w : World) {w1 : World} (hb : Below w.heap.size w w1) : OwnZ w (.slice none 0 0) w1 [] := ⟨World.ownsRow_nil _ _ _ _, hb⟩
set_option maxHeartbeats 1000000 in
theorem next_in (A B : Option Addr) (n c m d : Nat) (L : List In) (t : List Int) (k : Nat) (hn : L.length = n) (ho : ∀ x ∈ L, okI x) (ht : t.length = m) (h1 : n ≤ 1000000) (h2 : m ≤ 1000000) (hk : k < n) (w : World) (hL : Rd w w.heap.size A (iv L)) (hT : Rd w w.heap.size B (zv t)) :
    Calls Try.prog 14 #[.slice A n c, .slice B m d, .int .i64 k] w fun e w' => ∃ v, e = .returned v ∧ OwnZ w v w' ((nxt L t k).map fun (j : Nat) => (j : Int)) := by
  have hkl : k < L.length := by omega
  have HC : Hid (∀ w' : World, Below w.heap.size w w' → ∃ ad : Addr, A = some ad ∧ w'.cell? (ad.add (k * 5)) = some (.int .i64 L[k].op) ∧ w'.cell? ⟨(ad.add (k * 5)).block, (ad.add (k * 5)).off + 1, none⟩ = some (.int .i64 L[k].dst) ∧ w'.cell? ⟨(ad.add (k * 5)).block, (ad.add (k * 5)).off + 2, none⟩ = some (.int .i64 L[k].src) ∧ w'.cell? ⟨(ad.add (k * 5)).block, (ad.add (k * 5)).off + 3, none⟩ = some (.int .i64 L[k].off) ∧ w'.cell? ⟨(ad.add (k * 5)).block, (ad.add (k * 5)).off + 4, none⟩ = some (.int .i64 L[k].imm)) :=
    Lib.hid fun w' hw' => by
      obtain ⟨ad, e, _, hc⟩ := (hL.below hw') (by rw [iv_len]; omega)
      exact ⟨ad, e, ins_cells hc hkl⟩
  have HT := Lib.hid hT
  have HM := Lib.hid ht
  have e1 : nxt L t k = (if isOp L[k].op 9 then [] else if isOp L[k].op 0 ∨ valAt t k = k + 1 then insN n [valAt t k] else insN n [(k : Int) + 1, valAt t k]) := by
    unfold nxt
    rw [if_pos (by omega), Int.toNat_natCast, opA_get L k hkl, hn]
  obtain ⟨o1, o2, _, _⟩ := ho L[k] (List.getElem_mem hkl)
  have EQ := Lib.hid e1
  clear e1 hL hT ht
  generalize hN : nxt L t k = N at *
  generalize L[k] = x at *
  clear hN ho hkl hn
  obtain ⟨ad, rfl, c0, c1, c2, c3, c4⟩ := HC.out w (Below.refl _ _)
  have i1 : (0 : Int) ≤ (k : Int) := by omega
  have i2 : (k : Int) < (n : Int) := by omega
  go_enter Try.func14, Try.ntmps14
  go_wp2_with fail
  refine (isjump_any x.op x.dst x.src x.off x.imm 9 o1 o2 _).mono ?_
  rintro e w1 ⟨rfl, q⟩
  have B1 := Lib.hid q
  clear q c0 c1 c2 c3 c4
  cases h9 : isOp x.op 9
  · rw [h9] at EQ
    simp only [Bool.false_eq_true, if_false] at EQ
    go_wp2_with fail
    refine (valat_any B m d t k HM.out (by omega) w1 ((HT.out.below B1.out).mono B1.out.size)).mono ?_
    rintro e w1' ⟨rfl, rfl⟩
    obtain ⟨ad', had, c0, c1, c2, c3, c4⟩ := HC.out w1 B1.out
    obtain rfl : ad = ad' := by injection had
    clear had
    generalize valAt t k = z at *
    go_wp2_with fail
    refine (isjump_any x.op x.dst x.src x.off x.imm 0 o1 o2 _).mono ?_
    rintro e w2 ⟨rfl, q⟩
    have B2 := Lib.hid (below_then B1.out q (Nat.le_refl _))
    clear q c0 c1 c2 c3 c4 B1
    by_cases hcond : isOp x.op 0 = true ∨ z = k + 1
    · rw [if_pos hcond] at EQ
      have hc2 : isOp x.op 0 = true ∨ (isOp x.op 0 = false ∧ z = k + 1) := by
        cases h0 : isOp x.op 0
        · rw [h0] at hcond; simp at hcond; exact .inr ⟨rfl, hcond⟩
        · exact .inl rfl
      clear hcond
      rcases hc2 with h0 | ⟨h0, h3⟩
      · rw [h0]
        go_wp2_with fail
        refine (inside_any _ _ n c 1 1 [z] rfl (by omega) (by omega) _ (rd_new w2 3 #[.int .i64 z])).mono ?_
        rintro e w3 ⟨v, rfl, q⟩
        have R := Lib.hid (q.box B2.out)
        clear q
        go_wp2
        go_ret
        exact ⟨_, rfl, by have h := R.out; rw [EQ.out]; exact h⟩
      · rw [h0]
        have h4 : (z == (k : Int) + 1) = true := by simpa using h3
        clear h3
        go_wp2_with fail
        refine (inside_any _ _ n c 1 1 [z] rfl (by omega) (by omega) _ (rd_new w2 3 #[.int .i64 z])).mono ?_
        rintro e w3 ⟨v, rfl, q⟩
        have R := Lib.hid (q.box B2.out)
        clear q
        go_wp2
        go_ret
        exact ⟨_, rfl, by have h := R.out; rw [EQ.out]; exact h⟩
    · rw [if_neg hcond] at EQ
      have h0 : isOp x.op 0 = false := by
        cases h0 : isOp x.op 0
        · rfl
        · exact absurd (.inl h0) hcond
      have h4 : (z == (k : Int) + 1) = false := by
        have : ¬ z = (k : Int) + 1 := fun e => hcond (.inr e)
        simpa using this
      clear hcond
      rw [h0]
      go_wp2_with fail
      refine (inside_any _ _ n c 2 2 [(k : Int) + 1, z] rfl (by omega) (by omega) _ (rd_new w2 3 #[.int .i64 ((k : Int) + 1), .int .i64 z])).mono ?_
      rintro e w3 ⟨v, rfl, q⟩
      have R := Lib.hid (q.box B2.out)
      clear q
      go_wp2
      go_ret
      exact ⟨_, rfl, by have h := R.out; rw [EQ.out]; exact h⟩
  · rw [h9] at EQ
    simp only [if_true] at EQ
    go_wp2
    go_ret
    exact ⟨_, rfl, by rw [EQ.out]; exact OwnZ.nil w B1.out⟩
theorem next_out (A B : Option Addr) (n c m d : Nat) (L : List In) (t : List Int) (i : Int) (hn : L.length = n) (h1 : n ≤ 1000000) (hi : ¬ (0 ≤ i ∧ i < n)) (w : World) :
    Calls Try.prog 14 #[.slice A n c, .slice B m d, .int .i64 i] w fun e w' => ∃ v, e = .returned v ∧ OwnZ w v w' ((nxt L t i).map fun (j : Nat) => (j : Int)) := by
  have e1 : nxt L t i = [] := by unfold nxt; rw [if_neg (by rw [hn]; exact hi)]
  rw [e1]
  clear e1 hn
  by_cases h0 : i < 0
  · clear hi
    go_enter Try.func14, Try.ntmps14
    go_wp2
    go_ret
    exact ⟨_, rfl, OwnZ.nil w (Below.refl _ _)⟩
  · have h3 : (n : Int) ≤ i := by omega
    clear hi
    go_enter Try.func14, Try.ntmps14
    go_wp2
    go_ret
    exact ⟨_, rfl, OwnZ.nil w (Below.refl _ _)⟩
end Go.Proofs.Ytenddhhaelnnnaa
