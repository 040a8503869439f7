/-
  What the document's answer of layer 2 tells of an instruction (Of, Check, Size, Width): contracts. Conditions: the numbers are of 64 bits.
-/
import Derived.Test.YtlimhdnpdhjdaaaInsnTab
import Derived.Test.YtlimhdnpdhjdaaaInsnPut
import Derived.Deep.DeepCutAuto
namespace Go.Proofs.Ytlimhdnpdhjdaaa
open Go.RowKit Wi Ow
set_option linter.unusedVariables false
set_option linter.unusedSimpArgs false

theorem tab_len : tabT.length = 112 := by decide +kernel
theorem tab_row (k : Nat) (hk : k < tabT.length) : tabT[k].2 = useV tabT[k].1 ∧ ub (useV tabT[k].1) 32 = true := by
  have h : ∀ r ∈ tabT, r.2 = useV r.1 ∧ ub (useV r.1) 32 = true := by decide +kernel
  exact h _ (List.getElem_mem hk)
theorem tab_all (op : Int) (h : ub (useV op) 32 = true) : ∃ k, ∃ hk : k < tabT.length, tabT[k].1 = op := by
  by_cases hr : 0 ≤ op ∧ op ≤ 255
  · obtain ⟨n, rfl⟩ := Int.eq_ofNat_of_zero_le hr.1
    have hall : ∀ n : Fin 256, ub (useV ((n.val : Nat) : Int)) 32 = true → (tabT.map (·.1)).contains ((n.val : Nat) : Int) = true := by decide +kernel
    have h1 := hall ⟨n, by omega⟩ h
    rw [List.contains_iff_mem] at h1
    obtain ⟨k, hk, e⟩ := List.getElem_of_mem h1
    exact ⟨k, by simpa using hk, by simpa using e⟩
  · have : useV op = 0 := if_pos (by omega)
    rw [this] at h
    simp [ub] at h
theorem tv_at (l : List (Int × Int)) (k : Nat) (hk : k < l.length) (i : Nat) (hi : i < 6) : (tv l)[k * 6 + i]? = (rowC l[k])[i]? := by
  induction l generalizing k with
  | nil => simp at hk
  | cons x r ih =>
    have e : tv (x :: r) = rowC x ++ tv r := rfl
    have hl : (rowC x).length = 6 := rfl
    cases k with
    | zero => rw [e, List.getElem?_append_left (by omega)]; simp
    | succ k =>
      rw [e, List.getElem?_append_right (by omega), hl]
      have h := ih k (by simpa using hk)
      simp only [List.getElem_cons_succ]
      rw [← h]
      congr 1
      omega
theorem use_cells {w : World} {ad : Addr} {l : List (Int × Int)} {k : Nat} (hc : ∀ j u, (tv l)[j]? = some u → w.cell? (ad.add j) = some u) (hk : k < l.length) :
    w.cell? (ad.add (k * 6)) = some (.int .i64 l[k].1) ∧ w.cell? ⟨(ad.add (k * 6)).block, (ad.add (k * 6)).off + 1, none⟩ = some (.bool (ub l[k].2 1)) ∧ w.cell? ⟨(ad.add (k * 6)).block, (ad.add (k * 6)).off + 2, none⟩ = some (.bool (ub l[k].2 2)) ∧
      w.cell? ⟨(ad.add (k * 6)).block, (ad.add (k * 6)).off + 3, none⟩ = some (.bool (ub l[k].2 4)) ∧ w.cell? ⟨(ad.add (k * 6)).block, (ad.add (k * 6)).off + 4, none⟩ = some (.bool (ub l[k].2 8)) ∧ w.cell? ⟨(ad.add (k * 6)).block, (ad.add (k * 6)).off + 5, none⟩ = some (.bool (ub l[k].2 16)) := by
  rw [add_next _ _ 1 (by omega), add_next _ _ 2 (by omega), add_next _ _ 3 (by omega), add_next _ _ 4 (by omega), add_next _ _ 5 (by omega)]
  refine ⟨hc _ _ ?_, hc _ _ ?_, hc _ _ ?_, hc _ _ ?_, hc _ _ ?_, hc _ _ ?_⟩
  · rw [← Nat.add_zero (k * 6), tv_at l k hk 0 (by omega)]; rfl
  · rw [tv_at l k hk 1 (by omega)]; rfl
  · rw [tv_at l k hk 2 (by omega)]; rfl
  · rw [tv_at l k hk 3 (by omega)]; rfl
  · rw [tv_at l k hk 4 (by omega)]; rfl
  · rw [tv_at l k hk 5 (by omega)]; rfl
theorem ubox_cells {w : World} {b : Nat} {v0 v1 v2 v3 v4 v5 : Value} (h : Bk w b 50 #[v0, v1, v2, v3, v4, v5]) :
    w.cell? ⟨b, 0, none⟩ = some v0 ∧ w.cell? ⟨b, 1, none⟩ = some v1 ∧ w.cell? ⟨b, 2, none⟩ = some v2 ∧ w.cell? ⟨b, 3, none⟩ = some v3 ∧ w.cell? ⟨b, 4, none⟩ = some v4 ∧ w.cell? ⟨b, 5, none⟩ = some v5 :=
  ⟨h.cell 0, h.cell 1, h.cell 2, h.cell 3, h.cell 4, h.cell 5⟩
theorem ubox_frozen {w : World} {b : Nat} {cs : Array Value} (h : Bk w b 50 cs) :
    w.frozen? ⟨b, 0, none⟩ = false ∧ w.frozen? ⟨b, 1, none⟩ = false ∧ w.frozen? ⟨b, 2, none⟩ = false ∧ w.frozen? ⟨b, 3, none⟩ = false ∧ w.frozen? ⟨b, 4, none⟩ = false ∧ w.frozen? ⟨b, 5, none⟩ = false :=
  ⟨h.frozen 0, h.frozen 1, h.frozen 2, h.frozen 3, h.frozen 4, h.frozen 5⟩
/-- The answer: the operation's use, or none. -/
def ofV (op : Int) : Value := if ub (useV op) 32 = true then .agg #[.int .i64 op, .bool (ub (useV op) 1), .bool (ub (useV op) 2), .bool (ub (useV op) 4), .bool (ub (useV op) 8), .bool (ub (useV op) 16)] else .agg #[.int .i64 0, .bool false, .bool false, .bool false, .bool false, .bool false]
set_option maxRecDepth 100000 in
set_option maxHeartbeats 1000000 in
theorem of_any (op : Int) (w : World) :
    Calls Try.prog 37 #[.int .i64 op] w fun e w' => e = .returned (.tuple #[ofV op, .bool (ub (useV op) 32)]) ∧ Below w.heap.size w w' := by
  go_enter Try.func37, Try.ntmps37
  go_wp2_with fail
  refine (table_any _).mono ?_
  rintro e w1 ⟨v, rfl, hT⟩
  obtain ⟨A, cap, rfl, hcap, hmax, hA⟩ := own_form hT.own
  rw [tab_len] at hcap hA hT
  obtain ⟨g, rfl, hg1, hg2⟩ := hA (by omega)
  have HC : Hid (∀ j u, (tv tabT)[j]? = some u → w1.cell? ((⟨g, 0, none⟩ : Addr).add j) = some u) := Lib.hid (hT.own.cells (g := g) rfl)
  have B1 := Lib.hid (below_box hT.below)
  have R1 := Lib.hid ((Bk.new w 50 #[.int .i64 0, .bool false, .bool false, .bool false, .bool false, .bool false]).below hT.below (by simp))
  clear hT hA
  have hb : g ≠ w.heap.size := by simp at hg1; omega
  generalize hgb : (⟨g, 0, none⟩ : Addr) = ad at *
  have hab : ad.block ≠ w.heap.size := by rw [← hgb]; exact hb
  clear hgb hb hg1 hg2
  obtain ⟨r0, r1, r2, r3, r4, r5⟩ := ubox_cells R1.out
  obtain ⟨f0, f1, f2, f3, f4, f5⟩ := ubox_frozen R1.out
  go_wp2
  go_loop [5] (fun i => ∃ k : Nat, k ≤ 112 ∧ i = .int .i64 k ∧ Hid (∀ j, j < k → ∀ hj : j < tabT.length, tabT[j].1 ≠ op)) (fun i => 112 - (intOf i).toNat)
  case atStart => exact ⟨0, Nat.zero_le _, rfl, Lib.hid (fun j hj => absurd hj (by omega))⟩
  case round =>
    obtain ⟨k, hk, rfl, hno⟩ := hrel
    by_cases hlt : k < 112
    · have hkl : k < tabT.length := by rw [tab_len]; exact hlt
      obtain ⟨c0, c1, c2, c3, c4, c5⟩ := use_cells HC.out hkl
      have HRW := Lib.hid (tab_row k hkl)
      have hno1 : tabT[k].1 ≠ op → Hid (∀ j, j < k + 1 → ∀ hj : j < tabT.length, tabT[j].1 ≠ op) := fun hne => Lib.hid fun j hj hjl => by
        by_cases e : j = k
        · subst e; exact hne
        · exact hno.out j (by omega) hjl
      generalize hrow : tabT[k] = r at *
      obtain ⟨p, u⟩ := r
      simp only at c0 c1 c2 c3 c4 c5 HRW hno1
      have HNO := Lib.hid hno1
      clear hrow hno1
      by_cases he : p = op
      · subst he
        clear HNO
        go_wp2
        have R6 : Bk ((((((w1.setCell ⟨w.heap.size, 0, none⟩ (.int .i64 p)).setCell ⟨w.heap.size, 1, none⟩ (.bool (ub u 1))).setCell ⟨w.heap.size, 2, none⟩ (.bool (ub u 2))).setCell ⟨w.heap.size, 3, none⟩ (.bool (ub u 4))).setCell ⟨w.heap.size, 4, none⟩ (.bool (ub u 8))).setCell ⟨w.heap.size, 5, none⟩ (.bool (ub u 16))) w.heap.size 50 #[(.int .i64 p), (.bool (ub u 1)), (.bool (ub u 2)), (.bool (ub u 4)), (.bool (ub u 8)), (.bool (ub u 16))] := (((((R1.out.set_ 0 _).set_ 1 _).set_ 2 _).set_ 3 _).set_ 4 _).set_ 5 _
        have B6 : Below w.heap.size w ((((((w1.setCell ⟨w.heap.size, 0, none⟩ (.int .i64 p)).setCell ⟨w.heap.size, 1, none⟩ (.bool (ub u 1))).setCell ⟨w.heap.size, 2, none⟩ (.bool (ub u 2))).setCell ⟨w.heap.size, 3, none⟩ (.bool (ub u 4))).setCell ⟨w.heap.size, 4, none⟩ (.bool (ub u 8))).setCell ⟨w.heap.size, 5, none⟩ (.bool (ub u 16))) := (((((B1.out.setCell (Nat.le_refl _) _).setCell (Nat.le_refl _) _).setCell (Nat.le_refl _) _).setCell (Nat.le_refl _) _).setCell (Nat.le_refl _) _).setCell (Nat.le_refl _) _
        generalize ((((((w1.setCell ⟨w.heap.size, 0, none⟩ (.int .i64 p)).setCell ⟨w.heap.size, 1, none⟩ (.bool (ub u 1))).setCell ⟨w.heap.size, 2, none⟩ (.bool (ub u 2))).setCell ⟨w.heap.size, 3, none⟩ (.bool (ub u 4))).setCell ⟨w.heap.size, 4, none⟩ (.bool (ub u 8))).setCell ⟨w.heap.size, 5, none⟩ (.bool (ub u 16))) = w6 at *
        obtain ⟨s0, s1, s2, s3, s4, s5⟩ := ubox_cells R6
        refine bodyPost_ret (v := .tuple #[.agg #[(.int .i64 p), (.bool (ub u 1)), (.bool (ub u 2)), (.bool (ub u 4)), (.bool (ub u 8)), (.bool (ub u 16))], .bool true]) ?_ rfl ⟨?_, B6⟩
        · simp [results, Try.results37, go_sem, s0, s1, s2, s3, s4, s5]
        · have e1 : useV p = u := by rw [← HRW.out.1]
          have e2 : ub u 32 = true := by rw [← e1]; exact HRW.out.2
          unfold ofV; rw [e1, e2, if_pos rfl]
      · have he' : (p == op) = false := by simpa using he
        have HN1 := HNO.out he
        clear HNO
        go_wp2
        go_round
        case rel => exact ⟨k + 1, by omega, by go_num, HN1⟩
        case measure => simp [intOf]; omega
    · have hq112 := hk
      have hlt2 : ¬ (k : Int) < 112 := by omega
      go_wp2
      have R6 : Bk ((((((w1.setCell ⟨w.heap.size, 0, none⟩ (.int .i64 0)).setCell ⟨w.heap.size, 1, none⟩ (.bool false)).setCell ⟨w.heap.size, 2, none⟩ (.bool false)).setCell ⟨w.heap.size, 3, none⟩ (.bool false)).setCell ⟨w.heap.size, 4, none⟩ (.bool false)).setCell ⟨w.heap.size, 5, none⟩ (.bool false)) w.heap.size 50 #[(.int .i64 0), (.bool false), (.bool false), (.bool false), (.bool false), (.bool false)] := (((((R1.out.set_ 0 _).set_ 1 _).set_ 2 _).set_ 3 _).set_ 4 _).set_ 5 _
      have B6 : Below w.heap.size w ((((((w1.setCell ⟨w.heap.size, 0, none⟩ (.int .i64 0)).setCell ⟨w.heap.size, 1, none⟩ (.bool false)).setCell ⟨w.heap.size, 2, none⟩ (.bool false)).setCell ⟨w.heap.size, 3, none⟩ (.bool false)).setCell ⟨w.heap.size, 4, none⟩ (.bool false)).setCell ⟨w.heap.size, 5, none⟩ (.bool false)) := (((((B1.out.setCell (Nat.le_refl _) _).setCell (Nat.le_refl _) _).setCell (Nat.le_refl _) _).setCell (Nat.le_refl _) _).setCell (Nat.le_refl _) _).setCell (Nat.le_refl _) _
      generalize ((((((w1.setCell ⟨w.heap.size, 0, none⟩ (.int .i64 0)).setCell ⟨w.heap.size, 1, none⟩ (.bool false)).setCell ⟨w.heap.size, 2, none⟩ (.bool false)).setCell ⟨w.heap.size, 3, none⟩ (.bool false)).setCell ⟨w.heap.size, 4, none⟩ (.bool false)).setCell ⟨w.heap.size, 5, none⟩ (.bool false)) = w6 at *
      obtain ⟨s0, s1, s2, s3, s4, s5⟩ := ubox_cells R6
      refine bodyPost_ret (v := .tuple #[.agg #[(.int .i64 0), (.bool false), (.bool false), (.bool false), (.bool false), (.bool false)], .bool false]) ?_ rfl ⟨?_, B6⟩
      · simp [results, Try.results37, go_sem, s0, s1, s2, s3, s4, s5]
      · have e2 : ub (useV op) 32 = false := by
          cases hb : ub (useV op) 32
          · rfl
          · obtain ⟨j, hj, e⟩ := tab_all op hb
            exact absurd e (hno.out j (by have := tab_len; omega) hj)
        unfold ofV; rw [e2, if_neg (by simp)]
/-- An operation that is none. -/
theorem refcheck_none (op dst src off imm : Int) (hu : ub (useV op) 32 = false) (w : World) :
    Calls Try.prog 12 #[.agg #[.int .i64 op, .int .i64 dst, .int .i64 src, .int .i64 off, .int .i64 imm]] w fun e w' => e = .returned (.int .i64 (chkV op dst src off imm)) ∧ Below w.heap.size w w' := by
  have ho : ofV op = .agg #[.int .i64 0, .bool false, .bool false, .bool false, .bool false, .bool false] := by unfold ofV; rw [hu, if_neg (by simp)]
  have hr : chkV op dst src off imm = 4 := if_pos hu
  have C := of_any op
  rw [hu, ho] at C
  have CC := Lib.hid C
  rw [hr]
  clear hr hu ho C
  go_enter Try.func12, Try.ntmps12
  go_wp2_with fail
  refine (CC.out _).mono ?_
  rintro e w1 ⟨rfl, q1⟩
  have B1 := Lib.hid (below_box q1)
  clear q1
  go_wp2
  go_ret
  exact ⟨rfl, B1.out.alloc (by have := B1.out.size; omega) _⟩
theorem refsize_any (op dst src off imm : Int) (w : World) :
    Calls Try.prog 14 #[.agg #[.int .i64 op, .int .i64 dst, .int .i64 src, .int .i64 off, .int .i64 imm]] w fun e w' => e = .returned (.int .i64 (sizeV op)) ∧ Below w.heap.size w w' := by
  go_enter Try.func14, Try.ntmps14
  go_wp2
  all_goals
    go_ret
    refine ⟨rt_i ?_, (Below.refl _ _).alloc (Nat.le_refl _) _⟩
    go_light
    unfold sizeV
    simp_all
end Go.Proofs.Ytlimhdnpdhjdaaa
