/-
  What the document's cells tell: Live, inside, Load, Drop: contracts. Conditions: 1000 cells at most, of 64 bytes at most, written 300 times at most.
-/
import Derived.Test.YthdgdkjaeebbcaaCellsRef1
namespace Go.Proofs.Ythdgdkjaeebbcaa
set_option maxRecDepth 100000
open Go.RowKit Ow Ph Ro K2
set_option linter.unusedVariables false
set_option linter.unusedSimpArgs false
theorem rlive_c {w0 w : World} {A : Ac} {X : Nat} {L : List Cl} (hl : Lay w0 A w) (h : RS w0 A X L) (hn : L.length ≤ 1000) :
    Calls Try.prog 17 #[.pointer (some ⟨X, 0, none⟩)] w fun e w' => e = .returned (.int .i64 (lv L : Nat)) ∧ w = w' := by
  obtain ⟨v, l, hx⟩ := h
  have hll := hx.len
  obtain ⟨a, cap, rfl, c1, c2, _⟩ := hx.row.form2
  have x0 : w.cell? ⟨X, 0, none⟩ = some (.slice a l.length cap) := (hl.bk hx.head).cell 0
  have HC : Hid (∀ k (hk : k < l.length), ∃ ad, a = some ad ∧ w.cell? ⟨(ad.add (k * 5)).block, (ad.add (k * 5)).off + 3, none⟩ = some (.bool l[k].2.2.gone) ∧ ∃ hk2 : k < L.length, L[k] = l[k].2.2) := Lib.hid (fun k hk => by
    obtain ⟨ad, cap', e, _, _, hc⟩ := hx.get hl k hk
    simp only [Value.slice.injEq] at e
    have q3 := (hc 3 (by omega)).1
    rw [← add_next _ _ _ (by omega)] at q3
    refine ⟨ad, e.1, q3, by omega, ?_⟩
    have := hx.nth k hk
    rw [List.getElem?_eq_getElem (by omega)] at this
    injection this)
  obtain ⟨m, hm⟩ : ∃ m, l.length = m := ⟨_, rfl⟩
  have HM := Lib.hid hm
  have HLL : Hid (L.length = m) := Lib.hid (by omega)
  rw [hm] at x0 c1
  have i3 : (m : Int) ≤ 1000 := by omega
  clear hl hx hll hm hn
  go_enter Try.func17, Try.ntmps17
  go_wp2_with fail
  go_loop [3, 4] (fun s i => ∃ j : Nat, j ≤ m ∧ i = .int .i64 j ∧ s = .int .i64 (lv (L.take j) : Nat)) (fun _ i => m - (intOf i).toNat)
  case atStart => exact ⟨0, Nat.zero_le _, rfl, rfl⟩
  case round =>
    obtain ⟨j, hj, rfl, rfl⟩ := hrel
    by_cases hlt : j < m
    · obtain ⟨ad, rfl, c3, hk2, hgl⟩ := HC.out j (by rw [HM.out]; exact hlt)
      have HS := Lib.hid (List.take_succ_eq_append_getElem hk2)
      have HV : Hid (lv (L.take (j + 1)) = lv (L.take j) + if L[j].gone then 0 else 1) := Lib.hid (by rw [HS.out, lv_app])
      have hle : lv (L.take j) ≤ (L.take j).length := List.countP_le_length
      rw [List.length_take] at hle
      have i1 : (j : Int) < (m : Int) := by omega
      have i4 : (lv (L.take j) : Int) ≤ 1000 := by omega
      rw [← hgl] at c3
      clear hgl HS hle
      generalize L[j].gone = b at *
      clear hk2
      cases b with
      | true =>
        have HV2 : Hid (lv (L.take (j + 1)) = lv (L.take j)) := Lib.hid (by rw [HV.out]; rfl)
        clear HV
        go_wp2
        go_round
        case rel => exact ⟨j + 1, by omega, by go_num, by rw [HV2.out]⟩
        case measure => simp [intOf]; omega
      | false =>
        have HV2 : Hid (lv (L.take (j + 1)) = lv (L.take j) + 1) := Lib.hid (by rw [HV.out]; rfl)
        clear HV
        go_wp2
        go_round
        case rel => exact ⟨j + 1, by omega, by go_num, by rw [HV2.out]; push_cast; rfl⟩
        case measure => simp [intOf]; omega
    · have e : L.take j = L := List.take_of_length_le (by rw [HLL.out]; omega)
      rw [e]
      clear e
      go_wp2
      go_ret
      exact ⟨rfl, rfl⟩
def inC (L : List Cl) (id off size : Int) : Bool := match gt L id with | none => false | some c => insB c.bs.length off size
set_option maxHeartbeats 1000000 in
theorem rinside_c {w0 w : World} {A : Ac} {X n0 : Nat} {L : List Cl} (hl : Lay w0 A w) (h : RS w0 A X L) (ho : OkL n0 L) (hn : L.length ≤ 1000) (id off size : Int) (h1 : -9223372036854775808 ≤ id) (h2 : id ≤ 9223372036854775807) (h3 : -9223372036854775808 ≤ off) (h4 : off ≤ 9223372036854775807) :
    Calls Try.prog 64 #[.pointer (some ⟨X, 0, none⟩), .int .i64 id, .int .i64 off, .int .i64 size] w fun e w' => e = .returned (.bool (inC L id off size)) ∧ w = w' := by
  have CT := there_c hl h hn id h1 h2
  have CS := rsize_c hl h hn id h1 h2
  unfold inC
  unfold szC at CS
  cases hg : gt L id with
  | none =>
    rw [hg] at CT
    clear hl h hg CS
    go_enter Try.func64, Try.ntmps64
    go_wp2_with ((with_reducible refine CT.mono ?_); rintro e w' ⟨rfl, rfl⟩; rw [show (none : Option Cl).isSome = false from rfl])
    go_ret
    exact ⟨rfl, rfl⟩
  | some c =>
    rw [hg] at CT CS
    have hle := (gt_ok ho hg).len
    simp only [Option.map_some, Option.getD_some] at CS
    simp only [Option.isSome_some] at CT
    dsimp only
    clear hl h hg ho h1 h2
    generalize c.bs.length = N at *
    have i9 : (N : Int) ≤ 64 := by omega
    by_cases hs : size = 1 ∨ size = 2 ∨ size = 4 ∨ size = 8
    · by_cases h0 : 0 ≤ off
      · by_cases hN : off ≤ (N : Int)
        · have e : insB N off size = decide (off + size ≤ (N : Int)) := by unfold insB; rw [decide_eq_decide]; omega
          rw [e]
          clear e
          rcases hs with rfl | rfl | rfl | rfl
          all_goals
            go_enter Try.func64, Try.ntmps64
            go_wp2_with (first | ((with_reducible refine CT.mono ?_); rintro e w' ⟨rfl, rfl⟩) | ((with_reducible refine CS.mono ?_); rintro e w' ⟨rfl, rfl⟩))
            go_ret
            exact ⟨rfl, rfl⟩
        · have e : insB N off size = false := by unfold insB; rw [decide_eq_false_iff_not]; omega
          rw [e]
          clear e
          rcases hs with rfl | rfl | rfl | rfl
          all_goals
            go_enter Try.func64, Try.ntmps64
            go_wp2_with (first | ((with_reducible refine CT.mono ?_); rintro e w' ⟨rfl, rfl⟩) | ((with_reducible refine CS.mono ?_); rintro e w' ⟨rfl, rfl⟩))
            go_ret
            exact ⟨rfl, rfl⟩
      · have e : insB N off size = false := by unfold insB; rw [decide_eq_false_iff_not]; omega
        rw [e]
        clear e
        rcases hs with rfl | rfl | rfl | rfl
        all_goals
          go_enter Try.func64, Try.ntmps64
          go_wp2_with (first | ((with_reducible refine CT.mono ?_); rintro e w' ⟨rfl, rfl⟩) | ((with_reducible refine CS.mono ?_); rintro e w' ⟨rfl, rfl⟩))
          go_ret
          exact ⟨rfl, rfl⟩
    · have e : insB N off size = false := by unfold insB; rw [decide_eq_false_iff_not]; omega
      rw [e]
      have e1 : (size == 1) = false := by rw [beq_eq_false_iff_ne]; omega
      have e2 : (size == 2) = false := by rw [beq_eq_false_iff_ne]; omega
      have e3 : (size == 4) = false := by rw [beq_eq_false_iff_ne]; omega
      have e4 : (size == 8) = false := by rw [beq_eq_false_iff_ne]; omega
      clear e hs
      go_enter Try.func64, Try.ntmps64
      go_wp2_with (first | ((with_reducible refine CT.mono ?_); rintro e w' ⟨rfl, rfl⟩) | ((with_reducible refine CS.mono ?_); rintro e w' ⟨rfl, rfl⟩))
      go_ret
      exact ⟨rfl, rfl⟩
end Go.Proofs.Ythdgdkjaeebbcaa
