/-
  What the document's cells tell: Load, Drop: contracts. Conditions: 1000 cells at most, of 64 bytes at most, written 300 times at most.
-/
import Derived.Test.YthdgdkjaeebbcaaCellsRef2
namespace Go.Proofs.Ythdgdkjaeebbcaa
set_option maxRecDepth 100000
open Go.RowKit Ow Ph Ro K2
set_option linter.unusedVariables false
set_option linter.unusedSimpArgs false
theorem leV_drop (l : List Int) (j : Nat) (hj : j < l.length) : leV (l.drop j) = l[j] + 256 * leV (l.drop (j + 1)) := by
  rw [List.drop_eq_getElem_cons hj, leV_cons]
theorem leV_top (l : List Int) (j : Nat) (h : ∀ b ∈ l, 0 ≤ b ∧ b ≤ 255) (hl : l.length ≤ 8) (hj : 1 ≤ j) : 0 ≤ leV (l.drop j) ∧ leV (l.drop j) ≤ 72057594037927935 := by
  have h1 := leV_bd (l.drop j) fun b hb => h b (List.mem_of_mem_drop hb)
  rw [List.length_drop] at h1
  have h2 : (256 : Int) ^ (l.length - j) ≤ 72057594037927936 := by
    rcases (by omega : l.length - j = 0 ∨ l.length - j = 1 ∨ l.length - j = 2 ∨ l.length - j = 3 ∨ l.length - j = 4 ∨ l.length - j = 5 ∨ l.length - j = 6 ∨ l.length - j = 7) with e | e | e | e | e | e | e | e <;> rw [e] <;> decide
  omega
set_option maxHeartbeats 1000000 in
theorem rload_c {w0 w : World} {A : Ac} {X n0 : Nat} {L : List Cl} (hl : Lay w0 A w) (h : RS w0 A X L) (ho : OkL n0 L) (hn : L.length ≤ 1000) (id off size : Int) (h1 : -9223372036854775808 ≤ id) (h2 : id ≤ 9223372036854775807) (h3 : -9223372036854775808 ≤ off) (h4 : off ≤ 9223372036854775807) :
    Calls Try.prog 43 #[.pointer (some ⟨X, 0, none⟩), .int .i64 id, .int .i64 off, .int .i64 size] w fun e w' => e = .returned (ldV (ldC L id off size)) ∧ w = w' := by
  have CI := rinside_c hl h ho hn id off size h1 h2 h3 h4
  cases hin : inC L id off size with
  | false =>
    have e : ldC L id off size = none := by
      unfold inC at hin
      unfold ldC
      cases hg : gt L id with
      | none => rfl
      | some c => rw [hg] at hin; dsimp only at hin; simp [hin]
    rw [e]
    rw [hin] at CI
    clear hl h hin e h1 h3
    go_enter Try.func43, Try.ntmps43
    go_wp2_with ((with_reducible refine CI.mono ?_); rintro e w' ⟨rfl, rfl⟩)
    go_ret2
    exact ⟨rfl, rfl⟩
  | true =>
    rw [hin] at CI
    unfold inC at hin
    cases hg : gt L id with
    | none => rw [hg] at hin; cases hin
    | some c =>
      rw [hg] at hin
      dsimp only at hin
      have e : ldC L id off size = some (leV ((c.bs.drop off.toNat).take size.toNat)) := by unfold ldC; rw [hg]; simp [hin]
      rw [e]
      clear e
      obtain ⟨hs, g1, g2⟩ := insB_true hin
      obtain ⟨o, rfl⟩ := Int.eq_ofNat_of_zero_le g1
      obtain ⟨z, rfl⟩ := Int.eq_ofNat_of_zero_le (show 0 ≤ size by omega)
      rw [Int.toNat_natCast, Int.toNat_natCast]
      obtain ⟨k, ad, n, cap, s, b, rfl, k1, k2, k3, k4, x0, hat, q0, q1, q2, q3, q4⟩ := h.look hl hg
      have hok := gt_ok ho hg
      have hle := hok.len
      obtain ⟨a, cap2, e, c1, c2, c3⟩ := hat.row.form2
      dsimp only at e c1
      subst e
      have HX := Lib.hid ((hat.row.reads (w0 := w0)).rd hl)
      have HBY := Lib.hid hok.bytes
      obtain ⟨l, hll⟩ : ∃ l, l = (c.bs.drop o).take z := ⟨_, rfl⟩
      rw [← hll]
      have HLL := Lib.hid hll
      have HLEN : Hid (l.length = z) := Lib.hid (by rw [hll, List.length_take, List.length_drop]; omega)
      have HBL : Hid (∀ b ∈ l, 0 ≤ b ∧ b ≤ 255) := Lib.hid fun b hb => hok.bytes b (by rw [hll] at hb; exact List.mem_of_mem_drop (List.mem_of_mem_take hb))
      obtain ⟨N, hN⟩ : ∃ N, c.bs.length = N := ⟨_, rfl⟩
      have HN := Lib.hid hN
      rw [hN] at hle g2 c1 c3 q0
      have i1 : (k : Int) < (n : Int) := by omega
      have i0 : (0 : Int) ≤ (k : Int) := by omega
      have i5 : (n : Int) ≤ 1000 := by omega
      have i6 : (o : Int) ≤ 64 := by omega
      have i7 : (z : Int) ≤ 8 := by omega
      have i8 : (1 : Int) ≤ (z : Int) := by omega
      have z8 : z ≤ 8 := by omega
      obtain ⟨ad2, rfl, _, hcx⟩ := HX.out (by show 0 < (bv c.bs).length; rw [bv_len]; omega)
      have HCX := Lib.hid hcx
      clear hl h hg hat ho hok hin k2 h1 h2 h3 h4 hll hN hs hcx c3
      go_enter Try.func43, Try.ntmps43
      go_wp2_with ((with_reducible refine CI.mono ?_); rintro e w' ⟨rfl, rfl⟩)
      go_loop [10, 11] (fun v i => ∃ j : Nat, j ≤ z ∧ i = .int .i64 ((o : Int) + (j : Int) - 1) ∧ v = .int .u64 (leV (l.drop j))) (fun _ i => (intOf i + 1).toNat)
      case atStart => exact ⟨z, Nat.le_refl _, rfl, by rw [List.drop_of_length_le (by rw [HLEN.out]; omega)]; rfl⟩
      case round =>
        obtain ⟨j, hj, rfl, rfl⟩ := hrel
        cases j with
        | zero =>
          have e : ((o : Int) + ((0 : Nat) : Int) - 1) = (o : Int) - 1 := by omega
          rw [e]
          clear e
          rw [List.drop_zero]
          have i9 : (o : Int) - 1 < (o : Int) := by omega
          have iA : (0 : Int) ≤ (o : Int) := by omega
          go_wp2
          go_ret2
          exact ⟨rfl, rfl⟩
        | succ j =>
          have e : ((o : Int) + ((j + 1 : Nat) : Int) - 1) = ((o + j : Nat) : Int) := by push_cast; omega
          rw [e]
          clear e
          have hjl : j < l.length := by rw [HLEN.out]; omega
          have hpb : o + j < c.bs.length := by rw [HN.out]; omega
          have hcb := HCX.out (o + j) _ (bv_get c.bs (o + j) hpb)
          have hlj : l[j] = c.bs[o + j] := by
            have h5 : l[j]? = c.bs[o + j]? := by rw [HLL.out, List.getElem?_take, if_pos (by omega), List.getElem?_drop]
            rw [List.getElem?_eq_getElem hjl, List.getElem?_eq_getElem hpb] at h5
            injection h5
          have HS := Lib.hid (leV_drop l j hjl)
          have hbb := HBL.out _ (List.getElem_mem hjl)
          have htop := leV_top l (j + 1) HBL.out (by rw [HLEN.out]; exact z8) (by omega)
          rw [← hlj] at hcb
          clear hlj
          generalize l[j] = y at *
          generalize leV (l.drop (j + 1)) = V at *
          obtain ⟨v1, v2⟩ := htop
          obtain ⟨y1, y2⟩ := hbb
          clear hjl
          obtain ⟨p, hp⟩ : ∃ p, o + j = p := ⟨_, rfl⟩
          have hpo : (o : Int) ≤ (p : Int) := by omega
          have hpN : (p : Int) < (N : Int) := by have := HN.out; omega
          have hpe : (p : Int) - 1 = (o : Int) + (j : Int) - 1 := by omega
          rw [hp] at hcb hpb ⊢
          have HPE := Lib.hid hpe
          have HP := Lib.hid hp
          clear hpb hpe hp
          go_wp2
          go_round
          case rel => exact ⟨j, by omega, by rw [HPE.out], by rw [HS.out]; (try congr 1); try omega⟩
          case measure => simp [intOf]; try omega
end Go.Proofs.Ythdgdkjaeebbcaa
