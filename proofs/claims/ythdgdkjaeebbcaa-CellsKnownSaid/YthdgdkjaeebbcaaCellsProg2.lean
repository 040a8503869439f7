/-
  What the program's cells tell: Load, Steady: contracts. Conditions: cells of 64 bytes at most, written 300 times at most.
-/
import Derived.Test.YthdgdkjaeebbcaaCellsProg
import Derived.Test.YthdgdkjaeebbcaaCellsMath
import Derived.WalkMore
import Derived.IntWalk
namespace Go.Proofs.Ythdgdkjaeebbcaa
set_option maxRecDepth 100000
open Go.RowKit Ow Ph Ro K2
set_option linter.unusedVariables false
set_option linter.unusedSimpArgs false
attribute [local go_sem] run_store_complex
def ldC (L : List Cl) (id off size : Int) : Option Int := (gt L id).bind fun c => if insB c.bs.length off size then some (leV ((c.bs.drop off.toNat).take size.toNat)) else none
def ldV : Option Int → Value
  | none => .tuple #[.int .u64 0, .bool false]
  | some v => .tuple #[.int .u64 v, .bool true]
theorem load_any {w0 w : World} {A : Ac} {P n : Nat} {L : List Cl} (hl : Lay w0 A w) (h : PS A P L) (ho : OkL n L) (id off size : Int) :
    Calls Try.prog 26 #[.pointer (some ⟨P, 0, none⟩), .int .i64 id, .int .i64 off, .int .i64 size] w fun e w' => e = .returned (ldV (ldC L id off size)) ∧ w = w' := by
  unfold ldC
  cases hg : gt L id with
  | none =>
    obtain ⟨m, hc, hr⟩ := h.look_none hl hg (zero_ptr w)
    clear hl h hg
    go_enter Try.func26, Try.ntmps26
    go_wp2
    go_ret2
    exact ⟨rfl, rfl⟩
  | some c =>
    obtain ⟨m, q, s, hc, hr, hat⟩ := h.look_some hl hg
    have hok := gt_ok ho hg
    have hle := hok.len
    obtain ⟨a, cap, rfl, h1, h2, h3⟩ := hat.row.form2
    have k0 : w.cell? ⟨q, 0, none⟩ = some (.slice a c.bs.length cap) := (hl.bk hat.blk).cell 0
    have C := inside_any q c.bs.length cap a off size hle k0
    have HX := Lib.hid ((hat.row.reads (w0 := w0)).rd hl)
    have HB := Lib.hid hok.bytes
    clear hl h hg hat ho hok
    simp only [Option.bind_some]
    generalize c.bs = bs at *
    cases hi : insB bs.length off size with
    | false =>
      rw [hi] at C
      simp only [Bool.false_eq_true, if_false]
      clear hi h1 h2 h3 HX HB
      go_enter Try.func26, Try.ntmps26
      go_wp2_with (with_reducible refine C.mono ?_; rintro e w' ⟨rfl, rfl⟩)
      go_ret2
      exact ⟨rfl, rfl⟩
    | true =>
      rw [hi] at C
      simp only [if_true]
      obtain ⟨hs, g1, g2⟩ := insB_true hi
      obtain ⟨o, rfl⟩ := Int.eq_ofNat_of_zero_le g1
      obtain ⟨k, rfl⟩ := Int.eq_ofNat_of_zero_le (show 0 ≤ size by omega)
      rw [Int.toNat_natCast, Int.toNat_natCast]
      have HL : ∃ l, l = (bs.drop o).take k := ⟨_, rfl⟩
      obtain ⟨l, hl⟩ := HL
      rw [← hl]
      have hlen : l.length = k := by rw [hl, List.length_take, List.length_drop]; omega
      obtain ⟨ad, rfl, hb, hcx⟩ := HX.out (by rw [bv_len]; omega)
      have hcy : ∀ j u, (bv l)[j]? = some u → w.cell? ((ad.add o).add j) = some u := by
        intro j u hu
        rw [add_twice]
        refine hcx (o + j) u ?_
        rw [← hu, hl]
        unfold bv
        rw [List.getElem?_map, List.getElem?_map, List.getElem?_take, if_pos, List.getElem?_drop]
        have := (List.getElem?_eq_some_iff.1 hu).1
        rw [bv_len] at this
        omega
      have HC := Lib.hid hcy
      have HB2 : Hid (∀ b ∈ l, 0 ≤ b ∧ b ≤ 255) := Lib.hid fun b hb => HB.out b (by rw [hl] at hb; exact List.mem_of_mem_drop (List.mem_of_mem_take hb))
      have HLEN := Lib.hid hlen
      have k8 : k ≤ 8 := by omega
      have k1 : 1 ≤ k := by omega
      have hcap : ¬ cap = o := by omega
      have b1 : o + k ≤ bs.length := by omega
      have b2 : bs.length ≤ cap := h1
      generalize bs.length = n at *
      clear HX HB hcx hcy hb hi hs g1 hl hlen h3 
      go_enter Try.func26, Try.ntmps26
      go_wp2_with (with_reducible refine C.mono ?_; rintro e w' ⟨rfl, rfl⟩)
      go_loop [12, 43] (fun v i => ∃ j : Nat, j ≤ k ∧ i = .int .i64 j ∧ v = .int .u64 (leV (l.take j))) (fun _ i => k - (intOf i).toNat)
      case atStart => exact ⟨0, Nat.zero_le _, rfl, rfl⟩
      case round =>
        obtain ⟨j, hj, rfl, rfl⟩ := hrel
        by_cases hlt : j < k
        · have hjl : j < l.length := by rw [HLEN.out]; exact hlt
          have cx := HC.out j _ (bv_get l j hjl)
          have HT := Lib.hid (List.take_succ_eq_append_getElem hjl)
          have hb := HB2.out _ (List.getElem_mem hjl)
          have hb1 := hb.1
          have hb2 := hb.2
          have HV : Hid (0 ≤ leV (l.take j) ∧ leV (l.take j) < 256 ^ j) := Lib.hid (by
            have := leV_bd (l.take j) fun b hb => HB2.out b (List.mem_of_mem_take hb)
            rwa [List.length_take, Nat.min_eq_left (by omega)] at this)
          have HS : Hid (leV (l.take (j + 1)) = leV (l.take j) + 256 ^ j * l[j]) := Lib.hid (by rw [HT.out, leV_snoc, List.length_take, Nat.min_eq_left (by omega)])
          generalize l[j] = b at *
          generalize leV (l.take j) = v at *
          clear hb hjl HT
          have hj8 : j < 8 := by omega
          go_wp2
          go_round
          case rel => exact ⟨j + 1, by omega, by go_num, by rw [HS.out, or_step2 j hj8 v b HV.out ⟨hb1, hb2⟩]⟩
          case measure => simp [intOf]; omega
        · have e : l.take j = l := List.take_of_length_le (by rw [HLEN.out]; omega)
          rw [e]
          clear e
          go_wp2
          go_ret2
          exact ⟨rfl, rfl⟩
def stV (L : List Cl) (id now : Int) : Bool := ((gt L id).map fun c => stB (bts c.ts) now).getD false
theorem steady_c {w0 w : World} {A : Ac} {P n : Nat} {L : List Cl} (hl : Lay w0 A w) (h : PS A P L) (ho : OkL n L) (hn : n ≤ 300) (id now : Int) (hnow : i64 now) :
    Calls Try.prog 51 #[.pointer (some ⟨P, 0, none⟩), .int .i64 id, .int .i64 now] w fun e w' => e = .returned (.bool (stV L id now)) ∧ Below w.heap.size w w' := by
  unfold stV
  cases hg : gt L id with
  | none =>
    obtain ⟨m, hc, hr⟩ := h.look_none hl hg (zero_ptr w)
    clear hl h hg
    go_enter Try.func51, Try.ntmps51
    go_wp2
    go_ret
    exact ⟨rfl, Below.refl _ _⟩
  | some c =>
    obtain ⟨m, q, s, hc, hr, hat⟩ := h.look_some hl hg
    have hok := gt_ok ho hg
    have k1 : w.cell? ⟨q, 1, none⟩ = some (.complex .f64 (fl (bts c.ts).x) (fl (bts c.ts).y)) := (hl.bk hat.blk).cell 1
    have k2 : w.cell? ⟨q, 2, none⟩ = some (.int .i64 (bts c.ts).n) := (hl.bk hat.blk).cell 2
    have k3 : w.cell? ⟨q, 3, none⟩ = some (.int .i64 (bts c.ts).t) := (hl.bk hat.blk).cell 3
    have hb := bts_ok c.ts
    have hlen := hb.len
    have hsw := hb.sw
    have hofs := hok.often
    have C := fun w => steady_any (bts c.ts) now (by omega) (by unfold swB; omega) (by omega) (bts_t_i64 c.ts hok.times) hnow w
    unfold Bt.val at C
    simp only [Option.map_some, Option.getD_some]
    clear hl h hg hat hb hlen hsw hofs hok ho
    generalize stB (bts c.ts) now = r at *
    generalize bts c.ts = b at *
    go_enter Try.func51, Try.ntmps51
    go_wp2_with fail
    with_reducible refine (C _).mono ?_
    rintro e w' ⟨rfl, q1⟩
    go_wp2
    go_ret
    exact ⟨rfl, q1⟩
end Go.Proofs.Ythdgdkjaeebbcaa
