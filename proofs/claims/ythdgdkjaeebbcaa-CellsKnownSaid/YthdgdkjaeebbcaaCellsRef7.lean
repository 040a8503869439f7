/-
  What the document's cells do: Store: contract. Conditions: 1000 cells at most, of 64 bytes at most, written 300 times at most.
-/
import Derived.Test.YthdgdkjaeebbcaaCellsRef6
namespace Go.Proofs.Ythdgdkjaeebbcaa
set_option maxRecDepth 100000
open Go.RowKit Ow Ph Ro K2
set_option linter.unusedVariables false
set_option linter.unusedSimpArgs false
/-- A byte of a cell is another one. -/
theorem rbyte_c {w0 w : World} {A : Ac} {X : Nat} {L : List Cl} (hl : Lay w0 A w) (h : RS w0 A X L) {k : Nat} {c : Cl} (hk : L[k]? = some c) (p : Nat) (hp : p < c.bs.length) (u : Int) :
    ∃ (ad : Addr) (n cap : Nat) (a2 : Addr) (cap2 : Nat), k < n ∧ n = L.length ∧ n ≤ cap ∧ cap ≤ maxLen ∧ c.bs.length ≤ cap2 ∧ w.cell? ⟨X, 0, none⟩ = some (.slice (some ad) n cap) ∧ w.cell? (ad.add (k * 5)) = some (.slice (some a2) c.bs.length cap2) ∧
      (∃ y, w.cell? (a2.add p) = some y) ∧ w.frozen? (a2.add p) = false ∧ RDid w0 A X (L.set k { c with bs := c.bs.set p u }) (w.setCell (a2.add p) (.int .u8 u)) := by
  obtain ⟨v, l, hx⟩ := h
  have hll := hx.len
  have h8 := (List.getElem?_eq_some_iff.1 hk).1
  have hkl : k < l.length := by omega
  have hnth := hx.nth k hkl
  rw [hk] at hnth
  injection hnth with hnth
  obtain ⟨ad, cap, hv, c1, c2, hc⟩ := hx.get hl k hkl
  have hat := hx.at_ k _ (List.getElem?_eq_getElem hkl)
  rcases hr : l[k] with ⟨s, b, c'⟩
  rw [hr] at hc hnth hat
  dsimp only at hnth
  subst hnth
  obtain ⟨a2, cap2, hs, d1, _, d3⟩ := hat.row.form2
  dsimp only at hs d1
  subst hs
  cases a2 with
  | none => have := (d3 rfl).1; dsimp only at this; omega
  | some a2 =>
    have hrow := hat.row
    dsimp only at hrow
    have ho := own_at (hrow.own hl) p hp
    obtain ⟨A', p1, p2, p3⟩ := hrow.put hl p (.int .u8 u)
    rw [bv_set] at p2
    have hch := hx.changed (A' := A') (t' := (.slice (some a2) c.bs.length cap2, b, { c with bs := c.bs.set p u })) hkl ((p3 _ (by simp)).trans hx.head)
      (by rw [List.length_set]
          have e : rflat (l.set k (.slice (some a2) c.bs.length cap2, b, { c with bs := c.bs.set p u })) = rflat l := by
            rw [← rflat_set l k 0 hkl (by omega) (.slice (some a2) c.bs.length cap2) _ (by rw [hr]; rfl)]
            refine List.ext_getElem? fun i => ?_
            rw [List.getElem?_set]
            split
            · rename_i e2
              subst e2
              rw [rflat_get l k 0 hkl (by omega), hr]
              split
              · rfl
              · rename_i e3; rw [rflat_len] at e3; omega
            · rfl
          rw [e]
          exact hx.row.keep (p3 _ (by simp)))
      ⟨by dsimp only; rw [List.length_set]; exact p2, by obtain ⟨a, m, e1, e2, e3⟩ := hat.beat; exact ⟨a, m, e1, e2.keep (p3 _ (by simp)), e3⟩⟩
      (fun x _ _ _ _ h12 _ => p3 x h12)
    refine ⟨ad, l.length, cap, a2, cap2, hkl, hll, c1, c2, d1, by rw [← hv]; exact (hl.bk hx.head).cell 0, (hc 0 (by omega)).1, ?_, ho.2, A', p1, ⟨v, _, hch⟩, fun x hx2 => p3 x (ne20 hx2 (by simp))⟩
    rw [ho.1, bv_get _ _ hp]
    exact ⟨_, rfl⟩
theorem gt_at {L : List Cl} {k : Nat} {c : Cl} (hk : L[k]? = some c) (hs : c.swept = false) : gt L ((k : Int) + 1) = some c := gt_mk hk hs
set_option maxHeartbeats 2000000 in
theorem rstore_c {w0 w : World} {A : Ac} {X n0 : Nat} {L : List Cl} (hl : Lay w0 A w) (h : RS w0 A X L) (ho : OkL n0 L) (hn0 : n0 ≤ 300) (hn : L.length ≤ 1000) (id off size V now : Int) (h1 : -9223372036854775808 ≤ id) (h2 : id ≤ 9223372036854775807) (h3 : -9223372036854775808 ≤ off) (h4 : off ≤ 9223372036854775807)
    (hv : 0 ≤ V) (hv2 : V ≤ 18446744073709551615) (hnow : i64 now) :
    Calls Try.prog 44 #[.pointer (some ⟨X, 0, none⟩), .int .i64 id, .int .i64 off, .int .i64 size, .int .u64 V, .int .i64 now] w (RBoolP w0 A X (stC L id off size V now)) := by
  have CI := rinside_c hl h ho hn id off size h1 h2 h3 h4
  have HS := Lib.hid (RDid.same hl h)
  cases hin : inC L id off size with
  | false =>
    have e : stC L id off size V now = (false, L) := by
      unfold inC at hin
      unfold stC
      cases hg : gt L id with
      | none => rfl
      | some c => rw [hg] at hin; dsimp only at hin; simp [hin]
    rw [e]
    rw [hin] at CI
    clear hl h hin e h1 h3 ho
    go_enter Try.func44, Try.ntmps44
    go_wp2_with ((with_reducible refine CI.mono ?_); rintro e w' ⟨rfl, rfl⟩)
    go_ret
    exact ⟨rfl, HS.out⟩
  | true =>
    rw [hin] at CI
    unfold inC at hin
    cases hg : gt L id with
    | none => rw [hg] at hin; cases hin
    | some c =>
      rw [hg] at hin
      dsimp only at hin
      have e : stC L id off size V now = (true, L.set (id.toNat - 1) { c with bs := putL c.bs off.toNat V size.toNat, ts := c.ts ++ [now] }) := by unfold stC; rw [hg]; simp [hin]
      rw [e]
      clear e
      obtain ⟨hs, g1, g2⟩ := insB_true hin
      obtain ⟨o, rfl⟩ := Int.eq_ofNat_of_zero_le g1
      obtain ⟨z, rfl⟩ := Int.eq_ofNat_of_zero_le (show 0 ≤ size by omega)
      rw [Int.toNat_natCast, Int.toNat_natCast]
      obtain ⟨k, rfl, hkL, hk, hsw⟩ := gt_yes hg
      have hok := gt_ok ho hg
      have hle := hok.len
      have hoft := hok.often
      have e0 : ((k : Int) + 1).toNat - 1 = k := by omega
      rw [e0]
      clear e0
      have HSJ : Hid (∀ j, (L.set k { c with bs := putL c.bs o V j })[k]? = some { c with bs := putL c.bs o V j }) := Lib.hid (fun j => by simp [hkL])
      have H0 : Hid (RDid w0 A X (L.set k { c with bs := putL c.bs o V 0 }) w) := Lib.hid (by
        have e : L.set k { c with bs := putL c.bs o V 0 } = L := by
          refine List.ext_getElem? fun i => ?_
          rw [List.getElem?_set]
          by_cases e : k = i
          · subst e; rw [if_pos rfl, if_pos hkL, hk]; rfl
          · rw [if_neg e]
        rw [e]; exact HS.out)
      obtain ⟨N, hN⟩ : ∃ N, c.bs.length = N := ⟨_, rfl⟩
      have HN := Lib.hid hN
      rw [hN] at hle g2
      have HG : Hid (∀ j, gt (L.set k { c with bs := putL c.bs o V j }) ((k : Int) + 1) = some { c with bs := putL c.bs o V j }) := Lib.hid (fun j => gt_at (HSJ.out j) hsw)
      obtain ⟨m, hm⟩ : ∃ m, L.length = m := ⟨_, rfl⟩
      have HM := Lib.hid hm
      rw [hm] at hn hkL
      have i1 : (k : Int) < (m : Int) := by omega
      have i0 : (0 : Int) ≤ (k : Int) := by omega
      have i5 : (m : Int) ≤ 1000 := by omega
      have i6 : (o : Int) ≤ 64 := by omega
      have i7 : (z : Int) ≤ 8 := by omega
      have z8 : z ≤ 8 := by omega
      have iA : (0 : Int) ≤ (o : Int) := by omega
      have iB : (0 : Int) ≤ (z : Int) := by omega
      have hoN : o + z ≤ N := by omega
      have HOFT : Hid (c.ts.length ≤ 300) := Lib.hid (by omega)
      have HNOW := Lib.hid hnow
      clear hl h hg ho hok hin h1 h2 h3 h4 hN hs hm hk hoft HS hnow
      go_enter Try.func44, Try.ntmps44
      go_wp2_with ((with_reducible refine CI.mono ?_); rintro e w' ⟨rfl, rfl⟩)
      clear CI
      go_loopw [4, 13] (fun v i wr => ∃ j : Nat, j ≤ z ∧ i = .int .i64 ((o + j : Nat) : Int) ∧ v = .int .u64 (V / 256 ^ j) ∧ Hid (RDid w0 A X (L.set k { c with bs := putL c.bs o V j }) wr)) (fun _ i _ => (o + z) - (intOf i).toNat)
      case atStart => exact ⟨0, Nat.zero_le _, rfl, by simp, H0⟩
      case round =>
        clear H0
        obtain ⟨j, hj, rfl, rfl, HH⟩ := hrel
        by_cases hlt : j < z
        · obtain ⟨A2, hl2, hs2, hf2⟩ := HH.out
          obtain ⟨ad, n, cap, a2, cap2, k1, k2, k3, k4, k5, x0, q0, hy, hf, hd⟩ := rbyte_c hl2 hs2 (HSJ.out j) (o + j) (by dsimp only; rw [putL_len, HN.out]; omega) (V / 256 ^ j % 256)
          dsimp only at hd q0 k5
          rw [putL_len, HN.out] at q0 k5
          rw [List.length_set, HM.out] at k2
          subst k2
          rw [List.set_set] at hd
          have HD : Hid (RDid w0 A X (L.set k { c with bs := putL c.bs o V (j + 1) }) (wr.setCell (a2.add (o + j)) (.int .u8 (V / 256 ^ j % 256)))) := Lib.hid (hd.trans hf2)
          obtain ⟨y, hy⟩ := hy
          have q1 : 0 ≤ V / 256 ^ j := Int.ediv_nonneg hv (Int.le_of_lt (Int.pow_pos (by decide)))
          have q2 : V / 256 ^ j ≤ 18446744073709551615 := Int.le_trans (Int.ediv_le_self _ hv) hv2
          have HQ : Hid (V / 256 ^ (j + 1) = V / 256 ^ j / 256) := Lib.hid (by rw [Int.pow_succ, Int.ediv_ediv_of_nonneg (Int.le_of_lt (Int.pow_pos (by decide)))])
          have hwu : IntKind.u8.wrap (V / 256 ^ j % 256) = V / 256 ^ j % 256 := by rw [IntKind.wrap_u8]; omega
          clear hl2 hs2 hf2 hd HH
          generalize V / 256 ^ j = q at *
          obtain ⟨p, hp⟩ : ∃ p, o + j = p := ⟨_, rfl⟩
          have p1 : (p : Int) < (o : Int) + (z : Int) := by omega
          have p2 : (p : Int) < (N : Int) := by omega
          have p3 : (0 : Int) ≤ (p : Int) := by omega
          have HP := Lib.hid hp
          rw [hp] at hy hf HD ⊢
          clear hp
          go_wp2
          generalize (wr.setCell (a2.add p) (.int .u8 (q % 256))) = z9 at *
          go_roundw
          case rel => exact ⟨j + 1, by omega, by rw [← Nat.add_assoc, HP.out]; go_num, by rw [HQ.out], HD⟩
          case measure => simp [intOf]; have := HP.out; omega
        · obtain rfl : j = z := by omega
          obtain ⟨A2, hl2, hs2, hf2⟩ := HH.out
          have CW := rwritten_c hl2 hs2 (by rw [List.length_set, HM.out]; exact hn) ((k : Int) + 1) now (HG.out j) HOFT.out HNOW.out
          dsimp only at CW
          have e0 : ((k : Int) + 1).toNat - 1 = k := by omega
          rw [e0, List.set_set] at CW
          have HF2 := Lib.hid hf2
          obtain ⟨LL, hLL⟩ : ∃ LL, LL = L.set k { c with bs := putL c.bs o V j, ts := c.ts ++ [now] } := ⟨_, rfl⟩
          have CW2 : Calls Try.prog 65 #[.pointer (some ⟨X, 0, none⟩), .int .i64 ((k : Int) + 1), .int .i64 now] wr (RUnitP w0 A2 X LL) := by rw [hLL]; exact CW
          have HLL := Lib.hid hLL
          clear hl2 hs2 hf2 HH e0 hLL CW
          go_wp2_with fail
          with_reducible refine CW2.mono ?_
          rintro e w9 ⟨rfl, hd⟩
          have HD := Lib.hid (hd.trans HF2.out)
          clear hd CW2
          go_wp2
          go_ret
          exact ⟨rfl, by have := HD.out; rw [HLL.out] at this; exact this⟩
end Go.Proofs.Ythdgdkjaeebbcaa
