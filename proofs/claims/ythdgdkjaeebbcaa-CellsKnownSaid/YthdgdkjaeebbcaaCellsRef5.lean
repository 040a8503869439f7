/-
  What the document's cells do: Sweep: contract. Conditions: 1000 cells at most.
-/
import Derived.Test.YthdgdkjaeebbcaaCellsRef4
namespace Go.Proofs.Ythdgdkjaeebbcaa
set_option maxRecDepth 100000
open Go.RowKit Ow Ph Ro K2
set_option linter.unusedVariables false
set_option linter.unusedSimpArgs false
/-- What lies at a place of the list. -/
theorem RS.place {w0 w : World} {A : Ac} {X : Nat} {L : List Cl} (h : RS w0 A X L) (hl : Lay w0 A w) {k : Nat} {c : Cl} (hk : L[k]? = some c) :
    ∃ (ad : Addr) (n cap : Nat), n = L.length ∧ n ≤ cap ∧ cap ≤ maxLen ∧ w.cell? ⟨X, 0, none⟩ = some (.slice (some ad) n cap) ∧
      w.cell? ⟨(ad.add (k * 5)).block, (ad.add (k * 5)).off + 3, none⟩ = some (.bool c.gone) ∧ w.cell? ⟨(ad.add (k * 5)).block, (ad.add (k * 5)).off + 4, none⟩ = some (.bool c.swept) := by
  obtain ⟨v, l, hx⟩ := h
  have hll := hx.len
  have h8 := (List.getElem?_eq_some_iff.1 hk).1
  have hkl : k < l.length := by omega
  have hnth := hx.nth k hkl
  rw [hk] at hnth
  injection hnth with hnth
  obtain ⟨ad, cap, rfl, c1, c2, hc⟩ := hx.get hl k hkl
  rcases hr : l[k] with ⟨s, b, c'⟩
  rw [hr] at hc hnth
  dsimp only at hnth
  subst hnth
  have q3 := (hc 3 (by omega)).1
  have q4 := (hc 4 (by omega)).1
  rw [← add_next _ _ _ (by omega)] at q3 q4
  exact ⟨ad, l.length, cap, hll, c1, c2, (hl.bk hx.head).cell 0, q3, q4⟩
theorem RS.size {w0 w : World} {A : Ac} {X : Nat} {L : List Cl} (h : RS w0 A X L) (hl : Lay w0 A w) : ∃ a cap, w.cell? ⟨X, 0, none⟩ = some (.slice a L.length cap) ∧ L.length ≤ cap ∧ cap ≤ maxLen := by
  obtain ⟨v, l, hx⟩ := h
  obtain ⟨a, cap, rfl, c1, c2, _⟩ := hx.row.form2
  have hll := hx.len
  rw [hll] at c1
  exact ⟨a, cap, by rw [← hll]; exact (hl.bk hx.head).cell 0, c1, c2⟩
def swOne (c : Cl) : Cl := if c.gone then { c with swept := true } else c
def swJ (L : List Cl) (j : Nat) : List Cl := swL (L.take j) ++ L.drop j
theorem swJ_len (L : List Cl) (j : Nat) : (swJ L j).length = L.length := by unfold swJ swL; simp; omega
theorem swJ_at (L : List Cl) (j : Nat) (hj : j < L.length) : (swJ L j)[j]? = some L[j] := by
  unfold swJ swL
  rw [List.getElem?_append_right (by simp; omega), List.getElem?_drop]
  simp [Nat.min_eq_left (Nat.le_of_lt hj), hj]
theorem swJ_next (L : List Cl) (j : Nat) (hj : j < L.length) : swJ L (j + 1) = (swJ L j).set j (swOne L[j]) := by
  unfold swJ swL swOne
  refine List.ext_getElem? fun i => ?_
  rw [List.getElem?_set]
  by_cases h1 : j = i
  · subst h1
    rw [if_pos rfl, if_pos (by simp; omega), List.getElem?_append_left (by simp; omega), List.getElem?_map, List.getElem?_take, if_pos (by omega), List.getElem?_eq_getElem hj]
    rfl
  · rw [if_neg h1]
    by_cases h2 : i < j
    · rw [List.getElem?_append_left (by simp; omega), List.getElem?_append_left (by simp; omega), List.getElem?_map, List.getElem?_map, List.getElem?_take, List.getElem?_take, if_pos (by omega), if_pos h2]
    · rw [List.getElem?_append_right (by simp; omega), List.getElem?_append_right (by simp; omega), List.getElem?_drop, List.getElem?_drop]
      congr 1
      simp
      omega
def cg (L : List Cl) : Nat := L.countP (fun c => c.gone && !c.swept)
theorem cg_next (L : List Cl) (j : Nat) (hj : j < L.length) : cg (L.take (j + 1)) = cg (L.take j) + if L[j].gone && !L[j].swept then 1 else 0 := by
  unfold cg
  rw [List.take_succ_eq_append_getElem hj, List.countP_append, List.countP_singleton]
def RIntP (w0 : World) (A : Ac) (X : Nat) (n : Int) (L : List Cl) (e : Ending) (w' : World) : Prop := e = .returned (.int .i64 n) ∧ RDid w0 A X L w'
theorem RDid.trans {w0 w : World} {A A' : Ac} {X : Nat} {L : List Cl} (h : RDid w0 A' X L w) (hf : Fr2 A A') : RDid w0 A X L w := by
  obtain ⟨B, h1, h2, h3⟩ := h
  exact ⟨B, h1, h2, fun x hx => (h3 x hx).trans (hf x hx)⟩
set_option maxHeartbeats 1000000 in
theorem rsweep_c {w0 w : World} {A : Ac} {X : Nat} {L : List Cl} (hl : Lay w0 A w) (h : RS w0 A X L) (hn : L.length ≤ 1000) :
    Calls Try.prog 47 #[.pointer (some ⟨X, 0, none⟩)] w (RIntP w0 A X (nG L : Nat) (swL L)) := by
  have e00 : swJ L 0 = L := by unfold swJ swL; simp
  have H0 : Hid (RDid w0 A X (swJ L 0) w) := Lib.hid (by rw [e00]; exact RDid.same hl h)
  clear e00
  have HEND : Hid (swJ L L.length = swL L) := Lib.hid (by unfold swJ; simp)
  have HNG : Hid (nG L = cg L) := Lib.hid (nG_eq L)
  obtain ⟨m, hm⟩ : ∃ m, L.length = m := ⟨_, rfl⟩
  have HM := Lib.hid hm
  have i3 : (m : Int) ≤ 1000 := by omega
  clear hl h hn hm
  go_enter Try.func47, Try.ntmps47
  go_wp2_with fail
  go_loopw [3, 4] (fun s i wr => ∃ j : Nat, j ≤ m ∧ i = .int .i64 j ∧ s = .int .i64 (cg (L.take j) : Nat) ∧ Hid (RDid w0 A X (swJ L j) wr)) (fun _ i _ => m - (intOf i).toNat)
  case atStart => exact ⟨0, Nat.zero_le _, rfl, rfl, H0⟩
  case round =>
    clear H0
    obtain ⟨j, hj, rfl, rfl, HH⟩ := hrel
    by_cases hlt : j < m
    · obtain ⟨A2, hl2, hs2, hf2⟩ := HH.out
      have hjl : j < L.length := by rw [HM.out]; exact hlt
      obtain ⟨ad, n, cap, hn, c1, c2, x0, q3, q4⟩ := hs2.place hl2 (swJ_at L j hjl)
      rw [swJ_len, HM.out] at hn
      subst hn
      have HNX := Lib.hid (swJ_next L j hjl)
      have HCG := Lib.hid (cg_next L j hjl)
      have hle : cg (L.take j) ≤ (L.take j).length := List.countP_le_length
      rw [List.length_take] at hle
      have i4 : (cg (L.take j) : Int) ≤ 1000 := by omega
      have i1 : (j : Int) < (n : Int) := by omega
      have i0 : (0 : Int) ≤ (j : Int) := by omega
      have HAT := Lib.hid (swJ_at L j hjl)
      generalize L[j] = c at *
      clear hjl hle
      cases hg : c.gone with
      | false =>
        have HN2 : Hid (swJ L (j + 1) = swJ L j) := Lib.hid (by
          rw [HNX.out]; unfold swOne; rw [hg]
          exact List.ext_getElem? fun i => by
            rw [List.getElem?_set]
            split
            · rename_i e; subst e
              split
              · rw [HAT.out]; rfl
              · rename_i e2; rw [List.getElem?_eq_none (by omega)]
            · rfl)
        have HC2 : Hid (cg (L.take (j + 1)) = cg (L.take j)) := Lib.hid (by rw [HCG.out, hg]; rfl)
        rw [hg] at q3
        clear HNX HCG HAT hl2 hs2 hf2 hg
        go_wp2
        go_roundw
        case rel => exact ⟨j + 1, by omega, by go_num, by rw [HC2.out], by rw [HN2.out]; exact HH⟩
        case measure => simp [intOf]; omega
      | true =>
        cases hsw : c.swept with
        | true =>
          have HN2 : Hid (swJ L (j + 1) = swJ L j) := Lib.hid (by
            rw [HNX.out]; unfold swOne; rw [hg]
            have E9 : (⟨c.bs, c.ts, true, true⟩ : Cl) = c := by cases c; simp_all
            exact List.ext_getElem? fun i => by
              rw [List.getElem?_set]
              split
              · rename_i e; subst e
                split
                · rw [HAT.out, if_pos rfl]; exact congrArg some E9
                · rename_i e2; rw [List.getElem?_eq_none (by omega)]
              · rfl)
          have HC2 : Hid (cg (L.take (j + 1)) = cg (L.take j)) := Lib.hid (by rw [HCG.out, hg, hsw]; rfl)
          rw [hg] at q3
          rw [hsw] at q4
          clear HNX HCG HAT hl2 hs2 hf2 hg hsw
          go_wp2
          go_roundw
          case rel => exact ⟨j + 1, by omega, by go_num, by rw [HC2.out], by rw [HN2.out]; exact HH⟩
          case measure => simp [intOf]; omega
        | false =>
          have HC2 : Hid (cg (L.take (j + 1)) = cg (L.take j) + 1) := Lib.hid (by rw [HCG.out, hg, hsw]; rfl)
          have hgt : gt (swJ L j) ((j : Int) + 1) = some c := gt_mk HAT.out hsw
          obtain ⟨k', ad', n', cap', hk', _, hn', _, _, x0', hy, hf, hd⟩ := rset_c hl2 hs2 hgt 4 (by omega) (.bool true) { c with swept := true } rfl rfl (fun s b => rfl)
          obtain rfl : j = k' := by omega
          rw [x0] at x0'
          simp only [Option.some.injEq, Value.slice.injEq] at x0'
          obtain ⟨rfl, rfl, rfl⟩ := x0'
          have e3 : ((j : Int) + 1).toNat - 1 = j := by omega
          have e4 : swOne c = { c with swept := true } := by unfold swOne; rw [hg]; rfl
          rw [e3, ← e4, ← HNX.out] at hd
          have HD := Lib.hid (hd.trans hf2)
          rw [← add_next _ _ _ (by omega)] at hf HD
          rw [hg] at q3
          rw [hsw] at q4
          clear HNX HCG HAT hl2 hs2 hf2 hg hsw hgt hk' hn' hy hd e3 e4 HH
          go_wp2
          generalize (wr.setCell ⟨(ad.add (j * 5)).block, (ad.add (j * 5)).off + 4, none⟩ (.bool true)) = z9 at *
          go_roundw
          case rel => exact ⟨j + 1, by omega, by go_num, by rw [HC2.out]; push_cast; rfl, HD⟩
          case measure => simp [intOf]; omega
    · obtain rfl : j = m := by omega
      have HD : Hid (RDid w0 A X (swL L) wr) := Lib.hid (by rw [← HEND.out, HM.out]; exact HH.out)
      obtain ⟨A2, hl2, hs2, hf2⟩ := HH.out
      obtain ⟨a, cap, x0, c1, c2⟩ := hs2.size hl2
      rw [swJ_len, HM.out] at x0 c1
      have e : L.take j = L := List.take_of_length_le (by rw [HM.out]; omega)
      have HNG2 : Hid (((cg (L.take j) : Nat) : Int) = ((nG L : Nat) : Int)) := Lib.hid (by rw [e, HNG.out])
      rw [HNG2.out]
      clear hl2 hs2 hf2 HH e
      go_wp2
      go_ret
      exact ⟨rfl, HD.out⟩
end Go.Proofs.Ythdgdkjaeebbcaa
