/-
  What the program's flow.beginnings and flow.Targets tell: contracts. Conditions: operations of a byte, distances of 16 bits.
-/
import Derived.Test.YtenddhhaelnnnaaFlowReach
namespace Go.Proofs.Ytenddhhaelnnnaa
open Go.RowKit Wi Ow Fl
set_option linter.unusedVariables false
set_option linter.unusedSimpArgs false

theorem OwnZ.alloc {w wr : World} {v : Value} {l : List Int} (h : OwnZ w v wr l) (o : Obj) : OwnZ w v (wr.alloc o) l := ⟨h.own.alloc o, h.below.alloc (by have := h.below.size; omega) o⟩
theorem bk_grown {w w' : World} {b : Nat} {t : TypeId} {cs : Array Value} {row : Option Nat} (h : Bk w b t cs) (hg : w.grownBy w' row) (hne : row ≠ some b) : Bk w' b t cs := (hg.block b h.lt (fun e => hne e.symm)).trans h
theorem begF_rep (k : Nat) (op : Int) (j : Nat) (h : (j : Int) = sizeV op - 1) : begF k op = (k : Int) :: List.replicate j (-1) := by
  unfold begF sizeV at *
  split at h
  · rename_i e; obtain rfl : j = 1 := by omega
    rw [if_pos e]; rfl
  · rename_i e; obtain rfl : j = 0 := by omega
    rw [if_neg e]; rfl
theorem sizeV_two (op : Int) : 1 ≤ sizeV op ∧ sizeV op ≤ 2 := by unfold sizeV; split <;> omega
set_option maxHeartbeats 4000000 in
theorem begs_any (A : Option Addr) (n c : Nat) (L : List In) (hn : L.length = n) (h1 : n ≤ 1000000) (w : World) (hL : Rd w w.heap.size A (iv L)) :
    Calls Try.prog 29 #[.slice A n c] w fun e w' => ∃ v, e = .returned v ∧ OwnZ w v w' (begN L n) := by
  obtain ⟨i0, hi0, hz0, hz1, hz2⟩ := info_parts int_info
  have HN := Lib.hid hn
  have HX := Lib.hid hL
  clear hn hL
  go_enter Try.func29, Try.ntmps29
  go_wp2
  go_loopw [3, 8] (fun b i wr => ∃ k : Nat, k ≤ n ∧ i = .int .i64 k ∧ Hid (OwnZ w b wr (begN L k))) (fun _ i _ => n - (intOf i).toNat)
  case atStart => exact ⟨0, Nat.zero_le _, rfl, Lib.hid (OwnZ.nil w (Below.refl _ _))⟩
  case round =>
    obtain ⟨k, hk, rfl, hO⟩ := hrel
    by_cases hlt : k < n
    · have hkx : k < L.length := by rw [HN.out]; exact hlt
      obtain ⟨ad, rfl, _, hcx⟩ := (HX.out.below hO.out.below) (by rw [iv_len]; omega)
      obtain ⟨x0, x1, x2, x3, x4⟩ := ins_cells hcx hkx
      have HS := Lib.hid (begN_succ L k)
      rw [opA_get L k hkx] at HS
      have hle := begN_le L k
      generalize L[k] = x at *
      clear hcx hkx
      have hne := own_lt hO.out.own (b := wr.heap.size) (Nat.le_refl _)
      have hs := sizeV_two x.op
      go_wp2_with (at_builtin; refine wpList_append_own_at _ rfl (.tmp 13) (.tmp 15) _ rfl w.heap.size 3 i0 _ 1 8 Try.underlying26 hi0 hz0 hz1 hz2 rfl (by decide) _ _ _ rfl ((hO.out.own.alloc _).alloc _) ⟨wr.heap.size + 1, 0, none⟩ 1 1 [.int .i64 (k : Int)] rfl rfl (new_cells' _ #[.int .i64 (k : Int)] (by simp)) (one_int _) ?a3 ?a4 ?a5 ?_)
      case a3 => unfold maxLen; omega
      case a4 => omega
      case a5 => have := hO.out.below.size; simp; omega
      intro v1 w1 hown1 hg1 _ hat1
      have R1 := Lib.hid ((hO.out.alloc _).step hown1 rfl hg1)
      have K1 := Lib.hid (bk_grown ((Bk.new wr 42 #[.int .i64 x.op, .int .i64 x.dst, .int .i64 x.src, .int .i64 x.off, .int .i64 x.imm]).alloc _) hg1 hne)
      clear hown1 hg1 hat1 hO x0 x1 x2 x3 x4
      obtain ⟨d0, d1, d2, d3, d4⟩ := box_cells K1.out
      go_wp2_with fail
      refine (size_any _ _ _ _ _ _).mono ?_
      rintro e w2 ⟨rfl, q⟩
      have R2 := Lib.hid (R1.out.more q)
      clear q R1 K1 d0 d1 d2 d3 d4
      go_wp2_with fail
      go_loopw [3, 20] (fun b i w3 => ∃ j : Nat, (j : Int) ≤ sizeV x.op - 1 ∧ i = .int .i64 j ∧ Hid (OwnZ w b w3 (begN L k ++ ((k : Int) :: List.replicate j (-1))))) (fun _ i _ => 2 - (intOf i).toNat)
      case atStart => exact ⟨0, by simp; omega, rfl, R2⟩
      case round =>
        clear R2
        obtain ⟨j, hj, rfl, hO⟩ := hrel
        by_cases hlj : (j : Int) < sizeV x.op - 1
        · have hjl : (begN L k ++ ((k : Int) :: List.replicate j (-1))).length = (begN L k).length + (j + 1) := by simp
          go_wp2_with (at_builtin; refine wpList_append_own_at _ rfl (.tmp 22) (.tmp 23) _ rfl w.heap.size 3 i0 _ 1 8 Try.underlying26 hi0 hz0 hz1 hz2 rfl (by decide) _ _ _ rfl (hO.out.own.alloc _) ⟨wr.heap.size, 0, none⟩ 1 1 [.int .i64 (-1)] rfl rfl (new_cells' _ #[.int .i64 (-1)] (by simp)) (one_int _) ?a3 ?a4 ?a5 ?_)
          case a3 => rw [hjl]; unfold maxLen; omega
          case a4 => rw [hjl]; omega
          case a5 => have := hO.out.below.size; simp; omega
          intro v1 w1 hown1 hg1 _ hat1
          have R1 := Lib.hid (hO.out.step hown1 (by simp) hg1)
          clear hown1 hg1 hat1 hO
          go_wp2
          go_roundw
          case rel => exact ⟨j + 1, by omega, by go_num, Lib.hid (by have h := R1.out; rw [List.append_assoc] at h; rw [List.replicate_succ']; exact h)⟩
          case measure => simp [intOf]; omega
        · have R1 : Hid (OwnZ w u3 wr (begN L (k + 1))) := Lib.hid (by rw [HS.out, begF_rep k x.op j (by omega)]; exact hO.out)
          clear hO
          go_wp2
          go_roundw
          case rel => exact ⟨k + 1, by omega, by go_num, R1⟩
          case measure => simp [intOf]; omega
    · have R : Hid (OwnZ w u3 wr (begN L n)) := Lib.hid (by have : k = n := by omega
                                                            subst this; exact hO.out)
      clear hO
      go_wp2
      go_ret
      exact ⟨_, rfl, R.out⟩
/-- The table of slots, and the targets that are told. -/
structure Tg (w : World) (ad : Addr) (n : Nat) (va : Value) (wr : World) (at_ T : List Int) : Prop where
  table : wr.ownsRow w.heap.size 3 1 va at_.length (zv at_)
  row : wr.ownsRow w.heap.size 3 1 (.slice (some ad) n n) n (zv T)
  below : Below w.heap.size w wr
  apart : va.ownBlock ≠ some ad.block
theorem Tg.next {w wr w2 : World} {ad : Addr} {n : Nat} {va : Value} {at_ T : List Int} (h : Tg w ad n va wr at_ T) (hb : Below wr.heap.size wr w2) : Tg w ad n va w2 at_ T :=
  ⟨own_below h.table hb, own_below h.row hb, below_then h.below hb (Nat.le_refl _), h.apart⟩
theorem Tg.alloc {w wr : World} {ad : Addr} {n : Nat} {va : Value} {at_ T : List Int} (h : Tg w ad n va wr at_ T) (o : Obj) : Tg w ad n va (wr.alloc o) at_ T :=
  ⟨h.table.alloc o, h.row.alloc o, h.below.alloc h.below.size o, h.apart⟩
theorem Tg.put {w wr : World} {ad : Addr} {n : Nat} {va : Value} {at_ T : List Int} (h : Tg w ad n va wr at_ T) (j : Nat) (z : Int) : Tg w ad n va (wr.setCell (ad.add j) (.int .i64 z)) at_ (T.set j z) := by
  obtain ⟨h1, h2⟩ := own_put h.row j (.int .i64 z)
  rw [zv_set] at h1
  exact ⟨h.table.kept h2 (.inr h.apart), h1, h.below.grown h2 h.below.size (fun k hk => by injection hk with hk; subst hk; exact (h.row.lt ad.block rfl).1), h.apart⟩
theorem tg_far {ad : Addr} {w : World} {b j : Nat} {t : TypeId} {cs : Array Value} (h : Bk w b t cs) (hne : b ≠ ad.block) (u : Value) : Bk (w.setCell (ad.add j) u) b t cs := h.far (by rw [add_block]; exact hne) u
theorem take_set_succ (T : List Int) (k : Nat) (z : Int) (hk : k < T.length) : (T.set k z).take (k + 1) = T.take k ++ [z] := by
  rw [List.take_succ_eq_append_getElem (by rw [List.length_set]; exact hk), List.getElem_set_self, List.take_set_of_le (Nat.le_refl _)]
theorem not_good_end {L : List In} (h : ¬ endOk (opA L (L.length - 1)))   : ¬ Fl.Good L := fun g => h g.last
theorem targets_none (A : Option Addr) (c : Nat) (w : World) :
    Calls Try.prog 10 #[.slice A 0 c] w fun e w' => e = .returned (.tuple #[.slice none 0 0, .int .i64 2]) ∧ w = w' := by
  go_enter Try.func10, Try.ntmps10
  go_wp2
  go_ret2
  exact ⟨rfl, rfl⟩
theorem targets_many (A : Option Addr) (n c : Nat) (hm : n ≤ 9223372036854775807) (h : 256 < n) (w : World) :
    Calls Try.prog 10 #[.slice A n c] w fun e w' => e = .returned (.tuple #[.slice none 0 0, .int .i64 9]) ∧ w = w' := by
  have h0 : ((n : Int) == 0) = false := by simp; omega
  go_enter Try.func10, Try.ntmps10
  go_wp2
  go_ret2
  exact ⟨rfl, rfl⟩
set_option maxHeartbeats 4000000 in
theorem targets_few (A : Option Addr) (n c : Nat) (L : List In) (hn : L.length = n) (ho : ∀ x ∈ L, okI x) (h0 : 0 < n) (h1 : n ≤ 256) (w : World) (hL : Rd w w.heap.size A (iv L)) :
    Calls Try.prog 10 #[.slice A n c] w fun e w' => ∃ v r, e = .returned (.tuple #[v, .int .i64 r]) ∧ Below w.heap.size w w' ∧ ((Fl.Good L ∧ r = 0 ∧ w'.ownsRow w.heap.size 3 1 v n (zv (tgts L n))) ∨ (¬ Fl.Good L ∧ r ≠ 0)) := by
  obtain ⟨i0, hi0, hz0, hz1, hz2⟩ := info_parts int_info
  have HN := Lib.hid hn
  have HX := Lib.hid hL
  have HO := Lib.hid ho
  clear hn hL ho
  have hne0 : ((n : Int) == 0) = false := by simp; omega
  go_enter Try.func10, Try.ntmps10
  go_wp2_with fail
  refine (begs_any A n c L HN.out (by omega) w HX.out).mono ?_
  rintro e w1 ⟨va, rfl, q⟩
  have hal := begN_le L n
  obtain ⟨AA, ca, rfl, hca, hma, _⟩ := own_form q.own
  have Q1 := Lib.hid q
  clear q
  unfold maxLen at hma
  go_wp2_with (refine wp_make_own _ rfl _ _ _ rfl 3 i0 _ Try.underlying26 hi0 hz0 hz1 rfl _ _ n rfl rfl ?a1 ?a2 ?_)
  case a1 => rw [hz2]; omega
  case a2 => unfold maxLen; omega
  intro ad w2 had hown hb2
  have ST : Hid (Tg w ad n (.slice AA (begN L n).length ca) w2 (begN L n) (List.replicate n 0)) := Lib.hid (by
    have hs := Q1.out.below.size
    refine ⟨own_below Q1.out.own hb2, ?_, below_then Q1.out.below hb2 (Nat.le_refl _), fun e => ?_⟩
    · have := own_base hown hs
      have e1 : List.replicate n (Value.int .i64 0) = zv (List.replicate n 0) := by simp [zv]
      rw [e1] at this
      exact this
    · have := (Q1.out.own.lt _ e).2
      omega)
  clear had hown hb2 Q1
  go_wp2_with fail
  go_loopw [5, 25] (fun b i wr => ∃ (k : Nat) (T : List Int), k ≤ n ∧ i = .int .i64 k ∧ b = .int .i64 ((begN L k).length : Int) ∧ T.length = n ∧ Hid (T.take k = tgts L k) ∧ Hid (okT L k) ∧ Hid (Tg w ad n (.slice AA (begN L n).length ca) wr (begN L n) T)) (fun _ i _ => n - (intOf i).toNat)
  case atStart => exact ⟨0, _, Nat.zero_le _, rfl, rfl, by simp, Lib.hid (by simp [tgts]), Lib.hid (fun i hi => absurd hi (by omega)), ST⟩
  case round =>
    clear ST
    obtain ⟨k, T, hk, rfl, rfl, hTl, hT, hO, hW⟩ := hrel
    by_cases hlt : k < n
    · have hkx : k < L.length := by rw [HN.out]; exact hlt
      obtain ⟨al, rfl, _, hcx⟩ := (HX.out.below hW.out.below) (by rw [iv_len]; omega)
      obtain ⟨x0, x1, x2, x3, x4⟩ := ins_cells hcx hkx
      have hlen := begN_len L k
      have hle1 := begN_le L (k + 1)
      have HV : Hid (tgtV L k = if jmpV L[k].op then valAt (begN L n) ((begN L (k + 1)).length + L[k].off) else -1) := Lib.hid (by unfold tgtV; rw [opA_get L k hkx, offA_get L k hkx, HN.out])
      have HJ : Hid (opA L k = L[k].op) := Lib.hid (opA_get L k hkx)
      rw [opA_get L k hkx] at hlen
      obtain ⟨o1, o2, o3, o4⟩ := HO.out L[k] (List.getElem_mem hkx)
      generalize L[k] = x at *
      clear hcx hkx
      have hs := sizeV_two x.op
      have hblk := (hW.out.row.lt ad.block rfl).2
      have j1 : (0 : Int) ≤ (k : Int) := by omega
      have j2 : (k : Int) < (n : Int) := by omega
      generalize hsz : (begN L k).length = sk at *
      generalize hsz2 : (begN L (k + 1)).length = sk1 at *
      have HS1 := Lib.hid hsz2
      clear hsz hsz2
      go_wp2_with fail
      refine (size_any _ _ _ _ _ _).mono ?_
      rintro e w3 ⟨rfl, q⟩
      have W3 := Lib.hid ((hW.out.alloc _).next q)
      have K3 := Lib.hid ((Bk.new wr 42 #[.int .i64 x.op, .int .i64 x.dst, .int .i64 x.src, .int .i64 x.off, .int .i64 x.imm]).below q (by simp))
      clear q hW x0 x1 x2 x3 x4
      obtain ⟨c3, f3⟩ := own_at W3.out.row k hlt
      rw [zv_get T k (by omega)] at c3
      have HADD : Hid ((sk : Int) + sizeV x.op = (sk1 : Int)) := Lib.hid (by omega)
      have hb1 : (sk : Int) + sizeV x.op ≤ 1000 := by omega
      have hb0 : 0 ≤ (sk : Int) + sizeV x.op := by omega
      clear hlen
      have W4 := Lib.hid (W3.out.put k (-1))
      have K4 := Lib.hid (tg_far (ad := ad) (j := k) K3.out (by omega) (.int .i64 (-1)))
      obtain ⟨d0, d1, d2, d3, d4⟩ := box_cells K4.out
      have hTl4 : (T.set k (-1)).length = n := by rw [List.length_set]; exact hTl
      have HT4 := Lib.hid (take_set_succ T k (-1) (by omega))
      go_wp2_with fail
      refine (jumps_any _ _ _ _ _ o1 o2 _).mono ?_
      rintro e w5 ⟨rfl, q⟩
      have W5 := Lib.hid (W4.out.next q)
      have K5 := Lib.hid (K4.out.below q K4.out.lt)
      clear q W3 W4 K3 K4 c3 f3 d0 d1 d2 d3 d4
      cases hj : jmpV x.op
      · rw [hj] at HV
        simp only [Bool.false_eq_true, if_false] at HV
        have HK : Hid (okT L (k + 1)) := Lib.hid (okT_succ hO.out (fun h => by rw [HJ.out, hj] at h; cases h))
        clear K5
        go_wp2
        go_roundw
        case rel => exact ⟨k + 1, T.set k (-1), by omega, by go_num, by rw [HS1.out, HADD.out], hTl4, Lib.hid (by rw [HT4.out, hT.out, tgts_succ, HV.out]), HK, W5⟩
        case measure => simp [intOf]; omega
      · rw [hj] at HV
        simp only [if_true] at HV
        obtain ⟨d0, d1, d2, d3, d4⟩ := box_cells K5.out
        go_wp2_with fail
        refine (valat_any AA (begN L n).length ca (begN L n) _ rfl (by omega) _ (Rd.of_own W5.out.table)).mono ?_
        rintro e w5' ⟨rfl, rfl⟩
        rw [HADD.out, ← HV.out]
        obtain ⟨c5, f5⟩ := own_at W5.out.row k hlt
        rw [zv_get _ k (by omega)] at c5
        generalize hzz : tgtV L k = z at *
        have HZ := Lib.hid hzz
        clear hzz
        have W6 := Lib.hid (W5.out.put k z)
        rw [List.set_set] at W6
        have hTl6 : (T.set k z).length = n := by rw [List.length_set]; exact hTl
        have HT6 := Lib.hid (take_set_succ T k z (by omega))
        obtain ⟨c6, f6⟩ := own_at W6.out.row k hlt
        rw [zv_get _ k (by omega), List.getElem_set_self] at c6
        by_cases hz : z = -1
        · have hz2 : (z == -1) = true := by simpa using hz
          have NG : Hid (¬ Fl.Good L) := Lib.hid fun g => g.jumps k (by rw [HN.out]; exact hlt) (by rw [HJ.out]; exact hj) (by rw [HZ.out]; exact hz)
          clear hz
          go_wp2
          go_ret2
          exact ⟨_, _, rfl, W6.out.below, .inr ⟨NG.out, by decide⟩⟩
        · have hz2 : (z == -1) = false := by simpa using hz
          have HK : Hid (okT L (k + 1)) := Lib.hid (okT_succ hO.out (fun _ => by rw [HZ.out]; exact hz))
          clear hz
          go_wp2
          go_roundw
          case rel => exact ⟨k + 1, T.set k z, by omega, by go_num, by rw [HS1.out], hTl6, Lib.hid (by rw [HT6.out, hT.out, tgts_succ, HZ.out]), HK, W6⟩
          case measure => simp [intOf]; omega
    · obtain ⟨m, hm⟩ : ∃ m, n = m + 1 := ⟨n - 1, by omega⟩
      have hkx : m < L.length := by rw [HN.out]; omega
      obtain ⟨al, rfl, _, hcx⟩ := (HX.out.below hW.out.below) (by rw [iv_len]; omega)
      obtain ⟨x0, x1, x2, x3, x4⟩ := ins_cells hcx hkx
      have HE : Hid (opA L (L.length - 1) = L[m].op) := Lib.hid (by rw [show L.length - 1 = m by rw [HN.out]; omega]; exact opA_get L m hkx)
      have hO2 : okT L L.length := by
        have e : k = L.length := by rw [HN.out]; omega
        have := hO.out
        rwa [e] at this
      have HG : Hid (endOk L[m].op → Fl.Good L) := Lib.hid fun h => ⟨by rw [HN.out]; exact h0, by rw [HN.out]; exact h1, hO2, by rw [HE.out]; exact h⟩
      clear hO2
      obtain ⟨o1, o2, o3, o4⟩ := HO.out L[m] (List.getElem_mem hkx)
      have HT : Hid (T = tgts L n) := Lib.hid (by have h := hT.out; rw [List.take_of_length_le (by omega)] at h; rw [h]; congr 1; omega)
      generalize L[m] = x at *
      clear hcx hkx hT
      have j1 : (n : Int) - 1 = (m : Int) := by omega
      have j2 : (0 : Int) ≤ (m : Int) := by omega
      have j3 : (m : Int) < (n : Int) := by omega
      clear hm
      go_wp2_with fail
      refine (isjump_any _ _ _ _ _ 9 o1 o2 _).mono ?_
      rintro e w3 ⟨rfl, q⟩
      have W3 := Lib.hid ((hW.out.alloc _).next q)
      have K3 := Lib.hid ((Bk.new wr 42 #[.int .i64 x.op, .int .i64 x.dst, .int .i64 x.src, .int .i64 x.off, .int .i64 x.imm]).below q (by simp))
      clear q hW x0 x1 x2 x3 x4
      obtain ⟨d0, d1, d2, d3, d4⟩ := box_cells K3.out
      cases h9 : isOp x.op 9
      · go_wp2_with fail
        refine (isjump_any _ _ _ _ _ 0 o1 o2 _).mono ?_
        rintro e w4 ⟨rfl, q⟩
        have W4 := Lib.hid (W3.out.next q)
        clear q d0 d1 d2 d3 d4 W3 K3
        cases h00 : isOp x.op 0
        · have NG : Hid (¬ Fl.Good L) := Lib.hid fun g => by
            have h := g.last
            rw [HE.out] at h
            rcases h with h | h
            · rw [h9] at h; cases h
            · rw [h00] at h; cases h
          go_wp2
          go_ret2
          exact ⟨_, _, rfl, W4.out.below, .inr ⟨NG.out, by decide⟩⟩
        · go_wp2
          go_ret2
          exact ⟨_, _, rfl, W4.out.below, .inl ⟨HG.out (.inr h00), rfl, by rw [← HT.out]; exact W4.out.row⟩⟩
      · go_wp2
        go_ret2
        exact ⟨_, _, rfl, W3.out.below, .inl ⟨HG.out (.inl h9), rfl, by rw [← HT.out]; exact W3.out.row⟩⟩
theorem targets_any (A : Option Addr) (n c : Nat) (L : List In) (hn : L.length = n) (ho : ∀ x ∈ L, okI x) (h1 : n ≤ 9223372036854775807) (w : World) (hL : Rd w w.heap.size A (iv L)) :
    Calls Try.prog 10 #[.slice A n c] w fun e w' => ∃ v r, e = .returned (.tuple #[v, .int .i64 r]) ∧ Below w.heap.size w w' ∧ ((Fl.Good L ∧ r = 0 ∧ w'.ownsRow w.heap.size 3 1 v n (zv (tgts L n))) ∨ (¬ Fl.Good L ∧ r ≠ 0)) := by
  by_cases h0 : 0 < n
  · by_cases h256 : n ≤ 256
    · exact targets_few A n c L hn ho h0 h256 w hL
    · refine (targets_many A n c h1 (by omega) w).mono ?_
      rintro e w' ⟨rfl, rfl⟩
      exact ⟨_, _, rfl, Below.refl _ _, .inr ⟨fun g => by have := g.few; omega, by decide⟩⟩
  · obtain rfl : n = 0 := by omega
    refine (targets_none A c w).mono ?_
    rintro e w' ⟨rfl, rfl⟩
    exact ⟨_, _, rfl, Below.refl _ _, .inr ⟨fun g => by have := g.some_; omega, by decide⟩⟩
end Go.Proofs.Ytenddhhaelnnnaa
