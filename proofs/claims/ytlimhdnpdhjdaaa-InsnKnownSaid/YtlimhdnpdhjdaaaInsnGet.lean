/-
  What the program's package insn reads (lowestFirst, first, Get): contracts.
-/
import Derived.Test.YtlimhdnpdhjdaaaInsnPuts
import Derived.Test.YtlimhdnpdhjdaaaInsnGetMath
import Derived.StillTailTactics
namespace Go.Proofs.Ytlimhdnpdhjdaaa
open Go.RowKit Wi Ow
set_option linter.unusedVariables false
set_option linter.unusedSimpArgs false

set_option maxHeartbeats 1000000 in
theorem le_any (A : Option Addr) (n c : Nat) (xs : List Int) (hn : xs.length = n) (h8 : n ≤ 8) (hx : isB xs) (w : World) (hr : Rd w w.heap.size A (bv xs)) :
    Calls Try.prog 56 #[.slice A n c] w fun e w' => e = .returned (.int .u64 (leN xs)) ∧ w = w' := by
  have HN := Lib.hid hn
  have HX := Lib.hid hx
  have HR := Lib.hid hr
  clear hn hx hr
  go_enter Try.func56, Try.ntmps56
  go_wp2
  go_loop [3, 8] (fun v i => ∃ k : Nat, k ≤ n ∧ i = .int .i64 k ∧ v = .int .u64 (leN (xs.take k))) (fun _ i => n - (intOf i).toNat)
  case atStart => exact ⟨0, Nat.zero_le _, rfl, rfl⟩
  case round =>
    obtain ⟨k, hk, rfl, rfl⟩ := hrel
    by_cases hlt : k < n
    · have hkl : k < xs.length := by rw [HN.out]; exact hlt
      obtain ⟨ad, rfl, hab, hc⟩ := HR.out.at_ (k := k) (by rw [bv_len]; exact hkl)
      have e : (bv xs)[k]'(by rw [bv_len]; exact hkl) = .int .u8 xs[k] := by simp [bv]
      rw [e] at hc
      have hb := HX.out xs[k] (List.getElem_mem hkl)
      have HL := Lib.hid (leN_take xs k hkl)
      have HK : Hid (0 ≤ leN (xs.take k) ∧ leN (xs.take k) < 256 ^ k) := Lib.hid (by
        have h := leN_bd (xs.take k) (fun c hc => HX.out c (List.mem_of_mem_take hc))
        rw [List.length_take, Nat.min_eq_left (by omega)] at h
        exact h)
      obtain ⟨b, hbb⟩ : ∃ b, b = xs[k] := ⟨_, rfl⟩
      rw [← hbb] at hc hb HL
      clear hbb e
      go_wp2
      go_round
      case rel => exact ⟨k + 1, by omega, by go_num, by rw [HL.out, or_byte _ _ _ (by omega) HK.out.1 HK.out.2 hb.1 hb.2]⟩
      case measure => simp [intOf]; omega
    · obtain rfl : k = n := by omega
      go_wp2
      go_ret
      have e3 : xs.take k = xs := List.take_of_length_le (by rw [HN.out]; omega)
      exact ⟨by rw [e3]; rfl, rfl⟩
theorem le_still (A : Option Addr) (n c : Nat) (xs : List Int) (hn : xs.length = n) (h8 : n ≤ 8) (hx : isB xs) (w : World) (hr : Rd w w.heap.size A (bv xs)) :
    Calls Try.prog 56 #[.slice A n c] w fun e w' => e = .returned (.int .u64 (leN xs)) ∧ w' = w := (le_any A n c xs hn h8 hx w hr).mono fun _ _ h => ⟨h.1, h.2.symm⟩
theorem rd_drew {w : World} {A : Option Addr} {xs : List Value} (h : Rd w w.heap.size A xs) : Rd w.drew w.drew.heap.size A xs := h
theorem bv_at (xs : List Int) (k : Nat) (hk : k < xs.length) : (bv xs)[k]? = some (.int .u8 (xs.getD k 0)) := by unfold bv; simp [List.getD_eq_getElem?_getD, hk]
theorem isB_at (xs : List Int) (hx : isB xs) (k : Nat) : 0 ≤ xs.getD k 0 ∧ xs.getD k 0 ≤ 255 := by
  by_cases hk : k < xs.length
  · have e : xs.getD k 0 = xs[k] := by simp [List.getD_eq_getElem?_getD, hk]
    rw [e]; exact hx _ (List.getElem_mem hk)
  · have e : xs.getD k 0 = 0 := by simp [List.getD_eq_getElem?_getD, List.getElem?_eq_none (show xs.length ≤ k by omega)]
    rw [e]; decide

theorem rd_sub {w : World} {ad : Addr} {xs : List Int} {B : Nat} (hr : ∀ j u, (bv xs)[j]? = some u → w.cell? (ad.add j) = some u) (hab : ad.block < B) (lo len : Nat) (hl : 0 < lo) : Rd w B (some ⟨ad.block, ad.off + lo, none⟩) (bv ((xs.drop lo).take len)) := fun _ => by
  have e : (⟨ad.block, ad.off + lo, none⟩ : Addr) = ad.add lo := by unfold Addr.add; rw [if_neg (by omega)]
  refine ⟨_, rfl, hab, fun j u hu => ?_⟩
  rw [e, add_twice]
  refine hr _ u ?_
  unfold bv at hu ⊢
  rw [List.map_take, List.map_drop, List.getElem?_take] at hu
  split at hu
  · rw [List.getElem?_drop] at hu; exact hu
  · cases hu
theorem box_frozen {w : World} {b : Nat} {cs : Array Value} (h : Bk w b 23 cs) :
    w.frozen? ⟨b, 0, none⟩ = false ∧ w.frozen? ⟨b, 1, none⟩ = false ∧ w.frozen? ⟨b, 2, none⟩ = false ∧ w.frozen? ⟨b, 3, none⟩ = false ∧ w.frozen? ⟨b, 4, none⟩ = false :=
  ⟨h.frozen 0, h.frozen 1, h.frozen 2, h.frozen 3, h.frozen 4⟩
theorem isB_sub {xs : List Int} (h : isB xs) (lo len : Nat) : isB ((xs.drop lo).take len) := fun b hb => h b (List.mem_of_mem_drop (List.mem_of_mem_take hb))
theorem sub_len (xs : List Int) (lo len : Nat) (h : lo + len ≤ xs.length) : ((xs.drop lo).take len).length = len := by rw [List.length_take, List.length_drop]; omega
theorem hr_far {w : World} {ad : Addr} {xs : List Value} (hr : ∀ j u, xs[j]? = some u → w.cell? (ad.add j) = some u) {p : Addr} (hp : p.block ≠ ad.block) (v : Value) : ∀ j u, xs[j]? = some u → (w.setCell p v).cell? (ad.add j) = some u :=
  fun j u hu => (World.cell?_setCell_other w p _ v (fun e => hp (by rw [e, add_block]))).trans (hr j u hu)
set_option maxHeartbeats 1000000 in
theorem first_narrow (ad : Addr) (n c : Nat) (xs : List Int) (hn : xs.length = n) (h8 : 8 ≤ n) (hc : n ≤ c) (hm : c ≤ 9223372036854775807) (hx : isB xs) (h24 : ¬ xs.getD 0 0 = 24) (w : World) (hab : ad.block < w.heap.size) (hr : ∀ j u, (bv xs)[j]? = some u → w.cell? (ad.add j) = some u) :
    Calls Try.prog 44 #[.slice (some ad) n c] w fun e w' => e = .returned (.tuple #[(fstX xs).val, .int .i64 (fstN xs), .int .i64 (fstE xs)]) ∧ Below w.heap.size w w' := by
  have HN := Lib.hid hn
  have HX := Lib.hid hx
  have HR := Lib.hid hr
  have b0 := HR.out 0 _ (bv_at xs 0 (by omega))
  have b1 := HR.out 1 _ (bv_at xs 1 (by omega))
  have a0 : ad.add 0 = ad := by unfold Addr.add; simp
  have d0 := isB_at xs HX.out 0
  have d1 := isB_at xs HX.out 1
  rw [a0] at b0
  have G16 := Lib.hid (w16s (leN ((xs.drop 2).take 2)))
  have G32 := Lib.hid (w32s (leN ((xs.drop 4).take 4)))
  obtain ⟨y0, e0⟩ : ∃ y, y = xs.getD 0 0 := ⟨_, rfl⟩
  obtain ⟨y1, e1⟩ : ∃ y, y = xs.getD 1 0 := ⟨_, rfl⟩
  rw [← e0] at b0 d0 h24
  rw [← e1] at b1 d1
  have E0 := Lib.hid e0
  have E1 := Lib.hid e1
  clear hn hx hr a0 e0 e1
  have es : sizeV y0 = 1 := if_neg h24
  have Q24 := Lib.hid h24
  clear h24
  go_enter Try.func44, Try.ntmps44
  go_wp2_with fail
  refine (size_any _ _ _ _ _ _).mono ?_
  rintro e w1 ⟨rfl, q1⟩
  have B1 := Lib.hid (below_box (below_box q1))
  have K1 : Hid (Bk w1 (w.heap.size + 1) 23 #[.int .i64 y0, .int .i64 0, .int .i64 0, .int .i64 0, .int .i64 0]) := Lib.hid (by have h := (Bk.new (w.alloc (.cells #[.int .i64 0, .int .i64 0, .int .i64 0, .int .i64 0, .int .i64 0] 23)) 23 #[.int .i64 y0, .int .i64 0, .int .i64 0, .int .i64 0, .int .i64 0]).below q1 (by simp); simpa using h)
  have R1 : Hid (Bk w1 w.heap.size 23 #[.int .i64 0, .int .i64 0, .int .i64 0, .int .i64 0, .int .i64 0]) := Lib.hid (((Bk.new w 23 #[.int .i64 0, .int .i64 0, .int .i64 0, .int .i64 0, .int .i64 0]).alloc (.cells #[.int .i64 y0, .int .i64 0, .int .i64 0, .int .i64 0, .int .i64 0] 23)).below q1 (by simp; omega))
  have HR1 : Hid (∀ j u, (bv xs)[j]? = some u → w1.cell? (ad.add j) = some u) := Lib.hid fun j u hu => (B1.out.cell (by rw [add_block]; exact hab)).trans (HR.out j u hu)
  clear q1 b0 b1 HR
  obtain ⟨c0, c1, c2, c3, c4⟩ := box_cells K1.out
  have f1 := K1.out.frozen 1
  have f2 := K1.out.frozen 2
  have b1 := HR1.out 1 _ (bv_at xs 1 (by have := HN.out; omega))
  rw [← E1.out] at b1
  replace b1 : w1.cell? ⟨ad.block, ad.off + 1, none⟩ = some (.int .u8 y1) := b1
  have n1 : (1 : Int) < (n : Int) := by omega
  go_wp2_with fail
  go_region
  clear b1 f1 f2 n1 c0 c1 c2 c3 c4
  have hB : w.heap.size + 1 ≠ ad.block := by omega
  have B2 : Hid (Below w.heap.size w ((w1.setCell ⟨w.heap.size + 1, 1, none⟩ (.int .i64 (y1 % 16))).setCell ⟨w.heap.size + 1, 2, none⟩ (.int .i64 (y1 / 16))).drew) := Lib.hid (((B1.out.setCell (by simp) _).setCell (by simp) _).drew)
  have K2 : Hid (Bk ((w1.setCell ⟨w.heap.size + 1, 1, none⟩ (.int .i64 (y1 % 16))).setCell ⟨w.heap.size + 1, 2, none⟩ (.int .i64 (y1 / 16))).drew (w.heap.size + 1) 23 #[.int .i64 y0, .int .i64 (y1 % 16), .int .i64 (y1 / 16), .int .i64 0, .int .i64 0]) := Lib.hid ((K1.out.set_ 1 _).set_ 2 _)
  have R2 : Hid (Bk ((w1.setCell ⟨w.heap.size + 1, 1, none⟩ (.int .i64 (y1 % 16))).setCell ⟨w.heap.size + 1, 2, none⟩ (.int .i64 (y1 / 16))).drew w.heap.size 23 #[.int .i64 0, .int .i64 0, .int .i64 0, .int .i64 0, .int .i64 0]) := Lib.hid ((R1.out.far (by simp) _).far (by simp) _)
  have HR2 : Hid (∀ j u, (bv xs)[j]? = some u → ((w1.setCell ⟨w.heap.size + 1, 1, none⟩ (.int .i64 (y1 % 16))).setCell ⟨w.heap.size + 1, 2, none⟩ (.int .i64 (y1 / 16))).drew.cell? (ad.add j) = some u) := Lib.hid (hr_far (hr_far HR1.out hB _) hB _)
  generalize ((w1.setCell ⟨w.heap.size + 1, 1, none⟩ (.int .i64 (y1 % 16))).setCell ⟨w.heap.size + 1, 2, none⟩ (.int .i64 (y1 / 16))).drew = w2 at *
  clear B1 K1 R1 HR1
  obtain ⟨c0, c1, c2, c3, c4⟩ := box_cells K2.out
  have f3 := K2.out.frozen 3
  go_wp2_with fail
  refine (le_any _ _ _ ((xs.drop 2).take 2) (sub_len _ _ _ (by have := HN.out; omega)) (by omega) (isB_sub HX.out _ _) _ (rd_sub HR2.out (by have := B2.out.size; omega) 2 2 (by omega))).mono ?_
  rintro e w' ⟨rfl, rfl⟩
  generalize hL2 : leN ((xs.drop 2).take 2) = l2 at *
  have HL2 := Lib.hid hL2
  clear hL2
  have g16 := G16.out
  go_wp2_with fail
  clear g16 f3 c0 c1 c2 c3 c4
  have B3 : Hid (Below w.heap.size w (w2.setCell ⟨w.heap.size + 1, 3, none⟩ (.int .i64 (s16 l2)))) := Lib.hid (B2.out.setCell (by simp) _)
  have K3 : Hid (Bk (w2.setCell ⟨w.heap.size + 1, 3, none⟩ (.int .i64 (s16 l2))) (w.heap.size + 1) 23 #[.int .i64 y0, .int .i64 (y1 % 16), .int .i64 (y1 / 16), .int .i64 (s16 l2), .int .i64 0]) := Lib.hid (K2.out.set_ 3 _)
  have R3 : Hid (Bk (w2.setCell ⟨w.heap.size + 1, 3, none⟩ (.int .i64 (s16 l2))) w.heap.size 23 #[.int .i64 0, .int .i64 0, .int .i64 0, .int .i64 0, .int .i64 0]) := Lib.hid (R2.out.far (by simp) _)
  have HR3 : Hid (∀ j u, (bv xs)[j]? = some u → (w2.setCell ⟨w.heap.size + 1, 3, none⟩ (.int .i64 (s16 l2))).cell? (ad.add j) = some u) := Lib.hid (hr_far HR2.out hB _)
  generalize (w2.setCell ⟨w.heap.size + 1, 3, none⟩ (.int .i64 (s16 l2))) = w3 at *
  clear B2 K2 R2 HR2
  obtain ⟨c0, c1, c2, c3, c4⟩ := box_cells K3.out
  have f4 := K3.out.frozen 4
  refine (le_any _ _ _ ((xs.drop 4).take 4) (sub_len _ _ _ (by have := HN.out; omega)) (by omega) (isB_sub HX.out _ _) _ (rd_sub HR3.out (by have := B3.out.size; omega) 4 4 (by omega))).mono ?_
  rintro e w' ⟨rfl, rfl⟩
  generalize hL4 : leN ((xs.drop 4).take 4) = l4 at *
  have HL4 := Lib.hid hL4
  clear hL4
  have g32 := G32.out
  go_wp2_with fail
  clear g32 f4 c0 c1 c2 c3 c4
  have B4 : Hid (Below w.heap.size w (w3.setCell ⟨w.heap.size + 1, 4, none⟩ (.int .i64 (s32 l4)))) := Lib.hid (B3.out.setCell (by simp) _)
  have K4 : Hid (Bk (w3.setCell ⟨w.heap.size + 1, 4, none⟩ (.int .i64 (s32 l4))) (w.heap.size + 1) 23 #[.int .i64 y0, .int .i64 (y1 % 16), .int .i64 (y1 / 16), .int .i64 (s16 l2), .int .i64 (s32 l4)]) := Lib.hid (K3.out.set_ 4 _)
  have R4 : Hid (Bk (w3.setCell ⟨w.heap.size + 1, 4, none⟩ (.int .i64 (s32 l4))) w.heap.size 23 #[.int .i64 0, .int .i64 0, .int .i64 0, .int .i64 0, .int .i64 0]) := Lib.hid (R3.out.far (by simp) _)
  generalize (w3.setCell ⟨w.heap.size + 1, 4, none⟩ (.int .i64 (s32 l4))) = w4 at *
  clear B3 K3 R3 HR3
  have hdec : decV xs = ⟨y0, y1 % 16, y1 / 16, s16 l2, s32 l4⟩ := by
    have q0 := Q24.out
    unfold decV; rw [← E0.out, ← E1.out, HL2.out, HL4.out, if_neg q0]
  have hfe : fstE xs = chkV y0 (y1 % 16) (y1 / 16) (s16 l2) (s32 l4) := by
    have q0 := Q24.out
    unfold fstE; rw [← E0.out, es, hdec, if_neg (by have := HN.out; omega), if_neg (by omega)]; rfl
  have HD := Lib.hid hdec
  have HF := Lib.hid hfe
  clear hdec hfe
  generalize s16 l2 = o2 at *
  generalize s32 l4 = o4 at *
  refine (check_any _ _ _ _ _ _).mono ?_
  rintro e w5 ⟨rfl, q5⟩
  have B5 := Lib.hid (below_then B4.out q5 (Nat.le_refl _))
  have K5 := Lib.hid (K4.out.below q5 K4.out.lt)
  have R5 := Lib.hid (R4.out.below q5 R4.out.lt)
  clear q5 B4 K4 R4
  obtain ⟨c0, c1, c2, c3, c4⟩ := box_cells K5.out
  obtain ⟨r0, r1, r2, r3, r4⟩ := box_cells R5.out
  obtain ⟨f0, f1, f2, f3, f4⟩ := box_frozen R5.out
  by_cases hz : chkV y0 (y1 % 16) (y1 / 16) o2 o4 = 0
  · have HZ := Lib.hid hz
    go_wp2
    have R6 : Bk (((((w5.setCell ⟨w.heap.size, 0, none⟩ (.int .i64 y0)).setCell ⟨w.heap.size, 1, none⟩ (.int .i64 (y1 % 16))).setCell ⟨w.heap.size, 2, none⟩ (.int .i64 (y1 / 16))).setCell ⟨w.heap.size, 3, none⟩ (.int .i64 o2)).setCell ⟨w.heap.size, 4, none⟩ (.int .i64 o4)) w.heap.size 23 #[.int .i64 y0, .int .i64 (y1 % 16), .int .i64 (y1 / 16), .int .i64 o2, .int .i64 o4] := ((((R5.out.set_ 0 _).set_ 1 _).set_ 2 _).set_ 3 _).set_ 4 _
    have B6 : Below w.heap.size w (((((w5.setCell ⟨w.heap.size, 0, none⟩ (.int .i64 y0)).setCell ⟨w.heap.size, 1, none⟩ (.int .i64 (y1 % 16))).setCell ⟨w.heap.size, 2, none⟩ (.int .i64 (y1 / 16))).setCell ⟨w.heap.size, 3, none⟩ (.int .i64 o2)).setCell ⟨w.heap.size, 4, none⟩ (.int .i64 o4)) := ((((B5.out.setCell (Nat.le_refl _) _).setCell (Nat.le_refl _) _).setCell (Nat.le_refl _) _).setCell (Nat.le_refl _) _).setCell (Nat.le_refl _) _
    generalize (((((w5.setCell ⟨w.heap.size, 0, none⟩ (.int .i64 y0)).setCell ⟨w.heap.size, 1, none⟩ (.int .i64 (y1 % 16))).setCell ⟨w.heap.size, 2, none⟩ (.int .i64 (y1 / 16))).setCell ⟨w.heap.size, 3, none⟩ (.int .i64 o2)).setCell ⟨w.heap.size, 4, none⟩ (.int .i64 o4)) = w6 at *
    obtain ⟨s0, s1, s2, s3, s4⟩ := box_cells R6
    refine bodyPost_ret (v := .tuple #[.agg #[.int .i64 y0, .int .i64 (y1 % 16), .int .i64 (y1 / 16), .int .i64 o2, .int .i64 o4], .int .i64 8, .int .i64 0]) ?_ rfl ⟨?_, B6⟩
    · simp [results, Try.results44, go_sem, s0, s1, s2, s3, s4]
    · have e0 : fstE xs = 0 := by rw [HF.out]; exact HZ.out
      have e1 : fstX xs = decV xs := if_pos e0
      have e2 : fstN xs = 8 := by unfold fstN; rw [if_pos e0, ← E0.out, es]; rfl
      rw [e0, e1, e2, HD.out]; rfl
  · have HZ := Lib.hid hz
    have ez : (chkV y0 (y1 % 16) (y1 / 16) o2 o4 != 0) = true := bne_iff_ne.2 hz
    clear hz
    go_wp2
    have R6 : Bk (((((w5.setCell ⟨w.heap.size, 0, none⟩ (.int .i64 0)).setCell ⟨w.heap.size, 1, none⟩ (.int .i64 0)).setCell ⟨w.heap.size, 2, none⟩ (.int .i64 0)).setCell ⟨w.heap.size, 3, none⟩ (.int .i64 0)).setCell ⟨w.heap.size, 4, none⟩ (.int .i64 0)) w.heap.size 23 #[.int .i64 0, .int .i64 0, .int .i64 0, .int .i64 0, .int .i64 0] := ((((R5.out.set_ 0 _).set_ 1 _).set_ 2 _).set_ 3 _).set_ 4 _
    have B6 : Below w.heap.size w (((((w5.setCell ⟨w.heap.size, 0, none⟩ (.int .i64 0)).setCell ⟨w.heap.size, 1, none⟩ (.int .i64 0)).setCell ⟨w.heap.size, 2, none⟩ (.int .i64 0)).setCell ⟨w.heap.size, 3, none⟩ (.int .i64 0)).setCell ⟨w.heap.size, 4, none⟩ (.int .i64 0)) := ((((B5.out.setCell (Nat.le_refl _) _).setCell (Nat.le_refl _) _).setCell (Nat.le_refl _) _).setCell (Nat.le_refl _) _).setCell (Nat.le_refl _) _
    generalize (((((w5.setCell ⟨w.heap.size, 0, none⟩ (.int .i64 0)).setCell ⟨w.heap.size, 1, none⟩ (.int .i64 0)).setCell ⟨w.heap.size, 2, none⟩ (.int .i64 0)).setCell ⟨w.heap.size, 3, none⟩ (.int .i64 0)).setCell ⟨w.heap.size, 4, none⟩ (.int .i64 0)) = w6 at *
    obtain ⟨s0, s1, s2, s3, s4⟩ := box_cells R6
    refine bodyPost_ret (v := .tuple #[.agg #[.int .i64 0, .int .i64 0, .int .i64 0, .int .i64 0, .int .i64 0], .int .i64 0, .int .i64 (chkV y0 (y1 % 16) (y1 / 16) o2 o4)]) ?_ rfl ⟨?_, B6⟩
    · simp [results, Try.results44, go_sem, s0, s1, s2, s3, s4]
    · have e0 : fstE xs ≠ 0 := by rw [HF.out]; exact HZ.out
      have e1 : fstX xs = ⟨0, 0, 0, 0, 0⟩ := if_neg e0
      have e2 : fstN xs = 0 := if_neg e0
      rw [e1, e2, HF.out]; rfl
set_option maxRecDepth 100000 in
set_option maxHeartbeats 2000000 in
theorem first_wide (ad : Addr) (n c : Nat) (xs : List Int) (hn : xs.length = n) (h8 : 16 ≤ n) (hc : n ≤ c) (hm : c ≤ 9223372036854775807) (hx : isB xs) (h24 : xs.getD 0 0 = 24) (w : World) (hab : ad.block < w.heap.size) (hr : ∀ j u, (bv xs)[j]? = some u → w.cell? (ad.add j) = some u) :
    Calls Try.prog 44 #[.slice (some ad) n c] w fun e w' => e = .returned (.tuple #[(fstX xs).val, .int .i64 (fstN xs), .int .i64 (fstE xs)]) ∧ Below w.heap.size w w' := by
  have HN := Lib.hid hn
  have HX := Lib.hid hx
  have HR := Lib.hid hr
  have b0 := HR.out 0 _ (bv_at xs 0 (by omega))
  have b1 := HR.out 1 _ (bv_at xs 1 (by omega))
  have a0 : ad.add 0 = ad := by unfold Addr.add; simp
  have d0 := isB_at xs HX.out 0
  have d1 := isB_at xs HX.out 1
  rw [a0] at b0
  have G16 := Lib.hid (w16s (leN ((xs.drop 2).take 2)))
  have G32 := Lib.hid (w32s (leN ((xs.drop 4).take 4)))
  obtain ⟨y0, e0⟩ : ∃ y, y = xs.getD 0 0 := ⟨_, rfl⟩
  obtain ⟨y1, e1⟩ : ∃ y, y = xs.getD 1 0 := ⟨_, rfl⟩
  rw [← e0] at b0 d0 h24
  rw [← e1] at b1 d1
  have E0 := Lib.hid e0
  have E1 := Lib.hid e1
  clear hn hx hr a0 e0 e1
  have es : sizeV y0 = 2 := if_pos h24
  have Q24 := Lib.hid h24
  clear h24
  go_enter Try.func44, Try.ntmps44
  go_wp2_with fail
  refine (size_any _ _ _ _ _ _).mono ?_
  rintro e w1 ⟨rfl, q1⟩
  have B1 := Lib.hid (below_box (below_box q1))
  have K1 : Hid (Bk w1 (w.heap.size + 1) 23 #[.int .i64 y0, .int .i64 0, .int .i64 0, .int .i64 0, .int .i64 0]) := Lib.hid (by have h := (Bk.new (w.alloc (.cells #[.int .i64 0, .int .i64 0, .int .i64 0, .int .i64 0, .int .i64 0] 23)) 23 #[.int .i64 y0, .int .i64 0, .int .i64 0, .int .i64 0, .int .i64 0]).below q1 (by simp); simpa using h)
  have R1 : Hid (Bk w1 w.heap.size 23 #[.int .i64 0, .int .i64 0, .int .i64 0, .int .i64 0, .int .i64 0]) := Lib.hid (((Bk.new w 23 #[.int .i64 0, .int .i64 0, .int .i64 0, .int .i64 0, .int .i64 0]).alloc (.cells #[.int .i64 y0, .int .i64 0, .int .i64 0, .int .i64 0, .int .i64 0] 23)).below q1 (by simp; omega))
  have HR1 : Hid (∀ j u, (bv xs)[j]? = some u → w1.cell? (ad.add j) = some u) := Lib.hid fun j u hu => (B1.out.cell (by rw [add_block]; exact hab)).trans (HR.out j u hu)
  clear q1 b0 b1 HR
  obtain ⟨c0, c1, c2, c3, c4⟩ := box_cells K1.out
  have f1 := K1.out.frozen 1
  have f2 := K1.out.frozen 2
  have b1 := HR1.out 1 _ (bv_at xs 1 (by have := HN.out; omega))
  rw [← E1.out] at b1
  replace b1 : w1.cell? ⟨ad.block, ad.off + 1, none⟩ = some (.int .u8 y1) := b1
  have n1 : (1 : Int) < (n : Int) := by omega
  go_wp2_with fail
  go_region
  clear b1 f1 f2 n1 c0 c1 c2 c3 c4
  have hB : w.heap.size + 1 ≠ ad.block := by omega
  have B2 : Hid (Below w.heap.size w ((w1.setCell ⟨w.heap.size + 1, 1, none⟩ (.int .i64 (y1 % 16))).setCell ⟨w.heap.size + 1, 2, none⟩ (.int .i64 (y1 / 16))).drew) := Lib.hid (((B1.out.setCell (by simp) _).setCell (by simp) _).drew)
  have K2 : Hid (Bk ((w1.setCell ⟨w.heap.size + 1, 1, none⟩ (.int .i64 (y1 % 16))).setCell ⟨w.heap.size + 1, 2, none⟩ (.int .i64 (y1 / 16))).drew (w.heap.size + 1) 23 #[.int .i64 y0, .int .i64 (y1 % 16), .int .i64 (y1 / 16), .int .i64 0, .int .i64 0]) := Lib.hid ((K1.out.set_ 1 _).set_ 2 _)
  have R2 : Hid (Bk ((w1.setCell ⟨w.heap.size + 1, 1, none⟩ (.int .i64 (y1 % 16))).setCell ⟨w.heap.size + 1, 2, none⟩ (.int .i64 (y1 / 16))).drew w.heap.size 23 #[.int .i64 0, .int .i64 0, .int .i64 0, .int .i64 0, .int .i64 0]) := Lib.hid ((R1.out.far (by simp) _).far (by simp) _)
  have HR2 : Hid (∀ j u, (bv xs)[j]? = some u → ((w1.setCell ⟨w.heap.size + 1, 1, none⟩ (.int .i64 (y1 % 16))).setCell ⟨w.heap.size + 1, 2, none⟩ (.int .i64 (y1 / 16))).drew.cell? (ad.add j) = some u) := Lib.hid (hr_far (hr_far HR1.out hB _) hB _)
  generalize ((w1.setCell ⟨w.heap.size + 1, 1, none⟩ (.int .i64 (y1 % 16))).setCell ⟨w.heap.size + 1, 2, none⟩ (.int .i64 (y1 / 16))).drew = w2 at *
  clear B1 K1 R1 HR1
  obtain ⟨c0, c1, c2, c3, c4⟩ := box_cells K2.out
  have f3 := K2.out.frozen 3
  go_wp2_with fail
  refine (le_any _ _ _ ((xs.drop 2).take 2) (sub_len _ _ _ (by have := HN.out; omega)) (by omega) (isB_sub HX.out _ _) _ (rd_sub HR2.out (by have := B2.out.size; omega) 2 2 (by omega))).mono ?_
  rintro e w' ⟨rfl, rfl⟩
  generalize hL2 : leN ((xs.drop 2).take 2) = l2 at *
  have HL2 := Lib.hid hL2
  clear hL2
  have g16 := G16.out
  go_wp2_with fail
  clear g16 f3 c0 c1 c2 c3 c4
  have B3 : Hid (Below w.heap.size w (w2.setCell ⟨w.heap.size + 1, 3, none⟩ (.int .i64 (s16 l2)))) := Lib.hid (B2.out.setCell (by simp) _)
  have K3 : Hid (Bk (w2.setCell ⟨w.heap.size + 1, 3, none⟩ (.int .i64 (s16 l2))) (w.heap.size + 1) 23 #[.int .i64 y0, .int .i64 (y1 % 16), .int .i64 (y1 / 16), .int .i64 (s16 l2), .int .i64 0]) := Lib.hid (K2.out.set_ 3 _)
  have R3 : Hid (Bk (w2.setCell ⟨w.heap.size + 1, 3, none⟩ (.int .i64 (s16 l2))) w.heap.size 23 #[.int .i64 0, .int .i64 0, .int .i64 0, .int .i64 0, .int .i64 0]) := Lib.hid (R2.out.far (by simp) _)
  have HR3 : Hid (∀ j u, (bv xs)[j]? = some u → (w2.setCell ⟨w.heap.size + 1, 3, none⟩ (.int .i64 (s16 l2))).cell? (ad.add j) = some u) := Lib.hid (hr_far HR2.out hB _)
  generalize (w2.setCell ⟨w.heap.size + 1, 3, none⟩ (.int .i64 (s16 l2))) = w3 at *
  clear B2 K2 R2 HR2
  obtain ⟨c0, c1, c2, c3, c4⟩ := box_cells K3.out
  have f4 := K3.out.frozen 4
  refine (le_any _ _ _ ((xs.drop 4).take 4) (sub_len _ _ _ (by have := HN.out; omega)) (by omega) (isB_sub HX.out _ _) _ (rd_sub HR3.out (by have := B3.out.size; omega) 4 4 (by omega))).mono ?_
  rintro e w' ⟨rfl, rfl⟩
  generalize hL4 : leN ((xs.drop 4).take 4) = l4 at *
  have HL4 := Lib.hid hL4
  clear hL4
  have g32 := G32.out
  go_wp2_with fail
  clear g32 f4 c0 c1 c2 c3 c4
  have B4 : Hid (Below w.heap.size w (w3.setCell ⟨w.heap.size + 1, 4, none⟩ (.int .i64 (s32 l4)))) := Lib.hid (B3.out.setCell (by simp) _)
  have K4 : Hid (Bk (w3.setCell ⟨w.heap.size + 1, 4, none⟩ (.int .i64 (s32 l4))) (w.heap.size + 1) 23 #[.int .i64 y0, .int .i64 (y1 % 16), .int .i64 (y1 / 16), .int .i64 (s16 l2), .int .i64 (s32 l4)]) := Lib.hid (K3.out.set_ 4 _)
  have R4 : Hid (Bk (w3.setCell ⟨w.heap.size + 1, 4, none⟩ (.int .i64 (s32 l4))) w.heap.size 23 #[.int .i64 0, .int .i64 0, .int .i64 0, .int .i64 0, .int .i64 0]) := Lib.hid (R3.out.far (by simp) _)
  have HR4_ : Hid (∀ j u, (bv xs)[j]? = some u → (w3.setCell ⟨w.heap.size + 1, 4, none⟩ (.int .i64 (s32 l4))).cell? (ad.add j) = some u) := Lib.hid (hr_far HR3.out hB _)
  generalize (w3.setCell ⟨w.heap.size + 1, 4, none⟩ (.int .i64 (s32 l4))) = w4 at *
  have HR4 : Hid (∀ j u, (bv xs)[j]? = some u → w4.cell? (ad.add j) = some u) := HR4_
  clear B3 K3 R3 HR3 HR4_
  refine (le_any _ _ _ ((xs.drop 8).take 4) (sub_len _ _ _ (by have := HN.out; omega)) (by omega) (isB_sub HX.out _ _) _ (rd_sub HR4.out (by have := B4.out.size; omega) 8 4 (by omega))).mono ?_
  rintro e w' ⟨rfl, rfl⟩
  generalize hL8 : leN ((xs.drop 8).take 4) = l8 at *
  have HL8 := Lib.hid hL8
  clear hL8
  obtain ⟨c0, c1, c2, c3, c4⟩ := box_cells K4.out
  have f4 := K4.out.frozen 4
  by_cases h0 : l8 = 0
  · subst h0
    go_wp2_with fail
    have D4 := Lib.hid (rd_drew (rd_sub HR4.out (by have := B4.out.size; omega : ad.block < w4.heap.size) 4 4 (by omega)))
    have D12 := Lib.hid (rd_drew (rd_sub HR4.out (by have := B4.out.size; omega : ad.block < w4.heap.size) 12 4 (by omega)))
    obtain ⟨l12, hl12⟩ : ∃ l, leN ((xs.drop 12).take 4) = l := ⟨_, rfl⟩
    have hl4 := HL4.out
    have HL12 := Lib.hid hl12
    have G64 : Hid (wrap64 (bits BinOp.or IntKind.u64 l4 (IntKind.u64.wrap (l12 * 4294967296))) = s64 (l4 + 4294967296 * l12)) := Lib.hid (by
      have b4 := leN_bd _ (isB_sub HX.out 4 4)
      have b12 := leN_bd _ (isB_sub HX.out 12 4)
      rw [sub_len _ _ _ (by have := HN.out; omega), hl4] at b4
      rw [sub_len _ _ _ (by have := HN.out; omega), hl12] at b12
      rw [or_half l4 l12 b4.1 b4.2 b12.1 b12.2, w64s])
    have n8 : (8 : Int) ≤ (c : Int) := by omega
    have n16 : (16 : Int) ≤ (c : Int) := by omega
    have k4 : ¬ c = 4 := by omega
    have k12 : ¬ c = 12 := by omega
    refine wp_region_still_tail 11 (by kernel_rfl) (by decide +kernel) ?_
    simp only [List.take_succ_cons, List.take_zero, List.drop_succ_cons, List.drop_zero]
    still_step
    still_step
    still_call (le_still _ _ _ ((xs.drop 4).take 4) (sub_len _ _ _ (by have := HN.out; omega)) (by omega) (isB_sub HX.out _ _) _ D4.out)
    still_step
    still_step
    still_step
    still_call (le_still _ _ _ ((xs.drop 12).take 4) (sub_len _ _ _ (by have := HN.out; omega)) (by omega) (isB_sub HX.out _ _) _ D12.out)
    still_step
    still_step
    still_step
    still_step
    refine wpStill_nil ?_
    change wpList _ _ _ _ _ w4.drew
    clear c0 c1 c2 c3 c4 f4
    have K5 := Lib.hid K4.out.drew
    have R5 := Lib.hid R4.out.drew
    have B5 := Lib.hid B4.out.drew
    clear hl4 hl12 D4 D12 HR4 B4 K4 R4
    generalize w4.drew = w5 at *
    obtain ⟨c0, c1, c2, c3, c4⟩ := box_cells K5.out
    have f4 := K5.out.frozen 4
    have g64 := G64.out
    go_wp2_with fail
    clear g64 f4 c0 c1 c2 c3 c4
    have B6 : Hid (Below w.heap.size w (w5.setCell ⟨w.heap.size + 1, 4, none⟩ (.int .i64 (s64 (l4 + 4294967296 * l12))))) := Lib.hid (B5.out.setCell (by simp) _)
    have K6 : Hid (Bk (w5.setCell ⟨w.heap.size + 1, 4, none⟩ (.int .i64 (s64 (l4 + 4294967296 * l12)))) (w.heap.size + 1) 23 #[.int .i64 y0, .int .i64 (y1 % 16), .int .i64 (y1 / 16), .int .i64 (s16 l2), .int .i64 (s64 (l4 + 4294967296 * l12))]) := Lib.hid (K5.out.set_ 4 _)
    have R6 : Hid (Bk (w5.setCell ⟨w.heap.size + 1, 4, none⟩ (.int .i64 (s64 (l4 + 4294967296 * l12)))) w.heap.size 23 #[.int .i64 0, .int .i64 0, .int .i64 0, .int .i64 0, .int .i64 0]) := Lib.hid (R5.out.far (by simp) _)
    generalize (w5.setCell ⟨w.heap.size + 1, 4, none⟩ (.int .i64 (s64 (l4 + 4294967296 * l12)))) = w6 at *
    clear B5 K5 R5
    have hdec : decV xs = ⟨y0, y1 % 16, y1 / 16, s16 l2, s64 (l4 + 4294967296 * l12)⟩ := by
      have q0 := Q24.out
      unfold decV; rw [← E0.out, ← E1.out, HL2.out, HL4.out, HL12.out, if_pos q0]
    have hfe : fstE xs = chkV y0 (y1 % 16) (y1 / 16) (s16 l2) (s64 (l4 + 4294967296 * l12)) := by
      have q0 := Q24.out
      unfold fstE; rw [← E0.out, es, hdec, if_neg (by have := HN.out; omega), if_neg (by rw [HL8.out]; simp)]; rfl
    have HD := Lib.hid hdec
    have HF := Lib.hid hfe
    clear hdec hfe
    generalize s16 l2 = o2 at *
    generalize s64 (l4 + 4294967296 * l12) = o4 at *
    refine (check_any _ _ _ _ _ _).mono ?_
    rintro e w7 ⟨rfl, q5⟩
    have B7 := Lib.hid (below_then B6.out q5 (Nat.le_refl _))
    have K7 := Lib.hid (K6.out.below q5 K6.out.lt)
    have R7 := Lib.hid (R6.out.below q5 R6.out.lt)
    clear q5 B6 K6 R6
    obtain ⟨c0, c1, c2, c3, c4⟩ := box_cells K7.out
    obtain ⟨r0, r1, r2, r3, r4⟩ := box_cells R7.out
    obtain ⟨f0, f1, f2, f3, f4⟩ := box_frozen R7.out
    by_cases hz : chkV y0 (y1 % 16) (y1 / 16) o2 o4 = 0
    · have HZ := Lib.hid hz
      go_wp2
      have R8 : Bk (((((w7.setCell ⟨w.heap.size, 0, none⟩ (.int .i64 y0)).setCell ⟨w.heap.size, 1, none⟩ (.int .i64 (y1 % 16))).setCell ⟨w.heap.size, 2, none⟩ (.int .i64 (y1 / 16))).setCell ⟨w.heap.size, 3, none⟩ (.int .i64 o2)).setCell ⟨w.heap.size, 4, none⟩ (.int .i64 o4)) w.heap.size 23 #[.int .i64 y0, .int .i64 (y1 % 16), .int .i64 (y1 / 16), .int .i64 o2, .int .i64 o4] := ((((R7.out.set_ 0 _).set_ 1 _).set_ 2 _).set_ 3 _).set_ 4 _
      have B8 : Below w.heap.size w (((((w7.setCell ⟨w.heap.size, 0, none⟩ (.int .i64 y0)).setCell ⟨w.heap.size, 1, none⟩ (.int .i64 (y1 % 16))).setCell ⟨w.heap.size, 2, none⟩ (.int .i64 (y1 / 16))).setCell ⟨w.heap.size, 3, none⟩ (.int .i64 o2)).setCell ⟨w.heap.size, 4, none⟩ (.int .i64 o4)) := ((((B7.out.setCell (Nat.le_refl _) _).setCell (Nat.le_refl _) _).setCell (Nat.le_refl _) _).setCell (Nat.le_refl _) _).setCell (Nat.le_refl _) _
      generalize (((((w7.setCell ⟨w.heap.size, 0, none⟩ (.int .i64 y0)).setCell ⟨w.heap.size, 1, none⟩ (.int .i64 (y1 % 16))).setCell ⟨w.heap.size, 2, none⟩ (.int .i64 (y1 / 16))).setCell ⟨w.heap.size, 3, none⟩ (.int .i64 o2)).setCell ⟨w.heap.size, 4, none⟩ (.int .i64 o4)) = w8 at *
      obtain ⟨s0, s1, s2, s3, s4⟩ := box_cells R8
      refine bodyPost_ret (v := .tuple #[.agg #[.int .i64 y0, .int .i64 (y1 % 16), .int .i64 (y1 / 16), .int .i64 o2, .int .i64 o4], .int .i64 16, .int .i64 0]) ?_ rfl ⟨?_, B8⟩
      · simp [results, Try.results44, go_sem, s0, s1, s2, s3, s4]
      · have e0 : fstE xs = 0 := by rw [HF.out]; exact HZ.out
        have e1 : fstX xs = decV xs := if_pos e0
        have e2 : fstN xs = 16 := by unfold fstN; rw [if_pos e0, ← E0.out, es]; rfl
        rw [e0, e1, e2, HD.out]; rfl
    · have HZ := Lib.hid hz
      have ez : (chkV y0 (y1 % 16) (y1 / 16) o2 o4 != 0) = true := bne_iff_ne.2 hz
      clear hz
      go_wp2
      have R8 : Bk (((((w7.setCell ⟨w.heap.size, 0, none⟩ (.int .i64 0)).setCell ⟨w.heap.size, 1, none⟩ (.int .i64 0)).setCell ⟨w.heap.size, 2, none⟩ (.int .i64 0)).setCell ⟨w.heap.size, 3, none⟩ (.int .i64 0)).setCell ⟨w.heap.size, 4, none⟩ (.int .i64 0)) w.heap.size 23 #[.int .i64 0, .int .i64 0, .int .i64 0, .int .i64 0, .int .i64 0] := ((((R7.out.set_ 0 _).set_ 1 _).set_ 2 _).set_ 3 _).set_ 4 _
      have B8 : Below w.heap.size w (((((w7.setCell ⟨w.heap.size, 0, none⟩ (.int .i64 0)).setCell ⟨w.heap.size, 1, none⟩ (.int .i64 0)).setCell ⟨w.heap.size, 2, none⟩ (.int .i64 0)).setCell ⟨w.heap.size, 3, none⟩ (.int .i64 0)).setCell ⟨w.heap.size, 4, none⟩ (.int .i64 0)) := ((((B7.out.setCell (Nat.le_refl _) _).setCell (Nat.le_refl _) _).setCell (Nat.le_refl _) _).setCell (Nat.le_refl _) _).setCell (Nat.le_refl _) _
      generalize (((((w7.setCell ⟨w.heap.size, 0, none⟩ (.int .i64 0)).setCell ⟨w.heap.size, 1, none⟩ (.int .i64 0)).setCell ⟨w.heap.size, 2, none⟩ (.int .i64 0)).setCell ⟨w.heap.size, 3, none⟩ (.int .i64 0)).setCell ⟨w.heap.size, 4, none⟩ (.int .i64 0)) = w8 at *
      obtain ⟨s0, s1, s2, s3, s4⟩ := box_cells R8
      refine bodyPost_ret (v := .tuple #[.agg #[.int .i64 0, .int .i64 0, .int .i64 0, .int .i64 0, .int .i64 0], .int .i64 0, .int .i64 (chkV y0 (y1 % 16) (y1 / 16) o2 o4)]) ?_ rfl ⟨?_, B8⟩
      · simp [results, Try.results44, go_sem, s0, s1, s2, s3, s4]
      · have e0 : fstE xs ≠ 0 := by rw [HF.out]; exact HZ.out
        have e1 : fstX xs = ⟨0, 0, 0, 0, 0⟩ := if_neg e0
        have e2 : fstN xs = 0 := if_neg e0
        rw [e1, e2, HF.out]; rfl
  · have HZ := Lib.hid h0
    have ez : (l8 != 0) = true := bne_iff_ne.2 h0
    clear h0 f4
    have B5 := B4
    have R5 := R4
    clear B4 R4
    obtain ⟨r0, r1, r2, r3, r4⟩ := box_cells R5.out
    obtain ⟨f0, f1, f2, f3, f4⟩ := box_frozen R5.out
    go_wp2
    have R6 : Bk (((((w4.setCell ⟨w.heap.size, 0, none⟩ (.int .i64 0)).setCell ⟨w.heap.size, 1, none⟩ (.int .i64 0)).setCell ⟨w.heap.size, 2, none⟩ (.int .i64 0)).setCell ⟨w.heap.size, 3, none⟩ (.int .i64 0)).setCell ⟨w.heap.size, 4, none⟩ (.int .i64 0)) w.heap.size 23 #[.int .i64 0, .int .i64 0, .int .i64 0, .int .i64 0, .int .i64 0] := ((((R5.out.set_ 0 _).set_ 1 _).set_ 2 _).set_ 3 _).set_ 4 _
    have B6 : Below w.heap.size w (((((w4.setCell ⟨w.heap.size, 0, none⟩ (.int .i64 0)).setCell ⟨w.heap.size, 1, none⟩ (.int .i64 0)).setCell ⟨w.heap.size, 2, none⟩ (.int .i64 0)).setCell ⟨w.heap.size, 3, none⟩ (.int .i64 0)).setCell ⟨w.heap.size, 4, none⟩ (.int .i64 0)) := ((((B5.out.setCell (Nat.le_refl _) _).setCell (Nat.le_refl _) _).setCell (Nat.le_refl _) _).setCell (Nat.le_refl _) _).setCell (Nat.le_refl _) _
    generalize (((((w4.setCell ⟨w.heap.size, 0, none⟩ (.int .i64 0)).setCell ⟨w.heap.size, 1, none⟩ (.int .i64 0)).setCell ⟨w.heap.size, 2, none⟩ (.int .i64 0)).setCell ⟨w.heap.size, 3, none⟩ (.int .i64 0)).setCell ⟨w.heap.size, 4, none⟩ (.int .i64 0)) = w6 at *
    obtain ⟨s0, s1, s2, s3, s4⟩ := box_cells R6
    refine bodyPost_ret (v := .tuple #[.agg #[.int .i64 0, .int .i64 0, .int .i64 0, .int .i64 0, .int .i64 0], .int .i64 0, .int .i64 6]) ?_ rfl ⟨?_, B6⟩
    · simp [results, Try.results44, go_sem, s0, s1, s2, s3, s4]
    · have hfe : fstE xs = 6 := by
        have q0 := Q24.out
        unfold fstE; rw [← E0.out, es, if_neg (by have := HN.out; omega), if_pos ⟨q0, by rw [HL8.out]; exact HZ.out⟩]
      have e0 : fstE xs ≠ 0 := by rw [hfe]; decide
      have e1 : fstX xs = ⟨0, 0, 0, 0, 0⟩ := if_neg e0
      have e2 : fstN xs = 0 := if_neg e0
      rw [e1, e2, hfe]; rfl
theorem first_short (ad : Addr) (n c : Nat) (xs : List Int) (hn : xs.length = n) (h1 : 1 ≤ n) (h8 : (n : Int) < 8 * sizeV (xs.getD 0 0)) (hc : n ≤ c) (hm : c ≤ 9223372036854775807) (hx : isB xs) (w : World) (hab : ad.block < w.heap.size) (hr : ∀ j u, (bv xs)[j]? = some u → w.cell? (ad.add j) = some u) :
    Calls Try.prog 44 #[.slice (some ad) n c] w fun e w' => e = .returned (.tuple #[(fstX xs).val, .int .i64 (fstN xs), .int .i64 (fstE xs)]) ∧ Below w.heap.size w w' := by
  have HN := Lib.hid hn
  have hfe : fstE xs = 2 := by unfold fstE; rw [if_pos (by have := HN.out; omega)]
  have e0 : fstE xs ≠ 0 := by rw [hfe]; decide
  have e1 : fstX xs = ⟨0, 0, 0, 0, 0⟩ := if_neg e0
  have e2 : fstN xs = 0 := if_neg e0
  rw [e1, e2, hfe]
  clear e0 e1 e2 hfe
  have b0 := hr 0 _ (bv_at xs 0 (by omega))
  have a0 : ad.add 0 = ad := by unfold Addr.add; simp
  have d0 := isB_at xs hx 0
  rw [a0] at b0
  obtain ⟨y0, e0⟩ : ∃ y, y = xs.getD 0 0 := ⟨_, rfl⟩
  rw [← e0] at b0 d0 h8
  have hs : sizeV y0 = 1 ∨ sizeV y0 = 2 := by unfold sizeV; split <;> simp
  clear hn hx hr a0 e0
  rcases hs with es | es
  all_goals
    rw [es] at h8
    go_enter Try.func44, Try.ntmps44
    go_wp2_with fail
    refine (size_any _ _ _ _ _ _).mono ?_
    rintro e w1 ⟨rfl, q1⟩
    have B1 := Lib.hid (below_box (below_box q1))
    have R1 : Hid (Bk w1 w.heap.size 23 #[.int .i64 0, .int .i64 0, .int .i64 0, .int .i64 0, .int .i64 0]) := Lib.hid (((Bk.new w 23 #[.int .i64 0, .int .i64 0, .int .i64 0, .int .i64 0, .int .i64 0]).alloc (.cells #[.int .i64 y0, .int .i64 0, .int .i64 0, .int .i64 0, .int .i64 0] 23)).below q1 (by simp; omega))
    clear q1
    obtain ⟨r0, r1, r2, r3, r4⟩ := box_cells R1.out
    obtain ⟨f0, f1, f2, f3, f4⟩ := box_frozen R1.out
    go_wp2
    have R6 : Bk (((((w1.setCell ⟨w.heap.size, 0, none⟩ (.int .i64 0)).setCell ⟨w.heap.size, 1, none⟩ (.int .i64 0)).setCell ⟨w.heap.size, 2, none⟩ (.int .i64 0)).setCell ⟨w.heap.size, 3, none⟩ (.int .i64 0)).setCell ⟨w.heap.size, 4, none⟩ (.int .i64 0)) w.heap.size 23 #[.int .i64 0, .int .i64 0, .int .i64 0, .int .i64 0, .int .i64 0] := ((((R1.out.set_ 0 _).set_ 1 _).set_ 2 _).set_ 3 _).set_ 4 _
    have B6 : Below w.heap.size w (((((w1.setCell ⟨w.heap.size, 0, none⟩ (.int .i64 0)).setCell ⟨w.heap.size, 1, none⟩ (.int .i64 0)).setCell ⟨w.heap.size, 2, none⟩ (.int .i64 0)).setCell ⟨w.heap.size, 3, none⟩ (.int .i64 0)).setCell ⟨w.heap.size, 4, none⟩ (.int .i64 0)) := ((((B1.out.setCell (Nat.le_refl _) _).setCell (Nat.le_refl _) _).setCell (Nat.le_refl _) _).setCell (Nat.le_refl _) _).setCell (Nat.le_refl _) _
    generalize (((((w1.setCell ⟨w.heap.size, 0, none⟩ (.int .i64 0)).setCell ⟨w.heap.size, 1, none⟩ (.int .i64 0)).setCell ⟨w.heap.size, 2, none⟩ (.int .i64 0)).setCell ⟨w.heap.size, 3, none⟩ (.int .i64 0)).setCell ⟨w.heap.size, 4, none⟩ (.int .i64 0)) = w6 at *
    obtain ⟨s0, s1, s2, s3, s4⟩ := box_cells R6
    refine bodyPost_ret (v := .tuple #[.agg #[.int .i64 0, .int .i64 0, .int .i64 0, .int .i64 0, .int .i64 0], .int .i64 0, .int .i64 2]) ?_ rfl ⟨rfl, B6⟩
    simp [results, Try.results44, go_sem, s0, s1, s2, s3, s4]
theorem first_any (ad : Addr) (n c : Nat) (xs : List Int) (hn : xs.length = n) (h1 : 1 ≤ n) (hc : n ≤ c) (hm : c ≤ 9223372036854775807) (hx : isB xs) (w : World) (hab : ad.block < w.heap.size) (hr : ∀ j u, (bv xs)[j]? = some u → w.cell? (ad.add j) = some u) :
    Calls Try.prog 44 #[.slice (some ad) n c] w fun e w' => e = .returned (.tuple #[(fstX xs).val, .int .i64 (fstN xs), .int .i64 (fstE xs)]) ∧ Below w.heap.size w w' := by
  by_cases h8 : (n : Int) < 8 * sizeV (xs.getD 0 0)
  · exact first_short ad n c xs hn h1 h8 hc hm hx w hab hr
  · by_cases h24 : xs.getD 0 0 = 24
    · have e : sizeV (xs.getD 0 0) = 2 := if_pos h24
      exact first_wide ad n c xs hn (by omega) hc hm hx h24 w hab hr
    · have e : sizeV (xs.getD 0 0) = 1 := if_neg h24
      exact first_narrow ad n c xs hn (by omega) hc hm hx h24 w hab hr
end Go.Proofs.Ytlimhdnpdhjdaaa
