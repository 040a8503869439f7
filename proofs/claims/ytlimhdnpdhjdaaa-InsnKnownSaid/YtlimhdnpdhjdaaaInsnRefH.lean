/-
  What the document's answer of layer 2 makes of bytes (Get): contract. Conditions: the bytes are bytes.
-/
import Derived.Test.YtlimhdnpdhjdaaaInsnRefG
import Derived.Deep.DeepCutAuto
import Derived.Deep.RegionHeld3
namespace Go.Proofs.Ytlimhdnpdhjdaaa
open Go.RowKit Wi Ow
set_option linter.unusedVariables false
set_option linter.unusedSimpArgs false

theorem signed_still (A : Option Addr) (n c : Nat) (xs : List Int) (hn : xs.length = n) (h8 : n = 2 ∨ n = 4 ∨ n = 8) (hx : isB xs) (w : World) (hr : Rd w w.heap.size A (bv xs)) :
    Calls Try.prog 45 #[.slice A n c] w fun e w' => e = .returned (.int .i64 (sgV xs)) ∧ w' = w := (signed_loop A n c xs hn h8 hx w hr).mono fun _ _ h => ⟨h.1, h.2.symm⟩
/-- The instructions so far, and what is left. -/
structure RG (xs : List Int) (w : World) (l : Value) (wr : World) (p f : Nat) (L : List In) : Prop where
  own : wr.ownsRow w.heap.size 23 5 l L.length (iv L)
  few : L.length ≤ 256
  below : Below w.heap.size w wr
  fuel : (xs.drop p).length ≤ f
  is : getF xs.length 0 xs = (L ++ (getF f L.length (xs.drop p)).1, (getF f L.length (xs.drop p)).2)
theorem rg_short {xs : List Int} {w wr : World} {l : Value} {p f : Nat} {L : List In} (h : RG xs w l wr p f L) (hp : p < xs.length) (hL : ¬ L.length = 256) (he : fstE (xs.drop p) ≠ 0) : getE xs = fstE (xs.drop p) ∧ getO xs = [] := by
  have hne : xs.drop p ≠ [] := by
    intro e
    have := congrArg List.length e
    rw [List.length_drop] at this
    simp at this
    omega
  have e1 : getE xs = fstE (xs.drop p) := by unfold getE; rw [h.is, getF_bad f L.length _ hne h.fuel hL he]
  exact ⟨e1, by unfold getO; rw [e1, if_neg he]⟩
/-- The bytes from p + lo on, as the cut slice reads. -/
theorem rd_at {w : World} {ad : Addr} {xs : List Int} {B : Nat} (hr : ∀ j u, (bv xs)[j]? = some u → w.cell? (ad.add j) = some u) (hab : ad.block < B) (lo len : Nat) : Rd w B (some (ad.add lo)) (bv ((xs.drop lo).take len)) := fun _ => by
  refine ⟨_, rfl, by rw [add_block]; exact hab, fun j u hu => ?_⟩
  rw [add_twice]
  refine hr _ u ?_
  unfold bv at hu ⊢
  rw [List.map_take, List.map_drop, List.getElem?_take] at hu
  split at hu
  · rw [List.getElem?_drop] at hu; exact hu
  · cases hu
theorem drop_getD (xs : List Int) (p i : Nat) : (xs.drop p).getD i 0 = xs.getD (p + i) 0 := by
  simp [List.getD_eq_getElem?_getD, List.getElem?_drop]
theorem sgV2 (xs : List Int) (h : xs.length = 2) : sgV xs = s16 (leN xs) := by unfold sgV; rw [if_pos h]
theorem sgV4 (xs : List Int) (h : xs.length = 4) : sgV xs = s32 (leN xs) := by unfold sgV; rw [if_neg (by omega), if_pos h]
theorem sgV8 (xs : List Int) (h : xs.length = 8) : sgV xs = s64 (leN xs) := by unfold sgV; rw [if_neg (by omega), if_neg (by omega)]
theorem leN_app4 (a b : List Int) (h : a.length = 4) : leN (a ++ b) = leN a + 4294967296 * leN b := by
  match a, h with
  | [a0, a1, a2, a3], _ => simp only [List.cons_append, List.nil_append, leN]; omega
theorem dec_narrow (xs : List Int) (p : Nat) (hp : p + 8 ≤ xs.length) (h24 : ¬ xs.getD p 0 = 24) :
    decV (xs.drop p) = ⟨xs.getD p 0, xs.getD (p + 1) 0 % 16, xs.getD (p + 1) 0 / 16, sgV ((xs.drop (p + 2)).take 2), sgV ((xs.drop (p + 4)).take 4)⟩ ∧ fstE (xs.drop p) = (decV (xs.drop p)).chk ∧ sizeV (xs.getD p 0) = 1 := by
  have hs : sizeV (xs.getD p 0) = 1 := if_neg h24
  refine ⟨?_, ?_, hs⟩
  · unfold decV
    rw [drop_getD, drop_getD, Nat.add_zero, if_neg h24, List.drop_drop, List.drop_drop, sgV2 _ (sub_len _ _ _ (by omega)), sgV4 _ (sub_len _ _ _ (by omega))]
  · unfold fstE
    rw [drop_getD, Nat.add_zero, hs, if_neg (by rw [List.length_drop]; omega), if_neg (by rintro ⟨h, _⟩; exact h24 h)]
theorem dec_wide (xs : List Int) (p : Nat) (hp : p + 16 ≤ xs.length) (h24 : xs.getD p 0 = 24) :
    decV (xs.drop p) = ⟨xs.getD p 0, xs.getD (p + 1) 0 % 16, xs.getD (p + 1) 0 / 16, sgV ((xs.drop (p + 2)).take 2), sgV ((xs.drop (p + 4)).take 4 ++ (xs.drop (p + 12)).take 4)⟩ ∧ fstE (xs.drop p) = (if leN ((xs.drop (p + 8)).take 4) ≠ 0 then 6 else (decV (xs.drop p)).chk) ∧ sizeV (xs.getD p 0) = 2 := by
  have hs : sizeV (xs.getD p 0) = 2 := if_pos h24
  have l4 := sub_len xs (p + 4) 4 (by omega)
  have l12 := sub_len xs (p + 12) 4 (by omega)
  refine ⟨?_, ?_, hs⟩
  · unfold decV
    rw [drop_getD, drop_getD, Nat.add_zero, if_pos h24, List.drop_drop, List.drop_drop, List.drop_drop, sgV2 _ (sub_len _ _ _ (by omega)), sgV8 _ (by rw [List.length_append, l4, l12]), leN_app4 _ _ l4]
  · unfold fstE
    rw [drop_getD, Nat.add_zero, hs, if_neg (by rw [List.length_drop]; omega), List.drop_drop]
    by_cases hz : leN ((xs.drop (p + 8)).take 4) = 0
    · rw [if_neg (by rintro ⟨_, h⟩; exact h hz), if_neg (by simpa using hz)]
    · rw [if_pos ⟨h24, hz⟩, if_pos hz]
theorem rg_step {xs : List Int} {w wr w2 : World} {l v2 : Value} {p f N : Nat} {L : List In} {x : In} (h : RG xs w l wr p f L) (he : fstE (xs.drop p) = 0) (hX : decV (xs.drop p) = x) (hN : 8 * sizeV (xs.getD p 0) = (N : Int)) (hL : ¬ L.length = 256)
    (hB : Below w.heap.size w w2) (ho : w2.ownsRow w.heap.size 23 5 v2 (L.length + 1) (iv L ++ x.cells)) : ∃ f', RG xs w v2 w2 (p + N) f' (L ++ [x]) := by
  have hne : xs.drop p ≠ [] := by
    intro e
    have h1 := (fstN_ok _ he).2
    have h2 := sizeV_bd ((xs.drop p).getD 0 0)
    rw [e] at h1 h2
    simp only [List.length_nil] at h1
    omega
  obtain ⟨f', hf, hf'⟩ := getF_ok f L.length _ hne h.fuel hL he
  have eX : fstX (xs.drop p) = x := by unfold fstX; rw [if_pos he]; exact hX
  have eN : (fstN (xs.drop p)).toNat = N := by rw [(fstN_ok _ he).1, drop_getD, Nat.add_zero]; omega
  rw [eN, eX, List.drop_drop] at hf
  rw [eN, List.drop_drop] at hf'
  refine ⟨f', own_cast ho (by simp) (by rw [iv_app]; simp [iv]), by have := h.few; simp; omega, hB, hf', ?_⟩
  rw [h.is, hf]; simp
theorem rg_more {xs : List Int} {w w2 w3 : World} {v : Value} {p : Nat} {L : List In} (h : ∃ f, RG xs w v w2 p f L) (q : Below w2.heap.size w2 w3) : ∃ f, RG xs w v w3 p f L := by
  obtain ⟨f, h⟩ := h
  exact ⟨f, own_below h.own q, h.few, below_then h.below q (Nat.le_refl _), h.fuel, h.is⟩
theorem take4 (xs : List Int) (q : Nat) (h : q + 4 ≤ xs.length) : (xs.drop q).take 4 = [xs.getD q 0, xs.getD (q + 1) 0, xs.getD (q + 2) 0, xs.getD (q + 3) 0] := by
  apply List.ext_getElem?
  intro i
  have hd : ∀ j, q + j < xs.length → xs[q + j]? = some (xs.getD (q + j) 0) := fun j hj => by simp [List.getD_eq_getElem?_getD, hj]
  match i with
  | 0 => rw [List.getElem?_take, if_pos (by omega), List.getElem?_drop, hd 0 (by omega)]; rfl
  | 1 => rw [List.getElem?_take, if_pos (by omega), List.getElem?_drop, hd 1 (by omega)]; rfl
  | 2 => rw [List.getElem?_take, if_pos (by omega), List.getElem?_drop, hd 2 (by omega)]; rfl
  | 3 => rw [List.getElem?_take, if_pos (by omega), List.getElem?_drop, hd 3 (by omega)]; rfl
  | j + 4 => rw [List.getElem?_take, if_neg (by omega)]; rfl
theorem add_pos (ad : Addr) (m : Nat) (h : 0 < m) : ad.add m = ⟨ad.block, ad.off + m, none⟩ := by unfold Addr.add; rw [if_neg (by omega)]
theorem sgrd {wr W : World} {A : Option Addr} {ys : List Value} {P Q : Prop} (hD : Rd wr wr.heap.size A ys) (h : P ∧ Q ∧ Below wr.heap.size wr W) : Rd W W.heap.size A ys := (hD.below h.2.2).mono h.2.2.size
theorem sk_alloc {wr W : World} {a b : Addr} {u v : Value} {o : Obj} (ha : a.block < wr.heap.size) (hb : b.block < wr.heap.size) (h : W.cell? a = some u ∧ W.cell? b = some v ∧ Below wr.heap.size wr W) : (W.alloc o).cell? a = some u ∧ (W.alloc o).cell? b = some v ∧ Below wr.heap.size wr (W.alloc o) := by
  have hs := h.2.2.size
  exact ⟨(World.cell?_alloc_lt W o a (by omega)).trans h.1, (World.cell?_alloc_lt W o b (by omega)).trans h.2.1, h.2.2.alloc hs o⟩
theorem sk_drew {wr W : World} {a b : Addr} {u v : Value} (h : W.cell? a = some u ∧ W.cell? b = some v ∧ Below wr.heap.size wr W) : W.drew.cell? a = some u ∧ W.drew.cell? b = some v ∧ Below wr.heap.size wr W.drew := ⟨h.1, h.2.1, h.2.2.drew⟩
set_option maxRecDepth 100000 in
set_option maxHeartbeats 8000000 in
theorem refget_any (A : Option Addr) (n c : Nat) (xs : List Int) (hn : xs.length = n) (hc : n ≤ c) (hm : n ≤ 1000000000) (hx : isB xs) (w : World) (hr : Rd w w.heap.size A (bv xs)) :
    Calls Try.prog 26 #[.slice A n c] w fun e w' => ∃ v, e = .returned (.tuple #[v, .int .i64 (getE xs)]) ∧ w'.ownsRow w.heap.size 23 5 v (getO xs).length (iv (getO xs)) ∧ Below w.heap.size w w' := by
  obtain ⟨i0, hi0, hz0, hz1, hz2⟩ := info_parts insn_info
  obtain ⟨j0, hj0, hy0, hy1, hy2⟩ := info_parts byte_info
  have HN := Lib.hid hn
  have HX := Lib.hid hx
  have HR := Lib.hid hr
  have R0 : Hid (RG xs w (.slice none 0 0) w 0 xs.length []) := Lib.hid ⟨World.ownsRow_nil _ _ _ _, by simp, Below.refl _ _, by simp, by simp⟩
  clear hn hx hr
  go_enter Try.func26, Try.ntmps26
  go_wp2
  go_loopw [4, 5] (fun l i wr => ∃ (p f : Nat) (L : List In), p ≤ n ∧ i = .int .i64 p ∧ Hid (RG xs w l wr p f L)) (fun _ i _ => n - (intOf i).toNat)
  case atStart => exact ⟨0, _, [], Nat.zero_le _, rfl, R0⟩
  case round =>
    clear R0
    obtain ⟨p, f, L, hp, rfl, hG⟩ := hrel
    by_cases hlt : p < n
    · obtain ⟨ad, rfl, hab, hcl⟩ := (HR.out.below hG.out.below) (by rw [bv_len, HN.out]; omega)
      obtain ⟨lA, lc, rfl, hlc, hlm, _⟩ := own_form hG.out.own
      have HCL := Lib.hid hcl
      have hfew := hG.out.few
      have hsz := Lib.hid hG.out.below.size
      clear hcl
      by_cases h256 : L.length = 256
      · have h256' : 256 ≤ L.length := by omega
        have HLL := Lib.hid h256
        clear h256
        go_wp2
        go_ret2
        have hne : xs.drop p ≠ [] := by
          intro e
          have := congrArg List.length e
          rw [List.length_drop, HN.out] at this
          simp at this
          omega
        have e1 : getE xs = 9 := by unfold getE; rw [hG.out.is, HLL.out, getF_many f _ hne hG.out.fuel]
        have e2 : getO xs = [] := by unfold getO; rw [e1]; rfl
        exact ⟨.slice none 0 0, by rw [e1]; rfl, by rw [e2]; exact World.ownsRow_nil _ _ _ _, hG.out.below⟩
      · have h256' : L.length < 256 := by omega
        have HLL := Lib.hid h256
        clear h256
        by_cases h8 : n - p < 8
        · have HSH : Hid (fstE (xs.drop p) = 2) := Lib.hid (by
            have hs := sizeV_bd ((xs.drop p).getD 0 0)
            unfold fstE
            rw [if_pos (by rw [List.length_drop, HN.out]; omega)])
          go_wp2
          go_ret2
          obtain ⟨e1, e2⟩ := rg_short hG.out (by rw [HN.out]; exact hlt) HLL.out (by rw [HSH.out]; decide)
          refine ⟨.slice none 0 0, ?_, by rw [e2]; exact World.ownsRow_nil _ _ _ _, hG.out.below⟩
          rw [e1, HSH.out]; rfl
        · have hp8 : p + 8 ≤ n := by omega
          clear h8
          have y0c := HCL.out p _ (bv_at xs p (by have := HN.out; omega))
          have y1c := HCL.out (p + 1) _ (bv_at xs (p + 1) (by have := HN.out; omega))
          rw [add_pos ad (p + 1) (by omega)] at y1c
          have d0 := isB_at xs HX.out p
          have d1 := isB_at xs HX.out (p + 1)
          obtain ⟨y0, e0⟩ : ∃ y, y = xs.getD p 0 := ⟨_, rfl⟩
          obtain ⟨y1, e1⟩ : ∃ y, y = xs.getD (p + 1) 0 := ⟨_, rfl⟩
          rw [← e0] at y0c d0
          rw [← e1] at y1c d1
          have E0 := Lib.hid e0
          have E1 := Lib.hid e1
          clear e0 e1
          have D2 := Lib.hid (rd_at HCL.out (by have := hsz.out; omega : ad.block < wr.heap.size) (p + 2) 2)
          have D4 := Lib.hid (rd_at HCL.out (by have := hsz.out; omega : ad.block < wr.heap.size) (p + 4) 4)
          have D2 : Hid (Rd wr wr.heap.size (some ⟨ad.block, ad.off + (p + 1 + 1), none⟩) (bv ((xs.drop (p + 2)).take 2))) := Lib.hid (by have h := D2.out; rw [add_pos ad (p + 2) (by omega)] at h; exact h)
          have D4 : Hid (Rd wr wr.heap.size (some ⟨ad.block, ad.off + (p + 3 + 1), none⟩) (bv ((xs.drop (p + 4)).take 4))) := Lib.hid (by have h := D4.out; rw [add_pos ad (p + 4) (by omega)] at h; exact h)
          have f1 : IntKind.i64.wrap y0 = y0 := IntWalk.i64_in _ (by omega)
          have f2 : IntKind.i64.wrap y1 = y1 := IntWalk.i64_in _ (by omega)
          have f3 : y1.tmod 16 = y1 % 16 := Int.tmod_eq_emod_of_nonneg d1.1
          have f4 : y1.tdiv 16 = y1 / 16 := Int.tdiv_eq_ediv_of_nonneg d1.1
          have f5 : IntKind.i64.wrap (y1 / 16) = y1 / 16 := IntWalk.i64_in _ (by omega)
          have k2 : ¬ c = p + 2 := by omega
          have k4 : ¬ c = p + 4 := by omega
          have v4 : (p : Int) + 4 ≤ (c : Int) := by omega
          have v8 : (p : Int) + 8 ≤ (c : Int) := by omega
          have v2 : (0 : Int) ≤ (p : Int) + 2 := by omega
          have v3 : (p : Int) + 2 ≤ (p : Int) + 4 := by omega
          have v5 : (0 : Int) ≤ (p : Int) + 4 := by omega
          have v6 : (p : Int) + 4 ≤ (p : Int) + 8 := by omega
          by_cases h24 : y0 = 24
          · have h24' : (y0 == 24) = true := by simpa using h24
            have Y24 := Lib.hid h24
            clear h24
            by_cases h16 : n - p < 16
            · have HSH : Hid (fstE (xs.drop p) = 2) := Lib.hid (by
                have hs : sizeV (xs.getD p 0) = 2 := if_pos (by rw [← E0.out]; exact Y24.out)
                unfold fstE
                rw [drop_getD, Nat.add_zero, hs, if_pos (by rw [List.length_drop, HN.out]; omega)])
              go_wp2
              go_ret2
              obtain ⟨e1, e2⟩ := rg_short hG.out (by rw [HN.out]; exact hlt) HLL.out (by rw [HSH.out]; decide)
              refine ⟨.slice none 0 0, ?_, by rw [e2]; exact World.ownsRow_nil _ _ _ _, hG.out.below⟩
              rw [e1, HSH.out]; rfl
            · have hp16 : p + 16 ≤ n := by omega
              clear h16
              have t0 : (0 : Int) ≤ (p : Int) := by omega
              have t1 : (p : Int) < (n : Int) := by omega
              have t2 : (p : Int) + 1 < (n : Int) := by omega
              have t3 : (0 : Int) ≤ (p : Int) + 1 := by omega
              have t4 : ((p : Int) + 1).toNat = p + 1 := by omega
              have t5 : IntKind.i64.wrap ((p : Int) + 1) = (p : Int) + 1 := IntWalk.i64_in _ (by omega)
              have t6 : IntKind.i64.wrap ((p : Int) + 2) = (p : Int) + 2 := IntWalk.i64_in _ (by omega)
              have t7 : IntKind.i64.wrap ((p : Int) + 4) = (p : Int) + 4 := IntWalk.i64_in _ (by omega)
              have t8 : IntKind.i64.wrap ((p : Int) + 8) = (p : Int) + 8 := IntWalk.i64_in _ (by omega)
              have t9 : ((p : Int) + 2).toNat = p + 2 := by omega
              have ta : ((p : Int) + 4).toNat = p + 4 := by omega
              have tb : ((p : Int) + 8).toNat = p + 8 := by omega
              have hbk : ad.block < wr.heap.size := by have := hsz.out; omega
              have hbp : (ad.add p).block < wr.heap.size := by rw [add_block]; exact hbk
              have L2 := Lib.hid (sub_len xs (p + 2) 2 (by have := HN.out; omega))
              have L4 := Lib.hid (sub_len xs (p + 4) 4 (by have := HN.out; omega))
              have I2 := Lib.hid (isB_sub HX.out (p + 2) 2)
              have I4 := Lib.hid (isB_sub HX.out (p + 4) 4)
              go_upto_region 8 with fail
              go_cut [6] (fun s6 wx => ∃ g : Nat, s6 = .pointer (some ⟨g, 0, none⟩) ∧ Hid (wr.heap.size ≤ g ∧ Bk wx g 23 #[.int .i64 y0, .int .i64 (y1 % 16), .int .i64 (y1 / 16), .int .i64 (sgV ((xs.drop (p + 2)).take 2)), .int .i64 (sgV ((xs.drop (p + 4)).take 4))] ∧ Below wr.heap.size wr wx))
              case first =>
                go_region_held3 (fun w' => w'.cell? (ad.add p) = some (.int .u8 y0) ∧ w'.cell? ⟨ad.block, ad.off + (p + 1), none⟩ = some (.int .u8 y1) ∧ Below wr.heap.size wr w')
                  (first | exact ⟨y0c, y1c, (Below.refl _ _).drew⟩ | assumption | exact sk_drew (sk_alloc hbp hbk ⟨y0c, y1c, Below.refl _ _⟩))
                  (first | (go_at_call 45; (with_reducible refine (signed_loop (some ⟨ad.block, ad.off + (p + 1 + 1), none⟩) 2 _ ((xs.drop (p + 2)).take 2) L2.out (by omega) I2.out _ (sgrd D2.out (by assumption))).mono ?_); rintro e w2 ⟨rfl, rfl⟩) | (go_at_call 45; (with_reducible refine (signed_loop (some ⟨ad.block, ad.off + (p + 3 + 1), none⟩) 4 _ ((xs.drop (p + 4)).take 4) L4.out (by omega) I4.out _ (sgrd D4.out (by assumption))).mono ?_); rintro e w2 ⟨rfl, rfl⟩))
                all_goals
                  go_wp2_with fail
                  go_meet
                  exact ⟨wr.heap.size, rfl, Lib.hid ⟨Nat.le_refl _, (Bk.new wr _ _).drew, ((Below.refl _ _).alloc (Nat.le_refl _) _).drew⟩⟩
              case rest =>
                obtain ⟨g, rfl, hgw⟩ := hcut
                clear f1 f2 f3 f4 f5 t0 t1 t2 t3 t4 t5 t6 t7 t8 t9 ta tb v2 v3 v4 v5 v6 v8 k2 k4 y0c y1c
                obtain ⟨hg1, hK, hBx⟩ := hgw.out
                have K1 := Lib.hid hK
                have BX := Lib.hid hBx
                clear hgw hK hBx
                obtain ⟨c0, c1, c2, c3, c4⟩ := box_cells K1.out
                have DW := dec_wide xs p (by have := HN.out; omega) (by rw [← E0.out]; exact Y24.out)
                rw [← E0.out, ← E1.out] at DW
                have SZ : Hid (sizeV y0 = 2) := Lib.hid DW.2.2
                have HDW := Lib.hid DW
                clear DW
                have z8c := (BX.out.cell (p := ad.add (p + 8)) (by rw [add_block]; exact hbk)).trans (HCL.out (p + 8) _ (bv_at xs (p + 8) (by have := HN.out; omega)))
                have z9c := (BX.out.cell (p := ad.add (p + 9)) (by rw [add_block]; exact hbk)).trans (HCL.out (p + 9) _ (bv_at xs (p + 9) (by have := HN.out; omega)))
                have zac := (BX.out.cell (p := ad.add (p + 10)) (by rw [add_block]; exact hbk)).trans (HCL.out (p + 10) _ (bv_at xs (p + 10) (by have := HN.out; omega)))
                have zbc := (BX.out.cell (p := ad.add (p + 11)) (by rw [add_block]; exact hbk)).trans (HCL.out (p + 11) _ (bv_at xs (p + 11) (by have := HN.out; omega)))
                rw [add_pos ad _ (by omega)] at z8c z9c zac zbc
                have q8 := isB_at xs HX.out (p + 8)
                have q9 := isB_at xs HX.out (p + 9)
                have qa := isB_at xs HX.out (p + 10)
                have qb := isB_at xs HX.out (p + 11)
                have HT4 : Hid ((xs.drop (p + 8)).take 4 = [xs.getD (p + 8) 0, xs.getD (p + 9) 0, xs.getD (p + 10) 0, xs.getD (p + 11) 0]) := Lib.hid (take4 xs (p + 8) (by have := HN.out; omega))
                generalize xs.getD (p + 8) 0 = z8 at *
                generalize xs.getD (p + 9) 0 = z9 at *
                generalize xs.getD (p + 10) 0 = za at *
                generalize xs.getD (p + 11) 0 = zb at *
                have HC12 : Hid (∀ w' : World, Below wr.heap.size wr w' → ∀ j, j < xs.length → w'.cell? (ad.add j) = some (.int .u8 (xs.getD j 0))) := Lib.hid fun w' hw' j hj => (hw'.cell (by rw [add_block]; exact hbk)).trans (HCL.out j _ (bv_at xs j hj))
                by_cases hz : z8 = 0 ∧ z9 = 0 ∧ za = 0 ∧ zb = 0
                · obtain ⟨r8, r9, ra, rb⟩ := hz
                  have DE : Hid (decV (xs.drop p) = ⟨y0, y1 % 16, y1 / 16, sgV ((xs.drop (p + 2)).take 2), sgV ((xs.drop (p + 4)).take 4 ++ (xs.drop (p + 12)).take 4)⟩ ∧ fstE (xs.drop p) = (decV (xs.drop p)).chk ∧ sizeV (xs.getD p 0) = 2) := Lib.hid (by
                    have h := HDW.out
                    have hl : leN ((xs.drop (p + 8)).take 4) = 0 := by rw [HT4.out, r8, r9, ra, rb]; rfl
                    refine ⟨h.1, ?_, by rw [← E0.out]; exact h.2.2⟩
                    have h2 := h.2.1
                    rw [if_neg (by rw [hl]; simp)] at h2
                    exact h2)
                  subst r8 r9 ra rb
                  have w4a : (p : Int) + 4 ≤ (p : Int) + 8 := by omega
                  go_wp2_with fail
                  refine (copyb_any _ 4 _ ((xs.drop (p + 4)).take 4) L4.out (by omega) _ ((D4.out.below BX.out).mono BX.out.size)).mono ?_
                  rintro e w4 ⟨vy, rfl, qy⟩
                  have QY := Lib.hid qy
                  clear qy z8c z9c zac zbc c0 c1 c2 c3 c4 w4a
                  go_wp2
                  go_loopw [7, 8] (fun y i wq => ∃ k : Nat, k ≤ 4 ∧ i = .int .i64 ((k + 12 : Nat) : Int) ∧ Hid (OwnB wc y wq ((xs.drop (p + 4)).take 4 ++ ((xs.drop (p + 12)).take 4).take k))) (fun _ i _ => 16 - (intOf i).toNat)
                  case atStart => exact ⟨0, Nat.zero_le _, rfl, Lib.hid (by have h := QY.out; simpa using h)⟩
                  case round =>
                    clear QY
                    obtain ⟨k, hk, rfl, hO⟩ := hrel
                    have BXW := Lib.hid (below_then BX.out hO.out.below (Nat.le_refl _))
                    by_cases hk4 : k < 4
                    · have hcq := HC12.out _ BXW.out (p + (k + 12)) (by have := HN.out; omega)
                      have HTK : Hid (((xs.drop (p + 12)).take 4).take (k + 1) = ((xs.drop (p + 12)).take 4).take k ++ [xs.getD (p + (k + 12)) 0]) := Lib.hid (by
                        have h12 := sub_len xs (p + 12) 4 (by have := HN.out; omega)
                        rw [List.take_succ_eq_append_getElem (by rw [h12]; exact hk4)]
                        congr 2
                        simp [List.getD_eq_getElem?_getD, Nat.add_comm, Nat.add_left_comm]
                        rw [List.getElem?_eq_getElem (by have := HN.out; omega)]
                        rfl)
                      have HLE : Hid (((xs.drop (p + 4)).take 4 ++ ((xs.drop (p + 12)).take 4).take k).length ≤ 8) := Lib.hid (by
                        have h1 := List.length_take_le 4 (xs.drop (p + 4))
                        have h2 := List.length_take_le k ((xs.drop (p + 12)).take 4)
                        rw [List.length_append]; omega)
                      generalize xs.getD (p + (k + 12)) 0 = bk at *
                      obtain ⟨q, hq⟩ : ∃ q, q = k + 12 := ⟨_, rfl⟩
                      rw [← hq] at hcq ⊢
                      have hq1 : q < 16 := by omega
                      have hq2 : 12 ≤ q := by omega
                      have HQ := Lib.hid hq
                      clear hq
                      go_wp2_with (at_builtin; refine wpList_append_own_at _ rfl (.tmp 114) (.tmp 121) _ rfl wc.heap.size 5 j0 _ 1 1 Try.underlying31 hj0 hy0 hy1 hy2 rfl (by decide) _ _ _ rfl (hO.out.own.alloc _) ⟨_, 0, none⟩ 1 1 _ rfl rfl (cell_one_new _ _ _) ?m2 ?m3 ?m4 ?m5 ?_)
                      case m2 => intro u hu; simp at hu; subst hu; rfl
                      case m3 => have := HLE.out; unfold maxLen; omega
                      case m4 => have := HLE.out; omega
                      case m5 => have := hO.out.below.size; simp; omega
                      intro v1 w1 hown1 hg1' _ hat1
                      have R1 := Lib.hid (hO.out.step hown1 (by first | rfl | (simp only [List.length_append, List.length_take, List.length_drop]; done) | (simp only [List.length_append, List.length_take, List.length_drop]; omega)) hg1')
                      clear hown1 hg1' hat1 hO
                      go_wp2
                      go_roundw
                      case rel => exact ⟨k + 1, by omega, by rw [HQ.out]; go_num, Lib.hid (by have h := R1.out; rw [HTK.out, ← List.append_assoc]; exact h)⟩
                      case measure => simp [intOf]; omega
                    · have hk16 : 16 ≤ k + 12 := by omega
                      have l12 := sub_len xs (p + 12) 4 (by have := HN.out; omega)
                      have e3 : ((xs.drop (p + 12)).take 4).take k = (xs.drop (p + 12)).take 4 := List.take_of_length_le (by rw [l12]; omega)
                      have OY := hO.out.own
                      rw [e3] at OY
                      have hl8 : ((xs.drop (p + 4)).take 4 ++ (xs.drop (p + 12)).take 4).length = 8 := by rw [List.length_append, L4.out, l12]
                      obtain ⟨Ay, cy, hAy, hcy, hmy, _⟩ := own_form OY
                      rw [hl8] at hAy OY hcy
                      subst hAy
                      have RY := Lib.hid (Rd.of_own OY)
                      have HL8 := Lib.hid hl8
                      have I8 : Hid (isB ((xs.drop (p + 4)).take 4 ++ (xs.drop (p + 12)).take 4)) := Lib.hid (fun b hb => by
                        rcases List.mem_append.1 hb with h | h
                        · exact I4.out b h
                        · exact isB_sub HX.out (p + 12) 4 b h)
                      have KW := Lib.hid (K1.out.below hO.out.below K1.out.lt)
                      clear hO OY e3 l12 hl8 K1 BX
                      obtain ⟨c0, c1, c2, c3, c4⟩ := box_cells KW.out
                      have fz := KW.out.frozen 4
                      go_wp2_with fail
                      refine (signed_loop Ay 8 cy _ HL8.out (by omega) I8.out _ RY.out).mono ?_
                      rintro e w' ⟨rfl, rfl⟩
                      go_wp2_with fail
                      clear fz c0 c1 c2 c3 c4 RY
                      have BX := Lib.hid (BXW.out.setCell (p := ⟨g, 4, none⟩) hg1 (.int .i64 (sgV ((xs.drop (p + 4)).take 4 ++ (xs.drop (p + 12)).take 4))))
                      have K1 : Hid (Bk _ g 23 #[.int .i64 y0, .int .i64 (y1 % 16), .int .i64 (y1 / 16), .int .i64 (sgV ((xs.drop (p + 2)).take 2)), .int .i64 (sgV ((xs.drop (p + 4)).take 4 ++ (xs.drop (p + 12)).take 4))]) := Lib.hid (KW.out.set_ 4 (.int .i64 (sgV ((xs.drop (p + 4)).take 4 ++ (xs.drop (p + 12)).take 4))))
                      clear KW BXW
                      generalize World.setCell _ _ _ = w9 at *
                      obtain ⟨c0, c1, c2, c3, c4⟩ := box_cells K1.out
                      generalize sgV ((xs.drop (p + 2)).take 2) = o2 at *
                      generalize sgV ((xs.drop (p + 4)).take 4 ++ (xs.drop (p + 12)).take 4) = o4 at *
                      refine (refcheck_any _ _ _ _ _ _).mono ?_
                      rintro e w1 ⟨rfl, q⟩
                      have K2 := Lib.hid (K1.out.below q K1.out.lt)
                      have B2 := Lib.hid (below_then BX.out q (Nat.le_refl _))
                      clear q K1 BX c0 c1 c2 c3 c4
                      obtain ⟨c0, c1, c2, c3, c4⟩ := box_cells K2.out
                      by_cases hz : chkV y0 (y1 % 16) (y1 / 16) o2 o4 = 0
                      · have HZ := Lib.hid hz
                        go_wp2_with (at_builtin; refine wpList_append_own_at _ rfl (.tmp 131) (.tmp 133) _ rfl w.heap.size 23 i0 _ 5 40 Try.underlying29 hi0 hz0 hz1 hz2 rfl (by decide) _ _ _ rfl ((own_below hG.out.own B2.out).alloc _) ⟨w1.heap.size, 0, none⟩ 1 1 (In.cells ⟨y0, y1 % 16, y1 / 16, o2, o4⟩) rfl rfl (new_cells' _ #[.int .i64 y0, .int .i64 (y1 % 16), .int .i64 (y1 / 16), .int .i64 o2, .int .i64 o4] rfl) (cells_one _) ?b38 ?b48 ?b58 ?_)
                        case b38 => unfold maxLen; omega
                        case b48 => omega
                        case b58 => have h1 := hsz.out; have h2 := B2.out.size; simp; omega
                        intro v2 w2 hown2 hg2 _ hat2
                        have hB3 : Below w.heap.size w w2 := ((hG.out.below.trans (B2.out.mono hG.out.below.size)).alloc (by have h1 := hsz.out; have h2 := B2.out.size; omega) _).grown hg2 (by have h1 := hsz.out; have h2 := B2.out.size; simp; omega) fun k hk => (hG.out.own.lt k hk).1
                        have K3 := Lib.hid (((K2.out.alloc (.cells #[.int .i64 y0, .int .i64 (y1 % 16), .int .i64 (y1 / 16), .int .i64 o2, .int .i64 o4] 23))).apd ⟨hg2, by simpa using hat2.imp id fun h => ⟨_, h, by simp⟩⟩ (fun e => by have h1 := (hG.out.own.lt _ e).2; omega))
                        have RS := Lib.hid (rg_step hG.out (by rw [DE.out.2.1, DE.out.1]; exact HZ.out) DE.out.1 (N := 16) (by rw [DE.out.2.2]; rfl) HLL.out hB3 hown2)
                        have HB3 := Lib.hid hB3
                        clear hown2 hg2 hat2 hB3 hG c0 c1 c2 c3 c4
                        obtain ⟨c0, c1, c2, c3, c4⟩ := box_cells K3.out
                        go_wp2_with fail
                        refine (refsize_any _ _ _ _ _ _).mono ?_
                        rintro e w3 ⟨rfl, q⟩
                        have hsv : sizeV y0 = 2 := SZ.out
                        have RS3 := Lib.hid (rg_more RS.out q)
                        clear q RS HB3 c0 c1 c2 c3 c4 K3 K2 B2
                        go_wp2
                        go_roundw
                        case rel =>
                          obtain ⟨f', hR⟩ := RS3.out
                          first | exact ⟨p + 16, f', _, by omega, by go_num, Lib.hid hR⟩ | ((repeat apply Exists.intro); exact ⟨⟨p + 16, f', _, by omega, by go_num, Lib.hid hR⟩, rfl⟩)
                        case measure => simp [intOf]; omega
                      · have HZ := Lib.hid hz
                        have ez : (chkV y0 (y1 % 16) (y1 / 16) o2 o4 != 0) = true := bne_iff_ne.2 hz
                        clear hz
                        go_wp2
                        go_ret2
                        obtain ⟨e1, e2⟩ := rg_short hG.out (by rw [HN.out]; exact hlt) HLL.out (by rw [DE.out.2.1, DE.out.1]; exact HZ.out)
                        refine ⟨.slice none 0 0, ?_, by rw [e2]; exact World.ownsRow_nil _ _ _ _, hG.out.below.trans (B2.out.mono hG.out.below.size)⟩
                        rw [e1, DE.out.2.1, DE.out.1]; rfl
                · have HS6 : Hid (fstE (xs.drop p) = 6) := Lib.hid (by
                    have h2 := HDW.out.2.1
                    rw [if_pos (by rw [HT4.out]; simp only [leN]; omega)] at h2
                    exact h2)
                  by_cases n8 : z8 = 0
                  · have b8 : (z8 != 0) = false := by simpa using n8
                    by_cases n9 : z9 = 0
                    · have b9 : (z9 != 0) = false := by simpa using n9
                      by_cases na : za = 0
                      · have ba : (za != 0) = false := by simpa using na
                        have nb : ¬ zb = 0 := fun e => hz ⟨n8, n9, na, e⟩
                        have bb : (zb != 0) = true := by simpa using nb
                        clear hz n8 n9 na nb
                        go_wp2
                        go_ret2
                        obtain ⟨e1, e2⟩ := rg_short hG.out (by rw [HN.out]; exact hlt) HLL.out (by rw [HS6.out]; decide)
                        refine ⟨.slice none 0 0, ?_, by rw [e2]; exact World.ownsRow_nil _ _ _ _, hG.out.below.trans (BX.out.mono hG.out.below.size)⟩
                        rw [e1, HS6.out]; rfl
                      · have ba : (za != 0) = true := by simpa using na
                        clear hz n8 n9 na
                        go_wp2
                        go_ret2
                        obtain ⟨e1, e2⟩ := rg_short hG.out (by rw [HN.out]; exact hlt) HLL.out (by rw [HS6.out]; decide)
                        refine ⟨.slice none 0 0, ?_, by rw [e2]; exact World.ownsRow_nil _ _ _ _, hG.out.below.trans (BX.out.mono hG.out.below.size)⟩
                        rw [e1, HS6.out]; rfl
                    · have b9 : (z9 != 0) = true := by simpa using n9
                      clear hz n8 n9
                      go_wp2
                      go_ret2
                      obtain ⟨e1, e2⟩ := rg_short hG.out (by rw [HN.out]; exact hlt) HLL.out (by rw [HS6.out]; decide)
                      refine ⟨.slice none 0 0, ?_, by rw [e2]; exact World.ownsRow_nil _ _ _ _, hG.out.below.trans (BX.out.mono hG.out.below.size)⟩
                      rw [e1, HS6.out]; rfl
                  · have b8 : (z8 != 0) = true := by simpa using n8
                    clear hz n8
                    go_wp2
                    go_ret2
                    obtain ⟨e1, e2⟩ := rg_short hG.out (by rw [HN.out]; exact hlt) HLL.out (by rw [HS6.out]; decide)
                    refine ⟨.slice none 0 0, ?_, by rw [e2]; exact World.ownsRow_nil _ _ _ _, hG.out.below.trans (BX.out.mono hG.out.below.size)⟩
                    rw [e1, HS6.out]; rfl
          · have h24' : (y0 == 24) = false := by simpa using h24
            have t0 : (0 : Int) ≤ (p : Int) := by omega
            have t1 : (p : Int) < (n : Int) := by omega
            have t2 : (p : Int) + 1 < (n : Int) := by omega
            have t3 : (0 : Int) ≤ (p : Int) + 1 := by omega
            have t4 : ((p : Int) + 1).toNat = p + 1 := by omega
            have t5 : IntKind.i64.wrap ((p : Int) + 1) = (p : Int) + 1 := IntWalk.i64_in _ (by omega)
            have t6 : IntKind.i64.wrap ((p : Int) + 2) = (p : Int) + 2 := IntWalk.i64_in _ (by omega)
            have t7 : IntKind.i64.wrap ((p : Int) + 4) = (p : Int) + 4 := IntWalk.i64_in _ (by omega)
            have t8 : IntKind.i64.wrap ((p : Int) + 8) = (p : Int) + 8 := IntWalk.i64_in _ (by omega)
            have t9 : ((p : Int) + 2).toNat = p + 2 := by omega
            have ta : ((p : Int) + 4).toNat = p + 4 := by omega
            have tb : ((p : Int) + 8).toNat = p + 8 := by omega
            have hbk : ad.block < wr.heap.size := by have := hsz.out; omega
            have hbp : (ad.add p).block < wr.heap.size := by rw [add_block]; exact hbk
            have L2 := Lib.hid (sub_len xs (p + 2) 2 (by have := HN.out; omega))
            have L4 := Lib.hid (sub_len xs (p + 4) 4 (by have := HN.out; omega))
            have I2 := Lib.hid (isB_sub HX.out (p + 2) 2)
            have I4 := Lib.hid (isB_sub HX.out (p + 4) 4)
            go_upto_region 8 with fail
            go_cut [6] (fun s6 wx => ∃ g : Nat, s6 = .pointer (some ⟨g, 0, none⟩) ∧ Hid (wr.heap.size ≤ g ∧ Bk wx g 23 #[.int .i64 y0, .int .i64 (y1 % 16), .int .i64 (y1 / 16), .int .i64 (sgV ((xs.drop (p + 2)).take 2)), .int .i64 (sgV ((xs.drop (p + 4)).take 4))] ∧ Below wr.heap.size wr wx))
            case first =>
              go_region_held3 (fun w' => w'.cell? (ad.add p) = some (.int .u8 y0) ∧ w'.cell? ⟨ad.block, ad.off + (p + 1), none⟩ = some (.int .u8 y1) ∧ Below wr.heap.size wr w')
                (first | exact ⟨y0c, y1c, (Below.refl _ _).drew⟩ | assumption | exact sk_drew (sk_alloc hbp hbk ⟨y0c, y1c, Below.refl _ _⟩))
                (first | (go_at_call 45; (with_reducible refine (signed_loop (some ⟨ad.block, ad.off + (p + 1 + 1), none⟩) 2 _ ((xs.drop (p + 2)).take 2) L2.out (by omega) I2.out _ (sgrd D2.out (by assumption))).mono ?_); rintro e w2 ⟨rfl, rfl⟩) | (go_at_call 45; (with_reducible refine (signed_loop (some ⟨ad.block, ad.off + (p + 3 + 1), none⟩) 4 _ ((xs.drop (p + 4)).take 4) L4.out (by omega) I4.out _ (sgrd D4.out (by assumption))).mono ?_); rintro e w2 ⟨rfl, rfl⟩))
              all_goals
                go_wp2_with fail
                go_meet
                exact ⟨wr.heap.size, rfl, Lib.hid ⟨Nat.le_refl _, (Bk.new wr _ _).drew, ((Below.refl _ _).alloc (Nat.le_refl _) _).drew⟩⟩
            case rest =>
              obtain ⟨g, rfl, hgw⟩ := hcut
              clear f1 f2 f3 f4 f5 t0 t1 t2 t3 t4 t5 t6 t7 t8 t9 ta tb v2 v3 v4 v5 v6 v8 k2 k4 y0c y1c
              obtain ⟨hg1, hK, hBx⟩ := hgw.out
              have K1 := Lib.hid hK
              have BX := Lib.hid hBx
              clear hgw hK hBx
              obtain ⟨c0, c1, c2, c3, c4⟩ := box_cells K1.out
              have DE : Hid (decV (xs.drop p) = ⟨y0, y1 % 16, y1 / 16, sgV ((xs.drop (p + 2)).take 2), sgV ((xs.drop (p + 4)).take 4)⟩ ∧ fstE (xs.drop p) = (decV (xs.drop p)).chk ∧ sizeV (xs.getD p 0) = 1) := Lib.hid (by
                have h := dec_narrow xs p (by have := HN.out; omega) (by rw [← E0.out]; exact h24)
                rw [← E0.out, ← E1.out] at h
                rw [← E0.out]
                exact h)
              have SZ : Hid (sizeV y0 = 1) := Lib.hid (if_neg h24)
              go_wp2_with fail
              generalize sgV ((xs.drop (p + 2)).take 2) = o2 at *
              generalize sgV ((xs.drop (p + 4)).take 4) = o4 at *
              refine (refcheck_any _ _ _ _ _ _).mono ?_
              rintro e w1 ⟨rfl, q⟩
              have K2 := Lib.hid (K1.out.below q K1.out.lt)
              have B2 := Lib.hid (below_then BX.out q (Nat.le_refl _))
              clear q K1 BX c0 c1 c2 c3 c4
              obtain ⟨c0, c1, c2, c3, c4⟩ := box_cells K2.out
              by_cases hz : chkV y0 (y1 % 16) (y1 / 16) o2 o4 = 0
              · have HZ := Lib.hid hz
                go_wp2_with (at_builtin; refine wpList_append_own_at _ rfl (.tmp 131) (.tmp 133) _ rfl w.heap.size 23 i0 _ 5 40 Try.underlying29 hi0 hz0 hz1 hz2 rfl (by decide) _ _ _ rfl ((own_below hG.out.own B2.out).alloc _) ⟨w1.heap.size, 0, none⟩ 1 1 (In.cells ⟨y0, y1 % 16, y1 / 16, o2, o4⟩) rfl rfl (new_cells' _ #[.int .i64 y0, .int .i64 (y1 % 16), .int .i64 (y1 / 16), .int .i64 o2, .int .i64 o4] rfl) (cells_one _) ?a38 ?a48 ?a58 ?_)
                case a38 => unfold maxLen; omega
                case a48 => omega
                case a58 => have h1 := hsz.out; have h2 := B2.out.size; simp; omega
                intro v2 w2 hown2 hg2 _ hat2
                have hB3 : Below w.heap.size w w2 := ((hG.out.below.trans (B2.out.mono hG.out.below.size)).alloc (by have h1 := hsz.out; have h2 := B2.out.size; omega) _).grown hg2 (by have h1 := hsz.out; have h2 := B2.out.size; simp; omega) fun k hk => (hG.out.own.lt k hk).1
                have K3 := Lib.hid (((K2.out.alloc (.cells #[.int .i64 y0, .int .i64 (y1 % 16), .int .i64 (y1 / 16), .int .i64 o2, .int .i64 o4] 23))).apd ⟨hg2, by simpa using hat2.imp id fun h => ⟨_, h, by simp⟩⟩ (fun e => by have h1 := (hG.out.own.lt _ e).2; omega))
                have RS := Lib.hid (rg_step hG.out (by rw [DE.out.2.1, DE.out.1]; exact HZ.out) DE.out.1 (N := 8) (by rw [DE.out.2.2]; rfl) HLL.out hB3 hown2)
                have HB3 := Lib.hid hB3
                clear hown2 hg2 hat2 hB3 hG c0 c1 c2 c3 c4
                obtain ⟨c0, c1, c2, c3, c4⟩ := box_cells K3.out
                go_wp2_with fail
                refine (refsize_any _ _ _ _ _ _).mono ?_
                rintro e w3 ⟨rfl, q⟩
                have hsv : sizeV y0 = 1 := SZ.out
                have RS3 := Lib.hid (rg_more RS.out q)
                clear q RS HB3 c0 c1 c2 c3 c4 K3 K2 B2
                go_wp2
                go_roundw
                case rel =>
                  obtain ⟨f', hR⟩ := RS3.out
                  first | exact ⟨p + 8, f', _, by omega, by go_num, Lib.hid hR⟩ | ((repeat apply Exists.intro); exact ⟨⟨p + 8, f', _, by omega, by go_num, Lib.hid hR⟩, rfl⟩)
                case measure => simp [intOf]; omega
              · have HZ := Lib.hid hz
                have ez : (chkV y0 (y1 % 16) (y1 / 16) o2 o4 != 0) = true := bne_iff_ne.2 hz
                clear hz
                go_wp2
                go_ret2
                obtain ⟨e1, e2⟩ := rg_short hG.out (by rw [HN.out]; exact hlt) HLL.out (by rw [DE.out.2.1, DE.out.1]; exact HZ.out)
                refine ⟨.slice none 0 0, ?_, by rw [e2]; exact World.ownsRow_nil _ _ _ _, hG.out.below.trans (B2.out.mono hG.out.below.size)⟩
                rw [e1, DE.out.2.1, DE.out.1]; rfl
    · have e0 : xs.drop p = [] := List.drop_eq_nil_of_le (by rw [HN.out]; omega)
      have e3 := hG.out.is
      rw [e0, getF_nil] at e3
      have e1 : getE xs = 0 := by unfold getE; rw [e3]
      have e2 : getO xs = L := by unfold getO; rw [e1, if_pos rfl, e3]; simp
      have E1 := Lib.hid e1
      have E2 := Lib.hid e2
      clear e0 e1 e2 e3
      go_wp2
      go_ret2
      exact ⟨_, by rw [E1.out]; rfl, by rw [E2.out]; exact hG.out.own, hG.out.below⟩
end Go.Proofs.Ytlimhdnpdhjdaaa
