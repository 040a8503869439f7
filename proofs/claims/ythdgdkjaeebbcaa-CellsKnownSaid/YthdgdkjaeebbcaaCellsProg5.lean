/-
  What the program's cells do: Store: contract. Conditions: cells of 64 bytes at most, written 300 times at most.
-/
import Derived.Test.YthdgdkjaeebbcaaCellsProg4
namespace Go.Proofs.Ythdgdkjaeebbcaa
set_option maxRecDepth 100000
open Go.RowKit Ow Ph Ro K2
set_option linter.unusedVariables false
set_option linter.unusedSimpArgs false
attribute [local go_sem] run_store_complex
/-- The lowest n bytes of v from o on. -/
def putL (bs : List Int) (o : Nat) (v : Int) : Nat → List Int
  | 0 => bs
  | i + 1 => (putL bs o v i).set (o + i) (v / 256 ^ i % 256)
theorem putL_len (bs : List Int) (o : Nat) (v : Int) (n : Nat) : (putL bs o v n).length = bs.length := by
  induction n with
  | zero => rfl
  | succ i ih => unfold putL; rw [List.length_set, ih]
theorem bv_set (l : List Int) (j : Nat) (x : Int) : (bv l).set j (.int .u8 x) = bv (l.set j x) := by unfold bv; rw [List.map_set]
/-- A cell's beat is another one. -/
theorem beat_c {w0 w : World} {A : Ac} {k q : Nat} {s : Value} {c : Cl} (hl : Lay w0 A w) (h : A (3, k) = some (q, .cells (cc s c) 82)) (c' : Cl) (hg : c'.gone = c.gone) :
    ∃ A', Lay w0 A' (((w.setCell ⟨q, 1, none⟩ (.complex .f64 (fl (bts c'.ts).x) (fl (bts c'.ts).y))).setCell ⟨q, 2, none⟩ (.int .i64 (bts c'.ts).n)).setCell ⟨q, 3, none⟩ (.int .i64 (bts c'.ts).t)) ∧ A' (3, k) = some (q, .cells (cc s c') 82) ∧ ∀ x, x ≠ (3, k) → A' x = A x := by
  have l1 := hl.set_ h 1 (.complex .f64 (fl (bts c'.ts).x) (fl (bts c'.ts).y))
  have l2 := l1.set_ (up_same _ _ _ _) 2 (.int .i64 (bts c'.ts).n)
  have l3 := l2.set_ (up_same _ _ _ _) 3 (.int .i64 (bts c'.ts).t)
  refine ⟨_, l3, ?_, fun x hx => by rw [up_other _ _ _ hx, up_other _ _ _ hx, up_other _ _ _ hx]⟩
  rw [up_same]
  unfold cc
  rw [hg]
  rfl
def stC (L : List Cl) (id off size v now : Int) : Bool × List Cl :=
  match gt L id with
  | none => (false, L)
  | some c => if insB c.bs.length off size then (true, L.set (id.toNat - 1) { c with bs := putL c.bs off.toNat v size.toNat, ts := c.ts ++ [now] }) else (false, L)
set_option maxHeartbeats 2000000 in
theorem store_c {w0 w : World} {A : Ac} {P n : Nat} {L : List Cl} (hl : Lay w0 A w) (h : PS A P L) (ho : OkL n L) (hn : n ≤ 300) (id off size v now : Int) (hv : 0 ≤ v ∧ v < 18446744073709551616) (hnow : i64 now) :
    Calls Try.prog 24 #[.pointer (some ⟨P, 0, none⟩), .int .i64 id, .int .i64 off, .int .i64 size, .int .u64 v, .int .i64 now] w (BoolP w0 A P (stC L id off size v now)) := by
  cases hg : gt L id with
  | none =>
    have e : stC L id off size v now = (false, L) := by unfold stC; rw [hg]
    rw [e]
    clear e
    obtain ⟨m, hc, hr⟩ := h.look_none hl hg (zero_ptr w)
    have HD := Lib.hid (Did.same hl h)
    clear hl h hg
    go_enter Try.func24, Try.ntmps24
    go_wp2
    go_ret
    exact ⟨rfl, HD.out⟩
  | some cl =>
    have hid1 := (gt_some hg).1
    have hid : ((id.toNat : Nat) : Int) = id := Int.toNat_of_nonneg (by omega)
    have hps := h
    obtain ⟨m, es, c, D, E, ds, hx⟩ := h
    obtain ⟨q, s, j, hf, hE, hat⟩ := hx.some_ hg
    have hr := run_look (P := Try.prog) und_map und_int (hl.obj hx.map_) hf
    have hc : w.cell? ⟨P, 0, none⟩ = some (.map (some m)) := (hl.bk hx.head).cell 0
    have hok := gt_ok ho hg
    have hle := hok.len
    obtain ⟨a, cap, rfl, h1, h2, h3⟩ := hat.row.form2
    have k0 : w.cell? ⟨q, 0, none⟩ = some (.slice a cl.bs.length cap) := (hl.bk hat.blk).cell 0
    have C := inside_any q cl.bs.length cap a off size hle k0
    cases hi : insB cl.bs.length off size with
    | false =>
      have e : stC L id off size v now = (false, L) := by unfold stC; rw [hg]; simp [hi]
      rw [e]
      clear e
      rw [hi] at C
      have HD := Lib.hid (Did.same hl hps)
      clear hl hx hps hf hat hok ho hi h1 h2 h3 k0
      go_enter Try.func24, Try.ntmps24
      go_wp2_with (with_reducible refine C.mono ?_; rintro e w' ⟨rfl, rfl⟩)
      go_ret
      exact ⟨rfl, HD.out⟩
    | true =>
      have e : stC L id off size v now = (true, L.set (id.toNat - 1) { cl with bs := putL cl.bs off.toNat v size.toNat, ts := cl.ts ++ [now] }) := by unfold stC; rw [hg]; simp [hi]
      rw [e]
      clear e
      rw [hi] at C
      obtain ⟨hs, g1, g2⟩ := insB_true hi
      obtain ⟨o, rfl⟩ := Int.eq_ofNat_of_zero_le g1
      obtain ⟨k, rfl⟩ := Int.eq_ofNat_of_zero_le (show 0 ≤ size by omega)
      rw [Int.toNat_natCast, Int.toNat_natCast]
      have hsw := (gt_some hg).2.2.2
      have hmem : (id.toNat, q) ∈ E := List.mem_of_getElem? hE
      have hg' : gt L ((id.toNat : Nat) : Int) = some cl := by rw [hid]; exact hg
      have k8 : k ≤ 8 := by omega
      have k1 : 1 ≤ k := by omega
      have b1 : o + k ≤ cl.bs.length := by omega
      have hb := bts_ok cl.ts
      have hlen := hb.len
      have hofs := hok.often
      have hsww := hb.sw
      have CW := fun w => write_any (bts cl.ts) now (by omega) (by omega) (by omega) hnow w
      have HT : Hid (wrB (bts cl.ts) now = bts (cl.ts ++ [now])) := Lib.hid (bts_app _ _).symm
      have HAT := Lib.hid hat
      have HL := Lib.hid hl
      have HX := Lib.hid hx
      have HG := Lib.hid hg'
      have HLN : ∃ N, cl.bs.length = N := ⟨_, rfl⟩
      obtain ⟨N, hN⟩ := HLN
      have HR : Hid (Row A (4, id.toNat) 5 1 (.slice a N cap) N (bv cl.bs)) := Lib.hid (by rw [← hN]; exact hat.row)
      rw [hN] at k0 hle h1 h3 b1
      have HN := Lib.hid hN
      have HBL : Hid (A (3, id.toNat) = some (q, .cells (cc (.slice a N cap) cl) 82)) := Lib.hid (by rw [← hN]; exact hat.blk)
      cases a with
      | none => have := h3 rfl; omega
      | some ad =>
        have HLL : ∃ LL, LL = L.set (id.toNat - 1) { cl with bs := putL cl.bs o v k, ts := cl.ts ++ [now] } := ⟨_, rfl⟩
        obtain ⟨LL, hLL⟩ := HLL
        rw [← hLL]
        have HLL := Lib.hid hLL
        have hv1 := hv.1
        have HV := Lib.hid hv
        clear hl hx hps hf hat hok ho hi hE hg hg' hb hofs hsww hid hN h3 hs g1 hlen hLL hv
        unfold Bt.val at CW
        go_enter Try.func24, Try.ntmps24
        go_wp2_with (with_reducible refine C.mono ?_; rintro e w' ⟨rfl, rfl⟩)
        clear hr hc C k0
        go_loopw [35] (fun i wr => ∃ j : Nat, j ≤ k ∧ i = .int .i64 j ∧ Hid (∃ A2, Lay w0 A2 wr ∧ Row A2 (4, id.toNat) 5 1 (.slice (some ad) N cap) N (bv (putL cl.bs o v j)) ∧ ∀ x, x ≠ (4, id.toNat) → A2 x = A x)) (fun i _ => k - (intOf i).toNat)
        case atStart => exact ⟨0, Nat.zero_le _, rfl, Lib.hid ⟨A, HL.out, HR.out, fun _ _ => rfl⟩⟩
        case round =>
          clear HL HR HAT
          obtain ⟨j, hj, rfl, HH⟩ := hrel
          by_cases hlt : j < k
          · have k0 : wr.cell? ⟨q, 0, none⟩ = some (.slice (some ad) N cap) := by
              obtain ⟨A2, hl2, hr2, he2⟩ := HH.out
              exact (hl2.bk ((he2 (3, id.toNat) (by simp)).trans HBL.out)).cell 0
            have hsh : IntKind.u8.wrap (v / 2 ^ (8 * (j : Int)).toNat) = v / 256 ^ j % 256 := by rw [IntKind.wrap_u8, show (8 * (j : Int)).toNat = 8 * j by omega, show (2 : Int) ^ (8 * j) = 256 ^ j by rw [Int.pow_mul]; rfl]
            have sm : IntKind.i64.wrap ((o : Int) + (j : Int)) = (o : Int) + (j : Int) := IntWalk.i64_in _ (by omega)
            have s8 : IntKind.i64.wrap (8 * (j : Int)) = 8 * (j : Int) := IntWalk.i64_in _ (by omega)
            have sn : ((o : Int) + (j : Int)).toNat = o + j := by omega
            have s0 : (0 : Int) ≤ (o : Int) + (j : Int) := by omega
            have s9 : (0 : Int) ≤ 8 * (j : Int) := by omega
            have s1 : (o : Int) + (j : Int) < (N : Int) := by omega
            go_wp2_with fail
            refine wp_region_held_drew (S := fun w' => w'.cell? ⟨q, 0, none⟩ = some (.slice (some ad) N cap)) (by kernel_rfl) k0 (fun g => ?_)
            have HL2 : Hid (∃ A2, Lay w0 A2 wr.drew ∧ Row A2 (4, id.toNat) 5 1 (.slice (some ad) N cap) N (bv (putL cl.bs o v j)) ∧ ∀ x, x ≠ (4, id.toNat) → A2 x = A x) := Lib.hid (by obtain ⟨A2, h1, h2, h3⟩ := HH.out; exact ⟨A2, h1.drew, h2, h3⟩)
            clear HH k0
            generalize wr.drew = z at *
            clear wr
            refine tq 0 ?_ rfl (by kernel_rfl) (fun _ _ _ h => h) (by rfl) g ?_ ?_; rotate_left
            · intro w9 h9; go_simp; try with_reducible rfl
            simp only [Act.put, ptA, ptB, ptC]
            refine tq 1 ?_ rfl (by kernel_rfl) (fun _ _ _ h => h) (by rfl) g ?_ ?_; rotate_left
            · intro w9 h9; go_simp; try with_reducible rfl
            simp only [Act.put, ptA, ptB, ptC]
            refine tq 2 ?_ rfl (by kernel_rfl) (fun _ _ _ h => h) (by rfl) g ?_ ?_; rotate_left
            · intro w9 h9; go_simp; try with_reducible rfl
            simp only [Act.put, ptA, ptB, ptC]
            refine tq 3 ?_ rfl (by kernel_rfl) (fun _ _ _ h => h) (by rfl) g ?_ ?_; rotate_left
            · intro w9 h9; go_simp; try with_reducible rfl
            simp only [Act.put, ptA, ptB, ptC]
            refine tq 4 ?_ rfl (by kernel_rfl) (fun _ _ _ h => h) (by rfl) g ?_ ?_; rotate_left
            · intro w9 h9; go_simp; try with_reducible rfl
            simp only [Act.put, ptA, ptB, ptC]
            refine tq 5 ?_ rfl (by kernel_rfl) (fun _ _ _ h => h) (by rfl) g ?_ ?_; rotate_left
            · intro w9 h9; go_simp; try with_reducible rfl
            simp only [Act.put, ptA, ptB, ptC]
            refine tq 6 ?_ rfl (by kernel_rfl) (fun _ _ _ h => h) (by rfl) g ?_ ?_; rotate_left
            · intro w9 h9; go_simp; try with_reducible rfl
            simp only [Act.put, ptA, ptB, ptC]
            refine tq 7 ?_ rfl (by kernel_rfl) (fun _ _ _ h => h) (by rfl) g ?_ ?_; rotate_left
            · intro w9 h9; go_simp; try with_reducible rfl
            simp only [Act.put, ptA, ptB, ptC]
            refine tq 8 ?_ rfl (by kernel_rfl) (fun _ _ _ h => h) (by rfl) g ?_ ?_; rotate_left
            · intro w9 h9; go_simp; try with_reducible rfl
            simp only [Act.put, ptA, ptB, ptC]
            refine tq 9 ?_ rfl (by kernel_rfl) (fun _ _ _ h => h) (by rfl) g ?_ ?_; rotate_left
            · intro w9 h9; go_simp; try with_reducible rfl
            simp only [Act.put, ptA, ptB, ptC]
            refine tq 10 ?_ rfl (by kernel_rfl) (fun _ _ _ h => h) (by rfl) g ?_ ?_; rotate_left
            · intro w9 h9; go_simp; try with_reducible rfl
            simp only [Act.put, ptA, ptB, ptC]
            refine tq 11 ?_ rfl (by kernel_rfl) (fun _ _ _ h => h) (by rfl) g ?_ ?_; rotate_left
            · intro w9 h9; go_simp; try with_reducible rfl
            simp only [Act.put, ptA, ptB, ptC]
            refine tq 12 ?_ rfl (by kernel_rfl) (fun _ _ _ h => h) (by rfl) g ?_ ?_; rotate_left
            · intro w9 h9; go_simp; try with_reducible rfl
            simp only [Act.put, ptA, ptB, ptC]
            refine tc 13 rfl (by kernel_rfl) (fun K9 hK => ?_)
            obtain ⟨A2, hl2, hr2, he2⟩ := HL2.out
            obtain ⟨c1, c2⟩ := own_at (hr2.own hl2) (o + j) (by omega)
            have hjl : o + j < (putL cl.bs o v j).length := by rw [putL_len, HN.out]; omega
            rw [bv_get _ _ hjl] at c1
            obtain ⟨u0, c3⟩ : ∃ u0, z.cell? (ad.add (o + j)) = some (.int .u8 u0) := ⟨_, c1⟩
            clear c1
            obtain ⟨A3, hl3, hr3, he3⟩ := hr2.put hl2 (o + j) (.int .u8 (v / 256 ^ j % 256))
            have HL3 : Hid (∃ A2, Lay w0 A2 (z.setCell (ad.add (o + j)) (.int .u8 (v / 256 ^ j % 256))) ∧ Row A2 (4, id.toNat) 5 1 (.slice (some ad) N cap) N (bv (putL cl.bs o v (j + 1))) ∧ ∀ x, x ≠ (4, id.toNat) → A2 x = A x) := Lib.hid ⟨A3, hl3, by rw [bv_set] at hr3; exact hr3, fun x hx => (he3 x hx).trans (he2 x hx)⟩
            have k0 := (hl3.bk ((he3 (3, id.toNat) (by simp)).trans ((he2 (3, id.toNat) (by simp)).trans HBL.out))).cell 0
            clear hl3 hr3 he3 hl2 hr2 he2 HL2 hjl
            go_simp
            refine hK.out _ _ (by exact k0) (fun g1 => ?_)
            clear hK K9 g
            have g := g1
            clear g1
            clear k0 c2 c3 hsh
            generalize (z.setCell (ad.add (o + j)) (.int .u8 (v / 256 ^ j % 256))) = z9 at *
            clear z
            clear g
            refine wpAnyH_done (by kernel_rfl) ?_ _
            go_wp2
            go_roundw
            case rel => exact ⟨j + 1, by omega, by go_num, HL3⟩
            case measure => simp [intOf]; omega
          · obtain rfl : j = k := by omega
            obtain ⟨A2, hl2, hr2, he2⟩ := HH.out
            have hb2 := (he2 (3, id.toNat) (by simp)).trans HBL.out
            obtain ⟨k1, k2, k3⟩ : wr.cell? ⟨q, 1, none⟩ = some (.complex .f64 (fl (bts cl.ts).x) (fl (bts cl.ts).y)) ∧ wr.cell? ⟨q, 2, none⟩ = some (.int .i64 (bts cl.ts).n) ∧ wr.cell? ⟨q, 3, none⟩ = some (.int .i64 (bts cl.ts).t) := ⟨(hl2.bk hb2).cell 1, (hl2.bk hb2).cell 2, (hl2.bk hb2).cell 3⟩
            have HL2 := Lib.hid hl2
            have HR2 := Lib.hid hr2
            have HE2 := Lib.hid he2
            have HB2 := Lib.hid hb2
            clear hl2 hr2 he2 hb2 HH
            rw [HT.out] at CW
            generalize hb : bts (cl.ts ++ [now]) = b' at *
            have HT2 := Lib.hid hb
            clear hb
            go_wp2_with ((with_reducible refine (CW _).mono ?_); rintro e w' ⟨rfl, q1⟩; have HL3 := Lib.hid (HL2.out.grow q1); clear q1 HL2; obtain ⟨k1, k2, k3⟩ : w'.cell? ⟨q, 1, none⟩ = some (.complex .f64 (fl (bts cl.ts).x) (fl (bts cl.ts).y)) ∧ w'.cell? ⟨q, 2, none⟩ = some (.int .i64 (bts cl.ts).n) ∧ w'.cell? ⟨q, 3, none⟩ = some (.int .i64 (bts cl.ts).t) := ⟨(HL3.out.bk HB2.out).cell 1, (HL3.out.bk HB2.out).cell 2, (HL3.out.bk HB2.out).cell 3⟩; obtain ⟨f1, f2, f3⟩ : w'.frozen? ⟨q, 1, none⟩ = false ∧ w'.frozen? ⟨q, 2, none⟩ = false ∧ w'.frozen? ⟨q, 3, none⟩ = false := ⟨(HL3.out.bk HB2.out).frozen 1, (HL3.out.bk HB2.out).frozen 2, (HL3.out.bk HB2.out).frozen 3⟩)
            obtain ⟨A3, l3, hb3, he3⟩ := beat_c HL3.out HB2.out (⟨putL cl.bs o v j, cl.ts ++ [now], cl.gone, cl.swept⟩ : Cl) rfl
            dsimp only at l3
            rw [HT2.out] at l3
            have hd : PSx A3 P LL m es c D E ds := by
              rw [HLL.out]
              exact HX.out.wrote hmem HG.out hsw rfl (s := .slice (some ad) N cap) ⟨hb3, by
                dsimp only; rw [putL_len, HN.out]; exact HR2.out.keep (he3 _ (by simp))⟩ (fun x h3 h4 => by rw [he3 _ h3, HE2.out _ h4])
            have HDD : Hid (Did w0 A P LL (((w'.setCell ⟨q, 1, none⟩ (.complex .f64 (fl b'.x) (fl b'.y))).setCell ⟨q, 2, none⟩ (.int .i64 b'.n)).setCell ⟨q, 3, none⟩ (.int .i64 b'.t))) := Lib.hid ⟨_, l3, ⟨_, _, _, _, _, _, hd⟩, fun x hx => by
              rw [he3 _ (ne10 hx (by simp)), HE2.out _ (ne10 hx (by simp))]⟩
            clear l3 hb3 he3 hd k1 k2 k3 f1 f2 f3
            generalize (((w'.setCell ⟨q, 1, none⟩ (.complex .f64 (fl b'.x) (fl b'.y))).setCell ⟨q, 2, none⟩ (.int .i64 b'.n)).setCell ⟨q, 3, none⟩ (.int .i64 b'.t)) = z9 at *
            go_ret
            exact ⟨rfl, HDD.out⟩
end Go.Proofs.Ythdgdkjaeebbcaa
