/-
  What the program's cells do: Write: contract. Conditions: cells of 64 bytes at most, written 300 times at most.
-/
import Derived.Test.YthdgdkjaeebbcaaCellsProg5
import Derived.Laws.CopyOwn
namespace Go.Proofs.Ythdgdkjaeebbcaa
set_option maxRecDepth 100000
open Go.RowKit Ow Ph Ro K2
set_option linter.unusedVariables false
set_option linter.unusedSimpArgs false
attribute [local go_sem] run_store_complex
/-- A row is copied over. -/
theorem row_copied {w0 w : World} {A : Ac} {r : Rl} {t : TypeId} {n cap g : Nat} {cur : Array Value} {cs : List Value} (hl : Lay w0 A w) (hA : A r = some (g, .cells cur t)) (h1 : n ≤ cap) (h2 : cap ≤ maxLen) (h3 : cur.size = cap * 1) (hcs : cs.length = n) :
    ∃ A', Lay w0 A' (w.setRow g (cur.toList.take 0 ++ (cs ++ cur.toList.drop (0 + cs.length))).toArray) ∧ Row A' r t 1 (.slice (some ⟨g, 0, none⟩) n cap) n cs ∧ ∀ x, x ≠ r → A' x = A x := by
  refine ⟨A.up r g (.cells (cur.toList.take 0 ++ (cs ++ cur.toList.drop (0 + cs.length))).toArray t), hl.put hA ?_ (setRow_heap w g cur _ t _ (hl.obj hA)), ⟨by omega, .inr ⟨g, cap, _, rfl, up_same _ _ _ _, h1, h2, ?_, ?_⟩⟩, fun x hx => up_other _ _ _ hx⟩
  · exact ⟨rfl, rfl, rfl, by simp [World.setRow], fun k hk hne => setRow_other w g k _ (fun e => hne (by rw [e]))⟩
  · simp; omega
  · simp [← hcs]
def wrC (L : List Cl) (id : Int) (b : List Int) (now : Int) : Bool × List Cl :=
  match gt L id with
  | none => (false, L)
  | some c => if c.bs.length = b.length then (true, L.set (id.toNat - 1) { c with bs := b, ts := c.ts ++ [now] }) else (false, L)
/- WRITE -/
set_option maxHeartbeats 2000000 in
theorem write_c {w0 w : World} {A : Ac} {P n : Nat} {L : List Cl} (hl : Lay w0 A w) (h : PS A P L) (ho : OkL n L) (hn : n ≤ 300) (id now : Int) (hnow : i64 now) (ab : Option Addr) (lenb capb : Nat) (b : List Int) (hlb : b.length = lenb) (hm1 : lenb ≤ 9223372036854775807)
    {r : Rl} (hr10 : 10 ≤ r.1) (hrd : Reads w0 A r ab (bv b)) :
    Calls Try.prog 40 #[.pointer (some ⟨P, 0, none⟩), .int .i64 id, .slice ab lenb capb, .int .i64 now] w (BoolP w0 A P (wrC L id b now)) := by
  have HRD := Lib.hid (hrd.rd hl)
  clear hrd
  cases hg : gt L id with
  | none =>
    have e : wrC L id b now = (false, L) := by unfold wrC; rw [hg]
    rw [e]
    clear e
    obtain ⟨m, hc, hr⟩ := h.look_none hl hg (zero_ptr w)
    have HD := Lib.hid (Did.same hl h)
    clear hl h hg hlb
    go_enter Try.func40, Try.ntmps40
    go_wp2
    go_ret
    exact ⟨rfl, HD.out⟩
  | some cl =>
    have hid1 := (gt_some hg).1
    have hid : ((id.toNat : Nat) : Int) = id := Int.toNat_of_nonneg (by omega)
    have hps := h
    obtain ⟨m, es, c, D, E, ds, hx⟩ := h
    obtain ⟨q, s, j, hf, hE, hat⟩ := hx.some_ hg
    have hr := run_look (P := Try.prog) und_map und_int (hl.obj hx.map_) hf
    have hc : w.cell? ⟨P, 0, none⟩ = some (.map (some m)) := (hl.bk hx.head).cell 0
    have hok := gt_ok ho hg
    have hle := hok.len
    by_cases hi : cl.bs.length = lenb
    · have e : wrC L id b now = (true, L.set (id.toNat - 1) { cl with bs := b, ts := cl.ts ++ [now] }) := by unfold wrC; rw [hg]; simp [hi, hlb]
      rw [e]
      clear e
      have hsw := (gt_some hg).2.2.2
      have hmem : (id.toNat, q) ∈ E := List.mem_of_getElem? hE
      have hg' : gt L ((id.toNat : Nat) : Int) = some cl := by rw [hid]; exact hg
      have hb := bts_ok cl.ts
      have hlen := hb.len
      have hofs := hok.often
      have hsww := hb.sw
      have CW := fun w => write_any (bts cl.ts) now (by omega) (by omega) (by omega) hnow w
      have HX := Lib.hid hx
      have HG := Lib.hid hg'
      have HBN := Lib.hid hlb
      have HLL : ∃ LL, LL = L.set (id.toNat - 1) { cl with bs := b, ts := cl.ts ++ [now] } := ⟨_, rfl⟩
      obtain ⟨LL, hLL⟩ := HLL
      rw [← hLL]
      have HLL := Lib.hid hLL
      have hrow := hat.row
      rw [hi] at hrow
      have hbl := hat.blk

      have HT2 : ∃ b', bts (cl.ts ++ [now]) = b' := ⟨_, rfl⟩
      obtain ⟨b', hb'⟩ := HT2
      have HT2 := Lib.hid hb'
      unfold Bt.val at CW
      rw [← bts_app, hb'] at CW
      have k0 := (hl.bk hbl).cell 0
      have k1 := (hl.bk hbl).cell 1
      have k2 := (hl.bk hbl).cell 2
      have k3 := (hl.bk hbl).cell 3
      simp only [cc, List.getElem?_toArray, List.getElem?_cons_zero, List.getElem?_cons_succ] at k0 k1 k2 k3
      have HBL := Lib.hid hbl
      have hsz : (Try.prog.info? 5).map (·.size) = some 1 := by kernel_rfl
      rcases hrow.2 with ⟨hs, hn0⟩ | ⟨g, cap, cur, hs, hA4, h1, h2, h3, h4⟩
      · subst hs
        subst hn0
        obtain ⟨A2, hl2, hr2, he2⟩ : ∃ A2, Lay w0 A2 w ∧ Row A2 (4, id.toNat) 5 1 (.slice none 0 0) 0 (bv b) ∧ ∀ x : Rl, x ≠ (4, id.toNat) → A2 x = A x := ⟨A, hl, by rw [List.length_eq_zero_iff.1 hlb]; exact Row.nil _ _ _ _, fun _ _ => rfl⟩
        have HB2 := Lib.hid ((he2 (3, id.toNat) (by simp)).trans hbl)
        have HR2 := Lib.hid hr2
        have HE2 := Lib.hid he2
        have HL2 := Lib.hid hl2
        clear hl2 hr2 he2
        clear hl hx hps hf hat hok ho hi hE hg hg' hb hofs hsww hid hLL hlb hlen hrow hbl hb'
        go_enter Try.func40, Try.ntmps40
        go_wp2_with (first | (with_reducible refine wpList_copy_nothing rfl (.tmp 35) (.tmp 36) _ _ rfl 5 Try.underlying31 hsz _ _ _ _ _ _ rfl rfl rfl ?_) | ((with_reducible refine (CW _).mono ?_); rintro e w' ⟨rfl, q1⟩; have HL3 := Lib.hid (HL2.out.grow q1); clear q1 HL2; obtain ⟨k1, k2, k3⟩ : w'.cell? ⟨q, 1, none⟩ = some (.complex .f64 (fl (bts cl.ts).x) (fl (bts cl.ts).y)) ∧ w'.cell? ⟨q, 2, none⟩ = some (.int .i64 (bts cl.ts).n) ∧ w'.cell? ⟨q, 3, none⟩ = some (.int .i64 (bts cl.ts).t) := ⟨(HL3.out.bk HB2.out).cell 1, (HL3.out.bk HB2.out).cell 2, (HL3.out.bk HB2.out).cell 3⟩; obtain ⟨f1, f2, f3⟩ : w'.frozen? ⟨q, 1, none⟩ = false ∧ w'.frozen? ⟨q, 2, none⟩ = false ∧ w'.frozen? ⟨q, 3, none⟩ = false := ⟨(HL3.out.bk HB2.out).frozen 1, (HL3.out.bk HB2.out).frozen 2, (HL3.out.bk HB2.out).frozen 3⟩))
        obtain ⟨A3, l3, hb3, he3⟩ := beat_c HL3.out HB2.out (⟨b, cl.ts ++ [now], cl.gone, cl.swept⟩ : Cl) rfl
        dsimp only at l3
        rw [HT2.out] at l3
        have hd : PSx A3 P LL m es c D E ds := by
          rw [HLL.out]
          exact HX.out.wrote hmem HG.out hsw rfl (s := .slice none 0 0) ⟨hb3, by
            dsimp only; rw [HBN.out]; exact HR2.out.keep (he3 _ (by simp))⟩ (fun x h3 h4 => by rw [he3 _ h3, HE2.out _ h4])
        have HDD : Hid (Did w0 A P LL (((w'.setCell ⟨q, 1, none⟩ (.complex .f64 (fl b'.x) (fl b'.y))).setCell ⟨q, 2, none⟩ (.int .i64 b'.n)).setCell ⟨q, 3, none⟩ (.int .i64 b'.t))) := Lib.hid ⟨_, l3, ⟨_, _, _, _, _, _, hd⟩, fun x hx => by
          rw [he3 _ (ne10 hx (by simp)), HE2.out _ (ne10 hx (by simp))]⟩
        clear l3 hb3 he3 hd k1 k2 k3 f1 f2 f3
        generalize (((w'.setCell ⟨q, 1, none⟩ (.complex .f64 (fl b'.x) (fl b'.y))).setCell ⟨q, 2, none⟩ (.int .i64 b'.n)).setCell ⟨q, 3, none⟩ (.int .i64 b'.t)) = z9 at *
        go_ret
        exact ⟨rfl, HDD.out⟩
      · subst hs
        have HB2 : Hid (A (3, id.toNat) = some (q, .cells (cc (.slice (some ⟨g, 0, none⟩) lenb cap) cl) 82)) := Lib.hid hbl
        have HA4 := Lib.hid hA4
        have HL2 := Lib.hid hl
        have HC3 := Lib.hid h3
        have hcur := hl.obj hA4
        by_cases hn0 : lenb = 0
        · subst hn0
          obtain ⟨A2, hl2, hr2, he2⟩ : ∃ A2, Lay w0 A2 w ∧ Row A2 (4, id.toNat) 5 1 (.slice (some ⟨g, 0, none⟩) 0 cap) 0 (bv b) ∧ ∀ x : Rl, x ≠ (4, id.toNat) → A2 x = A x := ⟨A, hl, by rw [List.length_eq_zero_iff.1 hlb, ← List.length_eq_zero_iff.1 hi]; exact hrow, fun _ _ => rfl⟩
          have HB2 := Lib.hid ((he2 (3, id.toNat) (by simp)).trans hbl)
          have HR2 := Lib.hid hr2
          have HE2 := Lib.hid he2
          have HL2 := Lib.hid hl2
          clear hl2 hr2 he2
          clear hl hx hps hf hat hok ho hi hE hg hg' hb hofs hsww hid hLL hlb hlen hrow hbl hb' h3 h4 hA4
          go_enter Try.func40, Try.ntmps40
          go_wp2_with (first | (with_reducible refine wpList_copy_nothing rfl (.tmp 35) (.tmp 36) _ _ rfl 5 Try.underlying31 hsz _ _ _ _ _ _ rfl rfl rfl ?_) | ((with_reducible refine (CW _).mono ?_); rintro e w' ⟨rfl, q1⟩; have HL3 := Lib.hid (HL2.out.grow q1); clear q1 HL2; obtain ⟨k1, k2, k3⟩ : w'.cell? ⟨q, 1, none⟩ = some (.complex .f64 (fl (bts cl.ts).x) (fl (bts cl.ts).y)) ∧ w'.cell? ⟨q, 2, none⟩ = some (.int .i64 (bts cl.ts).n) ∧ w'.cell? ⟨q, 3, none⟩ = some (.int .i64 (bts cl.ts).t) := ⟨(HL3.out.bk HB2.out).cell 1, (HL3.out.bk HB2.out).cell 2, (HL3.out.bk HB2.out).cell 3⟩; obtain ⟨f1, f2, f3⟩ : w'.frozen? ⟨q, 1, none⟩ = false ∧ w'.frozen? ⟨q, 2, none⟩ = false ∧ w'.frozen? ⟨q, 3, none⟩ = false := ⟨(HL3.out.bk HB2.out).frozen 1, (HL3.out.bk HB2.out).frozen 2, (HL3.out.bk HB2.out).frozen 3⟩))
          obtain ⟨A3, l3, hb3, he3⟩ := beat_c HL3.out HB2.out (⟨b, cl.ts ++ [now], cl.gone, cl.swept⟩ : Cl) rfl
          dsimp only at l3
          rw [HT2.out] at l3
          have hd : PSx A3 P LL m es c D E ds := by
            rw [HLL.out]
            exact HX.out.wrote hmem HG.out hsw rfl (s := .slice (some ⟨g, 0, none⟩) 0 cap) ⟨hb3, by
              dsimp only; rw [HBN.out]; exact HR2.out.keep (he3 _ (by simp))⟩ (fun x h3 h4 => by rw [he3 _ h3, HE2.out _ h4])
          have HDD : Hid (Did w0 A P LL (((w'.setCell ⟨q, 1, none⟩ (.complex .f64 (fl b'.x) (fl b'.y))).setCell ⟨q, 2, none⟩ (.int .i64 b'.n)).setCell ⟨q, 3, none⟩ (.int .i64 b'.t))) := Lib.hid ⟨_, l3, ⟨_, _, _, _, _, _, hd⟩, fun x hx => by
            rw [he3 _ (ne10 hx (by simp)), HE2.out _ (ne10 hx (by simp))]⟩
          clear l3 hb3 he3 hd k1 k2 k3 f1 f2 f3
          generalize (((w'.setCell ⟨q, 1, none⟩ (.complex .f64 (fl b'.x) (fl b'.y))).setCell ⟨q, 2, none⟩ (.int .i64 b'.n)).setCell ⟨q, 3, none⟩ (.int .i64 b'.t)) = z9 at *
          go_ret
          exact ⟨rfl, HDD.out⟩
        · obtain ⟨ad, rfl, hab, hcx⟩ := HRD.out (by rw [bv_len]; omega)
          obtain ⟨A2, hl2, hr2, he2⟩ := row_copied hl hA4 h1 h2 h3 (cs := bv b) (by rw [bv_len]; exact hlb)
          have HB2 := Lib.hid ((he2 (3, id.toNat) (by simp)).trans hbl)
          have HR2 := Lib.hid hr2
          have HE2 := Lib.hid he2
          have HL2 := Lib.hid hl2
          have k1 := (hl2.bk HB2.out).cell 1
          have k2 := (hl2.bk HB2.out).cell 2
          have k3 := (hl2.bk HB2.out).cell 3
          simp only [cc, List.getElem?_toArray, List.getElem?_cons_zero, List.getElem?_cons_succ] at k1 k2 k3
          have HCX := Lib.hid hcx
          have HCL : Hid ((bv b).length = Nat.min lenb lenb) := Lib.hid (by rw [bv_len, hlb]; exact (Nat.min_self _).symm)
          have HFT : Hid (0 + (bv b).length ≤ cur.size) := Lib.hid (by rw [bv_len]; omega)
          have HCU := Lib.hid hcur
          clear hl2 hr2 he2 hcx hcur
          clear hl hx hps hf hat hok ho hi hE hg hg' hb hofs hsww hid hLL hlb hlen hrow hbl hb' h3 h4 hA4
          go_enter Try.func40, Try.ntmps40
          go_wp2_with (first | (with_reducible refine wpList_copy_own rfl (.tmp 35) (.tmp 36) _ _ rfl 5 Try.underlying31 hsz g 0 _ _ ad _ _ rfl rfl cur _ HCU.out (bv b) HCL.out HCX.out HFT.out (bv_one b) ?_; generalize (w.setRow g (cur.toList.take 0 ++ (bv b ++ cur.toList.drop (0 + (bv b).length))).toArray) = w2 at *) | ((with_reducible refine (CW _).mono ?_); rintro e w' ⟨rfl, q1⟩; have HL3 := Lib.hid (HL2.out.grow q1); clear q1 HL2; obtain ⟨k1, k2, k3⟩ : w'.cell? ⟨q, 1, none⟩ = some (.complex .f64 (fl (bts cl.ts).x) (fl (bts cl.ts).y)) ∧ w'.cell? ⟨q, 2, none⟩ = some (.int .i64 (bts cl.ts).n) ∧ w'.cell? ⟨q, 3, none⟩ = some (.int .i64 (bts cl.ts).t) := ⟨(HL3.out.bk HB2.out).cell 1, (HL3.out.bk HB2.out).cell 2, (HL3.out.bk HB2.out).cell 3⟩; obtain ⟨f1, f2, f3⟩ : w'.frozen? ⟨q, 1, none⟩ = false ∧ w'.frozen? ⟨q, 2, none⟩ = false ∧ w'.frozen? ⟨q, 3, none⟩ = false := ⟨(HL3.out.bk HB2.out).frozen 1, (HL3.out.bk HB2.out).frozen 2, (HL3.out.bk HB2.out).frozen 3⟩))
          obtain ⟨A3, l3, hb3, he3⟩ := beat_c HL3.out HB2.out (⟨b, cl.ts ++ [now], cl.gone, cl.swept⟩ : Cl) rfl
          dsimp only at l3
          rw [HT2.out] at l3
          have hd : PSx A3 P LL m es c D E ds := by
            rw [HLL.out]
            exact HX.out.wrote hmem HG.out hsw rfl (s := .slice (some ⟨g, 0, none⟩) lenb cap) ⟨hb3, by
              dsimp only; rw [HBN.out]; exact HR2.out.keep (he3 _ (by simp))⟩ (fun x h3 h4 => by rw [he3 _ h3, HE2.out _ h4])
          have HDD : Hid (Did w0 A P LL (((w'.setCell ⟨q, 1, none⟩ (.complex .f64 (fl b'.x) (fl b'.y))).setCell ⟨q, 2, none⟩ (.int .i64 b'.n)).setCell ⟨q, 3, none⟩ (.int .i64 b'.t))) := Lib.hid ⟨_, l3, ⟨_, _, _, _, _, _, hd⟩, fun x hx => by
            rw [he3 _ (ne10 hx (by simp)), HE2.out _ (ne10 hx (by simp))]⟩
          clear l3 hb3 he3 hd k1 k2 k3 f1 f2 f3
          generalize (((w'.setCell ⟨q, 1, none⟩ (.complex .f64 (fl b'.x) (fl b'.y))).setCell ⟨q, 2, none⟩ (.int .i64 b'.n)).setCell ⟨q, 3, none⟩ (.int .i64 b'.t)) = z9 at *
          go_ret
          exact ⟨rfl, HDD.out⟩
    · have e : wrC L id b now = (false, L) := by unfold wrC; rw [hg]; simp [hlb, hi]
      rw [e]
      clear e
      obtain ⟨a, cap, rfl, h1, h2, h3⟩ := hat.row.form2
      have k0 : w.cell? ⟨q, 0, none⟩ = some (.slice a cl.bs.length cap) := (hl.bk hat.blk).cell 0
      have hne : ((lenb : Int) != (cl.bs.length : Int)) = true := by simp; omega
      have HD := Lib.hid (Did.same hl hps)
      generalize cl.bs.length = N at *
      clear hl hx hps hf hat hok ho hi hlb hg h1 h2 h3 hE
      go_enter Try.func40, Try.ntmps40
      go_wp2
      go_ret
      exact ⟨rfl, HD.out⟩
end Go.Proofs.Ythdgdkjaeebbcaa
