/-
  What the program's cells do: Drop, Store, Write: contracts. Conditions: cells of 64 bytes at most, written 300 times at most.
-/
import Derived.Test.YthdgdkjaeebbcaaCellsProg3
namespace Go.Proofs.Ythdgdkjaeebbcaa
set_option maxRecDepth 100000
open Go.RowKit Ow Ph Ro K2
set_option linter.unusedVariables false
set_option linter.unusedSimpArgs false
attribute [local go_sem] run_store_complex
theorem cint_info : (Try.prog.info? 3).map (fun i => (i.zero, i.size, i.bytes)) = some (some (.int .i64 0), 1, 8) := by kernel_rfl
theorem id_ {p : Prop} (h : p) : p := h
theorem new_one {W : World} {b : Nat} (x : Value) (t : TypeId) (hb : b = W.heap.size := by simp) : ∀ j u, [x][j]? = some u → (W.alloc (.cells #[x] t)).cell? ((⟨b, 0, none⟩ : Addr).add j) = some u := by subst hb; exact cell_one_new _ _ _
def drC (L : List Cl) (id : Int) : Bool × List Cl :=
  match gt L id with
  | none => (false, L)
  | some c => if c.gone then (false, L) else (true, L.set (id.toNat - 1) { c with gone := true })
def BoolP (w0 : World) (A : Ac) (P : Nat) (x : Bool × List Cl) (e : Ending) (w' : World) : Prop := e = .returned (.bool x.1) ∧ Did w0 A P x.2 w'
theorem Did.same {w0 w : World} {A : Ac} {P : Nat} {L : List Cl} (hl : Lay w0 A w) (h : PS A P L) : Did w0 A P L w := ⟨A, hl, h, Fr.refl A⟩
theorem ne10 {x r : Rl} (hx : 10 ≤ x.1) (hr : r.1 < 10) : x ≠ r := fun e => by rw [e] at hx; omega
set_option maxHeartbeats 1000000 in
theorem drop_c {w0 w : World} {A : Ac} {P n : Nat} {L : List Cl} (hl : Lay w0 A w) (h : PS A P L) (hds : ∀ m es c D E ds, PSx A P L m es c D E ds → ds.length ≤ 1000) (id : Int) :
    Calls Try.prog 28 #[.pointer (some ⟨P, 0, none⟩), .int .i64 id] w (BoolP w0 A P (drC L id)) := by
  cases hg : gt L id with
  | none =>
    have e : drC L id = (false, L) := by unfold drC; rw [hg]
    rw [e]
    clear e
    obtain ⟨m, hc, hr⟩ := h.look_none hl hg (zero_ptr w)
    have HD := Lib.hid (Did.same hl h)
    clear hl h hg
    go_enter Try.func28, Try.ntmps28
    go_wp2
    go_ret
    exact ⟨rfl, HD.out⟩
  | some cl =>
    have hid1 := (gt_some hg).1
    have hid : ((id.toNat : Nat) : Int) = id := Int.toNat_of_nonneg (by omega)
    obtain ⟨m, es, c, D, E, ds, hx⟩ := h
    obtain ⟨q, s, j, hf, hE, hat⟩ := hx.some_ hg
    have hr := run_look (P := Try.prog) und_map und_int (hl.obj hx.map_) hf
    have hc : w.cell? ⟨P, 0, none⟩ = some (.map (some m)) := (hl.bk hx.head).cell 0
    have k4 : w.cell? ⟨q, 4, none⟩ = some (.bool cl.gone) := (hl.bk hat.blk).cell 4
    have f4 : w.frozen? ⟨q, 4, none⟩ = false := (hl.bk hat.blk).frozen 4
    cases hgn : cl.gone with
    | true =>
      rw [hgn] at k4
      have e : drC L id = (false, L) := by unfold drC; rw [hg]; simp [hgn]
      rw [e]
      clear e
      have HD := Lib.hid (Did.same hl ⟨m, es, c, D, E, ds, hx⟩)
      clear hl hx hds hf hat
      go_enter Try.func28, Try.ntmps28
      go_wp2
      go_ret
      exact ⟨rfl, HD.out⟩
    | false =>
      rw [hgn] at k4
      have e : drC L id = (true, L.set (id.toNat - 1) { cl with gone := true }) := by unfold drC; rw [hg]; simp [hgn]
      rw [e]
      clear e
      have hsw := (gt_some hg).2.2.2
      obtain ⟨i0, hi0, hz0, hz1, hz2⟩ := info_parts cint_info
      have hlen := hds _ _ _ _ _ _ hx
      have hl1 := hl.set_ hat.blk 4 (.bool true)
      have hmem : (id.toNat, q) ∈ E := List.mem_of_getElem? hE
      have hg' : gt L ((id.toNat : Nat) : Int) = some cl := by rw [hid]; exact hg
      have hcc : (cc s cl).setIfInBounds 4 (.bool true) = cc s { cl with gone := true } := rfl
      rw [hcc] at hl1
      have HID := Lib.hid hid
      have HSET : ∃ cl', cl' = { cl with gone := true } := ⟨_, rfl⟩
      obtain ⟨cl', hcl'⟩ := HSET
      rw [← hcl'] at hl1 ⊢
      have hgn' : cl'.gone = true := by rw [hcl']
      have hsw' : cl'.swept = false := by rw [hcl']; exact hsw
      have hat' : CellAt (A.up (3, id.toNat) q (.cells (cc s cl') 82)) id.toNat q s cl' := ⟨up_same _ _ _ _, by rw [hcl']; exact hat.row.keep (up_other _ _ _ (by simp))⟩
      clear hcl' hcc
      have hD1 := hx.drop.keep (A' := A.up (3, id.toNat) q (.cells (cc s cl') 82)) (up_other _ _ _ (by simp))
      have hP1 : (A.up (3, id.toNat) q (.cells (cc s cl') 82)) (0, 0) = some (P, .cells #[.map (some m), D, .int .i64 (L.length : Int)] 68) := by rw [up_other _ _ _ (by simp)]; exact hx.head
      have HF : Hid (∀ x : Rl, x ≠ (3, id.toNat) → (A.up (3, id.toNat) q (.cells (cc s cl') 82)) x = A x) := Lib.hid fun x h => up_other _ _ _ h
      generalize A.up (3, id.toNat) q (.cells (cc s cl') 82) = A1 at *
      have HL1 := Lib.hid hl1
      have HX := Lib.hid hx
      have HAT := Lib.hid hat'
      have HD1 := Lib.hid hD1
      have HP1 := Lib.hid hP1
      have HG := Lib.hid hg'
      have k1 : (w.setCell ⟨q, 4, none⟩ (.bool true)).cell? ⟨P, 1, none⟩ = some D := (hl1.bk hP1).cell 1
      have OWN := Lib.hid (hD1.own hl1)
      obtain ⟨a, cap, rfl, _, _, _⟩ := hx.drop.form2
      clear hl hx hds hf hat hl1 hat' hD1 hP1 hg' hg hid hE
      go_enter Try.func28, Try.ntmps28
      go_wp2_with (at_builtin; refine wpList_append_own_at _ rfl (.tmp 31) (.tmp 33) _ rfl w0.heap.size 3 i0 _ 1 8 Try.underlying50 hi0 hz0 hz1 hz2 rfl (by decide) _ _ _ rfl (OWN.out.alloc _) ⟨w.heap.size, 0, none⟩ 1 1 _ rfl rfl (new_one _ _) ?a2 ?a3 ?a4 ?a5 ?_)
      case a2 => intro u hu; simp at hu; subst hu; rfl
      case a3 => unfold maxLen; omega
      case a4 => omega
      case a5 => have := OWN.out; have := HL1.out.below.size; simp at this ⊢; omega
      intro v9 z9 hown9 hg9 _ hat9
      have HT : Hid (∃ A2, Lay w0 A2 z9 ∧ Row A2 (2, 0) 3 1 v9 (ds.length + 1) (dv (ds ++ [id.toNat])) ∧ ∀ x, x ≠ (2, 0) → A2 x = A1 x) := Lib.hid ((HL1.out.alloc_ (.cells #[.int .i64 id] 3)).took HD1.out hg9 (own_cast hown9 rfl (by rw [dv_app, dv]; simp [dv, HID.out])) (hat9.imp id_ fun e => ⟨w.heap.size + 1, e, by simp⟩))
      clear hown9 hg9 hat9 OWN HD1 HL1 k1 k4 f4 hc hr
      obtain ⟨A2, hl2, hD2, he2⟩ := HT.out
      obtain ⟨a9, cap9, rfl, _, _, _⟩ := hD2.form2
      have hP2 : A2 (0, 0) = some (P, .cells #[.map (some m), .slice a ds.length cap, .int .i64 (L.length : Int)] 68) := (he2 _ (by simp)).trans HP1.out
      obtain ⟨k1, f1⟩ : z9.cell? ⟨P, 1, none⟩ = some (.slice a ds.length cap) ∧ z9.frozen? ⟨P, 1, none⟩ = false := ⟨(hl2.bk hP2).cell 1, (hl2.bk hP2).frozen 1⟩
      have HL3 := Lib.hid (hl2.set_ hP2 1 (.slice a9 (ds.length + 1) cap9))
      have HDD : Hid (Did w0 A P (L.set (id.toNat - 1) cl') (z9.setCell ⟨P, 1, none⟩ (.slice a9 (ds.length + 1) cap9))) := Lib.hid ⟨_, HL3.out, ⟨_, _, _, _, _, _, HX.out.dropped hmem HG.out hsw' hgn hgn' (up_same _ _ _ _) (hD2.keep (up_other _ _ _ (by simp)))
        (HAT.out.keep (by rw [up_other _ _ _ (by simp), he2 _ (by simp)]) (by rw [up_other _ _ _ (by simp), he2 _ (by simp)]))
        (fun x h10 h1 h2 h3 h4 => by rw [up_other _ _ _ h1, he2 _ h2, HF.out _ h3])⟩, fun x hx => by
          rw [up_other _ _ _ (ne10 hx (by simp)), he2 _ (ne10 hx (by simp)), HF.out _ (ne10 hx (by simp))]⟩
      clear HT hl2 hD2 he2 hP2 HL3 HP1 HX HAT HF HG
      go_wp2
      generalize (z9.setCell ⟨P, 1, none⟩ (.slice a9 (ds.length + 1) cap9)) = z10 at *
      go_ret
      exact ⟨rfl, HDD.out⟩
end Go.Proofs.Ythdgdkjaeebbcaa
