/-
  What the document's answer of layer 2 tells of an instruction (Check) and makes of instructions (Put): contracts. Conditions: the numbers are of 64 bits.
-/
import Derived.Test.YtlimhdnpdhjdaaaInsnRefB
import Derived.Test.YtlimhdnpdhjdaaaInsnPuts
import Derived.Test.YtlimhdnpdhjdaaaInsnRc59
import Derived.Test.YtlimhdnpdhjdaaaInsnRc55
import Derived.Test.YtlimhdnpdhjdaaaInsnRc45
import Derived.Test.YtlimhdnpdhjdaaaInsnRc39
import Derived.Test.YtlimhdnpdhjdaaaInsnRc57
import Derived.Test.YtlimhdnpdhjdaaaInsnRc49
import Derived.Test.YtlimhdnpdhjdaaaInsnRc51
import Derived.Test.YtlimhdnpdhjdaaaInsnRc36
import Derived.Test.YtlimhdnpdhjdaaaInsnRc40
import Derived.Test.YtlimhdnpdhjdaaaInsnRc32
namespace Go.Proofs.Ytlimhdnpdhjdaaa
open Go.RowKit Wi Ow
set_option linter.unusedVariables false
set_option linter.unusedSimpArgs false

theorem refcheck_any (op dst src off imm : Int) (w : World) :
    Calls Try.prog 12 #[.agg #[.int .i64 op, .int .i64 dst, .int .i64 src, .int .i64 off, .int .i64 imm]] w fun e w' => e = .returned (.int .i64 (chkV op dst src off imm)) ∧ Below w.heap.size w w' := by
  rcases useV_cases op with h | h | h | h | h | h | h | h | h | h | h
  · exact refcheck_none op dst src off imm (by rw [h]; decide) w
  · exact refcheck_59 op dst src off imm h w
  · exact refcheck_55 op dst src off imm h w
  · exact refcheck_45 op dst src off imm h w
  · exact refcheck_39 op dst src off imm h w
  · exact refcheck_57 op dst src off imm h w
  · exact refcheck_49 op dst src off imm h w
  · exact refcheck_51 op dst src off imm h w
  · exact refcheck_36 op dst src off imm h w
  · exact refcheck_40 op dst src off imm h w
  · exact refcheck_32 op dst src off imm h w

theorem refput_many (A : Option Addr) (n c : Nat) (L : List In) (hn : L.length = n) (hm : n ≤ 9223372036854775807) (h : 256 < n) (w : World) :
    Calls Try.prog 20 #[.slice A n c] w fun e w' => e = .returned (.tuple #[.slice none 0 0, .int .i64 9]) ∧ w = w' := by
  clear hn
  go_enter Try.func20, Try.ntmps20
  go_wp2
  go_ret2
  exact ⟨rfl, rfl⟩
/-- The bytes so far, and the row that is appended. -/
structure PutR (w : World) (ax : Addr) (bs : List Int) (b : Value) (wr : World) (M : List Int) : Prop where
  own : wr.ownsRow w.heap.size 5 1 b M.length (bv M)
  rd : ∀ j u, (bv bs)[j]? = some u → wr.cell? (ax.add j) = some u
  lt : ax.block < wr.heap.size
  ne : b.ownBlock ≠ some ax.block
  below : Below w.heap.size w wr
theorem PutR.step {w wr w1 : World} {ax : Addr} {bs : List Int} {b v1 : Value} {M : List Int} {c : Int} {n : Nat} {o : Obj} (h : PutR w ax bs b wr M) (ho : w1.ownsRow w.heap.size 5 1 v1 n (bv M ++ [.int .u8 c])) (hn : n = M.length + 1)
    (hg : (wr.alloc o).grownBy w1 b.ownBlock) (hat : v1.ownBlock = b.ownBlock ∨ v1.ownBlock = some (wr.heap.size + 1)) : PutR w ax bs v1 w1 (M ++ [c]) := by
  have ha : Apd wr w1 b v1 := apd_step (Apd.refl wr b) hg hat
  exact ⟨own_cast ho (by rw [hn]; simp) (by simp [bv]), fun j u hu => (ha.cell (by rw [add_block]; exact h.lt) (by rw [add_block]; exact h.ne)).trans (h.rd j u hu), by have := h.lt; have := ha.size; omega, apd_ne ha h.ne h.lt,
    h.below.trans (ha.below h.below.size fun k hk => (h.own.lt k hk).1)⟩
set_option maxRecDepth 100000 in
set_option maxHeartbeats 1000000 in
theorem refput_few (A : Option Addr) (n c : Nat) (L : List In) (hn : L.length = n) (hf : ∀ x ∈ L, x.fits) (h : n ≤ 256) (w : World) (hr : Rd w w.heap.size A (iv L)) :
    Calls Try.prog 20 #[.slice A n c] w fun e w' => ∃ v, e = .returned (.tuple #[v, .int .i64 (firstE L)]) ∧ w'.ownsRow w.heap.size 5 1 v (putO L).length (bv (putO L)) ∧ Below w.heap.size w w' := by
  obtain ⟨i0, hi0, hz0, hz1, hz2⟩ := info_parts byte_info
  have HN := Lib.hid hn
  have HF := Lib.hid hf
  have HR := Lib.hid hr
  clear hn hf hr
  go_enter Try.func20, Try.ntmps20
  go_wp2
  go_loopw [4, 5] (fun b i wr => ∃ k : Nat, k ≤ n ∧ i = .int .i64 k ∧ Hid (wr.ownsRow w.heap.size 5 1 b (putB (L.take k)).length (bv (putB (L.take k)))) ∧ Hid (Below w.heap.size w wr) ∧ Hid (firstE L = firstE (L.drop k))) (fun _ i _ => n - (intOf i).toNat)
  case atStart => exact ⟨0, Nat.zero_le _, rfl, Lib.hid (World.ownsRow_nil _ _ _ _), Lib.hid (Below.refl _ _), Lib.hid (by simp)⟩
  case round =>
    obtain ⟨k, hk, rfl, ho, hb, he⟩ := hrel
    by_cases hlt : k < n
    · have hkl : k < L.length := by rw [HN.out]; exact hlt
      obtain ⟨ad, rfl, hab, hc⟩ := (HR.out.below hb.out) (by rw [iv_len]; omega)
      obtain ⟨c0, c1, c2, c3, c4⟩ := ins_cells hc hkl
      have hfx : L[k].fits := HF.out _ (List.getElem_mem hkl)
      have HX := Lib.hid hfx
      have HE := Lib.hid (firstE_drop L k hkl)
      have HB := Lib.hid (putB_snoc L k hkl)
      have hfx5 := Lib.hid (chk_regs L[k].op L[k].dst L[k].src L[k].off L[k].imm)
      have HIC : Hid (∀ w' : World, Below wr.heap.size wr w' → (w'.cell? (ad.add (k * 5)) = some (.int .i64 L[k].op) ∧ w'.cell? ⟨(ad.add (k * 5)).block, (ad.add (k * 5)).off + 1, none⟩ = some (.int .i64 L[k].dst) ∧ w'.cell? ⟨(ad.add (k * 5)).block, (ad.add (k * 5)).off + 2, none⟩ = some (.int .i64 L[k].src) ∧
      w'.cell? ⟨(ad.add (k * 5)).block, (ad.add (k * 5)).off + 3, none⟩ = some (.int .i64 L[k].off) ∧ w'.cell? ⟨(ad.add (k * 5)).block, (ad.add (k * 5)).off + 4, none⟩ = some (.int .i64 L[k].imm))) :=
        Lib.hid fun w' hw' => ins_cells (fun j u hu => (hw'.cell (by rw [add_block]; have := hb.out.size; omega)).trans (hc j u hu)) hkl
      generalize L[k] = x at *
      clear hc hkl hfx
      have HSZ : Hid (w.heap.size ≤ wr.heap.size) := Lib.hid hb.out.size
      by_cases hch : x.chk = 0
      · have ez : chkV x.op x.dst x.src x.off x.imm = 0 := hch
        obtain ⟨r1, r2, r3, r4, r5, r6, r7, r8, r9⟩ := hfx5.out ez
        have HCH := Lib.hid hch
        clear hch hfx5
        go_wp2_with fail
        refine (refcheck_any _ _ _ _ _ _).mono ?_
        rintro e w1 ⟨rfl, q1⟩
        clear c0 c1 c2 c3 c4
        obtain ⟨c0, c1, c2, c3, c4⟩ := HIC.out w1 q1
        have B1 := Lib.hid q1
        clear q1
        go_wp2_with fail
        refine (refone_any x.op x.dst x.src x.off x.imm r1 r2 r3 r4 r5 r6 HX.out.2.2.2.1 HX.out.2.2.2.2 _).mono ?_
        rintro e w2 ⟨vx, rfl, q1, q2⟩
        obtain ⟨Ax, cx, rfl, hcx, hmx, hAx⟩ := own_form q1
        have hl8 : 0 < (oneB x.op x.dst x.src x.off x.imm).length := by rw [oneB_len]; have := sizeV_bd_ x.op; omega
        have hl16 : (oneB x.op x.dst x.src x.off x.imm).length ≤ 16 := by rw [oneB_len]; have := sizeV_bd_ x.op; omega
        obtain ⟨gx, rfl, hg1, hg2⟩ := hAx hl8
        have PR : Hid (PutR w ⟨gx, 0, none⟩ (oneB x.op x.dst x.src x.off x.imm) u4 w2 (putB (L.take k))) := Lib.hid
          ⟨own_below (own_below ho.out B1.out) q2, q1.cells (g := gx) rfl, hg2, fun e => by have h1 := (ho.out.lt _ e).2; have h2 := B1.out.size; simp only at h1 hg1; omega, (hb.out.trans (B1.out.mono HSZ.out)).trans (q2.mono (by have := B1.out.size; have := HSZ.out; omega))⟩
        generalize (⟨gx, 0, none⟩ : Addr) = ax at *
        clear q1 q2 hAx hg1 hg2 c0 c1 c2 c3 c4
        generalize hbs : oneB x.op x.dst x.src x.off x.imm = bs at *
        have HBS := Lib.hid hbs
        clear hbs
        go_wp2
        go_loopw [4, 8] (fun b i wr => ∃ j : Nat, j ≤ bs.length ∧ i = .int .i64 j ∧ Hid (PutR w ax bs b wr (putB (L.take k) ++ bs.take j))) (fun _ i _ => bs.length - (intOf i).toNat)
        case atStart => exact ⟨0, Nat.zero_le _, rfl, Lib.hid (by have h := PR.out; simpa using h)⟩
        case round =>
          clear PR
          obtain ⟨j, hj, rfl, hP⟩ := hrel
          by_cases hjl : j < bs.length
          · have hcj : wr.cell? (ax.add j) = some (.int .u8 bs[j]) := hP.out.rd j _ (by simp [bv, hjl])
            have HT := Lib.hid (List.take_succ_eq_append_getElem hjl)
            have HLE : Hid ((putB (L.take k) ++ bs.take j).length ≤ 5000) := Lib.hid (by
              have h1 := putB_le (L.take k)
              have h2 := List.length_take_le k L
              have h3 := List.length_take_le j bs
              rw [List.length_append]; omega)
            generalize bs[j] = cb at *
            go_wp2_with (at_builtin; refine wpList_append_own_at _ rfl (.tmp 37) (.tmp 42) _ rfl w.heap.size 5 i0 _ 1 1 Try.underlying31 hi0 hz0 hz1 hz2 rfl (by decide) _ _ _ rfl (hP.out.own.alloc _) ⟨wr.heap.size, 0, none⟩ 1 1 _ rfl rfl (cell_one_new _ _ _) ?a2 ?a3 ?a4 ?a5 ?_)
            case a2 => intro u hu; simp at hu; subst hu; rfl
            case a3 => have := HLE.out; unfold maxLen; omega
            case a4 => have := HLE.out; omega
            case a5 => have := hP.out.below.size; simp; omega
            intro v1 w1 hown1 hg1 _ hat1
            have R1 := Lib.hid (hP.out.step hown1 (by simp only [List.length_append, List.length_take]; omega) hg1 hat1)
            clear hown1 hg1 hat1 hP
            go_wp2
            go_roundw
            case rel => exact ⟨j + 1, by omega, by go_num, Lib.hid (by have h := R1.out; rw [HT.out]; simpa using h)⟩
            case measure => simp [intOf]; omega
          · have e3 : bs.take j = bs := List.take_of_length_le (by omega)
            have O2 : Hid (wr.ownsRow w.heap.size 5 1 u4 (putB (L.take (k + 1))).length (bv (putB (L.take (k + 1))))) := Lib.hid (by
              have h := hP.out.own
              rw [e3] at h
              rw [HB.out]
              unfold In.bytes
              rw [HBS.out]
              exact h)
            have B2 := Lib.hid hP.out.below
            clear hP e3
            go_wp2
            go_roundw
            case rel => exact ⟨k + 1, by omega, by go_num, O2, B2, Lib.hid (by rw [he.out, HE.out, if_pos HCH.out])⟩
            case measure => simp [intOf]; omega
      · have ez : (chkV x.op x.dst x.src x.off x.imm != 0) = true := bne_iff_ne.2 hch
        have HCH := Lib.hid hch
        clear hch hfx5
        go_wp2_with fail
        refine (refcheck_any _ _ _ _ _ _).mono ?_
        rintro e w1 ⟨rfl, q1⟩
        have B2 : Hid (Below w.heap.size w w1) := Lib.hid (hb.out.trans (q1.mono HSZ.out))
        clear q1
        go_wp2
        go_ret2
        have e1 : firstE L = chkV x.op x.dst x.src x.off x.imm := by rw [he.out, HE.out, if_neg HCH.out]; rfl
        have e2 : putO L = [] := putO_bad L (by rw [HN.out]; exact h) (by rw [e1]; exact HCH.out)
        exact ⟨.slice none 0 0, by rw [e1]; rfl, by rw [e2]; exact World.ownsRow_nil _ _ _ _, B2.out⟩
    · obtain rfl : k = n := by omega
      go_wp2
      go_ret2
      have e1 : firstE L = 0 := by rw [he.out, List.drop_eq_nil_of_le (by rw [HN.out]; omega)]; rfl
      have e2 : putO L = putB L := putO_ok L (by rw [HN.out]; exact h) e1
      have e3 : L.take k = L := List.take_of_length_le (by rw [HN.out]; omega)
      exact ⟨_, by rw [e1]; rfl, by have := ho.out; rw [e3] at this; rw [e2]; exact this, hb.out⟩
theorem refput_any (A : Option Addr) (n c : Nat) (L : List In) (hn : L.length = n) (hf : ∀ x ∈ L, x.fits) (hm : n ≤ 9223372036854775807) (w : World) (hr : Rd w w.heap.size A (iv L)) :
    Calls Try.prog 20 #[.slice A n c] w fun e w' => ∃ v, e = .returned (.tuple #[v, .int .i64 (putE L)]) ∧ w'.ownsRow w.heap.size 5 1 v (putO L).length (bv (putO L)) ∧ Below w.heap.size w w' := by
  by_cases h : n ≤ 256
  · have e : putE L = firstE L := if_neg (by omega)
    rw [e]
    exact refput_few A n c L hn hf h w hr
  · refine (refput_many A n c L hn hm (by omega) w).mono ?_
    rintro e w' ⟨rfl, rfl⟩
    have e1 : putE L = 9 := if_pos (by omega)
    have e2 : putO L = [] := by unfold putO; rw [e1]; rfl
    rw [e1, e2]
    exact ⟨_, rfl, World.ownsRow_nil _ _ _ _, Below.refl _ _⟩
end Go.Proofs.Ytlimhdnpdhjdaaa
