/-
  What the program's package insn makes of instructions (Put): contract. Conditions: the numbers are of 64 bits.
-/
import Derived.Test.YtlimhdnpdhjdaaaInsnPut
namespace Go.Proofs.Ytlimhdnpdhjdaaa
open Go.RowKit Wi Ow
set_option linter.unusedVariables false
set_option linter.unusedSimpArgs false

/-- The five cells of the k-th instruction, as a load reads them. -/
theorem ins_cells {w : World} {ad : Addr} {L : List In} {k : Nat} (hc : ∀ j u, (iv L)[j]? = some u → w.cell? (ad.add j) = some u) (hk : k < L.length) :
    w.cell? (ad.add (k * 5)) = some (.int .i64 L[k].op) ∧ w.cell? ⟨(ad.add (k * 5)).block, (ad.add (k * 5)).off + 1, none⟩ = some (.int .i64 L[k].dst) ∧ w.cell? ⟨(ad.add (k * 5)).block, (ad.add (k * 5)).off + 2, none⟩ = some (.int .i64 L[k].src) ∧
      w.cell? ⟨(ad.add (k * 5)).block, (ad.add (k * 5)).off + 3, none⟩ = some (.int .i64 L[k].off) ∧ w.cell? ⟨(ad.add (k * 5)).block, (ad.add (k * 5)).off + 4, none⟩ = some (.int .i64 L[k].imm) := by
  have ha := iv_at L k hk
  rw [add_next _ _ 1 (by omega), add_next _ _ 2 (by omega), add_next _ _ 3 (by omega), add_next _ _ 4 (by omega), Nat.mul_comm k 5]
  exact ⟨hc _ _ ha.1, hc _ _ ha.2.1, hc _ _ ha.2.2.1, hc _ _ ha.2.2.2.1, hc _ _ ha.2.2.2.2⟩
theorem put_many (A : Option Addr) (n c : Nat) (L : List In) (hn : L.length = n) (hm : n ≤ 9223372036854775807) (h : 256 < n) (w : World) :
    Calls Try.prog 19 #[.slice A n c] w fun e w' => e = .returned (.tuple #[.slice none 0 0, .int .i64 9]) ∧ w = w' := by
  clear hn
  go_enter Try.func19, Try.ntmps19
  go_wp2
  go_ret2
  exact ⟨rfl, rfl⟩
set_option maxHeartbeats 1000000 in
theorem put_few (A : Option Addr) (n c : Nat) (L : List In) (hn : L.length = n) (hf : ∀ x ∈ L, x.fits) (h : n ≤ 256) (w : World) (hr : Rd w w.heap.size A (iv L)) :
    Calls Try.prog 19 #[.slice A n c] w fun e w' => ∃ v, e = .returned (.tuple #[v, .int .i64 (firstE L)]) ∧ w'.ownsRow w.heap.size 5 1 v (putO L).length (bv (putO L)) ∧ Below w.heap.size w w' := by
  have HN := Lib.hid hn
  have HF := Lib.hid hf
  have HR := Lib.hid hr
  clear hn hf hr
  go_enter Try.func19, Try.ntmps19
  go_wp2
  go_loopw [4, 13] (fun b i wr => ∃ k : Nat, k ≤ n ∧ i = .int .i64 k ∧ Hid (wr.ownsRow w.heap.size 5 1 b (putB (L.take k)).length (bv (putB (L.take k)))) ∧ Hid (Below w.heap.size w wr) ∧ Hid (firstE L = firstE (L.drop k))) (fun _ i _ => n - (intOf i).toNat)
  case atStart => exact ⟨0, Nat.zero_le _, rfl, Lib.hid (World.ownsRow_nil _ _ _ _), Lib.hid (Below.refl _ _), Lib.hid (by simp)⟩
  case round =>
    obtain ⟨k, hk, rfl, ho, hb, he⟩ := hrel
    by_cases hlt : k < n
    · have hkl : k < L.length := by rw [HN.out]; exact hlt
      obtain ⟨ad, rfl, hab, hc⟩ := (HR.out.below hb.out) (by rw [iv_len]; omega)
      obtain ⟨c0, c1, c2, c3, c4⟩ := ins_cells hc hkl
      clear hc
      have hfx : L[k].fits := HF.out _ (List.getElem_mem hkl)
      have HX := Lib.hid hfx
      have HE := Lib.hid (firstE_drop L k hkl)
      have HB := Lib.hid (putB_snoc L k hkl)
      have hfx5 := Lib.hid (chk_regs L[k].op L[k].dst L[k].src L[k].off L[k].imm)
      obtain ⟨x, hx⟩ : ∃ x, x = L[k] := ⟨_, rfl⟩
      rw [← hx] at c0 c1 c2 c3 c4 HX HE HB hfx5
      clear hx hfx
      have HNE := Lib.hid (own_lt ho.out (b := wr.heap.size) (Nat.le_refl _))
      have HSZ : Hid (w.heap.size ≤ wr.heap.size) := Lib.hid hb.out.size
      by_cases hch : x.chk = 0
      · have ez : chkV x.op x.dst x.src x.off x.imm = 0 := hch
        obtain ⟨r1, r2, r3, r4, r5, r6, r7, r8, r9⟩ := hfx5.out ez
        have HCH := Lib.hid hch
        clear hch hfx5
        go_wp2_with fail
        refine (check_any _ _ _ _ _ _).mono ?_
        rintro e w1 ⟨rfl, q1⟩
        have B1 := Lib.hid q1
        have K1 := Lib.hid ((Bk.new wr 23 #[.int .i64 x.op, .int .i64 x.dst, .int .i64 x.src, .int .i64 x.off, .int .i64 x.imm]).below q1 (by simp))
        have O1 := Lib.hid (own_below (ho.out.alloc _) q1)
        clear q1
        obtain ⟨d0, d1, d2, d3, d4⟩ := box_cells K1.out
        go_wp2_with fail
        refine (appi_any w.heap.size u4 (putB (L.take k)) x.op x.dst x.src x.off x.imm r1 r2 r3 r4 r5 r6 HX.out.2.2.2.1 HX.out.2.2.2.2 ?_ _ O1.out ?_).mono ?_
        · have := putB_le (L.take k)
          have h2 := List.length_take_le k L
          omega
        · have h1 := HSZ.out
          have h2 := B1.out.size
          simp at h2
          omega
        rintro e w2 ⟨v2, rfl, q1, q2⟩
        have B2 : Hid (Below w.heap.size w w2) := Lib.hid ((hb.out.trans ((((Below.refl w.heap.size wr).alloc HSZ.out _).trans (B1.out.mono (by have h1 := HSZ.out; simp; omega))))).trans (q2.below (by have h1 := HSZ.out; have h2 := B1.out.size; simp at h2; omega) (fun j hj => (ho.out.lt j hj).1)))
        have O2 : Hid (w2.ownsRow w.heap.size 5 1 v2 (putB (L.take (k + 1))).length (bv (putB (L.take (k + 1))))) := Lib.hid (own_cast q1 (by rw [HB.out]; rfl) (by rw [HB.out]; rfl))
        clear q1 q2
        go_wp2
        go_roundw
        case rel => exact ⟨k + 1, by omega, by go_num, O2, B2, Lib.hid (by rw [he.out, HE.out, if_pos HCH.out])⟩
        case measure => simp [intOf]; omega
      · have ez : (chkV x.op x.dst x.src x.off x.imm != 0) = true := bne_iff_ne.2 hch
        have HCH := Lib.hid hch
        clear hch hfx5
        go_wp2_with fail
        refine (check_any _ _ _ _ _ _).mono ?_
        rintro e w1 ⟨rfl, q1⟩
        have B2 : Hid (Below w.heap.size w w1) := Lib.hid (hb.out.trans ((((Below.refl w.heap.size wr).alloc HSZ.out _).trans (q1.mono (by have h1 := HSZ.out; simp; omega)))))
        clear q1
        go_wp2
        go_ret2
        have e1 : firstE L = chkV x.op x.dst x.src x.off x.imm := by rw [he.out, HE.out, if_neg HCH.out]; rfl
        have e2 : putO L = [] := putO_bad L (by rw [HN.out]; exact h) (by rw [e1]; exact HCH.out)
        exact ⟨.slice none 0 0, by rw [e1]; rfl, by rw [e2]; exact World.ownsRow_nil _ _ _ _, B2.out⟩
    · obtain rfl : k = n := by omega
      go_wp2
      go_ret2
      have e1 : firstE L = 0 := by rw [he.out, List.drop_eq_nil_of_le (by rw [HN.out]; omega)]; rfl
      have e2 : putO L = putB L := putO_ok L (by rw [HN.out]; exact h) e1
      have e3 : L.take k = L := List.take_of_length_le (by rw [HN.out]; omega)
      exact ⟨u4, by rw [e1]; rfl, by have := ho.out; rw [e3] at this; rw [e2]; exact this, hb.out⟩
theorem put_any (A : Option Addr) (n c : Nat) (L : List In) (hn : L.length = n) (hf : ∀ x ∈ L, x.fits) (hm : n ≤ 9223372036854775807) (w : World) (hr : Rd w w.heap.size A (iv L)) :
    Calls Try.prog 19 #[.slice A n c] w fun e w' => ∃ v, e = .returned (.tuple #[v, .int .i64 (putE L)]) ∧ w'.ownsRow w.heap.size 5 1 v (putO L).length (bv (putO L)) ∧ Below w.heap.size w w' := by
  by_cases h : n ≤ 256
  · have e : putE L = firstE L := if_neg (by omega)
    rw [e]
    exact put_few A n c L hn hf h w hr
  · refine (put_many A n c L hn hm (by omega) w).mono ?_
    rintro e w' ⟨rfl, rfl⟩
    have e1 : putE L = 9 := if_pos (by omega)
    have e2 : putO L = [] := by unfold putO; rw [e1]; rfl
    rw [e1, e2]
    exact ⟨_, rfl, World.ownsRow_nil _ _ _ _, Below.refl _ _⟩
end Go.Proofs.Ytlimhdnpdhjdaaa
