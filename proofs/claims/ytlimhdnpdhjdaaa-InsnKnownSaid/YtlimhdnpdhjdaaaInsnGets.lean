/-
  What the program's package insn makes of bytes (Get): contract. Conditions: the bytes are bytes.
-/
import Derived.Test.YtlimhdnpdhjdaaaInsnGet
namespace Go.Proofs.Ytlimhdnpdhjdaaa
open Go.RowKit Wi Ow
set_option linter.unusedVariables false
set_option linter.unusedSimpArgs false

theorem insn_info : (Try.prog.info? 23).map (fun i => (i.zero, i.size, i.bytes)) = some (some (.agg #[.int .i64 0, .int .i64 0, .int .i64 0, .int .i64 0, .int .i64 0]), 5, 40) := by kernel_rfl
def slLen : Value → Nat
  | .slice _ n _ => n
  | _ => 0
/-- The rest of the bytes. -/
structure GetRel (xs : List Int) (w : World) (l : Value) (wr : World) (A : Option Addr) (m cap f : Nat) (ys : List Int) (L : List In) : Prop where
  len : ys.length = m
  cap_ : m ≤ cap
  max_ : cap ≤ 9223372036854775807
  byt : isB ys
  rd : Rd wr w.heap.size A (bv ys)
  own : wr.ownsRow w.heap.size 23 5 l L.length (iv L)
  few : L.length ≤ 256
  below : Below w.heap.size w wr
  fuel : ys.length ≤ f
  is : getF xs.length 0 xs = (L ++ (getF f L.length ys).1, (getF f L.length ys).2)
theorem get_step {xs : List Int} {w wr w1 w2 : World} {ad : Addr} {l v2 : Value} {m cap f N : Nat} {ys : List Int} {L : List In} {x : In} {o1 o2 : Obj} (h : GetRel xs w l wr (some ad) m cap f ys L) (he : fstE ys = 0) (hX : fstX ys = x) (hN : fstN ys = (N : Int)) (hNm : N ≤ m) (hL : ¬ L.length = 256)
    (q : Below wr.heap.size wr w1) (ho : w2.ownsRow w.heap.size 23 5 v2 (L.length + 1) (iv L ++ x.cells)) (hg : ((w1.alloc o1).alloc o2).grownBy w2 l.ownBlock) :
    ∃ f', GetRel xs w v2 w2 (if cap = N then some ad else (some ad).map (·.add (N * 1))) (m - N) (cap - N) f' (ys.drop N) (L ++ [x]) := by
  have hne : ys ≠ [] := by
    intro e
    subst e
    have h1 : 8 * sizeV (([] : List Int).getD 0 0) ≤ ((0 : Nat) : Int) := (fstN_ok [] he).2
    have h2 := sizeV_bd (([] : List Int).getD 0 0)
    omega
  obtain ⟨f', hf, hf'⟩ := getF_ok f L.length ys hne h.fuel hL he
  have eN : (fstN ys).toNat = N := by omega
  rw [eN, hX] at hf
  rw [eN] at hf'
  have B1 : Below w.heap.size w w1 := h.below.trans (q.mono h.below.size)
  have B2 : Below w.heap.size w w2 := by
    have h1 := h.below.size
    have h2 := q.size
    refine ((B1.alloc (by omega) o1).alloc (by simp; omega) o2).grown hg (by simp; omega) fun k hk => (h.own.lt k hk).1
  refine ⟨f', by rw [List.length_drop, h.len], by have := h.cap_; omega, by have := h.max_; omega, fun b hb => h.byt b (List.mem_of_mem_drop hb), ?_, ?_, ?_, B2, hf', ?_⟩
  · have hk := (h.rd.keep (w' := w2) fun p hp => (B2.cell hp).trans (h.below.cell hp).symm)
    have := hk.cut (k := N) (cap := cap) (size := 1) (fun hlt e => by rw [bv_len, h.len] at hlt; have := h.cap_; omega)
    simp only [Nat.mul_one] at this ⊢
    unfold bv at this ⊢
    rw [List.map_drop]
    exact this
  · exact own_cast ho (by simp) (by rw [iv_app]; simp [iv])
  · have := h.few; simp; omega
  · rw [h.is, hf]; simp
set_option maxHeartbeats 1000000 in
theorem get_any (A : Option Addr) (n c : Nat) (xs : List Int) (hn : xs.length = n) (hc : n ≤ c) (hm : c ≤ 9223372036854775807) (hx : isB xs) (w : World) (hr : Rd w w.heap.size A (bv xs)) :
    Calls Try.prog 25 #[.slice A n c] w fun e w' => ∃ v, e = .returned (.tuple #[v, .int .i64 (getE xs)]) ∧ w'.ownsRow w.heap.size 23 5 v (getO xs).length (iv (getO xs)) ∧ Below w.heap.size w w' := by
  obtain ⟨i0, hi0, hz0, hz1, hz2⟩ := info_parts insn_info
  have R0 : Hid (GetRel xs w (.slice none 0 0) w A n c xs.length xs []) := Lib.hid ⟨hn, hc, hm, hx, hr, World.ownsRow_nil _ _ _ _, by simp, Below.refl _ _, Nat.le_refl _, by simp⟩
  clear hn hx hr hc hm
  go_enter Try.func25, Try.ntmps25
  go_wp2
  go_loopw [0, 4] (fun b l wr => ∃ (A : Option Addr) (m cap f : Nat) (ys : List Int) (L : List In), b = .slice A m cap ∧ Hid (GetRel xs w l wr A m cap f ys L)) (fun b _ _ => slLen b)
  case atStart => exact ⟨A, n, c, _, xs, [], rfl, R0⟩
  case round =>
    obtain ⟨A, m, cap, f, ys, L, rfl, hG⟩ := hrel
    have hcap := hG.out.cap_
    have hmax := hG.out.max_
    by_cases hm0 : m = 0
    · subst hm0
      go_wp2
      go_ret2
      have e0 : ys = [] := List.eq_nil_of_length_eq_zero hG.out.len
      have e3 := hG.out.is
      rw [e0, getF_nil] at e3
      have e1 : getE xs = 0 := by unfold getE; rw [e3]
      have e2 : getO xs = L := by unfold getO; rw [e1, if_pos rfl, e3]; simp
      exact ⟨u4, by rw [e1]; rfl, by rw [e2]; exact hG.out.own, hG.out.below⟩
    · have hm1 : 0 < m := by omega
      obtain ⟨ad, rfl, hab, hcl⟩ := hG.out.rd (by rw [bv_len, hG.out.len]; exact hm1)
      obtain ⟨lA, lc, rfl, hlc, hlm, _⟩ := own_form hG.out.own
      have HCL := Lib.hid hcl
      have hfew := hG.out.few
      have hsz := Lib.hid hG.out.below.size
      clear hcl hm0
      by_cases h256 : L.length = 256
      · have h256' : ((L.length : Int) == 256) = true := by simp; omega
        have HLL := Lib.hid h256
        clear h256
        go_wp2
        go_ret2
        have hne : ys ≠ [] := by
          intro e
          have := hG.out.len
          rw [e] at this
          simp at this
          omega
        have e1 : getE xs = 9 := by unfold getE; rw [hG.out.is, HLL.out, getF_many f ys hne hG.out.fuel]
        have e2 : getO xs = [] := by unfold getO; rw [e1]; rfl
        exact ⟨.slice none 0 0, by rw [e1]; rfl, by rw [e2]; exact World.ownsRow_nil _ _ _ _, hG.out.below⟩
      · have h256' : ((L.length : Int) == 256) = false := by simp; omega
        have HLL := Lib.hid h256
        clear h256
        by_cases he : fstE ys = 0
        · have HE := Lib.hid he
          have hok := fstN_ok ys he
          have hsv := sizeV_bd (ys.getD 0 0)
          have hlen := hG.out.len
          obtain ⟨N, hN⟩ : ∃ N : Nat, fstN ys = (N : Int) := ⟨(fstN ys).toNat, by omega⟩
          have hN1 : 8 ≤ N ∧ N ≤ m := by omega
          have HN := Lib.hid hN
          clear hok hsv hlen
          have HC := (first_any ad m cap ys hG.out.len hm1 hcap hmax hG.out.byt wr (by have := hsz.out; omega) HCL.out)
          simp only [In.val] at HC
          rw [hN, he] at HC
          have HCC := Lib.hid HC
          clear HC he hN
          generalize hX : fstX ys = x at *
          have HX := Lib.hid hX
          clear hX
          go_wp2_with fail
          refine (HCC.out).mono ?_
          rintro e w1 ⟨rfl, q1⟩
          go_wp2_with (at_builtin; refine wpList_append_own_at _ rfl (.tmp 23) (.tmp 25) _ rfl w.heap.size 23 i0 _ 5 40 Try.underlying29 hi0 hz0 hz1 hz2 rfl (by decide) _ _ _ rfl (((own_below hG.out.own q1).alloc _).alloc _) ⟨w1.heap.size + 1, 0, none⟩ 1 1 x.cells rfl rfl ?c1 ?c2 ?c3 ?c4 ?c5 ?_)
          case c1 => exact new_cells' _ #[.int .i64 x.op, .int .i64 x.dst, .int .i64 x.src, .int .i64 x.off, .int .i64 x.imm] (by simp)
          case c2 => intro u hu; simp [In.cells] at hu; rcases hu with rfl | rfl | rfl | rfl | rfl <;> rfl
          case c3 => unfold maxLen; omega
          case c4 => omega
          case c5 => have h1 := hsz.out; have h2 := q1.size; simp; omega
          intro v2 w2 hown2 hg2 _ hat2
          have R := get_step hG.out HE.out HX.out HN.out hN1.2 HLL.out q1 hown2 hg2
          have RR := Lib.hid R
          clear R hown2 hg2 hat2 q1 hG HCC HCL
          go_wp2
          go_roundw
          case rel =>
            obtain ⟨f', hR⟩ := RR.out
            refine ⟨_, _, _, f', ys.drop N, L ++ [x], rfl, Lib.hid ?_⟩
            simpa using hR
          case measure => simp [slLen]; omega
        · have HE := Lib.hid he
          have HC := (first_any ad m cap ys hG.out.len hm1 hcap hmax hG.out.byt wr (by have := hsz.out; omega) HCL.out)
          simp only [In.val] at HC
          have HCC := Lib.hid HC
          have ez : (fstE ys != 0) = true := bne_iff_ne.2 he
          clear HC he
          generalize fstX ys = x at *
          generalize fstN ys = N at *
          go_wp2_with fail
          refine (HCC.out).mono ?_
          rintro e w1 ⟨rfl, q1⟩
          have B1 : Hid (Below w.heap.size w w1) := Lib.hid (hG.out.below.trans (q1.mono hsz.out))
          have Q1 := Lib.hid q1
          clear q1
          go_wp2
          go_ret2
          have hne : ys ≠ [] := by
            intro e
            have := hG.out.len
            rw [e] at this
            simp at this
            omega
          have e1 : getE xs = fstE ys := by unfold getE; rw [hG.out.is, getF_bad f L.length ys hne hG.out.fuel HLL.out HE.out]
          have e2 : getO xs = [] := by unfold getO; rw [e1, if_neg HE.out]
          refine ⟨.slice none 0 0, by rw [e1]; rfl, by rw [e2]; exact World.ownsRow_nil _ _ _ _, ?_⟩
          exact B1.out.alloc (by have h1 := hsz.out; have h2 := Q1.out.size; omega) _
end Go.Proofs.Ytlimhdnpdhjdaaa
