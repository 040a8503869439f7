/-
  Layer 11's program: Keys; rows of bytes that a text makes are written over: contracts. No conditions.
-/
import Derived.Test.YthappjbghlifbaaLruP5
import Derived.Deep.OwnRows
import Derived.Deep.Slices
namespace Go.Proofs.Ythappjbghlifbaa
set_option maxRecDepth 100000
open Go.RowKit Ow Ro K2
set_option linter.unusedVariables false
set_option linter.unusedSimpArgs false
theorem wp_make_own11 {P : Program} (w : World) {ops : Array Oper} {rest : List Oper} {o : Oper} {a : Act} {Q : Exit → Act → World → Prop}
    (hg : o.guard = none) (l c : Operand) (t : TypeId) (hop : o.op = Op.makeSlice t l c)
    (e : TypeId) (i : TypeInfo) (z : Value) (ht : P.underlying t = some (.slice e)) (hi : P.info? e = some i) (hz : i.zero = some z) (hsize : i.size = 1) (hz1 : z.cells = #[z])
    (kl kc : IntKind) (n : Nat) (hl : a.eval l = .int kl (n : Int)) (hc : a.eval c = .int kc (n : Int)) (hbytes : i.bytes * n ≤ 281474976710656) (h63 : n ≤ maxLen)
    (hK : ∀ (ad : Addr) (w' : World), ad.block = w.heap.size → w'.ownsRow w.heap.size e 1 (.slice (some ad) n n) n (List.replicate n z) → Below w.heap.size w w' → wpList P ops Q rest (a.put o.dst (.slice (some ad) n n)) w') :
    wpList P ops Q (o :: rest) a w := by
  refine wpList_make_row w hg l c t hop e i z ht hi hz hsize hz1 kl kc n hl hc hbytes (by have := h63; unfold maxLen at this; omega) ?_
  refine hK ⟨w.heap.size, 0, none⟩ _ rfl ?_ ((Below.refl _ _).alloc (Nat.le_refl _) _)
  have := World.ownsRow_lit (base := w.heap.size) (e := e) (size := 1) w (madeCells #[z] n) n (Nat.le_refl _) h63 (by rw [size_madeCells]; omega)
  rw [toList_madeCells_one] at this
  exact this
theorem bytes_info : (Try.prog.info? 27).map (fun i => (i.zero, i.size, i.bytes)) = some (some (.slice none 0 0), 1, 24) := by kernel_rfl
/-- The keys told so far: j of them; n in all. -/
def KZ (w0 : World) (A : Ac) (G : List (List Int)) (ad : Addr) (j : Nat) (z : World) : Prop :=
  ∃ A' vs, Lay w0 A' z ∧ (∀ x : Rl, x.1 ≠ 65 → x.1 ≠ 66 → x.1 ≠ 72 → A' x = A x) ∧ Row A' (65, 0) 27 1 (.slice (some ad) G.length G.length) G.length vs ∧ vs.length = G.length ∧ ∀ i bs, i < j → G[i]? = some bs → ∃ u, vs[i]? = some u ∧ RowZ A' (66, i) u bs.length (bv bs)
theorem KZ.step {w0 z z' : World} {A : Ac} {G : List (List Int)} {ad : Addr} {j : Nat} {u : Value} {bs : List Int} (h : KZ w0 A G ad j z) (hj : G[j]? = some bs) (q : OwnZ z u z' bs) :
    (z'.cell? (ad.add j)).isSome = true ∧ z'.frozen? (ad.add j) = false ∧ KZ w0 A G ad (j + 1) (z'.setCell (ad.add j) u) := by
  obtain ⟨A', vs, h1, h2, h3, h4, h5⟩ := h
  have hjl := (List.getElem?_eq_some_iff.1 hj).1
  obtain ⟨A2, l2, r2, f2⟩ := q.lay h1 (66, j)
  have h3' := h3.keep (f2 (65, 0) (by simp))
  have hat := own_at (h3'.own l2) j hjl
  obtain ⟨A3, l3, r3, f3⟩ := h3'.put l2 j u
  refine ⟨by rw [hat.1, List.getElem?_eq_getElem (by omega)]; rfl, hat.2, A3, _, l3, fun x ha hb hc => ?_, r3, by rw [List.length_set, h4], fun i b hi hb => ?_⟩
  · rw [f3 x (fun e => ha (by rw [e])), f2 x (fun e => hb (by rw [e]))]
    exact h2 x ha hb hc
  · by_cases e : i = j
    · subst e
      rw [hj] at hb
      injection hb with hb
      subst hb
      exact ⟨u, by rw [List.getElem?_set_self (by omega)], r2.keep (f3 _ (by simp))⟩
    · obtain ⟨u', e1, e2⟩ := h5 i b (by omega) hb
      exact ⟨u', by rw [List.getElem?_set_ne (by omega)]; exact e1, (e2.keep (f2 _ (by simp; exact e))).keep (f3 _ (by simp))⟩
def PKeysZ (w0 : World) (A : Ac) (G : List (List Int)) (e : Ending) (w' : World) : Prop := ∃ ad, e = .returned (.slice (some ad) G.length G.length) ∧ KZ w0 A G ad G.length w'
set_option maxHeartbeats 2000000 in
theorem pkeys_b {w0 w : World} {A : Ac} {k X : Nat} {K M : Int} {o : KO} (hl : Lay w0 A w) (h : PL k A X K M o) :
    Calls Try.prog 13 #[.pointer (some ⟨X, 0, none⟩)] w fun e w' => PKeysZ w0 A (o.map (·.1)) e w' ∧ Below w.heap.size w w' := by
  obtain ⟨i0, hi0, hz0, hz1, hz2⟩ := info10 bytes_info
  obtain ⟨v, hx⟩ := h
  have hs := hx.good.small
  have hM := hx.good.M2
  obtain ⟨av, cv, rfl, hc1, hc2, _⟩ := hx.row.form
  have c2 := (hx.hd hl).c2
  have HL := Lib.hid hl
  have HX := Lib.hid hx
  obtain ⟨G, hG⟩ : ∃ G, o.map (·.1) = G := ⟨_, rfl⟩
  have HG := Lib.hid hG
  rw [hG]
  obtain ⟨n, hn⟩ : ∃ n, o.length = n := ⟨_, rfl⟩
  have HN := Lib.hid hn
  have hGn : G.length = n := by rw [← hG, List.length_map, hn]
  have HGN := Lib.hid hGn
  rw [hn] at hs hc1 c2
  clear hl hx hG hn hGn
  go_enter Try.func13, Try.ntmps13
  go_wp2_with (refine wp_make_own11 _ rfl _ _ _ rfl 27 i0 _ Try.underlying33 hi0 hz0 hz1 rfl _ _ n rfl rfl ?a1 ?a2 ?_)
  case a1 => rw [hz2]; omega
  case a2 => unfold maxLen; omega
  intro ad wa hadn howna hba
  have H0 : Hid (KZ w0 A G ad 0 wa) := Lib.hid (by
    obtain ⟨A1, l1, r1, e1⟩ := HL.out.newRow (65, 0) hba howna (Nat.le_refl _)
    exact ⟨A1, _, l1, fun x ha hb hc => e1 x (fun e => ha (by rw [e])), by rw [HGN.out]; exact r1, by rw [List.length_replicate, HGN.out], fun i bs hi => by omega⟩)
  have HRD : Hid (∀ z j, KZ w0 A G ad j z → ∃ A', Lay w0 A' z ∧ PX k A' X K M (.slice av o.length cv) o) := Lib.hid (fun z j h => by
    obtain ⟨A', vs, h1, h2, _⟩ := h
    exact ⟨A', h1, HX.out.keep (h2 _ (by simp) (by simp) (by simp)) (h2 _ (by simp) (by simp) (by simp))⟩)
  have c3 : wa.cell? ⟨X, 2, none⟩ = some (.slice av n cv) := by
    obtain ⟨A', h1, h2⟩ := HRD.out wa 0 H0.out
    rw [← HN.out]
    exact (h2.hd h1).c2
  have HB0 := Lib.hid hba
  have HAD := Lib.hid hadn
  clear hadn howna hba c2 HL
  go_wp2_with fail
  go_loopw [4, 5, 17] (fun a4 a5 i wr => ∃ j : Nat, j ≤ n ∧ i = .int .i64 j ∧ Hid (KZ w0 A G ad j wr) ∧ Hid (Below w.heap.size w wr)) (fun _ _ i _ => n - (intOf i).toNat)
  case atStart => exact ⟨0, Nat.zero_le _, rfl, H0, HB0⟩
  case round =>
    clear H0 HB0 c3
    obtain ⟨j, hj, rfl, HI, HB⟩ := hrel
    by_cases hlt : j < n
    · have i1 : (j : Int) < (n : Int) := by omega
      have i2 : (0 : Int) ≤ (j : Int) := by omega
      have hjo : j < o.length := by rw [HN.out]; exact hlt
      have hGj : G[j]? = some (o[j]).1 := by rw [← HG.out, List.getElem?_map, List.getElem?_eq_getElem hjo]; rfl
      have g0 := pflat_get o j 0 hjo (by omega)
      have g1 := pflat_get o j 1 hjo (by omega)
      have hby := HX.out.good.byt _ (List.getElem_mem hjo)
      have hkl := HX.out.good.len _ (List.getElem_mem hjo)
      have hK2 := HX.out.good.K2
      generalize o[j] = x at *
      obtain ⟨x1, y⟩ := x
      dsimp only at hGj hby hkl
      obtain ⟨A', l1, hx1⟩ := HRD.out wr j HI.out
      obtain ⟨gb, cap, e, _, _, hgl, _, hlook⟩ := hx1.row.look l1 (by omega)
      simp only [Value.slice.injEq] at e
      obtain ⟨rfl, _, rfl⟩ := e
      have d0 := (hlook wr (Below.refl _ _)).1 (j * 2 + 0) (.string (strOfNums x1)) (by rw [g0]; rfl)
      have d1 := (hlook wr (Below.refl _ _)).1 (j * 2 + 1) (.int .i64 y) (by rw [g1]; rfl)
      rw [Nat.add_zero] at d0
      have HI2 : Hid (KZ w0 A G ad j (wr.alloc (.cells #[.string (strOfNums x1), .int .i64 y] 58))) := Lib.hid (by
        obtain ⟨A', vs, h1, h2⟩ := HI.out
        exact ⟨A', vs, h1.grow ((Below.refl _ _).alloc (Nat.le_refl _) _), h2⟩)
      obtain ⟨v9, z9, r9, q9⟩ := conv_bytes (wr.alloc (.cells #[.string (strOfNums x1), .int .i64 y] 58)) x1 hby (by omega)
      obtain ⟨s1, s2, s3⟩ := HI2.out.step hGj q9
      obtain ⟨a9, k9, rfl, _, _⟩ := q9.form
      have HS3 := Lib.hid s3
      have HB3 : Hid (Below w.heap.size w (z9.setCell (ad.add j) (.slice a9 x1.length k9))) := Lib.hid (((HB.out.alloc HB.out.size _).trans (q9.below.mono (by have := HB.out.size; simp; omega))).setCell (by rw [add_block, HAD.out]; exact Nat.le_refl _) _)
      obtain ⟨u9, s4⟩ := Option.isSome_iff_exists.1 s1
      clear q9 s1 s3 HI HI2 HB l1 hx1 hlook g0 g1 hGj hkl
      go_wp2
      go_roundw
      case rel => exact ⟨j + 1, by omega, by go_num, HS3, HB3⟩
      case measure => simp [intOf]; omega
    · have hjn : j = n := by omega
      have i1 : ¬ (j : Int) < (n : Int) := by omega
      have HE : Hid (PKeysZ w0 A G (.returned (.slice (some ad) n n)) wr) := Lib.hid (by
        refine ⟨ad, by rw [HGN.out], ?_⟩
        rw [HGN.out, ← hjn]
        exact HI.out)
      clear HI
      go_wp2
      go_ret
      exact ⟨HE.out, HB.out⟩
theorem pkeys_c {w0 w : World} {A : Ac} {k X : Nat} {K M : Int} {o : KO} (hl : Lay w0 A w) (h : PL k A X K M o) :
    Calls Try.prog 13 #[.pointer (some ⟨X, 0, none⟩)] w (PKeysZ w0 A (o.map (·.1))) := (pkeys_b hl h).mono fun _ _ q => q.1
/-! ### Written over -/
theorem frozen_z {w : World} {g cap j : Nat} {cur : Array Value} {t : TypeId} (h : w.heap[g]? = some (.cells cur t (cap, cap + 1))) (hj : j < cap) : w.frozen? ⟨g, j, none⟩ = false := by
  simp [World.frozen?, h]
  omega
theorem set_z {w : World} {g cap j : Nat} {cur : Array Value} {t : TypeId} (h : w.heap[g]? = some (.cells cur t (cap, cap + 1))) (u : Value) : (w.setCell ⟨g, j, none⟩ u).heap[g]? = some (.cells (cur.setIfInBounds j u) t (cap, cap + 1)) := by
  simp [World.setCell, Array.getElem?_modify, h]
set_option maxHeartbeats 1000000 in
theorem spoilz_any (g n cap : Nat) (cur : Array Value) (h1 : n ≤ 90000) (w : World) (hg : w.heap[g]? = some (.cells cur 5 (cap, cap + 1))) (hc : n ≤ cap) (hs : cur.size = cap) :
    Calls Try.prog 16 #[.slice (some ⟨g, 0, none⟩) n cap] w fun e w' => e = .returned (.tuple #[]) ∧ w.grownBy w' (some g) := by
  have H0 : Hid (∃ cur : Array Value, w.heap[g]? = some (.cells cur 5 (cap, cap + 1)) ∧ cur.size = cap) := Lib.hid ⟨cur, hg, hs⟩
  clear hg hs cur
  go_enter Try.func16, Try.ntmps16
  go_wp2
  go_loopw [2] (fun i wr => ∃ k : Nat, k ≤ n ∧ i = .int .i64 k ∧ Hid (∃ cur : Array Value, wr.heap[g]? = some (.cells cur 5 (cap, cap + 1)) ∧ cur.size = cap) ∧ Hid (w.grownBy wr (some g))) (fun i _ => n - (intOf i).toNat)
  case atStart => exact ⟨0, Nat.zero_le _, rfl, H0, Lib.hid (World.grownBy.refl _ _)⟩
  case round =>
    clear H0
    obtain ⟨k, hk, rfl, hO, hG⟩ := hrel
    by_cases hlt : k < n
    · obtain ⟨cur, hb, hs⟩ := hO.out
      have c0 : wr.cell? ⟨g, k, none⟩ = some (cur[k]'(by omega)) := by rw [cell_of_row wr g k _ _ _ hb]; exact Array.getElem?_eq_getElem (by omega)
      have f0 := frozen_z (j := k) hb (by omega)
      have HS : Hid (∀ u, (∃ cur : Array Value, (wr.setCell ⟨g, k, none⟩ u).heap[g]? = some (.cells cur 5 (cap, cap + 1)) ∧ cur.size = cap) ∧ w.grownBy (wr.setCell ⟨g, k, none⟩ u) (some g)) := Lib.hid (fun u => ⟨⟨_, set_z hb u, by rw [Array.size_setIfInBounds]; exact hs⟩, hG.out.trans (grownBy_set wr g k u)⟩)
      generalize cur[k]'(by omega) = y at *
      clear hb hs hO hG
      go_wp2_with (go_at_call 33; refine (markb_any (k + 7) (by omega) _).mono ?_; rintro e w' ⟨rfl, rfl⟩)
      go_roundw
      case rel => exact ⟨k + 1, by omega, by go_num, Lib.hid (HS.out _).1, Lib.hid (HS.out _).2⟩
      case measure => simp [intOf]; omega
    · have hG2 := hG
      clear hG hO
      go_wp2
      go_end0
      exact ⟨rfl, hG2.out⟩
def dn11 (A : Ac) (r : Rl) : Ac := fun x => if x = r then none else A x
theorem dn11_other {A : Ac} {r x : Rl} (h : x ≠ r) : dn11 A r x = A x := if_neg h
/-- Who has a part is written over: the part is nobody's. -/
theorem Ro.Lay.gone {w0 w w' : World} {A : Ac} {r : Rl} {g : Nat} {o : Obj} (hl : Lay w0 A w) (hr : A r = some (g, o)) (hg : w.grownBy w' (some g)) : Lay w0 (dn11 A r) w' := by
  refine ⟨?_, fun x b o e => ?_, fun x y b o o' e f => ?_⟩
  · exact hl.below.grown hg hl.below.size (fun k hk => by injection hk with hk; subst hk; exact (hl.own _ _ _ hr).1)
  · unfold dn11 at e
    split at e
    · cases e
    · rename_i hx
      have h1 := hl.own x b o e
      refine ⟨h1.1, (hg.block b (lt_of_block h1.2) ?_).trans h1.2⟩
      intro hb
      injection hb with hb
      subst hb
      exact hx (hl.inj _ _ _ _ _ e hr)
  · unfold dn11 at e f
    split at e
    · cases e
    · split at f
      · cases f
      · exact hl.inj _ _ _ _ _ e f
theorem spoil_z {w0 w : World} {A : Ac} {r : Rl} {v : Value} {n : Nat} {xs : List Value} (hl : Lay w0 A w) (h : RowZ A r v n xs) (hn : n ≤ 90000) :
    Calls Try.prog 16 #[v] w fun e w' => e = .returned (.tuple #[]) ∧ ∃ A', Lay w0 A' w' ∧ ∀ x, x ≠ r → A' x = A x := by
  obtain ⟨g, cap, cur, rfl, hr, h1, h2, h3, h4, h5⟩ := h
  refine (spoilz_any g n cap cur hn w (hl.obj hr) h1 h3).mono fun e w' q => ?_
  exact ⟨q.1, dn11 A r, hl.gone hr q.2, fun x hx => dn11_other hx⟩
theorem spoil_gone {w0 w : World} {A : Ac} {v : Value} {xs : List Int} (hl : Lay w0 A w) (h : Gone A v xs) (hn : xs.length ≤ 90000) :
    Calls Try.prog 16 #[v] w fun e w' => e = .returned (.tuple #[]) ∧ ∃ A', Lay w0 A' w' ∧ ∀ x, x ≠ (71, 0) → A' x = A x := by
  rcases h with ⟨rfl, rfl⟩ | h
  · refine (spoilb_any w.heap.size (.slice none 0 0) 0 [] (by omega) w (World.ownsRow_nil _ _ _ _)).mono fun e w' q => ?_
    refine ⟨q.1, A, hl.grow ⟨q.2.os, q.2.tape, q.2.output, q.2.size, fun k hk => q.2.block k hk (by simp [Value.ownBlock])⟩, fun _ _ => rfl⟩
  · exact spoil_z hl h hn
end Go.Proofs.Ythappjbghlifbaa
