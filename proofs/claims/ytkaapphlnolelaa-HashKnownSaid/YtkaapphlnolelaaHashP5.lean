/-
  Layer 10's program: Keys: contract. Conditions: a table as New makes it (Tab).
-/
import Derived.Test.YtkaapphlnolelaaHashP4
namespace Go.Proofs.Ytkaapphlnolelaa
set_option maxRecDepth 100000
open Go.RowKit Ow Ro K2 Hm
set_option linter.unusedVariables false
set_option linter.unusedSimpArgs false
theorem clone_any (a : Option Addr) (n cp : Nat) (xs : List Int) (hn : xs.length = n) (h0 : a = none → n = 0 ∧ cp = 0) (h1 : n ≤ 100000) (w : World) (hx : Rd w w.heap.size a (bv xs)) :
    Calls Try.prog 40 #[.slice a n cp] w fun e w' => ∃ v, e = .returned v ∧ OwnB w v w' xs := by
  obtain ⟨i0, hi0, hz0, hz1, hz2⟩ := info_parts byte_info
  cases a with
  | none =>
    obtain ⟨rfl, rfl⟩ := h0 rfl
    obtain rfl : xs = [] := List.length_eq_zero_iff.1 hn
    have he : ∀ w : World, (binOp .eql 22 (.slice none 0 0) (.slice none 0 0)).run Try.prog w = .ok (.bool true) w := fun _ => rfl
    go_enter Try.func40, Try.ntmps40
    go_wp2
    go_ret
    exact ⟨_, rfl, World.ownsRow_nil _ _ _ _, Below.refl _ _⟩
  | some ad =>
    have HN := Lib.hid hn
    have he : ∀ w : World, (binOp .eql 22 (.slice (some ad) n cp) (.slice none 0 0)).run Try.prog w = .ok (.bool false) w := fun _ => rfl
    have OWN : Hid ((w.alloc (.cells #[] 5)).ownsRow w.heap.size 5 1 (.slice (some ⟨w.heap.size, 0, none⟩) 0 0) 0 (bv [])) := Lib.hid (World.ownsRow_lit (base := w.heap.size) (e := 5) (size := 1) w #[] 0 (Nat.le_refl _) (by unfold maxLen; omega) rfl)
    have HCX : Hid (∀ j u, (bv xs)[j]? = some u → (w.alloc (.cells #[] 5)).cell? (ad.add j) = some u) := Lib.hid (fun j u hu => by
      have hp : 0 < (bv xs).length := by have := (List.getElem?_eq_some_iff.1 hu).1; omega
      obtain ⟨ad', e, hb, hc⟩ := (hx.below ((Below.refl w.heap.size w).alloc (Nat.le_refl _) (.cells #[] 5))) hp
      injection e with e
      subst e
      exact hc j u hu)
    have HLZ : Hid ((bv xs).length = n * 1) := Lib.hid (by rw [bv_len, hn, Nat.mul_one])
    have BW : Hid (Below w.heap.size w (w.alloc (.cells #[] 5))) := Lib.hid (by go_grown)
    clear hx hn h0
    go_enter Try.func40, Try.ntmps40
    go_wp2_with (at_builtin; refine wpList_append_own_at _ rfl (.tmp 5) (.tmp 6) _ rfl w.heap.size 5 i0 _ 1 1 Try.underlying22 hi0 hz0 hz1 hz2 rfl (by decide) _ _ _ rfl OWN.out ad n cp (bv xs) rfl HLZ.out HCX.out ?a2 ?a3 ?a4 ?a5 ?_)
    case a2 => exact bv_one xs
    case a3 => unfold maxLen; omega
    case a4 => omega
    case a5 => simp
    intro v8 z8 hown8 hg8 _ hat8
    have R : Hid (OwnB w v8 z8 xs) := Lib.hid ⟨own_cast hown8 (by rw [HN.out]) (by simp [bv]), BW.out.grown hg8 (by simp) fun k hk => by simp [Value.ownBlock] at hk; omega⟩
    clear hown8 hg8 hat8
    go_wp2
    go_ret
    exact ⟨_, rfl, R.out⟩
/-- The keys told so far, G: the list's row, and each key's. -/
def KQ (w0 : World) (A : Ac) (G : List (List Int)) (v : Value) (z : World) : Prop :=
  ∃ A' vs, Lay w0 A' z ∧ (∀ x : Rl, x.1 ≠ 65 → x.1 ≠ 66 → A' x = A x) ∧ Row A' (65, 0) 22 1 v G.length vs ∧ vs.length = G.length ∧ ∀ j bs, G[j]? = some bs → ∃ u, vs[j]? = some u ∧ Row A' (66, j) 5 1 u bs.length (bv bs)
/-- .. and one more key, which is not in the list yet. -/
def KQ1 (w0 : World) (A : Ac) (G : List (List Int)) (v u : Value) (bs : List Int) (z : World) : Prop :=
  ∃ A' vs, Lay w0 A' z ∧ (∀ x : Rl, x.1 ≠ 65 → x.1 ≠ 66 → A' x = A x) ∧ Row A' (65, 0) 22 1 v G.length vs ∧ vs.length = G.length ∧ (∀ j bs, G[j]? = some bs → ∃ u, vs[j]? = some u ∧ Row A' (66, j) 5 1 u bs.length (bv bs)) ∧ Row A' (66, G.length) 5 1 u bs.length (bv bs)
section
variable {w0 z z' : World} {A : Ac} {G : List (List Int)} {v u : Value} {bs : List Int} {X : Nat} {M : Int} {T : List Pl}
theorem KQ.hp {K : Nat} {vr vp : Value} {R : List Int} (h : KQ w0 A G v z) (hx : HPx A X K M T vr vp R) : ∃ A', Lay w0 A' z ∧ HPx A' X K M T vr vp R := by
  obtain ⟨A', vs, h1, h2, _⟩ := h
  exact ⟨A', h1, hx.keep (fun x hx hx2 => h2 x (by omega) (by omega))⟩
theorem KQ.grow (h : KQ w0 A G v z) (hb : Below z.heap.size z z') : KQ w0 A G v z' := by
  obtain ⟨A', vs, h1, h2⟩ := h
  exact ⟨A', vs, h1.grow hb, h2⟩
theorem KQ.copied (h : KQ w0 A G v z) (q : OwnB z u z' bs) : KQ1 w0 A G v u bs z' := by
  obtain ⟨A', vs, h1, h2, h3, h4, h5⟩ := h
  obtain ⟨A2, l2, r2, f2⟩ := h1.newRow (66, G.length) q.below q.own (Nat.le_refl _)
  refine ⟨A2, vs, l2, fun x hx hx2 => (f2 x (fun e => hx2 (by rw [e]))).trans (h2 x hx hx2), h3.keep (f2 _ (by simp)), h4, fun j b hj => ?_, r2⟩
  obtain ⟨u', e1, e2⟩ := h5 j b hj
  have := (List.getElem?_eq_some_iff.1 hj).1
  exact ⟨u', e1, e2.keep (f2 _ (by simp; omega))⟩
theorem KQ1.grow (h : KQ1 w0 A G v u bs z) (hb : Below z.heap.size z z') : KQ1 w0 A G v u bs z' := by
  obtain ⟨A', vs, h1, h2⟩ := h
  exact ⟨A', vs, h1.grow hb, h2⟩
theorem KQ1.own (h : KQ1 w0 A G v u bs z) : ∃ vs, vs.length = G.length ∧ z.ownsRow w0.heap.size 22 1 v G.length vs ∧ w0.heap.size ≤ z.heap.size := by
  obtain ⟨A', vs, h1, h2, h3, h4, h5⟩ := h
  exact ⟨vs, h4, h3.own h1, h1.below.size⟩
theorem KQ1.app {v' : Value} {vs : List Value} (h : KQ1 w0 A G v u bs z) (hvs : z.ownsRow w0.heap.size 22 1 v G.length vs) (ho : z'.ownsRow w0.heap.size 22 1 v' (G.length + 1) (vs ++ [u])) (hg : z.grownBy z' v.ownBlock) (hat : v'.ownBlock = v.ownBlock ∨ ∃ g, v'.ownBlock = some g ∧ z.heap.size ≤ g) :
    KQ w0 A (G ++ [bs]) v' z' := by
  obtain ⟨A', vs', h1, h2, h3, h4, h5, h6⟩ := h
  have hv : vs' = vs := own_uniq (h3.own h1) hvs
  subst hv
  obtain ⟨A2, l2, r2, f2⟩ := h1.took h3 hg ho hat
  refine ⟨A2, vs' ++ [u], l2, fun x hx hx2 => (f2 x (fun e => hx (by rw [e]))).trans (h2 x hx hx2), ?_, by simp [h4], fun j b hj => ?_⟩
  · rw [List.length_append]; exact r2
  · by_cases e : j < G.length
    · rw [List.getElem?_append_left e] at hj
      obtain ⟨u', e1, e2⟩ := h5 j b hj
      exact ⟨u', by rw [List.getElem?_append_left (by omega)]; exact e1, e2.keep (f2 _ (by simp))⟩
    · rw [List.getElem?_append_right (by omega)] at hj
      have hj0 : j = G.length := by
        have := (List.getElem?_eq_some_iff.1 hj).1
        simp at this
        omega
      subst hj0
      simp at hj
      subst hj
      exact ⟨u, by rw [List.getElem?_append_right (by omega), h4]; simp, h6.keep (f2 _ (by simp))⟩
end
def PKeysP (w0 : World) (A : Ac) (G : List (List Int)) (e : Ending) (w' : World) : Prop := ∃ v, e = .returned v ∧ KQ w0 A G v w'
set_option maxHeartbeats 2000000 in
theorem pkeys_c {w0 w : World} {A : Ac} {X K : Nat} {M : Int} {T : List Pl} (hl : Lay w0 A w) (h : HP A X K M T) (ht : Tab T K M) :
    Calls Try.prog 23 #[.pointer (some ⟨X, 0, none⟩)] w (PKeysP w0 A (keysT T)) := by
  obtain ⟨i0, hi0, hz0, hz1, hz2⟩ := info10 txt_info
  have H0 : Hid (KQ w0 A (keysT (T.take 0)) (.slice none 0 0) w) := Lib.hid ⟨A, [], hl, fun _ _ _ => rfl, Row.nil _ _ _ _, rfl, fun j bs hj => by simp [keysT] at hj⟩
  obtain ⟨vr, vp, R, hx⟩ := h
  obtain ⟨lX, ar, ap, cr, cp, rfl, rfl, r1, r2, r3, r4, hs⟩ := hx.look hl ht.good.pos ht.K1
  have q3 := (hs w (Below.refl _ _)).2.2.2.1
  have HX := Lib.hid hx
  have HT := Lib.hid ht
  have hn := ht.small
  have hK1 := ht.K1
  have hK2 := ht.K2
  obtain ⟨n, hT⟩ : ∃ n, T.length = n := ⟨_, rfl⟩
  have HN := Lib.hid hT
  rw [hT] at hn q3
  clear hl hx ht hs hT
  go_enter Try.func23, Try.ntmps23
  go_wp2
  clear q3
  go_loopw [3, 4, 5, 11] (fun v a5 b5 i wr => ∃ j : Nat, j ≤ n ∧ i = .int .i64 (j : Nat) ∧ Hid (KQ w0 A (keysT (T.take j)) v wr)) (fun _ _ _ i _ => n - (intOf i).toNat)
  case atStart => exact ⟨0, Nat.zero_le _, rfl, H0⟩
  case round =>
    obtain ⟨j, hj, rfl, HK⟩ := hrel
    clear H0
    by_cases hlt : j < n
    · have i1 : (j : Int) < (n : Int) := by omega
      have i2 : (0 : Int) ≤ (j : Int) := by omega
      have hjT : j < T.length := by rw [HN.out]; exact hlt
      have HTJ := Lib.hid (ed_at hjT)
      obtain ⟨A', hl, hx⟩ := HK.out.hp HX.out
      have HSN : Hid (∀ z', Below wr.heap.size wr z' → Seen X K M T R ar ap cr cp z') := Lib.hid (fun z' hz' => hx.seen (hl.grow hz') HT.out.good.pos HT.out.K1)
      obtain ⟨q0, q1, q2, q3, q4, q5, qr, qp⟩ := HSN.out wr (Below.refl _ _)
      obtain ⟨c3, c4, _, _⟩ := qp j _ HTJ.out
      have HS1 := Lib.hid (keysT_succ T j _ HTJ.out)
      have hkl : (keysT (T.take j)).length ≤ n := by have := keysT_le (T.take j); rw [List.length_take, HN.out] at this; omega
      have HKK := Lib.hid (HX.out.keys j _ HTJ.out)
      have hpl := pcs_len (p := j) HX.out.len hjT
      have HPL := Lib.hid hpl
      clear hl hx q0 q1 q2 q3 q4 q5 qr qp hpl
      generalize (ed T j) = t at *
      by_cases h1 : t.is = 1
      · have i3 : ((t.is : Int) == 1) = true := by simp [h1]
        rw [if_pos h1, HKK.out h1] at HS1
        generalize t.is = ti at *
        generalize t.cell = tc at *
        obtain ⟨G, hG⟩ : ∃ G, keysT (T.take j) = G := ⟨_, rfl⟩
        rw [hG] at HK HS1 hkl
        clear hG
        go_wp2_with fail
        have BZ : Below wr.heap.size wr (wr.alloc (.cells #[.int .i64 1, .int .i64 tc] 67)) := (Below.refl _ _).alloc (Nat.le_refl _) _
        have HK5 := Lib.hid (HK.out.grow BZ)
        have HS5 := Lib.hid (HSN.out _ BZ)
        have PCR := Lib.hid (fun m : Nat => pcs_rd (p := j) (HS5.out.2.2.2.2.2.2.1.drewN m) HPL.out.2)
        have PC := Lib.hid (piece_p X K j T.length cr ar (wr.alloc (.cells #[.int .i64 1, .int .i64 tc] 67)) (by rw [HN.out]; exact hlt) (by rw [HN.out]; omega) hK1 (by omega) r1 r2 HS5.out.1 HS5.out.2.2.1)
        generalize (wr.alloc (.cells #[.int .i64 1, .int .i64 tc] 67)) = w5 at *
        clear BZ HSN HK HS5 c3 c4
        refine PC.out.mono ?_
        rintro e w6 ⟨rfl, m, hw6⟩
        have HK6 : Hid (KQ w0 A G u3 w6) := Lib.hid (by rw [hw6]; exact HK5.out.grow (below_drewN (Below.refl _ _) m))
        have HR6 : Hid (Rd w6 w6.heap.size (some (ar.add (j * K))) (bv (pcs R K j))) := Lib.hid (by rw [hw6]; exact PCR.out m)
        clear hw6 HK5 PC PCR w5
        go_wp2_with fail
        refine (clone_any (some (ar.add (j * K))) K K (pcs R K j) HPL.out.1 (fun h => by cases h) (by omega) _ HR6.out).mono ?_
        rintro e z1 ⟨u, rfl, q⟩
        have HK1 := Lib.hid (HK6.out.copied q)
        obtain ⟨au, cu, rfl, _, _, _⟩ := own_form q.own
        clear q HK6 HR6
        have HK2 := Lib.hid (HK1.out.grow ((Below.refl _ _).alloc (Nat.le_refl _) (.cells #[.slice au (pcs R K j).length cu] 22)))
        obtain ⟨vs, hvl, hown, hbase⟩ := HK2.out.own
        have HOWN := Lib.hid hown
        clear hown HK1
        have hml : (pcs R K j).length = K := HPL.out.1
        rw [hml] at HK2 HOWN hbase ⊢
        go_wp2_with (at_builtin; refine wpList_append_own_at _ rfl (.tmp 19) (.tmp 24) _ rfl w0.heap.size 22 i0 _ 1 24 Try.underlying42 hi0 hz0 hz1 hz2 rfl (by decide) _ _ _ rfl HOWN.out ⟨z1.heap.size, 0, none⟩ 1 1 [.slice au K cu] rfl rfl (cell_one_new _ _ _) ?a2 ?a3 ?a4 ?a5 ?_)
        case a2 => intro u hu; simp at hu; subst hu; rfl
        case a3 => unfold maxLen; omega
        case a4 => omega
        case a5 => exact hbase
        intro v1 w10 hown1 hg1 _ hat1
        have HKN : Hid (KQ w0 A (keysT (T.take (j + 1))) v1 w10) := Lib.hid (by
          rw [HS1.out]
          exact HK2.out.app HOWN.out hown1 hg1 (hat1.imp id (fun e => ⟨_, e, by simp⟩)))
        clear hown1 hg1 hat1 HK2 HOWN hbase
        go_wp2
        go_roundw
        case rel => exact ⟨j + 1, by omega, by go_num, HKN⟩
        case measure => simp [intOf]; omega
      · have i3 : ((t.is : Int) == 1) = false := by rw [beq_eq_false_iff_ne]; omega
        rw [if_neg h1, List.append_nil] at HS1
        have HKN : Hid (∀ tc, KQ w0 A (keysT (T.take (j + 1))) u3 (wr.alloc (.cells #[.int .i64 (t.is : Nat), tc] 67))) := Lib.hid (fun tc => by rw [HS1.out]; exact HK.out.grow ((Below.refl _ _).alloc (Nat.le_refl _) _))
        generalize t.is = ti at *
        clear HK HS1 HSN HKK
        go_wp2
        go_roundw
        case rel => exact ⟨j + 1, by omega, by go_num, Lib.hid (HKN.out _)⟩
        case measure => simp [intOf]; omega
    · have hjn : j = n := by omega
      have i1 : ¬ (j : Int) < (n : Int) := by omega
      have HKN : Hid (KQ w0 A (keysT T) u3 wr) := Lib.hid (by
        have := HK.out
        rwa [List.take_of_length_le (by rw [HN.out]; omega)] at this)
      clear HK
      go_wp2
      go_ret
      exact ⟨_, rfl, HKN.out⟩
end Go.Proofs.Ytkaapphlnolelaa
