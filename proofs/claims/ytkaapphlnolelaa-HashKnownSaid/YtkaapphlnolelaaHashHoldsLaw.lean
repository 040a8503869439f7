/-
  Layer 10, HashHolds: each key has the cell that it was given last, if it was not taken away since, however many were put and taken away ahead; no other one has any; there are as many as may be, and no more; no key stands twice. No conditions.
-/
import Derived.Test.YtkaapphlnolelaaRows
import Derived.Test.YtkaapphlnolelaaHashHave2
import Derived.Test.YtkaapphlnolelaaHashLong
import Derived.Lib.MinMax
import Derived.Deep.DeepCutAuto
import Derived.IntWalk
import Derived.WalkKit
import Derived.ProofKit
import Derived.OpenShut
import Derived.ChangeOld
import Derived.Below
namespace Go.Proofs.Ytkaapphlnolelaa.hashHolds
open Go.ChangeShapes Go.WideShapes Go.ChangeAt Go.RowKit Ow Ro K2 Hm
set_option linter.unusedVariables false
set_option linter.unusedSimpArgs false

theorem own : ownKnob Try.prog.godebug = none := by kernel_rfl
theorem laidOut : laidOutB Try.prog = true := by kernel_rfl

theorem cut_pos (key : Int) : ∃ K : Nat, cutN key 16 = (K : Nat) ∧ (cutN key 16).toNat = K ∧ 1 ≤ K ∧ K ≤ 16 := by
  have := cutN_bd key 16 (by decide)
  exact ⟨(cutN key 16).toNat, by omega, rfl, by omega, by omega⟩
theorem cut_mx (key h : Int) (hh : 1 ≤ h) : max 1 (min key h) = cutN key h := by
  unfold cutN
  (repeat' split) <;> omega
theorem step_append_own_at {P : Program} {ops : Array Oper} {o : Oper} {a : Act} {w : World} {K : Act → World → Prop} {Q : Exit → Act → World → Prop} {E : Prop} (hgd : o.guard = none) (s x : Operand) (t : TypeId)
    (ho : o.op = .call { callee := .builtin .append, args := #[s, x], argTypes := #[t, t] })
    (base : Nat) (e : TypeId) (i : TypeInfo) (z : Value) (size bytes : Nat) (ht : P.underlying t = some (.slice e)) (hi : P.info? e = some i) (hz : i.zero = some z)
    (hsize : i.size = size) (hby : i.bytes = bytes) (hzs : z.cells.size = size) (hsz : 0 < size)
    (v : Value) (n : Nat) (xs : List Value) (hs : a.eval s = v) (hown : w.ownsRow base e size v n xs)
    (ad : Addr) (m c : Nat) (news : List Value) (hx : a.eval x = .slice (some ad) m c) (hl : news.length = m * size) (hnews : ∀ j u, news[j]? = some u → w.cell? (ad.add j) = some u) (h1 : ∀ u ∈ news, u.oneCell' = true)
    (h63 : n + m ≤ maxLen) (hbytes : (n + m) * bytes ≤ 140737488355328) (hbase : base ≤ w.heap.size)
    (h : ∀ v' w', w'.ownsRow base e size v' (n + m) (xs ++ news) → w.grownBy w' v.ownBlock → (v'.ownBlock = v.ownBlock ∨ ∃ g, v'.ownBlock = some g ∧ w.heap.size ≤ g) → K (a.put o.dst v') w') :
    if Region.wanted o (yielded ops a.tmps) = true then Oper.wp P o a w K Q else E := by
  have hw : Region.wanted o (yielded ops a.tmps) = true := by simp [Region.wanted, hgd]
  rw [if_pos hw]
  obtain ⟨v', w', hr, h2, h3, h4, h5⟩ := run_append_own_at (P := P) w base t o.type e i z size bytes ht hi hz hsize hby hzs hsz v n xs hown ad m c news hl hnews h1 h63 hbytes hbase
  unfold Oper.wp execOp
  simp only [ho, resolve, invoke, builtin, Sem.run_bind, Sem.run_pure, Result.andThen_ok, List.map_toArray, List.map_cons, List.map_nil, hs, hx, hr]
  exact h v' w' h2 h3 (h5.imp (fun h => h) fun e => ⟨_, e, Nat.le_refl _⟩)
theorem pair_info : (Try.prog.info? 51).map (fun i => (i.zero, i.size, i.bytes)) = some (some (.agg #[.slice none 0 0, .int .i64 0]), 2, 32) := by kernel_rfl
theorem fb_hv {v : Value} {l : List He} {t B : Nat} {cs : Array Value} {A : Ac} (h : FB v l t B cs A) : HV A v l t := And.left h
theorem fv_hv {v : Value} {l : List He} {t : Nat} {A : Ac} (h : FV v l t A) : HV A v l t := h
theorem fk_fb {v u : Value} {l : List He} {t B : Nat} {cs : Array Value} {bs : List Int} {A : Ac} (h : FK v l t B cs u bs A) : FB v l t B cs A := And.left h
theorem hk_len (l : List He) : (hk l).length = l.length := by unfold hk; rw [List.length_map]
theorem hk_not {l : List He} {k : List Int} {j : Nat} {x : He} (hj : l[j]? = some x) (hx : x.k = k) : (k, x.c) ∈ hk l := hk_mem.2 ⟨x, List.mem_of_getElem? hj, hx, rfl⟩
theorem hk_snoc (l : List He) (x : He) : hk (l ++ [x]) = hk l ++ [(x.k, x.c)] := by unfold hk; rw [List.map_append]; rfl

set_option maxRecDepth 100000 in
set_option maxHeartbeats 4000000 in
theorem walk (n0 : Int) (n1 : Int) (a2 : Option Addr) (len2 cap2 : Nat) (L2 : List Opn) (w : World) (w0 : (Lit.int .i64 n0).wf = true) (w1 : (Lit.int .i64 n1).wf = true) (l2 : L2.length = len2) (f2 : ∀ x ∈ L2, x.fits) (c2 : len2 ≤ cap2) (m2 : cap2 ≤ 9223372036854775807) (r2 : OpsAt w w.heap.size a2 L2) :
    Calls Try.prog 5 #[.int .i64 n0, .int .i64 n1, .slice a2 len2 cap2] w fun e w' => e = .returned (.bool true) ∧ Below w.heap.size w w' := by
  have RR := Lib.hid r2
  have HL := Lib.hid l2
  have HF := Lib.hid f2
  have HB0 := Lib.hid (Below.refl w.heap.size w)
  clear r2 l2 f2 w0 w1
  go_enter Try.func5, Try.ntmps5
  go_wp2_with fail
  with_reducible refine (long_c a2 len2 cap2 L2 HL.out (by omega) HF.out w RR.out.row).mono ?_
  rintro e w' ⟨b, rfl, hb, rfl⟩
  cases b with
  | true =>
    clear hb
    go_wp2_with fail
    with_reducible refine (works_c _).mono ?_
    rintro e w9 ⟨rfl, q⟩
    have HQ := Lib.hid q
    clear q
    go_wp2
    go_ret
    exact ⟨rfl, HQ.out⟩
  | false =>
    obtain ⟨h400, hbs⟩ := hb rfl
    rw [HL.out] at h400
    have HX0 := Lib.hid hbs
    clear hb hbs
    obtain ⟨K, hK, hK2, hK3, hK4⟩ := cut_pos n0
    have hMb := cutN_bd n1 64 (by decide)
    obtain ⟨M, hM⟩ : ∃ M, cutN n1 64 = M := ⟨_, rfl⟩
    rw [hM] at hMb
    have hx0 := (cut_mx n0 16 (by omega)).trans hK
    have hx1 := (cut_mx n1 64 (by omega)).trans hM
    go_wp2_with fail
    with_reducible refine (fnew HB0.out n0 n1).mono ?_
    rintro e w4 ⟨P, rfl, h1⟩
    rw [hK2, hM] at h1
    have H2 : Hid (PS w P K M (List.replicate (npl M) e0) (FV (.slice none 0 0) [] 0) w4) := Lib.hid (h1.mono fun A _ => HV.nil A 0)
    have HT0 := Lib.hid (Tab.start K M hK3 hK4 hMb.1 hMb.2)
    clear h1 hK hK2 hM
    go_wp2_with fail
    clear hx0 hx1
    go_loopw [8, 9] (fun hv i wr => ∃ (k : Nat) (T : List Pl) (l : List He) (av : Option Addr) (cv : Nat), k ≤ len2 ∧ i = .int .i64 k ∧ hv = .slice av l.length cv ∧ Hid (PS w P K M T (FV (.slice av l.length cv) l k) wr) ∧ Hid (Tab T K M) ∧ Hid (Holds T (hk l))) (fun _ i _ => len2 - (intOf i).toNat)
    case atStart => exact ⟨0, _, [], none, 0, by omega, rfl, rfl, H2, HT0, Lib.hid (Holds.start _)⟩
    case round =>
      obtain ⟨k, T, l, av, cv, hkl, rfl, rfl, H3, HT, HH⟩ := hrel
      clear H2 HT0
      have hlm : (l.length : Int) ≤ M := by have h1 := HH.out.len; rw [hk_len] at h1; have h2 := HT.out.cnt; omega
      have hl64 : l.length ≤ 64 := by omega
      by_cases hlt : k < len2
      · have hkx : k < L2.length := by rw [HL.out]; exact hlt
        have HFX := Lib.hid (HF.out _ (List.getElem_mem hkx))
        have HRX := Lib.hid (RR.out.bytes _ (List.getElem_mem hkx))
        have HX100 := Lib.hid (HX0.out _ (List.getElem_mem hkx))
        obtain ⟨ad, rfl, had, had2⟩ := ops_cell RR.out.row k 0 hkx (by omega)
        clear had had2
        have HC : Hid (∀ z, Below w.heap.size w z → ∀ r, r < 3 → z.cell? (ad.add (3 * k + r)) = L2[k].cells[r]?) := Lib.hid (fun z hz r hr => by
          obtain ⟨ad', e, hlt', h⟩ := ops_cell RR.out.row k r hkx hr
          injection e with e
          subst e
          rw [← h]
          exact hz.cell (by rw [add_block]; exact hlt'))
        generalize L2[k] = x at *
        have HB := H3.out.below
        have c0 : wr.cell? (ad.add (k * 3)) = some (.int .i64 x.kind) := by rw [Nat.mul_comm]; exact HC.out wr HB 0 (by omega)
        have c1 : wr.cell? ⟨(ad.add (k * 3)).block, (ad.add (k * 3)).off + 1, none⟩ = some (.int .i64 x.cell) := by rw [Nat.mul_comm k 3, add_next _ _ _ (by omega)]; exact HC.out wr HB 1 (by omega)
        have c2 : wr.cell? ⟨(ad.add (k * 3)).block, (ad.add (k * 3)).off + 2, none⟩ = some (.slice x.a x.n x.c) := by rw [Nat.mul_comm k 3, add_next _ _ _ (by omega)]; exact HC.out wr HB 2 (by omega)
        obtain ⟨kd, c, ax, n, cx, bs⟩ := x
        dsimp only at c0 c1 c2
        obtain ⟨f1, f2, hn, hby, f5, f6, f7⟩ := HFX.out
        dsimp only at hn hby f5 f6
        have hn100 : n ≤ 100 := HX100.out
        have HN := Lib.hid hn
        have HBY := Lib.hid hby
        have HRD : Hid (Rd w w.heap.size ax (bv bs)) := Lib.hid HRX.out
        clear HFX HX100 HRX HC HB f1 f2 f6 f7 hkx hn hby
        have i1 : (k : Int) < (len2 : Int) := by omega
        go_wp2_with fail
        have H4 := Lib.hid (fv_boxed H3.out #[.int .i64 kd, .int .i64 c, .slice ax n cx])
        obtain ⟨B, hB⟩ : ∃ B, wr.heap.size = B := ⟨_, rfl⟩
        rw [hB] at H4 ⊢
        generalize (wr.alloc (.cells #[.int .i64 kd, .int .i64 c, .slice ax n cx] 36)) = w6 at *
        clear H3 c0 c1 c2 hB
        have HR6 := Lib.hid ((HRD.out.below H4.out.below).mono H4.out.below.size)
        with_reducible refine (at_f (l := l) (t := k) H4.out (fun A h => fb_hv h) (by omega) ax n cx bs HN.out (by omega) HR6.out).mono ?_
        rintro e w7 ⟨⟨r, rfl, hr⟩, q, _⟩
        have H5 := Lib.hid q
        clear q H4 HR6
        have HR7 := Lib.hid ((HRD.out.below H5.out.below).mono H5.out.below.size)
        have b0 := fb_box H5.out 0
        have b1 := fb_box H5.out 1
        have b2 := fb_box H5.out 2
        simp only [List.getElem?_toArray, List.getElem?_cons_zero, List.getElem?_cons_succ] at b0 b1 b2
        by_cases k0 : kd = 0
        · subst k0
          by_cases hlk : n = K
          · have hne : ((n : Int) != (K : Int)) = false := by simp; omega
            have HLK := Lib.hid hlk
            clear hlk
            rcases hr with ⟨rfl, hnot⟩ | ⟨j, x, rfl, hj, hxk⟩
            · by_cases hful : (l.length : Int) < M
              · have hnf : ((l.length : Int) == M) = false := by rw [beq_eq_false_iff_ne]; omega
                obtain ⟨T2, hp2, ht2, hh2⟩ := putH HT.out HH.out (k := bs) (HN.out.trans HLK.out) HBY.out hnot (by rw [hk_len]; exact hful) c
                have HPX := Lib.hid hp2
                have HT2 := Lib.hid ht2
                have HH2' := Lib.hid hh2
                clear hp2 ht2 hh2 hnot
                go_wp2_with fail
                with_reducible refine (fput H5.out (fb_fst _ _ _ _ _) HT.out ax n cx bs HN.out (by omega) HBY.out HR7.out c HPX.out).mono ?_
                rintro e z1 ⟨rfl, q⟩
                have H6 : Hid (PS w P K M T2 (FB (.slice av l.length cv) l k B #[.int .i64 0, .int .i64 c, .slice ax n cx]) z1) := Lib.hid q
                clear q H5 HR7 HPX b0 b1 b2
                dsimp only
                have b1 := fb_box H6.out 1
                have b2 := fb_box H6.out 2
                simp only [List.getElem?_toArray, List.getElem?_cons_zero, List.getElem?_cons_succ] at b1 b2
                obtain ⟨j0, hj0, hy0, hy1, hy2⟩ := info10 pair_info
                go_wp2_with fail
                refine wp_region_held_drew (S := fun w' => w'.cell? ⟨B, 1, none⟩ = some (.int .i64 c) ∧ w'.cell? ⟨B, 2, none⟩ = some (.slice ax n cx)) (by kernel_rfl) ⟨b1, b2⟩ (fun g => ?_)
                have H61 := Lib.hid H6.out.drew
                have HR8 := Lib.hid ((HRD.out.below H61.out.below).mono H61.out.below.size)
                clear H6 b1 b2
                generalize z1.drew = z2 at *
                refine tq 0 ?_ rfl (by kernel_rfl) (fun _ _ _ h => h) (by rfl) g ?_ ?_; rotate_left
                · intro w9 h9; go_simp; try with_reducible rfl
                simp only [Act.put, ptA, ptB, ptC]
                refine tq 1 ?_ rfl (by kernel_rfl) (fun _ _ _ h => h) (by rfl) g ?_ ?_; rotate_left
                · intro w9 h9; go_simp; try with_reducible rfl
                simp only [Act.put, ptA, ptB, ptC]
                refine tq 2 ?_ rfl (by kernel_rfl) (fun _ _ _ h => h) (by rfl) g ?_ ?_; rotate_left
                · intro w9 h9; obtain ⟨h91, h92⟩ := h9; go_simp; try with_reducible rfl
                simp only [Act.put, ptA, ptB, ptC]
                refine tq 4 ?_ rfl (by kernel_rfl) (fun _ _ _ h => h) (by rfl) g ?_ ?_; rotate_left
                · intro w9 h9; go_simp; try with_reducible rfl
                simp only [Act.put, ptA, ptB, ptC]
                refine tq 5 ?_ rfl (by kernel_rfl) (fun _ _ _ h => h) (by rfl) g ?_ ?_; rotate_left
                · intro w9 h9; obtain ⟨h91, h92⟩ := h9; go_simp; try with_reducible rfl
                simp only [Act.put, ptA, ptB, ptC]
                refine tc 3 rfl (by kernel_rfl) (fun K9 hK => ?_)
                go_simp
                with_reducible refine (copyb_any ax n cx bs HN.out (by omega) _ HR8.out).mono ?_
                rintro e z3 ⟨u, rfl, q⟩
                have H62 := Lib.hid (fb_copied H61.out q)
                obtain ⟨au, cu, rfl, _, _, _⟩ := own_form q.own
                have d1 := fb_box (H62.out.mono fun A h => fk_fb h) 1
                have d2 := fb_box (H62.out.mono fun A h => fk_fb h) 2
                simp only [List.getElem?_toArray, List.getElem?_cons_zero, List.getElem?_cons_succ] at d1 d2
                clear q H61 HR8
                go_simp
                refine hK.out _ _ ⟨d1, d2⟩ (fun g1 => ?_)
                clear hK K9 g d1 d2
                have g := g1
                clear g1
                refine tq 6 ?_ rfl (by kernel_rfl) (fun _ _ _ h => h) (by rfl) g ?_ ?_; rotate_left
                · intro w9 h9; go_simp; try with_reducible rfl
                simp only [Act.put, ptA, ptB, ptC]
                refine tc 7 rfl (by kernel_rfl) (fun K9 hK => ?_)
                have H63 := Lib.hid (H62.out.grow ((Below.refl _ _).alloc (Nat.le_refl _) (.cells #[.slice au bs.length cu, .int .i64 c] 51)))
                have NEW : Hid (∀ (i : Nat) (u : Value), [Value.slice au bs.length cu, Value.int .i64 c][i]? = some u → (z3.alloc (.cells #[.slice au bs.length cu, .int .i64 c] 51)).cell? ((⟨z3.heap.size, 0, none⟩ : Addr).add i) = some u) := Lib.hid (fun i u hu => by
                  rw [add_zero_at, (Bk.new z3 51 #[.slice au bs.length cu, .int .i64 c]).cell i, ← hu]
                  simp)
                have d1 := fb_box (H63.out.mono fun A h => fk_fb h) 1
                have d2 := fb_box (H63.out.mono fun A h => fk_fb h) 2
                simp only [List.getElem?_toArray, List.getElem?_cons_zero, List.getElem?_cons_succ] at d1 d2
                go_simp
                refine hK.out _ _ ⟨d1, d2⟩ (fun g1 => ?_)
                clear hK K9 g d1 d2 H62
                have g := g1
                clear g1
                obtain ⟨zb, hzb⟩ : ∃ zb, z3.heap.size = zb := ⟨_, rfl⟩
                rw [hzb] at NEW ⊢
                generalize (z3.alloc (.cells #[.slice au bs.length cu, .int .i64 c] 51)) = z4 at *
                have OWN := Lib.hid (fk_own H63.out)
                refine tc 8 rfl (by kernel_rfl) (fun K9 hK => ?_)
                refine step_append_own_at rfl (.tmp 71) (.tmp 78) _ rfl w.heap.size 51 j0 _ 2 32 Try.underlying48 hj0 hy0 hy1 hy2 rfl (by decide) (.slice av l.length cv) l.length (hflat l) rfl OWN.out.1 ⟨zb, 0, none⟩ 1 1 [.slice au bs.length cu, .int .i64 c] rfl rfl NEW.out ?a2_0 ?a3_0 ?a4_0 ?a5_0 ?_
                case a2_0 => intro u hu; simp at hu; rcases hu with rfl | rfl <;> rfl
                case a3_0 => unfold maxLen; omega
                case a4_0 => omega
                case a5_0 => exact OWN.out.2
                intro v9 z9 hown9 hg9 hat9
                have H64 := Lib.hid (fk_app H63.out c (by rw [HN.out]; omega) HBY.out hown9 hg9 hat9)
                have d1 := fb_box H64.out 1
                have d2 := fb_box H64.out 2
                simp only [List.getElem?_toArray, List.getElem?_cons_zero, List.getElem?_cons_succ] at d1 d2
                obtain ⟨av2, cv2, hv9⟩ : ∃ (a9 : Option Addr) (c9 : Nat), v9 = .slice a9 (l ++ [(⟨.slice au bs.length cu, bs, c, k⟩ : He)]).length c9 := by
                  obtain ⟨A, h1, h2, h3, h4⟩ := H64.out
                  obtain ⟨a9, c9, h9, _⟩ := h3.form
                  exact ⟨a9, c9, h9⟩
                have HV9 := Lib.hid hv9
                clear hown9 hg9 hat9 OWN NEW H63 hv9
                go_simp
                refine hK.out _ _ ⟨d1, d2⟩ (fun g1 => ?_)
                clear hK K9 g d1 d2 hzb
                have g := g1
                clear g1
                refine tq 9 ?_ rfl (by kernel_rfl) (fun _ _ _ h => h) (by rfl) g ?_ ?_; rotate_left
                · intro w9 h9; go_simp; try with_reducible rfl
                simp only [Act.put, ptA, ptB, ptC]
                refine wpAnyH_done (by kernel_rfl) ?_ _
                clear g
                have HH2 : Hid (Holds T2 (hk (l ++ [(⟨.slice au bs.length cu, bs, c, k⟩ : He)]))) := Lib.hid (by rw [hk_snoc]; exact HH2'.out)
                have H7 := Lib.hid (H64.out.mono (F' := FV v9 (l ++ [(⟨.slice au bs.length cu, bs, c, k⟩ : He)]) (k + 1)) fun A h => fb_hv h)
                rw [HV9.out] at H7 ⊢
                clear H64 HH2' HV9
                generalize hl2 : (l ++ [(⟨.slice au bs.length cu, bs, c, k⟩ : He)]) = l2 at *
                clear hl2
                go_wp2_with fail
                with_reducible refine (flen H7.out).mono ?_
                rintro e z' ⟨rfl, rfl⟩
                have hl9 := HH2.out.len
                rw [hk_len] at hl9
                rw [← hl9]
                clear hl9
                go_wp2
                go_roundw
                case rel => exact ⟨k + 1, T2, l2, av2, cv2, by omega, by go_num, rfl, H7, HT2, HH2⟩
                case measure => simp [intOf]; omega
              · have hnf : ((l.length : Int) == M) = true := by simp; omega
                have HPX := Lib.hid (putFull HH.out (K := K) (M := M) (k := bs) (HN.out.trans HLK.out) hnot (by rw [hk_len]; exact hful) c)
                go_wp2_with fail
                with_reducible refine (fput H5.out (fb_fst _ _ _ _ _) HT.out ax n cx bs HN.out (by omega) HBY.out HR7.out c HPX.out).mono ?_
                rintro e z1 ⟨rfl, q⟩
                have H6 := Lib.hid q
                clear q H5 HR7 HPX b0 b1 b2
                dsimp only at H6 ⊢
                go_wp2_with fail
                have H7 := Lib.hid (fb_fv H6.out)
                clear H6
                with_reducible refine (flen H7.out).mono ?_
                rintro e z' ⟨rfl, rfl⟩
                have hl9 := HH.out.len
                rw [hk_len] at hl9
                rw [← hl9]
                clear hl9
                go_wp2
                go_roundw
                case rel => exact ⟨k + 1, T, l, av, cv, by omega, by go_num, rfl, H7, HT, HH⟩
                case measure => simp [intOf]; omega
            · have i5 : (0 : Int) ≤ (j : Int) := by omega
              have HPX := Lib.hid (putTwice HT.out HH.out (k := bs) (HN.out.trans HLK.out) (hk_not hj hxk) c)
              go_wp2_with fail
              with_reducible refine (fput H5.out (fb_fst _ _ _ _ _) HT.out ax n cx bs HN.out (by omega) HBY.out HR7.out c HPX.out).mono ?_
              rintro e z1 ⟨rfl, q⟩
              have H6 := Lib.hid q
              clear q H5 HR7 HPX b0 b1 b2
              dsimp only at H6 ⊢
              go_wp2_with fail
              have H7 := Lib.hid (fb_fv H6.out)
              clear H6
              with_reducible refine (flen H7.out).mono ?_
              rintro e z' ⟨rfl, rfl⟩
              have hl9 := HH.out.len
              rw [hk_len] at hl9
              rw [← hl9]
              clear hl9
              go_wp2
              go_roundw
              case rel => exact ⟨k + 1, T, l, av, cv, by omega, by go_num, rfl, H7, HT, HH⟩
              case measure => simp [intOf]; omega
          · have hne : ((n : Int) != (K : Int)) = true := by simp; omega
            have HPX := Lib.hid (putSize (T := T) (K := K) (M := M) (k := bs) (fun h => hlk (HN.out.symm.trans h)) c)
            go_wp2_with fail
            with_reducible refine (fput H5.out (fb_fst _ _ _ _ _) HT.out ax n cx bs HN.out (by omega) HBY.out HR7.out c HPX.out).mono ?_
            rintro e z1 ⟨rfl, q⟩
            have H6 := Lib.hid q
            clear q H5 HR7 HPX b0 b1 b2
            dsimp only at H6 ⊢
            go_wp2_with fail
            have H7 := Lib.hid (fb_fv H6.out)
            clear H6
            with_reducible refine (flen H7.out).mono ?_
            rintro e z' ⟨rfl, rfl⟩
            have hl9 := HH.out.len
            rw [hk_len] at hl9
            rw [← hl9]
            clear hl9
            go_wp2
            go_roundw
            case rel => exact ⟨k + 1, T, l, av, cv, by omega, by go_num, rfl, H7, HT, HH⟩
            case measure => simp [intOf]; omega
        · have z0 : (kd == 0) = false := by rw [beq_eq_false_iff_ne]; exact k0
          by_cases k1 : kd = 1
          · subst k1
            rcases hr with ⟨rfl, hnot⟩ | ⟨j, x, rfl, hj, hxk⟩
            · have hfn := findN HH.out hnot
              have HFN := Lib.hid hfn.1
              clear hfn hnot
              go_wp2_with fail
              with_reducible refine (ffind H5.out HT.out ax n cx bs HN.out (by omega) HBY.out HR7.out HFN.out).mono ?_
              rintro e z1 ⟨rfl, q, _⟩
              have H6 := Lib.hid q
              clear q H5 HR7 HFN b0 b1 b2
              have b0 := fb_box H6.out 0
              simp only [List.getElem?_toArray, List.getElem?_cons_zero, List.getElem?_cons_succ] at b0
              go_wp2_with fail
              have H7 := Lib.hid (fb_fv H6.out)
              clear H6
              with_reducible refine (flen H7.out).mono ?_
              rintro e z' ⟨rfl, rfl⟩
              have hl9 := HH.out.len
              rw [hk_len] at hl9
              rw [← hl9]
              clear hl9
              go_wp2
              go_roundw
              case rel => exact ⟨k + 1, T, l, av, cv, by omega, by go_num, rfl, H7, HT, HH⟩
              case measure => simp [intOf]; omega
            · have i5 : (0 : Int) ≤ (j : Int) := by omega
              have HFN := Lib.hid (findH HT.out HH.out (hk_not hj hxk))
              have hjl := (List.getElem?_eq_some_iff.1 hj).1
              have i6 : (j : Int) < (l.length : Int) := by omega
              go_wp2_with fail
              with_reducible refine (ffind H5.out HT.out ax n cx bs HN.out (by omega) HBY.out HR7.out HFN.out).mono ?_
              rintro e z1 ⟨rfl, q, _⟩
              have H6 := Lib.hid q
              clear q H5 HR7 HFN b0 b1 b2
              have b0 := fb_box H6.out 0
              simp only [List.getElem?_toArray, List.getElem?_cons_zero, List.getElem?_cons_succ] at b0
              have hlk2 : ∃ (ad : Addr), av = some ad ∧ z1.cell? ⟨(ad.add (j * 2)).block, (ad.add (j * 2)).off + 1, none⟩ = some (.int .i64 x.c) := by
                obtain ⟨A, h1, h2, h3, h4⟩ := H6.out
                obtain ⟨ad, cap, a, c', e1, _, _, _, c1, _⟩ := h3.look h1 hj
                simp only [Value.slice.injEq] at e1
                exact ⟨ad, e1.1, c1⟩
              obtain ⟨ad, rfl, q1⟩ := hlk2
              generalize x.c = xc at *
              go_wp2_with fail
              have H7 := Lib.hid (fb_fv H6.out)
              clear H6
              with_reducible refine (flen H7.out).mono ?_
              rintro e z' ⟨rfl, rfl⟩
              have hl9 := HH.out.len
              rw [hk_len] at hl9
              rw [← hl9]
              clear hl9
              go_wp2
              go_roundw
              case rel => exact ⟨k + 1, T, l, some ad, cv, by omega, by go_num, rfl, H7, HT, HH⟩
              case measure => simp [intOf]; omega
          · have z1 : (kd == 1) = false := by rw [beq_eq_false_iff_ne]; exact k1
            by_cases k2 : kd = 2
            · subst k2
              rcases hr with ⟨rfl, hnot⟩ | ⟨j, x, rfl, hj, hxk⟩
              · have hfn := findN HH.out hnot
                have HFN := Lib.hid hfn.1
                have HFT := Lib.hid hfn.2
                clear hfn hnot
                go_wp2_with fail
                with_reducible refine (ffind H5.out HT.out ax n cx bs HN.out (by omega) HBY.out HR7.out HFN.out).mono ?_
                rintro e z1 ⟨rfl, q, _⟩
                have H51 := Lib.hid q
                clear q H5 HR7 b0 b1 b2
                have b0 := fb_box H51.out 0
                have b2 := fb_box H51.out 2
                simp only [List.getElem?_toArray, List.getElem?_cons_zero, List.getElem?_cons_succ] at b0 b2
                have HR8 := Lib.hid ((HRD.out.below H51.out.below).mono H51.out.below.size)
                go_wp2_with fail
                with_reducible refine (fdel H51.out (fb_fst _ _ _ _ _) HT.out ax n cx bs HN.out (by omega) HBY.out HR8.out HFN.out).mono ?_
                rintro e z2 ⟨rfl, q⟩
                rw [HFT.out] at q
                have H6 := Lib.hid q
                clear q H51 HR8 HFN HFT b0 b2
                have b0 := fb_box H6.out 0
                simp only [List.getElem?_toArray, List.getElem?_cons_zero, List.getElem?_cons_succ] at b0
                go_wp2_with fail
                have H7 := Lib.hid (fb_fv H6.out)
                clear H6
                with_reducible refine (flen H7.out).mono ?_
                rintro e z' ⟨rfl, rfl⟩
                have hl9 := HH.out.len
                rw [hk_len] at hl9
                rw [← hl9]
                clear hl9
                go_wp2
                go_roundw
                case rel => exact ⟨k + 1, T, l, av, cv, by omega, by go_num, rfl, H7, HT, HH⟩
                case measure => simp [intOf]; omega
              · have i5 : (0 : Int) ≤ (j : Int) := by omega
                have HFN := Lib.hid (findH HT.out HH.out (hk_not hj hxk))
                have hjl := (List.getElem?_eq_some_iff.1 hj).1
                have i6 : (j : Int) < (l.length : Int) := by omega
                go_wp2_with fail
                with_reducible refine (ffind H5.out HT.out ax n cx bs HN.out (by omega) HBY.out HR7.out HFN.out).mono ?_
                rintro e z1 ⟨rfl, q, _⟩
                have H51 := Lib.hid q
                clear q H5 HR7 b0 b1 b2
                have b0 := fb_box H51.out 0
                have b2 := fb_box H51.out 2
                simp only [List.getElem?_toArray, List.getElem?_cons_zero, List.getElem?_cons_succ] at b0 b2
                have HR8 := Lib.hid ((HRD.out.below H51.out.below).mono H51.out.below.size)
                go_wp2_with fail
                with_reducible refine (fdel H51.out (fb_fst _ _ _ _ _) HT.out ax n cx bs HN.out (by omega) HBY.out HR8.out HFN.out).mono ?_
                rintro e z2 ⟨rfl, q⟩
                have hper := hk_less l j hj
                rw [hxk] at hper
                obtain ⟨ht2, hh2⟩ := delH HT.out HH.out hper
                have HT2 := Lib.hid ht2
                have HH2 := Lib.hid hh2
                have H6 := Lib.hid q
                clear q H51 HR8 HFN b0 b2 hper ht2 hh2
                generalize delT T (fat T bs) = T2 at *
                have b0 := fb_box H6.out 0
                simp only [List.getElem?_toArray, List.getElem?_cons_zero, List.getElem?_cons_succ] at b0
                obtain ⟨m, hm⟩ : ∃ m, l.length = m + 1 := ⟨l.length - 1, by omega⟩
                have hyl : l[m]? = some (l[m]'(by omega)) := List.getElem?_eq_getElem _
                generalize l[m]'(by omega) = y at *
                have hlk2 : ∃ (ad : Addr) (ay : Option Addr) (cy : Nat), av = some ad ∧ y.v = .slice ay y.k.length cy ∧ m + 1 ≤ cv ∧ cv ≤ maxLen ∧ (∃ u, z2.cell? (ad.add (j * 2)) = some u) ∧ z2.cell? ⟨(ad.add (j * 2)).block, (ad.add (j * 2)).off + 1, none⟩ = some (.int .i64 x.c) ∧ z2.frozen? (ad.add (j * 2)) = false ∧ z2.frozen? ⟨(ad.add (j * 2)).block, (ad.add (j * 2)).off + 1, none⟩ = false ∧
                    z2.cell? (ad.add (m * 2)) = some (.slice ay y.k.length cy) ∧ z2.cell? ⟨(ad.add (m * 2)).block, (ad.add (m * 2)).off + 1, none⟩ = some (.int .i64 y.c) := by
                  obtain ⟨A, h1, h2, h3, h4⟩ := H6.out
                  obtain ⟨ad, cap, a, c', e1, _, _, c0, c1, f0, f1, _⟩ := h3.look h1 hj
                  obtain ⟨ad', cap', a', c'', e2, e3, _, d0, d1, _⟩ := h3.look h1 hyl
                  obtain ⟨a9, cap9, e9, n1, n2⟩ := h3.form
                  simp only [Value.slice.injEq] at e1 e2 e9
                  obtain ⟨rfl, _, rfl⟩ := e1
                  obtain ⟨e2, _, _⟩ := e2
                  injection e2 with e2
                  subst e2
                  obtain ⟨_, _, rfl⟩ := e9
                  exact ⟨ad, a', c'', rfl, e3, by omega, n2, ⟨_, c0⟩, c1, f0, f1, d0, d1⟩
                obtain ⟨ad, ay, cy, rfl, hyv, n1, n2, ⟨u0, q0⟩, q1, f0, f1, d0, d1⟩ := hlk2
                have g1 : (z2.setCell (ad.add (j * 2)) (.slice ay y.k.length cy)).cell? ⟨(ad.add (j * 2)).block, (ad.add (j * 2)).off + 1, none⟩ = some (.int .i64 x.c) := by
                  rw [World.cell?_setCell_other _ _ _ _ (fun e => by have := congrArg Addr.off e; simp at this)]; exact q1
                have hl2 := fb_less H6.out hj (y := y) (by rw [hm]; exact hyl)
                unfold sp2 at hl2
                rw [hyv] at hl2
                have hlm2 : l.length - 1 = m := by omega
                rw [hlm2] at hl2
                have H65 := Lib.hid hl2
                have HLL : Hid ((less l j).length = m) := Lib.hid (by rw [less_len l j hjl]; omega)
                rw [hm] at i6 ⊢
                clear hl2 H6 hyv hyl hj
                generalize x.c = xc at *
                generalize y.c = yc at *
                generalize y.k.length = yn at *
                have i7 : (m : Int) ≤ (cv : Int) := by omega
                have i8 : (0 : Int) ≤ (m : Int) := by omega
                go_wp2_with fail
                generalize ((z2.setCell (ad.add (j * 2)) (.slice ay yn cy)).setCell ⟨(ad.add (j * 2)).block, (ad.add (j * 2)).off + 1, none⟩ (.int .i64 yc)) = z5 at *
                have H7 := Lib.hid (fb_fv H65.out)
                obtain ⟨l2, hl2⟩ : ∃ l2, less l j = l2 := ⟨_, rfl⟩
                rw [hl2] at H7 HH2 HLL
                clear H65
                have hll := HLL.out
                rw [← hll] at H7 ⊢
                clear hll HLL hl2
                with_reducible refine (flen H7.out).mono ?_
                rintro e z' ⟨rfl, rfl⟩
                have hl9 := HH2.out.len
                rw [hk_len] at hl9
                rw [← hl9]
                clear hl9
                go_wp2
                go_roundw
                case rel => exact ⟨k + 1, T2, l2, some ad, cv, by omega, by go_num, rfl, H7, HT2, HH2⟩
                case measure => simp [intOf]; omega
            · have z2 : (kd == 2) = false := by rw [beq_eq_false_iff_ne]; exact k2
              go_wp2_with fail
              have H7 := Lib.hid (fb_fv H5.out)
              clear H5
              with_reducible refine (flen H7.out).mono ?_
              rintro e z' ⟨rfl, rfl⟩
              have hl9 := HH.out.len
              rw [hk_len] at hl9
              rw [← hl9]
              clear hl9
              go_wp2
              go_roundw
              case rel => exact ⟨k + 1, T, l, av, cv, by omega, by go_num, rfl, H7, HT, HH⟩
              case measure => simp [intOf]; omega
      · have i1 : ¬ (k : Int) < (len2 : Int) := by omega
        go_wp2_with fail
        with_reducible refine (fkeys H3.out HT.out).mono ?_
        rintro e w6 ⟨ka, kc, rfl, q⟩
        have HNOD := Lib.hid (keys_nodup HT.out.good)
        have hkle := HT.out.keys_le
        have HKM := Lib.hid hkle.2
        have hkm := hkle.1
        have HGL : Hid ((keysT T).length = l.length) := Lib.hid (by have := HH.out.len; rw [hk_len] at this; exact this.symm)
        have HGM : Hid (∀ g ∈ keysT T, ∃ c, (g, c) ∈ hk l) := Lib.hid (fun g hg => by
          have h1 := (keys_fst HH.out).mem_iff.2 hg
          obtain ⟨x, hx, rfl⟩ := List.mem_map.1 h1
          exact ⟨x.2, hx⟩)
        have H4 := Lib.hid q
        clear q hkle H3
        obtain ⟨G, hG⟩ : ∃ G, keysT T = G := ⟨_, rfl⟩
        rw [hG] at HNOD HKM hkm HGL HGM H4 ⊢
        clear hG
        obtain ⟨m, hm⟩ : ∃ m, G.length = m := ⟨_, rfl⟩
        have HM := Lib.hid hm
        rw [hm] at hkm HGL H4 ⊢
        clear hm
        go_wp2_with fail
        go_loopw [16] (fun i wr => ∃ j : Nat, j ≤ m ∧ i = .int .i64 j ∧ Hid (PQ w P K M T (FV (.slice av l.length cv) l k) G (.slice ka m kc) wr)) (fun i _ => m - (intOf i).toNat)
        case atStart => exact ⟨0, by omega, rfl, H4⟩
        case round =>
          obtain ⟨j, hj, rfl, H5⟩ := hrel
          clear H4
          by_cases hlt2 : j < m
          · have i6 : (j : Int) < (m : Int) := by omega
            have i7 : (0 : Int) ≤ (j : Int) := by omega
            have hjG : G[j]? = some (G[j]'(by rw [HM.out]; exact hlt2)) := List.getElem?_eq_getElem _
            have hgm := List.getElem_mem (l := G) (n := j) (by rw [HM.out]; exact hlt2)
            generalize G[j]'(by rw [HM.out]; exact hlt2) = gg at *
            have hgl := HKM.out gg hgm
            obtain ⟨gc, hgc⟩ := HGM.out gg hgm
            obtain ⟨kad, a1, c1, rfl, hA1, hc1, hr1⟩ := H5.out.txt.look hjG
            have HC1 : Hid (∀ z, Below wr.heap.size wr z → z.cell? (kad.add j) = some (.slice a1 gg.length c1) ∧ Rd z z.heap.size a1 (bv gg)) := Lib.hid (fun z hz => ⟨(hz.cell (by rw [add_block]; exact hA1)).trans hc1, (hr1.below hz).mono hz.size⟩)
            have HGC := Lib.hid hgc
            by_cases hp : (0 : Int) < (j : Int)
            · obtain ⟨j2, hj2⟩ : ∃ j2, j = j2 + 1 := ⟨j - 1, by omega⟩
              have hjj : (j : Int) - 1 = (j2 : Int) := by omega
              have i8 : (j2 : Int) < (m : Int) := by omega
              have i9 : (0 : Int) ≤ (j2 : Int) := by omega
              have hjG2 : G[j2]? = some (G[j2]'(by rw [HM.out]; omega)) := List.getElem?_eq_getElem _
              have hgm2 := List.getElem_mem (l := G) (n := j2) (by rw [HM.out]; omega)
              generalize G[j2]'(by rw [HM.out]; omega) = g2 at *
              have hgl2 := HKM.out g2 hgm2
              have hneq : decide (gg = g2) = false := decide_eq_false (fun e => by
                subst e
                obtain ⟨q1, q2⟩ := List.getElem?_eq_some_iff.1 hjG
                obtain ⟨q3, q4⟩ := List.getElem?_eq_some_iff.1 hjG2
                exact (List.pairwise_iff_getElem.1 HNOD.out) j2 j q3 q1 (by omega) (q4.trans q2.symm))
              obtain ⟨kad', a2, c2, e9, hA2, hc2, hr2⟩ := H5.out.txt.look hjG2
              injection e9 with e9
              subst e9
              have HC2 : Hid (∀ z, Below wr.heap.size wr z → z.cell? (kad.add j2) = some (.slice a2 g2.length c2) ∧ Rd z z.heap.size a2 (bv g2)) := Lib.hid (fun z hz => ⟨(hz.cell (by rw [add_block]; exact hA2)).trans hc2, (hr2.below hz).mono hz.size⟩)
              clear hjG hjG2 hgm hgm2 hA1 hA2 hr1 hr2 hgc hj2
              go_wp2_with fail
              refine wp_region_held_drew (S := fun w' => w'.cell? (kad.add j) = some (.slice a1 gg.length c1) ∧ w'.cell? (kad.add j2) = some (.slice a2 g2.length c2)) (by kernel_rfl) ⟨hc1, hc2⟩ (fun g => ?_)
              have H6 := Lib.hid (H5.out.grow ((Below.refl _ _).drew))
              have HBz : Hid (Below wr.heap.size wr wr.drew) := Lib.hid ((Below.refl _ _).drew)
              clear hc1 hc2 H5
              generalize hz0 : wr.drew = z0 at *
              have hs0 : z0.heap.size = wr.heap.size := by rw [← hz0]; rfl
              clear hz0
              refine tq 0 ?_ rfl (by kernel_rfl) (fun _ _ _ h => h) (by rfl) g ?_ ?_; rotate_left
              · intro w9 h9; go_simp; try with_reducible rfl
              simp only [Act.put, ptA, ptB, ptC]
              refine tq 1 ?_ rfl (by kernel_rfl) (fun _ _ _ h => h) (by rfl) g ?_ ?_; rotate_left
              · intro w9 h9; go_simp; try with_reducible rfl
              simp only [Act.put, ptA, ptB, ptC]
              refine tq 2 ?_ rfl (by kernel_rfl) (fun _ _ _ h => h) (by rfl) g ?_ ?_; rotate_left
              · intro w9 h9; go_simp; try with_reducible rfl
              simp only [Act.put, ptA, ptB, ptC]
              refine tq 3 ?_ rfl (by kernel_rfl) (fun _ _ _ h => h) (by rfl) g ?_ ?_; rotate_left
              · intro w9 h9; go_simp; try with_reducible rfl
              simp only [Act.put, ptA, ptB, ptC]
              refine tq 4 ?_ rfl (by kernel_rfl) (fun _ _ _ h => h) (by rfl) g ?_ ?_; rotate_left
              · intro w9 h9; obtain ⟨h91, h92⟩ := h9; go_simp; try with_reducible rfl
              simp only [Act.put, ptA, ptB, ptC]
              refine tc 5 rfl (by kernel_rfl) (fun K9 hK => ?_)
              go_simp
              with_reducible refine (at_f (l := l) (t := k) (H6.out.ps (fv_fst _ _ _)) (fun A h => fv_hv h) (by omega) a1 gg.length c1 gg rfl (by omega) (HC1.out z0 HBz.out).2).mono ?_
              rintro e z1 ⟨⟨r, rfl, hr⟩, _, qb⟩
              have H7 := Lib.hid (H6.out.grow qb)
              have HB1 : Hid (Below wr.heap.size wr z1) := Lib.hid (HBz.out.trans (qb.mono (by omega)))
              rcases hr with ⟨rfl, hnot⟩ | ⟨jx, x, rfl, _, _⟩
              · exact absurd HGC.out (hnot gc)
              · have hs1 : wr.heap.size ≤ z1.heap.size := HB1.out.size
                clear qb H6 HBz hs0
                go_simp
                refine hK.out _ _ ⟨(HC1.out z1 HB1.out).1, (HC2.out z1 HB1.out).1⟩ (fun g1 => ?_)
                clear hK K9 g
                have g := g1
                clear g1
                refine tq 6 (.bool false) rfl (by kernel_rfl) (fun _ _ _ h => h) (by rfl) g ?_ ?_
                · intro w9 h9; go_simp; try (first | omega | (simp; omega) | simp)
                simp only [Act.put, ptA, ptB, ptC]
                refine tq 7 ?_ rfl (by kernel_rfl) (fun _ _ _ h => h) (by rfl) g ?_ ?_; rotate_left
                · intro w9 h9; go_simp; try with_reducible rfl
                simp only [Act.put, ptA, ptB, ptC]
                refine tq 8 ?_ rfl (by kernel_rfl) (fun _ _ _ h => h) (by rfl) g ?_ ?_; rotate_left
                · intro w9 h9; go_simp; try with_reducible rfl
                simp only [Act.put, ptA, ptB, ptC]
                refine tq 9 (.bool true) rfl (by kernel_rfl) (fun _ _ _ h => h) (by rfl) g ?_ ?_
                · intro w9 h9; go_simp; try (first | omega | (simp; omega) | simp)
                simp only [Act.put, ptA, ptB, ptC]
                refine tq 10 ?_ rfl (by kernel_rfl) (fun _ _ _ h => h) (by rfl) g ?_ ?_; rotate_left
                · intro w9 h9; go_simp; try with_reducible rfl
                simp only [Act.put, ptA, ptB, ptC]
                refine tq 11 ?_ rfl (by kernel_rfl) (fun _ _ _ h => h) (by rfl) g ?_ ?_; rotate_left
                · intro w9 h9; go_simp; try with_reducible rfl
                simp only [Act.put, ptA, ptB, ptC]
                refine tq 12 ?_ rfl (by kernel_rfl) (fun _ _ _ h => h) (by rfl) g ?_ ?_; rotate_left
                · intro w9 h9; go_simp; try with_reducible rfl
                simp only [Act.put, ptA, ptB, ptC]
                refine tq 13 ?_ rfl (by kernel_rfl) (fun _ _ _ h => h) (by rfl) g ?_ ?_; rotate_left
                · intro w9 h9; go_simp; try with_reducible rfl
                simp only [Act.put, ptA, ptB, ptC]
                refine tq 14 ?_ rfl (by kernel_rfl) (fun _ _ _ h => h) (by rfl) g ?_ ?_; rotate_left
                · intro w9 h9; obtain ⟨h91, h92⟩ := h9; go_simp; try with_reducible rfl
                simp only [Act.put, ptA, ptB, ptC]
                refine tq 15 ?_ rfl (by kernel_rfl) (fun _ _ _ h => h) (by rfl) g ?_ ?_; rotate_left
                · intro w9 h9; go_simp; try with_reducible rfl
                simp only [Act.put, ptA, ptB, ptC]
                refine tq 16 ?_ rfl (by kernel_rfl) (fun _ _ _ h => h) (by rfl) g ?_ ?_; rotate_left
                · intro w9 h9; go_simp; try with_reducible rfl
                simp only [Act.put, ptA, ptB, ptC]
                refine tq 17 (.int .i64 (j2 : Int)) rfl (by kernel_rfl) (fun _ _ _ h => h) (by rfl) g ?_ ?_
                · intro w9 h9; go_simp; exact IntWalk.i64_in _ (by omega)
                simp only [Act.put, ptA, ptB, ptC]
                refine tq 18 ?_ rfl (by kernel_rfl) (fun _ _ _ h => h) (by rfl) g ?_ ?_; rotate_left
                · intro w9 h9; go_simp; try with_reducible rfl
                simp only [Act.put, ptA, ptB, ptC]
                refine tq 19 ?_ rfl (by kernel_rfl) (fun _ _ _ h => h) (by rfl) g ?_ ?_; rotate_left
                · intro w9 h9; obtain ⟨h91, h92⟩ := h9; go_simp; try with_reducible rfl
                simp only [Act.put, ptA, ptB, ptC]
                refine tc 20 rfl (by kernel_rfl) (fun K9 hK => ?_)
                go_simp
                with_reducible refine (samebytes_any a1 a2 gg.length g2.length c1 c2 gg g2 rfl rfl (by omega) (by omega) _ (HC1.out z1 HB1.out).2 (HC2.out z1 HB1.out).2).mono ?_
                rintro e z2 ⟨rfl, q⟩
                rw [hneq]
                have H8 := Lib.hid (H7.out.grow q)
                have HB2 : Hid (Below wr.heap.size wr z2) := Lib.hid (HB1.out.trans (q.mono hs1))
                clear q H7
                go_simp
                refine hK.out _ _ ⟨(HC1.out z2 HB2.out).1, (HC2.out z2 HB2.out).1⟩ (fun g1 => ?_)
                clear hK K9 g HB1 hs1
                have g := g1
                clear g1
                refine tq 21 ?_ rfl (by kernel_rfl) (fun _ _ _ h => h) (by rfl) g ?_ ?_; rotate_left
                · intro w9 h9; go_simp; try with_reducible rfl
                simp only [Act.put, ptA, ptB, ptC]
                refine tq 22 ?_ rfl (by kernel_rfl) (fun _ _ _ h => h) (by rfl) g ?_ ?_; rotate_left
                · intro w9 h9; go_simp; try with_reducible rfl
                simp only [Act.put, ptA, ptB, ptC]
                refine wpAnyH_done (by kernel_rfl) ?_ _
                clear g
                go_wp2
                go_roundw
                case rel => exact ⟨j + 1, by omega, by go_num, H8⟩
                case measure => simp [intOf]; omega
            · clear hjG hgm hA1 hr1 hgc
              go_wp2_with fail
              refine wp_region_held_drew (S := fun w' => w'.cell? (kad.add j) = some (.slice a1 gg.length c1)) (by kernel_rfl) hc1 (fun g => ?_)
              have H6 := Lib.hid (H5.out.grow ((Below.refl _ _).drew))
              have HBz : Hid (Below wr.heap.size wr wr.drew) := Lib.hid ((Below.refl _ _).drew)
              clear hc1 H5
              generalize hz0 : wr.drew = z0 at *
              have hs0 : z0.heap.size = wr.heap.size := by rw [← hz0]; rfl
              clear hz0
              refine tq 0 ?_ rfl (by kernel_rfl) (fun _ _ _ h => h) (by rfl) g ?_ ?_; rotate_left
              · intro w9 h9; go_simp; try with_reducible rfl
              simp only [Act.put, ptA, ptB, ptC]
              refine tq 1 ?_ rfl (by kernel_rfl) (fun _ _ _ h => h) (by rfl) g ?_ ?_; rotate_left
              · intro w9 h9; go_simp; try with_reducible rfl
              simp only [Act.put, ptA, ptB, ptC]
              refine tq 2 ?_ rfl (by kernel_rfl) (fun _ _ _ h => h) (by rfl) g ?_ ?_; rotate_left
              · intro w9 h9; go_simp; try with_reducible rfl
              simp only [Act.put, ptA, ptB, ptC]
              refine tq 3 ?_ rfl (by kernel_rfl) (fun _ _ _ h => h) (by rfl) g ?_ ?_; rotate_left
              · intro w9 h9; go_simp; try with_reducible rfl
              simp only [Act.put, ptA, ptB, ptC]
              refine tq 4 ?_ rfl (by kernel_rfl) (fun _ _ _ h => h) (by rfl) g ?_ ?_; rotate_left
              · intro w9 h9; go_simp; try with_reducible rfl
              simp only [Act.put, ptA, ptB, ptC]
              refine tc 5 rfl (by kernel_rfl) (fun K9 hK => ?_)
              go_simp
              with_reducible refine (at_f (l := l) (t := k) (H6.out.ps (fv_fst _ _ _)) (fun A h => fv_hv h) (by omega) a1 gg.length c1 gg rfl (by omega) (HC1.out z0 HBz.out).2).mono ?_
              rintro e z1 ⟨⟨r, rfl, hr⟩, _, qb⟩
              have H8 := Lib.hid (H6.out.grow qb)
              have HB1 : Hid (Below wr.heap.size wr z1) := Lib.hid (HBz.out.trans (qb.mono (by omega)))
              rcases hr with ⟨rfl, hnot⟩ | ⟨jx, x, rfl, _, _⟩
              · exact absurd HGC.out (hnot gc)
              · clear qb H6 HBz hs0
                go_simp
                refine hK.out _ _ (HC1.out z1 HB1.out).1 (fun g1 => ?_)
                clear hK K9 g
                have g := g1
                clear g1
                refine tq 6 (.bool false) rfl (by kernel_rfl) (fun _ _ _ h => h) (by rfl) g ?_ ?_
                · intro w9 h9; go_simp; try (first | omega | (simp; omega) | simp)
                simp only [Act.put, ptA, ptB, ptC]
                refine tq 7 ?_ rfl (by kernel_rfl) (fun _ _ _ h => h) (by rfl) g ?_ ?_; rotate_left
                · intro w9 h9; go_simp; try with_reducible rfl
                simp only [Act.put, ptA, ptB, ptC]
                refine tq 8 ?_ rfl (by kernel_rfl) (fun _ _ _ h => h) (by rfl) g ?_ ?_; rotate_left
                · intro w9 h9; go_simp; try with_reducible rfl
                simp only [Act.put, ptA, ptB, ptC]
                refine tq 9 (.bool false) rfl (by kernel_rfl) (fun _ _ _ h => h) (by rfl) g ?_ ?_
                · intro w9 h9; go_simp; try (first | omega | (simp; omega) | simp)
                simp only [Act.put, ptA, ptB, ptC]
                refine tq 10 ?_ rfl (by kernel_rfl) (fun _ _ _ h => h) (by rfl) g ?_ ?_; rotate_left
                · intro w9 h9; go_simp; try with_reducible rfl
                simp only [Act.put, ptA, ptB, ptC]
                refine tu 11 rfl (by kernel_rfl) (fun _ _ _ h => h) (by rfl) g ?_
                simp only [Act.put, ptA, ptB, ptC]
                refine tu 12 rfl (by kernel_rfl) (fun _ _ _ h => h) (by rfl) g ?_
                simp only [Act.put, ptA, ptB, ptC]
                refine tu 13 rfl (by kernel_rfl) (fun _ _ _ h => h) (by rfl) g ?_
                simp only [Act.put, ptA, ptB, ptC]
                refine tu 14 rfl (by kernel_rfl) (fun _ _ _ h => h) (by rfl) g ?_
                simp only [Act.put, ptA, ptB, ptC]
                refine tu 15 rfl (by kernel_rfl) (fun _ _ _ h => h) (by rfl) g ?_
                simp only [Act.put, ptA, ptB, ptC]
                refine tu 16 rfl (by kernel_rfl) (fun _ _ _ h => h) (by rfl) g ?_
                simp only [Act.put, ptA, ptB, ptC]
                refine tu 17 rfl (by kernel_rfl) (fun _ _ _ h => h) (by rfl) g ?_
                simp only [Act.put, ptA, ptB, ptC]
                refine tu 18 rfl (by kernel_rfl) (fun _ _ _ h => h) (by rfl) g ?_
                simp only [Act.put, ptA, ptB, ptC]
                refine tu 19 rfl (by kernel_rfl) (fun _ _ _ h => h) (by rfl) g ?_
                simp only [Act.put, ptA, ptB, ptC]
                refine tu 20 rfl (by kernel_rfl) (fun _ _ _ h => h) (by rfl) g ?_
                simp only [Act.put, ptA, ptB, ptC]
                refine tq 21 ?_ rfl (by kernel_rfl) (fun _ _ _ h => h) (by rfl) g ?_ ?_; rotate_left
                · intro w9 h9; go_simp; try with_reducible rfl
                simp only [Act.put, ptA, ptB, ptC]
                refine tq 22 ?_ rfl (by kernel_rfl) (fun _ _ _ h => h) (by rfl) g ?_ ?_; rotate_left
                · intro w9 h9; go_simp; try with_reducible rfl
                simp only [Act.put, ptA, ptB, ptC]
                refine wpAnyH_done (by kernel_rfl) ?_ _
                clear g
                go_wp2
                go_roundw
                case rel => exact ⟨j + 1, by omega, by go_num, H8⟩
                case measure => simp [intOf]; omega
          · have i6 : ¬ (j : Int) < (m : Int) := by omega
            have H6 := Lib.hid (H5.out.ps (fv_fst _ _ _))
            have hml := HGL.out
            clear H5 HNOD HKM HGM
            go_wp2_with fail
            go_loopw [17] (fun i wr => ∃ j : Nat, j ≤ l.length ∧ i = .int .i64 j ∧ Hid (PS w P K M T (FV (.slice av l.length cv) l k) wr)) (fun i _ => l.length - (intOf i).toNat)
            case atStart => exact ⟨0, by omega, rfl, H6⟩
            case round =>
              obtain ⟨j3, hj3, rfl, H7⟩ := hrel
              clear H6
              by_cases hlt3 : j3 < l.length
              · have i7 : (j3 : Int) < (l.length : Int) := by omega
                have i8 : (0 : Int) ≤ (j3 : Int) := by omega
                have hjl : l[j3]? = some l[j3] := List.getElem?_eq_getElem hlt3
                generalize l[j3] = x at *
                have hlk2 : ∃ (ad : Addr) (a : Option Addr) (c' : Nat), av = some ad ∧ x.k.length ≤ 1000 ∧ (∀ b ∈ x.k, 0 ≤ b ∧ b ≤ 255) ∧ wr.cell? (ad.add (j3 * 2)) = some (.slice a x.k.length c') ∧ Rd wr wr.heap.size a (bv x.k) := by
                  obtain ⟨A, h1, h2, h3⟩ := H7.out
                  obtain ⟨ad, cap, a, c', e1, _, _, c0, _, _, _, hr⟩ := HV.look h3 h1 hjl
                  simp only [Value.slice.injEq] at e1
                  obtain ⟨k1, k2, k3, k4⟩ := HV.keys h3 x (List.mem_of_getElem? hjl)
                  exact ⟨ad, a, c', e1.1, k2, k3, c0, hr⟩
                obtain ⟨ad, ax, cx, rfl, hxl, hxb, q0, hxr⟩ := hlk2
                have HXB := Lib.hid hxb
                have HXR := Lib.hid hxr
                have HFN := Lib.hid (findH HT.out HH.out (hk_not hjl rfl))
                have HJL := Lib.hid hjl
                clear hxb hxr hjl
                go_wp2_with fail
                with_reducible refine (ffind H7.out HT.out ax x.k.length cx x.k rfl (by omega) HXB.out HXR.out HFN.out).mono ?_
                rintro e z1 ⟨rfl, q, _⟩
                have H8 := Lib.hid q
                clear q H7 HXR HFN q0
                have q1 : z1.cell? ⟨(ad.add (j3 * 2)).block, (ad.add (j3 * 2)).off + 1, none⟩ = some (.int .i64 x.c) := by
                  obtain ⟨A, h1, h2, h3⟩ := H8.out
                  obtain ⟨ad', cap, a, c', e1, _, _, _, c1, _⟩ := HV.look h3 h1 HJL.out
                  simp only [Value.slice.injEq, Option.some.injEq] at e1
                  obtain ⟨rfl, _⟩ := e1
                  exact c1
                go_wp2
                go_roundw
                case rel => exact ⟨j3 + 1, by omega, by go_num, H8⟩
                case measure => simp [intOf]; omega
              · have i7 : ¬ (j3 : Int) < (l.length : Int) := by omega
                have HB8 := Lib.hid H7.out.below
                subst hml
                clear H7
                go_wp2_with fail
                with_reducible refine (works_c _).mono ?_
                rintro e w9 ⟨rfl, q⟩
                have HB9 := Lib.hid (HB8.out.trans (q.mono HB8.out.size))
                clear q
                go_wp2
                go_ret
                exact ⟨rfl, HB9.out⟩

set_option maxRecDepth 100000 in
theorem lifted (os : Os) (started : os.Started) (H : Type) (enc : TypeId × Value → H) :
    ReturnsInHanded {} Try.checked os 5 .any (Rows.hashHoldsSpec.pre6 enc Try.prog Try.f5 Rows.hashHoldsRow.domain false) (Rows.hashHoldsSpec.post enc Try.prog Try.f5 false true false false) := by
  refine returnsInHanded_of_change (C := Try.checked) own started (by kernel_rfl) Try.func5
    (ChangeSpec.witness6 (enc := enc) (C := Try.checked) false ⟨#[], #[.int .i64 0, .int .i64 0, .slice none 0 0], []⟩ 8 (by kernel_rfl) (by kernel_rfl) (by kernel_rfl) (by kernel_rfl)) ?_
  intro W base args ds gs before hval0 hW hcnd _
  have hval : ∀ (j : Nat) t v, Try.f5.params[j]? = some t → args[j]? = some v → Value.okWide Try.prog W .any base t v := hval0
  have hW' := hW
  obtain ⟨p, q, hA0, hV, rfl, hfz, hnd⟩ := hW
  have hA : DataW.TrodAll enc Try.prog W 0 (fun _ => true) true Try.f5.params.toList args.toList ds p := hA0
  rw [Try.params5] at hA hval
  obtain ⟨v0, vs0, d0, ds0, p0, q0, hargs, rfl, rfl, h0, r0⟩ := trodAll_cons hA
  obtain ⟨v1, vs1, d1, ds1, p1, q1, rfl, rfl, rfl, h1, r1⟩ := trodAll_cons r0
  obtain ⟨v2, vs2, d2, ds2, p2, q2, rfl, rfl, rfl, h2, r2⟩ := trodAll_cons r1
  obtain ⟨rfl, rfl, rfl⟩ := trodAll_nil r2
  obtain rfl : args = #[v0, v1, v2] := by cases args; simp_all
  obtain ⟨rfl, rfl⟩ := trodVars_none hV
  obtain ⟨n0, rfl, rfl, rfl, w0⟩ := open_int Try.underlying3 (hval 0 3 v0 rfl rfl) h0
  obtain ⟨n1, rfl, rfl, rfl, w1⟩ := open_int Try.underlying3 (hval 1 3 v1 rfl rfl) h1
  obtain ⟨a2, len2, cap2, rfl⟩ := okWide_slice Try.underlying29 (hval 2 29 v2 rfl rfl)
  have k2 := h2
  have lt2 : ∀ x ∈ p2, x.block < W.heap.size := by obtain ⟨m, hm⟩ := k2; exact DataW.trod_lt m _ _ _ hm
  obtain ⟨L2, l2, f2, c2, m2, rr2⟩ := open_ops h2
  clear hA0 hval0
  refine (walk n0 n1 a2 len2 cap2 L2 W w0 w1 l2 f2 c2 m2 rr2).mono fun e W' ⟨he, bel⟩ => ?_
  subst he
  exact ⟨_, rfl, _, _, _, [], _, [], hW', trodAll_mk1 (shut_bool Try.underlying4 _), (trodAll_cons_mk (shut_int Try.underlying3 w0) (trodAll_cons_mk (shut_int Try.underlying3 w1) (trodAll_cons_mk (Below.trod laidOut (by kernel_rfl) (of_decide_eq_true (by kernel_rfl)) k2 bel lt2) trodAll_mk0))), rfl, bel.frame _, fun h => by cases h⟩

theorem over : Rows.hashHoldsRow.holds Try.pinned (OpenSpec.ofChange Rows.hashHoldsSpec) :=
  OpenClaim.holds_of_wide 5 Try.f5 rfl rfl rfl rfl rfl rfl rfl ⟨rfl, rfl, rfl, rfl, rfl⟩ rfl rfl rfl rfl rfl (by kernel_rfl) Try.func5 (by kernel_rfl)
    (of_decide_eq_true (by kernel_rfl)) (by unfold Func.isWrapper; first | (rw [if_pos (by decide +kernel)]; kernel_rfl) | (rw [if_neg (by decide +kernel)]; exact ⟨rfl, rfl⟩))
    (fun os started H enc _ => lifted os started H enc)

theorem proved : Rows.HashHoldsSaid := over
#print axioms proved
end Go.Proofs.Ytkaapphlnolelaa.hashHolds
