/-
  What the document's cells do: Make: contract. Conditions: 300 cells at most.
-/
import Derived.Test.YthdgdkjaeebbcaaCellsRef8
namespace Go.Proofs.Ythdgdkjaeebbcaa
set_option maxRecDepth 100000
open Go.RowKit Ow Ph Ro K2
set_option linter.unusedVariables false
set_option linter.unusedSimpArgs false
/-- An append to a row of our own, as one step of a drawing region. -/
theorem step_append_own_at {P : Program} {ops : Array Oper} {o : Oper} {a : Act} {w : World} {K : Act → World → Prop} {Q : Exit → Act → World → Prop} {E : Prop} (hgd : o.guard = none) (s x : Operand) (t : TypeId)
    (ho : o.op = .call { callee := .builtin .append, args := #[s, x], argTypes := #[t, t] })
    (base : Nat) (e : TypeId) (i : TypeInfo) (z : Value) (size bytes : Nat) (ht : P.underlying t = some (.slice e)) (hi : P.info? e = some i) (hz : i.zero = some z)
    (hsize : i.size = size) (hby : i.bytes = bytes) (hzs : z.cells.size = size) (hsz : 0 < size)
    (v : Value) (n : Nat) (xs : List Value) (hs : a.eval s = v) (hown : w.ownsRow base e size v n xs)
    (ad : Addr) (m c : Nat) (news : List Value) (hx : a.eval x = .slice (some ad) m c) (hl : news.length = m * size) (hnews : ∀ j u, news[j]? = some u → w.cell? (ad.add j) = some u) (h1 : ∀ u ∈ news, u.oneCell' = true)
    (h63 : n + m ≤ maxLen) (hbytes : (n + m) * bytes ≤ 140737488355328) (hbase : base ≤ w.heap.size)
    (h : ∀ v' w', w'.ownsRow base e size v' (n + m) (xs ++ news) → w.grownBy w' v.ownBlock → (v'.ownBlock = v.ownBlock ∨ ∃ g, v'.ownBlock = some g ∧ w.heap.size ≤ g) → K (a.put o.dst v') w') :
    if Region.wanted o (yielded ops a.tmps) = true then Oper.wp P o a w K Q else E := by
  have hw : Region.wanted o (yielded ops a.tmps) = true := by simp [Region.wanted, hgd]
  rw [if_pos hw]
  obtain ⟨v', w', hr, h2, h3, h4, h5⟩ := run_append_own_at (P := P) w base t o.type e i z size bytes ht hi hz hsize hby hzs hsz v n xs hown ad m c news hl hnews h1 h63 hbytes hbase
  unfold Oper.wp execOp
  simp only [ho, resolve, invoke, builtin, Sem.run_bind, Sem.run_pure, Result.andThen_ok, List.map_toArray, List.map_cons, List.map_nil, hs, hx, hr]
  exact h v' w' h2 h3 (h5.imp id_ fun e => ⟨_, e, Nat.le_refl _⟩)
theorem cell_info : (Try.prog.info? 74).map (fun i => (i.zero, i.size, i.bytes)) = some (some (.agg #[.slice none 0 0, .int .i64 0, .slice none 0 0, .bool false, .bool false]), 5, 64) := by kernel_rfl
theorem RSx.added {w0 : World} {A A' : Ac} {X n : Nat} {v v' : Value} {l : List R3} {L : List Cl} {t : R3} (h : RSx w0 A X v l L) (hK : l.length = n) (h1 : A' (10, 0) = some (X, .cells #[v'] 38)) (h2 : Row A' (11, 0) 74 5 v' (l ++ [t]).length (rflat (l ++ [t])))
    (h3 : RAt w0 A' (l.length + 1) t) (h4 : ∀ x : Rl, 10 ≤ x.1 → x.1 < 14 → x ≠ (10, 0) → x ≠ (11, 0) → x ≠ (12, l.length + 1) → A' x = A x) : RSx w0 A' X v' (l ++ [t]) (L ++ [t.2.2]) := by
  refine ⟨h1, h2, by rw [List.map_append, h.are]; rfl, fun k t' hk => ?_⟩
  by_cases e : k < l.length
  · rw [List.getElem?_append_left e] at hk
    exact (h.at_ k t' hk).keep (h4 _ (by simp) (by simp) (by simp) (by simp) (by simp; omega)) (h4 _ (by simp) (by simp) (by simp) (by simp) (by simp))
  · rw [List.getElem?_append_right (by omega)] at hk
    have : k - l.length = 0 := by
      have := (List.getElem?_eq_some_iff.1 hk).1
      simp at this
      omega
    rw [this] at hk
    simp only [List.getElem?_cons_zero, Option.some.injEq] at hk
    subst hk
    obtain rfl : k = l.length := by omega
    exact h3
/-- While a cell is made: j of its bytes are there. -/
def MK (w0 : World) (A : Ac) (gx K1 : Nat) (bs : List Int) (j : Nat) (w : World) : Prop := ∃ v A2, Lay w0 A2 w ∧ A2 (14, 0) = some (gx, .cells #[v, .int .i64 0, .slice none 0 0, .bool false, .bool false] 74) ∧
  Row A2 (12, K1) 5 1 v j (bv (bs.take j)) ∧ ∀ x, x ≠ (14, 0) → x ≠ (12, K1) → A2 x = A x
set_option maxHeartbeats 4000000 in
theorem rmake_k {w0 w : World} {A : Ac} {X : Nat} {L : List Cl} (hl : Lay w0 A w) (h : RS w0 A X L) (hn : L.length ≤ 900) (ab : Option Addr) (len cp : Nat) (bs : List Int) (hlb : bs.length = len) (hm1 : len ≤ 9223372036854775807)
    {r : Rl} (hr10 : ¬ (10 ≤ r.1 ∧ r.1 < 20)) (hrd : Reads w0 A r ab (bv bs)) :
    Calls Try.prog 42 #[.pointer (some ⟨X, 0, none⟩), .slice ab len cp] w (RIntP w0 A X ((L.length : Int) + 1) (L ++ [⟨bs.take 64, [], false, false⟩])) := by
  obtain ⟨i0, hi0, hz0, hz1, hz2⟩ := info_parts byte_info
  obtain ⟨ic, hic, hz3, hz4, hz5⟩ := info_parts cell_info
  have HL0 := Lib.hid hl
  have HS0 := Lib.hid h
  have HLB := Lib.hid hlb
  have HR10 := Lib.hid hr10
  have HRD := Lib.hid hrd
  obtain ⟨K1, hK1⟩ : ∃ K1, K1 = L.length + 1 := ⟨_, rfl⟩
  have HK1 := Lib.hid hK1
  clear hl h hlb hr10 hrd hK1
  go_enter Try.func42, Try.ntmps42
  go_wp2_with fail
  with_reducible refine (PR.rnew_any _).mono ?_
  rintro e w1 ⟨rfl, q⟩
  have HL1 := Lib.hid (HL0.out.grow q)
  clear q HL0
  go_wp2_with fail
  have HM0 : Hid (MK w0 A w1.heap.size K1 bs 0 (w1.alloc (.cells #[.slice none 0 0, .int .i64 0, .slice none 0 0, .bool false, .bool false] 74))) := Lib.hid (by
    have h1 := HL1.out.new (14, 0) (o := .cells #[.slice none 0 0, .int .i64 0, .slice none 0 0, .bool false, .bool false] 74) ((Below.refl _ _).alloc (Nat.le_refl _) _) (Nat.le_refl _) (heap_alloc_new w1 _)
    exact ⟨_, _, h1, up_same _ _ _ _, Row.nil _ _ _ _, fun x h2 _ => up_other _ _ _ h2⟩)
  generalize w1.heap.size = gx at *
  generalize (w1.alloc (.cells #[.slice none 0 0, .int .i64 0, .slice none 0 0, .bool false, .bool false] 74)) = w2 at *
  clear HL1 w1
  go_loopw [6] (fun i wr => ∃ j : Nat, j ≤ len ∧ j ≤ 64 ∧ i = .int .i64 j ∧ Hid (MK w0 A gx K1 bs j wr)) (fun i _ => 64 - (intOf i).toNat)
  case atStart => exact ⟨0, Nat.zero_le _, Nat.zero_le _, rfl, HM0⟩
  case round =>
    clear HM0
    obtain ⟨j, hjn, hj6, rfl, HM⟩ := hrel
    by_cases hlt : j < len ∧ j < 64
    · obtain ⟨hlt1, hlt2⟩ := hlt
      have hjb : j < bs.length := by rw [HLB.out]; exact hlt1
      obtain ⟨v, A2, l2, g2, r2, e2⟩ := HM.out
      obtain ⟨av, cv, rfl, _, _, _⟩ := r2.form2
      have hrr : A2 r = A r := e2 r (by intro e; have := HR10.out; rw [e] at this; simp at this) (by intro e; have := HR10.out; rw [e] at this; simp at this)
      obtain ⟨ad, rfl, had⟩ := (HRD.out.keep hrr).rd l2 (by rw [bv_len]; omega)
      clear had
      have HCB : Hid (∀ (A9 : Ac) z, Lay w0 A9 z → A9 r = A r → z.cell? (ad.add j) = some (.int .u8 bs[j])) := Lib.hid fun A9 z h1 h2 => by
        obtain ⟨ad', e, _, hc⟩ := (HRD.out.keep h2).rd h1 (by rw [bv_len]; omega)
        injection e with e
        subst e
        exact hc j _ (bv_get bs j hjb)
      have cb := HCB.out A2 wr l2 hrr
      have HTK : Hid (bs.take (j + 1) = bs.take j ++ [bs[j]]) := Lib.hid (List.take_succ_eq_append_getElem hjb)
      have HLy := Lib.hid l2
      have HGy := Lib.hid g2
      have HRy := Lib.hid r2
      have HEy := Lib.hid e2
      have HBy := Lib.hid hrr
      have gc : wr.cell? ⟨gx, 0, none⟩ = some (.slice av j cv) := (l2.bk g2).cell 0
      generalize bs[j] = y at *
      have i1 : (j : Int) < (len : Int) := by omega
      have i2 : (j : Int) < 64 := by omega
      have i3 : (0 : Int) ≤ (j : Int) := by omega
      clear l2 g2 r2 e2 hrr HM hjb
      go_wp2_with fail
      refine wp_region_held_drew (S := fun w' => w'.cell? (ad.add j) = some (.int .u8 y)) (by kernel_rfl) cb (fun g => ?_)
      have HL2 := Lib.hid HLy.out.drew
      have gc0 : wr.drew.cell? ⟨gx, 0, none⟩ = some (.slice av j cv) := gc
      have HRz := HRy
      have HGz := HGy
      have HBz := HBy
      clear HLy cb gc
      generalize wr.drew = z at *
      clear wr
      refine tq 0 ?_ rfl (by kernel_rfl) (fun _ _ _ h => h) (by rfl) g ?_ ?_; rotate_left
      · intro w9 h9; go_simp; try with_reducible rfl
      simp only [Act.put, ptA, ptB, ptC]
      refine tq 2 ?_ rfl (by kernel_rfl) (fun _ _ _ h => h) (by rfl) g ?_ ?_; rotate_left
      · intro w9 h9; go_simp; try with_reducible rfl
      simp only [Act.put, ptA, ptB, ptC]
      refine tq 3 ?_ rfl (by kernel_rfl) (fun _ _ _ h => h) (by rfl) g ?_ ?_; rotate_left
      · intro w9 h9; go_simp; try with_reducible rfl
      simp only [Act.put, ptA, ptB, ptC]
      refine tq 4 ?_ rfl (by kernel_rfl) (fun _ _ _ h => h) (by rfl) g ?_ ?_; rotate_left
      · intro w9 h9; go_simp; try with_reducible rfl
      simp only [Act.put, ptA, ptB, ptC]
      refine tq 5 ?_ rfl (by kernel_rfl) (fun _ _ _ h => h) (by rfl) g ?_ ?_; rotate_left
      · intro w9 h9; go_simp; try with_reducible rfl
      simp only [Act.put, ptA, ptB, ptC]
      refine wpAnyH_ready (rs := [1, 6]) (by kernel_rfl) (by simp) (tr 1 rfl (fun K9 hK => ?_) (tr 6 rfl (fun K9 hK => ?_) AllReadyH.nil))
      · go_simp
        refine hK.out _ _ g (fun g1 => ?_)
        clear hK K9 g
        have g := g1
        clear g1
        refine tc 6 rfl (by kernel_rfl) (fun K9 hK => ?_)
        have HLz := Lib.hid (HL2.out.alloc_ (.cells #[.int .u8 y] 5))
        have NEW : Hid (∀ j2 u, [Value.int .u8 y][j2]? = some u → (z.alloc (.cells #[.int .u8 y] 5)).cell? ((⟨z.heap.size, 0, none⟩ : Addr).add j2) = some u) := Lib.hid (cell_one_new z (.int .u8 y) 5)
        have ZBASE : Hid (w0.heap.size ≤ (z.alloc (.cells #[.int .u8 y] 5)).heap.size) := Lib.hid (by have := HL2.out.below.size; simp; omega)
        have OWN : Hid ((z.alloc (.cells #[.int .u8 y] 5)).ownsRow w0.heap.size 5 1 (.slice av j cv) j (bv (bs.take j))) := Lib.hid (HRz.out.own HLz.out)
        have gS : (z.alloc (.cells #[.int .u8 y] 5)).cell? (ad.add j) = some (.int .u8 y) := HCB.out A2 _ HLz.out HBz.out
        have gcz : (z.alloc (.cells #[.int .u8 y] 5)).cell? ⟨gx, 0, none⟩ = some (.slice av j cv) := (HLz.out.bk HGz.out).cell 0
        go_simp
        refine hK.out _ _ gS (fun g1 => ?_)
        clear hK K9 g
        have g := g1
        clear g1
        clear gS gc0 gcz
        generalize hzb : z.heap.size = zb at *
        generalize (z.alloc (.cells #[.int .u8 y] 5)) = za at *
        clear hzb HL2 z
        refine tc 7 rfl (by kernel_rfl) (fun K9 hK => ?_)
        refine step_append_own_at rfl (.tmp 20) (.tmp 25) _ rfl w0.heap.size 5 i0 _ 1 1 Try.underlying31 hi0 hz0 hz1 hz2 rfl (by decide) (.slice av j cv) j (bv (bs.take j)) rfl OWN.out ⟨zb, 0, none⟩ 1 1 [.int .u8 y] rfl rfl NEW.out ?a2_0 ?a3_0 ?a4_0 ?a5_0 ?_
        case a2_0 => intro u hu; simp at hu; subst hu; rfl
        case a3_0 => unfold maxLen; omega
        case a4_0 => omega
        case a5_0 => exact ZBASE.out
        intro v9 z9 hown9 hg9 hat9
        obtain ⟨A3, l3, r3, e3⟩ := HLz.out.took HRz.out hg9 (own_cast (n' := j + 1) (xs' := bv (bs.take (j + 1))) hown9 rfl (by rw [HTK.out, bv_app]; rfl)) hat9
        obtain ⟨av9, cv9, rfl, _, _, _⟩ := r3.form2
        have hgx := (e3 (14, 0) (by simp)).trans HGz.out
        obtain ⟨gc, gf⟩ : z9.cell? ⟨gx, 0, none⟩ = some (.slice av j cv) ∧ z9.frozen? ⟨gx, 0, none⟩ = false := ⟨(l3.bk hgx).cell 0, (l3.bk hgx).frozen 0⟩
        have gS : z9.cell? (ad.add j) = some (.int .u8 y) := HCB.out A3 z9 l3 (e3 _ (by intro e; have := HR10.out; rw [e] at this; simp at this) |>.trans HBz.out)
        have HL9 := Lib.hid l3
        have HR9 := Lib.hid r3
        have HG9 := Lib.hid hgx
        have HE9 := Lib.hid e3
        clear hown9 hg9 hat9 l3 r3 e3 hgx
        refine hK.out _ _ gS (fun g1 => ?_)
        clear hK K9 g
        have g := g1
        clear g1
        clear gS
        clear HLz HRz HGz HBz OWN NEW ZBASE
        refine tq 8 ?_ rfl (by kernel_rfl) (fun _ _ _ h => h) (by rfl) g ?_ ?_; rotate_left
        · intro w9 h9; go_simp; try with_reducible rfl
        simp only [Act.put, ptA, ptB, ptC]
        refine tc 9 rfl (by kernel_rfl) (fun K9 hK => ?_)
        obtain ⟨A4, l4, g4, e4⟩ : ∃ A4, Lay w0 A4 (z9.setCell ⟨gx, 0, none⟩ (.slice av9 (j + 1) cv9)) ∧ A4 (14, 0) = some (gx, .cells #[.slice av9 (j + 1) cv9, .int .i64 0, .slice none 0 0, .bool false, .bool false] 74) ∧ ∀ x, x ≠ (14, 0) → A4 x = A3 x := ⟨_, HL9.out.set_ HG9.out 0 (.slice av9 (j + 1) cv9), up_same _ _ _ _, fun x hx => up_other _ _ _ hx⟩
        have gS : (z9.setCell ⟨gx, 0, none⟩ (.slice av9 (j + 1) cv9)).cell? (ad.add j) = some (.int .u8 y) := HCB.out A4 _ l4 ((e4 _ (by intro e; have := HR10.out; rw [e] at this; simp at this)).trans ((HE9.out _ (by intro e; have := HR10.out; rw [e] at this; simp at this)).trans HBy.out))
        have HM : Hid (MK w0 A gx K1 bs (j + 1) (z9.setCell ⟨gx, 0, none⟩ (.slice av9 (j + 1) cv9))) := Lib.hid ⟨_, A4, l4, g4, HR9.out.keep (e4 _ (by simp)), fun x h1 h2 => (e4 x h1).trans ((HE9.out x h2).trans (HEy.out x h1 h2))⟩
        clear l4 g4 e4
        go_simp
        refine hK.out _ _ gS (fun g1 => ?_)
        clear hK K9 g
        have g := g1
        clear g1
        clear gS gc gf
        generalize (z9.setCell ⟨gx, 0, none⟩ (.slice av9 (j + 1) cv9)) = z10 at *
        clear g
        refine wpAnyH_done (by kernel_rfl) ?_ _
        go_wp2
        go_roundw
        case rel => exact ⟨j + 1, by omega, by omega, by go_num, HM⟩
        case measure => simp [intOf]; omega
      · have HLz := Lib.hid (HL2.out.alloc_ (.cells #[.int .u8 y] 5))
        have NEW : Hid (∀ j2 u, [Value.int .u8 y][j2]? = some u → (z.alloc (.cells #[.int .u8 y] 5)).cell? ((⟨z.heap.size, 0, none⟩ : Addr).add j2) = some u) := Lib.hid (cell_one_new z (.int .u8 y) 5)
        have ZBASE : Hid (w0.heap.size ≤ (z.alloc (.cells #[.int .u8 y] 5)).heap.size) := Lib.hid (by have := HL2.out.below.size; simp; omega)
        have OWN : Hid ((z.alloc (.cells #[.int .u8 y] 5)).ownsRow w0.heap.size 5 1 (.slice av j cv) j (bv (bs.take j))) := Lib.hid (HRz.out.own HLz.out)
        have gS : (z.alloc (.cells #[.int .u8 y] 5)).cell? (ad.add j) = some (.int .u8 y) := HCB.out A2 _ HLz.out HBz.out
        have gcz : (z.alloc (.cells #[.int .u8 y] 5)).cell? ⟨gx, 0, none⟩ = some (.slice av j cv) := (HLz.out.bk HGz.out).cell 0
        go_simp
        refine hK.out _ _ gS (fun g1 => ?_)
        clear hK K9 g
        have g := g1
        clear g1
        clear gS gc0
        generalize hzb : z.heap.size = zb at *
        generalize (z.alloc (.cells #[.int .u8 y] 5)) = za at *
        clear hzb HL2 z
        refine tc 1 rfl (by kernel_rfl) (fun K9 hK => ?_)
        go_simp
        refine hK.out _ _ g (fun g1 => ?_)
        clear hK K9 g
        have g := g1
        clear g1
        clear gcz
        refine tc 7 rfl (by kernel_rfl) (fun K9 hK => ?_)
        refine step_append_own_at rfl (.tmp 20) (.tmp 25) _ rfl w0.heap.size 5 i0 _ 1 1 Try.underlying31 hi0 hz0 hz1 hz2 rfl (by decide) (.slice av j cv) j (bv (bs.take j)) rfl OWN.out ⟨zb, 0, none⟩ 1 1 [.int .u8 y] rfl rfl NEW.out ?a2_1 ?a3_1 ?a4_1 ?a5_1 ?_
        case a2_1 => intro u hu; simp at hu; subst hu; rfl
        case a3_1 => unfold maxLen; omega
        case a4_1 => omega
        case a5_1 => exact ZBASE.out
        intro v9 z9 hown9 hg9 hat9
        obtain ⟨A3, l3, r3, e3⟩ := HLz.out.took HRz.out hg9 (own_cast (n' := j + 1) (xs' := bv (bs.take (j + 1))) hown9 rfl (by rw [HTK.out, bv_app]; rfl)) hat9
        obtain ⟨av9, cv9, rfl, _, _, _⟩ := r3.form2
        have hgx := (e3 (14, 0) (by simp)).trans HGz.out
        obtain ⟨gc, gf⟩ : z9.cell? ⟨gx, 0, none⟩ = some (.slice av j cv) ∧ z9.frozen? ⟨gx, 0, none⟩ = false := ⟨(l3.bk hgx).cell 0, (l3.bk hgx).frozen 0⟩
        have gS : z9.cell? (ad.add j) = some (.int .u8 y) := HCB.out A3 z9 l3 (e3 _ (by intro e; have := HR10.out; rw [e] at this; simp at this) |>.trans HBz.out)
        have HL9 := Lib.hid l3
        have HR9 := Lib.hid r3
        have HG9 := Lib.hid hgx
        have HE9 := Lib.hid e3
        clear hown9 hg9 hat9 l3 r3 e3 hgx
        refine hK.out _ _ gS (fun g1 => ?_)
        clear hK K9 g
        have g := g1
        clear g1
        clear gS
        clear HLz HRz HGz HBz OWN NEW ZBASE
        refine tq 8 ?_ rfl (by kernel_rfl) (fun _ _ _ h => h) (by rfl) g ?_ ?_; rotate_left
        · intro w9 h9; go_simp; try with_reducible rfl
        simp only [Act.put, ptA, ptB, ptC]
        refine tc 9 rfl (by kernel_rfl) (fun K9 hK => ?_)
        obtain ⟨A4, l4, g4, e4⟩ : ∃ A4, Lay w0 A4 (z9.setCell ⟨gx, 0, none⟩ (.slice av9 (j + 1) cv9)) ∧ A4 (14, 0) = some (gx, .cells #[.slice av9 (j + 1) cv9, .int .i64 0, .slice none 0 0, .bool false, .bool false] 74) ∧ ∀ x, x ≠ (14, 0) → A4 x = A3 x := ⟨_, HL9.out.set_ HG9.out 0 (.slice av9 (j + 1) cv9), up_same _ _ _ _, fun x hx => up_other _ _ _ hx⟩
        have gS : (z9.setCell ⟨gx, 0, none⟩ (.slice av9 (j + 1) cv9)).cell? (ad.add j) = some (.int .u8 y) := HCB.out A4 _ l4 ((e4 _ (by intro e; have := HR10.out; rw [e] at this; simp at this)).trans ((HE9.out _ (by intro e; have := HR10.out; rw [e] at this; simp at this)).trans HBy.out))
        have HM : Hid (MK w0 A gx K1 bs (j + 1) (z9.setCell ⟨gx, 0, none⟩ (.slice av9 (j + 1) cv9))) := Lib.hid ⟨_, A4, l4, g4, HR9.out.keep (e4 _ (by simp)), fun x h1 h2 => (e4 x h1).trans ((HE9.out x h2).trans (HEy.out x h1 h2))⟩
        clear l4 g4 e4
        go_simp
        refine hK.out _ _ gS (fun g1 => ?_)
        clear hK K9 g
        have g := g1
        clear g1
        clear gS gc gf
        generalize (z9.setCell ⟨gx, 0, none⟩ (.slice av9 (j + 1) cv9)) = z10 at *
        clear g
        refine wpAnyH_done (by kernel_rfl) ?_ _
        go_wp2
        go_roundw
        case rel => exact ⟨j + 1, by omega, by omega, by go_num, HM⟩
        case measure => simp [intOf]; omega
    · have HTJ : Hid (bs.take j = bs.take 64) := Lib.hid (by
        by_cases e : j < len
        · have : j = 64 := by omega
          rw [this]
        · rw [List.take_of_length_le (by rw [HLB.out]; omega), List.take_of_length_le (by rw [HLB.out]; omega)])
      by_cases hlt1 : j < len
      · have i1 : (j : Int) < (len : Int) := by omega
        have i2 : (64 : Int) ≤ (j : Int) := by omega
        clear hlt
        obtain ⟨v, A2, l2, g2, r2, e2⟩ := HM.out
        rw [HTJ.out] at r2
        obtain ⟨av, cv, rfl, _, _, _⟩ := r2.form2
        obtain ⟨vx, l, hx⟩ := HS0.out
        obtain ⟨ax, cx, rfl, q1, q2, _⟩ := hx.row.form2
        have hll := hx.len
        have HE0 := Lib.hid e2
        obtain ⟨nx, hnx⟩ : ∃ nx, l.length = nx := ⟨_, rfl⟩
        have HNX := Lib.hid hnx
        have HNL : Hid (nx = L.length) := Lib.hid (by omega)
        have HBR := Lib.hid r2
        rw [hnx] at q1
        have hxrow := hx.row
        rw [hnx] at hxrow
        have HROW : Hid (Row A2 (11, 0) 74 5 (.slice ax nx cx) nx (rflat l)) := Lib.hid (hxrow.keep (e2 _ (by simp) (by simp)))
        have hhead := hx.head
        rw [hnx] at hhead
        have HHD : Hid (A2 (10, 0) = some (X, .cells #[.slice ax nx cx] 38)) := Lib.hid ((e2 _ (by simp) (by simp)).trans hhead)
        have HRSX := Lib.hid hx
        have HGz := Lib.hid g2
        have HGS : Hid (∀ (A9 : Ac) z, Lay w0 A9 z → A9 (14, 0) = some (gx, .cells #[.slice av j cv, .int .i64 0, .slice none 0 0, .bool false, .bool false] 74) → z.cell? ⟨gx, 0, none⟩ = some (.slice av j cv) ∧ z.cell? ⟨gx, 1, none⟩ = some (.int .i64 0) ∧ z.cell? ⟨gx, 2, none⟩ = some (.slice none 0 0) ∧ z.cell? ⟨gx, 3, none⟩ = some (.bool false) ∧ z.cell? ⟨gx, 4, none⟩ = some (.bool false)) := Lib.hid (fun A9 z h1 h2 => ⟨(h1.bk h2).cell 0, (h1.bk h2).cell 1, (h1.bk h2).cell 2, (h1.bk h2).cell 3, (h1.bk h2).cell 4⟩)
        have xc0 : wr.cell? ⟨X, 0, none⟩ = some (.slice ax nx cx) := (l2.bk HHD.out).cell 0
        have HYL : Hid ((bs.take 64).length = j) := Lib.hid (by rw [← HTJ.out, List.length_take, HLB.out]; omega)
        have HLy := Lib.hid l2
        have i9 : (nx : Int) ≤ 900 := by omega
        clear l2 g2 r2 e2 hx hll hnx hxrow hhead HM
        go_wp2_with fail
        refine wp_region_held_drew (S := fun w' => w'.cell? ⟨gx, 0, none⟩ = some (.slice av j cv) ∧ w'.cell? ⟨gx, 1, none⟩ = some (.int .i64 0) ∧ w'.cell? ⟨gx, 2, none⟩ = some (.slice none 0 0) ∧ w'.cell? ⟨gx, 3, none⟩ = some (.bool false) ∧ w'.cell? ⟨gx, 4, none⟩ = some (.bool false)) (by kernel_rfl) (HGS.out A2 wr HLy.out HGz.out) (fun g => ?_)
        have HL2 := Lib.hid HLy.out.drew
        have gx0 : wr.drew.cell? ⟨X, 0, none⟩ = some (.slice ax nx cx) := xc0
        clear HLy xc0
        generalize wr.drew = z at *
        clear wr
        refine tq 0 ?_ rfl (by kernel_rfl) (fun _ _ _ h => h) (by rfl) g ?_ ?_; rotate_left
        · intro w9 h9; obtain ⟨d0, d1, d2, d3, d4⟩ := h9; go_simp; try with_reducible rfl
        simp only [Act.put, ptA, ptB, ptC]
        refine tq 1 ?_ rfl (by kernel_rfl) (fun _ _ _ h => h) (by rfl) g ?_ ?_; rotate_left
        · intro w9 h9; obtain ⟨d0, d1, d2, d3, d4⟩ := h9; go_simp; try with_reducible rfl
        simp only [Act.put, ptA, ptB, ptC]
        refine tq 2 ?_ rfl (by kernel_rfl) (fun _ _ _ h => h) (by rfl) g ?_ ?_; rotate_left
        · intro w9 h9; obtain ⟨d0, d1, d2, d3, d4⟩ := h9; go_simp; try with_reducible rfl
        simp only [Act.put, ptA, ptB, ptC]
        refine tq 3 ?_ rfl (by kernel_rfl) (fun _ _ _ h => h) (by rfl) g ?_ ?_; rotate_left
        · intro w9 h9; obtain ⟨d0, d1, d2, d3, d4⟩ := h9; go_simp; try with_reducible rfl
        simp only [Act.put, ptA, ptB, ptC]
        refine tq 5 ?_ rfl (by kernel_rfl) (fun _ _ _ h => h) (by rfl) g ?_ ?_; rotate_left
        · intro w9 h9; obtain ⟨d0, d1, d2, d3, d4⟩ := h9; go_simp; try with_reducible rfl
        simp only [Act.put, ptA, ptB, ptC]
        refine wpAnyH_ready (rs := [4, 6]) (by kernel_rfl) (by simp) (tr 4 rfl (fun K9 hK => ?_) (tr 6 rfl (fun K9 hK => ?_) AllReadyH.nil))
        · have h5 := g
          obtain ⟨d0, d1, d2, d3, d4⟩ := h5
          go_simp
          refine hK.out _ _ g (fun g1 => ?_)
          clear hK K9 g
          have g := g1
          clear g1
          clear d0 d1 d2 d3 d4
          refine tc 6 rfl (by kernel_rfl) (fun K9 hK => ?_)
          have HLz := Lib.hid (HL2.out.alloc_ (.cells #[.slice av j cv, .int .i64 0, .slice none 0 0, .bool false, .bool false] 74))
          have NEW : Hid (∀ j2 u, (#[.slice av j cv, .int .i64 0, .slice none 0 0, .bool false, .bool false] : Array Value).toList[j2]? = some u → (z.alloc (.cells #[.slice av j cv, .int .i64 0, .slice none 0 0, .bool false, .bool false] 74)).cell? ((⟨z.heap.size, 0, none⟩ : Addr).add j2) = some u) := Lib.hid (new_cells z 74 _)
          have ZBASE : Hid (w0.heap.size ≤ (z.alloc (.cells #[.slice av j cv, .int .i64 0, .slice none 0 0, .bool false, .bool false] 74)).heap.size) := Lib.hid (by have := HL2.out.below.size; simp; omega)
          have OWN : Hid ((z.alloc (.cells #[.slice av j cv, .int .i64 0, .slice none 0 0, .bool false, .bool false] 74)).ownsRow w0.heap.size 74 5 (.slice ax nx cx) nx (rflat l)) := Lib.hid (HROW.out.own HLz.out)
          have gS := HGS.out A2 _ HLz.out HGz.out
          have gxz : (z.alloc (.cells #[.slice av j cv, .int .i64 0, .slice none 0 0, .bool false, .bool false] 74)).cell? ⟨X, 0, none⟩ = some (.slice ax nx cx) := (HLz.out.bk HHD.out).cell 0
          have h5 := g
          obtain ⟨d0, d1, d2, d3, d4⟩ := h5
          go_simp
          refine hK.out _ _ gS (fun g1 => ?_)
          clear hK K9 g
          have g := g1
          clear g1
          clear gS gx0 gxz d0 d1 d2 d3 d4
          generalize hzb : z.heap.size = zb at *
          generalize (z.alloc (.cells #[.slice av j cv, .int .i64 0, .slice none 0 0, .bool false, .bool false] 74)) = za at *
          clear hzb HL2 z
          refine tc 7 rfl (by kernel_rfl) (fun K9 hK => ?_)
          refine step_append_own_at rfl (.tmp 32) (.tmp 34) _ rfl w0.heap.size 74 ic _ 5 64 Try.underlying36 hic hz3 hz4 hz5 rfl (by decide) (.slice ax nx cx) nx (rflat l) rfl OWN.out ⟨zb, 0, none⟩ 1 1 (rcells (.slice av j cv, .slice none 0 0, ⟨bs.take 64, [], false, false⟩)) rfl rfl NEW.out ?a2_2 ?a3_2 ?a4_2 ?a5_2 ?_
          case a2_2 => intro u hu; simp [rcells] at hu; rcases hu with rfl | rfl | rfl | rfl | rfl <;> rfl
          case a3_2 => unfold maxLen; omega
          case a4_2 => omega
          case a5_2 => exact ZBASE.out
          intro v9 z9 hown9 hg9 hat9
          obtain ⟨A3, l3, r3, e3⟩ := HLz.out.took HROW.out hg9 (own_cast (n' := nx + 1) (xs' := rflat (l ++ [(.slice av j cv, .slice none 0 0, ⟨bs.take 64, [], false, false⟩)])) hown9 rfl (rflat_app _ _).symm) hat9
          obtain ⟨av9, cv9, rfl, q1, q2, _⟩ := r3.form2
          have hhd := (e3 (10, 0) (by simp)).trans HHD.out
          obtain ⟨xc, xf⟩ : z9.cell? ⟨X, 0, none⟩ = some (.slice ax nx cx) ∧ z9.frozen? ⟨X, 0, none⟩ = false := ⟨(l3.bk hhd).cell 0, (l3.bk hhd).frozen 0⟩
          have gS := HGS.out A3 z9 l3 ((e3 _ (by simp)).trans HGz.out)
          have HL9 := Lib.hid l3
          have HR9 := Lib.hid r3
          have HH9 := Lib.hid hhd
          have HE9 := Lib.hid e3
          clear hown9 hg9 hat9 l3 r3 e3 hhd
          refine hK.out _ _ gS (fun g1 => ?_)
          clear hK K9 g
          have g := g1
          clear g1
          clear gS
          clear HLz OWN NEW ZBASE
          refine tq 8 ?_ rfl (by kernel_rfl) (fun _ _ _ h => h) (by rfl) g ?_ ?_; rotate_left
          · intro w9 h9; obtain ⟨d0, d1, d2, d3, d4⟩ := h9; go_simp; try with_reducible rfl
          simp only [Act.put, ptA, ptB, ptC]
          refine tq 9 ?_ rfl (by kernel_rfl) (fun _ _ _ h => h) (by rfl) g ?_ ?_; rotate_left
          · intro w9 h9; obtain ⟨d0, d1, d2, d3, d4⟩ := h9; go_simp; try with_reducible rfl
          simp only [Act.put, ptA, ptB, ptC]
          refine tc 10 rfl (by kernel_rfl) (fun K9 hK => ?_)
          obtain ⟨A4, l4, g4, e4⟩ : ∃ A4, Lay w0 A4 (z9.setCell ⟨X, 0, none⟩ (.slice av9 (nx + 1) cv9)) ∧ A4 (10, 0) = some (X, .cells #[.slice av9 (nx + 1) cv9] 38) ∧ ∀ x, x ≠ (10, 0) → A4 x = A3 x := ⟨_, HL9.out.set_ HH9.out 0 (.slice av9 (nx + 1) cv9), up_same _ _ _ _, fun x hx => up_other _ _ _ hx⟩
          have gS := HGS.out A4 _ l4 ((e4 _ (by simp)).trans ((HE9.out _ (by simp)).trans HGz.out))
          have x0 : (z9.setCell ⟨X, 0, none⟩ (.slice av9 (nx + 1) cv9)).cell? ⟨X, 0, none⟩ = some (.slice av9 (nx + 1) cv9) := (l4.bk g4).cell 0
          have HD : Hid (RDid w0 A X (L ++ [⟨bs.take 64, [], false, false⟩]) (z9.setCell ⟨X, 0, none⟩ (.slice av9 (nx + 1) cv9))) := Lib.hid ⟨A4, l4, ⟨_, _, HRSX.out.added HNX.out g4 (by rw [List.length_append, HNX.out]; exact HR9.out.keep (e4 _ (by simp)))
            ⟨by dsimp only; rw [HNX.out, HNL.out, ← HK1.out, HYL.out]; exact HBR.out.keep (by rw [e4 _ (by simp), HE9.out _ (by simp)]), none, 0, rfl, fun h => by simp [zv] at h, fun _ => ⟨rfl, rfl⟩⟩
            (fun x h1 h2 h3 h4 h5 => by rw [e4 x h3, HE9.out x h4]; exact HE0.out x (by intro e; rw [e] at h2; simp at h2) (by rw [HK1.out, ← HNL.out, ← HNX.out]; exact h5))⟩, fun x hx => by rw [e4 x (ne20 hx (by simp)), HE9.out x (ne20 hx (by simp))]; exact HE0.out x (ne20 hx (by simp)) (ne20 hx (by simp))⟩
          clear l4 g4 e4
          have h5 := g
          obtain ⟨d0, d1, d2, d3, d4⟩ := h5
          go_simp
          refine hK.out _ _ gS (fun g1 => ?_)
          clear hK K9 g
          have g := g1
          clear g1
          clear gS xc xf d0 d1 d2 d3 d4
          generalize (z9.setCell ⟨X, 0, none⟩ (.slice av9 (nx + 1) cv9)) = z10 at *
          clear g
          refine wpAnyH_done (by kernel_rfl) ?_ _
          go_wp2
          go_ret
          exact ⟨rt_i (by rw [← HNL.out]; try (push_cast; rfl)), HD.out⟩
        · have HLz := Lib.hid (HL2.out.alloc_ (.cells #[.slice av j cv, .int .i64 0, .slice none 0 0, .bool false, .bool false] 74))
          have NEW : Hid (∀ j2 u, (#[.slice av j cv, .int .i64 0, .slice none 0 0, .bool false, .bool false] : Array Value).toList[j2]? = some u → (z.alloc (.cells #[.slice av j cv, .int .i64 0, .slice none 0 0, .bool false, .bool false] 74)).cell? ((⟨z.heap.size, 0, none⟩ : Addr).add j2) = some u) := Lib.hid (new_cells z 74 _)
          have ZBASE : Hid (w0.heap.size ≤ (z.alloc (.cells #[.slice av j cv, .int .i64 0, .slice none 0 0, .bool false, .bool false] 74)).heap.size) := Lib.hid (by have := HL2.out.below.size; simp; omega)
          have OWN : Hid ((z.alloc (.cells #[.slice av j cv, .int .i64 0, .slice none 0 0, .bool false, .bool false] 74)).ownsRow w0.heap.size 74 5 (.slice ax nx cx) nx (rflat l)) := Lib.hid (HROW.out.own HLz.out)
          have gS := HGS.out A2 _ HLz.out HGz.out
          have gxz : (z.alloc (.cells #[.slice av j cv, .int .i64 0, .slice none 0 0, .bool false, .bool false] 74)).cell? ⟨X, 0, none⟩ = some (.slice ax nx cx) := (HLz.out.bk HHD.out).cell 0
          have h5 := g
          obtain ⟨d0, d1, d2, d3, d4⟩ := h5
          go_simp
          refine hK.out _ _ gS (fun g1 => ?_)
          clear hK K9 g
          have g := g1
          clear g1
          clear gS gx0 d0 d1 d2 d3 d4
          generalize hzb : z.heap.size = zb at *
          generalize (z.alloc (.cells #[.slice av j cv, .int .i64 0, .slice none 0 0, .bool false, .bool false] 74)) = za at *
          clear hzb HL2 z
          refine tc 4 rfl (by kernel_rfl) (fun K9 hK => ?_)
          have h5 := g
          obtain ⟨d0, d1, d2, d3, d4⟩ := h5
          go_simp
          refine hK.out _ _ g (fun g1 => ?_)
          clear hK K9 g
          have g := g1
          clear g1
          clear gxz d0 d1 d2 d3 d4
          refine tc 7 rfl (by kernel_rfl) (fun K9 hK => ?_)
          refine step_append_own_at rfl (.tmp 32) (.tmp 34) _ rfl w0.heap.size 74 ic _ 5 64 Try.underlying36 hic hz3 hz4 hz5 rfl (by decide) (.slice ax nx cx) nx (rflat l) rfl OWN.out ⟨zb, 0, none⟩ 1 1 (rcells (.slice av j cv, .slice none 0 0, ⟨bs.take 64, [], false, false⟩)) rfl rfl NEW.out ?a2_3 ?a3_3 ?a4_3 ?a5_3 ?_
          case a2_3 => intro u hu; simp [rcells] at hu; rcases hu with rfl | rfl | rfl | rfl | rfl <;> rfl
          case a3_3 => unfold maxLen; omega
          case a4_3 => omega
          case a5_3 => exact ZBASE.out
          intro v9 z9 hown9 hg9 hat9
          obtain ⟨A3, l3, r3, e3⟩ := HLz.out.took HROW.out hg9 (own_cast (n' := nx + 1) (xs' := rflat (l ++ [(.slice av j cv, .slice none 0 0, ⟨bs.take 64, [], false, false⟩)])) hown9 rfl (rflat_app _ _).symm) hat9
          obtain ⟨av9, cv9, rfl, q1, q2, _⟩ := r3.form2
          have hhd := (e3 (10, 0) (by simp)).trans HHD.out
          obtain ⟨xc, xf⟩ : z9.cell? ⟨X, 0, none⟩ = some (.slice ax nx cx) ∧ z9.frozen? ⟨X, 0, none⟩ = false := ⟨(l3.bk hhd).cell 0, (l3.bk hhd).frozen 0⟩
          have gS := HGS.out A3 z9 l3 ((e3 _ (by simp)).trans HGz.out)
          have HL9 := Lib.hid l3
          have HR9 := Lib.hid r3
          have HH9 := Lib.hid hhd
          have HE9 := Lib.hid e3
          clear hown9 hg9 hat9 l3 r3 e3 hhd
          refine hK.out _ _ gS (fun g1 => ?_)
          clear hK K9 g
          have g := g1
          clear g1
          clear gS
          clear HLz OWN NEW ZBASE
          refine tq 8 ?_ rfl (by kernel_rfl) (fun _ _ _ h => h) (by rfl) g ?_ ?_; rotate_left
          · intro w9 h9; obtain ⟨d0, d1, d2, d3, d4⟩ := h9; go_simp; try with_reducible rfl
          simp only [Act.put, ptA, ptB, ptC]
          refine tq 9 ?_ rfl (by kernel_rfl) (fun _ _ _ h => h) (by rfl) g ?_ ?_; rotate_left
          · intro w9 h9; obtain ⟨d0, d1, d2, d3, d4⟩ := h9; go_simp; try with_reducible rfl
          simp only [Act.put, ptA, ptB, ptC]
          refine tc 10 rfl (by kernel_rfl) (fun K9 hK => ?_)
          obtain ⟨A4, l4, g4, e4⟩ : ∃ A4, Lay w0 A4 (z9.setCell ⟨X, 0, none⟩ (.slice av9 (nx + 1) cv9)) ∧ A4 (10, 0) = some (X, .cells #[.slice av9 (nx + 1) cv9] 38) ∧ ∀ x, x ≠ (10, 0) → A4 x = A3 x := ⟨_, HL9.out.set_ HH9.out 0 (.slice av9 (nx + 1) cv9), up_same _ _ _ _, fun x hx => up_other _ _ _ hx⟩
          have gS := HGS.out A4 _ l4 ((e4 _ (by simp)).trans ((HE9.out _ (by simp)).trans HGz.out))
          have x0 : (z9.setCell ⟨X, 0, none⟩ (.slice av9 (nx + 1) cv9)).cell? ⟨X, 0, none⟩ = some (.slice av9 (nx + 1) cv9) := (l4.bk g4).cell 0
          have HD : Hid (RDid w0 A X (L ++ [⟨bs.take 64, [], false, false⟩]) (z9.setCell ⟨X, 0, none⟩ (.slice av9 (nx + 1) cv9))) := Lib.hid ⟨A4, l4, ⟨_, _, HRSX.out.added HNX.out g4 (by rw [List.length_append, HNX.out]; exact HR9.out.keep (e4 _ (by simp)))
            ⟨by dsimp only; rw [HNX.out, HNL.out, ← HK1.out, HYL.out]; exact HBR.out.keep (by rw [e4 _ (by simp), HE9.out _ (by simp)]), none, 0, rfl, fun h => by simp [zv] at h, fun _ => ⟨rfl, rfl⟩⟩
            (fun x h1 h2 h3 h4 h5 => by rw [e4 x h3, HE9.out x h4]; exact HE0.out x (by intro e; rw [e] at h2; simp at h2) (by rw [HK1.out, ← HNL.out, ← HNX.out]; exact h5))⟩, fun x hx => by rw [e4 x (ne20 hx (by simp)), HE9.out x (ne20 hx (by simp))]; exact HE0.out x (ne20 hx (by simp)) (ne20 hx (by simp))⟩
          clear l4 g4 e4
          have h5 := g
          obtain ⟨d0, d1, d2, d3, d4⟩ := h5
          go_simp
          refine hK.out _ _ gS (fun g1 => ?_)
          clear hK K9 g
          have g := g1
          clear g1
          clear gS xc xf d0 d1 d2 d3 d4
          generalize (z9.setCell ⟨X, 0, none⟩ (.slice av9 (nx + 1) cv9)) = z10 at *
          clear g
          refine wpAnyH_done (by kernel_rfl) ?_ _
          go_wp2
          go_ret
          exact ⟨rt_i (by rw [← HNL.out]; try (push_cast; rfl)), HD.out⟩
      · have i1 : ¬ (j : Int) < (len : Int) := by omega
        clear hlt
        obtain ⟨v, A2, l2, g2, r2, e2⟩ := HM.out
        rw [HTJ.out] at r2
        obtain ⟨av, cv, rfl, _, _, _⟩ := r2.form2
        obtain ⟨vx, l, hx⟩ := HS0.out
        obtain ⟨ax, cx, rfl, q1, q2, _⟩ := hx.row.form2
        have hll := hx.len
        have HE0 := Lib.hid e2
        obtain ⟨nx, hnx⟩ : ∃ nx, l.length = nx := ⟨_, rfl⟩
        have HNX := Lib.hid hnx
        have HNL : Hid (nx = L.length) := Lib.hid (by omega)
        have HBR := Lib.hid r2
        rw [hnx] at q1
        have hxrow := hx.row
        rw [hnx] at hxrow
        have HROW : Hid (Row A2 (11, 0) 74 5 (.slice ax nx cx) nx (rflat l)) := Lib.hid (hxrow.keep (e2 _ (by simp) (by simp)))
        have hhead := hx.head
        rw [hnx] at hhead
        have HHD : Hid (A2 (10, 0) = some (X, .cells #[.slice ax nx cx] 38)) := Lib.hid ((e2 _ (by simp) (by simp)).trans hhead)
        have HRSX := Lib.hid hx
        have HGz := Lib.hid g2
        have HGS : Hid (∀ (A9 : Ac) z, Lay w0 A9 z → A9 (14, 0) = some (gx, .cells #[.slice av j cv, .int .i64 0, .slice none 0 0, .bool false, .bool false] 74) → z.cell? ⟨gx, 0, none⟩ = some (.slice av j cv) ∧ z.cell? ⟨gx, 1, none⟩ = some (.int .i64 0) ∧ z.cell? ⟨gx, 2, none⟩ = some (.slice none 0 0) ∧ z.cell? ⟨gx, 3, none⟩ = some (.bool false) ∧ z.cell? ⟨gx, 4, none⟩ = some (.bool false)) := Lib.hid (fun A9 z h1 h2 => ⟨(h1.bk h2).cell 0, (h1.bk h2).cell 1, (h1.bk h2).cell 2, (h1.bk h2).cell 3, (h1.bk h2).cell 4⟩)
        have xc0 : wr.cell? ⟨X, 0, none⟩ = some (.slice ax nx cx) := (l2.bk HHD.out).cell 0
        have HYL : Hid ((bs.take 64).length = j) := Lib.hid (by rw [← HTJ.out, List.length_take, HLB.out]; omega)
        have HLy := Lib.hid l2
        have i9 : (nx : Int) ≤ 900 := by omega
        clear l2 g2 r2 e2 hx hll hnx hxrow hhead HM
        go_wp2_with fail
        refine wp_region_held_drew (S := fun w' => w'.cell? ⟨gx, 0, none⟩ = some (.slice av j cv) ∧ w'.cell? ⟨gx, 1, none⟩ = some (.int .i64 0) ∧ w'.cell? ⟨gx, 2, none⟩ = some (.slice none 0 0) ∧ w'.cell? ⟨gx, 3, none⟩ = some (.bool false) ∧ w'.cell? ⟨gx, 4, none⟩ = some (.bool false)) (by kernel_rfl) (HGS.out A2 wr HLy.out HGz.out) (fun g => ?_)
        have HL2 := Lib.hid HLy.out.drew
        have gx0 : wr.drew.cell? ⟨X, 0, none⟩ = some (.slice ax nx cx) := xc0
        clear HLy xc0
        generalize wr.drew = z at *
        clear wr
        refine tq 0 ?_ rfl (by kernel_rfl) (fun _ _ _ h => h) (by rfl) g ?_ ?_; rotate_left
        · intro w9 h9; obtain ⟨d0, d1, d2, d3, d4⟩ := h9; go_simp; try with_reducible rfl
        simp only [Act.put, ptA, ptB, ptC]
        refine tq 1 ?_ rfl (by kernel_rfl) (fun _ _ _ h => h) (by rfl) g ?_ ?_; rotate_left
        · intro w9 h9; obtain ⟨d0, d1, d2, d3, d4⟩ := h9; go_simp; try with_reducible rfl
        simp only [Act.put, ptA, ptB, ptC]
        refine tq 2 ?_ rfl (by kernel_rfl) (fun _ _ _ h => h) (by rfl) g ?_ ?_; rotate_left
        · intro w9 h9; obtain ⟨d0, d1, d2, d3, d4⟩ := h9; go_simp; try with_reducible rfl
        simp only [Act.put, ptA, ptB, ptC]
        refine tq 3 ?_ rfl (by kernel_rfl) (fun _ _ _ h => h) (by rfl) g ?_ ?_; rotate_left
        · intro w9 h9; obtain ⟨d0, d1, d2, d3, d4⟩ := h9; go_simp; try with_reducible rfl
        simp only [Act.put, ptA, ptB, ptC]
        refine tq 5 ?_ rfl (by kernel_rfl) (fun _ _ _ h => h) (by rfl) g ?_ ?_; rotate_left
        · intro w9 h9; obtain ⟨d0, d1, d2, d3, d4⟩ := h9; go_simp; try with_reducible rfl
        simp only [Act.put, ptA, ptB, ptC]
        refine wpAnyH_ready (rs := [4, 6]) (by kernel_rfl) (by simp) (tr 4 rfl (fun K9 hK => ?_) (tr 6 rfl (fun K9 hK => ?_) AllReadyH.nil))
        · have h5 := g
          obtain ⟨d0, d1, d2, d3, d4⟩ := h5
          go_simp
          refine hK.out _ _ g (fun g1 => ?_)
          clear hK K9 g
          have g := g1
          clear g1
          clear d0 d1 d2 d3 d4
          refine tc 6 rfl (by kernel_rfl) (fun K9 hK => ?_)
          have HLz := Lib.hid (HL2.out.alloc_ (.cells #[.slice av j cv, .int .i64 0, .slice none 0 0, .bool false, .bool false] 74))
          have NEW : Hid (∀ j2 u, (#[.slice av j cv, .int .i64 0, .slice none 0 0, .bool false, .bool false] : Array Value).toList[j2]? = some u → (z.alloc (.cells #[.slice av j cv, .int .i64 0, .slice none 0 0, .bool false, .bool false] 74)).cell? ((⟨z.heap.size, 0, none⟩ : Addr).add j2) = some u) := Lib.hid (new_cells z 74 _)
          have ZBASE : Hid (w0.heap.size ≤ (z.alloc (.cells #[.slice av j cv, .int .i64 0, .slice none 0 0, .bool false, .bool false] 74)).heap.size) := Lib.hid (by have := HL2.out.below.size; simp; omega)
          have OWN : Hid ((z.alloc (.cells #[.slice av j cv, .int .i64 0, .slice none 0 0, .bool false, .bool false] 74)).ownsRow w0.heap.size 74 5 (.slice ax nx cx) nx (rflat l)) := Lib.hid (HROW.out.own HLz.out)
          have gS := HGS.out A2 _ HLz.out HGz.out
          have gxz : (z.alloc (.cells #[.slice av j cv, .int .i64 0, .slice none 0 0, .bool false, .bool false] 74)).cell? ⟨X, 0, none⟩ = some (.slice ax nx cx) := (HLz.out.bk HHD.out).cell 0
          have h5 := g
          obtain ⟨d0, d1, d2, d3, d4⟩ := h5
          go_simp
          refine hK.out _ _ gS (fun g1 => ?_)
          clear hK K9 g
          have g := g1
          clear g1
          clear gS gx0 gxz d0 d1 d2 d3 d4
          generalize hzb : z.heap.size = zb at *
          generalize (z.alloc (.cells #[.slice av j cv, .int .i64 0, .slice none 0 0, .bool false, .bool false] 74)) = za at *
          clear hzb HL2 z
          refine tc 7 rfl (by kernel_rfl) (fun K9 hK => ?_)
          refine step_append_own_at rfl (.tmp 32) (.tmp 34) _ rfl w0.heap.size 74 ic _ 5 64 Try.underlying36 hic hz3 hz4 hz5 rfl (by decide) (.slice ax nx cx) nx (rflat l) rfl OWN.out ⟨zb, 0, none⟩ 1 1 (rcells (.slice av j cv, .slice none 0 0, ⟨bs.take 64, [], false, false⟩)) rfl rfl NEW.out ?a2_4 ?a3_4 ?a4_4 ?a5_4 ?_
          case a2_4 => intro u hu; simp [rcells] at hu; rcases hu with rfl | rfl | rfl | rfl | rfl <;> rfl
          case a3_4 => unfold maxLen; omega
          case a4_4 => omega
          case a5_4 => exact ZBASE.out
          intro v9 z9 hown9 hg9 hat9
          obtain ⟨A3, l3, r3, e3⟩ := HLz.out.took HROW.out hg9 (own_cast (n' := nx + 1) (xs' := rflat (l ++ [(.slice av j cv, .slice none 0 0, ⟨bs.take 64, [], false, false⟩)])) hown9 rfl (rflat_app _ _).symm) hat9
          obtain ⟨av9, cv9, rfl, q1, q2, _⟩ := r3.form2
          have hhd := (e3 (10, 0) (by simp)).trans HHD.out
          obtain ⟨xc, xf⟩ : z9.cell? ⟨X, 0, none⟩ = some (.slice ax nx cx) ∧ z9.frozen? ⟨X, 0, none⟩ = false := ⟨(l3.bk hhd).cell 0, (l3.bk hhd).frozen 0⟩
          have gS := HGS.out A3 z9 l3 ((e3 _ (by simp)).trans HGz.out)
          have HL9 := Lib.hid l3
          have HR9 := Lib.hid r3
          have HH9 := Lib.hid hhd
          have HE9 := Lib.hid e3
          clear hown9 hg9 hat9 l3 r3 e3 hhd
          refine hK.out _ _ gS (fun g1 => ?_)
          clear hK K9 g
          have g := g1
          clear g1
          clear gS
          clear HLz OWN NEW ZBASE
          refine tq 8 ?_ rfl (by kernel_rfl) (fun _ _ _ h => h) (by rfl) g ?_ ?_; rotate_left
          · intro w9 h9; obtain ⟨d0, d1, d2, d3, d4⟩ := h9; go_simp; try with_reducible rfl
          simp only [Act.put, ptA, ptB, ptC]
          refine tq 9 ?_ rfl (by kernel_rfl) (fun _ _ _ h => h) (by rfl) g ?_ ?_; rotate_left
          · intro w9 h9; obtain ⟨d0, d1, d2, d3, d4⟩ := h9; go_simp; try with_reducible rfl
          simp only [Act.put, ptA, ptB, ptC]
          refine tc 10 rfl (by kernel_rfl) (fun K9 hK => ?_)
          obtain ⟨A4, l4, g4, e4⟩ : ∃ A4, Lay w0 A4 (z9.setCell ⟨X, 0, none⟩ (.slice av9 (nx + 1) cv9)) ∧ A4 (10, 0) = some (X, .cells #[.slice av9 (nx + 1) cv9] 38) ∧ ∀ x, x ≠ (10, 0) → A4 x = A3 x := ⟨_, HL9.out.set_ HH9.out 0 (.slice av9 (nx + 1) cv9), up_same _ _ _ _, fun x hx => up_other _ _ _ hx⟩
          have gS := HGS.out A4 _ l4 ((e4 _ (by simp)).trans ((HE9.out _ (by simp)).trans HGz.out))
          have x0 : (z9.setCell ⟨X, 0, none⟩ (.slice av9 (nx + 1) cv9)).cell? ⟨X, 0, none⟩ = some (.slice av9 (nx + 1) cv9) := (l4.bk g4).cell 0
          have HD : Hid (RDid w0 A X (L ++ [⟨bs.take 64, [], false, false⟩]) (z9.setCell ⟨X, 0, none⟩ (.slice av9 (nx + 1) cv9))) := Lib.hid ⟨A4, l4, ⟨_, _, HRSX.out.added HNX.out g4 (by rw [List.length_append, HNX.out]; exact HR9.out.keep (e4 _ (by simp)))
            ⟨by dsimp only; rw [HNX.out, HNL.out, ← HK1.out, HYL.out]; exact HBR.out.keep (by rw [e4 _ (by simp), HE9.out _ (by simp)]), none, 0, rfl, fun h => by simp [zv] at h, fun _ => ⟨rfl, rfl⟩⟩
            (fun x h1 h2 h3 h4 h5 => by rw [e4 x h3, HE9.out x h4]; exact HE0.out x (by intro e; rw [e] at h2; simp at h2) (by rw [HK1.out, ← HNL.out, ← HNX.out]; exact h5))⟩, fun x hx => by rw [e4 x (ne20 hx (by simp)), HE9.out x (ne20 hx (by simp))]; exact HE0.out x (ne20 hx (by simp)) (ne20 hx (by simp))⟩
          clear l4 g4 e4
          have h5 := g
          obtain ⟨d0, d1, d2, d3, d4⟩ := h5
          go_simp
          refine hK.out _ _ gS (fun g1 => ?_)
          clear hK K9 g
          have g := g1
          clear g1
          clear gS xc xf d0 d1 d2 d3 d4
          generalize (z9.setCell ⟨X, 0, none⟩ (.slice av9 (nx + 1) cv9)) = z10 at *
          clear g
          refine wpAnyH_done (by kernel_rfl) ?_ _
          go_wp2
          go_ret
          exact ⟨rt_i (by rw [← HNL.out]; try (push_cast; rfl)), HD.out⟩
        · have HLz := Lib.hid (HL2.out.alloc_ (.cells #[.slice av j cv, .int .i64 0, .slice none 0 0, .bool false, .bool false] 74))
          have NEW : Hid (∀ j2 u, (#[.slice av j cv, .int .i64 0, .slice none 0 0, .bool false, .bool false] : Array Value).toList[j2]? = some u → (z.alloc (.cells #[.slice av j cv, .int .i64 0, .slice none 0 0, .bool false, .bool false] 74)).cell? ((⟨z.heap.size, 0, none⟩ : Addr).add j2) = some u) := Lib.hid (new_cells z 74 _)
          have ZBASE : Hid (w0.heap.size ≤ (z.alloc (.cells #[.slice av j cv, .int .i64 0, .slice none 0 0, .bool false, .bool false] 74)).heap.size) := Lib.hid (by have := HL2.out.below.size; simp; omega)
          have OWN : Hid ((z.alloc (.cells #[.slice av j cv, .int .i64 0, .slice none 0 0, .bool false, .bool false] 74)).ownsRow w0.heap.size 74 5 (.slice ax nx cx) nx (rflat l)) := Lib.hid (HROW.out.own HLz.out)
          have gS := HGS.out A2 _ HLz.out HGz.out
          have gxz : (z.alloc (.cells #[.slice av j cv, .int .i64 0, .slice none 0 0, .bool false, .bool false] 74)).cell? ⟨X, 0, none⟩ = some (.slice ax nx cx) := (HLz.out.bk HHD.out).cell 0
          have h5 := g
          obtain ⟨d0, d1, d2, d3, d4⟩ := h5
          go_simp
          refine hK.out _ _ gS (fun g1 => ?_)
          clear hK K9 g
          have g := g1
          clear g1
          clear gS gx0 d0 d1 d2 d3 d4
          generalize hzb : z.heap.size = zb at *
          generalize (z.alloc (.cells #[.slice av j cv, .int .i64 0, .slice none 0 0, .bool false, .bool false] 74)) = za at *
          clear hzb HL2 z
          refine tc 4 rfl (by kernel_rfl) (fun K9 hK => ?_)
          have h5 := g
          obtain ⟨d0, d1, d2, d3, d4⟩ := h5
          go_simp
          refine hK.out _ _ g (fun g1 => ?_)
          clear hK K9 g
          have g := g1
          clear g1
          clear gxz d0 d1 d2 d3 d4
          refine tc 7 rfl (by kernel_rfl) (fun K9 hK => ?_)
          refine step_append_own_at rfl (.tmp 32) (.tmp 34) _ rfl w0.heap.size 74 ic _ 5 64 Try.underlying36 hic hz3 hz4 hz5 rfl (by decide) (.slice ax nx cx) nx (rflat l) rfl OWN.out ⟨zb, 0, none⟩ 1 1 (rcells (.slice av j cv, .slice none 0 0, ⟨bs.take 64, [], false, false⟩)) rfl rfl NEW.out ?a2_5 ?a3_5 ?a4_5 ?a5_5 ?_
          case a2_5 => intro u hu; simp [rcells] at hu; rcases hu with rfl | rfl | rfl | rfl | rfl <;> rfl
          case a3_5 => unfold maxLen; omega
          case a4_5 => omega
          case a5_5 => exact ZBASE.out
          intro v9 z9 hown9 hg9 hat9
          obtain ⟨A3, l3, r3, e3⟩ := HLz.out.took HROW.out hg9 (own_cast (n' := nx + 1) (xs' := rflat (l ++ [(.slice av j cv, .slice none 0 0, ⟨bs.take 64, [], false, false⟩)])) hown9 rfl (rflat_app _ _).symm) hat9
          obtain ⟨av9, cv9, rfl, q1, q2, _⟩ := r3.form2
          have hhd := (e3 (10, 0) (by simp)).trans HHD.out
          obtain ⟨xc, xf⟩ : z9.cell? ⟨X, 0, none⟩ = some (.slice ax nx cx) ∧ z9.frozen? ⟨X, 0, none⟩ = false := ⟨(l3.bk hhd).cell 0, (l3.bk hhd).frozen 0⟩
          have gS := HGS.out A3 z9 l3 ((e3 _ (by simp)).trans HGz.out)
          have HL9 := Lib.hid l3
          have HR9 := Lib.hid r3
          have HH9 := Lib.hid hhd
          have HE9 := Lib.hid e3
          clear hown9 hg9 hat9 l3 r3 e3 hhd
          refine hK.out _ _ gS (fun g1 => ?_)
          clear hK K9 g
          have g := g1
          clear g1
          clear gS
          clear HLz OWN NEW ZBASE
          refine tq 8 ?_ rfl (by kernel_rfl) (fun _ _ _ h => h) (by rfl) g ?_ ?_; rotate_left
          · intro w9 h9; obtain ⟨d0, d1, d2, d3, d4⟩ := h9; go_simp; try with_reducible rfl
          simp only [Act.put, ptA, ptB, ptC]
          refine tq 9 ?_ rfl (by kernel_rfl) (fun _ _ _ h => h) (by rfl) g ?_ ?_; rotate_left
          · intro w9 h9; obtain ⟨d0, d1, d2, d3, d4⟩ := h9; go_simp; try with_reducible rfl
          simp only [Act.put, ptA, ptB, ptC]
          refine tc 10 rfl (by kernel_rfl) (fun K9 hK => ?_)
          obtain ⟨A4, l4, g4, e4⟩ : ∃ A4, Lay w0 A4 (z9.setCell ⟨X, 0, none⟩ (.slice av9 (nx + 1) cv9)) ∧ A4 (10, 0) = some (X, .cells #[.slice av9 (nx + 1) cv9] 38) ∧ ∀ x, x ≠ (10, 0) → A4 x = A3 x := ⟨_, HL9.out.set_ HH9.out 0 (.slice av9 (nx + 1) cv9), up_same _ _ _ _, fun x hx => up_other _ _ _ hx⟩
          have gS := HGS.out A4 _ l4 ((e4 _ (by simp)).trans ((HE9.out _ (by simp)).trans HGz.out))
          have x0 : (z9.setCell ⟨X, 0, none⟩ (.slice av9 (nx + 1) cv9)).cell? ⟨X, 0, none⟩ = some (.slice av9 (nx + 1) cv9) := (l4.bk g4).cell 0
          have HD : Hid (RDid w0 A X (L ++ [⟨bs.take 64, [], false, false⟩]) (z9.setCell ⟨X, 0, none⟩ (.slice av9 (nx + 1) cv9))) := Lib.hid ⟨A4, l4, ⟨_, _, HRSX.out.added HNX.out g4 (by rw [List.length_append, HNX.out]; exact HR9.out.keep (e4 _ (by simp)))
            ⟨by dsimp only; rw [HNX.out, HNL.out, ← HK1.out, HYL.out]; exact HBR.out.keep (by rw [e4 _ (by simp), HE9.out _ (by simp)]), none, 0, rfl, fun h => by simp [zv] at h, fun _ => ⟨rfl, rfl⟩⟩
            (fun x h1 h2 h3 h4 h5 => by rw [e4 x h3, HE9.out x h4]; exact HE0.out x (by intro e; rw [e] at h2; simp at h2) (by rw [HK1.out, ← HNL.out, ← HNX.out]; exact h5))⟩, fun x hx => by rw [e4 x (ne20 hx (by simp)), HE9.out x (ne20 hx (by simp))]; exact HE0.out x (ne20 hx (by simp)) (ne20 hx (by simp))⟩
          clear l4 g4 e4
          have h5 := g
          obtain ⟨d0, d1, d2, d3, d4⟩ := h5
          go_simp
          refine hK.out _ _ gS (fun g1 => ?_)
          clear hK K9 g
          have g := g1
          clear g1
          clear gS xc xf d0 d1 d2 d3 d4
          generalize (z9.setCell ⟨X, 0, none⟩ (.slice av9 (nx + 1) cv9)) = z10 at *
          clear g
          refine wpAnyH_done (by kernel_rfl) ?_ _
          go_wp2
          go_ret
          exact ⟨rt_i (by rw [← HNL.out]; try (push_cast; rfl)), HD.out⟩
theorem rmake_c {w0 w : World} {A : Ac} {X : Nat} {L : List Cl} (hl : Lay w0 A w) (h : RS w0 A X L) (hn : L.length ≤ 300) (ab : Option Addr) (len cp : Nat) (bs : List Int) (hlb : bs.length = len) (hm1 : len ≤ 9223372036854775807)
    {r : Rl} (hr10 : ¬ (10 ≤ r.1 ∧ r.1 < 20)) (hrd : Reads w0 A r ab (bv bs)) :
    Calls Try.prog 42 #[.pointer (some ⟨X, 0, none⟩), .slice ab len cp] w (RIntP w0 A X ((L.length : Int) + 1) (L ++ [⟨bs.take 64, [], false, false⟩])) :=
  rmake_k hl h (by omega) ab len cp bs hlb hm1 hr10 hrd
end Go.Proofs.Ythdgdkjaeebbcaa
