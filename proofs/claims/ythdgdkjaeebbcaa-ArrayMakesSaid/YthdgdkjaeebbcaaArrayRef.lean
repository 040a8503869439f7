/-
  Layer 9's document: cut, New, Cell, Len: contracts. Conditions: 900 cells at most.
-/
import Derived.Test.YthdgdkjaeebbcaaArrayNew
import Derived.Test.YthdgdkjaeebbcaaCellsRef9
namespace Go.Proofs.Ythdgdkjaeebbcaa
set_option maxRecDepth 100000
open Go.RowKit Ow Ph Ro K2
set_option linter.unusedVariables false
set_option linter.unusedSimpArgs false
theorem step_make_own {P : Program} {ops : Array Oper} {o : Oper} {a : Act} {w : World} {K : Act → World → Prop} {Q : Exit → Act → World → Prop} {E : Prop} (hgd : o.guard = none) (l c : Operand) (t : TypeId) (hop : o.op = Op.makeSlice t l c)
    (e : TypeId) (i : TypeInfo) (z : Value) (ht : P.underlying t = some (.slice e)) (hi : P.info? e = some i) (hz : i.zero = some z) (hsize : i.size = 1) (hz1 : z.cells = #[z])
    (kl kc : IntKind) (n : Nat) (hl : a.eval l = .int kl (n : Int)) (hc : a.eval c = .int kc (n : Int)) (hbytes : i.bytes * n ≤ 281474976710656) (h63 : n ≤ maxLen)
    (hK : ∀ (ad : Addr) (w' : World), ad.block = w.heap.size → w'.ownsRow w.heap.size e 1 (.slice (some ad) n n) n (List.replicate n z) → Below w.heap.size w w' → K (a.put o.dst (.slice (some ad) n n)) w') :
    if Region.wanted o (yielded ops a.tmps) = true then Oper.wp P o a w K Q else E := by
  have hw : Region.wanted o (yielded ops a.tmps) = true := by simp [Region.wanted, hgd]
  rw [if_pos hw]
  have hrun := run_make_row (P := P) t e i z ht hi hz hsize hz1 kl kc n hbytes (by have := h63; unfold maxLen at this; omega) w
  unfold Oper.wp
  simp [execOp, hop, hl, hc, hrun, Result.andThen]
  refine hK ⟨w.heap.size, 0, none⟩ _ rfl ?_ ((Below.refl _ _).alloc (Nat.le_refl _) _)
  have := World.ownsRow_lit (base := w.heap.size) (e := e) (size := 1) w (madeCells #[z] n) n (Nat.le_refl _) h63 (by rw [size_madeCells]; omega)
  rw [toList_madeCells_one] at this
  exact this
theorem cut9_any (n : Int) (h1 : -9223372036854775808 ≤ n) (h2 : n ≤ 9223372036854775807) (w : World) :
    Calls Try.prog 59 #[.int .i64 n] w fun e w' => e = .returned (.int .i64 (cl64 n : Nat)) ∧ w = w' := by
  have q1 : n ≤ 1 → (cl64 n : Int) = 1 := by unfold cl64; omega
  have q2 : 1 ≤ n → n ≤ 64 → (cl64 n : Int) = n := by unfold cl64; omega
  have q3 : 64 ≤ n → (cl64 n : Int) = 64 := by unfold cl64; omega
  generalize (cl64 n : Int) = y at *
  go_enter Try.func59, Try.ntmps59
  go_wp2
  all_goals
    go_ret
    exact ⟨rt_i9 (by omega), rfl⟩
theorem rarrlen_c {w0 w : World} {A : Ac} {k G : Nat} {xs : List Nat} (hl : Lay w0 A w) (h : ArrAt 87 22 A k G xs) :
    Calls Try.prog 34 #[.pointer (some ⟨G, 0, none⟩)] w fun e w' => e = .returned (.int .i64 (xs.length : Nat)) ∧ w = w' := by
  obtain ⟨v, h1, h2⟩ := h
  obtain ⟨a, cap, rfl, _, _, _⟩ := h2.form2
  have k0 : w.cell? ⟨G, 0, none⟩ = some (.slice a xs.length cap) := (hl.bk h1).cell 0
  clear hl h1 h2
  go_enter Try.func34, Try.ntmps34
  go_wp2
  go_ret
  exact ⟨rfl, rfl⟩
theorem rarrcell_c {w0 w : World} {A : Ac} {k G : Nat} {xs : List Nat} (hl : Lay w0 A w) (h : ArrAt 87 22 A k G xs) (i : Int) (i1 : -9223372036854775808 ≤ i) (i2 : i ≤ 9223372036854775807) :
    Calls Try.prog 36 #[.pointer (some ⟨G, 0, none⟩), .int .i64 i] w fun e w' => e = .returned (atV (cellA xs i)) ∧ w = w' := by
  obtain ⟨v, h1, h2⟩ := h
  have hown := h2.own hl
  obtain ⟨a, cap, rfl, _, _, hnone⟩ := h2.form2
  have k0 : w.cell? ⟨G, 0, none⟩ = some (.slice a xs.length cap) := (hl.bk h1).cell 0
  unfold cellA
  by_cases c1 : i < 0
  · rw [if_neg (by omega)]
    clear hl h1 h2 hown hnone
    go_enter Try.func36, Try.ntmps36
    go_wp2
    go_ret2
    exact ⟨rfl, rfl⟩
  · by_cases c2 : i < (xs.length : Int)
    · rw [if_pos (by omega)]
      obtain ⟨j, rfl⟩ : ∃ j : Nat, i = (j : Int) := ⟨i.toNat, by omega⟩
      have hj : j < xs.length := by omega
      obtain ⟨ad, rfl⟩ : ∃ ad, a = some ad := by
        cases a with
        | none => have := (hnone rfl).1; omega
        | some ad => exact ⟨ad, rfl⟩
      have hc : w.cell? (ad.add j) = some (.int .i64 (xs.getD j 0 : Nat)) := by
        rw [(own_at hown j hj).1]
        unfold dv
        rw [List.getElem?_map, List.getElem?_eq_getElem hj, List.getD_eq_getElem?_getD, List.getElem?_eq_getElem hj]
        rfl
      have c3 : (0 : Int) ≤ (j : Int) := by omega
      clear hl h1 h2 hown hnone
      rw [show ((j : Int)).toNat = j by omega]
      generalize xs.getD j 0 = y at *
      generalize xs.length = n at *
      go_enter Try.func36, Try.ntmps36
      go_wp2
      go_ret2
      exact ⟨rfl, rfl⟩
    · rw [if_neg (by omega)]
      clear hl h1 h2 hown hnone
      generalize xs.length = n at *
      go_enter Try.func36, Try.ntmps36
      go_wp2
      go_ret2
      exact ⟨rfl, rfl⟩
/-- The document's cells and an array amid its making: the header holds vh, the row is vr's. -/
def RI (w0 : World) (A : Ac) (X k G b : Nat) (L : List Cl) (vh vr : Value) (i : Nat) (z : World) : Prop :=
  ∃ A', Lay w0 A' z ∧ RS w0 A' X L ∧ A' (22, k) = some (G, .cells #[vh] 87) ∧ Row A' (23, k) 3 1 vr i (dv (List.range' (b + 1) i)) ∧ ∀ x : Rl, ¬ (10 ≤ x.1 ∧ x.1 < 20) → x ≠ (22, k) → x ≠ (23, k) → x ≠ (25, 0) → A' x = A x
def RI1 (w0 : World) (A : Ac) (X k G b : Nat) (L : List Cl) (vh vr : Value) (i : Nat) (adn : Addr) (sz : Nat) (z : World) : Prop :=
  ∃ A', Lay w0 A' z ∧ RS w0 A' X L ∧ A' (22, k) = some (G, .cells #[vh] 87) ∧ Row A' (23, k) 3 1 vr i (dv (List.range' (b + 1) i)) ∧ Reads w0 A' (25, 0) (some adn) (bv (List.replicate sz 0)) ∧ ∀ x : Rl, ¬ (10 ≤ x.1 ∧ x.1 < 20) → x ≠ (22, k) → x ≠ (23, k) → x ≠ (25, 0) → A' x = A x
section
variable {w0 z z' : World} {A : Ac} {X k G b i sz : Nat} {L : List Cl} {vh vr : Value} {adn : Addr}
theorem RI.cell (h : RI w0 A X k G b L vh vr i z) : z.cell? ⟨G, 0, none⟩ = some vh ∧ z.frozen? ⟨G, 0, none⟩ = false := by
  obtain ⟨A', h1, h2, h3, h4⟩ := h; exact ⟨(h1.bk h3).cell 0, (h1.bk h3).frozen 0⟩
theorem RI1.cell (h : RI1 w0 A X k G b L vh vr i adn sz z) : z.cell? ⟨G, 0, none⟩ = some vh ∧ z.frozen? ⟨G, 0, none⟩ = false := by
  obtain ⟨A', h1, h2, h3, h4⟩ := h; exact ⟨(h1.bk h3).cell 0, (h1.bk h3).frozen 0⟩
theorem RI.drew (h : RI w0 A X k G b L vh vr i z) : RI w0 A X k G b L vh vr i z.drew := by
  obtain ⟨A', h1, h2⟩ := h; exact ⟨A', h1.drew, h2⟩
theorem RI.grow (h : RI w0 A X k G b L vh vr i z) (hb : Below z.heap.size z z') : RI w0 A X k G b L vh vr i z' := by
  obtain ⟨A', h1, h2⟩ := h; exact ⟨A', h1.grow hb, h2⟩
theorem RI.base (h : RI w0 A X k G b L vh vr i z) : w0.heap.size ≤ z.heap.size := by
  obtain ⟨A', h1, h2⟩ := h; exact h1.below.size
theorem RI.own (h : RI w0 A X k G b L vh vr i z) : z.ownsRow w0.heap.size 3 1 vr i (dv (List.range' (b + 1) i)) := by
  obtain ⟨A', h1, h2, h3, h4, _⟩ := h; exact h4.own h1
theorem RI.slice (h : RI w0 A X k G b L vh vr i z) (ho : z'.ownsRow z.heap.size 5 1 (.slice (some adn) sz sz) sz (List.replicate sz (.int .u8 0))) (hb : Below z.heap.size z z') :
    RI1 w0 A X k G b L vh vr i adn sz z' := by
  obtain ⟨A', h1, h2, h3, h4, h5⟩ := h
  obtain ⟨A2, l1, r1, e1⟩ := h1.newRow (25, 0) hb ho (Nat.le_refl _)
  refine ⟨A2, l1, h2.keep (fun x hx hx2 => e1 x (fun e => by rw [e] at hx2; simp at hx2)), (e1 _ (by simp)).trans h3, h4.keep (e1 _ (by simp)), ?_, fun x hx h6 h7 h8 => (e1 x h8).trans (h5 x hx h6 h7 h8)⟩
  have := r1.reads (w0 := w0)
  unfold bv
  rw [List.map_replicate]
  exact this
theorem RI1.make (h : RI1 w0 A X k G b L vh vr i adn sz z) (hsz : sz ≤ 64) (hn : L.length ≤ 900) :
    Calls Try.prog 42 #[.pointer (some ⟨X, 0, none⟩), .slice (some adn) sz sz] z (fun e z' => e = .returned (.int .i64 ((L.length : Int) + 1)) ∧ RI w0 A X k G b (L ++ [zc sz]) vh vr i z') := by
  obtain ⟨A', h1, h2, h3, h4, h5, h6⟩ := h
  refine (rmake_k h1 h2 hn (some adn) sz sz (List.replicate sz 0) (by simp) (by omega) (r := (25, 0)) (by simp) h5).mono fun e w' hm => ?_
  obtain ⟨rfl, A2, l1, l2, l3⟩ := hm
  rw [zc_take hsz] at l2
  exact ⟨rfl, A2, l1, l2, (l3 _ (by simp)).trans h3, h4.keep (l3 _ (by simp)), fun x hx h7 h8 h9 => (l3 x hx).trans (h6 x hx h7 h8 h9)⟩
theorem RI.app {y : Int} {v' : Value} (h : RI w0 A X k G b L vh vr i z) (ho : z'.ownsRow w0.heap.size 3 1 v' (i + 1) (dv (List.range' (b + 1) i) ++ [.int .i64 y])) (hg : z.grownBy z' vr.ownBlock) (hat : v'.ownBlock = vr.ownBlock ∨ ∃ g, v'.ownBlock = some g ∧ z.heap.size ≤ g)
    (hy : y = ((b + 1 + i : Nat) : Int)) : ∃ av cv, v' = .slice av (i + 1) cv ∧ RI w0 A X k G b L vh v' (i + 1) z' := by
  obtain ⟨A', h1, h2, h3, h4, h5⟩ := h
  obtain ⟨A2, l1, r1, e1⟩ := h1.took h4 hg ho hat
  obtain ⟨av, cv, rfl, _, _, _⟩ := r1.form2
  refine ⟨av, cv, rfl, A2, l1, h2.keep (fun x hx hx2 => e1 x (fun e => by rw [e] at hx2; simp at hx2)), (e1 _ (by simp)).trans h3, ?_, fun x hx h6 h7 h8 => (e1 x h7).trans (h5 x hx h6 h7 h8)⟩
  have e : dv (List.range' (b + 1) (i + 1)) = dv (List.range' (b + 1) i) ++ [.int .i64 y] := by
    rw [List.range'_concat, dv_app, hy]
    simp [dv]
  rw [e]
  exact r1
theorem RI.store (h : RI w0 A X k G b L vh vr i z) (u : Value) : RI w0 A X k G b L u vr i (z.setCell ⟨G, 0, none⟩ u) := by
  obtain ⟨A', h1, h2, h3, h4, h5⟩ := h
  refine ⟨_, h1.set_ h3 0 u, h2.keep (fun x hx hx2 => up_other _ _ _ (fun e => by rw [e] at hx2; simp at hx2)), up_same _ _ _ _, h4.keep (up_other _ _ _ (by simp)), fun x hx h6 h7 h8 => (up_other _ _ _ h6).trans (h5 x hx h6 h7 h8)⟩
end
def RNewA (w0 : World) (A : Ac) (X k : Nat) (L : List Cl) (n sz : Nat) (e : Ending) (w' : World) : Prop :=
  ∃ G A', e = .returned (.pointer (some ⟨G, 0, none⟩)) ∧ Lay w0 A' w' ∧ RS w0 A' X (L ++ List.replicate n (zc sz)) ∧ ArrAt 87 22 A' k G (List.range' (L.length + 1) n) ∧ ∀ x : Rl, ¬ (10 ≤ x.1 ∧ x.1 < 20) → x ≠ (22, k) → x ≠ (23, k) → x ≠ (25, 0) → A' x = A x
set_option maxRecDepth 100000 in
set_option maxHeartbeats 4000000 in
theorem rarrnew_c {w0 w : World} {A : Ac} {X : Nat} {L : List Cl} (hl : Lay w0 A w) (h : RS w0 A X L) (k : Nat) (hn : L.length ≤ 800) (m s : Int) (m1 : -9223372036854775808 ≤ m) (m2 : m ≤ 9223372036854775807) (s1 : -9223372036854775808 ≤ s) (s2 : s ≤ 9223372036854775807) :
    Calls Try.prog 32 #[.pointer (some ⟨X, 0, none⟩), .int .i64 m, .int .i64 s] w (RNewA w0 A X k L (cl64 m) (cl64 s)) := by
  obtain ⟨i0, hi0, hz0, hz1, hz2⟩ := info9 byte9
  obtain ⟨j0, hj0, hy0, hy1, hy2⟩ := info9 int9
  have W1 := cut9_any m m1 m2
  have CUT := cut9_any s s1 s2
  have n1 := cl64_ge m
  have n2 := cl64_le m
  have z1 := cl64_ge s
  have z2 := cl64_le s
  generalize cl64 m = n at *
  generalize cl64 s = sz at *
  obtain ⟨b, hb⟩ : ∃ b, L.length = b := ⟨_, rfl⟩
  have HB := Lib.hid hb
  have hb9 : b ≤ 800 := by omega
  obtain ⟨G, hG⟩ : ∃ G, w.heap.size = G := ⟨_, rfl⟩
  have H0 : Hid (RI w0 A X k G b (L ++ List.replicate 0 (zc sz)) (.slice none 0 0) (.slice none 0 0) 0 (w.alloc (.cells #[.slice none 0 0] 87))) := Lib.hid (by
    subst hG
    refine ⟨_, hl.new (22, k) (o := .cells #[.slice none 0 0] 87) ((Below.refl _ _).alloc (Nat.le_refl _) _) (Nat.le_refl _) (heap_alloc_new w _), ?_, up_same _ _ _ _, Row.nil _ _ _ _, fun x hx h6 h7 h8 => up_other _ _ _ h6⟩
    rw [List.replicate_zero, List.append_nil]
    exact h.keep (fun x hx hx2 => up_other _ _ _ (fun e => by rw [e] at hx2; simp at hx2)))
  have HR8 : Hid (∀ i v (z : World), RI w0 A X k G b ((L ++ List.replicate i (zc sz)) ++ [zc sz]) v v (i + 1) z → Hid (RI w0 A X k G b (L ++ List.replicate (i + 1) (zc sz)) v v (i + 1) z)) := Lib.hid (fun i v z h1 => by
    rw [List.replicate_succ', ← List.append_assoc]
    exact Lib.hid h1)
  clear hl h hb
  go_enter Try.func32, Try.ntmps32
  go_wp2_with fail
  clear hG
  generalize (w.alloc (.cells #[.slice none 0 0] 87)) = wb at *
  go_loopw [8] (fun i wr => ∃ (j : Nat) (av : Option Addr) (cv : Nat), j ≤ n ∧ i = .int .i64 j ∧ Hid (RI w0 A X k G b (L ++ List.replicate j (zc sz)) (.slice av j cv) (.slice av j cv) j wr)) (fun i _ => n - (intOf i).toNat)
  case atStart => exact ⟨0, none, 0, Nat.zero_le _, rfl, H0⟩
  case round =>
    obtain ⟨i, av, cv, hj, rfl, HI⟩ := hrel
    clear H0
    by_cases hlt : i < n
    · have i1 : (i : Int) < (n : Int) := by omega
      have LL1 : Hid ((((L ++ List.replicate i (zc sz)).length : Nat) : Int) = (b : Int) + i ∧ (L ++ List.replicate i (zc sz)).length = b + i) := Lib.hid (by rw [List.length_append, List.length_replicate, HB.out]; exact ⟨by push_cast; rfl, rfl⟩)
      go_wp2_with fail
      with_reducible refine (W1 _).mono ?_
      rintro e w' ⟨rfl, rfl⟩
      go_wp2_with fail
      refine wp_region_held_drew (S := fun _ => True) (by kernel_rfl) trivial (fun g => ?_)
      have H2 := Lib.hid HI.out.drew
      clear HI
      generalize wr.drew = z at *
      clear wr
      refine tq 0 ?_ rfl (by kernel_rfl) (fun _ _ _ h => h) (by rfl) g ?_ ?_; rotate_left
      · intro w9 h9; go_simp; try with_reducible rfl
      simp only [Act.put, ptA, ptB, ptC]
      refine tq 1 ?_ rfl (by kernel_rfl) (fun _ _ _ h => h) (by rfl) g ?_ ?_; rotate_left
      · intro w9 h9; go_simp; try with_reducible rfl
      simp only [Act.put, ptA, ptB, ptC]
      refine tq 2 ?_ rfl (by kernel_rfl) (fun _ _ _ h => h) (by rfl) g ?_ ?_; rotate_left
      · intro w9 h9; go_simp; try with_reducible rfl
      simp only [Act.put, ptA, ptB, ptC]
      refine tq 3 ?_ rfl (by kernel_rfl) (fun _ _ _ h => h) (by rfl) g ?_ ?_; rotate_left
      · intro w9 h9; go_simp; try with_reducible rfl
      simp only [Act.put, ptA, ptB, ptC]
      refine tq 5 ?_ rfl (by kernel_rfl) (fun _ _ _ h => h) (by rfl) g ?_ ?_; rotate_left
      · intro w9 h9; go_simp; try with_reducible rfl
      simp only [Act.put, ptA, ptB, ptC]
      refine tq 6 ?_ rfl (by kernel_rfl) (fun _ _ _ h => h) (by rfl) g ?_ ?_; rotate_left
      · intro w9 h9; go_simp; try with_reducible rfl
      simp only [Act.put, ptA, ptB, ptC]
      refine wpAnyH_ready (rs := [4, 7]) (by kernel_rfl) (by simp) (tr 4 rfl (fun K9 hK => ?_) (tr 7 rfl (fun K9 hK => ?_) AllReadyH.nil))
      · have gc := H2.out.cell.1
        go_simp
        refine hK.out _ _ trivial (fun g1 => ?_)
        clear hK K9 g
        have g := g1
        clear g1
        clear gc
        refine tc 7 rfl (by kernel_rfl) (fun K9 hK => ?_)
        go_simp
        with_reducible refine (CUT _).mono ?_
        rintro e w' ⟨rfl, rfl⟩
        go_simp
        refine hK.out _ _ trivial (fun g1 => ?_)
        clear hK K9 g
        have g := g1
        clear g1
        refine tc 8 rfl (by kernel_rfl) (fun K9 hK => ?_)
        refine step_make_own rfl _ _ _ rfl 5 i0 _ Try.underlying31 hi0 hz0 hz1 rfl _ _ sz rfl rfl ?a1 ?a2 ?_
        case a1 => rw [hz2]; omega
        case a2 => unfold maxLen; omega
        intro adn z1 hadn hown hb
        have H3 := Lib.hid (H2.out.slice hown hb)
        clear hadn hown hb
        clear H2
        go_simp
        refine hK.out _ _ trivial (fun g1 => ?_)
        clear hK K9 g
        have g := g1
        clear g1
        clear z
        refine tc 9 rfl (by kernel_rfl) (fun K9 hK => ?_)
        go_simp
        with_reducible refine (H3.out.make z2 (by rw [LL1.out.2]; omega)).mono ?_
        rintro e z2w ⟨rfl, q⟩
        rw [LL1.out.1]
        have HY : Hid ((b : Int) + i + 1 = ((b + 1 + i : Nat) : Int)) := Lib.hid (by push_cast; omega)
        have hyb : (b : Int) + i + 1 ≤ 1000 := by omega
        have hyc : 0 ≤ (b : Int) + i + 1 := by omega
        generalize hyy : (b : Int) + i + 1 = y at *
        clear hyy
        have H4 := Lib.hid q
        clear q H3
        go_simp
        refine hK.out _ _ trivial (fun g1 => ?_)
        clear hK K9 g
        have g := g1
        clear g1
        clear z1
        refine tc 10 rfl (by kernel_rfl) (fun K9 hK => ?_)
        have H5 := Lib.hid (H4.out.grow ((Below.refl _ _).alloc (Nat.le_refl _) (.cells #[.int .i64 y] 3)))
        have NEW : Hid (∀ j2 u, [Value.int .i64 y][j2]? = some u → (z2w.alloc (.cells #[.int .i64 y] 3)).cell? ((⟨z2w.heap.size, 0, none⟩ : Addr).add j2) = some u) := Lib.hid (cell_one_new z2w (.int .i64 y) 3)
        go_simp
        refine hK.out _ _ trivial (fun g1 => ?_)
        clear hK K9 g
        have g := g1
        clear g1
        generalize hzb : z2w.heap.size = zb at *
        generalize (z2w.alloc (.cells #[.int .i64 y] 3)) = z3 at *
        clear hzb H4 z2w
        refine tc 11 rfl (by kernel_rfl) (fun K9 hK => ?_)
        refine step_append_own_at rfl (.tmp 21) (.tmp 27) _ rfl w0.heap.size 3 j0 _ 1 8 Try.underlying50 hj0 hy0 hy1 hy2 rfl (by decide) (.slice av i cv) i (dv (List.range' (b + 1) i)) rfl H5.out.own ⟨zb, 0, none⟩ 1 1 [.int .i64 y] rfl rfl NEW.out ?a2 ?a3 ?a4 ?a5 ?_
        case a2 => intro u hu; simp at hu; subst hu; rfl
        case a3 => unfold maxLen; omega
        case a4 => omega
        case a5 => exact H5.out.base
        intro v9 z9 hown9 hg9 hat9
        obtain ⟨av9, cv9, rfl, h9⟩ := H5.out.app hown9 hg9 hat9 HY.out
        obtain ⟨gc, gf⟩ := h9.cell
        have H9 := Lib.hid h9
        clear hown9 hg9 hat9 h9 H5 NEW
        go_simp
        refine hK.out _ _ trivial (fun g1 => ?_)
        clear hK K9 g
        have g := g1
        clear g1
        clear z3
        refine tq 12 ?_ rfl (by kernel_rfl) (fun _ _ _ h => h) (by rfl) g ?_ ?_; rotate_left
        · intro w9 h9; go_simp; try with_reducible rfl
        simp only [Act.put, ptA, ptB, ptC]
        refine tq 13 ?_ rfl (by kernel_rfl) (fun _ _ _ h => h) (by rfl) g ?_ ?_; rotate_left
        · intro w9 h9; go_simp; try with_reducible rfl
        simp only [Act.put, ptA, ptB, ptC]
        refine tc 14 rfl (by kernel_rfl) (fun K9 hK => ?_)
        have HD := Lib.hid (H9.out.store (.slice av9 (i + 1) cv9))
        have gx : (z9.setCell ⟨G, 0, none⟩ (.slice av9 (i + 1) cv9)).heap.size = z9.heap.size := by simp
        clear H9 gx
        go_simp
        refine hK.out _ _ trivial (fun g1 => ?_)
        clear hK K9 g
        have g := g1
        clear g1
        clear gc gf
        generalize (z9.setCell ⟨G, 0, none⟩ (.slice av9 (i + 1) cv9)) = z10 at *
        clear g
        refine wpAnyH_done (by kernel_rfl) ?_ _
        go_wp2
        go_roundw
        case rel => exact ⟨i + 1, av9, cv9, by omega, by go_num, HR8.out _ _ _ HD.out⟩
        case measure => simp [intOf]; omega
      · go_simp
        with_reducible refine (CUT _).mono ?_
        rintro e w' ⟨rfl, rfl⟩
        go_simp
        refine hK.out _ _ trivial (fun g1 => ?_)
        clear hK K9 g
        have g := g1
        clear g1
        refine wpAnyH_ready (rs := [4, 8]) (by kernel_rfl) (by simp) (tr 4 rfl (fun K9 hK => ?_) (tr 8 rfl (fun K9 hK => ?_) AllReadyH.nil))
        · have gc := H2.out.cell.1
          go_simp
          refine hK.out _ _ trivial (fun g1 => ?_)
          clear hK K9 g
          have g := g1
          clear g1
          clear gc
          refine tc 8 rfl (by kernel_rfl) (fun K9 hK => ?_)
          refine step_make_own rfl _ _ _ rfl 5 i0 _ Try.underlying31 hi0 hz0 hz1 rfl _ _ sz rfl rfl ?a1 ?a2 ?_
          case a1 => rw [hz2]; omega
          case a2 => unfold maxLen; omega
          intro adn z1 hadn hown hb
          have H3 := Lib.hid (H2.out.slice hown hb)
          clear hadn hown hb
          clear H2
          go_simp
          refine hK.out _ _ trivial (fun g1 => ?_)
          clear hK K9 g
          have g := g1
          clear g1
          clear z
          refine tc 9 rfl (by kernel_rfl) (fun K9 hK => ?_)
          go_simp
          with_reducible refine (H3.out.make z2 (by rw [LL1.out.2]; omega)).mono ?_
          rintro e z2w ⟨rfl, q⟩
          rw [LL1.out.1]
          have HY : Hid ((b : Int) + i + 1 = ((b + 1 + i : Nat) : Int)) := Lib.hid (by push_cast; omega)
          have hyb : (b : Int) + i + 1 ≤ 1000 := by omega
          have hyc : 0 ≤ (b : Int) + i + 1 := by omega
          generalize hyy : (b : Int) + i + 1 = y at *
          clear hyy
          have H4 := Lib.hid q
          clear q H3
          go_simp
          refine hK.out _ _ trivial (fun g1 => ?_)
          clear hK K9 g
          have g := g1
          clear g1
          clear z1
          refine tc 10 rfl (by kernel_rfl) (fun K9 hK => ?_)
          have H5 := Lib.hid (H4.out.grow ((Below.refl _ _).alloc (Nat.le_refl _) (.cells #[.int .i64 y] 3)))
          have NEW : Hid (∀ j2 u, [Value.int .i64 y][j2]? = some u → (z2w.alloc (.cells #[.int .i64 y] 3)).cell? ((⟨z2w.heap.size, 0, none⟩ : Addr).add j2) = some u) := Lib.hid (cell_one_new z2w (.int .i64 y) 3)
          go_simp
          refine hK.out _ _ trivial (fun g1 => ?_)
          clear hK K9 g
          have g := g1
          clear g1
          generalize hzb : z2w.heap.size = zb at *
          generalize (z2w.alloc (.cells #[.int .i64 y] 3)) = z3 at *
          clear hzb H4 z2w
          refine tc 11 rfl (by kernel_rfl) (fun K9 hK => ?_)
          refine step_append_own_at rfl (.tmp 21) (.tmp 27) _ rfl w0.heap.size 3 j0 _ 1 8 Try.underlying50 hj0 hy0 hy1 hy2 rfl (by decide) (.slice av i cv) i (dv (List.range' (b + 1) i)) rfl H5.out.own ⟨zb, 0, none⟩ 1 1 [.int .i64 y] rfl rfl NEW.out ?a2 ?a3 ?a4 ?a5 ?_
          case a2 => intro u hu; simp at hu; subst hu; rfl
          case a3 => unfold maxLen; omega
          case a4 => omega
          case a5 => exact H5.out.base
          intro v9 z9 hown9 hg9 hat9
          obtain ⟨av9, cv9, rfl, h9⟩ := H5.out.app hown9 hg9 hat9 HY.out
          obtain ⟨gc, gf⟩ := h9.cell
          have H9 := Lib.hid h9
          clear hown9 hg9 hat9 h9 H5 NEW
          go_simp
          refine hK.out _ _ trivial (fun g1 => ?_)
          clear hK K9 g
          have g := g1
          clear g1
          clear z3
          refine tq 12 ?_ rfl (by kernel_rfl) (fun _ _ _ h => h) (by rfl) g ?_ ?_; rotate_left
          · intro w9 h9; go_simp; try with_reducible rfl
          simp only [Act.put, ptA, ptB, ptC]
          refine tq 13 ?_ rfl (by kernel_rfl) (fun _ _ _ h => h) (by rfl) g ?_ ?_; rotate_left
          · intro w9 h9; go_simp; try with_reducible rfl
          simp only [Act.put, ptA, ptB, ptC]
          refine tc 14 rfl (by kernel_rfl) (fun K9 hK => ?_)
          have HD := Lib.hid (H9.out.store (.slice av9 (i + 1) cv9))
          have gx : (z9.setCell ⟨G, 0, none⟩ (.slice av9 (i + 1) cv9)).heap.size = z9.heap.size := by simp
          clear H9 gx
          go_simp
          refine hK.out _ _ trivial (fun g1 => ?_)
          clear hK K9 g
          have g := g1
          clear g1
          clear gc gf
          generalize (z9.setCell ⟨G, 0, none⟩ (.slice av9 (i + 1) cv9)) = z10 at *
          clear g
          refine wpAnyH_done (by kernel_rfl) ?_ _
          go_wp2
          go_roundw
          case rel => exact ⟨i + 1, av9, cv9, by omega, by go_num, HR8.out _ _ _ HD.out⟩
          case measure => simp [intOf]; omega
        · refine step_make_own rfl _ _ _ rfl 5 i0 _ Try.underlying31 hi0 hz0 hz1 rfl _ _ sz rfl rfl ?a1 ?a2 ?_
          case a1 => rw [hz2]; omega
          case a2 => unfold maxLen; omega
          intro adn z1 hadn hown hb
          have H3 := Lib.hid (H2.out.slice hown hb)
          clear hadn hown hb
          clear H2
          go_simp
          refine hK.out _ _ trivial (fun g1 => ?_)
          clear hK K9 g
          have g := g1
          clear g1
          clear z
          refine wpAnyH_ready (rs := [4, 9]) (by kernel_rfl) (by simp) (tr 4 rfl (fun K9 hK => ?_) (tr 9 rfl (fun K9 hK => ?_) AllReadyH.nil))
          · have gc := H3.out.cell.1
            go_simp
            refine hK.out _ _ trivial (fun g1 => ?_)
            clear hK K9 g
            have g := g1
            clear g1
            clear gc
            refine tc 9 rfl (by kernel_rfl) (fun K9 hK => ?_)
            go_simp
            with_reducible refine (H3.out.make z2 (by rw [LL1.out.2]; omega)).mono ?_
            rintro e z2w ⟨rfl, q⟩
            rw [LL1.out.1]
            have HY : Hid ((b : Int) + i + 1 = ((b + 1 + i : Nat) : Int)) := Lib.hid (by push_cast; omega)
            have hyb : (b : Int) + i + 1 ≤ 1000 := by omega
            have hyc : 0 ≤ (b : Int) + i + 1 := by omega
            generalize hyy : (b : Int) + i + 1 = y at *
            clear hyy
            have H4 := Lib.hid q
            clear q H3
            go_simp
            refine hK.out _ _ trivial (fun g1 => ?_)
            clear hK K9 g
            have g := g1
            clear g1
            clear z1
            refine tc 10 rfl (by kernel_rfl) (fun K9 hK => ?_)
            have H5 := Lib.hid (H4.out.grow ((Below.refl _ _).alloc (Nat.le_refl _) (.cells #[.int .i64 y] 3)))
            have NEW : Hid (∀ j2 u, [Value.int .i64 y][j2]? = some u → (z2w.alloc (.cells #[.int .i64 y] 3)).cell? ((⟨z2w.heap.size, 0, none⟩ : Addr).add j2) = some u) := Lib.hid (cell_one_new z2w (.int .i64 y) 3)
            go_simp
            refine hK.out _ _ trivial (fun g1 => ?_)
            clear hK K9 g
            have g := g1
            clear g1
            generalize hzb : z2w.heap.size = zb at *
            generalize (z2w.alloc (.cells #[.int .i64 y] 3)) = z3 at *
            clear hzb H4 z2w
            refine tc 11 rfl (by kernel_rfl) (fun K9 hK => ?_)
            refine step_append_own_at rfl (.tmp 21) (.tmp 27) _ rfl w0.heap.size 3 j0 _ 1 8 Try.underlying50 hj0 hy0 hy1 hy2 rfl (by decide) (.slice av i cv) i (dv (List.range' (b + 1) i)) rfl H5.out.own ⟨zb, 0, none⟩ 1 1 [.int .i64 y] rfl rfl NEW.out ?a2 ?a3 ?a4 ?a5 ?_
            case a2 => intro u hu; simp at hu; subst hu; rfl
            case a3 => unfold maxLen; omega
            case a4 => omega
            case a5 => exact H5.out.base
            intro v9 z9 hown9 hg9 hat9
            obtain ⟨av9, cv9, rfl, h9⟩ := H5.out.app hown9 hg9 hat9 HY.out
            obtain ⟨gc, gf⟩ := h9.cell
            have H9 := Lib.hid h9
            clear hown9 hg9 hat9 h9 H5 NEW
            go_simp
            refine hK.out _ _ trivial (fun g1 => ?_)
            clear hK K9 g
            have g := g1
            clear g1
            clear z3
            refine tq 12 ?_ rfl (by kernel_rfl) (fun _ _ _ h => h) (by rfl) g ?_ ?_; rotate_left
            · intro w9 h9; go_simp; try with_reducible rfl
            simp only [Act.put, ptA, ptB, ptC]
            refine tq 13 ?_ rfl (by kernel_rfl) (fun _ _ _ h => h) (by rfl) g ?_ ?_; rotate_left
            · intro w9 h9; go_simp; try with_reducible rfl
            simp only [Act.put, ptA, ptB, ptC]
            refine tc 14 rfl (by kernel_rfl) (fun K9 hK => ?_)
            have HD := Lib.hid (H9.out.store (.slice av9 (i + 1) cv9))
            have gx : (z9.setCell ⟨G, 0, none⟩ (.slice av9 (i + 1) cv9)).heap.size = z9.heap.size := by simp
            clear H9 gx
            go_simp
            refine hK.out _ _ trivial (fun g1 => ?_)
            clear hK K9 g
            have g := g1
            clear g1
            clear gc gf
            generalize (z9.setCell ⟨G, 0, none⟩ (.slice av9 (i + 1) cv9)) = z10 at *
            clear g
            refine wpAnyH_done (by kernel_rfl) ?_ _
            go_wp2
            go_roundw
            case rel => exact ⟨i + 1, av9, cv9, by omega, by go_num, HR8.out _ _ _ HD.out⟩
            case measure => simp [intOf]; omega
          · go_simp
            with_reducible refine (H3.out.make z2 (by rw [LL1.out.2]; omega)).mono ?_
            rintro e z2w ⟨rfl, q⟩
            rw [LL1.out.1]
            have HY : Hid ((b : Int) + i + 1 = ((b + 1 + i : Nat) : Int)) := Lib.hid (by push_cast; omega)
            have hyb : (b : Int) + i + 1 ≤ 1000 := by omega
            have hyc : 0 ≤ (b : Int) + i + 1 := by omega
            generalize hyy : (b : Int) + i + 1 = y at *
            clear hyy
            have H4 := Lib.hid q
            clear q H3
            go_simp
            refine hK.out _ _ trivial (fun g1 => ?_)
            clear hK K9 g
            have g := g1
            clear g1
            clear z1
            refine wpAnyH_ready (rs := [4, 10]) (by kernel_rfl) (by simp) (tr 4 rfl (fun K9 hK => ?_) (tr 10 rfl (fun K9 hK => ?_) AllReadyH.nil))
            · have gc := H4.out.cell.1
              go_simp
              refine hK.out _ _ trivial (fun g1 => ?_)
              clear hK K9 g
              have g := g1
              clear g1
              clear gc
              refine tc 10 rfl (by kernel_rfl) (fun K9 hK => ?_)
              have H5 := Lib.hid (H4.out.grow ((Below.refl _ _).alloc (Nat.le_refl _) (.cells #[.int .i64 y] 3)))
              have NEW : Hid (∀ j2 u, [Value.int .i64 y][j2]? = some u → (z2w.alloc (.cells #[.int .i64 y] 3)).cell? ((⟨z2w.heap.size, 0, none⟩ : Addr).add j2) = some u) := Lib.hid (cell_one_new z2w (.int .i64 y) 3)
              go_simp
              refine hK.out _ _ trivial (fun g1 => ?_)
              clear hK K9 g
              have g := g1
              clear g1
              generalize hzb : z2w.heap.size = zb at *
              generalize (z2w.alloc (.cells #[.int .i64 y] 3)) = z3 at *
              clear hzb H4 z2w
              refine tc 11 rfl (by kernel_rfl) (fun K9 hK => ?_)
              refine step_append_own_at rfl (.tmp 21) (.tmp 27) _ rfl w0.heap.size 3 j0 _ 1 8 Try.underlying50 hj0 hy0 hy1 hy2 rfl (by decide) (.slice av i cv) i (dv (List.range' (b + 1) i)) rfl H5.out.own ⟨zb, 0, none⟩ 1 1 [.int .i64 y] rfl rfl NEW.out ?a2 ?a3 ?a4 ?a5 ?_
              case a2 => intro u hu; simp at hu; subst hu; rfl
              case a3 => unfold maxLen; omega
              case a4 => omega
              case a5 => exact H5.out.base
              intro v9 z9 hown9 hg9 hat9
              obtain ⟨av9, cv9, rfl, h9⟩ := H5.out.app hown9 hg9 hat9 HY.out
              obtain ⟨gc, gf⟩ := h9.cell
              have H9 := Lib.hid h9
              clear hown9 hg9 hat9 h9 H5 NEW
              go_simp
              refine hK.out _ _ trivial (fun g1 => ?_)
              clear hK K9 g
              have g := g1
              clear g1
              clear z3
              refine tq 12 ?_ rfl (by kernel_rfl) (fun _ _ _ h => h) (by rfl) g ?_ ?_; rotate_left
              · intro w9 h9; go_simp; try with_reducible rfl
              simp only [Act.put, ptA, ptB, ptC]
              refine tq 13 ?_ rfl (by kernel_rfl) (fun _ _ _ h => h) (by rfl) g ?_ ?_; rotate_left
              · intro w9 h9; go_simp; try with_reducible rfl
              simp only [Act.put, ptA, ptB, ptC]
              refine tc 14 rfl (by kernel_rfl) (fun K9 hK => ?_)
              have HD := Lib.hid (H9.out.store (.slice av9 (i + 1) cv9))
              have gx : (z9.setCell ⟨G, 0, none⟩ (.slice av9 (i + 1) cv9)).heap.size = z9.heap.size := by simp
              clear H9 gx
              go_simp
              refine hK.out _ _ trivial (fun g1 => ?_)
              clear hK K9 g
              have g := g1
              clear g1
              clear gc gf
              generalize (z9.setCell ⟨G, 0, none⟩ (.slice av9 (i + 1) cv9)) = z10 at *
              clear g
              refine wpAnyH_done (by kernel_rfl) ?_ _
              go_wp2
              go_roundw
              case rel => exact ⟨i + 1, av9, cv9, by omega, by go_num, HR8.out _ _ _ HD.out⟩
              case measure => simp [intOf]; omega
            · have H5 := Lib.hid (H4.out.grow ((Below.refl _ _).alloc (Nat.le_refl _) (.cells #[.int .i64 y] 3)))
              have NEW : Hid (∀ j2 u, [Value.int .i64 y][j2]? = some u → (z2w.alloc (.cells #[.int .i64 y] 3)).cell? ((⟨z2w.heap.size, 0, none⟩ : Addr).add j2) = some u) := Lib.hid (cell_one_new z2w (.int .i64 y) 3)
              go_simp
              refine hK.out _ _ trivial (fun g1 => ?_)
              clear hK K9 g
              have g := g1
              clear g1
              generalize hzb : z2w.heap.size = zb at *
              generalize (z2w.alloc (.cells #[.int .i64 y] 3)) = z3 at *
              clear hzb H4 z2w
              refine tc 4 rfl (by kernel_rfl) (fun K9 hK => ?_)
              have gc := H5.out.cell.1
              go_simp
              refine hK.out _ _ trivial (fun g1 => ?_)
              clear hK K9 g
              have g := g1
              clear g1
              clear gc
              refine tc 11 rfl (by kernel_rfl) (fun K9 hK => ?_)
              refine step_append_own_at rfl (.tmp 21) (.tmp 27) _ rfl w0.heap.size 3 j0 _ 1 8 Try.underlying50 hj0 hy0 hy1 hy2 rfl (by decide) (.slice av i cv) i (dv (List.range' (b + 1) i)) rfl H5.out.own ⟨zb, 0, none⟩ 1 1 [.int .i64 y] rfl rfl NEW.out ?a2 ?a3 ?a4 ?a5 ?_
              case a2 => intro u hu; simp at hu; subst hu; rfl
              case a3 => unfold maxLen; omega
              case a4 => omega
              case a5 => exact H5.out.base
              intro v9 z9 hown9 hg9 hat9
              obtain ⟨av9, cv9, rfl, h9⟩ := H5.out.app hown9 hg9 hat9 HY.out
              obtain ⟨gc, gf⟩ := h9.cell
              have H9 := Lib.hid h9
              clear hown9 hg9 hat9 h9 H5 NEW
              go_simp
              refine hK.out _ _ trivial (fun g1 => ?_)
              clear hK K9 g
              have g := g1
              clear g1
              clear z3
              refine tq 12 ?_ rfl (by kernel_rfl) (fun _ _ _ h => h) (by rfl) g ?_ ?_; rotate_left
              · intro w9 h9; go_simp; try with_reducible rfl
              simp only [Act.put, ptA, ptB, ptC]
              refine tq 13 ?_ rfl (by kernel_rfl) (fun _ _ _ h => h) (by rfl) g ?_ ?_; rotate_left
              · intro w9 h9; go_simp; try with_reducible rfl
              simp only [Act.put, ptA, ptB, ptC]
              refine tc 14 rfl (by kernel_rfl) (fun K9 hK => ?_)
              have HD := Lib.hid (H9.out.store (.slice av9 (i + 1) cv9))
              have gx : (z9.setCell ⟨G, 0, none⟩ (.slice av9 (i + 1) cv9)).heap.size = z9.heap.size := by simp
              clear H9 gx
              go_simp
              refine hK.out _ _ trivial (fun g1 => ?_)
              clear hK K9 g
              have g := g1
              clear g1
              clear gc gf
              generalize (z9.setCell ⟨G, 0, none⟩ (.slice av9 (i + 1) cv9)) = z10 at *
              clear g
              refine wpAnyH_done (by kernel_rfl) ?_ _
              go_wp2
              go_roundw
              case rel => exact ⟨i + 1, av9, cv9, by omega, by go_num, HR8.out _ _ _ HD.out⟩
              case measure => simp [intOf]; omega
    · obtain rfl : i = n := by omega
      have HD : Hid (RNewA w0 A X k L i sz (.returned (.pointer (some ⟨G, 0, none⟩))) wr) := Lib.hid (by
        obtain ⟨A', h1, h2, h3, h4, h5⟩ := HI.out
        refine ⟨G, A', rfl, h1, h2, ⟨_, h3, ?_⟩, h5⟩
        rw [List.length_range', HB.out]
        exact h4)
      clear HI
      go_wp2_with fail
      with_reducible refine (W1 _).mono ?_
      rintro e w' ⟨rfl, rfl⟩
      go_wp2
      go_ret
      exact HD.out
end Go.Proofs.Ythdgdkjaeebbcaa
