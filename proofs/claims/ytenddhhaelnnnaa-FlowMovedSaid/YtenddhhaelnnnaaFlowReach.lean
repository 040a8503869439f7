/-
  What the program's flow.Reached and flow.Heads tell: contracts. Conditions: operations of a byte.
-/
import Derived.Test.YtenddhhaelnnnaaFlowNext
import Derived.WalkMore
import Derived.Deep.LoopGhost
namespace Go.Proofs.Ytenddhhaelnnnaa
open Go.RowKit Wi Ow Fl
set_option linter.unusedVariables false
set_option linter.unusedSimpArgs false

theorem bool_info : (Try.prog.info? 4).map (fun i => (i.zero, i.size, i.bytes)) = some (some (.bool false), 1, 1) := by kernel_rfl
/-- make of a row of one-cell elements, as a row of our own. -/
theorem wp_make_own {P : Program} (w : World) {ops : Array Oper} {rest : List Oper} {o : Oper} {a : Act} {Q : Exit → Act → World → Prop}
    (hg : o.guard = none) (l c : Operand) (t : TypeId) (hop : o.op = Op.makeSlice t l c)
    (e : TypeId) (i : TypeInfo) (z : Value) (ht : P.underlying t = some (.slice e)) (hi : P.info? e = some i) (hz : i.zero = some z) (hsize : i.size = 1) (hz1 : z.cells = #[z])
    (kl kc : IntKind) (n : Nat) (hl : a.eval l = .int kl (n : Int)) (hc : a.eval c = .int kc (n : Int)) (hbytes : i.bytes * n ≤ 281474976710656) (h63 : n ≤ maxLen)
    (hK : ∀ (ad : Addr) (w' : World), ad.block = w.heap.size → w'.ownsRow w.heap.size e 1 (.slice (some ad) n n) n (List.replicate n z) → Below w.heap.size w w' → wpList P ops Q rest (a.put o.dst (.slice (some ad) n n)) w') :
    wpList P ops Q (o :: rest) a w := by
  refine wpList_make_row w hg l c t hop e i z ht hi hz hsize hz1 kl kc n hl hc hbytes (by have := h63; unfold maxLen at this; omega) ?_
  refine hK ⟨w.heap.size, 0, none⟩ _ rfl ?_ ((Below.refl _ _).alloc (Nat.le_refl _) _)
  have := World.ownsRow_lit (base := w.heap.size) (e := e) (size := 1) w (madeCells #[z] n) n (Nat.le_refl _) h63 (by rw [size_madeCells]; omega)
  rw [toList_madeCells_one] at this
  exact this
theorem add_zero_at (g j : Nat) : (⟨g, 0, none⟩ : Addr).add j = ⟨g, j, none⟩ := by unfold Addr.add; split <;> simp_all
/-- A row of our own, one cell an element: what is at a place; a store there. -/
theorem own_ad {w : World} {base : Nat} {e : TypeId} {n cap : Nat} {xs : List Value} {ad : Addr} (h : w.ownsRow base e 1 (.slice (some ad) n cap) n xs) : ∃ g, ad = ⟨g, 0, none⟩ := by
  rcases h.2 with ⟨h', _⟩ | ⟨g', cap', cur, h', _⟩
  · simp at h'
  · simp only [Value.slice.injEq, Option.some.injEq] at h'
    exact ⟨g', h'.1⟩
theorem own_at {w : World} {base : Nat} {e : TypeId} {n cap : Nat} {xs : List Value} {ad : Addr} (h : w.ownsRow base e 1 (.slice (some ad) n cap) n xs) (j : Nat) (hj : j < n) : w.cell? (ad.add j) = xs[j]? ∧ w.frozen? (ad.add j) = false := by
  obtain ⟨g, rfl⟩ := own_ad h
  rw [add_zero_at]
  exact ⟨h.cellAt j (by omega), h.frozenAt j⟩
theorem own_put {w : World} {base : Nat} {e : TypeId} {n cap : Nat} {xs : List Value} {ad : Addr} (h : w.ownsRow base e 1 (.slice (some ad) n cap) n xs) (j : Nat) (u : Value) : (w.setCell (ad.add j) u).ownsRow base e 1 (.slice (some ad) n cap) n (xs.set j u) ∧ w.grownBy (w.setCell (ad.add j) u) (some ad.block) := by
  obtain ⟨g, rfl⟩ := own_ad h
  rw [add_zero_at]
  exact h.stored j u
/-- The list of what was found, and the marks. -/
structure Wd (w : World) (ad : Addr) (n : Nat) (b : Value) (wr : World) (Q : List Nat) (R : List Bool) : Prop where
  list : wr.ownsRow w.heap.size 3 1 b Q.length (nv Q)
  marks : wr.ownsRow w.heap.size 4 1 (.slice (some ad) n n) n (ov R)
  below : Below w.heap.size w wr
  apart : b.ownBlock ≠ some ad.block
theorem Wd.next {w wr w2 : World} {ad : Addr} {n : Nat} {b : Value} {Q : List Nat} {R : List Bool} (h : Wd w ad n b wr Q R) (hb : Below wr.heap.size wr w2) : Wd w ad n b w2 Q R :=
  ⟨own_below h.list hb, own_below h.marks hb, below_then h.below hb (Nat.le_refl _), h.apart⟩
theorem Wd.mark {w wr : World} {ad : Addr} {n : Nat} {b : Value} {Q : List Nat} {R : List Bool} (h : Wd w ad n b wr Q R) (j : Nat) : Wd w ad n b (wr.setCell (ad.add j) (.bool true)) Q (R.set j true) := by
  obtain ⟨h1, h2⟩ := own_put h.marks j (.bool true)
  rw [ov_set] at h1
  have hne : b.ownBlock = none ∨ b.ownBlock ≠ some ad.block := .inr h.apart
  exact ⟨h.list.kept h2 hne, h1, h.below.grown h2 h.below.size (fun k hk => by injection hk with hk; subst hk; exact (h.marks.lt ad.block rfl).1), h.apart⟩
theorem Wd.push {w wr w1 : World} {ad : Addr} {n m : Nat} {b b1 : Value} {Q : List Nat} {R : List Bool} {o : Obj} {j : Nat} (h : Wd w ad n b wr Q R) (ho : w1.ownsRow w.heap.size 3 1 b1 m (nv Q ++ [.int .i64 (j : Int)])) (hm : m = Q.length + 1) (hg : (wr.alloc o).grownBy w1 b.ownBlock) (hat : b1.ownBlock = b.ownBlock ∨ ∃ g, b1.ownBlock = some g ∧ wr.heap.size ≤ g) : Wd w ad n b1 w1 (Q ++ [j]) R := by
  have hlt := (h.marks.lt ad.block rfl).2
  refine ⟨own_cast ho (by rw [hm]; simp) (by rw [nv_app]; rfl), (h.marks.alloc o).kept hg (.inr fun e => h.apart e.symm), (h.below.alloc (by have := h.below.size; omega) o).grown hg (by have := h.below.size; simp; omega) fun k hk => (h.list.lt k hk).1, ?_⟩
  rcases hat with e | ⟨g, e, hg2⟩
  · rw [e]; exact h.apart
  · rw [e]; intro he; injection he with he; omega
theorem Wd.start {w w1 : World} {ad : Addr} {n : Nat} (had : ad.block = w.heap.size) (h : w1.ownsRow w.heap.size 4 1 (.slice (some ad) n n) n (List.replicate n (.bool false))) (hb : Below w.heap.size w w1) :
    Wd w ad n (.slice (some ⟨w1.heap.size, 0, none⟩) 1 1) ((w1.setCell ad (.bool true)).alloc (.cells #[.int .i64 0] 3)) [0] ((List.replicate n false).set 0 true) := by
  obtain ⟨h1, h2⟩ := own_put h 0 (.bool true)
  have e0 : ad.add 0 = ad := rfl
  have e1 : (List.replicate n (Value.bool false)).set 0 (.bool true) = ov ((List.replicate n false).set 0 true) := by rw [← ov_set]; simp [ov]
  have hlt := (h.lt ad.block rfl).2
  rw [e0] at h1 h2
  rw [e1] at h1
  have hsz : (w1.setCell ad (.bool true)).heap.size = w1.heap.size := by simp
  have hw := hb.size
  refine ⟨?_, h1.alloc _, (hb.grown h2 hb.size (fun k hk => by injection hk with hk; omega)).alloc (by rw [hsz]; exact hw) _, ?_⟩
  · have := World.ownsRow_lit (base := w.heap.size) (e := 3) (size := 1) (w1.setCell ad (.bool true)) #[.int .i64 0] 1 (by rw [hsz]; exact hw) (by unfold maxLen; omega) rfl
    rw [hsz] at this
    exact this
  · intro e
    simp only [Value.ownBlock] at e
    injection e with e
    omega
/-- What Next told, beside the list and the marks. -/
structure Nx (w : World) (ad : Addr) (v b : Value) (wr : World) (l : List Int) : Prop where
  own : wr.ownsRow w.heap.size 3 1 v l.length (zv l)
  apart : v.ownBlock = none ∨ (v.ownBlock ≠ b.ownBlock ∧ v.ownBlock ≠ some ad.block)
theorem Nx.start {w wr w2 : World} {ad : Addr} {n : Nat} {v b : Value} {Q : List Nat} {R : List Bool} {l : List Int} (h : Wd w ad n b wr Q R) (ho : OwnZ wr v w2 l) : Nx w ad v b w2 l := by
  refine ⟨own_base ho.own h.below.size, ?_⟩
  cases hv : v.ownBlock with
  | none => exact .inl rfl
  | some k =>
    have h1 := (ho.own.lt k hv).1
    refine .inr ⟨fun e => ?_, fun e => ?_⟩
    · have := (h.list.lt k e.symm).2; omega
    · injection e with e; have := (h.marks.lt ad.block rfl).2; omega
theorem Nx.mark {w wr : World} {ad : Addr} {n : Nat} {v b : Value} {Q : List Nat} {R : List Bool} {l : List Int} (h : Wd w ad n b wr Q R) (x : Nx w ad v b wr l) (j : Nat) : Nx w ad v b (wr.setCell (ad.add j) (.bool true)) l :=
  ⟨x.own.kept (own_put h.marks j (.bool true)).2 (x.apart.imp id (·.2)), x.apart⟩
theorem Nx.push {w wr w1 : World} {ad : Addr} {v b b1 : Value} {l : List Int} {o : Obj} (x : Nx w ad v b wr l) (hg : (wr.alloc o).grownBy w1 b.ownBlock) (hat : b1.ownBlock = b.ownBlock ∨ ∃ g, b1.ownBlock = some g ∧ wr.heap.size ≤ g) : Nx w ad v b1 w1 l := by
  refine ⟨(x.own.alloc o).kept hg (x.apart.imp id (·.1)), ?_⟩
  cases hv : v.ownBlock with
  | none => exact .inl rfl
  | some k =>
    have h1 := (x.own.lt k hv).2
    rcases x.apart with h | h
    · rw [hv] at h; cases h
    · rw [hv] at h
      refine .inr ⟨fun e => ?_, h.2⟩
      rcases hat with e2 | ⟨g, e2, hg2⟩
      · rw [e2] at e; exact h.1 e
      · rw [e2] at e; injection e with e; omega
set_option maxHeartbeats 4000000 in
theorem reached_core (A B : Option Addr) (n c m d : Nat) (nx : Nat → List Nat) (h0 : 0 < n) (h1 : n ≤ 1000000) (w : World)
    (HNX : Hid (∀ (k : Nat) (w1 : World), k < n → Below w.heap.size w w1 → Calls Try.prog 14 #[.slice A n c, .slice B m d, .int .i64 k] w1 fun e w' => ∃ v, e = .returned v ∧ OwnZ w1 v w' ((nx k).map fun (j : Nat) => (j : Int))))
    (HLT : Hid (∀ (k j : Nat), j ∈ nx k → j < n)) (HLE : Hid (∀ (k : Nat), (nx k).length ≤ 2)) :
    Calls Try.prog 16 #[.slice A n c, .slice B m d] w fun e w' => ∃ v R, e = .returned v ∧ w'.ownsRow w.heap.size 4 1 v n (ov R) ∧ Fl.Found n nx R ∧ Below w.heap.size w w' := by
  obtain ⟨i0, hi0, hz0, hz1, hz2⟩ := info_parts bool_info
  obtain ⟨i1, hi1, hy0, hy1, hy2⟩ := info_parts int_info
  go_enter Try.func16, Try.ntmps16
  go_wp2_with fail
  go_step3
  go_wp2_with (refine wp_make_own _ rfl _ _ _ rfl 4 i0 _ Try.underlying33 hi0 hz0 hz1 rfl _ _ n rfl rfl ?a1 ?a2 ?_)
  case a1 => rw [hz2]; omega
  case a2 => unfold maxLen; omega
  intro ad w1 had hown hb1
  have hne : ((n : Int) == 0) = false := by simp; omega
  obtain ⟨c0, f0⟩ := own_at hown 0 h0
  rw [List.getElem?_replicate, if_pos h0] at c0
  have c0' : w1.cell? ad = some (.bool false) := c0
  have f0' : w1.frozen? ad = false := f0
  have i2 : (0 : Int) < (n : Int) := by omega
  have ST := Lib.hid (Wd.start had hown hb1)
  clear c0 f0 hown hb1
  go_wp2_with fail
  go_step3
  go_wp2_with fail
  clear c0' f0'
  go_loopw [6, 7] (fun b kk wr => ∃ (k : Nat) (Q : List Nat) (R : List Bool), kk = .int .i64 k ∧ k ≤ Q.length ∧ Q.length ≤ n ∧ Hid (Wd w ad n b wr Q R) ∧ Hid (Bfs n nx Q R) ∧ Hid (Did nx Q k)) (fun _ kk _ => n - (intOf kk).toNat)
  case atStart => exact ⟨0, [0], _, rfl, by simp, by simp; omega, ST, Lib.hid (Bfs.first h0), Lib.hid (fun i q hi => absurd hi (by omega))⟩
  case round =>
    clear ST had
    obtain ⟨k, Q, R, rfl, hk, hQn, hW, hB, hD⟩ := hrel
    obtain ⟨AQ, cq, rfl, hcq, hmq, _⟩ := own_form hW.out.list
    unfold maxLen at hmq
    by_cases hlt : k < Q.length
    · obtain ⟨aq, rfl, _, hcx⟩ := (Rd.of_own hW.out.list) (by rw [nv_len]; omega)
      have cx := hcx k _ (nv_get Q k hlt)
      have hq : Hid (Q[k]? = some Q[k]) := Lib.hid (List.getElem?_eq_getElem hlt)
      have hqn : Q[k] < n := hB.out.lt _ (List.getElem_mem hlt)
      have hqr : Hid (Fl.Reach nx Q[k]) := Lib.hid (hB.out.reach _ (List.getElem_mem hlt))
      generalize Q[k] = q at *
      clear hcx
      have j1 : (0 : Int) ≤ (k : Int) := by omega
      have j2 : (k : Int) < (Q.length : Int) := by omega
      go_wp2_with fail
      refine (HNX.out q wr hqn hW.out.below).mono ?_
      rintro e w2 ⟨v, rfl, ho⟩
      have X := Lib.hid (Nx.start hW.out ho)
      have W2 := Lib.hid (hW.out.next ho.below)
      clear ho hW cx
      have hl2 := HLE.out q
      obtain ⟨AV, cv, rfl, hcv, hmv, _⟩ := own_form X.out.own
      unfold maxLen at hmv
      rw [List.length_map] at hcv X
      go_wp2_with fail
      go_loopw [6, 34] (fun b i w3 => ∃ (r : Nat) (Q' : List Nat) (R' : List Bool), i = .int .i64 r ∧ r ≤ (nx q).length ∧ Q'.length ≤ n ∧ k < Q'.length ∧ Hid (Wd w ad n b w3 Q' R') ∧ Hid (Bfs n nx Q' R') ∧ Hid (Did nx Q' k) ∧ Hid (Q'[k]? = some q) ∧ Hid (∀ j, j ∈ (nx q).take r → j ∈ Q') ∧ Hid (Nx w ad (.slice AV (nx q).length cv) b w3 ((nx q).map fun (j : Nat) => (j : Int)))) (fun _ i _ => (nx q).length - (intOf i).toNat)
      case atStart => exact ⟨0, Q, R, rfl, Nat.zero_le _, hQn, hlt, W2, hB, hD, hq, Lib.hid (by simp), X⟩
      case round =>
        clear W2 X hB hD hq
        obtain ⟨r, Q', R', rfl, hr, hQ', hkQ, hW, hB, hD, hq, hT, hX⟩ := hrel
        by_cases hlr : r < (nx q).length
        · have oX := own_cast hX.out.own (List.length_map _) rfl
          obtain ⟨av, rfl, _, hcy⟩ := (Rd.of_own oX) (by rw [zv_len, List.length_map]; omega)
          have hrm : r < ((nx q).map fun (j : Nat) => (j : Int)).length := by rw [List.length_map]; exact hlr
          have cy := hcy r _ (zv_get _ r hrm)
          rw [List.getElem_map] at cy
          have hj : (nx q)[r] < n := HLT.out q _ (List.getElem_mem hlr)
          have hjr : Hid (Fl.Reach nx (nx q)[r]) := Lib.hid (Fl.Reach.step hqr.out (List.getElem_mem hlr))
          have hts : Hid (∀ S : List Nat, (∀ j, j ∈ (nx q).take r → j ∈ S) → (nx q)[r] ∈ S → ∀ j, j ∈ (nx q).take (r + 1) → j ∈ S) := Lib.hid fun S hS hm j hj => by
            rw [List.take_succ_eq_append_getElem hlr, List.mem_append] at hj
            rcases hj with hj | hj
            · exact hS j hj
            · simp at hj; subst hj; exact hm
          generalize (nx q)[r] = j at *
          clear hcy oX hrm
          have hjl : j < R'.length := by rw [hB.out.len]; exact hj
          obtain ⟨cj, fj⟩ := own_at hW.out.marks j hj
          rw [ov_get R' j hjl] at cj
          have k1 : (0 : Int) ≤ (r : Int) := by omega
          have k2 : (r : Int) < ((nx q).length : Int) := by omega
          have k3 : (0 : Int) ≤ (j : Int) := by omega
          have k4 : (j : Int) < (n : Int) := by omega
          have hmk : Hid (R'[j]? = some R'[j]) := Lib.hid (List.getElem?_eq_getElem hjl)
          obtain ⟨AQ', cq', rfl, hcq', hmq', _⟩ := own_form hW.out.list
          unfold maxLen at hmq'
          generalize R'[j] = bj at *
          cases bj
          · have hB2 := Lib.hid (hB.out.push hj hmk.out hjr.out)
            have hW2 := Lib.hid (hW.out.mark j)
            have hX2 := Lib.hid (hX.out.mark hW.out j)
            have hD2 := Lib.hid (hD.out.more (by omega) [j])
            have hq2 : Hid ((Q' ++ [j])[k]? = some q) := Lib.hid (by rw [List.getElem?_append_left hkQ]; exact hq.out)
            have hT2 := Lib.hid (hts.out (Q' ++ [j]) (fun i hi => List.mem_append_left _ (hT.out i hi)) (by simp))
            have hle2 := hB2.out.le
            rw [List.length_append, List.length_singleton] at hle2
            go_wp2_with (at_builtin; refine wpList_append_own_at _ rfl (.tmp 45) (.tmp 47) _ rfl w.heap.size 3 i1 _ 1 8 Try.underlying26 hi1 hy0 hy1 hy2 rfl (by decide) _ _ _ rfl (hW2.out.list.alloc _) ⟨wr.heap.size, 0, none⟩ 1 1 [.int .i64 (j : Int)] rfl rfl (new_cells' _ #[.int .i64 (j : Int)] (by simp)) (one_int _) ?a3 ?a4 ?a5 ?_)
            case a3 => unfold maxLen; omega
            case a4 => omega
            case a5 => have := hW2.out.below.size; simp at this; simp; omega
            intro v1 w4 hown1 hg1 _ hat1
            have hW3 := Lib.hid (hW2.out.push hown1 rfl hg1 (hat1.imp id fun e => ⟨_, e, by simp⟩))
            have hX3 := Lib.hid (hX2.out.push hg1 (hat1.imp id fun e => ⟨_, e, by simp⟩))
            clear hown1 hg1 hat1 hW hW2 hX hX2 cj fj cy
            obtain ⟨AQ2, cq2, rfl, hcq2, hmq2, _⟩ := own_form hW3.out.list
            unfold maxLen at hmq2
            rw [List.length_append, List.length_singleton] at hcq2
            by_cases hfull : Q'.length + 1 = n
            · have hf2 : (((Q' ++ [j]).length : Int) == (n : Int)) = true := by simp; omega
              go_wp2
              try rw [Exit.noGoto_ret]
              go_ret
              exact ⟨_, _, rfl, hW3.out.marks, hB2.out.all (by simp; omega), hW3.out.below⟩
            · have hf2 : (((Q' ++ [j]).length : Int) == (n : Int)) = false := by simp; omega
              go_wp2
              go_roundw
              case rel => exact ⟨r + 1, Q' ++ [j], _, by go_num, by omega, by simp; omega, by simp; omega, hW3, hB2, hD2, hq2, hT2, hX3⟩
              case measure => simp [intOf]; omega
          · have hT2 := Lib.hid (hts.out Q' hT.out ((hB.out.mark j).1 hmk.out))
            go_wp2
            go_roundw
            case rel => exact ⟨r + 1, Q', R', by go_num, by omega, hQ', hkQ, hW, hB, hD, hq, hT2, hX⟩
            case measure => simp [intOf]; omega
        · have hD2 : Hid (Did nx Q' (k + 1)) := Lib.hid (hD.out.succ hq.out (fun j hj => hT.out j (by rw [List.take_of_length_le (by omega)]; exact hj)))
          clear hX hT hq
          go_wp2
          go_roundw
          case rel => exact ⟨k + 1, Q', R', by go_num, by omega, hQ', hW, hB, hD2⟩
          case measure => simp [intOf]; omega
    · have hD2 : Hid (Did nx Q Q.length) := Lib.hid (by have : k = Q.length := by omega
                                                        subst this; exact hD.out)
      go_wp2
      try rw [Exit.noGoto_ret]
      go_ret
      exact ⟨_, _, rfl, hW.out.marks, hB.out.done hD2.out.all, hW.out.below⟩
theorem reached_any (A B : Option Addr) (n c m d : Nat) (L : List In) (t : List Int) (hn : L.length = n) (ho : ∀ x ∈ L, okI x) (ht : t.length = m) (h0 : 0 < n) (h1 : n ≤ 1000000) (h2 : m ≤ 1000000) (w : World) (hL : Rd w w.heap.size A (iv L)) (hT : Rd w w.heap.size B (zv t)) :
    Calls Try.prog 16 #[.slice A n c, .slice B m d] w fun e w' => ∃ v R, e = .returned v ∧ w'.ownsRow w.heap.size 4 1 v n (ov R) ∧ Fl.Found n (fun (i : Nat) => nxt L t (i : Int)) R ∧ Below w.heap.size w w' :=
  reached_core A B n c m d (fun (i : Nat) => nxt L t (i : Int)) h0 h1 w
    (Lib.hid fun k w1 hk hb => next_in A B n c m d L t k hn ho ht h1 h2 hk w1 ((hL.below hb).mono hb.size) ((hT.below hb).mono hb.size))
    (Lib.hid fun k j h => by have := nxt_lt L t k j h; omega) (Lib.hid fun k => nxt_len L t k)
end Go.Proofs.Ytenddhhaelnnnaa
