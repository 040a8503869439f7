/-
  What the document's answer of layer 2 makes of an instruction (Width, bytes, One): contracts. Conditions: the numbers are of 64 bits.
-/
import Derived.Test.YtlimhdnpdhjdaaaInsnRef
namespace Go.Proofs.Ytlimhdnpdhjdaaa
open Go.RowKit Wi Ow
set_option linter.unusedVariables false
set_option linter.unusedSimpArgs false

def widOf (k : Nat) : Int := if k = 0 then 4 else if k = 1 then 2 else if k = 2 then 1 else 8
/-- None of the first k sizes and the first c classes of the next is op's. -/
def WRel (op : Int) (k c : Nat) : Prop := (∀ j d : Nat, j < k → 1 ≤ d → d ≤ 3 → op ≠ 96 + 8 * (j : Int) + (d : Int)) ∧ (∀ d : Nat, 1 ≤ d → d < c → op ≠ 96 + 8 * (k : Int) + (d : Int))
set_option maxHeartbeats 1000000 in
theorem refwidth_any (op dst src off imm : Int) (w : World) :
    Calls Try.prog 16 #[.agg #[.int .i64 op, .int .i64 dst, .int .i64 src, .int .i64 off, .int .i64 imm]] w fun e w' => e = .returned (.int .i64 (widthV op)) ∧ Below w.heap.size w w' := by
  go_enter Try.func16, Try.ntmps16
  go_wp2
  go_loop [3] (fun i => ∃ k : Nat, k ≤ 4 ∧ i = .int .i64 k ∧ Hid (WRel op k 1)) (fun i => 4 - (intOf i).toNat)
  case atStart => exact ⟨0, Nat.zero_le _, rfl, Lib.hid ⟨fun j d h => absurd h (by omega), fun d h1 h2 => absurd h1 (by omega)⟩⟩
  case round =>
    obtain ⟨k, hk, rfl, hW⟩ := hrel
    by_cases hlt : k < 4
    · go_wp2
      go_loop [4] (fun i => ∃ c : Nat, 1 ≤ c ∧ c ≤ 4 ∧ i = .int .i64 c ∧ Hid (WRel op k c)) (fun i => 4 - (intOf i).toNat)
      case atStart => exact ⟨1, by omega, by omega, rfl, hW⟩
      case round =>
        clear hW
        obtain ⟨c, hc1, hc4, rfl, hW⟩ := hrel
        by_cases hclt : c < 4
        · have hle3 : (c : Int) ≤ 3 := by omega
          by_cases he : op = 96 + 8 * (k : Int) + (c : Int)
          · have he' : (op == 96 + 8 * (k : Int) + (c : Int)) = true := by simpa using he
            have HE := Lib.hid he
            clear he
            have hk4 : k = 0 ∨ k = 1 ∨ k = 2 ∨ k = 3 := by omega
            have hc : ∀ i : Nat, i < 4 → widthV (96 + 8 * (i : Int) + (c : Int)) = widOf i := by
              intro i hi
              have h1 : c = 1 ∨ c = 2 ∨ c = 3 := by omega
              have h2 : i = 0 ∨ i = 1 ∨ i = 2 ∨ i = 3 := by omega
              rcases h1 with rfl | rfl | rfl <;> rcases h2 with rfl | rfl | rfl | rfl <;> decide
            have HC := Lib.hid (hc k hlt)
            clear hc hW
            rcases hk4 with rfl | rfl | rfl | rfl
            all_goals
              go_wp2
              go_ret
              refine ⟨rt_i ?_, ?_⟩
              · rw [HE.out, HC.out]; rfl
              · exact ((Below.refl _ _).alloc (Nat.le_refl _) _).alloc (by simp) _
          · have he' : (op == 96 + 8 * (k : Int) + (c : Int)) = false := by simpa using he
            have HN : Hid (WRel op k (c + 1)) := Lib.hid ⟨hW.out.1, fun d h1 h2 => by
              by_cases e : d = c
              · subst e; exact he
              · exact hW.out.2 d h1 (by omega)⟩
            clear he hW
            go_wp2
            go_round
            case rel => exact ⟨c + 1, by omega, by omega, by go_num, HN⟩
            case measure => simp [intOf]; omega
        · have HN : Hid (WRel op (k + 1) 1) := Lib.hid ⟨fun j d h1 h2 h3 => by
            by_cases e : j = k
            · subst e; exact hW.out.2 d h2 (by omega)
            · exact hW.out.1 j d (by omega) h2 h3, fun d h1 h2 => absurd h1 (by omega)⟩
          clear hW
          go_wp2
          go_round
          case rel => exact ⟨k + 1, by omega, by go_num, HN⟩
          case measure => simp [intOf]; omega
    · have hz : widthV op = 0 := by
        unfold widthV
        rw [if_neg]
        rintro ⟨h1, h2, h3⟩
        have h4 := hW.out.1 ((op - 96) / 8).toNat (op % 8).toNat (by omega) (by omega) (by omega)
        omega
      have HZ := Lib.hid hz
      clear hz hW
      go_wp2
      go_ret
      exact ⟨rt_i HZ.out.symm, (Below.refl _ _).alloc (Nat.le_refl _) _⟩
theorem sizeV_bd_ (op : Int) : sizeV op = 1 ∨ sizeV op = 2 := by unfold sizeV; split <;> simp
theorem shv_u (v : Int) (k : Nat) (h1 : 0 ≤ v) (h2 : v ≤ 18446744073709551615) : 0 ≤ shv v k ∧ shv v k ≤ 18446744073709551615 := by
  induction k with
  | zero => rw [shv_zero]; exact ⟨h1, h2⟩
  | succ k ih => rw [shv_succ]; omega
set_option maxHeartbeats 1000000 in
theorem refbytes_any (v : Int) (n : Nat) (h1 : 0 ≤ v) (h2 : v ≤ 18446744073709551615) (hn : n ≤ 8) (w : World) :
    Calls Try.prog 55 #[.int .u64 v, .int .i64 n] w fun e w' => ∃ v', e = .returned v' ∧ w'.ownsRow w.heap.size 5 1 v' (lowB v n).length (bv (lowB v n)) ∧ Below w.heap.size w w' := by
  obtain ⟨i0, hi0, hz0, hz1, hz2⟩ := info_parts byte_info
  go_enter Try.func55, Try.ntmps55
  go_wp2
  go_loopw [0, 5, 6] (fun t b i wr => ∃ k : Nat, k ≤ n ∧ i = .int .i64 k ∧ t = .int .u64 (shv v k) ∧ Hid (wr.ownsRow w.heap.size 5 1 b (lowB v k).length (bv (lowB v k))) ∧ Hid (Below w.heap.size w wr)) (fun _ _ i _ => n - (intOf i).toNat)
  case atStart => exact ⟨0, Nat.zero_le _, rfl, by rw [shv_zero], Lib.hid (World.ownsRow_nil _ _ _ _), Lib.hid (Below.refl _ _)⟩
  case round =>
    obtain ⟨k, hk, rfl, rfl, ho, hb⟩ := hrel
    have hv := shv_u v k h1 h2
    by_cases hlt : k < n
    · have HL := Lib.hid (lowB_len v k)
      go_wp2_with (at_builtin; refine wpList_append_own_at _ rfl (.tmp 12) (.tmp 16) _ rfl w.heap.size 5 i0 _ 1 1 Try.underlying31 hi0 hz0 hz1 hz2 rfl (by decide) _ _ _ rfl (ho.out.alloc _) ⟨wr.heap.size, 0, none⟩ 1 1 _ rfl rfl (cell_one_new _ _ _) ?c2 ?c3 ?c4 ?c5 ?_)
      case c2 => intro u hu; simp at hu; subst hu; rfl
      case c3 => rw [HL.out]; unfold maxLen; omega
      case c4 => rw [HL.out]; omega
      case c5 => have := hb.out.size; simp; omega
      intro v1 w1 hown1 hg1 _ hat1
      have R1 : Hid (Below w.heap.size w w1) := Lib.hid ((hb.out.alloc (by have := hb.out.size; omega) _).grown hg1 (by have := hb.out.size; simp; omega) fun j hj => (ho.out.lt j hj).1)
      have R2 := Lib.hid hown1
      clear hown1 hg1 hat1 ho hb
      go_wp2
      go_roundw
      case rel => exact ⟨k + 1, by omega, by go_num, by rw [shv_succ], Lib.hid (own_cast R2.out (by simp [lowB_succ, Nat.add_assoc]) (by simp [lowB_succ, bv])), R1⟩
      case measure => simp [intOf]; omega
    · obtain rfl : k = n := by omega
      go_wp2
      go_ret
      exact ⟨_, rfl, ho.out, hb.out⟩
theorem shv_mod (v : Int) (k : Nat) (hk : k < 8) : shv (v % 18446744073709551616) k % 256 = shv v k % 256 := by
  have h : k = 0 ∨ k = 1 ∨ k = 2 ∨ k = 3 ∨ k = 4 ∨ k = 5 ∨ k = 6 ∨ k = 7 := by omega
  unfold shv
  rcases h with rfl | rfl | rfl | rfl | rfl | rfl | rfl | rfl <;> simp <;> omega
theorem lowB_mod (v : Int) (n : Nat) (hn : n ≤ 8) : lowB (v % 18446744073709551616) n = lowB v n := by
  unfold lowB
  refine List.map_congr_left fun k hk => shv_mod v k ?_
  have := List.mem_range.1 hk
  omega
theorem shv_down (v : Int) (k : Nat) : shv v (k + 4) = shv (v / 4294967296) k := by
  unfold shv
  rw [Int.pow_add, Int.mul_comm, Int.ediv_ediv_of_nonneg (by decide)]
  rfl
theorem lowB_eight (v : Int) : lowB v 8 = lowB v 4 ++ lowB (v / 4294967296) 4 := by
  have e : List.range 8 = List.range 4 ++ (List.range 4).map (· + 4) := by decide
  unfold lowB
  rw [e, List.map_append, List.map_map]
  congr 1
  refine List.map_congr_left fun k _ => ?_
  simp only [Function.comp]
  rw [shv_down]
theorem lowB_at (v : Int) (n k : Nat) (h : k < n) : (bv (lowB v n))[k]? = some (.int .u8 (shv v k % 256)) := by
  unfold bv lowB
  rw [List.getElem?_map, List.getElem?_map, List.getElem?_range h]
  rfl
theorem shv_nil (k : Nat) : shv 0 k = 0 := by unfold shv; simp
theorem lowB_byte (v : Int) (n : Nat) : ∀ b ∈ lowB v n, 0 ≤ b ∧ b ≤ 255 := by
  intro b hb
  unfold lowB at hb
  obtain ⟨k, _, rfl⟩ := List.mem_map.1 hb
  omega
theorem refbytes_wrap (v : Int) (n : Nat) (hn : n ≤ 8) (w : World) :
    Calls Try.prog 55 #[.int .u64 (IntKind.u64.wrap v), .int .i64 n] w fun e w' => ∃ v', e = .returned v' ∧ w'.ownsRow w.heap.size 5 1 v' n (bv (lowB v n)) ∧ Below w.heap.size w w' := by
  have e : IntKind.u64.wrap v = v % 18446744073709551616 := by simp [IntKind.wrap, IntKind.bits, IntKind.signed]
  rw [e]
  refine (refbytes_any _ n (by omega) (by omega) hn w).mono ?_
  rintro e w' ⟨v', rfl, h1, h2⟩
  exact ⟨v', rfl, own_cast h1 (lowB_len _ _) (by rw [lowB_mod _ _ hn]), h2⟩
/-- What One knows while it appends: the bytes so far; the two rows that it appends from; its instruction. -/
structure OneR (w : World) (op dst src off imm : Int) (ao ai : Addr) (b : Value) (wr : World) (L : List Int) : Prop where
  own : wr.ownsRow w.heap.size 5 1 b L.length (bv L)
  rdO : ∀ j u, (bv (lowB off 2))[j]? = some u → wr.cell? (ao.add j) = some u
  rdI : ∀ j u, (bv (lowB imm 8))[j]? = some u → wr.cell? (ai.add j) = some u
  ltO : ao.block < wr.heap.size
  ltI : ai.block < wr.heap.size
  neO : b.ownBlock ≠ some ao.block
  neI : b.ownBlock ≠ some ai.block
  box : Bk wr w.heap.size 23 #[.int .i64 op, .int .i64 dst, .int .i64 src, .int .i64 off, .int .i64 imm]
  neX : b.ownBlock ≠ some w.heap.size
  below : Below w.heap.size w wr
theorem OneR.step {w wr w1 : World} {op dst src off imm : Int} {ao ai : Addr} {b v1 : Value} {L : List Int} {c : Int} {n : Nat} {o : Obj} (h : OneR w op dst src off imm ao ai b wr L) (ho : w1.ownsRow w.heap.size 5 1 v1 n (bv L ++ [.int .u8 c])) (hn : n = L.length + 1)
    (hg : (wr.alloc o).grownBy w1 b.ownBlock) (hat : v1.ownBlock = b.ownBlock ∨ v1.ownBlock = some (wr.heap.size + 1)) : OneR w op dst src off imm ao ai v1 w1 (L ++ [c]) := by
  have ha : Apd wr w1 b v1 := apd_step (Apd.refl wr b) hg hat
  have hs := h.below.size
  have hsz := ha.size
  have hcell : ∀ (a : Addr) (xs : List Value), a.block < wr.heap.size → b.ownBlock ≠ some a.block → (∀ j u, xs[j]? = some u → wr.cell? (a.add j) = some u) → ∀ j u, xs[j]? = some u → w1.cell? (a.add j) = some u :=
    fun a xs hl hne hr j u hu => (ha.cell (by rw [add_block]; exact hl) (by rw [add_block]; exact hne)).trans (hr j u hu)
  exact ⟨own_cast ho (by rw [hn]; simp) (by simp [bv]), hcell ao _ h.ltO h.neO h.rdO, hcell ai _ h.ltI h.neI h.rdI, by have := h.ltO; omega, by have := h.ltI; omega, apd_ne ha h.neO h.ltO, apd_ne ha h.neI h.ltI,
    h.box.apd ha h.neX, apd_ne ha h.neX h.box.lt, h.below.trans (ha.below hs fun k hk => (h.own.lt k hk).1)⟩
theorem OneR.low {w wr : World} {op dst src off imm : Int} {ao ai : Addr} {b : Value} {L : List Int} (h : OneR w op dst src off imm ao ai b wr L) : ∃ A c, b = .slice A L.length c := by
  obtain ⟨A, cap, e, _⟩ := own_form h.own
  exact ⟨A, cap, e⟩
set_option maxRecDepth 100000 in
set_option maxHeartbeats 2000000 in
theorem refone_any (op dst src off imm : Int) (g1 : 0 ≤ op) (g2 : op ≤ 255) (g3 : 0 ≤ dst) (g4 : dst ≤ 10) (g5 : 0 ≤ src) (g6 : src ≤ 10) (ho : i64 off) (hi : i64 imm) (w : World) :
    Calls Try.prog 41 #[.agg #[.int .i64 op, .int .i64 dst, .int .i64 src, .int .i64 off, .int .i64 imm]] w fun e w' => ∃ v, e = .returned v ∧ w'.ownsRow w.heap.size 5 1 v (oneB op dst src off imm).length (bv (oneB op dst src off imm)) ∧ Below w.heap.size w w' := by
  obtain ⟨i0, hi0, hz0, hz1, hz2⟩ := info_parts byte_info
  have HO := Lib.hid ho
  have HI := Lib.hid hi
  clear ho hi
  go_enter Try.func41, Try.ntmps41
  go_wp2_with fail
  refine (refbytes_wrap off 2 (by omega) _).mono ?_
  rintro e w1 ⟨vo, rfl, qo, qb⟩
  obtain ⟨Ao, co, rfl, hco, hmo, hAo⟩ := own_form qo
  obtain ⟨go, rfl, hgo1, hgo2⟩ := hAo (by omega)
  have B1 := Lib.hid (below_box (below_box qb))
  have K1 := Lib.hid (((Bk.new w 23 #[.int .i64 op, .int .i64 dst, .int .i64 src, .int .i64 off, .int .i64 imm]).alloc (.cells #[.int .u8 op, .int .u8 (16 * src + dst)] 5)).below qb (by simp; omega))
  have O1 : Hid (w1.ownsRow w.heap.size 5 1 (.slice (some ⟨w.heap.size + 1, 0, none⟩) 2 2) 2 (bv [op, 16 * src + dst])) := Lib.hid (by
    have h := World.ownsRow_lit (base := w.heap.size) (e := 5) (size := 1) (w.alloc (.cells #[.int .i64 op, .int .i64 dst, .int .i64 src, .int .i64 off, .int .i64 imm] 23)) #[.int .u8 op, .int .u8 (16 * src + dst)] 2 (by simp) (by unfold maxLen; omega) rfl
    have h2 := own_below h qb
    simpa [bv] using h2)
  have RO := Lib.hid (qo.cells (g := go) rfl)
  have hg1 : w.heap.size + 2 ≤ go := by simpa using hgo1
  clear qo qb hAo hgo1
  obtain ⟨c10, c11, c12, c13, c14⟩ := box_cells K1.out
  go_wp2_with fail
  refine (refbytes_wrap imm 8 (by omega) _).mono ?_
  rintro e w2 ⟨vi, rfl, qo, qb⟩
  obtain ⟨Ai, ci, rfl, hci, hmi, hAi⟩ := own_form qo
  obtain ⟨gi, rfl, hgi1, hgi2⟩ := hAi (by omega)
  have R : Hid (OneR w op dst src off imm ⟨go, 0, none⟩ ⟨gi, 0, none⟩ (.slice (some ⟨w.heap.size + 1, 0, none⟩) 2 2) w2 [op, 16 * src + dst]) := Lib.hid
    ⟨own_below O1.out qb, fun j u hu => (qb.cell (by rw [add_block]; exact hgo2)).trans (RO.out j u hu), qo.cells (g := gi) rfl, by have := qb.size; simp only; omega, hgi2, by simp [Value.ownBlock]; omega, by simp [Value.ownBlock]; omega, K1.out.below qb K1.out.lt, by simp [Value.ownBlock], below_then B1.out qb (Nat.le_refl _)⟩
  generalize (⟨go, 0, none⟩ : Addr) = ao at *
  generalize (⟨gi, 0, none⟩ : Addr) = ai at *
  clear qo qb hAi hgi1 hgi2 hgo2 hg1 B1 K1 O1 RO c10 c11 c12 c13 c14
  go_wp2
  go_loopw [3, 6] (fun b i wr => ∃ k : Nat, k ≤ 2 ∧ i = .int .i64 k ∧ Hid (OneR w op dst src off imm ao ai b wr ([op, 16 * src + dst] ++ lowB off k))) (fun _ i _ => 2 - (intOf i).toNat)
  case atStart => exact ⟨0, Nat.zero_le _, rfl, R⟩
  case round =>
    clear R
    obtain ⟨k, hk, rfl, hR⟩ := hrel
    by_cases hlt : k < 2
    · have hc : wr.cell? (ao.add k) = some (.int .u8 (shv off k % 256)) := hR.out.rdO k _ (lowB_at off 2 k hlt)
      go_wp2_with (at_builtin; refine wpList_append_own_at _ rfl (.tmp 33) (.tmp 38) _ rfl w.heap.size 5 i0 _ 1 1 Try.underlying31 hi0 hz0 hz1 hz2 rfl (by decide) _ _ _ rfl (hR.out.own.alloc _) ⟨wr.heap.size, 0, none⟩ 1 1 _ rfl rfl (cell_one_new _ _ _) ?a2 ?a3 ?a4 ?a5 ?_)
      case a2 => intro u hu; simp at hu; subst hu; rfl
      case a3 => simp [lowB_len]; unfold maxLen; omega
      case a4 => simp [lowB_len]; omega
      case a5 => have := hR.out.below.size; simp; omega
      intro v1 w1 hown1 hg1 _ hat1
      have R1 := Lib.hid (hR.out.step hown1 (by simp) hg1 hat1)
      clear hown1 hg1 hat1 hR
      go_wp2
      go_roundw
      case rel => exact ⟨k + 1, by omega, by go_num, Lib.hid (by have h := R1.out; rw [lowB_succ off k]; simpa using h)⟩
      case measure => simp [intOf]; omega
    · have R : Hid (OneR w op dst src off imm ao ai u3 wr ([op, 16 * src + dst] ++ lowB off 2)) := Lib.hid (by rw [show 2 = k by omega]; exact hR.out)
      clear hR
      go_wp2
      go_loopw [3, 7] (fun b i wr => ∃ k : Nat, k ≤ 4 ∧ i = .int .i64 k ∧ Hid (OneR w op dst src off imm ao ai b wr ([op, 16 * src + dst] ++ lowB off 2 ++ lowB imm k))) (fun _ i _ => 4 - (intOf i).toNat)
      case atStart => exact ⟨0, Nat.zero_le _, rfl, by rw [lowB_zero, List.append_nil]; exact R⟩
      case round =>
        clear R
        obtain ⟨k, hk, rfl, hR⟩ := hrel
        by_cases hlt : k < 4
        · have hc : wr.cell? (ai.add k) = some (.int .u8 (shv imm k % 256)) := hR.out.rdI k _ (lowB_at imm 8 k (by omega))
          go_wp2_with (at_builtin; refine wpList_append_own_at _ rfl (.tmp 44) (.tmp 49) _ rfl w.heap.size 5 i0 _ 1 1 Try.underlying31 hi0 hz0 hz1 hz2 rfl (by decide) _ _ _ rfl (hR.out.own.alloc _) ⟨wr.heap.size, 0, none⟩ 1 1 _ rfl rfl (cell_one_new _ _ _) ?b2 ?b3 ?b4 ?b5 ?_)
          case b2 => intro u hu; simp at hu; subst hu; rfl
          case b3 => simp [lowB_len]; unfold maxLen; omega
          case b4 => simp [lowB_len]; omega
          case b5 => have := hR.out.below.size; simp; omega
          intro v1 w1 hown1 hg1 _ hat1
          have R1 := Lib.hid (hR.out.step hown1 (by simp [Nat.add_assoc]) hg1 hat1)
          clear hown1 hg1 hat1 hR
          go_wp2
          go_roundw
          case rel => exact ⟨k + 1, by omega, by go_num, Lib.hid (by have h := R1.out; rw [lowB_succ imm k]; simpa using h)⟩
          case measure => simp [intOf]; omega
        · have R : Hid (OneR w op dst src off imm ao ai u3 wr ([op, 16 * src + dst] ++ lowB off 2 ++ lowB imm 4)) := Lib.hid (by rw [show 4 = k by omega]; exact hR.out)
          clear hR
          obtain ⟨c0, c1, c2, c3, c4⟩ := box_cells R.out.box
          by_cases h24 : op = 24
          · have h24' : (op != 24) = false := by simpa using h24
            have H24 := Lib.hid h24
            clear h24
            go_wp2
            clear c0 c1 c2 c3 c4
            go_loopw [3, 8] (fun b i wr => ∃ k : Nat, k ≤ 4 ∧ i = .int .i64 k ∧ Hid (OneR w op dst src off imm ao ai b wr ([op, 16 * src + dst] ++ lowB off 2 ++ lowB imm 4 ++ lowB 0 k))) (fun _ i _ => 4 - (intOf i).toNat)
            case atStart => exact ⟨0, Nat.zero_le _, rfl, by rw [lowB_zero, List.append_nil]; exact R⟩
            case round =>
              clear R
              obtain ⟨k, hk, rfl, hR⟩ := hrel
              by_cases hlt : k < 4
              · go_wp2_with (at_builtin; refine wpList_append_own_at _ rfl (.tmp 59) (.tmp 60) _ rfl w.heap.size 5 i0 _ 1 1 Try.underlying31 hi0 hz0 hz1 hz2 rfl (by decide) _ _ _ rfl (hR.out.own.alloc _) ⟨wr.heap.size, 0, none⟩ 1 1 _ rfl rfl (cell_one_new _ _ _) ?c2 ?c3 ?c4 ?c5 ?_)
                case c2 => intro u hu; simp at hu; subst hu; rfl
                case c3 => simp [lowB_len]; unfold maxLen; omega
                case c4 => simp [lowB_len]; omega
                case c5 => have := hR.out.below.size; simp; omega
                intro v1 w1 hown1 hg1 _ hat1
                have R1 := Lib.hid (hR.out.step hown1 (by simp [Nat.add_assoc]) hg1 hat1)
                clear hown1 hg1 hat1 hR
                go_wp2
                go_roundw
                case rel => exact ⟨k + 1, by omega, by go_num, Lib.hid (by have h := R1.out; rw [lowB_succ 0 k, shv_nil]; simpa using h)⟩
                case measure => simp [intOf]; omega
              · have R : Hid (OneR w op dst src off imm ao ai u3 wr ([op, 16 * src + dst] ++ lowB off 2 ++ lowB imm 4 ++ lowB 0 4)) := Lib.hid (by rw [show 4 = k by omega] at hR ⊢; exact hR.out)
                clear hR
                go_wp2
                go_loopw [3, 9] (fun b i wr => ∃ k : Nat, k ≤ 4 ∧ i = .int .i64 ((k + 4 : Nat) : Int) ∧ Hid (OneR w op dst src off imm ao ai b wr ([op, 16 * src + dst] ++ lowB off 2 ++ lowB imm 4 ++ lowB 0 4 ++ lowB (imm / 4294967296) k))) (fun _ i _ => 8 - (intOf i).toNat)
                case atStart => exact ⟨0, Nat.zero_le _, rfl, by rw [lowB_zero, List.append_nil]; exact R⟩
                case round =>
                  clear R
                  obtain ⟨k, hk, rfl, hR⟩ := hrel
                  by_cases hlt : k < 4
                  · have hc : wr.cell? (ai.add (k + 4)) = some (.int .u8 (shv (imm / 4294967296) k % 256)) := hR.out.rdI (k + 4) _ (by rw [← shv_down]; exact lowB_at imm 8 (k + 4) (by omega))
                    have hlt8 : k + 4 < 8 := by omega
                    obtain ⟨q, hq⟩ : ∃ q, q = k + 4 := ⟨_, rfl⟩
                    rw [← hq] at hc hlt8 ⊢
                    have HQ := Lib.hid hq
                    have hq4 : 4 ≤ q := by omega
                    clear hq
                    go_wp2_with (at_builtin; refine wpList_append_own_at _ rfl (.tmp 66) (.tmp 71) _ rfl w.heap.size 5 i0 _ 1 1 Try.underlying31 hi0 hz0 hz1 hz2 rfl (by decide) _ _ _ rfl (hR.out.own.alloc _) ⟨wr.heap.size, 0, none⟩ 1 1 _ rfl rfl (cell_one_new _ _ _) ?d2 ?d3 ?d4 ?d5 ?_)
                    case d2 => intro u hu; simp at hu; subst hu; rfl
                    case d3 => simp [lowB_len]; unfold maxLen; omega
                    case d4 => simp [lowB_len]; omega
                    case d5 => have := hR.out.below.size; simp; omega
                    intro v1 w1 hown1 hg1 _ hat1
                    have R1 := Lib.hid (hR.out.step hown1 (by simp [Nat.add_assoc]) hg1 hat1)
                    clear hown1 hg1 hat1 hR
                    go_wp2
                    go_roundw
                    case rel => exact ⟨k + 1, by omega, by rw [HQ.out]; go_num, Lib.hid (by have h := R1.out; rw [lowB_succ (imm / 4294967296) k]; simpa using h)⟩
                    case measure => simp [intOf]; omega
                  · have R : Hid (OneR w op dst src off imm ao ai u3 wr (oneB op dst src off imm)) := Lib.hid (by
                      have e : oneB op dst src off imm = [op, 16 * src + dst] ++ lowB off 2 ++ lowB imm 4 ++ lowB 0 4 ++ lowB (imm / 4294967296) k := by rw [show k = 4 by omega]; unfold oneB; rw [if_pos H24.out]; simp
                      rw [e]; exact hR.out)
                    have hk4 : 8 ≤ k + 4 := by omega
                    clear hR
                    go_wp2
                    go_ret
                    exact ⟨_, rfl, R.out.own, R.out.below⟩
          · have h24' : (op != 24) = true := by simpa using h24
            have H24 := Lib.hid h24
            clear h24
            go_wp2
            go_ret
            have e : oneB op dst src off imm = [op, 16 * src + dst] ++ lowB off 2 ++ lowB imm 4 := by unfold oneB; rw [if_neg H24.out]; simp
            exact ⟨_, rfl, by rw [e]; exact R.out.own, R.out.below⟩
end Go.Proofs.Ytlimhdnpdhjdaaa
