/-
  Layer 9's program: New: contract. Conditions: 900 cells at most.
-/
import Derived.Test.YthdgdkjaeebbcaaArrayProg
import Derived.Deep.OwnRows
namespace Go.Proofs.Ythdgdkjaeebbcaa
set_option maxRecDepth 100000
open Go.RowKit Ow Ph Ro K2
set_option linter.unusedVariables false
set_option linter.unusedSimpArgs false
theorem wp_make_own {P : Program} (w : World) {ops : Array Oper} {rest : List Oper} {o : Oper} {a : Act} {Q : Exit → Act → World → Prop}
    (hg : o.guard = none) (l c : Operand) (t : TypeId) (hop : o.op = Op.makeSlice t l c)
    (e : TypeId) (i : TypeInfo) (z : Value) (ht : P.underlying t = some (.slice e)) (hi : P.info? e = some i) (hz : i.zero = some z) (hsize : i.size = 1) (hz1 : z.cells = #[z])
    (kl kc : IntKind) (n : Nat) (hl : a.eval l = .int kl (n : Int)) (hc : a.eval c = .int kc (n : Int)) (hbytes : i.bytes * n ≤ 281474976710656) (h63 : n ≤ maxLen)
    (hK : ∀ (ad : Addr) (w' : World), ad.block = w.heap.size → w'.ownsRow w.heap.size e 1 (.slice (some ad) n n) n (List.replicate n z) → Below w.heap.size w w' → wpList P ops Q rest (a.put o.dst (.slice (some ad) n n)) w') :
    wpList P ops Q (o :: rest) a w := by
  refine wpList_make_row w hg l c t hop e i z ht hi hz hsize hz1 kl kc n hl hc hbytes (by have := h63; unfold maxLen at this; omega) ?_
  refine hK ⟨w.heap.size, 0, none⟩ _ rfl ?_ ((Below.refl _ _).alloc (Nat.le_refl _) _)
  have := World.ownsRow_lit (base := w.heap.size) (e := e) (size := 1) w (madeCells #[z] n) n (Nat.le_refl _) h63 (by rw [size_madeCells]; omega)
  rw [toList_madeCells_one] at this
  exact this
theorem info9 {P : Program} {t : TypeId} {z : Value} {a b : Nat} (h : (P.info? t).map (fun i => (i.zero, i.size, i.bytes)) = some (some z, a, b)) : ∃ i, P.info? t = some i ∧ i.zero = some z ∧ i.size = a ∧ i.bytes = b := by
  cases hi : P.info? t with
  | none => rw [hi] at h; cases h
  | some i =>
    rw [hi] at h
    simp only [Option.map_some, Option.some.injEq, Prod.mk.injEq] at h
    exact ⟨i, rfl, h.1, h.2.1, h.2.2⟩
theorem byte9 : (Try.prog.info? 5).map (fun i => (i.zero, i.size, i.bytes)) = some (some (.int .u8 0), 1, 1) := by kernel_rfl
theorem int9 : (Try.prog.info? 3).map (fun i => (i.zero, i.size, i.bytes)) = some (some (.int .i64 0), 1, 8) := by kernel_rfl
/-- A cell of noughts. -/
def zc (sz : Nat) : Cl := ⟨List.replicate sz 0, [], false, false⟩
theorem zc_take {sz : Nat} (h : sz ≤ 64) : (⟨(List.replicate sz (0 : Int)).take 64, [], false, false⟩ : Cl) = zc sz := by
  unfold zc; rw [List.take_of_length_le (by simpa using h)]
/-- i cells made, the numbers of j of them in the list. -/
def NewI (w0 : World) (A : Ac) (P k : Nat) (L : List Cl) (n sz : Nat) (ad adn : Addr) (i j : Nat) (z : World) : Prop :=
  ∃ A', Lay w0 A' z ∧ PS A' P (L ++ List.replicate i (zc sz)) ∧ Row A' (21, k) 3 1 (.slice (some ad) n n) n (dv (List.range' (L.length + 1) j ++ List.replicate (n - j) 0)) ∧
    Reads w0 A' (24, 0) (some adn) (bv (List.replicate sz 0)) ∧ ∀ x : Rl, 10 ≤ x.1 → x ≠ (21, k) → x ≠ (24, 0) → A' x = A x
theorem NewI.make {w0 z : World} {A : Ac} {P k : Nat} {L : List Cl} {n sz : Nat} {ad adn : Addr} {i : Nat} (h : NewI w0 A P k L n sz ad adn i i z) (hsz : sz ≤ 64) (hn : L.length + i ≤ 899) :
    Calls Try.prog 23 #[.pointer (some ⟨P, 0, none⟩), .slice (some adn) sz sz] z (fun e z' => e = .returned (.int .i64 ((L.length + i + 1 : Nat) : Int)) ∧ NewI w0 A P k L n sz ad adn (i + 1) i z') := by
  obtain ⟨A', h1, h2, h3, h4, h5⟩ := h
  refine (make_k h1 h2 (by rw [List.length_append, List.length_replicate]; omega) (some adn) sz sz (List.replicate sz 0) (by simp) (Nat.le_refl _) (by omega) (fun e => by cases e) (r := (24, 0)) (by simp) h4).mono fun e w' hm => ?_
  obtain ⟨rfl, A2, l1, l2, l3⟩ := hm
  refine ⟨rt_i9 (by rw [List.length_append, List.length_replicate]; push_cast; rfl), A2, l1, ?_, h3.keep (l3 _ (by simp)), h4.keep (l3 _ (by simp)), fun x hx h6 h7 => (l3 x hx).trans (h5 x hx h6 h7)⟩
  rw [zc_take hsz, List.append_assoc] at l2
  rw [List.replicate_succ']
  exact l2
theorem rng_put (a n j : Nat) (hj : j < n) : (dv (List.range' a j ++ List.replicate (n - j) 0)).set j (.int .i64 ((a + j : Nat) : Int)) = dv (List.range' a (j + 1) ++ List.replicate (n - (j + 1)) 0) := by
  unfold dv
  rw [List.map_append, List.set_append_right _ _ (by simp)]
  rw [List.range'_concat, List.append_assoc, List.map_append]
  congr 1
  obtain ⟨m, hm⟩ : ∃ m, n - j = m + 1 := ⟨n - j - 1, by omega⟩
  rw [hm, show n - (j + 1) = m by omega, List.replicate_succ]
  simp
theorem NewI.put {w0 z : World} {A : Ac} {P k : Nat} {L : List Cl} {n sz : Nat} {ad adn : Addr} {i : Nat} (h : NewI w0 A P k L n sz ad adn (i + 1) i z) (hi : i < n) :
    (z.cell? (ad.add i)).isSome = true ∧ z.frozen? (ad.add i) = false ∧ NewI w0 A P k L n sz ad adn (i + 1) (i + 1) (z.setCell (ad.add i) (.int .i64 ((L.length + i + 1 : Nat) : Int))) := by
  obtain ⟨A', h1, h2, h3, h4, h5⟩ := h
  obtain ⟨c1, c2⟩ := own_at (h3.own h1) i hi
  obtain ⟨A2, l1, l2, l3⟩ := h3.put h1 i (.int .i64 ((L.length + i + 1 : Nat) : Int))
  refine ⟨?_, c2, A2, l1, h2.keep (fun x hx => l3 x (fun e => by rw [e] at hx; simp at hx)), ?_, h4.keep (l3 _ (by simp)), fun x hx h6 h7 => (l3 x h6).trans (h5 x hx h6 h7)⟩
  · rw [c1]
    unfold dv
    simp
    omega
  · rw [show L.length + i + 1 = L.length + 1 + i by omega, rng_put _ _ _ hi] at l2
    exact l2
def NewA (w0 : World) (A : Ac) (P k : Nat) (L : List Cl) (n sz : Nat) (e : Ending) (w' : World) : Prop :=
  ∃ G A', e = .returned (.pointer (some ⟨G, 0, none⟩)) ∧ Lay w0 A' w' ∧ PS A' P (L ++ List.replicate n (zc sz)) ∧ ArrAt 86 20 A' k G (List.range' (L.length + 1) n) ∧ ∀ x : Rl, 10 ≤ x.1 → x ≠ (20, k) → x ≠ (21, k) → x ≠ (24, 0) → A' x = A x
theorem NewI.done {w0 z : World} {A : Ac} {P k : Nat} {L : List Cl} {n sz : Nat} {ad adn : Addr} (h : NewI w0 A P k L n sz ad adn n n z) :
    NewA w0 A P k L n sz (.returned (.pointer (some ⟨z.heap.size, 0, none⟩))) (z.alloc (.cells #[.slice (some ad) n n] 86)) := by
  obtain ⟨A', h1, h2, h3, h4, h5⟩ := h
  refine ⟨_, _, rfl, h1.new (20, k) (o := .cells #[.slice (some ad) n n] 86) ((Below.refl _ _).alloc (Nat.le_refl _) _) (Nat.le_refl _) (heap_alloc_new z _), h2.keep (fun x hx => up_other _ _ _ (fun e => by rw [e] at hx; simp at hx)), ⟨_, up_same _ _ _ _, ?_⟩, fun x hx h6 h7 h8 => by rw [up_other _ _ _ h6]; exact h5 x hx h7 h8⟩
  rw [Nat.sub_self, List.replicate_zero, List.append_nil] at h3
  rw [List.length_range']
  exact h3.keep (up_other _ _ _ (by simp))
set_option maxHeartbeats 1000000 in
theorem arrnew_c {w0 w : World} {A : Ac} {P : Nat} {L : List Cl} (hl : Lay w0 A w) (h : PS A P L) (k : Nat) (hn : L.length ≤ 800) (m s : Int) (m1 : -9223372036854775808 ≤ m) (m2 : m ≤ 9223372036854775807) (s1 : -9223372036854775808 ≤ s) (s2 : s ≤ 9223372036854775807) :
    Calls Try.prog 31 #[.pointer (some ⟨P, 0, none⟩), .int .i64 m, .int .i64 s] w (NewA w0 A P k L (cl64 m) (cl64 s)) := by
  obtain ⟨i0, hi0, hz0, hz1, hz2⟩ := info9 byte9
  obtain ⟨j0, hj0, hy0, hy1, hy2⟩ := info9 int9
  have W1 := within_any m m1 m2
  have W2 := within_any s s1 s2
  have n1 := cl64_ge m
  have n2 := cl64_le m
  have z1 := cl64_ge s
  have z2 := cl64_le s
  generalize cl64 m = n at *
  generalize cl64 s = sz at *
  have HL := Lib.hid hl
  have HP := Lib.hid h
  clear hl h
  go_enter Try.func31, Try.ntmps31
  go_wp2_with fail
  with_reducible refine (W1 _).mono ?_
  rintro e w' ⟨rfl, rfl⟩
  go_wp2_with fail
  with_reducible refine (W2 _).mono ?_
  rintro e w' ⟨rfl, rfl⟩
  go_wp2_with (refine wp_make_own _ rfl _ _ _ rfl 5 i0 _ Try.underlying31 hi0 hz0 hz1 rfl _ _ sz rfl rfl ?a1 ?a2 ?_)
  case a1 => rw [hz2]; omega
  case a2 => unfold maxLen; omega
  intro adn wa hadn howna hba
  obtain ⟨A1, l1, r1, e1⟩ := HL.out.newRow (24, 0) hba howna (Nat.le_refl _)
  have HL1 := Lib.hid l1
  have HR1 : Hid (Reads w0 A1 (24, 0) (some adn) (bv (List.replicate sz 0))) := Lib.hid (by
    have := r1.reads (w0 := w0)
    unfold bv
    rw [List.map_replicate]
    exact this)
  have HP1 : Hid (PS A1 P L) := Lib.hid (HP.out.keep (fun x hx => e1 x (fun e => by rw [e] at hx; simp at hx)))
  have HE1 := Lib.hid e1
  clear hadn howna hba l1 r1 e1 HL HP
  go_wp2_with (refine wp_make_own _ rfl _ _ _ rfl 3 j0 _ Try.underlying50 hj0 hy0 hy1 rfl _ _ n rfl rfl ?a1 ?a2 ?_)
  case a1 => rw [hy2]; omega
  case a2 => unfold maxLen; omega
  intro ad wb hadb hownb hbb
  have H0 : Hid (NewI w0 A P k L n sz ad adn 0 0 wb) := Lib.hid (by
    obtain ⟨A2, l2, r2, e2⟩ := HL1.out.newRow (21, k) hbb hownb (Nat.le_refl _)
    refine ⟨A2, l2, ?_, ?_, HR1.out.keep (e2 _ (by simp)), fun x hx h6 h7 => (e2 x h6).trans (HE1.out x h7)⟩
    · rw [List.replicate_zero, List.append_nil]
      exact HP1.out.keep (fun x hx => e2 x (fun e => by rw [e] at hx; simp at hx))
    · unfold dv
      simpa using r2)
  clear hadb hownb hbb HL1 HR1 HP1 HE1 W1 W2
  go_wp2_with fail
  go_loopw [19] (fun i wr => ∃ j : Nat, j ≤ n ∧ i = .int .i64 j ∧ Hid (NewI w0 A P k L n sz ad adn j j wr)) (fun i _ => n - (intOf i).toNat)
  case atStart => exact ⟨0, Nat.zero_le _, rfl, H0⟩
  case round =>
    obtain ⟨j, hj, rfl, HI⟩ := hrel
    clear H0
    by_cases hlt : j < n
    · have i1 : (j : Int) < (n : Int) := by omega
      go_wp2_with fail
      with_reducible refine (HI.out.make z2 (by omega)).mono ?_
      rintro e w1 ⟨rfl, hm⟩
      obtain ⟨c1, c2, hp⟩ := hm.put hlt
      obtain ⟨u, hu⟩ := Option.isSome_iff_exists.1 c1
      have HQ := Lib.hid hp
      clear hm hp c1 HI
      generalize ((L.length + j + 1 : Nat) : Int) = y at *
      go_wp2
      go_roundw
      case rel => exact ⟨j + 1, by omega, by go_num, HQ⟩
      case measure => simp [intOf]; omega
    · obtain rfl : j = n := by omega
      have HD := Lib.hid HI.out.done
      clear HI
      go_wp2
      go_ret
      exact HD.out
end Go.Proofs.Ythdgdkjaeebbcaa
