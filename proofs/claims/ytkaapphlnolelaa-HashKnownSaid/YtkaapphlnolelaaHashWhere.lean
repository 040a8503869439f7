/-
  Layer 10's program: where: contract. Conditions: as many places as a power of two, 1000 at most; keys of 1000 bytes at most.
-/
import Derived.Test.YtkaapphlnolelaaHashWay
import Derived.RangeFuncFrom
import Derived.Sort.QuietTacIn
namespace Go.Proofs.Ytkaapphlnolelaa
set_option maxRecDepth 100000
open Go.RowKit Go.Shelf Ow Ro K2 Hm
set_option linter.unusedVariables false
set_option linter.unusedSimpArgs false
attribute [local go_sem] Oper.semAt_some
def whV (f r : Option Nat) : Value := match f with
  | some x => .tuple #[.int .i64 (x : Nat), .bool true]
  | none => .tuple #[.int .i64 (plcV r), .bool false]
theorem whV_none {f : Option Nat} (h : f = none) (r : Option Nat) : whV f r = .tuple #[.int .i64 (plcV r), .bool false] := by rw [h]; rfl
theorem whV_some {f : Option Nat} {x : Nat} (h : f = some x) (r : Option Nat) : whV f r = .tuple #[.int .i64 (x : Nat), .bool true] := by rw [h]; rfl
/-- The cells of the loop's own boxes. -/
def Cs (S X : Nat) (a : Option Addr) (nk ck : Nat) (v2 v3 v4 : Value) (W : World) : Prop :=
  W.cell? ⟨S, 0, none⟩ = some (.pointer (some ⟨X, 0, none⟩)) ∧ W.cell? ⟨S + 1, 0, none⟩ = some (.slice a nk ck) ∧ (W.cell? ⟨S + 1 + 1, 0, none⟩ = some v2 ∧ W.frozen? ⟨S + 1 + 1, 0, none⟩ = false) ∧ (W.cell? ⟨S + 1 + 1 + 1, 0, none⟩ = some v3 ∧ W.frozen? ⟨S + 1 + 1 + 1, 0, none⟩ = false) ∧ (W.cell? ⟨S + 1 + 1 + 1 + 1, 0, none⟩ = some v4 ∧ W.frozen? ⟨S + 1 + 1 + 1 + 1, 0, none⟩ = false)
theorem Cs.drewN {S X : Nat} {a : Option Addr} {nk ck : Nat} {v2 v3 v4 : Value} {W : World} (h : Cs S X a nk ck v2 v3 v4 W) (m : Nat) : Cs S X a nk ck v2 v3 v4 (W.drewN m) := h
theorem Cs.set4 {S X : Nat} {a : Option Addr} {nk ck : Nat} {v2 v3 v4 : Value} {W : World} (h : Cs S X a nk ck v2 v3 v4 W) (u : Value) : Cs S X a nk ck v2 v3 u (W.setCell ⟨S + 1 + 1 + 1 + 1, 0, none⟩ u) := by
  obtain ⟨h0, h1, h2, h3, h4⟩ := h
  refine ⟨?_, ?_, ⟨?_, by rw [World.frozen?_setCell]; exact h2.2⟩, ⟨?_, by rw [World.frozen?_setCell]; exact h3.2⟩, World.cell?_setCell_same' _ _ _ (by rw [h4.1]; rfl), by rw [World.frozen?_setCell]; exact h4.2⟩
  · rw [World.cell?_setCell_other _ _ _ _ (fun e => by have := congrArg Addr.block e; dsimp only at this; omega)]; exact h0
  · rw [World.cell?_setCell_other _ _ _ _ (fun e => by have := congrArg Addr.block e; dsimp only at this; omega)]; exact h1
  · rw [World.cell?_setCell_other _ _ _ _ (fun e => by have := congrArg Addr.block e; dsimp only at this; omega)]; exact h2.1
  · rw [World.cell?_setCell_other _ _ _ _ (fun e => by have := congrArg Addr.block e; dsimp only at this; omega)]; exact h3.1
theorem Cs.set23 {S X : Nat} {a : Option Addr} {nk ck : Nat} {v2 v3 v4 : Value} {W : World} (h : Cs S X a nk ck v2 v3 v4 W) (u v : Value) : Cs S X a nk ck u v v4 ((W.setCell ⟨S + 1 + 1, 0, none⟩ u).setCell ⟨S + 1 + 1 + 1, 0, none⟩ v) := by
  obtain ⟨h0, h1, h2, h3, h4⟩ := h
  have g3 : (W.setCell ⟨S + 1 + 1, 0, none⟩ u).cell? ⟨S + 1 + 1 + 1, 0, none⟩ = some v3 := by
    rw [World.cell?_setCell_other _ _ _ _ (fun e => by have := congrArg Addr.block e; dsimp only at this; omega)]; exact h3.1
  refine ⟨?_, ?_, ⟨?_, by rw [World.frozen?_setCell, World.frozen?_setCell]; exact h2.2⟩, ⟨World.cell?_setCell_same' _ _ _ (by rw [g3]; rfl), by rw [World.frozen?_setCell, World.frozen?_setCell]; exact h3.2⟩, ?_, by rw [World.frozen?_setCell, World.frozen?_setCell]; exact h4.2⟩
  · rw [World.cell?_setCell_other _ _ _ _ (fun e => by have := congrArg Addr.block e; dsimp only at this; omega), World.cell?_setCell_other _ _ _ _ (fun e => by have := congrArg Addr.block e; dsimp only at this; omega)]; exact h0
  · rw [World.cell?_setCell_other _ _ _ _ (fun e => by have := congrArg Addr.block e; dsimp only at this; omega), World.cell?_setCell_other _ _ _ _ (fun e => by have := congrArg Addr.block e; dsimp only at this; omega)]; exact h1
  · rw [World.cell?_setCell_other _ _ _ _ (fun e => by have := congrArg Addr.block e; dsimp only at this; omega)]; exact World.cell?_setCell_same' _ _ _ (by rw [h2.1]; rfl)
  · rw [World.cell?_setCell_other _ _ _ _ (fun e => by have := congrArg Addr.block e; dsimp only at this; omega), World.cell?_setCell_other _ _ _ _ (fun e => by have := congrArg Addr.block e; dsimp only at this; omega)]; exact h4.1
def IRun (T : List Pl) (ks : List Int) (S X : Nat) (a : Option Addr) (nk ck : Nat) {N : Nat} (pre : List (Ix N)) (W : World) : Prop :=
  ∃ v2 v3, (∀ x ∈ pre, Pass T ks x.1) ∧ Cs S X a nk ck v2 v3 (.int .i64 (plcV (roomL T (pre.map (·.1))))) W
def IStop (T : List Pl) (ks : List Int) (S X : Nat) (a : Option Addr) (nk ck : Nat) {N : Nat} (c : Code) (pre : List (Ix N)) (W : World) : Prop :=
  ∃ v2 v3 v4, (∃ q x, pre = q ++ [x] ∧ (∀ y ∈ q, Pass T ks y.1) ∧ ((c = .ret ∧ (ed T x.1).is = 1 ∧ (ed T x.1).bs = ks ∧ v2 = .int .i64 (x.1 : Nat) ∧ v3 = .bool true) ∨ (c = .exit 0 ∧ (ed T x.1).is = 0 ∧ v4 = .int .i64 (plcV (roomL T (pre.map (·.1))))))) ∧ Cs S X a nk ck v2 v3 v4 W
theorem Cs.kept {S X : Nat} {a : Option Addr} {nk ck : Nat} {v2 v3 v4 : Value} {A B : World} {row : Option Nat} (h : Cs S X a nk ck v2 v3 v4 A) (hg : A.grownBy B row) (hr : ∀ r, row = some r → ∃ o, A.heap[r]? = some o ∧ o.isCells = false) : Cs S X a nk ck v2 v3 v4 B := by
  obtain ⟨h0, h1, h2, h3, h4⟩ := h
  exact ⟨cell_kept h0 hg hr, cell_kept h1 hg hr, ⟨cell_kept h2.1 hg hr, (frozen_kept h2.1 hg hr).trans h2.2⟩, ⟨cell_kept h3.1 hg hr, (frozen_kept h3.1 hg hr).trans h3.2⟩, ⟨cell_kept h4.1 hg hr, (frozen_kept h4.1 hg hr).trans h4.2⟩⟩
theorem cell_heap {W W' : World} (h : W'.heap = W.heap) (p : Addr) : W'.cell? p = W.cell? p := by unfold World.cell?; rw [h]
theorem rd_heap {W W' : World} {B : Nat} {a : Option Addr} {xs : List Value} (h : W'.heap = W.heap) (hr : Rd W B a xs) : Rd W' B a xs := hr.keep fun p _ => cell_heap h p
theorem keeps_heap {W W' : World} (h : W'.heap = W.heap) : KeepsOthers W W' := ⟨by rw [h]; exact Nat.le_refl _, fun _ _ h' _ => by rw [h]; exact h'⟩
theorem pass_snoc {T : List Pl} {ks : List Int} {pre : List (Ix T.length)} {x : Nat} {hx : x < T.length} (h : ∀ y ∈ pre, Pass T ks y.1) (hp : Pass T ks x) : ∀ y ∈ pre ++ [(⟨x, hx⟩ : Ix T.length)], Pass T ks y.1 := fun y hy => by
  rcases List.mem_append.1 hy with h1 | h1
  · exact h y h1
  · rw [List.mem_singleton] at h1; subst h1; exact hp
theorem Cs.heap {S X : Nat} {a : Option Addr} {nk ck : Nat} {v2 v3 v4 : Value} {W V : World} (h : Cs S X a nk ck v2 v3 v4 W) (hV : V.heap = W.heap) : Cs S X a nk ck v2 v3 v4 V := by
  unfold Cs World.cell? World.frozen? at *
  rw [hV]
  exact h
theorem blike {S : Nat} {w W V : World} (h : Below S w W) (h1 : V.heap = W.heap) (h2 : V.os = W.os) (h3 : V.tape = W.tape) (h4 : V.output = W.output) : Below S w V :=
  ⟨h2.trans h.os, h3.trans h.tape, h4.trans h.output, by rw [h1]; exact h.size, fun k hk => by rw [h1]; exact h.block k hk⟩
theorem bset1 {S : Nat} {w W V : World} (h : Below S w W) (u : Value) (h1 : V.heap = (W.setCell ⟨S + 1 + 1 + 1 + 1, 0, none⟩ u).heap) (h2 : V.os = W.os) (h3 : V.tape = W.tape) (h4 : V.output = W.output) : Below S w V :=
  blike (h.setCell (p := ⟨S + 1 + 1 + 1 + 1, 0, none⟩) (by show S ≤ S + 1 + 1 + 1 + 1; omega) u) h1 h2 h3 h4
theorem keep4 (W : World) (p : Addr) (u : Value) {V : World} (h : V.heap = (W.setCell p u).heap) : KeepsOthers W V := (KeepsOthers.setCell W p u).trans (keeps_heap h)
theorem bset2 {S : Nat} {w W V : World} (h : Below S w W) (h1 : V.heap = W.heap) (h2 : V.os = W.os) (h3 : V.tape = W.tape) (h4 : V.output = W.output) (u v : Value) : Below S w ((V.setCell ⟨S + 1 + 1, 0, none⟩ u).setCell ⟨S + 1 + 1 + 1, 0, none⟩ v) :=
  ((blike h h1 h2 h3 h4).setCell (p := ⟨S + 1 + 1, 0, none⟩) (by show S ≤ S + 1 + 1; omega) _).setCell (p := ⟨S + 1 + 1 + 1, 0, none⟩) (by show S ≤ S + 1 + 1 + 1; omega) _
theorem KeepsOthers.drewN_ (W : World) (m : Nat) : KeepsOthers W (W.drewN m) := ⟨Nat.le_refl _, fun _ _ h _ => h⟩
/-- The world at the loop's beginning. -/
theorem boxes7 (w : World) (X : Nat) (a : Option Addr) (nk ck : Nat) : ∃ W0, (((((((w.alloc (.cells #[.pointer (some ⟨X, 0, none⟩)] 31)).alloc (.cells #[.slice a nk ck] 22)).alloc (.cells #[.int .i64 0] 3)).alloc (.cells #[.bool false] 4)).alloc (.cells #[.int .i64 (-1)] 3)).alloc (.cells #[.pointer (some ⟨X, 0, none⟩)] 31)).alloc (.cells #[.slice a nk ck] 22)) = W0 ∧
    Cs w.heap.size X a nk ck (.int .i64 0) (.bool false) (.int .i64 (-1)) W0 ∧ W0.heap.size = w.heap.size + 7 ∧ Below w.heap.size w W0 ∧ W0.cell? ⟨w.heap.size + 1 + 1 + 1 + 1 + 1, 0, none⟩ = some (.pointer (some ⟨X, 0, none⟩)) ∧ W0.cell? ⟨w.heap.size + 1 + 1 + 1 + 1 + 1 + 1, 0, none⟩ = some (.slice a nk ck) := by
  refine ⟨_, rfl, ?_⟩
  have B0 := Below.refl w.heap.size w
  have k0 := Bk.new w 31 #[.pointer (some ⟨X, 0, none⟩)]
  have s0 := World.size_alloc w (.cells #[.pointer (some ⟨X, 0, none⟩)] 31)
  have B1 := B0.alloc (by omega) (.cells #[.pointer (some ⟨X, 0, none⟩)] 31)
  generalize w.alloc (.cells #[.pointer (some ⟨X, 0, none⟩)] 31) = w1 at *
  have k1 := Bk.new w1 22 #[.slice a nk ck]
  have s1 := World.size_alloc w1 (.cells #[.slice a nk ck] 22)
  have B2 := B1.alloc (by omega) (.cells #[.slice a nk ck] 22)
  have k0 := k0.alloc (.cells #[.slice a nk ck] 22)
  generalize w1.alloc (.cells #[.slice a nk ck] 22) = w2 at *
  have k2 := Bk.new w2 3 #[.int .i64 0]
  have s2 := World.size_alloc w2 (.cells #[.int .i64 0] 3)
  have B3 := B2.alloc (by omega) (.cells #[.int .i64 0] 3)
  have k0 := k0.alloc (.cells #[.int .i64 0] 3)
  have k1 := k1.alloc (.cells #[.int .i64 0] 3)
  generalize w2.alloc (.cells #[.int .i64 0] 3) = w3 at *
  have k3 := Bk.new w3 4 #[.bool false]
  have s3 := World.size_alloc w3 (.cells #[.bool false] 4)
  have B4 := B3.alloc (by omega) (.cells #[.bool false] 4)
  have k0 := k0.alloc (.cells #[.bool false] 4)
  have k1 := k1.alloc (.cells #[.bool false] 4)
  have k2 := k2.alloc (.cells #[.bool false] 4)
  generalize w3.alloc (.cells #[.bool false] 4) = w4 at *
  have k4 := Bk.new w4 3 #[.int .i64 (-1)]
  have s4 := World.size_alloc w4 (.cells #[.int .i64 (-1)] 3)
  have B5 := B4.alloc (by omega) (.cells #[.int .i64 (-1)] 3)
  have k0 := k0.alloc (.cells #[.int .i64 (-1)] 3)
  have k1 := k1.alloc (.cells #[.int .i64 (-1)] 3)
  have k2 := k2.alloc (.cells #[.int .i64 (-1)] 3)
  have k3 := k3.alloc (.cells #[.int .i64 (-1)] 3)
  generalize w4.alloc (.cells #[.int .i64 (-1)] 3) = w5 at *
  have k5 := Bk.new w5 31 #[.pointer (some ⟨X, 0, none⟩)]
  have s5 := World.size_alloc w5 (.cells #[.pointer (some ⟨X, 0, none⟩)] 31)
  have B6 := B5.alloc (by omega) (.cells #[.pointer (some ⟨X, 0, none⟩)] 31)
  have k0 := k0.alloc (.cells #[.pointer (some ⟨X, 0, none⟩)] 31)
  have k1 := k1.alloc (.cells #[.pointer (some ⟨X, 0, none⟩)] 31)
  have k2 := k2.alloc (.cells #[.pointer (some ⟨X, 0, none⟩)] 31)
  have k3 := k3.alloc (.cells #[.pointer (some ⟨X, 0, none⟩)] 31)
  have k4 := k4.alloc (.cells #[.pointer (some ⟨X, 0, none⟩)] 31)
  generalize w5.alloc (.cells #[.pointer (some ⟨X, 0, none⟩)] 31) = w6 at *
  have k6 := Bk.new w6 22 #[.slice a nk ck]
  have s6 := World.size_alloc w6 (.cells #[.slice a nk ck] 22)
  have B7 := B6.alloc (by omega) (.cells #[.slice a nk ck] 22)
  have k0 := k0.alloc (.cells #[.slice a nk ck] 22)
  have k1 := k1.alloc (.cells #[.slice a nk ck] 22)
  have k2 := k2.alloc (.cells #[.slice a nk ck] 22)
  have k3 := k3.alloc (.cells #[.slice a nk ck] 22)
  have k4 := k4.alloc (.cells #[.slice a nk ck] 22)
  have k5 := k5.alloc (.cells #[.slice a nk ck] 22)
  generalize w6.alloc (.cells #[.slice a nk ck] 22) = w7 at *
  have e1 : w1.heap.size = w.heap.size + 1 := by omega
  rw [e1] at k1
  have e2 : w2.heap.size = w.heap.size + 1 + 1 := by omega
  rw [e2] at k2
  have e3 : w3.heap.size = w.heap.size + 1 + 1 + 1 := by omega
  rw [e3] at k3
  have e4 : w4.heap.size = w.heap.size + 1 + 1 + 1 + 1 := by omega
  rw [e4] at k4
  have e5 : w5.heap.size = w.heap.size + 1 + 1 + 1 + 1 + 1 := by omega
  rw [e5] at k5
  have e6 : w6.heap.size = w.heap.size + 1 + 1 + 1 + 1 + 1 + 1 := by omega
  rw [e6] at k6
  exact ⟨⟨k0.cell 0, k1.cell 0, ⟨k2.cell 0, k2.frozen 0⟩, ⟨k3.cell 0, k3.frozen 0⟩, ⟨k4.cell 0, k4.frozen 0⟩⟩, by omega, B7, k5.cell 0, k6.cell 0⟩
set_option maxHeartbeats 4000000 in
theorem where_p {w0 w : World} {A : Ac} {X K : Nat} {M : Int} {T : List Pl} (hl : Lay w0 A w) (h : HP A X K M T) (e : Nat) (hN : T.length = 2 ^ e) (hN2 : T.length ≤ 1000) (hK : 1 ≤ K) (hK2 : K ≤ 1000) (hg : ∀ t ∈ T, t.is = 1 → t.bs.length = K) (a : Option Addr) (nk ck : Nat) (ks : List Int) (hkn : ks.length = nk) (hk6 : nk ≤ 100000) (hkb : ∀ b ∈ ks, 0 ≤ b ∧ b ≤ 255) (hrd : Rd w w.heap.size a (bv ks)) :
    Calls Try.prog 37 #[.pointer (some ⟨X, 0, none⟩), .slice a nk ck] w fun e w' => e = .returned (whV (fat T ks) (rat T ks)) ∧ Below w.heap.size w w' := by
  obtain ⟨vr, vp, R, hx⟩ := h
  have hn1 : 1 ≤ T.length := by rw [hN]; exact Nat.two_pow_pos e
  obtain ⟨lX, ar, ap, cr, cp, rfl, rfl, r1, r2, r3, r4, hs⟩ := hx.look hl hn1 hK
  have HS := Lib.hid hs
  have HB := Lib.hid hx.byte
  have HK := Lib.hid hx.keys
  have HRL := Lib.hid hx.len
  have HRD := Lib.hid hrd
  have HKB := Lib.hid hkb
  have HKN := Lib.hid hkn
  have WS := Lib.hid (fun (B1 B2 : Nat) (W : World) => way1_stops 2 B1 B2 X T.length e nk ck a ap cp ks (by omega) hN hN2 W)
  clear hl hx hs hrd hkb hN hkn
  refine (callsIn_wide (n := 3)).1 ?_
  refine callsIn_of_wp_marks Try.func37 rfl trivial ?_ rfl
  simp only [Try.ntmps37, List.size_toArray, List.length_cons, List.length_nil, Nat.reduceAdd, Nat.reduceSub, Array.replicate_succ, Array.replicate_zero, List.push_toArray, List.append_toArray, List.nil_append, List.cons_append]
  gi_wp2
  refine ⟨trivial, ?_⟩
  refine (callsIn_wide.2 (way_p a nk ck X _)).mono ?_
  rintro e w' ⟨rfl, rfl⟩
  gi_wp2
  obtain ⟨W0, hW0, hC0, hS0, hB0, hb5, hb6⟩ := boxes7 w X a nk ck
  rw [hW0]
  obtain ⟨S, hS⟩ : ∃ S, w.heap.size = S := ⟨_, rfl⟩
  rw [hS] at hC0 hS0 hB0 hb5 hb6 lX ⊢
  have SQ := WS.out (S + 1 + 1 + 1 + 1 + 1) (S + 1 + 1 + 1 + 1 + 1 + 1) W0 hb5 (by omega) hb6 (by omega) (by omega) (HS.out W0 (by rw [hS]; exact hB0)).2.2.2.1 HKN.out hk6 HKB.out ((HRD.out.below (by rw [hS]; exact hB0)).mono (by omega))
  refine wpIn_rangeFunc_ownF rfl (by omega) (gf := 45) (lb := #[.pointer (some ⟨S + 1 + 1 + 1 + 1 + 1, 0, none⟩), .pointer (some ⟨S + 1 + 1 + 1 + 1 + 1 + 1, 0, none⟩)]) rfl trivial (enters_of Try.func45 (by kernel_rfl) rfl) SQ (fun _ _ => trivial) (fun _ _ _ _ _ _ _ _ => trivial) (Below.refl _ _) (fun _ => rfl)
    (fun pre W => IRun T ks S X a nk ck pre W ∧ Below S w W)
    (fun c pre W => IStop T ks S X a nk ck c pre W ∧ Below S w W)
    (OwnFrom.and (Own.from (fun s A B row hs hg hr => by obtain ⟨v2, v3, h1, h2⟩ := hs; exact ⟨v2, v3, h1, h2.kept hg hr⟩) _) (ownFrom_below (by omega) (by omega)))
    (fun c => OwnFrom.and (Own.from (fun s A B row hs hg hr => by obtain ⟨v2, v3, v4, h1, h2⟩ := hs; exact ⟨v2, v3, v4, h1, h2.kept hg hr⟩) _) (ownFrom_below (by omega) (by omega)))
    ⟨⟨_, _, (fun _ h => by cases h), hC0⟩, hB0⟩
    (fun x => { tmps := #[.pointer (some ⟨X, 0, none⟩), .slice a nk ck, .pointer (some ⟨S, 0, none⟩), .pointer (some ⟨S + 1, 0, none⟩), .pointer (some ⟨S + 1 + 1, 0, none⟩), .pointer (some ⟨S + 1 + 1 + 1, 0, none⟩), .pointer (some ⟨S + 1 + 1 + 1 + 1, 0, none⟩), .int .i64 (x.1 : Nat), undef, .pointer (some ⟨X, 0, none⟩), .slice a nk ck, .func (.func 45) #[] #[.pointer (some ⟨S + 1 + 1 + 1 + 1 + 1, 0, none⟩), .pointer (some ⟨S + 1 + 1 + 1 + 1 + 1 + 1, 0, none⟩)], .int .i64 (x.1 : Nat), undef, undef, undef, undef, undef, undef, undef, undef, undef, undef, undef, undef, undef, undef, undef, undef, undef, undef, undef, undef, undef, undef, undef, undef, undef, undef, undef, undef], defers := [] }) ?assign ?body ?done ?stop
  case assign =>
    intro l x W K hK
    gi_wp2
    exact hK
  case body =>
    rintro l pre ⟨x, hxN⟩ W ⟨⟨v2, v3, hP, hC⟩, hB⟩ _
    obtain ⟨q0, q1, q2, q3, q4, q5, qr, qp⟩ := HS.out W (by rw [hS]; exact hB)
    obtain ⟨pc0, pc1, _, _⟩ := qp x _ (ed_at hxN)
    have HC := Lib.hid hC
    obtain ⟨g0, g1, ⟨g2, f2⟩, ⟨g3, f3⟩, ⟨g4, f4⟩⟩ := hC
    have HP := Lib.hid hP
    have hmx : Try.prog.follows .mixedOrders = true := by kernel_rfl
    have i1 : (x : Int) < (T.length : Int) := by omega
    have hpl := pcs_len (p := x) HRL.out hxN
    have hrp := pcs_rd (p := x) qr hpl.2
    have hmap : (pre ++ [(⟨x, hxN⟩ : Ix T.length)]).map (fun y : Ix T.length => y.1) = pre.map (fun y : Ix T.length => y.1) ++ [x] := by rw [List.map_append]; rfl
    have HRM := Lib.hid (roomL_snoc (T := T) (pre.map (fun y : Ix T.length => y.1)) x)
    rw [← hmap] at HRM
    have PC := Lib.hid (fun (V : World) (hV : V.heap = W.heap) => piece_p X K x T.length cr ar V hxN hN2 hK hK2 r1 r2 ((cell_heap hV _).trans q0) ((cell_heap hV _).trans q2))
    have hkr : Rd W W.heap.size a (bv ks) := (HRD.out.below (by rw [hS]; exact hB)).mono (by have := hB.size; omega)
    have EC := Lib.hid (fun (V : World) (hV : V.heap = W.heap) => equal_p (some (ar.add (x * K))) a K nk K ck (pcs R K x) ks hpl.1 HKN.out (pcs_byte HB.out) HKB.out V (by rw [hV]; exact rd_heap hV hrp) (by rw [hV]; exact rd_heap hV hkr))
    clear hkr
    have HKP := Lib.hid (HK.out x _ (ed_at hxN))
    clear qp q1 q2 q4 q5 qr hpl hrp hP
    by_cases h1 : (ed T x).is = 1
    · have HX := Lib.hid (show (ed T x).bs = pcs R K x from HKP.out h1)
      rw [h1] at pc0
      by_cases h2 : pcs R K x = ks
      · have hd : decide (pcs R K x = ks) = true := decide_eq_true h2
        gi_wp2
        gi_region_with_o (first | (refine ⟨trivial, ?_⟩; gi_at_call 38; refine (CallsIn.inRound l (callsIn_wide.2 (PC.out _ (by exact rfl)))).mono ?_; rintro e w' ⟨rfl, m, rfl⟩) | (refine ⟨trivial, ?_⟩; gi_at_call 44; refine (CallsIn.inRound l (callsIn_wide.2 (EC.out _ (by exact rfl)))).mono ?_; rintro e w' ⟨rfl, rfl⟩))
        all_goals gi_wp2
        all_goals exact ⟨((keeps_heap (by exact rfl)).trans (KeepsOthers.setCell _ _ _)).trans (KeepsOthers.setCell _ _ _), ⟨_, _, _, ⟨pre, ⟨x, hxN⟩, rfl, HP.out, .inl ⟨rfl, h1, HX.out.trans h2, rfl, rfl⟩⟩, Cs.set23 HC.out _ _⟩, bset2 hB (by exact rfl) (by exact rfl) (by exact rfl) (by exact rfl) _ _⟩
      · have hd : decide (pcs R K x = ks) = false := decide_eq_false h2
        have HPS : Hid (∀ y ∈ pre ++ [(⟨x, hxN⟩ : Ix T.length)], Pass T ks y.1) := Lib.hid (pass_snoc HP.out ⟨by omega, fun h => h2 (HX.out.symm.trans h.2)⟩)
        have hrm : roomL T ((pre ++ [(⟨x, hxN⟩ : Ix T.length)]).map (fun y : Ix T.length => y.1)) = roomL T (pre.map (fun y : Ix T.length => y.1)) := by
          rw [HRM.out, h1]
          cases roomL T (pre.map (fun y : Ix T.length => y.1)) <;> rfl
        have HC2 : Hid (Cs S X a nk ck v2 v3 (.int .i64 (plcV (roomL T ((pre ++ [(⟨x, hxN⟩ : Ix T.length)]).map (fun y : Ix T.length => y.1))))) W) := Lib.hid (by rw [hrm]; exact HC.out)
        clear hrm HRM HC
        gi_wp2
        gi_region_with_o (first | (refine ⟨trivial, ?_⟩; gi_at_call 38; refine (CallsIn.inRound l (callsIn_wide.2 (PC.out _ (by exact rfl)))).mono ?_; rintro e w' ⟨rfl, m, rfl⟩) | (refine ⟨trivial, ?_⟩; gi_at_call 44; refine (CallsIn.inRound l (callsIn_wide.2 (EC.out _ (by exact rfl)))).mono ?_; rintro e w' ⟨rfl, rfl⟩))
        all_goals gi_wp2
        all_goals exact ⟨keeps_heap (by exact rfl), trivial, ⟨_, _, HPS.out, HC2.out⟩, blike hB (by exact rfl) (by exact rfl) (by exact rfl) (by exact rfl)⟩
    · have HC1 := HRM.out
      rw [if_neg h1] at HC1
      cases hr : roomL T (pre.map (fun y : Ix T.length => y.1)) with
      | none =>
        rw [hr] at HC1 g4 HC
        have HR2 := Lib.hid (show roomL T ((pre ++ [(⟨x, hxN⟩ : Ix T.length)]).map (fun y : Ix T.length => y.1)) = some x from HC1)
        have HC2 : Hid (∀ V : World, V.heap = (W.setCell ⟨S + 1 + 1 + 1 + 1, 0, none⟩ (.int .i64 (x : Nat))).heap → Cs S X a nk ck v2 v3 (.int .i64 (plcV (roomL T ((pre ++ [(⟨x, hxN⟩ : Ix T.length)]).map (fun y : Ix T.length => y.1))))) V) := Lib.hid (fun V hV => by rw [HR2.out]; exact (Cs.set4 HC.out _).heap hV)
        clear hr HC1 HRM HR2 HC
        unfold plcV at g4
        by_cases h0 : (ed T x).is = 0
        · rw [h0] at pc0
          gi_wp2
          gi_region_with_o (refine ⟨trivial, ?_⟩)
          all_goals gi_wp2
          all_goals exact ⟨keep4 W ⟨S + 1 + 1 + 1 + 1, 0, none⟩ (.int .i64 (x : Nat)) (by exact rfl), ⟨_, _, _, ⟨pre, ⟨x, hxN⟩, rfl, HP.out, .inr ⟨rfl, h0, rfl⟩⟩, HC2.out _ (by exact rfl)⟩, bset1 hB (.int .i64 (x : Nat)) (by exact rfl) (by exact rfl) (by exact rfl) (by exact rfl)⟩
        · have HPS : Hid (∀ y ∈ pre ++ [(⟨x, hxN⟩ : Ix T.length)], Pass T ks y.1) := Lib.hid (pass_snoc HP.out ⟨h0, fun h => h1 h.1⟩)
          have z1 : (((ed T x).is : Int) == 1) = false := by rw [beq_eq_false_iff_ne]; omega
          have z2 : (((ed T x).is : Int) == 0) = false := by rw [beq_eq_false_iff_ne]; omega
          have z3 : (((ed T x).is : Int) != 1) = true := by simp; omega
          generalize (ed T x).is = c at *
          gi_wp2
          gi_region_with_o (refine ⟨trivial, ?_⟩)
          all_goals gi_wp2
          all_goals exact ⟨keep4 W ⟨S + 1 + 1 + 1 + 1, 0, none⟩ (.int .i64 (x : Nat)) (by exact rfl), trivial, ⟨_, _, HPS.out, HC2.out _ (by exact rfl)⟩, bset1 hB (.int .i64 (x : Nat)) (by exact rfl) (by exact rfl) (by exact rfl) (by exact rfl)⟩
      | some r =>
        rw [hr] at HC1 g4 HC
        have HR2 := Lib.hid (show roomL T ((pre ++ [(⟨x, hxN⟩ : Ix T.length)]).map (fun y : Ix T.length => y.1)) = some r from HC1)
        have HC2 : Hid (Cs S X a nk ck v2 v3 (.int .i64 (plcV (roomL T ((pre ++ [(⟨x, hxN⟩ : Ix T.length)]).map (fun y : Ix T.length => y.1))))) W) := Lib.hid (by rw [HR2.out]; exact HC.out)
        clear hr HC1 HRM HR2 HC
        unfold plcV at g4
        dsimp only at g4
        have i5 : ¬ (r : Int) < 0 := by omega
        by_cases h0 : (ed T x).is = 0
        · rw [h0] at pc0
          gi_wp2
          gi_region_with_o (refine ⟨trivial, ?_⟩)
          all_goals gi_wp2
          all_goals exact ⟨keeps_heap (by exact rfl), ⟨_, _, _, ⟨pre, ⟨x, hxN⟩, rfl, HP.out, .inr ⟨rfl, h0, rfl⟩⟩, HC2.out⟩, blike hB (by exact rfl) (by exact rfl) (by exact rfl) (by exact rfl)⟩
        · have HPS : Hid (∀ y ∈ pre ++ [(⟨x, hxN⟩ : Ix T.length)], Pass T ks y.1) := Lib.hid (pass_snoc HP.out ⟨h0, fun h => h1 h.1⟩)
          have z1 : (((ed T x).is : Int) == 1) = false := by rw [beq_eq_false_iff_ne]; omega
          have z2 : (((ed T x).is : Int) == 0) = false := by rw [beq_eq_false_iff_ne]; omega
          have z3 : (((ed T x).is : Int) != 1) = true := by simp; omega
          generalize (ed T x).is = c at *
          gi_wp2
          gi_region_with_o (refine ⟨trivial, ?_⟩)
          all_goals gi_wp2
          all_goals exact ⟨keeps_heap (by exact rfl), trivial, ⟨_, _, HPS.out, HC2.out⟩, blike hB (by exact rfl) (by exact rfl) (by exact rfl) (by exact rfl)⟩
  case done =>
    rintro D ys W hD hys ⟨⟨v2, v3, hP, hC⟩, hB⟩ hK
    have hfa : fat T ks = none := by
      unfold fat way
      rw [← hys, ← List.append_nil (ys.map (fun y : Ix T.length => y.1)), fndL_pass _ [] (fun y hy => by obtain ⟨z, hz, rfl⟩ := List.mem_map.1 hy; exact hP z hz)]
      rfl
    have hra : roomL T (ys.map (fun y : Ix T.length => y.1)) = rat T ks := by unfold rat way; rw [hys]
    rw [hra] at hC
    have HF := Lib.hid (whV_none hfa (rat T ks))
    have HC := Lib.hid hC
    obtain ⟨g0, g1, ⟨g2, f2⟩, ⟨g3, f3⟩, ⟨g4, f4⟩⟩ := hC
    clear hfa hra hP hys
    generalize plcV (rat T ks) = rv at *
    gi_wp2
    have hK1 := (KeepsOthers.setCell W ⟨S + 1 + 1, 0, none⟩ (.int .i64 rv)).same D _ hK rfl
    have hK2 := (KeepsOthers.setCell (W.setCell ⟨S + 1 + 1, 0, none⟩ (.int .i64 rv)) ⟨S + 1 + 1 + 1, 0, none⟩ (.bool false)).same D _ hK1 rfl
    refine ⟨by simp, .inl ⟨_, _, rfl, run_takeDeferred hK2, ?_⟩⟩
    have m2 := World.cell?_setCell_same' W ⟨S + 1 + 1, 0, none⟩ (.int .i64 rv) (by rw [g2]; rfl)
    have m3 : (W.setCell ⟨S + 1 + 1, 0, none⟩ (.int .i64 rv)).cell? ⟨S + 1 + 1 + 1, 0, none⟩ = some v3 := (World.cell?_setCell_other _ _ _ _ (fun e => by have := congrArg Addr.block e; dsimp only at this; omega)).trans g3
    have n3 := World.cell?_setCell_same' (W.setCell ⟨S + 1 + 1, 0, none⟩ (.int .i64 rv)) ⟨S + 1 + 1 + 1, 0, none⟩ (.bool false) (by rw [m3]; rfl)
    have n2 : ((W.setCell ⟨S + 1 + 1, 0, none⟩ (.int .i64 rv)).setCell ⟨S + 1 + 1 + 1, 0, none⟩ (.bool false)).cell? ⟨S + 1 + 1, 0, none⟩ = some (.int .i64 rv) := (World.cell?_setCell_other _ _ _ _ (fun e => by have := congrArg Addr.block e; dsimp only at this; omega)).trans m2
    have k2 := cell_kept n2 (grownBy_putObj' _ D (.deferred none)) (fun r e => by cases e; exact ⟨_, hK2, rfl⟩)
    have k3 := cell_kept n3 (grownBy_putObj' _ D (.deferred none)) (fun r e => by cases e; exact ⟨_, hK2, rfl⟩)
    refine ⟨.tuple #[.int .i64 rv, .bool false], ?_, by rw [HF.out], ?_⟩
    · simp [results, Try.f37, go_sem, k2, k3]
    · have hB2 := bset2 hB (V := W) rfl rfl rfl rfl (.int .i64 rv) (.bool false)
      rw [← hS] at hB2 hK2 ⊢
      exact hB2.trans (belowK_b (w := w) (Nat.le_refl _) _ D _ _ (by omega) hK2 rfl rfl)
  case stop =>
    rintro D c pre W hD hpre ⟨⟨v2, v3, v4, ⟨q, x, rfl, hP, hc⟩, hC⟩, hB⟩ hK
    obtain ⟨rest, hw⟩ := hpre
    have hq : ∀ y ∈ q.map (fun y : Ix T.length => y.1), Pass T ks y := fun y hy => by obtain ⟨z, hz, rfl⟩ := List.mem_map.1 hy; exact hP z hz
    have hw2 : way T ks = q.map (fun y : Ix T.length => y.1) ++ (x.1 :: rest) := by
      unfold way
      rw [← hw, List.map_append, List.append_assoc]
      rfl
    rcases hc with ⟨rfl, hx1, hx2, rfl, rfl⟩ | ⟨rfl, hx0, rfl⟩
    · have hfa : fat T ks = some x.1 := by
        unfold fat
        rw [hw2, fndL_pass _ _ hq, fndL, if_neg (by omega), if_pos ⟨hx1, hx2⟩]
      have HF := Lib.hid (whV_some hfa (rat T ks))
      obtain ⟨g0, g1, ⟨g2, f2⟩, ⟨g3, f3⟩, ⟨g4, f4⟩⟩ := hC
      clear hfa hw hw2 hq hP
      gi_wp2
      refine ⟨by simp, .inl ⟨_, _, rfl, run_takeDeferred hK, ?_⟩⟩
      have k2 := cell_kept g2 (grownBy_putObj' _ D (.deferred none)) (fun r e => by cases e; exact ⟨_, hK, rfl⟩)
      have k3 := cell_kept g3 (grownBy_putObj' _ D (.deferred none)) (fun r e => by cases e; exact ⟨_, hK, rfl⟩)
      refine ⟨.tuple #[.int .i64 (x.1 : Nat), .bool true], ?_, by rw [HF.out], by rw [← hS] at hB; exact hB.trans (belowK_b (w := w) (Nat.le_refl _) _ D _ _ (by omega) hK rfl rfl)⟩
      simp [results, Try.f37, go_sem, k2, k3]
    · have hfa : fat T ks = none := by
        unfold fat
        rw [hw2, fndL_pass _ _ hq, fndL, if_pos hx0]
      have hra : roomL T ((q ++ [x]).map (fun y : Ix T.length => y.1)) = rat T ks := by
        unfold rat
        have h1 : roomL T ((q ++ [x]).map (fun y : Ix T.length => y.1)) = roomL T (q.map (fun y : Ix T.length => y.1) ++ [x.1]) := by rw [List.map_append]; rfl
        have h3 : q.map (fun y : Ix T.length => y.1) ++ (x.1 :: rest) = (q.map (fun y : Ix T.length => y.1) ++ [x.1]) ++ rest := by rw [List.append_assoc]; rfl
        rw [h1, hw2, h3]
        cases hr : roomL T (q.map (fun y : Ix T.length => y.1) ++ [x.1]) with
        | some r => exact (roomL_app hr).symm
        | none =>
          rw [roomL_snoc] at hr
          cases h2 : roomL T (q.map (fun y : Ix T.length => y.1)) with
          | some r => rw [h2] at hr; cases hr
          | none => rw [h2, if_neg (by omega)] at hr; cases hr
      rw [hra] at hC
      have HF := Lib.hid (whV_none hfa (rat T ks))
      obtain ⟨g0, g1, ⟨g2, f2⟩, ⟨g3, f3⟩, ⟨g4, f4⟩⟩ := hC
      clear hfa hra hw hw2 hq hP
      generalize plcV (rat T ks) = rv at *
      gi_wp2
      have hK1 := (KeepsOthers.setCell W ⟨S + 1 + 1, 0, none⟩ (.int .i64 rv)).same D _ hK rfl
      have hK2 := (KeepsOthers.setCell (W.setCell ⟨S + 1 + 1, 0, none⟩ (.int .i64 rv)) ⟨S + 1 + 1 + 1, 0, none⟩ (.bool false)).same D _ hK1 rfl
      refine ⟨by simp, .inl ⟨_, _, rfl, run_takeDeferred hK2, ?_⟩⟩
      have m2 := World.cell?_setCell_same' W ⟨S + 1 + 1, 0, none⟩ (.int .i64 rv) (by rw [g2]; rfl)
      have m3 : (W.setCell ⟨S + 1 + 1, 0, none⟩ (.int .i64 rv)).cell? ⟨S + 1 + 1 + 1, 0, none⟩ = some v3 := (World.cell?_setCell_other _ _ _ _ (fun e => by have := congrArg Addr.block e; dsimp only at this; omega)).trans g3
      have n3 := World.cell?_setCell_same' (W.setCell ⟨S + 1 + 1, 0, none⟩ (.int .i64 rv)) ⟨S + 1 + 1 + 1, 0, none⟩ (.bool false) (by rw [m3]; rfl)
      have n2 : ((W.setCell ⟨S + 1 + 1, 0, none⟩ (.int .i64 rv)).setCell ⟨S + 1 + 1 + 1, 0, none⟩ (.bool false)).cell? ⟨S + 1 + 1, 0, none⟩ = some (.int .i64 rv) := (World.cell?_setCell_other _ _ _ _ (fun e => by have := congrArg Addr.block e; dsimp only at this; omega)).trans m2
      have k2 := cell_kept n2 (grownBy_putObj' _ D (.deferred none)) (fun r e => by cases e; exact ⟨_, hK2, rfl⟩)
      have k3 := cell_kept n3 (grownBy_putObj' _ D (.deferred none)) (fun r e => by cases e; exact ⟨_, hK2, rfl⟩)
      refine ⟨.tuple #[.int .i64 rv, .bool false], ?_, by rw [HF.out], ?_⟩
      · simp [results, Try.f37, go_sem, k2, k3]
      · have hB2 := bset2 hB (V := W) rfl rfl rfl rfl (.int .i64 rv) (.bool false)
        rw [← hS] at hB2 hK2 ⊢
        exact hB2.trans (belowK_b (w := w) (Nat.le_refl _) _ D _ _ (by omega) hK2 rfl rfl)
end Go.Proofs.Ytkaapphlnolelaa
