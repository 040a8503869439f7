/-
  The rounds of SpanKnown: the regions that it draws, one by one, and the contracts of the statements that it calls. Conditions: those of its loops.
-/
import Derived.Test.YthjjfginenpfjaaSpanC
import Derived.Test.YthjjfginenpfjaaSpanOpen
import Derived.Test.YthjjfginenpfjaaSpanUnsignedLaw
import Derived.Test.YthjjfginenpfjaaSpanSignedLaw
import Derived.Test.YthjjfginenpfjaaSpanSoundLaw
import Derived.Test.YthjjfginenpfjaaSpanSignsLaw
import Derived.Test.YthjjfginenpfjaaSpanLatticeLaw
import Derived.Test.YthjjfginenpfjaaSpanBitsLaw
import Derived.Test.YthjjfginenpfjaaSpanTakenLaw
import Derived.Test.YthjjfginenpfjaaSpanExactLaw
import Derived.Deep.RegionHeld3
import Derived.WalkKit
import Derived.ProofKit
import Derived.Below
import Derived.Handy
namespace Go.Proofs.Ythjjfginenpfjaa.spanKnown
open Go.ChangeShapes Go.WideShapes Go.ChangeAt Go.RowKit Tn Ow Sp
set_option linter.unusedVariables false
set_option linter.unusedSimpArgs false
def nL : List Value := [.int .u64 0, .int .u64 1, .int .u64 2, .int .u64 3, .int .u64 7, .int .u64 8, .int .u64 2147483647, .int .u64 2147483648, .int .u64 4294967295, .int .u64 4294967296, .int .u64 4294967301, .int .u64 9223372036854775807, .int .u64 9223372036854775808, .int .u64 9223372036854775809, .int .u64 18446744073709551613, .int .u64 18446744073709551614, .int .u64 18446744073709551615]
theorem n_at (n : Int) (h0 : 0 ≤ n) (h1 : n < 17) : ∃ e : Int, nL[n.toNat]? = some (.int .u64 e) ∧ 0 ≤ e ∧ e ≤ 18446744073709551615 := by
  generalize hk : n.toNat = k
  have : k = 0 ∨ k = 1 ∨ k = 2 ∨ k = 3 ∨ k = 4 ∨ k = 5 ∨ k = 6 ∨ k = 7 ∨ k = 8 ∨ k = 9 ∨ k = 10 ∨ k = 11 ∨ k = 12 ∨ k = 13 ∨ k = 14 ∨ k = 15 ∨ k = 16 := by omega
  clear hk
  rcases this with rfl | rfl | rfl | rfl | rfl | rfl | rfl | rfl | rfl | rfl | rfl | rfl | rfl | rfl | rfl | rfl | rfl <;> exact ⟨_, rfl, by omega⟩
theorem n_cell {w : World} {g k : Nat} {v : Value} (h : Bk w g 22 #[.int .u64 0, .int .u64 1, .int .u64 2, .int .u64 3, .int .u64 7, .int .u64 8, .int .u64 2147483647, .int .u64 2147483648, .int .u64 4294967295, .int .u64 4294967296, .int .u64 4294967301, .int .u64 9223372036854775807, .int .u64 9223372036854775808, .int .u64 9223372036854775809, .int .u64 18446744073709551613, .int .u64 18446744073709551614, .int .u64 18446744073709551615]) (e : nL[k]? = some v) : w.cell? ⟨g, k, none⟩ = some v := by
  rw [h.cell k]
  show (List.toArray nL)[k]? = some v
  rw [List.getElem?_toArray]
  exact e
theorem bkk {w w1 : World} {r : Nat} {t : TypeId} {cs : Array Value} (h : Bk w r t cs) (qb : Below w.heap.size w w1) : Bk w1 r t cs := h.below qb h.lt
theorem wfu {n : Int} (h : 0 ≤ n ∧ n ≤ 18446744073709551615) : (Lit.int .u64 n).wf = true := by simp [Lit.wf, IntKind.min, IntKind.max, IntKind.signed, IntKind.bits] <;> omega
theorem wfi {n : Int} (h : -9223372036854775808 ≤ n ∧ n ≤ 9223372036854775807) : (Lit.int .i64 n).wf = true := by simp [Lit.wf, IntKind.min, IntKind.max, IntKind.signed, IntKind.bits] <;> omega
theorem sgn (a : Int) : ∃ s : Int, IntKind.i64.wrap a = s ∧ -9223372036854775808 ≤ s ∧ s ≤ 9223372036854775807 := ⟨_, rfl, by rw [IntKind.wrap_i64]; omega, by rw [IntKind.wrap_i64]; omega⟩
theorem kU (a b c d n v : Int) (ha : 0 ≤ a ∧ a ≤ 18446744073709551615) (hb : 0 ≤ b ∧ b ≤ 18446744073709551615) (hc : 0 ≤ c ∧ c ≤ 18446744073709551615) (hd : 0 ≤ d ∧ d ≤ 18446744073709551615) (hv : 0 ≤ v ∧ v ≤ 18446744073709551615) (hn : -100 ≤ n ∧ n ≤ 100) (w : World) :
    Calls Try.prog 3 #[.agg #[.int .u64 a, .int .u64 b], .agg #[.int .u64 c, .int .u64 d], .int .i64 n, .int .u64 v] w fun e w' => e = .returned (.bool true) ∧ Below w.heap.size w w' := spanUnsigned.walk ⟨a, b⟩ ⟨c, d⟩ n v w ⟨ha, hb⟩ ⟨hc, hd⟩ (wfi ⟨by omega, by omega⟩) (wfu hv)
theorem kS (a b c d n v : Int) (ha : -9223372036854775808 ≤ a ∧ a ≤ 9223372036854775807) (hb : -9223372036854775808 ≤ b ∧ b ≤ 9223372036854775807) (hc : -9223372036854775808 ≤ c ∧ c ≤ 9223372036854775807) (hd : -9223372036854775808 ≤ d ∧ d ≤ 9223372036854775807) (hv : 0 ≤ v ∧ v ≤ 18446744073709551615) (hn : -100 ≤ n ∧ n ≤ 100) (w : World) :
    Calls Try.prog 4 #[.agg #[.int .i64 a, .int .i64 b], .agg #[.int .i64 c, .int .i64 d], .int .i64 n, .int .u64 v] w fun e w' => e = .returned (.bool true) ∧ Below w.heap.size w w' := spanSigned.walk ⟨a, b⟩ ⟨c, d⟩ n v w ⟨ha, hb⟩ ⟨hc, hd⟩ (wfi ⟨by omega, by omega⟩) (wfu hv)
theorem kO (a b c d n v x : Int) (ha : 0 ≤ a ∧ a ≤ 18446744073709551615) (hb : 0 ≤ b ∧ b ≤ 18446744073709551615) (hc : 0 ≤ c ∧ c ≤ 18446744073709551615) (hd : 0 ≤ d ∧ d ≤ 18446744073709551615) (hv : 0 ≤ v ∧ v ≤ 18446744073709551615) (hx : 0 ≤ x ∧ x ≤ 18446744073709551615) (hn : -100 ≤ n ∧ n ≤ 100) (w : World) :
    Calls Try.prog 6 #[.agg #[.int .u64 a, .int .u64 b], .agg #[.int .u64 c, .int .u64 d], .int .i64 n, .int .u64 v, .int .u64 x] w fun e w' => e = .returned (.bool true) ∧ Below w.heap.size w w' := spanSound.walk ⟨a, b⟩ ⟨c, d⟩ n v x w ⟨ha, hb⟩ ⟨hc, hd⟩ (wfi ⟨by omega, by omega⟩) (wfu hv) (wfu hx)
theorem kG (a b c d n v x : Int) (ha : -9223372036854775808 ≤ a ∧ a ≤ 9223372036854775807) (hb : -9223372036854775808 ≤ b ∧ b ≤ 9223372036854775807) (hc : -9223372036854775808 ≤ c ∧ c ≤ 9223372036854775807) (hd : -9223372036854775808 ≤ d ∧ d ≤ 9223372036854775807) (hv : 0 ≤ v ∧ v ≤ 18446744073709551615) (hx : 0 ≤ x ∧ x ≤ 18446744073709551615) (hn : -100 ≤ n ∧ n ≤ 100) (w : World) :
    Calls Try.prog 7 #[.agg #[.int .i64 a, .int .i64 b], .agg #[.int .i64 c, .int .i64 d], .int .i64 n, .int .u64 v, .int .u64 x] w fun e w' => e = .returned (.bool true) ∧ Below w.heap.size w w' := spanSigns.walk ⟨a, b⟩ ⟨c, d⟩ n v x w ⟨ha, hb⟩ ⟨hc, hd⟩ (wfi ⟨by omega, by omega⟩) (wfu hv) (wfu hx)
theorem kL (a b c d p q v : Int) (ha : 0 ≤ a ∧ a ≤ 18446744073709551615) (hb : 0 ≤ b ∧ b ≤ 18446744073709551615) (hc : 0 ≤ c ∧ c ≤ 18446744073709551615) (hd : 0 ≤ d ∧ d ≤ 18446744073709551615) (hp : 0 ≤ p ∧ p ≤ 18446744073709551615) (hq : 0 ≤ q ∧ q ≤ 18446744073709551615) (hv : 0 ≤ v ∧ v ≤ 18446744073709551615) (w : World) :
    Calls Try.prog 9 #[.agg #[.int .u64 a, .int .u64 b], .agg #[.int .u64 c, .int .u64 d], .agg #[.int .u64 p, .int .u64 q], .int .u64 v] w fun e w' => e = .returned (.bool true) ∧ Below w.heap.size w w' := spanLattice.walk ⟨a, b⟩ ⟨c, d⟩ ⟨p, q⟩ v w ⟨ha, hb⟩ ⟨hc, hd⟩ ⟨hp, hq⟩ (wfu hv)
theorem kB (a b : Int) (ha : 0 ≤ a ∧ a ≤ 18446744073709551615) (hb : 0 ≤ b ∧ b ≤ 18446744073709551615) (w : World) :
    Calls Try.prog 5 #[.agg #[.int .u64 a, .int .u64 b]] w fun e w' => e = .returned (.bool true) ∧ Below w.heap.size w w' := by
  obtain ⟨x, rfl⟩ := u64_bi (wfu ha)
  obtain ⟨y, rfl⟩ := u64_bi (wfu hb)
  exact spanBits.walk ⟨x, y⟩ w
theorem kT (a b v : Int) (ha : 0 ≤ a ∧ a ≤ 18446744073709551615) (hb : 0 ≤ b ∧ b ≤ 18446744073709551615) (hv : 0 ≤ v ∧ v ≤ 18446744073709551615) (w : World) :
    Calls Try.prog 8 #[.agg #[.int .u64 a, .int .u64 b], .int .u64 v] w fun e w' => e = .returned (.bool true) ∧ Below w.heap.size w w' := by
  obtain ⟨x, rfl⟩ := u64_bi (wfu ha)
  obtain ⟨y, rfl⟩ := u64_bi (wfu hb)
  obtain ⟨z, rfl⟩ := u64_bi (wfu hv)
  exact spanTaken.walk ⟨x, y⟩ z w
theorem kE (a b n : Int) (ha : 0 ≤ a ∧ a ≤ 18446744073709551615) (hb : 0 ≤ b ∧ b ≤ 18446744073709551615) (hn : -100 ≤ n ∧ n ≤ 100) (w : World) :
    Calls Try.prog 10 #[.int .u64 a, .int .u64 b, .int .i64 n] w fun e w' => e = .returned (.bool true) ∧ Below w.heap.size w w' := spanExact.walk a b n w (wfu ha) (wfu hb) (wfi ⟨by omega, by omega⟩)
theorem ps {α : Type} {l : List α} {i : Nat} {x : α} : l.toArray.setIfInBounds i x = (l.set i x).toArray := List.setIfInBounds_toArray l i x
theorem p0 {α : Type} {l : List α} {x y : α} : (x :: l).set 0 y = y :: l := rfl
theorem p1 {α : Type} {l : List α} {i : Nat} {x y : α} : (x :: l).set (i + 1) y = x :: l.set i y := rfl
section
variable {P : Program} {ops : Array Oper} {Q : Exit → Act → World → Prop} {md : Region.Mode} {S : World → Prop}
theorem tq (i : Nat) (v : Value) {o : Oper} {fuel : Nat} {l : Array Bool} {a : Act} {w : World} (hl : ops.toList[i]? = some o)
    (hb : (Region.noSelect ops && Region.free md ops l i && (Region.ready md ops l).contains i) = true)
    (hQ : ∀ c a d v w, Q (.panic c) (Act.put a d v) w → Q (.panic c) a w) (hw : Region.wanted o (yielded ops a.tmps) = true) (hS : S w)
    (hy : ∀ w, S w → (execOp a.eval o).run P w = .ok (.value v) w)
    (h : wpAnyH P md ops Q S fuel (l.setIfInBounds i true) (a.put o.dst v) w) : wpAnyH P md ops Q S (fuel + 1) l a w := by
  simp only [Bool.and_eq_true] at hb
  have hi : ops[i]? = some o := Array.getElem?_toList.symm.trans hl
  exact wpAnyH_take hi hb.1.1 hb.1.2 hb.2 (fun c a w h => hQ c a _ _ w h) (Or.inl ⟨hw, hy⟩) hS h
theorem tu (i : Nat) {o : Oper} {fuel : Nat} {l : Array Bool} {a : Act} {w : World} (hl : ops.toList[i]? = some o)
    (hb : (Region.noSelect ops && Region.free md ops l i && (Region.ready md ops l).contains i) = true)
    (hQ : ∀ c a d v w, Q (.panic c) (Act.put a d v) w → Q (.panic c) a w) (hw : Region.wanted o (yielded ops a.tmps) = false) (hS : S w)
    (h : wpAnyH P md ops Q S fuel (l.setIfInBounds i true) (a.put o.dst undef) w) : wpAnyH P md ops Q S (fuel + 1) l a w := by
  simp only [Bool.and_eq_true] at hb
  have hi : ops[i]? = some o := Array.getElem?_toList.symm.trans hl
  exact wpAnyH_take hi hb.1.1 hb.1.2 hb.2 (fun c a w h => hQ c a _ _ w h) (Or.inr ⟨hw, rfl⟩) hS h
theorem tc (i : Nat) {o : Oper} {fuel : Nat} {l : Array Bool} {a : Act} {w : World} (ho : ops.toList[i]? = some o) (hr : Region.ready md ops l = [i])
    (h : ∀ K' : Act → World → Prop, Shut (∀ a w, S w → (S w → wpAnyH P md ops Q S fuel (l.setIfInBounds i true) a w) → K' a w) → if Region.wanted o (yielded ops a.tmps) = true then Oper.wp P o a w K' Q else K' (a.put o.dst undef) w) :
    wpAnyH P md ops Q S (fuel + 1) l a w := wpAnyH_ready hr (by simp) (AllReadyH.cons (Array.getElem?_toList.symm.trans ho) h AllReadyH.nil)
end
theorem rem17 {j k p : Int} (hj0 : 0 ≤ j) (hj : j < 17) (hk0 : 0 ≤ k) (hk : k < 17) (h : (j + k) % 17 = p) : ∃ s : Int, IntKind.i64.wrap (j + k) = s ∧ s.tmod 17 = p := by
  have e : IntKind.i64.wrap (j + k) = j + k := by rw [IntKind.wrap_i64]; omega
  exact ⟨_, e, by rw [Int.tmod_eq_emod_of_nonneg (by omega)]; omega⟩
theorem five {i : Int} (h0 : 0 ≤ i) (h : i < 17) : ∃ m n : Int, IntKind.i64.wrap (i * 5) = m ∧ IntKind.i64.wrap (m - 7) = n ∧ -100 ≤ n ∧ n ≤ 100 := by
  have e : IntKind.i64.wrap (i * 5) = i * 5 := by rw [IntKind.wrap_i64]; omega
  have f : IntKind.i64.wrap (i * 5 - 7) = i * 5 - 7 := by rw [IntKind.wrap_i64]; omega
  exact ⟨_, _, e, f, by omega, by omega⟩
theorem grow1 (z : World) (o : Obj) : Below z.heap.size z (z.alloc o) := (Below.refl _ _).alloc (Nat.le_refl _) o
theorem kp2 {B : Nat} {w W w2 : World} {p0 p1 : Addr} {y0 y1 : Value} (hB : B ≤ w.heap.size) (hb : Below W.heap.size W w2) (hh : W.cell? p0 = some y0 ∧ W.cell? p1 = some y1 ∧ Below B w W) :
    w2.cell? p0 = some y0 ∧ w2.cell? p1 = some y1 ∧ Below B w w2 := by
  obtain ⟨a0, a1, H⟩ := hh
  exact ⟨keep1 hb a0, keep1 hb a1, below_then H hb hB⟩
theorem kp11 {B : Nat} {w W w2 : World} {p0 p1 p2 p3 p4 p5 p6 p7 p8 p9 p10 : Addr} {y0 y1 y2 y3 y4 y5 y6 y7 y8 y9 y10 : Value} (hB : B ≤ w.heap.size) (hb : Below W.heap.size W w2) (hh : W.cell? p0 = some y0 ∧ W.cell? p1 = some y1 ∧ W.cell? p2 = some y2 ∧ W.cell? p3 = some y3 ∧ W.cell? p4 = some y4 ∧ W.cell? p5 = some y5 ∧ W.cell? p6 = some y6 ∧ W.cell? p7 = some y7 ∧ W.cell? p8 = some y8 ∧ W.cell? p9 = some y9 ∧ W.cell? p10 = some y10 ∧ Below B w W) :
    w2.cell? p0 = some y0 ∧ w2.cell? p1 = some y1 ∧ w2.cell? p2 = some y2 ∧ w2.cell? p3 = some y3 ∧ w2.cell? p4 = some y4 ∧ w2.cell? p5 = some y5 ∧ w2.cell? p6 = some y6 ∧ w2.cell? p7 = some y7 ∧ w2.cell? p8 = some y8 ∧ w2.cell? p9 = some y9 ∧ w2.cell? p10 = some y10 ∧ Below B w w2 := by
  obtain ⟨a0, a1, a2, a3, a4, a5, a6, a7, a8, a9, a10, H⟩ := hh
  exact ⟨keep1 hb a0, keep1 hb a1, keep1 hb a2, keep1 hb a3, keep1 hb a4, keep1 hb a5, keep1 hb a6, keep1 hb a7, keep1 hb a8, keep1 hb a9, keep1 hb a10, below_then H hb hB⟩
def findR (n : Nat) : Code → Option Code
  | .region id ops d => if id = n then some (.region id ops d) else none
  | .loop c => findR n c
  | .seq a b => (findR n a).or (findR n b)
  | .block _ c => findR n c
  | .scope c => findR n c
  | .cond _ a b => (findR n a).or (findR n b)
  | _ => none
variable {u0 u1 u2 u3 u4 u5 u6 u7 u8 u9 u10 u11 u12 u13 u14 u15 u16 u17 u18 u19 u20 u21 u22 u23 u24 u25 u26 u27 u28 u29 u30 u31 u32 u33 u34 u35 u36 u37 u38 u39 u40 u41 u42 u43 u44 u45 u46 u47 u48 u49 u50 u51 u52 u53 u54 u55 u56 u57 u58 u59 u60 u61 u62 u63 u64 u65 u66 u67 u68 u69 u70 u71 u72 u73 u74 u75 u76 u77 u78 u79 u80 u81 u82 u83 u84 u85 u86 u87 u88 u89 u90 u91 u92 u93 u94 u95 u96 u97 u98 u99 u100 u101 u102 u103 u104 u105 u106 u107 u108 u109 u110 u111 u112 u113 u114 u115 u116 u117 u118 u119 u120 u121 u122 u123 u124 u125 u126 u127 u128 u129 u130 u131 u132 u133 u134 u135 u136 u137 u138 u139 u140 u141 u142 u143 u144 u145 u146 u147 u148 u149 u150 u151 u152 u153 u154 u155 u156 u157 u158 u159 u160 u161 u162 u163 u164 u165 u166 u167 u168 u169 u170 u171 u172 u173 u174 u175 u176 u177 u178 u179 u180 u181 u182 u183 u184 u185 u186 u187 u188 u189 u190 u191 u192 u193 u194 u195 u196 u197 u198 u199 u200 u201 u202 u203 u204 u205 u206 u207 u208 u209 u210 u211 : Value}
noncomputable def c11 : Code := (Try.f11.body.bind (findR 11)).getD .skip
set_option maxRecDepth 1000000 in
set_option maxHeartbeats 20000000 in
theorem g11 {K : Act → World → Prop} {Q0 : Exit → Act → World → Prop} {g : Nat} {i k j ei ek : Int} {y : World}
    (hQ : ∀ c a d v w, Q0 (.panic c) (Act.put a d v) w → Q0 (.panic c) a w) (h0 : 0 ≤ i) (h1 : i < 17) (h2 : 0 ≤ k) (h3 : k < 17) (c_0 : y.cell? ⟨g, i.toNat, none⟩ = some (.int .u64 ei)) (c_1 : y.cell? ⟨g, k.toNat, none⟩ = some (.int .u64 ek))
    (hK : ∀ (t30 t31 t32 t33 t34 t35 t36 t37 t38 : Value) (z : World), Below y.heap.size y z → K ⟨#[u0, .slice (some ⟨g, 0, none⟩) 17 17, .int .i64 i, .int .i64 k, .int .i64 j, .pointer (some ⟨z.heap.size, 0, none⟩), u6, u7, u8, u9, u10, u11, u12, u13, u14, u15, u16, u17, u18, u19, u20, u21, u22, u23, u24, u25, u26, u27, u28, u29, t30, t31, t32, t33, t34, t35, t36, t37, t38, u39, u40, u41, u42, u43, u44, u45, u46, u47, u48, u49, u50, u51, u52, u53, u54, u55, u56, u57, u58, u59, u60, u61, u62, u63, u64, u65, u66, u67, u68, u69, u70, u71, u72, u73, u74, u75, u76, u77, u78, u79, u80, u81, u82, u83, u84, u85, u86, u87, u88, u89, u90, u91, u92, u93, u94, u95, u96, u97, u98, u99, u100, u101, u102, u103, u104, u105, u106, u107, u108, u109, u110, u111, u112, u113, u114, u115, u116, u117, u118, u119, u120, u121, u122, u123, u124, u125, u126, u127, u128, u129, u130, u131, u132, u133, u134, u135, u136, u137, u138, u139, u140, u141, u142, u143, u144, u145, u146, u147, u148, u149, u150, u151, u152, u153, u154, u155, u156, u157, u158, u159, u160, u161, u162, u163, u164, u165, u166, u167, u168, u169, u170, u171, u172, u173, u174, u175, u176, u177, u178, u179, u180, u181, u182, u183, u184, u185, u186, u187, u188, u189, u190, u191, u192, u193, u194, u195, u196, u197, u198, u199, u200, u201, u202, u203, u204, u205, u206, u207, u208, u209, u210, u211], []⟩ (z.alloc (.cells #[.int .u64 ei, .int .u64 ek] 24))) :
    c11.wp Try.prog (Exit.then K Q0) ⟨#[u0, .slice (some ⟨g, 0, none⟩) 17 17, .int .i64 i, .int .i64 k, .int .i64 j, u5, u6, u7, u8, u9, u10, u11, u12, u13, u14, u15, u16, u17, u18, u19, u20, u21, u22, u23, u24, u25, u26, u27, u28, u29, u30, u31, u32, u33, u34, u35, u36, u37, u38, u39, u40, u41, u42, u43, u44, u45, u46, u47, u48, u49, u50, u51, u52, u53, u54, u55, u56, u57, u58, u59, u60, u61, u62, u63, u64, u65, u66, u67, u68, u69, u70, u71, u72, u73, u74, u75, u76, u77, u78, u79, u80, u81, u82, u83, u84, u85, u86, u87, u88, u89, u90, u91, u92, u93, u94, u95, u96, u97, u98, u99, u100, u101, u102, u103, u104, u105, u106, u107, u108, u109, u110, u111, u112, u113, u114, u115, u116, u117, u118, u119, u120, u121, u122, u123, u124, u125, u126, u127, u128, u129, u130, u131, u132, u133, u134, u135, u136, u137, u138, u139, u140, u141, u142, u143, u144, u145, u146, u147, u148, u149, u150, u151, u152, u153, u154, u155, u156, u157, u158, u159, u160, u161, u162, u163, u164, u165, u166, u167, u168, u169, u170, u171, u172, u173, u174, u175, u176, u177, u178, u179, u180, u181, u182, u183, u184, u185, u186, u187, u188, u189, u190, u191, u192, u193, u194, u195, u196, u197, u198, u199, u200, u201, u202, u203, u204, u205, u206, u207, u208, u209, u210, u211], []⟩ y := by
  have HK := Lib.hid hK
  clear hK
  have hq : ∀ c a d v w, Exit.then K Q0 (.panic c) (Act.put a d v) w → Exit.then K Q0 (.panic c) a w := hQ
  conv => arg 2; whnf
  refine wp_region_held_drew (S := fun w' => w'.cell? ⟨g, i.toNat, none⟩ = some (.int .u64 ei) ∧ w'.cell? ⟨g, k.toNat, none⟩ = some (.int .u64 ek) ∧ Below y.heap.size y w') (by kernel_rfl) ⟨c_0, c_1, (Below.refl _ _).drew⟩ (fun g => ?_)
  generalize y.drew = z0 at *
  clear c_0 c_1
  refine tq 0 ?_ rfl (by kernel_rfl) hq (by rfl) g ?_ ?_; rotate_left
  · intro w9 h; go_simp; try with_reducible rfl
  simp only [Act.put, ps, p0, p1]
  refine tq 1 ?_ rfl (by kernel_rfl) hq (by rfl) g ?_ ?_; rotate_left
  · intro w9 h; go_simp; try with_reducible rfl
  simp only [Act.put, ps, p0, p1]
  refine tq 2 ?_ rfl (by kernel_rfl) hq (by rfl) g ?_ ?_; rotate_left
  · intro w9 h; go_simp; try with_reducible rfl
  simp only [Act.put, ps, p0, p1]
  refine tq 3 ?_ rfl (by kernel_rfl) hq (by rfl) g ?_ ?_; rotate_left
  · intro w9 h; go_simp; try with_reducible rfl
  simp only [Act.put, ps, p0, p1]
  refine tq 4 ?_ rfl (by kernel_rfl) hq (by rfl) g ?_ ?_; rotate_left
  · intro w9 h; go_simp; try with_reducible rfl
  simp only [Act.put, ps, p0, p1]
  refine tq 5 ?_ rfl (by kernel_rfl) hq (by rfl) g ?_ ?_; rotate_left
  · intro w9 h; go_simp; try with_reducible rfl
  simp only [Act.put, ps, p0, p1]
  refine tq 6 ?_ rfl (by kernel_rfl) hq (by rfl) g ?_ ?_; rotate_left
  · intro w9 h; go_simp; try with_reducible rfl
  simp only [Act.put, ps, p0, p1]
  refine tq 7 ?_ rfl (by kernel_rfl) hq (by rfl) g ?_ ?_; rotate_left
  · intro w9 h; go_simp; try with_reducible rfl
  simp only [Act.put, ps, p0, p1]
  refine tq 8 ?_ rfl (by kernel_rfl) hq (by rfl) g ?_ ?_; rotate_left
  · intro w9 h; go_simp; try with_reducible rfl
  simp only [Act.put, ps, p0, p1]
  refine tc 9 rfl (by kernel_rfl) (fun K9 hK => ?_)
  go_simp
  refine hK.out _ _ (kp2 (Nat.le_refl _) (grow1 _ _) g) (fun g1 => ?_)
  clear hK K9
  have d0 := (Bk.new z0 24 #[.int .u64 0, .int .u64 0]).cell 0
  have d1 := (Bk.new z0 24 #[.int .u64 0, .int .u64 0]).cell 1
  have e0 := (Bk.new z0 24 #[.int .u64 0, .int .u64 0]).frozen 0
  have e1 := (Bk.new z0 24 #[.int .u64 0, .int .u64 0]).frozen 1
  refine tc 10 rfl (by kernel_rfl) (fun K9 hK => ?_)
  go_simp
  refine hK.out _ _ (kp2 (Nat.le_refl _) (grow1 z0 _) g) (fun g2 => ?_)
  clear hK K9 d0 d1 e0 e1 g1 g2
  refine wpAnyH_done (by kernel_rfl) ?_ _
  exact HK.out _ _ _ _ _ _ _ _ _ z0 g.2.2
noncomputable def c12 : Code := (Try.f11.body.bind (findR 12)).getD .skip
set_option maxRecDepth 1000000 in
set_option maxHeartbeats 20000000 in
theorem g12 {K : Act → World → Prop} {Q0 : Exit → Act → World → Prop} {g : Nat} {i k j p s ej ep : Int} {y : World}
    (hQ : ∀ c a d v w, Q0 (.panic c) (Act.put a d v) w → Q0 (.panic c) a w) (h0 : 0 ≤ j) (h1 : j < 17) (h2 : 0 ≤ p) (h3 : p < 17) (h4 : IntKind.i64.wrap (j + k) = s) (h5 : s.tmod 17 = p) (c_0 : y.cell? ⟨g, j.toNat, none⟩ = some (.int .u64 ej)) (c_1 : y.cell? ⟨g, p.toNat, none⟩ = some (.int .u64 ep))
    (hK : ∀ (t39 t40 t41 t42 t43 t44 t45 t46 t47 t48 t49 t50 t51 t52 : Value) (z : World), Below y.heap.size y z → K ⟨#[u0, .slice (some ⟨g, 0, none⟩) 17 17, .int .i64 i, .int .i64 k, .int .i64 j, u5, .pointer (some ⟨z.heap.size, 0, none⟩), u7, u8, u9, u10, u11, u12, u13, u14, u15, u16, u17, u18, u19, u20, u21, u22, u23, u24, u25, u26, u27, u28, u29, u30, u31, u32, u33, u34, u35, u36, u37, u38, t39, t40, t41, t42, t43, t44, t45, t46, t47, t48, t49, t50, t51, t52, u53, u54, u55, u56, u57, u58, u59, u60, u61, u62, u63, u64, u65, u66, u67, u68, u69, u70, u71, u72, u73, u74, u75, u76, u77, u78, u79, u80, u81, u82, u83, u84, u85, u86, u87, u88, u89, u90, u91, u92, u93, u94, u95, u96, u97, u98, u99, u100, u101, u102, u103, u104, u105, u106, u107, u108, u109, u110, u111, u112, u113, u114, u115, u116, u117, u118, u119, u120, u121, u122, u123, u124, u125, u126, u127, u128, u129, u130, u131, u132, u133, u134, u135, u136, u137, u138, u139, u140, u141, u142, u143, u144, u145, u146, u147, u148, u149, u150, u151, u152, u153, u154, u155, u156, u157, u158, u159, u160, u161, u162, u163, u164, u165, u166, u167, u168, u169, u170, u171, u172, u173, u174, u175, u176, u177, u178, u179, u180, u181, u182, u183, u184, u185, u186, u187, u188, u189, u190, u191, u192, u193, u194, u195, u196, u197, u198, u199, u200, u201, u202, u203, u204, u205, u206, u207, u208, u209, u210, u211], []⟩ (z.alloc (.cells #[.int .u64 ej, .int .u64 ep] 24))) :
    c12.wp Try.prog (Exit.then K Q0) ⟨#[u0, .slice (some ⟨g, 0, none⟩) 17 17, .int .i64 i, .int .i64 k, .int .i64 j, u5, u6, u7, u8, u9, u10, u11, u12, u13, u14, u15, u16, u17, u18, u19, u20, u21, u22, u23, u24, u25, u26, u27, u28, u29, u30, u31, u32, u33, u34, u35, u36, u37, u38, u39, u40, u41, u42, u43, u44, u45, u46, u47, u48, u49, u50, u51, u52, u53, u54, u55, u56, u57, u58, u59, u60, u61, u62, u63, u64, u65, u66, u67, u68, u69, u70, u71, u72, u73, u74, u75, u76, u77, u78, u79, u80, u81, u82, u83, u84, u85, u86, u87, u88, u89, u90, u91, u92, u93, u94, u95, u96, u97, u98, u99, u100, u101, u102, u103, u104, u105, u106, u107, u108, u109, u110, u111, u112, u113, u114, u115, u116, u117, u118, u119, u120, u121, u122, u123, u124, u125, u126, u127, u128, u129, u130, u131, u132, u133, u134, u135, u136, u137, u138, u139, u140, u141, u142, u143, u144, u145, u146, u147, u148, u149, u150, u151, u152, u153, u154, u155, u156, u157, u158, u159, u160, u161, u162, u163, u164, u165, u166, u167, u168, u169, u170, u171, u172, u173, u174, u175, u176, u177, u178, u179, u180, u181, u182, u183, u184, u185, u186, u187, u188, u189, u190, u191, u192, u193, u194, u195, u196, u197, u198, u199, u200, u201, u202, u203, u204, u205, u206, u207, u208, u209, u210, u211], []⟩ y := by
  have HK := Lib.hid hK
  clear hK
  have hq : ∀ c a d v w, Exit.then K Q0 (.panic c) (Act.put a d v) w → Exit.then K Q0 (.panic c) a w := hQ
  conv => arg 2; whnf
  have ha := h4
  have hr := h5
  clear h4 h5
  refine wp_region_held_drew (S := fun w' => w'.cell? ⟨g, j.toNat, none⟩ = some (.int .u64 ej) ∧ w'.cell? ⟨g, p.toNat, none⟩ = some (.int .u64 ep) ∧ Below y.heap.size y w') (by kernel_rfl) ⟨c_0, c_1, (Below.refl _ _).drew⟩ (fun g => ?_)
  generalize y.drew = z0 at *
  clear c_0 c_1
  refine tq 0 ?_ rfl (by kernel_rfl) hq (by rfl) g ?_ ?_; rotate_left
  · intro w9 h; go_simp; try with_reducible rfl
  simp only [Act.put, ps, p0, p1]
  refine tq 1 ?_ rfl (by kernel_rfl) hq (by rfl) g ?_ ?_; rotate_left
  · intro w9 h; go_simp; try with_reducible rfl
  simp only [Act.put, ps, p0, p1]
  refine tq 2 ?_ rfl (by kernel_rfl) hq (by rfl) g ?_ ?_; rotate_left
  · intro w9 h; go_simp; try with_reducible rfl
  simp only [Act.put, ps, p0, p1]
  refine tq 3 ?_ rfl (by kernel_rfl) hq (by rfl) g ?_ ?_; rotate_left
  · intro w9 h; go_simp; try with_reducible rfl
  simp only [Act.put, ps, p0, p1]
  refine tq 4 ?_ rfl (by kernel_rfl) hq (by rfl) g ?_ ?_; rotate_left
  · intro w9 h; go_simp; try with_reducible rfl
  simp only [Act.put, ps, p0, p1]
  refine tq 5 ?_ rfl (by kernel_rfl) hq (by rfl) g ?_ ?_; rotate_left
  · intro w9 h; go_simp; try with_reducible rfl
  simp only [Act.put, ps, p0, p1]
  refine tq 6 ?_ rfl (by kernel_rfl) hq (by rfl) g ?_ ?_; rotate_left
  · intro w9 h; go_simp; try with_reducible rfl
  simp only [Act.put, ps, p0, p1]
  refine tq 7 ?_ rfl (by kernel_rfl) hq (by rfl) g ?_ ?_; rotate_left
  · intro w9 h; go_simp; try with_reducible rfl
  simp only [Act.put, ps, p0, p1]
  try simp only [ha]
  refine tq 8 ?_ rfl (by kernel_rfl) hq (by rfl) g ?_ ?_; rotate_left
  · intro w9 h; go_simp; try with_reducible rfl
  simp only [Act.put, ps, p0, p1]
  refine tq 9 ?_ rfl (by kernel_rfl) hq (by rfl) g ?_ ?_; rotate_left
  · intro w9 h; go_simp; try with_reducible rfl
  simp only [Act.put, ps, p0, p1]
  refine tq 10 ?_ rfl (by kernel_rfl) hq (by rfl) g ?_ ?_; rotate_left
  · intro w9 h; go_simp; try with_reducible rfl
  simp only [Act.put, ps, p0, p1]
  try simp only [hr]
  refine tq 11 ?_ rfl (by kernel_rfl) hq (by rfl) g ?_ ?_; rotate_left
  · intro w9 h; go_simp; try with_reducible rfl
  simp only [Act.put, ps, p0, p1]
  refine tq 12 ?_ rfl (by kernel_rfl) hq (by rfl) g ?_ ?_; rotate_left
  · intro w9 h; go_simp; try with_reducible rfl
  simp only [Act.put, ps, p0, p1]
  refine tq 13 ?_ rfl (by kernel_rfl) hq (by rfl) g ?_ ?_; rotate_left
  · intro w9 h; go_simp; try with_reducible rfl
  simp only [Act.put, ps, p0, p1]
  refine tc 14 rfl (by kernel_rfl) (fun K9 hK => ?_)
  go_simp
  refine hK.out _ _ (kp2 (Nat.le_refl _) (grow1 _ _) g) (fun g1 => ?_)
  clear hK K9
  have d0 := (Bk.new z0 24 #[.int .u64 0, .int .u64 0]).cell 0
  have d1 := (Bk.new z0 24 #[.int .u64 0, .int .u64 0]).cell 1
  have e0 := (Bk.new z0 24 #[.int .u64 0, .int .u64 0]).frozen 0
  have e1 := (Bk.new z0 24 #[.int .u64 0, .int .u64 0]).frozen 1
  refine tc 15 rfl (by kernel_rfl) (fun K9 hK => ?_)
  go_simp
  refine hK.out _ _ (kp2 (Nat.le_refl _) (grow1 z0 _) g) (fun g2 => ?_)
  clear hK K9 d0 d1 e0 e1 g1 g2
  refine wpAnyH_done (by kernel_rfl) ?_ _
  exact HK.out _ _ _ _ _ _ _ _ _ _ _ _ _ _ z0 g.2.2
noncomputable def c13 : Code := (Try.f11.body.bind (findR 13)).getD .skip
set_option maxRecDepth 1000000 in
set_option maxHeartbeats 20000000 in
theorem g13 {K : Act → World → Prop} {Q0 : Exit → Act → World → Prop} {g : Nat} {i k j ei ek ui uk : Int} {y : World}
    (hQ : ∀ c a d v w, Q0 (.panic c) (Act.put a d v) w → Q0 (.panic c) a w) (h0 : 0 ≤ i) (h1 : i < 17) (h2 : 0 ≤ k) (h3 : k < 17) (h4 : IntKind.i64.wrap ei = ui) (h5 : IntKind.i64.wrap ek = uk) (c_0 : y.cell? ⟨g, i.toNat, none⟩ = some (.int .u64 ei)) (c_1 : y.cell? ⟨g, k.toNat, none⟩ = some (.int .u64 ek))
    (hK : ∀ (t53 t54 t55 t56 t57 t58 t59 t60 t61 t62 t63 : Value) (z : World), Below y.heap.size y z → K ⟨#[u0, .slice (some ⟨g, 0, none⟩) 17 17, .int .i64 i, .int .i64 k, .int .i64 j, u5, u6, .pointer (some ⟨z.heap.size, 0, none⟩), u8, u9, u10, u11, u12, u13, u14, u15, u16, u17, u18, u19, u20, u21, u22, u23, u24, u25, u26, u27, u28, u29, u30, u31, u32, u33, u34, u35, u36, u37, u38, u39, u40, u41, u42, u43, u44, u45, u46, u47, u48, u49, u50, u51, u52, t53, t54, t55, t56, t57, t58, t59, t60, t61, t62, t63, u64, u65, u66, u67, u68, u69, u70, u71, u72, u73, u74, u75, u76, u77, u78, u79, u80, u81, u82, u83, u84, u85, u86, u87, u88, u89, u90, u91, u92, u93, u94, u95, u96, u97, u98, u99, u100, u101, u102, u103, u104, u105, u106, u107, u108, u109, u110, u111, u112, u113, u114, u115, u116, u117, u118, u119, u120, u121, u122, u123, u124, u125, u126, u127, u128, u129, u130, u131, u132, u133, u134, u135, u136, u137, u138, u139, u140, u141, u142, u143, u144, u145, u146, u147, u148, u149, u150, u151, u152, u153, u154, u155, u156, u157, u158, u159, u160, u161, u162, u163, u164, u165, u166, u167, u168, u169, u170, u171, u172, u173, u174, u175, u176, u177, u178, u179, u180, u181, u182, u183, u184, u185, u186, u187, u188, u189, u190, u191, u192, u193, u194, u195, u196, u197, u198, u199, u200, u201, u202, u203, u204, u205, u206, u207, u208, u209, u210, u211], []⟩ (z.alloc (.cells #[.int .i64 ui, .int .i64 uk] 35))) :
    c13.wp Try.prog (Exit.then K Q0) ⟨#[u0, .slice (some ⟨g, 0, none⟩) 17 17, .int .i64 i, .int .i64 k, .int .i64 j, u5, u6, u7, u8, u9, u10, u11, u12, u13, u14, u15, u16, u17, u18, u19, u20, u21, u22, u23, u24, u25, u26, u27, u28, u29, u30, u31, u32, u33, u34, u35, u36, u37, u38, u39, u40, u41, u42, u43, u44, u45, u46, u47, u48, u49, u50, u51, u52, u53, u54, u55, u56, u57, u58, u59, u60, u61, u62, u63, u64, u65, u66, u67, u68, u69, u70, u71, u72, u73, u74, u75, u76, u77, u78, u79, u80, u81, u82, u83, u84, u85, u86, u87, u88, u89, u90, u91, u92, u93, u94, u95, u96, u97, u98, u99, u100, u101, u102, u103, u104, u105, u106, u107, u108, u109, u110, u111, u112, u113, u114, u115, u116, u117, u118, u119, u120, u121, u122, u123, u124, u125, u126, u127, u128, u129, u130, u131, u132, u133, u134, u135, u136, u137, u138, u139, u140, u141, u142, u143, u144, u145, u146, u147, u148, u149, u150, u151, u152, u153, u154, u155, u156, u157, u158, u159, u160, u161, u162, u163, u164, u165, u166, u167, u168, u169, u170, u171, u172, u173, u174, u175, u176, u177, u178, u179, u180, u181, u182, u183, u184, u185, u186, u187, u188, u189, u190, u191, u192, u193, u194, u195, u196, u197, u198, u199, u200, u201, u202, u203, u204, u205, u206, u207, u208, u209, u210, u211], []⟩ y := by
  have HK := Lib.hid hK
  clear hK
  have hq : ∀ c a d v w, Exit.then K Q0 (.panic c) (Act.put a d v) w → Exit.then K Q0 (.panic c) a w := hQ
  conv => arg 2; whnf
  have hc1 := h4
  have hc2 := h5
  clear h4 h5
  refine wp_region_held_drew (S := fun w' => w'.cell? ⟨g, i.toNat, none⟩ = some (.int .u64 ei) ∧ w'.cell? ⟨g, k.toNat, none⟩ = some (.int .u64 ek) ∧ Below y.heap.size y w') (by kernel_rfl) ⟨c_0, c_1, (Below.refl _ _).drew⟩ (fun g => ?_)
  generalize y.drew = z0 at *
  clear c_0 c_1
  refine tq 0 ?_ rfl (by kernel_rfl) hq (by rfl) g ?_ ?_; rotate_left
  · intro w9 h; go_simp; try with_reducible rfl
  simp only [Act.put, ps, p0, p1]
  refine tq 1 ?_ rfl (by kernel_rfl) hq (by rfl) g ?_ ?_; rotate_left
  · intro w9 h; go_simp; try with_reducible rfl
  simp only [Act.put, ps, p0, p1]
  refine tq 2 ?_ rfl (by kernel_rfl) hq (by rfl) g ?_ ?_; rotate_left
  · intro w9 h; go_simp; try with_reducible rfl
  simp only [Act.put, ps, p0, p1]
  refine tq 3 ?_ rfl (by kernel_rfl) hq (by rfl) g ?_ ?_; rotate_left
  · intro w9 h; go_simp; try with_reducible rfl
  simp only [Act.put, ps, p0, p1]
  refine tq 4 ?_ rfl (by kernel_rfl) hq (by rfl) g ?_ ?_; rotate_left
  · intro w9 h; go_simp; try with_reducible rfl
  simp only [Act.put, ps, p0, p1]
  try simp only [hc1, hc2]
  refine tq 5 ?_ rfl (by kernel_rfl) hq (by rfl) g ?_ ?_; rotate_left
  · intro w9 h; go_simp; try with_reducible rfl
  simp only [Act.put, ps, p0, p1]
  refine tq 6 ?_ rfl (by kernel_rfl) hq (by rfl) g ?_ ?_; rotate_left
  · intro w9 h; go_simp; try with_reducible rfl
  simp only [Act.put, ps, p0, p1]
  refine tq 7 ?_ rfl (by kernel_rfl) hq (by rfl) g ?_ ?_; rotate_left
  · intro w9 h; go_simp; try with_reducible rfl
  simp only [Act.put, ps, p0, p1]
  refine tq 8 ?_ rfl (by kernel_rfl) hq (by rfl) g ?_ ?_; rotate_left
  · intro w9 h; go_simp; try with_reducible rfl
  simp only [Act.put, ps, p0, p1]
  refine tq 9 ?_ rfl (by kernel_rfl) hq (by rfl) g ?_ ?_; rotate_left
  · intro w9 h; go_simp; try with_reducible rfl
  simp only [Act.put, ps, p0, p1]
  try simp only [hc1, hc2]
  refine tq 10 ?_ rfl (by kernel_rfl) hq (by rfl) g ?_ ?_; rotate_left
  · intro w9 h; go_simp; try with_reducible rfl
  simp only [Act.put, ps, p0, p1]
  refine tc 11 rfl (by kernel_rfl) (fun K9 hK => ?_)
  go_simp
  refine hK.out _ _ (kp2 (Nat.le_refl _) (grow1 _ _) g) (fun g1 => ?_)
  clear hK K9
  have d0 := (Bk.new z0 35 #[.int .i64 0, .int .i64 0]).cell 0
  have d1 := (Bk.new z0 35 #[.int .i64 0, .int .i64 0]).cell 1
  have e0 := (Bk.new z0 35 #[.int .i64 0, .int .i64 0]).frozen 0
  have e1 := (Bk.new z0 35 #[.int .i64 0, .int .i64 0]).frozen 1
  refine tc 12 rfl (by kernel_rfl) (fun K9 hK => ?_)
  go_simp
  refine hK.out _ _ (kp2 (Nat.le_refl _) (grow1 z0 _) g) (fun g2 => ?_)
  clear hK K9 d0 d1 e0 e1 g1 g2
  refine wpAnyH_done (by kernel_rfl) ?_ _
  exact HK.out _ _ _ _ _ _ _ _ _ _ _ z0 g.2.2
noncomputable def c14 : Code := (Try.f11.body.bind (findR 14)).getD .skip
set_option maxRecDepth 1000000 in
set_option maxHeartbeats 20000000 in
theorem g14 {K : Act → World → Prop} {Q0 : Exit → Act → World → Prop} {g : Nat} {i k j q s ej eq uj uq : Int} {y : World}
    (hQ : ∀ c a d v w, Q0 (.panic c) (Act.put a d v) w → Q0 (.panic c) a w) (h0 : 0 ≤ j) (h1 : j < 17) (h2 : 0 ≤ q) (h3 : q < 17) (h4 : IntKind.i64.wrap (j + i) = s) (h5 : s.tmod 17 = q) (h6 : IntKind.i64.wrap ej = uj) (h7 : IntKind.i64.wrap eq = uq) (c_0 : y.cell? ⟨g, j.toNat, none⟩ = some (.int .u64 ej)) (c_1 : y.cell? ⟨g, q.toNat, none⟩ = some (.int .u64 eq))
    (hK : ∀ (t64 t65 t66 t67 t68 t69 t70 t71 t72 t73 t74 t75 t76 t77 t78 t79 : Value) (z : World), Below y.heap.size y z → K ⟨#[u0, .slice (some ⟨g, 0, none⟩) 17 17, .int .i64 i, .int .i64 k, .int .i64 j, u5, u6, u7, .pointer (some ⟨z.heap.size, 0, none⟩), u9, u10, u11, u12, u13, u14, u15, u16, u17, u18, u19, u20, u21, u22, u23, u24, u25, u26, u27, u28, u29, u30, u31, u32, u33, u34, u35, u36, u37, u38, u39, u40, u41, u42, u43, u44, u45, u46, u47, u48, u49, u50, u51, u52, u53, u54, u55, u56, u57, u58, u59, u60, u61, u62, u63, t64, t65, t66, t67, t68, t69, t70, t71, t72, t73, t74, t75, t76, t77, t78, t79, u80, u81, u82, u83, u84, u85, u86, u87, u88, u89, u90, u91, u92, u93, u94, u95, u96, u97, u98, u99, u100, u101, u102, u103, u104, u105, u106, u107, u108, u109, u110, u111, u112, u113, u114, u115, u116, u117, u118, u119, u120, u121, u122, u123, u124, u125, u126, u127, u128, u129, u130, u131, u132, u133, u134, u135, u136, u137, u138, u139, u140, u141, u142, u143, u144, u145, u146, u147, u148, u149, u150, u151, u152, u153, u154, u155, u156, u157, u158, u159, u160, u161, u162, u163, u164, u165, u166, u167, u168, u169, u170, u171, u172, u173, u174, u175, u176, u177, u178, u179, u180, u181, u182, u183, u184, u185, u186, u187, u188, u189, u190, u191, u192, u193, u194, u195, u196, u197, u198, u199, u200, u201, u202, u203, u204, u205, u206, u207, u208, u209, u210, u211], []⟩ (z.alloc (.cells #[.int .i64 uj, .int .i64 uq] 35))) :
    c14.wp Try.prog (Exit.then K Q0) ⟨#[u0, .slice (some ⟨g, 0, none⟩) 17 17, .int .i64 i, .int .i64 k, .int .i64 j, u5, u6, u7, u8, u9, u10, u11, u12, u13, u14, u15, u16, u17, u18, u19, u20, u21, u22, u23, u24, u25, u26, u27, u28, u29, u30, u31, u32, u33, u34, u35, u36, u37, u38, u39, u40, u41, u42, u43, u44, u45, u46, u47, u48, u49, u50, u51, u52, u53, u54, u55, u56, u57, u58, u59, u60, u61, u62, u63, u64, u65, u66, u67, u68, u69, u70, u71, u72, u73, u74, u75, u76, u77, u78, u79, u80, u81, u82, u83, u84, u85, u86, u87, u88, u89, u90, u91, u92, u93, u94, u95, u96, u97, u98, u99, u100, u101, u102, u103, u104, u105, u106, u107, u108, u109, u110, u111, u112, u113, u114, u115, u116, u117, u118, u119, u120, u121, u122, u123, u124, u125, u126, u127, u128, u129, u130, u131, u132, u133, u134, u135, u136, u137, u138, u139, u140, u141, u142, u143, u144, u145, u146, u147, u148, u149, u150, u151, u152, u153, u154, u155, u156, u157, u158, u159, u160, u161, u162, u163, u164, u165, u166, u167, u168, u169, u170, u171, u172, u173, u174, u175, u176, u177, u178, u179, u180, u181, u182, u183, u184, u185, u186, u187, u188, u189, u190, u191, u192, u193, u194, u195, u196, u197, u198, u199, u200, u201, u202, u203, u204, u205, u206, u207, u208, u209, u210, u211], []⟩ y := by
  have HK := Lib.hid hK
  clear hK
  have hq : ∀ c a d v w, Exit.then K Q0 (.panic c) (Act.put a d v) w → Exit.then K Q0 (.panic c) a w := hQ
  conv => arg 2; whnf
  have ha := h4
  have hr := h5
  have hc1 := h6
  have hc2 := h7
  clear h4 h5 h6 h7
  refine wp_region_held_drew (S := fun w' => w'.cell? ⟨g, j.toNat, none⟩ = some (.int .u64 ej) ∧ w'.cell? ⟨g, q.toNat, none⟩ = some (.int .u64 eq) ∧ Below y.heap.size y w') (by kernel_rfl) ⟨c_0, c_1, (Below.refl _ _).drew⟩ (fun g => ?_)
  generalize y.drew = z0 at *
  clear c_0 c_1
  refine tq 0 ?_ rfl (by kernel_rfl) hq (by rfl) g ?_ ?_; rotate_left
  · intro w9 h; go_simp; try with_reducible rfl
  simp only [Act.put, ps, p0, p1]
  refine tq 1 ?_ rfl (by kernel_rfl) hq (by rfl) g ?_ ?_; rotate_left
  · intro w9 h; go_simp; try with_reducible rfl
  simp only [Act.put, ps, p0, p1]
  refine tq 2 ?_ rfl (by kernel_rfl) hq (by rfl) g ?_ ?_; rotate_left
  · intro w9 h; go_simp; try with_reducible rfl
  simp only [Act.put, ps, p0, p1]
  refine tq 3 ?_ rfl (by kernel_rfl) hq (by rfl) g ?_ ?_; rotate_left
  · intro w9 h; go_simp; try with_reducible rfl
  simp only [Act.put, ps, p0, p1]
  refine tq 4 ?_ rfl (by kernel_rfl) hq (by rfl) g ?_ ?_; rotate_left
  · intro w9 h; go_simp; try with_reducible rfl
  simp only [Act.put, ps, p0, p1]
  try simp only [hc1, hc2]
  refine tq 5 ?_ rfl (by kernel_rfl) hq (by rfl) g ?_ ?_; rotate_left
  · intro w9 h; go_simp; try with_reducible rfl
  simp only [Act.put, ps, p0, p1]
  refine tq 6 ?_ rfl (by kernel_rfl) hq (by rfl) g ?_ ?_; rotate_left
  · intro w9 h; go_simp; try with_reducible rfl
  simp only [Act.put, ps, p0, p1]
  refine tq 7 ?_ rfl (by kernel_rfl) hq (by rfl) g ?_ ?_; rotate_left
  · intro w9 h; go_simp; try with_reducible rfl
  simp only [Act.put, ps, p0, p1]
  refine tq 8 ?_ rfl (by kernel_rfl) hq (by rfl) g ?_ ?_; rotate_left
  · intro w9 h; go_simp; try with_reducible rfl
  simp only [Act.put, ps, p0, p1]
  try simp only [ha]
  refine tq 9 ?_ rfl (by kernel_rfl) hq (by rfl) g ?_ ?_; rotate_left
  · intro w9 h; go_simp; try with_reducible rfl
  simp only [Act.put, ps, p0, p1]
  refine tq 10 ?_ rfl (by kernel_rfl) hq (by rfl) g ?_ ?_; rotate_left
  · intro w9 h; go_simp; try with_reducible rfl
  simp only [Act.put, ps, p0, p1]
  refine tq 11 ?_ rfl (by kernel_rfl) hq (by rfl) g ?_ ?_; rotate_left
  · intro w9 h; go_simp; try with_reducible rfl
  simp only [Act.put, ps, p0, p1]
  try simp only [hr]
  refine tq 12 ?_ rfl (by kernel_rfl) hq (by rfl) g ?_ ?_; rotate_left
  · intro w9 h; go_simp; try with_reducible rfl
  simp only [Act.put, ps, p0, p1]
  refine tq 13 ?_ rfl (by kernel_rfl) hq (by rfl) g ?_ ?_; rotate_left
  · intro w9 h; go_simp; try with_reducible rfl
  simp only [Act.put, ps, p0, p1]
  refine tq 14 ?_ rfl (by kernel_rfl) hq (by rfl) g ?_ ?_; rotate_left
  · intro w9 h; go_simp; try with_reducible rfl
  simp only [Act.put, ps, p0, p1]
  try simp only [hc1, hc2]
  refine tq 15 ?_ rfl (by kernel_rfl) hq (by rfl) g ?_ ?_; rotate_left
  · intro w9 h; go_simp; try with_reducible rfl
  simp only [Act.put, ps, p0, p1]
  refine tc 16 rfl (by kernel_rfl) (fun K9 hK => ?_)
  go_simp
  refine hK.out _ _ (kp2 (Nat.le_refl _) (grow1 _ _) g) (fun g1 => ?_)
  clear hK K9
  have d0 := (Bk.new z0 35 #[.int .i64 0, .int .i64 0]).cell 0
  have d1 := (Bk.new z0 35 #[.int .i64 0, .int .i64 0]).cell 1
  have e0 := (Bk.new z0 35 #[.int .i64 0, .int .i64 0]).frozen 0
  have e1 := (Bk.new z0 35 #[.int .i64 0, .int .i64 0]).frozen 1
  refine tc 17 rfl (by kernel_rfl) (fun K9 hK => ?_)
  go_simp
  refine hK.out _ _ (kp2 (Nat.le_refl _) (grow1 z0 _) g) (fun g2 => ?_)
  clear hK K9 d0 d1 e0 e1 g1 g2
  refine wpAnyH_done (by kernel_rfl) ?_ _
  exact HK.out _ _ _ _ _ _ _ _ _ _ _ _ _ _ _ _ z0 g.2.2
noncomputable def c15 : Code := (Try.f11.body.bind (findR 15)).getD .skip
set_option maxRecDepth 1000000 in
set_option maxHeartbeats 20000000 in
theorem g15 {K : Act → World → Prop} {Q0 : Exit → Act → World → Prop} {a b c d g : Nat} {i k j ei ek ej ep ui uk uj uq m n m2 n2 : Int} {y : World}
    (hQ : ∀ c a d v w, Q0 (.panic c) (Act.put a d v) w → Q0 (.panic c) a w) (h0 : 0 ≤ i) (h1 : i < 17) (h2 : 0 ≤ k) (h3 : k < 17) (h4 : 0 ≤ j) (h5 : j < 17) (h6 : IntKind.i64.wrap (i * 5) = m) (h7 : IntKind.i64.wrap (m - 7) = n) (h8 : -100 ≤ n ∧ n ≤ 100) (h9 : IntKind.i64.wrap (k * 5) = m2) (h10 : IntKind.i64.wrap (m2 - 7) = n2) (h11 : -100 ≤ n2 ∧ n2 ≤ 100) (h12 : 0 ≤ ei ∧ ei ≤ 18446744073709551615) (h13 : 0 ≤ ek ∧ ek ≤ 18446744073709551615) (h14 : 0 ≤ ej ∧ ej ≤ 18446744073709551615) (h15 : 0 ≤ ep ∧ ep ≤ 18446744073709551615) (h16 : -9223372036854775808 ≤ ui ∧ ui ≤ 9223372036854775807) (h17 : -9223372036854775808 ≤ uk ∧ uk ≤ 9223372036854775807) (h18 : -9223372036854775808 ≤ uj ∧ uj ≤ 9223372036854775807) (h19 : -9223372036854775808 ≤ uq ∧ uq ≤ 9223372036854775807) (c_0 : y.cell? ⟨g, i.toNat, none⟩ = some (.int .u64 ei)) (c_1 : y.cell? ⟨g, k.toNat, none⟩ = some (.int .u64 ek)) (c_2 : y.cell? ⟨g, j.toNat, none⟩ = some (.int .u64 ej)) (c_3 : y.cell? ⟨a, 0, none⟩ = some (.int .u64 ei)) (c_4 : y.cell? ⟨a, 1, none⟩ = some (.int .u64 ek)) (c_5 : y.cell? ⟨b, 0, none⟩ = some (.int .u64 ej)) (c_6 : y.cell? ⟨b, 1, none⟩ = some (.int .u64 ep)) (c_7 : y.cell? ⟨c, 0, none⟩ = some (.int .i64 ui)) (c_8 : y.cell? ⟨c, 1, none⟩ = some (.int .i64 uk)) (c_9 : y.cell? ⟨d, 0, none⟩ = some (.int .i64 uj)) (c_10 : y.cell? ⟨d, 1, none⟩ = some (.int .i64 uq))
    (hK : ∀ (t80 t81 t82 t83 t84 t85 t86 t87 t88 t89 t90 t91 t92 t93 t94 t95 t96 t97 t98 t99 t100 t101 t102 t103 t104 t105 t106 t107 t108 t109 t110 t111 t112 t113 t114 t115 t116 t117 t118 t119 t120 t121 t122 t123 t124 t125 t126 t127 t128 t129 t130 t131 t132 t133 t134 t135 t136 t137 t138 t139 t140 t141 t142 t143 t144 t145 t146 t147 : Value) (z : World), Below y.heap.size y z → K ⟨#[u0, .slice (some ⟨g, 0, none⟩) 17 17, .int .i64 i, .int .i64 k, .int .i64 j, .pointer (some ⟨a, 0, none⟩), .pointer (some ⟨b, 0, none⟩), .pointer (some ⟨c, 0, none⟩), .pointer (some ⟨d, 0, none⟩), u9, u10, u11, u12, u13, u14, u15, u16, u17, u18, u19, u20, u21, u22, u23, u24, u25, u26, u27, u28, u29, u30, u31, u32, u33, u34, u35, u36, u37, u38, u39, u40, u41, u42, u43, u44, u45, u46, u47, u48, u49, u50, u51, u52, u53, u54, u55, u56, u57, u58, u59, u60, u61, u62, u63, u64, u65, u66, u67, u68, u69, u70, u71, u72, u73, u74, u75, u76, u77, u78, u79, t80, t81, t82, t83, t84, t85, t86, t87, t88, t89, t90, t91, t92, t93, t94, t95, t96, t97, t98, t99, t100, t101, t102, t103, t104, t105, t106, t107, t108, t109, t110, t111, t112, t113, t114, t115, t116, t117, t118, t119, t120, t121, t122, t123, t124, t125, t126, t127, t128, t129, t130, t131, t132, t133, t134, t135, t136, t137, t138, t139, t140, t141, t142, t143, t144, t145, t146, t147, .bool false, u149, u150, u151, u152, u153, u154, u155, u156, u157, u158, u159, u160, u161, u162, u163, u164, u165, u166, u167, u168, u169, u170, u171, u172, u173, u174, u175, u176, u177, u178, u179, u180, u181, u182, u183, u184, u185, u186, u187, u188, u189, u190, u191, u192, u193, u194, u195, u196, u197, u198, u199, u200, u201, u202, u203, u204, u205, u206, u207, u208, u209, u210, u211], []⟩ z) :
    c15.wp Try.prog (Exit.then K Q0) ⟨#[u0, .slice (some ⟨g, 0, none⟩) 17 17, .int .i64 i, .int .i64 k, .int .i64 j, .pointer (some ⟨a, 0, none⟩), .pointer (some ⟨b, 0, none⟩), .pointer (some ⟨c, 0, none⟩), .pointer (some ⟨d, 0, none⟩), u9, u10, u11, u12, u13, u14, u15, u16, u17, u18, u19, u20, u21, u22, u23, u24, u25, u26, u27, u28, u29, u30, u31, u32, u33, u34, u35, u36, u37, u38, u39, u40, u41, u42, u43, u44, u45, u46, u47, u48, u49, u50, u51, u52, u53, u54, u55, u56, u57, u58, u59, u60, u61, u62, u63, u64, u65, u66, u67, u68, u69, u70, u71, u72, u73, u74, u75, u76, u77, u78, u79, u80, u81, u82, u83, u84, u85, u86, u87, u88, u89, u90, u91, u92, u93, u94, u95, u96, u97, u98, u99, u100, u101, u102, u103, u104, u105, u106, u107, u108, u109, u110, u111, u112, u113, u114, u115, u116, u117, u118, u119, u120, u121, u122, u123, u124, u125, u126, u127, u128, u129, u130, u131, u132, u133, u134, u135, u136, u137, u138, u139, u140, u141, u142, u143, u144, u145, u146, u147, u148, u149, u150, u151, u152, u153, u154, u155, u156, u157, u158, u159, u160, u161, u162, u163, u164, u165, u166, u167, u168, u169, u170, u171, u172, u173, u174, u175, u176, u177, u178, u179, u180, u181, u182, u183, u184, u185, u186, u187, u188, u189, u190, u191, u192, u193, u194, u195, u196, u197, u198, u199, u200, u201, u202, u203, u204, u205, u206, u207, u208, u209, u210, u211], []⟩ y := by
  have HK := Lib.hid hK
  clear hK
  have hq : ∀ c a d v w, Exit.then K Q0 (.panic c) (Act.put a d v) w → Exit.then K Q0 (.panic c) a w := hQ
  conv => arg 2; whnf
  have hm1 := h6
  have hs1 := h7
  have RN1 := Lib.hid h8
  have hm2 := h9
  have hs2 := h10
  have RN2 := Lib.hid h11
  have RI := Lib.hid h12
  have RK := Lib.hid h13
  have RJ := Lib.hid h14
  have RP := Lib.hid h15
  have RUI := Lib.hid h16
  have RUK := Lib.hid h17
  have RUJ := Lib.hid h18
  have RUQ := Lib.hid h19
  clear h6 h7 h8 h9 h10 h11 h12 h13 h14 h15 h16 h17 h18 h19
  refine wp_region_held_drew (S := fun w' => w'.cell? ⟨g, i.toNat, none⟩ = some (.int .u64 ei) ∧ w'.cell? ⟨g, k.toNat, none⟩ = some (.int .u64 ek) ∧ w'.cell? ⟨g, j.toNat, none⟩ = some (.int .u64 ej) ∧ w'.cell? ⟨a, 0, none⟩ = some (.int .u64 ei) ∧ w'.cell? ⟨a, 1, none⟩ = some (.int .u64 ek) ∧ w'.cell? ⟨b, 0, none⟩ = some (.int .u64 ej) ∧ w'.cell? ⟨b, 1, none⟩ = some (.int .u64 ep) ∧ w'.cell? ⟨c, 0, none⟩ = some (.int .i64 ui) ∧ w'.cell? ⟨c, 1, none⟩ = some (.int .i64 uk) ∧ w'.cell? ⟨d, 0, none⟩ = some (.int .i64 uj) ∧ w'.cell? ⟨d, 1, none⟩ = some (.int .i64 uq) ∧ Below y.heap.size y w') (by kernel_rfl) ⟨c_0, c_1, c_2, c_3, c_4, c_5, c_6, c_7, c_8, c_9, c_10, (Below.refl _ _).drew⟩ (fun g => ?_)
  generalize y.drew = z0 at *
  clear c_0 c_1 c_2 c_3 c_4 c_5 c_6 c_7 c_8 c_9 c_10
  refine tq 0 ?_ rfl (by kernel_rfl) hq (by rfl) g ?_ ?_; rotate_left
  · intro w9 h; go_simp; try with_reducible rfl
  simp only [Act.put, ps, p0, p1]
  refine tq 1 ?_ rfl (by kernel_rfl) hq (by rfl) g ?_ ?_; rotate_left
  · intro w9 h; go_simp; try with_reducible rfl
  simp only [Act.put, ps, p0, p1]
  refine tq 2 ?_ rfl (by kernel_rfl) hq (by rfl) g ?_ ?_; rotate_left
  · intro w9 h; go_simp; try with_reducible rfl
  simp only [Act.put, ps, p0, p1]
  refine tq 3 ?_ rfl (by kernel_rfl) hq (by rfl) g ?_ ?_; rotate_left
  · intro w9 h; go_simp; try with_reducible rfl
  simp only [Act.put, ps, p0, p1]
  try simp only [hm1, hm2]
  refine tq 4 ?_ rfl (by kernel_rfl) hq (by rfl) g ?_ ?_; rotate_left
  · intro w9 h; go_simp; try with_reducible rfl
  simp only [Act.put, ps, p0, p1]
  try simp only [hs1, hs2]
  refine tq 5 ?_ rfl (by kernel_rfl) hq (by rfl) g ?_ ?_; rotate_left
  · intro w9 h; go_simp; try with_reducible rfl
  simp only [Act.put, ps, p0, p1]
  refine tq 6 ?_ rfl (by kernel_rfl) hq (by rfl) g ?_ ?_; rotate_left
  · intro w9 h; go_simp; try with_reducible rfl
  simp only [Act.put, ps, p0, p1]
  refine tq 7 ?_ rfl (by kernel_rfl) hq (by rfl) g ?_ ?_; rotate_left
  · intro w9 h; go_simp; try with_reducible rfl
  simp only [Act.put, ps, p0, p1]
  refine tq 8 ?_ rfl (by kernel_rfl) hq (by rfl) g ?_ ?_; rotate_left
  · intro w9 h; go_simp; try with_reducible rfl
  simp only [Act.put, ps, p0, p1]
  refine tc 9 rfl (by kernel_rfl) (fun K9 hK => ?_)
  go_simp
  (go_at_call 3; with_reducible refine (kU ei ek ej ep n ej RI.out RK.out RJ.out RP.out RJ.out RN1.out _).mono ?_; rintro e z1 ⟨rfl, qb⟩)
  refine hK.out _ _ (kp11 (Nat.le_refl _) qb g) (fun g1 => ?_)
  clear hK K9 qb g
  refine tq 10 ?_ rfl (by kernel_rfl) hq (by rfl) g1 ?_ ?_; rotate_left
  · intro w9 h; go_simp; try with_reducible rfl
  simp only [Act.put, ps, p0, p1]
  refine tq 11 ?_ rfl (by kernel_rfl) hq (by rfl) g1 ?_ ?_; rotate_left
  · intro w9 h; go_simp; try with_reducible rfl
  simp only [Act.put, ps, p0, p1]
  refine tq 12 ?_ rfl (by kernel_rfl) hq (by rfl) g1 ?_ ?_; rotate_left
  · intro w9 h; go_simp; try with_reducible rfl
  simp only [Act.put, ps, p0, p1]
  refine tq 13 ?_ rfl (by kernel_rfl) hq (by rfl) g1 ?_ ?_; rotate_left
  · intro w9 h; go_simp; try with_reducible rfl
  simp only [Act.put, ps, p0, p1]
  refine tq 14 ?_ rfl (by kernel_rfl) hq (by rfl) g1 ?_ ?_; rotate_left
  · intro w9 h; go_simp; try with_reducible rfl
  simp only [Act.put, ps, p0, p1]
  refine tq 15 ?_ rfl (by kernel_rfl) hq (by rfl) g1 ?_ ?_; rotate_left
  · intro w9 h; go_simp; try with_reducible rfl
  simp only [Act.put, ps, p0, p1]
  try simp only [hm1, hm2]
  refine tq 16 ?_ rfl (by kernel_rfl) hq (by rfl) g1 ?_ ?_; rotate_left
  · intro w9 h; go_simp; try with_reducible rfl
  simp only [Act.put, ps, p0, p1]
  try simp only [hs1, hs2]
  refine tq 17 ?_ rfl (by kernel_rfl) hq (by rfl) g1 ?_ ?_; rotate_left
  · intro w9 h; go_simp; try with_reducible rfl
  simp only [Act.put, ps, p0, p1]
  refine tq 18 ?_ rfl (by kernel_rfl) hq (by rfl) g1 ?_ ?_; rotate_left
  · intro w9 h; go_simp; try with_reducible rfl
  simp only [Act.put, ps, p0, p1]
  refine tq 19 ?_ rfl (by kernel_rfl) hq (by rfl) g1 ?_ ?_; rotate_left
  · intro w9 h; go_simp; try with_reducible rfl
  simp only [Act.put, ps, p0, p1]
  refine tq 20 ?_ rfl (by kernel_rfl) hq (by rfl) g1 ?_ ?_; rotate_left
  · intro w9 h; go_simp; try with_reducible rfl
  simp only [Act.put, ps, p0, p1]
  refine tc 21 rfl (by kernel_rfl) (fun K9 hK => ?_)
  go_simp
  (go_at_call 4; with_reducible refine (kS ui uk uj uq n2 ej RUI.out RUK.out RUJ.out RUQ.out RJ.out RN2.out _).mono ?_; rintro e z2 ⟨rfl, qb⟩)
  refine hK.out _ _ (kp11 (Nat.le_refl _) qb g1) (fun g2 => ?_)
  clear hK K9 qb g1
  refine tq 22 ?_ rfl (by kernel_rfl) hq (by rfl) g2 ?_ ?_; rotate_left
  · intro w9 h; go_simp; try with_reducible rfl
  simp only [Act.put, ps, p0, p1]
  refine tq 23 ?_ rfl (by kernel_rfl) hq (by rfl) g2 ?_ ?_; rotate_left
  · intro w9 h; go_simp; try with_reducible rfl
  simp only [Act.put, ps, p0, p1]
  refine tq 24 ?_ rfl (by kernel_rfl) hq (by rfl) g2 ?_ ?_; rotate_left
  · intro w9 h; go_simp; try with_reducible rfl
  simp only [Act.put, ps, p0, p1]
  refine tq 25 ?_ rfl (by kernel_rfl) hq (by rfl) g2 ?_ ?_; rotate_left
  · intro w9 h; go_simp; try with_reducible rfl
  simp only [Act.put, ps, p0, p1]
  refine tq 26 ?_ rfl (by kernel_rfl) hq (by rfl) g2 ?_ ?_; rotate_left
  · intro w9 h; go_simp; try with_reducible rfl
  simp only [Act.put, ps, p0, p1]
  refine tq 27 ?_ rfl (by kernel_rfl) hq (by rfl) g2 ?_ ?_; rotate_left
  · intro w9 h; go_simp; try with_reducible rfl
  simp only [Act.put, ps, p0, p1]
  refine tq 28 ?_ rfl (by kernel_rfl) hq (by rfl) g2 ?_ ?_; rotate_left
  · intro w9 h; go_simp; try with_reducible rfl
  simp only [Act.put, ps, p0, p1]
  refine tq 29 ?_ rfl (by kernel_rfl) hq (by rfl) g2 ?_ ?_; rotate_left
  · intro w9 h; go_simp; try with_reducible rfl
  simp only [Act.put, ps, p0, p1]
  refine tq 30 ?_ rfl (by kernel_rfl) hq (by rfl) g2 ?_ ?_; rotate_left
  · intro w9 h; go_simp; try with_reducible rfl
  simp only [Act.put, ps, p0, p1]
  refine tq 31 ?_ rfl (by kernel_rfl) hq (by rfl) g2 ?_ ?_; rotate_left
  · intro w9 h; go_simp; try with_reducible rfl
  simp only [Act.put, ps, p0, p1]
  refine tq 32 ?_ rfl (by kernel_rfl) hq (by rfl) g2 ?_ ?_; rotate_left
  · intro w9 h; go_simp; try with_reducible rfl
  simp only [Act.put, ps, p0, p1]
  refine tq 33 ?_ rfl (by kernel_rfl) hq (by rfl) g2 ?_ ?_; rotate_left
  · intro w9 h; go_simp; try with_reducible rfl
  simp only [Act.put, ps, p0, p1]
  refine tq 34 ?_ rfl (by kernel_rfl) hq (by rfl) g2 ?_ ?_; rotate_left
  · intro w9 h; go_simp; try with_reducible rfl
  simp only [Act.put, ps, p0, p1]
  refine tq 35 ?_ rfl (by kernel_rfl) hq (by rfl) g2 ?_ ?_; rotate_left
  · intro w9 h; go_simp; try with_reducible rfl
  simp only [Act.put, ps, p0, p1]
  refine tc 36 rfl (by kernel_rfl) (fun K9 hK => ?_)
  go_simp
  (go_at_call 6; with_reducible refine (kO ei ek ej ep i ek ej RI.out RK.out RJ.out RP.out RK.out RJ.out ⟨by omega, by omega⟩ _).mono ?_; rintro e z3 ⟨rfl, qb⟩)
  refine hK.out _ _ (kp11 (Nat.le_refl _) qb g2) (fun g3 => ?_)
  clear hK K9 qb g2
  refine tq 37 ?_ rfl (by kernel_rfl) hq (by rfl) g3 ?_ ?_; rotate_left
  · intro w9 h; go_simp; try with_reducible rfl
  simp only [Act.put, ps, p0, p1]
  refine tq 38 ?_ rfl (by kernel_rfl) hq (by rfl) g3 ?_ ?_; rotate_left
  · intro w9 h; go_simp; try with_reducible rfl
  simp only [Act.put, ps, p0, p1]
  refine tq 39 ?_ rfl (by kernel_rfl) hq (by rfl) g3 ?_ ?_; rotate_left
  · intro w9 h; go_simp; try with_reducible rfl
  simp only [Act.put, ps, p0, p1]
  refine tq 40 ?_ rfl (by kernel_rfl) hq (by rfl) g3 ?_ ?_; rotate_left
  · intro w9 h; go_simp; try with_reducible rfl
  simp only [Act.put, ps, p0, p1]
  refine tq 41 ?_ rfl (by kernel_rfl) hq (by rfl) g3 ?_ ?_; rotate_left
  · intro w9 h; go_simp; try with_reducible rfl
  simp only [Act.put, ps, p0, p1]
  refine tq 42 ?_ rfl (by kernel_rfl) hq (by rfl) g3 ?_ ?_; rotate_left
  · intro w9 h; go_simp; try with_reducible rfl
  simp only [Act.put, ps, p0, p1]
  refine tq 43 ?_ rfl (by kernel_rfl) hq (by rfl) g3 ?_ ?_; rotate_left
  · intro w9 h; go_simp; try with_reducible rfl
  simp only [Act.put, ps, p0, p1]
  refine tq 44 ?_ rfl (by kernel_rfl) hq (by rfl) g3 ?_ ?_; rotate_left
  · intro w9 h; go_simp; try with_reducible rfl
  simp only [Act.put, ps, p0, p1]
  refine tq 45 ?_ rfl (by kernel_rfl) hq (by rfl) g3 ?_ ?_; rotate_left
  · intro w9 h; go_simp; try with_reducible rfl
  simp only [Act.put, ps, p0, p1]
  refine tq 46 ?_ rfl (by kernel_rfl) hq (by rfl) g3 ?_ ?_; rotate_left
  · intro w9 h; go_simp; try with_reducible rfl
  simp only [Act.put, ps, p0, p1]
  refine tq 47 ?_ rfl (by kernel_rfl) hq (by rfl) g3 ?_ ?_; rotate_left
  · intro w9 h; go_simp; try with_reducible rfl
  simp only [Act.put, ps, p0, p1]
  refine tq 48 ?_ rfl (by kernel_rfl) hq (by rfl) g3 ?_ ?_; rotate_left
  · intro w9 h; go_simp; try with_reducible rfl
  simp only [Act.put, ps, p0, p1]
  refine tq 49 ?_ rfl (by kernel_rfl) hq (by rfl) g3 ?_ ?_; rotate_left
  · intro w9 h; go_simp; try with_reducible rfl
  simp only [Act.put, ps, p0, p1]
  refine tq 50 ?_ rfl (by kernel_rfl) hq (by rfl) g3 ?_ ?_; rotate_left
  · intro w9 h; go_simp; try with_reducible rfl
  simp only [Act.put, ps, p0, p1]
  refine tc 51 rfl (by kernel_rfl) (fun K9 hK => ?_)
  go_simp
  (go_at_call 7; with_reducible refine (kG ui uk uj uq k ei ej RUI.out RUK.out RUJ.out RUQ.out RI.out RJ.out ⟨by omega, by omega⟩ _).mono ?_; rintro e z4 ⟨rfl, qb⟩)
  refine hK.out _ _ (kp11 (Nat.le_refl _) qb g3) (fun g4 => ?_)
  clear hK K9 qb g3
  refine tq 52 ?_ rfl (by kernel_rfl) hq (by rfl) g4 ?_ ?_; rotate_left
  · intro w9 h; go_simp; try with_reducible rfl
  simp only [Act.put, ps, p0, p1]
  refine tq 53 ?_ rfl (by kernel_rfl) hq (by rfl) g4 ?_ ?_; rotate_left
  · intro w9 h; go_simp; try with_reducible rfl
  simp only [Act.put, ps, p0, p1]
  refine tq 54 ?_ rfl (by kernel_rfl) hq (by rfl) g4 ?_ ?_; rotate_left
  · intro w9 h; go_simp; try with_reducible rfl
  simp only [Act.put, ps, p0, p1]
  refine tq 55 ?_ rfl (by kernel_rfl) hq (by rfl) g4 ?_ ?_; rotate_left
  · intro w9 h; go_simp; try with_reducible rfl
  simp only [Act.put, ps, p0, p1]
  refine tq 56 ?_ rfl (by kernel_rfl) hq (by rfl) g4 ?_ ?_; rotate_left
  · intro w9 h; go_simp; try with_reducible rfl
  simp only [Act.put, ps, p0, p1]
  refine tq 57 ?_ rfl (by kernel_rfl) hq (by rfl) g4 ?_ ?_; rotate_left
  · intro w9 h; go_simp; try with_reducible rfl
  simp only [Act.put, ps, p0, p1]
  refine tq 58 ?_ rfl (by kernel_rfl) hq (by rfl) g4 ?_ ?_; rotate_left
  · intro w9 h; go_simp; try with_reducible rfl
  simp only [Act.put, ps, p0, p1]
  refine tq 59 ?_ rfl (by kernel_rfl) hq (by rfl) g4 ?_ ?_; rotate_left
  · intro w9 h; go_simp; try with_reducible rfl
  simp only [Act.put, ps, p0, p1]
  refine tq 60 ?_ rfl (by kernel_rfl) hq (by rfl) g4 ?_ ?_; rotate_left
  · intro w9 h; go_simp; try with_reducible rfl
  simp only [Act.put, ps, p0, p1]
  refine tq 61 ?_ rfl (by kernel_rfl) hq (by rfl) g4 ?_ ?_; rotate_left
  · intro w9 h; go_simp; try with_reducible rfl
  simp only [Act.put, ps, p0, p1]
  refine tq 62 ?_ rfl (by kernel_rfl) hq (by rfl) g4 ?_ ?_; rotate_left
  · intro w9 h; go_simp; try with_reducible rfl
  simp only [Act.put, ps, p0, p1]
  refine tq 63 ?_ rfl (by kernel_rfl) hq (by rfl) g4 ?_ ?_; rotate_left
  · intro w9 h; go_simp; try with_reducible rfl
  simp only [Act.put, ps, p0, p1]
  refine tq 64 ?_ rfl (by kernel_rfl) hq (by rfl) g4 ?_ ?_; rotate_left
  · intro w9 h; go_simp; try with_reducible rfl
  simp only [Act.put, ps, p0, p1]
  refine tq 65 ?_ rfl (by kernel_rfl) hq (by rfl) g4 ?_ ?_; rotate_left
  · intro w9 h; go_simp; try with_reducible rfl
  simp only [Act.put, ps, p0, p1]
  refine tc 66 rfl (by kernel_rfl) (fun K9 hK => ?_)
  go_simp
  (go_at_call 9; with_reducible refine (kL ei ek ej ep 1 ej ei RI.out RK.out RJ.out RP.out ⟨by omega, by omega⟩ RJ.out RI.out _).mono ?_; rintro e z5 ⟨rfl, qb⟩)
  refine hK.out _ _ (kp11 (Nat.le_refl _) qb g4) (fun g5 => ?_)
  clear hK K9 qb g4
  refine tq 67 ?_ rfl (by kernel_rfl) hq (by rfl) g5 ?_ ?_; rotate_left
  · intro w9 h; go_simp; try with_reducible rfl
  simp only [Act.put, ps, p0, p1]
  refine tq 68 ?_ rfl (by kernel_rfl) hq (by rfl) g5 ?_ ?_; rotate_left
  · intro w9 h; go_simp; try with_reducible rfl
  simp only [Act.put, ps, p0, p1]
  refine wpAnyH_done (by kernel_rfl) ?_ _
  exact HK.out _ _ _ _ _ _ _ _ _ _ _ _ _ _ _ _ _ _ _ _ _ _ _ _ _ _ _ _ _ _ _ _ _ _ _ _ _ _ _ _ _ _ _ _ _ _ _ _ _ _ _ _ _ _ _ _ _ _ _ _ _ _ _ _ _ _ _ _ _ g5.2.2.2.2.2.2.2.2.2.2.2
noncomputable def c17 : Code := (Try.f11.body.bind (findR 17)).getD .skip
set_option maxRecDepth 1000000 in
set_option maxHeartbeats 20000000 in
theorem g17 {K : Act → World → Prop} {Q0 : Exit → Act → World → Prop} {g : Nat} {i k ei ek : Int} {y : World}
    (hQ : ∀ c a d v w, Q0 (.panic c) (Act.put a d v) w → Q0 (.panic c) a w) (h0 : 0 ≤ i) (h1 : i < 17) (h2 : 0 ≤ k) (h3 : k < 17) (h4 : 0 ≤ ei ∧ ei ≤ 18446744073709551615) (h5 : 0 ≤ ek ∧ ek ≤ 18446744073709551615) (c_0 : y.cell? ⟨g, i.toNat, none⟩ = some (.int .u64 ei)) (c_1 : y.cell? ⟨g, k.toNat, none⟩ = some (.int .u64 ek))
    (hK : ∀ (t149 t150 t151 t152 t153 t154 t155 t156 t157 t158 t159 t160 t161 t162 t163 t164 t165 t166 t167 t168 t169 t170 t171 t172 t173 t174 t175 t176 t177 t178 t179 t180 t181 t182 t183 t184 t185 t186 t187 t188 : Value) (z : World), Below y.heap.size y z → K ⟨#[u0, .slice (some ⟨g, 0, none⟩) 17 17, .int .i64 i, .int .i64 k, u4, u5, u6, u7, u8, u9, u10, u11, u12, u13, u14, u15, u16, u17, u18, u19, u20, u21, u22, u23, u24, u25, u26, u27, u28, u29, u30, u31, u32, u33, u34, u35, u36, u37, u38, u39, u40, u41, u42, u43, u44, u45, u46, u47, u48, u49, u50, u51, u52, u53, u54, u55, u56, u57, u58, u59, u60, u61, u62, u63, u64, u65, u66, u67, u68, u69, u70, u71, u72, u73, u74, u75, u76, u77, u78, u79, u80, u81, u82, u83, u84, u85, u86, u87, u88, u89, u90, u91, u92, u93, u94, u95, u96, u97, u98, u99, u100, u101, u102, u103, u104, u105, u106, u107, u108, u109, u110, u111, u112, u113, u114, u115, u116, u117, u118, u119, u120, u121, u122, u123, u124, u125, u126, u127, u128, u129, u130, u131, u132, u133, u134, u135, u136, u137, u138, u139, u140, u141, u142, u143, u144, u145, u146, u147, u148, t149, t150, t151, t152, t153, t154, t155, t156, t157, t158, t159, t160, t161, t162, t163, t164, t165, t166, t167, t168, t169, t170, t171, t172, t173, t174, t175, t176, t177, t178, t179, t180, t181, t182, t183, t184, t185, t186, t187, t188, .bool false, u190, u191, u192, u193, u194, u195, u196, u197, u198, u199, u200, u201, u202, u203, u204, u205, u206, u207, u208, u209, u210, u211], []⟩ z) :
    c17.wp Try.prog (Exit.then K Q0) ⟨#[u0, .slice (some ⟨g, 0, none⟩) 17 17, .int .i64 i, .int .i64 k, u4, u5, u6, u7, u8, u9, u10, u11, u12, u13, u14, u15, u16, u17, u18, u19, u20, u21, u22, u23, u24, u25, u26, u27, u28, u29, u30, u31, u32, u33, u34, u35, u36, u37, u38, u39, u40, u41, u42, u43, u44, u45, u46, u47, u48, u49, u50, u51, u52, u53, u54, u55, u56, u57, u58, u59, u60, u61, u62, u63, u64, u65, u66, u67, u68, u69, u70, u71, u72, u73, u74, u75, u76, u77, u78, u79, u80, u81, u82, u83, u84, u85, u86, u87, u88, u89, u90, u91, u92, u93, u94, u95, u96, u97, u98, u99, u100, u101, u102, u103, u104, u105, u106, u107, u108, u109, u110, u111, u112, u113, u114, u115, u116, u117, u118, u119, u120, u121, u122, u123, u124, u125, u126, u127, u128, u129, u130, u131, u132, u133, u134, u135, u136, u137, u138, u139, u140, u141, u142, u143, u144, u145, u146, u147, u148, u149, u150, u151, u152, u153, u154, u155, u156, u157, u158, u159, u160, u161, u162, u163, u164, u165, u166, u167, u168, u169, u170, u171, u172, u173, u174, u175, u176, u177, u178, u179, u180, u181, u182, u183, u184, u185, u186, u187, u188, u189, u190, u191, u192, u193, u194, u195, u196, u197, u198, u199, u200, u201, u202, u203, u204, u205, u206, u207, u208, u209, u210, u211], []⟩ y := by
  have HK := Lib.hid hK
  clear hK
  have hq : ∀ c a d v w, Exit.then K Q0 (.panic c) (Act.put a d v) w → Exit.then K Q0 (.panic c) a w := hQ
  conv => arg 2; whnf
  have RI := Lib.hid h4
  have RK := Lib.hid h5
  clear h4 h5
  refine wp_region_held_drew (S := fun w' => w'.cell? ⟨g, i.toNat, none⟩ = some (.int .u64 ei) ∧ w'.cell? ⟨g, k.toNat, none⟩ = some (.int .u64 ek) ∧ Below y.heap.size y w') (by kernel_rfl) ⟨c_0, c_1, (Below.refl _ _).drew⟩ (fun g => ?_)
  generalize y.drew = z0 at *
  clear c_0 c_1
  refine tq 0 ?_ rfl (by kernel_rfl) hq (by rfl) g ?_ ?_; rotate_left
  · intro w9 h; go_simp; try with_reducible rfl
  simp only [Act.put, ps, p0, p1]
  refine tq 1 ?_ rfl (by kernel_rfl) hq (by rfl) g ?_ ?_; rotate_left
  · intro w9 h; go_simp; try with_reducible rfl
  simp only [Act.put, ps, p0, p1]
  refine tq 2 ?_ rfl (by kernel_rfl) hq (by rfl) g ?_ ?_; rotate_left
  · intro w9 h; go_simp; try with_reducible rfl
  simp only [Act.put, ps, p0, p1]
  refine tq 3 ?_ rfl (by kernel_rfl) hq (by rfl) g ?_ ?_; rotate_left
  · intro w9 h; go_simp; try with_reducible rfl
  simp only [Act.put, ps, p0, p1]
  refine tq 4 ?_ rfl (by kernel_rfl) hq (by rfl) g ?_ ?_; rotate_left
  · intro w9 h; go_simp; try with_reducible rfl
  simp only [Act.put, ps, p0, p1]
  refine tq 5 ?_ rfl (by kernel_rfl) hq (by rfl) g ?_ ?_; rotate_left
  · intro w9 h; go_simp; try with_reducible rfl
  simp only [Act.put, ps, p0, p1]
  refine tq 6 ?_ rfl (by kernel_rfl) hq (by rfl) g ?_ ?_; rotate_left
  · intro w9 h; go_simp; try with_reducible rfl
  simp only [Act.put, ps, p0, p1]
  refine tq 7 ?_ rfl (by kernel_rfl) hq (by rfl) g ?_ ?_; rotate_left
  · intro w9 h; go_simp; try with_reducible rfl
  simp only [Act.put, ps, p0, p1]
  refine tq 8 ?_ rfl (by kernel_rfl) hq (by rfl) g ?_ ?_; rotate_left
  · intro w9 h; go_simp; try with_reducible rfl
  simp only [Act.put, ps, p0, p1]
  refine tc 9 rfl (by kernel_rfl) (fun K9 hK => ?_)
  go_simp
  (go_at_call 5; with_reducible refine (kB ei ek RI.out RK.out _).mono ?_; rintro e z1 ⟨rfl, qb⟩)
  refine hK.out _ _ (kp2 (Nat.le_refl _) qb g) (fun g1 => ?_)
  clear hK K9 qb g
  refine tq 10 ?_ rfl (by kernel_rfl) hq (by rfl) g1 ?_ ?_; rotate_left
  · intro w9 h; go_simp; try with_reducible rfl
  simp only [Act.put, ps, p0, p1]
  refine tq 11 ?_ rfl (by kernel_rfl) hq (by rfl) g1 ?_ ?_; rotate_left
  · intro w9 h; go_simp; try with_reducible rfl
  simp only [Act.put, ps, p0, p1]
  refine tq 12 ?_ rfl (by kernel_rfl) hq (by rfl) g1 ?_ ?_; rotate_left
  · intro w9 h; go_simp; try with_reducible rfl
  simp only [Act.put, ps, p0, p1]
  refine tq 13 ?_ rfl (by kernel_rfl) hq (by rfl) g1 ?_ ?_; rotate_left
  · intro w9 h; go_simp; try with_reducible rfl
  simp only [Act.put, ps, p0, p1]
  refine tq 14 ?_ rfl (by kernel_rfl) hq (by rfl) g1 ?_ ?_; rotate_left
  · intro w9 h; go_simp; try with_reducible rfl
  simp only [Act.put, ps, p0, p1]
  refine tq 15 ?_ rfl (by kernel_rfl) hq (by rfl) g1 ?_ ?_; rotate_left
  · intro w9 h; go_simp; try with_reducible rfl
  simp only [Act.put, ps, p0, p1]
  refine tq 16 ?_ rfl (by kernel_rfl) hq (by rfl) g1 ?_ ?_; rotate_left
  · intro w9 h; go_simp; try with_reducible rfl
  simp only [Act.put, ps, p0, p1]
  refine tq 17 ?_ rfl (by kernel_rfl) hq (by rfl) g1 ?_ ?_; rotate_left
  · intro w9 h; go_simp; try with_reducible rfl
  simp only [Act.put, ps, p0, p1]
  refine tq 18 ?_ rfl (by kernel_rfl) hq (by rfl) g1 ?_ ?_; rotate_left
  · intro w9 h; go_simp; try with_reducible rfl
  simp only [Act.put, ps, p0, p1]
  refine tq 19 ?_ rfl (by kernel_rfl) hq (by rfl) g1 ?_ ?_; rotate_left
  · intro w9 h; go_simp; try with_reducible rfl
  simp only [Act.put, ps, p0, p1]
  refine tq 20 ?_ rfl (by kernel_rfl) hq (by rfl) g1 ?_ ?_; rotate_left
  · intro w9 h; go_simp; try with_reducible rfl
  simp only [Act.put, ps, p0, p1]
  refine tq 21 ?_ rfl (by kernel_rfl) hq (by rfl) g1 ?_ ?_; rotate_left
  · intro w9 h; go_simp; try with_reducible rfl
  simp only [Act.put, ps, p0, p1]
  refine tq 22 ?_ rfl (by kernel_rfl) hq (by rfl) g1 ?_ ?_; rotate_left
  · intro w9 h; go_simp; try with_reducible rfl
  simp only [Act.put, ps, p0, p1]
  refine tq 23 ?_ rfl (by kernel_rfl) hq (by rfl) g1 ?_ ?_; rotate_left
  · intro w9 h; go_simp; try with_reducible rfl
  simp only [Act.put, ps, p0, p1]
  refine tq 24 ?_ rfl (by kernel_rfl) hq (by rfl) g1 ?_ ?_; rotate_left
  · intro w9 h; go_simp; try with_reducible rfl
  simp only [Act.put, ps, p0, p1]
  refine tc 25 rfl (by kernel_rfl) (fun K9 hK => ?_)
  go_simp
  (go_at_call 8; with_reducible refine (kT ei ek ek RI.out RK.out RK.out _).mono ?_; rintro e z2 ⟨rfl, qb⟩)
  refine hK.out _ _ (kp2 (Nat.le_refl _) qb g1) (fun g2 => ?_)
  clear hK K9 qb g1
  refine tq 26 ?_ rfl (by kernel_rfl) hq (by rfl) g2 ?_ ?_; rotate_left
  · intro w9 h; go_simp; try with_reducible rfl
  simp only [Act.put, ps, p0, p1]
  refine tq 27 ?_ rfl (by kernel_rfl) hq (by rfl) g2 ?_ ?_; rotate_left
  · intro w9 h; go_simp; try with_reducible rfl
  simp only [Act.put, ps, p0, p1]
  refine tq 28 ?_ rfl (by kernel_rfl) hq (by rfl) g2 ?_ ?_; rotate_left
  · intro w9 h; go_simp; try with_reducible rfl
  simp only [Act.put, ps, p0, p1]
  refine tq 29 ?_ rfl (by kernel_rfl) hq (by rfl) g2 ?_ ?_; rotate_left
  · intro w9 h; go_simp; try with_reducible rfl
  simp only [Act.put, ps, p0, p1]
  refine tq 30 ?_ rfl (by kernel_rfl) hq (by rfl) g2 ?_ ?_; rotate_left
  · intro w9 h; go_simp; try with_reducible rfl
  simp only [Act.put, ps, p0, p1]
  refine tq 31 ?_ rfl (by kernel_rfl) hq (by rfl) g2 ?_ ?_; rotate_left
  · intro w9 h; go_simp; try with_reducible rfl
  simp only [Act.put, ps, p0, p1]
  refine tq 32 ?_ rfl (by kernel_rfl) hq (by rfl) g2 ?_ ?_; rotate_left
  · intro w9 h; go_simp; try with_reducible rfl
  simp only [Act.put, ps, p0, p1]
  refine tq 33 ?_ rfl (by kernel_rfl) hq (by rfl) g2 ?_ ?_; rotate_left
  · intro w9 h; go_simp; try with_reducible rfl
  simp only [Act.put, ps, p0, p1]
  refine tq 34 ?_ rfl (by kernel_rfl) hq (by rfl) g2 ?_ ?_; rotate_left
  · intro w9 h; go_simp; try with_reducible rfl
  simp only [Act.put, ps, p0, p1]
  refine tq 35 ?_ rfl (by kernel_rfl) hq (by rfl) g2 ?_ ?_; rotate_left
  · intro w9 h; go_simp; try with_reducible rfl
  simp only [Act.put, ps, p0, p1]
  refine tq 36 ?_ rfl (by kernel_rfl) hq (by rfl) g2 ?_ ?_; rotate_left
  · intro w9 h; go_simp; try with_reducible rfl
  simp only [Act.put, ps, p0, p1]
  refine tq 37 ?_ rfl (by kernel_rfl) hq (by rfl) g2 ?_ ?_; rotate_left
  · intro w9 h; go_simp; try with_reducible rfl
  simp only [Act.put, ps, p0, p1]
  refine tc 38 rfl (by kernel_rfl) (fun K9 hK => ?_)
  go_simp
  (go_at_call 10; with_reducible refine (kE ei ek i RI.out RK.out ⟨by omega, by omega⟩ _).mono ?_; rintro e z3 ⟨rfl, qb⟩)
  refine hK.out _ _ (kp2 (Nat.le_refl _) qb g2) (fun g3 => ?_)
  clear hK K9 qb g2
  refine tq 39 ?_ rfl (by kernel_rfl) hq (by rfl) g3 ?_ ?_; rotate_left
  · intro w9 h; go_simp; try with_reducible rfl
  simp only [Act.put, ps, p0, p1]
  refine tq 40 ?_ rfl (by kernel_rfl) hq (by rfl) g3 ?_ ?_; rotate_left
  · intro w9 h; go_simp; try with_reducible rfl
  simp only [Act.put, ps, p0, p1]
  refine wpAnyH_done (by kernel_rfl) ?_ _
  exact HK.out _ _ _ _ _ _ _ _ _ _ _ _ _ _ _ _ _ _ _ _ _ _ _ _ _ _ _ _ _ _ _ _ _ _ _ _ _ _ _ _ _ g3.2.2
end Go.Proofs.Ythjjfginenpfjaa.spanKnown
