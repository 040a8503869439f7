/-
  A round of InsnKnown's third loop, and the contracts that it uses. Conditions: those of its loops.
-/
import Derived.Test.YtlimhdnpdhjdaaaInsnOpen
import Derived.Test.YtlimhdnpdhjdaaaInsnWorks
import Derived.Test.YtlimhdnpdhjdaaaInsnChecksLaw
import Derived.Test.YtlimhdnpdhjdaaaInsnPutsLaw
import Derived.Test.YtlimhdnpdhjdaaaInsnGetsLaw
import Derived.Test.YtlimhdnpdhjdaaaInsnBackLaw
import Derived.Test.YtlimhdnpdhjdaaaInsnCutLaw
import Derived.Deep.RegionHeld3
namespace Go.Proofs.Ytlimhdnpdhjdaaa.insnKnown
open Go.ChangeShapes Go.WideShapes Go.ChangeAt Go.RowKit Wi Ow
set_option linter.unusedVariables false
set_option linter.unusedSimpArgs false
def nL : List Value := [.int .i64 (-9223372036854775808), .int .i64 (-2147483648), .int .i64 (-2147483649), .int .i64 (-32769), .int .i64 (-32768), .int .i64 (-1), .int .i64 0, .int .i64 1, .int .i64 8, .int .i64 9, .int .i64 10, .int .i64 11, .int .i64 16, .int .i64 32, .int .i64 64, .int .i64 32767, .int .i64 32768, .int .i64 2147483647, .int .i64 2147483648, .int .i64 9223372036854775807]
def oL : List Value := [.int .i64 24, .int .i64 97, .int .i64 98, .int .i64 99, .int .i64 121, .int .i64 183, .int .i64 191, .int .i64 135, .int .i64 212, .int .i64 220, .int .i64 5, .int .i64 21, .int .i64 29, .int .i64 22, .int .i64 133, .int .i64 149]
theorem n_at (k : Nat) (hk : k < 20) : ∃ e : Int, nL[k]? = some (.int .i64 e) ∧ i64 e := by
  have : k = 0 ∨ k = 1 ∨ k = 2 ∨ k = 3 ∨ k = 4 ∨ k = 5 ∨ k = 6 ∨ k = 7 ∨ k = 8 ∨ k = 9 ∨ k = 10 ∨ k = 11 ∨ k = 12 ∨ k = 13 ∨ k = 14 ∨ k = 15 ∨ k = 16 ∨ k = 17 ∨ k = 18 ∨ k = 19 := by omega
  rcases this with rfl | rfl | rfl | rfl | rfl | rfl | rfl | rfl | rfl | rfl | rfl | rfl | rfl | rfl | rfl | rfl | rfl | rfl | rfl | rfl
  · exact ⟨_, rfl, by unfold i64; omega⟩
  · exact ⟨_, rfl, by unfold i64; omega⟩
  · exact ⟨_, rfl, by unfold i64; omega⟩
  · exact ⟨_, rfl, by unfold i64; omega⟩
  · exact ⟨_, rfl, by unfold i64; omega⟩
  · exact ⟨_, rfl, by unfold i64; omega⟩
  · exact ⟨_, rfl, by unfold i64; omega⟩
  · exact ⟨_, rfl, by unfold i64; omega⟩
  · exact ⟨_, rfl, by unfold i64; omega⟩
  · exact ⟨_, rfl, by unfold i64; omega⟩
  · exact ⟨_, rfl, by unfold i64; omega⟩
  · exact ⟨_, rfl, by unfold i64; omega⟩
  · exact ⟨_, rfl, by unfold i64; omega⟩
  · exact ⟨_, rfl, by unfold i64; omega⟩
  · exact ⟨_, rfl, by unfold i64; omega⟩
  · exact ⟨_, rfl, by unfold i64; omega⟩
  · exact ⟨_, rfl, by unfold i64; omega⟩
  · exact ⟨_, rfl, by unfold i64; omega⟩
  · exact ⟨_, rfl, by unfold i64; omega⟩
  · exact ⟨_, rfl, by unfold i64; omega⟩
theorem o_at (k : Nat) (hk : k < 16) : ∃ e : Int, oL[k]? = some (.int .i64 e) ∧ i64 e := by
  have : k = 0 ∨ k = 1 ∨ k = 2 ∨ k = 3 ∨ k = 4 ∨ k = 5 ∨ k = 6 ∨ k = 7 ∨ k = 8 ∨ k = 9 ∨ k = 10 ∨ k = 11 ∨ k = 12 ∨ k = 13 ∨ k = 14 ∨ k = 15 := by omega
  rcases this with rfl | rfl | rfl | rfl | rfl | rfl | rfl | rfl | rfl | rfl | rfl | rfl | rfl | rfl | rfl | rfl
  · exact ⟨_, rfl, by unfold i64; omega⟩
  · exact ⟨_, rfl, by unfold i64; omega⟩
  · exact ⟨_, rfl, by unfold i64; omega⟩
  · exact ⟨_, rfl, by unfold i64; omega⟩
  · exact ⟨_, rfl, by unfold i64; omega⟩
  · exact ⟨_, rfl, by unfold i64; omega⟩
  · exact ⟨_, rfl, by unfold i64; omega⟩
  · exact ⟨_, rfl, by unfold i64; omega⟩
  · exact ⟨_, rfl, by unfold i64; omega⟩
  · exact ⟨_, rfl, by unfold i64; omega⟩
  · exact ⟨_, rfl, by unfold i64; omega⟩
  · exact ⟨_, rfl, by unfold i64; omega⟩
  · exact ⟨_, rfl, by unfold i64; omega⟩
  · exact ⟨_, rfl, by unfold i64; omega⟩
  · exact ⟨_, rfl, by unfold i64; omega⟩
  · exact ⟨_, rfl, by unfold i64; omega⟩
theorem n_cell {w : World} {g k : Nat} {v : Value} (h : Bk w g 3 #[.int .i64 (-9223372036854775808), .int .i64 (-2147483648), .int .i64 (-2147483649), .int .i64 (-32769), .int .i64 (-32768), .int .i64 (-1), .int .i64 0, .int .i64 1, .int .i64 8, .int .i64 9, .int .i64 10, .int .i64 11, .int .i64 16, .int .i64 32, .int .i64 64, .int .i64 32767, .int .i64 32768, .int .i64 2147483647, .int .i64 2147483648, .int .i64 9223372036854775807]) (e : nL[k]? = some v) : w.cell? ⟨g, k, none⟩ = some v := by
  rw [h.cell k]
  show (List.toArray nL)[k]? = some v
  rw [List.getElem?_toArray]
  exact e
theorem o_cell {w : World} {g k : Nat} {v : Value} (h : Bk w g 3 #[.int .i64 24, .int .i64 97, .int .i64 98, .int .i64 99, .int .i64 121, .int .i64 183, .int .i64 191, .int .i64 135, .int .i64 212, .int .i64 220, .int .i64 5, .int .i64 21, .int .i64 29, .int .i64 22, .int .i64 133, .int .i64 149]) (e : oL[k]? = some v) : w.cell? ⟨g, k, none⟩ = some v := by
  rw [h.cell k]
  show (List.toArray oL)[k]? = some v
  rw [List.getElem?_toArray]
  exact e
theorem bkk {w w1 : World} {r : Nat} {t : TypeId} {cs : Array Value} (h : Bk w r t cs) (qb : Below w.heap.size w w1) : Bk w1 r t cs := h.below qb h.lt
theorem ck {w0 w1 : World} {p : Addr} {v : Value} (q1 : Below w0.heap.size w0 w1) (h : w0.cell? p = some v) : w1.cell? p = some v :=
  (q1.cell (World.block_lt_of_cell? w0 _ h)).trans h
theorem kchk (op dst src off imm : Int) (h0 : i64 op) (h1 : i64 dst) (h2 : i64 src) (h3 : i64 off) (h4 : i64 imm) (w : World) :
    Calls Try.prog 3 #[.agg #[.int .i64 op, .int .i64 dst, .int .i64 src, .int .i64 off, .int .i64 imm]] w fun e w' => e = .returned (.bool true) ∧ Below w.heap.size w w' :=
  insnChecks.walk ⟨op, dst, src, off, imm⟩ w ⟨h0, h1, h2, h3, h4⟩
theorem kg (L : List Int) (cs : Array Value) (n : Nat) (hl : L.length = n) (hb : isB L) (hn : n ≤ 9000) (hc : bv L = cs.toList) (w : World) :
    Calls Try.prog 5 #[.slice (some ⟨w.heap.size, 0, none⟩) n n] (w.alloc (.cells cs 5)) fun e w' => e = .returned (.bool true) ∧ Below w.heap.size w w' :=
  (insnGets.walk _ n n L _ hl hb (Nat.le_refl _) (by omega) (rd_new hc (by simp))).mono fun e w' h => ⟨h.1, below_box h.2⟩
theorem kg1 (z : Int) (hz : 0 ≤ z ∧ z ≤ 255) (w : World) :
    Calls Try.prog 5 #[.slice (some ⟨w.heap.size, 0, none⟩) 8 8] (w.alloc (.cells #[.int .u8 z, .int .u8 33, .int .u8 1, .int .u8 0, .int .u8 3, .int .u8 0, .int .u8 0, .int .u8 0] 5)) fun e w' => e = .returned (.bool true) ∧ Below w.heap.size w w' :=
  kg [z, 33, 1, 0, 3, 0, 0, 0] #[.int .u8 z, .int .u8 33, .int .u8 1, .int .u8 0, .int .u8 3, .int .u8 0, .int .u8 0, .int .u8 0] 8 rfl (by intro b hb; simp at hb; omega) (by decide) rfl w
theorem kg2 (z : Int) (hz : 0 ≤ z ∧ z ≤ 255) (w : World) :
    Calls Try.prog 5 #[.slice (some ⟨w.heap.size, 0, none⟩) 16 16] (w.alloc (.cells #[.int .u8 z, .int .u8 1, .int .u8 0, .int .u8 0, .int .u8 32, .int .u8 0, .int .u8 0, .int .u8 0, .int .u8 0, .int .u8 0, .int .u8 0, .int .u8 0, .int .u8 0, .int .u8 0, .int .u8 0, .int .u8 128] 5)) fun e w' => e = .returned (.bool true) ∧ Below w.heap.size w w' :=
  kg [z, 1, 0, 0, 32, 0, 0, 0, 0, 0, 0, 0, 0, 0, 0, 128] #[.int .u8 z, .int .u8 1, .int .u8 0, .int .u8 0, .int .u8 32, .int .u8 0, .int .u8 0, .int .u8 0, .int .u8 0, .int .u8 0, .int .u8 0, .int .u8 0, .int .u8 0, .int .u8 0, .int .u8 0, .int .u8 128] 16 rfl (by intro b hb; simp at hb; omega) (by decide) rfl w
theorem kp (o e : Int) (ho : i64 o) (he : i64 e) (w : World) :
    Calls Try.prog 4 #[.slice (some ⟨w.heap.size, 0, none⟩) 2 2] (w.alloc (.cells #[.int .i64 o, .int .i64 0, .int .i64 0, .int .i64 0, .int .i64 e, .int .i64 o, .int .i64 0, .int .i64 0, .int .i64 e, .int .i64 0] 23)) fun ev w' => ev = .returned (.bool true) ∧ Below (w.alloc (.cells #[.int .i64 o, .int .i64 0, .int .i64 0, .int .i64 0, .int .i64 e, .int .i64 o, .int .i64 0, .int .i64 0, .int .i64 e, .int .i64 0] 23)).heap.size (w.alloc (.cells #[.int .i64 o, .int .i64 0, .int .i64 0, .int .i64 0, .int .i64 e, .int .i64 o, .int .i64 0, .int .i64 0, .int .i64 e, .int .i64 0] 23)) w' :=
  (insnPuts.walk _ 2 2 [⟨o, 0, 0, 0, e⟩, ⟨o, 0, 0, e, 0⟩] _ rfl (by
    intro x hx
    have z : i64 0 := by unfold i64; omega
    simp at hx
    rcases hx with rfl | rfl
    · exact ⟨ho, z, z, z, he⟩
    · exact ⟨ho, z, z, he, z⟩) (Nat.le_refl _) (by omega) (rd_new rfl (by simp)))
theorem tk {w W w2 : World} {p q : Addr} {v0 v1 : Value} (hb : Below W.heap.size W w2) (hh : W.cell? p = some v0 ∧ W.cell? q = some v1 ∧ Below w.heap.size w W) :
    w2.cell? p = some v0 ∧ w2.cell? q = some v1 ∧ Below w.heap.size w w2 := ⟨ck hb hh.1, ck hb hh.2.1, below_then hh.2.2 hb (Nat.le_refl _)⟩
theorem ta {w W : World} {p q : Addr} {v0 v1 : Value} (hh : W.cell? p = some v0 ∧ W.cell? q = some v1 ∧ Below w.heap.size w W) (o : Obj) :
    (W.alloc o).cell? p = some v0 ∧ (W.alloc o).cell? q = some v1 ∧ Below w.heap.size w (W.alloc o) :=
  ⟨(World.cell?_alloc_lt W o _ (World.block_lt_of_cell? W _ hh.1)).trans hh.1, (World.cell?_alloc_lt W o _ (World.block_lt_of_cell? W _ hh.2.1)).trans hh.2.1, hh.2.2.alloc hh.2.2.size o⟩
def kL (n : Nat) : List In := (List.range n).map fun (j : Nat) => ⟨183, (j : Int) % 10, 0, 0, (j : Int)⟩
theorem kL_succ (n : Nat) : kL (n + 1) = kL n ++ [⟨183, (n : Int) % 10, 0, 0, (n : Int)⟩] := by unfold kL; rw [List.range_succ, List.map_append]; rfl
theorem kL_len (n : Nat) : (kL n).length = n := by unfold kL; simp
theorem kL_fits (n : Nat) (hn : n ≤ 1000) : ∀ x ∈ kL n, x.fits := by
  intro x hx
  unfold kL at hx
  rw [List.mem_map] at hx
  obtain ⟨j, hj, rfl⟩ := hx
  rw [List.mem_range] at hj
  unfold In.fits i64
  simp only
  omega
def bb (j : Nat) : Int := if j % 8 = 0 then 149 else 0
def bL (n : Nat) : List Int := (List.range n).map bb
theorem bL_succ (n : Nat) : bL (n + 1) = bL n ++ [bb n] := by unfold bL; rw [List.range_succ, List.map_append]; rfl
theorem bL_len (n : Nat) : (bL n).length = n := by unfold bL; simp
theorem bL_isB (n : Nat) : isB (bL n) := by
  intro b hb
  unfold bL at hb
  rw [List.mem_map] at hb
  obtain ⟨j, _, rfl⟩ := hb
  unfold bb
  split <;> omega
theorem own_al {w wr : World} {v : Value} {l : List Int} (h : OwnB w v wr l) (o : Obj) : OwnB w v (wr.alloc o) l := ⟨h.own.alloc o, h.below.alloc h.below.size o⟩
theorem byte_at (w : World) (k : Nat) : (w.alloc (.cells #[.int .u8 149, .int .u8 0, .int .u8 0, .int .u8 0, .int .u8 0, .int .u8 0, .int .u8 0, .int .u8 0] 5)).cell? ⟨w.heap.size, k % 8, none⟩ = some (.int .u8 (bb k)) := by
  have h := Bk.new w 5 #[.int .u8 149, .int .u8 0, .int .u8 0, .int .u8 0, .int .u8 0, .int .u8 0, .int .u8 0, .int .u8 0]
  rw [h.cell]
  have hk : k % 8 < 8 := Nat.mod_lt _ (by decide)
  unfold bb
  generalize k % 8 = m at hk
  have : m = 0 ∨ m = 1 ∨ m = 2 ∨ m = 3 ∨ m = 4 ∨ m = 5 ∨ m = 6 ∨ m = 7 := by omega
  rcases this with rfl | rfl | rfl | rfl | rfl | rfl | rfl | rfl <;> rfl
theorem kpart (A : Option Addr) (n cap m : Nat) (w : World) (hm : m ≤ n) (hc : m ≤ cap) (hcap : cap ≤ 9223372036854775807) (r : Rd w w.heap.size A (bv (bL n))) :
    Calls Try.prog 5 #[.slice A m cap] w fun e w' => e = .returned (.bool true) ∧ Below w.heap.size w w' := by
  refine insnGets.walk A m cap ((bL n).take m) w ?_ ?_ hc hcap ?_
  · rw [List.length_take, bL_len]; omega
  · intro b hb; exact bL_isB n b (List.mem_of_mem_take hb)
  · have h := r.take m
    have e : (bv (bL n)).take m = bv ((bL n).take m) := by unfold bv; rw [List.map_take]
    rw [e] at h
    exact h
theorem wf_i64 (n : Int) (h : i64 n) : (Lit.int .i64 n).wf = true := by
  unfold i64 at h
  simp [Lit.wf, IntKind.min, IntKind.max, IntKind.signed, IntKind.bits] <;> omega
def loopsOf : Code → List Code
  | .loop c => c :: loopsOf c
  | .seq a b => loopsOf a ++ loopsOf b
  | .block _ c => loopsOf c
  | .scope c => loopsOf c
  | .cond _ a b => loopsOf a ++ loopsOf b
  | _ => []
noncomputable def body3 : Code := (((Try.f10.body.map loopsOf).getD []).drop 2).headD .skip
set_option maxRecDepth 1000000 in
set_option maxHeartbeats 8000000 in
theorem r3 {w wr : World} {go k i : Nat} {o e : Int} {u0 u2 u6 u7 u8 u9 u10 u11 u12 u13 u14 u15 u16 u17 u18 u19 u20 u21 u22 u23 u24 u25 u26 u27 u28 u29 u30 u31 u32 u33 u34 u35 u36 u37 u38 u39 u40 u41 u42 u43 u44 u45 u46 u47 u48 u49 u50 u51 u52 u53 u54 u55 u56 u57 u58 u59 u60 u61 u62 u63 u64 u65 u66 u67 u68 u69 u70 u71 u72 u73 u74 u75 u76 u77 u78 u79 u80 u81 u82 u83 u84 u85 u86 u87 u88 u89 u90 u91 u92 u93 u94 u95 u96 u97 u98 u99 u100 u101 u102 u103 u104 u105 u106 u107 u108 u109 u110 u111 u112 u113 u114 u115 u116 u117 u118 u119 u120 u121 u122 u123 u124 u125 u126 u127 u128 u129 u130 u131 u132 u133 u134 u135 u136 u137 u138 u139 u140 u141 u142 u143 u144 u145 u146 u147 u148 u149 u150 u151 u152 u153 u154 u155 u156 u157 u158 u159 u160 u161 u162 u163 u164 u165 u166 u167 u168 u169 u170 u171 u172 u173 u174 u175 u176 u177 u178 u179 u180 u181 u182 u183 u184 u185 u186 u187 u188 u189 u190 u191 u192 u193 u194 u195 u196 u197 u198 u199 u200 u201 u202 u203 u204 u205 u206 u207 u208 u209 u210 u211 u212 u213 : Value} {K : Act → World → Prop} {Q0 : Exit → Act → World → Prop}
    (hlt3 : i < 20) (hlt2 : k < 16) (oo : i64 o) (ee : i64 e) (co : wr.cell? ⟨go, k, none⟩ = some (.int .i64 o)) (cn : wr.cell? ⟨w.heap.size, i, none⟩ = some (.int .i64 e))
    (hK : ∀ (t64 t65 t66 t67 t68 t69 t70 t71 t72 t73 t74 t75 t76 t77 t78 t79 t80 t81 t82 t83 t84 t85 t86 t87 t88 t89 t90 t91 t92 t93 t94 t95 t96 t97 t98 t99 t100 t101 t102 t103 t104 t105 t106 t107 t108 t109 t110 t111 t112 t113 t114 t115 t116 t117 t118 t119 t120 t121 t122 t123 t124 t125 t126 t127 t128 t129 t130 t131 t132 t133 t134 t135 t136 t137 t138 t139 t140 t141 t142 t143 t144 t145 t146 t147 t148 t149 t150 t151 t152 t153 t154 t155 : Value) (w2 : World), Below wr.heap.size wr w2 → K ⟨#[u0, .slice (some ⟨w.heap.size, 0, none⟩) 20 20, u2, .slice (some ⟨go, 0, none⟩) 16 16, .int .i64 (k : Int), .int .i64 ((i : Int) + 1), u6, u7, u8, u9, u10, u11, u12, u13, u14, u15, u16, u17, u18, u19, u20, u21, u22, u23, u24, u25, u26, u27, u28, u29, u30, u31, u32, u33, u34, u35, u36, u37, u38, u39, u40, u41, u42, u43, u44, u45, u46, u47, u48, u49, u50, u51, u52, u53, u54, u55, u56, u57, u58, u59, u60, u61, u62, u63, t64, t65, t66, t67, t68, t69, t70, t71, t72, t73, t74, t75, t76, t77, t78, t79, t80, t81, t82, t83, t84, t85, t86, t87, t88, t89, t90, t91, t92, t93, t94, t95, t96, t97, t98, t99, t100, t101, t102, t103, t104, t105, t106, t107, t108, t109, t110, t111, t112, t113, t114, t115, t116, t117, t118, t119, t120, t121, t122, t123, t124, t125, t126, t127, t128, t129, t130, t131, t132, t133, t134, t135, t136, t137, t138, t139, t140, t141, t142, t143, t144, t145, t146, t147, t148, t149, t150, t151, t152, t153, t154, t155, u156, u157, u158, u159, u160, u161, u162, u163, u164, u165, u166, u167, u168, u169, u170, u171, u172, u173, u174, u175, u176, u177, u178, u179, u180, u181, u182, u183, u184, u185, u186, u187, u188, u189, u190, u191, u192, u193, u194, u195, u196, u197, u198, u199, u200, u201, u202, u203, u204, u205, u206, u207, u208, u209, u210, u211, u212, u213], []⟩ w2) :
    Code.wp Try.prog body3 (Exit.then K Q0) ⟨#[u0, .slice (some ⟨w.heap.size, 0, none⟩) 20 20, u2, .slice (some ⟨go, 0, none⟩) 16 16, .int .i64 (k : Int), .int .i64 (i : Int), u6, u7, u8, u9, u10, u11, u12, u13, u14, u15, u16, u17, u18, u19, u20, u21, u22, u23, u24, u25, u26, u27, u28, u29, u30, u31, u32, u33, u34, u35, u36, u37, u38, u39, u40, u41, u42, u43, u44, u45, u46, u47, u48, u49, u50, u51, u52, u53, u54, u55, u56, u57, u58, u59, u60, u61, u62, u63, u64, u65, u66, u67, u68, u69, u70, u71, u72, u73, u74, u75, u76, u77, u78, u79, u80, u81, u82, u83, u84, u85, u86, u87, u88, u89, u90, u91, u92, u93, u94, u95, u96, u97, u98, u99, u100, u101, u102, u103, u104, u105, u106, u107, u108, u109, u110, u111, u112, u113, u114, u115, u116, u117, u118, u119, u120, u121, u122, u123, u124, u125, u126, u127, u128, u129, u130, u131, u132, u133, u134, u135, u136, u137, u138, u139, u140, u141, u142, u143, u144, u145, u146, u147, u148, u149, u150, u151, u152, u153, u154, u155, u156, u157, u158, u159, u160, u161, u162, u163, u164, u165, u166, u167, u168, u169, u170, u171, u172, u173, u174, u175, u176, u177, u178, u179, u180, u181, u182, u183, u184, u185, u186, u187, u188, u189, u190, u191, u192, u193, u194, u195, u196, u197, u198, u199, u200, u201, u202, u203, u204, u205, u206, u207, u208, u209, u210, u211, u212, u213], []⟩ wr := by
  have OO := Lib.hid oo
  have EE := Lib.hid ee
  have HK := Lib.hid hK
  clear hK oo ee
  have z0 : i64 0 := by unfold i64; omega
  have z1 : i64 1 := by unfold i64; omega
  have i1 : (0 : Int) ≤ (k : Int) := by omega
  have i2 : (k : Int) < 16 := by omega
  have j1 : (0 : Int) ≤ (i : Int) := by omega
  have j2 : (i : Int) < 20 := by omega
  conv => arg 2; whnf
  go_wp2_with fail
  go_region_held3 (fun w' => w'.cell? ⟨go, k, none⟩ = some (.int .i64 o) ∧ w'.cell? ⟨w.heap.size, i, none⟩ = some (.int .i64 e) ∧ Below wr.heap.size wr w')
    (first | exact ⟨co, cn, (Below.refl _ _).drew⟩ | exact tk qb (by assumption) | exact tk qb ⟨by assumption, by assumption, by assumption⟩ | exact tk qb ⟨co, cn, (Below.refl _ _).drew⟩ | exact ta (by assumption) _ | exact ta ⟨by assumption, by assumption, by assumption⟩ _)
    (first | (go_at_call 3; with_reducible refine (kchk o e 0 0 0 OO.out EE.out z0 z0 z0 _).mono ?_; rintro e9 w2 ⟨rfl, qb⟩) | (go_at_call 3; with_reducible refine (kchk o 0 e 0 0 OO.out z0 EE.out z0 z0 _).mono ?_; rintro e9 w2 ⟨rfl, qb⟩) | (go_at_call 3; with_reducible refine (kchk o 0 0 e 0 OO.out z0 z0 EE.out z0 _).mono ?_; rintro e9 w2 ⟨rfl, qb⟩) | (go_at_call 3; with_reducible refine (kchk o 0 0 0 e OO.out z0 z0 z0 EE.out _).mono ?_; rintro e9 w2 ⟨rfl, qb⟩) | (go_at_call 3; with_reducible refine (kchk o 0 1 0 e OO.out z0 z1 z0 EE.out _).mono ?_; rintro e9 w2 ⟨rfl, qb⟩) | (go_at_call 4; with_reducible refine (kp o e OO.out EE.out _).mono ?_; rintro e9 w2 ⟨rfl, qb⟩))
  have BB : Hid (Below wr.heap.size wr w2) := by
    rename_i hH
    exact Lib.hid hH.2.2
  clear qb cn co
  rename_i hH
  clear hH
  go_wp2_with fail
  exact HK.out _ _ _ _ _ _ _ _ _ _ _ _ _ _ _ _ _ _ _ _ _ _ _ _ _ _ _ _ _ _ _ _ _ _ _ _ _ _ _ _ _ _ _ _ _ _ _ _ _ _ _ _ _ _ _ _ _ _ _ _ _ _ _ _ _ _ _ _ _ _ _ _ _ _ _ _ _ _ _ _ _ _ _ _ _ _ _ _ _ _ _ _ _ BB.out
end Go.Proofs.Ytlimhdnpdhjdaaa.insnKnown
