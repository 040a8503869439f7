/-
  Layer 8, CellsKnown: the chapter's examples, sizes, places and numbers about their ends, are as the document says. No conditions.
-/
import Derived.Test.YthdgdkjaeebbcaaRows
import Derived.Test.YthdgdkjaeebbcaaCellsOps
import Derived.Test.YthdgdkjaeebbcaaKitBytes
import Derived.Test.YthdgdkjaeebbcaaBrief
import Derived.Test.YthdgdkjaeebbcaaCellsRunsLaw
import Derived.Test.YthdgdkjaeebbcaaCellsApartLaw
import Derived.Test.YthdgdkjaeebbcaaCellsBackLaw
import Derived.Test.YthdgdkjaeebbcaaCellsNumbersLaw
import Derived.Test.YthdgdkjaeebbcaaCellsWorks
import Derived.WalkMore
import Derived.Deep.DeepCutAuto
import Derived.IntWalk
import Derived.Deep.LoopGhost
import Derived.WalkKit
import Derived.ProofKit
import Derived.OpenShut
import Derived.ChangeOld
import Derived.Below
namespace Go.Proofs.Ythdgdkjaeebbcaa.cellsKnown
open Go.ChangeShapes Go.WideShapes Go.ChangeAt Go.RowKit Ow Ph Ro K2
set_option linter.unusedVariables false
set_option linter.unusedSimpArgs false
attribute [local go_sem] run_store_complex

theorem own : ownKnob Try.prog.godebug = none := by kernel_rfl
theorem laidOut : laidOutB Try.prog = true := by kernel_rfl

def rowB (n : Nat) : List Int := (List.range n).map fun (i : Nat) => (3 + 5 * (i : Int)) % 256
theorem rowB_len (n : Nat) : (rowB n).length = n := by unfold rowB; simp
theorem rowB_succ (n : Nat) : rowB (n + 1) = rowB n ++ [(3 + 5 * (n : Int)) % 256] := by unfold rowB; rw [List.range_succ, List.map_append]; rfl
theorem rowB_ok (n : Nat) : ∀ b ∈ rowB n, 0 ≤ b ∧ b ≤ 255 := by
  intro b hb
  unfold rowB at hb
  obtain ⟨i, _, rfl⟩ := List.mem_map.1 hb
  omega
set_option maxHeartbeats 1000000 in
theorem row_any (n : Nat) (h1 : n ≤ 1000) (w : World) :
    Calls Try.prog 30 #[.int .i64 n] w fun e w' => ∃ v, e = .returned v ∧ OwnB w v w' (rowB n) := by
  obtain ⟨i0, hi0, hz0, hz1, hz2⟩ := info_parts byte_info
  go_enter Try.func30, Try.ntmps30
  go_wp2
  go_loopw [3, 4] (fun b i wr => ∃ k : Nat, k ≤ n ∧ i = .int .i64 k ∧ Hid (OwnB w b wr (rowB k))) (fun _ i _ => n - (intOf i).toNat)
  case atStart => exact ⟨0, Nat.zero_le _, rfl, Lib.hid ⟨World.ownsRow_nil _ _ _ _, Below.refl _ _⟩⟩
  case round =>
    obtain ⟨k, hk, rfl, hO⟩ := hrel
    by_cases hlt : k < n
    · have HLE : Hid ((rowB k).length = k) := Lib.hid (rowB_len k)
      have hu : IntKind.u8.wrap (3 + 5 * (k : Int)) = (3 + 5 * (k : Int)) % 256 := by rw [IntKind.wrap_u8]
      have HSU := Lib.hid (rowB_succ k)
      generalize (3 + 5 * (k : Int)) % 256 = x at *
      go_wp2_with (at_builtin; refine wpList_append_own_at _ rfl (.tmp 10) (.tmp 15) _ rfl w.heap.size 5 i0 _ 1 1 Try.underlying31 hi0 hz0 hz1 hz2 rfl (by decide) _ _ _ rfl (hO.out.own.alloc _) ⟨wr.heap.size, 0, none⟩ 1 1 _ rfl rfl (cell_one_new _ _ _) ?a2 ?a3 ?a4 ?a5 ?_)
      case a2 => intro u hu; simp at hu; subst hu; rfl
      case a3 => have := HLE.out; unfold maxLen; omega
      case a4 => have := HLE.out; omega
      case a5 => have := hO.out.below.size; simp; omega
      intro v1 w1 hown1 hg1 _ hat1
      have R1 : Hid (OwnB w v1 w1 (rowB (k + 1))) := Lib.hid (by rw [HSU.out]; exact hO.out.step hown1 rfl hg1)
      clear hown1 hg1 hat1 hO
      go_wp2
      go_roundw
      case rel => exact ⟨k + 1, by omega, by go_num, R1⟩
      case measure => simp [intOf]; omega
    · obtain rfl : k = n := by omega
      go_wp2
      go_ret
      exact ⟨_, rfl, hO.out⟩

def findR (n : Nat) : Code → Option Code
  | .region id ops d => if id = n then some (.region id ops d) else none
  | .loop c => findR n c
  | .seq a b => (findR n a).or (findR n b)
  | .block _ c => findR n c
  | .scope c => findR n c
  | .cond _ a b => (findR n a).or (findR n b)
  | _ => none
noncomputable def c8 : Code := (Try.f7.body.bind (findR 8)).getD .skip
def opsOf : Code → Array Oper
  | .region _ ops _ => ops
  | _ => #[]
noncomputable def ops8 : Array Oper := opsOf c8
/-- A slice that holds bytes. -/
def Gd (w : World) (v : Value) (n : Nat) (bs : List Int) : Prop := ∃ a c, v = .slice a n c ∧ n ≤ c ∧ c ≤ 9223372036854775807 ∧ (a = none → n = 0 ∧ c = 0) ∧ Rd w w.heap.size a (bv bs)
theorem Gd.grow {w w' : World} {v : Value} {n : Nat} {bs : List Int} (h : Gd w v n bs) (hb : Below w.heap.size w w') : Gd w' v n bs := by
  obtain ⟨a, c, h1, h2, h3, h4, h5⟩ := h
  exact ⟨a, c, h1, h2, h3, h4, (h5.below hb).mono hb.size⟩
theorem gd_lit (z : World) (n : Nat) (bs : List Int) (cs : Array Value) (t : TypeId) (hc : cs.toList = bv bs) (hn : n ≤ 100) : Gd (z.alloc (.cells cs t)) (.slice (some ⟨z.heap.size, 0, none⟩) n n) n bs := by
  refine ⟨_, _, rfl, Nat.le_refl _, by omega, (fun e => by cases e), fun _ => ⟨_, rfl, by simp, fun j u hu => ?_⟩⟩
  rw [← hc] at hu
  exact new_cells z t cs j u hu
theorem gd_own {w w' : World} {v : Value} {n : Nat} {bs : List Int} (h : OwnB w v w' bs) (hn : bs.length = n) (h1 : 1 ≤ n) : Gd w' v n bs := by
  have ho := h.own
  rw [hn] at ho
  obtain ⟨a, c, rfl, h2, h3, h4⟩ := own_form ho
  obtain ⟨g, rfl, _, _⟩ := h4 (by omega)
  exact ⟨_, c, rfl, h2, by unfold maxLen at h3; omega, (fun e => by cases e), Rd.of_own ho⟩
def KH (K : Act → World → Prop) (g i k : Nat) (W : World) (u0 u5 u6 u7 u8 u9 u10 u11 u12 u13 u14 u15 u16 u17 u82 u83 u84 u85 u86 u87 u88 u89 u90 u91 u92 u93 u94 u95 u96 u97 u98 u99 u100 u101 u102 u103 u104 u105 u106 u107 u108 u109 u110 u111 u112 : Value) : Prop := ∀ (u18 u19 u20 u21 u22 u23 u24 u25 u26 u27 u28 u29 u30 u31 u32 u33 u34 u35 u36 u37 u38 u39 u40 u41 u42 u43 u44 u45 u46 u47 u48 u49 u50 u51 u52 u53 u54 u55 u56 u57 u58 u59 u60 u61 u62 u63 u64 u65 u66 u67 u68 u69 u70 u71 u72 u73 u74 u75 u76 u77 u78 u79 u80 u81 : Value) (a : Addr) (L : List Opn) (z : World), Below W.heap.size W z → L.length = 14 → (∀ x ∈ L, x.fits) → OpsAt z z.heap.size (some a) L → K ⟨#[u0, .slice (some ⟨g, 0, none⟩) 14 14, .int .i64 (i : Int), .int .i64 (k : Int), .slice (some a) 14 14, u5, u6, u7, u8, u9, u10, u11, u12, u13, u14, u15, u16, u17, u18, u19, u20, u21, u22, u23, u24, u25, u26, u27, u28, u29, u30, u31, u32, u33, u34, u35, u36, u37, u38, u39, u40, u41, u42, u43, u44, u45, u46, u47, u48, u49, u50, u51, u52, u53, u54, u55, u56, u57, u58, u59, u60, u61, u62, u63, u64, u65, u66, u67, u68, u69, u70, u71, u72, u73, u74, u75, u76, u77, u78, u79, u80, u81, u82, u83, u84, u85, u86, u87, u88, u89, u90, u91, u92, u93, u94, u95, u96, u97, u98, u99, u100, u101, u102, u103, u104, u105, u106, u107, u108, u109, u110, u111, u112], []⟩ z
theorem row66 (w : World) : Calls Try.prog 30 #[.int .i64 66] w fun e w' => ∃ v, e = .returned v ∧ OwnB w v w' (rowB 66) := row_any 66 (by omega) w
theorem cvl {P : Program} {ops : Array Oper} {Q : Exit → Act → World → Prop} {md : Region.Mode} {S : World → Prop} {fuel : Nat} {l l' : Array Bool} {a : Act} {w : World} (h : l = l') (H : wpAnyH P md ops Q S fuel l' a w) : wpAnyH P md ops Q S fuel l a w := h ▸ H
theorem fits_nil {kind id off size now v : Int} (h1 : i64 kind) (h2 : i64 id) (h3 : i64 off) (h4 : i64 size) (h5 : i64 now) (h6 : 0 ≤ v) (h7 : v ≤ 18446744073709551615) : (⟨kind, id, off, size, now, v, none, 0, 0, []⟩ : Opn).fits :=
  ⟨h1, h2, h3, h4, h5, h6, h7, rfl, by simp, Nat.le_refl _, by simp, fun _ => ⟨rfl, rfl⟩⟩
theorem fits_own {kind id now : Int} {a : Option Addr} {n c : Nat} {bs : List Int} (h1 : i64 kind) (h2 : i64 id) (h5 : i64 now) (hl : bs.length = n) (hb : ∀ b ∈ bs, 0 ≤ b ∧ b ≤ 255) (h3 : n ≤ c) (h4 : c ≤ 9223372036854775807) (h6 : a = none → n = 0 ∧ c = 0) : (⟨kind, id, 0, 0, now, 0, a, n, c, bs⟩ : Opn).fits :=
  ⟨h1, h2, (⟨by decide, by decide⟩ : i64 0), (⟨by decide, by decide⟩ : i64 0), h5, Int.le_refl 0, (by simp), hl, hb, h3, h4, h6⟩
theorem i6 (n : Int) (h1 : -9223372036854775808 ≤ n) (h2 : n ≤ 9223372036854775807) : i64 n := ⟨h1, h2⟩
set_option maxRecDepth 100000 in
theorem ops_done (z : World) (x y v : Int) (hx : i64 x) (hy : i64 y) (hv1 : 0 ≤ v) (hv2 : v ≤ 18446744073709551615) (v0 v2 v40 v46 : Value) (h0 : Gd z v0 3 [1, 2, 3]) (h2 : Gd z v2 66 (rowB 66)) (h40 : Gd z v40 3 [7, 8, 9]) (h46 : Gd z v46 1 [7]) :
    ∃ L : List Opn, L.length = 14 ∧ (∀ x ∈ L, x.fits) ∧ OpsAt (z.alloc (.cells #[.int .i64 0, .int .i64 0, .int .i64 0, .int .i64 0, .int .i64 0, .int .u64 0, v0, .int .i64 0, .int .i64 0, .int .i64 0, .int .i64 0, .int .i64 0, .int .u64 0, v2, .int .i64 1, .int .i64 2, .int .i64 x, .int .i64 y, .int .i64 0, .int .u64 0, .slice none 0 0, .int .i64 2, .int .i64 2, .int .i64 x, .int .i64 y, .int .i64 y, .int .u64 9223372036854775885, .slice none 0 0, .int .i64 2, .int .i64 x, .int .i64 0, .int .i64 1, .int .i64 0, .int .u64 v, .slice none 0 0, .int .i64 3, .int .i64 x, .int .i64 0, .int .i64 0, .int .i64 y, .int .u64 0, v40, .int .i64 3, .int .i64 1, .int .i64 0, .int .i64 0, .int .i64 0, .int .u64 0, v46, .int .i64 4, .int .i64 x, .int .i64 0, .int .i64 0, .int .i64 0, .int .u64 0, .slice none 0 0, .int .i64 4, .int .i64 x, .int .i64 0, .int .i64 0, .int .i64 0, .int .u64 0, .slice none 0 0, .int .i64 1, .int .i64 1, .int .i64 0, .int .i64 2, .int .i64 0, .int .u64 0, .slice none 0 0, .int .i64 5, .int .i64 0, .int .i64 0, .int .i64 0, .int .i64 0, .int .u64 0, .slice none 0 0, .int .i64 9, .int .i64 0, .int .i64 0, .int .i64 0, .int .i64 0, .int .u64 0, .slice none 0 0, .int .i64 1, .int .i64 1, .int .i64 0, .int .i64 2, .int .i64 0, .int .u64 0, .slice none 0 0, .int .i64 0, .int .i64 0, .int .i64 0, .int .i64 0, .int .i64 0, .int .u64 0, .slice none 0 0] 33)) (z.alloc (.cells #[.int .i64 0, .int .i64 0, .int .i64 0, .int .i64 0, .int .i64 0, .int .u64 0, v0, .int .i64 0, .int .i64 0, .int .i64 0, .int .i64 0, .int .i64 0, .int .u64 0, v2, .int .i64 1, .int .i64 2, .int .i64 x, .int .i64 y, .int .i64 0, .int .u64 0, .slice none 0 0, .int .i64 2, .int .i64 2, .int .i64 x, .int .i64 y, .int .i64 y, .int .u64 9223372036854775885, .slice none 0 0, .int .i64 2, .int .i64 x, .int .i64 0, .int .i64 1, .int .i64 0, .int .u64 v, .slice none 0 0, .int .i64 3, .int .i64 x, .int .i64 0, .int .i64 0, .int .i64 y, .int .u64 0, v40, .int .i64 3, .int .i64 1, .int .i64 0, .int .i64 0, .int .i64 0, .int .u64 0, v46, .int .i64 4, .int .i64 x, .int .i64 0, .int .i64 0, .int .i64 0, .int .u64 0, .slice none 0 0, .int .i64 4, .int .i64 x, .int .i64 0, .int .i64 0, .int .i64 0, .int .u64 0, .slice none 0 0, .int .i64 1, .int .i64 1, .int .i64 0, .int .i64 2, .int .i64 0, .int .u64 0, .slice none 0 0, .int .i64 5, .int .i64 0, .int .i64 0, .int .i64 0, .int .i64 0, .int .u64 0, .slice none 0 0, .int .i64 9, .int .i64 0, .int .i64 0, .int .i64 0, .int .i64 0, .int .u64 0, .slice none 0 0, .int .i64 1, .int .i64 1, .int .i64 0, .int .i64 2, .int .i64 0, .int .u64 0, .slice none 0 0, .int .i64 0, .int .i64 0, .int .i64 0, .int .i64 0, .int .i64 0, .int .u64 0, .slice none 0 0] 33)).heap.size (some ⟨z.heap.size, 0, none⟩) L := by
  have hb : Below z.heap.size z (z.alloc (.cells #[.int .i64 0, .int .i64 0, .int .i64 0, .int .i64 0, .int .i64 0, .int .u64 0, v0, .int .i64 0, .int .i64 0, .int .i64 0, .int .i64 0, .int .i64 0, .int .u64 0, v2, .int .i64 1, .int .i64 2, .int .i64 x, .int .i64 y, .int .i64 0, .int .u64 0, .slice none 0 0, .int .i64 2, .int .i64 2, .int .i64 x, .int .i64 y, .int .i64 y, .int .u64 9223372036854775885, .slice none 0 0, .int .i64 2, .int .i64 x, .int .i64 0, .int .i64 1, .int .i64 0, .int .u64 v, .slice none 0 0, .int .i64 3, .int .i64 x, .int .i64 0, .int .i64 0, .int .i64 y, .int .u64 0, v40, .int .i64 3, .int .i64 1, .int .i64 0, .int .i64 0, .int .i64 0, .int .u64 0, v46, .int .i64 4, .int .i64 x, .int .i64 0, .int .i64 0, .int .i64 0, .int .u64 0, .slice none 0 0, .int .i64 4, .int .i64 x, .int .i64 0, .int .i64 0, .int .i64 0, .int .u64 0, .slice none 0 0, .int .i64 1, .int .i64 1, .int .i64 0, .int .i64 2, .int .i64 0, .int .u64 0, .slice none 0 0, .int .i64 5, .int .i64 0, .int .i64 0, .int .i64 0, .int .i64 0, .int .u64 0, .slice none 0 0, .int .i64 9, .int .i64 0, .int .i64 0, .int .i64 0, .int .i64 0, .int .u64 0, .slice none 0 0, .int .i64 1, .int .i64 1, .int .i64 0, .int .i64 2, .int .i64 0, .int .u64 0, .slice none 0 0, .int .i64 0, .int .i64 0, .int .i64 0, .int .i64 0, .int .i64 0, .int .u64 0, .slice none 0 0] 33)) := (Below.refl _ _).alloc (Nat.le_refl _) _
  obtain ⟨a0, c0, rfl, p01, p02, p03, r0⟩ := h0.grow hb
  obtain ⟨a2, c2, rfl, p21, p22, p23, r2⟩ := h2.grow hb
  obtain ⟨a40, c40, rfl, p41, p42, p43, r40⟩ := h40.grow hb
  obtain ⟨a46, c46, rfl, p61, p62, p63, r46⟩ := h46.grow hb
  have zz : i64 0 := i6 0 (by decide) (by decide)
  refine ⟨[⟨0, 0, 0, 0, 0, 0, a0, 3, c0, [1, 2, 3]⟩, ⟨0, 0, 0, 0, 0, 0, a2, 66, c2, rowB 66⟩, ⟨1, 2, x, y, 0, 0, none, 0, 0, []⟩, ⟨2, 2, x, y, y, 9223372036854775885, none, 0, 0, []⟩, ⟨2, x, 0, 1, 0, v, none, 0, 0, []⟩, ⟨3, x, 0, 0, y, 0, a40, 3, c40, [7, 8, 9]⟩, ⟨3, 1, 0, 0, 0, 0, a46, 1, c46, [7]⟩, ⟨4, x, 0, 0, 0, 0, none, 0, 0, []⟩, ⟨4, x, 0, 0, 0, 0, none, 0, 0, []⟩, ⟨1, 1, 0, 2, 0, 0, none, 0, 0, []⟩, ⟨5, 0, 0, 0, 0, 0, none, 0, 0, []⟩, ⟨9, 0, 0, 0, 0, 0, none, 0, 0, []⟩, ⟨1, 1, 0, 2, 0, 0, none, 0, 0, []⟩, ⟨0, 0, 0, 0, 0, 0, none, 0, 0, []⟩], rfl, ?_, ⟨fun _ => ⟨_, rfl, by simp, fun j u hu => new_cells z _ _ j u hu⟩, ?_⟩⟩
  · intro q hq
    simp only [List.mem_cons, List.not_mem_nil, or_false] at hq
    rcases hq with rfl | rfl | rfl | rfl | rfl | rfl | rfl | rfl | rfl | rfl | rfl | rfl | rfl | rfl
    · exact fits_own zz zz zz rfl (by decide) p01 p02 p03
    · exact fits_own zz zz zz (rowB_len 66) (rowB_ok 66) p21 p22 p23
    · exact fits_nil (i6 1 (by decide) (by decide)) (i6 2 (by decide) (by decide)) hx hy zz (by decide) (by decide)
    · exact fits_nil (i6 2 (by decide) (by decide)) (i6 2 (by decide) (by decide)) hx hy hy (by decide) (by decide)
    · exact fits_nil (i6 2 (by decide) (by decide)) hx zz (i6 1 (by decide) (by decide)) zz hv1 hv2
    · exact fits_own (i6 3 (by decide) (by decide)) hx hy rfl (by decide) p41 p42 p43
    · exact fits_own (i6 3 (by decide) (by decide)) (i6 1 (by decide) (by decide)) zz rfl (by decide) p61 p62 p63
    · exact fits_nil (i6 4 (by decide) (by decide)) hx zz zz zz (by decide) (by decide)
    · exact fits_nil (i6 4 (by decide) (by decide)) hx zz zz zz (by decide) (by decide)
    · exact fits_nil (i6 1 (by decide) (by decide)) (i6 1 (by decide) (by decide)) zz (i6 2 (by decide) (by decide)) zz (by decide) (by decide)
    · exact fits_nil (i6 5 (by decide) (by decide)) zz zz zz zz (by decide) (by decide)
    · exact fits_nil (i6 9 (by decide) (by decide)) zz zz zz zz (by decide) (by decide)
    · exact fits_nil (i6 1 (by decide) (by decide)) (i6 1 (by decide) (by decide)) zz (i6 2 (by decide) (by decide)) zz (by decide) (by decide)
    · exact fits_nil zz zz zz zz zz (by decide) (by decide)
  · intro q hq
    simp only [List.mem_cons, List.not_mem_nil, or_false] at hq
    rcases hq with rfl | rfl | rfl | rfl | rfl | rfl | rfl | rfl | rfl | rfl | rfl | rfl | rfl | rfl
    · exact r0
    · exact r2
    · exact Rd.nil
    · exact Rd.nil
    · exact Rd.nil
    · exact r40
    · exact r46
    all_goals exact Rd.nil
section
variable {u0 u1 u2 u3 u4 u5 u6 u7 u8 u9 u10 u11 u12 u13 u14 u15 u16 u17 u18 u19 u20 u21 u22 u23 u24 u25 u26 u27 u28 u29 u30 u31 u32 u33 u34 u35 u36 u37 u38 u39 u40 u41 u42 u43 u44 u45 u46 u47 u48 u49 u50 u51 u52 u53 u54 u55 u56 u57 u58 u59 u60 u61 u62 u63 u64 u65 u66 u67 u68 u69 u70 u71 u72 u73 u74 u75 u76 u77 u78 u79 u80 u81 u82 u83 u84 u85 u86 u87 u88 u89 u90 u91 u92 u93 u94 u95 u96 u97 u98 u99 u100 u101 u102 u103 u104 u105 u106 u107 u108 u109 u110 u111 u112 : Value}
set_option maxRecDepth 1000000 in
set_option maxHeartbeats 20000000 in
theorem t_0_2_40_46 {K : Act → World → Prop} {Q0 : Exit → Act → World → Prop} {g i k : Nat} {x y v : Int} {W : World}
    (hq : ∀ c a d v w, Exit.then K Q0 (.panic c) (Act.put a d v) w → Exit.then K Q0 (.panic c) a w) (hx : i64 x) (hy : i64 y) (hv1 : 0 ≤ v) (hv2 : v ≤ 18446744073709551615)
    (HK : Hid (KH K g i k W u0 u5 u6 u7 u8 u9 u10 u11 u12 u13 u14 u15 u16 u17 u82 u83 u84 u85 u86 u87 u88 u89 u90 u91 u92 u93 u94 u95 u96 u97 u98 u99 u100 u101 u102 u103 u104 u105 u106 u107 u108 u109 u110 u111 u112)) (v0 v2 v40 v46 : Value) (z : World) (gg : Below W.heap.size W z) (h0 : Hid (Gd z v0 3 [1, 2, 3])) (h2 : Hid (Gd z v2 66 (rowB 66))) (h40 : Hid (Gd z v40 3 [7, 8, 9])) (h46 : Hid (Gd z v46 1 [7])) :
    wpAnyH Try.prog .any ops8 (Exit.then K Q0) (fun z => Below W.heap.size W z) 2 #[true, true, true, true, true, true, true, true, true, true, true, true, true, true, true, true, true, true, true, true, true, true, true, true, true, true, true, true, true, true, true, true, true, true, true, true, true, true, true, true, true, true, true, true, true, true, true, true, true, true, true, true, true, true, true, true, true, true, true, true, true, true, true, false, false] ⟨#[u0, .slice (some ⟨g, 0, none⟩) 14 14, .int .i64 (i : Int), .int .i64 (k : Int), u4, u5, u6, u7, u8, u9, u10, u11, u12, u13, u14, u15, u16, u17, v0, (.agg #[.int .i64 0, .int .i64 0, .int .i64 0, .int .i64 0, .int .i64 0, .int .u64 0, v0]), v2, (.agg #[.int .i64 0, .int .i64 0, .int .i64 0, .int .i64 0, .int .i64 0, .int .u64 0, v2]), u22, u23, u24, u25, u26, u27, u28, u29, .agg #[.int .i64 1, .int .i64 2, .int .i64 x, .int .i64 y, .int .i64 0, .int .u64 0, .slice none 0 0], u31, u32, u33, u34, u35, u36, u37, u38, u39, u40, u41, u42, .agg #[.int .i64 2, .int .i64 2, .int .i64 x, .int .i64 y, .int .i64 y, .int .u64 9223372036854775885, .slice none 0 0], u44, u45, u46, u47, u48, u49, u50, u51, u52, .agg #[.int .i64 2, .int .i64 x, .int .i64 0, .int .i64 1, .int .i64 0, .int .u64 v, .slice none 0 0], u54, u55, u56, .int .i64 x, v40, u59, u60, u61, .int .i64 y, (.agg #[.int .i64 3, .int .i64 x, .int .i64 0, .int .i64 0, .int .i64 y, .int .u64 0, v40]), v46, (.agg #[.int .i64 3, .int .i64 1, .int .i64 0, .int .i64 0, .int .i64 0, .int .u64 0, v46]), u66, u67, u68, u69, .agg #[.int .i64 4, .int .i64 x, .int .i64 0, .int .i64 0, .int .i64 0, .int .u64 0, .slice none 0 0], u71, u72, u73, u74, .agg #[.int .i64 4, .int .i64 x, .int .i64 0, .int .i64 0, .int .i64 0, .int .u64 0, .slice none 0 0], .agg #[.int .i64 1, .int .i64 1, .int .i64 0, .int .i64 2, .int .i64 0, .int .u64 0, .slice none 0 0], .agg #[.int .i64 5, .int .i64 0, .int .i64 0, .int .i64 0, .int .i64 0, .int .u64 0, .slice none 0 0], .agg #[.int .i64 9, .int .i64 0, .int .i64 0, .int .i64 0, .int .i64 0, .int .u64 0, .slice none 0 0], .agg #[.int .i64 1, .int .i64 1, .int .i64 0, .int .i64 2, .int .i64 0, .int .u64 0, .slice none 0 0], .agg #[.int .i64 0, .int .i64 0, .int .i64 0, .int .i64 0, .int .i64 0, .int .u64 0, .slice none 0 0], u81, u82, u83, u84, u85, u86, u87, u88, u89, u90, u91, u92, u93, u94, u95, u96, u97, u98, u99, u100, u101, u102, u103, u104, u105, u106, u107, u108, u109, u110, u111, u112], []⟩ z := by
  obtain ⟨L, l1, l2, l3⟩ := ops_done z x y v hx hy hv1 hv2 v0 v2 v40 v46 h0.out h2.out h40.out h46.out
  have qb : Below z.heap.size z (z.alloc (.cells #[.int .i64 0, .int .i64 0, .int .i64 0, .int .i64 0, .int .i64 0, .int .u64 0, v0, .int .i64 0, .int .i64 0, .int .i64 0, .int .i64 0, .int .i64 0, .int .u64 0, v2, .int .i64 1, .int .i64 2, .int .i64 x, .int .i64 y, .int .i64 0, .int .u64 0, .slice none 0 0, .int .i64 2, .int .i64 2, .int .i64 x, .int .i64 y, .int .i64 y, .int .u64 9223372036854775885, .slice none 0 0, .int .i64 2, .int .i64 x, .int .i64 0, .int .i64 1, .int .i64 0, .int .u64 v, .slice none 0 0, .int .i64 3, .int .i64 x, .int .i64 0, .int .i64 0, .int .i64 y, .int .u64 0, v40, .int .i64 3, .int .i64 1, .int .i64 0, .int .i64 0, .int .i64 0, .int .u64 0, v46, .int .i64 4, .int .i64 x, .int .i64 0, .int .i64 0, .int .i64 0, .int .u64 0, .slice none 0 0, .int .i64 4, .int .i64 x, .int .i64 0, .int .i64 0, .int .i64 0, .int .u64 0, .slice none 0 0, .int .i64 1, .int .i64 1, .int .i64 0, .int .i64 2, .int .i64 0, .int .u64 0, .slice none 0 0, .int .i64 5, .int .i64 0, .int .i64 0, .int .i64 0, .int .i64 0, .int .u64 0, .slice none 0 0, .int .i64 9, .int .i64 0, .int .i64 0, .int .i64 0, .int .i64 0, .int .u64 0, .slice none 0 0, .int .i64 1, .int .i64 1, .int .i64 0, .int .i64 2, .int .i64 0, .int .u64 0, .slice none 0 0, .int .i64 0, .int .i64 0, .int .i64 0, .int .i64 0, .int .i64 0, .int .u64 0, .slice none 0 0] 33)) := (Below.refl _ _).alloc (Nat.le_refl _) _
  have HL3 := Lib.hid l3
  clear l3
  refine tc 63 rfl (by kernel_rfl) (fun K9 hK => ?_)
  go_simp
  generalize (z.alloc (.cells #[.int .i64 0, .int .i64 0, .int .i64 0, .int .i64 0, .int .i64 0, .int .u64 0, v0, .int .i64 0, .int .i64 0, .int .i64 0, .int .i64 0, .int .i64 0, .int .u64 0, v2, .int .i64 1, .int .i64 2, .int .i64 x, .int .i64 y, .int .i64 0, .int .u64 0, .slice none 0 0, .int .i64 2, .int .i64 2, .int .i64 x, .int .i64 y, .int .i64 y, .int .u64 9223372036854775885, .slice none 0 0, .int .i64 2, .int .i64 x, .int .i64 0, .int .i64 1, .int .i64 0, .int .u64 v, .slice none 0 0, .int .i64 3, .int .i64 x, .int .i64 0, .int .i64 0, .int .i64 y, .int .u64 0, v40, .int .i64 3, .int .i64 1, .int .i64 0, .int .i64 0, .int .i64 0, .int .u64 0, v46, .int .i64 4, .int .i64 x, .int .i64 0, .int .i64 0, .int .i64 0, .int .u64 0, .slice none 0 0, .int .i64 4, .int .i64 x, .int .i64 0, .int .i64 0, .int .i64 0, .int .u64 0, .slice none 0 0, .int .i64 1, .int .i64 1, .int .i64 0, .int .i64 2, .int .i64 0, .int .u64 0, .slice none 0 0, .int .i64 5, .int .i64 0, .int .i64 0, .int .i64 0, .int .i64 0, .int .u64 0, .slice none 0 0, .int .i64 9, .int .i64 0, .int .i64 0, .int .i64 0, .int .i64 0, .int .u64 0, .slice none 0 0, .int .i64 1, .int .i64 1, .int .i64 0, .int .i64 2, .int .i64 0, .int .u64 0, .slice none 0 0, .int .i64 0, .int .i64 0, .int .i64 0, .int .i64 0, .int .i64 0, .int .u64 0, .slice none 0 0] 33)) = z1 at *
  refine hK.out _ _ (gg.trans (qb.mono gg.size)) (fun g1 => ?_)
  clear hK K9 gg qb
  have gg := g1
  clear g1
  simp only [Act.put, ptA, ptB, ptC]
  refine tq 64 ?_ rfl (by kernel_rfl) (fun c a w h => hq c a _ _ w h) (by rfl) gg ?_ ?_; rotate_left
  · intro w9 h9; go_simp; try with_reducible rfl
  simp only [Act.put, ptA, ptB, ptC]
  refine wpAnyH_done (by kernel_rfl) ?_ _
  exact HK.out _ _ _ _ _ _ _ _ _ _ _ _ _ _ _ _ _ _ _ _ _ _ _ _ _ _ _ _ _ _ _ _ _ _ _ _ _ _ _ _ _ _ _ _ _ _ _ _ _ _ _ _ _ _ _ _ _ _ _ _ _ _ _ _ _ L z1 gg l1 l2 HL3.out
set_option maxRecDepth 1000000 in
set_option maxHeartbeats 20000000 in
theorem t_0_2_40 {K : Act → World → Prop} {Q0 : Exit → Act → World → Prop} {g i k : Nat} {x y v : Int} {W : World}
    (hq : ∀ c a d v w, Exit.then K Q0 (.panic c) (Act.put a d v) w → Exit.then K Q0 (.panic c) a w) (hx : i64 x) (hy : i64 y) (hv1 : 0 ≤ v) (hv2 : v ≤ 18446744073709551615)
    (HK : Hid (KH K g i k W u0 u5 u6 u7 u8 u9 u10 u11 u12 u13 u14 u15 u16 u17 u82 u83 u84 u85 u86 u87 u88 u89 u90 u91 u92 u93 u94 u95 u96 u97 u98 u99 u100 u101 u102 u103 u104 u105 u106 u107 u108 u109 u110 u111 u112)) (v0 v2 v40 : Value) (z : World) (gg : Below W.heap.size W z) (h0 : Hid (Gd z v0 3 [1, 2, 3])) (h2 : Hid (Gd z v2 66 (rowB 66))) (h40 : Hid (Gd z v40 3 [7, 8, 9])) :
    wpAnyH Try.prog .any ops8 (Exit.then K Q0) (fun z => Below W.heap.size W z) 4 #[true, true, true, true, true, true, true, true, true, true, true, true, true, true, true, true, true, true, true, true, true, true, true, true, true, true, true, true, true, true, true, true, true, true, true, true, true, true, true, true, true, true, true, true, true, true, false, false, true, true, true, true, true, true, true, true, true, true, true, true, true, true, true, false, false] ⟨#[u0, .slice (some ⟨g, 0, none⟩) 14 14, .int .i64 (i : Int), .int .i64 (k : Int), u4, u5, u6, u7, u8, u9, u10, u11, u12, u13, u14, u15, u16, u17, v0, (.agg #[.int .i64 0, .int .i64 0, .int .i64 0, .int .i64 0, .int .i64 0, .int .u64 0, v0]), v2, (.agg #[.int .i64 0, .int .i64 0, .int .i64 0, .int .i64 0, .int .i64 0, .int .u64 0, v2]), u22, u23, u24, u25, u26, u27, u28, u29, .agg #[.int .i64 1, .int .i64 2, .int .i64 x, .int .i64 y, .int .i64 0, .int .u64 0, .slice none 0 0], u31, u32, u33, u34, u35, u36, u37, u38, u39, u40, u41, u42, .agg #[.int .i64 2, .int .i64 2, .int .i64 x, .int .i64 y, .int .i64 y, .int .u64 9223372036854775885, .slice none 0 0], u44, u45, u46, u47, u48, u49, u50, u51, u52, .agg #[.int .i64 2, .int .i64 x, .int .i64 0, .int .i64 1, .int .i64 0, .int .u64 v, .slice none 0 0], u54, u55, u56, .int .i64 x, v40, u59, u60, u61, .int .i64 y, (.agg #[.int .i64 3, .int .i64 x, .int .i64 0, .int .i64 0, .int .i64 y, .int .u64 0, v40]), u64, u65, u66, u67, u68, u69, .agg #[.int .i64 4, .int .i64 x, .int .i64 0, .int .i64 0, .int .i64 0, .int .u64 0, .slice none 0 0], u71, u72, u73, u74, .agg #[.int .i64 4, .int .i64 x, .int .i64 0, .int .i64 0, .int .i64 0, .int .u64 0, .slice none 0 0], .agg #[.int .i64 1, .int .i64 1, .int .i64 0, .int .i64 2, .int .i64 0, .int .u64 0, .slice none 0 0], .agg #[.int .i64 5, .int .i64 0, .int .i64 0, .int .i64 0, .int .i64 0, .int .u64 0, .slice none 0 0], .agg #[.int .i64 9, .int .i64 0, .int .i64 0, .int .i64 0, .int .i64 0, .int .u64 0, .slice none 0 0], .agg #[.int .i64 1, .int .i64 1, .int .i64 0, .int .i64 2, .int .i64 0, .int .u64 0, .slice none 0 0], .agg #[.int .i64 0, .int .i64 0, .int .i64 0, .int .i64 0, .int .i64 0, .int .u64 0, .slice none 0 0], u81, u82, u83, u84, u85, u86, u87, u88, u89, u90, u91, u92, u93, u94, u95, u96, u97, u98, u99, u100, u101, u102, u103, u104, u105, u106, u107, u108, u109, u110, u111, u112], []⟩ z := by
  refine tc 46 rfl (by kernel_rfl) (fun K9 hK => ?_)
  have qb : Below z.heap.size z (z.alloc (.cells #[.int .u8 7] 5)) := (Below.refl _ _).alloc (Nat.le_refl _) _
  have h46 := Lib.hid (gd_lit z 1 [7] #[.int .u8 7] 5 rfl (by omega))
  have h0 := Lib.hid (h0.out.grow qb)
  have h2 := Lib.hid (h2.out.grow qb)
  have h40 := Lib.hid (h40.out.grow qb)
  have gg2 := gg.trans (qb.mono gg.size)
  clear qb gg
  go_simp
  generalize (z.alloc (.cells #[.int .u8 7] 5)) = z1 at *
  generalize z.heap.size = zb at *
  refine hK.out _ _ gg2 (fun gg => ?_)
  clear hK K9 gg2
  simp only [Act.put, ptA, ptB, ptC]
  refine tq 47 ?_ rfl (by kernel_rfl) (fun c a w h => hq c a _ _ w h) (by rfl) gg ?_ ?_; rotate_left
  · intro w9 h9; go_simp; try with_reducible rfl
  simp only [Act.put, ptA, ptB, ptC]
  refine cvl (l' := #[true, true, true, true, true, true, true, true, true, true, true, true, true, true, true, true, true, true, true, true, true, true, true, true, true, true, true, true, true, true, true, true, true, true, true, true, true, true, true, true, true, true, true, true, true, true, true, true, true, true, true, true, true, true, true, true, true, true, true, true, true, true, true, false, false]) (by kernel_rfl) ?_
  exact t_0_2_40_46 hq hx hy hv1 hv2 HK _ _ _ _ z1 gg h0 h2 h40 h46
set_option maxRecDepth 1000000 in
set_option maxHeartbeats 20000000 in
theorem t_0_2_46 {K : Act → World → Prop} {Q0 : Exit → Act → World → Prop} {g i k : Nat} {x y v : Int} {W : World}
    (hq : ∀ c a d v w, Exit.then K Q0 (.panic c) (Act.put a d v) w → Exit.then K Q0 (.panic c) a w) (hx : i64 x) (hy : i64 y) (hv1 : 0 ≤ v) (hv2 : v ≤ 18446744073709551615)
    (HK : Hid (KH K g i k W u0 u5 u6 u7 u8 u9 u10 u11 u12 u13 u14 u15 u16 u17 u82 u83 u84 u85 u86 u87 u88 u89 u90 u91 u92 u93 u94 u95 u96 u97 u98 u99 u100 u101 u102 u103 u104 u105 u106 u107 u108 u109 u110 u111 u112)) (v0 v2 v46 : Value) (z : World) (gg : Below W.heap.size W z) (h0 : Hid (Gd z v0 3 [1, 2, 3])) (h2 : Hid (Gd z v2 66 (rowB 66))) (h46 : Hid (Gd z v46 1 [7])) :
    wpAnyH Try.prog .any ops8 (Exit.then K Q0) (fun z => Below W.heap.size W z) 4 #[true, true, true, true, true, true, true, true, true, true, true, true, true, true, true, true, true, true, true, true, true, true, true, true, true, true, true, true, true, true, true, true, true, true, true, true, true, true, true, true, false, true, true, true, true, false, true, true, true, true, true, true, true, true, true, true, true, true, true, true, true, true, true, false, false] ⟨#[u0, .slice (some ⟨g, 0, none⟩) 14 14, .int .i64 (i : Int), .int .i64 (k : Int), u4, u5, u6, u7, u8, u9, u10, u11, u12, u13, u14, u15, u16, u17, v0, (.agg #[.int .i64 0, .int .i64 0, .int .i64 0, .int .i64 0, .int .i64 0, .int .u64 0, v0]), v2, (.agg #[.int .i64 0, .int .i64 0, .int .i64 0, .int .i64 0, .int .i64 0, .int .u64 0, v2]), u22, u23, u24, u25, u26, u27, u28, u29, .agg #[.int .i64 1, .int .i64 2, .int .i64 x, .int .i64 y, .int .i64 0, .int .u64 0, .slice none 0 0], u31, u32, u33, u34, u35, u36, u37, u38, u39, u40, u41, u42, .agg #[.int .i64 2, .int .i64 2, .int .i64 x, .int .i64 y, .int .i64 y, .int .u64 9223372036854775885, .slice none 0 0], u44, u45, u46, u47, u48, u49, u50, u51, u52, .agg #[.int .i64 2, .int .i64 x, .int .i64 0, .int .i64 1, .int .i64 0, .int .u64 v, .slice none 0 0], u54, u55, u56, .int .i64 x, u58, u59, u60, u61, .int .i64 y, u63, v46, (.agg #[.int .i64 3, .int .i64 1, .int .i64 0, .int .i64 0, .int .i64 0, .int .u64 0, v46]), u66, u67, u68, u69, .agg #[.int .i64 4, .int .i64 x, .int .i64 0, .int .i64 0, .int .i64 0, .int .u64 0, .slice none 0 0], u71, u72, u73, u74, .agg #[.int .i64 4, .int .i64 x, .int .i64 0, .int .i64 0, .int .i64 0, .int .u64 0, .slice none 0 0], .agg #[.int .i64 1, .int .i64 1, .int .i64 0, .int .i64 2, .int .i64 0, .int .u64 0, .slice none 0 0], .agg #[.int .i64 5, .int .i64 0, .int .i64 0, .int .i64 0, .int .i64 0, .int .u64 0, .slice none 0 0], .agg #[.int .i64 9, .int .i64 0, .int .i64 0, .int .i64 0, .int .i64 0, .int .u64 0, .slice none 0 0], .agg #[.int .i64 1, .int .i64 1, .int .i64 0, .int .i64 2, .int .i64 0, .int .u64 0, .slice none 0 0], .agg #[.int .i64 0, .int .i64 0, .int .i64 0, .int .i64 0, .int .i64 0, .int .u64 0, .slice none 0 0], u81, u82, u83, u84, u85, u86, u87, u88, u89, u90, u91, u92, u93, u94, u95, u96, u97, u98, u99, u100, u101, u102, u103, u104, u105, u106, u107, u108, u109, u110, u111, u112], []⟩ z := by
  refine tc 40 rfl (by kernel_rfl) (fun K9 hK => ?_)
  have qb : Below z.heap.size z (z.alloc (.cells #[.int .u8 7, .int .u8 8, .int .u8 9] 5)) := (Below.refl _ _).alloc (Nat.le_refl _) _
  have h40 := Lib.hid (gd_lit z 3 [7, 8, 9] #[.int .u8 7, .int .u8 8, .int .u8 9] 5 rfl (by omega))
  have h0 := Lib.hid (h0.out.grow qb)
  have h2 := Lib.hid (h2.out.grow qb)
  have h46 := Lib.hid (h46.out.grow qb)
  have gg2 := gg.trans (qb.mono gg.size)
  clear qb gg
  go_simp
  generalize (z.alloc (.cells #[.int .u8 7, .int .u8 8, .int .u8 9] 5)) = z1 at *
  generalize z.heap.size = zb at *
  refine hK.out _ _ gg2 (fun gg => ?_)
  clear hK K9 gg2
  simp only [Act.put, ptA, ptB, ptC]
  refine tq 45 ?_ rfl (by kernel_rfl) (fun c a w h => hq c a _ _ w h) (by rfl) gg ?_ ?_; rotate_left
  · intro w9 h9; go_simp; try with_reducible rfl
  simp only [Act.put, ptA, ptB, ptC]
  refine cvl (l' := #[true, true, true, true, true, true, true, true, true, true, true, true, true, true, true, true, true, true, true, true, true, true, true, true, true, true, true, true, true, true, true, true, true, true, true, true, true, true, true, true, true, true, true, true, true, true, true, true, true, true, true, true, true, true, true, true, true, true, true, true, true, true, true, false, false]) (by kernel_rfl) ?_
  exact t_0_2_40_46 hq hx hy hv1 hv2 HK _ _ _ _ z1 gg h0 h2 h40 h46
set_option maxRecDepth 1000000 in
set_option maxHeartbeats 20000000 in
theorem t_0_40_46 {K : Act → World → Prop} {Q0 : Exit → Act → World → Prop} {g i k : Nat} {x y v : Int} {W : World}
    (hq : ∀ c a d v w, Exit.then K Q0 (.panic c) (Act.put a d v) w → Exit.then K Q0 (.panic c) a w) (hx : i64 x) (hy : i64 y) (hv1 : 0 ≤ v) (hv2 : v ≤ 18446744073709551615)
    (HK : Hid (KH K g i k W u0 u5 u6 u7 u8 u9 u10 u11 u12 u13 u14 u15 u16 u17 u82 u83 u84 u85 u86 u87 u88 u89 u90 u91 u92 u93 u94 u95 u96 u97 u98 u99 u100 u101 u102 u103 u104 u105 u106 u107 u108 u109 u110 u111 u112)) (v0 v40 v46 : Value) (z : World) (gg : Below W.heap.size W z) (h0 : Hid (Gd z v0 3 [1, 2, 3])) (h40 : Hid (Gd z v40 3 [7, 8, 9])) (h46 : Hid (Gd z v46 1 [7])) :
    wpAnyH Try.prog .any ops8 (Exit.then K Q0) (fun z => Below W.heap.size W z) 4 #[true, true, false, false, true, true, true, true, true, true, true, true, true, true, true, true, true, true, true, true, true, true, true, true, true, true, true, true, true, true, true, true, true, true, true, true, true, true, true, true, true, true, true, true, true, true, true, true, true, true, true, true, true, true, true, true, true, true, true, true, true, true, true, false, false] ⟨#[u0, .slice (some ⟨g, 0, none⟩) 14 14, .int .i64 (i : Int), .int .i64 (k : Int), u4, u5, u6, u7, u8, u9, u10, u11, u12, u13, u14, u15, u16, u17, v0, (.agg #[.int .i64 0, .int .i64 0, .int .i64 0, .int .i64 0, .int .i64 0, .int .u64 0, v0]), u20, u21, u22, u23, u24, u25, u26, u27, u28, u29, .agg #[.int .i64 1, .int .i64 2, .int .i64 x, .int .i64 y, .int .i64 0, .int .u64 0, .slice none 0 0], u31, u32, u33, u34, u35, u36, u37, u38, u39, u40, u41, u42, .agg #[.int .i64 2, .int .i64 2, .int .i64 x, .int .i64 y, .int .i64 y, .int .u64 9223372036854775885, .slice none 0 0], u44, u45, u46, u47, u48, u49, u50, u51, u52, .agg #[.int .i64 2, .int .i64 x, .int .i64 0, .int .i64 1, .int .i64 0, .int .u64 v, .slice none 0 0], u54, u55, u56, .int .i64 x, v40, u59, u60, u61, .int .i64 y, (.agg #[.int .i64 3, .int .i64 x, .int .i64 0, .int .i64 0, .int .i64 y, .int .u64 0, v40]), v46, (.agg #[.int .i64 3, .int .i64 1, .int .i64 0, .int .i64 0, .int .i64 0, .int .u64 0, v46]), u66, u67, u68, u69, .agg #[.int .i64 4, .int .i64 x, .int .i64 0, .int .i64 0, .int .i64 0, .int .u64 0, .slice none 0 0], u71, u72, u73, u74, .agg #[.int .i64 4, .int .i64 x, .int .i64 0, .int .i64 0, .int .i64 0, .int .u64 0, .slice none 0 0], .agg #[.int .i64 1, .int .i64 1, .int .i64 0, .int .i64 2, .int .i64 0, .int .u64 0, .slice none 0 0], .agg #[.int .i64 5, .int .i64 0, .int .i64 0, .int .i64 0, .int .i64 0, .int .u64 0, .slice none 0 0], .agg #[.int .i64 9, .int .i64 0, .int .i64 0, .int .i64 0, .int .i64 0, .int .u64 0, .slice none 0 0], .agg #[.int .i64 1, .int .i64 1, .int .i64 0, .int .i64 2, .int .i64 0, .int .u64 0, .slice none 0 0], .agg #[.int .i64 0, .int .i64 0, .int .i64 0, .int .i64 0, .int .i64 0, .int .u64 0, .slice none 0 0], u81, u82, u83, u84, u85, u86, u87, u88, u89, u90, u91, u92, u93, u94, u95, u96, u97, u98, u99, u100, u101, u102, u103, u104, u105, u106, u107, u108, u109, u110, u111, u112], []⟩ z := by
  refine tc 2 rfl (by kernel_rfl) (fun K9 hK => ?_)
  go_simp
  with_reducible refine (row66 _).mono ?_
  rintro e z1 ⟨v2, rfl, q1⟩
  have qb := q1.below
  have h2 := Lib.hid (gd_own q1 (rowB_len 66) (by omega))
  have h0 := Lib.hid (h0.out.grow qb)
  have h40 := Lib.hid (h40.out.grow qb)
  have h46 := Lib.hid (h46.out.grow qb)
  have gg2 := gg.trans (qb.mono gg.size)
  clear qb gg
  obtain ⟨a2, c2, rfl, _, _, _, _⟩ := h2.out
  go_simp
  refine hK.out _ _ gg2 (fun gg => ?_)
  clear hK K9 gg2
  simp only [Act.put, ptA, ptB, ptC]
  refine tq 3 ?_ rfl (by kernel_rfl) (fun c a w h => hq c a _ _ w h) (by rfl) gg ?_ ?_; rotate_left
  · intro w9 h9; go_simp; try with_reducible rfl
  simp only [Act.put, ptA, ptB, ptC]
  refine cvl (l' := #[true, true, true, true, true, true, true, true, true, true, true, true, true, true, true, true, true, true, true, true, true, true, true, true, true, true, true, true, true, true, true, true, true, true, true, true, true, true, true, true, true, true, true, true, true, true, true, true, true, true, true, true, true, true, true, true, true, true, true, true, true, true, true, false, false]) (by kernel_rfl) ?_
  exact t_0_2_40_46 hq hx hy hv1 hv2 HK _ _ _ _ z1 gg h0 h2 h40 h46
set_option maxRecDepth 1000000 in
set_option maxHeartbeats 20000000 in
theorem t_2_40_46 {K : Act → World → Prop} {Q0 : Exit → Act → World → Prop} {g i k : Nat} {x y v : Int} {W : World}
    (hq : ∀ c a d v w, Exit.then K Q0 (.panic c) (Act.put a d v) w → Exit.then K Q0 (.panic c) a w) (hx : i64 x) (hy : i64 y) (hv1 : 0 ≤ v) (hv2 : v ≤ 18446744073709551615)
    (HK : Hid (KH K g i k W u0 u5 u6 u7 u8 u9 u10 u11 u12 u13 u14 u15 u16 u17 u82 u83 u84 u85 u86 u87 u88 u89 u90 u91 u92 u93 u94 u95 u96 u97 u98 u99 u100 u101 u102 u103 u104 u105 u106 u107 u108 u109 u110 u111 u112)) (v2 v40 v46 : Value) (z : World) (gg : Below W.heap.size W z) (h2 : Hid (Gd z v2 66 (rowB 66))) (h40 : Hid (Gd z v40 3 [7, 8, 9])) (h46 : Hid (Gd z v46 1 [7])) :
    wpAnyH Try.prog .any ops8 (Exit.then K Q0) (fun z => Below W.heap.size W z) 4 #[false, false, true, true, true, true, true, true, true, true, true, true, true, true, true, true, true, true, true, true, true, true, true, true, true, true, true, true, true, true, true, true, true, true, true, true, true, true, true, true, true, true, true, true, true, true, true, true, true, true, true, true, true, true, true, true, true, true, true, true, true, true, true, false, false] ⟨#[u0, .slice (some ⟨g, 0, none⟩) 14 14, .int .i64 (i : Int), .int .i64 (k : Int), u4, u5, u6, u7, u8, u9, u10, u11, u12, u13, u14, u15, u16, u17, u18, u19, v2, (.agg #[.int .i64 0, .int .i64 0, .int .i64 0, .int .i64 0, .int .i64 0, .int .u64 0, v2]), u22, u23, u24, u25, u26, u27, u28, u29, .agg #[.int .i64 1, .int .i64 2, .int .i64 x, .int .i64 y, .int .i64 0, .int .u64 0, .slice none 0 0], u31, u32, u33, u34, u35, u36, u37, u38, u39, u40, u41, u42, .agg #[.int .i64 2, .int .i64 2, .int .i64 x, .int .i64 y, .int .i64 y, .int .u64 9223372036854775885, .slice none 0 0], u44, u45, u46, u47, u48, u49, u50, u51, u52, .agg #[.int .i64 2, .int .i64 x, .int .i64 0, .int .i64 1, .int .i64 0, .int .u64 v, .slice none 0 0], u54, u55, u56, .int .i64 x, v40, u59, u60, u61, .int .i64 y, (.agg #[.int .i64 3, .int .i64 x, .int .i64 0, .int .i64 0, .int .i64 y, .int .u64 0, v40]), v46, (.agg #[.int .i64 3, .int .i64 1, .int .i64 0, .int .i64 0, .int .i64 0, .int .u64 0, v46]), u66, u67, u68, u69, .agg #[.int .i64 4, .int .i64 x, .int .i64 0, .int .i64 0, .int .i64 0, .int .u64 0, .slice none 0 0], u71, u72, u73, u74, .agg #[.int .i64 4, .int .i64 x, .int .i64 0, .int .i64 0, .int .i64 0, .int .u64 0, .slice none 0 0], .agg #[.int .i64 1, .int .i64 1, .int .i64 0, .int .i64 2, .int .i64 0, .int .u64 0, .slice none 0 0], .agg #[.int .i64 5, .int .i64 0, .int .i64 0, .int .i64 0, .int .i64 0, .int .u64 0, .slice none 0 0], .agg #[.int .i64 9, .int .i64 0, .int .i64 0, .int .i64 0, .int .i64 0, .int .u64 0, .slice none 0 0], .agg #[.int .i64 1, .int .i64 1, .int .i64 0, .int .i64 2, .int .i64 0, .int .u64 0, .slice none 0 0], .agg #[.int .i64 0, .int .i64 0, .int .i64 0, .int .i64 0, .int .i64 0, .int .u64 0, .slice none 0 0], u81, u82, u83, u84, u85, u86, u87, u88, u89, u90, u91, u92, u93, u94, u95, u96, u97, u98, u99, u100, u101, u102, u103, u104, u105, u106, u107, u108, u109, u110, u111, u112], []⟩ z := by
  refine tc 0 rfl (by kernel_rfl) (fun K9 hK => ?_)
  have qb : Below z.heap.size z (z.alloc (.cells #[.int .u8 1, .int .u8 2, .int .u8 3] 5)) := (Below.refl _ _).alloc (Nat.le_refl _) _
  have h0 := Lib.hid (gd_lit z 3 [1, 2, 3] #[.int .u8 1, .int .u8 2, .int .u8 3] 5 rfl (by omega))
  have h2 := Lib.hid (h2.out.grow qb)
  have h40 := Lib.hid (h40.out.grow qb)
  have h46 := Lib.hid (h46.out.grow qb)
  have gg2 := gg.trans (qb.mono gg.size)
  clear qb gg
  go_simp
  generalize (z.alloc (.cells #[.int .u8 1, .int .u8 2, .int .u8 3] 5)) = z1 at *
  generalize z.heap.size = zb at *
  refine hK.out _ _ gg2 (fun gg => ?_)
  clear hK K9 gg2
  simp only [Act.put, ptA, ptB, ptC]
  refine tq 1 ?_ rfl (by kernel_rfl) (fun c a w h => hq c a _ _ w h) (by rfl) gg ?_ ?_; rotate_left
  · intro w9 h9; go_simp; try with_reducible rfl
  simp only [Act.put, ptA, ptB, ptC]
  refine cvl (l' := #[true, true, true, true, true, true, true, true, true, true, true, true, true, true, true, true, true, true, true, true, true, true, true, true, true, true, true, true, true, true, true, true, true, true, true, true, true, true, true, true, true, true, true, true, true, true, true, true, true, true, true, true, true, true, true, true, true, true, true, true, true, true, true, false, false]) (by kernel_rfl) ?_
  exact t_0_2_40_46 hq hx hy hv1 hv2 HK _ _ _ _ z1 gg h0 h2 h40 h46
set_option maxRecDepth 1000000 in
set_option maxHeartbeats 20000000 in
theorem t_0_2 {K : Act → World → Prop} {Q0 : Exit → Act → World → Prop} {g i k : Nat} {x y v : Int} {W : World}
    (hq : ∀ c a d v w, Exit.then K Q0 (.panic c) (Act.put a d v) w → Exit.then K Q0 (.panic c) a w) (hx : i64 x) (hy : i64 y) (hv1 : 0 ≤ v) (hv2 : v ≤ 18446744073709551615)
    (HK : Hid (KH K g i k W u0 u5 u6 u7 u8 u9 u10 u11 u12 u13 u14 u15 u16 u17 u82 u83 u84 u85 u86 u87 u88 u89 u90 u91 u92 u93 u94 u95 u96 u97 u98 u99 u100 u101 u102 u103 u104 u105 u106 u107 u108 u109 u110 u111 u112)) (v0 v2 : Value) (z : World) (gg : Below W.heap.size W z) (h0 : Hid (Gd z v0 3 [1, 2, 3])) (h2 : Hid (Gd z v2 66 (rowB 66))) :
    wpAnyH Try.prog .any ops8 (Exit.then K Q0) (fun z => Below W.heap.size W z) 6 #[true, true, true, true, true, true, true, true, true, true, true, true, true, true, true, true, true, true, true, true, true, true, true, true, true, true, true, true, true, true, true, true, true, true, true, true, true, true, true, true, false, true, true, true, true, false, false, false, true, true, true, true, true, true, true, true, true, true, true, true, true, true, true, false, false] ⟨#[u0, .slice (some ⟨g, 0, none⟩) 14 14, .int .i64 (i : Int), .int .i64 (k : Int), u4, u5, u6, u7, u8, u9, u10, u11, u12, u13, u14, u15, u16, u17, v0, (.agg #[.int .i64 0, .int .i64 0, .int .i64 0, .int .i64 0, .int .i64 0, .int .u64 0, v0]), v2, (.agg #[.int .i64 0, .int .i64 0, .int .i64 0, .int .i64 0, .int .i64 0, .int .u64 0, v2]), u22, u23, u24, u25, u26, u27, u28, u29, .agg #[.int .i64 1, .int .i64 2, .int .i64 x, .int .i64 y, .int .i64 0, .int .u64 0, .slice none 0 0], u31, u32, u33, u34, u35, u36, u37, u38, u39, u40, u41, u42, .agg #[.int .i64 2, .int .i64 2, .int .i64 x, .int .i64 y, .int .i64 y, .int .u64 9223372036854775885, .slice none 0 0], u44, u45, u46, u47, u48, u49, u50, u51, u52, .agg #[.int .i64 2, .int .i64 x, .int .i64 0, .int .i64 1, .int .i64 0, .int .u64 v, .slice none 0 0], u54, u55, u56, .int .i64 x, u58, u59, u60, u61, .int .i64 y, u63, u64, u65, u66, u67, u68, u69, .agg #[.int .i64 4, .int .i64 x, .int .i64 0, .int .i64 0, .int .i64 0, .int .u64 0, .slice none 0 0], u71, u72, u73, u74, .agg #[.int .i64 4, .int .i64 x, .int .i64 0, .int .i64 0, .int .i64 0, .int .u64 0, .slice none 0 0], .agg #[.int .i64 1, .int .i64 1, .int .i64 0, .int .i64 2, .int .i64 0, .int .u64 0, .slice none 0 0], .agg #[.int .i64 5, .int .i64 0, .int .i64 0, .int .i64 0, .int .i64 0, .int .u64 0, .slice none 0 0], .agg #[.int .i64 9, .int .i64 0, .int .i64 0, .int .i64 0, .int .i64 0, .int .u64 0, .slice none 0 0], .agg #[.int .i64 1, .int .i64 1, .int .i64 0, .int .i64 2, .int .i64 0, .int .u64 0, .slice none 0 0], .agg #[.int .i64 0, .int .i64 0, .int .i64 0, .int .i64 0, .int .i64 0, .int .u64 0, .slice none 0 0], u81, u82, u83, u84, u85, u86, u87, u88, u89, u90, u91, u92, u93, u94, u95, u96, u97, u98, u99, u100, u101, u102, u103, u104, u105, u106, u107, u108, u109, u110, u111, u112], []⟩ z := by
  refine wpAnyH_ready (rs := [40, 46]) (by kernel_rfl) (by simp) (tr 40 rfl (fun K9 hK => ?_) (tr 46 rfl (fun K9 hK => ?_) AllReadyH.nil))
  · have qb : Below z.heap.size z (z.alloc (.cells #[.int .u8 7, .int .u8 8, .int .u8 9] 5)) := (Below.refl _ _).alloc (Nat.le_refl _) _
    have h40 := Lib.hid (gd_lit z 3 [7, 8, 9] #[.int .u8 7, .int .u8 8, .int .u8 9] 5 rfl (by omega))
    have h0 := Lib.hid (h0.out.grow qb)
    have h2 := Lib.hid (h2.out.grow qb)
    have gg2 := gg.trans (qb.mono gg.size)
    clear qb gg
    go_simp
    generalize (z.alloc (.cells #[.int .u8 7, .int .u8 8, .int .u8 9] 5)) = z1 at *
    generalize z.heap.size = zb at *
    refine hK.out _ _ gg2 (fun gg => ?_)
    clear hK K9 gg2
    simp only [Act.put, ptA, ptB, ptC]
    refine tq 45 ?_ rfl (by kernel_rfl) (fun c a w h => hq c a _ _ w h) (by rfl) gg ?_ ?_; rotate_left
    · intro w9 h9; go_simp; try with_reducible rfl
    simp only [Act.put, ptA, ptB, ptC]
    refine cvl (l' := #[true, true, true, true, true, true, true, true, true, true, true, true, true, true, true, true, true, true, true, true, true, true, true, true, true, true, true, true, true, true, true, true, true, true, true, true, true, true, true, true, true, true, true, true, true, true, false, false, true, true, true, true, true, true, true, true, true, true, true, true, true, true, true, false, false]) (by kernel_rfl) ?_
    exact t_0_2_40 hq hx hy hv1 hv2 HK _ _ _ z1 gg h0 h2 h40
  · have qb : Below z.heap.size z (z.alloc (.cells #[.int .u8 7] 5)) := (Below.refl _ _).alloc (Nat.le_refl _) _
    have h46 := Lib.hid (gd_lit z 1 [7] #[.int .u8 7] 5 rfl (by omega))
    have h0 := Lib.hid (h0.out.grow qb)
    have h2 := Lib.hid (h2.out.grow qb)
    have gg2 := gg.trans (qb.mono gg.size)
    clear qb gg
    go_simp
    generalize (z.alloc (.cells #[.int .u8 7] 5)) = z1 at *
    generalize z.heap.size = zb at *
    refine hK.out _ _ gg2 (fun gg => ?_)
    clear hK K9 gg2
    simp only [Act.put, ptA, ptB, ptC]
    refine tq 47 ?_ rfl (by kernel_rfl) (fun c a w h => hq c a _ _ w h) (by rfl) gg ?_ ?_; rotate_left
    · intro w9 h9; go_simp; try with_reducible rfl
    simp only [Act.put, ptA, ptB, ptC]
    refine cvl (l' := #[true, true, true, true, true, true, true, true, true, true, true, true, true, true, true, true, true, true, true, true, true, true, true, true, true, true, true, true, true, true, true, true, true, true, true, true, true, true, true, true, false, true, true, true, true, false, true, true, true, true, true, true, true, true, true, true, true, true, true, true, true, true, true, false, false]) (by kernel_rfl) ?_
    exact t_0_2_46 hq hx hy hv1 hv2 HK _ _ _ z1 gg h0 h2 h46
set_option maxRecDepth 1000000 in
set_option maxHeartbeats 20000000 in
theorem t_0_40 {K : Act → World → Prop} {Q0 : Exit → Act → World → Prop} {g i k : Nat} {x y v : Int} {W : World}
    (hq : ∀ c a d v w, Exit.then K Q0 (.panic c) (Act.put a d v) w → Exit.then K Q0 (.panic c) a w) (hx : i64 x) (hy : i64 y) (hv1 : 0 ≤ v) (hv2 : v ≤ 18446744073709551615)
    (HK : Hid (KH K g i k W u0 u5 u6 u7 u8 u9 u10 u11 u12 u13 u14 u15 u16 u17 u82 u83 u84 u85 u86 u87 u88 u89 u90 u91 u92 u93 u94 u95 u96 u97 u98 u99 u100 u101 u102 u103 u104 u105 u106 u107 u108 u109 u110 u111 u112)) (v0 v40 : Value) (z : World) (gg : Below W.heap.size W z) (h0 : Hid (Gd z v0 3 [1, 2, 3])) (h40 : Hid (Gd z v40 3 [7, 8, 9])) :
    wpAnyH Try.prog .any ops8 (Exit.then K Q0) (fun z => Below W.heap.size W z) 6 #[true, true, false, false, true, true, true, true, true, true, true, true, true, true, true, true, true, true, true, true, true, true, true, true, true, true, true, true, true, true, true, true, true, true, true, true, true, true, true, true, true, true, true, true, true, true, false, false, true, true, true, true, true, true, true, true, true, true, true, true, true, true, true, false, false] ⟨#[u0, .slice (some ⟨g, 0, none⟩) 14 14, .int .i64 (i : Int), .int .i64 (k : Int), u4, u5, u6, u7, u8, u9, u10, u11, u12, u13, u14, u15, u16, u17, v0, (.agg #[.int .i64 0, .int .i64 0, .int .i64 0, .int .i64 0, .int .i64 0, .int .u64 0, v0]), u20, u21, u22, u23, u24, u25, u26, u27, u28, u29, .agg #[.int .i64 1, .int .i64 2, .int .i64 x, .int .i64 y, .int .i64 0, .int .u64 0, .slice none 0 0], u31, u32, u33, u34, u35, u36, u37, u38, u39, u40, u41, u42, .agg #[.int .i64 2, .int .i64 2, .int .i64 x, .int .i64 y, .int .i64 y, .int .u64 9223372036854775885, .slice none 0 0], u44, u45, u46, u47, u48, u49, u50, u51, u52, .agg #[.int .i64 2, .int .i64 x, .int .i64 0, .int .i64 1, .int .i64 0, .int .u64 v, .slice none 0 0], u54, u55, u56, .int .i64 x, v40, u59, u60, u61, .int .i64 y, (.agg #[.int .i64 3, .int .i64 x, .int .i64 0, .int .i64 0, .int .i64 y, .int .u64 0, v40]), u64, u65, u66, u67, u68, u69, .agg #[.int .i64 4, .int .i64 x, .int .i64 0, .int .i64 0, .int .i64 0, .int .u64 0, .slice none 0 0], u71, u72, u73, u74, .agg #[.int .i64 4, .int .i64 x, .int .i64 0, .int .i64 0, .int .i64 0, .int .u64 0, .slice none 0 0], .agg #[.int .i64 1, .int .i64 1, .int .i64 0, .int .i64 2, .int .i64 0, .int .u64 0, .slice none 0 0], .agg #[.int .i64 5, .int .i64 0, .int .i64 0, .int .i64 0, .int .i64 0, .int .u64 0, .slice none 0 0], .agg #[.int .i64 9, .int .i64 0, .int .i64 0, .int .i64 0, .int .i64 0, .int .u64 0, .slice none 0 0], .agg #[.int .i64 1, .int .i64 1, .int .i64 0, .int .i64 2, .int .i64 0, .int .u64 0, .slice none 0 0], .agg #[.int .i64 0, .int .i64 0, .int .i64 0, .int .i64 0, .int .i64 0, .int .u64 0, .slice none 0 0], u81, u82, u83, u84, u85, u86, u87, u88, u89, u90, u91, u92, u93, u94, u95, u96, u97, u98, u99, u100, u101, u102, u103, u104, u105, u106, u107, u108, u109, u110, u111, u112], []⟩ z := by
  refine wpAnyH_ready (rs := [2, 46]) (by kernel_rfl) (by simp) (tr 2 rfl (fun K9 hK => ?_) (tr 46 rfl (fun K9 hK => ?_) AllReadyH.nil))
  · go_simp
    with_reducible refine (row66 _).mono ?_
    rintro e z1 ⟨v2, rfl, q1⟩
    have qb := q1.below
    have h2 := Lib.hid (gd_own q1 (rowB_len 66) (by omega))
    have h0 := Lib.hid (h0.out.grow qb)
    have h40 := Lib.hid (h40.out.grow qb)
    have gg2 := gg.trans (qb.mono gg.size)
    clear qb gg
    obtain ⟨a2, c2, rfl, _, _, _, _⟩ := h2.out
    go_simp
    refine hK.out _ _ gg2 (fun gg => ?_)
    clear hK K9 gg2
    simp only [Act.put, ptA, ptB, ptC]
    refine tq 3 ?_ rfl (by kernel_rfl) (fun c a w h => hq c a _ _ w h) (by rfl) gg ?_ ?_; rotate_left
    · intro w9 h9; go_simp; try with_reducible rfl
    simp only [Act.put, ptA, ptB, ptC]
    refine cvl (l' := #[true, true, true, true, true, true, true, true, true, true, true, true, true, true, true, true, true, true, true, true, true, true, true, true, true, true, true, true, true, true, true, true, true, true, true, true, true, true, true, true, true, true, true, true, true, true, false, false, true, true, true, true, true, true, true, true, true, true, true, true, true, true, true, false, false]) (by kernel_rfl) ?_
    exact t_0_2_40 hq hx hy hv1 hv2 HK _ _ _ z1 gg h0 h2 h40
  · have qb : Below z.heap.size z (z.alloc (.cells #[.int .u8 7] 5)) := (Below.refl _ _).alloc (Nat.le_refl _) _
    have h46 := Lib.hid (gd_lit z 1 [7] #[.int .u8 7] 5 rfl (by omega))
    have h0 := Lib.hid (h0.out.grow qb)
    have h40 := Lib.hid (h40.out.grow qb)
    have gg2 := gg.trans (qb.mono gg.size)
    clear qb gg
    go_simp
    generalize (z.alloc (.cells #[.int .u8 7] 5)) = z1 at *
    generalize z.heap.size = zb at *
    refine hK.out _ _ gg2 (fun gg => ?_)
    clear hK K9 gg2
    simp only [Act.put, ptA, ptB, ptC]
    refine tq 47 ?_ rfl (by kernel_rfl) (fun c a w h => hq c a _ _ w h) (by rfl) gg ?_ ?_; rotate_left
    · intro w9 h9; go_simp; try with_reducible rfl
    simp only [Act.put, ptA, ptB, ptC]
    refine cvl (l' := #[true, true, false, false, true, true, true, true, true, true, true, true, true, true, true, true, true, true, true, true, true, true, true, true, true, true, true, true, true, true, true, true, true, true, true, true, true, true, true, true, true, true, true, true, true, true, true, true, true, true, true, true, true, true, true, true, true, true, true, true, true, true, true, false, false]) (by kernel_rfl) ?_
    exact t_0_40_46 hq hx hy hv1 hv2 HK _ _ _ z1 gg h0 h40 h46
set_option maxRecDepth 1000000 in
set_option maxHeartbeats 20000000 in
theorem t_0_46 {K : Act → World → Prop} {Q0 : Exit → Act → World → Prop} {g i k : Nat} {x y v : Int} {W : World}
    (hq : ∀ c a d v w, Exit.then K Q0 (.panic c) (Act.put a d v) w → Exit.then K Q0 (.panic c) a w) (hx : i64 x) (hy : i64 y) (hv1 : 0 ≤ v) (hv2 : v ≤ 18446744073709551615)
    (HK : Hid (KH K g i k W u0 u5 u6 u7 u8 u9 u10 u11 u12 u13 u14 u15 u16 u17 u82 u83 u84 u85 u86 u87 u88 u89 u90 u91 u92 u93 u94 u95 u96 u97 u98 u99 u100 u101 u102 u103 u104 u105 u106 u107 u108 u109 u110 u111 u112)) (v0 v46 : Value) (z : World) (gg : Below W.heap.size W z) (h0 : Hid (Gd z v0 3 [1, 2, 3])) (h46 : Hid (Gd z v46 1 [7])) :
    wpAnyH Try.prog .any ops8 (Exit.then K Q0) (fun z => Below W.heap.size W z) 6 #[true, true, false, false, true, true, true, true, true, true, true, true, true, true, true, true, true, true, true, true, true, true, true, true, true, true, true, true, true, true, true, true, true, true, true, true, true, true, true, true, false, true, true, true, true, false, true, true, true, true, true, true, true, true, true, true, true, true, true, true, true, true, true, false, false] ⟨#[u0, .slice (some ⟨g, 0, none⟩) 14 14, .int .i64 (i : Int), .int .i64 (k : Int), u4, u5, u6, u7, u8, u9, u10, u11, u12, u13, u14, u15, u16, u17, v0, (.agg #[.int .i64 0, .int .i64 0, .int .i64 0, .int .i64 0, .int .i64 0, .int .u64 0, v0]), u20, u21, u22, u23, u24, u25, u26, u27, u28, u29, .agg #[.int .i64 1, .int .i64 2, .int .i64 x, .int .i64 y, .int .i64 0, .int .u64 0, .slice none 0 0], u31, u32, u33, u34, u35, u36, u37, u38, u39, u40, u41, u42, .agg #[.int .i64 2, .int .i64 2, .int .i64 x, .int .i64 y, .int .i64 y, .int .u64 9223372036854775885, .slice none 0 0], u44, u45, u46, u47, u48, u49, u50, u51, u52, .agg #[.int .i64 2, .int .i64 x, .int .i64 0, .int .i64 1, .int .i64 0, .int .u64 v, .slice none 0 0], u54, u55, u56, .int .i64 x, u58, u59, u60, u61, .int .i64 y, u63, v46, (.agg #[.int .i64 3, .int .i64 1, .int .i64 0, .int .i64 0, .int .i64 0, .int .u64 0, v46]), u66, u67, u68, u69, .agg #[.int .i64 4, .int .i64 x, .int .i64 0, .int .i64 0, .int .i64 0, .int .u64 0, .slice none 0 0], u71, u72, u73, u74, .agg #[.int .i64 4, .int .i64 x, .int .i64 0, .int .i64 0, .int .i64 0, .int .u64 0, .slice none 0 0], .agg #[.int .i64 1, .int .i64 1, .int .i64 0, .int .i64 2, .int .i64 0, .int .u64 0, .slice none 0 0], .agg #[.int .i64 5, .int .i64 0, .int .i64 0, .int .i64 0, .int .i64 0, .int .u64 0, .slice none 0 0], .agg #[.int .i64 9, .int .i64 0, .int .i64 0, .int .i64 0, .int .i64 0, .int .u64 0, .slice none 0 0], .agg #[.int .i64 1, .int .i64 1, .int .i64 0, .int .i64 2, .int .i64 0, .int .u64 0, .slice none 0 0], .agg #[.int .i64 0, .int .i64 0, .int .i64 0, .int .i64 0, .int .i64 0, .int .u64 0, .slice none 0 0], u81, u82, u83, u84, u85, u86, u87, u88, u89, u90, u91, u92, u93, u94, u95, u96, u97, u98, u99, u100, u101, u102, u103, u104, u105, u106, u107, u108, u109, u110, u111, u112], []⟩ z := by
  refine wpAnyH_ready (rs := [2, 40]) (by kernel_rfl) (by simp) (tr 2 rfl (fun K9 hK => ?_) (tr 40 rfl (fun K9 hK => ?_) AllReadyH.nil))
  · go_simp
    with_reducible refine (row66 _).mono ?_
    rintro e z1 ⟨v2, rfl, q1⟩
    have qb := q1.below
    have h2 := Lib.hid (gd_own q1 (rowB_len 66) (by omega))
    have h0 := Lib.hid (h0.out.grow qb)
    have h46 := Lib.hid (h46.out.grow qb)
    have gg2 := gg.trans (qb.mono gg.size)
    clear qb gg
    obtain ⟨a2, c2, rfl, _, _, _, _⟩ := h2.out
    go_simp
    refine hK.out _ _ gg2 (fun gg => ?_)
    clear hK K9 gg2
    simp only [Act.put, ptA, ptB, ptC]
    refine tq 3 ?_ rfl (by kernel_rfl) (fun c a w h => hq c a _ _ w h) (by rfl) gg ?_ ?_; rotate_left
    · intro w9 h9; go_simp; try with_reducible rfl
    simp only [Act.put, ptA, ptB, ptC]
    refine cvl (l' := #[true, true, true, true, true, true, true, true, true, true, true, true, true, true, true, true, true, true, true, true, true, true, true, true, true, true, true, true, true, true, true, true, true, true, true, true, true, true, true, true, false, true, true, true, true, false, true, true, true, true, true, true, true, true, true, true, true, true, true, true, true, true, true, false, false]) (by kernel_rfl) ?_
    exact t_0_2_46 hq hx hy hv1 hv2 HK _ _ _ z1 gg h0 h2 h46
  · have qb : Below z.heap.size z (z.alloc (.cells #[.int .u8 7, .int .u8 8, .int .u8 9] 5)) := (Below.refl _ _).alloc (Nat.le_refl _) _
    have h40 := Lib.hid (gd_lit z 3 [7, 8, 9] #[.int .u8 7, .int .u8 8, .int .u8 9] 5 rfl (by omega))
    have h0 := Lib.hid (h0.out.grow qb)
    have h46 := Lib.hid (h46.out.grow qb)
    have gg2 := gg.trans (qb.mono gg.size)
    clear qb gg
    go_simp
    generalize (z.alloc (.cells #[.int .u8 7, .int .u8 8, .int .u8 9] 5)) = z1 at *
    generalize z.heap.size = zb at *
    refine hK.out _ _ gg2 (fun gg => ?_)
    clear hK K9 gg2
    simp only [Act.put, ptA, ptB, ptC]
    refine tq 45 ?_ rfl (by kernel_rfl) (fun c a w h => hq c a _ _ w h) (by rfl) gg ?_ ?_; rotate_left
    · intro w9 h9; go_simp; try with_reducible rfl
    simp only [Act.put, ptA, ptB, ptC]
    refine cvl (l' := #[true, true, false, false, true, true, true, true, true, true, true, true, true, true, true, true, true, true, true, true, true, true, true, true, true, true, true, true, true, true, true, true, true, true, true, true, true, true, true, true, true, true, true, true, true, true, true, true, true, true, true, true, true, true, true, true, true, true, true, true, true, true, true, false, false]) (by kernel_rfl) ?_
    exact t_0_40_46 hq hx hy hv1 hv2 HK _ _ _ z1 gg h0 h40 h46
set_option maxRecDepth 1000000 in
set_option maxHeartbeats 20000000 in
theorem t_2_40 {K : Act → World → Prop} {Q0 : Exit → Act → World → Prop} {g i k : Nat} {x y v : Int} {W : World}
    (hq : ∀ c a d v w, Exit.then K Q0 (.panic c) (Act.put a d v) w → Exit.then K Q0 (.panic c) a w) (hx : i64 x) (hy : i64 y) (hv1 : 0 ≤ v) (hv2 : v ≤ 18446744073709551615)
    (HK : Hid (KH K g i k W u0 u5 u6 u7 u8 u9 u10 u11 u12 u13 u14 u15 u16 u17 u82 u83 u84 u85 u86 u87 u88 u89 u90 u91 u92 u93 u94 u95 u96 u97 u98 u99 u100 u101 u102 u103 u104 u105 u106 u107 u108 u109 u110 u111 u112)) (v2 v40 : Value) (z : World) (gg : Below W.heap.size W z) (h2 : Hid (Gd z v2 66 (rowB 66))) (h40 : Hid (Gd z v40 3 [7, 8, 9])) :
    wpAnyH Try.prog .any ops8 (Exit.then K Q0) (fun z => Below W.heap.size W z) 6 #[false, false, true, true, true, true, true, true, true, true, true, true, true, true, true, true, true, true, true, true, true, true, true, true, true, true, true, true, true, true, true, true, true, true, true, true, true, true, true, true, true, true, true, true, true, true, false, false, true, true, true, true, true, true, true, true, true, true, true, true, true, true, true, false, false] ⟨#[u0, .slice (some ⟨g, 0, none⟩) 14 14, .int .i64 (i : Int), .int .i64 (k : Int), u4, u5, u6, u7, u8, u9, u10, u11, u12, u13, u14, u15, u16, u17, u18, u19, v2, (.agg #[.int .i64 0, .int .i64 0, .int .i64 0, .int .i64 0, .int .i64 0, .int .u64 0, v2]), u22, u23, u24, u25, u26, u27, u28, u29, .agg #[.int .i64 1, .int .i64 2, .int .i64 x, .int .i64 y, .int .i64 0, .int .u64 0, .slice none 0 0], u31, u32, u33, u34, u35, u36, u37, u38, u39, u40, u41, u42, .agg #[.int .i64 2, .int .i64 2, .int .i64 x, .int .i64 y, .int .i64 y, .int .u64 9223372036854775885, .slice none 0 0], u44, u45, u46, u47, u48, u49, u50, u51, u52, .agg #[.int .i64 2, .int .i64 x, .int .i64 0, .int .i64 1, .int .i64 0, .int .u64 v, .slice none 0 0], u54, u55, u56, .int .i64 x, v40, u59, u60, u61, .int .i64 y, (.agg #[.int .i64 3, .int .i64 x, .int .i64 0, .int .i64 0, .int .i64 y, .int .u64 0, v40]), u64, u65, u66, u67, u68, u69, .agg #[.int .i64 4, .int .i64 x, .int .i64 0, .int .i64 0, .int .i64 0, .int .u64 0, .slice none 0 0], u71, u72, u73, u74, .agg #[.int .i64 4, .int .i64 x, .int .i64 0, .int .i64 0, .int .i64 0, .int .u64 0, .slice none 0 0], .agg #[.int .i64 1, .int .i64 1, .int .i64 0, .int .i64 2, .int .i64 0, .int .u64 0, .slice none 0 0], .agg #[.int .i64 5, .int .i64 0, .int .i64 0, .int .i64 0, .int .i64 0, .int .u64 0, .slice none 0 0], .agg #[.int .i64 9, .int .i64 0, .int .i64 0, .int .i64 0, .int .i64 0, .int .u64 0, .slice none 0 0], .agg #[.int .i64 1, .int .i64 1, .int .i64 0, .int .i64 2, .int .i64 0, .int .u64 0, .slice none 0 0], .agg #[.int .i64 0, .int .i64 0, .int .i64 0, .int .i64 0, .int .i64 0, .int .u64 0, .slice none 0 0], u81, u82, u83, u84, u85, u86, u87, u88, u89, u90, u91, u92, u93, u94, u95, u96, u97, u98, u99, u100, u101, u102, u103, u104, u105, u106, u107, u108, u109, u110, u111, u112], []⟩ z := by
  refine wpAnyH_ready (rs := [0, 46]) (by kernel_rfl) (by simp) (tr 0 rfl (fun K9 hK => ?_) (tr 46 rfl (fun K9 hK => ?_) AllReadyH.nil))
  · have qb : Below z.heap.size z (z.alloc (.cells #[.int .u8 1, .int .u8 2, .int .u8 3] 5)) := (Below.refl _ _).alloc (Nat.le_refl _) _
    have h0 := Lib.hid (gd_lit z 3 [1, 2, 3] #[.int .u8 1, .int .u8 2, .int .u8 3] 5 rfl (by omega))
    have h2 := Lib.hid (h2.out.grow qb)
    have h40 := Lib.hid (h40.out.grow qb)
    have gg2 := gg.trans (qb.mono gg.size)
    clear qb gg
    go_simp
    generalize (z.alloc (.cells #[.int .u8 1, .int .u8 2, .int .u8 3] 5)) = z1 at *
    generalize z.heap.size = zb at *
    refine hK.out _ _ gg2 (fun gg => ?_)
    clear hK K9 gg2
    simp only [Act.put, ptA, ptB, ptC]
    refine tq 1 ?_ rfl (by kernel_rfl) (fun c a w h => hq c a _ _ w h) (by rfl) gg ?_ ?_; rotate_left
    · intro w9 h9; go_simp; try with_reducible rfl
    simp only [Act.put, ptA, ptB, ptC]
    refine cvl (l' := #[true, true, true, true, true, true, true, true, true, true, true, true, true, true, true, true, true, true, true, true, true, true, true, true, true, true, true, true, true, true, true, true, true, true, true, true, true, true, true, true, true, true, true, true, true, true, false, false, true, true, true, true, true, true, true, true, true, true, true, true, true, true, true, false, false]) (by kernel_rfl) ?_
    exact t_0_2_40 hq hx hy hv1 hv2 HK _ _ _ z1 gg h0 h2 h40
  · have qb : Below z.heap.size z (z.alloc (.cells #[.int .u8 7] 5)) := (Below.refl _ _).alloc (Nat.le_refl _) _
    have h46 := Lib.hid (gd_lit z 1 [7] #[.int .u8 7] 5 rfl (by omega))
    have h2 := Lib.hid (h2.out.grow qb)
    have h40 := Lib.hid (h40.out.grow qb)
    have gg2 := gg.trans (qb.mono gg.size)
    clear qb gg
    go_simp
    generalize (z.alloc (.cells #[.int .u8 7] 5)) = z1 at *
    generalize z.heap.size = zb at *
    refine hK.out _ _ gg2 (fun gg => ?_)
    clear hK K9 gg2
    simp only [Act.put, ptA, ptB, ptC]
    refine tq 47 ?_ rfl (by kernel_rfl) (fun c a w h => hq c a _ _ w h) (by rfl) gg ?_ ?_; rotate_left
    · intro w9 h9; go_simp; try with_reducible rfl
    simp only [Act.put, ptA, ptB, ptC]
    refine cvl (l' := #[false, false, true, true, true, true, true, true, true, true, true, true, true, true, true, true, true, true, true, true, true, true, true, true, true, true, true, true, true, true, true, true, true, true, true, true, true, true, true, true, true, true, true, true, true, true, true, true, true, true, true, true, true, true, true, true, true, true, true, true, true, true, true, false, false]) (by kernel_rfl) ?_
    exact t_2_40_46 hq hx hy hv1 hv2 HK _ _ _ z1 gg h2 h40 h46
set_option maxRecDepth 1000000 in
set_option maxHeartbeats 20000000 in
theorem t_2_46 {K : Act → World → Prop} {Q0 : Exit → Act → World → Prop} {g i k : Nat} {x y v : Int} {W : World}
    (hq : ∀ c a d v w, Exit.then K Q0 (.panic c) (Act.put a d v) w → Exit.then K Q0 (.panic c) a w) (hx : i64 x) (hy : i64 y) (hv1 : 0 ≤ v) (hv2 : v ≤ 18446744073709551615)
    (HK : Hid (KH K g i k W u0 u5 u6 u7 u8 u9 u10 u11 u12 u13 u14 u15 u16 u17 u82 u83 u84 u85 u86 u87 u88 u89 u90 u91 u92 u93 u94 u95 u96 u97 u98 u99 u100 u101 u102 u103 u104 u105 u106 u107 u108 u109 u110 u111 u112)) (v2 v46 : Value) (z : World) (gg : Below W.heap.size W z) (h2 : Hid (Gd z v2 66 (rowB 66))) (h46 : Hid (Gd z v46 1 [7])) :
    wpAnyH Try.prog .any ops8 (Exit.then K Q0) (fun z => Below W.heap.size W z) 6 #[false, false, true, true, true, true, true, true, true, true, true, true, true, true, true, true, true, true, true, true, true, true, true, true, true, true, true, true, true, true, true, true, true, true, true, true, true, true, true, true, false, true, true, true, true, false, true, true, true, true, true, true, true, true, true, true, true, true, true, true, true, true, true, false, false] ⟨#[u0, .slice (some ⟨g, 0, none⟩) 14 14, .int .i64 (i : Int), .int .i64 (k : Int), u4, u5, u6, u7, u8, u9, u10, u11, u12, u13, u14, u15, u16, u17, u18, u19, v2, (.agg #[.int .i64 0, .int .i64 0, .int .i64 0, .int .i64 0, .int .i64 0, .int .u64 0, v2]), u22, u23, u24, u25, u26, u27, u28, u29, .agg #[.int .i64 1, .int .i64 2, .int .i64 x, .int .i64 y, .int .i64 0, .int .u64 0, .slice none 0 0], u31, u32, u33, u34, u35, u36, u37, u38, u39, u40, u41, u42, .agg #[.int .i64 2, .int .i64 2, .int .i64 x, .int .i64 y, .int .i64 y, .int .u64 9223372036854775885, .slice none 0 0], u44, u45, u46, u47, u48, u49, u50, u51, u52, .agg #[.int .i64 2, .int .i64 x, .int .i64 0, .int .i64 1, .int .i64 0, .int .u64 v, .slice none 0 0], u54, u55, u56, .int .i64 x, u58, u59, u60, u61, .int .i64 y, u63, v46, (.agg #[.int .i64 3, .int .i64 1, .int .i64 0, .int .i64 0, .int .i64 0, .int .u64 0, v46]), u66, u67, u68, u69, .agg #[.int .i64 4, .int .i64 x, .int .i64 0, .int .i64 0, .int .i64 0, .int .u64 0, .slice none 0 0], u71, u72, u73, u74, .agg #[.int .i64 4, .int .i64 x, .int .i64 0, .int .i64 0, .int .i64 0, .int .u64 0, .slice none 0 0], .agg #[.int .i64 1, .int .i64 1, .int .i64 0, .int .i64 2, .int .i64 0, .int .u64 0, .slice none 0 0], .agg #[.int .i64 5, .int .i64 0, .int .i64 0, .int .i64 0, .int .i64 0, .int .u64 0, .slice none 0 0], .agg #[.int .i64 9, .int .i64 0, .int .i64 0, .int .i64 0, .int .i64 0, .int .u64 0, .slice none 0 0], .agg #[.int .i64 1, .int .i64 1, .int .i64 0, .int .i64 2, .int .i64 0, .int .u64 0, .slice none 0 0], .agg #[.int .i64 0, .int .i64 0, .int .i64 0, .int .i64 0, .int .i64 0, .int .u64 0, .slice none 0 0], u81, u82, u83, u84, u85, u86, u87, u88, u89, u90, u91, u92, u93, u94, u95, u96, u97, u98, u99, u100, u101, u102, u103, u104, u105, u106, u107, u108, u109, u110, u111, u112], []⟩ z := by
  refine wpAnyH_ready (rs := [0, 40]) (by kernel_rfl) (by simp) (tr 0 rfl (fun K9 hK => ?_) (tr 40 rfl (fun K9 hK => ?_) AllReadyH.nil))
  · have qb : Below z.heap.size z (z.alloc (.cells #[.int .u8 1, .int .u8 2, .int .u8 3] 5)) := (Below.refl _ _).alloc (Nat.le_refl _) _
    have h0 := Lib.hid (gd_lit z 3 [1, 2, 3] #[.int .u8 1, .int .u8 2, .int .u8 3] 5 rfl (by omega))
    have h2 := Lib.hid (h2.out.grow qb)
    have h46 := Lib.hid (h46.out.grow qb)
    have gg2 := gg.trans (qb.mono gg.size)
    clear qb gg
    go_simp
    generalize (z.alloc (.cells #[.int .u8 1, .int .u8 2, .int .u8 3] 5)) = z1 at *
    generalize z.heap.size = zb at *
    refine hK.out _ _ gg2 (fun gg => ?_)
    clear hK K9 gg2
    simp only [Act.put, ptA, ptB, ptC]
    refine tq 1 ?_ rfl (by kernel_rfl) (fun c a w h => hq c a _ _ w h) (by rfl) gg ?_ ?_; rotate_left
    · intro w9 h9; go_simp; try with_reducible rfl
    simp only [Act.put, ptA, ptB, ptC]
    refine cvl (l' := #[true, true, true, true, true, true, true, true, true, true, true, true, true, true, true, true, true, true, true, true, true, true, true, true, true, true, true, true, true, true, true, true, true, true, true, true, true, true, true, true, false, true, true, true, true, false, true, true, true, true, true, true, true, true, true, true, true, true, true, true, true, true, true, false, false]) (by kernel_rfl) ?_
    exact t_0_2_46 hq hx hy hv1 hv2 HK _ _ _ z1 gg h0 h2 h46
  · have qb : Below z.heap.size z (z.alloc (.cells #[.int .u8 7, .int .u8 8, .int .u8 9] 5)) := (Below.refl _ _).alloc (Nat.le_refl _) _
    have h40 := Lib.hid (gd_lit z 3 [7, 8, 9] #[.int .u8 7, .int .u8 8, .int .u8 9] 5 rfl (by omega))
    have h2 := Lib.hid (h2.out.grow qb)
    have h46 := Lib.hid (h46.out.grow qb)
    have gg2 := gg.trans (qb.mono gg.size)
    clear qb gg
    go_simp
    generalize (z.alloc (.cells #[.int .u8 7, .int .u8 8, .int .u8 9] 5)) = z1 at *
    generalize z.heap.size = zb at *
    refine hK.out _ _ gg2 (fun gg => ?_)
    clear hK K9 gg2
    simp only [Act.put, ptA, ptB, ptC]
    refine tq 45 ?_ rfl (by kernel_rfl) (fun c a w h => hq c a _ _ w h) (by rfl) gg ?_ ?_; rotate_left
    · intro w9 h9; go_simp; try with_reducible rfl
    simp only [Act.put, ptA, ptB, ptC]
    refine cvl (l' := #[false, false, true, true, true, true, true, true, true, true, true, true, true, true, true, true, true, true, true, true, true, true, true, true, true, true, true, true, true, true, true, true, true, true, true, true, true, true, true, true, true, true, true, true, true, true, true, true, true, true, true, true, true, true, true, true, true, true, true, true, true, true, true, false, false]) (by kernel_rfl) ?_
    exact t_2_40_46 hq hx hy hv1 hv2 HK _ _ _ z1 gg h2 h40 h46
set_option maxRecDepth 1000000 in
set_option maxHeartbeats 20000000 in
theorem t_40_46 {K : Act → World → Prop} {Q0 : Exit → Act → World → Prop} {g i k : Nat} {x y v : Int} {W : World}
    (hq : ∀ c a d v w, Exit.then K Q0 (.panic c) (Act.put a d v) w → Exit.then K Q0 (.panic c) a w) (hx : i64 x) (hy : i64 y) (hv1 : 0 ≤ v) (hv2 : v ≤ 18446744073709551615)
    (HK : Hid (KH K g i k W u0 u5 u6 u7 u8 u9 u10 u11 u12 u13 u14 u15 u16 u17 u82 u83 u84 u85 u86 u87 u88 u89 u90 u91 u92 u93 u94 u95 u96 u97 u98 u99 u100 u101 u102 u103 u104 u105 u106 u107 u108 u109 u110 u111 u112)) (v40 v46 : Value) (z : World) (gg : Below W.heap.size W z) (h40 : Hid (Gd z v40 3 [7, 8, 9])) (h46 : Hid (Gd z v46 1 [7])) :
    wpAnyH Try.prog .any ops8 (Exit.then K Q0) (fun z => Below W.heap.size W z) 6 #[false, false, false, false, true, true, true, true, true, true, true, true, true, true, true, true, true, true, true, true, true, true, true, true, true, true, true, true, true, true, true, true, true, true, true, true, true, true, true, true, true, true, true, true, true, true, true, true, true, true, true, true, true, true, true, true, true, true, true, true, true, true, true, false, false] ⟨#[u0, .slice (some ⟨g, 0, none⟩) 14 14, .int .i64 (i : Int), .int .i64 (k : Int), u4, u5, u6, u7, u8, u9, u10, u11, u12, u13, u14, u15, u16, u17, u18, u19, u20, u21, u22, u23, u24, u25, u26, u27, u28, u29, .agg #[.int .i64 1, .int .i64 2, .int .i64 x, .int .i64 y, .int .i64 0, .int .u64 0, .slice none 0 0], u31, u32, u33, u34, u35, u36, u37, u38, u39, u40, u41, u42, .agg #[.int .i64 2, .int .i64 2, .int .i64 x, .int .i64 y, .int .i64 y, .int .u64 9223372036854775885, .slice none 0 0], u44, u45, u46, u47, u48, u49, u50, u51, u52, .agg #[.int .i64 2, .int .i64 x, .int .i64 0, .int .i64 1, .int .i64 0, .int .u64 v, .slice none 0 0], u54, u55, u56, .int .i64 x, v40, u59, u60, u61, .int .i64 y, (.agg #[.int .i64 3, .int .i64 x, .int .i64 0, .int .i64 0, .int .i64 y, .int .u64 0, v40]), v46, (.agg #[.int .i64 3, .int .i64 1, .int .i64 0, .int .i64 0, .int .i64 0, .int .u64 0, v46]), u66, u67, u68, u69, .agg #[.int .i64 4, .int .i64 x, .int .i64 0, .int .i64 0, .int .i64 0, .int .u64 0, .slice none 0 0], u71, u72, u73, u74, .agg #[.int .i64 4, .int .i64 x, .int .i64 0, .int .i64 0, .int .i64 0, .int .u64 0, .slice none 0 0], .agg #[.int .i64 1, .int .i64 1, .int .i64 0, .int .i64 2, .int .i64 0, .int .u64 0, .slice none 0 0], .agg #[.int .i64 5, .int .i64 0, .int .i64 0, .int .i64 0, .int .i64 0, .int .u64 0, .slice none 0 0], .agg #[.int .i64 9, .int .i64 0, .int .i64 0, .int .i64 0, .int .i64 0, .int .u64 0, .slice none 0 0], .agg #[.int .i64 1, .int .i64 1, .int .i64 0, .int .i64 2, .int .i64 0, .int .u64 0, .slice none 0 0], .agg #[.int .i64 0, .int .i64 0, .int .i64 0, .int .i64 0, .int .i64 0, .int .u64 0, .slice none 0 0], u81, u82, u83, u84, u85, u86, u87, u88, u89, u90, u91, u92, u93, u94, u95, u96, u97, u98, u99, u100, u101, u102, u103, u104, u105, u106, u107, u108, u109, u110, u111, u112], []⟩ z := by
  refine wpAnyH_ready (rs := [0, 2]) (by kernel_rfl) (by simp) (tr 0 rfl (fun K9 hK => ?_) (tr 2 rfl (fun K9 hK => ?_) AllReadyH.nil))
  · have qb : Below z.heap.size z (z.alloc (.cells #[.int .u8 1, .int .u8 2, .int .u8 3] 5)) := (Below.refl _ _).alloc (Nat.le_refl _) _
    have h0 := Lib.hid (gd_lit z 3 [1, 2, 3] #[.int .u8 1, .int .u8 2, .int .u8 3] 5 rfl (by omega))
    have h40 := Lib.hid (h40.out.grow qb)
    have h46 := Lib.hid (h46.out.grow qb)
    have gg2 := gg.trans (qb.mono gg.size)
    clear qb gg
    go_simp
    generalize (z.alloc (.cells #[.int .u8 1, .int .u8 2, .int .u8 3] 5)) = z1 at *
    generalize z.heap.size = zb at *
    refine hK.out _ _ gg2 (fun gg => ?_)
    clear hK K9 gg2
    simp only [Act.put, ptA, ptB, ptC]
    refine tq 1 ?_ rfl (by kernel_rfl) (fun c a w h => hq c a _ _ w h) (by rfl) gg ?_ ?_; rotate_left
    · intro w9 h9; go_simp; try with_reducible rfl
    simp only [Act.put, ptA, ptB, ptC]
    refine cvl (l' := #[true, true, false, false, true, true, true, true, true, true, true, true, true, true, true, true, true, true, true, true, true, true, true, true, true, true, true, true, true, true, true, true, true, true, true, true, true, true, true, true, true, true, true, true, true, true, true, true, true, true, true, true, true, true, true, true, true, true, true, true, true, true, true, false, false]) (by kernel_rfl) ?_
    exact t_0_40_46 hq hx hy hv1 hv2 HK _ _ _ z1 gg h0 h40 h46
  · go_simp
    with_reducible refine (row66 _).mono ?_
    rintro e z1 ⟨v2, rfl, q1⟩
    have qb := q1.below
    have h2 := Lib.hid (gd_own q1 (rowB_len 66) (by omega))
    have h40 := Lib.hid (h40.out.grow qb)
    have h46 := Lib.hid (h46.out.grow qb)
    have gg2 := gg.trans (qb.mono gg.size)
    clear qb gg
    obtain ⟨a2, c2, rfl, _, _, _, _⟩ := h2.out
    go_simp
    refine hK.out _ _ gg2 (fun gg => ?_)
    clear hK K9 gg2
    simp only [Act.put, ptA, ptB, ptC]
    refine tq 3 ?_ rfl (by kernel_rfl) (fun c a w h => hq c a _ _ w h) (by rfl) gg ?_ ?_; rotate_left
    · intro w9 h9; go_simp; try with_reducible rfl
    simp only [Act.put, ptA, ptB, ptC]
    refine cvl (l' := #[false, false, true, true, true, true, true, true, true, true, true, true, true, true, true, true, true, true, true, true, true, true, true, true, true, true, true, true, true, true, true, true, true, true, true, true, true, true, true, true, true, true, true, true, true, true, true, true, true, true, true, true, true, true, true, true, true, true, true, true, true, true, true, false, false]) (by kernel_rfl) ?_
    exact t_2_40_46 hq hx hy hv1 hv2 HK _ _ _ z1 gg h2 h40 h46
set_option maxRecDepth 1000000 in
set_option maxHeartbeats 20000000 in
theorem t_0 {K : Act → World → Prop} {Q0 : Exit → Act → World → Prop} {g i k : Nat} {x y v : Int} {W : World}
    (hq : ∀ c a d v w, Exit.then K Q0 (.panic c) (Act.put a d v) w → Exit.then K Q0 (.panic c) a w) (hx : i64 x) (hy : i64 y) (hv1 : 0 ≤ v) (hv2 : v ≤ 18446744073709551615)
    (HK : Hid (KH K g i k W u0 u5 u6 u7 u8 u9 u10 u11 u12 u13 u14 u15 u16 u17 u82 u83 u84 u85 u86 u87 u88 u89 u90 u91 u92 u93 u94 u95 u96 u97 u98 u99 u100 u101 u102 u103 u104 u105 u106 u107 u108 u109 u110 u111 u112)) (v0 : Value) (z : World) (gg : Below W.heap.size W z) (h0 : Hid (Gd z v0 3 [1, 2, 3])) :
    wpAnyH Try.prog .any ops8 (Exit.then K Q0) (fun z => Below W.heap.size W z) 8 #[true, true, false, false, true, true, true, true, true, true, true, true, true, true, true, true, true, true, true, true, true, true, true, true, true, true, true, true, true, true, true, true, true, true, true, true, true, true, true, true, false, true, true, true, true, false, false, false, true, true, true, true, true, true, true, true, true, true, true, true, true, true, true, false, false] ⟨#[u0, .slice (some ⟨g, 0, none⟩) 14 14, .int .i64 (i : Int), .int .i64 (k : Int), u4, u5, u6, u7, u8, u9, u10, u11, u12, u13, u14, u15, u16, u17, v0, (.agg #[.int .i64 0, .int .i64 0, .int .i64 0, .int .i64 0, .int .i64 0, .int .u64 0, v0]), u20, u21, u22, u23, u24, u25, u26, u27, u28, u29, .agg #[.int .i64 1, .int .i64 2, .int .i64 x, .int .i64 y, .int .i64 0, .int .u64 0, .slice none 0 0], u31, u32, u33, u34, u35, u36, u37, u38, u39, u40, u41, u42, .agg #[.int .i64 2, .int .i64 2, .int .i64 x, .int .i64 y, .int .i64 y, .int .u64 9223372036854775885, .slice none 0 0], u44, u45, u46, u47, u48, u49, u50, u51, u52, .agg #[.int .i64 2, .int .i64 x, .int .i64 0, .int .i64 1, .int .i64 0, .int .u64 v, .slice none 0 0], u54, u55, u56, .int .i64 x, u58, u59, u60, u61, .int .i64 y, u63, u64, u65, u66, u67, u68, u69, .agg #[.int .i64 4, .int .i64 x, .int .i64 0, .int .i64 0, .int .i64 0, .int .u64 0, .slice none 0 0], u71, u72, u73, u74, .agg #[.int .i64 4, .int .i64 x, .int .i64 0, .int .i64 0, .int .i64 0, .int .u64 0, .slice none 0 0], .agg #[.int .i64 1, .int .i64 1, .int .i64 0, .int .i64 2, .int .i64 0, .int .u64 0, .slice none 0 0], .agg #[.int .i64 5, .int .i64 0, .int .i64 0, .int .i64 0, .int .i64 0, .int .u64 0, .slice none 0 0], .agg #[.int .i64 9, .int .i64 0, .int .i64 0, .int .i64 0, .int .i64 0, .int .u64 0, .slice none 0 0], .agg #[.int .i64 1, .int .i64 1, .int .i64 0, .int .i64 2, .int .i64 0, .int .u64 0, .slice none 0 0], .agg #[.int .i64 0, .int .i64 0, .int .i64 0, .int .i64 0, .int .i64 0, .int .u64 0, .slice none 0 0], u81, u82, u83, u84, u85, u86, u87, u88, u89, u90, u91, u92, u93, u94, u95, u96, u97, u98, u99, u100, u101, u102, u103, u104, u105, u106, u107, u108, u109, u110, u111, u112], []⟩ z := by
  refine wpAnyH_ready (rs := [2, 40, 46]) (by kernel_rfl) (by simp) (tr 2 rfl (fun K9 hK => ?_) (tr 40 rfl (fun K9 hK => ?_) (tr 46 rfl (fun K9 hK => ?_) AllReadyH.nil)))
  · go_simp
    with_reducible refine (row66 _).mono ?_
    rintro e z1 ⟨v2, rfl, q1⟩
    have qb := q1.below
    have h2 := Lib.hid (gd_own q1 (rowB_len 66) (by omega))
    have h0 := Lib.hid (h0.out.grow qb)
    have gg2 := gg.trans (qb.mono gg.size)
    clear qb gg
    obtain ⟨a2, c2, rfl, _, _, _, _⟩ := h2.out
    go_simp
    refine hK.out _ _ gg2 (fun gg => ?_)
    clear hK K9 gg2
    simp only [Act.put, ptA, ptB, ptC]
    refine tq 3 ?_ rfl (by kernel_rfl) (fun c a w h => hq c a _ _ w h) (by rfl) gg ?_ ?_; rotate_left
    · intro w9 h9; go_simp; try with_reducible rfl
    simp only [Act.put, ptA, ptB, ptC]
    refine cvl (l' := #[true, true, true, true, true, true, true, true, true, true, true, true, true, true, true, true, true, true, true, true, true, true, true, true, true, true, true, true, true, true, true, true, true, true, true, true, true, true, true, true, false, true, true, true, true, false, false, false, true, true, true, true, true, true, true, true, true, true, true, true, true, true, true, false, false]) (by kernel_rfl) ?_
    exact t_0_2 hq hx hy hv1 hv2 HK _ _ z1 gg h0 h2
  · have qb : Below z.heap.size z (z.alloc (.cells #[.int .u8 7, .int .u8 8, .int .u8 9] 5)) := (Below.refl _ _).alloc (Nat.le_refl _) _
    have h40 := Lib.hid (gd_lit z 3 [7, 8, 9] #[.int .u8 7, .int .u8 8, .int .u8 9] 5 rfl (by omega))
    have h0 := Lib.hid (h0.out.grow qb)
    have gg2 := gg.trans (qb.mono gg.size)
    clear qb gg
    go_simp
    generalize (z.alloc (.cells #[.int .u8 7, .int .u8 8, .int .u8 9] 5)) = z1 at *
    generalize z.heap.size = zb at *
    refine hK.out _ _ gg2 (fun gg => ?_)
    clear hK K9 gg2
    simp only [Act.put, ptA, ptB, ptC]
    refine tq 45 ?_ rfl (by kernel_rfl) (fun c a w h => hq c a _ _ w h) (by rfl) gg ?_ ?_; rotate_left
    · intro w9 h9; go_simp; try with_reducible rfl
    simp only [Act.put, ptA, ptB, ptC]
    refine cvl (l' := #[true, true, false, false, true, true, true, true, true, true, true, true, true, true, true, true, true, true, true, true, true, true, true, true, true, true, true, true, true, true, true, true, true, true, true, true, true, true, true, true, true, true, true, true, true, true, false, false, true, true, true, true, true, true, true, true, true, true, true, true, true, true, true, false, false]) (by kernel_rfl) ?_
    exact t_0_40 hq hx hy hv1 hv2 HK _ _ z1 gg h0 h40
  · have qb : Below z.heap.size z (z.alloc (.cells #[.int .u8 7] 5)) := (Below.refl _ _).alloc (Nat.le_refl _) _
    have h46 := Lib.hid (gd_lit z 1 [7] #[.int .u8 7] 5 rfl (by omega))
    have h0 := Lib.hid (h0.out.grow qb)
    have gg2 := gg.trans (qb.mono gg.size)
    clear qb gg
    go_simp
    generalize (z.alloc (.cells #[.int .u8 7] 5)) = z1 at *
    generalize z.heap.size = zb at *
    refine hK.out _ _ gg2 (fun gg => ?_)
    clear hK K9 gg2
    simp only [Act.put, ptA, ptB, ptC]
    refine tq 47 ?_ rfl (by kernel_rfl) (fun c a w h => hq c a _ _ w h) (by rfl) gg ?_ ?_; rotate_left
    · intro w9 h9; go_simp; try with_reducible rfl
    simp only [Act.put, ptA, ptB, ptC]
    refine cvl (l' := #[true, true, false, false, true, true, true, true, true, true, true, true, true, true, true, true, true, true, true, true, true, true, true, true, true, true, true, true, true, true, true, true, true, true, true, true, true, true, true, true, false, true, true, true, true, false, true, true, true, true, true, true, true, true, true, true, true, true, true, true, true, true, true, false, false]) (by kernel_rfl) ?_
    exact t_0_46 hq hx hy hv1 hv2 HK _ _ z1 gg h0 h46
set_option maxRecDepth 1000000 in
set_option maxHeartbeats 20000000 in
theorem t_2 {K : Act → World → Prop} {Q0 : Exit → Act → World → Prop} {g i k : Nat} {x y v : Int} {W : World}
    (hq : ∀ c a d v w, Exit.then K Q0 (.panic c) (Act.put a d v) w → Exit.then K Q0 (.panic c) a w) (hx : i64 x) (hy : i64 y) (hv1 : 0 ≤ v) (hv2 : v ≤ 18446744073709551615)
    (HK : Hid (KH K g i k W u0 u5 u6 u7 u8 u9 u10 u11 u12 u13 u14 u15 u16 u17 u82 u83 u84 u85 u86 u87 u88 u89 u90 u91 u92 u93 u94 u95 u96 u97 u98 u99 u100 u101 u102 u103 u104 u105 u106 u107 u108 u109 u110 u111 u112)) (v2 : Value) (z : World) (gg : Below W.heap.size W z) (h2 : Hid (Gd z v2 66 (rowB 66))) :
    wpAnyH Try.prog .any ops8 (Exit.then K Q0) (fun z => Below W.heap.size W z) 8 #[false, false, true, true, true, true, true, true, true, true, true, true, true, true, true, true, true, true, true, true, true, true, true, true, true, true, true, true, true, true, true, true, true, true, true, true, true, true, true, true, false, true, true, true, true, false, false, false, true, true, true, true, true, true, true, true, true, true, true, true, true, true, true, false, false] ⟨#[u0, .slice (some ⟨g, 0, none⟩) 14 14, .int .i64 (i : Int), .int .i64 (k : Int), u4, u5, u6, u7, u8, u9, u10, u11, u12, u13, u14, u15, u16, u17, u18, u19, v2, (.agg #[.int .i64 0, .int .i64 0, .int .i64 0, .int .i64 0, .int .i64 0, .int .u64 0, v2]), u22, u23, u24, u25, u26, u27, u28, u29, .agg #[.int .i64 1, .int .i64 2, .int .i64 x, .int .i64 y, .int .i64 0, .int .u64 0, .slice none 0 0], u31, u32, u33, u34, u35, u36, u37, u38, u39, u40, u41, u42, .agg #[.int .i64 2, .int .i64 2, .int .i64 x, .int .i64 y, .int .i64 y, .int .u64 9223372036854775885, .slice none 0 0], u44, u45, u46, u47, u48, u49, u50, u51, u52, .agg #[.int .i64 2, .int .i64 x, .int .i64 0, .int .i64 1, .int .i64 0, .int .u64 v, .slice none 0 0], u54, u55, u56, .int .i64 x, u58, u59, u60, u61, .int .i64 y, u63, u64, u65, u66, u67, u68, u69, .agg #[.int .i64 4, .int .i64 x, .int .i64 0, .int .i64 0, .int .i64 0, .int .u64 0, .slice none 0 0], u71, u72, u73, u74, .agg #[.int .i64 4, .int .i64 x, .int .i64 0, .int .i64 0, .int .i64 0, .int .u64 0, .slice none 0 0], .agg #[.int .i64 1, .int .i64 1, .int .i64 0, .int .i64 2, .int .i64 0, .int .u64 0, .slice none 0 0], .agg #[.int .i64 5, .int .i64 0, .int .i64 0, .int .i64 0, .int .i64 0, .int .u64 0, .slice none 0 0], .agg #[.int .i64 9, .int .i64 0, .int .i64 0, .int .i64 0, .int .i64 0, .int .u64 0, .slice none 0 0], .agg #[.int .i64 1, .int .i64 1, .int .i64 0, .int .i64 2, .int .i64 0, .int .u64 0, .slice none 0 0], .agg #[.int .i64 0, .int .i64 0, .int .i64 0, .int .i64 0, .int .i64 0, .int .u64 0, .slice none 0 0], u81, u82, u83, u84, u85, u86, u87, u88, u89, u90, u91, u92, u93, u94, u95, u96, u97, u98, u99, u100, u101, u102, u103, u104, u105, u106, u107, u108, u109, u110, u111, u112], []⟩ z := by
  refine wpAnyH_ready (rs := [0, 40, 46]) (by kernel_rfl) (by simp) (tr 0 rfl (fun K9 hK => ?_) (tr 40 rfl (fun K9 hK => ?_) (tr 46 rfl (fun K9 hK => ?_) AllReadyH.nil)))
  · have qb : Below z.heap.size z (z.alloc (.cells #[.int .u8 1, .int .u8 2, .int .u8 3] 5)) := (Below.refl _ _).alloc (Nat.le_refl _) _
    have h0 := Lib.hid (gd_lit z 3 [1, 2, 3] #[.int .u8 1, .int .u8 2, .int .u8 3] 5 rfl (by omega))
    have h2 := Lib.hid (h2.out.grow qb)
    have gg2 := gg.trans (qb.mono gg.size)
    clear qb gg
    go_simp
    generalize (z.alloc (.cells #[.int .u8 1, .int .u8 2, .int .u8 3] 5)) = z1 at *
    generalize z.heap.size = zb at *
    refine hK.out _ _ gg2 (fun gg => ?_)
    clear hK K9 gg2
    simp only [Act.put, ptA, ptB, ptC]
    refine tq 1 ?_ rfl (by kernel_rfl) (fun c a w h => hq c a _ _ w h) (by rfl) gg ?_ ?_; rotate_left
    · intro w9 h9; go_simp; try with_reducible rfl
    simp only [Act.put, ptA, ptB, ptC]
    refine cvl (l' := #[true, true, true, true, true, true, true, true, true, true, true, true, true, true, true, true, true, true, true, true, true, true, true, true, true, true, true, true, true, true, true, true, true, true, true, true, true, true, true, true, false, true, true, true, true, false, false, false, true, true, true, true, true, true, true, true, true, true, true, true, true, true, true, false, false]) (by kernel_rfl) ?_
    exact t_0_2 hq hx hy hv1 hv2 HK _ _ z1 gg h0 h2
  · have qb : Below z.heap.size z (z.alloc (.cells #[.int .u8 7, .int .u8 8, .int .u8 9] 5)) := (Below.refl _ _).alloc (Nat.le_refl _) _
    have h40 := Lib.hid (gd_lit z 3 [7, 8, 9] #[.int .u8 7, .int .u8 8, .int .u8 9] 5 rfl (by omega))
    have h2 := Lib.hid (h2.out.grow qb)
    have gg2 := gg.trans (qb.mono gg.size)
    clear qb gg
    go_simp
    generalize (z.alloc (.cells #[.int .u8 7, .int .u8 8, .int .u8 9] 5)) = z1 at *
    generalize z.heap.size = zb at *
    refine hK.out _ _ gg2 (fun gg => ?_)
    clear hK K9 gg2
    simp only [Act.put, ptA, ptB, ptC]
    refine tq 45 ?_ rfl (by kernel_rfl) (fun c a w h => hq c a _ _ w h) (by rfl) gg ?_ ?_; rotate_left
    · intro w9 h9; go_simp; try with_reducible rfl
    simp only [Act.put, ptA, ptB, ptC]
    refine cvl (l' := #[false, false, true, true, true, true, true, true, true, true, true, true, true, true, true, true, true, true, true, true, true, true, true, true, true, true, true, true, true, true, true, true, true, true, true, true, true, true, true, true, true, true, true, true, true, true, false, false, true, true, true, true, true, true, true, true, true, true, true, true, true, true, true, false, false]) (by kernel_rfl) ?_
    exact t_2_40 hq hx hy hv1 hv2 HK _ _ z1 gg h2 h40
  · have qb : Below z.heap.size z (z.alloc (.cells #[.int .u8 7] 5)) := (Below.refl _ _).alloc (Nat.le_refl _) _
    have h46 := Lib.hid (gd_lit z 1 [7] #[.int .u8 7] 5 rfl (by omega))
    have h2 := Lib.hid (h2.out.grow qb)
    have gg2 := gg.trans (qb.mono gg.size)
    clear qb gg
    go_simp
    generalize (z.alloc (.cells #[.int .u8 7] 5)) = z1 at *
    generalize z.heap.size = zb at *
    refine hK.out _ _ gg2 (fun gg => ?_)
    clear hK K9 gg2
    simp only [Act.put, ptA, ptB, ptC]
    refine tq 47 ?_ rfl (by kernel_rfl) (fun c a w h => hq c a _ _ w h) (by rfl) gg ?_ ?_; rotate_left
    · intro w9 h9; go_simp; try with_reducible rfl
    simp only [Act.put, ptA, ptB, ptC]
    refine cvl (l' := #[false, false, true, true, true, true, true, true, true, true, true, true, true, true, true, true, true, true, true, true, true, true, true, true, true, true, true, true, true, true, true, true, true, true, true, true, true, true, true, true, false, true, true, true, true, false, true, true, true, true, true, true, true, true, true, true, true, true, true, true, true, true, true, false, false]) (by kernel_rfl) ?_
    exact t_2_46 hq hx hy hv1 hv2 HK _ _ z1 gg h2 h46
set_option maxRecDepth 1000000 in
set_option maxHeartbeats 20000000 in
theorem t_40 {K : Act → World → Prop} {Q0 : Exit → Act → World → Prop} {g i k : Nat} {x y v : Int} {W : World}
    (hq : ∀ c a d v w, Exit.then K Q0 (.panic c) (Act.put a d v) w → Exit.then K Q0 (.panic c) a w) (hx : i64 x) (hy : i64 y) (hv1 : 0 ≤ v) (hv2 : v ≤ 18446744073709551615)
    (HK : Hid (KH K g i k W u0 u5 u6 u7 u8 u9 u10 u11 u12 u13 u14 u15 u16 u17 u82 u83 u84 u85 u86 u87 u88 u89 u90 u91 u92 u93 u94 u95 u96 u97 u98 u99 u100 u101 u102 u103 u104 u105 u106 u107 u108 u109 u110 u111 u112)) (v40 : Value) (z : World) (gg : Below W.heap.size W z) (h40 : Hid (Gd z v40 3 [7, 8, 9])) :
    wpAnyH Try.prog .any ops8 (Exit.then K Q0) (fun z => Below W.heap.size W z) 8 #[false, false, false, false, true, true, true, true, true, true, true, true, true, true, true, true, true, true, true, true, true, true, true, true, true, true, true, true, true, true, true, true, true, true, true, true, true, true, true, true, true, true, true, true, true, true, false, false, true, true, true, true, true, true, true, true, true, true, true, true, true, true, true, false, false] ⟨#[u0, .slice (some ⟨g, 0, none⟩) 14 14, .int .i64 (i : Int), .int .i64 (k : Int), u4, u5, u6, u7, u8, u9, u10, u11, u12, u13, u14, u15, u16, u17, u18, u19, u20, u21, u22, u23, u24, u25, u26, u27, u28, u29, .agg #[.int .i64 1, .int .i64 2, .int .i64 x, .int .i64 y, .int .i64 0, .int .u64 0, .slice none 0 0], u31, u32, u33, u34, u35, u36, u37, u38, u39, u40, u41, u42, .agg #[.int .i64 2, .int .i64 2, .int .i64 x, .int .i64 y, .int .i64 y, .int .u64 9223372036854775885, .slice none 0 0], u44, u45, u46, u47, u48, u49, u50, u51, u52, .agg #[.int .i64 2, .int .i64 x, .int .i64 0, .int .i64 1, .int .i64 0, .int .u64 v, .slice none 0 0], u54, u55, u56, .int .i64 x, v40, u59, u60, u61, .int .i64 y, (.agg #[.int .i64 3, .int .i64 x, .int .i64 0, .int .i64 0, .int .i64 y, .int .u64 0, v40]), u64, u65, u66, u67, u68, u69, .agg #[.int .i64 4, .int .i64 x, .int .i64 0, .int .i64 0, .int .i64 0, .int .u64 0, .slice none 0 0], u71, u72, u73, u74, .agg #[.int .i64 4, .int .i64 x, .int .i64 0, .int .i64 0, .int .i64 0, .int .u64 0, .slice none 0 0], .agg #[.int .i64 1, .int .i64 1, .int .i64 0, .int .i64 2, .int .i64 0, .int .u64 0, .slice none 0 0], .agg #[.int .i64 5, .int .i64 0, .int .i64 0, .int .i64 0, .int .i64 0, .int .u64 0, .slice none 0 0], .agg #[.int .i64 9, .int .i64 0, .int .i64 0, .int .i64 0, .int .i64 0, .int .u64 0, .slice none 0 0], .agg #[.int .i64 1, .int .i64 1, .int .i64 0, .int .i64 2, .int .i64 0, .int .u64 0, .slice none 0 0], .agg #[.int .i64 0, .int .i64 0, .int .i64 0, .int .i64 0, .int .i64 0, .int .u64 0, .slice none 0 0], u81, u82, u83, u84, u85, u86, u87, u88, u89, u90, u91, u92, u93, u94, u95, u96, u97, u98, u99, u100, u101, u102, u103, u104, u105, u106, u107, u108, u109, u110, u111, u112], []⟩ z := by
  refine wpAnyH_ready (rs := [0, 2, 46]) (by kernel_rfl) (by simp) (tr 0 rfl (fun K9 hK => ?_) (tr 2 rfl (fun K9 hK => ?_) (tr 46 rfl (fun K9 hK => ?_) AllReadyH.nil)))
  · have qb : Below z.heap.size z (z.alloc (.cells #[.int .u8 1, .int .u8 2, .int .u8 3] 5)) := (Below.refl _ _).alloc (Nat.le_refl _) _
    have h0 := Lib.hid (gd_lit z 3 [1, 2, 3] #[.int .u8 1, .int .u8 2, .int .u8 3] 5 rfl (by omega))
    have h40 := Lib.hid (h40.out.grow qb)
    have gg2 := gg.trans (qb.mono gg.size)
    clear qb gg
    go_simp
    generalize (z.alloc (.cells #[.int .u8 1, .int .u8 2, .int .u8 3] 5)) = z1 at *
    generalize z.heap.size = zb at *
    refine hK.out _ _ gg2 (fun gg => ?_)
    clear hK K9 gg2
    simp only [Act.put, ptA, ptB, ptC]
    refine tq 1 ?_ rfl (by kernel_rfl) (fun c a w h => hq c a _ _ w h) (by rfl) gg ?_ ?_; rotate_left
    · intro w9 h9; go_simp; try with_reducible rfl
    simp only [Act.put, ptA, ptB, ptC]
    refine cvl (l' := #[true, true, false, false, true, true, true, true, true, true, true, true, true, true, true, true, true, true, true, true, true, true, true, true, true, true, true, true, true, true, true, true, true, true, true, true, true, true, true, true, true, true, true, true, true, true, false, false, true, true, true, true, true, true, true, true, true, true, true, true, true, true, true, false, false]) (by kernel_rfl) ?_
    exact t_0_40 hq hx hy hv1 hv2 HK _ _ z1 gg h0 h40
  · go_simp
    with_reducible refine (row66 _).mono ?_
    rintro e z1 ⟨v2, rfl, q1⟩
    have qb := q1.below
    have h2 := Lib.hid (gd_own q1 (rowB_len 66) (by omega))
    have h40 := Lib.hid (h40.out.grow qb)
    have gg2 := gg.trans (qb.mono gg.size)
    clear qb gg
    obtain ⟨a2, c2, rfl, _, _, _, _⟩ := h2.out
    go_simp
    refine hK.out _ _ gg2 (fun gg => ?_)
    clear hK K9 gg2
    simp only [Act.put, ptA, ptB, ptC]
    refine tq 3 ?_ rfl (by kernel_rfl) (fun c a w h => hq c a _ _ w h) (by rfl) gg ?_ ?_; rotate_left
    · intro w9 h9; go_simp; try with_reducible rfl
    simp only [Act.put, ptA, ptB, ptC]
    refine cvl (l' := #[false, false, true, true, true, true, true, true, true, true, true, true, true, true, true, true, true, true, true, true, true, true, true, true, true, true, true, true, true, true, true, true, true, true, true, true, true, true, true, true, true, true, true, true, true, true, false, false, true, true, true, true, true, true, true, true, true, true, true, true, true, true, true, false, false]) (by kernel_rfl) ?_
    exact t_2_40 hq hx hy hv1 hv2 HK _ _ z1 gg h2 h40
  · have qb : Below z.heap.size z (z.alloc (.cells #[.int .u8 7] 5)) := (Below.refl _ _).alloc (Nat.le_refl _) _
    have h46 := Lib.hid (gd_lit z 1 [7] #[.int .u8 7] 5 rfl (by omega))
    have h40 := Lib.hid (h40.out.grow qb)
    have gg2 := gg.trans (qb.mono gg.size)
    clear qb gg
    go_simp
    generalize (z.alloc (.cells #[.int .u8 7] 5)) = z1 at *
    generalize z.heap.size = zb at *
    refine hK.out _ _ gg2 (fun gg => ?_)
    clear hK K9 gg2
    simp only [Act.put, ptA, ptB, ptC]
    refine tq 47 ?_ rfl (by kernel_rfl) (fun c a w h => hq c a _ _ w h) (by rfl) gg ?_ ?_; rotate_left
    · intro w9 h9; go_simp; try with_reducible rfl
    simp only [Act.put, ptA, ptB, ptC]
    refine cvl (l' := #[false, false, false, false, true, true, true, true, true, true, true, true, true, true, true, true, true, true, true, true, true, true, true, true, true, true, true, true, true, true, true, true, true, true, true, true, true, true, true, true, true, true, true, true, true, true, true, true, true, true, true, true, true, true, true, true, true, true, true, true, true, true, true, false, false]) (by kernel_rfl) ?_
    exact t_40_46 hq hx hy hv1 hv2 HK _ _ z1 gg h40 h46
set_option maxRecDepth 1000000 in
set_option maxHeartbeats 20000000 in
theorem t_46 {K : Act → World → Prop} {Q0 : Exit → Act → World → Prop} {g i k : Nat} {x y v : Int} {W : World}
    (hq : ∀ c a d v w, Exit.then K Q0 (.panic c) (Act.put a d v) w → Exit.then K Q0 (.panic c) a w) (hx : i64 x) (hy : i64 y) (hv1 : 0 ≤ v) (hv2 : v ≤ 18446744073709551615)
    (HK : Hid (KH K g i k W u0 u5 u6 u7 u8 u9 u10 u11 u12 u13 u14 u15 u16 u17 u82 u83 u84 u85 u86 u87 u88 u89 u90 u91 u92 u93 u94 u95 u96 u97 u98 u99 u100 u101 u102 u103 u104 u105 u106 u107 u108 u109 u110 u111 u112)) (v46 : Value) (z : World) (gg : Below W.heap.size W z) (h46 : Hid (Gd z v46 1 [7])) :
    wpAnyH Try.prog .any ops8 (Exit.then K Q0) (fun z => Below W.heap.size W z) 8 #[false, false, false, false, true, true, true, true, true, true, true, true, true, true, true, true, true, true, true, true, true, true, true, true, true, true, true, true, true, true, true, true, true, true, true, true, true, true, true, true, false, true, true, true, true, false, true, true, true, true, true, true, true, true, true, true, true, true, true, true, true, true, true, false, false] ⟨#[u0, .slice (some ⟨g, 0, none⟩) 14 14, .int .i64 (i : Int), .int .i64 (k : Int), u4, u5, u6, u7, u8, u9, u10, u11, u12, u13, u14, u15, u16, u17, u18, u19, u20, u21, u22, u23, u24, u25, u26, u27, u28, u29, .agg #[.int .i64 1, .int .i64 2, .int .i64 x, .int .i64 y, .int .i64 0, .int .u64 0, .slice none 0 0], u31, u32, u33, u34, u35, u36, u37, u38, u39, u40, u41, u42, .agg #[.int .i64 2, .int .i64 2, .int .i64 x, .int .i64 y, .int .i64 y, .int .u64 9223372036854775885, .slice none 0 0], u44, u45, u46, u47, u48, u49, u50, u51, u52, .agg #[.int .i64 2, .int .i64 x, .int .i64 0, .int .i64 1, .int .i64 0, .int .u64 v, .slice none 0 0], u54, u55, u56, .int .i64 x, u58, u59, u60, u61, .int .i64 y, u63, v46, (.agg #[.int .i64 3, .int .i64 1, .int .i64 0, .int .i64 0, .int .i64 0, .int .u64 0, v46]), u66, u67, u68, u69, .agg #[.int .i64 4, .int .i64 x, .int .i64 0, .int .i64 0, .int .i64 0, .int .u64 0, .slice none 0 0], u71, u72, u73, u74, .agg #[.int .i64 4, .int .i64 x, .int .i64 0, .int .i64 0, .int .i64 0, .int .u64 0, .slice none 0 0], .agg #[.int .i64 1, .int .i64 1, .int .i64 0, .int .i64 2, .int .i64 0, .int .u64 0, .slice none 0 0], .agg #[.int .i64 5, .int .i64 0, .int .i64 0, .int .i64 0, .int .i64 0, .int .u64 0, .slice none 0 0], .agg #[.int .i64 9, .int .i64 0, .int .i64 0, .int .i64 0, .int .i64 0, .int .u64 0, .slice none 0 0], .agg #[.int .i64 1, .int .i64 1, .int .i64 0, .int .i64 2, .int .i64 0, .int .u64 0, .slice none 0 0], .agg #[.int .i64 0, .int .i64 0, .int .i64 0, .int .i64 0, .int .i64 0, .int .u64 0, .slice none 0 0], u81, u82, u83, u84, u85, u86, u87, u88, u89, u90, u91, u92, u93, u94, u95, u96, u97, u98, u99, u100, u101, u102, u103, u104, u105, u106, u107, u108, u109, u110, u111, u112], []⟩ z := by
  refine wpAnyH_ready (rs := [0, 2, 40]) (by kernel_rfl) (by simp) (tr 0 rfl (fun K9 hK => ?_) (tr 2 rfl (fun K9 hK => ?_) (tr 40 rfl (fun K9 hK => ?_) AllReadyH.nil)))
  · have qb : Below z.heap.size z (z.alloc (.cells #[.int .u8 1, .int .u8 2, .int .u8 3] 5)) := (Below.refl _ _).alloc (Nat.le_refl _) _
    have h0 := Lib.hid (gd_lit z 3 [1, 2, 3] #[.int .u8 1, .int .u8 2, .int .u8 3] 5 rfl (by omega))
    have h46 := Lib.hid (h46.out.grow qb)
    have gg2 := gg.trans (qb.mono gg.size)
    clear qb gg
    go_simp
    generalize (z.alloc (.cells #[.int .u8 1, .int .u8 2, .int .u8 3] 5)) = z1 at *
    generalize z.heap.size = zb at *
    refine hK.out _ _ gg2 (fun gg => ?_)
    clear hK K9 gg2
    simp only [Act.put, ptA, ptB, ptC]
    refine tq 1 ?_ rfl (by kernel_rfl) (fun c a w h => hq c a _ _ w h) (by rfl) gg ?_ ?_; rotate_left
    · intro w9 h9; go_simp; try with_reducible rfl
    simp only [Act.put, ptA, ptB, ptC]
    refine cvl (l' := #[true, true, false, false, true, true, true, true, true, true, true, true, true, true, true, true, true, true, true, true, true, true, true, true, true, true, true, true, true, true, true, true, true, true, true, true, true, true, true, true, false, true, true, true, true, false, true, true, true, true, true, true, true, true, true, true, true, true, true, true, true, true, true, false, false]) (by kernel_rfl) ?_
    exact t_0_46 hq hx hy hv1 hv2 HK _ _ z1 gg h0 h46
  · go_simp
    with_reducible refine (row66 _).mono ?_
    rintro e z1 ⟨v2, rfl, q1⟩
    have qb := q1.below
    have h2 := Lib.hid (gd_own q1 (rowB_len 66) (by omega))
    have h46 := Lib.hid (h46.out.grow qb)
    have gg2 := gg.trans (qb.mono gg.size)
    clear qb gg
    obtain ⟨a2, c2, rfl, _, _, _, _⟩ := h2.out
    go_simp
    refine hK.out _ _ gg2 (fun gg => ?_)
    clear hK K9 gg2
    simp only [Act.put, ptA, ptB, ptC]
    refine tq 3 ?_ rfl (by kernel_rfl) (fun c a w h => hq c a _ _ w h) (by rfl) gg ?_ ?_; rotate_left
    · intro w9 h9; go_simp; try with_reducible rfl
    simp only [Act.put, ptA, ptB, ptC]
    refine cvl (l' := #[false, false, true, true, true, true, true, true, true, true, true, true, true, true, true, true, true, true, true, true, true, true, true, true, true, true, true, true, true, true, true, true, true, true, true, true, true, true, true, true, false, true, true, true, true, false, true, true, true, true, true, true, true, true, true, true, true, true, true, true, true, true, true, false, false]) (by kernel_rfl) ?_
    exact t_2_46 hq hx hy hv1 hv2 HK _ _ z1 gg h2 h46
  · have qb : Below z.heap.size z (z.alloc (.cells #[.int .u8 7, .int .u8 8, .int .u8 9] 5)) := (Below.refl _ _).alloc (Nat.le_refl _) _
    have h40 := Lib.hid (gd_lit z 3 [7, 8, 9] #[.int .u8 7, .int .u8 8, .int .u8 9] 5 rfl (by omega))
    have h46 := Lib.hid (h46.out.grow qb)
    have gg2 := gg.trans (qb.mono gg.size)
    clear qb gg
    go_simp
    generalize (z.alloc (.cells #[.int .u8 7, .int .u8 8, .int .u8 9] 5)) = z1 at *
    generalize z.heap.size = zb at *
    refine hK.out _ _ gg2 (fun gg => ?_)
    clear hK K9 gg2
    simp only [Act.put, ptA, ptB, ptC]
    refine tq 45 ?_ rfl (by kernel_rfl) (fun c a w h => hq c a _ _ w h) (by rfl) gg ?_ ?_; rotate_left
    · intro w9 h9; go_simp; try with_reducible rfl
    simp only [Act.put, ptA, ptB, ptC]
    refine cvl (l' := #[false, false, false, false, true, true, true, true, true, true, true, true, true, true, true, true, true, true, true, true, true, true, true, true, true, true, true, true, true, true, true, true, true, true, true, true, true, true, true, true, true, true, true, true, true, true, true, true, true, true, true, true, true, true, true, true, true, true, true, true, true, true, true, false, false]) (by kernel_rfl) ?_
    exact t_40_46 hq hx hy hv1 hv2 HK _ _ z1 gg h40 h46
set_option maxRecDepth 1000000 in
set_option maxHeartbeats 20000000 in
theorem t_no {K : Act → World → Prop} {Q0 : Exit → Act → World → Prop} {g i k : Nat} {x y v : Int} {W : World}
    (hq : ∀ c a d v w, Exit.then K Q0 (.panic c) (Act.put a d v) w → Exit.then K Q0 (.panic c) a w) (hx : i64 x) (hy : i64 y) (hv1 : 0 ≤ v) (hv2 : v ≤ 18446744073709551615)
    (HK : Hid (KH K g i k W u0 u5 u6 u7 u8 u9 u10 u11 u12 u13 u14 u15 u16 u17 u82 u83 u84 u85 u86 u87 u88 u89 u90 u91 u92 u93 u94 u95 u96 u97 u98 u99 u100 u101 u102 u103 u104 u105 u106 u107 u108 u109 u110 u111 u112)) (z : World) (gg : Below W.heap.size W z) :
    wpAnyH Try.prog .any ops8 (Exit.then K Q0) (fun z => Below W.heap.size W z) 10 #[false, false, false, false, true, true, true, true, true, true, true, true, true, true, true, true, true, true, true, true, true, true, true, true, true, true, true, true, true, true, true, true, true, true, true, true, true, true, true, true, false, true, true, true, true, false, false, false, true, true, true, true, true, true, true, true, true, true, true, true, true, true, true, false, false] ⟨#[u0, .slice (some ⟨g, 0, none⟩) 14 14, .int .i64 (i : Int), .int .i64 (k : Int), u4, u5, u6, u7, u8, u9, u10, u11, u12, u13, u14, u15, u16, u17, u18, u19, u20, u21, u22, u23, u24, u25, u26, u27, u28, u29, .agg #[.int .i64 1, .int .i64 2, .int .i64 x, .int .i64 y, .int .i64 0, .int .u64 0, .slice none 0 0], u31, u32, u33, u34, u35, u36, u37, u38, u39, u40, u41, u42, .agg #[.int .i64 2, .int .i64 2, .int .i64 x, .int .i64 y, .int .i64 y, .int .u64 9223372036854775885, .slice none 0 0], u44, u45, u46, u47, u48, u49, u50, u51, u52, .agg #[.int .i64 2, .int .i64 x, .int .i64 0, .int .i64 1, .int .i64 0, .int .u64 v, .slice none 0 0], u54, u55, u56, .int .i64 x, u58, u59, u60, u61, .int .i64 y, u63, u64, u65, u66, u67, u68, u69, .agg #[.int .i64 4, .int .i64 x, .int .i64 0, .int .i64 0, .int .i64 0, .int .u64 0, .slice none 0 0], u71, u72, u73, u74, .agg #[.int .i64 4, .int .i64 x, .int .i64 0, .int .i64 0, .int .i64 0, .int .u64 0, .slice none 0 0], .agg #[.int .i64 1, .int .i64 1, .int .i64 0, .int .i64 2, .int .i64 0, .int .u64 0, .slice none 0 0], .agg #[.int .i64 5, .int .i64 0, .int .i64 0, .int .i64 0, .int .i64 0, .int .u64 0, .slice none 0 0], .agg #[.int .i64 9, .int .i64 0, .int .i64 0, .int .i64 0, .int .i64 0, .int .u64 0, .slice none 0 0], .agg #[.int .i64 1, .int .i64 1, .int .i64 0, .int .i64 2, .int .i64 0, .int .u64 0, .slice none 0 0], .agg #[.int .i64 0, .int .i64 0, .int .i64 0, .int .i64 0, .int .i64 0, .int .u64 0, .slice none 0 0], u81, u82, u83, u84, u85, u86, u87, u88, u89, u90, u91, u92, u93, u94, u95, u96, u97, u98, u99, u100, u101, u102, u103, u104, u105, u106, u107, u108, u109, u110, u111, u112], []⟩ z := by
  refine wpAnyH_ready (rs := [0, 2, 40, 46]) (by kernel_rfl) (by simp) (tr 0 rfl (fun K9 hK => ?_) (tr 2 rfl (fun K9 hK => ?_) (tr 40 rfl (fun K9 hK => ?_) (tr 46 rfl (fun K9 hK => ?_) AllReadyH.nil))))
  · have qb : Below z.heap.size z (z.alloc (.cells #[.int .u8 1, .int .u8 2, .int .u8 3] 5)) := (Below.refl _ _).alloc (Nat.le_refl _) _
    have h0 := Lib.hid (gd_lit z 3 [1, 2, 3] #[.int .u8 1, .int .u8 2, .int .u8 3] 5 rfl (by omega))
    have gg2 := gg.trans (qb.mono gg.size)
    clear qb gg
    go_simp
    generalize (z.alloc (.cells #[.int .u8 1, .int .u8 2, .int .u8 3] 5)) = z1 at *
    generalize z.heap.size = zb at *
    refine hK.out _ _ gg2 (fun gg => ?_)
    clear hK K9 gg2
    simp only [Act.put, ptA, ptB, ptC]
    refine tq 1 ?_ rfl (by kernel_rfl) (fun c a w h => hq c a _ _ w h) (by rfl) gg ?_ ?_; rotate_left
    · intro w9 h9; go_simp; try with_reducible rfl
    simp only [Act.put, ptA, ptB, ptC]
    refine cvl (l' := #[true, true, false, false, true, true, true, true, true, true, true, true, true, true, true, true, true, true, true, true, true, true, true, true, true, true, true, true, true, true, true, true, true, true, true, true, true, true, true, true, false, true, true, true, true, false, false, false, true, true, true, true, true, true, true, true, true, true, true, true, true, true, true, false, false]) (by kernel_rfl) ?_
    exact t_0 hq hx hy hv1 hv2 HK _ z1 gg h0
  · go_simp
    with_reducible refine (row66 _).mono ?_
    rintro e z1 ⟨v2, rfl, q1⟩
    have qb := q1.below
    have h2 := Lib.hid (gd_own q1 (rowB_len 66) (by omega))
    have gg2 := gg.trans (qb.mono gg.size)
    clear qb gg
    obtain ⟨a2, c2, rfl, _, _, _, _⟩ := h2.out
    go_simp
    refine hK.out _ _ gg2 (fun gg => ?_)
    clear hK K9 gg2
    simp only [Act.put, ptA, ptB, ptC]
    refine tq 3 ?_ rfl (by kernel_rfl) (fun c a w h => hq c a _ _ w h) (by rfl) gg ?_ ?_; rotate_left
    · intro w9 h9; go_simp; try with_reducible rfl
    simp only [Act.put, ptA, ptB, ptC]
    refine cvl (l' := #[false, false, true, true, true, true, true, true, true, true, true, true, true, true, true, true, true, true, true, true, true, true, true, true, true, true, true, true, true, true, true, true, true, true, true, true, true, true, true, true, false, true, true, true, true, false, false, false, true, true, true, true, true, true, true, true, true, true, true, true, true, true, true, false, false]) (by kernel_rfl) ?_
    exact t_2 hq hx hy hv1 hv2 HK _ z1 gg h2
  · have qb : Below z.heap.size z (z.alloc (.cells #[.int .u8 7, .int .u8 8, .int .u8 9] 5)) := (Below.refl _ _).alloc (Nat.le_refl _) _
    have h40 := Lib.hid (gd_lit z 3 [7, 8, 9] #[.int .u8 7, .int .u8 8, .int .u8 9] 5 rfl (by omega))
    have gg2 := gg.trans (qb.mono gg.size)
    clear qb gg
    go_simp
    generalize (z.alloc (.cells #[.int .u8 7, .int .u8 8, .int .u8 9] 5)) = z1 at *
    generalize z.heap.size = zb at *
    refine hK.out _ _ gg2 (fun gg => ?_)
    clear hK K9 gg2
    simp only [Act.put, ptA, ptB, ptC]
    refine tq 45 ?_ rfl (by kernel_rfl) (fun c a w h => hq c a _ _ w h) (by rfl) gg ?_ ?_; rotate_left
    · intro w9 h9; go_simp; try with_reducible rfl
    simp only [Act.put, ptA, ptB, ptC]
    refine cvl (l' := #[false, false, false, false, true, true, true, true, true, true, true, true, true, true, true, true, true, true, true, true, true, true, true, true, true, true, true, true, true, true, true, true, true, true, true, true, true, true, true, true, true, true, true, true, true, true, false, false, true, true, true, true, true, true, true, true, true, true, true, true, true, true, true, false, false]) (by kernel_rfl) ?_
    exact t_40 hq hx hy hv1 hv2 HK _ z1 gg h40
  · have qb : Below z.heap.size z (z.alloc (.cells #[.int .u8 7] 5)) := (Below.refl _ _).alloc (Nat.le_refl _) _
    have h46 := Lib.hid (gd_lit z 1 [7] #[.int .u8 7] 5 rfl (by omega))
    have gg2 := gg.trans (qb.mono gg.size)
    clear qb gg
    go_simp
    generalize (z.alloc (.cells #[.int .u8 7] 5)) = z1 at *
    generalize z.heap.size = zb at *
    refine hK.out _ _ gg2 (fun gg => ?_)
    clear hK K9 gg2
    simp only [Act.put, ptA, ptB, ptC]
    refine tq 47 ?_ rfl (by kernel_rfl) (fun c a w h => hq c a _ _ w h) (by rfl) gg ?_ ?_; rotate_left
    · intro w9 h9; go_simp; try with_reducible rfl
    simp only [Act.put, ptA, ptB, ptC]
    refine cvl (l' := #[false, false, false, false, true, true, true, true, true, true, true, true, true, true, true, true, true, true, true, true, true, true, true, true, true, true, true, true, true, true, true, true, true, true, true, true, true, true, true, true, false, true, true, true, true, false, true, true, true, true, true, true, true, true, true, true, true, true, true, true, true, true, true, false, false]) (by kernel_rfl) ?_
    exact t_46 hq hx hy hv1 hv2 HK _ z1 gg h46
set_option maxRecDepth 1000000 in
set_option maxHeartbeats 20000000 in
theorem g8 {K : Act → World → Prop} {Q0 : Exit → Act → World → Prop} {g i k : Nat} {x y v : Int} {W : World}
    (hQ : ∀ c a d v w, Q0 (.panic c) (Act.put a d v) w → Q0 (.panic c) a w) (hi : (i : Int) < 14) (hk : (k : Int) < 14) (hi0 : (0 : Int) ≤ (i : Int)) (hk0 : (0 : Int) ≤ (k : Int)) (hv : IntKind.u64.wrap y = v) (hv1 : 0 ≤ v) (hv2 : v ≤ 18446744073709551615) (hx : i64 x) (hy : i64 y) (HC : Hid (∀ z, Below W.heap.size W z → z.cell? ⟨g, i, none⟩ = some (.int .i64 x) ∧ z.cell? ⟨g, k, none⟩ = some (.int .i64 y)))
    (HK : Hid (KH K g i k W u0 u5 u6 u7 u8 u9 u10 u11 u12 u13 u14 u15 u16 u17 u82 u83 u84 u85 u86 u87 u88 u89 u90 u91 u92 u93 u94 u95 u96 u97 u98 u99 u100 u101 u102 u103 u104 u105 u106 u107 u108 u109 u110 u111 u112)) :
    c8.wp Try.prog (Exit.then K Q0) ⟨#[u0, .slice (some ⟨g, 0, none⟩) 14 14, .int .i64 (i : Int), .int .i64 (k : Int), u4, u5, u6, u7, u8, u9, u10, u11, u12, u13, u14, u15, u16, u17, u18, u19, u20, u21, u22, u23, u24, u25, u26, u27, u28, u29, u30, u31, u32, u33, u34, u35, u36, u37, u38, u39, u40, u41, u42, u43, u44, u45, u46, u47, u48, u49, u50, u51, u52, u53, u54, u55, u56, u57, u58, u59, u60, u61, u62, u63, u64, u65, u66, u67, u68, u69, u70, u71, u72, u73, u74, u75, u76, u77, u78, u79, u80, u81, u82, u83, u84, u85, u86, u87, u88, u89, u90, u91, u92, u93, u94, u95, u96, u97, u98, u99, u100, u101, u102, u103, u104, u105, u106, u107, u108, u109, u110, u111, u112], []⟩ W := by
  have hq : ∀ c a d v w, Exit.then K Q0 (.panic c) (Act.put a d v) w → Exit.then K Q0 (.panic c) a w := hQ
  conv => arg 2; whnf
  refine wp_region_held_drew (S := (fun z => Below W.heap.size W z)) (by kernel_rfl) ((Below.refl _ _).drew) (fun gg => ?_)
  generalize W.drew = z0 at *
  try simp only [List.append_eq, List.cons_append, List.nil_append]
  refine tq 4 ?_ rfl (by kernel_rfl) (fun c a w h => hq c a _ _ w h) (by rfl) gg ?_ ?_; rotate_left
  · intro w9 h9; go_simp; try with_reducible rfl
  simp only [Act.put, ptA, ptB, ptC]
  refine tq 5 ?_ rfl (by kernel_rfl) (fun c a w h => hq c a _ _ w h) (by rfl) gg ?_ ?_; rotate_left
  · intro w9 h9; go_simp; try with_reducible rfl
  simp only [Act.put, ptA, ptB, ptC]
  refine tq 6 ?_ rfl (by kernel_rfl) (fun c a w h => hq c a _ _ w h) (by rfl) gg ?_ ?_; rotate_left
  · intro w9 h9; go_simp; try with_reducible rfl
  simp only [Act.put, ptA, ptB, ptC]
  refine tq 7 ?_ rfl (by kernel_rfl) (fun c a w h => hq c a _ _ w h) (by rfl) gg ?_ ?_; rotate_left
  · intro w9 h9; obtain ⟨d0, d1⟩ := HC.out _ h9; go_simp; try with_reducible rfl
  simp only [Act.put, ptA, ptB, ptC]
  refine tq 8 ?_ rfl (by kernel_rfl) (fun c a w h => hq c a _ _ w h) (by rfl) gg ?_ ?_; rotate_left
  · intro w9 h9; go_simp; try with_reducible rfl
  simp only [Act.put, ptA, ptB, ptC]
  refine tq 9 ?_ rfl (by kernel_rfl) (fun c a w h => hq c a _ _ w h) (by rfl) gg ?_ ?_; rotate_left
  · intro w9 h9; go_simp; try with_reducible rfl
  simp only [Act.put, ptA, ptB, ptC]
  refine tq 10 ?_ rfl (by kernel_rfl) (fun c a w h => hq c a _ _ w h) (by rfl) gg ?_ ?_; rotate_left
  · intro w9 h9; go_simp; try with_reducible rfl
  simp only [Act.put, ptA, ptB, ptC]
  refine tq 11 ?_ rfl (by kernel_rfl) (fun c a w h => hq c a _ _ w h) (by rfl) gg ?_ ?_; rotate_left
  · intro w9 h9; obtain ⟨d0, d1⟩ := HC.out _ h9; go_simp; try with_reducible rfl
  simp only [Act.put, ptA, ptB, ptC]
  refine tq 12 ?_ rfl (by kernel_rfl) (fun c a w h => hq c a _ _ w h) (by rfl) gg ?_ ?_; rotate_left
  · intro w9 h9; go_simp; try with_reducible rfl
  simp only [Act.put, ptA, ptB, ptC]
  refine tq 13 ?_ rfl (by kernel_rfl) (fun c a w h => hq c a _ _ w h) (by rfl) gg ?_ ?_; rotate_left
  · intro w9 h9; go_simp; try with_reducible rfl
  simp only [Act.put, ptA, ptB, ptC]
  refine tq 14 ?_ rfl (by kernel_rfl) (fun c a w h => hq c a _ _ w h) (by rfl) gg ?_ ?_; rotate_left
  · intro w9 h9; go_simp; try with_reducible rfl
  simp only [Act.put, ptA, ptB, ptC]
  refine tq 15 ?_ rfl (by kernel_rfl) (fun c a w h => hq c a _ _ w h) (by rfl) gg ?_ ?_; rotate_left
  · intro w9 h9; go_simp; try with_reducible rfl
  simp only [Act.put, ptA, ptB, ptC]
  refine tq 16 ?_ rfl (by kernel_rfl) (fun c a w h => hq c a _ _ w h) (by rfl) gg ?_ ?_; rotate_left
  · intro w9 h9; obtain ⟨d0, d1⟩ := HC.out _ h9; go_simp; try with_reducible rfl
  simp only [Act.put, ptA, ptB, ptC]
  refine tq 17 ?_ rfl (by kernel_rfl) (fun c a w h => hq c a _ _ w h) (by rfl) gg ?_ ?_; rotate_left
  · intro w9 h9; go_simp; try with_reducible rfl
  simp only [Act.put, ptA, ptB, ptC]
  refine tq 18 ?_ rfl (by kernel_rfl) (fun c a w h => hq c a _ _ w h) (by rfl) gg ?_ ?_; rotate_left
  · intro w9 h9; go_simp; try with_reducible rfl
  simp only [Act.put, ptA, ptB, ptC]
  refine tq 19 ?_ rfl (by kernel_rfl) (fun c a w h => hq c a _ _ w h) (by rfl) gg ?_ ?_; rotate_left
  · intro w9 h9; go_simp; try with_reducible rfl
  simp only [Act.put, ptA, ptB, ptC]
  refine tq 20 ?_ rfl (by kernel_rfl) (fun c a w h => hq c a _ _ w h) (by rfl) gg ?_ ?_; rotate_left
  · intro w9 h9; obtain ⟨d0, d1⟩ := HC.out _ h9; go_simp; try with_reducible rfl
  simp only [Act.put, ptA, ptB, ptC]
  refine tq 21 ?_ rfl (by kernel_rfl) (fun c a w h => hq c a _ _ w h) (by rfl) gg ?_ ?_; rotate_left
  · intro w9 h9; go_simp; try with_reducible rfl
  simp only [Act.put, ptA, ptB, ptC]
  refine tq 22 ?_ rfl (by kernel_rfl) (fun c a w h => hq c a _ _ w h) (by rfl) gg ?_ ?_; rotate_left
  · intro w9 h9; go_simp; try with_reducible rfl
  simp only [Act.put, ptA, ptB, ptC]
  refine tq 23 ?_ rfl (by kernel_rfl) (fun c a w h => hq c a _ _ w h) (by rfl) gg ?_ ?_; rotate_left
  · intro w9 h9; go_simp; try with_reducible rfl
  simp only [Act.put, ptA, ptB, ptC]
  refine tq 24 ?_ rfl (by kernel_rfl) (fun c a w h => hq c a _ _ w h) (by rfl) gg ?_ ?_; rotate_left
  · intro w9 h9; obtain ⟨d0, d1⟩ := HC.out _ h9; go_simp; try with_reducible rfl
  simp only [Act.put, ptA, ptB, ptC]
  refine tq 25 ?_ rfl (by kernel_rfl) (fun c a w h => hq c a _ _ w h) (by rfl) gg ?_ ?_; rotate_left
  · intro w9 h9; go_simp; try with_reducible rfl
  simp only [Act.put, ptA, ptB, ptC]
  refine tq 26 ?_ rfl (by kernel_rfl) (fun c a w h => hq c a _ _ w h) (by rfl) gg ?_ ?_; rotate_left
  · intro w9 h9; go_simp; try with_reducible rfl
  simp only [Act.put, ptA, ptB, ptC]
  refine tq 27 ?_ rfl (by kernel_rfl) (fun c a w h => hq c a _ _ w h) (by rfl) gg ?_ ?_; rotate_left
  · intro w9 h9; go_simp; try with_reducible rfl
  simp only [Act.put, ptA, ptB, ptC]
  refine tq 28 ?_ rfl (by kernel_rfl) (fun c a w h => hq c a _ _ w h) (by rfl) gg ?_ ?_; rotate_left
  · intro w9 h9; go_simp; try with_reducible rfl
  simp only [Act.put, ptA, ptB, ptC]
  refine tq 29 ?_ rfl (by kernel_rfl) (fun c a w h => hq c a _ _ w h) (by rfl) gg ?_ ?_; rotate_left
  · intro w9 h9; obtain ⟨d0, d1⟩ := HC.out _ h9; go_simp; try with_reducible rfl
  simp only [Act.put, ptA, ptB, ptC]
  refine tq 30 ?_ rfl (by kernel_rfl) (fun c a w h => hq c a _ _ w h) (by rfl) gg ?_ ?_; rotate_left
  · intro w9 h9; go_simp; try with_reducible rfl
  simp only [Act.put, ptA, ptB, ptC]
  refine tq 31 ?_ rfl (by kernel_rfl) (fun c a w h => hq c a _ _ w h) (by rfl) gg ?_ ?_; rotate_left
  · intro w9 h9; go_simp; try with_reducible rfl
  simp only [Act.put, ptA, ptB, ptC]
  refine tq 32 ?_ rfl (by kernel_rfl) (fun c a w h => hq c a _ _ w h) (by rfl) gg ?_ ?_; rotate_left
  · intro w9 h9; go_simp; try with_reducible rfl
  simp only [Act.put, ptA, ptB, ptC]
  refine tq 33 ?_ rfl (by kernel_rfl) (fun c a w h => hq c a _ _ w h) (by rfl) gg ?_ ?_; rotate_left
  · intro w9 h9; obtain ⟨d0, d1⟩ := HC.out _ h9; go_simp; try with_reducible rfl
  simp only [Act.put, ptA, ptB, ptC]
  refine tq 34 ?_ rfl (by kernel_rfl) (fun c a w h => hq c a _ _ w h) (by rfl) gg ?_ ?_; rotate_left
  · intro w9 h9; go_simp; try with_reducible rfl
  simp only [Act.put, ptA, ptB, ptC]
  try simp only [hv]
  refine tq 35 ?_ rfl (by kernel_rfl) (fun c a w h => hq c a _ _ w h) (by rfl) gg ?_ ?_; rotate_left
  · intro w9 h9; go_simp; try with_reducible rfl
  simp only [Act.put, ptA, ptB, ptC]
  refine tq 36 ?_ rfl (by kernel_rfl) (fun c a w h => hq c a _ _ w h) (by rfl) gg ?_ ?_; rotate_left
  · intro w9 h9; go_simp; try with_reducible rfl
  simp only [Act.put, ptA, ptB, ptC]
  refine tq 37 ?_ rfl (by kernel_rfl) (fun c a w h => hq c a _ _ w h) (by rfl) gg ?_ ?_; rotate_left
  · intro w9 h9; go_simp; try with_reducible rfl
  simp only [Act.put, ptA, ptB, ptC]
  refine tq 38 ?_ rfl (by kernel_rfl) (fun c a w h => hq c a _ _ w h) (by rfl) gg ?_ ?_; rotate_left
  · intro w9 h9; go_simp; try with_reducible rfl
  simp only [Act.put, ptA, ptB, ptC]
  refine tq 39 ?_ rfl (by kernel_rfl) (fun c a w h => hq c a _ _ w h) (by rfl) gg ?_ ?_; rotate_left
  · intro w9 h9; obtain ⟨d0, d1⟩ := HC.out _ h9; go_simp; try with_reducible rfl
  simp only [Act.put, ptA, ptB, ptC]
  refine tq 41 ?_ rfl (by kernel_rfl) (fun c a w h => hq c a _ _ w h) (by rfl) gg ?_ ?_; rotate_left
  · intro w9 h9; go_simp; try with_reducible rfl
  simp only [Act.put, ptA, ptB, ptC]
  refine tq 42 ?_ rfl (by kernel_rfl) (fun c a w h => hq c a _ _ w h) (by rfl) gg ?_ ?_; rotate_left
  · intro w9 h9; go_simp; try with_reducible rfl
  simp only [Act.put, ptA, ptB, ptC]
  refine tq 43 ?_ rfl (by kernel_rfl) (fun c a w h => hq c a _ _ w h) (by rfl) gg ?_ ?_; rotate_left
  · intro w9 h9; go_simp; try with_reducible rfl
  simp only [Act.put, ptA, ptB, ptC]
  refine tq 44 ?_ rfl (by kernel_rfl) (fun c a w h => hq c a _ _ w h) (by rfl) gg ?_ ?_; rotate_left
  · intro w9 h9; obtain ⟨d0, d1⟩ := HC.out _ h9; go_simp; try with_reducible rfl
  simp only [Act.put, ptA, ptB, ptC]
  refine tq 48 ?_ rfl (by kernel_rfl) (fun c a w h => hq c a _ _ w h) (by rfl) gg ?_ ?_; rotate_left
  · intro w9 h9; go_simp; try with_reducible rfl
  simp only [Act.put, ptA, ptB, ptC]
  refine tq 49 ?_ rfl (by kernel_rfl) (fun c a w h => hq c a _ _ w h) (by rfl) gg ?_ ?_; rotate_left
  · intro w9 h9; go_simp; try with_reducible rfl
  simp only [Act.put, ptA, ptB, ptC]
  refine tq 50 ?_ rfl (by kernel_rfl) (fun c a w h => hq c a _ _ w h) (by rfl) gg ?_ ?_; rotate_left
  · intro w9 h9; go_simp; try with_reducible rfl
  simp only [Act.put, ptA, ptB, ptC]
  refine tq 51 ?_ rfl (by kernel_rfl) (fun c a w h => hq c a _ _ w h) (by rfl) gg ?_ ?_; rotate_left
  · intro w9 h9; obtain ⟨d0, d1⟩ := HC.out _ h9; go_simp; try with_reducible rfl
  simp only [Act.put, ptA, ptB, ptC]
  refine tq 52 ?_ rfl (by kernel_rfl) (fun c a w h => hq c a _ _ w h) (by rfl) gg ?_ ?_; rotate_left
  · intro w9 h9; go_simp; try with_reducible rfl
  simp only [Act.put, ptA, ptB, ptC]
  refine tq 53 ?_ rfl (by kernel_rfl) (fun c a w h => hq c a _ _ w h) (by rfl) gg ?_ ?_; rotate_left
  · intro w9 h9; go_simp; try with_reducible rfl
  simp only [Act.put, ptA, ptB, ptC]
  refine tq 54 ?_ rfl (by kernel_rfl) (fun c a w h => hq c a _ _ w h) (by rfl) gg ?_ ?_; rotate_left
  · intro w9 h9; go_simp; try with_reducible rfl
  simp only [Act.put, ptA, ptB, ptC]
  refine tq 55 ?_ rfl (by kernel_rfl) (fun c a w h => hq c a _ _ w h) (by rfl) gg ?_ ?_; rotate_left
  · intro w9 h9; go_simp; try with_reducible rfl
  simp only [Act.put, ptA, ptB, ptC]
  refine tq 56 ?_ rfl (by kernel_rfl) (fun c a w h => hq c a _ _ w h) (by rfl) gg ?_ ?_; rotate_left
  · intro w9 h9; obtain ⟨d0, d1⟩ := HC.out _ h9; go_simp; try with_reducible rfl
  simp only [Act.put, ptA, ptB, ptC]
  refine tq 57 ?_ rfl (by kernel_rfl) (fun c a w h => hq c a _ _ w h) (by rfl) gg ?_ ?_; rotate_left
  · intro w9 h9; go_simp; try with_reducible rfl
  simp only [Act.put, ptA, ptB, ptC]
  refine tq 58 ?_ rfl (by kernel_rfl) (fun c a w h => hq c a _ _ w h) (by rfl) gg ?_ ?_; rotate_left
  · intro w9 h9; go_simp; try with_reducible rfl
  simp only [Act.put, ptA, ptB, ptC]
  refine tq 59 ?_ rfl (by kernel_rfl) (fun c a w h => hq c a _ _ w h) (by rfl) gg ?_ ?_; rotate_left
  · intro w9 h9; go_simp; try with_reducible rfl
  simp only [Act.put, ptA, ptB, ptC]
  refine tq 60 ?_ rfl (by kernel_rfl) (fun c a w h => hq c a _ _ w h) (by rfl) gg ?_ ?_; rotate_left
  · intro w9 h9; go_simp; try with_reducible rfl
  simp only [Act.put, ptA, ptB, ptC]
  refine tq 61 ?_ rfl (by kernel_rfl) (fun c a w h => hq c a _ _ w h) (by rfl) gg ?_ ?_; rotate_left
  · intro w9 h9; go_simp; try with_reducible rfl
  simp only [Act.put, ptA, ptB, ptC]
  refine tq 62 ?_ rfl (by kernel_rfl) (fun c a w h => hq c a _ _ w h) (by rfl) gg ?_ ?_; rotate_left
  · intro w9 h9; go_simp; try with_reducible rfl
  simp only [Act.put, ptA, ptB, ptC]
  refine cvl (l' := #[false, false, false, false, true, true, true, true, true, true, true, true, true, true, true, true, true, true, true, true, true, true, true, true, true, true, true, true, true, true, true, true, true, true, true, true, true, true, true, true, false, true, true, true, true, false, false, false, true, true, true, true, true, true, true, true, true, true, true, true, true, true, true, false, false]) (by kernel_rfl) ?_
  exact t_no hq hx hy hv1 hv2 HK z0 gg
end

def nE : List Int := [(-9223372036854775808), (-1), 0, 1, 2, 3, 4, 8, 9, 63, 64, 65, 9223372036854775800, 9223372036854775807]
theorem nE_i64 (k : Nat) (h : k < 14) : i64 (nE.getD k 0) := by
  rcases k with _|_|_|_|_|_|_|_|_|_|_|_|_|_|k <;> first | exact ⟨by decide, by decide⟩ | omega
theorem nE_all : ∀ t ∈ nE, i64 t := by
  intro t ht
  obtain ⟨k, hk, rfl⟩ := List.getElem_of_mem ht
  have := nE_i64 k hk
  rwa [List.getD_eq_getElem?_getD, List.getElem?_eq_getElem hk] at this
theorem kcell {z w : World} {g : Nat} {cs : Array Value} {t : TypeId} (hb : Below (w.alloc (.cells cs t)).heap.size (w.alloc (.cells cs t)) z) (hg : g = w.heap.size) (j : Nat) (u : Value) (hu : cs[j]? = some u) : z.cell? ⟨g, j, none⟩ = some u := by
  subst hg
  have h1 : Bk (w.alloc (.cells cs t)) w.heap.size t cs := heap_alloc_new w _
  rw [hb.cell (p := ⟨w.heap.size, j, none⟩) (by simp), h1.cell, hu]
theorem wfi {n : Int} (h : i64 n) : (Lit.int .i64 n).wf = true := by obtain ⟨h1, h2⟩ := h; simp [Lit.wf, IntKind.min, IntKind.max, IntKind.signed, IntKind.bits] <;> omega
theorem wfu {n : Int} (h : 0 ≤ n ∧ n ≤ 18446744073709551615) : (Lit.int .u64 n).wf = true := by simp [Lit.wf, IntKind.min, IntKind.max, IntKind.signed, IntKind.bits] <;> omega
theorem ops_grow {w w' : World} {a : Option Addr} {L : List Opn} (h : OpsAt w w.heap.size a L) (hb : Below w.heap.size w w') : OpsAt w' w'.heap.size a L :=
  ⟨(h.row.below hb).mono hb.size, fun x hx => ((h.bytes x hx).below hb).mono hb.size⟩
theorem rd_nums {w z : World} {g : Nat} {cs : Array Value} {t : TypeId} (l : List Int) (hc : cs.toList = iv8 l) (hb : Below (w.alloc (.cells cs t)).heap.size (w.alloc (.cells cs t)) z) (hg : g = w.heap.size) : Rd z z.heap.size (some ⟨g, 0, none⟩) (iv8 l) := fun _ => by
  subst hg
  refine ⟨_, rfl, by have := hb.size; simp at this ⊢; omega, fun j u hu => ?_⟩
  rw [add_zero_at]
  refine kcell hb rfl j u ?_
  rw [← Array.getElem?_toList, hc]
  exact hu
def OkC9 (F : Nat) (args : Array Value) (z : World) : Prop := Calls Try.prog F args z fun e w' => e = .returned (.bool true) ∧ Below z.heap.size z w'

set_option maxRecDepth 100000 in
set_option maxHeartbeats 4000000 in
theorem walk (w : World) :
    Calls Try.prog 7 #[] w fun e w' => e = .returned (.bool true) ∧ Below w.heap.size w w' := by
  have B0 : Hid (Below w.heap.size w (w.alloc (.cells #[.int .i64 (-9223372036854775808), .int .i64 (-1), .int .i64 0, .int .i64 1, .int .i64 2, .int .i64 3, .int .i64 4, .int .i64 8, .int .i64 9, .int .i64 63, .int .i64 64, .int .i64 65, .int .i64 9223372036854775800, .int .i64 9223372036854775807] 3))) := Lib.hid ((Below.refl _ _).alloc (Nat.le_refl _) _)
  have HCE0 : Hid (∀ z, Below (w.alloc (.cells #[.int .i64 (-9223372036854775808), .int .i64 (-1), .int .i64 0, .int .i64 1, .int .i64 2, .int .i64 3, .int .i64 4, .int .i64 8, .int .i64 9, .int .i64 63, .int .i64 64, .int .i64 65, .int .i64 9223372036854775800, .int .i64 9223372036854775807] 3)).heap.size (w.alloc (.cells #[.int .i64 (-9223372036854775808), .int .i64 (-1), .int .i64 0, .int .i64 1, .int .i64 2, .int .i64 3, .int .i64 4, .int .i64 8, .int .i64 9, .int .i64 63, .int .i64 64, .int .i64 65, .int .i64 9223372036854775800, .int .i64 9223372036854775807] 3)) z → ∀ j, j < 14 → z.cell? ⟨w.heap.size, j, none⟩ = some (.int .i64 (nE.getD j 0))) := Lib.hid (fun z hz j hj => by
    refine kcell hz rfl j _ ?_
    rcases j with _|_|_|_|_|_|_|_|_|_|_|_|_|_|j <;> first | rfl | omega)
  have HRN : Hid (∀ z, Below (w.alloc (.cells #[.int .i64 (-9223372036854775808), .int .i64 (-1), .int .i64 0, .int .i64 1, .int .i64 2, .int .i64 3, .int .i64 4, .int .i64 8, .int .i64 9, .int .i64 63, .int .i64 64, .int .i64 65, .int .i64 9223372036854775800, .int .i64 9223372036854775807] 3)).heap.size (w.alloc (.cells #[.int .i64 (-9223372036854775808), .int .i64 (-1), .int .i64 0, .int .i64 1, .int .i64 2, .int .i64 3, .int .i64 4, .int .i64 8, .int .i64 9, .int .i64 63, .int .i64 64, .int .i64 65, .int .i64 9223372036854775800, .int .i64 9223372036854775807] 3)) z → Rd z z.heap.size (some ⟨w.heap.size, 0, none⟩) (iv8 nE)) := Lib.hid (fun z hz => rd_nums nE rfl hz rfl)
  go_enter Try.func7, Try.ntmps7
  go_wp2_with fail
  generalize (w.alloc (.cells #[.int .i64 (-9223372036854775808), .int .i64 (-1), .int .i64 0, .int .i64 1, .int .i64 2, .int .i64 3, .int .i64 4, .int .i64 8, .int .i64 9, .int .i64 63, .int .i64 64, .int .i64 65, .int .i64 9223372036854775800, .int .i64 9223372036854775807] 3)) = w9 at *
  obtain ⟨g1, hg1⟩ : ∃ g1, w.heap.size = g1 := ⟨_, rfl⟩
  rw [hg1] at HCE0 HRN
  try rw [hg1]
  go_loopw [2] (fun i wr => ∃ k : Nat, k ≤ 14 ∧ i = .int .i64 k ∧ Hid (Below w9.heap.size w9 wr)) (fun i _ => 14 - (intOf i).toNat)
  case atStart => exact ⟨0, Nat.zero_le _, rfl, Lib.hid (Below.refl _ _)⟩
  case round =>
    obtain ⟨i, hi, rfl, HB⟩ := hrel
    by_cases hlt : i < 14
    · have i1 : (i : Int) < 14 := by omega
      have i0 : (0 : Int) ≤ (i : Int) := by omega
      go_wp2_with fail
      go_loopw [3] (fun i wr => ∃ k : Nat, k ≤ 14 ∧ i = .int .i64 k ∧ Hid (Below w9.heap.size w9 wr)) (fun i _ => 14 - (intOf i).toNat)
      case atStart => exact ⟨0, Nat.zero_le _, rfl, HB⟩
      case round =>
        obtain ⟨k, hk, rfl, HB8⟩ := hrel
        clear HB
        by_cases hkt : k < 14
        · have k1 : (k : Int) < 14 := by omega
          have k0 : (0 : Int) ≤ (k : Int) := by omega
          have hx := nE_i64 i hlt
          have hy := nE_i64 k hkt
          have HC := Lib.hid (fun z hz => (⟨HCE0.out z hz i hlt, HCE0.out z hz k hkt⟩ : z.cell? ⟨g1, i, none⟩ = some (.int .i64 (nE.getD i 0)) ∧ z.cell? ⟨g1, k, none⟩ = some (.int .i64 (nE.getD k 0))))
          generalize nE.getD i 0 = x at *
          generalize nE.getD k 0 = y at *
          obtain ⟨v, hv⟩ : ∃ v, IntKind.u64.wrap y = v := ⟨_, rfl⟩
          have hv1 : 0 ≤ v := by rw [← hv, IntKind.wrap_u64]; omega
          have hv2 : v ≤ 18446744073709551615 := by rw [← hv, IntKind.wrap_u64]; omega
          go_wp2_with fail
          refine g8 (fun _ _ d _ _ h => by cases d <;> exact h) i1 k1 i0 k0 hv hv1 hv2 hx hy (Lib.hid (fun z hz => HC.out z (HB8.out.trans (hz.mono HB8.out.size)))) (Lib.hid ?_)
          intro u18 u19 u20 u21 u22 u23 u24 u25 u26 u27 u28 u29 u30 u31 u32 u33 u34 u35 u36 u37 u38 u39 u40 u41 u42 u43 u44 u45 u46 u47 u48 u49 u50 u51 u52 u53 u54 u55 u56 u57 u58 u59 u60 u61 u62 u63 u64 u65 u66 u67 u68 u69 u70 u71 u72 u73 u74 u75 u76 u77 u78 u79 u80 u81 a L z hbz hl hf hoz
          have HB9 := Lib.hid (HB8.out.trans (hbz.mono HB8.out.size))
          have HOz := Lib.hid hoz
          clear hbz hoz HB8 hv
          dsimp only
          go_wp2_with fail
          refine wp_region_held_drew (S := (fun z => Below w9.heap.size w9 z)) (by kernel_rfl) (HB9.out.drew) (fun g => ?_)
          have HO0 : Hid (OpsAt z.drew z.drew.heap.size (some a) L) := Lib.hid ⟨HOz.out.row, HOz.out.bytes⟩
          generalize z.drew = z0 at *
          clear HOz HB9
          refine tq 0 ?_ rfl (by kernel_rfl) (fun _ _ _ h => h) (by rfl) g ?_ ?_; rotate_left
          · intro w9' h9; go_simp; try with_reducible rfl
          simp only [Act.put, ptA, ptB, ptC]
          refine tc 1 rfl (by kernel_rfl) (fun K9 hK => ?_)
          go_simp
          with_reducible refine (cellsRuns.walk (some a) 14 14 L z0 hl hf (Nat.le_refl _) (by omega) HO0.out).mono ?_
          rintro e z1 ⟨rfl, q1⟩
          have g2 := g.trans (q1.mono g.size)
          have HO1 := Lib.hid (ops_grow HO0.out q1)
          clear q1 HO0 g
          try go_simp
          refine hK.out _ _ g2 (fun g => ?_)
          clear hK K9 g2 z0
          try simp only [Act.put, ptA, ptB, ptC]
          refine tq 2 ?_ rfl (by kernel_rfl) (fun _ _ _ h => h) (by rfl) g ?_ ?_; rotate_left
          · intro w9' h9; go_simp; try with_reducible rfl
          simp only [Act.put, ptA, ptB, ptC]
          refine tq 3 ?_ rfl (by kernel_rfl) (fun _ _ _ h => h) (by rfl) g ?_ ?_; rotate_left
          · intro w9' h9; go_simp; try with_reducible rfl
          simp only [Act.put, ptA, ptB, ptC]
          refine tq 4 ?_ rfl (by kernel_rfl) (fun _ _ _ h => h) (by rfl) g ?_ ?_; rotate_left
          · intro w9' h9; go_simp; try with_reducible rfl
          simp only [Act.put, ptA, ptB, ptC]
          refine tc 5 rfl (by kernel_rfl) (fun K9 hK => ?_)
          go_simp
          with_reducible refine (cellsApart.walk (some a) 14 14 L 1 z1 hl hf (Nat.le_refl _) (by omega) HO1.out (wfi (i6 1 (by decide) (by decide)))).mono ?_
          rintro e z2 ⟨rfl, q1⟩
          have g2 := g.trans (q1.mono g.size)
          have HO2 := Lib.hid (ops_grow HO1.out q1)
          clear q1 HO1 g
          try go_simp
          refine hK.out _ _ g2 (fun g => ?_)
          clear hK K9 g2 z1
          try simp only [Act.put, ptA, ptB, ptC]
          refine tq 6 ?_ rfl (by kernel_rfl) (fun _ _ _ h => h) (by rfl) g ?_ ?_; rotate_left
          · intro w9' h9; go_simp; try with_reducible rfl
          simp only [Act.put, ptA, ptB, ptC]
          refine tq 7 ?_ rfl (by kernel_rfl) (fun _ _ _ h => h) (by rfl) g ?_ ?_; rotate_left
          · intro w9' h9; go_simp; try with_reducible rfl
          simp only [Act.put, ptA, ptB, ptC]
          refine tq 8 ?_ rfl (by kernel_rfl) (fun _ _ _ h => h) (by rfl) g ?_ ?_; rotate_left
          · intro w9' h9; go_simp; try with_reducible rfl
          simp only [Act.put, ptA, ptB, ptC]
          refine tq 9 ?_ rfl (by kernel_rfl) (fun _ _ _ h => h) (by rfl) g ?_ ?_; rotate_left
          · intro w9' h9; go_simp; try with_reducible rfl
          simp only [Act.put, ptA, ptB, ptC]
          refine tc 10 rfl (by kernel_rfl) (fun K9 hK => ?_)
          go_simp
          with_reducible refine (cellsApart.walk (some a) 14 14 L 2 z2 hl hf (Nat.le_refl _) (by omega) HO2.out (wfi (i6 2 (by decide) (by decide)))).mono ?_
          rintro e z3 ⟨rfl, q1⟩
          have g2 := g.trans (q1.mono g.size)
          have HO3 := Lib.hid (ops_grow HO2.out q1)
          clear q1 HO2 g
          try go_simp
          refine hK.out _ _ g2 (fun g => ?_)
          clear hK K9 g2 z2
          try simp only [Act.put, ptA, ptB, ptC]
          refine tq 11 ?_ rfl (by kernel_rfl) (fun _ _ _ h => h) (by rfl) g ?_ ?_; rotate_left
          · intro w9' h9; go_simp; try with_reducible rfl
          simp only [Act.put, ptA, ptB, ptC]
          refine tq 12 ?_ rfl (by kernel_rfl) (fun _ _ _ h => h) (by rfl) g ?_ ?_; rotate_left
          · intro w9' h9; go_simp; try with_reducible rfl
          simp only [Act.put, ptA, ptB, ptC]
          refine tq 13 ?_ rfl (by kernel_rfl) (fun _ _ _ h => h) (by rfl) g ?_ ?_; rotate_left
          · intro w9' h9; go_simp; try with_reducible rfl
          simp only [Act.put, ptA, ptB, ptC]
          refine tq 15 ?_ rfl (by kernel_rfl) (fun _ _ _ h => h) (by rfl) g ?_ ?_; rotate_left
          · intro w9' h9; go_simp; try with_reducible rfl
          simp only [Act.put, ptA, ptB, ptC]
          refine tq 16 ?_ rfl (by kernel_rfl) (fun _ _ _ h => h) (by rfl) g ?_ ?_; rotate_left
          · intro w9' h9; go_simp; try with_reducible rfl
          simp only [Act.put, ptA, ptB, ptC]
          refine tq 17 ?_ rfl (by kernel_rfl) (fun _ _ _ h => h) (by rfl) g ?_ ?_; rotate_left
          · intro w9' h9; go_simp; try with_reducible rfl
          simp only [Act.put, ptA, ptB, ptC]
          refine tq 18 ?_ rfl (by kernel_rfl) (fun _ _ _ h => h) (by rfl) g ?_ ?_; rotate_left
          · intro w9' h9; obtain ⟨d0, d1⟩ := HC.out _ h9; go_simp; try with_reducible rfl
          simp only [Act.put, ptA, ptB, ptC]
          refine tq 19 ?_ rfl (by kernel_rfl) (fun _ _ _ h => h) (by rfl) g ?_ ?_; rotate_left
          · intro w9' h9; go_simp; try with_reducible rfl
          simp only [Act.put, ptA, ptB, ptC]
          refine tq 20 ?_ rfl (by kernel_rfl) (fun _ _ _ h => h) (by rfl) g ?_ ?_; rotate_left
          · intro w9' h9; go_simp; try with_reducible rfl
          simp only [Act.put, ptA, ptB, ptC]
          refine tq 21 ?_ rfl (by kernel_rfl) (fun _ _ _ h => h) (by rfl) g ?_ ?_; rotate_left
          · intro w9' h9; go_simp; try with_reducible rfl
          simp only [Act.put, ptA, ptB, ptC]
          refine tq 22 ?_ rfl (by kernel_rfl) (fun _ _ _ h => h) (by rfl) g ?_ ?_; rotate_left
          · intro w9' h9; obtain ⟨d0, d1⟩ := HC.out _ h9; go_simp; try with_reducible rfl
          simp only [Act.put, ptA, ptB, ptC]
          refine tc 14 rfl (by kernel_rfl) (fun K9 hK => ?_)
          go_simp
          with_reducible refine (row66 z3).mono ?_
          rintro e z4 ⟨vr, rfl, q0⟩
          have q1 := q0.below
          have HG := Lib.hid (gd_own q0 (rowB_len 66) (by omega))
          clear q0
          obtain ⟨ar, cr, rfl, p1, p2, p3, r9⟩ := HG.out
          have RR9 := Lib.hid r9
          clear r9 HG
          have g2 := g.trans (q1.mono g.size)
          have HO4 := Lib.hid (ops_grow HO3.out q1)
          clear q1 HO3 g
          try go_simp
          refine hK.out _ _ g2 (fun g => ?_)
          clear hK K9 g2 z3
          try simp only [Act.put, ptA, ptB, ptC]
          refine tc 23 rfl (by kernel_rfl) (fun K9 hK => ?_)
          go_simp
          with_reducible refine (cellsBack.walk ar 66 cr (rowB 66) x y 9223372036854776066 z4 (rowB_len 66) (rowB_ok 66) p1 p2 p3 RR9.out (wfi hx) (wfi hy) (wfu (by omega))).mono ?_
          rintro e z5 ⟨rfl, q1⟩
          have g2 := g.trans (q1.mono g.size)
          have HO5 := Lib.hid (ops_grow HO4.out q1)
          clear q1 HO4 g
          try go_simp
          refine hK.out _ _ g2 (fun g => ?_)
          clear hK K9 g2 RR9 z4
          try simp only [Act.put, ptA, ptB, ptC]
          refine tq 24 ?_ rfl (by kernel_rfl) (fun _ _ _ h => h) (by rfl) g ?_ ?_; rotate_left
          · intro w9' h9; go_simp; try with_reducible rfl
          simp only [Act.put, ptA, ptB, ptC]
          refine tq 25 ?_ rfl (by kernel_rfl) (fun _ _ _ h => h) (by rfl) g ?_ ?_; rotate_left
          · intro w9' h9; go_simp; try with_reducible rfl
          simp only [Act.put, ptA, ptB, ptC]
          refine wpAnyH_done (by kernel_rfl) ?_ _
          have HE := Lib.hid g
          clear g HO5
          go_wp2
          go_roundw
          case rel => exact ⟨k + 1, by omega, by go_num, HE⟩
          case measure => simp [intOf]; omega
        · have k1 : ¬ (k : Int) < 14 := by omega
          go_wp2
          go_roundw
          case rel => exact ⟨i + 1, by omega, by go_num, HB8⟩
          case measure => simp [intOf]; omega
    · have i1 : ¬ (i : Int) < 14 := by omega
      go_wp2_with fail
      with_reducible refine (cellsNumbers.walk (some ⟨g1, 0, none⟩) 14 14 nE _ rfl nE_all (Nat.le_refl _) (by omega) (HRN.out _ HB.out)).mono ?_
      rintro e z1 ⟨rfl, q⟩
      have HB1 := Lib.hid (HB.out.trans (q.mono HB.out.size))
      clear q HB
      go_wp2_with fail
      with_reducible refine (works_c _).mono ?_
      rintro e z2 ⟨rfl, q⟩
      have B9 := Lib.hid (B0.out.trans ((HB1.out.trans (q.mono HB1.out.size)).mono B0.out.size))
      clear q HB1
      go_wp2
      go_ret
      exact ⟨rfl, B9.out⟩

set_option maxRecDepth 100000 in
theorem lifted (os : Os) (started : os.Started) (H : Type) (enc : TypeId × Value → H) :
    ReturnsInHanded {} Try.checked os 7 .any (Rows.cellsKnownSpec.pre6 enc Try.prog Try.f7 Rows.cellsKnownRow.domain false) (Rows.cellsKnownSpec.post enc Try.prog Try.f7 false true false false) := by
  refine returnsInHanded_of_change (C := Try.checked) own started (by kernel_rfl) Try.func7
    (ChangeSpec.witness6 (enc := enc) (C := Try.checked) false ⟨#[], #[], []⟩ 8 (by kernel_rfl) (by kernel_rfl) (by kernel_rfl) (by kernel_rfl)) ?_
  intro W base args ds gs before hval0 hW hcnd _
  have hval : ∀ (j : Nat) t v, Try.f7.params[j]? = some t → args[j]? = some v → Value.okWide Try.prog W .any base t v := hval0
  have hW' := hW
  obtain ⟨p, q, hA0, hV, rfl, hfz, hnd⟩ := hW
  have hA : DataW.TrodAll enc Try.prog W 0 (fun _ => true) true Try.f7.params.toList args.toList ds p := hA0
  rw [Try.params7] at hA hval
  obtain ⟨hargs, rfl, rfl⟩ := trodAll_nil hA
  obtain rfl : args = #[] := by cases args; simp_all
  obtain ⟨rfl, rfl⟩ := trodVars_none hV
  clear hA0 hval0
  refine (walk  W ).mono fun e W' ⟨he, bel⟩ => ?_
  subst he
  exact ⟨_, rfl, _, _, _, [], _, [], hW', trodAll_mk1 (shut_bool Try.underlying4 _), trodAll_mk0, rfl, bel.frame _, fun h => by cases h⟩

theorem over : Rows.cellsKnownRow.holds Try.pinned (OpenSpec.ofChange Rows.cellsKnownSpec) :=
  OpenClaim.holds_of_wide 7 Try.f7 rfl rfl rfl rfl rfl rfl rfl ⟨rfl, rfl, rfl, rfl, rfl⟩ rfl rfl rfl rfl rfl (by kernel_rfl) Try.func7 (by kernel_rfl)
    (of_decide_eq_true (by kernel_rfl)) (by unfold Func.isWrapper; first | (rw [if_pos (by decide +kernel)]; kernel_rfl) | (rw [if_neg (by decide +kernel)]; exact ⟨rfl, rfl⟩))
    (fun os started H enc _ => lifted os started H enc)

theorem proved : Rows.CellsKnownSaid := over
#print axioms proved
end Go.Proofs.Ythdgdkjaeebbcaa.cellsKnown
