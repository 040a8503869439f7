/-
  Layer 8's cells: what they are, and how the program has them in memory. No conditions.
-/
import Derived.Test.YthdgdkjaeebbcaaRole
import Derived.Test.YthdgdkjaeebbcaaKitBytes
import Derived.Test.YthdgdkjaeebbcaaPhaseMath2
namespace Go.Proofs.Ythdgdkjaeebbcaa
set_option maxRecDepth 100000
open Go.RowKit Ow Ph Ro K2
set_option linter.unusedVariables false
set_option linter.unusedSimpArgs false
/-- A cell: its bytes, when it was written, whether it is dropped, and swept away. -/
structure Cl where
  bs : List Int
  ts : List Int
  gone : Bool
  swept : Bool
structure OkC (n : Nat) (c : Cl) : Prop where
  bytes : ∀ b ∈ c.bs, 0 ≤ b ∧ b ≤ 255
  len : c.bs.length ≤ 64
  often : c.ts.length ≤ n
  times : ∀ t ∈ c.ts, i64 t
  order : c.swept = true → c.gone = true
structure OkL (n : Nat) (L : List Cl) : Prop where
  len : L.length ≤ n
  all : ∀ c ∈ L, OkC n c
theorem OkC.more {n m : Nat} {c : Cl} (h : OkC n c) (hm : n ≤ m) : OkC m c := ⟨h.bytes, h.len, Nat.le_trans h.often hm, h.times, h.order⟩
theorem OkL.more {n m : Nat} {L : List Cl} (h : OkL n L) (hm : n ≤ m) : OkL m L := ⟨Nat.le_trans h.len hm, fun c hc => (h.all c hc).more hm⟩
/-- The cell of a number that is there. -/
def gt (L : List Cl) (id : Int) : Option Cl := if 1 ≤ id then (L[(id - 1).toNat]?).filter (fun c => !c.swept) else none
theorem gt_some {L : List Cl} {id : Int} {c : Cl} (h : gt L id = some c) : 1 ≤ id ∧ (id - 1).toNat < L.length ∧ L[(id - 1).toNat]? = some c ∧ c.swept = false := by
  unfold gt at h
  split at h
  · rename_i h1
    rw [Option.filter_eq_some_iff] at h
    exact ⟨h1, (List.getElem?_eq_some_iff.1 h.1).1, h.1, by simpa using h.2⟩
  · cases h
theorem gt_mk {L : List Cl} {k : Nat} {c : Cl} (h : L[k]? = some c) (hs : c.swept = false) : gt L ((k : Int) + 1) = some c := by
  unfold gt
  rw [if_pos (by omega), show ((k : Int) + 1 - 1).toNat = k by omega, h]
  simp [Option.filter, hs]
theorem gt_ok {n : Nat} {L : List Cl} {id : Int} {c : Cl} (h : OkL n L) (hg : gt L id = some c) : OkC n c := h.all c (List.mem_of_getElem? (gt_some hg).2.2.1)
def dv (l : List Nat) : List Value := l.map fun (k : Nat) => Value.int .i64 (k : Int)
theorem dv_len (l : List Nat) : (dv l).length = l.length := by unfold dv; simp
theorem dv_app (l m : List Nat) : dv (l ++ m) = dv l ++ dv m := by unfold dv; simp
/-- The cells of a cell's block. -/
noncomputable def cc (s : Value) (c : Cl) : Array Value := #[s, .complex .f64 (fl (bts c.ts).x) (fl (bts c.ts).y), .int .i64 (bts c.ts).n, .int .i64 (bts c.ts).t, .bool c.gone]
structure CellAt (A : Ac) (k q : Nat) (s : Value) (c : Cl) : Prop where
  blk : A (3, k) = some (q, .cells (cc s c) 82)
  row : Row A (4, k) 5 1 s c.bs.length (bv c.bs)
/-- The program's cells, at P. -/
structure PSx (A : Ac) (P : Nat) (L : List Cl) (m : Nat) (es : Array MapEntry) (c : Nat) (D : Value) (E : List En) (ds : List Nat) : Prop where
  head : A (0, 0) = some (P, .cells #[.map (some m), D, .int .i64 (L.length : Int)] 68)
  map_ : A (1, 0) = some (m, .map es c)
  drop : Row A (2, 0) 3 1 D ds.length (dv ds)
  ents : Ents es E
  cells : ∀ k q, (k, q) ∈ E → ∃ c s, gt L (k : Int) = some c ∧ CellAt A k q s c
  all : ∀ (k : Nat) c, gt L (k : Int) = some c → ∃ q, (k, q) ∈ E
  dnd : ds.Nodup
  dmem : ∀ k : Nat, k ∈ ds ↔ ∃ c, gt L (k : Int) = some c ∧ c.gone = true
def PS (A : Ac) (P : Nat) (L : List Cl) : Prop := ∃ m es c D E ds, PSx A P L m es c D E ds
/-- What is not the program's is as it was. -/
def Fr (A A' : Ac) : Prop := ∀ x : Rl, 10 ≤ x.1 → A' x = A x
theorem Fr.refl (A : Ac) : Fr A A := fun _ _ => rfl
theorem Fr.trans {A B C : Ac} (h : Fr A B) (k : Fr B C) : Fr A C := fun x hx => (k x hx).trans (h x hx)
theorem und_map : Try.prog.underlying 66 = some (.map 3 76) := Try.underlying66
theorem und_int : Try.prog.underlying 3 = some (.int .i64) := Try.underlying3
section
variable {w0 w : World} {A : Ac} {P : Nat} {L : List Cl} {m : Nat} {es : Array MapEntry} {c : Nat} {D : Value} {E : List En} {ds : List Nat}
theorem PSx.none_ (h : PSx A P L m es c D E ds) {id : Int} (hg : gt L id = none) : Instr.findNow (.int .i64) (.int .i64 id) es.toList 0 = some none :=
  h.ents.none_ id fun e he hid => by
    obtain ⟨c, s, h1, _⟩ := h.cells e.1 e.2 he
    rw [hid, hg] at h1
    cases h1
theorem PSx.some_ (h : PSx A P L m es c D E ds) {id : Int} {cl : Cl} (hg : gt L id = some cl) : ∃ q s j, Instr.findNow (.int .i64) (.int .i64 id) es.toList 0 = some (some (j, .pointer (some ⟨q, 0, none⟩))) ∧ E[j]? = some (id.toNat, q) ∧ CellAt A id.toNat q s cl := by
  have h1 := (gt_some hg).1
  have hid : ((id.toNat : Nat) : Int) = id := Int.toNat_of_nonneg (by omega)
  rw [← hid] at hg
  obtain ⟨q, hq⟩ := h.all id.toNat cl hg
  obtain ⟨j, h2, h3⟩ := h.ents.some_ hq
  obtain ⟨c', s, h4, h5⟩ := h.cells _ _ hq
  rw [hg] at h4
  injection h4 with h4
  subst h4
  rw [hid] at h2
  exact ⟨q, s, j, h2, h3, h5⟩
/-- What looking a number up tells. -/
theorem PS.look_none (h : PS A P L) (hl : Lay w0 A w) {id : Int} (hg : gt L id = none) (hz : (zeroValue 76).run Try.prog w = .ok (.pointer none) w) :
    ∃ m, w.cell? ⟨P, 0, none⟩ = some (.map (some m)) ∧ (Instr.lookup 66 (.map (some m)) (.int .i64 id) true).run Try.prog w = .ok (.tuple #[.pointer none, .bool false]) w := by
  obtain ⟨m, es, c, D, E, ds, hx⟩ := h
  exact ⟨m, (hl.bk hx.head).cell 0, run_none und_map und_int (hl.obj hx.map_) hz (hx.none_ hg)⟩
theorem PS.look_some (h : PS A P L) (hl : Lay w0 A w) {id : Int} {cl : Cl} (hg : gt L id = some cl) :
    ∃ m q s, w.cell? ⟨P, 0, none⟩ = some (.map (some m)) ∧ (Instr.lookup 66 (.map (some m)) (.int .i64 id) true).run Try.prog w = .ok (.tuple #[.pointer (some ⟨q, 0, none⟩), .bool true]) w ∧ CellAt A id.toNat q s cl := by
  obtain ⟨m, es, c, D, E, ds, hx⟩ := h
  obtain ⟨q, s, j, h1, h2, h3⟩ := hx.some_ hg
  exact ⟨m, q, s, (hl.bk hx.head).cell 0, run_look und_map und_int (hl.obj hx.map_) h1, h3⟩
end
theorem zero_ptr (w : World) : (zeroValue 76).run Try.prog w = .ok (.pointer none) w := by kernel_rfl
end Go.Proofs.Ythdgdkjaeebbcaa
