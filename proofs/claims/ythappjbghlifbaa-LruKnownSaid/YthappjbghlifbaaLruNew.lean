/-
  Layer 11's document: New: contract. No conditions.
-/
import Derived.Test.YthappjbghlifbaaLruRef3
import Derived.Lib.MinMax
namespace Go.Proofs.Ythappjbghlifbaa
set_option maxRecDepth 100000
open Go.RowKit Ow Ro K2
set_option linter.unusedVariables false
set_option linter.unusedSimpArgs false
def RNewL (w0 : World) (A : Ac) (K M : Int) (t : Nat) (e : Ending) (w' : World) : Prop := ∃ X A', e = .returned (.pointer (some ⟨X, 0, none⟩)) ∧ Lay w0 A' w' ∧ LS A' X K M 0 (.slice none 0 0) [] t ∧ ∀ x, x ≠ (100, 0) → A' x = A x
theorem lnew_c {w0 w : World} {A : Ac} (hl : Lay w0 A w) (key most : Int) (t : Nat) :
    Calls Try.prog 8 #[.int .i64 key, .int .i64 most] w (RNewL w0 A (max 1 (min key 16)) (max 1 (min most 64)) t) := by
  have H0 : Hid (∀ K M : Int, RNewL w0 A K M t (.returned (.pointer (some ⟨w.heap.size, 0, none⟩))) (w.alloc (.cells #[.int .i64 K, .int .i64 M, .int .i64 0, .slice none 0 0] 54))) := Lib.hid (fun K M => by
    refine ⟨w.heap.size, _, rfl, hl.new (100, 0) (o := .cells #[.int .i64 K, .int .i64 M, .int .i64 0, .slice none 0 0] 54) ((Below.refl _ _).alloc (Nat.le_refl _) _) (Nat.le_refl _) (heap_alloc_new w _), ⟨up_same _ _ _ _, Row.nil _ _ _ _, fun e he => by cases he⟩, fun x hx => up_other _ _ _ hx⟩)
  clear hl
  go_enter Try.func8, Try.ntmps8
  go_wp2
  go_ret
  exact H0.out _ _
end Go.Proofs.Ythappjbghlifbaa
