/-
  known, of layer 7's statements: a contract. No conditions.
-/
import Derived.Test.YthdgdkjaeebbcaaPhaseLow
namespace Go.Proofs.Ythdgdkjaeebbcaa
set_option maxRecDepth 100000
open Go.RowKit Ow Ph
set_option linter.unusedVariables false
set_option linter.unusedSimpArgs false
attribute [local go_sem] run_store_complex
/-- What a beat tells that was written at given times. -/
theorem lit_bt {l : List Int} (h : ∀ t ∈ l, i64 t) : ∃ b, bts l = b ∧ OkB b l.length ∧ i64 b.t := ⟨_, rfl, bts_ok l, bts_t_i64 l h⟩
theorem rd_new {w : World} {t : TypeId} {l : List Int} : Rd (w.alloc (.cells (zv l).toArray t)) (w.alloc (.cells (zv l).toArray t)).heap.size (some ⟨w.heap.size, 0, none⟩) (zv l) := fun _ =>
  ⟨_, rfl, by simp, fun j u hu => new_cells' t _ rfl j u (by simpa using hu)⟩
theorem rd_new' {w : World} {t : TypeId} {b : Nat} {l : List Int} (hb : b = w.heap.size) : Rd (w.alloc (.cells (zv l).toArray t)) (w.alloc (.cells (zv l).toArray t)).heap.size (some ⟨b, 0, none⟩) (zv l) := by subst hb; exact rd_new
theorem val_agg (b : Bt) : b.val = .agg (bcells b) := rfl
end Go.Proofs.Ythdgdkjaeebbcaa
