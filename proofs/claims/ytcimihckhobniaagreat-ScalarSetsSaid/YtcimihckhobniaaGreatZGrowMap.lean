/-
  Maps that a call makes: what an insertion and a look-up do, at keys that are told apart by reckoning. No program, no conditions.
-/
import Derived.Test.YtcimihckhobniaaGreatZM2
import Derived.ChangeMaps4
namespace Go.Proofs.YtcimihckhobniaaGreat.Gw
open Go.RowKit Ow Go.MapKept
set_option linter.unusedVariables false
def putO (w : World) (b : Nat) (o : Obj) : World := { w with heap := w.heap.setIfInBounds b o }
section
variable {P : Program} {w w0 : World} {t k e : TypeId} {r c : Nat} {es : Array MapEntry} {n : Int} {v : Value} {L : List (Nat × Obj)}
theorem run_mk (P : Program) (t : TypeId) (w : World) : (Instr.makeMap t none).run P w = .ok (.map (some w.heap.size)) (w.alloc (.map #[] 0)) := rfl
theorem run_store_fn (P : Program) (w : World) (a : Addr) (m : Mode) (fn : Fn) (fs cs : Array Value) : (store a (.func fn fs cs) m).run P w = stored P w a (.func fn fs cs) m := run_store P w a _ m rfl
theorem run_store_nf (P : Program) (w : World) (a : Addr) (m : Mode) : (store a .nilFunc m).run P w = stored P w a .nilFunc m := run_store P w a _ m rfl
theorem run_ins (ht : P.underlying t = some (.map k e)) (hk : P.underlying k = some (.int .i64)) (hb : w.heap[r]? = some (.map es c)) (hf : Instr.findNow (.int .i64) (.int .i64 n) es.toList 0 = some none) :
    (Instr.mapUpdate t (.map (some r)) (.int .i64 n) v).run P w = .ok () (putO w r (.map (es.push ⟨.int .i64 n, v, c⟩) (c + 1))) := by
  simp [Instr.mapUpdate, run_underlying ht, Go.MapKept.run_getObj_map hb, run_checkKey (k := .int .i64 n) hk rfl, run_findKey hk hf, Go.MapKept.run_setObj_map _ hb, Result.andThen, putO]
theorem run_look (ht : P.underlying t = some (.map k e)) (hk : P.underlying k = some (.int .i64)) (hb : w.heap[r]? = some (.map es c)) {i : Nat} (hf : Instr.findNow (.int .i64) (.int .i64 n) es.toList 0 = some (some (i, v))) (ok : Bool) :
    (Instr.lookup t (.map (some r)) (.int .i64 n) ok).run P w = .ok (if ok then .tuple #[v, .bool true] else v) w := by
  simp [Instr.lookup, run_underlying ht, Go.MapKept.run_getObj_map hb, run_checkKey (k := .int .i64 n) hk rfl, run_findKey hk hf, Result.andThen]
theorem Mem.perm {L' : List (Nat × Obj)} (h : Mem w0 L w) (hp : L.Perm L') : Mem w0 L' w :=
  ⟨h.below, (hp.map _).nodup_iff.1 h.nodup, fun x hx => h.own x (hp.mem_iff.2 hx)⟩
theorem Mem.beside {N : List (Nat × Obj)} {w' : World} (h : Mem w0 L w) (k : Mem w N w') : Mem w0 (L ++ N) w' := (h.with k).perm List.perm_append_comm
theorem Mem.front {N : List (Nat × Obj)} (h : Mem w0 (L ++ N) w) : Mem w0 L w := h.sub (List.sublist_append_left L N)
theorem Mem.back {N : List (Nat × Obj)} (h : Mem w0 (L ++ N) w) : Mem w0 N w := h.sub (List.sublist_append_right L N)
theorem Mem.obj (h : Mem w0 L w) (i : Nat) {o : Obj} (e : L[i]? = some (r, o) := by rfl) : w.heap[r]? = some o := (h.own _ (List.mem_of_getElem? e)).2
theorem Mem.setO (h : Mem w0 L w) (i : Nat) {o : Obj} (o' : Obj) (e : L[i]? = some (r, o) := by rfl) : Mem w0 (L.set i (r, o')) (putO w r o') := by
  have hi : i < L.length := (List.getElem?_eq_some_iff.1 e).1
  have he : L[i] = (r, o) := (List.getElem?_eq_some_iff.1 e).2
  have hb := h.own _ (List.mem_of_getElem? e)
  have hs := heap_set (o' := o') hb.2
  have hn : (L.set i (r, o')).map (·.1) = L.map (·.1) := by
    rw [List.map_set]
    refine List.ext_getElem (by simp) ?_
    intro k h1 h2
    rw [List.getElem_set]
    split
    · subst_vars; simp [he]
    · rfl
  refine ⟨h.below.trans ⟨rfl, rfl, rfl, by simp [putO], fun k hk => ?_⟩, by rw [hn]; exact h.nodup, ?_⟩
  · exact hs.2 k (by have := hb.1; dsimp only at this; omega)
  intro x hx
  obtain ⟨k, hk, rfl⟩ := List.getElem_of_mem hx
  rw [List.getElem_set]
  by_cases hik : i = k
  · rw [if_pos hik]
    exact ⟨hb.1, hs.1⟩
  · rw [if_neg hik]
    have hk' : k < L.length := by simpa using hk
    have hx2 := h.own L[k] (List.getElem_mem hk')
    refine ⟨hx2.1, (hs.2 L[k].1 ?_).trans hx2.2⟩
    intro e2
    have hnd := h.nodup
    have h1 : (L.map (·.1))[k]'(by simpa using hk') = (L.map (·.1))[i]'(by simpa using hi) := by
      rw [List.getElem_map, List.getElem_map, he]; exact e2
    have h2 := List.pairwise_iff_getElem.1 hnd
    rcases Nat.lt_or_gt_of_ne hik with h3 | h3
    · exact h2 i k (by simpa using hi) (by simpa using hk') h3 h1.symm
    · exact h2 k i (by simpa using hk') (by simpa using hi) h3 h1
end
end Go.Proofs.YtcimihckhobniaaGreat.Gw
