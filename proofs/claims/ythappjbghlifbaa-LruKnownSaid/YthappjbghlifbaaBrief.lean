/-
  Short names for the steps of a drawing region. No conditions.
-/
import Derived.Deep.RegionHeld3
namespace Go.Proofs.Ythappjbghlifbaa
set_option maxRecDepth 100000
theorem ptA {α : Type} {l : List α} {i : Nat} {x : α} : l.toArray.setIfInBounds i x = (l.set i x).toArray := List.setIfInBounds_toArray l i x
theorem ptB {α : Type} {l : List α} {x y : α} : (x :: l).set 0 y = y :: l := rfl
theorem ptC {α : Type} {l : List α} {i : Nat} {x y : α} : (x :: l).set (i + 1) y = x :: l.set i y := rfl
section
variable {P : Program} {ops : Array Oper} {Q : Exit → Act → World → Prop} {md : Region.Mode} {S : World → Prop}
theorem tq (i : Nat) (v : Value) {o : Oper} {fuel : Nat} {l : Array Bool} {a : Act} {w : World} (hl : ops.toList[i]? = some o)
    (hb : (Region.noSelect ops && Region.free md ops l i && (Region.ready md ops l).contains i) = true)
    (hQ : ∀ c a w, Q (.panic c) (a.put o.dst v) w → Q (.panic c) a w) (hw : Region.wanted o (yielded ops a.tmps) = true) (hS : S w)
    (hy : ∀ w, S w → (execOp a.eval o).run P w = .ok (.value v) w)
    (h : wpAnyH P md ops Q S fuel (l.setIfInBounds i true) (a.put o.dst v) w) : wpAnyH P md ops Q S (fuel + 1) l a w := by
  simp only [Bool.and_eq_true] at hb
  exact wpAnyH_take (Array.getElem?_toList.symm.trans hl) hb.1.1 hb.1.2 hb.2 hQ (Or.inl ⟨hw, hy⟩) hS h
theorem tu (i : Nat) {o : Oper} {fuel : Nat} {l : Array Bool} {a : Act} {w : World} (hl : ops.toList[i]? = some o)
    (hb : (Region.noSelect ops && Region.free md ops l i && (Region.ready md ops l).contains i) = true)
    (hQ : ∀ c a w, Q (.panic c) (a.put o.dst undef) w → Q (.panic c) a w) (hw : Region.wanted o (yielded ops a.tmps) = false) (hS : S w)
    (h : wpAnyH P md ops Q S fuel (l.setIfInBounds i true) (a.put o.dst undef) w) : wpAnyH P md ops Q S (fuel + 1) l a w := by
  simp only [Bool.and_eq_true] at hb
  exact wpAnyH_take (Array.getElem?_toList.symm.trans hl) hb.1.1 hb.1.2 hb.2 hQ (Or.inr ⟨hw, rfl⟩) hS h
theorem tr (i : Nat) {o : Oper} {fuel : Nat} {l : Array Bool} {a : Act} {w : World} {rs : List Nat} (ho : ops.toList[i]? = some o)
    (h : ∀ K' : Act → World → Prop, Shut (∀ a w, S w → (S w → wpAnyH P md ops Q S fuel (l.setIfInBounds i true) a w) → K' a w) → if Region.wanted o (yielded ops a.tmps) = true then Oper.wp P o a w K' Q else K' (a.put o.dst undef) w)
    (hs : AllReadyH P md ops Q S fuel l a w rs) : AllReadyH P md ops Q S fuel l a w (i :: rs) := AllReadyH.cons (Array.getElem?_toList.symm.trans ho) h hs
theorem tc (i : Nat) {o : Oper} {fuel : Nat} {l : Array Bool} {a : Act} {w : World} (ho : ops.toList[i]? = some o) (hr : Region.ready md ops l = [i])
    (h : ∀ K' : Act → World → Prop, Shut (∀ a w, S w → (S w → wpAnyH P md ops Q S fuel (l.setIfInBounds i true) a w) → K' a w) → if Region.wanted o (yielded ops a.tmps) = true then Oper.wp P o a w K' Q else K' (a.put o.dst undef) w) :
    wpAnyH P md ops Q S (fuel + 1) l a w := wpAnyH_ready hr (by simp) (tr i ho h AllReadyH.nil)
end
end Go.Proofs.Ythappjbghlifbaa
