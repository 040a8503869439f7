/-
  A drawing region in which one operation, the last one, may break what holds in all worlds ahead of it. No conditions.
-/
import Derived.Test.YthappjbghlifbaaBrief
namespace Go.Proofs.Ythappjbghlifbaa
set_option maxRecDepth 100000
open Go
section
variable {P : Program} {ops : Array Oper} {Q : Exit → Act → World → Prop} {md : Region.Mode} {S : World → Prop} {m : Nat}
/-- Whatever order is picked, S holds behind every operation but number m. -/
def wpAnyL (P : Program) (md : Region.Mode) (ops : Array Oper) (Q : Exit → Act → World → Prop) (S : World → Prop) (m : Nat) : Nat → Array Bool → Act → World → Prop
  | 0, listed, a, w => Region.ready md ops listed = [] ∧ Q .normal a w
  | fuel + 1, listed, a, w =>
    (Region.ready md ops listed = [] → Q .normal a w) ∧
    ∀ i ∈ Region.ready md ops listed, wpOp P ops Q i (fun a' w' => (i ≠ m → S w') ∧ wpAnyL P md ops Q S m fuel (listed.setIfInBounds i true) a' w') a w
theorem wpAny_of_L : ∀ (fuel : Nat) (listed : Array Bool) (a : Act) (w : World), wpAnyL P md ops Q S m fuel listed a w → wpAny P md ops Q fuel listed a w
  | 0, _, _, _, h => h
  | fuel + 1, _, _, _, h => ⟨h.1, fun i hi => wpOp_mono (fun a' w' h' => wpAny_of_L fuel _ a' w' h'.2) (h.2 i hi)⟩
/-- Each waits for the one ahead of it. -/
def lnk (md : Region.Mode) (ops : Array Oper) : Nat → List Nat → Bool
  | _, [] => true
  | x, y :: l => (match ops[y]? with
    | none => false
    | some o => o.after.any fun e => Region.binds md e && e.on == x) && lnk md ops y l
def unl (listed : Array Bool) (l : List Nat) : Bool := l.all fun c => !(listed.getD c true)
theorem lnk_no {listed : Array Bool} : ∀ {x : Nat} {l : List Nat}, lnk md ops x l = true → unl listed (x :: l) = true → ∀ y ∈ l, y ∉ Region.ready md ops listed
  | _, [], _, _, y, h => by cases h
  | x, z :: l, hl, hu, y, hy => by
    unfold lnk at hl
    rw [Bool.and_eq_true] at hl
    have hu2 : unl listed (z :: l) = true := by
      unfold unl at hu ⊢
      rw [List.all_cons, Bool.and_eq_true] at hu
      exact hu.2
    rcases List.mem_cons.1 hy with rfl | hy
    · intro hr
      obtain ⟨_, o, ho, hall⟩ := mem_ready.1 hr
      have h1 := hl.1
      rw [ho] at h1
      dsimp only at h1
      rw [Array.any_eq_true'] at h1
      obtain ⟨e, he, hb⟩ := h1
      rw [Bool.and_eq_true, beq_iff_eq] at hb
      have h2 := hall e he hb.1
      rw [hb.2] at h2
      unfold unl at hu
      rw [List.all_cons, Bool.and_eq_true] at hu
      have h3 := hu.1
      rcases Nat.lt_or_ge x listed.size with h' | h'
      · simp [h'] at h2 h3; rw [h2] at h3; cases h3
      · simp [Array.getElem?_eq_none h'] at h2
    · exact lnk_no hl.2 hu2 y hy
theorem unl_set {listed : Array Bool} {l : List Nat} {j : Nat} (h : unl listed l = true) (hj : j ∉ l) : unl (listed.setIfInBounds j true) l = true := by
  unfold unl at h ⊢
  rw [List.all_eq_true] at h ⊢
  intro c hc
  rw [getD_set_ne true (fun e => hj (by rw [e]; exact hc))]
  exact h c hc
theorem wpAnyL_first {i : Nat} {oi : Oper} {v : Value} {c : List Nat} (hi : ops[i]? = some oi) (hsel : ∀ (j : Nat) (o : Oper) cs b, ops[j]? = some o → o.op ≠ .select cs b)
    (hQ : ∀ c a w, Q (.panic c) (a.put oi.dst v) w → Q (.panic c) a w) (hc : lnk md ops i c = true) (hm : m ∈ c) (him : i ≠ m) :
    ∀ (fuel : Nat) (listed : Array Bool) (a : Act) (w : World),
      (∀ j oj, ops[j]? = some oj → j ≠ i → listed.getD j true = false → (∀ e ∈ oj.after, Region.binds md e = true → e.on ≠ i) → oi.apart ops oj = true) →
      i ∈ Region.ready md ops listed → unl listed (i :: c) = true → YieldsIf P ops S oi v a → S w →
      wpAnyL P md ops Q S m fuel (listed.setIfInBounds i true) (a.put oi.dst v) w → wpAnyL P md ops Q S m (fuel + 1) listed a w := by
  intro fuel
  induction fuel with
  | zero =>
    intro listed a w _ hr _ hy hS H
    refine ⟨fun h => (by rw [h] at hr; cases hr), fun j hj => ?_⟩
    by_cases hji : j = i
    · subst hji; exact hy.wpOp hi hS ⟨fun _ => hS, H⟩
    · have := ready_mono hj hji
      rw [H.1] at this
      cases this
  | succ fuel ih =>
    intro listed a w hfree hr hu hy hS H
    refine ⟨fun h => (by rw [h] at hr; cases hr), fun j hj => ?_⟩
    by_cases hji : j = i
    · subst hji; exact hy.wpOp hi hS ⟨fun _ => hS, H⟩
    · have hjc : j ∉ i :: c := fun h => by
        rcases List.mem_cons.1 h with h | h
        · exact hji h
        · exact lnk_no hc hu j h hj
      have hjm : j ≠ m := fun e => hjc (by rw [e]; exact List.mem_cons_of_mem _ hm)
      have h1 := H.2 j (ready_mono hj hji)
      obtain ⟨hjun, oj, hoj, hall⟩ := mem_ready.1 hj
      have hnot : ∀ e ∈ oj.after, Region.binds md e = true → e.on ≠ i := fun e he hb heq => by
        have h1 := hall e he hb
        have h0 := (mem_ready.1 hr).1
        rw [heq] at h1
        rcases Nat.lt_or_ge i listed.size with h' | h'
        · simp [h'] at h0 h1; rw [h0] at h1; cases h1
        · simp [Array.getElem?_eq_none h'] at h1
      have h2 := wpOp_putIf hoj (hfree j oj hoj hji hjun hnot) (fun cs b => hsel i oi cs b hi) (fun cs b => hsel j oj cs b hoj) hQ hy h1
      have hfree' : ∀ k ok, ops[k]? = some ok → k ≠ i → (listed.setIfInBounds j true).getD k true = false →
          (∀ e ∈ ok.after, Region.binds md e = true → e.on ≠ i) → oi.apart ops ok = true := fun k ok hk hki hun hno => by
        refine hfree k ok hk hki ?_ hno
        by_cases hjk : j = k
        · subst hjk; exact hjun
        · rw [getD_set_ne true hjk] at hun; exact hun
      refine wpOp_mono (fun a' w' h3 => ⟨h3.2.1, ih (listed.setIfInBounds j true) a' w' hfree' (ready_mono hr (Ne.symm hji)) (unl_set hu hjc) h3.1 (h3.2.1 hjm) ?_⟩) h2
      rw [Array.setIfInBounds_comm _ _ hji]
      exact h3.2.2
/-- An operation that is taken first: c: those that wait for it, one for the other, the last one among them. -/
theorem lq (i : Nat) (c : List Nat) (v : Value) {o : Oper} {fuel : Nat} {l : Array Bool} {a : Act} {w : World} (hl : ops.toList[i]? = some o)
    (hb : (Region.noSelect ops && Region.free md ops l i && (Region.ready md ops l).contains i && lnk md ops i c && c.contains m && !(i == m) && unl l (i :: c)) = true)
    (hQ : ∀ c a w, Q (.panic c) (a.put o.dst v) w → Q (.panic c) a w) (hw : Region.wanted o (yielded ops a.tmps) = true) (hS : S w)
    (hy : ∀ w, S w → (execOp a.eval o).run P w = .ok (.value v) w)
    (h : wpAnyL P md ops Q S m fuel (l.setIfInBounds i true) (a.put o.dst v) w) : wpAnyL P md ops Q S m (fuel + 1) l a w := by
  simp only [Bool.and_eq_true] at hb
  have hi : ops[i]? = some o := Array.getElem?_toList.symm.trans hl
  exact wpAnyL_first hi (Region.noSelect_spec hb.1.1.1.1.1.1) hQ hb.1.1.1.2 (by simpa using hb.1.1.2) (by simpa using hb.1.2) fuel l a w (Region.free_spec hi hb.1.1.1.1.1.2) (by simpa using hb.1.1.1.1.2) hb.2 (Or.inl ⟨hw, hy⟩) hS h
/-- The only one that is ready. -/
theorem lc (i : Nat) {o : Oper} {fuel : Nat} {l : Array Bool} {a : Act} {w : World} (ho : ops.toList[i]? = some o) (hr : Region.ready md ops l = [i])
    (h : ∀ K' : Act → World → Prop, Shut (∀ a w, (i ≠ m → S w) → ((i ≠ m → S w) → wpAnyL P md ops Q S m fuel (l.setIfInBounds i true) a w) → K' a w) → if Region.wanted o (yielded ops a.tmps) = true then Oper.wp P o a w K' Q else K' (a.put o.dst undef) w) :
    wpAnyL P md ops Q S m (fuel + 1) l a w := by
  refine ⟨fun h0 => (by rw [hr] at h0; cases h0), fun j hj => ?_⟩
  rw [hr, List.mem_singleton] at hj
  subst hj
  exact wpOp_step (Array.getElem?_toList.symm.trans ho) (fun K' hK => h K' (fun a w hS hW => hK a w ⟨hS, hW hS⟩))
theorem wpAnyL_done {listed : Array Bool} {a : Act} {w : World} (hr : Region.ready md ops listed = []) (h : Q .normal a w) : ∀ fuel, wpAnyL P md ops Q S m fuel listed a w
  | 0 => ⟨hr, h⟩
  | _ + 1 => ⟨fun _ => h, by rw [hr]; simp⟩
theorem wp_region_last (m : Nat) {id : Nat} {a : Act} {w : World} (hm : P.follows .mixedOrders = true) (hS : S w.drew)
    (h : S w.drew → wpAnyL P .any ops Q S m ops.size (Array.replicate ops.size false) a w.drew) : (Code.region id ops true).wp P Q a w :=
  wp_region_any hm (wpAny_of_L _ _ _ _ (h hS))
end
end Go.Proofs.Ythappjbghlifbaa
