/-
  What a call of the program's cells changes. No program's run.
-/
import Derived.Test.YthdgdkjaeebbcaaCellsDoes
namespace Go.Proofs.Ythdgdkjaeebbcaa
set_option maxRecDepth 100000
open Go.RowKit Ow Ph Ro K2
set_option linter.unusedVariables false
set_option linter.unusedSimpArgs false
def mineB (x : Opn) (id : Int) (d : Bool) : Bool := decide (x.id = id) && d && (decide (x.kind = 2) || decide (x.kind = 3))
def drB (x : Opn) (id : Int) (d dr : Bool) : Bool := dr || (decide (x.kind = 4) && decide (x.id = id) && d)
def skipB (x : Opn) (dr : Bool) : Bool := decide (x.kind = 0) || (decide (x.kind = 5) && dr)
def lessN (x : Opn) (d : Bool) : Nat := if x.kind = 4 ∧ d = true then 1 else 0
structure StepOk (n : Nat) (L : List Cl) (x : Opn) (id : Int) (dr : Bool) (d : Bool) (L' : List Cl) : Prop where
  ok : OkL (n + 1) L'
  mine : mineB x id d = true → (bsC L' id).length = (bsC L id).length ∧ vsC L' id = vsC L id + 1
  other : mineB x id d = false → skipB x (drB x id d dr) = false → bsC L' id = bsC L id ∧ vsC L' id = vsC L id
  live : skipB x (drB x id d dr) = false → lv L' + lessN x d = lv L
  inv : (∃ c, gt L' id = some c ∧ c.gone = true) → drB x id d dr = true
theorem gt_upd {L : List Cl} {k : Int} {c c' : Cl} (hg : gt L k = some c) (hs : c'.swept = false) (id : Int) : gt (L.set (k.toNat - 1) c') id = if id = k then some c' else gt L id := by
  obtain ⟨h1, h2, h3, h4⟩ := gt_some hg
  rw [gt_set (by omega) hs]
  have : ((k.toNat - 1 : Nat) : Int) + 1 = k := by omega
  rw [this]
theorem lv_set {L : List Cl} {k : Int} {c c' : Cl} (hg : gt L k = some c) (hgn : c'.gone = c.gone) : lv (L.set (k.toNat - 1) c') = lv L := by
  obtain ⟨h1, h2, h3, h4⟩ := gt_some hg
  have e : k.toNat - 1 = (k - 1).toNat := by omega
  rw [e]
  have hc : L[(k - 1).toNat] = c := by rw [List.getElem?_eq_getElem h2] at h3; injection h3
  unfold lv
  rw [List.countP_set h2, hc, hgn]
  have : (if !c.gone then 1 else 0) ≤ L.countP (fun c => !c.gone) := by
    cases hcg : c.gone with
    | true => simp
    | false =>
      have := (List.countP_pos_iff (p := fun c : Cl => !c.gone)).2 ⟨c, (by rw [← hc]; exact List.getElem_mem h2 : c ∈ L), (by simp [hcg] : (fun c : Cl => !c.gone) c = true)⟩
      simpa using this
  omega
theorem same_ok {n : Nat} {L : List Cl} {x : Opn} {id : Int} {dr d : Bool} (ho : OkL n L) (hinv : (∃ c, gt L id = some c ∧ c.gone = true) → dr = true) (hm : mineB x id d = false) (hl : lessN x d = 0) : StepOk n L x id dr d L :=
  ⟨ho.more (by omega), (fun h => by rw [hm] at h; cases h), fun _ _ => ⟨rfl, rfl⟩, fun _ => by rw [hl]; rfl, fun h => by unfold drB; rw [hinv h]; rfl⟩
theorem wrote_ok {n : Nat} {L : List Cl} {x : Opn} {id : Int} {dr : Bool} {c c' : Cl} (ho : OkL n L) (hinv : (∃ c, gt L id = some c ∧ c.gone = true) → dr = true) (hk : x.kind = 2 ∨ x.kind = 3) (hg : gt L x.id = some c) (hc : OkC (n + 1) c') (hs : c'.swept = false) (hgn : c'.gone = c.gone)
    (hb : c'.bs.length = c.bs.length) (ht : c'.ts.length = c.ts.length + 1) : StepOk n L x id dr true (L.set (x.id.toNat - 1) c') := by
  have hu := fun i => gt_upd hg hs i
  have hl4 : ¬ x.kind = 4 := by omega
  refine ⟨okl_set (ho.more (by omega)) hc, fun h => ?_, fun h _ => ?_, fun _ => ?_, fun h => ?_⟩
  · have hid : x.id = id := by unfold mineB at h; simp at h; exact h.1
    subst hid
    unfold bsC vsC
    rw [hu, if_pos rfl, hg]
    exact ⟨hb, ht⟩
  · have hid : ¬ id = x.id := by
      intro e
      subst e
      unfold mineB at h
      rcases hk with hk | hk <;> simp [hk] at h
    unfold bsC vsC
    rw [hu, if_neg hid]
    exact ⟨rfl, rfl⟩
  · rw [lv_set hg hgn]; unfold lessN; rw [if_neg (by simp [hl4])]; rfl
  · unfold drB
    rw [hinv]
    · rfl
    · obtain ⟨c2, h1, h2⟩ := h
      rw [hu] at h1
      by_cases e : id = x.id
      · rw [if_pos e] at h1
        injection h1 with h1
        subst h1
        exact ⟨c, by rw [e]; exact hg, by rw [← hgn]; exact h2⟩
      · rw [if_neg e] at h1
        exact ⟨c2, h1, h2⟩
theorem step_ok {n : Nat} {L : List Cl} {x : Opn} {id : Int} {dr : Bool} (ho : OkL n L) (hx : x.fits) (hinv : (∃ c, gt L id = some c ∧ c.gone = true) → dr = true) : StepOk n L x id dr (stepL L x).1 (stepL L x).2 := by
  unfold stepL
  by_cases h0 : x.kind = 0
  · rw [if_pos h0]
    have hsk : ∀ b, skipB x b = true := fun b => by unfold skipB; simp [h0]
    refine ⟨okl_app ho ⟨fun b hb => hx.bytes b (List.mem_of_mem_take hb), by dsimp only; rw [List.length_take]; omega, by simp, by simp, by simp⟩, fun h => ?_, fun _ h => ?_, fun h => ?_, fun h => ?_⟩
    · exfalso
      revert h
      unfold mineB
      simp [h0]
    · rw [hsk] at h; cases h
    · rw [hsk] at h; cases h
    · unfold drB
      rw [hinv]
      · rfl
      · obtain ⟨c, h1, h2⟩ := h
        unfold mkL at h1
        rw [gt_app rfl] at h1
        by_cases e : id = (L.length : Int) + 1
        · rw [if_pos e] at h1
          injection h1 with h1
          subst h1
          cases h2
        · rw [if_neg e] at h1
          exact ⟨c, h1, h2⟩
  rw [if_neg h0]
  by_cases h1 : x.kind = 1
  · rw [if_pos h1]
    exact same_ok ho hinv (by unfold mineB; simp [h1]) (by unfold lessN; rw [if_neg (by omega)])
  rw [if_neg h1]
  by_cases h2 : x.kind = 2
  · rw [if_pos h2]
    have hm : ∀ d, lessN x d = 0 := fun d => by unfold lessN; rw [if_neg (by omega)]
    have hf : mineB x id false = false := by unfold mineB; simp
    unfold stC
    cases hg : gt L x.id with
    | none => exact same_ok ho hinv hf (hm _)
    | some c =>
      dsimp only
      split
      · have hc := gt_ok ho hg
        refine wrote_ok ho hinv (.inl h2) hg ⟨putL_ok _ _ _ _ hc.bytes, by dsimp only; rw [putL_len]; exact hc.len, by have := hc.often; simp; omega, fun t ht => ?_, hc.order⟩ (gt_some hg).2.2.2 rfl (putL_len _ _ _ _) (by simp)
        rcases List.mem_append.1 ht with ht | ht
        · exact hc.times t ht
        · simp only [List.mem_singleton] at ht; subst ht; exact hx.now
      · exact same_ok ho hinv hf (hm _)
  rw [if_neg h2]
  by_cases h3 : x.kind = 3
  · rw [if_pos h3]
    have hm : ∀ d, lessN x d = 0 := fun d => by unfold lessN; rw [if_neg (by omega)]
    have hf : mineB x id false = false := by unfold mineB; simp
    unfold wrC
    cases hg : gt L x.id with
    | none => exact same_ok ho hinv hf (hm _)
    | some c =>
      dsimp only
      split
      · rename_i hlen
        have hc := gt_ok ho hg
        refine wrote_ok ho hinv (.inr h3) hg ⟨hx.bytes, by dsimp only; rw [← hlen]; exact hc.len, by have := hc.often; simp; omega, fun t ht => ?_, hc.order⟩ (gt_some hg).2.2.2 rfl hlen.symm (by simp)
        rcases List.mem_append.1 ht with ht | ht
        · exact hc.times t ht
        · simp only [List.mem_singleton] at ht; subst ht; exact hx.now
      · exact same_ok ho hinv hf (hm _)
  rw [if_neg h3]
  by_cases h4 : x.kind = 4
  · rw [if_pos h4]
    have hf : ∀ d, mineB x id d = false := fun d => by unfold mineB; simp [h2, h3]
    rcases dr_cases L x.id with ⟨e, _⟩ | ⟨c, hg, hgn, e⟩
    · rw [e]
      exact same_ok ho hinv (hf _) (by unfold lessN; rw [if_neg (by simp)])
    · rw [e]
      have hc := gt_ok ho hg
      have hu := fun i => gt_upd (c' := { c with gone := true }) hg (gt_some hg).2.2.2 i
      refine ⟨okl_set (ho.more (by omega)) ((⟨hc.bytes, hc.len, hc.often, hc.times, fun _ => rfl⟩ : OkC n { c with gone := true }).more (by omega)), (fun h => by rw [hf] at h; cases h), fun _ _ => ?_, fun _ => ?_, fun h => ?_⟩
      · unfold bsC vsC
        rw [hu]
        by_cases e : id = x.id
        · rw [if_pos e, e, hg]; exact ⟨rfl, rfl⟩
        · rw [if_neg e]; exact ⟨rfl, rfl⟩
      · have := lv_dr hg hgn
        have hl : lessN x true = 1 := by unfold lessN; rw [if_pos (by simp [h4])]
        rw [hl]; exact this
      · unfold drB
        by_cases e : x.id = id
        · simp [h4, e]
        · rw [hinv]
          · rfl
          · obtain ⟨c2, h5, h6⟩ := h
            rw [hu, if_neg (fun e2 => e e2.symm)] at h5
            exact ⟨c2, h5, h6⟩
  rw [if_neg h4]
  by_cases h5 : x.kind = 5
  · rw [if_pos h5]
    have hf : ∀ d, mineB x id d = false := fun d => by unfold mineB; simp [h2, h3]
    have hd : ∀ d, drB x id d dr = dr := fun d => by unfold drB; simp [h4]
    refine ⟨okl_sw (ho.more (by omega)), (fun h => by rw [hf] at h; cases h), fun _ h => ?_, fun _ => ?_, fun h => ?_⟩
    · rw [hd] at h
      have hdr : dr = false := by unfold skipB at h; simpa [h5] using h
      have e : gt (swL L) id = gt L id := by
        rw [gt_swL]
        cases hg : gt L id with
        | none => rfl
        | some c =>
          have : c.gone = false := by
            cases hcg : c.gone with
            | false => rfl
            | true => rw [hinv ⟨c, hg, hcg⟩] at hdr; cases hdr
          simp [Option.filter, this]
      unfold bsC vsC
      rw [e]
      exact ⟨rfl, rfl⟩
    · rw [lv_sw]; unfold lessN; rw [if_neg (by omega)]; rfl
    · obtain ⟨c, h6, h7⟩ := h
      rw [gt_swL, Option.filter_eq_some_iff] at h6
      rw [h7] at h6
      simp at h6
  rw [if_neg h5]
  exact same_ok ho hinv (by unfold mineB; simp [h2, h3]) (by unfold lessN; rw [if_neg (by omega)])
end Go.Proofs.Ythdgdkjaeebbcaa
