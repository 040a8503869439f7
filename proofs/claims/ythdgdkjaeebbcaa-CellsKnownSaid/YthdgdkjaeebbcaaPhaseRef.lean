/-
  What the document's package phase tells: contracts. Conditions: lists of 1000 times at most.
-/
import Derived.Test.YthdgdkjaeebbcaaPhaseLow2
import Derived.Maps.AppendAt
import Derived.Laws.AppendOwnNone
namespace Go.Proofs.Ythdgdkjaeebbcaa.PR
set_option maxRecDepth 100000
open Go.RowKit Ow Ph
set_option linter.unusedVariables false
set_option linter.unusedSimpArgs false
theorem int_info : (Try.prog.info? 3).map (fun i => (i.zero, i.size, i.bytes)) = some (some (.int .i64 0), 1, 8) := by kernel_rfl
/-- The document's beat: a list of times. -/
def DB (w : World) (v : Value) (xs : List Int) : Prop :=
  (xs = [] ∧ v = .slice none 0 0) ∨ (xs ≠ [] ∧ ∃ ad c, v = .slice (some ad) xs.length c ∧ Rd w w.heap.size (some ad) (zv xs))
theorem DB.below {w w' : World} {v : Value} {xs : List Int} (h : DB w v xs) (hb : Below w.heap.size w w') : DB w' v xs := by
  rcases h with h | ⟨hn, ad, c, e, hr⟩
  · exact .inl h
  · exact .inr ⟨hn, ad, c, e, (hr.below hb).mono hb.size⟩
theorem info_parts {P : Program} {t : TypeId} {z : Value} {a b : Nat} (h : (P.info? t).map (fun i => (i.zero, i.size, i.bytes)) = some (some z, a, b)) : ∃ i, P.info? t = some i ∧ i.zero = some z ∧ i.size = a ∧ i.bytes = b := by
  cases hi : P.info? t with
  | none => rw [hi] at h; cases h
  | some i =>
    rw [hi] at h
    simp only [Option.map_some, Option.some.injEq, Prod.mk.injEq] at h
    exact ⟨i, rfl, h.1, h.2.1, h.2.2⟩
/-- A row of our own behind a block, and all that was there as it was. -/
theorem own_db {w : World} {base : Nat} {v : Value} {xs : List Int} {n : Nat} (h : w.ownsRow base 3 1 v n (zv xs)) (hne : xs ≠ []) (hn : n = xs.length) : DB w v xs := by
  subst hn
  obtain ⟨A, cap, rfl, _, _, hA⟩ := own_form h
  have hp : 0 < xs.length := List.length_pos_iff.2 hne
  obtain ⟨g, rfl, _, _⟩ := hA hp
  exact .inr ⟨hne, _, _, rfl, Rd.of_own h⟩
theorem zv_one (l : List Int) : ∀ u ∈ zv l, u.oneCell' = true := ints_oneCell _ _
theorem rnew_any (w : World) :
    Calls Try.prog 63 #[] w fun e w' => e = .returned (.agg #[.slice none 0 0]) ∧ Below w.heap.size w w' := by
  go_enter Try.func63, Try.ntmps63
  go_wp2
  go_returns
  exact ⟨rfl, by go_grown⟩
theorem apart_any (a b : Int) (ha : 0 ≤ a ∧ a ≤ 100000) (hb : 0 ≤ b ∧ b ≤ 100000) (w : World) :
    Calls Try.prog 74 #[.int .i64 a, .int .i64 b] w fun e w' => e = .returned (.int .i64 ((a - b).natAbs : Nat)) ∧ w = w' := by
  obtain ⟨a1, a2⟩ := ha
  obtain ⟨b1, b2⟩ := hb
  go_enter Try.func74, Try.ntmps74
  go_wp2
  all_goals
    go_ret
    exact ⟨rt_i (by omega), rfl⟩
theorem new_one {W : World} {b : Nat} (x : Value) (t : TypeId) (hb : b = W.heap.size := by simp) : ∀ j u, [x][j]? = some u → (W.alloc (.cells #[x] t)).cell? ((⟨b, 0, none⟩ : Addr).add j) = some u := by subst hb; exact cell_one_new _ _ _
theorem bk_grown {w w' : World} {b : Nat} {t : TypeId} {cs : Array Value} {row : Option Nat} (h : Bk w b t cs) (hg : w.grownBy w' row) (hne : row ≠ some b) : Bk w' b t cs := (hg.block b h.lt (fun e => hne e.symm)).trans h
theorem grown_set (w : World) (g i : Nat) (u : Value) : w.grownBy (w.setCell ⟨g, i, none⟩ u) (some g) :=
  ⟨rfl, rfl, rfl, by simp [World.setCell], fun j hj hne => Below.heap_setCell w ⟨g, i, none⟩ u j (fun e => hne (congrArg some (show j = g from e)))⟩
theorem own_ne {w : World} {base : Nat} {e : TypeId} {size n b : Nat} {v : Value} {xs : List Value} (h : w.ownsRow base e size v n xs) (hb : b < base ∨ v.ownBlock ≠ some b) : v.ownBlock ≠ some b := by
  rcases hb with hb | hb
  · intro e; have := (h.lt b e).1; omega
  · exact hb
set_option maxHeartbeats 1000000 in
theorem rwrite_any (v : Value) (xs : List Int) (t : Int) (hl : xs.length ≤ 1000) (w : World) (h : DB w v xs) :
    Calls Try.prog 69 #[.agg #[v], .int .i64 t] w fun e w' => ∃ v', e = .returned (.agg #[v']) ∧ DB w' v' (xs ++ [t]) ∧ Below w.heap.size w w' ∧ (∀ b, v'.ownBlock = some b → w.heap.size ≤ b) := by
  obtain ⟨i0, hi0, hz0, hz1, hz2⟩ := info_parts int_info
  rcases h with ⟨rfl, rfl⟩ | ⟨hne, ad, c, rfl, hr⟩
  · have OWN : Hid ((((w.alloc (.cells #[.slice none 0 0] 72)).alloc (.cells #[.slice none 0 0] 72)).alloc (.cells #[] 3)).ownsRow w.heap.size 3 1 (.slice (some ⟨w.heap.size + 1 + 1, 0, none⟩) 0 0) 0 (zv [])) := Lib.hid (by
      have h := World.ownsRow_lit (base := w.heap.size) (e := 3) (size := 1) ((w.alloc (.cells #[.slice none 0 0] 72)).alloc (.cells #[.slice none 0 0] 72)) #[] 0 (by simp; omega) (by unfold maxLen; omega) rfl
      rwa [show ((w.alloc (.cells #[.slice none 0 0] 72)).alloc (.cells #[.slice none 0 0] 72)).heap.size = w.heap.size + 1 + 1 by simp] at h)
    have KR : Hid (Bk (((w.alloc (.cells #[.slice none 0 0] 72)).alloc (.cells #[.slice none 0 0] 72)).alloc (.cells #[] 3)) (w.heap.size + 1) 72 #[.slice none 0 0]) := Lib.hid (by
      have h := Bk.new (w.alloc (.cells #[.slice none 0 0] 72)) 72 #[.slice none 0 0]
      rw [show (w.alloc (.cells #[.slice none 0 0] 72)).heap.size = w.heap.size + 1 by simp] at h
      exact h.alloc _)
    have BW : Hid (Below w.heap.size w (((w.alloc (.cells #[.slice none 0 0] 72)).alloc (.cells #[.slice none 0 0] 72)).alloc (.cells #[] 3))) := Lib.hid (by go_grown)
    have SZ : (((w.alloc (.cells #[.slice none 0 0] 72)).alloc (.cells #[.slice none 0 0] 72)).alloc (.cells #[] 3)).heap.size = w.heap.size + 1 + 1 + 1 := by simp
    go_enter Try.func69, Try.ntmps69
    go_wp2_with (first
      | (at_builtin; refine wpList_append_own_none rfl (.tmp 5) (.tmp 7) _ rfl w.heap.size 3 i0 1 Try.underlying50 hi0 _ 0 _ rfl OWN.out rfl ?_)
      | (at_builtin; refine wpList_append_own_at _ rfl (.tmp 8) (.tmp 10) _ rfl w.heap.size 3 i0 _ 1 8 Try.underlying50 hi0 hz0 hz1 hz2 rfl (by decide) _ _ _ rfl (OWN.out.alloc _) ⟨w.heap.size + 1 + 1 + 1, 0, none⟩ 1 1 _ rfl rfl (new_one _ _) ?a2 ?a3 ?a4 ?a5 ?_))
    case a2 => intro u hu; simp at hu; subst hu; rfl
    case a3 => unfold maxLen; omega
    case a4 => omega
    case a5 => simp; omega
    intro v9 z9 hown9 hg9 _ hat9
    replace hown9 := own_cast (n' := (1)) hown9 (by omega) rfl
    obtain ⟨A9, cap9, rfl, _, _, _⟩ := own_form hown9
    have K9 := Lib.hid (bk_grown (KR.out.alloc (.cells #[.int .i64 t] 3)) hg9 (by simp [Value.ownBlock]))
    have B9 := Lib.hid ((BW.out.alloc BW.out.size (.cells #[.int .i64 t] 3)).grown hg9 (by have := BW.out.size; simp; omega) fun k hk => (OWN.out.lt k hk).1)
    have O9 := Lib.hid (own_cast (xs' := zv ([] ++ [t])) hown9 rfl (by simp [zv]))
    have N9 : Hid ((Value.slice A9 (1) cap9).ownBlock ≠ some (w.heap.size + 1)) := Lib.hid (by
      rcases hat9 with e | e
      · rw [e]; exact (by simp [Value.ownBlock])
      · rw [e]; simp; omega)
    clear hown9 hg9 hat9
    obtain ⟨s0, sf⟩ : z9.cell? ⟨w.heap.size + 1, 0, none⟩ = some (.slice none 0 0) ∧ z9.frozen? ⟨w.heap.size + 1, 0, none⟩ = false := ⟨K9.out.cell 0, K9.out.frozen 0⟩
    go_wp2_with fail
    have R9 : Hid (Bk (z9.setCell ⟨w.heap.size + 1, 0, none⟩ (Value.slice A9 (1) cap9)) (w.heap.size + 1) 72 #[Value.slice A9 (1) cap9]) := Lib.hid (K9.out.set_ 0 (Value.slice A9 (1) cap9))
    have BB := Lib.hid (B9.out.setCell (p := ⟨w.heap.size + 1, 0, none⟩) (show w.heap.size ≤ w.heap.size + 1 by omega) (Value.slice A9 (1) cap9))
    have DD := Lib.hid (own_db (O9.out.kept (grown_set z9 (w.heap.size + 1) 0 (Value.slice A9 (1) cap9)) (.inr N9.out)) (by simp) (by simp))
    have NO : Hid (∀ b, (Value.slice A9 (1) cap9).ownBlock = some b → w.heap.size ≤ b) := Lib.hid (fun b hb => (O9.out.lt b hb).1)
    obtain t0 := R9.out.cell 0
    simp only [List.getElem?_toArray, List.getElem?_cons_zero] at t0
    clear R9 K9 B9 O9 N9 s0 sf
    generalize z9.setCell ⟨w.heap.size + 1, 0, none⟩ (Value.slice A9 (1) cap9) = y9 at *
    refine bodyPost_ret (by simp [results, Try.results69, t0, go_sem]; try rfl) rfl ?_
    exact ⟨_, rfl, DD.out, BB.out, NO.out⟩
  · have HRD : Hid (Rd (((w.alloc (.cells #[.slice (some ad) xs.length c] 72)).alloc (.cells #[.slice none 0 0] 72)).alloc (.cells #[] 3)) w.heap.size (some ad) (zv xs)) := Lib.hid (hr.below (by go_grown))
    have hxp : 0 < (zv xs).length := by rw [zv_len]; exact List.length_pos_iff.2 hne
    obtain ⟨ad', e, hadl, hcx⟩ := HRD.out hxp
    injection e with e
    subst e
    have HCX := Lib.hid hcx
    have hlz : (zv xs).length = xs.length * 1 := by rw [zv_len, Nat.mul_one]
    clear hcx hxp HRD
    have OWN : Hid ((((w.alloc (.cells #[.slice (some ad) xs.length c] 72)).alloc (.cells #[.slice none 0 0] 72)).alloc (.cells #[] 3)).ownsRow w.heap.size 3 1 (.slice (some ⟨w.heap.size + 1 + 1, 0, none⟩) 0 0) 0 (zv [])) := Lib.hid (by
      have h := World.ownsRow_lit (base := w.heap.size) (e := 3) (size := 1) ((w.alloc (.cells #[.slice (some ad) xs.length c] 72)).alloc (.cells #[.slice none 0 0] 72)) #[] 0 (by simp; omega) (by unfold maxLen; omega) rfl
      rwa [show ((w.alloc (.cells #[.slice (some ad) xs.length c] 72)).alloc (.cells #[.slice none 0 0] 72)).heap.size = w.heap.size + 1 + 1 by simp] at h)
    have KR : Hid (Bk (((w.alloc (.cells #[.slice (some ad) xs.length c] 72)).alloc (.cells #[.slice none 0 0] 72)).alloc (.cells #[] 3)) (w.heap.size + 1) 72 #[.slice none 0 0]) := Lib.hid (by
      have h := Bk.new (w.alloc (.cells #[.slice (some ad) xs.length c] 72)) 72 #[.slice none 0 0]
      rw [show (w.alloc (.cells #[.slice (some ad) xs.length c] 72)).heap.size = w.heap.size + 1 by simp] at h
      exact h.alloc _)
    have BW : Hid (Below w.heap.size w (((w.alloc (.cells #[.slice (some ad) xs.length c] 72)).alloc (.cells #[.slice none 0 0] 72)).alloc (.cells #[] 3))) := Lib.hid (by go_grown)
    have SZ : (((w.alloc (.cells #[.slice (some ad) xs.length c] 72)).alloc (.cells #[.slice none 0 0] 72)).alloc (.cells #[] 3)).heap.size = w.heap.size + 1 + 1 + 1 := by simp
    go_enter Try.func69, Try.ntmps69
    go_wp2_with (at_builtin; refine wpList_append_own_at _ rfl (.tmp 5) (.tmp 7) _ rfl w.heap.size 3 i0 _ 1 8 Try.underlying50 hi0 hz0 hz1 hz2 rfl (by decide) _ _ _ rfl OWN.out ad xs.length c (zv xs) rfl hlz HCX.out ?a2 ?a3 ?a4 ?a5 ?_)
    case a2 => exact zv_one xs
    case a3 => unfold maxLen; omega
    case a4 => omega
    case a5 => simp; omega
    intro v8 z8 hown8 hg8 _ hat8
    have K8 := Lib.hid (bk_grown KR.out hg8 (by simp [Value.ownBlock]))
    have B8 := Lib.hid (BW.out.grown hg8 (by simp; omega) fun k hk => (OWN.out.lt k hk).1)
    have N8 : Hid (v8.ownBlock ≠ some (w.heap.size + 1)) := Lib.hid (by
      rcases hat8 with e | e
      · rw [e]; simp [Value.ownBlock]
      · rw [e]; simp; omega)
    have O8 := Lib.hid (own_cast (xs' := zv xs) hown8 rfl (by simp [zv]))
    clear hown8 hg8 hat8 OWN KR BW HCX
    go_wp2_with (at_builtin; refine wpList_append_own_at _ rfl (.tmp 8) (.tmp 10) _ rfl w.heap.size 3 i0 _ 1 8 Try.underlying50 hi0 hz0 hz1 hz2 rfl (by decide) _ _ _ rfl (O8.out.alloc _) ⟨z8.heap.size, 0, none⟩ 1 1 _ rfl rfl (new_one _ _) ?a2 ?a3 ?a4 ?a5 ?_; skip)
    case a2 => intro u hu; simp at hu; subst hu; rfl
    case a3 => unfold maxLen; omega
    case a4 => omega
    case a5 => have := B8.out.size; simp; omega
    intro v9 z9 hown9 hg9 _ hat9
    replace hown9 := own_cast (n' := (xs.length + 1)) hown9 (by omega) rfl
    obtain ⟨A9, cap9, rfl, _, _, _⟩ := own_form hown9
    have K9 := Lib.hid (bk_grown (K8.out.alloc (.cells #[.int .i64 t] 3)) hg9 N8.out)
    have B9 := Lib.hid ((B8.out.alloc B8.out.size (.cells #[.int .i64 t] 3)).grown hg9 (by have := B8.out.size; simp; omega) fun k hk => (O8.out.lt k hk).1)
    have O9 := Lib.hid (own_cast (xs' := zv (xs ++ [t])) hown9 rfl (by simp [zv]))
    have N9 : Hid ((Value.slice A9 (xs.length + 1) cap9).ownBlock ≠ some (w.heap.size + 1)) := Lib.hid (by
      rcases hat9 with e | e
      · rw [e]; exact N8.out
      · rw [e]; have := B8.out.size; have hk := K8.out.lt; simp; omega)
    clear hown9 hg9 hat9
    obtain ⟨s0, sf⟩ : z9.cell? ⟨w.heap.size + 1, 0, none⟩ = some (.slice none 0 0) ∧ z9.frozen? ⟨w.heap.size + 1, 0, none⟩ = false := ⟨K9.out.cell 0, K9.out.frozen 0⟩
    go_wp2_with fail
    have R9 : Hid (Bk (z9.setCell ⟨w.heap.size + 1, 0, none⟩ (Value.slice A9 (xs.length + 1) cap9)) (w.heap.size + 1) 72 #[Value.slice A9 (xs.length + 1) cap9]) := Lib.hid (K9.out.set_ 0 (Value.slice A9 (xs.length + 1) cap9))
    have BB := Lib.hid (B9.out.setCell (p := ⟨w.heap.size + 1, 0, none⟩) (show w.heap.size ≤ w.heap.size + 1 by omega) (Value.slice A9 (xs.length + 1) cap9))
    have DD := Lib.hid (own_db (O9.out.kept (grown_set z9 (w.heap.size + 1) 0 (Value.slice A9 (xs.length + 1) cap9)) (.inr N9.out)) (by simp) (by simp))
    have NO : Hid (∀ b, (Value.slice A9 (xs.length + 1) cap9).ownBlock = some b → w.heap.size ≤ b) := Lib.hid (fun b hb => (O9.out.lt b hb).1)
    obtain t0 := R9.out.cell 0
    simp only [List.getElem?_toArray, List.getElem?_cons_zero] at t0
    clear R9 K9 B9 O9 N9 s0 sf
    generalize z9.setCell ⟨w.heap.size + 1, 0, none⟩ (Value.slice A9 (xs.length + 1) cap9) = y9 at *
    refine bodyPost_ret (by simp [results, Try.results69, t0, go_sem]; try rfl) rfl ?_
    exact ⟨_, rfl, DD.out, BB.out, NO.out⟩
end Go.Proofs.Ythdgdkjaeebbcaa.PR
