/-
  What the program's cells do: Sweep: contract; how many there are. Conditions: 1000 cells at most.
-/
import Derived.Test.YthdgdkjaeebbcaaCellsProg6
namespace Go.Proofs.Ythdgdkjaeebbcaa
set_option maxRecDepth 100000
open Go.RowKit Ow Ph Ro K2
set_option linter.unusedVariables false
set_option linter.unusedSimpArgs false
theorem nodup_len (n : Nat) : ∀ (l : List Nat), l.Nodup → (∀ x ∈ l, x < n) → l.length ≤ n := by
  induction n with
  | zero => intro l _ h; cases l with
    | nil => simp
    | cons a l => have := h a (by simp); omega
  | succ n ih =>
    intro l hd h
    by_cases hm : n ∈ l
    · have h1 := ih (l.erase n) (hd.erase n) (fun x hx => by
        have h2 := h x (List.mem_of_mem_erase hx)
        have h3 : x ≠ n := fun e => by subst e; exact (List.Nodup.not_mem_erase hd) hx
        omega)
      rw [List.length_erase_of_mem hm] at h1
      omega
    · have h1 := ih l hd (fun x hx => by
        have h2 := h x hx
        have h3 : x ≠ n := fun e => by subst e; exact hm hx
        omega)
      omega
section
variable {A : Ac} {P : Nat} {L : List Cl} {m : Nat} {es : Array MapEntry} {c : Nat} {D : Value} {E : List En} {ds : List Nat}
theorem PSx.dlen (h : PSx A P L m es c D E ds) : ds.length ≤ L.length + 1 :=
  nodup_len _ _ h.dnd fun x hx => by
    obtain ⟨c, h1, _⟩ := (h.dmem x).1 hx
    have := gt_some h1
    omega
theorem PSx.elen (h : PSx A P L m es c D E ds) : E.length ≤ L.length + 1 := by
  have := nodup_len (L.length + 1) (E.map (·.1)) h.ents.nodup fun x hx => by
    obtain ⟨e, he, rfl⟩ := List.mem_map.1 hx
    obtain ⟨c, s, h1, _⟩ := h.cells e.1 e.2 he
    have := gt_some h1
    omega
  simpa using this
end
/-- What is left behind k deletions. -/
def Left (w0 : World) (A : Ac) (m c : Nat) (E : List En) (ds : List Nat) (k : Nat) (w : World) : Prop :=
  ∃ A' es' E', Lay w0 A' w ∧ A' (1, 0) = some (m, .map es' c) ∧ Ents es' E' ∧ (∀ e, e ∈ E' ↔ e ∈ E ∧ e.1 ∉ ds.take k) ∧ ∀ x, x ≠ (1, 0) → A' x = A x
theorem Left.next {w0 w : World} {A : Ac} {m c : Nat} {E : List En} {ds : List Nat} {k : Nat} (h : Left w0 A m c E ds k w) (hk : k < ds.length) (hd : ds.Nodup) (hE : ∀ x ∈ ds, ∃ q, (x, q) ∈ E) :
    ∃ o, (∀ ty, (Builtin.delete_ #[66, 3] ty #[.map (some m), .int .i64 (ds[k] : Nat)]).run Try.prog w = .ok (.tuple #[]) (putO w m o)) ∧ Left w0 A m c E ds (k + 1) (putO w m o) := by
  obtain ⟨A', es', E', hl, h1, h2, h3, h4⟩ := h
  obtain ⟨q, hq⟩ := hE _ (List.getElem_mem hk)
  have hnt : ds[k] ∉ ds.take k := by
    intro hm
    obtain ⟨i, hi, e⟩ := List.getElem_of_mem hm
    rw [List.getElem_take] at e
    rw [List.length_take] at hi
    exact List.pairwise_iff_getElem.1 hd i k (by omega) hk (by omega) e
  have hm : (ds[k], q) ∈ E' := (h3 _).2 ⟨hq, hnt⟩
  obtain ⟨j, h5, h6⟩ := h2.some_ hm
  refine ⟨_, fun ty => run_del und_map und_int (hl.obj h1) h5 _ ty, _, _, E'.eraseIdx j, hl.putO_ h1 _, up_same _ _ _ _, h2.erase j, fun e => ?_, fun x hx => by rw [up_other _ _ _ hx, h4 x hx]⟩
  rw [mem_erase h2.nodup h6, h3, List.take_succ_eq_append_getElem hk, List.mem_append, List.mem_singleton]
  constructor
  · rintro ⟨⟨a, b⟩, d⟩; exact ⟨a, fun h => h.elim b d⟩
  · rintro ⟨a, b⟩; exact ⟨⟨a, fun h => b (.inl h)⟩, fun h => b (.inr h)⟩
theorem Left.head {w0 w : World} {A : Ac} {P m c : Nat} {E : List En} {ds : List Nat} {k : Nat} {cs : Array Value} {t : TypeId} (h : Left w0 A m c E ds k w) (hA : A (0, 0) = some (P, .cells cs t)) (i : Nat) : w.cell? ⟨P, i, none⟩ = cs[i]? ∧ w.frozen? ⟨P, i, none⟩ = false := by
  obtain ⟨A', es', E', hl, h1, h2, h3, h4⟩ := h
  exact ⟨(hl.bk ((h4 _ (by simp)).trans hA)).cell i, (hl.bk ((h4 _ (by simp)).trans hA)).frozen i⟩
def SweepP (w0 : World) (A : Ac) (P : Nat) (n : Nat) (L : List Cl) (e : Ending) (w' : World) : Prop := e = .returned (.int .i64 n) ∧ Did w0 A P L w'
set_option maxHeartbeats 2000000 in
theorem sweep_c {w0 w : World} {A : Ac} {P : Nat} {L : List Cl} {m : Nat} {es : Array MapEntry} {c : Nat} {D : Value} {E : List En} {ds : List Nat} (hl : Lay w0 A w) (hx : PSx A P L m es c D E ds) (hn : L.length ≤ 1000) :
    Calls Try.prog 29 #[.pointer (some ⟨P, 0, none⟩)] w (SweepP w0 A P ds.length (swL L)) := by
  have hdl := hx.dlen
  have p1 : w.cell? ⟨P, 1, none⟩ = some D := (hl.bk hx.head).cell 1
  obtain ⟨a, cap, rfl, h1, h2, h3⟩ := hx.drop.form2
  have HL := Lib.hid hl
  have HX := Lib.hid hx
  have HH := Lib.hid hx.head
  have HDR := Lib.hid hx.drop
  have HND := Lib.hid hx.dnd
  have HEX : Hid (∀ x ∈ ds, ∃ q, (x, q) ∈ E) := Lib.hid (fun x hxd => by
    obtain ⟨c, h4, _⟩ := (hx.dmem x).1 hxd
    exact hx.all x c h4)
  have H0 : Hid (Left w0 A m c E ds 0 w) := Lib.hid ⟨A, es, E, hl, hx.map_, hx.ents, fun e => by simp, fun _ _ => rfl⟩
  have HLL : ∃ LL, LL = swL L := ⟨_, rfl⟩
  obtain ⟨LL, hLL⟩ := HLL
  rw [← hLL]
  have HLL := Lib.hid hLL
  have HN : ∃ n, ds.length = n := ⟨_, rfl⟩
  obtain ⟨n, hnn⟩ := HN
  rw [hnn] at h1 h3 hdl p1 HH HDR ⊢
  have HN := Lib.hid hnn
  clear hl hx hLL hnn h3
  go_enter Try.func29, Try.ntmps29
  go_wp2_with fail
  go_loopw [16] (fun i wr => ∃ k : Nat, k ≤ n ∧ i = .int .i64 k ∧ Hid (Left w0 A m c E ds k wr)) (fun i _ => n - (intOf i).toNat)
  case atStart => exact ⟨0, Nat.zero_le _, rfl, H0⟩
  case round =>
    clear H0 HL p1
    obtain ⟨k, hk, rfl, HF⟩ := hrel
    obtain ⟨q0, _⟩ := HF.out.head HH.out 0
    obtain ⟨q1, f1⟩ := HF.out.head HH.out 1
    simp only [List.getElem?_toArray, List.getElem?_cons_zero, List.getElem?_cons_succ] at q0 q1
    by_cases hlt : k < n
    · have hkd : k < ds.length := by rw [HN.out]; exact hlt
      obtain ⟨o, ho1, ho2⟩ := HF.out.next hkd HND.out HEX.out
      have HO2 := Lib.hid ho2
      have hrd : ∃ ad, a = some ad ∧ wr.cell? (ad.add k) = some (.int .i64 (ds[k] : Nat)) := by
        obtain ⟨A', es', E', hl, _, _, _, h4⟩ := HF.out
        have hr := (HDR.out.keep (A' := A') (h4 _ (by simp))).own hl
        cases a with
        | none =>
          rcases hr.2 with ⟨_, e⟩ | ⟨g, cap', cur, e, _⟩
          · omega
          · cases e
        | some ad =>
          refine ⟨ad, rfl, ?_⟩
          rw [(own_at hr k (by omega)).1]
          unfold dv
          rw [List.getElem?_map, List.getElem?_eq_getElem hkd]
          rfl
      obtain ⟨ad, rfl, hcd⟩ := hrd
      have hi2 : (k : Int) < (n : Int) := by omega
      clear ho2 HF
      generalize ds[k] = x at *
      clear hkd
      go_wp2
      go_roundw
      case rel => exact ⟨k + 1, by omega, by go_num, HO2⟩
      case measure => simp [intOf]; omega
    · obtain rfl : k = n := by omega
      have HDD : Hid (Did w0 A P LL (wr.setCell ⟨P, 1, none⟩ (.slice none 0 0))) := Lib.hid (by
        obtain ⟨A', es', E', hl, h4, h5, h6, h7⟩ := HF.out
        have h8 := hl.set_ ((h7 _ (by simp)).trans HH.out) 1 (.slice none 0 0)
        refine ⟨_, h8, ⟨m, es', c, .slice none 0 0, E', [], ?_⟩, fun x hx => by rw [up_other _ _ _ (ne10 hx (by simp)), h7 _ (ne10 hx (by simp))]⟩
        rw [HLL.out]
        refine HX.out.swept (up_same _ _ _ _) rfl (by rw [up_other _ _ _ (by simp)]; exact h4) h5 (fun e => ?_) (fun x h9 h10 h11 => by rw [up_other _ _ _ h10, h7 _ h11])
        rw [h6, List.take_of_length_le (by rw [HN.out]; exact Nat.le_refl _)])
      clear HF
      go_wp2
      generalize wr.setCell ⟨P, 1, none⟩ (.slice none 0 0) = z9 at *
      go_ret
      exact ⟨rfl, HDD.out⟩
end Go.Proofs.Ythdgdkjaeebbcaa
