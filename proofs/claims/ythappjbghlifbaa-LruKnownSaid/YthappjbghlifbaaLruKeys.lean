/-
  Layer 11's document: Keys: contract. Conditions: 1000 rows, 1000 keys told, 1000000 uses at most.
-/
import Derived.Test.YthappjbghlifbaaLruRef4
import Derived.Lib.Hide
namespace Go.Proofs.Ythappjbghlifbaa
set_option maxRecDepth 100000
open Go.RowKit Ow Ro K2
set_option linter.unusedVariables false
set_option linter.unusedSimpArgs false
/-- The keys that were used last at u, of the first j rows. -/
def kin (l : List Rw) (u : Int) (j : Nat) : List (List Int) := ((l.take j).filter fun e => e.u == u).map fun e => e.k
/-- The keys, the one that was used last first. -/
def keysD (l : List Rw) : Nat → List (List Int)
  | 0 => []
  | u + 1 => kin l ((u + 1 : Nat) : Int) l.length ++ keysD l u
theorem kin_succ (l : List Rw) (u : Int) (i : Nat) (t : Rw) (h : l[i]? = some t) : kin l u (i + 1) = kin l u i ++ (if t.u = u then [t.k] else []) := by
  unfold kin
  rw [List.take_add_one, h, Option.toList_some, List.filter_append, List.map_append]
  by_cases c : t.u = u
  · rw [if_pos c, List.filter_cons_of_pos (by simp [c])]; rfl
  · rw [if_neg c, List.filter_cons_of_neg (by simp [c])]; rfl
theorem kin_le (l : List Rw) (u : Int) (j : Nat) : (kin l u j).length ≤ (kin l u l.length).length := by
  unfold kin
  rw [List.length_map, List.length_map, List.take_length]
  exact ((List.take_sublist j l).filter _).length_le
theorem KI.ls {w0 z : World} {A : Ac} {G : List (List Int)} {X : Nat} {K M U : Int} {v v' : Value} {l : List Rw} {t : Nat} (h : KI w0 A G v' z) (hs : LS A X K M U v l t) : ∃ A', Lay w0 A' z ∧ LS A' X K M U v l t := by
  obtain ⟨A', vs, h1, h2, _⟩ := h
  exact ⟨A', h1, hs.keep (fun x hx hx2 => h2 x (by omega) (by omega))⟩
def KeysP (w0 : World) (A : Ac) (G : List (List Int)) (e : Ending) (w' : World) : Prop := ∃ v, e = .returned v ∧ KI w0 A G v w'
set_option maxHeartbeats 2000000 in
theorem lkeys_c {w0 w : World} {A : Ac} {X n : Nat} {K M : Int} {v : Value} {l : List Rw} {t : Nat} (hl : Lay w0 A w) (h : LS A X K M (n : Nat) v l t) (hlen : l.length ≤ 1000) (hn : n ≤ 1000000) (hk : (keysD l n).length ≤ 1000) :
    Calls Try.prog 15 #[.pointer (some ⟨X, 0, none⟩)] w (KeysP w0 A (keysD l n)) := by
  obtain ⟨i0, hi0, hz0, hz1, hz2⟩ := info10 txt_info
  obtain ⟨a1, c1, rfl, c8, c9⟩ := h.form
  have H0 : Hid (KI w0 A [] (.slice none 0 0) w) := Lib.hid ⟨A, [], hl, fun _ _ _ => rfl, Row.nil _ _ _ _, rfl, fun j bs hj => by simp at hj⟩
  have x2 := (h.hd hl).c2
  have HH := Lib.hid h
  have HLN : Hid (∀ e ∈ l, e.k.length ≤ 1000) := Lib.hid fun e he => (h.keys e he).2.1
  obtain ⟨m, hm⟩ : ∃ m, l.length = m := ⟨_, rfl⟩
  have HM := Lib.hid hm
  rw [hm] at hlen c8
  have HK := Lib.hid hk
  clear hl h hm hk
  go_enter Try.func15, Try.ntmps15
  go_wp2
  clear x2
  go_loopw [3, 4, 5] (fun o u i wr => ∃ (k : Nat) (G : List (List Int)), k ≤ n ∧ u = .int .i64 (k : Nat) ∧ Hid (G ++ keysD l k = keysD l n) ∧ Hid (KI w0 A G o wr)) (fun _ u _ _ => (intOf u).toNat)
  case atStart => exact ⟨n, [], Nat.le_refl _, rfl, Lib.hid rfl, H0⟩
  case round =>
    clear H0
    obtain ⟨k, G, hkn, rfl, HG, HI⟩ := hrel
    by_cases hpos : 0 < k
    · obtain ⟨k, rfl⟩ : ∃ k', k = k' + 1 := ⟨k - 1, by omega⟩
      have i1 : ((k + 1 : Nat) : Int) > 0 := by omega
      obtain ⟨y, hy⟩ : ∃ y : Int, ((k + 1 : Nat) : Int) = y := ⟨_, rfl⟩
      have HY := Lib.hid hy
      have HG2 : Hid (G ++ (kin l y l.length ++ keysD l k) = keysD l n) := Lib.hid (by rw [← hy]; exact HG.out)
      have HN0 : Hid (KI w0 A (G ++ kin l y 0) u3 wr) := Lib.hid (by
        have : kin l y 0 = [] := by unfold kin; simp
        rw [this, List.append_nil]
        exact HI.out)
      have hyb : 0 < y ∧ y ≤ 1000000 := by omega
      have i1 : y > 0 := hyb.1
      have i6 : IntKind.i64.wrap (y - 1) = (k : Int) := by rw [IntWalk.i64_in _ (by omega)]; omega
      rw [hy]
      clear HI HG hy
      go_wp2
      go_loopw [3, 5] (fun o i wr => ∃ j : Nat, j ≤ m ∧ i = .int .i64 (j : Nat) ∧ Hid (KI w0 A (G ++ kin l y j) o wr)) (fun _ i _ => m - (intOf i).toNat)
      case atStart => exact ⟨0, Nat.zero_le _, rfl, HN0⟩
      case round =>
        clear HN0
        obtain ⟨j, hj, rfl, HI⟩ := hrel
        obtain ⟨A', hl, hs⟩ := HI.out.ls HH.out
        have x3 := (hs.hd hl).c3
        rw [HM.out] at x3
        by_cases hlt : j < m
        · have j1 : (j : Int) < (m : Int) := by omega
          have j2 : (0 : Int) ≤ (j : Int) := by omega
          have hje : l[j]? = some (l[j]'(by rw [HM.out]; exact hlt)) := List.getElem?_eq_getElem _
          have hbl := HLN.out _ (List.getElem_mem (by rw [HM.out]; exact hlt))
          generalize l[j]'(by rw [HM.out]; exact hlt) = x at *
          obtain ⟨ad, cap, ak, ck, e1, _, _, _, k0, _, k2, _, c8⟩ := hs.look hl hje
          simp only [Value.slice.injEq] at e1
          obtain ⟨rfl, _, rfl⟩ := e1
          have HS1 := Lib.hid (kin_succ l y j x hje)
          have HR := Lib.hid c8
          have hgl : (G ++ kin l y j).length ≤ 1000 := by
            have h1 := kin_le l y j
            have h2 := HK.out
            rw [← HG2.out] at h2
            simp only [List.length_append] at h2 ⊢
            omega
          clear hl hs hje c8
          by_cases hu : x.u = y
          · have i3 : (x.u == y) = true := by simp [hu]
            rw [if_pos hu] at HS1
            generalize x.u = xu at *
            generalize x.k = bs at *
            obtain ⟨F, hF⟩ : ∃ F, G ++ kin l y j = F := ⟨_, rfl⟩
            have HF : Hid (G ++ kin l y (j + 1) = F ++ [bs]) := Lib.hid (by rw [HS1.out, ← hF, List.append_assoc])
            rw [hF] at HI hgl
            clear hF HS1 hu
            go_wp2_with fail
            with_reducible refine (copyb_any ak bs.length ck bs rfl (by omega) _ HR.out).mono ?_
            rintro e z1 ⟨u, rfl, q⟩
            have HK1 := Lib.hid (HI.out.copied q)
            obtain ⟨au, cu, rfl, _, _, _⟩ := own_form q.own
            clear q HI HR
            have HK2 := Lib.hid (HK1.out.grow ((Below.refl _ _).alloc (Nat.le_refl _) (.cells #[.slice au bs.length cu] 27)))
            obtain ⟨vs, hvl, hown, hbase⟩ := HK2.out.own
            have HOWN := Lib.hid hown
            clear hown HK1
            obtain ⟨q, hq⟩ : ∃ q, bs.length = q := ⟨_, rfl⟩
            rw [hq] at HK2 HOWN hbase hbl k0 ⊢
            go_wp2_with (at_builtin; refine wpList_append_own_at _ rfl (.tmp 33) (.tmp 43) _ rfl w0.heap.size 27 i0 _ 1 24 Try.underlying33 hi0 hz0 hz1 hz2 rfl (by decide) _ _ _ rfl HOWN.out ⟨z1.heap.size, 0, none⟩ 1 1 [.slice au q cu] rfl rfl (cell_one_new _ _ _) ?a2 ?a3 ?a4 ?a5 ?_)
            case a2 => intro u hu; simp at hu; subst hu; rfl
            case a3 => unfold maxLen; omega
            case a4 => omega
            case a5 => exact hbase
            intro v1 w10 hown1 hg1 _ hat1
            have HKN : Hid (KI w0 A (G ++ kin l y (j + 1)) v1 w10) := Lib.hid (by
              rw [HF.out]
              exact HK2.out.app HOWN.out hown1 hg1 (hat1.imp id (fun e => ⟨_, e, by simp⟩)))
            clear hown1 hg1 hat1 HK2 HOWN hbase x3 k0 k2
            go_wp2
            go_roundw
            case rel => exact ⟨j + 1, by omega, by go_num, HKN⟩
            case measure => simp [intOf]; omega
          · have i3 : (x.u == y) = false := by rw [beq_eq_false_iff_ne]; omega
            rw [if_neg hu, List.append_nil] at HS1
            have HKN : Hid (KI w0 A (G ++ kin l y (j + 1)) u3 wr) := Lib.hid (by rw [HS1.out]; exact HI.out)
            generalize x.u = xu at *
            clear HI HR HS1
            go_wp2
            go_roundw
            case rel => exact ⟨j + 1, by omega, by go_num, HKN⟩
            case measure => simp [intOf]; omega
        · have hjn : j = m := by omega
          have j1 : ¬ (j : Int) < (m : Int) := by omega
          have HKN : Hid (KI w0 A (G ++ kin l y l.length) u3 wr) := Lib.hid (by
            have := HI.out
            rwa [hjn, ← HM.out] at this)
          clear hl hs HI
          go_wp2
          go_roundw
          case rel => exact ⟨k, _, by omega, by go_num, Lib.hid (by rw [List.append_assoc]; exact HG2.out), HKN⟩
          case measure => have := HY.out; simp [intOf]; omega
    · have hk0 : k = 0 := by omega
      subst hk0
      have i1 : ¬ ((0 : Nat) : Int) > 0 := by omega
      have HKN : Hid (KI w0 A (keysD l n) u3 wr) := Lib.hid (by
        have h1 := HG.out
        have h2 : keysD l 0 = [] := rfl
        rw [h2, List.append_nil] at h1
        rw [← h1]
        exact HI.out)
      clear HI HG
      go_wp2
      go_ret
      exact ⟨_, rfl, HKN.out⟩
end Go.Proofs.Ythappjbghlifbaa
