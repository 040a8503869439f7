/-
  Plain mathematics of layer 2: beginnings of instructions' bytes. No program.
-/
import Derived.Test.YtlimhdnpdhjdaaaInsnBackMath
namespace Go.Proofs.Ytlimhdnpdhjdaaa
namespace Wi
set_option linter.unusedVariables false
set_option linter.unusedSimpArgs false

theorem okL_take (L : List In) (h : okL L) (k : Nat) : okL (L.take k) := fun x hx => h x (List.mem_of_mem_take hx)
theorem putB_split (L : List In) (k : Nat) : putB L = putB (L.take k) ++ putB (L.drop k) := by rw [← putB_app, List.take_append_drop]
theorem cut_even (L : List In) (h : okL L) (hl : L.length ≤ 256) (k : Nat) : getE ((putB L).take (putB (L.take k)).length) = 0 ∧ getO ((putB L).take (putB (L.take k)).length) = L.take k := by
  have e : (putB L).take (putB (L.take k)).length = putB (L.take k) := by
    have := putB_split L k
    rw [this, List.take_left]
  rw [e]
  exact get_put _ (okL_take L h k) (by have := List.length_take_le k L; rw [List.length_take]; omega)
theorem cut_short (L : List In) (h : okL L) (hl : L.length ≤ 256) (k c : Nat) (hk : k < L.length) (h1 : (putB (L.take k)).length < c) (h2 : (c : Int) < (putB (L.take k)).length + 8 * sizeV L[k].op) : getE ((putB L).take c) = 2 ∧ getO ((putB L).take c) = [] := by
  have hb := oneB_len L[k].op L[k].dst L[k].src L[k].off L[k].imm
  have hs := sizeV_bd L[k].op
  obtain ⟨m, hm⟩ : ∃ m, c = (putB (L.take k)).length + (m + 1) := ⟨c - (putB (L.take k)).length - 1, by omega⟩
  have e : (putB L).take c = putB (L.take k) ++ (putB (L.drop k)).take (m + 1) := by
    have hsp := putB_split L k
    rw [hsp, hm, List.take_append]
    congr 1
    · exact List.take_of_length_le (by omega)
    · congr 1; omega
  have ed : putB (L.drop k) = L[k].op :: ([16 * L[k].src + L[k].dst] ++ lowB L[k].off 2 ++ lowB L[k].imm 4 ++ (if L[k].op = 24 then lowB 0 4 ++ lowB (L[k].imm / 4294967296) 4 else []) ++ putB (L.drop (k + 1))) := by
    rw [List.drop_eq_getElem_cons hk]
    show (L[k] :: L.drop (k + 1)).flatMap In.bytes = _
    rw [List.flatMap_cons]
    show oneB L[k].op L[k].dst L[k].src L[k].off L[k].imm ++ putB (L.drop (k + 1)) = _
    unfold oneB
    simp only [List.cons_append, List.nil_append, List.append_assoc]
  obtain ⟨ys, hys⟩ : ∃ ys, ys = (putB (L.drop k)).take (m + 1) := ⟨_, rfl⟩
  have hy0 : ys.getD 0 0 = L[k].op := by rw [hys, ed]; rfl
  have hyl : ys.length ≤ m + 1 := by rw [hys]; exact List.length_take_le _ _
  have hne : ys ≠ [] := by rw [hys, ed]; simp
  have hE : fstE ys = 2 := by
    unfold fstE
    rw [hy0, if_pos]
    omega
  rw [e, ← hys]
  have hl' : (L.take k).length = k := by rw [List.length_take]; omega
  obtain ⟨f', hf, hf'⟩ := getF_put (L.take k) ys 0 _ (okL_take L h k) (by rw [hl']; omega) (Nat.le_refl _)
  rw [hl'] at hf
  rw [getF_bad f' (0 + k) ys hne hf' (by omega) (by rw [hE]; decide), hE] at hf
  have h2' : getE (putB (L.take k) ++ ys) = 2 := by unfold getE; rw [hf]
  exact ⟨h2', getO_none _ (by rw [h2']; decide)⟩
theorem tmod_fact (k n : Int) (h3 : 1 ≤ n) : -n < k.tmod n ∧ k.tmod n < n ∧ (0 ≤ k.tmod n → k % n = k.tmod n) ∧ (k.tmod n < 0 → k % n = k.tmod n + n) := by
  have a1 := Int.lt_tmod_of_pos k (show 0 < n by omega)
  have a2 := Int.tmod_lt_of_pos k (show 0 < n by omega)
  have a3 : k % n = k.tmod n % n := by
    have h := Int.mul_tdiv_add_tmod k n
    have h2 : (n * k.tdiv n + k.tmod n) % n = k.tmod n % n := by rw [Int.add_comm, Int.add_mul_emod_self_left]
    rw [h] at h2
    exact h2
  refine ⟨a1, a2, fun h => by rw [a3]; exact Int.emod_eq_of_lt h a2, fun h => ?_⟩
  rw [a3]
  have h2 : (k.tmod n + n) % n = k.tmod n % n := by rw [Int.add_emod_right]
  rw [← h2]
  exact Int.emod_eq_of_lt (by omega) (by omega)
end Wi
end Go.Proofs.Ytlimhdnpdhjdaaa
