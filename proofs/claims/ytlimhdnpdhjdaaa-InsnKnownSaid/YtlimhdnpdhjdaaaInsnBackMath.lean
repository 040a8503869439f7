/-
  Plain mathematics of layer 2: instructions come back from their bytes, and bytes from their instructions. No program.
-/
import Derived.Test.YtlimhdnpdhjdaaaInsnGetMath
namespace Go.Proofs.Ytlimhdnpdhjdaaa
namespace Wi
set_option linter.unusedVariables false
set_option linter.unusedSimpArgs false

theorem low2 (v : Int) : lowB v 2 = [v % 256, v / 256 % 256] := by
  unfold lowB shv; simp [List.range_succ]
theorem low4 (v : Int) : lowB v 4 = [v % 256, v / 256 % 256, v / 65536 % 256, v / 16777216 % 256] := by
  unfold lowB shv; simp [List.range_succ]
theorem le2 (v : Int) : leN (lowB v 2) = v % 65536 := by rw [low2]; simp only [leN]; omega
theorem le4 (v : Int) : leN (lowB v 4) = v % 4294967296 := by rw [low4]; simp only [leN]; omega
theorem low2_of (a b v : Int) (ha : 0 ≤ a ∧ a ≤ 255) (hb : 0 ≤ b ∧ b ≤ 255) (h : v % 65536 = (a + 256 * b) % 65536) : lowB v 2 = [a, b] := by
  rw [low2]
  have h1 : v % 256 = a := by omega
  have h2 : v / 256 % 256 = b := by omega
  rw [h1, h2]
theorem low4_of (a b c d v : Int) (ha : 0 ≤ a ∧ a ≤ 255) (hb : 0 ≤ b ∧ b ≤ 255) (hc : 0 ≤ c ∧ c ≤ 255) (hd : 0 ≤ d ∧ d ≤ 255) (h : v % 4294967296 = (a + 256 * (b + 256 * (c + 256 * d))) % 4294967296) : lowB v 4 = [a, b, c, d] := by
  rw [low4]
  have h1 : v % 256 = a := by omega
  have h2 : v / 256 % 256 = b := by omega
  have h3 : v / 65536 % 256 = c := by omega
  have h4 : v / 16777216 % 256 = d := by omega
  rw [h1, h2, h3, h4]

/-- An instruction is read off its bytes, whatever follows. -/
theorem fst_bytes (x : In) (rest : List Int) (hx : x.chk = 0) (hf : x.fits) : fstE (x.bytes ++ rest) = 0 ∧ fstX (x.bytes ++ rest) = x ∧ (fstN (x.bytes ++ rest)).toNat = x.bytes.length := by
  obtain ⟨r1, r2, r3, r4, r5, r6, r7, r8, r9⟩ := chk_regs _ _ _ _ _ hx
  have hi : -9223372036854775808 ≤ x.imm ∧ x.imm ≤ 9223372036854775807 := hf.2.2.2.2
  have hlen := oneB_len x.op x.dst x.src x.off x.imm
  have hs := sizeV_bd x.op
  have key : decV (x.bytes ++ rest) = x ∧ (x.bytes ++ rest).getD 0 0 = x.op ∧ (x.op = 24 → leN (((x.bytes ++ rest).drop 8).take 4) = 0) := by
    obtain ⟨op, dst, src, off, imm⟩ := x
    simp only at *
    have e2 := le2 off
    have e4 := le4 imm
    have e5 := le4 (imm / 4294967296)
    rw [low2] at e2
    rw [low4] at e4 e5
    have d1 : (16 * src + dst) % 16 = dst := by omega
    have d2 : (16 * src + dst) / 16 = src := by omega
    have d3 : s16 (off % 65536) = off := by unfold s16; omega
    by_cases h24 : op = 24
    · have d4 : s64 (imm % 4294967296 + 4294967296 * (imm / 4294967296 % 4294967296)) = imm := by unfold s64; omega
      subst h24
      refine ⟨?_, ?_, ?_⟩
      · simp [decV, In.bytes, oneB, low2, low4, d1, d2, e2, e4, e5, d3, d4]
      · simp [In.bytes, oneB]
      · intro _
        simp [In.bytes, oneB, low2, low4, leN]
    · have d4 : s32 (imm % 4294967296) = imm := by unfold s32; omega
      refine ⟨?_, ?_, fun h => absurd h h24⟩
      · simp [decV, In.bytes, oneB, low2, low4, d1, d2, e2, e4, d3, d4, h24]
      · simp [In.bytes, oneB]
  obtain ⟨k1, k2, k3⟩ := key
  have hE : fstE (x.bytes ++ rest) = 0 := by
    unfold fstE
    rw [k2, k1, if_neg, if_neg]
    · exact hx
    · rintro ⟨h24, h⟩; exact h (k3 h24)
    · rw [List.length_append]; unfold In.bytes; omega
  refine ⟨hE, ?_, ?_⟩
  · unfold fstX; rw [if_pos hE]; exact k1
  · unfold fstN; rw [if_pos hE, k2]; unfold In.bytes; omega
def okL (L : List In) : Prop := ∀ x ∈ L, x.chk = 0 ∧ x.fits
theorem bytes_pos (x : In) : 0 < x.bytes.length := by unfold In.bytes; rw [oneB_len]; have := sizeV_bd x.op; omega
/-- What is read of instructions' bytes and more. -/
theorem getF_put (L : List In) (ys : List Int) (c f : Nat) (hL : okL L) (hc : c + L.length ≤ 256) (hf : (putB L ++ ys).length ≤ f) :
    ∃ f', getF f c (putB L ++ ys) = (L ++ (getF f' (c + L.length) ys).1, (getF f' (c + L.length) ys).2) ∧ ys.length ≤ f' := by
  induction L generalizing c f with
  | nil => exact ⟨f, by simp [putB], by simpa [putB] using hf⟩
  | cons x r ih =>
    have hx := hL x (List.mem_cons_self ..)
    have e : putB (x :: r) ++ ys = x.bytes ++ (putB r ++ ys) := by unfold putB; simp
    have hp := bytes_pos x
    obtain ⟨h1, h2, h3⟩ := fst_bytes x (putB r ++ ys) hx.1 hx.2
    rw [e] at hf ⊢
    have hne : x.bytes ++ (putB r ++ ys) ≠ [] := by
      intro h
      have := congrArg List.length h
      simp at this
      rw [this.1] at hp
      simp at hp
    simp only [List.length_cons] at hc
    obtain ⟨f1, hf1, hf2⟩ := getF_ok f c _ hne hf (by omega) h1
    rw [h3, List.drop_left] at hf1 hf2
    obtain ⟨f', h5, h6⟩ := ih (c + 1) f1 (fun y hy => hL y (List.mem_cons_of_mem _ hy)) (by omega) hf2
    refine ⟨f', ?_, h6⟩
    rw [hf1, h2, h5]
    simp [Nat.add_assoc, Nat.add_comm 1]
theorem get_put (L : List In) (hL : okL L) (hc : L.length ≤ 256) : getE (putB L) = 0 ∧ getO (putB L) = L := by
  obtain ⟨f', h, _⟩ := getF_put L [] 0 (putB L ++ []).length hL (by omega) (Nat.le_refl _)
  rw [List.append_nil] at h
  rw [getF_nil] at h
  simp only [List.append_nil] at h
  have hE : getE (putB L) = 0 := by unfold getE; rw [h]
  refine ⟨hE, ?_⟩
  unfold getO; rw [if_pos hE, h]
theorem lowB_isB (v : Int) (n : Nat) : isB (lowB v n) := by
  intro b hb
  unfold lowB at hb
  obtain ⟨k, _, rfl⟩ := List.mem_map.1 hb
  omega
theorem isB_app (a b : List Int) (ha : isB a) (hb : isB b) : isB (a ++ b) := fun x hx => by
  rcases List.mem_append.1 hx with h | h
  · exact ha x h
  · exact hb x h
theorem bytes_isB (x : In) (h : x.chk = 0) : isB x.bytes := by
  obtain ⟨r1, r2, r3, r4, r5, r6, _⟩ := chk_regs _ _ _ _ _ h
  unfold In.bytes oneB
  refine isB_app _ _ (isB_app _ _ (isB_app _ _ ?_ (lowB_isB _ _)) (lowB_isB _ _)) ?_
  · intro b hb
    simp at hb
    rcases hb with rfl | rfl <;> omega
  · split
    · exact isB_app _ _ (lowB_isB _ _) (lowB_isB _ _)
    · intro b hb; simp at hb
theorem putB_isB (L : List In) (h : okL L) : isB (putB L) := by
  intro b hb
  unfold putB at hb
  obtain ⟨x, hx, hb⟩ := List.mem_flatMap.1 hb
  exact bytes_isB x (h x hx).1 b hb
theorem firstE_ok (L : List In) (h : firstE L = 0) : ∀ x ∈ L, x.chk = 0 := by
  induction L with
  | nil => intro x hx; simp at hx
  | cons y r ih =>
    unfold firstE at h
    split at h
    · rename_i hy
      intro x hx
      rcases List.mem_cons.1 hx with rfl | hx
      · exact hy
      · exact ih h x hx
    · rename_i hy; exact absurd h hy
theorem firstE_of (L : List In) (h : ∀ x ∈ L, x.chk = 0) : firstE L = 0 := by
  induction L with
  | nil => rfl
  | cons y r ih => unfold firstE; rw [if_pos (h y (List.mem_cons_self ..))]; exact ih fun x hx => h x (List.mem_cons_of_mem _ hx)
theorem putE_ok (L : List In) (h : putE L = 0) : L.length ≤ 256 ∧ firstE L = 0 := by
  unfold putE at h
  split at h
  · omega
  · exact ⟨by omega, h⟩
theorem putE_of (L : List In) (h1 : L.length ≤ 256) (h2 : firstE L = 0) : putE L = 0 := by rw [putE_few L h1]; exact h2
theorem putO_of (L : List In) (h : putE L = 0) : putO L = putB L := by unfold putO; rw [if_pos h]
theorem putO_none (L : List In) (h : putE L ≠ 0) : putO L = [] := by unfold putO; rw [if_neg h]
theorem putB_app (a b : List In) : putB (a ++ b) = putB a ++ putB b := by unfold putB; simp
theorem eight (xs : List Int) (h : 8 ≤ xs.length) : ∃ b0 b1 b2 b3 b4 b5 b6 b7 t, xs = b0 :: b1 :: b2 :: b3 :: b4 :: b5 :: b6 :: b7 :: t := by
  match xs, h with
  | b0 :: b1 :: b2 :: b3 :: b4 :: b5 :: b6 :: b7 :: t, _ => exact ⟨b0, b1, b2, b3, b4, b5, b6, b7, t, rfl⟩
/-- The instruction that bytes begin with has just these bytes. -/
theorem bytes_fst (xs : List Int) (hb : isB xs) (he : fstE xs = 0) : (fstX xs).bytes = xs.take (fstN xs).toNat ∧ (fstX xs).chk = 0 ∧ (fstX xs).fits := by
  have hX : fstX xs = decV xs := if_pos he
  obtain ⟨hN, hl⟩ := fstN_ok xs he
  have hs := sizeV_bd (xs.getD 0 0)
  have hck : (decV xs).chk = 0 ∧ (xs.getD 0 0 = 24 → leN ((xs.drop 8).take 4) = 0) := by
    unfold fstE at he
    split at he
    · omega
    · split at he
      · omega
      · rename_i h
        exact ⟨he, fun h24 => Classical.byContradiction fun hn => h ⟨h24, hn⟩⟩
  obtain ⟨hck, hz⟩ := hck
  obtain ⟨r1, r2, r3, r4, r5, r6, r7, r8, r9⟩ := chk_regs _ _ _ _ _ hck
  rw [hX]
  refine ⟨?_, hck, ?_⟩
  · obtain ⟨b0, b1, b2, b3, b4, b5, b6, b7, t, rfl⟩ := eight xs (by omega)
    have q0 := hb b0 (by simp)
    have q1 := hb b1 (by simp)
    have q2 := hb b2 (by simp)
    have q3 := hb b3 (by simp)
    have q4 := hb b4 (by simp)
    have q5 := hb b5 (by simp)
    have q6 := hb b6 (by simp)
    have q7 := hb b7 (by simp)
    have e0 : (b0 :: b1 :: b2 :: b3 :: b4 :: b5 :: b6 :: b7 :: t).getD 0 0 = b0 := rfl
    have e1 : (b0 :: b1 :: b2 :: b3 :: b4 :: b5 :: b6 :: b7 :: t).getD 1 0 = b1 := rfl
    rw [hN, e0]
    have eo : lowB (s16 (leN [b2, b3])) 2 = [b2, b3] := low2_of _ _ _ q2 q3 (by simp only [leN]; unfold s16; omega)
    have er : 16 * (b1 / 16) + b1 % 16 = b1 := by omega
    by_cases h24 : b0 = 24
    · have h2 : sizeV b0 = 2 := if_pos h24
      rw [e0, h2] at hl
      obtain ⟨b8, b9, ba, bb, bc, bd, be, bf, u, rfl⟩ := eight t (by simp at hl; omega)
      have p8 := hb b8 (by simp)
      have p9 := hb b9 (by simp)
      have pa := hb ba (by simp)
      have pb := hb bb (by simp)
      have pc := hb bc (by simp)
      have pd := hb bd (by simp)
      have pe := hb be (by simp)
      have pf := hb bf (by simp)
      have hz' : leN [b8, b9, ba, bb] = 0 := hz h24
      simp only [leN] at hz'
      have z8 : b8 = 0 := by omega
      have z9 : b9 = 0 := by omega
      have za : ba = 0 := by omega
      have zb : bb = 0 := by omega
      have ei : lowB (s64 (leN [b4, b5, b6, b7] + 4294967296 * leN [bc, bd, be, bf])) 4 = [b4, b5, b6, b7] := low4_of _ _ _ _ _ q4 q5 q6 q7 (by simp only [leN]; unfold s64; omega)
      have ej : lowB (s64 (leN [b4, b5, b6, b7] + 4294967296 * leN [bc, bd, be, bf]) / 4294967296) 4 = [bc, bd, be, bf] := low4_of _ _ _ _ _ pc pd pe pf (by simp only [leN]; unfold s64; omega)
      have ez : lowB 0 4 = [0, 0, 0, 0] := by rw [low4]; rfl
      rw [h2]
      subst h24 z8 z9 za zb
      have hd : decV (24 :: b1 :: b2 :: b3 :: b4 :: b5 :: b6 :: b7 :: 0 :: 0 :: 0 :: 0 :: bc :: bd :: be :: bf :: u) = ⟨24, b1 % 16, b1 / 16, s16 (leN [b2, b3]), s64 (leN [b4, b5, b6, b7] + 4294967296 * leN [bc, bd, be, bf])⟩ := rfl
      rw [hd]
      simp only [In.bytes, oneB, eo, ei, ej, ez, er]
      rfl
    · have h1 : sizeV b0 = 1 := if_neg h24
      have ei : lowB (s32 (leN [b4, b5, b6, b7])) 4 = [b4, b5, b6, b7] := low4_of _ _ _ _ _ q4 q5 q6 q7 (by simp only [leN]; unfold s32; omega)
      have hd : decV (b0 :: b1 :: b2 :: b3 :: b4 :: b5 :: b6 :: b7 :: t) = ⟨b0, b1 % 16, b1 / 16, s16 (leN [b2, b3]), s32 (leN [b4, b5, b6, b7])⟩ := by
        unfold decV
        rw [e0, e1, if_neg h24]
        rfl
      rw [h1, hd]
      simp only [In.bytes, oneB, eo, ei, er, if_neg h24]
      rfl
  · have hm : -9223372036854775808 ≤ (decV xs).imm ∧ (decV xs).imm ≤ 9223372036854775807 := by
      unfold decV
      simp only
      split
      · unfold s64; omega
      · unfold s32; omega
    exact ⟨⟨by omega, by omega⟩, ⟨by omega, by omega⟩, ⟨by omega, by omega⟩, ⟨by omega, by omega⟩, hm⟩
/-- Whatever is read of bytes is made into these bytes. -/
theorem put_getF (f c : Nat) (xs : List Int) (hb : isB xs) (hf : xs.length ≤ f) (hc : c ≤ 256) (h : (getF f c xs).2 = 0) : putB (getF f c xs).1 = xs ∧ okL (getF f c xs).1 ∧ c + (getF f c xs).1.length ≤ 256 := by
  induction f generalizing c xs with
  | zero =>
    have : xs = [] := List.eq_nil_of_length_eq_zero (by omega)
    subst this
    exact ⟨rfl, fun x hx => by simp [getF] at hx, by simpa [getF] using hc⟩
  | succ f ih =>
    by_cases hx : xs = []
    · subst hx
      rw [getF_nil]
      exact ⟨rfl, fun x hx => by simp at hx, by simpa using hc⟩
    · by_cases h256 : c = 256
      · subst h256
        rw [getF_many _ xs hx hf] at h
        simp at h
      · by_cases he : fstE xs = 0
        · have e : getF (f + 1) c xs = (fstX xs :: (getF f (c + 1) (xs.drop (fstN xs).toNat)).1, (getF f (c + 1) (xs.drop (fstN xs).toNat)).2) := by simp [getF, hx, h256, he]
          rw [e] at h ⊢
          obtain ⟨h1, h2, h3⟩ := bytes_fst xs hb he
          have h4 := fstN_ok xs he
          have h5 := sizeV_bd (xs.getD 0 0)
          obtain ⟨g1, g2, g3⟩ := ih (c + 1) (xs.drop (fstN xs).toNat) (fun b hb' => hb b (List.mem_of_mem_drop hb')) (by rw [List.length_drop]; omega) (by omega) h
          refine ⟨?_, ?_, ?_⟩
          · have : putB (fstX xs :: (getF f (c + 1) (xs.drop (fstN xs).toNat)).1) = (fstX xs).bytes ++ putB (getF f (c + 1) (xs.drop (fstN xs).toNat)).1 := by unfold putB; simp
            rw [this, h1, g1, List.take_append_drop]
          · intro y hy
            rcases List.mem_cons.1 hy with rfl | hy
            · exact ⟨h2, h3⟩
            · exact g2 y hy
          · simp only [List.length_cons]; omega
        · rw [getF_bad _ c xs hx hf h256 he] at h
          exact absurd h he
theorem put_get (xs : List Int) (hb : isB xs) (h : getE xs = 0) : putB (getO xs) = xs ∧ okL (getO xs) ∧ (getO xs).length ≤ 256 := by
  have e : getO xs = (getF xs.length 0 xs).1 := if_pos h
  rw [e]
  have := put_getF xs.length 0 xs hb (Nat.le_refl _) (by omega) h
  exact ⟨this.1, this.2.1, by omega⟩
theorem getO_none (xs : List Int) (h : getE xs ≠ 0) : getO xs = [] := if_neg h
end Wi
end Go.Proofs.Ytlimhdnpdhjdaaa
