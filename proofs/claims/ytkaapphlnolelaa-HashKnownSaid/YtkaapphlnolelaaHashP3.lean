/-
  Layer 10's program: Find, Del, Put: contracts. Conditions: a table as New makes it (Tab).
-/
import Derived.Test.YtkaapphlnolelaaHashP2
namespace Go.Proofs.Ytkaapphlnolelaa
set_option maxRecDepth 100000
open Go.RowKit Ow Ro K2 Hm
set_option linter.unusedVariables false
set_option linter.unusedSimpArgs false
section
variable {w0 w : World} {A : Ac} {X K : Nat} {M : Int} {T : List Pl}
theorem where_t (hl : Lay w0 A w) (h : HP A X K M T) (ht : Tab T K M) (a : Option Addr) (nk ck : Nat) (ks : List Int) (hkn : ks.length = nk) (hk6 : nk ≤ 100000) (hkb : ∀ b ∈ ks, 0 ≤ b ∧ b ≤ 255) (hrd : Rd w w.heap.size a (bv ks)) :
    Calls Try.prog 37 #[.pointer (some ⟨X, 0, none⟩), .slice a nk ck] w fun e w' => e = .returned (whV (fat T ks) (rat T ks)) ∧ Below w.heap.size w w' := by
  obtain ⟨e, he⟩ := ht.pow
  exact where_p hl h e he (by have := ht.small; omega) ht.K1 (by have := ht.K2; omega) ht.good.len a nk ck ks hkn hk6 hkb hrd
theorem fdV_some {T : List Pl} {f : Option Nat} {p : Nat} (h : f = some p) : fdV T f = .tuple #[.int .i64 (ed T p).cell, .bool true] := by rw [h]; rfl
theorem fdV_none {T : List Pl} {f : Option Nat} (h : f = none) : fdV T f = .tuple #[.int .i64 0, .bool false] := by rw [h]; rfl
theorem pfind_c (hl : Lay w0 A w) (h : HP A X K M T) (ht : Tab T K M) (a : Option Addr) (nk ck : Nat) (ks : List Int) (hkn : ks.length = nk) (hk6 : nk ≤ 100000) (hkb : ∀ b ∈ ks, 0 ≤ b ∧ b ≤ 255) (hrd : Rd w w.heap.size a (bv ks)) :
    Calls Try.prog 18 #[.pointer (some ⟨X, 0, none⟩), .slice a nk ck] w fun e w' => e = .returned (fdV T (fat T ks)) ∧ Below w.heap.size w w' := by
  have WC := Lib.hid (where_t hl h ht a nk ck ks hkn hk6 hkb hrd)
  obtain ⟨r, hr⟩ : ∃ r, fat T ks = r := ⟨_, rfl⟩
  rw [hr] at WC ⊢
  cases r with
  | none =>
    have HV := Lib.hid (whV_none (f := none) rfl (rat T ks))
    have HF := Lib.hid (fdV_none (T := T) (f := none) rfl)
    clear hl h hrd
    go_enter Try.func18, Try.ntmps18
    go_wp2_with fail
    with_reducible refine WC.out.mono ?_
    rintro e w1 ⟨rfl, q⟩
    have HQ := Lib.hid q
    clear q
    rw [HV.out]
    go_wp2
    go_ret2
    exact ⟨Eq.trans rfl (congrArg Ending.returned HF.out.symm), HQ.out⟩
  | some p =>
    obtain ⟨hp, hp1, _⟩ := fat_lt hr
    have HV := Lib.hid (whV_some (f := some p) rfl (rat T ks))
    have HF := Lib.hid (fdV_some (T := T) (f := some p) rfl)
    obtain ⟨vr, vp, R, hx⟩ := h
    obtain ⟨lX, ar, ap, cr, cp, rfl, rfl, r1, r2, r3, r4, hs⟩ := hx.look hl ht.good.pos ht.K1
    have HS := Lib.hid hs
    have HT := Lib.hid (ed_at hp)
    have p1 : (p : Int) < (T.length : Int) := by omega
    clear hl hx hrd hs hr
    go_enter Try.func18, Try.ntmps18
    go_wp2_with fail
    with_reducible refine WC.out.mono ?_
    rintro e w1 ⟨rfl, q⟩
    have HQ := Lib.hid q
    obtain ⟨q0, q1, q2, q3, q4, q5, qr, qp⟩ := HS.out w1 q
    obtain ⟨c0, c1, _, _⟩ := qp p _ HT.out
    clear q qp qr
    rw [HV.out]
    go_wp2
    go_ret2
    exact ⟨Eq.trans rfl (congrArg Ending.returned HF.out.symm), HQ.out⟩
def HPDid (w0 : World) (A : Ac) (X K : Nat) (M : Int) (T : List Pl) (w : World) : Prop := ∃ A', Lay w0 A' w ∧ HP A' X K M T ∧ ∀ x : Rl, ¬ (73 ≤ x.1 ∧ x.1 < 76) → A' x = A x
def PDelP (w0 : World) (A : Ac) (X K : Nat) (M : Int) (T : List Pl) (r : Option Nat) (e : Ending) (w' : World) : Prop := e = .returned (fdV T r) ∧ HPDid w0 A X K M (delT T r) w'
theorem pdel_c (hl : Lay w0 A w) (h : HP A X K M T) (ht : Tab T K M) (a : Option Addr) (nk ck : Nat) (ks : List Int) (hkn : ks.length = nk) (hk6 : nk ≤ 100000) (hkb : ∀ b ∈ ks, 0 ≤ b ∧ b ≤ 255) (hrd : Rd w w.heap.size a (bv ks)) :
    Calls Try.prog 20 #[.pointer (some ⟨X, 0, none⟩), .slice a nk ck] w (PDelP w0 A X K M T (fat T ks)) := by
  have WC := Lib.hid (where_t hl h ht a nk ck ks hkn hk6 hkb hrd)
  have HL := Lib.hid hl
  have HH := Lib.hid h
  obtain ⟨r, hr⟩ : ∃ r, fat T ks = r := ⟨_, rfl⟩
  rw [hr] at WC ⊢
  cases r with
  | none =>
    have HV := Lib.hid (whV_none (f := none) rfl (rat T ks))
    have HF := Lib.hid (fdV_none (T := T) (f := none) rfl)
    clear hl h hrd
    go_enter Try.func20, Try.ntmps20
    go_wp2_with fail
    with_reducible refine WC.out.mono ?_
    rintro e w1 ⟨rfl, q⟩
    have HD : Hid (HPDid w0 A X K M (delT T none) w1) := Lib.hid ⟨A, HL.out.grow q, HH.out, fun _ _ => rfl⟩
    clear q
    rw [HV.out]
    go_wp2
    go_ret2
    exact ⟨Eq.trans rfl (congrArg Ending.returned HF.out.symm), HD.out⟩
  | some p =>
    obtain ⟨hp, hp1, _⟩ := fat_lt hr
    have HV := Lib.hid (whV_some (f := some p) rfl (rat T ks))
    have HF := Lib.hid (fdV_some (T := T) (f := some p) rfl)
    obtain ⟨vr, vp, R, hx⟩ := h
    obtain ⟨lX, ar, ap, cr, cp, rfl, rfl, r1, r2, r3, r4, hs⟩ := hx.look hl ht.good.pos ht.K1
    have HS := Lib.hid hs
    have HT := Lib.hid (ed_at hp)
    have p1 : (p : Int) < (T.length : Int) := by omega
    obtain ⟨n, hn⟩ : ∃ n, (keysT (T.set p ⟨2, [], 0⟩)).length = n := ⟨_, rfl⟩
    have hcn := keys_del hp hp1
    rw [hn] at hcn
    have HX := Lib.hid hx
    have HN := Lib.hid hn
    have HCN := Lib.hid hcn
    have hn2 : n ≤ 200 := by have := ht.small; have := keysT_le T; omega
    clear hl hx hrd hs hr hn hcn
    generalize hec : (ed T p).cell = c at *
    have HEC := Lib.hid hec
    clear hec
    go_enter Try.func20, Try.ntmps20
    go_wp2_with fail
    with_reducible refine WC.out.mono ?_
    rintro e w1 ⟨rfl, q⟩
    obtain ⟨q0, q1, q2, q3, q4, q5, qr, qp⟩ := HS.out w1 q
    obtain ⟨c0, c1, z0, z1⟩ := qp p _ HT.out
    rw [HEC.out] at c1
    obtain ⟨m4, m5, hA⟩ := HX.out.wrote (HL.out.grow q) hp ⟨2, [], 0⟩ (fun h => by cases h) n HN.out
    unfold st2 at m4 m5 hA
    rw [← HCN.out] at m4
    have g1 : (w1.setCell (ap.add (p * 2)) (.int .i64 2)).cell? ⟨(ap.add (p * 2)).block, (ap.add (p * 2)).off + 1, none⟩ = some (.int .i64 c) := by
      rw [World.cell?_setCell_other _ _ _ _ (fun e => by have := congrArg Addr.off e; simp at this)]; exact c1
    have HD : Hid (HPDid w0 A X K M (delT T (some p)) (((w1.setCell (ap.add (p * 2)) (.int .i64 2)).setCell ⟨(ap.add (p * 2)).block, (ap.add (p * 2)).off + 1, none⟩ (.int .i64 0)).setCell ⟨X, 4, none⟩ (.int .i64 (n : Nat)))) := Lib.hid hA
    have m6 : ((w1.setCell (ap.add (p * 2)) (.int .i64 2)).setCell ⟨(ap.add (p * 2)).block, (ap.add (p * 2)).off + 1, none⟩ (.int .i64 0)).cell? ⟨X, 4, none⟩ = some (.int .i64 ((n : Int) + 1)) := m4
    clear q qp qr hA m4 q0 q1 q2 q4
    rw [HV.out]
    go_wp2
    go_ret2
    exact ⟨Eq.trans rfl (congrArg Ending.returned HF.out.symm), HD.out⟩
theorem HPx.seen {ar ap : Addr} {cr cp : Nat} {R : List Int} (h : HPx A X K M T (.slice (some ar) (T.length * K) cr) (.slice (some ap) T.length cp) R) (hl : Lay w0 A w) (hn : 1 ≤ T.length) (hK : 1 ≤ K) : Seen X K M T R ar ap cr cp w := by
  obtain ⟨_, ar', ap', cr', cp', e1, e2, _, _, _, _, hs⟩ := h.look hl hn hK
  simp only [Value.slice.injEq, Option.some.injEq, true_and] at e1 e2
  obtain ⟨rfl, rfl⟩ := e1
  obtain ⟨rfl, rfl⟩ := e2
  exact hs w (Below.refl _ _)
theorem HPx.zero {ar : Addr} {cr : Nat} {vp : Value} {R : List Int} (h : HPx A X K M T (.slice (some ar) (T.length * K) cr) vp R) : ∃ g, ar = ⟨g, 0, none⟩ := by
  rcases h.row.2 with ⟨e, _⟩ | ⟨g', cap, cur, e, _⟩
  · cases e
  · simp only [Value.slice.injEq, Option.some.injEq] at e
    exact ⟨g', e.1⟩
theorem byte_one : (Try.prog.info? 5).map (·.size) = some 1 := by kernel_rfl
/-- What Put does. -/
def putT (T : List Pl) (K : Nat) (M : Int) (ks : List Int) (c : Int) : Int × List Pl :=
  if ks.length = K then match fat T ks with
    | some _ => (11, T)
    | none => if ((keysT T).length : Int) < M then match rat T ks with
      | some r => (0, T.set r ⟨1, ks, c⟩)
      | none => (0, T)
      else (12, T)
  else (14, T)
def PPutP (w0 : World) (A : Ac) (X K : Nat) (M : Int) (r : Int × List Pl) (e : Ending) (w' : World) : Prop := e = .returned (.int .i64 r.1) ∧ HPDid w0 A X K M r.2 w'
set_option maxHeartbeats 1000000 in
theorem pput_c (hl : Lay w0 A w) (h : HP A X K M T) (ht : Tab T K M) (a : Option Addr) (nk ck : Nat) (ks : List Int) (hkn : ks.length = nk) (hk6 : nk ≤ 100000) (hkb : ∀ b ∈ ks, 0 ≤ b ∧ b ≤ 255) (hrd : Rd w w.heap.size a (bv ks)) (c : Int) :
    Calls Try.prog 16 #[.pointer (some ⟨X, 0, none⟩), .slice a nk ck, .int .i64 c] w (PPutP w0 A X K M (putT T K M ks c)) := by
  have WC := Lib.hid (where_t hl h ht a nk ck ks hkn hk6 hkb hrd)
  have HL := Lib.hid hl
  have HH := Lib.hid h
  obtain ⟨vr, vp, R, hx⟩ := h
  obtain ⟨lX, ar, ap, cr, cp, rfl, rfl, r1, r2, r3, r4, hs⟩ := hx.look hl ht.good.pos ht.K1
  have HS := Lib.hid hs
  have k0 := (hs w (Below.refl _ _)).1
  have hcnt := ht.cnt
  unfold putT
  by_cases hk : ks.length = K
  · rw [if_pos hk]
    have hne : ((nk : Int) != (K : Int)) = false := by simp; omega
    obtain ⟨r, hr⟩ : ∃ r, fat T ks = r := ⟨_, rfl⟩
    rw [hr] at WC ⊢
    cases r with
    | some p =>
      have HV := Lib.hid (whV_some (f := some p) rfl (rat T ks))
      clear hl hx hrd hs
      go_enter Try.func16, Try.ntmps16
      go_wp2_with fail
      with_reducible refine WC.out.mono ?_
      rintro e w1 ⟨rfl, q⟩
      have HD : Hid (HPDid w0 A X K M T w1) := Lib.hid ⟨A, HL.out.grow q, HH.out, fun _ _ => rfl⟩
      clear q k0
      rw [HV.out]
      go_wp2
      go_ret
      exact ⟨rfl, HD.out⟩
    | none =>
      have HV := Lib.hid (whV_none (f := none) rfl (rat T ks))
      dsimp only
      by_cases hm : ((keysT T).length : Int) < M
      · rw [if_pos hm]
        obtain ⟨p, hp⟩ := ht.room ks
        rw [hp] at HV WC ⊢
        obtain ⟨hp1, hp2⟩ := rat_lt hp
        have hm2 : (((keysT T).length : Int) == M) = false := by rw [beq_eq_false_iff_ne]; omega
        obtain ⟨n, hn⟩ : ∃ n, (keysT (T.set p ⟨1, ks, c⟩)).length = n := ⟨_, rfl⟩
        have hcn := keys_put hp1 hp2 ks c
        rw [hn] at hcn
        obtain ⟨g, rfl⟩ := hx.zero
        have HX := Lib.hid hx
        have HN := Lib.hid hn
        have HRD := Lib.hid hrd
        have hn2 : n ≤ 200 := by have := ht.small; have := keysT_le T; omega
        have p1 : (p : Int) < (T.length : Int) := by omega
        have HCN := Lib.hid hcn
        have hK1 := ht.K1
        have hK2 := ht.K2
        have hN2 := ht.small
        have hpos := ht.good.pos
        have hrK : p * K + K ≤ T.length * K := by have := (pcs_len (p := p) hx.len hp1).2; have := hx.len; omega
        have PC := Lib.hid (fun (V : World) => piece_p X K p T.length cr ⟨g, 0, none⟩ V hp1 (by omega) hK1 (by omega) r1 r2)
        clear hl hx hrd hs hn hcn
        go_enter Try.func16, Try.ntmps16
        go_wp2_with fail
        with_reducible refine WC.out.mono ?_
        rintro e w1 ⟨rfl, q⟩
        have HQ1 := Lib.hid (fun m => below_drewN q m)
        obtain ⟨q0, q1, q2, q3, q4, q5, qr, qp⟩ := HS.out w1 q
        clear q k0 qr qp q2 q3 q5
        rw [HV.out]
        unfold plcV
        dsimp only
        go_wp2
        go_quiet (fail)
        have HQ2 := Lib.hid (HQ1.out nq)
        generalize w1.drewN nq = w2 at *
        obtain ⟨q0, q1, q2, q3, q4, q5, qr, qp⟩ := HS.out w2 HQ2.out
        clear q1 q3 q4 q5 qr qp HQ1
        go_wp2_with fail
        with_reducible refine (PC.out w2 q0 q2).mono ?_
        rintro e w3 ⟨rfl, m, hw3⟩
        have HQ3 : Hid (Below w.heap.size w w3) := Lib.hid (by rw [hw3]; exact below_drewN HQ2.out m)
        clear hw3 q0 q2 HQ2 PC
        obtain ⟨cur, hcu, hft, hA⟩ := HX.out.copied (HL.out.grow HQ3.out) hp1 hp2 ks hk hkb
        obtain ⟨ad, rfl, had, hsrc⟩ := (HRD.out.below HQ3.out) (by rw [bv_len]; omega)
        rw [add_zero_at]
        have HCU := Lib.hid hcu
        have HFT := Lib.hid hft
        have HSR := Lib.hid hsrc
        have HCL : Hid ((bv ks).length = Nat.min nk K) := Lib.hid (by rw [bv_len, hkn, show nk = K by omega]; exact (Nat.min_self _).symm)
        obtain ⟨w4, hw4⟩ : ∃ w4, w3.setRow g (cur.toList.take (p * K) ++ (bv ks ++ cur.toList.drop (p * K + (bv ks).length))).toArray = w4 := ⟨_, rfl⟩
        rw [hw4] at hA
        obtain ⟨A4, hl4, hx4, hf4⟩ := hA
        have HW4 := Lib.hid hw4
        obtain ⟨q0, q1, q2, q3, q4, q5, qr, qp⟩ := hx4.seen hl4 hpos hK1
        obtain ⟨c0, c1, z0, z1⟩ := qp p _ (ed_at hp1)
        obtain ⟨m4, m5, hA⟩ := hx4.wrote hl4 hp1 ⟨1, ks, c⟩ (fun _ => (pcs_put_same HX.out.len hp1 ks hk).symm) n HN.out
        unfold st2 at m4 m5 hA
        have g1 : (w4.setCell (ap.add (p * 2)) (.int .i64 1)).cell? ⟨(ap.add (p * 2)).block, (ap.add (p * 2)).off + 1, none⟩ = some (.int .i64 (ed T p).cell) := by
          rw [World.cell?_setCell_other _ _ _ _ (fun e => by have := congrArg Addr.off e; simp at this)]; exact c1
        have HD : Hid (HPDid w0 A X K M (T.set p ⟨1, ks, c⟩) (((w4.setCell (ap.add (p * 2)) (.int .i64 1)).setCell ⟨(ap.add (p * 2)).block, (ap.add (p * 2)).off + 1, none⟩ (.int .i64 c)).setCell ⟨X, 4, none⟩ (.int .i64 (n : Nat)))) := Lib.hid (by
          obtain ⟨A5, h1, h2, h3⟩ := hA
          exact ⟨A5, h1, h2, fun x hx => (h3 x hx).trans (hf4 x (fun e => by rw [e] at hx; simp at hx))⟩)
        have m6 : ((w4.setCell (ap.add (p * 2)) (.int .i64 1)).setCell ⟨(ap.add (p * 2)).block, (ap.add (p * 2)).off + 1, none⟩ (.int .i64 c)).cell? ⟨X, 4, none⟩ = some (.int .i64 ((keysT T).length : Nat)) := m4
        have hcn3 : (((keysT T).length : Nat) : Int) + 1 = (n : Int) := by have := HCN.out; omega
        generalize (keysT T).length = kl at *
        clear hcu hft hsrc hA hw4 hl4 hx4 hf4 q0 q1 q2 q4 qr qp m4
        go_wp2_with (with_reducible refine wpList_copy_own rfl (.tmp 34) (.tmp 35) _ _ rfl 5 Try.underlying22 byte_one g (p * K) _ _ ad _ _ rfl rfl cur _ HCU.out (bv ks) HCL.out HSR.out HFT.out (bv_one ks) ?_; rw [HW4.out])
        go_ret
        exact ⟨rfl, HD.out⟩
      · rw [if_neg hm]
        have hm2 : (((keysT T).length : Int) == M) = true := by simp; omega
        clear hl hx hrd hs
        go_enter Try.func16, Try.ntmps16
        go_wp2_with fail
        with_reducible refine WC.out.mono ?_
        rintro e w1 ⟨rfl, q⟩
        have HD : Hid (∀ m, HPDid w0 A X K M T (w1.drewN m)) := Lib.hid fun m => ⟨A, HL.out.grow (below_drewN q m), HH.out, fun _ _ => rfl⟩
        obtain ⟨q0, q1, q2, q3, q4, q5, qr, qp⟩ := HS.out w1 q
        clear q k0 qr qp q2 q3 q5
        rw [HV.out]
        go_wp2
        go_quiet (fail)
        go_wp2
        go_ret
        exact ⟨rfl, HD.out _⟩
  · rw [if_neg hk]
    have hne : ((nk : Int) != (K : Int)) = true := by simp; omega
    have HD : Hid (HPDid w0 A X K M T w) := Lib.hid ⟨A, HL.out, HH.out, fun _ _ => rfl⟩
    clear hl hx hrd hs
    go_enter Try.func16, Try.ntmps16
    go_wp2
    go_ret
    exact ⟨rfl, HD.out⟩
end
end Go.Proofs.Ytkaapphlnolelaa
