/-
  What the program's layer 5 tells: contracts, fourth part. Conditions: scalars may be, where that is said.
-/
import Derived.Test.YtcimihckhobniaaGreatZScalarP3
namespace Go.Proofs.YtcimihckhobniaaGreat.Sc
open Go.RowKit Tn Ow Sp
set_option linter.unusedVariables false
set_option linter.unusedSimpArgs false
set_option maxRecDepth 100000
def exE (k : IntKind) (x : E) (v : Int) : E := if (v == x.lo) = true then ⟨k.wrap (x.lo + 1), x.hi⟩ else if (v == x.hi) = true then ⟨x.lo, k.wrap (x.hi - 1)⟩ else x
def apHi (k : IntKind) (d : Int) (h l : E) : E := ⟨max h.lo (k.wrap (l.lo + d)), h.hi⟩
def apLo (k : IntKind) (d : Int) (h l : E) : E := ⟨l.lo, min l.hi (k.wrap (h.hi - d))⟩
def apOk (k : IntKind) (d : Int) (h l : E) : Bool := (!decide (k.wrap (l.lo + d) < l.lo) && !decide (h.hi < k.wrap (h.hi - d))) && (decide (max h.lo (k.wrap (l.lo + d)) ≤ h.hi) && decide (l.lo ≤ min l.hi (k.wrap (h.hi - d))))
theorem wrap_sg5 {v : Int} (h : 0 ≤ v ∧ v ≤ 18446744073709551615) : IntKind.i64.wrap v = sg v := by rw [IntKind.wrap_i64]; unfold sg; split <;> omega
noncomputable def except_u64_r0C : Code := (Tryz.f241.body.bind (Rg.findR 0)).getD .skip
set_option maxHeartbeats 4000000 in
theorem except_u64_r0 (x : E) (v : Int) {w0 : World}  {K : Act → World → Prop} {Q0 : Exit → Act → World → Prop} {u1 u2 u3 u4 u5 u6 u7 u8 u9 u10 u11 u12 u13 u14 u15 u16 u17 u18 u19 u20 u21 u22 : Value}
    (hQ : ∀ c a d v w, Q0 (.panic c) (Act.put a d v) w → Q0 (.panic c) a w)
    (hK : ∀ (d1_0 d1_1 : Nat) (z : World), Gw.Mem w0 [(d1_1, .cells #[.int .u64 0, .int .u64 0] 182), (d1_0, .cells #[.int .u64 x.lo, .int .u64 x.hi] 182)] z → K ⟨#[.agg #[.int .u64 x.lo, .int .u64 x.hi], u1, .pointer (some ⟨d1_0, 0, none⟩), u3, .pointer (some ⟨d1_1, 0, none⟩), u5, u6, u7, u8, u9, u10, u11, u12, u13, u14, u15, u16, u17, u18, u19, u20, u21, u22], []⟩ z) (wy : World) (M : Gw.Mem w0 [] wy) :
    except_u64_r0C.wp Tryz.prog (Exit.then K Q0) ⟨#[.agg #[.int .u64 x.lo, .int .u64 x.hi], u1, u2, u3, u4, u5, u6, u7, u8, u9, u10, u11, u12, u13, u14, u15, u16, u17, u18, u19, u20, u21, u22], []⟩ wy := by
  have HK := Lib.hid hK
  clear hK
  conv => arg 2; whnf
  refine Gw.line _ M ?_
  clear M wy
  refine Gw.ss ?_
  intro w M K' hK
  go_simp
  have M1 := M.alloc (.cells #[.int .u64 x.lo, .int .u64 x.hi] 182)
  generalize w.heap.size = d1_0 at M1 ⊢
  refine hK.out _ _ _ M1 ?_
  clear hK K' M1 M w
  try simp only [Act.put, ptA, ptB, ptC]
  refine Gw.ss ?_
  intro w M K' hK
  go_simp
  have M1 := M.alloc (.cells #[.int .u64 0, .int .u64 0] 182)
  generalize w.heap.size = d1_1 at M1 ⊢
  refine hK.out _ _ _ M1 ?_
  clear hK K' M1 M w
  try simp only [Act.put, ptA, ptB, ptC]
  exact fun z M => HK.out _ _ z M
noncomputable def except_u64_r1C : Code := (Tryz.f241.body.bind (Rg.findR 1)).getD .skip
set_option maxHeartbeats 4000000 in
theorem except_u64_r1 (x : E) (v : Int) {w0 : World}  {K : Act → World → Prop} {Q0 : Exit → Act → World → Prop} {d1_1 d1_0 : Nat} {u0 u2 u3 u4 u5 u6 u7 u8 u9 u10 u11 u12 u13 u14 u15 u16 u17 u18 u19 u20 u21 u22 : Value}
    (hQ : ∀ c a d v w, Q0 (.panic c) (Act.put a d v) w → Q0 (.panic c) a w)
    (hK : ∀ (z : World), Gw.Mem w0 [(d1_1, .cells #[.int .u64 0, .int .u64 0] 182), (d1_0, .cells #[.int .u64 x.lo, .int .u64 x.hi] 182)] z → K ⟨#[u0, .int .u64 v, u2, u3, u4, .int .u64 v, u6, u7, u8, u9, u10, u11, u12, u13, u14, u15, u16, u17, u18, u19, u20, u21, u22], []⟩ z) (wy : World) (M : Gw.Mem w0 [(d1_1, .cells #[.int .u64 0, .int .u64 0] 182), (d1_0, .cells #[.int .u64 x.lo, .int .u64 x.hi] 182)] wy) :
    except_u64_r1C.wp Tryz.prog (Exit.then K Q0) ⟨#[u0, .int .u64 v, u2, u3, u4, u5, u6, u7, u8, u9, u10, u11, u12, u13, u14, u15, u16, u17, u18, u19, u20, u21, u22], []⟩ wy := by
  have HK := Lib.hid hK
  clear hK
  conv => arg 2; whnf
  refine Gw.line _ M ?_
  clear M wy
  refine Gw.sw (.int .u64 v) ?_
  try simp only [Act.put, ptA, ptB, ptC]
  exact fun z M => HK.out  z M
noncomputable def except_u64_r2C : Code := (Tryz.f241.body.bind (Rg.findR 2)).getD .skip
set_option maxHeartbeats 4000000 in
theorem except_u64_r2 (x : E) (v : Int) {w0 : World}  {K : Act → World → Prop} {Q0 : Exit → Act → World → Prop} {d1_1 d1_0 : Nat} {u0 u1 u3 u4 u6 u7 u8 u9 u10 u11 u12 u13 u14 u15 u16 u17 u18 u19 u20 u21 u22 : Value}
    (hQ : ∀ c a d v w, Q0 (.panic c) (Act.put a d v) w → Q0 (.panic c) a w)
    (hK : ∀ (t7 t8 t9 : Value) (z : World), Gw.Mem w0 [(d1_1, .cells #[.int .u64 0, .int .u64 0] 182), (d1_0, .cells #[.int .u64 x.lo, .int .u64 x.hi] 182)] z → K ⟨#[u0, u1, .pointer (some ⟨d1_0, 0, none⟩), u3, u4, .int .u64 v, .bool (v == x.lo), t7, t8, t9, u10, u11, u12, u13, u14, u15, u16, u17, u18, u19, u20, u21, u22], []⟩ z) (wy : World) (M : Gw.Mem w0 [(d1_1, .cells #[.int .u64 0, .int .u64 0] 182), (d1_0, .cells #[.int .u64 x.lo, .int .u64 x.hi] 182)] wy) :
    except_u64_r2C.wp Tryz.prog (Exit.then K Q0) ⟨#[u0, u1, .pointer (some ⟨d1_0, 0, none⟩), u3, u4, .int .u64 v, u6, u7, u8, u9, u10, u11, u12, u13, u14, u15, u16, u17, u18, u19, u20, u21, u22], []⟩ wy := by
  have HK := Lib.hid hK
  clear hK
  conv => arg 2; whnf
  refine Gw.line _ M ?_
  clear M wy
  refine Gw.sw (.pointer (some ⟨d1_0, 0, none⟩)) ?_
  try simp only [Act.put, ptA, ptB, ptC]
  refine Gw.sq (.int .u64 x.lo) ?_ ?_
  · intro w M; have c := M.cell 1 0; go_simp
  try simp only [Act.put, ptA, ptB, ptC]
  refine Gw.sw (.bool (v == x.lo)) ?_
  try simp only [Act.put, ptA, ptB, ptC]
  refine Gw.sw (.bool (v == x.lo)) ?_
  try simp only [Act.put, ptA, ptB, ptC]
  exact fun z M => HK.out _ _ _ z M
noncomputable def except_u64_r3C : Code := (Tryz.f241.body.bind (Rg.findR 3)).getD .skip
set_option maxHeartbeats 4000000 in
theorem except_u64_r3 (x : E) (v : Int) {w0 : World}  {K : Act → World → Prop} {Q0 : Exit → Act → World → Prop} {d1_1 d1_0 : Nat} {u0 u1 u3 u4 u5 u6 u7 u8 u9 u10 u11 u12 u13 u14 u15 u16 u17 u18 u19 u20 u21 u22 : Value}
    (hQ : ∀ c a d v w, Q0 (.panic c) (Act.put a d v) w → Q0 (.panic c) a w)
    (hK : ∀ (t10 t11 t12 t13 : Value) (z : World), Gw.Mem w0 [(d1_1, .cells #[.int .u64 0, .int .u64 0] 182), (d1_0, .cells #[.int .u64 (IntKind.u64.wrap (x.lo + 1)), .int .u64 x.hi] 182)] z → K ⟨#[u0, u1, .pointer (some ⟨d1_0, 0, none⟩), u3, u4, u5, u6, u7, u8, u9, t10, t11, t12, t13, u14, u15, u16, u17, u18, u19, u20, u21, u22], []⟩ z) (wy : World) (M : Gw.Mem w0 [(d1_1, .cells #[.int .u64 0, .int .u64 0] 182), (d1_0, .cells #[.int .u64 x.lo, .int .u64 x.hi] 182)] wy) :
    except_u64_r3C.wp Tryz.prog (Exit.then K Q0) ⟨#[u0, u1, .pointer (some ⟨d1_0, 0, none⟩), u3, u4, u5, u6, u7, u8, u9, u10, u11, u12, u13, u14, u15, u16, u17, u18, u19, u20, u21, u22], []⟩ wy := by
  have HK := Lib.hid hK
  clear hK
  conv => arg 2; whnf
  refine Gw.line _ M ?_
  clear M wy
  refine Gw.sw (.pointer (some ⟨d1_0, 0, none⟩)) ?_
  try simp only [Act.put, ptA, ptB, ptC]
  refine Gw.sq (.int .u64 x.lo) ?_ ?_
  · intro w M; have c := M.cell 1 0; go_simp
  try simp only [Act.put, ptA, ptB, ptC]
  refine Gw.sw (.int .u64 (IntKind.u64.wrap (x.lo + 1))) ?_
  try simp only [Act.put, ptA, ptB, ptC]
  refine Gw.sw (.pointer (some ⟨d1_0, 0, none⟩)) ?_
  try simp only [Act.put, ptA, ptB, ptC]
  refine Gw.ss ?_
  intro w M K' hK
  have c := M.cell 1 0
  have f := M.frozen 1 0
  go_simp
  refine hK.out _ _ _ (M.set 1 0 _) ?_
  clear hK K' c f M w
  exact fun z M => HK.out _ _ _ _ z M
noncomputable def except_u64_r6C : Code := (Tryz.f241.body.bind (Rg.findR 6)).getD .skip
set_option maxHeartbeats 4000000 in
theorem except_u64_r6 (x : E) (v : Int) {w0 : World}  {K : Act → World → Prop} {Q0 : Exit → Act → World → Prop} {d1_1 d1_0 : Nat} {u0 u1 u3 u5 u6 u7 u8 u9 u10 u11 u12 u13 u14 u15 u16 u17 u18 u19 u20 u21 u22 : Value}
    (hQ : ∀ c a d v w, Q0 (.panic c) (Act.put a d v) w → Q0 (.panic c) a w)
    (hK : ∀ (t22 : Value) (z : World), Gw.Mem w0 [(d1_1, .cells #[.int .u64 (IntKind.u64.wrap (x.lo + 1)), .int .u64 x.hi] 182), (d1_0, .cells #[.int .u64 (IntKind.u64.wrap (x.lo + 1)), .int .u64 x.hi] 182)] z → K ⟨#[u0, u1, .pointer (some ⟨d1_0, 0, none⟩), u3, .pointer (some ⟨d1_1, 0, none⟩), u5, u6, u7, u8, u9, u10, u11, u12, u13, u14, u15, u16, u17, u18, u19, u20, u21, t22], []⟩ z) (wy : World) (M : Gw.Mem w0 [(d1_1, .cells #[.int .u64 0, .int .u64 0] 182), (d1_0, .cells #[.int .u64 (IntKind.u64.wrap (x.lo + 1)), .int .u64 x.hi] 182)] wy) :
    except_u64_r6C.wp Tryz.prog (Exit.then K Q0) ⟨#[u0, u1, .pointer (some ⟨d1_0, 0, none⟩), u3, .pointer (some ⟨d1_1, 0, none⟩), u5, u6, u7, u8, u9, u10, u11, u12, u13, u14, u15, u16, u17, u18, u19, u20, u21, u22], []⟩ wy := by
  have HK := Lib.hid hK
  clear hK
  conv => arg 2; whnf
  refine Gw.line _ M ?_
  clear M wy
  refine Gw.sq (.agg #[.int .u64 (IntKind.u64.wrap (x.lo + 1)), .int .u64 x.hi]) ?_ ?_
  · intro w M; have c := M.c2 1 0 1; go_simp
  try simp only [Act.put, ptA, ptB, ptC]
  refine Gw.ss ?_
  intro w M K' hK
  have c := M.c2 0 0 1
  have f := M.f2 0 0 1
  go_simp
  refine hK.out _ _ _ ((M.set 0 0 _).set 0 1 _) ?_
  clear hK K' c f M w
  exact fun z M => HK.out _ z M
noncomputable def except_u64_r4C : Code := (Tryz.f241.body.bind (Rg.findR 4)).getD .skip
set_option maxHeartbeats 4000000 in
theorem except_u64_r4 (x : E) (v : Int) {w0 : World}  {K : Act → World → Prop} {Q0 : Exit → Act → World → Prop} {d1_1 d1_0 : Nat} {u0 u1 u3 u4 u6 u7 u8 u9 u10 u11 u12 u13 u14 u15 u16 u17 u18 u19 u20 u21 u22 : Value}
    (hQ : ∀ c a d v w, Q0 (.panic c) (Act.put a d v) w → Q0 (.panic c) a w)
    (hK : ∀ (t15 t16 t17 : Value) (z : World), Gw.Mem w0 [(d1_1, .cells #[.int .u64 0, .int .u64 0] 182), (d1_0, .cells #[.int .u64 x.lo, .int .u64 x.hi] 182)] z → K ⟨#[u0, u1, .pointer (some ⟨d1_0, 0, none⟩), u3, u4, .int .u64 v, u6, u7, u8, u9, u10, u11, u12, u13, .bool (v == x.hi), t15, t16, t17, u18, u19, u20, u21, u22], []⟩ z) (wy : World) (M : Gw.Mem w0 [(d1_1, .cells #[.int .u64 0, .int .u64 0] 182), (d1_0, .cells #[.int .u64 x.lo, .int .u64 x.hi] 182)] wy) :
    except_u64_r4C.wp Tryz.prog (Exit.then K Q0) ⟨#[u0, u1, .pointer (some ⟨d1_0, 0, none⟩), u3, u4, .int .u64 v, u6, u7, u8, u9, u10, u11, u12, u13, u14, u15, u16, u17, u18, u19, u20, u21, u22], []⟩ wy := by
  have HK := Lib.hid hK
  clear hK
  conv => arg 2; whnf
  refine Gw.line _ M ?_
  clear M wy
  refine Gw.sw (.pointer (some ⟨d1_0, 1, none⟩)) ?_
  try simp only [Act.put, ptA, ptB, ptC]
  refine Gw.sq (.int .u64 x.hi) ?_ ?_
  · intro w M; have c := M.cell 1 1; go_simp
  try simp only [Act.put, ptA, ptB, ptC]
  refine Gw.sw (.bool (v == x.hi)) ?_
  try simp only [Act.put, ptA, ptB, ptC]
  refine Gw.sw (.bool (v == x.hi)) ?_
  try simp only [Act.put, ptA, ptB, ptC]
  exact fun z M => HK.out _ _ _ z M
noncomputable def except_u64_r5C : Code := (Tryz.f241.body.bind (Rg.findR 5)).getD .skip
set_option maxHeartbeats 4000000 in
theorem except_u64_r5 (x : E) (v : Int) {w0 : World}  {K : Act → World → Prop} {Q0 : Exit → Act → World → Prop} {d1_1 d1_0 : Nat} {u0 u1 u3 u4 u5 u6 u7 u8 u9 u10 u11 u12 u13 u14 u15 u16 u17 u18 u19 u20 u21 u22 : Value}
    (hQ : ∀ c a d v w, Q0 (.panic c) (Act.put a d v) w → Q0 (.panic c) a w)
    (hK : ∀ (t18 t19 t20 t21 : Value) (z : World), Gw.Mem w0 [(d1_1, .cells #[.int .u64 0, .int .u64 0] 182), (d1_0, .cells #[.int .u64 x.lo, .int .u64 (IntKind.u64.wrap (x.hi - 1))] 182)] z → K ⟨#[u0, u1, .pointer (some ⟨d1_0, 0, none⟩), u3, u4, u5, u6, u7, u8, u9, u10, u11, u12, u13, u14, u15, u16, u17, t18, t19, t20, t21, u22], []⟩ z) (wy : World) (M : Gw.Mem w0 [(d1_1, .cells #[.int .u64 0, .int .u64 0] 182), (d1_0, .cells #[.int .u64 x.lo, .int .u64 x.hi] 182)] wy) :
    except_u64_r5C.wp Tryz.prog (Exit.then K Q0) ⟨#[u0, u1, .pointer (some ⟨d1_0, 0, none⟩), u3, u4, u5, u6, u7, u8, u9, u10, u11, u12, u13, u14, u15, u16, u17, u18, u19, u20, u21, u22], []⟩ wy := by
  have HK := Lib.hid hK
  clear hK
  conv => arg 2; whnf
  refine Gw.line _ M ?_
  clear M wy
  refine Gw.sw (.pointer (some ⟨d1_0, 1, none⟩)) ?_
  try simp only [Act.put, ptA, ptB, ptC]
  refine Gw.sq (.int .u64 x.hi) ?_ ?_
  · intro w M; have c := M.cell 1 1; go_simp
  try simp only [Act.put, ptA, ptB, ptC]
  refine Gw.sw (.int .u64 (IntKind.u64.wrap (x.hi - 1))) ?_
  try simp only [Act.put, ptA, ptB, ptC]
  refine Gw.sw (.pointer (some ⟨d1_0, 1, none⟩)) ?_
  try simp only [Act.put, ptA, ptB, ptC]
  refine Gw.ss ?_
  intro w M K' hK
  have c := M.cell 1 1
  have f := M.frozen 1 1
  go_simp
  refine hK.out _ _ _ (M.set 1 1 _) ?_
  clear hK K' c f M w
  exact fun z M => HK.out _ _ _ _ z M
noncomputable def except_u64_r6_8C : Code := (Tryz.f241.body.bind (Rg.findR 6)).getD .skip
set_option maxHeartbeats 4000000 in
theorem except_u64_r6_8 (x : E) (v : Int) {w0 : World}  {K : Act → World → Prop} {Q0 : Exit → Act → World → Prop} {d1_1 d1_0 : Nat} {u0 u1 u3 u5 u6 u7 u8 u9 u10 u11 u12 u13 u14 u15 u16 u17 u18 u19 u20 u21 u22 : Value}
    (hQ : ∀ c a d v w, Q0 (.panic c) (Act.put a d v) w → Q0 (.panic c) a w)
    (hK : ∀ (t22 : Value) (z : World), Gw.Mem w0 [(d1_1, .cells #[.int .u64 x.lo, .int .u64 (IntKind.u64.wrap (x.hi - 1))] 182), (d1_0, .cells #[.int .u64 x.lo, .int .u64 (IntKind.u64.wrap (x.hi - 1))] 182)] z → K ⟨#[u0, u1, .pointer (some ⟨d1_0, 0, none⟩), u3, .pointer (some ⟨d1_1, 0, none⟩), u5, u6, u7, u8, u9, u10, u11, u12, u13, u14, u15, u16, u17, u18, u19, u20, u21, t22], []⟩ z) (wy : World) (M : Gw.Mem w0 [(d1_1, .cells #[.int .u64 0, .int .u64 0] 182), (d1_0, .cells #[.int .u64 x.lo, .int .u64 (IntKind.u64.wrap (x.hi - 1))] 182)] wy) :
    except_u64_r6_8C.wp Tryz.prog (Exit.then K Q0) ⟨#[u0, u1, .pointer (some ⟨d1_0, 0, none⟩), u3, .pointer (some ⟨d1_1, 0, none⟩), u5, u6, u7, u8, u9, u10, u11, u12, u13, u14, u15, u16, u17, u18, u19, u20, u21, u22], []⟩ wy := by
  have HK := Lib.hid hK
  clear hK
  conv => arg 2; whnf
  refine Gw.line _ M ?_
  clear M wy
  refine Gw.sq (.agg #[.int .u64 x.lo, .int .u64 (IntKind.u64.wrap (x.hi - 1))]) ?_ ?_
  · intro w M; have c := M.c2 1 0 1; go_simp
  try simp only [Act.put, ptA, ptB, ptC]
  refine Gw.ss ?_
  intro w M K' hK
  have c := M.c2 0 0 1
  have f := M.f2 0 0 1
  go_simp
  refine hK.out _ _ _ ((M.set 0 0 _).set 0 1 _) ?_
  clear hK K' c f M w
  exact fun z M => HK.out _ z M
noncomputable def except_u64_r6_9C : Code := (Tryz.f241.body.bind (Rg.findR 6)).getD .skip
set_option maxHeartbeats 4000000 in
theorem except_u64_r6_9 (x : E) (v : Int) {w0 : World}  {K : Act → World → Prop} {Q0 : Exit → Act → World → Prop} {d1_1 d1_0 : Nat} {u0 u1 u3 u5 u6 u7 u8 u9 u10 u11 u12 u13 u14 u15 u16 u17 u18 u19 u20 u21 u22 : Value}
    (hQ : ∀ c a d v w, Q0 (.panic c) (Act.put a d v) w → Q0 (.panic c) a w)
    (hK : ∀ (t22 : Value) (z : World), Gw.Mem w0 [(d1_1, .cells #[.int .u64 x.lo, .int .u64 x.hi] 182), (d1_0, .cells #[.int .u64 x.lo, .int .u64 x.hi] 182)] z → K ⟨#[u0, u1, .pointer (some ⟨d1_0, 0, none⟩), u3, .pointer (some ⟨d1_1, 0, none⟩), u5, u6, u7, u8, u9, u10, u11, u12, u13, u14, u15, u16, u17, u18, u19, u20, u21, t22], []⟩ z) (wy : World) (M : Gw.Mem w0 [(d1_1, .cells #[.int .u64 0, .int .u64 0] 182), (d1_0, .cells #[.int .u64 x.lo, .int .u64 x.hi] 182)] wy) :
    except_u64_r6_9C.wp Tryz.prog (Exit.then K Q0) ⟨#[u0, u1, .pointer (some ⟨d1_0, 0, none⟩), u3, .pointer (some ⟨d1_1, 0, none⟩), u5, u6, u7, u8, u9, u10, u11, u12, u13, u14, u15, u16, u17, u18, u19, u20, u21, u22], []⟩ wy := by
  have HK := Lib.hid hK
  clear hK
  conv => arg 2; whnf
  refine Gw.line _ M ?_
  clear M wy
  refine Gw.sq (.agg #[.int .u64 x.lo, .int .u64 x.hi]) ?_ ?_
  · intro w M; have c := M.c2 1 0 1; go_simp
  try simp only [Act.put, ptA, ptB, ptC]
  refine Gw.ss ?_
  intro w M K' hK
  have c := M.c2 0 0 1
  have f := M.f2 0 0 1
  go_simp
  refine hK.out _ _ _ ((M.set 0 0 _).set 0 1 _) ?_
  clear hK K' c f M w
  exact fun z M => HK.out _ z M
set_option maxHeartbeats 4000000 in
theorem except_u64 (x : E) (v : Int) (w : World) :
    Calls Tryz.prog 241 #[.agg #[.int .u64 x.lo, .int .u64 x.hi], .int .u64 v] w fun e w' => e = .returned (.agg #[.int .u64 ((exE .u64 x v).lo), .int .u64 ((exE .u64 x v).hi)]) ∧ Below w.heap.size w w' := by
  go_enter Tryz.func241, Tryz.ntmps241
  have M := Gw.Mem.nil w
  refine wp_seq (except_u64_r0 x v (fun _ _ d _ _ h => by cases d <;> exact h) ?_ _ M)
  clear M
  intro d1_0 d1_1 z1 M
  refine wp_seq ?_
  refine wp_seq (except_u64_r1 x v (fun _ _ d _ _ h => by cases d <;> exact h) ?_ _ M)
  clear M
  intro z2 M
  refine wp_block ?_
  refine wp_seq (except_u64_r2 x v (fun _ _ d _ _ h => by cases d <;> exact h) ?_ _ M)
  clear M
  intro _ _ _ z3 M
  refine wp_cond_split (t := (v == x.lo)) rfl (fun h0 => ?_) (fun h0 => ?_)
  · refine Gw.tail (except_u64_r3 x v (fun _ _ d _ _ h => by cases d <;> exact h) ?_ _ M)
    clear M
    intro _ _ _ _ z4 M
    try simp only [Exit.inBlock, Exit.then]
    refine wp_seq (except_u64_r6 x v (fun _ _ d _ _ h => by cases d <;> exact h) ?_ _ M)
    clear M
    intro _ z5 M
    refine wp_ret ?_
    try simp only [Exit.inBlock, Exit.then]
    have g0 := M.cell 0 0
    have g1 := M.cell 0 1
    refine bodyPost_ret (by simp [results, Tryz.results241, g0, g1, go_sem]; try rfl) rfl ?_
    exact ⟨by unfold exE; rw [if_pos h0], M.below⟩
  · refine wp_seq (except_u64_r4 x v (fun _ _ d _ _ h => by cases d <;> exact h) ?_ _ M)
    clear M
    intro _ _ _ z6 M
    refine wp_cond_split (t := (v == x.hi)) rfl (fun h1 => ?_) (fun h1 => ?_)
    · refine Gw.tail (except_u64_r5 x v (fun _ _ d _ _ h => by cases d <;> exact h) ?_ _ M)
      clear M
      intro _ _ _ _ z7 M
      try simp only [Exit.inBlock, Exit.then]
      refine wp_seq (except_u64_r6_8 x v (fun _ _ d _ _ h => by cases d <;> exact h) ?_ _ M)
      clear M
      intro _ z8 M
      refine wp_ret ?_
      try simp only [Exit.inBlock, Exit.then]
      have g0 := M.cell 0 0
      have g1 := M.cell 0 1
      refine bodyPost_ret (by simp [results, Tryz.results241, g0, g1, go_sem]; try rfl) rfl ?_
      exact ⟨by unfold exE; rw [if_neg (by rw [h0]; decide), if_pos h1], M.below⟩
    · refine wp_skip ?_
      try simp only [Exit.inBlock, Exit.then]
      refine wp_seq (except_u64_r6_9 x v (fun _ _ d _ _ h => by cases d <;> exact h) ?_ _ M)
      clear M
      intro _ z9 M
      refine wp_ret ?_
      try simp only [Exit.inBlock, Exit.then]
      have g0 := M.cell 0 0
      have g1 := M.cell 0 1
      refine bodyPost_ret (by simp [results, Tryz.results241, g0, g1, go_sem]; try rfl) rfl ?_
      exact ⟨by unfold exE; rw [if_neg (by rw [h0]; decide), if_neg (by rw [h1]; decide)], M.below⟩
noncomputable def apart_u64_r0C : Code := (Tryz.f231.body.bind (Rg.findR 0)).getD .skip
set_option maxHeartbeats 4000000 in
theorem apart_u64_r0 (h l : E) (d : Int) {w0 : World}  {K : Act → World → Prop} {Q0 : Exit → Act → World → Prop} {u2 u3 u4 u5 u6 u7 u8 u9 u10 u11 u12 u13 u14 u15 u16 u17 u18 u19 u20 u21 u22 u23 u24 u25 u26 u27 u28 u29 u30 u31 u32 u33 u34 u35 u36 u37 u38 u39 u40 u41 u42 u43 u44 u45 u46 u47 u48 u49 u50 u51 u52 u53 u54 u55 u56 u57 : Value}
    (hQ : ∀ c a d v w, Q0 (.panic c) (Act.put a d v) w → Q0 (.panic c) a w)
    (hK : ∀ (t8 : Value) (d1_0 d1_1 d1_2 d1_3 : Nat) (z : World), Gw.Mem w0 [(d1_3, .cells #[.int .u64 0, .int .u64 0] 182), (d1_2, .cells #[.int .u64 0, .int .u64 0] 182), (d1_1, .cells #[.int .u64 l.lo, .int .u64 l.hi] 182), (d1_0, .cells #[.int .u64 h.lo, .int .u64 h.hi] 182)] z → K ⟨#[.agg #[.int .u64 h.lo, .int .u64 h.hi], .agg #[.int .u64 l.lo, .int .u64 l.hi], u2, .pointer (some ⟨d1_0, 0, none⟩), .pointer (some ⟨d1_1, 0, none⟩), u5, .pointer (some ⟨d1_2, 0, none⟩), .pointer (some ⟨d1_3, 0, none⟩), t8, u9, u10, u11, u12, u13, u14, u15, u16, u17, u18, u19, u20, u21, u22, u23, u24, u25, u26, u27, u28, u29, u30, u31, u32, u33, u34, u35, u36, u37, u38, u39, u40, u41, u42, u43, u44, u45, u46, u47, u48, u49, u50, u51, u52, u53, u54, u55, u56, u57], []⟩ z) (wy : World) (M : Gw.Mem w0 [] wy) :
    apart_u64_r0C.wp Tryz.prog (Exit.then K Q0) ⟨#[.agg #[.int .u64 h.lo, .int .u64 h.hi], .agg #[.int .u64 l.lo, .int .u64 l.hi], u2, u3, u4, u5, u6, u7, u8, u9, u10, u11, u12, u13, u14, u15, u16, u17, u18, u19, u20, u21, u22, u23, u24, u25, u26, u27, u28, u29, u30, u31, u32, u33, u34, u35, u36, u37, u38, u39, u40, u41, u42, u43, u44, u45, u46, u47, u48, u49, u50, u51, u52, u53, u54, u55, u56, u57], []⟩ wy := by
  have HK := Lib.hid hK
  clear hK
  conv => arg 2; whnf
  refine Gw.line _ M ?_
  clear M wy
  refine Gw.ss ?_
  intro w M K' hK
  go_simp
  have M1 := M.alloc (.cells #[.int .u64 h.lo, .int .u64 h.hi] 182)
  generalize w.heap.size = d1_0 at M1 ⊢
  refine hK.out _ _ _ M1 ?_
  clear hK K' M1 M w
  try simp only [Act.put, ptA, ptB, ptC]
  refine Gw.ss ?_
  intro w M K' hK
  go_simp
  have M1 := M.alloc (.cells #[.int .u64 l.lo, .int .u64 l.hi] 182)
  generalize w.heap.size = d1_1 at M1 ⊢
  refine hK.out _ _ _ M1 ?_
  clear hK K' M1 M w
  try simp only [Act.put, ptA, ptB, ptC]
  refine Gw.ss ?_
  intro w M K' hK
  go_simp
  have M1 := M.alloc (.cells #[.int .u64 0, .int .u64 0] 182)
  generalize w.heap.size = d1_2 at M1 ⊢
  refine hK.out _ _ _ M1 ?_
  clear hK K' M1 M w
  try simp only [Act.put, ptA, ptB, ptC]
  refine Gw.ss ?_
  intro w M K' hK
  go_simp
  have M1 := M.alloc (.cells #[.int .u64 0, .int .u64 0] 182)
  generalize w.heap.size = d1_3 at M1 ⊢
  refine hK.out _ _ _ M1 ?_
  clear hK K' M1 M w
  try simp only [Act.put, ptA, ptB, ptC]
  refine Gw.sw (.bool false) ?_
  try simp only [Act.put, ptA, ptB, ptC]
  exact fun z M => HK.out _ _ _ _ _ z M
noncomputable def apart_u64_r1C : Code := (Tryz.f231.body.bind (Rg.findR 1)).getD .skip
set_option maxHeartbeats 4000000 in
theorem apart_u64_r1 (h l : E) (d : Int) {w0 : World}  {K : Act → World → Prop} {Q0 : Exit → Act → World → Prop} {d1_3 d1_2 d1_1 d1_0 : Nat} {u0 u1 u5 u6 u7 u8 u9 u10 u11 u12 u13 u14 u15 u16 u17 u18 u19 u20 u21 u22 u23 u24 u25 u26 u27 u28 u29 u30 u31 u32 u33 u34 u35 u36 u37 u38 u39 u40 u41 u42 u43 u44 u45 u46 u47 u48 u49 u50 u51 u52 u53 u54 u55 u56 u57 : Value}
    (hQ : ∀ c a d v w, Q0 (.panic c) (Act.put a d v) w → Q0 (.panic c) a w)
    (hK : ∀ (t12 t13 t14 t15 t16 t17 t18 t19 : Value) (z : World), Gw.Mem w0 [(d1_3, .cells #[.int .u64 0, .int .u64 0] 182), (d1_2, .cells #[.int .u64 0, .int .u64 0] 182), (d1_1, .cells #[.int .u64 l.lo, .int .u64 l.hi] 182), (d1_0, .cells #[.int .u64 h.lo, .int .u64 h.hi] 182)] z → K ⟨#[u0, u1, .int .u64 d, .pointer (some ⟨d1_0, 0, none⟩), .pointer (some ⟨d1_1, 0, none⟩), u5, u6, u7, u8, .int .u64 (IntKind.u64.wrap (l.lo + d)), .int .u64 (IntKind.u64.wrap (h.hi - d)), u11, t12, t13, t14, t15, t16, t17, t18, t19, u20, u21, u22, u23, u24, u25, u26, u27, u28, u29, u30, u31, u32, u33, u34, u35, u36, u37, u38, u39, u40, u41, u42, u43, u44, u45, u46, u47, u48, u49, u50, u51, u52, u53, u54, u55, u56, u57], []⟩ z) (wy : World) (M : Gw.Mem w0 [(d1_3, .cells #[.int .u64 0, .int .u64 0] 182), (d1_2, .cells #[.int .u64 0, .int .u64 0] 182), (d1_1, .cells #[.int .u64 l.lo, .int .u64 l.hi] 182), (d1_0, .cells #[.int .u64 h.lo, .int .u64 h.hi] 182)] wy) :
    apart_u64_r1C.wp Tryz.prog (Exit.then K Q0) ⟨#[u0, u1, .int .u64 d, .pointer (some ⟨d1_0, 0, none⟩), .pointer (some ⟨d1_1, 0, none⟩), u5, u6, u7, u8, u9, u10, u11, u12, u13, u14, u15, u16, u17, u18, u19, u20, u21, u22, u23, u24, u25, u26, u27, u28, u29, u30, u31, u32, u33, u34, u35, u36, u37, u38, u39, u40, u41, u42, u43, u44, u45, u46, u47, u48, u49, u50, u51, u52, u53, u54, u55, u56, u57], []⟩ wy := by
  have HK := Lib.hid hK
  clear hK
  have hq : ∀ c a d v w, Exit.then K Q0 (.panic c) (Act.put a d v) w → Exit.then K Q0 (.panic c) a w := hQ
  conv => arg 2; whnf
  refine Gw.draw0 _ (by kernel_rfl) M.drew ?_
  clear M wy
  refine Gw.tw 0 (.pointer (some ⟨d1_1, 0, none⟩)) ?_
  try simp only [Act.put, ptA, ptB, ptC]
  refine Gw.tg 1 (.int .u64 l.lo) ?_ ?_
  · intro w M; have c := M.cell 2 0; go_simp
  try simp only [Act.put, ptA, ptB, ptC]
  refine Gw.tw 2 (.int .u64 d) ?_
  try simp only [Act.put, ptA, ptB, ptC]
  refine Gw.tw 3 (.int .u64 (IntKind.u64.wrap (l.lo + d))) ?_
  try simp only [Act.put, ptA, ptB, ptC]
  refine Gw.tw 4 (.pointer (some ⟨d1_0, 1, none⟩)) ?_
  try simp only [Act.put, ptA, ptB, ptC]
  refine Gw.tg 5 (.int .u64 h.hi) ?_ ?_
  · intro w M; have c := M.cell 3 1; go_simp
  try simp only [Act.put, ptA, ptB, ptC]
  refine Gw.tw 6 (.int .u64 d) ?_
  try simp only [Act.put, ptA, ptB, ptC]
  refine Gw.tw 7 (.int .u64 (IntKind.u64.wrap (h.hi - d))) ?_
  try simp only [Act.put, ptA, ptB, ptC]
  refine Gw.tw 8 (.int .u64 (IntKind.u64.wrap (l.lo + d))) ?_
  try simp only [Act.put, ptA, ptB, ptC]
  refine Gw.tw 9 (.int .u64 (IntKind.u64.wrap (h.hi - d))) ?_
  try simp only [Act.put, ptA, ptB, ptC]
  exact Gw.td (by kernel_rfl) (fun z M => HK.out _ _ _ _ _ _ _ _ z M) _
noncomputable def apart_u64_r2C : Code := (Tryz.f231.body.bind (Rg.findR 2)).getD .skip
set_option maxHeartbeats 4000000 in
theorem apart_u64_r2 (h l : E) (d : Int) {w0 : World}  {K : Act → World → Prop} {Q0 : Exit → Act → World → Prop} {d1_3 d1_2 d1_1 d1_0 : Nat} {u0 u1 u2 u5 u6 u7 u8 u11 u12 u13 u14 u15 u16 u17 u18 u19 u20 u21 u22 u23 u24 u25 u26 u27 u28 u29 u30 u31 u32 u33 u34 u35 u36 u37 u38 u39 u40 u41 u42 u43 u44 u45 u46 u47 u48 u49 u50 u51 u52 u53 u54 u55 u56 u57 : Value}
    (hQ : ∀ c a d v w, Q0 (.panic c) (Act.put a d v) w → Q0 (.panic c) a w)
    (hK : ∀ (t20 t21 t22 t23 t24 t25 t26 t27 t28 t29 : Value) (o11 : Bool) (_ : o11 = ((decide ((IntKind.u64.wrap (l.lo + d)) < l.lo)) || (decide (h.hi < (IntKind.u64.wrap (h.hi - d)))))) (z : World), Gw.Mem w0 [(d1_3, .cells #[.int .u64 0, .int .u64 0] 182), (d1_2, .cells #[.int .u64 0, .int .u64 0] 182), (d1_1, .cells #[.int .u64 l.lo, .int .u64 l.hi] 182), (d1_0, .cells #[.int .u64 h.lo, .int .u64 h.hi] 182)] z → K ⟨#[u0, u1, u2, .pointer (some ⟨d1_0, 0, none⟩), .pointer (some ⟨d1_1, 0, none⟩), u5, u6, u7, u8, .int .u64 (IntKind.u64.wrap (l.lo + d)), .int .u64 (IntKind.u64.wrap (h.hi - d)), .bool o11, u12, u13, u14, u15, u16, u17, u18, u19, t20, t21, t22, t23, t24, t25, t26, t27, t28, t29, u30, u31, u32, u33, u34, u35, u36, u37, u38, u39, u40, u41, u42, u43, u44, u45, u46, u47, u48, u49, u50, u51, u52, u53, u54, u55, u56, u57], []⟩ z) (wy : World) (M : Gw.Mem w0 [(d1_3, .cells #[.int .u64 0, .int .u64 0] 182), (d1_2, .cells #[.int .u64 0, .int .u64 0] 182), (d1_1, .cells #[.int .u64 l.lo, .int .u64 l.hi] 182), (d1_0, .cells #[.int .u64 h.lo, .int .u64 h.hi] 182)] wy) :
    apart_u64_r2C.wp Tryz.prog (Exit.then K Q0) ⟨#[u0, u1, u2, .pointer (some ⟨d1_0, 0, none⟩), .pointer (some ⟨d1_1, 0, none⟩), u5, u6, u7, u8, .int .u64 (IntKind.u64.wrap (l.lo + d)), .int .u64 (IntKind.u64.wrap (h.hi - d)), u11, u12, u13, u14, u15, u16, u17, u18, u19, u20, u21, u22, u23, u24, u25, u26, u27, u28, u29, u30, u31, u32, u33, u34, u35, u36, u37, u38, u39, u40, u41, u42, u43, u44, u45, u46, u47, u48, u49, u50, u51, u52, u53, u54, u55, u56, u57], []⟩ wy := by
  have HK := Lib.hid hK
  clear hK
  conv => arg 2; whnf
  refine Gw.line _ M ?_
  clear M wy
  refine Gw.sw (.int .u64 (IntKind.u64.wrap (l.lo + d))) ?_
  try simp only [Act.put, ptA, ptB, ptC]
  refine Gw.sw (.pointer (some ⟨d1_1, 0, none⟩)) ?_
  try simp only [Act.put, ptA, ptB, ptC]
  refine Gw.sq (.int .u64 l.lo) ?_ ?_
  · intro w M; have c := M.cell 2 0; go_simp
  try simp only [Act.put, ptA, ptB, ptC]
  refine Gw.sw (.bool (decide ((IntKind.u64.wrap (l.lo + d)) < l.lo))) ?_
  try simp only [Act.put, ptA, ptB, ptC]
  refine Gw.sw (.bool (decide ((IntKind.u64.wrap (l.lo + d)) < l.lo))) ?_
  try simp only [Act.put, ptA, ptB, ptC]
  cases hb0_2 : decide ((IntKind.u64.wrap (l.lo + d)) < l.lo)
  · try simp only [Bool.not_true, Bool.not_false]
    refine Gw.sw (.int .u64 (IntKind.u64.wrap (h.hi - d))) ?_
    try simp only [Act.put, ptA, ptB, ptC]
    refine Gw.sw (.pointer (some ⟨d1_0, 1, none⟩)) ?_
    try simp only [Act.put, ptA, ptB, ptC]
    refine Gw.sq (.int .u64 h.hi) ?_ ?_
    · intro w M; have c := M.cell 3 1; go_simp
    try simp only [Act.put, ptA, ptB, ptC]
    refine Gw.sw (.bool (decide (h.hi < (IntKind.u64.wrap (h.hi - d))))) ?_
    try simp only [Act.put, ptA, ptB, ptC]
    refine Gw.sw (.bool (decide (h.hi < (IntKind.u64.wrap (h.hi - d))))) ?_
    try simp only [Act.put, ptA, ptB, ptC]
    refine Gw.sw (.bool (decide (h.hi < (IntKind.u64.wrap (h.hi - d))))) ?_
    try simp only [Act.put, ptA, ptB, ptC]
    exact fun z M => HK.out _ _ _ _ _ _ _ _ _ _ _ (by simp [hb0_2]) z M
  · try simp only [Bool.not_true, Bool.not_false]
    refine Gw.su ?_
    try simp only [Act.put, ptA, ptB, ptC]
    refine Gw.su ?_
    try simp only [Act.put, ptA, ptB, ptC]
    refine Gw.su ?_
    try simp only [Act.put, ptA, ptB, ptC]
    refine Gw.su ?_
    try simp only [Act.put, ptA, ptB, ptC]
    refine Gw.sw (.bool true) ?_
    try simp only [Act.put, ptA, ptB, ptC]
    refine Gw.sw (.bool true) ?_
    try simp only [Act.put, ptA, ptB, ptC]
    exact fun z M => HK.out _ _ _ _ _ _ _ _ _ _ _ (by simp [hb0_2]) z M
noncomputable def apart_u64_r3C : Code := (Tryz.f231.body.bind (Rg.findR 3)).getD .skip
set_option maxHeartbeats 4000000 in
theorem apart_u64_r3 (h l : E) (d : Int) {w0 : World}  {K : Act → World → Prop} {Q0 : Exit → Act → World → Prop} {d1_3 d1_2 d1_1 d1_0 : Nat} {u0 u1 u2 u5 u6 u7 u8 u11 u12 u13 u14 u15 u16 u17 u18 u19 u20 u21 u22 u23 u24 u25 u26 u27 u28 u29 u30 u31 u32 u33 u34 u35 u36 u37 u38 u39 u40 u41 u42 u43 u44 u45 u46 u47 u48 u49 u50 u51 u52 u53 u54 u55 u56 u57 : Value}
    (hQ : ∀ c a d v w, Q0 (.panic c) (Act.put a d v) w → Q0 (.panic c) a w)
    (hK : ∀ (t30 t31 t32 t33 t34 t35 t36 t37 t38 t39 : Value) (z : World), Gw.Mem w0 [(d1_3, .cells #[.int .u64 0, .int .u64 0] 182), (d1_2, .cells #[.int .u64 0, .int .u64 0] 182), (d1_1, .cells #[.int .u64 l.lo, .int .u64 (min l.hi (IntKind.u64.wrap (h.hi - d)))] 182), (d1_0, .cells #[.int .u64 (max h.lo (IntKind.u64.wrap (l.lo + d))), .int .u64 h.hi] 182)] z → K ⟨#[u0, u1, u2, .pointer (some ⟨d1_0, 0, none⟩), .pointer (some ⟨d1_1, 0, none⟩), u5, u6, u7, u8, .int .u64 (IntKind.u64.wrap (l.lo + d)), .int .u64 (IntKind.u64.wrap (h.hi - d)), u11, u12, u13, u14, u15, u16, u17, u18, u19, u20, u21, u22, u23, u24, u25, u26, u27, u28, u29, t30, t31, t32, t33, t34, t35, t36, t37, t38, t39, u40, u41, u42, u43, u44, u45, u46, u47, u48, u49, u50, u51, u52, u53, u54, u55, u56, u57], []⟩ z) (wy : World) (M : Gw.Mem w0 [(d1_3, .cells #[.int .u64 0, .int .u64 0] 182), (d1_2, .cells #[.int .u64 0, .int .u64 0] 182), (d1_1, .cells #[.int .u64 l.lo, .int .u64 l.hi] 182), (d1_0, .cells #[.int .u64 h.lo, .int .u64 h.hi] 182)] wy) :
    apart_u64_r3C.wp Tryz.prog (Exit.then K Q0) ⟨#[u0, u1, u2, .pointer (some ⟨d1_0, 0, none⟩), .pointer (some ⟨d1_1, 0, none⟩), u5, u6, u7, u8, .int .u64 (IntKind.u64.wrap (l.lo + d)), .int .u64 (IntKind.u64.wrap (h.hi - d)), u11, u12, u13, u14, u15, u16, u17, u18, u19, u20, u21, u22, u23, u24, u25, u26, u27, u28, u29, u30, u31, u32, u33, u34, u35, u36, u37, u38, u39, u40, u41, u42, u43, u44, u45, u46, u47, u48, u49, u50, u51, u52, u53, u54, u55, u56, u57], []⟩ wy := by
  have HK := Lib.hid hK
  clear hK
  have hq : ∀ c a d v w, Exit.then K Q0 (.panic c) (Act.put a d v) w → Exit.then K Q0 (.panic c) a w := hQ
  conv => arg 2; whnf
  refine Gw.draw [9, 11] (Gw.Mem w0 [(d1_3, .cells #[.int .u64 0, .int .u64 0] 182), (d1_2, .cells #[.int .u64 0, .int .u64 0] 182)]) _ (by kernel_rfl) M.drew ?_
  have hG : ∀ z, Gw.Mem w0 [(d1_3, .cells #[.int .u64 0, .int .u64 0] 182), (d1_2, .cells #[.int .u64 0, .int .u64 0] 182), (d1_1, .cells #[.int .u64 l.lo, .int .u64 l.hi] 182), (d1_0, .cells #[.int .u64 h.lo, .int .u64 h.hi] 182)] z → Gw.Mem w0 [(d1_3, .cells #[.int .u64 0, .int .u64 0] 182), (d1_2, .cells #[.int .u64 0, .int .u64 0] 182)] z := fun _ h => h.sub (Gw.cc (Gw.cc (Gw.cd (Gw.cd Gw.cn))))
  clear M wy
  refine Gw.tw 0 (.pointer (some ⟨d1_0, 0, none⟩)) ?_
  try simp only [Act.put, ptA, ptB, ptC]
  refine Gw.tq 1 (.int .u64 h.lo) ?_ ?_
  · intro w M; have c := M.cell 3 0; go_simp
  try simp only [Act.put, ptA, ptB, ptC]
  refine Gw.tw 2 (.int .u64 (IntKind.u64.wrap (l.lo + d))) ?_
  try simp only [Act.put, ptA, ptB, ptC]
  refine Gw.tw 3 (.int .u64 (max h.lo (IntKind.u64.wrap (l.lo + d)))) ?_ (hy := by intro w; go_simp <;> (split <;> omega))
  try simp only [Act.put, ptA, ptB, ptC]
  refine Gw.tw 4 (.pointer (some ⟨d1_1, 1, none⟩)) ?_
  try simp only [Act.put, ptA, ptB, ptC]
  refine Gw.tw 6 (.int .u64 (IntKind.u64.wrap (h.hi - d))) ?_
  try simp only [Act.put, ptA, ptB, ptC]
  refine Gw.tw 8 (.pointer (some ⟨d1_0, 0, none⟩)) ?_
  try simp only [Act.put, ptA, ptB, ptC]
  refine Gw.tn (rs := [5, 9]) (by kernel_rfl) (by simp) (Gw.ec 5 rfl ?_ (Gw.ec 9 rfl ?_ Gw.en))
  · intro w M K' hK
    have c := M.cell 2 1
    go_simp
    refine hK.out _ _ _ Gw.Mem.stays (fun _ _ h => h) hG M ?_
    clear hK K' c M w
    try simp only [Act.put, ptA, ptB, ptC]
    refine Gw.tw 7 (.int .u64 (min l.hi (IntKind.u64.wrap (h.hi - d)))) ?_ (hy := by intro w; go_simp <;> (split <;> omega))
    try simp only [Act.put, ptA, ptB, ptC]
    refine Gw.ts 9 rfl (by kernel_rfl) ?_
    intro w M K' hK
    have c := M.cell 3 0
    have f := M.frozen 3 0
    go_simp
    refine hK.out _ _ _ Gw.Mem.stays (fun h => by cases h) (fun _ h => h.sub (Gw.cc (Gw.cc (Gw.cd (Gw.cd Gw.cn))))) (M.set 3 0 _) ?_
    clear hK K' c f M w
    refine Gw.tw 10 (.pointer (some ⟨d1_1, 1, none⟩)) ?_ (hG := (fun _ h => h.sub (Gw.cc (Gw.cc (Gw.cd (Gw.cd Gw.cn))))))
    try simp only [Act.put, ptA, ptB, ptC]
    refine Gw.ts 11 rfl (by kernel_rfl) ?_
    intro w M K' hK
    have c := M.cell 2 1
    have f := M.frozen 2 1
    go_simp
    refine hK.out _ _ _ Gw.Mem.stays (fun h => by cases h) (fun _ h => h.sub (Gw.cc (Gw.cc (Gw.cd (Gw.cd Gw.cn))))) (M.set 2 1 _) ?_
    clear hK K' c f M w
    exact Gw.td (by kernel_rfl) (fun z M => HK.out _ _ _ _ _ _ _ _ _ _ z M) _
  · intro w M K' hK
    have c := M.cell 3 0
    have f := M.frozen 3 0
    go_simp
    refine hK.out _ _ _ Gw.Mem.stays (fun h => by cases h) (fun _ h => h.sub (Gw.cc (Gw.cc (Gw.cd (Gw.cd Gw.cn))))) (M.set 3 0 _) ?_
    clear hK K' c f M w
    refine Gw.tq 5 (.int .u64 l.hi) ?_ ?_ (hG := (fun _ h => h.sub (Gw.cc (Gw.cc (Gw.cd (Gw.cd Gw.cn))))))
    · intro w M; have c := M.cell 2 1; go_simp
    try simp only [Act.put, ptA, ptB, ptC]
    refine Gw.tw 7 (.int .u64 (min l.hi (IntKind.u64.wrap (h.hi - d)))) ?_ (hy := by intro w; go_simp <;> (split <;> omega)) (hG := (fun _ h => h.sub (Gw.cc (Gw.cc (Gw.cd (Gw.cd Gw.cn))))))
    try simp only [Act.put, ptA, ptB, ptC]
    refine Gw.tw 10 (.pointer (some ⟨d1_1, 1, none⟩)) ?_ (hG := (fun _ h => h.sub (Gw.cc (Gw.cc (Gw.cd (Gw.cd Gw.cn))))))
    try simp only [Act.put, ptA, ptB, ptC]
    refine Gw.ts 11 rfl (by kernel_rfl) ?_
    intro w M K' hK
    have c := M.cell 2 1
    have f := M.frozen 2 1
    go_simp
    refine hK.out _ _ _ Gw.Mem.stays (fun h => by cases h) (fun _ h => h.sub (Gw.cc (Gw.cc (Gw.cd (Gw.cd Gw.cn))))) (M.set 2 1 _) ?_
    clear hK K' c f M w
    exact Gw.td (by kernel_rfl) (fun z M => HK.out _ _ _ _ _ _ _ _ _ _ z M) _
noncomputable def apart_u64_r4C : Code := (Tryz.f231.body.bind (Rg.findR 4)).getD .skip
set_option maxHeartbeats 4000000 in
theorem apart_u64_r4 (h l : E) (d : Int) {w0 : World}  {K : Act → World → Prop} {Q0 : Exit → Act → World → Prop} {d1_3 d1_2 d1_1 d1_0 : Nat} {u0 u1 u2 u5 u8 u9 u10 u12 u13 u14 u15 u16 u17 u18 u19 u20 u21 u22 u23 u24 u25 u26 u27 u28 u29 u30 u31 u32 u33 u34 u35 u36 u37 u38 u39 u40 u41 u42 u43 u44 u45 u46 u47 u48 u49 u50 u51 u52 u53 u54 u55 u56 u57 : Value}
    (hQ : ∀ c a d v w, Q0 (.panic c) (Act.put a d v) w → Q0 (.panic c) a w)
    (hK : ∀ (t40 t41 t42 t43 t44 t45 t46 t47 t48 t49 t50 t51 t52 t53 t54 t55 t56 t57 t11 : Value) (o8 : Bool) (_ : o8 = (!((decide ((IntKind.u64.wrap (l.lo + d)) < l.lo)) || (decide (h.hi < (IntKind.u64.wrap (h.hi - d))))) && ((decide ((max h.lo (IntKind.u64.wrap (l.lo + d))) ≤ h.hi)) && (decide (l.lo ≤ (min l.hi (IntKind.u64.wrap (h.hi - d)))))))) (z : World), Gw.Mem w0 [(d1_3, .cells #[.int .u64 l.lo, .int .u64 (min l.hi (IntKind.u64.wrap (h.hi - d)))] 182), (d1_2, .cells #[.int .u64 (max h.lo (IntKind.u64.wrap (l.lo + d))), .int .u64 h.hi] 182), (d1_1, .cells #[.int .u64 l.lo, .int .u64 (min l.hi (IntKind.u64.wrap (h.hi - d)))] 182), (d1_0, .cells #[.int .u64 (max h.lo (IntKind.u64.wrap (l.lo + d))), .int .u64 h.hi] 182)] z → K ⟨#[u0, u1, u2, .pointer (some ⟨d1_0, 0, none⟩), .pointer (some ⟨d1_1, 0, none⟩), u5, .pointer (some ⟨d1_2, 0, none⟩), .pointer (some ⟨d1_3, 0, none⟩), .bool o8, u9, u10, t11, u12, u13, u14, u15, u16, u17, u18, u19, u20, u21, u22, u23, u24, u25, u26, u27, u28, u29, u30, u31, u32, u33, u34, u35, u36, u37, u38, u39, t40, t41, t42, t43, t44, t45, t46, t47, t48, t49, t50, t51, t52, t53, t54, t55, t56, t57], []⟩ z) (wy : World) (M : Gw.Mem w0 [(d1_3, .cells #[.int .u64 0, .int .u64 0] 182), (d1_2, .cells #[.int .u64 0, .int .u64 0] 182), (d1_1, .cells #[.int .u64 l.lo, .int .u64 (min l.hi (IntKind.u64.wrap (h.hi - d)))] 182), (d1_0, .cells #[.int .u64 (max h.lo (IntKind.u64.wrap (l.lo + d))), .int .u64 h.hi] 182)] wy) :
    apart_u64_r4C.wp Tryz.prog (Exit.then K Q0) ⟨#[u0, u1, u2, .pointer (some ⟨d1_0, 0, none⟩), .pointer (some ⟨d1_1, 0, none⟩), u5, .pointer (some ⟨d1_2, 0, none⟩), .pointer (some ⟨d1_3, 0, none⟩), u8, u9, u10, .bool ((decide ((IntKind.u64.wrap (l.lo + d)) < l.lo)) || (decide (h.hi < (IntKind.u64.wrap (h.hi - d))))), u12, u13, u14, u15, u16, u17, u18, u19, u20, u21, u22, u23, u24, u25, u26, u27, u28, u29, u30, u31, u32, u33, u34, u35, u36, u37, u38, u39, u40, u41, u42, u43, u44, u45, u46, u47, u48, u49, u50, u51, u52, u53, u54, u55, u56, u57], []⟩ wy := by
  have HK := Lib.hid hK
  clear hK
  have hq : ∀ c a d v w, Exit.then K Q0 (.panic c) (Act.put a d v) w → Exit.then K Q0 (.panic c) a w := hQ
  conv => arg 2; whnf
  refine Gw.draw [18, 19] (Gw.Mem w0 [(d1_1, .cells #[.int .u64 l.lo, .int .u64 (min l.hi (IntKind.u64.wrap (h.hi - d)))] 182), (d1_0, .cells #[.int .u64 (max h.lo (IntKind.u64.wrap (l.lo + d))), .int .u64 h.hi] 182)]) _ (by kernel_rfl) M.drew ?_
  have hG : ∀ z, Gw.Mem w0 [(d1_3, .cells #[.int .u64 0, .int .u64 0] 182), (d1_2, .cells #[.int .u64 0, .int .u64 0] 182), (d1_1, .cells #[.int .u64 l.lo, .int .u64 (min l.hi (IntKind.u64.wrap (h.hi - d)))] 182), (d1_0, .cells #[.int .u64 (max h.lo (IntKind.u64.wrap (l.lo + d))), .int .u64 h.hi] 182)] z → Gw.Mem w0 [(d1_1, .cells #[.int .u64 l.lo, .int .u64 (min l.hi (IntKind.u64.wrap (h.hi - d)))] 182), (d1_0, .cells #[.int .u64 (max h.lo (IntKind.u64.wrap (l.lo + d))), .int .u64 h.hi] 182)] z := fun _ h => h.sub (Gw.cd (Gw.cd (Gw.cc (Gw.cc Gw.cn))))
  clear M wy
  refine Gw.tg 0 (.agg #[.int .u64 (max h.lo (IntKind.u64.wrap (l.lo + d))), .int .u64 h.hi]) ?_ ?_
  · intro w M; have c := M.c2 1 0 1; go_simp
  try simp only [Act.put, ptA, ptB, ptC]
  refine Gw.tg 1 (.agg #[.int .u64 l.lo, .int .u64 (min l.hi (IntKind.u64.wrap (h.hi - d)))]) ?_ ?_
  · intro w M; have c := M.c2 0 0 1; go_simp
  try simp only [Act.put, ptA, ptB, ptC]
  refine Gw.tw 2 (.bool ((decide ((IntKind.u64.wrap (l.lo + d)) < l.lo)) || (decide (h.hi < (IntKind.u64.wrap (h.hi - d)))))) ?_
  try simp only [Act.put, ptA, ptB, ptC]
  refine Gw.tw 3 (.bool (!((decide ((IntKind.u64.wrap (l.lo + d)) < l.lo)) || (decide (h.hi < (IntKind.u64.wrap (h.hi - d))))))) ?_
  try simp only [Act.put, ptA, ptB, ptC]
  refine Gw.tw 4 (.bool (!((decide ((IntKind.u64.wrap (l.lo + d)) < l.lo)) || (decide (h.hi < (IntKind.u64.wrap (h.hi - d))))))) ?_
  try simp only [Act.put, ptA, ptB, ptC]
  cases hb0_4 : ((decide ((IntKind.u64.wrap (l.lo + d)) < l.lo)) || (decide (h.hi < (IntKind.u64.wrap (h.hi - d)))))
  · try simp only [Bool.not_true, Bool.not_false]
    refine Gw.tw 5 (.pointer (some ⟨d1_0, 0, none⟩)) ?_
    try simp only [Act.put, ptA, ptB, ptC]
    refine Gw.tg 6 (.int .u64 (max h.lo (IntKind.u64.wrap (l.lo + d)))) ?_ ?_
    · intro w M; have c := M.cell 1 0; go_simp
    try simp only [Act.put, ptA, ptB, ptC]
    refine Gw.tw 7 (.pointer (some ⟨d1_0, 1, none⟩)) ?_
    try simp only [Act.put, ptA, ptB, ptC]
    refine Gw.tg 8 (.int .u64 h.hi) ?_ ?_
    · intro w M; have c := M.cell 1 1; go_simp
    try simp only [Act.put, ptA, ptB, ptC]
    refine Gw.tw 9 (.bool (decide ((max h.lo (IntKind.u64.wrap (l.lo + d))) ≤ h.hi))) ?_
    try simp only [Act.put, ptA, ptB, ptC]
    refine Gw.tw 10 (.bool (decide ((max h.lo (IntKind.u64.wrap (l.lo + d))) ≤ h.hi))) ?_
    try simp only [Act.put, ptA, ptB, ptC]
    refine Gw.tw 11 (.bool (decide ((max h.lo (IntKind.u64.wrap (l.lo + d))) ≤ h.hi))) ?_
    try simp only [Act.put, ptA, ptB, ptC]
    cases hb1_4 : decide ((max h.lo (IntKind.u64.wrap (l.lo + d))) ≤ h.hi)
    · try simp only [Bool.not_true, Bool.not_false]
      refine Gw.tu 12 ?_
      try simp only [Act.put, ptA, ptB, ptC]
      refine Gw.tu 13 ?_
      try simp only [Act.put, ptA, ptB, ptC]
      refine Gw.tu 14 ?_
      try simp only [Act.put, ptA, ptB, ptC]
      refine Gw.tu 15 ?_
      try simp only [Act.put, ptA, ptB, ptC]
      refine Gw.tu 16 ?_
      try simp only [Act.put, ptA, ptB, ptC]
      refine Gw.tw 17 (.bool false) ?_
      try simp only [Act.put, ptA, ptB, ptC]
      refine Gw.ts 18 rfl (by kernel_rfl) ?_
      intro w M K' hK
      have c := M.c2 1 0 1
      have f := M.f2 1 0 1
      go_simp
      refine hK.out _ _ _ Gw.Mem.stays (fun h => by cases h) (fun _ h => h.sub (Gw.cd (Gw.cd (Gw.cc (Gw.cc Gw.cn))))) ((M.set 1 0 _).set 1 1 _) ?_
      clear hK K' c f M w
      refine Gw.ts 19 rfl (by kernel_rfl) ?_
      intro w M K' hK
      have c := M.c2 0 0 1
      have f := M.f2 0 0 1
      go_simp
      refine hK.out _ _ _ Gw.Mem.stays (fun h => by cases h) (fun _ h => h.sub (Gw.cd (Gw.cd (Gw.cc (Gw.cc Gw.cn))))) ((M.set 0 0 _).set 0 1 _) ?_
      clear hK K' c f M w
      refine Gw.tw 20 (.bool false) ?_ (hG := (fun _ h => h.sub (Gw.cd (Gw.cd (Gw.cc (Gw.cc Gw.cn))))))
      try simp only [Act.put, ptA, ptB, ptC]
      exact Gw.td (by kernel_rfl) (fun z M => HK.out _ _ _ _ _ _ _ _ _ _ _ _ _ _ _ _ _ _ _ _ (by simp [hb0_4, hb1_4]) z M) _
    · try simp only [Bool.not_true, Bool.not_false]
      refine Gw.tw 12 (.pointer (some ⟨d1_1, 0, none⟩)) ?_
      try simp only [Act.put, ptA, ptB, ptC]
      refine Gw.tg 13 (.int .u64 l.lo) ?_ ?_
      · intro w M; have c := M.cell 0 0; go_simp
      try simp only [Act.put, ptA, ptB, ptC]
      refine Gw.tw 14 (.pointer (some ⟨d1_1, 1, none⟩)) ?_
      try simp only [Act.put, ptA, ptB, ptC]
      refine Gw.tg 15 (.int .u64 (min l.hi (IntKind.u64.wrap (h.hi - d)))) ?_ ?_
      · intro w M; have c := M.cell 0 1; go_simp
      try simp only [Act.put, ptA, ptB, ptC]
      refine Gw.tw 16 (.bool (decide (l.lo ≤ (min l.hi (IntKind.u64.wrap (h.hi - d)))))) ?_
      try simp only [Act.put, ptA, ptB, ptC]
      refine Gw.tw 17 (.bool (decide (l.lo ≤ (min l.hi (IntKind.u64.wrap (h.hi - d)))))) ?_
      try simp only [Act.put, ptA, ptB, ptC]
      refine Gw.ts 18 rfl (by kernel_rfl) ?_
      intro w M K' hK
      have c := M.c2 1 0 1
      have f := M.f2 1 0 1
      go_simp
      refine hK.out _ _ _ Gw.Mem.stays (fun h => by cases h) (fun _ h => h.sub (Gw.cd (Gw.cd (Gw.cc (Gw.cc Gw.cn))))) ((M.set 1 0 _).set 1 1 _) ?_
      clear hK K' c f M w
      refine Gw.ts 19 rfl (by kernel_rfl) ?_
      intro w M K' hK
      have c := M.c2 0 0 1
      have f := M.f2 0 0 1
      go_simp
      refine hK.out _ _ _ Gw.Mem.stays (fun h => by cases h) (fun _ h => h.sub (Gw.cd (Gw.cd (Gw.cc (Gw.cc Gw.cn))))) ((M.set 0 0 _).set 0 1 _) ?_
      clear hK K' c f M w
      refine Gw.tw 20 (.bool (decide (l.lo ≤ (min l.hi (IntKind.u64.wrap (h.hi - d)))))) ?_ (hG := (fun _ h => h.sub (Gw.cd (Gw.cd (Gw.cc (Gw.cc Gw.cn))))))
      try simp only [Act.put, ptA, ptB, ptC]
      exact Gw.td (by kernel_rfl) (fun z M => HK.out _ _ _ _ _ _ _ _ _ _ _ _ _ _ _ _ _ _ _ _ (by simp [hb0_4, hb1_4]) z M) _
  · try simp only [Bool.not_true, Bool.not_false]
    refine Gw.tu 5 ?_
    try simp only [Act.put, ptA, ptB, ptC]
    refine Gw.tu 6 ?_
    try simp only [Act.put, ptA, ptB, ptC]
    refine Gw.tu 7 ?_
    try simp only [Act.put, ptA, ptB, ptC]
    refine Gw.tu 8 ?_
    try simp only [Act.put, ptA, ptB, ptC]
    refine Gw.tu 9 ?_
    try simp only [Act.put, ptA, ptB, ptC]
    refine Gw.tw 10 (.bool false) ?_
    try simp only [Act.put, ptA, ptB, ptC]
    refine Gw.tw 11 (.bool false) ?_
    try simp only [Act.put, ptA, ptB, ptC]
    refine Gw.tu 12 ?_
    try simp only [Act.put, ptA, ptB, ptC]
    refine Gw.tu 13 ?_
    try simp only [Act.put, ptA, ptB, ptC]
    refine Gw.tu 14 ?_
    try simp only [Act.put, ptA, ptB, ptC]
    refine Gw.tu 15 ?_
    try simp only [Act.put, ptA, ptB, ptC]
    refine Gw.tu 16 ?_
    try simp only [Act.put, ptA, ptB, ptC]
    refine Gw.tw 17 (.bool false) ?_
    try simp only [Act.put, ptA, ptB, ptC]
    refine Gw.ts 18 rfl (by kernel_rfl) ?_
    intro w M K' hK
    have c := M.c2 1 0 1
    have f := M.f2 1 0 1
    go_simp
    refine hK.out _ _ _ Gw.Mem.stays (fun h => by cases h) (fun _ h => h.sub (Gw.cd (Gw.cd (Gw.cc (Gw.cc Gw.cn))))) ((M.set 1 0 _).set 1 1 _) ?_
    clear hK K' c f M w
    refine Gw.ts 19 rfl (by kernel_rfl) ?_
    intro w M K' hK
    have c := M.c2 0 0 1
    have f := M.f2 0 0 1
    go_simp
    refine hK.out _ _ _ Gw.Mem.stays (fun h => by cases h) (fun _ h => h.sub (Gw.cd (Gw.cd (Gw.cc (Gw.cc Gw.cn))))) ((M.set 0 0 _).set 0 1 _) ?_
    clear hK K' c f M w
    refine Gw.tw 20 (.bool false) ?_ (hG := (fun _ h => h.sub (Gw.cd (Gw.cd (Gw.cc (Gw.cc Gw.cn))))))
    try simp only [Act.put, ptA, ptB, ptC]
    exact Gw.td (by kernel_rfl) (fun z M => HK.out _ _ _ _ _ _ _ _ _ _ _ _ _ _ _ _ _ _ _ _ (by simp [hb0_4]) z M) _
set_option maxHeartbeats 4000000 in
theorem apart_u64 (h l : E) (d : Int) (w : World) :
    Calls Tryz.prog 231 #[.agg #[.int .u64 h.lo, .int .u64 h.hi], .agg #[.int .u64 l.lo, .int .u64 l.hi], .int .u64 d] w fun e w' => e = .returned (.tuple #[.agg #[.int .u64 ((apHi .u64 d h l).lo), .int .u64 ((apHi .u64 d h l).hi)], .agg #[.int .u64 ((apLo .u64 d h l).lo), .int .u64 ((apLo .u64 d h l).hi)], .bool (apOk .u64 d h l)]) ∧ Below w.heap.size w w' := by
  go_enter Tryz.func231, Tryz.ntmps231
  have M := Gw.Mem.nil w
  refine wp_seq (apart_u64_r0 h l d (fun _ _ d _ _ h => by cases d <;> exact h) ?_ _ M)
  clear M
  intro _ d1_0 d1_1 d1_2 d1_3 z1 M
  refine wp_seq (apart_u64_r1 h l d (fun _ _ d _ _ h => by cases d <;> exact h) ?_ _ M)
  clear M
  intro _ _ _ _ _ _ _ _ z2 M
  refine wp_seq (apart_u64_r2 h l d (fun _ _ d _ _ h => by cases d <;> exact h) ?_ _ M)
  clear M
  intro _ _ _ _ _ _ _ _ _ _ o11 e11 z3 M
  subst e11
  refine wp_seq (apart_u64_r3 h l d (fun _ _ d _ _ h => by cases d <;> exact h) ?_ _ M)
  clear M
  intro _ _ _ _ _ _ _ _ _ _ z4 M
  refine wp_seq (apart_u64_r4 h l d (fun _ _ d _ _ h => by cases d <;> exact h) ?_ _ M)
  clear M
  intro _ _ _ _ _ _ _ _ _ _ _ _ _ _ _ _ _ _ _ o8 e8 z5 M
  subst e8
  refine wp_ret ?_
  try simp only [Exit.inBlock, Exit.then]
  have g0 := M.cell 1 0
  have g1 := M.cell 1 1
  have g2 := M.cell 0 0
  have g3 := M.cell 0 1
  refine bodyPost_ret (by simp [results, Tryz.results231, g0, g1, g2, g3, go_sem]; try rfl) rfl ?_
  exact ⟨rfl, M.below⟩
noncomputable def except_i64_r0C : Code := (Tryz.f242.body.bind (Rg.findR 0)).getD .skip
set_option maxHeartbeats 4000000 in
theorem except_i64_r0 (x : E) (v : Int) {w0 : World}  {K : Act → World → Prop} {Q0 : Exit → Act → World → Prop} {u1 u2 u3 u4 u5 u6 u7 u8 u9 u10 u11 u12 u13 u14 u15 u16 u17 u18 u19 u20 u21 u22 : Value}
    (hQ : ∀ c a d v w, Q0 (.panic c) (Act.put a d v) w → Q0 (.panic c) a w)
    (hK : ∀ (d1_0 d1_1 : Nat) (z : World), Gw.Mem w0 [(d1_1, .cells #[.int .i64 0, .int .i64 0] 185), (d1_0, .cells #[.int .i64 x.lo, .int .i64 x.hi] 185)] z → K ⟨#[.agg #[.int .i64 x.lo, .int .i64 x.hi], u1, .pointer (some ⟨d1_0, 0, none⟩), u3, .pointer (some ⟨d1_1, 0, none⟩), u5, u6, u7, u8, u9, u10, u11, u12, u13, u14, u15, u16, u17, u18, u19, u20, u21, u22], []⟩ z) (wy : World) (M : Gw.Mem w0 [] wy) :
    except_i64_r0C.wp Tryz.prog (Exit.then K Q0) ⟨#[.agg #[.int .i64 x.lo, .int .i64 x.hi], u1, u2, u3, u4, u5, u6, u7, u8, u9, u10, u11, u12, u13, u14, u15, u16, u17, u18, u19, u20, u21, u22], []⟩ wy := by
  have HK := Lib.hid hK
  clear hK
  conv => arg 2; whnf
  refine Gw.line _ M ?_
  clear M wy
  refine Gw.ss ?_
  intro w M K' hK
  go_simp
  have M1 := M.alloc (.cells #[.int .i64 x.lo, .int .i64 x.hi] 185)
  generalize w.heap.size = d1_0 at M1 ⊢
  refine hK.out _ _ _ M1 ?_
  clear hK K' M1 M w
  try simp only [Act.put, ptA, ptB, ptC]
  refine Gw.ss ?_
  intro w M K' hK
  go_simp
  have M1 := M.alloc (.cells #[.int .i64 0, .int .i64 0] 185)
  generalize w.heap.size = d1_1 at M1 ⊢
  refine hK.out _ _ _ M1 ?_
  clear hK K' M1 M w
  try simp only [Act.put, ptA, ptB, ptC]
  exact fun z M => HK.out _ _ z M
noncomputable def except_i64_r1C : Code := (Tryz.f242.body.bind (Rg.findR 1)).getD .skip
set_option maxHeartbeats 4000000 in
theorem except_i64_r1 (x : E) (v : Int) {w0 : World}  {K : Act → World → Prop} {Q0 : Exit → Act → World → Prop} {d1_1 d1_0 : Nat} {u0 u2 u3 u4 u5 u6 u7 u8 u9 u10 u11 u12 u13 u14 u15 u16 u17 u18 u19 u20 u21 u22 : Value}
    (hQ : ∀ c a d v w, Q0 (.panic c) (Act.put a d v) w → Q0 (.panic c) a w)
    (hK : ∀ (z : World), Gw.Mem w0 [(d1_1, .cells #[.int .i64 0, .int .i64 0] 185), (d1_0, .cells #[.int .i64 x.lo, .int .i64 x.hi] 185)] z → K ⟨#[u0, .int .i64 v, u2, u3, u4, .int .i64 v, u6, u7, u8, u9, u10, u11, u12, u13, u14, u15, u16, u17, u18, u19, u20, u21, u22], []⟩ z) (wy : World) (M : Gw.Mem w0 [(d1_1, .cells #[.int .i64 0, .int .i64 0] 185), (d1_0, .cells #[.int .i64 x.lo, .int .i64 x.hi] 185)] wy) :
    except_i64_r1C.wp Tryz.prog (Exit.then K Q0) ⟨#[u0, .int .i64 v, u2, u3, u4, u5, u6, u7, u8, u9, u10, u11, u12, u13, u14, u15, u16, u17, u18, u19, u20, u21, u22], []⟩ wy := by
  have HK := Lib.hid hK
  clear hK
  conv => arg 2; whnf
  refine Gw.line _ M ?_
  clear M wy
  refine Gw.sw (.int .i64 v) ?_
  try simp only [Act.put, ptA, ptB, ptC]
  exact fun z M => HK.out  z M
noncomputable def except_i64_r2C : Code := (Tryz.f242.body.bind (Rg.findR 2)).getD .skip
set_option maxHeartbeats 4000000 in
theorem except_i64_r2 (x : E) (v : Int) {w0 : World}  {K : Act → World → Prop} {Q0 : Exit → Act → World → Prop} {d1_1 d1_0 : Nat} {u0 u1 u3 u4 u6 u7 u8 u9 u10 u11 u12 u13 u14 u15 u16 u17 u18 u19 u20 u21 u22 : Value}
    (hQ : ∀ c a d v w, Q0 (.panic c) (Act.put a d v) w → Q0 (.panic c) a w)
    (hK : ∀ (t7 t8 t9 : Value) (z : World), Gw.Mem w0 [(d1_1, .cells #[.int .i64 0, .int .i64 0] 185), (d1_0, .cells #[.int .i64 x.lo, .int .i64 x.hi] 185)] z → K ⟨#[u0, u1, .pointer (some ⟨d1_0, 0, none⟩), u3, u4, .int .i64 v, .bool (v == x.lo), t7, t8, t9, u10, u11, u12, u13, u14, u15, u16, u17, u18, u19, u20, u21, u22], []⟩ z) (wy : World) (M : Gw.Mem w0 [(d1_1, .cells #[.int .i64 0, .int .i64 0] 185), (d1_0, .cells #[.int .i64 x.lo, .int .i64 x.hi] 185)] wy) :
    except_i64_r2C.wp Tryz.prog (Exit.then K Q0) ⟨#[u0, u1, .pointer (some ⟨d1_0, 0, none⟩), u3, u4, .int .i64 v, u6, u7, u8, u9, u10, u11, u12, u13, u14, u15, u16, u17, u18, u19, u20, u21, u22], []⟩ wy := by
  have HK := Lib.hid hK
  clear hK
  conv => arg 2; whnf
  refine Gw.line _ M ?_
  clear M wy
  refine Gw.sw (.pointer (some ⟨d1_0, 0, none⟩)) ?_
  try simp only [Act.put, ptA, ptB, ptC]
  refine Gw.sq (.int .i64 x.lo) ?_ ?_
  · intro w M; have c := M.cell 1 0; go_simp
  try simp only [Act.put, ptA, ptB, ptC]
  refine Gw.sw (.bool (v == x.lo)) ?_
  try simp only [Act.put, ptA, ptB, ptC]
  refine Gw.sw (.bool (v == x.lo)) ?_
  try simp only [Act.put, ptA, ptB, ptC]
  exact fun z M => HK.out _ _ _ z M
noncomputable def except_i64_r3C : Code := (Tryz.f242.body.bind (Rg.findR 3)).getD .skip
set_option maxHeartbeats 4000000 in
theorem except_i64_r3 (x : E) (v : Int) {w0 : World}  {K : Act → World → Prop} {Q0 : Exit → Act → World → Prop} {d1_1 d1_0 : Nat} {u0 u1 u3 u4 u5 u6 u7 u8 u9 u10 u11 u12 u13 u14 u15 u16 u17 u18 u19 u20 u21 u22 : Value}
    (hQ : ∀ c a d v w, Q0 (.panic c) (Act.put a d v) w → Q0 (.panic c) a w)
    (hK : ∀ (t10 t11 t12 t13 : Value) (z : World), Gw.Mem w0 [(d1_1, .cells #[.int .i64 0, .int .i64 0] 185), (d1_0, .cells #[.int .i64 (IntKind.i64.wrap (x.lo + 1)), .int .i64 x.hi] 185)] z → K ⟨#[u0, u1, .pointer (some ⟨d1_0, 0, none⟩), u3, u4, u5, u6, u7, u8, u9, t10, t11, t12, t13, u14, u15, u16, u17, u18, u19, u20, u21, u22], []⟩ z) (wy : World) (M : Gw.Mem w0 [(d1_1, .cells #[.int .i64 0, .int .i64 0] 185), (d1_0, .cells #[.int .i64 x.lo, .int .i64 x.hi] 185)] wy) :
    except_i64_r3C.wp Tryz.prog (Exit.then K Q0) ⟨#[u0, u1, .pointer (some ⟨d1_0, 0, none⟩), u3, u4, u5, u6, u7, u8, u9, u10, u11, u12, u13, u14, u15, u16, u17, u18, u19, u20, u21, u22], []⟩ wy := by
  have HK := Lib.hid hK
  clear hK
  conv => arg 2; whnf
  refine Gw.line _ M ?_
  clear M wy
  refine Gw.sw (.pointer (some ⟨d1_0, 0, none⟩)) ?_
  try simp only [Act.put, ptA, ptB, ptC]
  refine Gw.sq (.int .i64 x.lo) ?_ ?_
  · intro w M; have c := M.cell 1 0; go_simp
  try simp only [Act.put, ptA, ptB, ptC]
  refine Gw.sw (.int .i64 (IntKind.i64.wrap (x.lo + 1))) ?_
  try simp only [Act.put, ptA, ptB, ptC]
  refine Gw.sw (.pointer (some ⟨d1_0, 0, none⟩)) ?_
  try simp only [Act.put, ptA, ptB, ptC]
  refine Gw.ss ?_
  intro w M K' hK
  have c := M.cell 1 0
  have f := M.frozen 1 0
  go_simp
  refine hK.out _ _ _ (M.set 1 0 _) ?_
  clear hK K' c f M w
  exact fun z M => HK.out _ _ _ _ z M
noncomputable def except_i64_r6C : Code := (Tryz.f242.body.bind (Rg.findR 6)).getD .skip
set_option maxHeartbeats 4000000 in
theorem except_i64_r6 (x : E) (v : Int) {w0 : World}  {K : Act → World → Prop} {Q0 : Exit → Act → World → Prop} {d1_1 d1_0 : Nat} {u0 u1 u3 u5 u6 u7 u8 u9 u10 u11 u12 u13 u14 u15 u16 u17 u18 u19 u20 u21 u22 : Value}
    (hQ : ∀ c a d v w, Q0 (.panic c) (Act.put a d v) w → Q0 (.panic c) a w)
    (hK : ∀ (t22 : Value) (z : World), Gw.Mem w0 [(d1_1, .cells #[.int .i64 (IntKind.i64.wrap (x.lo + 1)), .int .i64 x.hi] 185), (d1_0, .cells #[.int .i64 (IntKind.i64.wrap (x.lo + 1)), .int .i64 x.hi] 185)] z → K ⟨#[u0, u1, .pointer (some ⟨d1_0, 0, none⟩), u3, .pointer (some ⟨d1_1, 0, none⟩), u5, u6, u7, u8, u9, u10, u11, u12, u13, u14, u15, u16, u17, u18, u19, u20, u21, t22], []⟩ z) (wy : World) (M : Gw.Mem w0 [(d1_1, .cells #[.int .i64 0, .int .i64 0] 185), (d1_0, .cells #[.int .i64 (IntKind.i64.wrap (x.lo + 1)), .int .i64 x.hi] 185)] wy) :
    except_i64_r6C.wp Tryz.prog (Exit.then K Q0) ⟨#[u0, u1, .pointer (some ⟨d1_0, 0, none⟩), u3, .pointer (some ⟨d1_1, 0, none⟩), u5, u6, u7, u8, u9, u10, u11, u12, u13, u14, u15, u16, u17, u18, u19, u20, u21, u22], []⟩ wy := by
  have HK := Lib.hid hK
  clear hK
  conv => arg 2; whnf
  refine Gw.line _ M ?_
  clear M wy
  refine Gw.sq (.agg #[.int .i64 (IntKind.i64.wrap (x.lo + 1)), .int .i64 x.hi]) ?_ ?_
  · intro w M; have c := M.c2 1 0 1; go_simp
  try simp only [Act.put, ptA, ptB, ptC]
  refine Gw.ss ?_
  intro w M K' hK
  have c := M.c2 0 0 1
  have f := M.f2 0 0 1
  go_simp
  refine hK.out _ _ _ ((M.set 0 0 _).set 0 1 _) ?_
  clear hK K' c f M w
  exact fun z M => HK.out _ z M
noncomputable def except_i64_r4C : Code := (Tryz.f242.body.bind (Rg.findR 4)).getD .skip
set_option maxHeartbeats 4000000 in
theorem except_i64_r4 (x : E) (v : Int) {w0 : World}  {K : Act → World → Prop} {Q0 : Exit → Act → World → Prop} {d1_1 d1_0 : Nat} {u0 u1 u3 u4 u6 u7 u8 u9 u10 u11 u12 u13 u14 u15 u16 u17 u18 u19 u20 u21 u22 : Value}
    (hQ : ∀ c a d v w, Q0 (.panic c) (Act.put a d v) w → Q0 (.panic c) a w)
    (hK : ∀ (t15 t16 t17 : Value) (z : World), Gw.Mem w0 [(d1_1, .cells #[.int .i64 0, .int .i64 0] 185), (d1_0, .cells #[.int .i64 x.lo, .int .i64 x.hi] 185)] z → K ⟨#[u0, u1, .pointer (some ⟨d1_0, 0, none⟩), u3, u4, .int .i64 v, u6, u7, u8, u9, u10, u11, u12, u13, .bool (v == x.hi), t15, t16, t17, u18, u19, u20, u21, u22], []⟩ z) (wy : World) (M : Gw.Mem w0 [(d1_1, .cells #[.int .i64 0, .int .i64 0] 185), (d1_0, .cells #[.int .i64 x.lo, .int .i64 x.hi] 185)] wy) :
    except_i64_r4C.wp Tryz.prog (Exit.then K Q0) ⟨#[u0, u1, .pointer (some ⟨d1_0, 0, none⟩), u3, u4, .int .i64 v, u6, u7, u8, u9, u10, u11, u12, u13, u14, u15, u16, u17, u18, u19, u20, u21, u22], []⟩ wy := by
  have HK := Lib.hid hK
  clear hK
  conv => arg 2; whnf
  refine Gw.line _ M ?_
  clear M wy
  refine Gw.sw (.pointer (some ⟨d1_0, 1, none⟩)) ?_
  try simp only [Act.put, ptA, ptB, ptC]
  refine Gw.sq (.int .i64 x.hi) ?_ ?_
  · intro w M; have c := M.cell 1 1; go_simp
  try simp only [Act.put, ptA, ptB, ptC]
  refine Gw.sw (.bool (v == x.hi)) ?_
  try simp only [Act.put, ptA, ptB, ptC]
  refine Gw.sw (.bool (v == x.hi)) ?_
  try simp only [Act.put, ptA, ptB, ptC]
  exact fun z M => HK.out _ _ _ z M
noncomputable def except_i64_r5C : Code := (Tryz.f242.body.bind (Rg.findR 5)).getD .skip
set_option maxHeartbeats 4000000 in
theorem except_i64_r5 (x : E) (v : Int) {w0 : World}  {K : Act → World → Prop} {Q0 : Exit → Act → World → Prop} {d1_1 d1_0 : Nat} {u0 u1 u3 u4 u5 u6 u7 u8 u9 u10 u11 u12 u13 u14 u15 u16 u17 u18 u19 u20 u21 u22 : Value}
    (hQ : ∀ c a d v w, Q0 (.panic c) (Act.put a d v) w → Q0 (.panic c) a w)
    (hK : ∀ (t18 t19 t20 t21 : Value) (z : World), Gw.Mem w0 [(d1_1, .cells #[.int .i64 0, .int .i64 0] 185), (d1_0, .cells #[.int .i64 x.lo, .int .i64 (IntKind.i64.wrap (x.hi - 1))] 185)] z → K ⟨#[u0, u1, .pointer (some ⟨d1_0, 0, none⟩), u3, u4, u5, u6, u7, u8, u9, u10, u11, u12, u13, u14, u15, u16, u17, t18, t19, t20, t21, u22], []⟩ z) (wy : World) (M : Gw.Mem w0 [(d1_1, .cells #[.int .i64 0, .int .i64 0] 185), (d1_0, .cells #[.int .i64 x.lo, .int .i64 x.hi] 185)] wy) :
    except_i64_r5C.wp Tryz.prog (Exit.then K Q0) ⟨#[u0, u1, .pointer (some ⟨d1_0, 0, none⟩), u3, u4, u5, u6, u7, u8, u9, u10, u11, u12, u13, u14, u15, u16, u17, u18, u19, u20, u21, u22], []⟩ wy := by
  have HK := Lib.hid hK
  clear hK
  conv => arg 2; whnf
  refine Gw.line _ M ?_
  clear M wy
  refine Gw.sw (.pointer (some ⟨d1_0, 1, none⟩)) ?_
  try simp only [Act.put, ptA, ptB, ptC]
  refine Gw.sq (.int .i64 x.hi) ?_ ?_
  · intro w M; have c := M.cell 1 1; go_simp
  try simp only [Act.put, ptA, ptB, ptC]
  refine Gw.sw (.int .i64 (IntKind.i64.wrap (x.hi - 1))) ?_
  try simp only [Act.put, ptA, ptB, ptC]
  refine Gw.sw (.pointer (some ⟨d1_0, 1, none⟩)) ?_
  try simp only [Act.put, ptA, ptB, ptC]
  refine Gw.ss ?_
  intro w M K' hK
  have c := M.cell 1 1
  have f := M.frozen 1 1
  go_simp
  refine hK.out _ _ _ (M.set 1 1 _) ?_
  clear hK K' c f M w
  exact fun z M => HK.out _ _ _ _ z M
noncomputable def except_i64_r6_8C : Code := (Tryz.f242.body.bind (Rg.findR 6)).getD .skip
set_option maxHeartbeats 4000000 in
theorem except_i64_r6_8 (x : E) (v : Int) {w0 : World}  {K : Act → World → Prop} {Q0 : Exit → Act → World → Prop} {d1_1 d1_0 : Nat} {u0 u1 u3 u5 u6 u7 u8 u9 u10 u11 u12 u13 u14 u15 u16 u17 u18 u19 u20 u21 u22 : Value}
    (hQ : ∀ c a d v w, Q0 (.panic c) (Act.put a d v) w → Q0 (.panic c) a w)
    (hK : ∀ (t22 : Value) (z : World), Gw.Mem w0 [(d1_1, .cells #[.int .i64 x.lo, .int .i64 (IntKind.i64.wrap (x.hi - 1))] 185), (d1_0, .cells #[.int .i64 x.lo, .int .i64 (IntKind.i64.wrap (x.hi - 1))] 185)] z → K ⟨#[u0, u1, .pointer (some ⟨d1_0, 0, none⟩), u3, .pointer (some ⟨d1_1, 0, none⟩), u5, u6, u7, u8, u9, u10, u11, u12, u13, u14, u15, u16, u17, u18, u19, u20, u21, t22], []⟩ z) (wy : World) (M : Gw.Mem w0 [(d1_1, .cells #[.int .i64 0, .int .i64 0] 185), (d1_0, .cells #[.int .i64 x.lo, .int .i64 (IntKind.i64.wrap (x.hi - 1))] 185)] wy) :
    except_i64_r6_8C.wp Tryz.prog (Exit.then K Q0) ⟨#[u0, u1, .pointer (some ⟨d1_0, 0, none⟩), u3, .pointer (some ⟨d1_1, 0, none⟩), u5, u6, u7, u8, u9, u10, u11, u12, u13, u14, u15, u16, u17, u18, u19, u20, u21, u22], []⟩ wy := by
  have HK := Lib.hid hK
  clear hK
  conv => arg 2; whnf
  refine Gw.line _ M ?_
  clear M wy
  refine Gw.sq (.agg #[.int .i64 x.lo, .int .i64 (IntKind.i64.wrap (x.hi - 1))]) ?_ ?_
  · intro w M; have c := M.c2 1 0 1; go_simp
  try simp only [Act.put, ptA, ptB, ptC]
  refine Gw.ss ?_
  intro w M K' hK
  have c := M.c2 0 0 1
  have f := M.f2 0 0 1
  go_simp
  refine hK.out _ _ _ ((M.set 0 0 _).set 0 1 _) ?_
  clear hK K' c f M w
  exact fun z M => HK.out _ z M
noncomputable def except_i64_r6_9C : Code := (Tryz.f242.body.bind (Rg.findR 6)).getD .skip
set_option maxHeartbeats 4000000 in
theorem except_i64_r6_9 (x : E) (v : Int) {w0 : World}  {K : Act → World → Prop} {Q0 : Exit → Act → World → Prop} {d1_1 d1_0 : Nat} {u0 u1 u3 u5 u6 u7 u8 u9 u10 u11 u12 u13 u14 u15 u16 u17 u18 u19 u20 u21 u22 : Value}
    (hQ : ∀ c a d v w, Q0 (.panic c) (Act.put a d v) w → Q0 (.panic c) a w)
    (hK : ∀ (t22 : Value) (z : World), Gw.Mem w0 [(d1_1, .cells #[.int .i64 x.lo, .int .i64 x.hi] 185), (d1_0, .cells #[.int .i64 x.lo, .int .i64 x.hi] 185)] z → K ⟨#[u0, u1, .pointer (some ⟨d1_0, 0, none⟩), u3, .pointer (some ⟨d1_1, 0, none⟩), u5, u6, u7, u8, u9, u10, u11, u12, u13, u14, u15, u16, u17, u18, u19, u20, u21, t22], []⟩ z) (wy : World) (M : Gw.Mem w0 [(d1_1, .cells #[.int .i64 0, .int .i64 0] 185), (d1_0, .cells #[.int .i64 x.lo, .int .i64 x.hi] 185)] wy) :
    except_i64_r6_9C.wp Tryz.prog (Exit.then K Q0) ⟨#[u0, u1, .pointer (some ⟨d1_0, 0, none⟩), u3, .pointer (some ⟨d1_1, 0, none⟩), u5, u6, u7, u8, u9, u10, u11, u12, u13, u14, u15, u16, u17, u18, u19, u20, u21, u22], []⟩ wy := by
  have HK := Lib.hid hK
  clear hK
  conv => arg 2; whnf
  refine Gw.line _ M ?_
  clear M wy
  refine Gw.sq (.agg #[.int .i64 x.lo, .int .i64 x.hi]) ?_ ?_
  · intro w M; have c := M.c2 1 0 1; go_simp
  try simp only [Act.put, ptA, ptB, ptC]
  refine Gw.ss ?_
  intro w M K' hK
  have c := M.c2 0 0 1
  have f := M.f2 0 0 1
  go_simp
  refine hK.out _ _ _ ((M.set 0 0 _).set 0 1 _) ?_
  clear hK K' c f M w
  exact fun z M => HK.out _ z M
set_option maxHeartbeats 4000000 in
theorem except_i64 (x : E) (v : Int) (w : World) :
    Calls Tryz.prog 242 #[.agg #[.int .i64 x.lo, .int .i64 x.hi], .int .i64 v] w fun e w' => e = .returned (.agg #[.int .i64 ((exE .i64 x v).lo), .int .i64 ((exE .i64 x v).hi)]) ∧ Below w.heap.size w w' := by
  go_enter Tryz.func242, Tryz.ntmps242
  have M := Gw.Mem.nil w
  refine wp_seq (except_i64_r0 x v (fun _ _ d _ _ h => by cases d <;> exact h) ?_ _ M)
  clear M
  intro d1_0 d1_1 z1 M
  refine wp_seq ?_
  refine wp_seq (except_i64_r1 x v (fun _ _ d _ _ h => by cases d <;> exact h) ?_ _ M)
  clear M
  intro z2 M
  refine wp_block ?_
  refine wp_seq (except_i64_r2 x v (fun _ _ d _ _ h => by cases d <;> exact h) ?_ _ M)
  clear M
  intro _ _ _ z3 M
  refine wp_cond_split (t := (v == x.lo)) rfl (fun h0 => ?_) (fun h0 => ?_)
  · refine Gw.tail (except_i64_r3 x v (fun _ _ d _ _ h => by cases d <;> exact h) ?_ _ M)
    clear M
    intro _ _ _ _ z4 M
    try simp only [Exit.inBlock, Exit.then]
    refine wp_seq (except_i64_r6 x v (fun _ _ d _ _ h => by cases d <;> exact h) ?_ _ M)
    clear M
    intro _ z5 M
    refine wp_ret ?_
    try simp only [Exit.inBlock, Exit.then]
    have g0 := M.cell 0 0
    have g1 := M.cell 0 1
    refine bodyPost_ret (by simp [results, Tryz.results242, g0, g1, go_sem]; try rfl) rfl ?_
    exact ⟨by unfold exE; rw [if_pos h0], M.below⟩
  · refine wp_seq (except_i64_r4 x v (fun _ _ d _ _ h => by cases d <;> exact h) ?_ _ M)
    clear M
    intro _ _ _ z6 M
    refine wp_cond_split (t := (v == x.hi)) rfl (fun h1 => ?_) (fun h1 => ?_)
    · refine Gw.tail (except_i64_r5 x v (fun _ _ d _ _ h => by cases d <;> exact h) ?_ _ M)
      clear M
      intro _ _ _ _ z7 M
      try simp only [Exit.inBlock, Exit.then]
      refine wp_seq (except_i64_r6_8 x v (fun _ _ d _ _ h => by cases d <;> exact h) ?_ _ M)
      clear M
      intro _ z8 M
      refine wp_ret ?_
      try simp only [Exit.inBlock, Exit.then]
      have g0 := M.cell 0 0
      have g1 := M.cell 0 1
      refine bodyPost_ret (by simp [results, Tryz.results242, g0, g1, go_sem]; try rfl) rfl ?_
      exact ⟨by unfold exE; rw [if_neg (by rw [h0]; decide), if_pos h1], M.below⟩
    · refine wp_skip ?_
      try simp only [Exit.inBlock, Exit.then]
      refine wp_seq (except_i64_r6_9 x v (fun _ _ d _ _ h => by cases d <;> exact h) ?_ _ M)
      clear M
      intro _ z9 M
      refine wp_ret ?_
      try simp only [Exit.inBlock, Exit.then]
      have g0 := M.cell 0 0
      have g1 := M.cell 0 1
      refine bodyPost_ret (by simp [results, Tryz.results242, g0, g1, go_sem]; try rfl) rfl ?_
      exact ⟨by unfold exE; rw [if_neg (by rw [h0]; decide), if_neg (by rw [h1]; decide)], M.below⟩
noncomputable def apart_i64_r0C : Code := (Tryz.f233.body.bind (Rg.findR 0)).getD .skip
set_option maxHeartbeats 4000000 in
theorem apart_i64_r0 (h l : E) (d : Int) {w0 : World}  {K : Act → World → Prop} {Q0 : Exit → Act → World → Prop} {u2 u3 u4 u5 u6 u7 u8 u9 u10 u11 u12 u13 u14 u15 u16 u17 u18 u19 u20 u21 u22 u23 u24 u25 u26 u27 u28 u29 u30 u31 u32 u33 u34 u35 u36 u37 u38 u39 u40 u41 u42 u43 u44 u45 u46 u47 u48 u49 u50 u51 u52 u53 u54 u55 u56 u57 : Value}
    (hQ : ∀ c a d v w, Q0 (.panic c) (Act.put a d v) w → Q0 (.panic c) a w)
    (hK : ∀ (t8 : Value) (d1_0 d1_1 d1_2 d1_3 : Nat) (z : World), Gw.Mem w0 [(d1_3, .cells #[.int .i64 0, .int .i64 0] 185), (d1_2, .cells #[.int .i64 0, .int .i64 0] 185), (d1_1, .cells #[.int .i64 l.lo, .int .i64 l.hi] 185), (d1_0, .cells #[.int .i64 h.lo, .int .i64 h.hi] 185)] z → K ⟨#[.agg #[.int .i64 h.lo, .int .i64 h.hi], .agg #[.int .i64 l.lo, .int .i64 l.hi], u2, .pointer (some ⟨d1_0, 0, none⟩), .pointer (some ⟨d1_1, 0, none⟩), u5, .pointer (some ⟨d1_2, 0, none⟩), .pointer (some ⟨d1_3, 0, none⟩), t8, u9, u10, u11, u12, u13, u14, u15, u16, u17, u18, u19, u20, u21, u22, u23, u24, u25, u26, u27, u28, u29, u30, u31, u32, u33, u34, u35, u36, u37, u38, u39, u40, u41, u42, u43, u44, u45, u46, u47, u48, u49, u50, u51, u52, u53, u54, u55, u56, u57], []⟩ z) (wy : World) (M : Gw.Mem w0 [] wy) :
    apart_i64_r0C.wp Tryz.prog (Exit.then K Q0) ⟨#[.agg #[.int .i64 h.lo, .int .i64 h.hi], .agg #[.int .i64 l.lo, .int .i64 l.hi], u2, u3, u4, u5, u6, u7, u8, u9, u10, u11, u12, u13, u14, u15, u16, u17, u18, u19, u20, u21, u22, u23, u24, u25, u26, u27, u28, u29, u30, u31, u32, u33, u34, u35, u36, u37, u38, u39, u40, u41, u42, u43, u44, u45, u46, u47, u48, u49, u50, u51, u52, u53, u54, u55, u56, u57], []⟩ wy := by
  have HK := Lib.hid hK
  clear hK
  conv => arg 2; whnf
  refine Gw.line _ M ?_
  clear M wy
  refine Gw.ss ?_
  intro w M K' hK
  go_simp
  have M1 := M.alloc (.cells #[.int .i64 h.lo, .int .i64 h.hi] 185)
  generalize w.heap.size = d1_0 at M1 ⊢
  refine hK.out _ _ _ M1 ?_
  clear hK K' M1 M w
  try simp only [Act.put, ptA, ptB, ptC]
  refine Gw.ss ?_
  intro w M K' hK
  go_simp
  have M1 := M.alloc (.cells #[.int .i64 l.lo, .int .i64 l.hi] 185)
  generalize w.heap.size = d1_1 at M1 ⊢
  refine hK.out _ _ _ M1 ?_
  clear hK K' M1 M w
  try simp only [Act.put, ptA, ptB, ptC]
  refine Gw.ss ?_
  intro w M K' hK
  go_simp
  have M1 := M.alloc (.cells #[.int .i64 0, .int .i64 0] 185)
  generalize w.heap.size = d1_2 at M1 ⊢
  refine hK.out _ _ _ M1 ?_
  clear hK K' M1 M w
  try simp only [Act.put, ptA, ptB, ptC]
  refine Gw.ss ?_
  intro w M K' hK
  go_simp
  have M1 := M.alloc (.cells #[.int .i64 0, .int .i64 0] 185)
  generalize w.heap.size = d1_3 at M1 ⊢
  refine hK.out _ _ _ M1 ?_
  clear hK K' M1 M w
  try simp only [Act.put, ptA, ptB, ptC]
  refine Gw.sw (.bool false) ?_
  try simp only [Act.put, ptA, ptB, ptC]
  exact fun z M => HK.out _ _ _ _ _ z M
noncomputable def apart_i64_r1C : Code := (Tryz.f233.body.bind (Rg.findR 1)).getD .skip
set_option maxHeartbeats 4000000 in
theorem apart_i64_r1 (h l : E) (d : Int) {w0 : World}  {K : Act → World → Prop} {Q0 : Exit → Act → World → Prop} {d1_3 d1_2 d1_1 d1_0 : Nat} {u0 u1 u5 u6 u7 u8 u9 u10 u11 u12 u13 u14 u15 u16 u17 u18 u19 u20 u21 u22 u23 u24 u25 u26 u27 u28 u29 u30 u31 u32 u33 u34 u35 u36 u37 u38 u39 u40 u41 u42 u43 u44 u45 u46 u47 u48 u49 u50 u51 u52 u53 u54 u55 u56 u57 : Value}
    (hQ : ∀ c a d v w, Q0 (.panic c) (Act.put a d v) w → Q0 (.panic c) a w)
    (hK : ∀ (t12 t13 t14 t15 t16 t17 t18 t19 : Value) (z : World), Gw.Mem w0 [(d1_3, .cells #[.int .i64 0, .int .i64 0] 185), (d1_2, .cells #[.int .i64 0, .int .i64 0] 185), (d1_1, .cells #[.int .i64 l.lo, .int .i64 l.hi] 185), (d1_0, .cells #[.int .i64 h.lo, .int .i64 h.hi] 185)] z → K ⟨#[u0, u1, .int .i64 d, .pointer (some ⟨d1_0, 0, none⟩), .pointer (some ⟨d1_1, 0, none⟩), u5, u6, u7, u8, .int .i64 (IntKind.i64.wrap (l.lo + d)), .int .i64 (IntKind.i64.wrap (h.hi - d)), u11, t12, t13, t14, t15, t16, t17, t18, t19, u20, u21, u22, u23, u24, u25, u26, u27, u28, u29, u30, u31, u32, u33, u34, u35, u36, u37, u38, u39, u40, u41, u42, u43, u44, u45, u46, u47, u48, u49, u50, u51, u52, u53, u54, u55, u56, u57], []⟩ z) (wy : World) (M : Gw.Mem w0 [(d1_3, .cells #[.int .i64 0, .int .i64 0] 185), (d1_2, .cells #[.int .i64 0, .int .i64 0] 185), (d1_1, .cells #[.int .i64 l.lo, .int .i64 l.hi] 185), (d1_0, .cells #[.int .i64 h.lo, .int .i64 h.hi] 185)] wy) :
    apart_i64_r1C.wp Tryz.prog (Exit.then K Q0) ⟨#[u0, u1, .int .i64 d, .pointer (some ⟨d1_0, 0, none⟩), .pointer (some ⟨d1_1, 0, none⟩), u5, u6, u7, u8, u9, u10, u11, u12, u13, u14, u15, u16, u17, u18, u19, u20, u21, u22, u23, u24, u25, u26, u27, u28, u29, u30, u31, u32, u33, u34, u35, u36, u37, u38, u39, u40, u41, u42, u43, u44, u45, u46, u47, u48, u49, u50, u51, u52, u53, u54, u55, u56, u57], []⟩ wy := by
  have HK := Lib.hid hK
  clear hK
  have hq : ∀ c a d v w, Exit.then K Q0 (.panic c) (Act.put a d v) w → Exit.then K Q0 (.panic c) a w := hQ
  conv => arg 2; whnf
  refine Gw.draw0 _ (by kernel_rfl) M.drew ?_
  clear M wy
  refine Gw.tw 0 (.pointer (some ⟨d1_1, 0, none⟩)) ?_
  try simp only [Act.put, ptA, ptB, ptC]
  refine Gw.tg 1 (.int .i64 l.lo) ?_ ?_
  · intro w M; have c := M.cell 2 0; go_simp
  try simp only [Act.put, ptA, ptB, ptC]
  refine Gw.tw 2 (.int .i64 d) ?_
  try simp only [Act.put, ptA, ptB, ptC]
  refine Gw.tw 3 (.int .i64 (IntKind.i64.wrap (l.lo + d))) ?_
  try simp only [Act.put, ptA, ptB, ptC]
  refine Gw.tw 4 (.pointer (some ⟨d1_0, 1, none⟩)) ?_
  try simp only [Act.put, ptA, ptB, ptC]
  refine Gw.tg 5 (.int .i64 h.hi) ?_ ?_
  · intro w M; have c := M.cell 3 1; go_simp
  try simp only [Act.put, ptA, ptB, ptC]
  refine Gw.tw 6 (.int .i64 d) ?_
  try simp only [Act.put, ptA, ptB, ptC]
  refine Gw.tw 7 (.int .i64 (IntKind.i64.wrap (h.hi - d))) ?_
  try simp only [Act.put, ptA, ptB, ptC]
  refine Gw.tw 8 (.int .i64 (IntKind.i64.wrap (l.lo + d))) ?_
  try simp only [Act.put, ptA, ptB, ptC]
  refine Gw.tw 9 (.int .i64 (IntKind.i64.wrap (h.hi - d))) ?_
  try simp only [Act.put, ptA, ptB, ptC]
  exact Gw.td (by kernel_rfl) (fun z M => HK.out _ _ _ _ _ _ _ _ z M) _
noncomputable def apart_i64_r2C : Code := (Tryz.f233.body.bind (Rg.findR 2)).getD .skip
set_option maxHeartbeats 4000000 in
theorem apart_i64_r2 (h l : E) (d : Int) {w0 : World}  {K : Act → World → Prop} {Q0 : Exit → Act → World → Prop} {d1_3 d1_2 d1_1 d1_0 : Nat} {u0 u1 u2 u5 u6 u7 u8 u11 u12 u13 u14 u15 u16 u17 u18 u19 u20 u21 u22 u23 u24 u25 u26 u27 u28 u29 u30 u31 u32 u33 u34 u35 u36 u37 u38 u39 u40 u41 u42 u43 u44 u45 u46 u47 u48 u49 u50 u51 u52 u53 u54 u55 u56 u57 : Value}
    (hQ : ∀ c a d v w, Q0 (.panic c) (Act.put a d v) w → Q0 (.panic c) a w)
    (hK : ∀ (t20 t21 t22 t23 t24 t25 t26 t27 t28 t29 : Value) (o11 : Bool) (_ : o11 = ((decide ((IntKind.i64.wrap (l.lo + d)) < l.lo)) || (decide (h.hi < (IntKind.i64.wrap (h.hi - d)))))) (z : World), Gw.Mem w0 [(d1_3, .cells #[.int .i64 0, .int .i64 0] 185), (d1_2, .cells #[.int .i64 0, .int .i64 0] 185), (d1_1, .cells #[.int .i64 l.lo, .int .i64 l.hi] 185), (d1_0, .cells #[.int .i64 h.lo, .int .i64 h.hi] 185)] z → K ⟨#[u0, u1, u2, .pointer (some ⟨d1_0, 0, none⟩), .pointer (some ⟨d1_1, 0, none⟩), u5, u6, u7, u8, .int .i64 (IntKind.i64.wrap (l.lo + d)), .int .i64 (IntKind.i64.wrap (h.hi - d)), .bool o11, u12, u13, u14, u15, u16, u17, u18, u19, t20, t21, t22, t23, t24, t25, t26, t27, t28, t29, u30, u31, u32, u33, u34, u35, u36, u37, u38, u39, u40, u41, u42, u43, u44, u45, u46, u47, u48, u49, u50, u51, u52, u53, u54, u55, u56, u57], []⟩ z) (wy : World) (M : Gw.Mem w0 [(d1_3, .cells #[.int .i64 0, .int .i64 0] 185), (d1_2, .cells #[.int .i64 0, .int .i64 0] 185), (d1_1, .cells #[.int .i64 l.lo, .int .i64 l.hi] 185), (d1_0, .cells #[.int .i64 h.lo, .int .i64 h.hi] 185)] wy) :
    apart_i64_r2C.wp Tryz.prog (Exit.then K Q0) ⟨#[u0, u1, u2, .pointer (some ⟨d1_0, 0, none⟩), .pointer (some ⟨d1_1, 0, none⟩), u5, u6, u7, u8, .int .i64 (IntKind.i64.wrap (l.lo + d)), .int .i64 (IntKind.i64.wrap (h.hi - d)), u11, u12, u13, u14, u15, u16, u17, u18, u19, u20, u21, u22, u23, u24, u25, u26, u27, u28, u29, u30, u31, u32, u33, u34, u35, u36, u37, u38, u39, u40, u41, u42, u43, u44, u45, u46, u47, u48, u49, u50, u51, u52, u53, u54, u55, u56, u57], []⟩ wy := by
  have HK := Lib.hid hK
  clear hK
  conv => arg 2; whnf
  refine Gw.line _ M ?_
  clear M wy
  refine Gw.sw (.int .i64 (IntKind.i64.wrap (l.lo + d))) ?_
  try simp only [Act.put, ptA, ptB, ptC]
  refine Gw.sw (.pointer (some ⟨d1_1, 0, none⟩)) ?_
  try simp only [Act.put, ptA, ptB, ptC]
  refine Gw.sq (.int .i64 l.lo) ?_ ?_
  · intro w M; have c := M.cell 2 0; go_simp
  try simp only [Act.put, ptA, ptB, ptC]
  refine Gw.sw (.bool (decide ((IntKind.i64.wrap (l.lo + d)) < l.lo))) ?_
  try simp only [Act.put, ptA, ptB, ptC]
  refine Gw.sw (.bool (decide ((IntKind.i64.wrap (l.lo + d)) < l.lo))) ?_
  try simp only [Act.put, ptA, ptB, ptC]
  cases hb0_2 : decide ((IntKind.i64.wrap (l.lo + d)) < l.lo)
  · try simp only [Bool.not_true, Bool.not_false]
    refine Gw.sw (.int .i64 (IntKind.i64.wrap (h.hi - d))) ?_
    try simp only [Act.put, ptA, ptB, ptC]
    refine Gw.sw (.pointer (some ⟨d1_0, 1, none⟩)) ?_
    try simp only [Act.put, ptA, ptB, ptC]
    refine Gw.sq (.int .i64 h.hi) ?_ ?_
    · intro w M; have c := M.cell 3 1; go_simp
    try simp only [Act.put, ptA, ptB, ptC]
    refine Gw.sw (.bool (decide (h.hi < (IntKind.i64.wrap (h.hi - d))))) ?_
    try simp only [Act.put, ptA, ptB, ptC]
    refine Gw.sw (.bool (decide (h.hi < (IntKind.i64.wrap (h.hi - d))))) ?_
    try simp only [Act.put, ptA, ptB, ptC]
    refine Gw.sw (.bool (decide (h.hi < (IntKind.i64.wrap (h.hi - d))))) ?_
    try simp only [Act.put, ptA, ptB, ptC]
    exact fun z M => HK.out _ _ _ _ _ _ _ _ _ _ _ (by simp [hb0_2]) z M
  · try simp only [Bool.not_true, Bool.not_false]
    refine Gw.su ?_
    try simp only [Act.put, ptA, ptB, ptC]
    refine Gw.su ?_
    try simp only [Act.put, ptA, ptB, ptC]
    refine Gw.su ?_
    try simp only [Act.put, ptA, ptB, ptC]
    refine Gw.su ?_
    try simp only [Act.put, ptA, ptB, ptC]
    refine Gw.sw (.bool true) ?_
    try simp only [Act.put, ptA, ptB, ptC]
    refine Gw.sw (.bool true) ?_
    try simp only [Act.put, ptA, ptB, ptC]
    exact fun z M => HK.out _ _ _ _ _ _ _ _ _ _ _ (by simp [hb0_2]) z M
noncomputable def apart_i64_r3C : Code := (Tryz.f233.body.bind (Rg.findR 3)).getD .skip
set_option maxHeartbeats 4000000 in
theorem apart_i64_r3 (h l : E) (d : Int) {w0 : World}  {K : Act → World → Prop} {Q0 : Exit → Act → World → Prop} {d1_3 d1_2 d1_1 d1_0 : Nat} {u0 u1 u2 u5 u6 u7 u8 u11 u12 u13 u14 u15 u16 u17 u18 u19 u20 u21 u22 u23 u24 u25 u26 u27 u28 u29 u30 u31 u32 u33 u34 u35 u36 u37 u38 u39 u40 u41 u42 u43 u44 u45 u46 u47 u48 u49 u50 u51 u52 u53 u54 u55 u56 u57 : Value}
    (hQ : ∀ c a d v w, Q0 (.panic c) (Act.put a d v) w → Q0 (.panic c) a w)
    (hK : ∀ (t30 t31 t32 t33 t34 t35 t36 t37 t38 t39 : Value) (z : World), Gw.Mem w0 [(d1_3, .cells #[.int .i64 0, .int .i64 0] 185), (d1_2, .cells #[.int .i64 0, .int .i64 0] 185), (d1_1, .cells #[.int .i64 l.lo, .int .i64 (min l.hi (IntKind.i64.wrap (h.hi - d)))] 185), (d1_0, .cells #[.int .i64 (max h.lo (IntKind.i64.wrap (l.lo + d))), .int .i64 h.hi] 185)] z → K ⟨#[u0, u1, u2, .pointer (some ⟨d1_0, 0, none⟩), .pointer (some ⟨d1_1, 0, none⟩), u5, u6, u7, u8, .int .i64 (IntKind.i64.wrap (l.lo + d)), .int .i64 (IntKind.i64.wrap (h.hi - d)), u11, u12, u13, u14, u15, u16, u17, u18, u19, u20, u21, u22, u23, u24, u25, u26, u27, u28, u29, t30, t31, t32, t33, t34, t35, t36, t37, t38, t39, u40, u41, u42, u43, u44, u45, u46, u47, u48, u49, u50, u51, u52, u53, u54, u55, u56, u57], []⟩ z) (wy : World) (M : Gw.Mem w0 [(d1_3, .cells #[.int .i64 0, .int .i64 0] 185), (d1_2, .cells #[.int .i64 0, .int .i64 0] 185), (d1_1, .cells #[.int .i64 l.lo, .int .i64 l.hi] 185), (d1_0, .cells #[.int .i64 h.lo, .int .i64 h.hi] 185)] wy) :
    apart_i64_r3C.wp Tryz.prog (Exit.then K Q0) ⟨#[u0, u1, u2, .pointer (some ⟨d1_0, 0, none⟩), .pointer (some ⟨d1_1, 0, none⟩), u5, u6, u7, u8, .int .i64 (IntKind.i64.wrap (l.lo + d)), .int .i64 (IntKind.i64.wrap (h.hi - d)), u11, u12, u13, u14, u15, u16, u17, u18, u19, u20, u21, u22, u23, u24, u25, u26, u27, u28, u29, u30, u31, u32, u33, u34, u35, u36, u37, u38, u39, u40, u41, u42, u43, u44, u45, u46, u47, u48, u49, u50, u51, u52, u53, u54, u55, u56, u57], []⟩ wy := by
  have HK := Lib.hid hK
  clear hK
  have hq : ∀ c a d v w, Exit.then K Q0 (.panic c) (Act.put a d v) w → Exit.then K Q0 (.panic c) a w := hQ
  conv => arg 2; whnf
  refine Gw.draw [9, 11] (Gw.Mem w0 [(d1_3, .cells #[.int .i64 0, .int .i64 0] 185), (d1_2, .cells #[.int .i64 0, .int .i64 0] 185)]) _ (by kernel_rfl) M.drew ?_
  have hG : ∀ z, Gw.Mem w0 [(d1_3, .cells #[.int .i64 0, .int .i64 0] 185), (d1_2, .cells #[.int .i64 0, .int .i64 0] 185), (d1_1, .cells #[.int .i64 l.lo, .int .i64 l.hi] 185), (d1_0, .cells #[.int .i64 h.lo, .int .i64 h.hi] 185)] z → Gw.Mem w0 [(d1_3, .cells #[.int .i64 0, .int .i64 0] 185), (d1_2, .cells #[.int .i64 0, .int .i64 0] 185)] z := fun _ h => h.sub (Gw.cc (Gw.cc (Gw.cd (Gw.cd Gw.cn))))
  clear M wy
  refine Gw.tw 0 (.pointer (some ⟨d1_0, 0, none⟩)) ?_
  try simp only [Act.put, ptA, ptB, ptC]
  refine Gw.tq 1 (.int .i64 h.lo) ?_ ?_
  · intro w M; have c := M.cell 3 0; go_simp
  try simp only [Act.put, ptA, ptB, ptC]
  refine Gw.tw 2 (.int .i64 (IntKind.i64.wrap (l.lo + d))) ?_
  try simp only [Act.put, ptA, ptB, ptC]
  refine Gw.tw 3 (.int .i64 (max h.lo (IntKind.i64.wrap (l.lo + d)))) ?_ (hy := by intro w; go_simp <;> (split <;> omega))
  try simp only [Act.put, ptA, ptB, ptC]
  refine Gw.tw 4 (.pointer (some ⟨d1_1, 1, none⟩)) ?_
  try simp only [Act.put, ptA, ptB, ptC]
  refine Gw.tw 6 (.int .i64 (IntKind.i64.wrap (h.hi - d))) ?_
  try simp only [Act.put, ptA, ptB, ptC]
  refine Gw.tw 8 (.pointer (some ⟨d1_0, 0, none⟩)) ?_
  try simp only [Act.put, ptA, ptB, ptC]
  refine Gw.tn (rs := [5, 9]) (by kernel_rfl) (by simp) (Gw.ec 5 rfl ?_ (Gw.ec 9 rfl ?_ Gw.en))
  · intro w M K' hK
    have c := M.cell 2 1
    go_simp
    refine hK.out _ _ _ Gw.Mem.stays (fun _ _ h => h) hG M ?_
    clear hK K' c M w
    try simp only [Act.put, ptA, ptB, ptC]
    refine Gw.tw 7 (.int .i64 (min l.hi (IntKind.i64.wrap (h.hi - d)))) ?_ (hy := by intro w; go_simp <;> (split <;> omega))
    try simp only [Act.put, ptA, ptB, ptC]
    refine Gw.ts 9 rfl (by kernel_rfl) ?_
    intro w M K' hK
    have c := M.cell 3 0
    have f := M.frozen 3 0
    go_simp
    refine hK.out _ _ _ Gw.Mem.stays (fun h => by cases h) (fun _ h => h.sub (Gw.cc (Gw.cc (Gw.cd (Gw.cd Gw.cn))))) (M.set 3 0 _) ?_
    clear hK K' c f M w
    refine Gw.tw 10 (.pointer (some ⟨d1_1, 1, none⟩)) ?_ (hG := (fun _ h => h.sub (Gw.cc (Gw.cc (Gw.cd (Gw.cd Gw.cn))))))
    try simp only [Act.put, ptA, ptB, ptC]
    refine Gw.ts 11 rfl (by kernel_rfl) ?_
    intro w M K' hK
    have c := M.cell 2 1
    have f := M.frozen 2 1
    go_simp
    refine hK.out _ _ _ Gw.Mem.stays (fun h => by cases h) (fun _ h => h.sub (Gw.cc (Gw.cc (Gw.cd (Gw.cd Gw.cn))))) (M.set 2 1 _) ?_
    clear hK K' c f M w
    exact Gw.td (by kernel_rfl) (fun z M => HK.out _ _ _ _ _ _ _ _ _ _ z M) _
  · intro w M K' hK
    have c := M.cell 3 0
    have f := M.frozen 3 0
    go_simp
    refine hK.out _ _ _ Gw.Mem.stays (fun h => by cases h) (fun _ h => h.sub (Gw.cc (Gw.cc (Gw.cd (Gw.cd Gw.cn))))) (M.set 3 0 _) ?_
    clear hK K' c f M w
    refine Gw.tq 5 (.int .i64 l.hi) ?_ ?_ (hG := (fun _ h => h.sub (Gw.cc (Gw.cc (Gw.cd (Gw.cd Gw.cn))))))
    · intro w M; have c := M.cell 2 1; go_simp
    try simp only [Act.put, ptA, ptB, ptC]
    refine Gw.tw 7 (.int .i64 (min l.hi (IntKind.i64.wrap (h.hi - d)))) ?_ (hy := by intro w; go_simp <;> (split <;> omega)) (hG := (fun _ h => h.sub (Gw.cc (Gw.cc (Gw.cd (Gw.cd Gw.cn))))))
    try simp only [Act.put, ptA, ptB, ptC]
    refine Gw.tw 10 (.pointer (some ⟨d1_1, 1, none⟩)) ?_ (hG := (fun _ h => h.sub (Gw.cc (Gw.cc (Gw.cd (Gw.cd Gw.cn))))))
    try simp only [Act.put, ptA, ptB, ptC]
    refine Gw.ts 11 rfl (by kernel_rfl) ?_
    intro w M K' hK
    have c := M.cell 2 1
    have f := M.frozen 2 1
    go_simp
    refine hK.out _ _ _ Gw.Mem.stays (fun h => by cases h) (fun _ h => h.sub (Gw.cc (Gw.cc (Gw.cd (Gw.cd Gw.cn))))) (M.set 2 1 _) ?_
    clear hK K' c f M w
    exact Gw.td (by kernel_rfl) (fun z M => HK.out _ _ _ _ _ _ _ _ _ _ z M) _
noncomputable def apart_i64_r4C : Code := (Tryz.f233.body.bind (Rg.findR 4)).getD .skip
set_option maxHeartbeats 4000000 in
theorem apart_i64_r4 (h l : E) (d : Int) {w0 : World}  {K : Act → World → Prop} {Q0 : Exit → Act → World → Prop} {d1_3 d1_2 d1_1 d1_0 : Nat} {u0 u1 u2 u5 u8 u9 u10 u12 u13 u14 u15 u16 u17 u18 u19 u20 u21 u22 u23 u24 u25 u26 u27 u28 u29 u30 u31 u32 u33 u34 u35 u36 u37 u38 u39 u40 u41 u42 u43 u44 u45 u46 u47 u48 u49 u50 u51 u52 u53 u54 u55 u56 u57 : Value}
    (hQ : ∀ c a d v w, Q0 (.panic c) (Act.put a d v) w → Q0 (.panic c) a w)
    (hK : ∀ (t40 t41 t42 t43 t44 t45 t46 t47 t48 t49 t50 t51 t52 t53 t54 t55 t56 t57 t11 : Value) (o8 : Bool) (_ : o8 = (!((decide ((IntKind.i64.wrap (l.lo + d)) < l.lo)) || (decide (h.hi < (IntKind.i64.wrap (h.hi - d))))) && ((decide ((max h.lo (IntKind.i64.wrap (l.lo + d))) ≤ h.hi)) && (decide (l.lo ≤ (min l.hi (IntKind.i64.wrap (h.hi - d)))))))) (z : World), Gw.Mem w0 [(d1_3, .cells #[.int .i64 l.lo, .int .i64 (min l.hi (IntKind.i64.wrap (h.hi - d)))] 185), (d1_2, .cells #[.int .i64 (max h.lo (IntKind.i64.wrap (l.lo + d))), .int .i64 h.hi] 185), (d1_1, .cells #[.int .i64 l.lo, .int .i64 (min l.hi (IntKind.i64.wrap (h.hi - d)))] 185), (d1_0, .cells #[.int .i64 (max h.lo (IntKind.i64.wrap (l.lo + d))), .int .i64 h.hi] 185)] z → K ⟨#[u0, u1, u2, .pointer (some ⟨d1_0, 0, none⟩), .pointer (some ⟨d1_1, 0, none⟩), u5, .pointer (some ⟨d1_2, 0, none⟩), .pointer (some ⟨d1_3, 0, none⟩), .bool o8, u9, u10, t11, u12, u13, u14, u15, u16, u17, u18, u19, u20, u21, u22, u23, u24, u25, u26, u27, u28, u29, u30, u31, u32, u33, u34, u35, u36, u37, u38, u39, t40, t41, t42, t43, t44, t45, t46, t47, t48, t49, t50, t51, t52, t53, t54, t55, t56, t57], []⟩ z) (wy : World) (M : Gw.Mem w0 [(d1_3, .cells #[.int .i64 0, .int .i64 0] 185), (d1_2, .cells #[.int .i64 0, .int .i64 0] 185), (d1_1, .cells #[.int .i64 l.lo, .int .i64 (min l.hi (IntKind.i64.wrap (h.hi - d)))] 185), (d1_0, .cells #[.int .i64 (max h.lo (IntKind.i64.wrap (l.lo + d))), .int .i64 h.hi] 185)] wy) :
    apart_i64_r4C.wp Tryz.prog (Exit.then K Q0) ⟨#[u0, u1, u2, .pointer (some ⟨d1_0, 0, none⟩), .pointer (some ⟨d1_1, 0, none⟩), u5, .pointer (some ⟨d1_2, 0, none⟩), .pointer (some ⟨d1_3, 0, none⟩), u8, u9, u10, .bool ((decide ((IntKind.i64.wrap (l.lo + d)) < l.lo)) || (decide (h.hi < (IntKind.i64.wrap (h.hi - d))))), u12, u13, u14, u15, u16, u17, u18, u19, u20, u21, u22, u23, u24, u25, u26, u27, u28, u29, u30, u31, u32, u33, u34, u35, u36, u37, u38, u39, u40, u41, u42, u43, u44, u45, u46, u47, u48, u49, u50, u51, u52, u53, u54, u55, u56, u57], []⟩ wy := by
  have HK := Lib.hid hK
  clear hK
  have hq : ∀ c a d v w, Exit.then K Q0 (.panic c) (Act.put a d v) w → Exit.then K Q0 (.panic c) a w := hQ
  conv => arg 2; whnf
  refine Gw.draw [18, 19] (Gw.Mem w0 [(d1_1, .cells #[.int .i64 l.lo, .int .i64 (min l.hi (IntKind.i64.wrap (h.hi - d)))] 185), (d1_0, .cells #[.int .i64 (max h.lo (IntKind.i64.wrap (l.lo + d))), .int .i64 h.hi] 185)]) _ (by kernel_rfl) M.drew ?_
  have hG : ∀ z, Gw.Mem w0 [(d1_3, .cells #[.int .i64 0, .int .i64 0] 185), (d1_2, .cells #[.int .i64 0, .int .i64 0] 185), (d1_1, .cells #[.int .i64 l.lo, .int .i64 (min l.hi (IntKind.i64.wrap (h.hi - d)))] 185), (d1_0, .cells #[.int .i64 (max h.lo (IntKind.i64.wrap (l.lo + d))), .int .i64 h.hi] 185)] z → Gw.Mem w0 [(d1_1, .cells #[.int .i64 l.lo, .int .i64 (min l.hi (IntKind.i64.wrap (h.hi - d)))] 185), (d1_0, .cells #[.int .i64 (max h.lo (IntKind.i64.wrap (l.lo + d))), .int .i64 h.hi] 185)] z := fun _ h => h.sub (Gw.cd (Gw.cd (Gw.cc (Gw.cc Gw.cn))))
  clear M wy
  refine Gw.tg 0 (.agg #[.int .i64 (max h.lo (IntKind.i64.wrap (l.lo + d))), .int .i64 h.hi]) ?_ ?_
  · intro w M; have c := M.c2 1 0 1; go_simp
  try simp only [Act.put, ptA, ptB, ptC]
  refine Gw.tg 1 (.agg #[.int .i64 l.lo, .int .i64 (min l.hi (IntKind.i64.wrap (h.hi - d)))]) ?_ ?_
  · intro w M; have c := M.c2 0 0 1; go_simp
  try simp only [Act.put, ptA, ptB, ptC]
  refine Gw.tw 2 (.bool ((decide ((IntKind.i64.wrap (l.lo + d)) < l.lo)) || (decide (h.hi < (IntKind.i64.wrap (h.hi - d)))))) ?_
  try simp only [Act.put, ptA, ptB, ptC]
  refine Gw.tw 3 (.bool (!((decide ((IntKind.i64.wrap (l.lo + d)) < l.lo)) || (decide (h.hi < (IntKind.i64.wrap (h.hi - d))))))) ?_
  try simp only [Act.put, ptA, ptB, ptC]
  refine Gw.tw 4 (.bool (!((decide ((IntKind.i64.wrap (l.lo + d)) < l.lo)) || (decide (h.hi < (IntKind.i64.wrap (h.hi - d))))))) ?_
  try simp only [Act.put, ptA, ptB, ptC]
  cases hb0_4 : ((decide ((IntKind.i64.wrap (l.lo + d)) < l.lo)) || (decide (h.hi < (IntKind.i64.wrap (h.hi - d)))))
  · try simp only [Bool.not_true, Bool.not_false]
    refine Gw.tw 5 (.pointer (some ⟨d1_0, 0, none⟩)) ?_
    try simp only [Act.put, ptA, ptB, ptC]
    refine Gw.tg 6 (.int .i64 (max h.lo (IntKind.i64.wrap (l.lo + d)))) ?_ ?_
    · intro w M; have c := M.cell 1 0; go_simp
    try simp only [Act.put, ptA, ptB, ptC]
    refine Gw.tw 7 (.pointer (some ⟨d1_0, 1, none⟩)) ?_
    try simp only [Act.put, ptA, ptB, ptC]
    refine Gw.tg 8 (.int .i64 h.hi) ?_ ?_
    · intro w M; have c := M.cell 1 1; go_simp
    try simp only [Act.put, ptA, ptB, ptC]
    refine Gw.tw 9 (.bool (decide ((max h.lo (IntKind.i64.wrap (l.lo + d))) ≤ h.hi))) ?_
    try simp only [Act.put, ptA, ptB, ptC]
    refine Gw.tw 10 (.bool (decide ((max h.lo (IntKind.i64.wrap (l.lo + d))) ≤ h.hi))) ?_
    try simp only [Act.put, ptA, ptB, ptC]
    refine Gw.tw 11 (.bool (decide ((max h.lo (IntKind.i64.wrap (l.lo + d))) ≤ h.hi))) ?_
    try simp only [Act.put, ptA, ptB, ptC]
    cases hb1_4 : decide ((max h.lo (IntKind.i64.wrap (l.lo + d))) ≤ h.hi)
    · try simp only [Bool.not_true, Bool.not_false]
      refine Gw.tu 12 ?_
      try simp only [Act.put, ptA, ptB, ptC]
      refine Gw.tu 13 ?_
      try simp only [Act.put, ptA, ptB, ptC]
      refine Gw.tu 14 ?_
      try simp only [Act.put, ptA, ptB, ptC]
      refine Gw.tu 15 ?_
      try simp only [Act.put, ptA, ptB, ptC]
      refine Gw.tu 16 ?_
      try simp only [Act.put, ptA, ptB, ptC]
      refine Gw.tw 17 (.bool false) ?_
      try simp only [Act.put, ptA, ptB, ptC]
      refine Gw.ts 18 rfl (by kernel_rfl) ?_
      intro w M K' hK
      have c := M.c2 1 0 1
      have f := M.f2 1 0 1
      go_simp
      refine hK.out _ _ _ Gw.Mem.stays (fun h => by cases h) (fun _ h => h.sub (Gw.cd (Gw.cd (Gw.cc (Gw.cc Gw.cn))))) ((M.set 1 0 _).set 1 1 _) ?_
      clear hK K' c f M w
      refine Gw.ts 19 rfl (by kernel_rfl) ?_
      intro w M K' hK
      have c := M.c2 0 0 1
      have f := M.f2 0 0 1
      go_simp
      refine hK.out _ _ _ Gw.Mem.stays (fun h => by cases h) (fun _ h => h.sub (Gw.cd (Gw.cd (Gw.cc (Gw.cc Gw.cn))))) ((M.set 0 0 _).set 0 1 _) ?_
      clear hK K' c f M w
      refine Gw.tw 20 (.bool false) ?_ (hG := (fun _ h => h.sub (Gw.cd (Gw.cd (Gw.cc (Gw.cc Gw.cn))))))
      try simp only [Act.put, ptA, ptB, ptC]
      exact Gw.td (by kernel_rfl) (fun z M => HK.out _ _ _ _ _ _ _ _ _ _ _ _ _ _ _ _ _ _ _ _ (by simp [hb0_4, hb1_4]) z M) _
    · try simp only [Bool.not_true, Bool.not_false]
      refine Gw.tw 12 (.pointer (some ⟨d1_1, 0, none⟩)) ?_
      try simp only [Act.put, ptA, ptB, ptC]
      refine Gw.tg 13 (.int .i64 l.lo) ?_ ?_
      · intro w M; have c := M.cell 0 0; go_simp
      try simp only [Act.put, ptA, ptB, ptC]
      refine Gw.tw 14 (.pointer (some ⟨d1_1, 1, none⟩)) ?_
      try simp only [Act.put, ptA, ptB, ptC]
      refine Gw.tg 15 (.int .i64 (min l.hi (IntKind.i64.wrap (h.hi - d)))) ?_ ?_
      · intro w M; have c := M.cell 0 1; go_simp
      try simp only [Act.put, ptA, ptB, ptC]
      refine Gw.tw 16 (.bool (decide (l.lo ≤ (min l.hi (IntKind.i64.wrap (h.hi - d)))))) ?_
      try simp only [Act.put, ptA, ptB, ptC]
      refine Gw.tw 17 (.bool (decide (l.lo ≤ (min l.hi (IntKind.i64.wrap (h.hi - d)))))) ?_
      try simp only [Act.put, ptA, ptB, ptC]
      refine Gw.ts 18 rfl (by kernel_rfl) ?_
      intro w M K' hK
      have c := M.c2 1 0 1
      have f := M.f2 1 0 1
      go_simp
      refine hK.out _ _ _ Gw.Mem.stays (fun h => by cases h) (fun _ h => h.sub (Gw.cd (Gw.cd (Gw.cc (Gw.cc Gw.cn))))) ((M.set 1 0 _).set 1 1 _) ?_
      clear hK K' c f M w
      refine Gw.ts 19 rfl (by kernel_rfl) ?_
      intro w M K' hK
      have c := M.c2 0 0 1
      have f := M.f2 0 0 1
      go_simp
      refine hK.out _ _ _ Gw.Mem.stays (fun h => by cases h) (fun _ h => h.sub (Gw.cd (Gw.cd (Gw.cc (Gw.cc Gw.cn))))) ((M.set 0 0 _).set 0 1 _) ?_
      clear hK K' c f M w
      refine Gw.tw 20 (.bool (decide (l.lo ≤ (min l.hi (IntKind.i64.wrap (h.hi - d)))))) ?_ (hG := (fun _ h => h.sub (Gw.cd (Gw.cd (Gw.cc (Gw.cc Gw.cn))))))
      try simp only [Act.put, ptA, ptB, ptC]
      exact Gw.td (by kernel_rfl) (fun z M => HK.out _ _ _ _ _ _ _ _ _ _ _ _ _ _ _ _ _ _ _ _ (by simp [hb0_4, hb1_4]) z M) _
  · try simp only [Bool.not_true, Bool.not_false]
    refine Gw.tu 5 ?_
    try simp only [Act.put, ptA, ptB, ptC]
    refine Gw.tu 6 ?_
    try simp only [Act.put, ptA, ptB, ptC]
    refine Gw.tu 7 ?_
    try simp only [Act.put, ptA, ptB, ptC]
    refine Gw.tu 8 ?_
    try simp only [Act.put, ptA, ptB, ptC]
    refine Gw.tu 9 ?_
    try simp only [Act.put, ptA, ptB, ptC]
    refine Gw.tw 10 (.bool false) ?_
    try simp only [Act.put, ptA, ptB, ptC]
    refine Gw.tw 11 (.bool false) ?_
    try simp only [Act.put, ptA, ptB, ptC]
    refine Gw.tu 12 ?_
    try simp only [Act.put, ptA, ptB, ptC]
    refine Gw.tu 13 ?_
    try simp only [Act.put, ptA, ptB, ptC]
    refine Gw.tu 14 ?_
    try simp only [Act.put, ptA, ptB, ptC]
    refine Gw.tu 15 ?_
    try simp only [Act.put, ptA, ptB, ptC]
    refine Gw.tu 16 ?_
    try simp only [Act.put, ptA, ptB, ptC]
    refine Gw.tw 17 (.bool false) ?_
    try simp only [Act.put, ptA, ptB, ptC]
    refine Gw.ts 18 rfl (by kernel_rfl) ?_
    intro w M K' hK
    have c := M.c2 1 0 1
    have f := M.f2 1 0 1
    go_simp
    refine hK.out _ _ _ Gw.Mem.stays (fun h => by cases h) (fun _ h => h.sub (Gw.cd (Gw.cd (Gw.cc (Gw.cc Gw.cn))))) ((M.set 1 0 _).set 1 1 _) ?_
    clear hK K' c f M w
    refine Gw.ts 19 rfl (by kernel_rfl) ?_
    intro w M K' hK
    have c := M.c2 0 0 1
    have f := M.f2 0 0 1
    go_simp
    refine hK.out _ _ _ Gw.Mem.stays (fun h => by cases h) (fun _ h => h.sub (Gw.cd (Gw.cd (Gw.cc (Gw.cc Gw.cn))))) ((M.set 0 0 _).set 0 1 _) ?_
    clear hK K' c f M w
    refine Gw.tw 20 (.bool false) ?_ (hG := (fun _ h => h.sub (Gw.cd (Gw.cd (Gw.cc (Gw.cc Gw.cn))))))
    try simp only [Act.put, ptA, ptB, ptC]
    exact Gw.td (by kernel_rfl) (fun z M => HK.out _ _ _ _ _ _ _ _ _ _ _ _ _ _ _ _ _ _ _ _ (by simp [hb0_4]) z M) _
set_option maxHeartbeats 4000000 in
theorem apart_i64 (h l : E) (d : Int) (w : World) :
    Calls Tryz.prog 233 #[.agg #[.int .i64 h.lo, .int .i64 h.hi], .agg #[.int .i64 l.lo, .int .i64 l.hi], .int .i64 d] w fun e w' => e = .returned (.tuple #[.agg #[.int .i64 ((apHi .i64 d h l).lo), .int .i64 ((apHi .i64 d h l).hi)], .agg #[.int .i64 ((apLo .i64 d h l).lo), .int .i64 ((apLo .i64 d h l).hi)], .bool (apOk .i64 d h l)]) ∧ Below w.heap.size w w' := by
  go_enter Tryz.func233, Tryz.ntmps233
  have M := Gw.Mem.nil w
  refine wp_seq (apart_i64_r0 h l d (fun _ _ d _ _ h => by cases d <;> exact h) ?_ _ M)
  clear M
  intro _ d1_0 d1_1 d1_2 d1_3 z1 M
  refine wp_seq (apart_i64_r1 h l d (fun _ _ d _ _ h => by cases d <;> exact h) ?_ _ M)
  clear M
  intro _ _ _ _ _ _ _ _ z2 M
  refine wp_seq (apart_i64_r2 h l d (fun _ _ d _ _ h => by cases d <;> exact h) ?_ _ M)
  clear M
  intro _ _ _ _ _ _ _ _ _ _ o11 e11 z3 M
  subst e11
  refine wp_seq (apart_i64_r3 h l d (fun _ _ d _ _ h => by cases d <;> exact h) ?_ _ M)
  clear M
  intro _ _ _ _ _ _ _ _ _ _ z4 M
  refine wp_seq (apart_i64_r4 h l d (fun _ _ d _ _ h => by cases d <;> exact h) ?_ _ M)
  clear M
  intro _ _ _ _ _ _ _ _ _ _ _ _ _ _ _ _ _ _ _ o8 e8 z5 M
  subst e8
  refine wp_ret ?_
  try simp only [Exit.inBlock, Exit.then]
  have g0 := M.cell 1 0
  have g1 := M.cell 1 1
  have g2 := M.cell 0 0
  have g3 := M.cell 0 1
  refine bodyPost_ret (by simp [results, Tryz.results233, g0, g1, g2, g3, go_sem]; try rfl) rfl ?_
  exact ⟨rfl, M.below⟩
end Go.Proofs.YtcimihckhobniaaGreat.Sc
