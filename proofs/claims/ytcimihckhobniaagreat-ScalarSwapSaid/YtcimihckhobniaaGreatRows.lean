/-
  No cell of these rows narrows 'for every input' (looked for: loops, veiled, ifaces, maps, wideKeys, modest, calm, conditions, laid).
  DERIVED. THE GIVEN ROWS OF THIS SEAT. 9 by the template 'for every input the law returns true; each argument reads behind the call as it read before'; 0 by the template 'total and deterministic' (their statements: YtcimihckhobniaaGreatTotals.lean).
  GIVEN WITH THE SEED: the statements are not yours to turn. If you find one false, say at which input.
  Laid BY PROGRAM, IN A SANDBOX (cutbox-rows.mjs): the forced cells as the released guide's own fill.sh prints them over the translation dfef613cca335771… (all of the seat's roots in one cut). By AI agents, Wed Nov 11 2026. No macro, syntax, notation, axiom, sorry.
-/
import Derived.Test.YtcimihckhobniaaGreatChecked
import GoSem.Claim
import GoSem.ClaimJoined
import GoSem.ClaimMapViews
import Derived.JoinedTies
import Derived.KernelRfl
namespace Go.Proofs.YtcimihckhobniaaGreat
/- THE CELL 'sum', in the pinned program and in every row, IS THE sha256 OF THE DUMP (.gsa) THAT YtcimihckhobniaaGreatProg.lean LOADS. Nothing in Lean hashes anything: it is a label: what it is worth is what the hold of that sum in a sandbox is worth. -/
noncomputable def Tryz.pinned : Pinned := { name := "ytcimihckhobniaagreat", sum := "dfef613cca335771c51ffc37e37fec764924d6ec7ac89e9e7e570590f0827035", checked := Tryz.checked }
namespace Rows
def none {H : Type} : Left H := { results := [], args := [] }

/-- 'lockgatelaw05.ScalarSets': WHATEVER THE INPUT: true; the input reads as it did. -/
def scalarSetsSpec : ChangeSpec := { name := "scalarSets", fn := fun _ => fun
  | [d1, d2, d3, d4] => { results := [.lit (.bool true)], args := [d1, d2, d3, d4] }
  | _ => none }
def scalarSetsRow : OpenClaim := { program := "ytcimihckhobniaagreat", sum := "dfef613cca335771c51ffc37e37fec764924d6ec7ac89e9e7e570590f0827035", func := "lockgate/lockgatelaw05.ScalarSets", spec := "scalarSets", unfollowed := true, recurses := true, apart := false }
def ScalarSetsSaid : Prop := scalarSetsRow.holds Tryz.pinned (OpenSpec.ofChange scalarSetsSpec)

/-- ITS FALSE NEIGHBOUR: 'it returns false'. Refute it at one input. -/
def scalarSetsWrong : ChangeSpec := { name := "scalarSets", fn := fun _ => fun
  | [d1, d2, d3, d4] => { results := [.lit (.bool false)], args := [d1, d2, d3, d4] }
  | _ => none }
def ScalarSetsWrongFalsely : Prop := scalarSetsRow.holds Tryz.pinned (OpenSpec.ofChange scalarSetsWrong)

/-- 'lockgatelaw05.ScalarAlu': WHATEVER THE INPUT: true; the input reads as it did. -/
def scalarAluSpec : ChangeSpec := { name := "scalarAlu", fn := fun _ => fun
  | [d1, d2, d3, d4] => { results := [.lit (.bool true)], args := [d1, d2, d3, d4] }
  | _ => none }
def scalarAluRow : OpenClaim := { program := "ytcimihckhobniaagreat", sum := "dfef613cca335771c51ffc37e37fec764924d6ec7ac89e9e7e570590f0827035", func := "lockgate/lockgatelaw05.ScalarAlu", spec := "scalarAlu", unfollowed := true, recurses := true, apart := false }
def ScalarAluSaid : Prop := scalarAluRow.holds Tryz.pinned (OpenSpec.ofChange scalarAluSpec)

/-- ITS FALSE NEIGHBOUR: 'it returns false'. Refute it at one input. -/
def scalarAluWrong : ChangeSpec := { name := "scalarAlu", fn := fun _ => fun
  | [d1, d2, d3, d4] => { results := [.lit (.bool false)], args := [d1, d2, d3, d4] }
  | _ => none }
def ScalarAluWrongFalsely : Prop := scalarAluRow.holds Tryz.pinned (OpenSpec.ofChange scalarAluWrong)

/-- 'lockgatelaw05.ScalarSwap': WHATEVER THE INPUT: true; the input reads as it did. -/
def scalarSwapSpec : ChangeSpec := { name := "scalarSwap", fn := fun _ => fun
  | [d1, d2, d3] => { results := [.lit (.bool true)], args := [d1, d2, d3] }
  | _ => none }
def scalarSwapRow : OpenClaim := { program := "ytcimihckhobniaagreat", sum := "dfef613cca335771c51ffc37e37fec764924d6ec7ac89e9e7e570590f0827035", func := "lockgate/lockgatelaw05.ScalarSwap", spec := "scalarSwap", unfollowed := true, recurses := true, apart := false }
def ScalarSwapSaid : Prop := scalarSwapRow.holds Tryz.pinned (OpenSpec.ofChange scalarSwapSpec)

/-- ITS FALSE NEIGHBOUR: 'it returns false'. Refute it at one input. -/
def scalarSwapWrong : ChangeSpec := { name := "scalarSwap", fn := fun _ => fun
  | [d1, d2, d3] => { results := [.lit (.bool false)], args := [d1, d2, d3] }
  | _ => none }
def ScalarSwapWrongFalsely : Prop := scalarSwapRow.holds Tryz.pinned (OpenSpec.ofChange scalarSwapWrong)

/-- 'lockgatelaw05.ScalarBranch': WHATEVER THE INPUT: true; the input reads as it did. -/
def scalarBranchSpec : ChangeSpec := { name := "scalarBranch", fn := fun _ => fun
  | [d1, d2, d3, d4, d5] => { results := [.lit (.bool true)], args := [d1, d2, d3, d4, d5] }
  | _ => none }
def scalarBranchRow : OpenClaim := { program := "ytcimihckhobniaagreat", sum := "dfef613cca335771c51ffc37e37fec764924d6ec7ac89e9e7e570590f0827035", func := "lockgate/lockgatelaw05.ScalarBranch", spec := "scalarBranch", unfollowed := true, recurses := true, apart := false }
def ScalarBranchSaid : Prop := scalarBranchRow.holds Tryz.pinned (OpenSpec.ofChange scalarBranchSpec)

/-- ITS FALSE NEIGHBOUR: 'it returns false'. Refute it at one input. -/
def scalarBranchWrong : ChangeSpec := { name := "scalarBranch", fn := fun _ => fun
  | [d1, d2, d3, d4, d5] => { results := [.lit (.bool false)], args := [d1, d2, d3, d4, d5] }
  | _ => none }
def ScalarBranchWrongFalsely : Prop := scalarBranchRow.holds Tryz.pinned (OpenSpec.ofChange scalarBranchWrong)

/-- 'lockgatelaw05.ScalarSound': WHATEVER THE INPUT: true; the input reads as it did. -/
def scalarSoundSpec : ChangeSpec := { name := "scalarSound", fn := fun _ => fun
  | [d1, d2, d3, d4, d5, d6] => { results := [.lit (.bool true)], args := [d1, d2, d3, d4, d5, d6] }
  | _ => none }
def scalarSoundRow : OpenClaim := { program := "ytcimihckhobniaagreat", sum := "dfef613cca335771c51ffc37e37fec764924d6ec7ac89e9e7e570590f0827035", func := "lockgate/lockgatelaw05.ScalarSound", spec := "scalarSound", unfollowed := true, recurses := true, apart := false }
def ScalarSoundSaid : Prop := scalarSoundRow.holds Tryz.pinned (OpenSpec.ofChange scalarSoundSpec)

/-- ITS FALSE NEIGHBOUR: 'it returns false'. Refute it at one input. -/
def scalarSoundWrong : ChangeSpec := { name := "scalarSound", fn := fun _ => fun
  | [d1, d2, d3, d4, d5, d6] => { results := [.lit (.bool false)], args := [d1, d2, d3, d4, d5, d6] }
  | _ => none }
def ScalarSoundWrongFalsely : Prop := scalarSoundRow.holds Tryz.pinned (OpenSpec.ofChange scalarSoundWrong)

/-- 'lockgatelaw05.ScalarBranches': WHATEVER THE INPUT: true; the input reads as it did. -/
def scalarBranchesSpec : ChangeSpec := { name := "scalarBranches", fn := fun _ => fun
  | [d1, d2, d3, d4, d5, d6] => { results := [.lit (.bool true)], args := [d1, d2, d3, d4, d5, d6] }
  | _ => none }
def scalarBranchesRow : OpenClaim := { program := "ytcimihckhobniaagreat", sum := "dfef613cca335771c51ffc37e37fec764924d6ec7ac89e9e7e570590f0827035", func := "lockgate/lockgatelaw05.ScalarBranches", spec := "scalarBranches", unfollowed := true, recurses := true, apart := false }
def ScalarBranchesSaid : Prop := scalarBranchesRow.holds Tryz.pinned (OpenSpec.ofChange scalarBranchesSpec)

/-- ITS FALSE NEIGHBOUR: 'it returns false'. Refute it at one input. -/
def scalarBranchesWrong : ChangeSpec := { name := "scalarBranches", fn := fun _ => fun
  | [d1, d2, d3, d4, d5, d6] => { results := [.lit (.bool false)], args := [d1, d2, d3, d4, d5, d6] }
  | _ => none }
def ScalarBranchesWrongFalsely : Prop := scalarBranchesRow.holds Tryz.pinned (OpenSpec.ofChange scalarBranchesWrong)

/-- 'lockgatelaw05.ScalarAlone': WHATEVER THE INPUT: true; the input reads as it did. -/
def scalarAloneSpec : ChangeSpec := { name := "scalarAlone", fn := fun _ => fun
  | [d1, d2, d3, d4] => { results := [.lit (.bool true)], args := [d1, d2, d3, d4] }
  | _ => none }
def scalarAloneRow : OpenClaim := { program := "ytcimihckhobniaagreat", sum := "dfef613cca335771c51ffc37e37fec764924d6ec7ac89e9e7e570590f0827035", func := "lockgate/lockgatelaw05.ScalarAlone", spec := "scalarAlone", unfollowed := true, recurses := true, apart := false }
def ScalarAloneSaid : Prop := scalarAloneRow.holds Tryz.pinned (OpenSpec.ofChange scalarAloneSpec)

/-- ITS FALSE NEIGHBOUR: 'it returns false'. Refute it at one input. -/
def scalarAloneWrong : ChangeSpec := { name := "scalarAlone", fn := fun _ => fun
  | [d1, d2, d3, d4] => { results := [.lit (.bool false)], args := [d1, d2, d3, d4] }
  | _ => none }
def ScalarAloneWrongFalsely : Prop := scalarAloneRow.holds Tryz.pinned (OpenSpec.ofChange scalarAloneWrong)

/-- 'lockgatelaw05.ScalarWithin': WHATEVER THE INPUT: true; the input reads as it did. -/
def scalarWithinSpec : ChangeSpec := { name := "scalarWithin", fn := fun _ => fun
  | [d1, d2, d3, d4] => { results := [.lit (.bool true)], args := [d1, d2, d3, d4] }
  | _ => none }
def scalarWithinRow : OpenClaim := { program := "ytcimihckhobniaagreat", sum := "dfef613cca335771c51ffc37e37fec764924d6ec7ac89e9e7e570590f0827035", func := "lockgate/lockgatelaw05.ScalarWithin", spec := "scalarWithin", unfollowed := true, recurses := true, apart := false }
def ScalarWithinSaid : Prop := scalarWithinRow.holds Tryz.pinned (OpenSpec.ofChange scalarWithinSpec)

/-- ITS FALSE NEIGHBOUR: 'it returns false'. Refute it at one input. -/
def scalarWithinWrong : ChangeSpec := { name := "scalarWithin", fn := fun _ => fun
  | [d1, d2, d3, d4] => { results := [.lit (.bool false)], args := [d1, d2, d3, d4] }
  | _ => none }
def ScalarWithinWrongFalsely : Prop := scalarWithinRow.holds Tryz.pinned (OpenSpec.ofChange scalarWithinWrong)

/-- 'lockgatelaw05.ScalarKnown': WHATEVER THE INPUT: true; the input reads as it did. -/
def scalarKnownSpec : ChangeSpec := { name := "scalarKnown", fn := fun _ => fun
  | [] => { results := [.lit (.bool true)], args := [] }
  | _ => none }
def scalarKnownRow : OpenClaim := { program := "ytcimihckhobniaagreat", sum := "dfef613cca335771c51ffc37e37fec764924d6ec7ac89e9e7e570590f0827035", func := "lockgate/lockgatelaw05.ScalarKnown", spec := "scalarKnown", unfollowed := true, recurses := true, apart := false }
def ScalarKnownSaid : Prop := scalarKnownRow.holds Tryz.pinned (OpenSpec.ofChange scalarKnownSpec)

/-- ITS FALSE NEIGHBOUR: 'it returns false'. Refute it at one input. -/
def scalarKnownWrong : ChangeSpec := { name := "scalarKnown", fn := fun _ => fun
  | [] => { results := [.lit (.bool false)], args := [] }
  | _ => none }
def ScalarKnownWrongFalsely : Prop := scalarKnownRow.holds Tryz.pinned (OpenSpec.ofChange scalarKnownWrong)

/- THE SECOND FORM. 'bulk': how many values and letters a reading holds, each counted each time it is reached (what is shared counts as often as it is met; a slice's spare places count too). A statement '..UptoSaid' is the law's where the arguments, and the package variables that the reading takes, are together of bulk at most 1048576: NARROWER than '..Said'. Prove '..Said' where nothing that the law and all that it calls make is longer than what came in: it says more and counts as full. Else prove '..UptoSaid'. A law counts once. -/
mutual
def uptoBulk {H : Type} : DataW H → Nat
  | .lit (.string bytes) => bytes.length + 1
  | .lit _ => 1
  | .nil => 1
  | .ptr d => uptoBulk d + 1
  | .slice elems spare => uptoBulkAll elems + uptoBulkAll spare + 1
  | .agg parts => uptoBulkAll parts + 1
  | .iface _ d => uptoBulk d + 1
  | .map entries => uptoBulkEntries entries + 1
  | .held _ => 1
def uptoBulkAll {H : Type} : List (DataW H) → Nat
  | [] => 0
  | d :: r => uptoBulk d + uptoBulkAll r
def uptoBulkEntries {H : Type} : List (Lit × DataW H) → Nat
  | [] => 0
  | x :: r => uptoBulkEntry x + uptoBulkEntries r
def uptoBulkEntry {H : Type} : Lit × DataW H → Nat
  | (.string bytes, d) => bytes.length + uptoBulk d + 1
  | (_, d) => uptoBulk d + 1
 end
def uptoSmall : (H : Type) → List (DataW H) → Bool := fun _ ds => decide (uptoBulkAll ds ≤ 1048576)
def OpenSpec.upto (s : _root_.Go.ChangeSpec) : _root_.Go.OpenSpec := { _root_.Go.OpenSpec.ofChange s with cond := some uptoSmall }

/-- 'lockgatelaw05.ScalarSets', WHERE WHAT IT READS IS OF BULK AT MOST 1048576: true; the input reads as it did. -/
def scalarSetsUptoRow : OpenClaim := { program := "ytcimihckhobniaagreat", sum := "dfef613cca335771c51ffc37e37fec764924d6ec7ac89e9e7e570590f0827035", func := "lockgate/lockgatelaw05.ScalarSets", spec := "scalarSets", unfollowed := true, recurses := true, apart := false, narrowed := true }
def ScalarSetsUptoSaid : Prop := scalarSetsUptoRow.holds Tryz.pinned (OpenSpec.upto scalarSetsSpec)

/-- 'lockgatelaw05.ScalarAlu', WHERE WHAT IT READS IS OF BULK AT MOST 1048576: true; the input reads as it did. -/
def scalarAluUptoRow : OpenClaim := { program := "ytcimihckhobniaagreat", sum := "dfef613cca335771c51ffc37e37fec764924d6ec7ac89e9e7e570590f0827035", func := "lockgate/lockgatelaw05.ScalarAlu", spec := "scalarAlu", unfollowed := true, recurses := true, apart := false, narrowed := true }
def ScalarAluUptoSaid : Prop := scalarAluUptoRow.holds Tryz.pinned (OpenSpec.upto scalarAluSpec)

/-- 'lockgatelaw05.ScalarSwap', WHERE WHAT IT READS IS OF BULK AT MOST 1048576: true; the input reads as it did. -/
def scalarSwapUptoRow : OpenClaim := { program := "ytcimihckhobniaagreat", sum := "dfef613cca335771c51ffc37e37fec764924d6ec7ac89e9e7e570590f0827035", func := "lockgate/lockgatelaw05.ScalarSwap", spec := "scalarSwap", unfollowed := true, recurses := true, apart := false, narrowed := true }
def ScalarSwapUptoSaid : Prop := scalarSwapUptoRow.holds Tryz.pinned (OpenSpec.upto scalarSwapSpec)

/-- 'lockgatelaw05.ScalarBranch', WHERE WHAT IT READS IS OF BULK AT MOST 1048576: true; the input reads as it did. -/
def scalarBranchUptoRow : OpenClaim := { program := "ytcimihckhobniaagreat", sum := "dfef613cca335771c51ffc37e37fec764924d6ec7ac89e9e7e570590f0827035", func := "lockgate/lockgatelaw05.ScalarBranch", spec := "scalarBranch", unfollowed := true, recurses := true, apart := false, narrowed := true }
def ScalarBranchUptoSaid : Prop := scalarBranchUptoRow.holds Tryz.pinned (OpenSpec.upto scalarBranchSpec)

/-- 'lockgatelaw05.ScalarSound', WHERE WHAT IT READS IS OF BULK AT MOST 1048576: true; the input reads as it did. -/
def scalarSoundUptoRow : OpenClaim := { program := "ytcimihckhobniaagreat", sum := "dfef613cca335771c51ffc37e37fec764924d6ec7ac89e9e7e570590f0827035", func := "lockgate/lockgatelaw05.ScalarSound", spec := "scalarSound", unfollowed := true, recurses := true, apart := false, narrowed := true }
def ScalarSoundUptoSaid : Prop := scalarSoundUptoRow.holds Tryz.pinned (OpenSpec.upto scalarSoundSpec)

/-- 'lockgatelaw05.ScalarBranches', WHERE WHAT IT READS IS OF BULK AT MOST 1048576: true; the input reads as it did. -/
def scalarBranchesUptoRow : OpenClaim := { program := "ytcimihckhobniaagreat", sum := "dfef613cca335771c51ffc37e37fec764924d6ec7ac89e9e7e570590f0827035", func := "lockgate/lockgatelaw05.ScalarBranches", spec := "scalarBranches", unfollowed := true, recurses := true, apart := false, narrowed := true }
def ScalarBranchesUptoSaid : Prop := scalarBranchesUptoRow.holds Tryz.pinned (OpenSpec.upto scalarBranchesSpec)

/-- 'lockgatelaw05.ScalarAlone', WHERE WHAT IT READS IS OF BULK AT MOST 1048576: true; the input reads as it did. -/
def scalarAloneUptoRow : OpenClaim := { program := "ytcimihckhobniaagreat", sum := "dfef613cca335771c51ffc37e37fec764924d6ec7ac89e9e7e570590f0827035", func := "lockgate/lockgatelaw05.ScalarAlone", spec := "scalarAlone", unfollowed := true, recurses := true, apart := false, narrowed := true }
def ScalarAloneUptoSaid : Prop := scalarAloneUptoRow.holds Tryz.pinned (OpenSpec.upto scalarAloneSpec)

/-- 'lockgatelaw05.ScalarWithin', WHERE WHAT IT READS IS OF BULK AT MOST 1048576: true; the input reads as it did. -/
def scalarWithinUptoRow : OpenClaim := { program := "ytcimihckhobniaagreat", sum := "dfef613cca335771c51ffc37e37fec764924d6ec7ac89e9e7e570590f0827035", func := "lockgate/lockgatelaw05.ScalarWithin", spec := "scalarWithin", unfollowed := true, recurses := true, apart := false, narrowed := true }
def ScalarWithinUptoSaid : Prop := scalarWithinUptoRow.holds Tryz.pinned (OpenSpec.upto scalarWithinSpec)

/-- 'lockgatelaw05.ScalarKnown', WHERE WHAT IT READS IS OF BULK AT MOST 1048576: true; the input reads as it did. -/
def scalarKnownUptoRow : OpenClaim := { program := "ytcimihckhobniaagreat", sum := "dfef613cca335771c51ffc37e37fec764924d6ec7ac89e9e7e570590f0827035", func := "lockgate/lockgatelaw05.ScalarKnown", spec := "scalarKnown", unfollowed := true, recurses := true, apart := false, narrowed := true }
def ScalarKnownUptoSaid : Prop := scalarKnownUptoRow.holds Tryz.pinned (OpenSpec.upto scalarKnownSpec)

end Rows
end Go.Proofs.YtcimihckhobniaaGreat
