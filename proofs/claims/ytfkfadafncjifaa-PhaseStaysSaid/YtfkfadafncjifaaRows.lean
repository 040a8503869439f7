/-
  No cell of these rows narrows 'for every input' (looked for: loops, veiled, ifaces, maps, wideKeys, modest, calm, conditions, laid).
  DERIVED. THE GIVEN ROWS OF THIS SEAT. 4 by the template 'for every input the law returns true; each argument reads behind the call as it read before'; 0 by the template 'total and deterministic' (their statements: YtfkfadafncjifaaTotals.lean).
  GIVEN WITH THE SEED: the statements are not yours to turn. If you find one false, say at which input.
  Laid BY PROGRAM, IN A SANDBOX (cutbox-rows.mjs): the forced cells as the released guide's own fill.sh prints them over the translation a8590be20b897ab5… (all of the seat's roots in one cut). By AI agents, Wed Nov 11 2026. No macro, syntax, notation, axiom, sorry.
-/
import Derived.Test.YtfkfadafncjifaaChecked
import GoSem.Claim
import GoSem.ClaimJoined
import GoSem.ClaimMapViews
import Derived.JoinedTies
import Derived.KernelRfl
namespace Go.Proofs.Ytfkfadafncjifaa
/- THE CELL 'sum', in the pinned program and in every row, IS THE sha256 OF THE DUMP (.gsa) THAT YtfkfadafncjifaaProg.lean LOADS. Nothing in Lean hashes anything: it is a label: what it is worth is what the hold of that sum in a sandbox is worth. -/
noncomputable def Try.pinned : Pinned := { name := "ytfkfadafncjifaa", sum := "a8590be20b897ab57c9628e475aaed6c7b7f80e51a9668d07d3d18566c713d4a", checked := Try.checked }
namespace Rows
def none {H : Type} : Left H := { results := [], args := [] }

/-- 'lockgatelaw07.PhaseBeats': WHATEVER THE INPUT: true; the input reads as it did. -/
def phaseBeatsSpec : ChangeSpec := { name := "phaseBeats", fn := fun _ => fun
  | [d1, d2] => { results := [.lit (.bool true)], args := [d1, d2] }
  | _ => none }
def phaseBeatsRow : OpenClaim := { program := "ytfkfadafncjifaa", sum := "a8590be20b897ab57c9628e475aaed6c7b7f80e51a9668d07d3d18566c713d4a", func := "lockgate/lockgatelaw07.PhaseBeats", spec := "phaseBeats", inPlace := ["math.Float64bits", "math.Float64frombits"], apart := false }
def PhaseBeatsSaid : Prop := phaseBeatsRow.holds Try.pinned (OpenSpec.ofChange phaseBeatsSpec)

/-- ITS FALSE NEIGHBOUR: 'it returns false'. Refute it at one input. -/
def phaseBeatsWrong : ChangeSpec := { name := "phaseBeats", fn := fun _ => fun
  | [d1, d2] => { results := [.lit (.bool false)], args := [d1, d2] }
  | _ => none }
def PhaseBeatsWrongFalsely : Prop := phaseBeatsRow.holds Try.pinned (OpenSpec.ofChange phaseBeatsWrong)

/-- 'lockgatelaw07.PhaseSways': WHATEVER THE INPUT: true; the input reads as it did. -/
def phaseSwaysSpec : ChangeSpec := { name := "phaseSways", fn := fun _ => fun
  | [d1, d2, d3] => { results := [.lit (.bool true)], args := [d1, d2, d3] }
  | _ => none }
def phaseSwaysRow : OpenClaim := { program := "ytfkfadafncjifaa", sum := "a8590be20b897ab57c9628e475aaed6c7b7f80e51a9668d07d3d18566c713d4a", func := "lockgate/lockgatelaw07.PhaseSways", spec := "phaseSways", inPlace := ["math.Float64bits", "math.Float64frombits"], apart := false }
def PhaseSwaysSaid : Prop := phaseSwaysRow.holds Try.pinned (OpenSpec.ofChange phaseSwaysSpec)

/-- ITS FALSE NEIGHBOUR: 'it returns false'. Refute it at one input. -/
def phaseSwaysWrong : ChangeSpec := { name := "phaseSways", fn := fun _ => fun
  | [d1, d2, d3] => { results := [.lit (.bool false)], args := [d1, d2, d3] }
  | _ => none }
def PhaseSwaysWrongFalsely : Prop := phaseSwaysRow.holds Try.pinned (OpenSpec.ofChange phaseSwaysWrong)

/-- 'lockgatelaw07.PhaseStays': WHATEVER THE INPUT: true; the input reads as it did. -/
def phaseStaysSpec : ChangeSpec := { name := "phaseStays", fn := fun _ => fun
  | [d1, d2, d3, d4, d5] => { results := [.lit (.bool true)], args := [d1, d2, d3, d4, d5] }
  | _ => none }
def phaseStaysRow : OpenClaim := { program := "ytfkfadafncjifaa", sum := "a8590be20b897ab57c9628e475aaed6c7b7f80e51a9668d07d3d18566c713d4a", func := "lockgate/lockgatelaw07.PhaseStays", spec := "phaseStays", inPlace := ["math.Float64bits", "math.Float64frombits"], apart := false }
def PhaseStaysSaid : Prop := phaseStaysRow.holds Try.pinned (OpenSpec.ofChange phaseStaysSpec)

/-- ITS FALSE NEIGHBOUR: 'it returns false'. Refute it at one input. -/
def phaseStaysWrong : ChangeSpec := { name := "phaseStays", fn := fun _ => fun
  | [d1, d2, d3, d4, d5] => { results := [.lit (.bool false)], args := [d1, d2, d3, d4, d5] }
  | _ => none }
def PhaseStaysWrongFalsely : Prop := phaseStaysRow.holds Try.pinned (OpenSpec.ofChange phaseStaysWrong)

/-- 'lockgatelaw07.PhaseKnown': WHATEVER THE INPUT: true; the input reads as it did. -/
def phaseKnownSpec : ChangeSpec := { name := "phaseKnown", fn := fun _ => fun
  | [] => { results := [.lit (.bool true)], args := [] }
  | _ => none }
def phaseKnownRow : OpenClaim := { program := "ytfkfadafncjifaa", sum := "a8590be20b897ab57c9628e475aaed6c7b7f80e51a9668d07d3d18566c713d4a", func := "lockgate/lockgatelaw07.PhaseKnown", spec := "phaseKnown", inPlace := ["math.Float64bits", "math.Float64frombits"], apart := false }
def PhaseKnownSaid : Prop := phaseKnownRow.holds Try.pinned (OpenSpec.ofChange phaseKnownSpec)

/-- ITS FALSE NEIGHBOUR: 'it returns false'. Refute it at one input. -/
def phaseKnownWrong : ChangeSpec := { name := "phaseKnown", fn := fun _ => fun
  | [] => { results := [.lit (.bool false)], args := [] }
  | _ => none }
def PhaseKnownWrongFalsely : Prop := phaseKnownRow.holds Try.pinned (OpenSpec.ofChange phaseKnownWrong)

/- THE SECOND FORM. 'bulk': how many values and letters a reading holds, each counted each time it is reached (what is shared counts as often as it is met; a slice's spare places count too). A statement '..UptoSaid' is the law's where the arguments, and the package variables that the reading takes, are together of bulk at most 1048576: NARROWER than '..Said'. Prove '..Said' where nothing that the law and all that it calls make is longer than what came in: it says more and counts as full. Else prove '..UptoSaid'. A law counts once. -/
mutual
def uptoBulk {H : Type} : DataW H → Nat
  | .lit (.string bytes) => bytes.length + 1
  | .lit _ => 1
  | .nil => 1
  | .ptr d => uptoBulk d + 1
  | .slice elems spare => uptoBulkAll elems + uptoBulkAll spare + 1
  | .agg parts => uptoBulkAll parts + 1
  | .iface _ d => uptoBulk d + 1
  | .map entries => uptoBulkEntries entries + 1
  | .held _ => 1
def uptoBulkAll {H : Type} : List (DataW H) → Nat
  | [] => 0
  | d :: r => uptoBulk d + uptoBulkAll r
def uptoBulkEntries {H : Type} : List (Lit × DataW H) → Nat
  | [] => 0
  | x :: r => uptoBulkEntry x + uptoBulkEntries r
def uptoBulkEntry {H : Type} : Lit × DataW H → Nat
  | (.string bytes, d) => bytes.length + uptoBulk d + 1
  | (_, d) => uptoBulk d + 1
 end
def uptoSmall : (H : Type) → List (DataW H) → Bool := fun _ ds => decide (uptoBulkAll ds ≤ 1048576)
def OpenSpec.upto (s : _root_.Go.ChangeSpec) : _root_.Go.OpenSpec := { _root_.Go.OpenSpec.ofChange s with cond := some uptoSmall }

/-- 'lockgatelaw07.PhaseBeats', WHERE WHAT IT READS IS OF BULK AT MOST 1048576: true; the input reads as it did. -/
def phaseBeatsUptoRow : OpenClaim := { program := "ytfkfadafncjifaa", sum := "a8590be20b897ab57c9628e475aaed6c7b7f80e51a9668d07d3d18566c713d4a", func := "lockgate/lockgatelaw07.PhaseBeats", spec := "phaseBeats", inPlace := ["math.Float64bits", "math.Float64frombits"], apart := false, narrowed := true }
def PhaseBeatsUptoSaid : Prop := phaseBeatsUptoRow.holds Try.pinned (OpenSpec.upto phaseBeatsSpec)

/-- 'lockgatelaw07.PhaseSways', WHERE WHAT IT READS IS OF BULK AT MOST 1048576: true; the input reads as it did. -/
def phaseSwaysUptoRow : OpenClaim := { program := "ytfkfadafncjifaa", sum := "a8590be20b897ab57c9628e475aaed6c7b7f80e51a9668d07d3d18566c713d4a", func := "lockgate/lockgatelaw07.PhaseSways", spec := "phaseSways", inPlace := ["math.Float64bits", "math.Float64frombits"], apart := false, narrowed := true }
def PhaseSwaysUptoSaid : Prop := phaseSwaysUptoRow.holds Try.pinned (OpenSpec.upto phaseSwaysSpec)

/-- 'lockgatelaw07.PhaseStays', WHERE WHAT IT READS IS OF BULK AT MOST 1048576: true; the input reads as it did. -/
def phaseStaysUptoRow : OpenClaim := { program := "ytfkfadafncjifaa", sum := "a8590be20b897ab57c9628e475aaed6c7b7f80e51a9668d07d3d18566c713d4a", func := "lockgate/lockgatelaw07.PhaseStays", spec := "phaseStays", inPlace := ["math.Float64bits", "math.Float64frombits"], apart := false, narrowed := true }
def PhaseStaysUptoSaid : Prop := phaseStaysUptoRow.holds Try.pinned (OpenSpec.upto phaseStaysSpec)

/-- 'lockgatelaw07.PhaseKnown', WHERE WHAT IT READS IS OF BULK AT MOST 1048576: true; the input reads as it did. -/
def phaseKnownUptoRow : OpenClaim := { program := "ytfkfadafncjifaa", sum := "a8590be20b897ab57c9628e475aaed6c7b7f80e51a9668d07d3d18566c713d4a", func := "lockgate/lockgatelaw07.PhaseKnown", spec := "phaseKnown", inPlace := ["math.Float64bits", "math.Float64frombits"], apart := false, narrowed := true }
def PhaseKnownUptoSaid : Prop := phaseKnownUptoRow.holds Try.pinned (OpenSpec.upto phaseKnownSpec)

end Rows
end Go.Proofs.Ytfkfadafncjifaa
