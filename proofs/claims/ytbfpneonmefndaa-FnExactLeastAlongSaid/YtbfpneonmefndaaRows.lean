/-
  No cell of these rows narrows 'for every input' (looked for: loops, veiled, ifaces, maps, wideKeys, modest, calm, conditions, laid).
  DERIVED. THE GIVEN ROWS OF THIS SEAT. 12 by the template 'for every input the law returns true; each argument reads behind the call as it read before'; 0 by the template 'total and deterministic' (their statements: YtbfpneonmefndaaTotals.lean).
  GIVEN WITH THE SEED: the statements are not yours to turn. If you find one false, say at which input.
  Laid BY PROGRAM, IN A SANDBOX (cutbox-rows.mjs): the forced cells as the released guide's own fill.sh prints them over the translation 06000bddd2bf17f1… (all of the seat's roots in one cut). By AI agents, Wed Nov 11 2026. No macro, syntax, notation, axiom, sorry.
-/
import Derived.Test.YtbfpneonmefndaaChecked
import GoSem.Claim
import GoSem.ClaimJoined
import GoSem.ClaimMapViews
import Derived.JoinedTies
import Derived.KernelRfl
namespace Go.Proofs.Ytbfpneonmefndaa
/- THE CELL 'sum', in the pinned program and in every row, IS THE sha256 OF THE DUMP (.gsa) THAT YtbfpneonmefndaaProg.lean LOADS. Nothing in Lean hashes anything: it is a label: what it is worth is what the hold of that sum in a sandbox is worth. -/
noncomputable def Try.pinned : Pinned := { name := "ytbfpneonmefndaa", sum := "06000bddd2bf17f178645df79adc5756694d44db5b0d10ff818af392574d604d", checked := Try.checked }
namespace Rows
def none {H : Type} : Left H := { results := [], args := [] }

/-- 'laws.FnExactScaleRow': WHATEVER THE INPUT: true; the input reads as it did. -/
def fnExactScaleRowSpec : ChangeSpec := { name := "fnExactScaleRow", fn := fun _ => fun
  | [d1, d2, d3] => { results := [.lit (.bool true)], args := [d1, d2, d3] }
  | _ => none }
def fnExactScaleRowRow : OpenClaim := { program := "ytbfpneonmefndaa", sum := "06000bddd2bf17f178645df79adc5756694d44db5b0d10ff818af392574d604d", func := "loop.example/g01343/laws.FnExactScaleRow", spec := "fnExactScaleRow", plainKeys := false, apart := false }
def FnExactScaleRowSaid : Prop := fnExactScaleRowRow.holds Try.pinned (OpenSpec.ofChange fnExactScaleRowSpec)

/-- ITS FALSE NEIGHBOUR: 'it returns false'. Refute it at one input. -/
def fnExactScaleRowWrong : ChangeSpec := { name := "fnExactScaleRow", fn := fun _ => fun
  | [d1, d2, d3] => { results := [.lit (.bool false)], args := [d1, d2, d3] }
  | _ => none }
def FnExactScaleRowWrongFalsely : Prop := fnExactScaleRowRow.holds Try.pinned (OpenSpec.ofChange fnExactScaleRowWrong)

/-- 'laws.FnExactColumnsOf': WHATEVER THE INPUT: true; the input reads as it did. -/
def fnExactColumnsOfSpec : ChangeSpec := { name := "fnExactColumnsOf", fn := fun _ => fun
  | [d1, d2] => { results := [.lit (.bool true)], args := [d1, d2] }
  | _ => none }
def fnExactColumnsOfRow : OpenClaim := { program := "ytbfpneonmefndaa", sum := "06000bddd2bf17f178645df79adc5756694d44db5b0d10ff818af392574d604d", func := "loop.example/g01343/laws.FnExactColumnsOf", spec := "fnExactColumnsOf", unfollowed := true, recurses := true, plainKeys := false, apart := false }
def FnExactColumnsOfSaid : Prop := fnExactColumnsOfRow.holds Try.pinned (OpenSpec.ofChange fnExactColumnsOfSpec)

/-- ITS FALSE NEIGHBOUR: 'it returns false'. Refute it at one input. -/
def fnExactColumnsOfWrong : ChangeSpec := { name := "fnExactColumnsOf", fn := fun _ => fun
  | [d1, d2] => { results := [.lit (.bool false)], args := [d1, d2] }
  | _ => none }
def FnExactColumnsOfWrongFalsely : Prop := fnExactColumnsOfRow.holds Try.pinned (OpenSpec.ofChange fnExactColumnsOfWrong)

/-- 'laws.FnExactRemainderOf': WHATEVER THE INPUT: true; the input reads as it did. -/
def fnExactRemainderOfSpec : ChangeSpec := { name := "fnExactRemainderOf", fn := fun _ => fun
  | [d1, d2] => { results := [.lit (.bool true)], args := [d1, d2] }
  | _ => none }
def fnExactRemainderOfRow : OpenClaim := { program := "ytbfpneonmefndaa", sum := "06000bddd2bf17f178645df79adc5756694d44db5b0d10ff818af392574d604d", func := "loop.example/g01343/laws.FnExactRemainderOf", spec := "fnExactRemainderOf", plainKeys := false, apart := false }
def FnExactRemainderOfSaid : Prop := fnExactRemainderOfRow.holds Try.pinned (OpenSpec.ofChange fnExactRemainderOfSpec)

/-- ITS FALSE NEIGHBOUR: 'it returns false'. Refute it at one input. -/
def fnExactRemainderOfWrong : ChangeSpec := { name := "fnExactRemainderOf", fn := fun _ => fun
  | [d1, d2] => { results := [.lit (.bool false)], args := [d1, d2] }
  | _ => none }
def FnExactRemainderOfWrongFalsely : Prop := fnExactRemainderOfRow.holds Try.pinned (OpenSpec.ofChange fnExactRemainderOfWrong)

/-- 'laws.FnExactIsSolution': WHATEVER THE INPUT: true; the input reads as it did. -/
def fnExactIsSolutionSpec : ChangeSpec := { name := "fnExactIsSolution", fn := fun _ => fun
  | [d1, d2] => { results := [.lit (.bool true)], args := [d1, d2] }
  | _ => none }
def fnExactIsSolutionRow : OpenClaim := { program := "ytbfpneonmefndaa", sum := "06000bddd2bf17f178645df79adc5756694d44db5b0d10ff818af392574d604d", func := "loop.example/g01343/laws.FnExactIsSolution", spec := "fnExactIsSolution", plainKeys := false, apart := false }
def FnExactIsSolutionSaid : Prop := fnExactIsSolutionRow.holds Try.pinned (OpenSpec.ofChange fnExactIsSolutionSpec)

/-- ITS FALSE NEIGHBOUR: 'it returns false'. Refute it at one input. -/
def fnExactIsSolutionWrong : ChangeSpec := { name := "fnExactIsSolution", fn := fun _ => fun
  | [d1, d2] => { results := [.lit (.bool false)], args := [d1, d2] }
  | _ => none }
def FnExactIsSolutionWrongFalsely : Prop := fnExactIsSolutionRow.holds Try.pinned (OpenSpec.ofChange fnExactIsSolutionWrong)

/-- 'laws.FnExactIsProgram': WHATEVER THE INPUT: true; the input reads as it did. -/
def fnExactIsProgramSpec : ChangeSpec := { name := "fnExactIsProgram", fn := fun _ => fun
  | [d] => { results := [.lit (.bool true)], args := [d] }
  | _ => none }
def fnExactIsProgramRow : OpenClaim := { program := "ytbfpneonmefndaa", sum := "06000bddd2bf17f178645df79adc5756694d44db5b0d10ff818af392574d604d", func := "loop.example/g01343/laws.FnExactIsProgram", spec := "fnExactIsProgram", plainKeys := false, apart := false }
def FnExactIsProgramSaid : Prop := fnExactIsProgramRow.holds Try.pinned (OpenSpec.ofChange fnExactIsProgramSpec)

/-- ITS FALSE NEIGHBOUR: 'it returns false'. Refute it at one input. -/
def fnExactIsProgramWrong : ChangeSpec := { name := "fnExactIsProgram", fn := fun _ => fun
  | [d] => { results := [.lit (.bool false)], args := [d] }
  | _ => none }
def FnExactIsProgramWrongFalsely : Prop := fnExactIsProgramRow.holds Try.pinned (OpenSpec.ofChange fnExactIsProgramWrong)

/-- 'laws.FnExactSlopesAt': WHATEVER THE INPUT: true; the input reads as it did. -/
def fnExactSlopesAtSpec : ChangeSpec := { name := "fnExactSlopesAt", fn := fun _ => fun
  | [d1, d2] => { results := [.lit (.bool true)], args := [d1, d2] }
  | _ => none }
def fnExactSlopesAtRow : OpenClaim := { program := "ytbfpneonmefndaa", sum := "06000bddd2bf17f178645df79adc5756694d44db5b0d10ff818af392574d604d", func := "loop.example/g01343/laws.FnExactSlopesAt", spec := "fnExactSlopesAt", unfollowed := true, recurses := true, plainKeys := false, apart := false }
def FnExactSlopesAtSaid : Prop := fnExactSlopesAtRow.holds Try.pinned (OpenSpec.ofChange fnExactSlopesAtSpec)

/-- ITS FALSE NEIGHBOUR: 'it returns false'. Refute it at one input. -/
def fnExactSlopesAtWrong : ChangeSpec := { name := "fnExactSlopesAt", fn := fun _ => fun
  | [d1, d2] => { results := [.lit (.bool false)], args := [d1, d2] }
  | _ => none }
def FnExactSlopesAtWrongFalsely : Prop := fnExactSlopesAtRow.holds Try.pinned (OpenSpec.ofChange fnExactSlopesAtWrong)

/-- 'laws.FnExactValueAt': WHATEVER THE INPUT: true; the input reads as it did. -/
def fnExactValueAtSpec : ChangeSpec := { name := "fnExactValueAt", fn := fun _ => fun
  | [d1, d2] => { results := [.lit (.bool true)], args := [d1, d2] }
  | _ => none }
def fnExactValueAtRow : OpenClaim := { program := "ytbfpneonmefndaa", sum := "06000bddd2bf17f178645df79adc5756694d44db5b0d10ff818af392574d604d", func := "loop.example/g01343/laws.FnExactValueAt", spec := "fnExactValueAt", unfollowed := true, recurses := true, plainKeys := false, apart := false }
def FnExactValueAtSaid : Prop := fnExactValueAtRow.holds Try.pinned (OpenSpec.ofChange fnExactValueAtSpec)

/-- ITS FALSE NEIGHBOUR: 'it returns false'. Refute it at one input. -/
def fnExactValueAtWrong : ChangeSpec := { name := "fnExactValueAt", fn := fun _ => fun
  | [d1, d2] => { results := [.lit (.bool false)], args := [d1, d2] }
  | _ => none }
def FnExactValueAtWrongFalsely : Prop := fnExactValueAtRow.holds Try.pinned (OpenSpec.ofChange fnExactValueAtWrong)

/-- 'laws.FnExactFormAt': WHATEVER THE INPUT: true; the input reads as it did. -/
def fnExactFormAtSpec : ChangeSpec := { name := "fnExactFormAt", fn := fun _ => fun
  | [d1, d2] => { results := [.lit (.bool true)], args := [d1, d2] }
  | _ => none }
def fnExactFormAtRow : OpenClaim := { program := "ytbfpneonmefndaa", sum := "06000bddd2bf17f178645df79adc5756694d44db5b0d10ff818af392574d604d", func := "loop.example/g01343/laws.FnExactFormAt", spec := "fnExactFormAt", plainKeys := false, apart := false }
def FnExactFormAtSaid : Prop := fnExactFormAtRow.holds Try.pinned (OpenSpec.ofChange fnExactFormAtSpec)

/-- ITS FALSE NEIGHBOUR: 'it returns false'. Refute it at one input. -/
def fnExactFormAtWrong : ChangeSpec := { name := "fnExactFormAt", fn := fun _ => fun
  | [d1, d2] => { results := [.lit (.bool false)], args := [d1, d2] }
  | _ => none }
def FnExactFormAtWrongFalsely : Prop := fnExactFormAtRow.holds Try.pinned (OpenSpec.ofChange fnExactFormAtWrong)

/-- 'laws.FnExactLeastAlong': WHATEVER THE INPUT: true; the input reads as it did. -/
def fnExactLeastAlongSpec : ChangeSpec := { name := "fnExactLeastAlong", fn := fun _ => fun
  | [d1, d2, d3] => { results := [.lit (.bool true)], args := [d1, d2, d3] }
  | _ => none }
def fnExactLeastAlongRow : OpenClaim := { program := "ytbfpneonmefndaa", sum := "06000bddd2bf17f178645df79adc5756694d44db5b0d10ff818af392574d604d", func := "loop.example/g01343/laws.FnExactLeastAlong", spec := "fnExactLeastAlong", unfollowed := true, recurses := true, plainKeys := false, apart := false }
def FnExactLeastAlongSaid : Prop := fnExactLeastAlongRow.holds Try.pinned (OpenSpec.ofChange fnExactLeastAlongSpec)

/-- ITS FALSE NEIGHBOUR: 'it returns false'. Refute it at one input. -/
def fnExactLeastAlongWrong : ChangeSpec := { name := "fnExactLeastAlong", fn := fun _ => fun
  | [d1, d2, d3] => { results := [.lit (.bool false)], args := [d1, d2, d3] }
  | _ => none }
def FnExactLeastAlongWrongFalsely : Prop := fnExactLeastAlongRow.holds Try.pinned (OpenSpec.ofChange fnExactLeastAlongWrong)

/-- 'laws.FnExactScaleProgram': WHATEVER THE INPUT: true; the input reads as it did. -/
def fnExactScaleProgramSpec : ChangeSpec := { name := "fnExactScaleProgram", fn := fun _ => fun
  | [d1, d2] => { results := [.lit (.bool true)], args := [d1, d2] }
  | _ => none }
def fnExactScaleProgramRow : OpenClaim := { program := "ytbfpneonmefndaa", sum := "06000bddd2bf17f178645df79adc5756694d44db5b0d10ff818af392574d604d", func := "loop.example/g01343/laws.FnExactScaleProgram", spec := "fnExactScaleProgram", plainKeys := false, apart := false }
def FnExactScaleProgramSaid : Prop := fnExactScaleProgramRow.holds Try.pinned (OpenSpec.ofChange fnExactScaleProgramSpec)

/-- ITS FALSE NEIGHBOUR: 'it returns false'. Refute it at one input. -/
def fnExactScaleProgramWrong : ChangeSpec := { name := "fnExactScaleProgram", fn := fun _ => fun
  | [d1, d2] => { results := [.lit (.bool false)], args := [d1, d2] }
  | _ => none }
def FnExactScaleProgramWrongFalsely : Prop := fnExactScaleProgramRow.holds Try.pinned (OpenSpec.ofChange fnExactScaleProgramWrong)

/-- 'laws.FnExactAddPrograms': WHATEVER THE INPUT: true; the input reads as it did. -/
def fnExactAddProgramsSpec : ChangeSpec := { name := "fnExactAddPrograms", fn := fun _ => fun
  | [d1, d2] => { results := [.lit (.bool true)], args := [d1, d2] }
  | _ => none }
def fnExactAddProgramsRow : OpenClaim := { program := "ytbfpneonmefndaa", sum := "06000bddd2bf17f178645df79adc5756694d44db5b0d10ff818af392574d604d", func := "loop.example/g01343/laws.FnExactAddPrograms", spec := "fnExactAddPrograms", unfollowed := true, recurses := true, plainKeys := false, apart := false }
def FnExactAddProgramsSaid : Prop := fnExactAddProgramsRow.holds Try.pinned (OpenSpec.ofChange fnExactAddProgramsSpec)

/-- ITS FALSE NEIGHBOUR: 'it returns false'. Refute it at one input. -/
def fnExactAddProgramsWrong : ChangeSpec := { name := "fnExactAddPrograms", fn := fun _ => fun
  | [d1, d2] => { results := [.lit (.bool false)], args := [d1, d2] }
  | _ => none }
def FnExactAddProgramsWrongFalsely : Prop := fnExactAddProgramsRow.holds Try.pinned (OpenSpec.ofChange fnExactAddProgramsWrong)

/-- 'laws.FnExactDualProgram': WHATEVER THE INPUT: true; the input reads as it did. -/
def fnExactDualProgramSpec : ChangeSpec := { name := "fnExactDualProgram", fn := fun _ => fun
  | [d] => { results := [.lit (.bool true)], args := [d] }
  | _ => none }
def fnExactDualProgramRow : OpenClaim := { program := "ytbfpneonmefndaa", sum := "06000bddd2bf17f178645df79adc5756694d44db5b0d10ff818af392574d604d", func := "loop.example/g01343/laws.FnExactDualProgram", spec := "fnExactDualProgram", unfollowed := true, recurses := true, plainKeys := false, apart := false }
def FnExactDualProgramSaid : Prop := fnExactDualProgramRow.holds Try.pinned (OpenSpec.ofChange fnExactDualProgramSpec)

/-- ITS FALSE NEIGHBOUR: 'it returns false'. Refute it at one input. -/
def fnExactDualProgramWrong : ChangeSpec := { name := "fnExactDualProgram", fn := fun _ => fun
  | [d] => { results := [.lit (.bool false)], args := [d] }
  | _ => none }
def FnExactDualProgramWrongFalsely : Prop := fnExactDualProgramRow.holds Try.pinned (OpenSpec.ofChange fnExactDualProgramWrong)

/- THE SECOND FORM. 'bulk': how many values and letters a reading holds, each counted each time it is reached (what is shared counts as often as it is met; a slice's spare places count too). A statement '..UptoSaid' is the law's where the arguments, and the package variables that the reading takes, are together of bulk at most 1048576: NARROWER than '..Said'. Prove '..Said' where nothing that the law and all that it calls make is longer than what came in: it says more and counts as full. Else prove '..UptoSaid'. A law counts once. -/
mutual
def uptoBulk {H : Type} : DataW H → Nat
  | .lit (.string bytes) => bytes.length + 1
  | .lit _ => 1
  | .nil => 1
  | .ptr d => uptoBulk d + 1
  | .slice elems spare => uptoBulkAll elems + uptoBulkAll spare + 1
  | .agg parts => uptoBulkAll parts + 1
  | .iface _ d => uptoBulk d + 1
  | .map entries => uptoBulkEntries entries + 1
  | .held _ => 1
def uptoBulkAll {H : Type} : List (DataW H) → Nat
  | [] => 0
  | d :: r => uptoBulk d + uptoBulkAll r
def uptoBulkEntries {H : Type} : List (Lit × DataW H) → Nat
  | [] => 0
  | x :: r => uptoBulkEntry x + uptoBulkEntries r
def uptoBulkEntry {H : Type} : Lit × DataW H → Nat
  | (.string bytes, d) => bytes.length + uptoBulk d + 1
  | (_, d) => uptoBulk d + 1
 end
def uptoSmall : (H : Type) → List (DataW H) → Bool := fun _ ds => decide (uptoBulkAll ds ≤ 1048576)
def OpenSpec.upto (s : _root_.Go.ChangeSpec) : _root_.Go.OpenSpec := { _root_.Go.OpenSpec.ofChange s with cond := some uptoSmall }

/-- 'laws.FnExactScaleRow', WHERE WHAT IT READS IS OF BULK AT MOST 1048576: true; the input reads as it did. -/
def fnExactScaleRowUptoRow : OpenClaim := { program := "ytbfpneonmefndaa", sum := "06000bddd2bf17f178645df79adc5756694d44db5b0d10ff818af392574d604d", func := "loop.example/g01343/laws.FnExactScaleRow", spec := "fnExactScaleRow", plainKeys := false, apart := false, narrowed := true }
def FnExactScaleRowUptoSaid : Prop := fnExactScaleRowUptoRow.holds Try.pinned (OpenSpec.upto fnExactScaleRowSpec)

/-- 'laws.FnExactColumnsOf', WHERE WHAT IT READS IS OF BULK AT MOST 1048576: true; the input reads as it did. -/
def fnExactColumnsOfUptoRow : OpenClaim := { program := "ytbfpneonmefndaa", sum := "06000bddd2bf17f178645df79adc5756694d44db5b0d10ff818af392574d604d", func := "loop.example/g01343/laws.FnExactColumnsOf", spec := "fnExactColumnsOf", unfollowed := true, recurses := true, plainKeys := false, apart := false, narrowed := true }
def FnExactColumnsOfUptoSaid : Prop := fnExactColumnsOfUptoRow.holds Try.pinned (OpenSpec.upto fnExactColumnsOfSpec)

/-- 'laws.FnExactRemainderOf', WHERE WHAT IT READS IS OF BULK AT MOST 1048576: true; the input reads as it did. -/
def fnExactRemainderOfUptoRow : OpenClaim := { program := "ytbfpneonmefndaa", sum := "06000bddd2bf17f178645df79adc5756694d44db5b0d10ff818af392574d604d", func := "loop.example/g01343/laws.FnExactRemainderOf", spec := "fnExactRemainderOf", plainKeys := false, apart := false, narrowed := true }
def FnExactRemainderOfUptoSaid : Prop := fnExactRemainderOfUptoRow.holds Try.pinned (OpenSpec.upto fnExactRemainderOfSpec)

/-- 'laws.FnExactIsSolution', WHERE WHAT IT READS IS OF BULK AT MOST 1048576: true; the input reads as it did. -/
def fnExactIsSolutionUptoRow : OpenClaim := { program := "ytbfpneonmefndaa", sum := "06000bddd2bf17f178645df79adc5756694d44db5b0d10ff818af392574d604d", func := "loop.example/g01343/laws.FnExactIsSolution", spec := "fnExactIsSolution", plainKeys := false, apart := false, narrowed := true }
def FnExactIsSolutionUptoSaid : Prop := fnExactIsSolutionUptoRow.holds Try.pinned (OpenSpec.upto fnExactIsSolutionSpec)

/-- 'laws.FnExactIsProgram', WHERE WHAT IT READS IS OF BULK AT MOST 1048576: true; the input reads as it did. -/
def fnExactIsProgramUptoRow : OpenClaim := { program := "ytbfpneonmefndaa", sum := "06000bddd2bf17f178645df79adc5756694d44db5b0d10ff818af392574d604d", func := "loop.example/g01343/laws.FnExactIsProgram", spec := "fnExactIsProgram", plainKeys := false, apart := false, narrowed := true }
def FnExactIsProgramUptoSaid : Prop := fnExactIsProgramUptoRow.holds Try.pinned (OpenSpec.upto fnExactIsProgramSpec)

/-- 'laws.FnExactSlopesAt', WHERE WHAT IT READS IS OF BULK AT MOST 1048576: true; the input reads as it did. -/
def fnExactSlopesAtUptoRow : OpenClaim := { program := "ytbfpneonmefndaa", sum := "06000bddd2bf17f178645df79adc5756694d44db5b0d10ff818af392574d604d", func := "loop.example/g01343/laws.FnExactSlopesAt", spec := "fnExactSlopesAt", unfollowed := true, recurses := true, plainKeys := false, apart := false, narrowed := true }
def FnExactSlopesAtUptoSaid : Prop := fnExactSlopesAtUptoRow.holds Try.pinned (OpenSpec.upto fnExactSlopesAtSpec)

/-- 'laws.FnExactValueAt', WHERE WHAT IT READS IS OF BULK AT MOST 1048576: true; the input reads as it did. -/
def fnExactValueAtUptoRow : OpenClaim := { program := "ytbfpneonmefndaa", sum := "06000bddd2bf17f178645df79adc5756694d44db5b0d10ff818af392574d604d", func := "loop.example/g01343/laws.FnExactValueAt", spec := "fnExactValueAt", unfollowed := true, recurses := true, plainKeys := false, apart := false, narrowed := true }
def FnExactValueAtUptoSaid : Prop := fnExactValueAtUptoRow.holds Try.pinned (OpenSpec.upto fnExactValueAtSpec)

/-- 'laws.FnExactFormAt', WHERE WHAT IT READS IS OF BULK AT MOST 1048576: true; the input reads as it did. -/
def fnExactFormAtUptoRow : OpenClaim := { program := "ytbfpneonmefndaa", sum := "06000bddd2bf17f178645df79adc5756694d44db5b0d10ff818af392574d604d", func := "loop.example/g01343/laws.FnExactFormAt", spec := "fnExactFormAt", plainKeys := false, apart := false, narrowed := true }
def FnExactFormAtUptoSaid : Prop := fnExactFormAtUptoRow.holds Try.pinned (OpenSpec.upto fnExactFormAtSpec)

/-- 'laws.FnExactLeastAlong', WHERE WHAT IT READS IS OF BULK AT MOST 1048576: true; the input reads as it did. -/
def fnExactLeastAlongUptoRow : OpenClaim := { program := "ytbfpneonmefndaa", sum := "06000bddd2bf17f178645df79adc5756694d44db5b0d10ff818af392574d604d", func := "loop.example/g01343/laws.FnExactLeastAlong", spec := "fnExactLeastAlong", unfollowed := true, recurses := true, plainKeys := false, apart := false, narrowed := true }
def FnExactLeastAlongUptoSaid : Prop := fnExactLeastAlongUptoRow.holds Try.pinned (OpenSpec.upto fnExactLeastAlongSpec)

/-- 'laws.FnExactScaleProgram', WHERE WHAT IT READS IS OF BULK AT MOST 1048576: true; the input reads as it did. -/
def fnExactScaleProgramUptoRow : OpenClaim := { program := "ytbfpneonmefndaa", sum := "06000bddd2bf17f178645df79adc5756694d44db5b0d10ff818af392574d604d", func := "loop.example/g01343/laws.FnExactScaleProgram", spec := "fnExactScaleProgram", plainKeys := false, apart := false, narrowed := true }
def FnExactScaleProgramUptoSaid : Prop := fnExactScaleProgramUptoRow.holds Try.pinned (OpenSpec.upto fnExactScaleProgramSpec)

/-- 'laws.FnExactAddPrograms', WHERE WHAT IT READS IS OF BULK AT MOST 1048576: true; the input reads as it did. -/
def fnExactAddProgramsUptoRow : OpenClaim := { program := "ytbfpneonmefndaa", sum := "06000bddd2bf17f178645df79adc5756694d44db5b0d10ff818af392574d604d", func := "loop.example/g01343/laws.FnExactAddPrograms", spec := "fnExactAddPrograms", unfollowed := true, recurses := true, plainKeys := false, apart := false, narrowed := true }
def FnExactAddProgramsUptoSaid : Prop := fnExactAddProgramsUptoRow.holds Try.pinned (OpenSpec.upto fnExactAddProgramsSpec)

/-- 'laws.FnExactDualProgram', WHERE WHAT IT READS IS OF BULK AT MOST 1048576: true; the input reads as it did. -/
def fnExactDualProgramUptoRow : OpenClaim := { program := "ytbfpneonmefndaa", sum := "06000bddd2bf17f178645df79adc5756694d44db5b0d10ff818af392574d604d", func := "loop.example/g01343/laws.FnExactDualProgram", spec := "fnExactDualProgram", unfollowed := true, recurses := true, plainKeys := false, apart := false, narrowed := true }
def FnExactDualProgramUptoSaid : Prop := fnExactDualProgramUptoRow.holds Try.pinned (OpenSpec.upto fnExactDualProgramSpec)

end Rows
end Go.Proofs.Ytbfpneonmefndaa
