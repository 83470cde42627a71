/-
  No cell of these rows narrows 'for every input' (looked for: loops, veiled, ifaces, maps, wideKeys, modest, calm, conditions, laid).
  DERIVED. THE GIVEN ROWS OF THIS SEAT. 12 by the template 'for every input the law returns true; each argument reads behind the call as it read before'; 0 by the template 'total and deterministic' (their statements: YtgncaploccbfnaaTotals.lean).
  GIVEN WITH THE SEED: the statements are not yours to turn. If you find one false, say at which input.
  Laid BY PROGRAM, IN A SANDBOX (cutbox-rows.mjs): the forced cells as the released guide's own fill.sh prints them over the translation 3b995b7952a14dbc… (all of the seat's roots in one cut). By AI agents, Wed Nov 11 2026. No macro, syntax, notation, axiom, sorry.
-/
import Derived.Test.YtgncaploccbfnaaChecked
import GoSem.Claim
import GoSem.ClaimJoined
import GoSem.ClaimMapViews
import Derived.JoinedTies
import Derived.KernelRfl
namespace Go.Proofs.Ytgncaploccbfnaa
/- THE CELL 'sum', in the pinned program and in every row, IS THE sha256 OF THE DUMP (.gsa) THAT YtgncaploccbfnaaProg.lean LOADS. Nothing in Lean hashes anything: it is a label: what it is worth is what the hold of that sum in a sandbox is worth. -/
noncomputable def Try.pinned : Pinned := { name := "ytgncaploccbfnaa", sum := "3b995b7952a14dbc36233696ff8072106ad9614db230e00aafc7bc186d427dd8", checked := Try.checked }
namespace Rows
def none {H : Type} : Left H := { results := [], args := [] }

/-- 'laws.FnExactScaleRow': WHATEVER THE INPUT: true; the input reads as it did. -/
def fnExactScaleRowSpec : ChangeSpec := { name := "fnExactScaleRow", fn := fun _ => fun
  | [d1, d2, d3] => { results := [.lit (.bool true)], args := [d1, d2, d3] }
  | _ => none }
def fnExactScaleRowRow : OpenClaim := { program := "ytgncaploccbfnaa", sum := "3b995b7952a14dbc36233696ff8072106ad9614db230e00aafc7bc186d427dd8", func := "loop.example/g01343/laws.FnExactScaleRow", spec := "fnExactScaleRow", plainKeys := false, apart := false }
def FnExactScaleRowSaid : Prop := fnExactScaleRowRow.holds Try.pinned (OpenSpec.ofChange fnExactScaleRowSpec)

/-- ITS FALSE NEIGHBOUR: 'it returns false'. Refute it at one input. -/
def fnExactScaleRowWrong : ChangeSpec := { name := "fnExactScaleRow", fn := fun _ => fun
  | [d1, d2, d3] => { results := [.lit (.bool false)], args := [d1, d2, d3] }
  | _ => none }
def FnExactScaleRowWrongFalsely : Prop := fnExactScaleRowRow.holds Try.pinned (OpenSpec.ofChange fnExactScaleRowWrong)

/-- 'laws.FnExactColumnsOf': WHATEVER THE INPUT: true; the input reads as it did. -/
def fnExactColumnsOfSpec : ChangeSpec := { name := "fnExactColumnsOf", fn := fun _ => fun
  | [d1, d2] => { results := [.lit (.bool true)], args := [d1, d2] }
  | _ => none }
def fnExactColumnsOfRow : OpenClaim := { program := "ytgncaploccbfnaa", sum := "3b995b7952a14dbc36233696ff8072106ad9614db230e00aafc7bc186d427dd8", func := "loop.example/g01343/laws.FnExactColumnsOf", spec := "fnExactColumnsOf", unfollowed := true, recurses := true, plainKeys := false, apart := false }
def FnExactColumnsOfSaid : Prop := fnExactColumnsOfRow.holds Try.pinned (OpenSpec.ofChange fnExactColumnsOfSpec)

/-- ITS FALSE NEIGHBOUR: 'it returns false'. Refute it at one input. -/
def fnExactColumnsOfWrong : ChangeSpec := { name := "fnExactColumnsOf", fn := fun _ => fun
  | [d1, d2] => { results := [.lit (.bool false)], args := [d1, d2] }
  | _ => none }
def FnExactColumnsOfWrongFalsely : Prop := fnExactColumnsOfRow.holds Try.pinned (OpenSpec.ofChange fnExactColumnsOfWrong)

/-- 'laws.FnExactRemainderOf': WHATEVER THE INPUT: true; the input reads as it did. -/
def fnExactRemainderOfSpec : ChangeSpec := { name := "fnExactRemainderOf", fn := fun _ => fun
  | [d1, d2] => { results := [.lit (.bool true)], args := [d1, d2] }
  | _ => none }
def fnExactRemainderOfRow : OpenClaim := { program := "ytgncaploccbfnaa", sum := "3b995b7952a14dbc36233696ff8072106ad9614db230e00aafc7bc186d427dd8", func := "loop.example/g01343/laws.FnExactRemainderOf", spec := "fnExactRemainderOf", plainKeys := false, apart := false }
def FnExactRemainderOfSaid : Prop := fnExactRemainderOfRow.holds Try.pinned (OpenSpec.ofChange fnExactRemainderOfSpec)

/-- ITS FALSE NEIGHBOUR: 'it returns false'. Refute it at one input. -/
def fnExactRemainderOfWrong : ChangeSpec := { name := "fnExactRemainderOf", fn := fun _ => fun
  | [d1, d2] => { results := [.lit (.bool false)], args := [d1, d2] }
  | _ => none }
def FnExactRemainderOfWrongFalsely : Prop := fnExactRemainderOfRow.holds Try.pinned (OpenSpec.ofChange fnExactRemainderOfWrong)

/-- 'laws.FnExactIsSolution': WHATEVER THE INPUT: true; the input reads as it did. -/
def fnExactIsSolutionSpec : ChangeSpec := { name := "fnExactIsSolution", fn := fun _ => fun
  | [d1, d2] => { results := [.lit (.bool true)], args := [d1, d2] }
  | _ => none }
def fnExactIsSolutionRow : OpenClaim := { program := "ytgncaploccbfnaa", sum := "3b995b7952a14dbc36233696ff8072106ad9614db230e00aafc7bc186d427dd8", func := "loop.example/g01343/laws.FnExactIsSolution", spec := "fnExactIsSolution", plainKeys := false, apart := false }
def FnExactIsSolutionSaid : Prop := fnExactIsSolutionRow.holds Try.pinned (OpenSpec.ofChange fnExactIsSolutionSpec)

/-- ITS FALSE NEIGHBOUR: 'it returns false'. Refute it at one input. -/
def fnExactIsSolutionWrong : ChangeSpec := { name := "fnExactIsSolution", fn := fun _ => fun
  | [d1, d2] => { results := [.lit (.bool false)], args := [d1, d2] }
  | _ => none }
def FnExactIsSolutionWrongFalsely : Prop := fnExactIsSolutionRow.holds Try.pinned (OpenSpec.ofChange fnExactIsSolutionWrong)

/-- 'laws.FnExactIsProgram': WHATEVER THE INPUT: true; the input reads as it did. -/
def fnExactIsProgramSpec : ChangeSpec := { name := "fnExactIsProgram", fn := fun _ => fun
  | [d] => { results := [.lit (.bool true)], args := [d] }
  | _ => none }
def fnExactIsProgramRow : OpenClaim := { program := "ytgncaploccbfnaa", sum := "3b995b7952a14dbc36233696ff8072106ad9614db230e00aafc7bc186d427dd8", func := "loop.example/g01343/laws.FnExactIsProgram", spec := "fnExactIsProgram", plainKeys := false, apart := false }
def FnExactIsProgramSaid : Prop := fnExactIsProgramRow.holds Try.pinned (OpenSpec.ofChange fnExactIsProgramSpec)

/-- ITS FALSE NEIGHBOUR: 'it returns false'. Refute it at one input. -/
def fnExactIsProgramWrong : ChangeSpec := { name := "fnExactIsProgram", fn := fun _ => fun
  | [d] => { results := [.lit (.bool false)], args := [d] }
  | _ => none }
def FnExactIsProgramWrongFalsely : Prop := fnExactIsProgramRow.holds Try.pinned (OpenSpec.ofChange fnExactIsProgramWrong)

/-- 'laws.FnExactProgramProblem': WHATEVER THE INPUT: true; the input reads as it did. -/
def fnExactProgramProblemSpec : ChangeSpec := { name := "fnExactProgramProblem", fn := fun _ => fun
  | [d] => { results := [.lit (.bool true)], args := [d] }
  | _ => none }
def fnExactProgramProblemRow : OpenClaim := { program := "ytgncaploccbfnaa", sum := "3b995b7952a14dbc36233696ff8072106ad9614db230e00aafc7bc186d427dd8", func := "loop.example/g01343/laws.FnExactProgramProblem", spec := "fnExactProgramProblem", unfollowed := true, recurses := true, plainKeys := false, apart := false }
def FnExactProgramProblemSaid : Prop := fnExactProgramProblemRow.holds Try.pinned (OpenSpec.ofChange fnExactProgramProblemSpec)

/-- ITS FALSE NEIGHBOUR: 'it returns false'. Refute it at one input. -/
def fnExactProgramProblemWrong : ChangeSpec := { name := "fnExactProgramProblem", fn := fun _ => fun
  | [d] => { results := [.lit (.bool false)], args := [d] }
  | _ => none }
def FnExactProgramProblemWrongFalsely : Prop := fnExactProgramProblemRow.holds Try.pinned (OpenSpec.ofChange fnExactProgramProblemWrong)

/-- 'laws.FnExactIsStationary': WHATEVER THE INPUT: true; the input reads as it did. -/
def fnExactIsStationarySpec : ChangeSpec := { name := "fnExactIsStationary", fn := fun _ => fun
  | [d1, d2, d3] => { results := [.lit (.bool true)], args := [d1, d2, d3] }
  | _ => none }
def fnExactIsStationaryRow : OpenClaim := { program := "ytgncaploccbfnaa", sum := "3b995b7952a14dbc36233696ff8072106ad9614db230e00aafc7bc186d427dd8", func := "loop.example/g01343/laws.FnExactIsStationary", spec := "fnExactIsStationary", unfollowed := true, recurses := true, plainKeys := false, apart := false }
def FnExactIsStationarySaid : Prop := fnExactIsStationaryRow.holds Try.pinned (OpenSpec.ofChange fnExactIsStationarySpec)

/-- ITS FALSE NEIGHBOUR: 'it returns false'. Refute it at one input. -/
def fnExactIsStationaryWrong : ChangeSpec := { name := "fnExactIsStationary", fn := fun _ => fun
  | [d1, d2, d3] => { results := [.lit (.bool false)], args := [d1, d2, d3] }
  | _ => none }
def FnExactIsStationaryWrongFalsely : Prop := fnExactIsStationaryRow.holds Try.pinned (OpenSpec.ofChange fnExactIsStationaryWrong)

/-- 'laws.FnExactAddPrograms': WHATEVER THE INPUT: true; the input reads as it did. -/
def fnExactAddProgramsSpec : ChangeSpec := { name := "fnExactAddPrograms", fn := fun _ => fun
  | [d1, d2] => { results := [.lit (.bool true)], args := [d1, d2] }
  | _ => none }
def fnExactAddProgramsRow : OpenClaim := { program := "ytgncaploccbfnaa", sum := "3b995b7952a14dbc36233696ff8072106ad9614db230e00aafc7bc186d427dd8", func := "loop.example/g01343/laws.FnExactAddPrograms", spec := "fnExactAddPrograms", unfollowed := true, recurses := true, plainKeys := false, apart := false }
def FnExactAddProgramsSaid : Prop := fnExactAddProgramsRow.holds Try.pinned (OpenSpec.ofChange fnExactAddProgramsSpec)

/-- ITS FALSE NEIGHBOUR: 'it returns false'. Refute it at one input. -/
def fnExactAddProgramsWrong : ChangeSpec := { name := "fnExactAddPrograms", fn := fun _ => fun
  | [d1, d2] => { results := [.lit (.bool false)], args := [d1, d2] }
  | _ => none }
def FnExactAddProgramsWrongFalsely : Prop := fnExactAddProgramsRow.holds Try.pinned (OpenSpec.ofChange fnExactAddProgramsWrong)

/-- 'laws.FnExactDualProgram': WHATEVER THE INPUT: true; the input reads as it did. -/
def fnExactDualProgramSpec : ChangeSpec := { name := "fnExactDualProgram", fn := fun _ => fun
  | [d] => { results := [.lit (.bool true)], args := [d] }
  | _ => none }
def fnExactDualProgramRow : OpenClaim := { program := "ytgncaploccbfnaa", sum := "3b995b7952a14dbc36233696ff8072106ad9614db230e00aafc7bc186d427dd8", func := "loop.example/g01343/laws.FnExactDualProgram", spec := "fnExactDualProgram", unfollowed := true, recurses := true, plainKeys := false, apart := false }
def FnExactDualProgramSaid : Prop := fnExactDualProgramRow.holds Try.pinned (OpenSpec.ofChange fnExactDualProgramSpec)

/-- ITS FALSE NEIGHBOUR: 'it returns false'. Refute it at one input. -/
def fnExactDualProgramWrong : ChangeSpec := { name := "fnExactDualProgram", fn := fun _ => fun
  | [d] => { results := [.lit (.bool false)], args := [d] }
  | _ => none }
def FnExactDualProgramWrongFalsely : Prop := fnExactDualProgramRow.holds Try.pinned (OpenSpec.ofChange fnExactDualProgramWrong)

/-- 'laws.FnExactScaleProgram': WHATEVER THE INPUT: true; the input reads as it did. -/
def fnExactScaleProgramSpec : ChangeSpec := { name := "fnExactScaleProgram", fn := fun _ => fun
  | [d1, d2] => { results := [.lit (.bool true)], args := [d1, d2] }
  | _ => none }
def fnExactScaleProgramRow : OpenClaim := { program := "ytgncaploccbfnaa", sum := "3b995b7952a14dbc36233696ff8072106ad9614db230e00aafc7bc186d427dd8", func := "loop.example/g01343/laws.FnExactScaleProgram", spec := "fnExactScaleProgram", plainKeys := false, apart := false }
def FnExactScaleProgramSaid : Prop := fnExactScaleProgramRow.holds Try.pinned (OpenSpec.ofChange fnExactScaleProgramSpec)

/-- ITS FALSE NEIGHBOUR: 'it returns false'. Refute it at one input. -/
def fnExactScaleProgramWrong : ChangeSpec := { name := "fnExactScaleProgram", fn := fun _ => fun
  | [d1, d2] => { results := [.lit (.bool false)], args := [d1, d2] }
  | _ => none }
def FnExactScaleProgramWrongFalsely : Prop := fnExactScaleProgramRow.holds Try.pinned (OpenSpec.ofChange fnExactScaleProgramWrong)

/-- 'laws.FnExactNewDesk': WHATEVER THE INPUT: true; the input reads as it did. -/
def fnExactNewDeskSpec : ChangeSpec := { name := "fnExactNewDesk", fn := fun _ => fun
  | [] => { results := [.lit (.bool true)], args := [] }
  | _ => none }
def fnExactNewDeskRow : OpenClaim := { program := "ytgncaploccbfnaa", sum := "3b995b7952a14dbc36233696ff8072106ad9614db230e00aafc7bc186d427dd8", func := "loop.example/g01343/laws.FnExactNewDesk", spec := "fnExactNewDesk", plainKeys := false, apart := false }
def FnExactNewDeskSaid : Prop := fnExactNewDeskRow.holds Try.pinned (OpenSpec.ofChange fnExactNewDeskSpec)

/-- ITS FALSE NEIGHBOUR: 'it returns false'. Refute it at one input. -/
def fnExactNewDeskWrong : ChangeSpec := { name := "fnExactNewDesk", fn := fun _ => fun
  | [] => { results := [.lit (.bool false)], args := [] }
  | _ => none }
def FnExactNewDeskWrongFalsely : Prop := fnExactNewDeskRow.holds Try.pinned (OpenSpec.ofChange fnExactNewDeskWrong)

/-- 'laws.FnExactIsDesk': WHATEVER THE INPUT: true; the input reads as it did. -/
def fnExactIsDeskSpec : ChangeSpec := { name := "fnExactIsDesk", fn := fun _ => fun
  | [d] => { results := [.lit (.bool true)], args := [d] }
  | _ => none }
def fnExactIsDeskRow : OpenClaim := { program := "ytgncaploccbfnaa", sum := "3b995b7952a14dbc36233696ff8072106ad9614db230e00aafc7bc186d427dd8", func := "loop.example/g01343/laws.FnExactIsDesk", spec := "fnExactIsDesk", plainKeys := false, apart := false }
def FnExactIsDeskSaid : Prop := fnExactIsDeskRow.holds Try.pinned (OpenSpec.ofChange fnExactIsDeskSpec)

/-- ITS FALSE NEIGHBOUR: 'it returns false'. Refute it at one input. -/
def fnExactIsDeskWrong : ChangeSpec := { name := "fnExactIsDesk", fn := fun _ => fun
  | [d] => { results := [.lit (.bool false)], args := [d] }
  | _ => none }
def FnExactIsDeskWrongFalsely : Prop := fnExactIsDeskRow.holds Try.pinned (OpenSpec.ofChange fnExactIsDeskWrong)

/- THE SECOND FORM. 'bulk': how many values and letters a reading holds, each counted each time it is reached (what is shared counts as often as it is met; a slice's spare places count too). A statement '..UptoSaid' is the law's where the arguments, and the package variables that the reading takes, are together of bulk at most 1048576: NARROWER than '..Said'. Prove '..Said' where nothing that the law and all that it calls make is longer than what came in: it says more and counts as full. Else prove '..UptoSaid'. A law counts once. -/
mutual
def uptoBulk {H : Type} : DataW H → Nat
  | .lit (.string bytes) => bytes.length + 1
  | .lit _ => 1
  | .nil => 1
  | .ptr d => uptoBulk d + 1
  | .slice elems spare => uptoBulkAll elems + uptoBulkAll spare + 1
  | .agg parts => uptoBulkAll parts + 1
  | .iface _ d => uptoBulk d + 1
  | .map entries => uptoBulkEntries entries + 1
  | .held _ => 1
def uptoBulkAll {H : Type} : List (DataW H) → Nat
  | [] => 0
  | d :: r => uptoBulk d + uptoBulkAll r
def uptoBulkEntries {H : Type} : List (Lit × DataW H) → Nat
  | [] => 0
  | x :: r => uptoBulkEntry x + uptoBulkEntries r
def uptoBulkEntry {H : Type} : Lit × DataW H → Nat
  | (.string bytes, d) => bytes.length + uptoBulk d + 1
  | (_, d) => uptoBulk d + 1
 end
def uptoSmall : (H : Type) → List (DataW H) → Bool := fun _ ds => decide (uptoBulkAll ds ≤ 1048576)
def OpenSpec.upto (s : _root_.Go.ChangeSpec) : _root_.Go.OpenSpec := { _root_.Go.OpenSpec.ofChange s with cond := some uptoSmall }

/-- 'laws.FnExactScaleRow', WHERE WHAT IT READS IS OF BULK AT MOST 1048576: true; the input reads as it did. -/
def fnExactScaleRowUptoRow : OpenClaim := { program := "ytgncaploccbfnaa", sum := "3b995b7952a14dbc36233696ff8072106ad9614db230e00aafc7bc186d427dd8", func := "loop.example/g01343/laws.FnExactScaleRow", spec := "fnExactScaleRow", plainKeys := false, apart := false, narrowed := true }
def FnExactScaleRowUptoSaid : Prop := fnExactScaleRowUptoRow.holds Try.pinned (OpenSpec.upto fnExactScaleRowSpec)

/-- 'laws.FnExactColumnsOf', WHERE WHAT IT READS IS OF BULK AT MOST 1048576: true; the input reads as it did. -/
def fnExactColumnsOfUptoRow : OpenClaim := { program := "ytgncaploccbfnaa", sum := "3b995b7952a14dbc36233696ff8072106ad9614db230e00aafc7bc186d427dd8", func := "loop.example/g01343/laws.FnExactColumnsOf", spec := "fnExactColumnsOf", unfollowed := true, recurses := true, plainKeys := false, apart := false, narrowed := true }
def FnExactColumnsOfUptoSaid : Prop := fnExactColumnsOfUptoRow.holds Try.pinned (OpenSpec.upto fnExactColumnsOfSpec)

/-- 'laws.FnExactRemainderOf', WHERE WHAT IT READS IS OF BULK AT MOST 1048576: true; the input reads as it did. -/
def fnExactRemainderOfUptoRow : OpenClaim := { program := "ytgncaploccbfnaa", sum := "3b995b7952a14dbc36233696ff8072106ad9614db230e00aafc7bc186d427dd8", func := "loop.example/g01343/laws.FnExactRemainderOf", spec := "fnExactRemainderOf", plainKeys := false, apart := false, narrowed := true }
def FnExactRemainderOfUptoSaid : Prop := fnExactRemainderOfUptoRow.holds Try.pinned (OpenSpec.upto fnExactRemainderOfSpec)

/-- 'laws.FnExactIsSolution', WHERE WHAT IT READS IS OF BULK AT MOST 1048576: true; the input reads as it did. -/
def fnExactIsSolutionUptoRow : OpenClaim := { program := "ytgncaploccbfnaa", sum := "3b995b7952a14dbc36233696ff8072106ad9614db230e00aafc7bc186d427dd8", func := "loop.example/g01343/laws.FnExactIsSolution", spec := "fnExactIsSolution", plainKeys := false, apart := false, narrowed := true }
def FnExactIsSolutionUptoSaid : Prop := fnExactIsSolutionUptoRow.holds Try.pinned (OpenSpec.upto fnExactIsSolutionSpec)

/-- 'laws.FnExactIsProgram', WHERE WHAT IT READS IS OF BULK AT MOST 1048576: true; the input reads as it did. -/
def fnExactIsProgramUptoRow : OpenClaim := { program := "ytgncaploccbfnaa", sum := "3b995b7952a14dbc36233696ff8072106ad9614db230e00aafc7bc186d427dd8", func := "loop.example/g01343/laws.FnExactIsProgram", spec := "fnExactIsProgram", plainKeys := false, apart := false, narrowed := true }
def FnExactIsProgramUptoSaid : Prop := fnExactIsProgramUptoRow.holds Try.pinned (OpenSpec.upto fnExactIsProgramSpec)

/-- 'laws.FnExactProgramProblem', WHERE WHAT IT READS IS OF BULK AT MOST 1048576: true; the input reads as it did. -/
def fnExactProgramProblemUptoRow : OpenClaim := { program := "ytgncaploccbfnaa", sum := "3b995b7952a14dbc36233696ff8072106ad9614db230e00aafc7bc186d427dd8", func := "loop.example/g01343/laws.FnExactProgramProblem", spec := "fnExactProgramProblem", unfollowed := true, recurses := true, plainKeys := false, apart := false, narrowed := true }
def FnExactProgramProblemUptoSaid : Prop := fnExactProgramProblemUptoRow.holds Try.pinned (OpenSpec.upto fnExactProgramProblemSpec)

/-- 'laws.FnExactIsStationary', WHERE WHAT IT READS IS OF BULK AT MOST 1048576: true; the input reads as it did. -/
def fnExactIsStationaryUptoRow : OpenClaim := { program := "ytgncaploccbfnaa", sum := "3b995b7952a14dbc36233696ff8072106ad9614db230e00aafc7bc186d427dd8", func := "loop.example/g01343/laws.FnExactIsStationary", spec := "fnExactIsStationary", unfollowed := true, recurses := true, plainKeys := false, apart := false, narrowed := true }
def FnExactIsStationaryUptoSaid : Prop := fnExactIsStationaryUptoRow.holds Try.pinned (OpenSpec.upto fnExactIsStationarySpec)

/-- 'laws.FnExactAddPrograms', WHERE WHAT IT READS IS OF BULK AT MOST 1048576: true; the input reads as it did. -/
def fnExactAddProgramsUptoRow : OpenClaim := { program := "ytgncaploccbfnaa", sum := "3b995b7952a14dbc36233696ff8072106ad9614db230e00aafc7bc186d427dd8", func := "loop.example/g01343/laws.FnExactAddPrograms", spec := "fnExactAddPrograms", unfollowed := true, recurses := true, plainKeys := false, apart := false, narrowed := true }
def FnExactAddProgramsUptoSaid : Prop := fnExactAddProgramsUptoRow.holds Try.pinned (OpenSpec.upto fnExactAddProgramsSpec)

/-- 'laws.FnExactDualProgram', WHERE WHAT IT READS IS OF BULK AT MOST 1048576: true; the input reads as it did. -/
def fnExactDualProgramUptoRow : OpenClaim := { program := "ytgncaploccbfnaa", sum := "3b995b7952a14dbc36233696ff8072106ad9614db230e00aafc7bc186d427dd8", func := "loop.example/g01343/laws.FnExactDualProgram", spec := "fnExactDualProgram", unfollowed := true, recurses := true, plainKeys := false, apart := false, narrowed := true }
def FnExactDualProgramUptoSaid : Prop := fnExactDualProgramUptoRow.holds Try.pinned (OpenSpec.upto fnExactDualProgramSpec)

/-- 'laws.FnExactScaleProgram', WHERE WHAT IT READS IS OF BULK AT MOST 1048576: true; the input reads as it did. -/
def fnExactScaleProgramUptoRow : OpenClaim := { program := "ytgncaploccbfnaa", sum := "3b995b7952a14dbc36233696ff8072106ad9614db230e00aafc7bc186d427dd8", func := "loop.example/g01343/laws.FnExactScaleProgram", spec := "fnExactScaleProgram", plainKeys := false, apart := false, narrowed := true }
def FnExactScaleProgramUptoSaid : Prop := fnExactScaleProgramUptoRow.holds Try.pinned (OpenSpec.upto fnExactScaleProgramSpec)

/-- 'laws.FnExactNewDesk', WHERE WHAT IT READS IS OF BULK AT MOST 1048576: true; the input reads as it did. -/
def fnExactNewDeskUptoRow : OpenClaim := { program := "ytgncaploccbfnaa", sum := "3b995b7952a14dbc36233696ff8072106ad9614db230e00aafc7bc186d427dd8", func := "loop.example/g01343/laws.FnExactNewDesk", spec := "fnExactNewDesk", plainKeys := false, apart := false, narrowed := true }
def FnExactNewDeskUptoSaid : Prop := fnExactNewDeskUptoRow.holds Try.pinned (OpenSpec.upto fnExactNewDeskSpec)

/-- 'laws.FnExactIsDesk', WHERE WHAT IT READS IS OF BULK AT MOST 1048576: true; the input reads as it did. -/
def fnExactIsDeskUptoRow : OpenClaim := { program := "ytgncaploccbfnaa", sum := "3b995b7952a14dbc36233696ff8072106ad9614db230e00aafc7bc186d427dd8", func := "loop.example/g01343/laws.FnExactIsDesk", spec := "fnExactIsDesk", plainKeys := false, apart := false, narrowed := true }
def FnExactIsDeskUptoSaid : Prop := fnExactIsDeskUptoRow.holds Try.pinned (OpenSpec.upto fnExactIsDeskSpec)

end Rows
end Go.Proofs.Ytgncaploccbfnaa
