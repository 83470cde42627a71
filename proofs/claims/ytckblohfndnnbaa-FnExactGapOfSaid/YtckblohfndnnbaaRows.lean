/-
  No cell of these rows narrows 'for every input' (looked for: loops, veiled, ifaces, maps, wideKeys, modest, calm, conditions, laid).
  DERIVED. THE GIVEN ROWS OF THIS SEAT. 12 by the template 'for every input the law returns true; each argument reads behind the call as it read before'; 0 by the template 'total and deterministic' (their statements: YtckblohfndnnbaaTotals.lean).
  GIVEN WITH THE SEED: the statements are not yours to turn. If you find one false, say at which input.
  Laid BY PROGRAM, IN A SANDBOX (cutbox-rows.mjs): the forced cells as the released guide's own fill.sh prints them over the translation 4a6535c3a9725a5c… (all of the seat's roots in one cut). By AI agents, Wed Nov 11 2026. No macro, syntax, notation, axiom, sorry.
-/
import Derived.Test.YtckblohfndnnbaaChecked
import GoSem.Claim
import GoSem.ClaimJoined
import GoSem.ClaimMapViews
import Derived.JoinedTies
import Derived.KernelRfl
namespace Go.Proofs.Ytckblohfndnnbaa
/- THE CELL 'sum', in the pinned program and in every row, IS THE sha256 OF THE DUMP (.gsa) THAT YtckblohfndnnbaaProg.lean LOADS. Nothing in Lean hashes anything: it is a label: what it is worth is what the hold of that sum in a sandbox is worth. -/
noncomputable def Try.pinned : Pinned := { name := "ytckblohfndnnbaa", sum := "4a6535c3a9725a5c10a502aa31b32e12e3942050d79ec00035d8ed32a0c7f399", checked := Try.checked }
namespace Rows
def none {H : Type} : Left H := { results := [], args := [] }

/-- 'laws.FnExactScaleRow': WHATEVER THE INPUT: true; the input reads as it did. -/
def fnExactScaleRowSpec : ChangeSpec := { name := "fnExactScaleRow", fn := fun _ => fun
  | [d1, d2, d3] => { results := [.lit (.bool true)], args := [d1, d2, d3] }
  | _ => none }
def fnExactScaleRowRow : OpenClaim := { program := "ytckblohfndnnbaa", sum := "4a6535c3a9725a5c10a502aa31b32e12e3942050d79ec00035d8ed32a0c7f399", func := "loop.example/g01343/laws.FnExactScaleRow", spec := "fnExactScaleRow", plainKeys := false, apart := false }
def FnExactScaleRowSaid : Prop := fnExactScaleRowRow.holds Try.pinned (OpenSpec.ofChange fnExactScaleRowSpec)

/-- ITS FALSE NEIGHBOUR: 'it returns false'. Refute it at one input. -/
def fnExactScaleRowWrong : ChangeSpec := { name := "fnExactScaleRow", fn := fun _ => fun
  | [d1, d2, d3] => { results := [.lit (.bool false)], args := [d1, d2, d3] }
  | _ => none }
def FnExactScaleRowWrongFalsely : Prop := fnExactScaleRowRow.holds Try.pinned (OpenSpec.ofChange fnExactScaleRowWrong)

/-- 'laws.FnExactColumnsOf': WHATEVER THE INPUT: true; the input reads as it did. -/
def fnExactColumnsOfSpec : ChangeSpec := { name := "fnExactColumnsOf", fn := fun _ => fun
  | [d1, d2] => { results := [.lit (.bool true)], args := [d1, d2] }
  | _ => none }
def fnExactColumnsOfRow : OpenClaim := { program := "ytckblohfndnnbaa", sum := "4a6535c3a9725a5c10a502aa31b32e12e3942050d79ec00035d8ed32a0c7f399", func := "loop.example/g01343/laws.FnExactColumnsOf", spec := "fnExactColumnsOf", unfollowed := true, recurses := true, plainKeys := false, apart := false }
def FnExactColumnsOfSaid : Prop := fnExactColumnsOfRow.holds Try.pinned (OpenSpec.ofChange fnExactColumnsOfSpec)

/-- ITS FALSE NEIGHBOUR: 'it returns false'. Refute it at one input. -/
def fnExactColumnsOfWrong : ChangeSpec := { name := "fnExactColumnsOf", fn := fun _ => fun
  | [d1, d2] => { results := [.lit (.bool false)], args := [d1, d2] }
  | _ => none }
def FnExactColumnsOfWrongFalsely : Prop := fnExactColumnsOfRow.holds Try.pinned (OpenSpec.ofChange fnExactColumnsOfWrong)

/-- 'laws.FnExactRemainderOf': WHATEVER THE INPUT: true; the input reads as it did. -/
def fnExactRemainderOfSpec : ChangeSpec := { name := "fnExactRemainderOf", fn := fun _ => fun
  | [d1, d2] => { results := [.lit (.bool true)], args := [d1, d2] }
  | _ => none }
def fnExactRemainderOfRow : OpenClaim := { program := "ytckblohfndnnbaa", sum := "4a6535c3a9725a5c10a502aa31b32e12e3942050d79ec00035d8ed32a0c7f399", func := "loop.example/g01343/laws.FnExactRemainderOf", spec := "fnExactRemainderOf", plainKeys := false, apart := false }
def FnExactRemainderOfSaid : Prop := fnExactRemainderOfRow.holds Try.pinned (OpenSpec.ofChange fnExactRemainderOfSpec)

/-- ITS FALSE NEIGHBOUR: 'it returns false'. Refute it at one input. -/
def fnExactRemainderOfWrong : ChangeSpec := { name := "fnExactRemainderOf", fn := fun _ => fun
  | [d1, d2] => { results := [.lit (.bool false)], args := [d1, d2] }
  | _ => none }
def FnExactRemainderOfWrongFalsely : Prop := fnExactRemainderOfRow.holds Try.pinned (OpenSpec.ofChange fnExactRemainderOfWrong)

/-- 'laws.FnExactIsSolution': WHATEVER THE INPUT: true; the input reads as it did. -/
def fnExactIsSolutionSpec : ChangeSpec := { name := "fnExactIsSolution", fn := fun _ => fun
  | [d1, d2] => { results := [.lit (.bool true)], args := [d1, d2] }
  | _ => none }
def fnExactIsSolutionRow : OpenClaim := { program := "ytckblohfndnnbaa", sum := "4a6535c3a9725a5c10a502aa31b32e12e3942050d79ec00035d8ed32a0c7f399", func := "loop.example/g01343/laws.FnExactIsSolution", spec := "fnExactIsSolution", plainKeys := false, apart := false }
def FnExactIsSolutionSaid : Prop := fnExactIsSolutionRow.holds Try.pinned (OpenSpec.ofChange fnExactIsSolutionSpec)

/-- ITS FALSE NEIGHBOUR: 'it returns false'. Refute it at one input. -/
def fnExactIsSolutionWrong : ChangeSpec := { name := "fnExactIsSolution", fn := fun _ => fun
  | [d1, d2] => { results := [.lit (.bool false)], args := [d1, d2] }
  | _ => none }
def FnExactIsSolutionWrongFalsely : Prop := fnExactIsSolutionRow.holds Try.pinned (OpenSpec.ofChange fnExactIsSolutionWrong)

/-- 'laws.FnExactIsAllowed': WHATEVER THE INPUT: true; the input reads as it did. -/
def fnExactIsAllowedSpec : ChangeSpec := { name := "fnExactIsAllowed", fn := fun _ => fun
  | [d1, d2] => { results := [.lit (.bool true)], args := [d1, d2] }
  | _ => none }
def fnExactIsAllowedRow : OpenClaim := { program := "ytckblohfndnnbaa", sum := "4a6535c3a9725a5c10a502aa31b32e12e3942050d79ec00035d8ed32a0c7f399", func := "loop.example/g01343/laws.FnExactIsAllowed", spec := "fnExactIsAllowed", plainKeys := false, apart := false }
def FnExactIsAllowedSaid : Prop := fnExactIsAllowedRow.holds Try.pinned (OpenSpec.ofChange fnExactIsAllowedSpec)

/-- ITS FALSE NEIGHBOUR: 'it returns false'. Refute it at one input. -/
def fnExactIsAllowedWrong : ChangeSpec := { name := "fnExactIsAllowed", fn := fun _ => fun
  | [d1, d2] => { results := [.lit (.bool false)], args := [d1, d2] }
  | _ => none }
def FnExactIsAllowedWrongFalsely : Prop := fnExactIsAllowedRow.holds Try.pinned (OpenSpec.ofChange fnExactIsAllowedWrong)

/-- 'laws.FnExactGapOf': WHATEVER THE INPUT: true; the input reads as it did. -/
def fnExactGapOfSpec : ChangeSpec := { name := "fnExactGapOf", fn := fun _ => fun
  | [d1, d2] => { results := [.lit (.bool true)], args := [d1, d2] }
  | _ => none }
def fnExactGapOfRow : OpenClaim := { program := "ytckblohfndnnbaa", sum := "4a6535c3a9725a5c10a502aa31b32e12e3942050d79ec00035d8ed32a0c7f399", func := "loop.example/g01343/laws.FnExactGapOf", spec := "fnExactGapOf", plainKeys := false, apart := false }
def FnExactGapOfSaid : Prop := fnExactGapOfRow.holds Try.pinned (OpenSpec.ofChange fnExactGapOfSpec)

/-- ITS FALSE NEIGHBOUR: 'it returns false'. Refute it at one input. -/
def fnExactGapOfWrong : ChangeSpec := { name := "fnExactGapOf", fn := fun _ => fun
  | [d1, d2] => { results := [.lit (.bool false)], args := [d1, d2] }
  | _ => none }
def FnExactGapOfWrongFalsely : Prop := fnExactGapOfRow.holds Try.pinned (OpenSpec.ofChange fnExactGapOfWrong)

/-- 'laws.FnExactFeasibleSets': WHATEVER THE INPUT: true; the input reads as it did. -/
def fnExactFeasibleSetsSpec : ChangeSpec := { name := "fnExactFeasibleSets", fn := fun _ => fun
  | [d] => { results := [.lit (.bool true)], args := [d] }
  | _ => none }
def fnExactFeasibleSetsRow : OpenClaim := { program := "ytckblohfndnnbaa", sum := "4a6535c3a9725a5c10a502aa31b32e12e3942050d79ec00035d8ed32a0c7f399", func := "loop.example/g01343/laws.FnExactFeasibleSets", spec := "fnExactFeasibleSets", unfollowed := true, recurses := true, plainKeys := false, apart := false }
def FnExactFeasibleSetsSaid : Prop := fnExactFeasibleSetsRow.holds Try.pinned (OpenSpec.ofChange fnExactFeasibleSetsSpec)

/-- ITS FALSE NEIGHBOUR: 'it returns false'. Refute it at one input. -/
def fnExactFeasibleSetsWrong : ChangeSpec := { name := "fnExactFeasibleSets", fn := fun _ => fun
  | [d] => { results := [.lit (.bool false)], args := [d] }
  | _ => none }
def FnExactFeasibleSetsWrongFalsely : Prop := fnExactFeasibleSetsRow.holds Try.pinned (OpenSpec.ofChange fnExactFeasibleSetsWrong)

/-- 'laws.FnExactSolutionsOf': WHATEVER THE INPUT: true; the input reads as it did. -/
def fnExactSolutionsOfSpec : ChangeSpec := { name := "fnExactSolutionsOf", fn := fun _ => fun
  | [d] => { results := [.lit (.bool true)], args := [d] }
  | _ => none }
def fnExactSolutionsOfRow : OpenClaim := { program := "ytckblohfndnnbaa", sum := "4a6535c3a9725a5c10a502aa31b32e12e3942050d79ec00035d8ed32a0c7f399", func := "loop.example/g01343/laws.FnExactSolutionsOf", spec := "fnExactSolutionsOf", unfollowed := true, recurses := true, plainKeys := false, apart := false }
def FnExactSolutionsOfSaid : Prop := fnExactSolutionsOfRow.holds Try.pinned (OpenSpec.ofChange fnExactSolutionsOfSpec)

/-- ITS FALSE NEIGHBOUR: 'it returns false'. Refute it at one input. -/
def fnExactSolutionsOfWrong : ChangeSpec := { name := "fnExactSolutionsOf", fn := fun _ => fun
  | [d] => { results := [.lit (.bool false)], args := [d] }
  | _ => none }
def FnExactSolutionsOfWrongFalsely : Prop := fnExactSolutionsOfRow.holds Try.pinned (OpenSpec.ofChange fnExactSolutionsOfWrong)

/-- 'laws.FnExactCountSolutions': WHATEVER THE INPUT: true; the input reads as it did. -/
def fnExactCountSolutionsSpec : ChangeSpec := { name := "fnExactCountSolutions", fn := fun _ => fun
  | [d] => { results := [.lit (.bool true)], args := [d] }
  | _ => none }
def fnExactCountSolutionsRow : OpenClaim := { program := "ytckblohfndnnbaa", sum := "4a6535c3a9725a5c10a502aa31b32e12e3942050d79ec00035d8ed32a0c7f399", func := "loop.example/g01343/laws.FnExactCountSolutions", spec := "fnExactCountSolutions", unfollowed := true, recurses := true, plainKeys := false, apart := false }
def FnExactCountSolutionsSaid : Prop := fnExactCountSolutionsRow.holds Try.pinned (OpenSpec.ofChange fnExactCountSolutionsSpec)

/-- ITS FALSE NEIGHBOUR: 'it returns false'. Refute it at one input. -/
def fnExactCountSolutionsWrong : ChangeSpec := { name := "fnExactCountSolutions", fn := fun _ => fun
  | [d] => { results := [.lit (.bool false)], args := [d] }
  | _ => none }
def FnExactCountSolutionsWrongFalsely : Prop := fnExactCountSolutionsRow.holds Try.pinned (OpenSpec.ofChange fnExactCountSolutionsWrong)

/-- 'laws.FnExactLeastSolution': WHATEVER THE INPUT: true; the input reads as it did. -/
def fnExactLeastSolutionSpec : ChangeSpec := { name := "fnExactLeastSolution", fn := fun _ => fun
  | [d] => { results := [.lit (.bool true)], args := [d] }
  | _ => none }
def fnExactLeastSolutionRow : OpenClaim := { program := "ytckblohfndnnbaa", sum := "4a6535c3a9725a5c10a502aa31b32e12e3942050d79ec00035d8ed32a0c7f399", func := "loop.example/g01343/laws.FnExactLeastSolution", spec := "fnExactLeastSolution", unfollowed := true, recurses := true, plainKeys := false, apart := false }
def FnExactLeastSolutionSaid : Prop := fnExactLeastSolutionRow.holds Try.pinned (OpenSpec.ofChange fnExactLeastSolutionSpec)

/-- ITS FALSE NEIGHBOUR: 'it returns false'. Refute it at one input. -/
def fnExactLeastSolutionWrong : ChangeSpec := { name := "fnExactLeastSolution", fn := fun _ => fun
  | [d] => { results := [.lit (.bool false)], args := [d] }
  | _ => none }
def FnExactLeastSolutionWrongFalsely : Prop := fnExactLeastSolutionRow.holds Try.pinned (OpenSpec.ofChange fnExactLeastSolutionWrong)

/-- 'laws.FnExactPointOf': WHATEVER THE INPUT: true; the input reads as it did. -/
def fnExactPointOfSpec : ChangeSpec := { name := "fnExactPointOf", fn := fun _ => fun
  | [d1, d2] => { results := [.lit (.bool true)], args := [d1, d2] }
  | _ => none }
def fnExactPointOfRow : OpenClaim := { program := "ytckblohfndnnbaa", sum := "4a6535c3a9725a5c10a502aa31b32e12e3942050d79ec00035d8ed32a0c7f399", func := "loop.example/g01343/laws.FnExactPointOf", spec := "fnExactPointOf", unfollowed := true, recurses := true, plainKeys := false, apart := false }
def FnExactPointOfSaid : Prop := fnExactPointOfRow.holds Try.pinned (OpenSpec.ofChange fnExactPointOfSpec)

/-- ITS FALSE NEIGHBOUR: 'it returns false'. Refute it at one input. -/
def fnExactPointOfWrong : ChangeSpec := { name := "fnExactPointOf", fn := fun _ => fun
  | [d1, d2] => { results := [.lit (.bool false)], args := [d1, d2] }
  | _ => none }
def FnExactPointOfWrongFalsely : Prop := fnExactPointOfRow.holds Try.pinned (OpenSpec.ofChange fnExactPointOfWrong)

/-- 'laws.FnExactSolutionOfSet': WHATEVER THE INPUT: true; the input reads as it did. -/
def fnExactSolutionOfSetSpec : ChangeSpec := { name := "fnExactSolutionOfSet", fn := fun _ => fun
  | [d1, d2] => { results := [.lit (.bool true)], args := [d1, d2] }
  | _ => none }
def fnExactSolutionOfSetRow : OpenClaim := { program := "ytckblohfndnnbaa", sum := "4a6535c3a9725a5c10a502aa31b32e12e3942050d79ec00035d8ed32a0c7f399", func := "loop.example/g01343/laws.FnExactSolutionOfSet", spec := "fnExactSolutionOfSet", unfollowed := true, recurses := true, plainKeys := false, apart := false }
def FnExactSolutionOfSetSaid : Prop := fnExactSolutionOfSetRow.holds Try.pinned (OpenSpec.ofChange fnExactSolutionOfSetSpec)

/-- ITS FALSE NEIGHBOUR: 'it returns false'. Refute it at one input. -/
def fnExactSolutionOfSetWrong : ChangeSpec := { name := "fnExactSolutionOfSet", fn := fun _ => fun
  | [d1, d2] => { results := [.lit (.bool false)], args := [d1, d2] }
  | _ => none }
def FnExactSolutionOfSetWrongFalsely : Prop := fnExactSolutionOfSetRow.holds Try.pinned (OpenSpec.ofChange fnExactSolutionOfSetWrong)

/- THE SECOND FORM. 'bulk': how many values and letters a reading holds, each counted each time it is reached (what is shared counts as often as it is met; a slice's spare places count too). A statement '..UptoSaid' is the law's where the arguments, and the package variables that the reading takes, are together of bulk at most 1048576: NARROWER than '..Said'. Prove '..Said' where nothing that the law and all that it calls make is longer than what came in: it says more and counts as full. Else prove '..UptoSaid'. A law counts once. -/
mutual
def uptoBulk {H : Type} : DataW H → Nat
  | .lit (.string bytes) => bytes.length + 1
  | .lit _ => 1
  | .nil => 1
  | .ptr d => uptoBulk d + 1
  | .slice elems spare => uptoBulkAll elems + uptoBulkAll spare + 1
  | .agg parts => uptoBulkAll parts + 1
  | .iface _ d => uptoBulk d + 1
  | .map entries => uptoBulkEntries entries + 1
  | .held _ => 1
def uptoBulkAll {H : Type} : List (DataW H) → Nat
  | [] => 0
  | d :: r => uptoBulk d + uptoBulkAll r
def uptoBulkEntries {H : Type} : List (Lit × DataW H) → Nat
  | [] => 0
  | x :: r => uptoBulkEntry x + uptoBulkEntries r
def uptoBulkEntry {H : Type} : Lit × DataW H → Nat
  | (.string bytes, d) => bytes.length + uptoBulk d + 1
  | (_, d) => uptoBulk d + 1
 end
def uptoSmall : (H : Type) → List (DataW H) → Bool := fun _ ds => decide (uptoBulkAll ds ≤ 1048576)
def OpenSpec.upto (s : _root_.Go.ChangeSpec) : _root_.Go.OpenSpec := { _root_.Go.OpenSpec.ofChange s with cond := some uptoSmall }

/-- 'laws.FnExactScaleRow', WHERE WHAT IT READS IS OF BULK AT MOST 1048576: true; the input reads as it did. -/
def fnExactScaleRowUptoRow : OpenClaim := { program := "ytckblohfndnnbaa", sum := "4a6535c3a9725a5c10a502aa31b32e12e3942050d79ec00035d8ed32a0c7f399", func := "loop.example/g01343/laws.FnExactScaleRow", spec := "fnExactScaleRow", plainKeys := false, apart := false, narrowed := true }
def FnExactScaleRowUptoSaid : Prop := fnExactScaleRowUptoRow.holds Try.pinned (OpenSpec.upto fnExactScaleRowSpec)

/-- 'laws.FnExactColumnsOf', WHERE WHAT IT READS IS OF BULK AT MOST 1048576: true; the input reads as it did. -/
def fnExactColumnsOfUptoRow : OpenClaim := { program := "ytckblohfndnnbaa", sum := "4a6535c3a9725a5c10a502aa31b32e12e3942050d79ec00035d8ed32a0c7f399", func := "loop.example/g01343/laws.FnExactColumnsOf", spec := "fnExactColumnsOf", unfollowed := true, recurses := true, plainKeys := false, apart := false, narrowed := true }
def FnExactColumnsOfUptoSaid : Prop := fnExactColumnsOfUptoRow.holds Try.pinned (OpenSpec.upto fnExactColumnsOfSpec)

/-- 'laws.FnExactRemainderOf', WHERE WHAT IT READS IS OF BULK AT MOST 1048576: true; the input reads as it did. -/
def fnExactRemainderOfUptoRow : OpenClaim := { program := "ytckblohfndnnbaa", sum := "4a6535c3a9725a5c10a502aa31b32e12e3942050d79ec00035d8ed32a0c7f399", func := "loop.example/g01343/laws.FnExactRemainderOf", spec := "fnExactRemainderOf", plainKeys := false, apart := false, narrowed := true }
def FnExactRemainderOfUptoSaid : Prop := fnExactRemainderOfUptoRow.holds Try.pinned (OpenSpec.upto fnExactRemainderOfSpec)

/-- 'laws.FnExactIsSolution', WHERE WHAT IT READS IS OF BULK AT MOST 1048576: true; the input reads as it did. -/
def fnExactIsSolutionUptoRow : OpenClaim := { program := "ytckblohfndnnbaa", sum := "4a6535c3a9725a5c10a502aa31b32e12e3942050d79ec00035d8ed32a0c7f399", func := "loop.example/g01343/laws.FnExactIsSolution", spec := "fnExactIsSolution", plainKeys := false, apart := false, narrowed := true }
def FnExactIsSolutionUptoSaid : Prop := fnExactIsSolutionUptoRow.holds Try.pinned (OpenSpec.upto fnExactIsSolutionSpec)

/-- 'laws.FnExactIsAllowed', WHERE WHAT IT READS IS OF BULK AT MOST 1048576: true; the input reads as it did. -/
def fnExactIsAllowedUptoRow : OpenClaim := { program := "ytckblohfndnnbaa", sum := "4a6535c3a9725a5c10a502aa31b32e12e3942050d79ec00035d8ed32a0c7f399", func := "loop.example/g01343/laws.FnExactIsAllowed", spec := "fnExactIsAllowed", plainKeys := false, apart := false, narrowed := true }
def FnExactIsAllowedUptoSaid : Prop := fnExactIsAllowedUptoRow.holds Try.pinned (OpenSpec.upto fnExactIsAllowedSpec)

/-- 'laws.FnExactGapOf', WHERE WHAT IT READS IS OF BULK AT MOST 1048576: true; the input reads as it did. -/
def fnExactGapOfUptoRow : OpenClaim := { program := "ytckblohfndnnbaa", sum := "4a6535c3a9725a5c10a502aa31b32e12e3942050d79ec00035d8ed32a0c7f399", func := "loop.example/g01343/laws.FnExactGapOf", spec := "fnExactGapOf", plainKeys := false, apart := false, narrowed := true }
def FnExactGapOfUptoSaid : Prop := fnExactGapOfUptoRow.holds Try.pinned (OpenSpec.upto fnExactGapOfSpec)

/-- 'laws.FnExactFeasibleSets', WHERE WHAT IT READS IS OF BULK AT MOST 1048576: true; the input reads as it did. -/
def fnExactFeasibleSetsUptoRow : OpenClaim := { program := "ytckblohfndnnbaa", sum := "4a6535c3a9725a5c10a502aa31b32e12e3942050d79ec00035d8ed32a0c7f399", func := "loop.example/g01343/laws.FnExactFeasibleSets", spec := "fnExactFeasibleSets", unfollowed := true, recurses := true, plainKeys := false, apart := false, narrowed := true }
def FnExactFeasibleSetsUptoSaid : Prop := fnExactFeasibleSetsUptoRow.holds Try.pinned (OpenSpec.upto fnExactFeasibleSetsSpec)

/-- 'laws.FnExactSolutionsOf', WHERE WHAT IT READS IS OF BULK AT MOST 1048576: true; the input reads as it did. -/
def fnExactSolutionsOfUptoRow : OpenClaim := { program := "ytckblohfndnnbaa", sum := "4a6535c3a9725a5c10a502aa31b32e12e3942050d79ec00035d8ed32a0c7f399", func := "loop.example/g01343/laws.FnExactSolutionsOf", spec := "fnExactSolutionsOf", unfollowed := true, recurses := true, plainKeys := false, apart := false, narrowed := true }
def FnExactSolutionsOfUptoSaid : Prop := fnExactSolutionsOfUptoRow.holds Try.pinned (OpenSpec.upto fnExactSolutionsOfSpec)

/-- 'laws.FnExactCountSolutions', WHERE WHAT IT READS IS OF BULK AT MOST 1048576: true; the input reads as it did. -/
def fnExactCountSolutionsUptoRow : OpenClaim := { program := "ytckblohfndnnbaa", sum := "4a6535c3a9725a5c10a502aa31b32e12e3942050d79ec00035d8ed32a0c7f399", func := "loop.example/g01343/laws.FnExactCountSolutions", spec := "fnExactCountSolutions", unfollowed := true, recurses := true, plainKeys := false, apart := false, narrowed := true }
def FnExactCountSolutionsUptoSaid : Prop := fnExactCountSolutionsUptoRow.holds Try.pinned (OpenSpec.upto fnExactCountSolutionsSpec)

/-- 'laws.FnExactLeastSolution', WHERE WHAT IT READS IS OF BULK AT MOST 1048576: true; the input reads as it did. -/
def fnExactLeastSolutionUptoRow : OpenClaim := { program := "ytckblohfndnnbaa", sum := "4a6535c3a9725a5c10a502aa31b32e12e3942050d79ec00035d8ed32a0c7f399", func := "loop.example/g01343/laws.FnExactLeastSolution", spec := "fnExactLeastSolution", unfollowed := true, recurses := true, plainKeys := false, apart := false, narrowed := true }
def FnExactLeastSolutionUptoSaid : Prop := fnExactLeastSolutionUptoRow.holds Try.pinned (OpenSpec.upto fnExactLeastSolutionSpec)

/-- 'laws.FnExactPointOf', WHERE WHAT IT READS IS OF BULK AT MOST 1048576: true; the input reads as it did. -/
def fnExactPointOfUptoRow : OpenClaim := { program := "ytckblohfndnnbaa", sum := "4a6535c3a9725a5c10a502aa31b32e12e3942050d79ec00035d8ed32a0c7f399", func := "loop.example/g01343/laws.FnExactPointOf", spec := "fnExactPointOf", unfollowed := true, recurses := true, plainKeys := false, apart := false, narrowed := true }
def FnExactPointOfUptoSaid : Prop := fnExactPointOfUptoRow.holds Try.pinned (OpenSpec.upto fnExactPointOfSpec)

/-- 'laws.FnExactSolutionOfSet', WHERE WHAT IT READS IS OF BULK AT MOST 1048576: true; the input reads as it did. -/
def fnExactSolutionOfSetUptoRow : OpenClaim := { program := "ytckblohfndnnbaa", sum := "4a6535c3a9725a5c10a502aa31b32e12e3942050d79ec00035d8ed32a0c7f399", func := "loop.example/g01343/laws.FnExactSolutionOfSet", spec := "fnExactSolutionOfSet", unfollowed := true, recurses := true, plainKeys := false, apart := false, narrowed := true }
def FnExactSolutionOfSetUptoSaid : Prop := fnExactSolutionOfSetUptoRow.holds Try.pinned (OpenSpec.upto fnExactSolutionOfSetSpec)

end Rows
end Go.Proofs.Ytckblohfndnnbaa
