/-
  No cell of these rows narrows 'for every input' (looked for: loops, veiled, ifaces, maps, wideKeys, modest, calm, conditions, laid).
  DERIVED. THE GIVEN ROWS OF THIS SEAT. 12 by the template 'for every input the law returns true; each argument reads behind the call as it read before'; 0 by the template 'total and deterministic' (their statements: YtoifpjmhikgjgaaTotals.lean).
  GIVEN WITH THE SEED: the statements are not yours to turn. If you find one false, say at which input.
  Laid BY PROGRAM, IN A SANDBOX (cutbox-rows.mjs): the forced cells as the released guide's own fill.sh prints them over the translation bd03d893d6b50c00… (all of the seat's roots in one cut). By AI agents, Wed Nov 11 2026. No macro, syntax, notation, axiom, sorry.
-/
import Derived.Test.YtoifpjmhikgjgaaChecked
import GoSem.Claim
import GoSem.ClaimJoined
import GoSem.ClaimMapViews
import Derived.JoinedTies
import Derived.KernelRfl
namespace Go.Proofs.Ytoifpjmhikgjgaa
/- THE CELL 'sum', in the pinned program and in every row, IS THE sha256 OF THE DUMP (.gsa) THAT YtoifpjmhikgjgaaProg.lean LOADS. Nothing in Lean hashes anything: it is a label: what it is worth is what the hold of that sum in a sandbox is worth. -/
noncomputable def Try.pinned : Pinned := { name := "ytoifpjmhikgjgaa", sum := "bd03d893d6b50c00caaf1a135b519f31bc9b1e4b17ea4b7c8d987cdc1daf5648", checked := Try.checked }
namespace Rows
def none {H : Type} : Left H := { results := [], args := [] }

/-- 'laws.FnExactScaleRow': WHATEVER THE INPUT: true; the input reads as it did. -/
def fnExactScaleRowSpec : ChangeSpec := { name := "fnExactScaleRow", fn := fun _ => fun
  | [d1, d2, d3] => { results := [.lit (.bool true)], args := [d1, d2, d3] }
  | _ => none }
def fnExactScaleRowRow : OpenClaim := { program := "ytoifpjmhikgjgaa", sum := "bd03d893d6b50c00caaf1a135b519f31bc9b1e4b17ea4b7c8d987cdc1daf5648", func := "loop.example/g01343/laws.FnExactScaleRow", spec := "fnExactScaleRow", apart := false }
def FnExactScaleRowSaid : Prop := fnExactScaleRowRow.holds Try.pinned (OpenSpec.ofChange fnExactScaleRowSpec)

/-- ITS FALSE NEIGHBOUR: 'it returns false'. Refute it at one input. -/
def fnExactScaleRowWrong : ChangeSpec := { name := "fnExactScaleRow", fn := fun _ => fun
  | [d1, d2, d3] => { results := [.lit (.bool false)], args := [d1, d2, d3] }
  | _ => none }
def FnExactScaleRowWrongFalsely : Prop := fnExactScaleRowRow.holds Try.pinned (OpenSpec.ofChange fnExactScaleRowWrong)

/-- 'laws.FnExactColumnsOf': WHATEVER THE INPUT: true; the input reads as it did. -/
def fnExactColumnsOfSpec : ChangeSpec := { name := "fnExactColumnsOf", fn := fun _ => fun
  | [d1, d2] => { results := [.lit (.bool true)], args := [d1, d2] }
  | _ => none }
def fnExactColumnsOfRow : OpenClaim := { program := "ytoifpjmhikgjgaa", sum := "bd03d893d6b50c00caaf1a135b519f31bc9b1e4b17ea4b7c8d987cdc1daf5648", func := "loop.example/g01343/laws.FnExactColumnsOf", spec := "fnExactColumnsOf", unfollowed := true, recurses := true, apart := false }
def FnExactColumnsOfSaid : Prop := fnExactColumnsOfRow.holds Try.pinned (OpenSpec.ofChange fnExactColumnsOfSpec)

/-- ITS FALSE NEIGHBOUR: 'it returns false'. Refute it at one input. -/
def fnExactColumnsOfWrong : ChangeSpec := { name := "fnExactColumnsOf", fn := fun _ => fun
  | [d1, d2] => { results := [.lit (.bool false)], args := [d1, d2] }
  | _ => none }
def FnExactColumnsOfWrongFalsely : Prop := fnExactColumnsOfRow.holds Try.pinned (OpenSpec.ofChange fnExactColumnsOfWrong)

/-- 'laws.FnExactDeterminantOf': WHATEVER THE INPUT: true; the input reads as it did. -/
def fnExactDeterminantOfSpec : ChangeSpec := { name := "fnExactDeterminantOf", fn := fun _ => fun
  | [d1, d2] => { results := [.lit (.bool true)], args := [d1, d2] }
  | _ => none }
def fnExactDeterminantOfRow : OpenClaim := { program := "ytoifpjmhikgjgaa", sum := "bd03d893d6b50c00caaf1a135b519f31bc9b1e4b17ea4b7c8d987cdc1daf5648", func := "loop.example/g01343/laws.FnExactDeterminantOf", spec := "fnExactDeterminantOf", unfollowed := true, recurses := true, apart := false }
def FnExactDeterminantOfSaid : Prop := fnExactDeterminantOfRow.holds Try.pinned (OpenSpec.ofChange fnExactDeterminantOfSpec)

/-- ITS FALSE NEIGHBOUR: 'it returns false'. Refute it at one input. -/
def fnExactDeterminantOfWrong : ChangeSpec := { name := "fnExactDeterminantOf", fn := fun _ => fun
  | [d1, d2] => { results := [.lit (.bool false)], args := [d1, d2] }
  | _ => none }
def FnExactDeterminantOfWrongFalsely : Prop := fnExactDeterminantOfRow.holds Try.pinned (OpenSpec.ofChange fnExactDeterminantOfWrong)

/-- 'laws.FnExactPointOf': WHATEVER THE INPUT: true; the input reads as it did. -/
def fnExactPointOfSpec : ChangeSpec := { name := "fnExactPointOf", fn := fun _ => fun
  | [d1, d2] => { results := [.lit (.bool true)], args := [d1, d2] }
  | _ => none }
def fnExactPointOfRow : OpenClaim := { program := "ytoifpjmhikgjgaa", sum := "bd03d893d6b50c00caaf1a135b519f31bc9b1e4b17ea4b7c8d987cdc1daf5648", func := "loop.example/g01343/laws.FnExactPointOf", spec := "fnExactPointOf", unfollowed := true, recurses := true, apart := false }
def FnExactPointOfSaid : Prop := fnExactPointOfRow.holds Try.pinned (OpenSpec.ofChange fnExactPointOfSpec)

/-- ITS FALSE NEIGHBOUR: 'it returns false'. Refute it at one input. -/
def fnExactPointOfWrong : ChangeSpec := { name := "fnExactPointOf", fn := fun _ => fun
  | [d1, d2] => { results := [.lit (.bool false)], args := [d1, d2] }
  | _ => none }
def FnExactPointOfWrongFalsely : Prop := fnExactPointOfRow.holds Try.pinned (OpenSpec.ofChange fnExactPointOfWrong)

/-- 'laws.FnExactBasicSets': WHATEVER THE INPUT: true; the input reads as it did. -/
def fnExactBasicSetsSpec : ChangeSpec := { name := "fnExactBasicSets", fn := fun _ => fun
  | [d] => { results := [.lit (.bool true)], args := [d] }
  | _ => none }
def fnExactBasicSetsRow : OpenClaim := { program := "ytoifpjmhikgjgaa", sum := "bd03d893d6b50c00caaf1a135b519f31bc9b1e4b17ea4b7c8d987cdc1daf5648", func := "loop.example/g01343/laws.FnExactBasicSets", spec := "fnExactBasicSets", unfollowed := true, recurses := true, apart := false }
def FnExactBasicSetsSaid : Prop := fnExactBasicSetsRow.holds Try.pinned (OpenSpec.ofChange fnExactBasicSetsSpec)

/-- ITS FALSE NEIGHBOUR: 'it returns false'. Refute it at one input. -/
def fnExactBasicSetsWrong : ChangeSpec := { name := "fnExactBasicSets", fn := fun _ => fun
  | [d] => { results := [.lit (.bool false)], args := [d] }
  | _ => none }
def FnExactBasicSetsWrongFalsely : Prop := fnExactBasicSetsRow.holds Try.pinned (OpenSpec.ofChange fnExactBasicSetsWrong)

/-- 'laws.FnExactSignsOfSet': WHATEVER THE INPUT: true; the input reads as it did. -/
def fnExactSignsOfSetSpec : ChangeSpec := { name := "fnExactSignsOfSet", fn := fun _ => fun
  | [d1, d2] => { results := [.lit (.bool true)], args := [d1, d2] }
  | _ => none }
def fnExactSignsOfSetRow : OpenClaim := { program := "ytoifpjmhikgjgaa", sum := "bd03d893d6b50c00caaf1a135b519f31bc9b1e4b17ea4b7c8d987cdc1daf5648", func := "loop.example/g01343/laws.FnExactSignsOfSet", spec := "fnExactSignsOfSet", unfollowed := true, recurses := true, apart := false }
def FnExactSignsOfSetSaid : Prop := fnExactSignsOfSetRow.holds Try.pinned (OpenSpec.ofChange fnExactSignsOfSetSpec)

/-- ITS FALSE NEIGHBOUR: 'it returns false'. Refute it at one input. -/
def fnExactSignsOfSetWrong : ChangeSpec := { name := "fnExactSignsOfSet", fn := fun _ => fun
  | [d1, d2] => { results := [.lit (.bool false)], args := [d1, d2] }
  | _ => none }
def FnExactSignsOfSetWrongFalsely : Prop := fnExactSignsOfSetRow.holds Try.pinned (OpenSpec.ofChange fnExactSignsOfSetWrong)

/-- 'laws.FnExactSolutionOfSet': WHATEVER THE INPUT: true; the input reads as it did. -/
def fnExactSolutionOfSetSpec : ChangeSpec := { name := "fnExactSolutionOfSet", fn := fun _ => fun
  | [d1, d2] => { results := [.lit (.bool true)], args := [d1, d2] }
  | _ => none }
def fnExactSolutionOfSetRow : OpenClaim := { program := "ytoifpjmhikgjgaa", sum := "bd03d893d6b50c00caaf1a135b519f31bc9b1e4b17ea4b7c8d987cdc1daf5648", func := "loop.example/g01343/laws.FnExactSolutionOfSet", spec := "fnExactSolutionOfSet", unfollowed := true, recurses := true, apart := false }
def FnExactSolutionOfSetSaid : Prop := fnExactSolutionOfSetRow.holds Try.pinned (OpenSpec.ofChange fnExactSolutionOfSetSpec)

/-- ITS FALSE NEIGHBOUR: 'it returns false'. Refute it at one input. -/
def fnExactSolutionOfSetWrong : ChangeSpec := { name := "fnExactSolutionOfSet", fn := fun _ => fun
  | [d1, d2] => { results := [.lit (.bool false)], args := [d1, d2] }
  | _ => none }
def FnExactSolutionOfSetWrongFalsely : Prop := fnExactSolutionOfSetRow.holds Try.pinned (OpenSpec.ofChange fnExactSolutionOfSetWrong)

/-- 'laws.FnExactIsDegenerate': WHATEVER THE INPUT: true; the input reads as it did. -/
def fnExactIsDegenerateSpec : ChangeSpec := { name := "fnExactIsDegenerate", fn := fun _ => fun
  | [d] => { results := [.lit (.bool true)], args := [d] }
  | _ => none }
def fnExactIsDegenerateRow : OpenClaim := { program := "ytoifpjmhikgjgaa", sum := "bd03d893d6b50c00caaf1a135b519f31bc9b1e4b17ea4b7c8d987cdc1daf5648", func := "loop.example/g01343/laws.FnExactIsDegenerate", spec := "fnExactIsDegenerate", unfollowed := true, recurses := true, apart := false }
def FnExactIsDegenerateSaid : Prop := fnExactIsDegenerateRow.holds Try.pinned (OpenSpec.ofChange fnExactIsDegenerateSpec)

/-- ITS FALSE NEIGHBOUR: 'it returns false'. Refute it at one input. -/
def fnExactIsDegenerateWrong : ChangeSpec := { name := "fnExactIsDegenerate", fn := fun _ => fun
  | [d] => { results := [.lit (.bool false)], args := [d] }
  | _ => none }
def FnExactIsDegenerateWrongFalsely : Prop := fnExactIsDegenerateRow.holds Try.pinned (OpenSpec.ofChange fnExactIsDegenerateWrong)

/-- 'laws.FnExactFeasibleSets': WHATEVER THE INPUT: true; the input reads as it did. -/
def fnExactFeasibleSetsSpec : ChangeSpec := { name := "fnExactFeasibleSets", fn := fun _ => fun
  | [d] => { results := [.lit (.bool true)], args := [d] }
  | _ => none }
def fnExactFeasibleSetsRow : OpenClaim := { program := "ytoifpjmhikgjgaa", sum := "bd03d893d6b50c00caaf1a135b519f31bc9b1e4b17ea4b7c8d987cdc1daf5648", func := "loop.example/g01343/laws.FnExactFeasibleSets", spec := "fnExactFeasibleSets", unfollowed := true, recurses := true, apart := false }
def FnExactFeasibleSetsSaid : Prop := fnExactFeasibleSetsRow.holds Try.pinned (OpenSpec.ofChange fnExactFeasibleSetsSpec)

/-- ITS FALSE NEIGHBOUR: 'it returns false'. Refute it at one input. -/
def fnExactFeasibleSetsWrong : ChangeSpec := { name := "fnExactFeasibleSets", fn := fun _ => fun
  | [d] => { results := [.lit (.bool false)], args := [d] }
  | _ => none }
def FnExactFeasibleSetsWrongFalsely : Prop := fnExactFeasibleSetsRow.holds Try.pinned (OpenSpec.ofChange fnExactFeasibleSetsWrong)

/-- 'laws.FnExactIsCovered': WHATEVER THE INPUT: true; the input reads as it did. -/
def fnExactIsCoveredSpec : ChangeSpec := { name := "fnExactIsCovered", fn := fun _ => fun
  | [d1, d2] => { results := [.lit (.bool true)], args := [d1, d2] }
  | _ => none }
def fnExactIsCoveredRow : OpenClaim := { program := "ytoifpjmhikgjgaa", sum := "bd03d893d6b50c00caaf1a135b519f31bc9b1e4b17ea4b7c8d987cdc1daf5648", func := "loop.example/g01343/laws.FnExactIsCovered", spec := "fnExactIsCovered", unfollowed := true, recurses := true, apart := false }
def FnExactIsCoveredSaid : Prop := fnExactIsCoveredRow.holds Try.pinned (OpenSpec.ofChange fnExactIsCoveredSpec)

/-- ITS FALSE NEIGHBOUR: 'it returns false'. Refute it at one input. -/
def fnExactIsCoveredWrong : ChangeSpec := { name := "fnExactIsCovered", fn := fun _ => fun
  | [d1, d2] => { results := [.lit (.bool false)], args := [d1, d2] }
  | _ => none }
def FnExactIsCoveredWrongFalsely : Prop := fnExactIsCoveredRow.holds Try.pinned (OpenSpec.ofChange fnExactIsCoveredWrong)

/-- 'laws.FnExactCoverList': WHATEVER THE INPUT: true; the input reads as it did. -/
def fnExactCoverListSpec : ChangeSpec := { name := "fnExactCoverList", fn := fun _ => fun
  | [d] => { results := [.lit (.bool true)], args := [d] }
  | _ => none }
def fnExactCoverListRow : OpenClaim := { program := "ytoifpjmhikgjgaa", sum := "bd03d893d6b50c00caaf1a135b519f31bc9b1e4b17ea4b7c8d987cdc1daf5648", func := "loop.example/g01343/laws.FnExactCoverList", spec := "fnExactCoverList", unfollowed := true, recurses := true, apart := false }
def FnExactCoverListSaid : Prop := fnExactCoverListRow.holds Try.pinned (OpenSpec.ofChange fnExactCoverListSpec)

/-- ITS FALSE NEIGHBOUR: 'it returns false'. Refute it at one input. -/
def fnExactCoverListWrong : ChangeSpec := { name := "fnExactCoverList", fn := fun _ => fun
  | [d] => { results := [.lit (.bool false)], args := [d] }
  | _ => none }
def FnExactCoverListWrongFalsely : Prop := fnExactCoverListRow.holds Try.pinned (OpenSpec.ofChange fnExactCoverListWrong)

/-- 'laws.FnExactDegreeAt': WHATEVER THE INPUT: true; the input reads as it did. -/
def fnExactDegreeAtSpec : ChangeSpec := { name := "fnExactDegreeAt", fn := fun _ => fun
  | [d] => { results := [.lit (.bool true)], args := [d] }
  | _ => none }
def fnExactDegreeAtRow : OpenClaim := { program := "ytoifpjmhikgjgaa", sum := "bd03d893d6b50c00caaf1a135b519f31bc9b1e4b17ea4b7c8d987cdc1daf5648", func := "loop.example/g01343/laws.FnExactDegreeAt", spec := "fnExactDegreeAt", unfollowed := true, recurses := true, apart := false }
def FnExactDegreeAtSaid : Prop := fnExactDegreeAtRow.holds Try.pinned (OpenSpec.ofChange fnExactDegreeAtSpec)

/-- ITS FALSE NEIGHBOUR: 'it returns false'. Refute it at one input. -/
def fnExactDegreeAtWrong : ChangeSpec := { name := "fnExactDegreeAt", fn := fun _ => fun
  | [d] => { results := [.lit (.bool false)], args := [d] }
  | _ => none }
def FnExactDegreeAtWrongFalsely : Prop := fnExactDegreeAtRow.holds Try.pinned (OpenSpec.ofChange fnExactDegreeAtWrong)

/- THE SECOND FORM. 'bulk': how many values and letters a reading holds, each counted each time it is reached (what is shared counts as often as it is met; a slice's spare places count too). A statement '..UptoSaid' is the law's where the arguments, and the package variables that the reading takes, are together of bulk at most 1048576: NARROWER than '..Said'. Prove '..Said' where nothing that the law and all that it calls make is longer than what came in: it says more and counts as full. Else prove '..UptoSaid'. A law counts once. -/
mutual
def uptoBulk {H : Type} : DataW H → Nat
  | .lit (.string bytes) => bytes.length + 1
  | .lit _ => 1
  | .nil => 1
  | .ptr d => uptoBulk d + 1
  | .slice elems spare => uptoBulkAll elems + uptoBulkAll spare + 1
  | .agg parts => uptoBulkAll parts + 1
  | .iface _ d => uptoBulk d + 1
  | .map entries => uptoBulkEntries entries + 1
  | .held _ => 1
def uptoBulkAll {H : Type} : List (DataW H) → Nat
  | [] => 0
  | d :: r => uptoBulk d + uptoBulkAll r
def uptoBulkEntries {H : Type} : List (Lit × DataW H) → Nat
  | [] => 0
  | x :: r => uptoBulkEntry x + uptoBulkEntries r
def uptoBulkEntry {H : Type} : Lit × DataW H → Nat
  | (.string bytes, d) => bytes.length + uptoBulk d + 1
  | (_, d) => uptoBulk d + 1
 end
def uptoSmall : (H : Type) → List (DataW H) → Bool := fun _ ds => decide (uptoBulkAll ds ≤ 1048576)
def OpenSpec.upto (s : _root_.Go.ChangeSpec) : _root_.Go.OpenSpec := { _root_.Go.OpenSpec.ofChange s with cond := some uptoSmall }

/-- 'laws.FnExactScaleRow', WHERE WHAT IT READS IS OF BULK AT MOST 1048576: true; the input reads as it did. -/
def fnExactScaleRowUptoRow : OpenClaim := { program := "ytoifpjmhikgjgaa", sum := "bd03d893d6b50c00caaf1a135b519f31bc9b1e4b17ea4b7c8d987cdc1daf5648", func := "loop.example/g01343/laws.FnExactScaleRow", spec := "fnExactScaleRow", apart := false, narrowed := true }
def FnExactScaleRowUptoSaid : Prop := fnExactScaleRowUptoRow.holds Try.pinned (OpenSpec.upto fnExactScaleRowSpec)

/-- 'laws.FnExactColumnsOf', WHERE WHAT IT READS IS OF BULK AT MOST 1048576: true; the input reads as it did. -/
def fnExactColumnsOfUptoRow : OpenClaim := { program := "ytoifpjmhikgjgaa", sum := "bd03d893d6b50c00caaf1a135b519f31bc9b1e4b17ea4b7c8d987cdc1daf5648", func := "loop.example/g01343/laws.FnExactColumnsOf", spec := "fnExactColumnsOf", unfollowed := true, recurses := true, apart := false, narrowed := true }
def FnExactColumnsOfUptoSaid : Prop := fnExactColumnsOfUptoRow.holds Try.pinned (OpenSpec.upto fnExactColumnsOfSpec)

/-- 'laws.FnExactDeterminantOf', WHERE WHAT IT READS IS OF BULK AT MOST 1048576: true; the input reads as it did. -/
def fnExactDeterminantOfUptoRow : OpenClaim := { program := "ytoifpjmhikgjgaa", sum := "bd03d893d6b50c00caaf1a135b519f31bc9b1e4b17ea4b7c8d987cdc1daf5648", func := "loop.example/g01343/laws.FnExactDeterminantOf", spec := "fnExactDeterminantOf", unfollowed := true, recurses := true, apart := false, narrowed := true }
def FnExactDeterminantOfUptoSaid : Prop := fnExactDeterminantOfUptoRow.holds Try.pinned (OpenSpec.upto fnExactDeterminantOfSpec)

/-- 'laws.FnExactPointOf', WHERE WHAT IT READS IS OF BULK AT MOST 1048576: true; the input reads as it did. -/
def fnExactPointOfUptoRow : OpenClaim := { program := "ytoifpjmhikgjgaa", sum := "bd03d893d6b50c00caaf1a135b519f31bc9b1e4b17ea4b7c8d987cdc1daf5648", func := "loop.example/g01343/laws.FnExactPointOf", spec := "fnExactPointOf", unfollowed := true, recurses := true, apart := false, narrowed := true }
def FnExactPointOfUptoSaid : Prop := fnExactPointOfUptoRow.holds Try.pinned (OpenSpec.upto fnExactPointOfSpec)

/-- 'laws.FnExactBasicSets', WHERE WHAT IT READS IS OF BULK AT MOST 1048576: true; the input reads as it did. -/
def fnExactBasicSetsUptoRow : OpenClaim := { program := "ytoifpjmhikgjgaa", sum := "bd03d893d6b50c00caaf1a135b519f31bc9b1e4b17ea4b7c8d987cdc1daf5648", func := "loop.example/g01343/laws.FnExactBasicSets", spec := "fnExactBasicSets", unfollowed := true, recurses := true, apart := false, narrowed := true }
def FnExactBasicSetsUptoSaid : Prop := fnExactBasicSetsUptoRow.holds Try.pinned (OpenSpec.upto fnExactBasicSetsSpec)

/-- 'laws.FnExactSignsOfSet', WHERE WHAT IT READS IS OF BULK AT MOST 1048576: true; the input reads as it did. -/
def fnExactSignsOfSetUptoRow : OpenClaim := { program := "ytoifpjmhikgjgaa", sum := "bd03d893d6b50c00caaf1a135b519f31bc9b1e4b17ea4b7c8d987cdc1daf5648", func := "loop.example/g01343/laws.FnExactSignsOfSet", spec := "fnExactSignsOfSet", unfollowed := true, recurses := true, apart := false, narrowed := true }
def FnExactSignsOfSetUptoSaid : Prop := fnExactSignsOfSetUptoRow.holds Try.pinned (OpenSpec.upto fnExactSignsOfSetSpec)

/-- 'laws.FnExactSolutionOfSet', WHERE WHAT IT READS IS OF BULK AT MOST 1048576: true; the input reads as it did. -/
def fnExactSolutionOfSetUptoRow : OpenClaim := { program := "ytoifpjmhikgjgaa", sum := "bd03d893d6b50c00caaf1a135b519f31bc9b1e4b17ea4b7c8d987cdc1daf5648", func := "loop.example/g01343/laws.FnExactSolutionOfSet", spec := "fnExactSolutionOfSet", unfollowed := true, recurses := true, apart := false, narrowed := true }
def FnExactSolutionOfSetUptoSaid : Prop := fnExactSolutionOfSetUptoRow.holds Try.pinned (OpenSpec.upto fnExactSolutionOfSetSpec)

/-- 'laws.FnExactIsDegenerate', WHERE WHAT IT READS IS OF BULK AT MOST 1048576: true; the input reads as it did. -/
def fnExactIsDegenerateUptoRow : OpenClaim := { program := "ytoifpjmhikgjgaa", sum := "bd03d893d6b50c00caaf1a135b519f31bc9b1e4b17ea4b7c8d987cdc1daf5648", func := "loop.example/g01343/laws.FnExactIsDegenerate", spec := "fnExactIsDegenerate", unfollowed := true, recurses := true, apart := false, narrowed := true }
def FnExactIsDegenerateUptoSaid : Prop := fnExactIsDegenerateUptoRow.holds Try.pinned (OpenSpec.upto fnExactIsDegenerateSpec)

/-- 'laws.FnExactFeasibleSets', WHERE WHAT IT READS IS OF BULK AT MOST 1048576: true; the input reads as it did. -/
def fnExactFeasibleSetsUptoRow : OpenClaim := { program := "ytoifpjmhikgjgaa", sum := "bd03d893d6b50c00caaf1a135b519f31bc9b1e4b17ea4b7c8d987cdc1daf5648", func := "loop.example/g01343/laws.FnExactFeasibleSets", spec := "fnExactFeasibleSets", unfollowed := true, recurses := true, apart := false, narrowed := true }
def FnExactFeasibleSetsUptoSaid : Prop := fnExactFeasibleSetsUptoRow.holds Try.pinned (OpenSpec.upto fnExactFeasibleSetsSpec)

/-- 'laws.FnExactIsCovered', WHERE WHAT IT READS IS OF BULK AT MOST 1048576: true; the input reads as it did. -/
def fnExactIsCoveredUptoRow : OpenClaim := { program := "ytoifpjmhikgjgaa", sum := "bd03d893d6b50c00caaf1a135b519f31bc9b1e4b17ea4b7c8d987cdc1daf5648", func := "loop.example/g01343/laws.FnExactIsCovered", spec := "fnExactIsCovered", unfollowed := true, recurses := true, apart := false, narrowed := true }
def FnExactIsCoveredUptoSaid : Prop := fnExactIsCoveredUptoRow.holds Try.pinned (OpenSpec.upto fnExactIsCoveredSpec)

/-- 'laws.FnExactCoverList', WHERE WHAT IT READS IS OF BULK AT MOST 1048576: true; the input reads as it did. -/
def fnExactCoverListUptoRow : OpenClaim := { program := "ytoifpjmhikgjgaa", sum := "bd03d893d6b50c00caaf1a135b519f31bc9b1e4b17ea4b7c8d987cdc1daf5648", func := "loop.example/g01343/laws.FnExactCoverList", spec := "fnExactCoverList", unfollowed := true, recurses := true, apart := false, narrowed := true }
def FnExactCoverListUptoSaid : Prop := fnExactCoverListUptoRow.holds Try.pinned (OpenSpec.upto fnExactCoverListSpec)

/-- 'laws.FnExactDegreeAt', WHERE WHAT IT READS IS OF BULK AT MOST 1048576: true; the input reads as it did. -/
def fnExactDegreeAtUptoRow : OpenClaim := { program := "ytoifpjmhikgjgaa", sum := "bd03d893d6b50c00caaf1a135b519f31bc9b1e4b17ea4b7c8d987cdc1daf5648", func := "loop.example/g01343/laws.FnExactDegreeAt", spec := "fnExactDegreeAt", unfollowed := true, recurses := true, apart := false, narrowed := true }
def FnExactDegreeAtUptoSaid : Prop := fnExactDegreeAtUptoRow.holds Try.pinned (OpenSpec.upto fnExactDegreeAtSpec)

end Rows
end Go.Proofs.Ytoifpjmhikgjgaa
