/-
  No cell of these rows narrows 'for every input' (looked for: loops, veiled, ifaces, maps, wideKeys, modest, calm, conditions, laid).
  DERIVED. THE GIVEN ROWS OF THIS SEAT. 12 by the template 'for every input the law returns true; each argument reads behind the call as it read before'; 0 by the template 'total and deterministic' (their statements: YtiojmfikokecbaaTotals.lean).
  GIVEN WITH THE SEED: the statements are not yours to turn. If you find one false, say at which input.
  Laid BY PROGRAM, IN A SANDBOX (cutbox-rows.mjs): the forced cells as the released guide's own fill.sh prints them over the translation 9750843d08577766… (all of the seat's roots in one cut). By AI agents, Wed Nov 11 2026. No macro, syntax, notation, axiom, sorry.
-/
import Derived.Test.YtiojmfikokecbaaChecked
import GoSem.Claim
import GoSem.ClaimJoined
import GoSem.ClaimMapViews
import Derived.JoinedTies
import Derived.KernelRfl
namespace Go.Proofs.Ytiojmfikokecbaa
/- THE CELL 'sum', in the pinned program and in every row, IS THE sha256 OF THE DUMP (.gsa) THAT YtiojmfikokecbaaProg.lean LOADS. Nothing in Lean hashes anything: it is a label: what it is worth is what the hold of that sum in a sandbox is worth. -/
noncomputable def Try.pinned : Pinned := { name := "ytiojmfikokecbaa", sum := "9750843d0857776630186d68ac96ea4a71afd5e63e1790bd324815290fd99409", checked := Try.checked }
namespace Rows
def none {H : Type} : Left H := { results := [], args := [] }

/-- 'laws.FnExactScaleRow': WHATEVER THE INPUT: true; the input reads as it did. -/
def fnExactScaleRowSpec : ChangeSpec := { name := "fnExactScaleRow", fn := fun _ => fun
  | [d1, d2, d3] => { results := [.lit (.bool true)], args := [d1, d2, d3] }
  | _ => none }
def fnExactScaleRowRow : OpenClaim := { program := "ytiojmfikokecbaa", sum := "9750843d0857776630186d68ac96ea4a71afd5e63e1790bd324815290fd99409", func := "loop.example/g01343/laws.FnExactScaleRow", spec := "fnExactScaleRow", apart := false }
def FnExactScaleRowSaid : Prop := fnExactScaleRowRow.holds Try.pinned (OpenSpec.ofChange fnExactScaleRowSpec)

/-- ITS FALSE NEIGHBOUR: 'it returns false'. Refute it at one input. -/
def fnExactScaleRowWrong : ChangeSpec := { name := "fnExactScaleRow", fn := fun _ => fun
  | [d1, d2, d3] => { results := [.lit (.bool false)], args := [d1, d2, d3] }
  | _ => none }
def FnExactScaleRowWrongFalsely : Prop := fnExactScaleRowRow.holds Try.pinned (OpenSpec.ofChange fnExactScaleRowWrong)

/-- 'laws.FnExactColumnsOf': WHATEVER THE INPUT: true; the input reads as it did. -/
def fnExactColumnsOfSpec : ChangeSpec := { name := "fnExactColumnsOf", fn := fun _ => fun
  | [d1, d2] => { results := [.lit (.bool true)], args := [d1, d2] }
  | _ => none }
def fnExactColumnsOfRow : OpenClaim := { program := "ytiojmfikokecbaa", sum := "9750843d0857776630186d68ac96ea4a71afd5e63e1790bd324815290fd99409", func := "loop.example/g01343/laws.FnExactColumnsOf", spec := "fnExactColumnsOf", unfollowed := true, recurses := true, apart := false }
def FnExactColumnsOfSaid : Prop := fnExactColumnsOfRow.holds Try.pinned (OpenSpec.ofChange fnExactColumnsOfSpec)

/-- ITS FALSE NEIGHBOUR: 'it returns false'. Refute it at one input. -/
def fnExactColumnsOfWrong : ChangeSpec := { name := "fnExactColumnsOf", fn := fun _ => fun
  | [d1, d2] => { results := [.lit (.bool false)], args := [d1, d2] }
  | _ => none }
def FnExactColumnsOfWrongFalsely : Prop := fnExactColumnsOfRow.holds Try.pinned (OpenSpec.ofChange fnExactColumnsOfWrong)

/-- 'laws.FnExactDeterminantOf': WHATEVER THE INPUT: true; the input reads as it did. -/
def fnExactDeterminantOfSpec : ChangeSpec := { name := "fnExactDeterminantOf", fn := fun _ => fun
  | [d1, d2] => { results := [.lit (.bool true)], args := [d1, d2] }
  | _ => none }
def fnExactDeterminantOfRow : OpenClaim := { program := "ytiojmfikokecbaa", sum := "9750843d0857776630186d68ac96ea4a71afd5e63e1790bd324815290fd99409", func := "loop.example/g01343/laws.FnExactDeterminantOf", spec := "fnExactDeterminantOf", unfollowed := true, recurses := true, apart := false }
def FnExactDeterminantOfSaid : Prop := fnExactDeterminantOfRow.holds Try.pinned (OpenSpec.ofChange fnExactDeterminantOfSpec)

/-- ITS FALSE NEIGHBOUR: 'it returns false'. Refute it at one input. -/
def fnExactDeterminantOfWrong : ChangeSpec := { name := "fnExactDeterminantOf", fn := fun _ => fun
  | [d1, d2] => { results := [.lit (.bool false)], args := [d1, d2] }
  | _ => none }
def FnExactDeterminantOfWrongFalsely : Prop := fnExactDeterminantOfRow.holds Try.pinned (OpenSpec.ofChange fnExactDeterminantOfWrong)

/-- 'laws.FnExactPointOf': WHATEVER THE INPUT: true; the input reads as it did. -/
def fnExactPointOfSpec : ChangeSpec := { name := "fnExactPointOf", fn := fun _ => fun
  | [d1, d2] => { results := [.lit (.bool true)], args := [d1, d2] }
  | _ => none }
def fnExactPointOfRow : OpenClaim := { program := "ytiojmfikokecbaa", sum := "9750843d0857776630186d68ac96ea4a71afd5e63e1790bd324815290fd99409", func := "loop.example/g01343/laws.FnExactPointOf", spec := "fnExactPointOf", unfollowed := true, recurses := true, apart := false }
def FnExactPointOfSaid : Prop := fnExactPointOfRow.holds Try.pinned (OpenSpec.ofChange fnExactPointOfSpec)

/-- ITS FALSE NEIGHBOUR: 'it returns false'. Refute it at one input. -/
def fnExactPointOfWrong : ChangeSpec := { name := "fnExactPointOf", fn := fun _ => fun
  | [d1, d2] => { results := [.lit (.bool false)], args := [d1, d2] }
  | _ => none }
def FnExactPointOfWrongFalsely : Prop := fnExactPointOfRow.holds Try.pinned (OpenSpec.ofChange fnExactPointOfWrong)

/-- 'laws.FnExactBasicSets': WHATEVER THE INPUT: true; the input reads as it did. -/
def fnExactBasicSetsSpec : ChangeSpec := { name := "fnExactBasicSets", fn := fun _ => fun
  | [d] => { results := [.lit (.bool true)], args := [d] }
  | _ => none }
def fnExactBasicSetsRow : OpenClaim := { program := "ytiojmfikokecbaa", sum := "9750843d0857776630186d68ac96ea4a71afd5e63e1790bd324815290fd99409", func := "loop.example/g01343/laws.FnExactBasicSets", spec := "fnExactBasicSets", unfollowed := true, recurses := true, apart := false }
def FnExactBasicSetsSaid : Prop := fnExactBasicSetsRow.holds Try.pinned (OpenSpec.ofChange fnExactBasicSetsSpec)

/-- ITS FALSE NEIGHBOUR: 'it returns false'. Refute it at one input. -/
def fnExactBasicSetsWrong : ChangeSpec := { name := "fnExactBasicSets", fn := fun _ => fun
  | [d] => { results := [.lit (.bool false)], args := [d] }
  | _ => none }
def FnExactBasicSetsWrongFalsely : Prop := fnExactBasicSetsRow.holds Try.pinned (OpenSpec.ofChange fnExactBasicSetsWrong)

/-- 'laws.FnExactSignsOfSet': WHATEVER THE INPUT: true; the input reads as it did. -/
def fnExactSignsOfSetSpec : ChangeSpec := { name := "fnExactSignsOfSet", fn := fun _ => fun
  | [d1, d2] => { results := [.lit (.bool true)], args := [d1, d2] }
  | _ => none }
def fnExactSignsOfSetRow : OpenClaim := { program := "ytiojmfikokecbaa", sum := "9750843d0857776630186d68ac96ea4a71afd5e63e1790bd324815290fd99409", func := "loop.example/g01343/laws.FnExactSignsOfSet", spec := "fnExactSignsOfSet", unfollowed := true, recurses := true, apart := false }
def FnExactSignsOfSetSaid : Prop := fnExactSignsOfSetRow.holds Try.pinned (OpenSpec.ofChange fnExactSignsOfSetSpec)

/-- ITS FALSE NEIGHBOUR: 'it returns false'. Refute it at one input. -/
def fnExactSignsOfSetWrong : ChangeSpec := { name := "fnExactSignsOfSet", fn := fun _ => fun
  | [d1, d2] => { results := [.lit (.bool false)], args := [d1, d2] }
  | _ => none }
def FnExactSignsOfSetWrongFalsely : Prop := fnExactSignsOfSetRow.holds Try.pinned (OpenSpec.ofChange fnExactSignsOfSetWrong)

/-- 'laws.FnExactSolutionOfSet': WHATEVER THE INPUT: true; the input reads as it did. -/
def fnExactSolutionOfSetSpec : ChangeSpec := { name := "fnExactSolutionOfSet", fn := fun _ => fun
  | [d1, d2] => { results := [.lit (.bool true)], args := [d1, d2] }
  | _ => none }
def fnExactSolutionOfSetRow : OpenClaim := { program := "ytiojmfikokecbaa", sum := "9750843d0857776630186d68ac96ea4a71afd5e63e1790bd324815290fd99409", func := "loop.example/g01343/laws.FnExactSolutionOfSet", spec := "fnExactSolutionOfSet", unfollowed := true, recurses := true, apart := false }
def FnExactSolutionOfSetSaid : Prop := fnExactSolutionOfSetRow.holds Try.pinned (OpenSpec.ofChange fnExactSolutionOfSetSpec)

/-- ITS FALSE NEIGHBOUR: 'it returns false'. Refute it at one input. -/
def fnExactSolutionOfSetWrong : ChangeSpec := { name := "fnExactSolutionOfSet", fn := fun _ => fun
  | [d1, d2] => { results := [.lit (.bool false)], args := [d1, d2] }
  | _ => none }
def FnExactSolutionOfSetWrongFalsely : Prop := fnExactSolutionOfSetRow.holds Try.pinned (OpenSpec.ofChange fnExactSolutionOfSetWrong)

/-- 'laws.FnExactIsDegenerate': WHATEVER THE INPUT: true; the input reads as it did. -/
def fnExactIsDegenerateSpec : ChangeSpec := { name := "fnExactIsDegenerate", fn := fun _ => fun
  | [d] => { results := [.lit (.bool true)], args := [d] }
  | _ => none }
def fnExactIsDegenerateRow : OpenClaim := { program := "ytiojmfikokecbaa", sum := "9750843d0857776630186d68ac96ea4a71afd5e63e1790bd324815290fd99409", func := "loop.example/g01343/laws.FnExactIsDegenerate", spec := "fnExactIsDegenerate", unfollowed := true, recurses := true, apart := false }
def FnExactIsDegenerateSaid : Prop := fnExactIsDegenerateRow.holds Try.pinned (OpenSpec.ofChange fnExactIsDegenerateSpec)

/-- ITS FALSE NEIGHBOUR: 'it returns false'. Refute it at one input. -/
def fnExactIsDegenerateWrong : ChangeSpec := { name := "fnExactIsDegenerate", fn := fun _ => fun
  | [d] => { results := [.lit (.bool false)], args := [d] }
  | _ => none }
def FnExactIsDegenerateWrongFalsely : Prop := fnExactIsDegenerateRow.holds Try.pinned (OpenSpec.ofChange fnExactIsDegenerateWrong)

/-- 'laws.FnExactFeasibleSets': WHATEVER THE INPUT: true; the input reads as it did. -/
def fnExactFeasibleSetsSpec : ChangeSpec := { name := "fnExactFeasibleSets", fn := fun _ => fun
  | [d] => { results := [.lit (.bool true)], args := [d] }
  | _ => none }
def fnExactFeasibleSetsRow : OpenClaim := { program := "ytiojmfikokecbaa", sum := "9750843d0857776630186d68ac96ea4a71afd5e63e1790bd324815290fd99409", func := "loop.example/g01343/laws.FnExactFeasibleSets", spec := "fnExactFeasibleSets", unfollowed := true, recurses := true, apart := false }
def FnExactFeasibleSetsSaid : Prop := fnExactFeasibleSetsRow.holds Try.pinned (OpenSpec.ofChange fnExactFeasibleSetsSpec)

/-- ITS FALSE NEIGHBOUR: 'it returns false'. Refute it at one input. -/
def fnExactFeasibleSetsWrong : ChangeSpec := { name := "fnExactFeasibleSets", fn := fun _ => fun
  | [d] => { results := [.lit (.bool false)], args := [d] }
  | _ => none }
def FnExactFeasibleSetsWrongFalsely : Prop := fnExactFeasibleSetsRow.holds Try.pinned (OpenSpec.ofChange fnExactFeasibleSetsWrong)

/-- 'laws.FnExactMinorBy': WHATEVER THE INPUT: true; the input reads as it did. -/
def fnExactMinorBySpec : ChangeSpec := { name := "fnExactMinorBy", fn := fun _ => fun
  | [d1, d2, d3] => { results := [.lit (.bool true)], args := [d1, d2, d3] }
  | _ => none }
def fnExactMinorByRow : OpenClaim := { program := "ytiojmfikokecbaa", sum := "9750843d0857776630186d68ac96ea4a71afd5e63e1790bd324815290fd99409", func := "loop.example/g01343/laws.FnExactMinorBy", spec := "fnExactMinorBy", unfollowed := true, recurses := true, apart := false }
def FnExactMinorBySaid : Prop := fnExactMinorByRow.holds Try.pinned (OpenSpec.ofChange fnExactMinorBySpec)

/-- ITS FALSE NEIGHBOUR: 'it returns false'. Refute it at one input. -/
def fnExactMinorByWrong : ChangeSpec := { name := "fnExactMinorBy", fn := fun _ => fun
  | [d1, d2, d3] => { results := [.lit (.bool false)], args := [d1, d2, d3] }
  | _ => none }
def FnExactMinorByWrongFalsely : Prop := fnExactMinorByRow.holds Try.pinned (OpenSpec.ofChange fnExactMinorByWrong)

/-- 'laws.FnExactMinorOf': WHATEVER THE INPUT: true; the input reads as it did. -/
def fnExactMinorOfSpec : ChangeSpec := { name := "fnExactMinorOf", fn := fun _ => fun
  | [d1, d2] => { results := [.lit (.bool true)], args := [d1, d2] }
  | _ => none }
def fnExactMinorOfRow : OpenClaim := { program := "ytiojmfikokecbaa", sum := "9750843d0857776630186d68ac96ea4a71afd5e63e1790bd324815290fd99409", func := "loop.example/g01343/laws.FnExactMinorOf", spec := "fnExactMinorOf", unfollowed := true, recurses := true, apart := false }
def FnExactMinorOfSaid : Prop := fnExactMinorOfRow.holds Try.pinned (OpenSpec.ofChange fnExactMinorOfSpec)

/-- ITS FALSE NEIGHBOUR: 'it returns false'. Refute it at one input. -/
def fnExactMinorOfWrong : ChangeSpec := { name := "fnExactMinorOf", fn := fun _ => fun
  | [d1, d2] => { results := [.lit (.bool false)], args := [d1, d2] }
  | _ => none }
def FnExactMinorOfWrongFalsely : Prop := fnExactMinorOfRow.holds Try.pinned (OpenSpec.ofChange fnExactMinorOfWrong)

/-- 'laws.FnExactCountNegative': WHATEVER THE INPUT: true; the input reads as it did. -/
def fnExactCountNegativeSpec : ChangeSpec := { name := "fnExactCountNegative", fn := fun _ => fun
  | [d] => { results := [.lit (.bool true)], args := [d] }
  | _ => none }
def fnExactCountNegativeRow : OpenClaim := { program := "ytiojmfikokecbaa", sum := "9750843d0857776630186d68ac96ea4a71afd5e63e1790bd324815290fd99409", func := "loop.example/g01343/laws.FnExactCountNegative", spec := "fnExactCountNegative", unfollowed := true, recurses := true, apart := false }
def FnExactCountNegativeSaid : Prop := fnExactCountNegativeRow.holds Try.pinned (OpenSpec.ofChange fnExactCountNegativeSpec)

/-- ITS FALSE NEIGHBOUR: 'it returns false'. Refute it at one input. -/
def fnExactCountNegativeWrong : ChangeSpec := { name := "fnExactCountNegative", fn := fun _ => fun
  | [d] => { results := [.lit (.bool false)], args := [d] }
  | _ => none }
def FnExactCountNegativeWrongFalsely : Prop := fnExactCountNegativeRow.holds Try.pinned (OpenSpec.ofChange fnExactCountNegativeWrong)

/- THE SECOND FORM. 'bulk': how many values and letters a reading holds, each counted each time it is reached (what is shared counts as often as it is met; a slice's spare places count too). A statement '..UptoSaid' is the law's where the arguments, and the package variables that the reading takes, are together of bulk at most 1048576: NARROWER than '..Said'. Prove '..Said' where nothing that the law and all that it calls make is longer than what came in: it says more and counts as full. Else prove '..UptoSaid'. A law counts once. -/
mutual
def uptoBulk {H : Type} : DataW H → Nat
  | .lit (.string bytes) => bytes.length + 1
  | .lit _ => 1
  | .nil => 1
  | .ptr d => uptoBulk d + 1
  | .slice elems spare => uptoBulkAll elems + uptoBulkAll spare + 1
  | .agg parts => uptoBulkAll parts + 1
  | .iface _ d => uptoBulk d + 1
  | .map entries => uptoBulkEntries entries + 1
  | .held _ => 1
def uptoBulkAll {H : Type} : List (DataW H) → Nat
  | [] => 0
  | d :: r => uptoBulk d + uptoBulkAll r
def uptoBulkEntries {H : Type} : List (Lit × DataW H) → Nat
  | [] => 0
  | x :: r => uptoBulkEntry x + uptoBulkEntries r
def uptoBulkEntry {H : Type} : Lit × DataW H → Nat
  | (.string bytes, d) => bytes.length + uptoBulk d + 1
  | (_, d) => uptoBulk d + 1
 end
def uptoSmall : (H : Type) → List (DataW H) → Bool := fun _ ds => decide (uptoBulkAll ds ≤ 1048576)
def OpenSpec.upto (s : _root_.Go.ChangeSpec) : _root_.Go.OpenSpec := { _root_.Go.OpenSpec.ofChange s with cond := some uptoSmall }

/-- 'laws.FnExactScaleRow', WHERE WHAT IT READS IS OF BULK AT MOST 1048576: true; the input reads as it did. -/
def fnExactScaleRowUptoRow : OpenClaim := { program := "ytiojmfikokecbaa", sum := "9750843d0857776630186d68ac96ea4a71afd5e63e1790bd324815290fd99409", func := "loop.example/g01343/laws.FnExactScaleRow", spec := "fnExactScaleRow", apart := false, narrowed := true }
def FnExactScaleRowUptoSaid : Prop := fnExactScaleRowUptoRow.holds Try.pinned (OpenSpec.upto fnExactScaleRowSpec)

/-- 'laws.FnExactColumnsOf', WHERE WHAT IT READS IS OF BULK AT MOST 1048576: true; the input reads as it did. -/
def fnExactColumnsOfUptoRow : OpenClaim := { program := "ytiojmfikokecbaa", sum := "9750843d0857776630186d68ac96ea4a71afd5e63e1790bd324815290fd99409", func := "loop.example/g01343/laws.FnExactColumnsOf", spec := "fnExactColumnsOf", unfollowed := true, recurses := true, apart := false, narrowed := true }
def FnExactColumnsOfUptoSaid : Prop := fnExactColumnsOfUptoRow.holds Try.pinned (OpenSpec.upto fnExactColumnsOfSpec)

/-- 'laws.FnExactDeterminantOf', WHERE WHAT IT READS IS OF BULK AT MOST 1048576: true; the input reads as it did. -/
def fnExactDeterminantOfUptoRow : OpenClaim := { program := "ytiojmfikokecbaa", sum := "9750843d0857776630186d68ac96ea4a71afd5e63e1790bd324815290fd99409", func := "loop.example/g01343/laws.FnExactDeterminantOf", spec := "fnExactDeterminantOf", unfollowed := true, recurses := true, apart := false, narrowed := true }
def FnExactDeterminantOfUptoSaid : Prop := fnExactDeterminantOfUptoRow.holds Try.pinned (OpenSpec.upto fnExactDeterminantOfSpec)

/-- 'laws.FnExactPointOf', WHERE WHAT IT READS IS OF BULK AT MOST 1048576: true; the input reads as it did. -/
def fnExactPointOfUptoRow : OpenClaim := { program := "ytiojmfikokecbaa", sum := "9750843d0857776630186d68ac96ea4a71afd5e63e1790bd324815290fd99409", func := "loop.example/g01343/laws.FnExactPointOf", spec := "fnExactPointOf", unfollowed := true, recurses := true, apart := false, narrowed := true }
def FnExactPointOfUptoSaid : Prop := fnExactPointOfUptoRow.holds Try.pinned (OpenSpec.upto fnExactPointOfSpec)

/-- 'laws.FnExactBasicSets', WHERE WHAT IT READS IS OF BULK AT MOST 1048576: true; the input reads as it did. -/
def fnExactBasicSetsUptoRow : OpenClaim := { program := "ytiojmfikokecbaa", sum := "9750843d0857776630186d68ac96ea4a71afd5e63e1790bd324815290fd99409", func := "loop.example/g01343/laws.FnExactBasicSets", spec := "fnExactBasicSets", unfollowed := true, recurses := true, apart := false, narrowed := true }
def FnExactBasicSetsUptoSaid : Prop := fnExactBasicSetsUptoRow.holds Try.pinned (OpenSpec.upto fnExactBasicSetsSpec)

/-- 'laws.FnExactSignsOfSet', WHERE WHAT IT READS IS OF BULK AT MOST 1048576: true; the input reads as it did. -/
def fnExactSignsOfSetUptoRow : OpenClaim := { program := "ytiojmfikokecbaa", sum := "9750843d0857776630186d68ac96ea4a71afd5e63e1790bd324815290fd99409", func := "loop.example/g01343/laws.FnExactSignsOfSet", spec := "fnExactSignsOfSet", unfollowed := true, recurses := true, apart := false, narrowed := true }
def FnExactSignsOfSetUptoSaid : Prop := fnExactSignsOfSetUptoRow.holds Try.pinned (OpenSpec.upto fnExactSignsOfSetSpec)

/-- 'laws.FnExactSolutionOfSet', WHERE WHAT IT READS IS OF BULK AT MOST 1048576: true; the input reads as it did. -/
def fnExactSolutionOfSetUptoRow : OpenClaim := { program := "ytiojmfikokecbaa", sum := "9750843d0857776630186d68ac96ea4a71afd5e63e1790bd324815290fd99409", func := "loop.example/g01343/laws.FnExactSolutionOfSet", spec := "fnExactSolutionOfSet", unfollowed := true, recurses := true, apart := false, narrowed := true }
def FnExactSolutionOfSetUptoSaid : Prop := fnExactSolutionOfSetUptoRow.holds Try.pinned (OpenSpec.upto fnExactSolutionOfSetSpec)

/-- 'laws.FnExactIsDegenerate', WHERE WHAT IT READS IS OF BULK AT MOST 1048576: true; the input reads as it did. -/
def fnExactIsDegenerateUptoRow : OpenClaim := { program := "ytiojmfikokecbaa", sum := "9750843d0857776630186d68ac96ea4a71afd5e63e1790bd324815290fd99409", func := "loop.example/g01343/laws.FnExactIsDegenerate", spec := "fnExactIsDegenerate", unfollowed := true, recurses := true, apart := false, narrowed := true }
def FnExactIsDegenerateUptoSaid : Prop := fnExactIsDegenerateUptoRow.holds Try.pinned (OpenSpec.upto fnExactIsDegenerateSpec)

/-- 'laws.FnExactFeasibleSets', WHERE WHAT IT READS IS OF BULK AT MOST 1048576: true; the input reads as it did. -/
def fnExactFeasibleSetsUptoRow : OpenClaim := { program := "ytiojmfikokecbaa", sum := "9750843d0857776630186d68ac96ea4a71afd5e63e1790bd324815290fd99409", func := "loop.example/g01343/laws.FnExactFeasibleSets", spec := "fnExactFeasibleSets", unfollowed := true, recurses := true, apart := false, narrowed := true }
def FnExactFeasibleSetsUptoSaid : Prop := fnExactFeasibleSetsUptoRow.holds Try.pinned (OpenSpec.upto fnExactFeasibleSetsSpec)

/-- 'laws.FnExactMinorBy', WHERE WHAT IT READS IS OF BULK AT MOST 1048576: true; the input reads as it did. -/
def fnExactMinorByUptoRow : OpenClaim := { program := "ytiojmfikokecbaa", sum := "9750843d0857776630186d68ac96ea4a71afd5e63e1790bd324815290fd99409", func := "loop.example/g01343/laws.FnExactMinorBy", spec := "fnExactMinorBy", unfollowed := true, recurses := true, apart := false, narrowed := true }
def FnExactMinorByUptoSaid : Prop := fnExactMinorByUptoRow.holds Try.pinned (OpenSpec.upto fnExactMinorBySpec)

/-- 'laws.FnExactMinorOf', WHERE WHAT IT READS IS OF BULK AT MOST 1048576: true; the input reads as it did. -/
def fnExactMinorOfUptoRow : OpenClaim := { program := "ytiojmfikokecbaa", sum := "9750843d0857776630186d68ac96ea4a71afd5e63e1790bd324815290fd99409", func := "loop.example/g01343/laws.FnExactMinorOf", spec := "fnExactMinorOf", unfollowed := true, recurses := true, apart := false, narrowed := true }
def FnExactMinorOfUptoSaid : Prop := fnExactMinorOfUptoRow.holds Try.pinned (OpenSpec.upto fnExactMinorOfSpec)

/-- 'laws.FnExactCountNegative', WHERE WHAT IT READS IS OF BULK AT MOST 1048576: true; the input reads as it did. -/
def fnExactCountNegativeUptoRow : OpenClaim := { program := "ytiojmfikokecbaa", sum := "9750843d0857776630186d68ac96ea4a71afd5e63e1790bd324815290fd99409", func := "loop.example/g01343/laws.FnExactCountNegative", spec := "fnExactCountNegative", unfollowed := true, recurses := true, apart := false, narrowed := true }
def FnExactCountNegativeUptoSaid : Prop := fnExactCountNegativeUptoRow.holds Try.pinned (OpenSpec.upto fnExactCountNegativeSpec)

end Rows
end Go.Proofs.Ytiojmfikokecbaa
