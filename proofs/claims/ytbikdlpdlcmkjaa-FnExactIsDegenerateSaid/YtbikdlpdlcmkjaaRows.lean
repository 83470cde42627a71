/-
  No cell of these rows narrows 'for every input' (looked for: loops, veiled, ifaces, maps, wideKeys, modest, calm, conditions, laid).
  DERIVED. THE GIVEN ROWS OF THIS SEAT. 10 by the template 'for every input the law returns true; each argument reads behind the call as it read before'; 0 by the template 'total and deterministic' (their statements: YtbikdlpdlcmkjaaTotals.lean).
  GIVEN WITH THE SEED: the statements are not yours to turn. If you find one false, say at which input.
  Laid BY PROGRAM, IN A SANDBOX (cutbox-rows.mjs): the forced cells as the released guide's own fill.sh prints them over the translation 1c6097af2ce1abaa… (all of the seat's roots in one cut). By AI agents, Wed Nov 11 2026. No macro, syntax, notation, axiom, sorry.
-/
import Derived.Test.YtbikdlpdlcmkjaaChecked
import GoSem.Claim
import GoSem.ClaimJoined
import GoSem.ClaimMapViews
import Derived.JoinedTies
import Derived.KernelRfl
namespace Go.Proofs.Ytbikdlpdlcmkjaa
/- THE CELL 'sum', in the pinned program and in every row, IS THE sha256 OF THE DUMP (.gsa) THAT YtbikdlpdlcmkjaaProg.lean LOADS. Nothing in Lean hashes anything: it is a label: what it is worth is what the hold of that sum in a sandbox is worth. -/
noncomputable def Try.pinned : Pinned := { name := "ytbikdlpdlcmkjaa", sum := "1c6097af2ce1abaad4cc5599d4728c7e41f5a9760542e4deb248f87b5167a0dd", checked := Try.checked }
namespace Rows
def none {H : Type} : Left H := { results := [], args := [] }

/-- 'laws.FnExactIsProblem': WHATEVER THE INPUT: true; the input reads as it did. -/
def fnExactIsProblemSpec : ChangeSpec := { name := "fnExactIsProblem", fn := fun _ => fun
  | [d] => { results := [.lit (.bool true)], args := [d] }
  | _ => none }
def fnExactIsProblemRow : OpenClaim := { program := "ytbikdlpdlcmkjaa", sum := "1c6097af2ce1abaad4cc5599d4728c7e41f5a9760542e4deb248f87b5167a0dd", func := "loop.example/g01343/laws.FnExactIsProblem", spec := "fnExactIsProblem", plainKeys := false, apart := false }
def FnExactIsProblemSaid : Prop := fnExactIsProblemRow.holds Try.pinned (OpenSpec.ofChange fnExactIsProblemSpec)

/-- ITS FALSE NEIGHBOUR: 'it returns false'. Refute it at one input. -/
def fnExactIsProblemWrong : ChangeSpec := { name := "fnExactIsProblem", fn := fun _ => fun
  | [d] => { results := [.lit (.bool false)], args := [d] }
  | _ => none }
def FnExactIsProblemWrongFalsely : Prop := fnExactIsProblemRow.holds Try.pinned (OpenSpec.ofChange fnExactIsProblemWrong)

/-- 'laws.FnExactRenumberProblem': WHATEVER THE INPUT: true; the input reads as it did. -/
def fnExactRenumberProblemSpec : ChangeSpec := { name := "fnExactRenumberProblem", fn := fun _ => fun
  | [d1, d2] => { results := [.lit (.bool true)], args := [d1, d2] }
  | _ => none }
def fnExactRenumberProblemRow : OpenClaim := { program := "ytbikdlpdlcmkjaa", sum := "1c6097af2ce1abaad4cc5599d4728c7e41f5a9760542e4deb248f87b5167a0dd", func := "loop.example/g01343/laws.FnExactRenumberProblem", spec := "fnExactRenumberProblem", plainKeys := false, apart := false }
def FnExactRenumberProblemSaid : Prop := fnExactRenumberProblemRow.holds Try.pinned (OpenSpec.ofChange fnExactRenumberProblemSpec)

/-- ITS FALSE NEIGHBOUR: 'it returns false'. Refute it at one input. -/
def fnExactRenumberProblemWrong : ChangeSpec := { name := "fnExactRenumberProblem", fn := fun _ => fun
  | [d1, d2] => { results := [.lit (.bool false)], args := [d1, d2] }
  | _ => none }
def FnExactRenumberProblemWrongFalsely : Prop := fnExactRenumberProblemRow.holds Try.pinned (OpenSpec.ofChange fnExactRenumberProblemWrong)

/-- 'laws.FnExactPointOf': WHATEVER THE INPUT: true; the input reads as it did. -/
def fnExactPointOfSpec : ChangeSpec := { name := "fnExactPointOf", fn := fun _ => fun
  | [d1, d2] => { results := [.lit (.bool true)], args := [d1, d2] }
  | _ => none }
def fnExactPointOfRow : OpenClaim := { program := "ytbikdlpdlcmkjaa", sum := "1c6097af2ce1abaad4cc5599d4728c7e41f5a9760542e4deb248f87b5167a0dd", func := "loop.example/g01343/laws.FnExactPointOf", spec := "fnExactPointOf", unfollowed := true, recurses := true, plainKeys := false, apart := false }
def FnExactPointOfSaid : Prop := fnExactPointOfRow.holds Try.pinned (OpenSpec.ofChange fnExactPointOfSpec)

/-- ITS FALSE NEIGHBOUR: 'it returns false'. Refute it at one input. -/
def fnExactPointOfWrong : ChangeSpec := { name := "fnExactPointOf", fn := fun _ => fun
  | [d1, d2] => { results := [.lit (.bool false)], args := [d1, d2] }
  | _ => none }
def FnExactPointOfWrongFalsely : Prop := fnExactPointOfRow.holds Try.pinned (OpenSpec.ofChange fnExactPointOfWrong)

/-- 'laws.FnExactBasicSets': WHATEVER THE INPUT: true; the input reads as it did. -/
def fnExactBasicSetsSpec : ChangeSpec := { name := "fnExactBasicSets", fn := fun _ => fun
  | [d] => { results := [.lit (.bool true)], args := [d] }
  | _ => none }
def fnExactBasicSetsRow : OpenClaim := { program := "ytbikdlpdlcmkjaa", sum := "1c6097af2ce1abaad4cc5599d4728c7e41f5a9760542e4deb248f87b5167a0dd", func := "loop.example/g01343/laws.FnExactBasicSets", spec := "fnExactBasicSets", unfollowed := true, recurses := true, plainKeys := false, apart := false }
def FnExactBasicSetsSaid : Prop := fnExactBasicSetsRow.holds Try.pinned (OpenSpec.ofChange fnExactBasicSetsSpec)

/-- ITS FALSE NEIGHBOUR: 'it returns false'. Refute it at one input. -/
def fnExactBasicSetsWrong : ChangeSpec := { name := "fnExactBasicSets", fn := fun _ => fun
  | [d] => { results := [.lit (.bool false)], args := [d] }
  | _ => none }
def FnExactBasicSetsWrongFalsely : Prop := fnExactBasicSetsRow.holds Try.pinned (OpenSpec.ofChange fnExactBasicSetsWrong)

/-- 'laws.FnExactSignsOfSet': WHATEVER THE INPUT: true; the input reads as it did. -/
def fnExactSignsOfSetSpec : ChangeSpec := { name := "fnExactSignsOfSet", fn := fun _ => fun
  | [d1, d2] => { results := [.lit (.bool true)], args := [d1, d2] }
  | _ => none }
def fnExactSignsOfSetRow : OpenClaim := { program := "ytbikdlpdlcmkjaa", sum := "1c6097af2ce1abaad4cc5599d4728c7e41f5a9760542e4deb248f87b5167a0dd", func := "loop.example/g01343/laws.FnExactSignsOfSet", spec := "fnExactSignsOfSet", unfollowed := true, recurses := true, plainKeys := false, apart := false }
def FnExactSignsOfSetSaid : Prop := fnExactSignsOfSetRow.holds Try.pinned (OpenSpec.ofChange fnExactSignsOfSetSpec)

/-- ITS FALSE NEIGHBOUR: 'it returns false'. Refute it at one input. -/
def fnExactSignsOfSetWrong : ChangeSpec := { name := "fnExactSignsOfSet", fn := fun _ => fun
  | [d1, d2] => { results := [.lit (.bool false)], args := [d1, d2] }
  | _ => none }
def FnExactSignsOfSetWrongFalsely : Prop := fnExactSignsOfSetRow.holds Try.pinned (OpenSpec.ofChange fnExactSignsOfSetWrong)

/-- 'laws.FnExactSolutionOfSet': WHATEVER THE INPUT: true; the input reads as it did. -/
def fnExactSolutionOfSetSpec : ChangeSpec := { name := "fnExactSolutionOfSet", fn := fun _ => fun
  | [d1, d2] => { results := [.lit (.bool true)], args := [d1, d2] }
  | _ => none }
def fnExactSolutionOfSetRow : OpenClaim := { program := "ytbikdlpdlcmkjaa", sum := "1c6097af2ce1abaad4cc5599d4728c7e41f5a9760542e4deb248f87b5167a0dd", func := "loop.example/g01343/laws.FnExactSolutionOfSet", spec := "fnExactSolutionOfSet", unfollowed := true, recurses := true, plainKeys := false, apart := false }
def FnExactSolutionOfSetSaid : Prop := fnExactSolutionOfSetRow.holds Try.pinned (OpenSpec.ofChange fnExactSolutionOfSetSpec)

/-- ITS FALSE NEIGHBOUR: 'it returns false'. Refute it at one input. -/
def fnExactSolutionOfSetWrong : ChangeSpec := { name := "fnExactSolutionOfSet", fn := fun _ => fun
  | [d1, d2] => { results := [.lit (.bool false)], args := [d1, d2] }
  | _ => none }
def FnExactSolutionOfSetWrongFalsely : Prop := fnExactSolutionOfSetRow.holds Try.pinned (OpenSpec.ofChange fnExactSolutionOfSetWrong)

/-- 'laws.FnExactFeasibleSets': WHATEVER THE INPUT: true; the input reads as it did. -/
def fnExactFeasibleSetsSpec : ChangeSpec := { name := "fnExactFeasibleSets", fn := fun _ => fun
  | [d] => { results := [.lit (.bool true)], args := [d] }
  | _ => none }
def fnExactFeasibleSetsRow : OpenClaim := { program := "ytbikdlpdlcmkjaa", sum := "1c6097af2ce1abaad4cc5599d4728c7e41f5a9760542e4deb248f87b5167a0dd", func := "loop.example/g01343/laws.FnExactFeasibleSets", spec := "fnExactFeasibleSets", unfollowed := true, recurses := true, plainKeys := false, apart := false }
def FnExactFeasibleSetsSaid : Prop := fnExactFeasibleSetsRow.holds Try.pinned (OpenSpec.ofChange fnExactFeasibleSetsSpec)

/-- ITS FALSE NEIGHBOUR: 'it returns false'. Refute it at one input. -/
def fnExactFeasibleSetsWrong : ChangeSpec := { name := "fnExactFeasibleSets", fn := fun _ => fun
  | [d] => { results := [.lit (.bool false)], args := [d] }
  | _ => none }
def FnExactFeasibleSetsWrongFalsely : Prop := fnExactFeasibleSetsRow.holds Try.pinned (OpenSpec.ofChange fnExactFeasibleSetsWrong)

/-- 'laws.FnExactIsDegenerate': WHATEVER THE INPUT: true; the input reads as it did. -/
def fnExactIsDegenerateSpec : ChangeSpec := { name := "fnExactIsDegenerate", fn := fun _ => fun
  | [d] => { results := [.lit (.bool true)], args := [d] }
  | _ => none }
def fnExactIsDegenerateRow : OpenClaim := { program := "ytbikdlpdlcmkjaa", sum := "1c6097af2ce1abaad4cc5599d4728c7e41f5a9760542e4deb248f87b5167a0dd", func := "loop.example/g01343/laws.FnExactIsDegenerate", spec := "fnExactIsDegenerate", unfollowed := true, recurses := true, plainKeys := false, apart := false }
def FnExactIsDegenerateSaid : Prop := fnExactIsDegenerateRow.holds Try.pinned (OpenSpec.ofChange fnExactIsDegenerateSpec)

/-- ITS FALSE NEIGHBOUR: 'it returns false'. Refute it at one input. -/
def fnExactIsDegenerateWrong : ChangeSpec := { name := "fnExactIsDegenerate", fn := fun _ => fun
  | [d] => { results := [.lit (.bool false)], args := [d] }
  | _ => none }
def FnExactIsDegenerateWrongFalsely : Prop := fnExactIsDegenerateRow.holds Try.pinned (OpenSpec.ofChange fnExactIsDegenerateWrong)

/-- 'laws.FnExactSolutionsOf': WHATEVER THE INPUT: true; the input reads as it did. -/
def fnExactSolutionsOfSpec : ChangeSpec := { name := "fnExactSolutionsOf", fn := fun _ => fun
  | [d] => { results := [.lit (.bool true)], args := [d] }
  | _ => none }
def fnExactSolutionsOfRow : OpenClaim := { program := "ytbikdlpdlcmkjaa", sum := "1c6097af2ce1abaad4cc5599d4728c7e41f5a9760542e4deb248f87b5167a0dd", func := "loop.example/g01343/laws.FnExactSolutionsOf", spec := "fnExactSolutionsOf", unfollowed := true, recurses := true, plainKeys := false, apart := false }
def FnExactSolutionsOfSaid : Prop := fnExactSolutionsOfRow.holds Try.pinned (OpenSpec.ofChange fnExactSolutionsOfSpec)

/-- ITS FALSE NEIGHBOUR: 'it returns false'. Refute it at one input. -/
def fnExactSolutionsOfWrong : ChangeSpec := { name := "fnExactSolutionsOf", fn := fun _ => fun
  | [d] => { results := [.lit (.bool false)], args := [d] }
  | _ => none }
def FnExactSolutionsOfWrongFalsely : Prop := fnExactSolutionsOfRow.holds Try.pinned (OpenSpec.ofChange fnExactSolutionsOfWrong)

/-- 'laws.FnExactCountSolutions': WHATEVER THE INPUT: true; the input reads as it did. -/
def fnExactCountSolutionsSpec : ChangeSpec := { name := "fnExactCountSolutions", fn := fun _ => fun
  | [d] => { results := [.lit (.bool true)], args := [d] }
  | _ => none }
def fnExactCountSolutionsRow : OpenClaim := { program := "ytbikdlpdlcmkjaa", sum := "1c6097af2ce1abaad4cc5599d4728c7e41f5a9760542e4deb248f87b5167a0dd", func := "loop.example/g01343/laws.FnExactCountSolutions", spec := "fnExactCountSolutions", unfollowed := true, recurses := true, plainKeys := false, apart := false }
def FnExactCountSolutionsSaid : Prop := fnExactCountSolutionsRow.holds Try.pinned (OpenSpec.ofChange fnExactCountSolutionsSpec)

/-- ITS FALSE NEIGHBOUR: 'it returns false'. Refute it at one input. -/
def fnExactCountSolutionsWrong : ChangeSpec := { name := "fnExactCountSolutions", fn := fun _ => fun
  | [d] => { results := [.lit (.bool false)], args := [d] }
  | _ => none }
def FnExactCountSolutionsWrongFalsely : Prop := fnExactCountSolutionsRow.holds Try.pinned (OpenSpec.ofChange fnExactCountSolutionsWrong)

/- THE SECOND FORM. 'bulk': how many values and letters a reading holds, each counted each time it is reached (what is shared counts as often as it is met; a slice's spare places count too). A statement '..UptoSaid' is the law's where the arguments, and the package variables that the reading takes, are together of bulk at most 1048576: NARROWER than '..Said'. Prove '..Said' where nothing that the law and all that it calls make is longer than what came in: it says more and counts as full. Else prove '..UptoSaid'. A law counts once. -/
mutual
def uptoBulk {H : Type} : DataW H → Nat
  | .lit (.string bytes) => bytes.length + 1
  | .lit _ => 1
  | .nil => 1
  | .ptr d => uptoBulk d + 1
  | .slice elems spare => uptoBulkAll elems + uptoBulkAll spare + 1
  | .agg parts => uptoBulkAll parts + 1
  | .iface _ d => uptoBulk d + 1
  | .map entries => uptoBulkEntries entries + 1
  | .held _ => 1
def uptoBulkAll {H : Type} : List (DataW H) → Nat
  | [] => 0
  | d :: r => uptoBulk d + uptoBulkAll r
def uptoBulkEntries {H : Type} : List (Lit × DataW H) → Nat
  | [] => 0
  | x :: r => uptoBulkEntry x + uptoBulkEntries r
def uptoBulkEntry {H : Type} : Lit × DataW H → Nat
  | (.string bytes, d) => bytes.length + uptoBulk d + 1
  | (_, d) => uptoBulk d + 1
 end
def uptoSmall : (H : Type) → List (DataW H) → Bool := fun _ ds => decide (uptoBulkAll ds ≤ 1048576)
def OpenSpec.upto (s : _root_.Go.ChangeSpec) : _root_.Go.OpenSpec := { _root_.Go.OpenSpec.ofChange s with cond := some uptoSmall }

/-- 'laws.FnExactIsProblem', WHERE WHAT IT READS IS OF BULK AT MOST 1048576: true; the input reads as it did. -/
def fnExactIsProblemUptoRow : OpenClaim := { program := "ytbikdlpdlcmkjaa", sum := "1c6097af2ce1abaad4cc5599d4728c7e41f5a9760542e4deb248f87b5167a0dd", func := "loop.example/g01343/laws.FnExactIsProblem", spec := "fnExactIsProblem", plainKeys := false, apart := false, narrowed := true }
def FnExactIsProblemUptoSaid : Prop := fnExactIsProblemUptoRow.holds Try.pinned (OpenSpec.upto fnExactIsProblemSpec)

/-- 'laws.FnExactRenumberProblem', WHERE WHAT IT READS IS OF BULK AT MOST 1048576: true; the input reads as it did. -/
def fnExactRenumberProblemUptoRow : OpenClaim := { program := "ytbikdlpdlcmkjaa", sum := "1c6097af2ce1abaad4cc5599d4728c7e41f5a9760542e4deb248f87b5167a0dd", func := "loop.example/g01343/laws.FnExactRenumberProblem", spec := "fnExactRenumberProblem", plainKeys := false, apart := false, narrowed := true }
def FnExactRenumberProblemUptoSaid : Prop := fnExactRenumberProblemUptoRow.holds Try.pinned (OpenSpec.upto fnExactRenumberProblemSpec)

/-- 'laws.FnExactPointOf', WHERE WHAT IT READS IS OF BULK AT MOST 1048576: true; the input reads as it did. -/
def fnExactPointOfUptoRow : OpenClaim := { program := "ytbikdlpdlcmkjaa", sum := "1c6097af2ce1abaad4cc5599d4728c7e41f5a9760542e4deb248f87b5167a0dd", func := "loop.example/g01343/laws.FnExactPointOf", spec := "fnExactPointOf", unfollowed := true, recurses := true, plainKeys := false, apart := false, narrowed := true }
def FnExactPointOfUptoSaid : Prop := fnExactPointOfUptoRow.holds Try.pinned (OpenSpec.upto fnExactPointOfSpec)

/-- 'laws.FnExactBasicSets', WHERE WHAT IT READS IS OF BULK AT MOST 1048576: true; the input reads as it did. -/
def fnExactBasicSetsUptoRow : OpenClaim := { program := "ytbikdlpdlcmkjaa", sum := "1c6097af2ce1abaad4cc5599d4728c7e41f5a9760542e4deb248f87b5167a0dd", func := "loop.example/g01343/laws.FnExactBasicSets", spec := "fnExactBasicSets", unfollowed := true, recurses := true, plainKeys := false, apart := false, narrowed := true }
def FnExactBasicSetsUptoSaid : Prop := fnExactBasicSetsUptoRow.holds Try.pinned (OpenSpec.upto fnExactBasicSetsSpec)

/-- 'laws.FnExactSignsOfSet', WHERE WHAT IT READS IS OF BULK AT MOST 1048576: true; the input reads as it did. -/
def fnExactSignsOfSetUptoRow : OpenClaim := { program := "ytbikdlpdlcmkjaa", sum := "1c6097af2ce1abaad4cc5599d4728c7e41f5a9760542e4deb248f87b5167a0dd", func := "loop.example/g01343/laws.FnExactSignsOfSet", spec := "fnExactSignsOfSet", unfollowed := true, recurses := true, plainKeys := false, apart := false, narrowed := true }
def FnExactSignsOfSetUptoSaid : Prop := fnExactSignsOfSetUptoRow.holds Try.pinned (OpenSpec.upto fnExactSignsOfSetSpec)

/-- 'laws.FnExactSolutionOfSet', WHERE WHAT IT READS IS OF BULK AT MOST 1048576: true; the input reads as it did. -/
def fnExactSolutionOfSetUptoRow : OpenClaim := { program := "ytbikdlpdlcmkjaa", sum := "1c6097af2ce1abaad4cc5599d4728c7e41f5a9760542e4deb248f87b5167a0dd", func := "loop.example/g01343/laws.FnExactSolutionOfSet", spec := "fnExactSolutionOfSet", unfollowed := true, recurses := true, plainKeys := false, apart := false, narrowed := true }
def FnExactSolutionOfSetUptoSaid : Prop := fnExactSolutionOfSetUptoRow.holds Try.pinned (OpenSpec.upto fnExactSolutionOfSetSpec)

/-- 'laws.FnExactFeasibleSets', WHERE WHAT IT READS IS OF BULK AT MOST 1048576: true; the input reads as it did. -/
def fnExactFeasibleSetsUptoRow : OpenClaim := { program := "ytbikdlpdlcmkjaa", sum := "1c6097af2ce1abaad4cc5599d4728c7e41f5a9760542e4deb248f87b5167a0dd", func := "loop.example/g01343/laws.FnExactFeasibleSets", spec := "fnExactFeasibleSets", unfollowed := true, recurses := true, plainKeys := false, apart := false, narrowed := true }
def FnExactFeasibleSetsUptoSaid : Prop := fnExactFeasibleSetsUptoRow.holds Try.pinned (OpenSpec.upto fnExactFeasibleSetsSpec)

/-- 'laws.FnExactIsDegenerate', WHERE WHAT IT READS IS OF BULK AT MOST 1048576: true; the input reads as it did. -/
def fnExactIsDegenerateUptoRow : OpenClaim := { program := "ytbikdlpdlcmkjaa", sum := "1c6097af2ce1abaad4cc5599d4728c7e41f5a9760542e4deb248f87b5167a0dd", func := "loop.example/g01343/laws.FnExactIsDegenerate", spec := "fnExactIsDegenerate", unfollowed := true, recurses := true, plainKeys := false, apart := false, narrowed := true }
def FnExactIsDegenerateUptoSaid : Prop := fnExactIsDegenerateUptoRow.holds Try.pinned (OpenSpec.upto fnExactIsDegenerateSpec)

/-- 'laws.FnExactSolutionsOf', WHERE WHAT IT READS IS OF BULK AT MOST 1048576: true; the input reads as it did. -/
def fnExactSolutionsOfUptoRow : OpenClaim := { program := "ytbikdlpdlcmkjaa", sum := "1c6097af2ce1abaad4cc5599d4728c7e41f5a9760542e4deb248f87b5167a0dd", func := "loop.example/g01343/laws.FnExactSolutionsOf", spec := "fnExactSolutionsOf", unfollowed := true, recurses := true, plainKeys := false, apart := false, narrowed := true }
def FnExactSolutionsOfUptoSaid : Prop := fnExactSolutionsOfUptoRow.holds Try.pinned (OpenSpec.upto fnExactSolutionsOfSpec)

/-- 'laws.FnExactCountSolutions', WHERE WHAT IT READS IS OF BULK AT MOST 1048576: true; the input reads as it did. -/
def fnExactCountSolutionsUptoRow : OpenClaim := { program := "ytbikdlpdlcmkjaa", sum := "1c6097af2ce1abaad4cc5599d4728c7e41f5a9760542e4deb248f87b5167a0dd", func := "loop.example/g01343/laws.FnExactCountSolutions", spec := "fnExactCountSolutions", unfollowed := true, recurses := true, plainKeys := false, apart := false, narrowed := true }
def FnExactCountSolutionsUptoSaid : Prop := fnExactCountSolutionsUptoRow.holds Try.pinned (OpenSpec.upto fnExactCountSolutionsSpec)

end Rows
end Go.Proofs.Ytbikdlpdlcmkjaa
