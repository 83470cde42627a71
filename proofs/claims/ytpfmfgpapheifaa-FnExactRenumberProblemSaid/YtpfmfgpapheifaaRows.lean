/-
  No cell of these rows narrows 'for every input' (looked for: loops, veiled, ifaces, maps, wideKeys, modest, calm, conditions, laid).
  DERIVED. THE GIVEN ROWS OF THIS SEAT. 8 by the template 'for every input the law returns true; each argument reads behind the call as it read before'; 0 by the template 'total and deterministic' (their statements: YtpfmfgpapheifaaTotals.lean).
  GIVEN WITH THE SEED: the statements are not yours to turn. If you find one false, say at which input.
  Laid BY PROGRAM, IN A SANDBOX (cutbox-rows.mjs): the forced cells as the released guide's own fill.sh prints them over the translation 9e61b00a85769e04… (all of the seat's roots in one cut). By AI agents, Wed Nov 11 2026. No macro, syntax, notation, axiom, sorry.
-/
import Derived.Test.YtpfmfgpapheifaaChecked
import GoSem.Claim
import GoSem.ClaimJoined
import GoSem.ClaimMapViews
import Derived.JoinedTies
import Derived.KernelRfl
namespace Go.Proofs.Ytpfmfgpapheifaa
/- THE CELL 'sum', in the pinned program and in every row, IS THE sha256 OF THE DUMP (.gsa) THAT YtpfmfgpapheifaaProg.lean LOADS. Nothing in Lean hashes anything: it is a label: what it is worth is what the hold of that sum in a sandbox is worth. -/
noncomputable def Try.pinned : Pinned := { name := "ytpfmfgpapheifaa", sum := "9e61b00a85769e0445d70a9bac31b1c7613b87d2b456170bc20340c5ad54cba0", checked := Try.checked }
namespace Rows
def none {H : Type} : Left H := { results := [], args := [] }

/-- 'laws.FnExactIsProblem': WHATEVER THE INPUT: true; the input reads as it did. -/
def fnExactIsProblemSpec : ChangeSpec := { name := "fnExactIsProblem", fn := fun _ => fun
  | [d] => { results := [.lit (.bool true)], args := [d] }
  | _ => none }
def fnExactIsProblemRow : OpenClaim := { program := "ytpfmfgpapheifaa", sum := "9e61b00a85769e0445d70a9bac31b1c7613b87d2b456170bc20340c5ad54cba0", func := "loop.example/g01343/laws.FnExactIsProblem", spec := "fnExactIsProblem", plainKeys := false, apart := false }
def FnExactIsProblemSaid : Prop := fnExactIsProblemRow.holds Try.pinned (OpenSpec.ofChange fnExactIsProblemSpec)

/-- ITS FALSE NEIGHBOUR: 'it returns false'. Refute it at one input. -/
def fnExactIsProblemWrong : ChangeSpec := { name := "fnExactIsProblem", fn := fun _ => fun
  | [d] => { results := [.lit (.bool false)], args := [d] }
  | _ => none }
def FnExactIsProblemWrongFalsely : Prop := fnExactIsProblemRow.holds Try.pinned (OpenSpec.ofChange fnExactIsProblemWrong)

/-- 'laws.FnExactColumnsOf': WHATEVER THE INPUT: true; the input reads as it did. -/
def fnExactColumnsOfSpec : ChangeSpec := { name := "fnExactColumnsOf", fn := fun _ => fun
  | [d1, d2] => { results := [.lit (.bool true)], args := [d1, d2] }
  | _ => none }
def fnExactColumnsOfRow : OpenClaim := { program := "ytpfmfgpapheifaa", sum := "9e61b00a85769e0445d70a9bac31b1c7613b87d2b456170bc20340c5ad54cba0", func := "loop.example/g01343/laws.FnExactColumnsOf", spec := "fnExactColumnsOf", unfollowed := true, recurses := true, plainKeys := false, apart := false }
def FnExactColumnsOfSaid : Prop := fnExactColumnsOfRow.holds Try.pinned (OpenSpec.ofChange fnExactColumnsOfSpec)

/-- ITS FALSE NEIGHBOUR: 'it returns false'. Refute it at one input. -/
def fnExactColumnsOfWrong : ChangeSpec := { name := "fnExactColumnsOf", fn := fun _ => fun
  | [d1, d2] => { results := [.lit (.bool false)], args := [d1, d2] }
  | _ => none }
def FnExactColumnsOfWrongFalsely : Prop := fnExactColumnsOfRow.holds Try.pinned (OpenSpec.ofChange fnExactColumnsOfWrong)

/-- 'laws.FnExactDeterminantOf': WHATEVER THE INPUT: true; the input reads as it did. -/
def fnExactDeterminantOfSpec : ChangeSpec := { name := "fnExactDeterminantOf", fn := fun _ => fun
  | [d1, d2] => { results := [.lit (.bool true)], args := [d1, d2] }
  | _ => none }
def fnExactDeterminantOfRow : OpenClaim := { program := "ytpfmfgpapheifaa", sum := "9e61b00a85769e0445d70a9bac31b1c7613b87d2b456170bc20340c5ad54cba0", func := "loop.example/g01343/laws.FnExactDeterminantOf", spec := "fnExactDeterminantOf", unfollowed := true, recurses := true, plainKeys := false, apart := false }
def FnExactDeterminantOfSaid : Prop := fnExactDeterminantOfRow.holds Try.pinned (OpenSpec.ofChange fnExactDeterminantOfSpec)

/-- ITS FALSE NEIGHBOUR: 'it returns false'. Refute it at one input. -/
def fnExactDeterminantOfWrong : ChangeSpec := { name := "fnExactDeterminantOf", fn := fun _ => fun
  | [d1, d2] => { results := [.lit (.bool false)], args := [d1, d2] }
  | _ => none }
def FnExactDeterminantOfWrongFalsely : Prop := fnExactDeterminantOfRow.holds Try.pinned (OpenSpec.ofChange fnExactDeterminantOfWrong)

/-- 'laws.FnExactPointOf': WHATEVER THE INPUT: true; the input reads as it did. -/
def fnExactPointOfSpec : ChangeSpec := { name := "fnExactPointOf", fn := fun _ => fun
  | [d1, d2] => { results := [.lit (.bool true)], args := [d1, d2] }
  | _ => none }
def fnExactPointOfRow : OpenClaim := { program := "ytpfmfgpapheifaa", sum := "9e61b00a85769e0445d70a9bac31b1c7613b87d2b456170bc20340c5ad54cba0", func := "loop.example/g01343/laws.FnExactPointOf", spec := "fnExactPointOf", unfollowed := true, recurses := true, plainKeys := false, apart := false }
def FnExactPointOfSaid : Prop := fnExactPointOfRow.holds Try.pinned (OpenSpec.ofChange fnExactPointOfSpec)

/-- ITS FALSE NEIGHBOUR: 'it returns false'. Refute it at one input. -/
def fnExactPointOfWrong : ChangeSpec := { name := "fnExactPointOf", fn := fun _ => fun
  | [d1, d2] => { results := [.lit (.bool false)], args := [d1, d2] }
  | _ => none }
def FnExactPointOfWrongFalsely : Prop := fnExactPointOfRow.holds Try.pinned (OpenSpec.ofChange fnExactPointOfWrong)

/-- 'laws.FnExactRemainderOf': WHATEVER THE INPUT: true; the input reads as it did. -/
def fnExactRemainderOfSpec : ChangeSpec := { name := "fnExactRemainderOf", fn := fun _ => fun
  | [d1, d2] => { results := [.lit (.bool true)], args := [d1, d2] }
  | _ => none }
def fnExactRemainderOfRow : OpenClaim := { program := "ytpfmfgpapheifaa", sum := "9e61b00a85769e0445d70a9bac31b1c7613b87d2b456170bc20340c5ad54cba0", func := "loop.example/g01343/laws.FnExactRemainderOf", spec := "fnExactRemainderOf", plainKeys := false, apart := false }
def FnExactRemainderOfSaid : Prop := fnExactRemainderOfRow.holds Try.pinned (OpenSpec.ofChange fnExactRemainderOfSpec)

/-- ITS FALSE NEIGHBOUR: 'it returns false'. Refute it at one input. -/
def fnExactRemainderOfWrong : ChangeSpec := { name := "fnExactRemainderOf", fn := fun _ => fun
  | [d1, d2] => { results := [.lit (.bool false)], args := [d1, d2] }
  | _ => none }
def FnExactRemainderOfWrongFalsely : Prop := fnExactRemainderOfRow.holds Try.pinned (OpenSpec.ofChange fnExactRemainderOfWrong)

/-- 'laws.FnExactIsSolution': WHATEVER THE INPUT: true; the input reads as it did. -/
def fnExactIsSolutionSpec : ChangeSpec := { name := "fnExactIsSolution", fn := fun _ => fun
  | [d1, d2] => { results := [.lit (.bool true)], args := [d1, d2] }
  | _ => none }
def fnExactIsSolutionRow : OpenClaim := { program := "ytpfmfgpapheifaa", sum := "9e61b00a85769e0445d70a9bac31b1c7613b87d2b456170bc20340c5ad54cba0", func := "loop.example/g01343/laws.FnExactIsSolution", spec := "fnExactIsSolution", plainKeys := false, apart := false }
def FnExactIsSolutionSaid : Prop := fnExactIsSolutionRow.holds Try.pinned (OpenSpec.ofChange fnExactIsSolutionSpec)

/-- ITS FALSE NEIGHBOUR: 'it returns false'. Refute it at one input. -/
def fnExactIsSolutionWrong : ChangeSpec := { name := "fnExactIsSolution", fn := fun _ => fun
  | [d1, d2] => { results := [.lit (.bool false)], args := [d1, d2] }
  | _ => none }
def FnExactIsSolutionWrongFalsely : Prop := fnExactIsSolutionRow.holds Try.pinned (OpenSpec.ofChange fnExactIsSolutionWrong)

/-- 'laws.FnExactRenumberProblem': WHATEVER THE INPUT: true; the input reads as it did. -/
def fnExactRenumberProblemSpec : ChangeSpec := { name := "fnExactRenumberProblem", fn := fun _ => fun
  | [d1, d2] => { results := [.lit (.bool true)], args := [d1, d2] }
  | _ => none }
def fnExactRenumberProblemRow : OpenClaim := { program := "ytpfmfgpapheifaa", sum := "9e61b00a85769e0445d70a9bac31b1c7613b87d2b456170bc20340c5ad54cba0", func := "loop.example/g01343/laws.FnExactRenumberProblem", spec := "fnExactRenumberProblem", plainKeys := false, apart := false }
def FnExactRenumberProblemSaid : Prop := fnExactRenumberProblemRow.holds Try.pinned (OpenSpec.ofChange fnExactRenumberProblemSpec)

/-- ITS FALSE NEIGHBOUR: 'it returns false'. Refute it at one input. -/
def fnExactRenumberProblemWrong : ChangeSpec := { name := "fnExactRenumberProblem", fn := fun _ => fun
  | [d1, d2] => { results := [.lit (.bool false)], args := [d1, d2] }
  | _ => none }
def FnExactRenumberProblemWrongFalsely : Prop := fnExactRenumberProblemRow.holds Try.pinned (OpenSpec.ofChange fnExactRenumberProblemWrong)

/-- 'laws.FnExactScaleRow': WHATEVER THE INPUT: true; the input reads as it did. -/
def fnExactScaleRowSpec : ChangeSpec := { name := "fnExactScaleRow", fn := fun _ => fun
  | [d1, d2, d3] => { results := [.lit (.bool true)], args := [d1, d2, d3] }
  | _ => none }
def fnExactScaleRowRow : OpenClaim := { program := "ytpfmfgpapheifaa", sum := "9e61b00a85769e0445d70a9bac31b1c7613b87d2b456170bc20340c5ad54cba0", func := "loop.example/g01343/laws.FnExactScaleRow", spec := "fnExactScaleRow", plainKeys := false, apart := false }
def FnExactScaleRowSaid : Prop := fnExactScaleRowRow.holds Try.pinned (OpenSpec.ofChange fnExactScaleRowSpec)

/-- ITS FALSE NEIGHBOUR: 'it returns false'. Refute it at one input. -/
def fnExactScaleRowWrong : ChangeSpec := { name := "fnExactScaleRow", fn := fun _ => fun
  | [d1, d2, d3] => { results := [.lit (.bool false)], args := [d1, d2, d3] }
  | _ => none }
def FnExactScaleRowWrongFalsely : Prop := fnExactScaleRowRow.holds Try.pinned (OpenSpec.ofChange fnExactScaleRowWrong)

/- THE SECOND FORM. 'bulk': how many values and letters a reading holds, each counted each time it is reached (what is shared counts as often as it is met; a slice's spare places count too). A statement '..UptoSaid' is the law's where the arguments, and the package variables that the reading takes, are together of bulk at most 1048576: NARROWER than '..Said'. Prove '..Said' where nothing that the law and all that it calls make is longer than what came in: it says more and counts as full. Else prove '..UptoSaid'. A law counts once. -/
mutual
def uptoBulk {H : Type} : DataW H → Nat
  | .lit (.string bytes) => bytes.length + 1
  | .lit _ => 1
  | .nil => 1
  | .ptr d => uptoBulk d + 1
  | .slice elems spare => uptoBulkAll elems + uptoBulkAll spare + 1
  | .agg parts => uptoBulkAll parts + 1
  | .iface _ d => uptoBulk d + 1
  | .map entries => uptoBulkEntries entries + 1
  | .held _ => 1
def uptoBulkAll {H : Type} : List (DataW H) → Nat
  | [] => 0
  | d :: r => uptoBulk d + uptoBulkAll r
def uptoBulkEntries {H : Type} : List (Lit × DataW H) → Nat
  | [] => 0
  | x :: r => uptoBulkEntry x + uptoBulkEntries r
def uptoBulkEntry {H : Type} : Lit × DataW H → Nat
  | (.string bytes, d) => bytes.length + uptoBulk d + 1
  | (_, d) => uptoBulk d + 1
 end
def uptoSmall : (H : Type) → List (DataW H) → Bool := fun _ ds => decide (uptoBulkAll ds ≤ 1048576)
def OpenSpec.upto (s : _root_.Go.ChangeSpec) : _root_.Go.OpenSpec := { _root_.Go.OpenSpec.ofChange s with cond := some uptoSmall }

/-- 'laws.FnExactIsProblem', WHERE WHAT IT READS IS OF BULK AT MOST 1048576: true; the input reads as it did. -/
def fnExactIsProblemUptoRow : OpenClaim := { program := "ytpfmfgpapheifaa", sum := "9e61b00a85769e0445d70a9bac31b1c7613b87d2b456170bc20340c5ad54cba0", func := "loop.example/g01343/laws.FnExactIsProblem", spec := "fnExactIsProblem", plainKeys := false, apart := false, narrowed := true }
def FnExactIsProblemUptoSaid : Prop := fnExactIsProblemUptoRow.holds Try.pinned (OpenSpec.upto fnExactIsProblemSpec)

/-- 'laws.FnExactColumnsOf', WHERE WHAT IT READS IS OF BULK AT MOST 1048576: true; the input reads as it did. -/
def fnExactColumnsOfUptoRow : OpenClaim := { program := "ytpfmfgpapheifaa", sum := "9e61b00a85769e0445d70a9bac31b1c7613b87d2b456170bc20340c5ad54cba0", func := "loop.example/g01343/laws.FnExactColumnsOf", spec := "fnExactColumnsOf", unfollowed := true, recurses := true, plainKeys := false, apart := false, narrowed := true }
def FnExactColumnsOfUptoSaid : Prop := fnExactColumnsOfUptoRow.holds Try.pinned (OpenSpec.upto fnExactColumnsOfSpec)

/-- 'laws.FnExactDeterminantOf', WHERE WHAT IT READS IS OF BULK AT MOST 1048576: true; the input reads as it did. -/
def fnExactDeterminantOfUptoRow : OpenClaim := { program := "ytpfmfgpapheifaa", sum := "9e61b00a85769e0445d70a9bac31b1c7613b87d2b456170bc20340c5ad54cba0", func := "loop.example/g01343/laws.FnExactDeterminantOf", spec := "fnExactDeterminantOf", unfollowed := true, recurses := true, plainKeys := false, apart := false, narrowed := true }
def FnExactDeterminantOfUptoSaid : Prop := fnExactDeterminantOfUptoRow.holds Try.pinned (OpenSpec.upto fnExactDeterminantOfSpec)

/-- 'laws.FnExactPointOf', WHERE WHAT IT READS IS OF BULK AT MOST 1048576: true; the input reads as it did. -/
def fnExactPointOfUptoRow : OpenClaim := { program := "ytpfmfgpapheifaa", sum := "9e61b00a85769e0445d70a9bac31b1c7613b87d2b456170bc20340c5ad54cba0", func := "loop.example/g01343/laws.FnExactPointOf", spec := "fnExactPointOf", unfollowed := true, recurses := true, plainKeys := false, apart := false, narrowed := true }
def FnExactPointOfUptoSaid : Prop := fnExactPointOfUptoRow.holds Try.pinned (OpenSpec.upto fnExactPointOfSpec)

/-- 'laws.FnExactRemainderOf', WHERE WHAT IT READS IS OF BULK AT MOST 1048576: true; the input reads as it did. -/
def fnExactRemainderOfUptoRow : OpenClaim := { program := "ytpfmfgpapheifaa", sum := "9e61b00a85769e0445d70a9bac31b1c7613b87d2b456170bc20340c5ad54cba0", func := "loop.example/g01343/laws.FnExactRemainderOf", spec := "fnExactRemainderOf", plainKeys := false, apart := false, narrowed := true }
def FnExactRemainderOfUptoSaid : Prop := fnExactRemainderOfUptoRow.holds Try.pinned (OpenSpec.upto fnExactRemainderOfSpec)

/-- 'laws.FnExactIsSolution', WHERE WHAT IT READS IS OF BULK AT MOST 1048576: true; the input reads as it did. -/
def fnExactIsSolutionUptoRow : OpenClaim := { program := "ytpfmfgpapheifaa", sum := "9e61b00a85769e0445d70a9bac31b1c7613b87d2b456170bc20340c5ad54cba0", func := "loop.example/g01343/laws.FnExactIsSolution", spec := "fnExactIsSolution", plainKeys := false, apart := false, narrowed := true }
def FnExactIsSolutionUptoSaid : Prop := fnExactIsSolutionUptoRow.holds Try.pinned (OpenSpec.upto fnExactIsSolutionSpec)

/-- 'laws.FnExactRenumberProblem', WHERE WHAT IT READS IS OF BULK AT MOST 1048576: true; the input reads as it did. -/
def fnExactRenumberProblemUptoRow : OpenClaim := { program := "ytpfmfgpapheifaa", sum := "9e61b00a85769e0445d70a9bac31b1c7613b87d2b456170bc20340c5ad54cba0", func := "loop.example/g01343/laws.FnExactRenumberProblem", spec := "fnExactRenumberProblem", plainKeys := false, apart := false, narrowed := true }
def FnExactRenumberProblemUptoSaid : Prop := fnExactRenumberProblemUptoRow.holds Try.pinned (OpenSpec.upto fnExactRenumberProblemSpec)

/-- 'laws.FnExactScaleRow', WHERE WHAT IT READS IS OF BULK AT MOST 1048576: true; the input reads as it did. -/
def fnExactScaleRowUptoRow : OpenClaim := { program := "ytpfmfgpapheifaa", sum := "9e61b00a85769e0445d70a9bac31b1c7613b87d2b456170bc20340c5ad54cba0", func := "loop.example/g01343/laws.FnExactScaleRow", spec := "fnExactScaleRow", plainKeys := false, apart := false, narrowed := true }
def FnExactScaleRowUptoSaid : Prop := fnExactScaleRowUptoRow.holds Try.pinned (OpenSpec.upto fnExactScaleRowSpec)

end Rows
end Go.Proofs.Ytpfmfgpapheifaa
