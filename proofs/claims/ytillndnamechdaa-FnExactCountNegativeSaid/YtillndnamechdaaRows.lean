/-
  No cell of these rows narrows 'for every input' (looked for: loops, veiled, ifaces, maps, wideKeys, modest, calm, conditions, laid).
  DERIVED. THE GIVEN ROWS OF THIS SEAT. 12 by the template 'for every input the law returns true; each argument reads behind the call as it read before'; 0 by the template 'total and deterministic' (their statements: YtillndnamechdaaTotals.lean).
  GIVEN WITH THE SEED: the statements are not yours to turn. If you find one false, say at which input.
  Laid BY PROGRAM, IN A SANDBOX (cutbox-rows.mjs): the forced cells as the released guide's own fill.sh prints them over the translation 113cba64aa23b38f… (all of the seat's roots in one cut). By AI agents, Wed Nov 11 2026. No macro, syntax, notation, axiom, sorry.
-/
import Derived.Test.YtillndnamechdaaChecked
import GoSem.Claim
import GoSem.ClaimJoined
import GoSem.ClaimMapViews
import Derived.JoinedTies
import Derived.KernelRfl
namespace Go.Proofs.Ytillndnamechdaa
/- THE CELL 'sum', in the pinned program and in every row, IS THE sha256 OF THE DUMP (.gsa) THAT YtillndnamechdaaProg.lean LOADS. Nothing in Lean hashes anything: it is a label: what it is worth is what the hold of that sum in a sandbox is worth. -/
noncomputable def Try.pinned : Pinned := { name := "ytillndnamechdaa", sum := "113cba64aa23b38fbea06659ec7b624d1b3149962252325120ada9aa2e040c83", checked := Try.checked }
namespace Rows
def none {H : Type} : Left H := { results := [], args := [] }

/-- 'laws.FnExactScaleRow': WHATEVER THE INPUT: true; the input reads as it did. -/
def fnExactScaleRowSpec : ChangeSpec := { name := "fnExactScaleRow", fn := fun _ => fun
  | [d1, d2, d3] => { results := [.lit (.bool true)], args := [d1, d2, d3] }
  | _ => none }
def fnExactScaleRowRow : OpenClaim := { program := "ytillndnamechdaa", sum := "113cba64aa23b38fbea06659ec7b624d1b3149962252325120ada9aa2e040c83", func := "loop.example/g01343/laws.FnExactScaleRow", spec := "fnExactScaleRow", apart := false }
def FnExactScaleRowSaid : Prop := fnExactScaleRowRow.holds Try.pinned (OpenSpec.ofChange fnExactScaleRowSpec)

/-- ITS FALSE NEIGHBOUR: 'it returns false'. Refute it at one input. -/
def fnExactScaleRowWrong : ChangeSpec := { name := "fnExactScaleRow", fn := fun _ => fun
  | [d1, d2, d3] => { results := [.lit (.bool false)], args := [d1, d2, d3] }
  | _ => none }
def FnExactScaleRowWrongFalsely : Prop := fnExactScaleRowRow.holds Try.pinned (OpenSpec.ofChange fnExactScaleRowWrong)

/-- 'laws.FnExactColumnsOf': WHATEVER THE INPUT: true; the input reads as it did. -/
def fnExactColumnsOfSpec : ChangeSpec := { name := "fnExactColumnsOf", fn := fun _ => fun
  | [d1, d2] => { results := [.lit (.bool true)], args := [d1, d2] }
  | _ => none }
def fnExactColumnsOfRow : OpenClaim := { program := "ytillndnamechdaa", sum := "113cba64aa23b38fbea06659ec7b624d1b3149962252325120ada9aa2e040c83", func := "loop.example/g01343/laws.FnExactColumnsOf", spec := "fnExactColumnsOf", unfollowed := true, recurses := true, apart := false }
def FnExactColumnsOfSaid : Prop := fnExactColumnsOfRow.holds Try.pinned (OpenSpec.ofChange fnExactColumnsOfSpec)

/-- ITS FALSE NEIGHBOUR: 'it returns false'. Refute it at one input. -/
def fnExactColumnsOfWrong : ChangeSpec := { name := "fnExactColumnsOf", fn := fun _ => fun
  | [d1, d2] => { results := [.lit (.bool false)], args := [d1, d2] }
  | _ => none }
def FnExactColumnsOfWrongFalsely : Prop := fnExactColumnsOfRow.holds Try.pinned (OpenSpec.ofChange fnExactColumnsOfWrong)

/-- 'laws.FnExactDeterminantOf': WHATEVER THE INPUT: true; the input reads as it did. -/
def fnExactDeterminantOfSpec : ChangeSpec := { name := "fnExactDeterminantOf", fn := fun _ => fun
  | [d1, d2] => { results := [.lit (.bool true)], args := [d1, d2] }
  | _ => none }
def fnExactDeterminantOfRow : OpenClaim := { program := "ytillndnamechdaa", sum := "113cba64aa23b38fbea06659ec7b624d1b3149962252325120ada9aa2e040c83", func := "loop.example/g01343/laws.FnExactDeterminantOf", spec := "fnExactDeterminantOf", unfollowed := true, recurses := true, apart := false }
def FnExactDeterminantOfSaid : Prop := fnExactDeterminantOfRow.holds Try.pinned (OpenSpec.ofChange fnExactDeterminantOfSpec)

/-- ITS FALSE NEIGHBOUR: 'it returns false'. Refute it at one input. -/
def fnExactDeterminantOfWrong : ChangeSpec := { name := "fnExactDeterminantOf", fn := fun _ => fun
  | [d1, d2] => { results := [.lit (.bool false)], args := [d1, d2] }
  | _ => none }
def FnExactDeterminantOfWrongFalsely : Prop := fnExactDeterminantOfRow.holds Try.pinned (OpenSpec.ofChange fnExactDeterminantOfWrong)

/-- 'laws.FnExactIsMatrix': WHATEVER THE INPUT: true; the input reads as it did. -/
def fnExactIsMatrixSpec : ChangeSpec := { name := "fnExactIsMatrix", fn := fun _ => fun
  | [d] => { results := [.lit (.bool true)], args := [d] }
  | _ => none }
def fnExactIsMatrixRow : OpenClaim := { program := "ytillndnamechdaa", sum := "113cba64aa23b38fbea06659ec7b624d1b3149962252325120ada9aa2e040c83", func := "loop.example/g01343/laws.FnExactIsMatrix", spec := "fnExactIsMatrix", apart := false }
def FnExactIsMatrixSaid : Prop := fnExactIsMatrixRow.holds Try.pinned (OpenSpec.ofChange fnExactIsMatrixSpec)

/-- ITS FALSE NEIGHBOUR: 'it returns false'. Refute it at one input. -/
def fnExactIsMatrixWrong : ChangeSpec := { name := "fnExactIsMatrix", fn := fun _ => fun
  | [d] => { results := [.lit (.bool false)], args := [d] }
  | _ => none }
def FnExactIsMatrixWrongFalsely : Prop := fnExactIsMatrixRow.holds Try.pinned (OpenSpec.ofChange fnExactIsMatrixWrong)

/-- 'laws.FnExactMinorOf': WHATEVER THE INPUT: true; the input reads as it did. -/
def fnExactMinorOfSpec : ChangeSpec := { name := "fnExactMinorOf", fn := fun _ => fun
  | [d1, d2] => { results := [.lit (.bool true)], args := [d1, d2] }
  | _ => none }
def fnExactMinorOfRow : OpenClaim := { program := "ytillndnamechdaa", sum := "113cba64aa23b38fbea06659ec7b624d1b3149962252325120ada9aa2e040c83", func := "loop.example/g01343/laws.FnExactMinorOf", spec := "fnExactMinorOf", unfollowed := true, recurses := true, apart := false }
def FnExactMinorOfSaid : Prop := fnExactMinorOfRow.holds Try.pinned (OpenSpec.ofChange fnExactMinorOfSpec)

/-- ITS FALSE NEIGHBOUR: 'it returns false'. Refute it at one input. -/
def fnExactMinorOfWrong : ChangeSpec := { name := "fnExactMinorOf", fn := fun _ => fun
  | [d1, d2] => { results := [.lit (.bool false)], args := [d1, d2] }
  | _ => none }
def FnExactMinorOfWrongFalsely : Prop := fnExactMinorOfRow.holds Try.pinned (OpenSpec.ofChange fnExactMinorOfWrong)

/-- 'laws.FnExactSymmetricPart': WHATEVER THE INPUT: true; the input reads as it did. -/
def fnExactSymmetricPartSpec : ChangeSpec := { name := "fnExactSymmetricPart", fn := fun _ => fun
  | [d] => { results := [.lit (.bool true)], args := [d] }
  | _ => none }
def fnExactSymmetricPartRow : OpenClaim := { program := "ytillndnamechdaa", sum := "113cba64aa23b38fbea06659ec7b624d1b3149962252325120ada9aa2e040c83", func := "loop.example/g01343/laws.FnExactSymmetricPart", spec := "fnExactSymmetricPart", unfollowed := true, recurses := true, apart := false }
def FnExactSymmetricPartSaid : Prop := fnExactSymmetricPartRow.holds Try.pinned (OpenSpec.ofChange fnExactSymmetricPartSpec)

/-- ITS FALSE NEIGHBOUR: 'it returns false'. Refute it at one input. -/
def fnExactSymmetricPartWrong : ChangeSpec := { name := "fnExactSymmetricPart", fn := fun _ => fun
  | [d] => { results := [.lit (.bool false)], args := [d] }
  | _ => none }
def FnExactSymmetricPartWrongFalsely : Prop := fnExactSymmetricPartRow.holds Try.pinned (OpenSpec.ofChange fnExactSymmetricPartWrong)

/-- 'laws.FnExactComparisonOf': WHATEVER THE INPUT: true; the input reads as it did. -/
def fnExactComparisonOfSpec : ChangeSpec := { name := "fnExactComparisonOf", fn := fun _ => fun
  | [d] => { results := [.lit (.bool true)], args := [d] }
  | _ => none }
def fnExactComparisonOfRow : OpenClaim := { program := "ytillndnamechdaa", sum := "113cba64aa23b38fbea06659ec7b624d1b3149962252325120ada9aa2e040c83", func := "loop.example/g01343/laws.FnExactComparisonOf", spec := "fnExactComparisonOf", unfollowed := true, recurses := true, apart := false }
def FnExactComparisonOfSaid : Prop := fnExactComparisonOfRow.holds Try.pinned (OpenSpec.ofChange fnExactComparisonOfSpec)

/-- ITS FALSE NEIGHBOUR: 'it returns false'. Refute it at one input. -/
def fnExactComparisonOfWrong : ChangeSpec := { name := "fnExactComparisonOf", fn := fun _ => fun
  | [d] => { results := [.lit (.bool false)], args := [d] }
  | _ => none }
def FnExactComparisonOfWrongFalsely : Prop := fnExactComparisonOfRow.holds Try.pinned (OpenSpec.ofChange fnExactComparisonOfWrong)

/-- 'laws.FnExactFormAt': WHATEVER THE INPUT: true; the input reads as it did. -/
def fnExactFormAtSpec : ChangeSpec := { name := "fnExactFormAt", fn := fun _ => fun
  | [d1, d2] => { results := [.lit (.bool true)], args := [d1, d2] }
  | _ => none }
def fnExactFormAtRow : OpenClaim := { program := "ytillndnamechdaa", sum := "113cba64aa23b38fbea06659ec7b624d1b3149962252325120ada9aa2e040c83", func := "loop.example/g01343/laws.FnExactFormAt", spec := "fnExactFormAt", apart := false }
def FnExactFormAtSaid : Prop := fnExactFormAtRow.holds Try.pinned (OpenSpec.ofChange fnExactFormAtSpec)

/-- ITS FALSE NEIGHBOUR: 'it returns false'. Refute it at one input. -/
def fnExactFormAtWrong : ChangeSpec := { name := "fnExactFormAt", fn := fun _ => fun
  | [d1, d2] => { results := [.lit (.bool false)], args := [d1, d2] }
  | _ => none }
def FnExactFormAtWrongFalsely : Prop := fnExactFormAtRow.holds Try.pinned (OpenSpec.ofChange fnExactFormAtWrong)

/-- 'laws.FnExactSignsOf': WHATEVER THE INPUT: true; the input reads as it did. -/
def fnExactSignsOfSpec : ChangeSpec := { name := "fnExactSignsOf", fn := fun _ => fun
  | [d] => { results := [.lit (.bool true)], args := [d] }
  | _ => none }
def fnExactSignsOfRow : OpenClaim := { program := "ytillndnamechdaa", sum := "113cba64aa23b38fbea06659ec7b624d1b3149962252325120ada9aa2e040c83", func := "loop.example/g01343/laws.FnExactSignsOf", spec := "fnExactSignsOf", unfollowed := true, recurses := true, apart := false }
def FnExactSignsOfSaid : Prop := fnExactSignsOfRow.holds Try.pinned (OpenSpec.ofChange fnExactSignsOfSpec)

/-- ITS FALSE NEIGHBOUR: 'it returns false'. Refute it at one input. -/
def fnExactSignsOfWrong : ChangeSpec := { name := "fnExactSignsOf", fn := fun _ => fun
  | [d] => { results := [.lit (.bool false)], args := [d] }
  | _ => none }
def FnExactSignsOfWrongFalsely : Prop := fnExactSignsOfRow.holds Try.pinned (OpenSpec.ofChange fnExactSignsOfWrong)

/-- 'laws.FnExactMinorBy': WHATEVER THE INPUT: true; the input reads as it did. -/
def fnExactMinorBySpec : ChangeSpec := { name := "fnExactMinorBy", fn := fun _ => fun
  | [d1, d2, d3] => { results := [.lit (.bool true)], args := [d1, d2, d3] }
  | _ => none }
def fnExactMinorByRow : OpenClaim := { program := "ytillndnamechdaa", sum := "113cba64aa23b38fbea06659ec7b624d1b3149962252325120ada9aa2e040c83", func := "loop.example/g01343/laws.FnExactMinorBy", spec := "fnExactMinorBy", unfollowed := true, recurses := true, apart := false }
def FnExactMinorBySaid : Prop := fnExactMinorByRow.holds Try.pinned (OpenSpec.ofChange fnExactMinorBySpec)

/-- ITS FALSE NEIGHBOUR: 'it returns false'. Refute it at one input. -/
def fnExactMinorByWrong : ChangeSpec := { name := "fnExactMinorBy", fn := fun _ => fun
  | [d1, d2, d3] => { results := [.lit (.bool false)], args := [d1, d2, d3] }
  | _ => none }
def FnExactMinorByWrongFalsely : Prop := fnExactMinorByRow.holds Try.pinned (OpenSpec.ofChange fnExactMinorByWrong)

/-- 'laws.FnExactCountNegative': WHATEVER THE INPUT: true; the input reads as it did. -/
def fnExactCountNegativeSpec : ChangeSpec := { name := "fnExactCountNegative", fn := fun _ => fun
  | [d] => { results := [.lit (.bool true)], args := [d] }
  | _ => none }
def fnExactCountNegativeRow : OpenClaim := { program := "ytillndnamechdaa", sum := "113cba64aa23b38fbea06659ec7b624d1b3149962252325120ada9aa2e040c83", func := "loop.example/g01343/laws.FnExactCountNegative", spec := "fnExactCountNegative", unfollowed := true, recurses := true, apart := false }
def FnExactCountNegativeSaid : Prop := fnExactCountNegativeRow.holds Try.pinned (OpenSpec.ofChange fnExactCountNegativeSpec)

/-- ITS FALSE NEIGHBOUR: 'it returns false'. Refute it at one input. -/
def fnExactCountNegativeWrong : ChangeSpec := { name := "fnExactCountNegative", fn := fun _ => fun
  | [d] => { results := [.lit (.bool false)], args := [d] }
  | _ => none }
def FnExactCountNegativeWrongFalsely : Prop := fnExactCountNegativeRow.holds Try.pinned (OpenSpec.ofChange fnExactCountNegativeWrong)

/-- 'laws.FnExactAddMatrices': WHATEVER THE INPUT: true; the input reads as it did. -/
def fnExactAddMatricesSpec : ChangeSpec := { name := "fnExactAddMatrices", fn := fun _ => fun
  | [d1, d2] => { results := [.lit (.bool true)], args := [d1, d2] }
  | _ => none }
def fnExactAddMatricesRow : OpenClaim := { program := "ytillndnamechdaa", sum := "113cba64aa23b38fbea06659ec7b624d1b3149962252325120ada9aa2e040c83", func := "loop.example/g01343/laws.FnExactAddMatrices", spec := "fnExactAddMatrices", apart := false }
def FnExactAddMatricesSaid : Prop := fnExactAddMatricesRow.holds Try.pinned (OpenSpec.ofChange fnExactAddMatricesSpec)

/-- ITS FALSE NEIGHBOUR: 'it returns false'. Refute it at one input. -/
def fnExactAddMatricesWrong : ChangeSpec := { name := "fnExactAddMatrices", fn := fun _ => fun
  | [d1, d2] => { results := [.lit (.bool false)], args := [d1, d2] }
  | _ => none }
def FnExactAddMatricesWrongFalsely : Prop := fnExactAddMatricesRow.holds Try.pinned (OpenSpec.ofChange fnExactAddMatricesWrong)

/- THE SECOND FORM. 'bulk': how many values and letters a reading holds, each counted each time it is reached (what is shared counts as often as it is met; a slice's spare places count too). A statement '..UptoSaid' is the law's where the arguments, and the package variables that the reading takes, are together of bulk at most 1048576: NARROWER than '..Said'. Prove '..Said' where nothing that the law and all that it calls make is longer than what came in: it says more and counts as full. Else prove '..UptoSaid'. A law counts once. -/
mutual
def uptoBulk {H : Type} : DataW H → Nat
  | .lit (.string bytes) => bytes.length + 1
  | .lit _ => 1
  | .nil => 1
  | .ptr d => uptoBulk d + 1
  | .slice elems spare => uptoBulkAll elems + uptoBulkAll spare + 1
  | .agg parts => uptoBulkAll parts + 1
  | .iface _ d => uptoBulk d + 1
  | .map entries => uptoBulkEntries entries + 1
  | .held _ => 1
def uptoBulkAll {H : Type} : List (DataW H) → Nat
  | [] => 0
  | d :: r => uptoBulk d + uptoBulkAll r
def uptoBulkEntries {H : Type} : List (Lit × DataW H) → Nat
  | [] => 0
  | x :: r => uptoBulkEntry x + uptoBulkEntries r
def uptoBulkEntry {H : Type} : Lit × DataW H → Nat
  | (.string bytes, d) => bytes.length + uptoBulk d + 1
  | (_, d) => uptoBulk d + 1
 end
def uptoSmall : (H : Type) → List (DataW H) → Bool := fun _ ds => decide (uptoBulkAll ds ≤ 1048576)
def OpenSpec.upto (s : _root_.Go.ChangeSpec) : _root_.Go.OpenSpec := { _root_.Go.OpenSpec.ofChange s with cond := some uptoSmall }

/-- 'laws.FnExactScaleRow', WHERE WHAT IT READS IS OF BULK AT MOST 1048576: true; the input reads as it did. -/
def fnExactScaleRowUptoRow : OpenClaim := { program := "ytillndnamechdaa", sum := "113cba64aa23b38fbea06659ec7b624d1b3149962252325120ada9aa2e040c83", func := "loop.example/g01343/laws.FnExactScaleRow", spec := "fnExactScaleRow", apart := false, narrowed := true }
def FnExactScaleRowUptoSaid : Prop := fnExactScaleRowUptoRow.holds Try.pinned (OpenSpec.upto fnExactScaleRowSpec)

/-- 'laws.FnExactColumnsOf', WHERE WHAT IT READS IS OF BULK AT MOST 1048576: true; the input reads as it did. -/
def fnExactColumnsOfUptoRow : OpenClaim := { program := "ytillndnamechdaa", sum := "113cba64aa23b38fbea06659ec7b624d1b3149962252325120ada9aa2e040c83", func := "loop.example/g01343/laws.FnExactColumnsOf", spec := "fnExactColumnsOf", unfollowed := true, recurses := true, apart := false, narrowed := true }
def FnExactColumnsOfUptoSaid : Prop := fnExactColumnsOfUptoRow.holds Try.pinned (OpenSpec.upto fnExactColumnsOfSpec)

/-- 'laws.FnExactDeterminantOf', WHERE WHAT IT READS IS OF BULK AT MOST 1048576: true; the input reads as it did. -/
def fnExactDeterminantOfUptoRow : OpenClaim := { program := "ytillndnamechdaa", sum := "113cba64aa23b38fbea06659ec7b624d1b3149962252325120ada9aa2e040c83", func := "loop.example/g01343/laws.FnExactDeterminantOf", spec := "fnExactDeterminantOf", unfollowed := true, recurses := true, apart := false, narrowed := true }
def FnExactDeterminantOfUptoSaid : Prop := fnExactDeterminantOfUptoRow.holds Try.pinned (OpenSpec.upto fnExactDeterminantOfSpec)

/-- 'laws.FnExactIsMatrix', WHERE WHAT IT READS IS OF BULK AT MOST 1048576: true; the input reads as it did. -/
def fnExactIsMatrixUptoRow : OpenClaim := { program := "ytillndnamechdaa", sum := "113cba64aa23b38fbea06659ec7b624d1b3149962252325120ada9aa2e040c83", func := "loop.example/g01343/laws.FnExactIsMatrix", spec := "fnExactIsMatrix", apart := false, narrowed := true }
def FnExactIsMatrixUptoSaid : Prop := fnExactIsMatrixUptoRow.holds Try.pinned (OpenSpec.upto fnExactIsMatrixSpec)

/-- 'laws.FnExactMinorOf', WHERE WHAT IT READS IS OF BULK AT MOST 1048576: true; the input reads as it did. -/
def fnExactMinorOfUptoRow : OpenClaim := { program := "ytillndnamechdaa", sum := "113cba64aa23b38fbea06659ec7b624d1b3149962252325120ada9aa2e040c83", func := "loop.example/g01343/laws.FnExactMinorOf", spec := "fnExactMinorOf", unfollowed := true, recurses := true, apart := false, narrowed := true }
def FnExactMinorOfUptoSaid : Prop := fnExactMinorOfUptoRow.holds Try.pinned (OpenSpec.upto fnExactMinorOfSpec)

/-- 'laws.FnExactSymmetricPart', WHERE WHAT IT READS IS OF BULK AT MOST 1048576: true; the input reads as it did. -/
def fnExactSymmetricPartUptoRow : OpenClaim := { program := "ytillndnamechdaa", sum := "113cba64aa23b38fbea06659ec7b624d1b3149962252325120ada9aa2e040c83", func := "loop.example/g01343/laws.FnExactSymmetricPart", spec := "fnExactSymmetricPart", unfollowed := true, recurses := true, apart := false, narrowed := true }
def FnExactSymmetricPartUptoSaid : Prop := fnExactSymmetricPartUptoRow.holds Try.pinned (OpenSpec.upto fnExactSymmetricPartSpec)

/-- 'laws.FnExactComparisonOf', WHERE WHAT IT READS IS OF BULK AT MOST 1048576: true; the input reads as it did. -/
def fnExactComparisonOfUptoRow : OpenClaim := { program := "ytillndnamechdaa", sum := "113cba64aa23b38fbea06659ec7b624d1b3149962252325120ada9aa2e040c83", func := "loop.example/g01343/laws.FnExactComparisonOf", spec := "fnExactComparisonOf", unfollowed := true, recurses := true, apart := false, narrowed := true }
def FnExactComparisonOfUptoSaid : Prop := fnExactComparisonOfUptoRow.holds Try.pinned (OpenSpec.upto fnExactComparisonOfSpec)

/-- 'laws.FnExactFormAt', WHERE WHAT IT READS IS OF BULK AT MOST 1048576: true; the input reads as it did. -/
def fnExactFormAtUptoRow : OpenClaim := { program := "ytillndnamechdaa", sum := "113cba64aa23b38fbea06659ec7b624d1b3149962252325120ada9aa2e040c83", func := "loop.example/g01343/laws.FnExactFormAt", spec := "fnExactFormAt", apart := false, narrowed := true }
def FnExactFormAtUptoSaid : Prop := fnExactFormAtUptoRow.holds Try.pinned (OpenSpec.upto fnExactFormAtSpec)

/-- 'laws.FnExactSignsOf', WHERE WHAT IT READS IS OF BULK AT MOST 1048576: true; the input reads as it did. -/
def fnExactSignsOfUptoRow : OpenClaim := { program := "ytillndnamechdaa", sum := "113cba64aa23b38fbea06659ec7b624d1b3149962252325120ada9aa2e040c83", func := "loop.example/g01343/laws.FnExactSignsOf", spec := "fnExactSignsOf", unfollowed := true, recurses := true, apart := false, narrowed := true }
def FnExactSignsOfUptoSaid : Prop := fnExactSignsOfUptoRow.holds Try.pinned (OpenSpec.upto fnExactSignsOfSpec)

/-- 'laws.FnExactMinorBy', WHERE WHAT IT READS IS OF BULK AT MOST 1048576: true; the input reads as it did. -/
def fnExactMinorByUptoRow : OpenClaim := { program := "ytillndnamechdaa", sum := "113cba64aa23b38fbea06659ec7b624d1b3149962252325120ada9aa2e040c83", func := "loop.example/g01343/laws.FnExactMinorBy", spec := "fnExactMinorBy", unfollowed := true, recurses := true, apart := false, narrowed := true }
def FnExactMinorByUptoSaid : Prop := fnExactMinorByUptoRow.holds Try.pinned (OpenSpec.upto fnExactMinorBySpec)

/-- 'laws.FnExactCountNegative', WHERE WHAT IT READS IS OF BULK AT MOST 1048576: true; the input reads as it did. -/
def fnExactCountNegativeUptoRow : OpenClaim := { program := "ytillndnamechdaa", sum := "113cba64aa23b38fbea06659ec7b624d1b3149962252325120ada9aa2e040c83", func := "loop.example/g01343/laws.FnExactCountNegative", spec := "fnExactCountNegative", unfollowed := true, recurses := true, apart := false, narrowed := true }
def FnExactCountNegativeUptoSaid : Prop := fnExactCountNegativeUptoRow.holds Try.pinned (OpenSpec.upto fnExactCountNegativeSpec)

/-- 'laws.FnExactAddMatrices', WHERE WHAT IT READS IS OF BULK AT MOST 1048576: true; the input reads as it did. -/
def fnExactAddMatricesUptoRow : OpenClaim := { program := "ytillndnamechdaa", sum := "113cba64aa23b38fbea06659ec7b624d1b3149962252325120ada9aa2e040c83", func := "loop.example/g01343/laws.FnExactAddMatrices", spec := "fnExactAddMatrices", apart := false, narrowed := true }
def FnExactAddMatricesUptoSaid : Prop := fnExactAddMatricesUptoRow.holds Try.pinned (OpenSpec.upto fnExactAddMatricesSpec)

end Rows
end Go.Proofs.Ytillndnamechdaa
