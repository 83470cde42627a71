/-
  NARROWER THAN 'FOR EVERY INPUT', by the rows' own cells (each row's printed sentence says how): FnExactPivotMinor: ifaces, laid · FnExactPivotedProblem: ifaces, laid · FnExactRunChain: ifaces, laid · FnExactStepByRule: laid · FnExactRunByRule: laid · FnExactSolveByRule: laid · FnExactStepsByRule: laid · FnExactWorstSigns: laid · FnExactCountEnds: laid · FnExactWalkByRule: laid.
  DERIVED. THE GIVEN ROWS OF THIS SEAT. 10 by the template 'for every input the law returns true; each argument reads behind the call as it read before'; 0 by the template 'total and deterministic' (their statements: YtopokicejgjcoaaDoorTotals.lean).
  GIVEN WITH THE SEED: the statements are not yours to turn. If you find one false, say at which input.
  Laid BY PROGRAM, IN A SANDBOX (cutbox-rows.mjs): the forced cells as the released guide's own fill.sh prints them over the translation 0d6a4a79ee53adf0… (all of the seat's roots in one cut). By AI agents, Wed Nov 11 2026. No macro, syntax, notation, axiom, sorry.
-/
import Derived.Test.YtopokicejgjcoaaDoorChecked
import GoSem.Claim
import GoSem.ClaimJoined
import GoSem.ClaimMapViews
import Derived.JoinedTies
import Derived.KernelRfl
namespace Go.Proofs.YtopokicejgjcoaaDoor
/- THE CELL 'sum', in the pinned program and in every row, IS THE sha256 OF THE DUMP (.gsa) THAT YtopokicejgjcoaaDoorProg.lean LOADS. Nothing in Lean hashes anything: it is a label: what it is worth is what the hold of that sum in a sandbox is worth. -/
noncomputable def Tryd.pinned : Pinned := { name := "ytopokicejgjcoaadoor", sum := "0d6a4a79ee53adf0a47485ee77e5b681fb692e1b49271f4751a93583c18ad22a", checked := Tryd.checked }
namespace Rows
def none {H : Type} : Left H := { results := [], args := [] }

/- WHAT THE LISTED PACKAGE-LEVEL VARIABLES READ AS WHEN THE CALL BEGINS. Each datum BY PROGRAM (the guide's laid-datum.mjs) off the statement by which the dump's own 'gosem.cut.vars' lays the variable. In a bare row this is a premise. The card (YtopokicejgjcoaaDoorCards.lean) ties it to the program's text. -/
def laid_loop_example_g01343_impl_errNotBasic {H : Type} : DataW H := .iface "*errors.errorString" (.ptr (.agg [.lit (.string [97, 32, 115, 101, 116, 32, 105, 115, 32, 110, 111, 116, 32, 98, 97, 115, 105, 99])]))
def laid_math_bits_deBruijn64tab {H : Type} : DataW H := .agg [.lit (.int .u8 0), .lit (.int .u8 1), .lit (.int .u8 56), .lit (.int .u8 2), .lit (.int .u8 57), .lit (.int .u8 49), .lit (.int .u8 28), .lit (.int .u8 3), .lit (.int .u8 61), .lit (.int .u8 58), .lit (.int .u8 42), .lit (.int .u8 50), .lit (.int .u8 38), .lit (.int .u8 29), .lit (.int .u8 17), .lit (.int .u8 4), .lit (.int .u8 62), .lit (.int .u8 47), .lit (.int .u8 59), .lit (.int .u8 36), .lit (.int .u8 45), .lit (.int .u8 43), .lit (.int .u8 51), .lit (.int .u8 22), .lit (.int .u8 53), .lit (.int .u8 39), .lit (.int .u8 33), .lit (.int .u8 30), .lit (.int .u8 24), .lit (.int .u8 18), .lit (.int .u8 12), .lit (.int .u8 5), .lit (.int .u8 63), .lit (.int .u8 55), .lit (.int .u8 48), .lit (.int .u8 27), .lit (.int .u8 60), .lit (.int .u8 41), .lit (.int .u8 37), .lit (.int .u8 16), .lit (.int .u8 46), .lit (.int .u8 35), .lit (.int .u8 44), .lit (.int .u8 21), .lit (.int .u8 52), .lit (.int .u8 32), .lit (.int .u8 23), .lit (.int .u8 11), .lit (.int .u8 54), .lit (.int .u8 26), .lit (.int .u8 40), .lit (.int .u8 15), .lit (.int .u8 34), .lit (.int .u8 20), .lit (.int .u8 31), .lit (.int .u8 10), .lit (.int .u8 25), .lit (.int .u8 14), .lit (.int .u8 19), .lit (.int .u8 9), .lit (.int .u8 13), .lit (.int .u8 8), .lit (.int .u8 7), .lit (.int .u8 6)]

/-- 'laws.FnExactPivotMinor': WHATEVER THE INPUT: true; the input reads as it did. -/
def fnExactPivotMinorSpec : ChangeSpec := { name := "fnExactPivotMinor", vars := ["loop.example/g01343/impl.errNotBasic"], fn := fun _ => fun
  | [d1, d2, d3, g1] => { results := [.lit (.bool true)], args := [d1, d2, d3], vars := [g1] }
  | _ => none }
def fnExactPivotMinorRow : OpenClaim := { program := "ytopokicejgjcoaadoor", sum := "0d6a4a79ee53adf0a47485ee77e5b681fb692e1b49271f4751a93583c18ad22a", func := "loop.example/g01343/laws.FnExactPivotMinor", spec := "fnExactPivotMinor", unfollowed := true, recurses := true, named := ["loop.example/g01343/impl.errNotBasic"], ifaces := true, apart := false, laid := [("loop.example/g01343/impl.errNotBasic", laid_loop_example_g01343_impl_errNotBasic)] }
def FnExactPivotMinorSaid : Prop := fnExactPivotMinorRow.holds Tryd.pinned (OpenSpec.ofChange fnExactPivotMinorSpec)

/-- ITS FALSE NEIGHBOUR: 'it returns false'. Refute it at one input. -/
def fnExactPivotMinorWrong : ChangeSpec := { name := "fnExactPivotMinor", vars := ["loop.example/g01343/impl.errNotBasic"], fn := fun _ => fun
  | [d1, d2, d3, g1] => { results := [.lit (.bool false)], args := [d1, d2, d3], vars := [g1] }
  | _ => none }
def FnExactPivotMinorWrongFalsely : Prop := fnExactPivotMinorRow.holds Tryd.pinned (OpenSpec.ofChange fnExactPivotMinorWrong)

/-- 'laws.FnExactPivotedProblem': WHATEVER THE INPUT: true; the input reads as it did. -/
def fnExactPivotedProblemSpec : ChangeSpec := { name := "fnExactPivotedProblem", vars := ["loop.example/g01343/impl.errNotBasic"], fn := fun _ => fun
  | [d1, d2, g1] => { results := [.lit (.bool true)], args := [d1, d2], vars := [g1] }
  | _ => none }
def fnExactPivotedProblemRow : OpenClaim := { program := "ytopokicejgjcoaadoor", sum := "0d6a4a79ee53adf0a47485ee77e5b681fb692e1b49271f4751a93583c18ad22a", func := "loop.example/g01343/laws.FnExactPivotedProblem", spec := "fnExactPivotedProblem", unfollowed := true, recurses := true, named := ["loop.example/g01343/impl.errNotBasic"], ifaces := true, apart := false, laid := [("loop.example/g01343/impl.errNotBasic", laid_loop_example_g01343_impl_errNotBasic)] }
def FnExactPivotedProblemSaid : Prop := fnExactPivotedProblemRow.holds Tryd.pinned (OpenSpec.ofChange fnExactPivotedProblemSpec)

/-- ITS FALSE NEIGHBOUR: 'it returns false'. Refute it at one input. -/
def fnExactPivotedProblemWrong : ChangeSpec := { name := "fnExactPivotedProblem", vars := ["loop.example/g01343/impl.errNotBasic"], fn := fun _ => fun
  | [d1, d2, g1] => { results := [.lit (.bool false)], args := [d1, d2], vars := [g1] }
  | _ => none }
def FnExactPivotedProblemWrongFalsely : Prop := fnExactPivotedProblemRow.holds Tryd.pinned (OpenSpec.ofChange fnExactPivotedProblemWrong)

/-- 'laws.FnExactRunChain': WHATEVER THE INPUT: true; the input reads as it did. -/
def fnExactRunChainSpec : ChangeSpec := { name := "fnExactRunChain", vars := ["loop.example/g01343/impl.errNotBasic"], fn := fun _ => fun
  | [d1, d2, g1] => { results := [.lit (.bool true)], args := [d1, d2], vars := [g1] }
  | _ => none }
def fnExactRunChainRow : OpenClaim := { program := "ytopokicejgjcoaadoor", sum := "0d6a4a79ee53adf0a47485ee77e5b681fb692e1b49271f4751a93583c18ad22a", func := "loop.example/g01343/laws.FnExactRunChain", spec := "fnExactRunChain", unfollowed := true, recurses := true, named := ["loop.example/g01343/impl.errNotBasic"], ifaces := true, apart := false, laid := [("loop.example/g01343/impl.errNotBasic", laid_loop_example_g01343_impl_errNotBasic)] }
def FnExactRunChainSaid : Prop := fnExactRunChainRow.holds Tryd.pinned (OpenSpec.ofChange fnExactRunChainSpec)

/-- ITS FALSE NEIGHBOUR: 'it returns false'. Refute it at one input. -/
def fnExactRunChainWrong : ChangeSpec := { name := "fnExactRunChain", vars := ["loop.example/g01343/impl.errNotBasic"], fn := fun _ => fun
  | [d1, d2, g1] => { results := [.lit (.bool false)], args := [d1, d2], vars := [g1] }
  | _ => none }
def FnExactRunChainWrongFalsely : Prop := fnExactRunChainRow.holds Tryd.pinned (OpenSpec.ofChange fnExactRunChainWrong)

/-- 'laws.FnExactStepByRule': WHATEVER THE INPUT: true; the input reads as it did. -/
def fnExactStepByRuleSpec : ChangeSpec := { name := "fnExactStepByRule", fn := fun _ => fun
  | [d1, d2, d3] => { results := [.lit (.bool true)], args := [d1, d2, d3] }
  | _ => none }
def fnExactStepByRuleRow : OpenClaim := { program := "ytopokicejgjcoaadoor", sum := "0d6a4a79ee53adf0a47485ee77e5b681fb692e1b49271f4751a93583c18ad22a", func := "loop.example/g01343/laws.FnExactStepByRule", spec := "fnExactStepByRule", unfollowed := true, recurses := true, named := ["math/bits.deBruijn64tab"], apart := false, laid := [("math/bits.deBruijn64tab", laid_math_bits_deBruijn64tab)] }
def FnExactStepByRuleSaid : Prop := fnExactStepByRuleRow.holds Tryd.pinned (OpenSpec.ofChange fnExactStepByRuleSpec)

/-- ITS FALSE NEIGHBOUR: 'it returns false'. Refute it at one input. -/
def fnExactStepByRuleWrong : ChangeSpec := { name := "fnExactStepByRule", fn := fun _ => fun
  | [d1, d2, d3] => { results := [.lit (.bool false)], args := [d1, d2, d3] }
  | _ => none }
def FnExactStepByRuleWrongFalsely : Prop := fnExactStepByRuleRow.holds Tryd.pinned (OpenSpec.ofChange fnExactStepByRuleWrong)

/-- 'laws.FnExactRunByRule': WHATEVER THE INPUT: true; the input reads as it did. -/
def fnExactRunByRuleSpec : ChangeSpec := { name := "fnExactRunByRule", fn := fun _ => fun
  | [d1, d2, d3] => { results := [.lit (.bool true)], args := [d1, d2, d3] }
  | _ => none }
def fnExactRunByRuleRow : OpenClaim := { program := "ytopokicejgjcoaadoor", sum := "0d6a4a79ee53adf0a47485ee77e5b681fb692e1b49271f4751a93583c18ad22a", func := "loop.example/g01343/laws.FnExactRunByRule", spec := "fnExactRunByRule", unfollowed := true, recurses := true, named := ["math/bits.deBruijn64tab"], apart := false, laid := [("math/bits.deBruijn64tab", laid_math_bits_deBruijn64tab)] }
def FnExactRunByRuleSaid : Prop := fnExactRunByRuleRow.holds Tryd.pinned (OpenSpec.ofChange fnExactRunByRuleSpec)

/-- ITS FALSE NEIGHBOUR: 'it returns false'. Refute it at one input. -/
def fnExactRunByRuleWrong : ChangeSpec := { name := "fnExactRunByRule", fn := fun _ => fun
  | [d1, d2, d3] => { results := [.lit (.bool false)], args := [d1, d2, d3] }
  | _ => none }
def FnExactRunByRuleWrongFalsely : Prop := fnExactRunByRuleRow.holds Tryd.pinned (OpenSpec.ofChange fnExactRunByRuleWrong)

/-- 'laws.FnExactSolveByRule': WHATEVER THE INPUT: true; the input reads as it did. -/
def fnExactSolveByRuleSpec : ChangeSpec := { name := "fnExactSolveByRule", fn := fun _ => fun
  | [d1, d2] => { results := [.lit (.bool true)], args := [d1, d2] }
  | _ => none }
def fnExactSolveByRuleRow : OpenClaim := { program := "ytopokicejgjcoaadoor", sum := "0d6a4a79ee53adf0a47485ee77e5b681fb692e1b49271f4751a93583c18ad22a", func := "loop.example/g01343/laws.FnExactSolveByRule", spec := "fnExactSolveByRule", unfollowed := true, recurses := true, named := ["math/bits.deBruijn64tab"], apart := false, laid := [("math/bits.deBruijn64tab", laid_math_bits_deBruijn64tab)] }
def FnExactSolveByRuleSaid : Prop := fnExactSolveByRuleRow.holds Tryd.pinned (OpenSpec.ofChange fnExactSolveByRuleSpec)

/-- ITS FALSE NEIGHBOUR: 'it returns false'. Refute it at one input. -/
def fnExactSolveByRuleWrong : ChangeSpec := { name := "fnExactSolveByRule", fn := fun _ => fun
  | [d1, d2] => { results := [.lit (.bool false)], args := [d1, d2] }
  | _ => none }
def FnExactSolveByRuleWrongFalsely : Prop := fnExactSolveByRuleRow.holds Tryd.pinned (OpenSpec.ofChange fnExactSolveByRuleWrong)

/-- 'laws.FnExactStepsByRule': WHATEVER THE INPUT: true; the input reads as it did. -/
def fnExactStepsByRuleSpec : ChangeSpec := { name := "fnExactStepsByRule", fn := fun _ => fun
  | [d1, d2] => { results := [.lit (.bool true)], args := [d1, d2] }
  | _ => none }
def fnExactStepsByRuleRow : OpenClaim := { program := "ytopokicejgjcoaadoor", sum := "0d6a4a79ee53adf0a47485ee77e5b681fb692e1b49271f4751a93583c18ad22a", func := "loop.example/g01343/laws.FnExactStepsByRule", spec := "fnExactStepsByRule", unfollowed := true, recurses := true, named := ["math/bits.deBruijn64tab"], apart := false, laid := [("math/bits.deBruijn64tab", laid_math_bits_deBruijn64tab)] }
def FnExactStepsByRuleSaid : Prop := fnExactStepsByRuleRow.holds Tryd.pinned (OpenSpec.ofChange fnExactStepsByRuleSpec)

/-- ITS FALSE NEIGHBOUR: 'it returns false'. Refute it at one input. -/
def fnExactStepsByRuleWrong : ChangeSpec := { name := "fnExactStepsByRule", fn := fun _ => fun
  | [d1, d2] => { results := [.lit (.bool false)], args := [d1, d2] }
  | _ => none }
def FnExactStepsByRuleWrongFalsely : Prop := fnExactStepsByRuleRow.holds Tryd.pinned (OpenSpec.ofChange fnExactStepsByRuleWrong)

/-- 'laws.FnExactWorstSigns': WHATEVER THE INPUT: true; the input reads as it did. -/
def fnExactWorstSignsSpec : ChangeSpec := { name := "fnExactWorstSigns", fn := fun _ => fun
  | [d1, d2] => { results := [.lit (.bool true)], args := [d1, d2] }
  | _ => none }
def fnExactWorstSignsRow : OpenClaim := { program := "ytopokicejgjcoaadoor", sum := "0d6a4a79ee53adf0a47485ee77e5b681fb692e1b49271f4751a93583c18ad22a", func := "loop.example/g01343/laws.FnExactWorstSigns", spec := "fnExactWorstSigns", unfollowed := true, recurses := true, named := ["math/bits.deBruijn64tab"], apart := false, laid := [("math/bits.deBruijn64tab", laid_math_bits_deBruijn64tab)] }
def FnExactWorstSignsSaid : Prop := fnExactWorstSignsRow.holds Tryd.pinned (OpenSpec.ofChange fnExactWorstSignsSpec)

/-- ITS FALSE NEIGHBOUR: 'it returns false'. Refute it at one input. -/
def fnExactWorstSignsWrong : ChangeSpec := { name := "fnExactWorstSigns", fn := fun _ => fun
  | [d1, d2] => { results := [.lit (.bool false)], args := [d1, d2] }
  | _ => none }
def FnExactWorstSignsWrongFalsely : Prop := fnExactWorstSignsRow.holds Tryd.pinned (OpenSpec.ofChange fnExactWorstSignsWrong)

/-- 'laws.FnExactCountEnds': WHATEVER THE INPUT: true; the input reads as it did. -/
def fnExactCountEndsSpec : ChangeSpec := { name := "fnExactCountEnds", fn := fun _ => fun
  | [d1, d2] => { results := [.lit (.bool true)], args := [d1, d2] }
  | _ => none }
def fnExactCountEndsRow : OpenClaim := { program := "ytopokicejgjcoaadoor", sum := "0d6a4a79ee53adf0a47485ee77e5b681fb692e1b49271f4751a93583c18ad22a", func := "loop.example/g01343/laws.FnExactCountEnds", spec := "fnExactCountEnds", unfollowed := true, recurses := true, named := ["math/bits.deBruijn64tab"], apart := false, laid := [("math/bits.deBruijn64tab", laid_math_bits_deBruijn64tab)] }
def FnExactCountEndsSaid : Prop := fnExactCountEndsRow.holds Tryd.pinned (OpenSpec.ofChange fnExactCountEndsSpec)

/-- ITS FALSE NEIGHBOUR: 'it returns false'. Refute it at one input. -/
def fnExactCountEndsWrong : ChangeSpec := { name := "fnExactCountEnds", fn := fun _ => fun
  | [d1, d2] => { results := [.lit (.bool false)], args := [d1, d2] }
  | _ => none }
def FnExactCountEndsWrongFalsely : Prop := fnExactCountEndsRow.holds Tryd.pinned (OpenSpec.ofChange fnExactCountEndsWrong)

/-- 'laws.FnExactWalkByRule': WHATEVER THE INPUT: true; the input reads as it did. -/
def fnExactWalkByRuleSpec : ChangeSpec := { name := "fnExactWalkByRule", fn := fun _ => fun
  | [d1, d2, d3] => { results := [.lit (.bool true)], args := [d1, d2, d3] }
  | _ => none }
def fnExactWalkByRuleRow : OpenClaim := { program := "ytopokicejgjcoaadoor", sum := "0d6a4a79ee53adf0a47485ee77e5b681fb692e1b49271f4751a93583c18ad22a", func := "loop.example/g01343/laws.FnExactWalkByRule", spec := "fnExactWalkByRule", named := ["math/bits.deBruijn64tab"], apart := false, laid := [("math/bits.deBruijn64tab", laid_math_bits_deBruijn64tab)] }
def FnExactWalkByRuleSaid : Prop := fnExactWalkByRuleRow.holds Tryd.pinned (OpenSpec.ofChange fnExactWalkByRuleSpec)

/-- ITS FALSE NEIGHBOUR: 'it returns false'. Refute it at one input. -/
def fnExactWalkByRuleWrong : ChangeSpec := { name := "fnExactWalkByRule", fn := fun _ => fun
  | [d1, d2, d3] => { results := [.lit (.bool false)], args := [d1, d2, d3] }
  | _ => none }
def FnExactWalkByRuleWrongFalsely : Prop := fnExactWalkByRuleRow.holds Tryd.pinned (OpenSpec.ofChange fnExactWalkByRuleWrong)

/- THE SECOND FORM. 'bulk': how many values and letters a reading holds, each counted each time it is reached (what is shared counts as often as it is met; a slice's spare places count too). A statement '..UptoSaid' is the law's where the arguments, and the package variables that the reading takes, are together of bulk at most 1048576: NARROWER than '..Said'. Prove '..Said' where nothing that the law and all that it calls make is longer than what came in: it says more and counts as full. Else prove '..UptoSaid'. A law counts once. -/
mutual
def uptoBulk {H : Type} : DataW H → Nat
  | .lit (.string bytes) => bytes.length + 1
  | .lit _ => 1
  | .nil => 1
  | .ptr d => uptoBulk d + 1
  | .slice elems spare => uptoBulkAll elems + uptoBulkAll spare + 1
  | .agg parts => uptoBulkAll parts + 1
  | .iface _ d => uptoBulk d + 1
  | .map entries => uptoBulkEntries entries + 1
  | .held _ => 1
def uptoBulkAll {H : Type} : List (DataW H) → Nat
  | [] => 0
  | d :: r => uptoBulk d + uptoBulkAll r
def uptoBulkEntries {H : Type} : List (Lit × DataW H) → Nat
  | [] => 0
  | x :: r => uptoBulkEntry x + uptoBulkEntries r
def uptoBulkEntry {H : Type} : Lit × DataW H → Nat
  | (.string bytes, d) => bytes.length + uptoBulk d + 1
  | (_, d) => uptoBulk d + 1
 end
def uptoSmall : (H : Type) → List (DataW H) → Bool := fun _ ds => decide (uptoBulkAll ds ≤ 1048576)
def OpenSpec.upto (s : _root_.Go.ChangeSpec) : _root_.Go.OpenSpec := { _root_.Go.OpenSpec.ofChange s with cond := some uptoSmall }

/-- 'laws.FnExactPivotMinor', WHERE WHAT IT READS IS OF BULK AT MOST 1048576: true; the input reads as it did. -/
def fnExactPivotMinorUptoRow : OpenClaim := { program := "ytopokicejgjcoaadoor", sum := "0d6a4a79ee53adf0a47485ee77e5b681fb692e1b49271f4751a93583c18ad22a", func := "loop.example/g01343/laws.FnExactPivotMinor", spec := "fnExactPivotMinor", unfollowed := true, recurses := true, named := ["loop.example/g01343/impl.errNotBasic"], ifaces := true, apart := false, laid := [("loop.example/g01343/impl.errNotBasic", laid_loop_example_g01343_impl_errNotBasic)], narrowed := true }
def FnExactPivotMinorUptoSaid : Prop := fnExactPivotMinorUptoRow.holds Tryd.pinned (OpenSpec.upto fnExactPivotMinorSpec)

/-- 'laws.FnExactPivotedProblem', WHERE WHAT IT READS IS OF BULK AT MOST 1048576: true; the input reads as it did. -/
def fnExactPivotedProblemUptoRow : OpenClaim := { program := "ytopokicejgjcoaadoor", sum := "0d6a4a79ee53adf0a47485ee77e5b681fb692e1b49271f4751a93583c18ad22a", func := "loop.example/g01343/laws.FnExactPivotedProblem", spec := "fnExactPivotedProblem", unfollowed := true, recurses := true, named := ["loop.example/g01343/impl.errNotBasic"], ifaces := true, apart := false, laid := [("loop.example/g01343/impl.errNotBasic", laid_loop_example_g01343_impl_errNotBasic)], narrowed := true }
def FnExactPivotedProblemUptoSaid : Prop := fnExactPivotedProblemUptoRow.holds Tryd.pinned (OpenSpec.upto fnExactPivotedProblemSpec)

/-- 'laws.FnExactRunChain', WHERE WHAT IT READS IS OF BULK AT MOST 1048576: true; the input reads as it did. -/
def fnExactRunChainUptoRow : OpenClaim := { program := "ytopokicejgjcoaadoor", sum := "0d6a4a79ee53adf0a47485ee77e5b681fb692e1b49271f4751a93583c18ad22a", func := "loop.example/g01343/laws.FnExactRunChain", spec := "fnExactRunChain", unfollowed := true, recurses := true, named := ["loop.example/g01343/impl.errNotBasic"], ifaces := true, apart := false, laid := [("loop.example/g01343/impl.errNotBasic", laid_loop_example_g01343_impl_errNotBasic)], narrowed := true }
def FnExactRunChainUptoSaid : Prop := fnExactRunChainUptoRow.holds Tryd.pinned (OpenSpec.upto fnExactRunChainSpec)

/-- 'laws.FnExactStepByRule', WHERE WHAT IT READS IS OF BULK AT MOST 1048576: true; the input reads as it did. -/
def fnExactStepByRuleUptoRow : OpenClaim := { program := "ytopokicejgjcoaadoor", sum := "0d6a4a79ee53adf0a47485ee77e5b681fb692e1b49271f4751a93583c18ad22a", func := "loop.example/g01343/laws.FnExactStepByRule", spec := "fnExactStepByRule", unfollowed := true, recurses := true, named := ["math/bits.deBruijn64tab"], apart := false, laid := [("math/bits.deBruijn64tab", laid_math_bits_deBruijn64tab)], narrowed := true }
def FnExactStepByRuleUptoSaid : Prop := fnExactStepByRuleUptoRow.holds Tryd.pinned (OpenSpec.upto fnExactStepByRuleSpec)

/-- 'laws.FnExactRunByRule', WHERE WHAT IT READS IS OF BULK AT MOST 1048576: true; the input reads as it did. -/
def fnExactRunByRuleUptoRow : OpenClaim := { program := "ytopokicejgjcoaadoor", sum := "0d6a4a79ee53adf0a47485ee77e5b681fb692e1b49271f4751a93583c18ad22a", func := "loop.example/g01343/laws.FnExactRunByRule", spec := "fnExactRunByRule", unfollowed := true, recurses := true, named := ["math/bits.deBruijn64tab"], apart := false, laid := [("math/bits.deBruijn64tab", laid_math_bits_deBruijn64tab)], narrowed := true }
def FnExactRunByRuleUptoSaid : Prop := fnExactRunByRuleUptoRow.holds Tryd.pinned (OpenSpec.upto fnExactRunByRuleSpec)

/-- 'laws.FnExactSolveByRule', WHERE WHAT IT READS IS OF BULK AT MOST 1048576: true; the input reads as it did. -/
def fnExactSolveByRuleUptoRow : OpenClaim := { program := "ytopokicejgjcoaadoor", sum := "0d6a4a79ee53adf0a47485ee77e5b681fb692e1b49271f4751a93583c18ad22a", func := "loop.example/g01343/laws.FnExactSolveByRule", spec := "fnExactSolveByRule", unfollowed := true, recurses := true, named := ["math/bits.deBruijn64tab"], apart := false, laid := [("math/bits.deBruijn64tab", laid_math_bits_deBruijn64tab)], narrowed := true }
def FnExactSolveByRuleUptoSaid : Prop := fnExactSolveByRuleUptoRow.holds Tryd.pinned (OpenSpec.upto fnExactSolveByRuleSpec)

/-- 'laws.FnExactStepsByRule', WHERE WHAT IT READS IS OF BULK AT MOST 1048576: true; the input reads as it did. -/
def fnExactStepsByRuleUptoRow : OpenClaim := { program := "ytopokicejgjcoaadoor", sum := "0d6a4a79ee53adf0a47485ee77e5b681fb692e1b49271f4751a93583c18ad22a", func := "loop.example/g01343/laws.FnExactStepsByRule", spec := "fnExactStepsByRule", unfollowed := true, recurses := true, named := ["math/bits.deBruijn64tab"], apart := false, laid := [("math/bits.deBruijn64tab", laid_math_bits_deBruijn64tab)], narrowed := true }
def FnExactStepsByRuleUptoSaid : Prop := fnExactStepsByRuleUptoRow.holds Tryd.pinned (OpenSpec.upto fnExactStepsByRuleSpec)

/-- 'laws.FnExactWorstSigns', WHERE WHAT IT READS IS OF BULK AT MOST 1048576: true; the input reads as it did. -/
def fnExactWorstSignsUptoRow : OpenClaim := { program := "ytopokicejgjcoaadoor", sum := "0d6a4a79ee53adf0a47485ee77e5b681fb692e1b49271f4751a93583c18ad22a", func := "loop.example/g01343/laws.FnExactWorstSigns", spec := "fnExactWorstSigns", unfollowed := true, recurses := true, named := ["math/bits.deBruijn64tab"], apart := false, laid := [("math/bits.deBruijn64tab", laid_math_bits_deBruijn64tab)], narrowed := true }
def FnExactWorstSignsUptoSaid : Prop := fnExactWorstSignsUptoRow.holds Tryd.pinned (OpenSpec.upto fnExactWorstSignsSpec)

/-- 'laws.FnExactCountEnds', WHERE WHAT IT READS IS OF BULK AT MOST 1048576: true; the input reads as it did. -/
def fnExactCountEndsUptoRow : OpenClaim := { program := "ytopokicejgjcoaadoor", sum := "0d6a4a79ee53adf0a47485ee77e5b681fb692e1b49271f4751a93583c18ad22a", func := "loop.example/g01343/laws.FnExactCountEnds", spec := "fnExactCountEnds", unfollowed := true, recurses := true, named := ["math/bits.deBruijn64tab"], apart := false, laid := [("math/bits.deBruijn64tab", laid_math_bits_deBruijn64tab)], narrowed := true }
def FnExactCountEndsUptoSaid : Prop := fnExactCountEndsUptoRow.holds Tryd.pinned (OpenSpec.upto fnExactCountEndsSpec)

/-- 'laws.FnExactWalkByRule', WHERE WHAT IT READS IS OF BULK AT MOST 1048576: true; the input reads as it did. -/
def fnExactWalkByRuleUptoRow : OpenClaim := { program := "ytopokicejgjcoaadoor", sum := "0d6a4a79ee53adf0a47485ee77e5b681fb692e1b49271f4751a93583c18ad22a", func := "loop.example/g01343/laws.FnExactWalkByRule", spec := "fnExactWalkByRule", named := ["math/bits.deBruijn64tab"], apart := false, laid := [("math/bits.deBruijn64tab", laid_math_bits_deBruijn64tab)], narrowed := true }
def FnExactWalkByRuleUptoSaid : Prop := fnExactWalkByRuleUptoRow.holds Tryd.pinned (OpenSpec.upto fnExactWalkByRuleSpec)

end Rows
end Go.Proofs.YtopokicejgjcoaaDoor
