/-
  NARROWER THAN 'FOR EVERY INPUT', by the rows' own cells (each row's printed sentence says how): FnExactPivotOf: ifaces, laid · FnExactIsWholePivot: ifaces, laid · FnExactPivotedProblem: ifaces, laid · FnExactPivotMinor: ifaces, laid · FnExactComplementOf: ifaces, laid · FnExactInverseOf: ifaces, laid · FnExactRunChain: ifaces, laid · FnExactSignsOfPivot: ifaces, laid.
  DERIVED. THE GIVEN ROWS OF THIS SEAT. 8 by the template 'for every input the law returns true; each argument reads behind the call as it read before'; 0 by the template 'total and deterministic' (their statements: YthnefjllijoobaaDoorTotals.lean).
  GIVEN WITH THE SEED: the statements are not yours to turn. If you find one false, say at which input.
  Laid BY PROGRAM, IN A SANDBOX (cutbox-rows.mjs): the forced cells as the released guide's own fill.sh prints them over the translation e0f9d0f0be5b6ee4… (all of the seat's roots in one cut). By AI agents, Wed Nov 11 2026. No macro, syntax, notation, axiom, sorry.
-/
import Derived.Test.YthnefjllijoobaaDoorChecked
import GoSem.Claim
import GoSem.ClaimJoined
import GoSem.ClaimMapViews
import Derived.JoinedTies
import Derived.KernelRfl
namespace Go.Proofs.YthnefjllijoobaaDoor
/- THE CELL 'sum', in the pinned program and in every row, IS THE sha256 OF THE DUMP (.gsa) THAT YthnefjllijoobaaDoorProg.lean LOADS. Nothing in Lean hashes anything: it is a label: what it is worth is what the hold of that sum in a sandbox is worth. -/
noncomputable def Tryd.pinned : Pinned := { name := "ythnefjllijoobaadoor", sum := "e0f9d0f0be5b6ee41466cc30e43020c16a3c3b0e168f20584c3d45d5c8936977", checked := Tryd.checked }
namespace Rows
def none {H : Type} : Left H := { results := [], args := [] }

/- WHAT THE LISTED PACKAGE-LEVEL VARIABLES READ AS WHEN THE CALL BEGINS. Each datum BY PROGRAM (the guide's laid-datum.mjs) off the statement by which the dump's own 'gosem.cut.vars' lays the variable. In a bare row this is a premise. The card (YthnefjllijoobaaDoorCards.lean) ties it to the program's text. -/
def laid_loop_example_g01343_impl_errNotBasic {H : Type} : DataW H := .iface "*errors.errorString" (.ptr (.agg [.lit (.string [97, 32, 115, 101, 116, 32, 105, 115, 32, 110, 111, 116, 32, 98, 97, 115, 105, 99])]))

/-- 'laws.FnExactPivotOf': WHATEVER THE INPUT: true; the input reads as it did. -/
def fnExactPivotOfSpec : ChangeSpec := { name := "fnExactPivotOf", vars := ["loop.example/g01343/impl.errNotBasic"], fn := fun _ => fun
  | [d1, d2, g1] => { results := [.lit (.bool true)], args := [d1, d2], vars := [g1] }
  | _ => none }
def fnExactPivotOfRow : OpenClaim := { program := "ythnefjllijoobaadoor", sum := "e0f9d0f0be5b6ee41466cc30e43020c16a3c3b0e168f20584c3d45d5c8936977", func := "loop.example/g01343/laws.FnExactPivotOf", spec := "fnExactPivotOf", unfollowed := true, recurses := true, named := ["loop.example/g01343/impl.errNotBasic"], ifaces := true, apart := false, laid := [("loop.example/g01343/impl.errNotBasic", laid_loop_example_g01343_impl_errNotBasic)] }
def FnExactPivotOfSaid : Prop := fnExactPivotOfRow.holds Tryd.pinned (OpenSpec.ofChange fnExactPivotOfSpec)

/-- ITS FALSE NEIGHBOUR: 'it returns false'. Refute it at one input. -/
def fnExactPivotOfWrong : ChangeSpec := { name := "fnExactPivotOf", vars := ["loop.example/g01343/impl.errNotBasic"], fn := fun _ => fun
  | [d1, d2, g1] => { results := [.lit (.bool false)], args := [d1, d2], vars := [g1] }
  | _ => none }
def FnExactPivotOfWrongFalsely : Prop := fnExactPivotOfRow.holds Tryd.pinned (OpenSpec.ofChange fnExactPivotOfWrong)

/-- 'laws.FnExactIsWholePivot': WHATEVER THE INPUT: true; the input reads as it did. -/
def fnExactIsWholePivotSpec : ChangeSpec := { name := "fnExactIsWholePivot", vars := ["loop.example/g01343/impl.errNotBasic"], fn := fun _ => fun
  | [d1, d2, g1] => { results := [.lit (.bool true)], args := [d1, d2], vars := [g1] }
  | _ => none }
def fnExactIsWholePivotRow : OpenClaim := { program := "ythnefjllijoobaadoor", sum := "e0f9d0f0be5b6ee41466cc30e43020c16a3c3b0e168f20584c3d45d5c8936977", func := "loop.example/g01343/laws.FnExactIsWholePivot", spec := "fnExactIsWholePivot", unfollowed := true, recurses := true, named := ["loop.example/g01343/impl.errNotBasic"], ifaces := true, apart := false, laid := [("loop.example/g01343/impl.errNotBasic", laid_loop_example_g01343_impl_errNotBasic)] }
def FnExactIsWholePivotSaid : Prop := fnExactIsWholePivotRow.holds Tryd.pinned (OpenSpec.ofChange fnExactIsWholePivotSpec)

/-- ITS FALSE NEIGHBOUR: 'it returns false'. Refute it at one input. -/
def fnExactIsWholePivotWrong : ChangeSpec := { name := "fnExactIsWholePivot", vars := ["loop.example/g01343/impl.errNotBasic"], fn := fun _ => fun
  | [d1, d2, g1] => { results := [.lit (.bool false)], args := [d1, d2], vars := [g1] }
  | _ => none }
def FnExactIsWholePivotWrongFalsely : Prop := fnExactIsWholePivotRow.holds Tryd.pinned (OpenSpec.ofChange fnExactIsWholePivotWrong)

/-- 'laws.FnExactPivotedProblem': WHATEVER THE INPUT: true; the input reads as it did. -/
def fnExactPivotedProblemSpec : ChangeSpec := { name := "fnExactPivotedProblem", vars := ["loop.example/g01343/impl.errNotBasic"], fn := fun _ => fun
  | [d1, d2, g1] => { results := [.lit (.bool true)], args := [d1, d2], vars := [g1] }
  | _ => none }
def fnExactPivotedProblemRow : OpenClaim := { program := "ythnefjllijoobaadoor", sum := "e0f9d0f0be5b6ee41466cc30e43020c16a3c3b0e168f20584c3d45d5c8936977", func := "loop.example/g01343/laws.FnExactPivotedProblem", spec := "fnExactPivotedProblem", unfollowed := true, recurses := true, named := ["loop.example/g01343/impl.errNotBasic"], ifaces := true, apart := false, laid := [("loop.example/g01343/impl.errNotBasic", laid_loop_example_g01343_impl_errNotBasic)] }
def FnExactPivotedProblemSaid : Prop := fnExactPivotedProblemRow.holds Tryd.pinned (OpenSpec.ofChange fnExactPivotedProblemSpec)

/-- ITS FALSE NEIGHBOUR: 'it returns false'. Refute it at one input. -/
def fnExactPivotedProblemWrong : ChangeSpec := { name := "fnExactPivotedProblem", vars := ["loop.example/g01343/impl.errNotBasic"], fn := fun _ => fun
  | [d1, d2, g1] => { results := [.lit (.bool false)], args := [d1, d2], vars := [g1] }
  | _ => none }
def FnExactPivotedProblemWrongFalsely : Prop := fnExactPivotedProblemRow.holds Tryd.pinned (OpenSpec.ofChange fnExactPivotedProblemWrong)

/-- 'laws.FnExactPivotMinor': WHATEVER THE INPUT: true; the input reads as it did. -/
def fnExactPivotMinorSpec : ChangeSpec := { name := "fnExactPivotMinor", vars := ["loop.example/g01343/impl.errNotBasic"], fn := fun _ => fun
  | [d1, d2, d3, g1] => { results := [.lit (.bool true)], args := [d1, d2, d3], vars := [g1] }
  | _ => none }
def fnExactPivotMinorRow : OpenClaim := { program := "ythnefjllijoobaadoor", sum := "e0f9d0f0be5b6ee41466cc30e43020c16a3c3b0e168f20584c3d45d5c8936977", func := "loop.example/g01343/laws.FnExactPivotMinor", spec := "fnExactPivotMinor", unfollowed := true, recurses := true, named := ["loop.example/g01343/impl.errNotBasic"], ifaces := true, apart := false, laid := [("loop.example/g01343/impl.errNotBasic", laid_loop_example_g01343_impl_errNotBasic)] }
def FnExactPivotMinorSaid : Prop := fnExactPivotMinorRow.holds Tryd.pinned (OpenSpec.ofChange fnExactPivotMinorSpec)

/-- ITS FALSE NEIGHBOUR: 'it returns false'. Refute it at one input. -/
def fnExactPivotMinorWrong : ChangeSpec := { name := "fnExactPivotMinor", vars := ["loop.example/g01343/impl.errNotBasic"], fn := fun _ => fun
  | [d1, d2, d3, g1] => { results := [.lit (.bool false)], args := [d1, d2, d3], vars := [g1] }
  | _ => none }
def FnExactPivotMinorWrongFalsely : Prop := fnExactPivotMinorRow.holds Tryd.pinned (OpenSpec.ofChange fnExactPivotMinorWrong)

/-- 'laws.FnExactComplementOf': WHATEVER THE INPUT: true; the input reads as it did. -/
def fnExactComplementOfSpec : ChangeSpec := { name := "fnExactComplementOf", vars := ["loop.example/g01343/impl.errNotBasic"], fn := fun _ => fun
  | [d1, d2, g1] => { results := [.lit (.bool true)], args := [d1, d2], vars := [g1] }
  | _ => none }
def fnExactComplementOfRow : OpenClaim := { program := "ythnefjllijoobaadoor", sum := "e0f9d0f0be5b6ee41466cc30e43020c16a3c3b0e168f20584c3d45d5c8936977", func := "loop.example/g01343/laws.FnExactComplementOf", spec := "fnExactComplementOf", unfollowed := true, recurses := true, named := ["loop.example/g01343/impl.errNotBasic"], ifaces := true, apart := false, laid := [("loop.example/g01343/impl.errNotBasic", laid_loop_example_g01343_impl_errNotBasic)] }
def FnExactComplementOfSaid : Prop := fnExactComplementOfRow.holds Tryd.pinned (OpenSpec.ofChange fnExactComplementOfSpec)

/-- ITS FALSE NEIGHBOUR: 'it returns false'. Refute it at one input. -/
def fnExactComplementOfWrong : ChangeSpec := { name := "fnExactComplementOf", vars := ["loop.example/g01343/impl.errNotBasic"], fn := fun _ => fun
  | [d1, d2, g1] => { results := [.lit (.bool false)], args := [d1, d2], vars := [g1] }
  | _ => none }
def FnExactComplementOfWrongFalsely : Prop := fnExactComplementOfRow.holds Tryd.pinned (OpenSpec.ofChange fnExactComplementOfWrong)

/-- 'laws.FnExactInverseOf': WHATEVER THE INPUT: true; the input reads as it did. -/
def fnExactInverseOfSpec : ChangeSpec := { name := "fnExactInverseOf", vars := ["loop.example/g01343/impl.errNotBasic"], fn := fun _ => fun
  | [d, g1] => { results := [.lit (.bool true)], args := [d], vars := [g1] }
  | _ => none }
def fnExactInverseOfRow : OpenClaim := { program := "ythnefjllijoobaadoor", sum := "e0f9d0f0be5b6ee41466cc30e43020c16a3c3b0e168f20584c3d45d5c8936977", func := "loop.example/g01343/laws.FnExactInverseOf", spec := "fnExactInverseOf", unfollowed := true, recurses := true, named := ["loop.example/g01343/impl.errNotBasic"], ifaces := true, apart := false, laid := [("loop.example/g01343/impl.errNotBasic", laid_loop_example_g01343_impl_errNotBasic)] }
def FnExactInverseOfSaid : Prop := fnExactInverseOfRow.holds Tryd.pinned (OpenSpec.ofChange fnExactInverseOfSpec)

/-- ITS FALSE NEIGHBOUR: 'it returns false'. Refute it at one input. -/
def fnExactInverseOfWrong : ChangeSpec := { name := "fnExactInverseOf", vars := ["loop.example/g01343/impl.errNotBasic"], fn := fun _ => fun
  | [d, g1] => { results := [.lit (.bool false)], args := [d], vars := [g1] }
  | _ => none }
def FnExactInverseOfWrongFalsely : Prop := fnExactInverseOfRow.holds Tryd.pinned (OpenSpec.ofChange fnExactInverseOfWrong)

/-- 'laws.FnExactRunChain': WHATEVER THE INPUT: true; the input reads as it did. -/
def fnExactRunChainSpec : ChangeSpec := { name := "fnExactRunChain", vars := ["loop.example/g01343/impl.errNotBasic"], fn := fun _ => fun
  | [d1, d2, g1] => { results := [.lit (.bool true)], args := [d1, d2], vars := [g1] }
  | _ => none }
def fnExactRunChainRow : OpenClaim := { program := "ythnefjllijoobaadoor", sum := "e0f9d0f0be5b6ee41466cc30e43020c16a3c3b0e168f20584c3d45d5c8936977", func := "loop.example/g01343/laws.FnExactRunChain", spec := "fnExactRunChain", unfollowed := true, recurses := true, named := ["loop.example/g01343/impl.errNotBasic"], ifaces := true, apart := false, laid := [("loop.example/g01343/impl.errNotBasic", laid_loop_example_g01343_impl_errNotBasic)] }
def FnExactRunChainSaid : Prop := fnExactRunChainRow.holds Tryd.pinned (OpenSpec.ofChange fnExactRunChainSpec)

/-- ITS FALSE NEIGHBOUR: 'it returns false'. Refute it at one input. -/
def fnExactRunChainWrong : ChangeSpec := { name := "fnExactRunChain", vars := ["loop.example/g01343/impl.errNotBasic"], fn := fun _ => fun
  | [d1, d2, g1] => { results := [.lit (.bool false)], args := [d1, d2], vars := [g1] }
  | _ => none }
def FnExactRunChainWrongFalsely : Prop := fnExactRunChainRow.holds Tryd.pinned (OpenSpec.ofChange fnExactRunChainWrong)

/-- 'laws.FnExactSignsOfPivot': WHATEVER THE INPUT: true; the input reads as it did. -/
def fnExactSignsOfPivotSpec : ChangeSpec := { name := "fnExactSignsOfPivot", vars := ["loop.example/g01343/impl.errNotBasic"], fn := fun _ => fun
  | [d1, d2, g1] => { results := [.lit (.bool true)], args := [d1, d2], vars := [g1] }
  | _ => none }
def fnExactSignsOfPivotRow : OpenClaim := { program := "ythnefjllijoobaadoor", sum := "e0f9d0f0be5b6ee41466cc30e43020c16a3c3b0e168f20584c3d45d5c8936977", func := "loop.example/g01343/laws.FnExactSignsOfPivot", spec := "fnExactSignsOfPivot", unfollowed := true, recurses := true, named := ["loop.example/g01343/impl.errNotBasic"], ifaces := true, apart := false, laid := [("loop.example/g01343/impl.errNotBasic", laid_loop_example_g01343_impl_errNotBasic)] }
def FnExactSignsOfPivotSaid : Prop := fnExactSignsOfPivotRow.holds Tryd.pinned (OpenSpec.ofChange fnExactSignsOfPivotSpec)

/-- ITS FALSE NEIGHBOUR: 'it returns false'. Refute it at one input. -/
def fnExactSignsOfPivotWrong : ChangeSpec := { name := "fnExactSignsOfPivot", vars := ["loop.example/g01343/impl.errNotBasic"], fn := fun _ => fun
  | [d1, d2, g1] => { results := [.lit (.bool false)], args := [d1, d2], vars := [g1] }
  | _ => none }
def FnExactSignsOfPivotWrongFalsely : Prop := fnExactSignsOfPivotRow.holds Tryd.pinned (OpenSpec.ofChange fnExactSignsOfPivotWrong)

/- THE SECOND FORM. 'bulk': how many values and letters a reading holds, each counted each time it is reached (what is shared counts as often as it is met; a slice's spare places count too). A statement '..UptoSaid' is the law's where the arguments, and the package variables that the reading takes, are together of bulk at most 1048576: NARROWER than '..Said'. Prove '..Said' where nothing that the law and all that it calls make is longer than what came in: it says more and counts as full. Else prove '..UptoSaid'. A law counts once. -/
mutual
def uptoBulk {H : Type} : DataW H → Nat
  | .lit (.string bytes) => bytes.length + 1
  | .lit _ => 1
  | .nil => 1
  | .ptr d => uptoBulk d + 1
  | .slice elems spare => uptoBulkAll elems + uptoBulkAll spare + 1
  | .agg parts => uptoBulkAll parts + 1
  | .iface _ d => uptoBulk d + 1
  | .map entries => uptoBulkEntries entries + 1
  | .held _ => 1
def uptoBulkAll {H : Type} : List (DataW H) → Nat
  | [] => 0
  | d :: r => uptoBulk d + uptoBulkAll r
def uptoBulkEntries {H : Type} : List (Lit × DataW H) → Nat
  | [] => 0
  | x :: r => uptoBulkEntry x + uptoBulkEntries r
def uptoBulkEntry {H : Type} : Lit × DataW H → Nat
  | (.string bytes, d) => bytes.length + uptoBulk d + 1
  | (_, d) => uptoBulk d + 1
 end
def uptoSmall : (H : Type) → List (DataW H) → Bool := fun _ ds => decide (uptoBulkAll ds ≤ 1048576)
def OpenSpec.upto (s : _root_.Go.ChangeSpec) : _root_.Go.OpenSpec := { _root_.Go.OpenSpec.ofChange s with cond := some uptoSmall }

/-- 'laws.FnExactPivotOf', WHERE WHAT IT READS IS OF BULK AT MOST 1048576: true; the input reads as it did. -/
def fnExactPivotOfUptoRow : OpenClaim := { program := "ythnefjllijoobaadoor", sum := "e0f9d0f0be5b6ee41466cc30e43020c16a3c3b0e168f20584c3d45d5c8936977", func := "loop.example/g01343/laws.FnExactPivotOf", spec := "fnExactPivotOf", unfollowed := true, recurses := true, named := ["loop.example/g01343/impl.errNotBasic"], ifaces := true, apart := false, laid := [("loop.example/g01343/impl.errNotBasic", laid_loop_example_g01343_impl_errNotBasic)], narrowed := true }
def FnExactPivotOfUptoSaid : Prop := fnExactPivotOfUptoRow.holds Tryd.pinned (OpenSpec.upto fnExactPivotOfSpec)

/-- 'laws.FnExactIsWholePivot', WHERE WHAT IT READS IS OF BULK AT MOST 1048576: true; the input reads as it did. -/
def fnExactIsWholePivotUptoRow : OpenClaim := { program := "ythnefjllijoobaadoor", sum := "e0f9d0f0be5b6ee41466cc30e43020c16a3c3b0e168f20584c3d45d5c8936977", func := "loop.example/g01343/laws.FnExactIsWholePivot", spec := "fnExactIsWholePivot", unfollowed := true, recurses := true, named := ["loop.example/g01343/impl.errNotBasic"], ifaces := true, apart := false, laid := [("loop.example/g01343/impl.errNotBasic", laid_loop_example_g01343_impl_errNotBasic)], narrowed := true }
def FnExactIsWholePivotUptoSaid : Prop := fnExactIsWholePivotUptoRow.holds Tryd.pinned (OpenSpec.upto fnExactIsWholePivotSpec)

/-- 'laws.FnExactPivotedProblem', WHERE WHAT IT READS IS OF BULK AT MOST 1048576: true; the input reads as it did. -/
def fnExactPivotedProblemUptoRow : OpenClaim := { program := "ythnefjllijoobaadoor", sum := "e0f9d0f0be5b6ee41466cc30e43020c16a3c3b0e168f20584c3d45d5c8936977", func := "loop.example/g01343/laws.FnExactPivotedProblem", spec := "fnExactPivotedProblem", unfollowed := true, recurses := true, named := ["loop.example/g01343/impl.errNotBasic"], ifaces := true, apart := false, laid := [("loop.example/g01343/impl.errNotBasic", laid_loop_example_g01343_impl_errNotBasic)], narrowed := true }
def FnExactPivotedProblemUptoSaid : Prop := fnExactPivotedProblemUptoRow.holds Tryd.pinned (OpenSpec.upto fnExactPivotedProblemSpec)

/-- 'laws.FnExactPivotMinor', WHERE WHAT IT READS IS OF BULK AT MOST 1048576: true; the input reads as it did. -/
def fnExactPivotMinorUptoRow : OpenClaim := { program := "ythnefjllijoobaadoor", sum := "e0f9d0f0be5b6ee41466cc30e43020c16a3c3b0e168f20584c3d45d5c8936977", func := "loop.example/g01343/laws.FnExactPivotMinor", spec := "fnExactPivotMinor", unfollowed := true, recurses := true, named := ["loop.example/g01343/impl.errNotBasic"], ifaces := true, apart := false, laid := [("loop.example/g01343/impl.errNotBasic", laid_loop_example_g01343_impl_errNotBasic)], narrowed := true }
def FnExactPivotMinorUptoSaid : Prop := fnExactPivotMinorUptoRow.holds Tryd.pinned (OpenSpec.upto fnExactPivotMinorSpec)

/-- 'laws.FnExactComplementOf', WHERE WHAT IT READS IS OF BULK AT MOST 1048576: true; the input reads as it did. -/
def fnExactComplementOfUptoRow : OpenClaim := { program := "ythnefjllijoobaadoor", sum := "e0f9d0f0be5b6ee41466cc30e43020c16a3c3b0e168f20584c3d45d5c8936977", func := "loop.example/g01343/laws.FnExactComplementOf", spec := "fnExactComplementOf", unfollowed := true, recurses := true, named := ["loop.example/g01343/impl.errNotBasic"], ifaces := true, apart := false, laid := [("loop.example/g01343/impl.errNotBasic", laid_loop_example_g01343_impl_errNotBasic)], narrowed := true }
def FnExactComplementOfUptoSaid : Prop := fnExactComplementOfUptoRow.holds Tryd.pinned (OpenSpec.upto fnExactComplementOfSpec)

/-- 'laws.FnExactInverseOf', WHERE WHAT IT READS IS OF BULK AT MOST 1048576: true; the input reads as it did. -/
def fnExactInverseOfUptoRow : OpenClaim := { program := "ythnefjllijoobaadoor", sum := "e0f9d0f0be5b6ee41466cc30e43020c16a3c3b0e168f20584c3d45d5c8936977", func := "loop.example/g01343/laws.FnExactInverseOf", spec := "fnExactInverseOf", unfollowed := true, recurses := true, named := ["loop.example/g01343/impl.errNotBasic"], ifaces := true, apart := false, laid := [("loop.example/g01343/impl.errNotBasic", laid_loop_example_g01343_impl_errNotBasic)], narrowed := true }
def FnExactInverseOfUptoSaid : Prop := fnExactInverseOfUptoRow.holds Tryd.pinned (OpenSpec.upto fnExactInverseOfSpec)

/-- 'laws.FnExactRunChain', WHERE WHAT IT READS IS OF BULK AT MOST 1048576: true; the input reads as it did. -/
def fnExactRunChainUptoRow : OpenClaim := { program := "ythnefjllijoobaadoor", sum := "e0f9d0f0be5b6ee41466cc30e43020c16a3c3b0e168f20584c3d45d5c8936977", func := "loop.example/g01343/laws.FnExactRunChain", spec := "fnExactRunChain", unfollowed := true, recurses := true, named := ["loop.example/g01343/impl.errNotBasic"], ifaces := true, apart := false, laid := [("loop.example/g01343/impl.errNotBasic", laid_loop_example_g01343_impl_errNotBasic)], narrowed := true }
def FnExactRunChainUptoSaid : Prop := fnExactRunChainUptoRow.holds Tryd.pinned (OpenSpec.upto fnExactRunChainSpec)

/-- 'laws.FnExactSignsOfPivot', WHERE WHAT IT READS IS OF BULK AT MOST 1048576: true; the input reads as it did. -/
def fnExactSignsOfPivotUptoRow : OpenClaim := { program := "ythnefjllijoobaadoor", sum := "e0f9d0f0be5b6ee41466cc30e43020c16a3c3b0e168f20584c3d45d5c8936977", func := "loop.example/g01343/laws.FnExactSignsOfPivot", spec := "fnExactSignsOfPivot", unfollowed := true, recurses := true, named := ["loop.example/g01343/impl.errNotBasic"], ifaces := true, apart := false, laid := [("loop.example/g01343/impl.errNotBasic", laid_loop_example_g01343_impl_errNotBasic)], narrowed := true }
def FnExactSignsOfPivotUptoSaid : Prop := fnExactSignsOfPivotUptoRow.holds Tryd.pinned (OpenSpec.upto fnExactSignsOfPivotSpec)

end Rows
end Go.Proofs.YthnefjllijoobaaDoor
