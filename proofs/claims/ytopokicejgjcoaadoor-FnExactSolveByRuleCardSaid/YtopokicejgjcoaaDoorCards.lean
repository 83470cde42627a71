/-
  DERIVED. GIVEN WITH THE SEED: THE CARDS: each row of YtopokicejgjcoaaDoorRows.lean that lists a variable, with what it lists TIED to the program's text (the seventh form; the later family's looks); each row that meets fmt, with fmt's text TOLD by the authors' own Lean function (tested against real Go, not proved from fmt's source: count such statements apart). THE CARD IS WHAT COUNTS. Prove the row's statement (the work); the ties are given (YtopokicejgjcoaaDoorTie.lean); close each card by the builder's one call (the guide's Derived/Test/ToyasCard.lean, 'card_holds'). Laid BY PROGRAM, IN A SANDBOX (cutbox-door.mjs). By AI agents, Wed Nov 11 2026. No macro, syntax, notation, axiom, sorry.
-/
import Derived.Test.YtopokicejgjcoaaDoorRows
import GoSem.ClaimSeven
namespace Go.Proofs.YtopokicejgjcoaaDoor
namespace Rows

/-- THE TIED CARD OF 'laws.FnExactPivotMinor'. -/
def fnExactPivotMinorCard : Claim7 := { stood := { row := fnExactPivotMinorRow, standIns := [], harness := (true, "9d0c6828253a881bbc862d36272d3297c4e1aab310ac939a4d27f1dc74df2a50"), looks := true }, kinds := [], alts := [], laidByText := true, laidKinds := [.sentinel], laidTests := true, laidLooks := .later }
def FnExactPivotMinorCardSaid : Prop := Claim7.holds Tryd.pinned (.plain (OpenSpec.ofChange fnExactPivotMinorSpec)) fnExactPivotMinorCard

/-- THE TIED CARD OF 'laws.FnExactPivotedProblem'. -/
def fnExactPivotedProblemCard : Claim7 := { stood := { row := fnExactPivotedProblemRow, standIns := [], harness := (true, "9d0c6828253a881bbc862d36272d3297c4e1aab310ac939a4d27f1dc74df2a50"), looks := true }, kinds := [], alts := [], laidByText := true, laidKinds := [.sentinel], laidTests := true, laidLooks := .later }
def FnExactPivotedProblemCardSaid : Prop := Claim7.holds Tryd.pinned (.plain (OpenSpec.ofChange fnExactPivotedProblemSpec)) fnExactPivotedProblemCard

/-- THE TIED CARD OF 'laws.FnExactRunChain'. -/
def fnExactRunChainCard : Claim7 := { stood := { row := fnExactRunChainRow, standIns := [], harness := (true, "9d0c6828253a881bbc862d36272d3297c4e1aab310ac939a4d27f1dc74df2a50"), looks := true }, kinds := [], alts := [], laidByText := true, laidKinds := [.sentinel], laidTests := true, laidLooks := .later }
def FnExactRunChainCardSaid : Prop := Claim7.holds Tryd.pinned (.plain (OpenSpec.ofChange fnExactRunChainSpec)) fnExactRunChainCard

/-- THE TIED CARD OF 'laws.FnExactStepByRule'. -/
def fnExactStepByRuleCard : Claim7 := { stood := { row := fnExactStepByRuleRow, standIns := [], harness := (true, "9d0c6828253a881bbc862d36272d3297c4e1aab310ac939a4d27f1dc74df2a50"), looks := true }, kinds := [], alts := [], laidByText := true, laidKinds := [.data], laidTests := true, laidLooks := .later }
def FnExactStepByRuleCardSaid : Prop := Claim7.holds Tryd.pinned (.plain (OpenSpec.ofChange fnExactStepByRuleSpec)) fnExactStepByRuleCard

/-- THE TIED CARD OF 'laws.FnExactRunByRule'. -/
def fnExactRunByRuleCard : Claim7 := { stood := { row := fnExactRunByRuleRow, standIns := [], harness := (true, "9d0c6828253a881bbc862d36272d3297c4e1aab310ac939a4d27f1dc74df2a50"), looks := true }, kinds := [], alts := [], laidByText := true, laidKinds := [.data], laidTests := true, laidLooks := .later }
def FnExactRunByRuleCardSaid : Prop := Claim7.holds Tryd.pinned (.plain (OpenSpec.ofChange fnExactRunByRuleSpec)) fnExactRunByRuleCard

/-- THE TIED CARD OF 'laws.FnExactSolveByRule'. -/
def fnExactSolveByRuleCard : Claim7 := { stood := { row := fnExactSolveByRuleRow, standIns := [], harness := (true, "9d0c6828253a881bbc862d36272d3297c4e1aab310ac939a4d27f1dc74df2a50"), looks := true }, kinds := [], alts := [], laidByText := true, laidKinds := [.data], laidTests := true, laidLooks := .later }
def FnExactSolveByRuleCardSaid : Prop := Claim7.holds Tryd.pinned (.plain (OpenSpec.ofChange fnExactSolveByRuleSpec)) fnExactSolveByRuleCard

/-- THE TIED CARD OF 'laws.FnExactStepsByRule'. -/
def fnExactStepsByRuleCard : Claim7 := { stood := { row := fnExactStepsByRuleRow, standIns := [], harness := (true, "9d0c6828253a881bbc862d36272d3297c4e1aab310ac939a4d27f1dc74df2a50"), looks := true }, kinds := [], alts := [], laidByText := true, laidKinds := [.data], laidTests := true, laidLooks := .later }
def FnExactStepsByRuleCardSaid : Prop := Claim7.holds Tryd.pinned (.plain (OpenSpec.ofChange fnExactStepsByRuleSpec)) fnExactStepsByRuleCard

/-- THE TIED CARD OF 'laws.FnExactWorstSigns'. -/
def fnExactWorstSignsCard : Claim7 := { stood := { row := fnExactWorstSignsRow, standIns := [], harness := (true, "9d0c6828253a881bbc862d36272d3297c4e1aab310ac939a4d27f1dc74df2a50"), looks := true }, kinds := [], alts := [], laidByText := true, laidKinds := [.data], laidTests := true, laidLooks := .later }
def FnExactWorstSignsCardSaid : Prop := Claim7.holds Tryd.pinned (.plain (OpenSpec.ofChange fnExactWorstSignsSpec)) fnExactWorstSignsCard

/-- THE TIED CARD OF 'laws.FnExactCountEnds'. -/
def fnExactCountEndsCard : Claim7 := { stood := { row := fnExactCountEndsRow, standIns := [], harness := (true, "9d0c6828253a881bbc862d36272d3297c4e1aab310ac939a4d27f1dc74df2a50"), looks := true }, kinds := [], alts := [], laidByText := true, laidKinds := [.data], laidTests := true, laidLooks := .later }
def FnExactCountEndsCardSaid : Prop := Claim7.holds Tryd.pinned (.plain (OpenSpec.ofChange fnExactCountEndsSpec)) fnExactCountEndsCard

/-- THE TIED CARD OF 'laws.FnExactWalkByRule'. -/
def fnExactWalkByRuleCard : Claim7 := { stood := { row := fnExactWalkByRuleRow, standIns := [], harness := (true, "9d0c6828253a881bbc862d36272d3297c4e1aab310ac939a4d27f1dc74df2a50"), looks := true }, kinds := [], alts := [], laidByText := true, laidKinds := [.data], laidTests := true, laidLooks := .later }
def FnExactWalkByRuleCardSaid : Prop := Claim7.holds Tryd.pinned (.plain (OpenSpec.ofChange fnExactWalkByRuleSpec)) fnExactWalkByRuleCard

/-- THE SECOND FORM's CARD OF 'laws.FnExactPivotMinor'. -/
def fnExactPivotMinorUptoCard : Claim7 := { stood := { row := fnExactPivotMinorUptoRow, standIns := [], harness := (true, "9d0c6828253a881bbc862d36272d3297c4e1aab310ac939a4d27f1dc74df2a50"), looks := true }, kinds := [], alts := [], laidByText := true, laidKinds := [.sentinel], laidTests := true, laidLooks := .later }
def FnExactPivotMinorUptoCardSaid : Prop := Claim7.holds Tryd.pinned (.plain (OpenSpec.upto fnExactPivotMinorSpec)) fnExactPivotMinorUptoCard

/-- THE SECOND FORM's CARD OF 'laws.FnExactPivotedProblem'. -/
def fnExactPivotedProblemUptoCard : Claim7 := { stood := { row := fnExactPivotedProblemUptoRow, standIns := [], harness := (true, "9d0c6828253a881bbc862d36272d3297c4e1aab310ac939a4d27f1dc74df2a50"), looks := true }, kinds := [], alts := [], laidByText := true, laidKinds := [.sentinel], laidTests := true, laidLooks := .later }
def FnExactPivotedProblemUptoCardSaid : Prop := Claim7.holds Tryd.pinned (.plain (OpenSpec.upto fnExactPivotedProblemSpec)) fnExactPivotedProblemUptoCard

/-- THE SECOND FORM's CARD OF 'laws.FnExactRunChain'. -/
def fnExactRunChainUptoCard : Claim7 := { stood := { row := fnExactRunChainUptoRow, standIns := [], harness := (true, "9d0c6828253a881bbc862d36272d3297c4e1aab310ac939a4d27f1dc74df2a50"), looks := true }, kinds := [], alts := [], laidByText := true, laidKinds := [.sentinel], laidTests := true, laidLooks := .later }
def FnExactRunChainUptoCardSaid : Prop := Claim7.holds Tryd.pinned (.plain (OpenSpec.upto fnExactRunChainSpec)) fnExactRunChainUptoCard

/-- THE SECOND FORM's CARD OF 'laws.FnExactStepByRule'. -/
def fnExactStepByRuleUptoCard : Claim7 := { stood := { row := fnExactStepByRuleUptoRow, standIns := [], harness := (true, "9d0c6828253a881bbc862d36272d3297c4e1aab310ac939a4d27f1dc74df2a50"), looks := true }, kinds := [], alts := [], laidByText := true, laidKinds := [.data], laidTests := true, laidLooks := .later }
def FnExactStepByRuleUptoCardSaid : Prop := Claim7.holds Tryd.pinned (.plain (OpenSpec.upto fnExactStepByRuleSpec)) fnExactStepByRuleUptoCard

/-- THE SECOND FORM's CARD OF 'laws.FnExactRunByRule'. -/
def fnExactRunByRuleUptoCard : Claim7 := { stood := { row := fnExactRunByRuleUptoRow, standIns := [], harness := (true, "9d0c6828253a881bbc862d36272d3297c4e1aab310ac939a4d27f1dc74df2a50"), looks := true }, kinds := [], alts := [], laidByText := true, laidKinds := [.data], laidTests := true, laidLooks := .later }
def FnExactRunByRuleUptoCardSaid : Prop := Claim7.holds Tryd.pinned (.plain (OpenSpec.upto fnExactRunByRuleSpec)) fnExactRunByRuleUptoCard

/-- THE SECOND FORM's CARD OF 'laws.FnExactSolveByRule'. -/
def fnExactSolveByRuleUptoCard : Claim7 := { stood := { row := fnExactSolveByRuleUptoRow, standIns := [], harness := (true, "9d0c6828253a881bbc862d36272d3297c4e1aab310ac939a4d27f1dc74df2a50"), looks := true }, kinds := [], alts := [], laidByText := true, laidKinds := [.data], laidTests := true, laidLooks := .later }
def FnExactSolveByRuleUptoCardSaid : Prop := Claim7.holds Tryd.pinned (.plain (OpenSpec.upto fnExactSolveByRuleSpec)) fnExactSolveByRuleUptoCard

/-- THE SECOND FORM's CARD OF 'laws.FnExactStepsByRule'. -/
def fnExactStepsByRuleUptoCard : Claim7 := { stood := { row := fnExactStepsByRuleUptoRow, standIns := [], harness := (true, "9d0c6828253a881bbc862d36272d3297c4e1aab310ac939a4d27f1dc74df2a50"), looks := true }, kinds := [], alts := [], laidByText := true, laidKinds := [.data], laidTests := true, laidLooks := .later }
def FnExactStepsByRuleUptoCardSaid : Prop := Claim7.holds Tryd.pinned (.plain (OpenSpec.upto fnExactStepsByRuleSpec)) fnExactStepsByRuleUptoCard

/-- THE SECOND FORM's CARD OF 'laws.FnExactWorstSigns'. -/
def fnExactWorstSignsUptoCard : Claim7 := { stood := { row := fnExactWorstSignsUptoRow, standIns := [], harness := (true, "9d0c6828253a881bbc862d36272d3297c4e1aab310ac939a4d27f1dc74df2a50"), looks := true }, kinds := [], alts := [], laidByText := true, laidKinds := [.data], laidTests := true, laidLooks := .later }
def FnExactWorstSignsUptoCardSaid : Prop := Claim7.holds Tryd.pinned (.plain (OpenSpec.upto fnExactWorstSignsSpec)) fnExactWorstSignsUptoCard

/-- THE SECOND FORM's CARD OF 'laws.FnExactCountEnds'. -/
def fnExactCountEndsUptoCard : Claim7 := { stood := { row := fnExactCountEndsUptoRow, standIns := [], harness := (true, "9d0c6828253a881bbc862d36272d3297c4e1aab310ac939a4d27f1dc74df2a50"), looks := true }, kinds := [], alts := [], laidByText := true, laidKinds := [.data], laidTests := true, laidLooks := .later }
def FnExactCountEndsUptoCardSaid : Prop := Claim7.holds Tryd.pinned (.plain (OpenSpec.upto fnExactCountEndsSpec)) fnExactCountEndsUptoCard

/-- THE SECOND FORM's CARD OF 'laws.FnExactWalkByRule'. -/
def fnExactWalkByRuleUptoCard : Claim7 := { stood := { row := fnExactWalkByRuleUptoRow, standIns := [], harness := (true, "9d0c6828253a881bbc862d36272d3297c4e1aab310ac939a4d27f1dc74df2a50"), looks := true }, kinds := [], alts := [], laidByText := true, laidKinds := [.data], laidTests := true, laidLooks := .later }
def FnExactWalkByRuleUptoCardSaid : Prop := Claim7.holds Tryd.pinned (.plain (OpenSpec.upto fnExactWalkByRuleSpec)) fnExactWalkByRuleUptoCard
end Rows
end Go.Proofs.YtopokicejgjcoaaDoor
