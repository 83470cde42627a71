/-
  DERIVED. GIVEN WITH THE SEED: THE CARDS: each row of YthnefjllijoobaaDoorRows.lean that lists a variable, with what it lists TIED to the program's text (the seventh form; the later family's looks); each row that meets fmt, with fmt's text TOLD by the authors' own Lean function (tested against real Go, not proved from fmt's source: count such statements apart). THE CARD IS WHAT COUNTS. Prove the row's statement (the work); the ties are given (YthnefjllijoobaaDoorTie.lean); close each card by the builder's one call (the guide's Derived/Test/ToyasCard.lean, 'card_holds'). Laid BY PROGRAM, IN A SANDBOX (cutbox-door.mjs). By AI agents, Wed Nov 11 2026. No macro, syntax, notation, axiom, sorry.
-/
import Derived.Test.YthnefjllijoobaaDoorRows
import GoSem.ClaimSeven
namespace Go.Proofs.YthnefjllijoobaaDoor
namespace Rows

/-- THE TIED CARD OF 'laws.FnExactPivotOf'. -/
def fnExactPivotOfCard : Claim7 := { stood := { row := fnExactPivotOfRow, standIns := [], harness := (true, "a770279b89c7cf21c64e8c50dd6b3b96a3857f0fe4f3e3a8a3379fc5d6eda7f2"), looks := true }, kinds := [], alts := [], laidByText := true, laidKinds := [.sentinel], laidTests := true, laidLooks := .later }
def FnExactPivotOfCardSaid : Prop := Claim7.holds Tryd.pinned (.plain (OpenSpec.ofChange fnExactPivotOfSpec)) fnExactPivotOfCard

/-- THE TIED CARD OF 'laws.FnExactIsWholePivot'. -/
def fnExactIsWholePivotCard : Claim7 := { stood := { row := fnExactIsWholePivotRow, standIns := [], harness := (true, "a770279b89c7cf21c64e8c50dd6b3b96a3857f0fe4f3e3a8a3379fc5d6eda7f2"), looks := true }, kinds := [], alts := [], laidByText := true, laidKinds := [.sentinel], laidTests := true, laidLooks := .later }
def FnExactIsWholePivotCardSaid : Prop := Claim7.holds Tryd.pinned (.plain (OpenSpec.ofChange fnExactIsWholePivotSpec)) fnExactIsWholePivotCard

/-- THE TIED CARD OF 'laws.FnExactPivotedProblem'. -/
def fnExactPivotedProblemCard : Claim7 := { stood := { row := fnExactPivotedProblemRow, standIns := [], harness := (true, "a770279b89c7cf21c64e8c50dd6b3b96a3857f0fe4f3e3a8a3379fc5d6eda7f2"), looks := true }, kinds := [], alts := [], laidByText := true, laidKinds := [.sentinel], laidTests := true, laidLooks := .later }
def FnExactPivotedProblemCardSaid : Prop := Claim7.holds Tryd.pinned (.plain (OpenSpec.ofChange fnExactPivotedProblemSpec)) fnExactPivotedProblemCard

/-- THE TIED CARD OF 'laws.FnExactPivotMinor'. -/
def fnExactPivotMinorCard : Claim7 := { stood := { row := fnExactPivotMinorRow, standIns := [], harness := (true, "a770279b89c7cf21c64e8c50dd6b3b96a3857f0fe4f3e3a8a3379fc5d6eda7f2"), looks := true }, kinds := [], alts := [], laidByText := true, laidKinds := [.sentinel], laidTests := true, laidLooks := .later }
def FnExactPivotMinorCardSaid : Prop := Claim7.holds Tryd.pinned (.plain (OpenSpec.ofChange fnExactPivotMinorSpec)) fnExactPivotMinorCard

/-- THE TIED CARD OF 'laws.FnExactComplementOf'. -/
def fnExactComplementOfCard : Claim7 := { stood := { row := fnExactComplementOfRow, standIns := [], harness := (true, "a770279b89c7cf21c64e8c50dd6b3b96a3857f0fe4f3e3a8a3379fc5d6eda7f2"), looks := true }, kinds := [], alts := [], laidByText := true, laidKinds := [.sentinel], laidTests := true, laidLooks := .later }
def FnExactComplementOfCardSaid : Prop := Claim7.holds Tryd.pinned (.plain (OpenSpec.ofChange fnExactComplementOfSpec)) fnExactComplementOfCard

/-- THE TIED CARD OF 'laws.FnExactInverseOf'. -/
def fnExactInverseOfCard : Claim7 := { stood := { row := fnExactInverseOfRow, standIns := [], harness := (true, "a770279b89c7cf21c64e8c50dd6b3b96a3857f0fe4f3e3a8a3379fc5d6eda7f2"), looks := true }, kinds := [], alts := [], laidByText := true, laidKinds := [.sentinel], laidTests := true, laidLooks := .later }
def FnExactInverseOfCardSaid : Prop := Claim7.holds Tryd.pinned (.plain (OpenSpec.ofChange fnExactInverseOfSpec)) fnExactInverseOfCard

/-- THE TIED CARD OF 'laws.FnExactRunChain'. -/
def fnExactRunChainCard : Claim7 := { stood := { row := fnExactRunChainRow, standIns := [], harness := (true, "a770279b89c7cf21c64e8c50dd6b3b96a3857f0fe4f3e3a8a3379fc5d6eda7f2"), looks := true }, kinds := [], alts := [], laidByText := true, laidKinds := [.sentinel], laidTests := true, laidLooks := .later }
def FnExactRunChainCardSaid : Prop := Claim7.holds Tryd.pinned (.plain (OpenSpec.ofChange fnExactRunChainSpec)) fnExactRunChainCard

/-- THE TIED CARD OF 'laws.FnExactSignsOfPivot'. -/
def fnExactSignsOfPivotCard : Claim7 := { stood := { row := fnExactSignsOfPivotRow, standIns := [], harness := (true, "a770279b89c7cf21c64e8c50dd6b3b96a3857f0fe4f3e3a8a3379fc5d6eda7f2"), looks := true }, kinds := [], alts := [], laidByText := true, laidKinds := [.sentinel], laidTests := true, laidLooks := .later }
def FnExactSignsOfPivotCardSaid : Prop := Claim7.holds Tryd.pinned (.plain (OpenSpec.ofChange fnExactSignsOfPivotSpec)) fnExactSignsOfPivotCard

/-- THE SECOND FORM's CARD OF 'laws.FnExactPivotOf'. -/
def fnExactPivotOfUptoCard : Claim7 := { stood := { row := fnExactPivotOfUptoRow, standIns := [], harness := (true, "a770279b89c7cf21c64e8c50dd6b3b96a3857f0fe4f3e3a8a3379fc5d6eda7f2"), looks := true }, kinds := [], alts := [], laidByText := true, laidKinds := [.sentinel], laidTests := true, laidLooks := .later }
def FnExactPivotOfUptoCardSaid : Prop := Claim7.holds Tryd.pinned (.plain (OpenSpec.upto fnExactPivotOfSpec)) fnExactPivotOfUptoCard

/-- THE SECOND FORM's CARD OF 'laws.FnExactIsWholePivot'. -/
def fnExactIsWholePivotUptoCard : Claim7 := { stood := { row := fnExactIsWholePivotUptoRow, standIns := [], harness := (true, "a770279b89c7cf21c64e8c50dd6b3b96a3857f0fe4f3e3a8a3379fc5d6eda7f2"), looks := true }, kinds := [], alts := [], laidByText := true, laidKinds := [.sentinel], laidTests := true, laidLooks := .later }
def FnExactIsWholePivotUptoCardSaid : Prop := Claim7.holds Tryd.pinned (.plain (OpenSpec.upto fnExactIsWholePivotSpec)) fnExactIsWholePivotUptoCard

/-- THE SECOND FORM's CARD OF 'laws.FnExactPivotedProblem'. -/
def fnExactPivotedProblemUptoCard : Claim7 := { stood := { row := fnExactPivotedProblemUptoRow, standIns := [], harness := (true, "a770279b89c7cf21c64e8c50dd6b3b96a3857f0fe4f3e3a8a3379fc5d6eda7f2"), looks := true }, kinds := [], alts := [], laidByText := true, laidKinds := [.sentinel], laidTests := true, laidLooks := .later }
def FnExactPivotedProblemUptoCardSaid : Prop := Claim7.holds Tryd.pinned (.plain (OpenSpec.upto fnExactPivotedProblemSpec)) fnExactPivotedProblemUptoCard

/-- THE SECOND FORM's CARD OF 'laws.FnExactPivotMinor'. -/
def fnExactPivotMinorUptoCard : Claim7 := { stood := { row := fnExactPivotMinorUptoRow, standIns := [], harness := (true, "a770279b89c7cf21c64e8c50dd6b3b96a3857f0fe4f3e3a8a3379fc5d6eda7f2"), looks := true }, kinds := [], alts := [], laidByText := true, laidKinds := [.sentinel], laidTests := true, laidLooks := .later }
def FnExactPivotMinorUptoCardSaid : Prop := Claim7.holds Tryd.pinned (.plain (OpenSpec.upto fnExactPivotMinorSpec)) fnExactPivotMinorUptoCard

/-- THE SECOND FORM's CARD OF 'laws.FnExactComplementOf'. -/
def fnExactComplementOfUptoCard : Claim7 := { stood := { row := fnExactComplementOfUptoRow, standIns := [], harness := (true, "a770279b89c7cf21c64e8c50dd6b3b96a3857f0fe4f3e3a8a3379fc5d6eda7f2"), looks := true }, kinds := [], alts := [], laidByText := true, laidKinds := [.sentinel], laidTests := true, laidLooks := .later }
def FnExactComplementOfUptoCardSaid : Prop := Claim7.holds Tryd.pinned (.plain (OpenSpec.upto fnExactComplementOfSpec)) fnExactComplementOfUptoCard

/-- THE SECOND FORM's CARD OF 'laws.FnExactInverseOf'. -/
def fnExactInverseOfUptoCard : Claim7 := { stood := { row := fnExactInverseOfUptoRow, standIns := [], harness := (true, "a770279b89c7cf21c64e8c50dd6b3b96a3857f0fe4f3e3a8a3379fc5d6eda7f2"), looks := true }, kinds := [], alts := [], laidByText := true, laidKinds := [.sentinel], laidTests := true, laidLooks := .later }
def FnExactInverseOfUptoCardSaid : Prop := Claim7.holds Tryd.pinned (.plain (OpenSpec.upto fnExactInverseOfSpec)) fnExactInverseOfUptoCard

/-- THE SECOND FORM's CARD OF 'laws.FnExactRunChain'. -/
def fnExactRunChainUptoCard : Claim7 := { stood := { row := fnExactRunChainUptoRow, standIns := [], harness := (true, "a770279b89c7cf21c64e8c50dd6b3b96a3857f0fe4f3e3a8a3379fc5d6eda7f2"), looks := true }, kinds := [], alts := [], laidByText := true, laidKinds := [.sentinel], laidTests := true, laidLooks := .later }
def FnExactRunChainUptoCardSaid : Prop := Claim7.holds Tryd.pinned (.plain (OpenSpec.upto fnExactRunChainSpec)) fnExactRunChainUptoCard

/-- THE SECOND FORM's CARD OF 'laws.FnExactSignsOfPivot'. -/
def fnExactSignsOfPivotUptoCard : Claim7 := { stood := { row := fnExactSignsOfPivotUptoRow, standIns := [], harness := (true, "a770279b89c7cf21c64e8c50dd6b3b96a3857f0fe4f3e3a8a3379fc5d6eda7f2"), looks := true }, kinds := [], alts := [], laidByText := true, laidKinds := [.sentinel], laidTests := true, laidLooks := .later }
def FnExactSignsOfPivotUptoCardSaid : Prop := Claim7.holds Tryd.pinned (.plain (OpenSpec.upto fnExactSignsOfPivotSpec)) fnExactSignsOfPivotUptoCard
end Rows
end Go.Proofs.YthnefjllijoobaaDoor
