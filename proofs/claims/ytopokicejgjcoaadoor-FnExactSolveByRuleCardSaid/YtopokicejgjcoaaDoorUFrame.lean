/-
  The listed table of this seat: what the condition gives the walks, the world that meets it.
-/
import Derived.Test.YtopokicejgjcoaaDoorPFrame
import Derived.Test.YtopokicejgjcoaaDoorUTab
import Derived.Test.YtopokicejgjcoaaDoorTie
import Derived.Test.YtopokicejgjcoaaDoorCards
import Derived.LaidMore
import Derived.Lib.LaidTab
import Derived.Stop.LaidErr
import Derived.Stop.Joined
import Derived.SevenTiedAt
namespace Go.Proofs.YtopokicejgjcoaaDoor
open Go.ChangeShapes Go.WideShapes Go.ChangeAt Go.RowKit Go.Joins Go.Deep
open Go.Proofs.YtopokicejgjcoaaDoor.PM

abbrev laidT : List (String × DataW Unit) := [("math/bits.deBruijn64tab", Rows.laid_math_bits_deBruijn64tab)]
theorem gTab : Tryd.prog.globalNamed "math/bits.deBruijn64tab" = some 1 := by kernel_rfl
theorem tTab : (Tryd.prog.globals[1]?).map (·.type) = some 156 := by kernel_rfl
/-- The heap that the door's run leaves meets the condition. -/
theorem doorT_met (os : Os) (args : Array Value) : laidMetH Tryd.prog laidT ((World.doorLaid Tryd.prog 64 os).forCall (fun _ _ => 0) ⟨#[], args, []⟩).memory :=
  laidMetH_of_parts3 (fuel := 8) (laidMet_of_run' 8 (by kernel_rfl) (by kernel_rfl)) (by kernel_rfl) (by kernel_rfl)
/-- What the condition gives the walks: the table's cells. -/
theorem of_laidT {W : World} (h : laidMetH Tryd.prog laidT W) : Tab8 W := by
  rw [MakeChecks.laidMetH_plain _ _ _ (by kernel_rfl)] at h
  have h' : laidMet Tryd.prog (("math/bits.deBruijn64tab", Lib.tabData .u8 dbT) :: []) W := h
  have ht := Lib.tabIs_of_head gTab tTab Tryd.underlying156 Tryd.underlying5 (by kernel_rfl) (by kernel_rfl) h'
  intro j hj
  exact ht.cell gTab j hj
end Go.Proofs.YtopokicejgjcoaaDoor
