/-
  The library's table that tells the least bit of a number, in its variable.
-/
import Derived.Test.YtopokicejgjcoaaDoorPMem
namespace Go.Proofs.YtopokicejgjcoaaDoor.PM
open Go.RowKit Go.Proofs.YtopokicejgjcoaaDoor
def dbT : List Int := [0, 1, 56, 2, 57, 49, 28, 3, 61, 58, 42, 50, 38, 29, 17, 4, 62, 47, 59, 36, 45, 43, 51, 22, 53, 39, 33, 30, 24, 18, 12, 5, 63, 55, 48, 27, 60, 41, 37, 16, 46, 35, 44, 21, 52, 32, 23, 11, 54, 26, 40, 15, 34, 20, 31, 10, 25, 14, 19, 9, 13, 8, 7, 6]
/-- The variable holds the table. -/
def Tab8 (w : World) : Prop := ∀ j, j < 64 → w.cell? ⟨1, j, none⟩ = some (.int .u8 (dbT.getD j 0))
theorem Tab8.below {w w' : World} (h : Tab8 w) (hb : Below w.heap.size w w') : Tab8 w' := fun j hj =>
  (hb.cell (p := ⟨1, j, none⟩) (World.block_lt_of_cell? w _ (h j hj))).trans (h j hj)
theorem Tab8.tch {w w' : World} (h : Tab8 w) {B : Nat} (hB : 1 < B) (hb : Below B w w') : Tab8 w' := fun j hj =>
  (hb.cell (p := ⟨1, j, none⟩) hB).trans (h j hj)
end Go.Proofs.YtopokicejgjcoaaDoor.PM
