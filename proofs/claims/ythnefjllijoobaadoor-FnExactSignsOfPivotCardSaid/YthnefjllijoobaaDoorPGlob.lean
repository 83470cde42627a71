/-
  A package-level variable that holds an error.
-/
import Derived.Test.YthnefjllijoobaaDoorPMem
namespace Go.Proofs.YthnefjllijoobaaDoor.PM
open Go.RowKit Go.Proofs.YthnefjllijoobaaDoor
/-- The variable holds an error. -/
def Glob (w : World) : Prop := ∃ a : Addr, w.cell? ⟨0, 0, none⟩ = some (.iface 105 (.pointer (some a)))
theorem Glob.below {w w' : World} (h : Glob w) (hb : Below w.heap.size w w') : Glob w' := by
  obtain ⟨a, ha⟩ := h
  exact ⟨a, (hb.cell (p := ⟨0, 0, none⟩) (World.block_lt_of_cell? w _ ha)).trans ha⟩
end Go.Proofs.YthnefjllijoobaaDoor.PM
