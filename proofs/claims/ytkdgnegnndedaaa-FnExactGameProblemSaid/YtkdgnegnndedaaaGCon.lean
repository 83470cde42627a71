/-
  Walks: has a game a constant sum? In the model and in the program.
-/
import Derived.Test.YtkdgnegnndedaaaGIs
import Derived.BigQuiet
namespace Go.Proofs.Ytkdgnegnndedaaa.PW
open Go.RowKit Go.Proofs.Ytkdgnegnndedaaa
open Go.Proofs.Ytkdgnegnndedaaa.PM

/-- The rows of a table of a game, as they lie in whatever later world. -/
theorem tab_at {w : World} {v : Value} {M : List (List Int)} {l : Nat} (h : PM.Rows w v M) (hn : 1 ≤ M.length) (hl1 : 1 ≤ l) (hl : ∀ i, i < M.length → (M.getD i []).length = l) :
    ∃ b off c, v = .slice (some ⟨b, off, none⟩) M.length c ∧ ∀ wr, Below w.heap.size w wr → ∀ i, i < M.length → ∃ r o d, wr.cell? ⟨b, off + i, none⟩ = some (.slice (some ⟨r, o, none⟩) l d) ∧ ∀ j, j < l → wr.cell? ⟨r, o + j, none⟩ = some (.int .i64 (gE M i j)) := by
  obtain ⟨b, off, c, rfl, hb, _, hcell⟩ := grows_at h hn
  refine ⟨b, off, c, rfl, fun wr hw i hi => ?_⟩
  obtain ⟨u, hu, hU⟩ := hcell i hi
  obtain ⟨r, o, d, rfl, hr, hc⟩ := ints_row hU (by rw [hl i hi]; exact hl1)
  refine ⟨r, o, d, (hw.cell (p := ⟨b, off + i, none⟩) hb).trans (by rw [hu, hl i hi]), fun j hj => (hw.cell (p := ⟨r, o + j, none⟩) hr).trans (hc j (by rw [hl i hi]; exact hj))⟩

def conB (M Q : List (List Int)) : Bool := decide (∀ i, i < M.length → ∀ j, j < gcols M → gE M i j + gE Q i j = gE M 0 0 + gE Q 0 0)
def conOut (M Q : List (List Int)) : Bool × Int := if isGB M Q = true then (conB M Q, 0) else (false, 1)
theorem conOut_no {M Q : List (List Int)} (h : isGB M Q = false) : conOut M Q = (false, 1) := by unfold conOut; rw [if_neg (by simp [h])]
theorem conOut_ok {M Q : List (List Int)} (h : isGB M Q = true) : conOut M Q = (conB M Q, 0) := by unfold conOut; rw [if_pos h]

end Go.Proofs.Ytkdgnegnndedaaa.PW
