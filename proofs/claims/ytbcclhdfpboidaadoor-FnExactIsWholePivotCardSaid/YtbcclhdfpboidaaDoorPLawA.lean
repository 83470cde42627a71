/-
  The exact law of IsProblem: whatever the problem given, the program answers as the model, and leaves it as it was.
-/
import Derived.Test.YtbcclhdfpboidaaDoorPWalkE
namespace Go.Proofs.YtbcclhdfpboidaaDoor.PW
open Go.RowKit Go.Proofs.YtbcclhdfpboidaaDoor
open Go.Proofs.YtbcclhdfpboidaaDoor.PM

theorem rows_I64 {w : World} {v : Value} {M : List (List Int)} (h : PM.Rows w v M) : ∀ j, j < M.length → ∀ x ∈ M.getD j [], I64 x := by
  intro j hj
  obtain ⟨a, cap, _, _, _, hx⟩ := h
  rcases hx with rfl | ⟨b, off, _, _, hc⟩
  · simp at hj
  · obtain ⟨u, _, ra, rc, _, _, _, hI, _⟩ := hc j hj
    exact hI
theorem ints_I64 {w : World} {v : Value} {Q : List Int} (h : Ints w v Q) : ∀ x ∈ Q, I64 x := by
  obtain ⟨a, cap, _, _, _, hI, _⟩ := h
  exact hI

theorem szP_fits {M : List (List Int)} {Q : List Int} (h : ¬ szP M Q 1048576 < 0) : tot M ≤ 1048576 ∧ Q.length ≤ 1048576 := by
  unfold szP at h
  split at h
  · omega
  · omega
theorem szP_neg {M : List (List Int)} {Q : List Int} (h : szP M Q 1048576 < 0) : szP M Q 1048576 = -1 := by
  unfold szP at h ⊢
  split at h
  · omega
  · rename_i hc; rw [if_neg hc]
theorem szP_le (M : List (List Int)) (Q : List Int) : szP M Q 1048576 ≤ 1048576 := by
  unfold szP; split <;> omega

end Go.Proofs.YtbcclhdfpboidaaDoor.PW
