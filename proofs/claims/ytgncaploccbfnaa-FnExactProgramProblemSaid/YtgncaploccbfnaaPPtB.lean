/-
  Walks: the determinants of the rule of Cramer, in the model.
-/
import Derived.Test.YtgncaploccbfnaaPPtA
import Derived.Test.YtgncaploccbfnaaPFrT
namespace Go.Proofs.Ytgncaploccbfnaa.PW
open Go.RowKit Go.Proofs.Ytgncaploccbfnaa
open Go.Proofs.Ytgncaploccbfnaa.PM Go.Proofs.Ytgncaploccbfnaa.PX

/-- Rows as they lie. -/
theorem rows_at {w : World} {v : Value} {n : Nat} {e : Nat → Nat → Int} (hv : PM.Rows w v (tab n e)) (hn1 : 1 ≤ n) : ∃ b off c, v = .slice (some ⟨b, off, none⟩) n c ∧ b < w.heap.size ∧
    ∀ i, i < n → ∃ bi oi ci, w.cell? ⟨b, off + i, none⟩ = some (.slice (some ⟨bi, oi, none⟩) n ci) ∧ n ≤ ci ∧ bi < w.heap.size ∧ CellsAt w bi oi ((List.range n).map (e i)) := by
  obtain ⟨a1, c1, rfl, _, _, hx⟩ := hv
  have htl := tab_length n e
  obtain ⟨b, off, rfl, hblt, hcell⟩ : ∃ b off, a1 = some ⟨b, off, none⟩ ∧ b < w.heap.size ∧ ∀ i, i < n → ∃ u, w.cell? ⟨b, off + i, none⟩ = some u ∧ Ints w u ((List.range n).map (e i)) := by
    rcases hx with hx | ⟨b, off, h1, h2, h3⟩
    · rw [hx] at htl; simp at htl; omega
    · exact ⟨b, off, h1, h2, fun i hi => by rw [← tab_row _ _ _ hi]; exact h3 i (by omega)⟩
  refine ⟨b, off, c1, by rw [htl], hblt, fun i hi => ?_⟩
  obtain ⟨u, hu, ai, ci, hsh, hci, _, _, hxx⟩ := hcell i hi
  rcases hxx with hxx | ⟨bi, oi, rfl, hbi, hce⟩
  · have := congrArg List.length hxx; rw [row_length, List.length_nil] at this; omega
  · rw [row_length] at hsh hci
    exact ⟨bi, oi, ci, by rw [hu, hsh], hci, hbi, hce⟩
theorem setCol_bd {e : Nat → Nat → Int} {Q : List Int} (hb : ∀ i j, Bd 100 (e i j)) (hbq : ∀ j, Bd 100 (Q.getD j 0)) (k i j : Nat) : Bd 100 (setCol e k Q i j) := by
  unfold setCol
  split
  · exact hbq i
  · exact hb i j

end Go.Proofs.Ytgncaploccbfnaa.PW
