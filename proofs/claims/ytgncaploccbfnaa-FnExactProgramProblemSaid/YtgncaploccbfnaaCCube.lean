/-
  Walks: orientations of cubes of the laws: sizes, copies, comparisons, marks.
-/
import Derived.Test.YtgncaploccbfnaaPAnsR
namespace Go.Proofs.Ytgncaploccbfnaa.PW
open Go.RowKit Go.Proofs.Ytgncaploccbfnaa
open Go.Proofs.Ytgncaploccbfnaa.PM

theorem Ints.len63 {w : World} {v : Value} {O : List Int} (h : Ints w v O) : O.length ≤ 9223372036854775807 := by
  obtain ⟨a, cap, _, h1, h2, _⟩ := h
  have := maxLen_le (Nat.le_trans h1 h2)
  omega
theorem szI_neg {n : Nat} {L : Int} (_hL : 0 ≤ L) (h : szI n L < 0) : szI n L = -1 := by
  unfold szI at *; split at h <;> simp_all <;> omega
theorem szI_fits {n : Nat} {L : Int} (h : ¬ szI n L < 0) : (n : Int) ≤ L ∧ szI n L ≤ L := by
  unfold szI at *; split at h <;> simp_all <;> omega
theorem szI_cases (n : Nat) (left : Int) (_h0 : 0 ≤ left) : szI n left = -1 ∨ (0 ≤ szI n left ∧ (n : Int) ≤ left) := by
  unfold szI
  split
  · right; omega
  · left; rfl
theorem toInts_own (v : Value) (L : List Int) (w : World) (h : Ints w v L) (hn : L.length ≤ 1048576) :
    Calls Try.prog 68 #[v] w fun e w' => e = .returned (.slice (some ⟨w.heap.size, 0, none⟩) L.length L.length) ∧ OwnI w' (.slice (some ⟨w.heap.size, 0, none⟩) L.length L.length) L ∧ Below w.heap.size w w' ∧ w'.heap.size = w.heap.size + 1 := by
  refine (toInt64S_any v L w h hn).mono ?_
  rintro e w' ⟨rfl, hc⟩
  refine ⟨rfl, IntBlk.own (hc.row.congr (fun i hi => by simp [part, hi])) (by unfold maxLen; omega), hc.below, hc.size⟩
end Go.Proofs.Ytgncaploccbfnaa.PW
