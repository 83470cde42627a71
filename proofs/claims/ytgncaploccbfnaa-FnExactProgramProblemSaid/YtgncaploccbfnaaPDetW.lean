/-
  Walks: the determinant without fractions, in the program.
-/
import Derived.Test.YtgncaploccbfnaaPElim
namespace Go.Proofs.Ytgncaploccbfnaa.PW
open Go.RowKit Go.Proofs.Ytgncaploccbfnaa
open Go.Proofs.Ytgncaploccbfnaa.PM Go.Proofs.Ytgncaploccbfnaa.PX

/-- The first place from i on, among d, at which p holds, or -1. -/
def srch (p : Nat → Bool) : Nat → Nat → Int
  | _, 0 => -1
  | i, d + 1 => if p i = true then (i : Int) else srch p (i + 1) d
theorem srch_no {p : Nat → Bool} {i d : Nat} (h : p i = false) : srch p i (d + 1) = srch p (i + 1) d := by rw [srch, if_neg (by simp [h])]
theorem srch_yes {p : Nat → Bool} {i d : Nat} (h : p i = true) : srch p i (d + 1) = (i : Int) := by rw [srch, if_pos h]
theorem srch_cases (p : Nat → Bool) : ∀ (d i : Nat), (srch p i d = -1 ∧ ∀ j, i ≤ j → j < i + d → p j = false) ∨ ∃ j, i ≤ j ∧ j < i + d ∧ srch p i d = (j : Int) ∧ p j = true := by
  intro d
  induction d with
  | zero => intro i; exact .inl ⟨rfl, fun j h1 h2 => by omega⟩
  | succ d ih =>
    intro i
    cases h : p i
    · rw [srch_no h]
      rcases ih (i + 1) with ⟨h1, h2⟩ | ⟨j, h1, h2, h3, h4⟩
      · refine .inl ⟨h1, fun j hj1 hj2 => ?_⟩
        by_cases e : j = i
        · rw [e]; exact h
        · exact h2 j (by omega) (by omega)
      · exact .inr ⟨j, by omega, by omega, h3, h4⟩
    · exact .inr ⟨i, Nat.le_refl _, by omega, srch_yes h, h⟩
def nz (f : Nat → Nat → Int) (c j : Nat) : Bool := !(decide (f (c + j) c = 0))

end Go.Proofs.Ytgncaploccbfnaa.PW
