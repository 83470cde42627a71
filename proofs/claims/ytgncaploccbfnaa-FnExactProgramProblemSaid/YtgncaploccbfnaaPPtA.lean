/-
  Walks: rows with another column, in the program.
-/
import Derived.Test.YtgncaploccbfnaaPDetA
namespace Go.Proofs.Ytgncaploccbfnaa.PW
open Go.RowKit Go.Proofs.Ytgncaploccbfnaa
open Go.Proofs.Ytgncaploccbfnaa.PM Go.Proofs.Ytgncaploccbfnaa.PX

/-- Rows with another column. -/
def setCol (g : Nat → Nat → Int) (i : Nat) (Q : List Int) (a b : Nat) : Int := if b = i then Q.getD a 0 else g a b
def setColK (g : Nat → Nat → Int) (i : Nat) (Q : List Int) (k a b : Nat) : Int := if b = i ∧ a < k then Q.getD a 0 else g a b
theorem setColK_zero (n : Nat) (g : Nat → Nat → Int) (i : Nat) (Q : List Int) : tab n (setColK g i Q 0) = tab n g := tab_congr (fun a b _ _ => by unfold setColK; rw [if_neg (by omega)])
theorem setColK_all (n : Nat) (g : Nat → Nat → Int) (i : Nat) (Q : List Int) : tab n (setColK g i Q n) = tab n (setCol g i Q) := tab_congr (fun a b ha _ => by
  unfold setColK setCol
  by_cases e : b = i
  · rw [if_pos ⟨e, ha⟩, if_pos e]
  · rw [if_neg (fun c => e c.1), if_neg e])
theorem setColK_step (n : Nat) (g : Nat → Nat → Int) (i : Nat) (Q : List Int) (k : Nat) : tab n (upd (setColK g i Q k) k i (Q.getD k 0)) = tab n (setColK g i Q (k + 1)) := tab_congr (fun a b _ _ => by
  unfold upd setColK
  by_cases e : a = k ∧ b = i
  · rw [if_pos e, if_pos ⟨e.2, by omega⟩, e.1]
  · rw [if_neg e]
    by_cases e2 : b = i ∧ a < k
    · rw [if_pos e2, if_pos ⟨e2.1, by omega⟩]
    · rw [if_neg e2, if_neg (fun c => by omega)])

end Go.Proofs.Ytgncaploccbfnaa.PW
