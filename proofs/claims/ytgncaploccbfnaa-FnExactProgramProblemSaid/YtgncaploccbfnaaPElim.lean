/-
  Walks: one column eliminated without fractions, in all rows but one, in the program.
-/
import Derived.Test.YtgncaploccbfnaaPTb
import Derived.StillTailTactics
namespace Go.Proofs.Ytgncaploccbfnaa.PW
open Go.RowKit Go.Proofs.Ytgncaploccbfnaa
open Go.Proofs.Ytgncaploccbfnaa.PM Go.Proofs.Ytgncaploccbfnaa.PX

/-- While a column is eliminated: the rows ahead of i are done but for the row r, and the numbers ahead of k in the row i. -/
def elim (h f : Nat → Nat → Int) (r i k x y : Nat) : Int := if x ≠ r ∧ (x < i ∨ (x = i ∧ y < k)) then h x y else f x y
theorem elim_old {h f : Nat → Nat → Int} {r i k x y : Nat} (e : ¬ (x ≠ r ∧ (x < i ∨ (x = i ∧ y < k)))) : elim h f r i k x y = f x y := by unfold elim; rw [if_neg e]
theorem elim_step (h f : Nat → Nat → Int) (r i k : Nat) (hr : i ≠ r) (x y : Nat) : upd (elim h f r i k) i k (h i k) x y = elim h f r i (k + 1) x y := by
  unfold upd elim
  by_cases e : x = i ∧ y = k
  · obtain ⟨rfl, rfl⟩ := e
    rw [if_pos ⟨rfl, rfl⟩, if_pos ⟨hr, .inr ⟨rfl, by omega⟩⟩]
  · rw [if_neg e]
    by_cases e2 : x ≠ r ∧ (x < i ∨ (x = i ∧ y < k))
    · rw [if_pos e2, if_pos ⟨e2.1, by omega⟩]
    · rw [if_neg e2, if_neg (fun h => e2 ⟨h.1, by omega⟩)]
theorem elim_row (h f : Nat → Nat → Int) (m r i x y : Nat) (hy : y < m) : elim h f r i m x y = elim h f r (i + 1) 0 x y := by
  unfold elim
  by_cases e : x ≠ r ∧ (x < i ∨ (x = i ∧ y < m))
  · rw [if_pos e, if_pos ⟨e.1, by omega⟩]
  · rw [if_neg e, if_neg (fun h => e ⟨h.1, by omega⟩)]
theorem elim_skip (h f : Nat → Nat → Int) (r x y : Nat) : elim h f r r 0 x y = elim h f r (r + 1) 0 x y := by
  unfold elim
  by_cases e : x ≠ r ∧ (x < r ∨ (x = r ∧ y < 0))
  · rw [if_pos e, if_pos ⟨e.1, by omega⟩]
  · rw [if_neg e, if_neg (fun h => e ⟨h.1, by omega⟩)]
theorem elim_zero (h f : Nat → Nat → Int) (r x y : Nat) : elim h f r 0 0 x y = f x y := by
  unfold elim; rw [if_neg (by omega)]
theorem elim_end (h f : Nat → Nat → Int) (n r x y : Nat) (hx : x < n) : elim h f r n 0 x y = if x = r then f x y else h x y := by
  unfold elim
  by_cases e : x = r
  · rw [if_neg (by omega), if_pos e]
  · rw [if_pos ⟨e, .inl hx⟩, if_neg e]

theorem quo_fact {A B C D L R : Int} (h : A * B - C * D = L * R) (hL : L ≠ 0) : (A * B - C * D).tdiv L = R := by rw [h, Int.mul_tdiv_cancel_left _ hL]

end Go.Proofs.Ytgncaploccbfnaa.PW
