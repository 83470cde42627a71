/-
  The bounds of the numbers of a point.
-/
import Derived.Test.YtoglmkjmnknbbaaPPtB
import Derived.Test.YtoglmkjmnknbbaaPFrT
namespace Go.Proofs.Ytoglmkjmnknbbaa.PW
open Go.RowKit Go.Proofs.Ytoglmkjmnknbbaa
open Go.Proofs.Ytoglmkjmnknbbaa.PM Go.Proofs.Ytoglmkjmnknbbaa.PX

/-! ### Bounds -/
theorem capT_le3 {c : Nat} (h : c ≤ 3) : capT c ≤ 19200000 := by
  obtain rfl | rfl | rfl | rfl : c = 0 ∨ c = 1 ∨ c = 2 ∨ c = 3 := by omega
  all_goals decide
theorem dt_had {n j0 : Nat} {g : Nat → Nat → Int} (hn1 : 1 ≤ n) (hn5 : n ≤ 5) (h : ∀ i j, Bd (20 * u j0 j) (g i j)) : Bd 1000000000 (dt n g) := by
  by_cases e : n = 5
  · subst e
    rw [dt5]
    exact m5_had h
  · rw [dt_T g n hn1 hn5]
    obtain ⟨c, rfl⟩ : ∃ c, n = c + 1 := ⟨n - 1, by omega⟩
    exact (T_bd h c c c (Nat.le_refl _) (by omega)).mono (Int.le_trans (capT_le3 (by omega)) (by decide))
theorem dt_hadR {n j0 : Nat} {g : Nat → Nat → Int} (hn1 : 1 ≤ n) (hn5 : n ≤ 5) (h : ∀ i j, i < n → j < n → Bd (20 * u j0 j) (g i j)) : Bd 1000000000 (dt n g) := by
  rw [← dt_congr n (ent (tab n g)) g (fun i j hi hj => ent_tab _ _ _ _ hi hj)]
  exact dt_had hn1 hn5 (ent_bdAll (tab_length _ _) (tab_rl n g) (u_pos j0) (fun i j hi hj => by rw [ent_tab _ _ _ _ hi hj]; exact h i j hi hj))
end Go.Proofs.Ytoglmkjmnknbbaa.PW
