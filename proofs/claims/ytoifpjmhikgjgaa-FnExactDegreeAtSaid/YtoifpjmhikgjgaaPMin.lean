/-
  Plain mathematics: the determinant of the columns of a set is the minor of the set, but for the sign.
-/
import Derived.Test.YtoifpjmhikgjgaaPJor
import Derived.Test.YtoifpjmhikgjgaaPCol
namespace Go.Proofs.Ytoifpjmhikgjgaa.PW
open Go.RowKit Go.Proofs.Ytoifpjmhikgjgaa
open Go.Proofs.Ytoifpjmhikgjgaa.PM Go.Proofs.Ytoifpjmhikgjgaa.PX

/-- The determinant of the numbers in the rows and columns of a list. -/
def minorF (ms : List Nat) (e : Nat → Nat → Int) : Int := dt ms.length (fun i j => e (ms.getD i 0) (ms.getD j 0))
theorem dt0 (a : Nat → Nat → Int) : dt 0 a = 1 := rfl
theorem col_minor (n : Nat) (hn : n ≤ 5) (c : Nat → Bool) (e : Nat → Nat → Int) : dt n (fun a b => if c b = true then - e a b else unitG a b) = sgn ((List.range n).filter c).length * minorF ((List.range n).filter c) e := by
  obtain rfl | rfl | rfl | rfl | rfl | rfl : n = 0 ∨ n = 1 ∨ n = 2 ∨ n = 3 ∨ n = 4 ∨ n = 5 := by omega
  · rfl
  · rw [show List.range 1 = [0] from rfl]
    cases h0 : c 0 <;> simp [minorF, h0, dt0, dt1, unitG, sgn]
  · rw [show List.range 2 = [0, 1] from rfl]
    cases h0 : c 0 <;> cases h1 : c 1 <;> simp [minorF, h0, h1, dt0, dt1, dt2, m2, unitG, sgn] <;> grind
  · rw [show List.range 3 = [0, 1, 2] from rfl]
    cases h0 : c 0 <;> cases h1 : c 1 <;> cases h2 : c 2 <;> simp [minorF, h0, h1, h2, dt0, dt1, dt2, dt3, m3, m2, unitG, sgn] <;> grind
  · rw [show List.range 4 = [0, 1, 2, 3] from rfl]
    cases h0 : c 0 <;> cases h1 : c 1 <;> cases h2 : c 2 <;> cases h3 : c 3 <;> simp [minorF, h0, h1, h2, h3, dt0, dt1, dt2, dt3, dt4, m4, m3, m2, unitG, sgn] <;> grind
  · rw [show List.range 5 = [0, 1, 2, 3, 4] from rfl]
    cases h0 : c 0 <;> cases h1 : c 1 <;> cases h2 : c 2 <;> cases h3 : c 3 <;> cases h4 : c 4 <;> simp [minorF, h0, h1, h2, h3, h4, dt0, dt1, dt2, dt3, dt4, dt5, m5, m4, m3, m2, unitG, sgn] <;> grind
theorem memTo_filter (n : Nat) (s : Int) : ∀ k, k ≤ n → (memTo n s k).map Fin.val = (List.range k).filter (bit s) := by
  intro k
  induction k with
  | zero => intro _; rfl
  | succ k ih =>
    intro hk
    rw [List.range_succ, List.filter_append, ← ih (by omega)]
    cases h : bit s k
    · rw [memTo_no h]; simp [h]
    · rw [memTo_yes (by omega) h]; simp [h]
theorem colS_minor {M : List (List Int)} {s : Int} (hn : M.length ≤ 5) : dt M.length (colS M s) = sgn (memTo M.length s M.length).length * minorF ((memTo M.length s M.length).map Fin.val) (ent M) := by
  have h := col_minor M.length hn (bit s) (ent M)
  rw [← memTo_filter M.length s M.length (Nat.le_refl _), List.length_map] at h
  exact h
theorem sgn_cases (k : Nat) : sgn k = 1 ∨ sgn k = -1 := by unfold sgn; split <;> simp
end Go.Proofs.Ytoifpjmhikgjgaa.PW
