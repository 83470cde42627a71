/-
  LeastAlong: the model's three sums, and that the program's are the same; fractions of doubled numbers.
-/
import Derived.Test.YtbfpneonmefndaaWVa3
import Derived.Test.YtbfpneonmefndaaWLeM
namespace Go.Proofs.Ytbfpneonmefndaa.PW
open Go.RowKit Go.Proofs.Ytbfpneonmefndaa
open Go.Proofs.Ytbfpneonmefndaa.PM Go.Proofs.Ytbfpneonmefndaa.PX

theorem laR_pro (D : List (List Int)) (a b : List Int) (i : Nat) : ∀ t, laR D a b i t = a.getD i 0 * proTo (D.getD i []) b t := by
  intro t
  induction t with
  | zero => simp [laR, proTo]
  | succ t ih => simp only [laR, proTo]; rw [ih, Int.mul_add, Int.mul_assoc (a.getD i 0)]; rfl
theorem la_f (D : List (List Int)) (C X : List Int) (n : Nat) : ∀ k, laS (fun i => 2 * C.getD i 0 * X.getD i 0) D X X n k = forTo D X n k + 2 * proTo C X k := by
  intro k
  induction k with
  | zero => simp [laS, forTo, proTo]
  | succ k ih =>
    simp only [laS, forTo, proTo]
    rw [ih, laR_pro, Int.mul_add, Int.mul_assoc 2]
    omega
theorem la_f_end (D : List (List Int)) (C X : List Int) (n : Nat) : laS (fun i => 2 * C.getD i 0 * X.getD i 0) D X X n n = tvE D C X 1 n := by
  rw [la_f]
  unfold tvE
  omega
theorem la_h (D : List (List Int)) (U : List Int) (n : Nat) : ∀ k, laS (fun _ => 0) D U U n k = forTo D U n k := by
  intro k
  induction k with
  | zero => simp [laS, forTo]
  | succ k ih => simp only [laS, forTo]; rw [ih, laR_pro]; omega
theorem la_g (D : List (List Int)) (C U X : List Int) (n : Nat) (hn : D.length = n) : ∀ k, k ≤ n → laS (fun i => C.getD i 0 * U.getD i 0) D U X n k = proTo U (remL D C X 1) k := by
  intro k
  induction k with
  | zero => intro _; simp [laS, proTo]
  | succ k ih =>
    intro hk
    have hr : (remL D C X 1).getD k 0 = 1 * C.getD k 0 + proTo (D.getD k []) X n := by
      have hk' : k < D.length := by omega
      rw [← remTo_pro D C X 1 k n]
      simp [remL, hn, show k < n from hk]
    simp only [laS, proTo]
    rw [ih (by omega), laR_pro, hr, Int.mul_add, Int.one_mul, Int.mul_comm (C.getD k 0)]
    omega
theorem gcd_two (a b : Int) : FM.gcdI (2 * a) (2 * b) = 2 * FM.gcdI a b := by
  unfold FM.gcdI
  rw [Int.gcd_mul_left]
  simp
theorem red_two (a b : Int) (hb : 0 < b) : FM.redN (2 * a) (2 * b) = FM.redN a b ∧ FM.redD (2 * a) (2 * b) = FM.redD a b := by
  unfold FM.redN FM.redD
  rw [if_neg (by omega), if_neg (by omega), if_neg (by omega), if_neg (by omega), gcd_two]
  exact ⟨Int.mul_tdiv_mul_of_pos _ _ (by decide), Int.mul_tdiv_mul_of_pos _ _ (by decide)⟩
/-- The program tells both over twice the bend. -/
theorem laF_lim (f g h : Int) (hh : 0 < h) : (limOk (2 * h) [-2 * g, f * h - g * g] = false → laF f g h = ((0, 0), (0, 0), 3)) ∧ (limOk (2 * h) [-2 * g, f * h - g * g] = true → laF f g h = (limF (2 * h) (-2 * g), limF (2 * h) (f * h - g * g), 0)) := by
  have e : -2 * g = 2 * -g := by omega
  rw [e]
  obtain ⟨r1, r2⟩ := red_two (-g) h hh
  unfold laF limOk limF
  rw [if_neg (by omega)]
  simp only [List.all_cons, List.all_nil, r1, r2]
  generalize FM.redN (-g) h = a
  generalize FM.redD (-g) h = b
  generalize FM.redN (f * h - g * g) (2 * h) = c
  generalize FM.redD (f * h - g * g) (2 * h) = d
  cases h1 : FM.isF a b <;> cases h2 : FM.isF c d <;> simp
end Go.Proofs.Ytbfpneonmefndaa.PW
