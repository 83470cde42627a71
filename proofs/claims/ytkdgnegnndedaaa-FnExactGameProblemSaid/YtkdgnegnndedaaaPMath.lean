/-
  Plain mathematics of problems: what is a matrix, what is a problem. No program is named here.
-/
import Derived.KernelRfl
namespace Go.Proofs.Ytkdgnegnndedaaa.PM

theorem getD_at {α : Type} (l : List α) (d : α) {j : Nat} (h : j < l.length) : l.getD j d = l[j] := by simp [h]

/-- All numbers are of at most l in absolute value. -/
def wit (l : Int) (xs : List Int) : Bool := xs.all fun x => decide (-l ≤ x ∧ x ≤ l)
theorem wit_iff (l : Int) (xs : List Int) : wit l xs = true ↔ ∀ j, j < xs.length → -l ≤ xs.getD j 0 ∧ xs.getD j 0 ≤ l := by
  unfold wit
  rw [List.all_eq_true]
  constructor
  · intro h j hj
    have := h (xs.getD j 0) (by rw [getD_at _ _ hj]; exact List.getElem_mem hj)
    exact of_decide_eq_true this
  · intro h x hx
    obtain ⟨j, hj, rfl⟩ := List.mem_iff_getElem.1 hx
    have := h j hj
    rw [getD_at _ _ hj] at this
    exact decide_eq_true this
theorem wit_no {l : Int} {xs : List Int} {j : Nat} (hj : j < xs.length) (h : ¬ (-l ≤ xs.getD j 0 ∧ xs.getD j 0 ≤ l)) : wit l xs = false := by
  cases e : wit l xs with
  | false => rfl
  | true => exact absurd ((wit_iff l xs).1 e j hj) h

/-- A matrix: n rows of n numbers, of at most 20 in absolute value, n from 1 to 5. -/
def matB (m : List (List Int)) : Bool := decide (1 ≤ m.length ∧ m.length ≤ 5) && m.all fun r => decide (r.length = m.length) && wit 20 r
theorem matB_iff (m : List (List Int)) : matB m = true ↔ (1 ≤ m.length ∧ m.length ≤ 5) ∧ ∀ j, j < m.length → (m.getD j []).length = m.length ∧ wit 20 (m.getD j []) = true := by
  unfold matB
  rw [Bool.and_eq_true, List.all_eq_true]
  constructor
  · rintro ⟨h1, h2⟩
    refine ⟨of_decide_eq_true h1, fun j hj => ?_⟩
    have := h2 (m.getD j []) (by rw [getD_at _ _ hj]; exact List.getElem_mem hj)
    rw [Bool.and_eq_true] at this
    exact ⟨of_decide_eq_true this.1, this.2⟩
  · rintro ⟨h1, h2⟩
    refine ⟨decide_eq_true h1, fun r hr => ?_⟩
    obtain ⟨j, hj, rfl⟩ := List.mem_iff_getElem.1 hr
    have := h2 j hj
    rw [getD_at _ _ hj] at this
    rw [Bool.and_eq_true]
    exact ⟨decide_eq_true this.1, this.2⟩
theorem matB_size {m : List (List Int)} (h : ¬ (1 ≤ m.length ∧ m.length ≤ 5)) : matB m = false := by
  cases e : matB m with
  | false => rfl
  | true => exact absurd ((matB_iff m).1 e).1 h
theorem matB_no {m : List (List Int)} {j : Nat} (hj : j < m.length) (h : ¬ ((m.getD j []).length = m.length ∧ wit 20 (m.getD j []) = true)) : matB m = false := by
  cases e : matB m with
  | false => rfl
  | true => exact absurd (((matB_iff m).1 e).2 j hj) h

/-- A problem: a matrix of n, and n numbers of at most 100 in absolute value. -/
def isPB (m : List (List Int)) (q : List Int) : Bool := matB m && (decide (q.length = m.length) && wit 100 q)
theorem isPB_iff (m : List (List Int)) (q : List Int) : isPB m q = true ↔ matB m = true ∧ q.length = m.length ∧ wit 100 q = true := by
  unfold isPB
  rw [Bool.and_eq_true, Bool.and_eq_true]
  constructor
  · rintro ⟨h1, h2, h3⟩; exact ⟨h1, of_decide_eq_true h2, h3⟩
  · rintro ⟨h1, h2, h3⟩; exact ⟨h1, decide_eq_true h2, h3⟩
theorem isPB_no {m : List (List Int)} {q : List Int} (h : ¬ (matB m = true ∧ q.length = m.length ∧ wit 100 q = true)) : isPB m q = false := by
  cases e : isPB m q with
  | false => rfl
  | true => exact absurd ((isPB_iff m q).1 e) h
theorem isPB_mat {m : List (List Int)} {q : List Int} (h : matB m = false) : isPB m q = false := isPB_no (fun c => by rw [h] at c; exact absurd c.1 (by simp))
theorem mul_bd {a b A B : Int} (h1 : -A ≤ a) (h2 : a ≤ A) (h3 : -B ≤ b) (h4 : b ≤ B) : -(A * B) ≤ a * b ∧ a * b ≤ A * B := by
  have hA : 0 ≤ A := by omega
  have hB : 0 ≤ B := by omega
  have h : (a * b).natAbs ≤ (A * B).natAbs := by
    rw [Int.natAbs_mul, Int.natAbs_mul]
    exact Nat.mul_le_mul (by omega) (by omega)
  have h0 : 0 ≤ A * B := Int.mul_nonneg hA hB
  omega
end Go.Proofs.Ytkdgnegnndedaaa.PM
