/-
  Plain mathematics of games: what is a table of a game, what is a game. No program is named here.
-/
import Derived.KernelRfl
import Derived.Test.YtkdgnegnndedaaaPMath
namespace Go.Proofs.Ytkdgnegnndedaaa.PM

/-- A number of a table. -/
def gE (T : List (List Int)) (i j : Nat) : Int := (T.getD i []).getD j 0
/-- A table of a game: k rows of l numbers from 1 to 20. -/
def gtB (T : List (List Int)) (k l : Nat) : Bool := decide (T.length = k ∧ ∀ i, i < T.length → (T.getD i []).length = l ∧ ∀ j, j < l → 1 ≤ gE T i j ∧ gE T i j ≤ 20)
def gcols (A : List (List Int)) : Nat := (A.getD 0 []).length
/-- A game. -/
def isGB (A B : List (List Int)) : Bool := decide (1 ≤ A.length ∧ 1 ≤ gcols A ∧ A.length + gcols A ≤ 5) && (gtB A A.length (gcols A) && gtB B A.length (gcols A))
theorem gtB_iff (T : List (List Int)) (k l : Nat) : gtB T k l = true ↔ T.length = k ∧ ∀ i, i < k → (T.getD i []).length = l ∧ ∀ j, j < l → 1 ≤ gE T i j ∧ gE T i j ≤ 20 := by
  unfold gtB
  rw [decide_eq_true_iff]
  constructor
  · rintro ⟨h1, h2⟩; exact ⟨h1, fun i hi => h2 i (by omega)⟩
  · rintro ⟨h1, h2⟩; exact ⟨h1, fun i hi => h2 i (by omega)⟩
theorem gtB_no {T : List (List Int)} {k l : Nat} (h : ¬ (T.length = k ∧ ∀ i, i < k → (T.getD i []).length = l ∧ ∀ j, j < l → 1 ≤ gE T i j ∧ gE T i j ≤ 20)) : gtB T k l = false := by
  cases e : gtB T k l with
  | false => rfl
  | true => exact absurd ((gtB_iff T k l).1 e) h
structure Gm (A B : List (List Int)) : Prop where
  k1 : 1 ≤ A.length
  l1 : 1 ≤ gcols A
  n5 : A.length + gcols A ≤ 5
  bk : B.length = A.length
  al : ∀ i, i < A.length → (A.getD i []).length = gcols A
  bl : ∀ i, i < A.length → (B.getD i []).length = gcols A
  ae : ∀ i j, i < A.length → j < gcols A → 1 ≤ gE A i j ∧ gE A i j ≤ 20
  be : ∀ i j, i < A.length → j < gcols A → 1 ≤ gE B i j ∧ gE B i j ≤ 20
theorem isGB_iff (A B : List (List Int)) : isGB A B = true ↔ Gm A B := by
  unfold isGB
  rw [Bool.and_eq_true, Bool.and_eq_true, decide_eq_true_iff, gtB_iff, gtB_iff]
  constructor
  · rintro ⟨⟨h1, h2, h3⟩, ⟨_, h4⟩, h5, h6⟩
    exact ⟨h1, h2, h3, h5, fun i hi => (h4 i hi).1, fun i hi => (h6 i hi).1, fun i j hi hj => (h4 i hi).2 j hj, fun i j hi hj => (h6 i hi).2 j hj⟩
  · rintro ⟨h1, h2, h3, h4, h5, h6, h7, h8⟩
    exact ⟨⟨h1, h2, h3⟩, ⟨rfl, fun i hi => ⟨h5 i hi, fun j hj => h7 i j hi hj⟩⟩, h4, fun i hi => ⟨h6 i hi, fun j hj => h8 i j hi hj⟩⟩
theorem isGB_no {A B : List (List Int)} (h : ¬ Gm A B) : isGB A B = false := by
  cases e : isGB A B with
  | false => rfl
  | true => exact absurd ((isGB_iff A B).1 e) h
theorem isGB_size {A B : List (List Int)} (h : ¬ (1 ≤ A.length ∧ 1 ≤ gcols A ∧ A.length + gcols A ≤ 5)) : isGB A B = false := isGB_no (fun c => h ⟨c.k1, c.l1, c.n5⟩)
end Go.Proofs.Ytkdgnegnndedaaa.PM
