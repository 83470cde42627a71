/-
  Lists that have each of the numbers below n once: three ways to say so.
-/
import Derived.Test.YtoglmkjmnknbbaaPCore
namespace Go.Proofs.Ytoglmkjmnknbbaa.PM

theorem pig0 : ∀ (n : Nat) (l : List Int), (∀ x, x ∈ l → 0 ≤ x ∧ x < n) → l.Nodup → l.length ≤ n := by
  intro n
  induction n with
  | zero =>
    intro l h _
    cases l with
    | nil => exact Nat.le_refl _
    | cons a r => have := h a (by simp); omega
  | succ n ih =>
    intro l h hd
    by_cases hm : (n : Int) ∈ l
    · have hp := List.perm_cons_erase hm
      have hd2 := (hp.nodup_iff).1 hd
      rw [List.nodup_cons] at hd2
      have := ih (l.erase (n : Int)) (fun x hx => by
        have h1 := h x (List.mem_of_mem_erase hx)
        have : x ≠ n := fun c => hd2.1 (by rw [c] at hx; exact hx)
        omega) hd2.2
      rw [List.length_erase_of_mem hm] at this
      omega
    · have := ih l (fun x hx => by
        have h1 := h x hx
        have : x ≠ n := fun c => hm (by rw [← c]; exact hx)
        omega) hd
      omega

theorem pig1 : ∀ (n : Nat) (l : List Int), (∀ i, i < n → (i : Int) ∈ l) → l.length = n → (∀ x, x ∈ l → 0 ≤ x ∧ x < n) ∧ l.Nodup := by
  intro n
  induction n with
  | zero =>
    intro l _ hl
    rw [List.length_eq_zero_iff.1 hl]
    exact ⟨fun x hx => (List.not_mem_nil hx).elim, List.nodup_nil⟩
  | succ n ih =>
    intro l h hl
    have hm := h n (by omega)
    have hp := List.perm_cons_erase hm
    obtain ⟨h1, h2⟩ := ih (l.erase (n : Int)) (fun i hi => by
      refine (List.mem_erase_of_ne ?_).2 (h i (by omega))
      omega) (by rw [List.length_erase_of_mem hm]; omega)
    refine ⟨fun x hx => ?_, (hp.nodup_iff).2 (List.nodup_cons.2 ⟨fun c => by have := h1 _ c; omega, h2⟩)⟩
    have hx' := (hp.mem_iff).1 hx
    rcases List.mem_cons.1 hx' with rfl | hx'
    · omega
    · have := h1 x hx'; omega

theorem pig2 : ∀ (n : Nat) (l : List Int), (∀ x, x ∈ l → 0 ≤ x ∧ x < n) → l.Nodup → l.length = n → ∀ i, i < n → (i : Int) ∈ l := by
  intro n
  induction n with
  | zero => intro l _ _ _ i hi; omega
  | succ n ih =>
    intro l h hd hl i hi
    by_cases hm : (n : Int) ∈ l
    · by_cases e : i = n
      · rw [e]; exact hm
      · have hp := List.perm_cons_erase hm
        have hd2 := (hp.nodup_iff).1 hd
        rw [List.nodup_cons] at hd2
        exact List.mem_of_mem_erase (ih (l.erase (n : Int)) (fun x hx => by
          have h1 := h x (List.mem_of_mem_erase hx)
          have : x ≠ n := fun c => hd2.1 (by rw [c] at hx; exact hx)
          omega) hd2.2 (by rw [List.length_erase_of_mem hm]; omega) i (by omega))
    · have := pig0 n l (fun x hx => by
        have h1 := h x hx
        have : x ≠ n := fun c => hm (by rw [← c]; exact hx)
        omega) hd
      omega

/-- The list has each of the numbers below n once. -/
def numB (l : List Int) (n : Nat) : Bool := decide (l.length = n) && (List.range n).all fun i => l.contains (i : Int)
theorem numB_iff (l : List Int) (n : Nat) : numB l n = true ↔ l.length = n ∧ ∀ i, i < n → (i : Int) ∈ l := by
  unfold numB
  simp
theorem numB_iff2 (l : List Int) (n : Nat) : numB l n = true ↔ l.length = n ∧ (∀ x, x ∈ l → 0 ≤ x ∧ x < n) ∧ l.Nodup := by
  rw [numB_iff]
  exact ⟨fun ⟨h1, h2⟩ => ⟨h1, pig1 n l h2 h1⟩, fun ⟨h1, h2, h3⟩ => ⟨h1, pig2 n l h2 h3 h1⟩⟩
end Go.Proofs.Ytoglmkjmnknbbaa.PM
