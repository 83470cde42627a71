/-
  Walks: what is an orientation of a cube, in the model.
-/
import Derived.Test.YtgncaploccbfnaaCCube
namespace Go.Proofs.Ytgncaploccbfnaa.PW
open Go.RowKit Go.Proofs.Ytgncaploccbfnaa
open Go.Proofs.Ytgncaploccbfnaa.PM

/-- The neighbour of a vertex, and a direction of an outmap. -/
def eX (v i : Nat) : Int := bits BinOp.xor IntKind.i64 (v : Int) ((2 : Int) ^ i)
def eA (x : Int) (i : Nat) : Int := bits BinOp.and IntKind.i64 x ((2 : Int) ^ i)
theorem eX_dec : ∀ (n : Fin 6) (v : Fin 32) (i : Fin 5), v.val < 2 ^ n.val → i.val < n.val → 0 ≤ eX v.val i.val ∧ eX v.val i.val < 2 ^ n.val := by decide +kernel
theorem eX_in {n v i : Nat} (hn : n ≤ 5) (hv : v < 2 ^ n) (hi : i < n) : ∃ X : Nat, eX v i = (X : Int) ∧ X < 2 ^ n := by
  have h32 : 2 ^ n ≤ 2 ^ 5 := Nat.pow_le_pow_right (by decide) hn
  obtain ⟨h0, h1⟩ := eX_dec ⟨n, by omega⟩ ⟨v, by omega⟩ ⟨i, by omega⟩ hv hi
  refine ⟨(eX v i).toNat, by have := Int.toNat_of_nonneg h0; exact this.symm, ?_⟩
  have h2 : (eX v i).toNat < (2 ^ n : Nat) := by
    have h3 : eX v i < ((2 ^ n : Nat) : Int) := by rw [Int.natCast_pow]; exact h1
    have h4 : 0 ≤ eX v i := h0
    omega
  exact h2
theorem wrap_pow {i : Nat} (h : i ≤ 5) : wrap64 ((2 : Int) ^ i) = 2 ^ i := by
  obtain rfl | rfl | rfl | rfl | rfl | rfl : i = 0 ∨ i = 1 ∨ i = 2 ∨ i = 3 ∨ i = 4 ∨ i = 5 := by omega
  all_goals decide +kernel
def isCB (D : Int) (O : List Int) : Bool := decide ((1 ≤ D ∧ D ≤ 5) ∧ (O.length : Int) = 2 ^ D.toNat ∧ ∀ v, v < O.length → ((0 ≤ O.getD v 0 ∧ O.getD v 0 ≤ (O.length : Int) - 1) ∧ ∀ i, i < D.toNat → eA (O.getD v 0) i ≠ eA (O.getD (eX v i).toNat 0) i))

end Go.Proofs.Ytgncaploccbfnaa.PW
