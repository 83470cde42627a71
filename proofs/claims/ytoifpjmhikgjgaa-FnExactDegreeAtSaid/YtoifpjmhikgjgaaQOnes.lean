/-
  Walks: how many elements a set has, in the program and in the model.
-/
import Derived.Test.YtoifpjmhikgjgaaQPart
namespace Go.Proofs.Ytoifpjmhikgjgaa.PW
open Go.RowKit Go.Proofs.Ytoifpjmhikgjgaa
open Go.Proofs.Ytoifpjmhikgjgaa.PM Go.Proofs.Ytoifpjmhikgjgaa.PX

/-- The digits 1 of a number, of the first k. -/
def onesTo (s : Int) : Nat → Int
  | 0 => 0
  | k + 1 => onesTo s k + (s / 2 ^ k) % 2
theorem onesTo_mem : ∀ (n : Nat), n ≤ 5 → ∀ (s : Nat), s < 2 ^ n → ((memTo n (s : Int) n).length : Int) = onesTo (s : Int) 5 := by decide +kernel
theorem memTo_ones {n : Nat} (hn : n ≤ 5) {s : Int} (h0 : 0 ≤ s) (h1 : s < 2 ^ n) : ((memTo n s n).length : Int) = onesTo s 5 := by
  obtain ⟨m, rfl⟩ := Int.eq_ofNat_of_zero_le h0
  exact onesTo_mem n hn m (by exact_mod_cast h1)
theorem and_one3 : ∀ (x : Fin 32), bits BinOp.and IntKind.i64 (x.val : Int) 1 = 0 ∨ bits BinOp.and IntKind.i64 (x.val : Int) 1 = 1 := by decide +kernel
theorem bit_cases3 {s : Int} (h0 : 0 ≤ s) (h1 : s < 32) (k : Nat) : (bits BinOp.and IntKind.i64 (s / 2 ^ k) 1 = 0 ∧ bit s k = false) ∨ (bits BinOp.and IntKind.i64 (s / 2 ^ k) 1 = 1 ∧ bit s k = true) := by
  have hp : (0 : Int) < 2 ^ k := Int.pow_pos (by decide)
  have a1 : 0 ≤ s / 2 ^ k := Int.ediv_nonneg h0 (Int.le_of_lt hp)
  have a2 : s / 2 ^ k ≤ s := Int.ediv_le_self _ h0
  obtain ⟨m, hm⟩ := Int.eq_ofNat_of_zero_le a1
  have := and_one3 ⟨m, by omega⟩
  rw [hm]
  unfold bit
  rw [hm]
  rcases this with h | h
  · exact .inl ⟨h, by dsimp only at h; rw [h]; rfl⟩
  · exact .inr ⟨h, by dsimp only at h; rw [h]; rfl⟩

theorem onesTo_high {s : Int} (h0 : 0 ≤ s) (_h : s < 32) {k : Nat} (hz : s / 2 ^ k ≤ 0) (_hk : k ≤ 5) : onesTo s k = onesTo s 5 := by
  have h2 : ∀ j, k ≤ j → s / 2 ^ j = 0 := fun j hj => div_high h0 hz hj
  have h3 : ∀ d, onesTo s (k + d) = onesTo s k := by
    intro d
    induction d with
    | zero => rfl
    | succ d ih =>
      show onesTo s (k + d) + (s / 2 ^ (k + d)) % 2 = _
      rw [ih, h2 (k + d) (by omega)]
      simp
  have := h3 (5 - k)
  rw [show k + (5 - k) = 5 by omega] at this
  exact this.symm
theorem onesTo_bd {s : Int} (h0 : 0 ≤ s) : ∀ k, 0 ≤ onesTo s k ∧ onesTo s k ≤ k := by
  intro k
  induction k with
  | zero => simp [onesTo]
  | succ k ih =>
    have : 0 ≤ s / 2 ^ k := Int.ediv_nonneg h0 (Int.le_of_lt (Int.pow_pos (by decide)))
    show 0 ≤ onesTo s k + (s / 2 ^ k) % 2 ∧ onesTo s k + (s / 2 ^ k) % 2 ≤ _
    omega
end Go.Proofs.Ytoifpjmhikgjgaa.PW
