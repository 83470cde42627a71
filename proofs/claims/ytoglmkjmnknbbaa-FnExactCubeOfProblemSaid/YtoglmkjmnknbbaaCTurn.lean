/-
  Walks: an orientation turned by a set, in the program.
-/
import Derived.Test.YtoglmkjmnknbbaaCArr
namespace Go.Proofs.Ytoglmkjmnknbbaa.PW
open Go.RowKit Go.Proofs.Ytoglmkjmnknbbaa
open Go.Proofs.Ytoglmkjmnknbbaa.PM

def turL (O : List Int) (s : Int) : List Int := (List.range O.length).map fun j => O.getD (j ^^^ s.toNat) 0
def turOut (D : Int) (O : List Int) (s : Int) : (Int × List Int) × Int := if cdOut D O [s] = 0 then ((D, turL O s), 0) else ((0, []), cdOut D O [s])
theorem cdOut_cases (D : Int) (O L : List Int) : cdOut D O L = 0 ∨ cdOut D O L = 1 ∨ cdOut D O L = 2 := by
  unfold cdOut; split
  · split <;> simp
  · simp
theorem cdOut_zero {D : Int} {O L : List Int} (h : cdOut D O L = 0) : isCB D O = true ∧ ∀ k, k < L.length → inC O (L.getD k 0) := by
  unfold cdOut at h
  split at h
  · rename_i h1
    split at h
    · rename_i h2; exact ⟨h1, h2⟩
    · omega
  · omega
theorem turOut_ok {D : Int} {O : List Int} {s : Int} (h : cdOut D O [s] = 0) : turOut D O s = ((D, turL O s), 0) := by unfold turOut; rw [if_pos h]
theorem turOut_no {D : Int} {O : List Int} {s : Int} (h : cdOut D O [s] ≠ 0) : turOut D O s = ((0, []), cdOut D O [s]) := by unfold turOut; rw [if_neg h]
theorem isCB_at {n : Nat} {O : List Int} (h : isCB n O = true) (j : Nat) (hj : j < 2 ^ n) : 0 ≤ O.getD j 0 ∧ O.getD j 0 < (2 : Int) ^ n := by
  obtain ⟨hl, hl2⟩ := isCB_len h
  have := ((of_decide_eq_true h).2.2 j (by omega)).1
  omega
theorem pow_le_32 {n : Nat} (h : n ≤ 5) : 2 ^ n ≤ 32 := Nat.pow_le_pow_right (show 0 < 2 by decide) h
theorem pow_le_32i {n : Nat} (h : n ≤ 5) : (2 : Int) ^ n ≤ 32 := by
  have h1 := pow_le_32 h
  have : ((2 ^ n : Nat) : Int) = (2 : Int) ^ n := by rw [Int.natCast_pow]; rfl
  omega
theorem fine_of {n : Nat} (h : n ≤ 5) (xs : List Int) (hl : xs.length ≤ 32) (hx : ∀ x ∈ xs, 0 ≤ x ∧ x < (2 : Int) ^ n) : FineI xs := by
  have := pow_le_32i h
  exact ⟨fun x hm => by have := hx x hm; show -9223372036854775808 ≤ _ ∧ _ ≤ 9223372036854775807; omega, by omega⟩
theorem ones_cb {D : Int} {O : List Int} {s : Int} (h : cdOut D O [s] = 0) : ∃ n : Nat, D = n ∧ isCB n O = true ∧ 1 ≤ n ∧ n ≤ 5 ∧ O.length = 2 ^ n ∧ (O.length : Int) = 2 ^ n ∧ 0 ≤ s ∧ s < (2 : Int) ^ n ∧ s.toNat < 2 ^ n := by
  obtain ⟨hc, hin⟩ := cdOut_zero h
  obtain ⟨hd1, hd5, _, _⟩ := isCB_facts hc
  obtain ⟨n, rfl⟩ : ∃ n : Nat, D = (n : Int) := ⟨D.toNat, by omega⟩
  obtain ⟨hl, hl2⟩ := isCB_len hc
  have h1 : inC O s := hin 0 (by simp)
  unfold inC at h1
  exact ⟨n, rfl, hc, by omega, by omega, hl, hl2, by omega, by omega, by omega⟩
theorem fine_tur (D : Int) (O : List Int) (s : Int) : FineC (turOut D O s).1 := by
  by_cases h : cdOut D O [s] = 0
  · rw [turOut_ok h]
    obtain ⟨n, rfl, hc, hn1, hn5, hl, _, h0, h1, h2⟩ := ones_cb h
    have := pow_le_32 hn5
    refine ⟨fine_of hn5 _ (by simp [turL]; omega) (fun x hx => ?_)⟩
    obtain ⟨j, hj, rfl⟩ := List.mem_map.1 hx
    exact isCB_at hc _ (Nat.xor_lt_two_pow (by rw [← hl]; simpa using hj) h2)
  · rw [turOut_no h]
    exact ⟨fineI_nil⟩
theorem outC_err {w w' : World} {c : Int} (h : Below w.heap.size w w') : OutC w ((0, []), c) (.returned (.tuple #[.agg #[.int .i64 0, .slice none 0 0], .int .i64 c])) w' :=
  ⟨_, rfl, rngI_nil _ _ _, h⟩
/-- The array while it is turned: the first k vertices have been taken. -/
def turK (O : List Int) (S k : Nat) (j : Nat) : Int := if j ^^^ S < k then O.getD (j ^^^ S) 0 else 0
theorem turK_zero (O : List Int) (S : Nat) : turK O S 0 = fun _ => 0 := by funext j; simp [turK]
theorem turK_step (O : List Int) (S k j : Nat) : (if j = k ^^^ S then O.getD k 0 else turK O S k j) = turK O S (k + 1) j := by
  unfold turK
  by_cases h : j = k ^^^ S
  · subst h
    rw [if_pos rfl, Nat.xor_assoc, Nat.xor_self, Nat.xor_zero, if_pos (by omega)]
  · rw [if_neg h]
    have h2 : j ^^^ S ≠ k := fun c => h (by rw [← c, Nat.xor_assoc, Nat.xor_self, Nat.xor_zero])
    by_cases h3 : j ^^^ S < k
    · rw [if_pos h3, if_pos (by omega)]
    · rw [if_neg h3, if_neg (by omega)]

end Go.Proofs.Ytoglmkjmnknbbaa.PW
