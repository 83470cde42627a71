/-
  What a turn leaves, as the program reckons it: the number of the set.
-/
import Derived.Test.YtlccdnpicfmeaaaCIter
namespace Go.Proofs.Ytlccdnpicfmeaaa.PW
open Go.RowKit Go.Proofs.Ytlccdnpicfmeaaa Go.Proofs.Ytlccdnpicfmeaaa.SW
open Go.Proofs.Ytlccdnpicfmeaaa.PM

theorem shr_and (X i : Nat) (hX : X < 2 ^ 62) : bits BinOp.and IntKind.i64 ((X : Int) / 2 ^ i) 1 = if X.testBit i then 1 else 0 := by
  have e : (X : Int) / 2 ^ i = ((X / 2 ^ i : Nat) : Int) := by
    rw [Int.natCast_ediv, Int.natCast_pow]; rfl
  have hle : X / 2 ^ i < 2 ^ 62 := Nat.lt_of_le_of_lt (Nat.div_le_self _ _) hX
  rw [e, show (1 : Int) = ((1 : Nat) : Int) from rfl, ab_nat _ 1 hle (by decide), Nat.and_one_is_mod, Nat.testBit_eq_decide_div_mod_eq]
  have h2 : X / 2 ^ i % 2 = 0 ∨ X / 2 ^ i % 2 = 1 := by omega
  rcases h2 with h | h <;> simp [h]
theorem bit_nat (X i : Nat) (hX : X < 2 ^ 62) : bit (X : Int) i = X.testBit i := by
  unfold bit
  rw [shr_and X i hX]
  cases X.testBit i <;> decide
theorem mk_iff (d : Int) (i : Nat) : ∀ k, i ∈ mk d k ↔ (i < k ∧ bit d i = true)
  | 0 => by simp [mk]
  | k + 1 => by
    rw [mk, List.mem_append, mk_iff d i k]
    constructor
    · rintro (⟨h1, h2⟩ | h)
      · exact ⟨by omega, h2⟩
      · split at h
        · rename_i hb; simp at h; subst h; exact ⟨by omega, hb⟩
        · simp at h
    · rintro ⟨h1, h2⟩
      by_cases e : i = k
      · subst e; right; rw [if_pos h2]; simp
      · left; exact ⟨by omega, h2⟩
def inW (X v o i : Nat) : Nat := if X.testBit (v ^^^ 2 ^ i) then o ||| 2 ^ v else o
def inL (X v o : Nat) (l : List Nat) : Nat := l.foldl (inW X v) o
theorem inL_snoc (X v o : Nat) (l : List Nat) (i : Nat) : inL X v o (l ++ [i]) = inW X v (inL X v o l) i := by unfold inL; rw [List.foldl_append]; rfl
def ouS (X : Nat) (f : Nat → Nat) (n o v : Nat) : Nat := inL X v o (mk (f v : Int) n)
def ouL (X : Nat) (f : Nat → Nat) (n : Nat) (l : List Nat) : Nat := l.foldl (ouS X f n) 0
theorem ouL_snoc (X : Nat) (f : Nat → Nat) (n : Nat) (l : List Nat) (v : Nat) : ouL X f n (l ++ [v]) = ouS X f n (ouL X f n l) v := by unfold ouL; rw [List.foldl_append]; rfl
theorem inL_bit (X v j : Nat) (l : List Nat) : ∀ o, (inL X v o l).testBit j = (o.testBit j || (decide (j = v) && l.any fun i => X.testBit (v ^^^ 2 ^ i))) := by
  induction l with
  | nil => intro o; simp [inL]
  | cons a l ih =>
    intro o
    show (inL X v (inW X v o a) l).testBit j = _
    rw [ih]
    unfold inW
    rw [List.any_cons]
    by_cases hx : X.testBit (v ^^^ 2 ^ a) = true
    · rw [if_pos hx, Nat.testBit_or, Nat.testBit_two_pow, hx]
      by_cases e : j = v
      · subst e; simp
      · simp [e, Ne.symm e]
    · rw [if_neg hx]
      simp only [Bool.not_eq_true] at hx
      rw [hx, Bool.false_or]
theorem ouL_bit (X : Nat) (f : Nat → Nat) (n j : Nat) (l : List Nat) : ∀ o, (l.foldl (ouS X f n) o).testBit j = (o.testBit j || l.any fun v => decide (j = v) && (mk (f v : Int) n).any fun i => X.testBit (v ^^^ 2 ^ i)) := by
  induction l with
  | nil => intro o; simp
  | cons a l ih =>
    intro o
    rw [List.foldl_cons, ih, List.any_cons]
    unfold ouS
    rw [inL_bit, Bool.or_assoc]
theorem inL_lt {X v o T : Nat} (hv : v < T) (l : List Nat) (ho : o < 2 ^ T) : inL X v o l < 2 ^ T := by
  induction l generalizing o with
  | nil => exact ho
  | cons a l ih =>
    show inL X v (inW X v o a) l < 2 ^ T
    refine ih ?_
    unfold inW
    split
    · exact Nat.or_lt_two_pow ho (Nat.pow_lt_pow_right (by decide) hv)
    · exact ho
theorem ouL_lt {X : Nat} {f : Nat → Nat} {n T : Nat} (l : List Nat) (hl : ∀ v ∈ l, v < T) : ∀ o, o < 2 ^ T → l.foldl (ouS X f n) o < 2 ^ T := by
  induction l with
  | nil => intro o ho; exact ho
  | cons a l ih =>
    intro o ho
    rw [List.foldl_cons]
    exact ih (fun v hv => hl v (List.mem_cons_of_mem _ hv)) _ (inL_lt (hl a (by simp)) _ ho)
/-- A turn: the number of what remains. -/
theorem turn_code {n : Nat} {f : Nat → Nat} {A : Nat → Bool} (hn : n ≤ 5) (hf : ∀ v, v < 2 ^ n → f v < 2 ^ n) : ouL (code A (2 ^ n)) f n (mk (code A (2 ^ n) : Int) (2 ^ n)) = code (stp n f A) (2 ^ n) := by
  have h32 := pow_le_32 hn
  have hX : code A (2 ^ n) < 2 ^ 62 := Nat.lt_of_lt_of_le (code_lt A _) (Nat.pow_le_pow_right (by decide) (by omega))
  apply Nat.eq_of_testBit_eq
  intro j
  unfold ouL
  rw [ouL_bit, Nat.zero_testBit, Bool.false_or, code_bit, Bool.eq_iff_iff]
  simp only [List.any_eq_true, Bool.and_eq_true, decide_eq_true_eq, stp, List.mem_range]
  constructor
  · rintro ⟨v, hv, rfl, i, hi, hb⟩
    rw [mk_iff, bit_nat _ _ hX, code_bit] at hv
    have hj := hv.1
    have hfj : f j < 2 ^ 62 := Nat.lt_of_lt_of_le (hf j hj) (Nat.pow_le_pow_right (by decide) (by omega))
    rw [mk_iff, bit_nat _ _ hfj] at hi
    rw [code_bit] at hb
    simp at hv hb
    exact ⟨hj, hv.2, i, hi.1, hi.2, hb.2⟩
  · rintro ⟨hj, hA, i, hi, hb, hc⟩
    have hfj : f j < 2 ^ 62 := Nat.lt_of_lt_of_le (hf j hj) (Nat.pow_le_pow_right (by decide) (by omega))
    refine ⟨j, ?_, rfl, i, ?_, ?_⟩
    · rw [mk_iff, bit_nat _ _ hX, code_bit]; simp [hj, hA]
    · rw [mk_iff, bit_nat _ _ hfj]; exact ⟨hi, hb⟩
    · rw [code_bit]; simp [hc, nb_lt hj hi]
end Go.Proofs.Ytlccdnpicfmeaaa.PW
