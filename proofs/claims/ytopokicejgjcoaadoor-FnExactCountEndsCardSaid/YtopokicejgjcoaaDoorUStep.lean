/-
  The mathematics of steps by rules: which numbers of a point are less than 0, as a set; the least and the greatest of them; the least number; steps and runs.
  Walks: fractions compared; the least one of a list and its place; the numbers of a point that are less than 0.
  Walks: the code of a problem, a set and a rule, in the program and in the model; the rules of the program.
  The exact law of StepByRule: both sides' answers.
-/
import Derived.Test.YtopokicejgjcoaaDoorPNonA
import Derived.Test.YtopokicejgjcoaaDoorCBit
import Derived.Test.YtopokicejgjcoaaDoorUTab
import Derived.BigQuiet
namespace Go.Proofs.YtopokicejgjcoaaDoor.PW
open Go.RowKit Go.Proofs.YtopokicejgjcoaaDoor
open Go.Proofs.YtopokicejgjcoaaDoor.PM Go.Proofs.YtopokicejgjcoaaDoor.PX

/-- The set of the numbers that are less than 0, of the first k. -/
def negM (xs : List (Int × Int)) : Nat → Nat
  | 0 => 0
  | k + 1 => if (xs.getD k (0, 0)).1 < 0 then negM xs k ||| 2 ^ k else negM xs k
theorem negM_yes {xs : List (Int × Int)} {k : Nat} (h : (xs.getD k (0, 0)).1 < 0) : negM xs (k + 1) = negM xs k ||| 2 ^ k := by show (if _ then _ else _) = _; rw [if_pos h]
theorem negM_no {xs : List (Int × Int)} {k : Nat} (h : ¬ (xs.getD k (0, 0)).1 < 0) : negM xs (k + 1) = negM xs k := by show (if _ then _ else _) = _; rw [if_neg h]
theorem negM_lt (xs : List (Int × Int)) : ∀ k, negM xs k < 2 ^ k
  | 0 => by simp [negM]
  | k + 1 => by
    have ih := negM_lt xs k
    have h2 : 2 ^ k < 2 ^ (k + 1) := Nat.pow_lt_pow_right (by decide) (by omega)
    by_cases h : (xs.getD k (0, 0)).1 < 0
    · rw [negM_yes h]
      exact Nat.or_lt_two_pow (by omega) h2
    · rw [negM_no h]
      omega
theorem negM_zero (xs : List (Int × Int)) : ∀ k, negM xs k = 0 ↔ ∀ j, j < k → ¬ (xs.getD j (0, 0)).1 < 0
  | 0 => ⟨fun _ j hj => absurd hj (Nat.not_lt_zero _), fun _ => rfl⟩
  | k + 1 => by
    have ih := negM_zero xs k
    by_cases h : (xs.getD k (0, 0)).1 < 0
    · rw [negM_yes h]
      constructor
      · intro e
        have := congrArg (fun x => x.testBit k) e
        simp [Nat.testBit_or, Nat.testBit_two_pow_self] at this
      · intro hall
        exact absurd h (hall k (by omega))
    · rw [negM_no h, ih]
      constructor
      · intro hall j hj
        by_cases e : j = k
        · subst e; exact h
        · exact hall j (by omega)
      · intro hall j hj
        exact hall j (by omega)
/-- The least and the greatest number of a set below 32. -/
def loB (x : Nat) : Nat := if x % 2 = 1 then 0 else if x / 2 % 2 = 1 then 1 else if x / 4 % 2 = 1 then 2 else if x / 8 % 2 = 1 then 3 else 4
def hiB (x : Nat) : Nat := if 16 ≤ x then 4 else if 8 ≤ x then 3 else if 4 ≤ x then 2 else if 2 ≤ x then 1 else 0
theorem lohi_dec : ∀ k : Fin 5, ∀ x : Fin 32, x.val < 2 ^ k.val → x.val ||| 2 ^ k.val ≠ 0 ∧ hiB (x.val ||| 2 ^ k.val) = k.val ∧ loB (x.val ||| 2 ^ k.val) = if x.val = 0 then k.val else loB x.val := by decide +kernel
theorem pow_le_32 {n : Nat} (hn : n ≤ 5) : (2 : Nat) ^ n ≤ 32 := by
  obtain rfl | rfl | rfl | rfl | rfl | rfl : n = 0 ∨ n = 1 ∨ n = 2 ∨ n = 3 ∨ n = 4 ∨ n = 5 := by omega
  all_goals decide
theorem lohi_step {k x : Nat} (hk : k < 5) (hx : x < 2 ^ k) : x ||| 2 ^ k ≠ 0 ∧ hiB (x ||| 2 ^ k) = k ∧ loB (x ||| 2 ^ k) = if x = 0 then k else loB x := by
  have := pow_le_32 (n := k) (by omega)
  exact lohi_dec ⟨k, hk⟩ ⟨x, by omega⟩ hx
theorem lohi_lt_dec : ∀ n : Fin 6, ∀ x : Fin 32, x.val < 2 ^ n.val → x.val ≠ 0 → loB x.val < n.val ∧ hiB x.val < n.val := by decide +kernel
theorem lohi_lt {n x : Nat} (hn : n ≤ 5) (hx : x < 2 ^ n) (h0 : x ≠ 0) : loB x < n ∧ hiB x < n := by
  have := pow_le_32 hn
  exact lohi_lt_dec ⟨n, by omega⟩ ⟨x, by omega⟩ hx h0

/-- A fraction is less than another one. -/
def lessF (a b : Int × Int) : Prop := a.1 * b.2 < b.1 * a.2
instance (a b : Int × Int) : Decidable (lessF a b) := inferInstanceAs (Decidable (_ < _))
theorem mulc {a b c : Int} (hc : 0 < c) : a < b ↔ a * c < b * c := ⟨fun h => Int.mul_lt_mul_of_pos_right h hc, fun h => Int.lt_of_mul_lt_mul_right h (by omega)⟩
theorem lessF_trans {a b c : Int × Int} (ha : 0 < a.2) (hb : 0 < b.2) (hc : 0 < c.2) (h1 : ¬ lessF b a) (h2 : lessF b c) : lessF a c := by
  unfold lessF at *
  have h1' : a.1 * b.2 ≤ b.1 * a.2 := by omega
  have e1 : a.1 * b.2 * c.2 ≤ b.1 * a.2 * c.2 := Int.mul_le_mul_of_nonneg_right h1' (by omega)
  have e2 : b.1 * c.2 * a.2 < c.1 * b.2 * a.2 := (mulc ha).1 h2
  have e3 : b.1 * a.2 * c.2 = b.1 * c.2 * a.2 := by rw [Int.mul_assoc, Int.mul_comm a.2 c.2, ← Int.mul_assoc]
  have e4 : (a.1 * c.2) * b.2 < (c.1 * a.2) * b.2 := by
    rw [show a.1 * c.2 * b.2 = a.1 * b.2 * c.2 by rw [Int.mul_assoc, Int.mul_comm c.2 b.2, ← Int.mul_assoc], show c.1 * a.2 * b.2 = c.1 * b.2 * a.2 by rw [Int.mul_assoc, Int.mul_comm a.2 b.2, ← Int.mul_assoc]]
    omega
  exact (mulc hb).2 e4
theorem lessF_trans' {a b c : Int × Int} (ha : 0 < a.2) (hb : 0 < b.2) (hc : 0 < c.2) (h1 : lessF a b) (h2 : ¬ lessF c b) : lessF a c := by
  unfold lessF at *
  have h2' : b.1 * c.2 ≤ c.1 * b.2 := by omega
  have e1 : a.1 * b.2 * c.2 < b.1 * a.2 * c.2 := (mulc hc).1 h1
  have e2 : b.1 * c.2 * a.2 ≤ c.1 * b.2 * a.2 := Int.mul_le_mul_of_nonneg_right h2' (by omega)
  have e3 : b.1 * a.2 * c.2 = b.1 * c.2 * a.2 := by rw [Int.mul_assoc, Int.mul_comm a.2 c.2, ← Int.mul_assoc]
  have e4 : (a.1 * c.2) * b.2 < (c.1 * a.2) * b.2 := by
    rw [show a.1 * c.2 * b.2 = a.1 * b.2 * c.2 by rw [Int.mul_assoc, Int.mul_comm c.2 b.2, ← Int.mul_assoc], show c.1 * a.2 * b.2 = c.1 * b.2 * a.2 by rw [Int.mul_assoc, Int.mul_comm a.2 b.2, ← Int.mul_assoc]]
    omega
  exact (mulc hb).2 e4
/-- The first of the least numbers, of the first k. -/
def lsI (xs : List (Int × Int)) : Nat → Nat
  | 0 => 0
  | k + 1 => if k = 0 then 0 else if lessF (xs.getD k (0, 0)) (xs.getD (lsI xs k) (0, 0)) then k else lsI xs k
theorem lsI_one (xs : List (Int × Int)) : lsI xs 1 = 0 := rfl
theorem lsI_yes {xs : List (Int × Int)} {k : Nat} (hk : k ≠ 0) (h : lessF (xs.getD k (0, 0)) (xs.getD (lsI xs k) (0, 0))) : lsI xs (k + 1) = k := by show (if _ then _ else _) = _; rw [if_neg hk, if_pos h]
theorem lsI_no {xs : List (Int × Int)} {k : Nat} (hk : k ≠ 0) (h : ¬ lessF (xs.getD k (0, 0)) (xs.getD (lsI xs k) (0, 0))) : lsI xs (k + 1) = lsI xs k := by show (if _ then _ else _) = _; rw [if_neg hk, if_neg h]
theorem lsI_lt (xs : List (Int × Int)) : ∀ k, 0 < k → lsI xs k < k
  | 0, h => absurd h (Nat.lt_irrefl _)
  | k + 1, _ => by
    by_cases hk : k = 0
    · subst hk; rw [lsI_one]; omega
    · have ih := lsI_lt xs k (by omega)
      by_cases h : lessF (xs.getD k (0, 0)) (xs.getD (lsI xs k) (0, 0))
      · rw [lsI_yes hk h]; omega
      · rw [lsI_no hk h]; omega
theorem lsI_min {xs : List (Int × Int)} : ∀ k, (∀ j, j < k → 0 < (xs.getD j (0, 0)).2) → (∀ j, j < k → ¬ lessF (xs.getD j (0, 0)) (xs.getD (lsI xs k) (0, 0))) ∧ ∀ j, j < lsI xs k → lessF (xs.getD (lsI xs k) (0, 0)) (xs.getD j (0, 0))
  | 0, _ => ⟨fun j hj => absurd hj (Nat.not_lt_zero _), fun j hj => absurd hj (Nat.not_lt_zero _)⟩
  | k + 1, hp => by
    by_cases hk : k = 0
    · subst hk
      rw [lsI_one]
      refine ⟨fun j hj => ?_, fun j hj => absurd hj (Nat.not_lt_zero _)⟩
      obtain rfl : j = 0 := by omega
      unfold lessF
      omega
    · obtain ⟨i1, i2⟩ := lsI_min k (fun j hj => hp j (by omega))
      have hl := lsI_lt xs k (by omega)
      by_cases h : lessF (xs.getD k (0, 0)) (xs.getD (lsI xs k) (0, 0))
      · rw [lsI_yes hk h]
        have hlt : ∀ j, j < k → lessF (xs.getD k (0, 0)) (xs.getD j (0, 0)) := fun j hj => lessF_trans' (hp k (by omega)) (hp _ (by omega)) (hp j (by omega)) h (i1 j hj)
        refine ⟨fun j hj => ?_, hlt⟩
        by_cases e : j = k
        · subst e; unfold lessF; omega
        · have := hlt j (by omega)
          unfold lessF at this ⊢
          omega
      · rw [lsI_no hk h]
        refine ⟨fun j hj => ?_, i2⟩
        by_cases e : j = k
        · subst e; exact h
        · exact i1 j (by omega)
/-- The model looks at the numbers below 0 alone: it finds the same one. -/
theorem lsI_first {xs : List (Int × Int)} {k : Nat} (hp : ∀ j, j < k + 1 → 0 < (xs.getD j (0, 0)).2) (h0 : negM xs k = 0) (h : (xs.getD k (0, 0)).1 < 0) : lsI xs (k + 1) = k := by
  by_cases hk : k = 0
  · subst hk; rfl
  · have hl := lsI_lt xs k (by omega)
    have h1 := (negM_zero xs k).1 h0 _ hl
    have p1 := hp k (by omega)
    have p2 := hp (lsI xs k) (by omega)
    refine lsI_yes hk ?_
    unfold lessF
    have e1 : (xs.getD k (0, 0)).1 * (xs.getD (lsI xs k) (0, 0)).2 < 0 := Int.mul_neg_of_neg_of_pos h p2
    have e2 : 0 ≤ (xs.getD (lsI xs k) (0, 0)).1 * (xs.getD k (0, 0)).2 := Int.mul_nonneg (by omega) (by omega)
    omega
theorem lsI_past {xs : List (Int × Int)} {k : Nat} (hp : ∀ j, j < k + 1 → 0 < (xs.getD j (0, 0)).2) (h0 : negM xs k ≠ 0) (h : ¬ (xs.getD k (0, 0)).1 < 0) : lsI xs (k + 1) = lsI xs k := by
  have hk : k ≠ 0 := fun e => h0 (by subst e; rfl)
  have hl := lsI_lt xs k (by omega)
  have p1 := hp k (by omega)
  have p2 := hp (lsI xs k) (by omega)
  refine lsI_no hk ?_
  have hneg : (xs.getD (lsI xs k) (0, 0)).1 < 0 := by
    rcases Classical.em ((xs.getD (lsI xs k) (0, 0)).1 < 0) with c | hc
    · exact c
    exfalso
    refine h0 ((negM_zero xs k).2 (fun j hj c => ?_))
    refine (lsI_min k (fun j hj => hp j (by omega))).1 j hj ?_
    unfold lessF
    have e1 : (xs.getD j (0, 0)).1 * (xs.getD (lsI xs k) (0, 0)).2 < 0 := Int.mul_neg_of_neg_of_pos c p2
    have e2 : 0 ≤ (xs.getD (lsI xs k) (0, 0)).1 * (xs.getD j (0, 0)).2 := Int.mul_nonneg (by omega) (by have := hp j (by omega); omega)
    omega
  unfold lessF
  have e1 : (xs.getD (lsI xs k) (0, 0)).1 * (xs.getD k (0, 0)).2 < 0 := Int.mul_neg_of_neg_of_pos hneg p1
  have e2 : 0 ≤ (xs.getD k (0, 0)).1 * (xs.getD (lsI xs k) (0, 0)).2 := Int.mul_nonneg (by omega) (by omega)
  omega

/-- The set that a rule exchanges. -/
def exM (r : Int) (xs : List (Int × Int)) (n : Nat) : Nat :=
  if r = 0 then 2 ^ loB (negM xs n) else if r = 1 then 2 ^ hiB (negM xs n) else if r = 2 then 2 ^ lsI xs n else negM xs n
theorem exM_lt {r : Int} {xs : List (Int × Int)} {n : Nat} (h1 : 1 ≤ n) (h5 : n ≤ 5) (h0 : negM xs n ≠ 0) : exM r xs n < 2 ^ n := by
  obtain ⟨hlo, hhi⟩ := lohi_lt h5 (negM_lt xs n) h0
  have hls := lsI_lt xs n h1
  unfold exM
  split
  · exact Nat.pow_lt_pow_right (by decide) hlo
  · split
    · exact Nat.pow_lt_pow_right (by decide) hhi
    · split
      · exact Nat.pow_lt_pow_right (by decide) hls
      · exact negM_lt xs n
/-- The set behind a set. -/
def stpS (M : List (List Int)) (Q : List Int) (r s : Int) : Int := bits BinOp.xor IntKind.i64 s ((exM r (ptL M Q s) M.length : Nat) : Int)
theorem ptL_length (M : List (List Int)) (Q : List Int) (s : Int) : (ptL M Q s).length = M.length := by unfold ptL; rw [rowF_length]
theorem negM_nonneg {M : List (List Int)} {Q : List Int} {s : Int} : negM (ptL M Q s) M.length = 0 ↔ nonneg (ptL M Q s) = true := by
  rw [negM_zero, nonneg_iff, ptL_length]
  exact ⟨fun h j hj => by have := h j hj; omega, fun h j hj => by have := h j hj; omega⟩
theorem stpS_in {M : List (List Int)} {Q : List Int} {r s : Int} (h1 : 1 ≤ M.length) (h5 : M.length ≤ 5) (hs0 : 0 ≤ s) (hs1 : s < 2 ^ M.length) (hn : nonneg (ptL M Q s) = false) : 0 ≤ stpS M Q r s ∧ stpS M Q r s < 2 ^ M.length := by
  have h0 : negM (ptL M Q s) M.length ≠ 0 := fun e => by rw [negM_nonneg.1 e] at hn; cases hn
  have hx := exM_lt (r := r) h1 h5 h0
  have hp := pow_le_32 h5
  obtain ⟨t, rfl⟩ := Int.eq_ofNat_of_zero_le hs0
  have e : (((2 : Nat) ^ M.length : Nat) : Int) = 2 ^ M.length := by norm_cast
  have ht : t < 2 ^ M.length := by omega
  unfold stpS
  rw [xb_nat t _ (by omega) (by omega)]
  have hxx := Nat.xor_lt_two_pow ht hx
  refine ⟨by omega, ?_⟩
  have : ((t ^^^ exM r (ptL M Q t) M.length : Nat) : Int) < ((2 ^ M.length : Nat) : Int) := by omega
  simpa using this

/-- A run, from the set s on, those of S being met before. -/
def runO (M : List (List Int)) (Q : List Int) (r : Int) : Nat → List Int → Int → List Int × Int
  | 0, S, _ => (S, 0)
  | k + 1, S, s => if dt M.length (colS M s) = 0 then (S ++ [s], 1) else if s ∈ S then (S ++ [s], 2) else if nonneg (ptL M Q s) = true then (S ++ [s], 0) else runO M Q r k (S ++ [s]) (stpS M Q r s)
theorem runO_stuck {M : List (List Int)} {Q : List Int} {r s : Int} {k : Nat} {S : List Int} (h : dt M.length (colS M s) = 0) : runO M Q r (k + 1) S s = (S ++ [s], 1) := by show (if _ then _ else _) = _; rw [if_pos h]
theorem runO_again {M : List (List Int)} {Q : List Int} {r s : Int} {k : Nat} {S : List Int} (h : dt M.length (colS M s) ≠ 0) (h2 : s ∈ S) : runO M Q r (k + 1) S s = (S ++ [s], 2) := by show (if _ then _ else _) = _; rw [if_neg h, if_pos h2]
theorem runO_solved {M : List (List Int)} {Q : List Int} {r s : Int} {k : Nat} {S : List Int} (h : dt M.length (colS M s) ≠ 0) (h2 : s ∉ S) (h3 : nonneg (ptL M Q s) = true) : runO M Q r (k + 1) S s = (S ++ [s], 0) := by show (if _ then _ else _) = _; rw [if_neg h, if_neg h2, if_pos h3]
theorem runO_on {M : List (List Int)} {Q : List Int} {r s : Int} {k : Nat} {S : List Int} (h : dt M.length (colS M s) ≠ 0) (h2 : s ∉ S) (h3 : nonneg (ptL M Q s) = false) : runO M Q r (k + 1) S s = runO M Q r k (S ++ [s]) (stpS M Q r s) := by show (if _ then _ else _) = _; rw [if_neg h, if_neg h2, if_neg (by rw [h3]; exact Bool.noConfusion)]
/-- A list without doubles of numbers below b is no longer than b. -/
theorem nodup_le : ∀ (b : Nat) (S : List Int), S.Nodup → (∀ x ∈ S, 0 ≤ x ∧ x < b) → S.length ≤ b
  | 0, S, _, h => by
    cases S with
    | nil => simp
    | cons x r => have := h x (by simp); omega
  | b + 1, S, hd, h => by
    have ih := nodup_le b (S.erase (b : Int)) (hd.erase _) (fun x hx => by
      obtain ⟨h1, h2⟩ := (hd.mem_erase_iff).1 hx
      have := h x h2
      omega)
    have : S.length ≤ (S.erase (b : Int)).length + 1 := by
      rw [List.length_erase]
      split <;> omega
    omega
/-- What holds of the sets that a run has met. -/
structure Met (n : Nat) (S : List Int) (s : Int) (k : Nat) : Prop where
  dup : S.Nodup
  inn : ∀ x ∈ S, 0 ≤ x ∧ x < 2 ^ n
  lo : 0 ≤ s
  hi : s < 2 ^ n
  len : k + S.length = 33
theorem Met.pos {n : Nat} {S : List Int} {s : Int} {k : Nat} (h : Met n S s k) (hn : n ≤ 5) : ∃ j, k = j + 1 ∧ S.length ≤ 32 := by
  have hp := pow_le_32 hn
  have e : (((2 : Nat) ^ n : Nat) : Int) = 2 ^ n := by norm_cast
  have := nodup_le (2 ^ n) S h.dup (fun x hx => by
    have := h.inn x hx
    exact ⟨this.1, by omega⟩)
  have := h.len
  exact ⟨k - 1, by omega, by omega⟩
theorem Met.next {n : Nat} {S : List Int} {s t : Int} {k : Nat} (h : Met n S s (k + 1)) (hs : s ∉ S) (h0 : 0 ≤ t) (h1 : t < 2 ^ n) : Met n (S ++ [s]) t k := by
  refine ⟨?_, ?_, h0, h1, ?_⟩
  · rw [List.nodup_append]
    refine ⟨h.dup, by simp, ?_⟩
    intro a ha b hb
    simp at hb
    subst hb
    intro e
    exact hs (e ▸ ha)
  · intro x hx
    rcases List.mem_append.1 hx with h2 | h2
    · exact h.inn x h2
    · simp at h2
      subst h2
      exact ⟨h.lo, h.hi⟩
  · have := h.len
    simp
    omega
theorem Met.first {n : Nat} {s : Int} (h0 : 0 ≤ s) (h1 : s < 2 ^ n) : Met n [] s 33 := ⟨by simp, by simp, h0, h1, rfl⟩
theorem runO_facts {M : List (List Int)} {Q : List Int} {r : Int} (h1 : 1 ≤ M.length) (h5 : M.length ≤ 5) : ∀ (k : Nat) (S : List Int) (s : Int), Met M.length S s k →
    (runO M Q r k S s).1.length ≤ 33 ∧ 1 ≤ (runO M Q r k S s).1.length ∧ (∀ x ∈ (runO M Q r k S s).1, 0 ≤ x ∧ x < 2 ^ M.length) ∧ 0 ≤ (runO M Q r k S s).2 ∧ (runO M Q r k S s).2 ≤ 2
  | 0, S, s, h => by obtain ⟨j, hj, _⟩ := h.pos h5; omega
  | k + 1, S, s, h => by
    obtain ⟨j, _, hl⟩ := h.pos h5
    have hend : (S ++ [s]).length ≤ 33 ∧ 1 ≤ (S ++ [s]).length ∧ ∀ x ∈ S ++ [s], 0 ≤ x ∧ x < 2 ^ M.length := by
      refine ⟨by simp; omega, by simp, fun x hx => ?_⟩
      rcases List.mem_append.1 hx with h2 | h2
      · exact h.inn x h2
      · simp at h2
        subst h2
        exact ⟨h.lo, h.hi⟩
    by_cases hd : dt M.length (colS M s) = 0
    · rw [runO_stuck hd]; exact ⟨hend.1, hend.2.1, hend.2.2, by simp, by simp⟩
    by_cases hm : s ∈ S
    · rw [runO_again hd hm]; exact ⟨hend.1, hend.2.1, hend.2.2, by simp, by simp⟩
    cases hn : nonneg (ptL M Q s)
    · rw [runO_on hd hm hn]
      obtain ⟨t0, t1⟩ := stpS_in (r := r) h1 h5 h.lo h.hi hn
      exact runO_facts h1 h5 k _ _ (h.next hm t0 t1)
    · rw [runO_solved hd hm hn]; exact ⟨hend.1, hend.2.1, hend.2.2, by simp, by simp⟩
/-- The set at which a run ends with a solution has one. -/
theorem runO_last {M : List (List Int)} {Q : List Int} {r : Int} (h1 : 1 ≤ M.length) (h5 : M.length ≤ 5) : ∀ (k : Nat) (S : List Int) (s : Int), Met M.length S s k → (runO M Q r k S s).2 = 0 →
    ∃ T t, (runO M Q r k S s).1 = T ++ [t] ∧ 0 ≤ t ∧ t < 2 ^ M.length ∧ dt M.length (colS M t) ≠ 0 ∧ nonneg (ptL M Q t) = true
  | 0, S, s, h, _ => by obtain ⟨j, hj, _⟩ := h.pos h5; omega
  | k + 1, S, s, h, he => by
    by_cases hd : dt M.length (colS M s) = 0
    · rw [runO_stuck hd] at he; simp at he
    by_cases hm : s ∈ S
    · rw [runO_again hd hm] at he; simp at he
    cases hn : nonneg (ptL M Q s)
    · rw [runO_on hd hm hn] at he ⊢
      obtain ⟨t0, t1⟩ := stpS_in (r := r) h1 h5 h.lo h.hi hn
      exact runO_last h1 h5 k _ _ (h.next hm t0 t1) he
    · rw [runO_solved hd hm hn]; exact ⟨S, s, rfl, h.lo, h.hi, hd, hn⟩
/-- The error of a problem, a set and a rule. -/
def ruleCode (M : List (List Int)) (Q : List Int) (s r : Int) : Int := if setCode M Q s ≠ 0 then setCode M Q s else if r < 0 ∨ 3 < r then 2 else 0
end Go.Proofs.YtopokicejgjcoaaDoor.PW
namespace Go.Proofs.YtopokicejgjcoaaDoor.PW
open Go.RowKit Go.Proofs.YtopokicejgjcoaaDoor
open Go.Proofs.YtopokicejgjcoaaDoor.PM Go.Proofs.YtopokicejgjcoaaDoor.PX
attribute [local go_sem high] FW.eql_frac FW.eqGuard_frac

theorem ucmpI_lt {x y : Int} (h : x < y) : FM.cmpI x y = -1 := by unfold FM.cmpI; rw [if_pos h]
theorem ucmpI_gt {x y : Int} (h : y < x) : FM.cmpI x y = 1 := by unfold FM.cmpI; rw [if_neg (by omega), if_pos h]
theorem ucmpI_eq (x : Int) : FM.cmpI x x = 0 := by unfold FM.cmpI; rw [if_neg (by omega), if_neg (by omega)]
theorem ucmp_any (x y : Int) (w : World) :
    Calls Tryd.prog 152 #[.int .i64 x, .int .i64 y] w fun e w' => e = .returned (.int .i64 (FM.cmpI x y)) ∧ w = w' := by
  rcases Int.lt_trichotomy x y with h | h | h
  · rw [ucmpI_lt h]
    go_enter Tryd.func152, Tryd.ntmps152
    go_wp2_with (refine (isNaN_any _ _).mono ?_; rintro e w' ⟨rfl, rfl⟩)
    go_ret
    exact ⟨rfl, rfl⟩
  · subst h
    rw [ucmpI_eq]
    go_enter Tryd.func152, Tryd.ntmps152
    go_wp2_with (refine (isNaN_any _ _).mono ?_; rintro e w' ⟨rfl, rfl⟩)
    go_ret
    exact ⟨rfl, rfl⟩
  · rw [ucmpI_gt h]
    have h' : ¬ x < y := by omega
    go_enter Tryd.func152, Tryd.ntmps152
    go_wp2_with (refine (isNaN_any _ _).mono ?_; rintro e w' ⟨rfl, rfl⟩)
    go_ret
    exact ⟨rfl, rfl⟩
theorem uprod_bd {a b : Int} (h1 : -1000000000 ≤ a) (h2 : a ≤ 1000000000) (h3 : -1000000000 ≤ b) (h4 : b ≤ 1000000000) : -1000000000000000000 ≤ a * b ∧ a * b ≤ 1000000000000000000 := FM.mul_bd h1 h2 h3 h4
theorem ucompare_any (an ad bn bd : Int) (w : World) (ha : FM.isF an ad = true) (hb : FM.isF bn bd = true) :
    Calls Tryd.prog 148 #[.agg #[.int .i64 an, .int .i64 ad], .agg #[.int .i64 bn, .int .i64 bd]] w fun e w' => e = .returned (.tuple #[.int .i64 (FM.cmpI (an * bd) (bn * ad)), .int .i64 0]) ∧ Below w.heap.size w w' := by
  obtain ⟨a1, a2, a3, a4, _⟩ := FM.isF_yes ha
  obtain ⟨b1, b2, b3, b4, _⟩ := FM.isF_yes hb
  have p1 := uprod_bd a1 a2 (b := bd) (by omega) b4
  have p2 := uprod_bd b1 b2 (b := ad) (by omega) a4
  have hc : -1 ≤ FM.cmpI (an * bd) (bn * ad) ∧ FM.cmpI (an * bd) (bn * ad) ≤ 1 := by unfold FM.cmpI; split <;> (try split) <;> omega
  have HA := Lib.hid ha
  have HB := Lib.hid hb
  clear ha hb
  go_enter Tryd.func148, Tryd.ntmps148
  go_wp2_with fail
  refine (FW.implIsFrac_is _ _ _ _ HA.out).mono ?_; rintro e w1 ⟨rfl, hb1⟩; obtain ⟨hc_hb1, hf_hb1⟩ := bcell hb1; obtain ⟨hcA_hb1, hfA_hb1⟩ := bcellG (W0 := w) hb1 (by (repeat' (first | (with_reducible exact Below.refl _ _) | (with_reducible assumption) | (with_reducible refine Below.alloc ?_ ?_ _) | (with_reducible refine Below.drew ?_) | (with_reducible refine below_drewN ?_ _) | (with_reducible refine Below.setCell ?_ ?_ _) | (with_reducible refine Below.trans ?_ (Below.mono (by with_reducible assumption) ?_)) | (with_reducible exact Below.size (by with_reducible assumption)) | go_size))); have hz_hb1 := hb1.size; (try simp at hz_hb1); (try simp only [Nat.add_one_le_iff] at hz_hb1); have hz0_hb1 : w.heap.size < w1.heap.size := (by omega); have hz1_hb1 : w.heap.size + 1 < w1.heap.size := (by omega)
  go_wp2_with fail
  refine (FW.implIsFrac_is _ _ _ _ HB.out).mono ?_; rintro e w2 ⟨rfl, hb2⟩; obtain ⟨hc_hb2, hf_hb2⟩ := bcell hb2; obtain ⟨hcA_hb2, hfA_hb2⟩ := bcellG (W0 := w1) hb2 (by (repeat' (first | (with_reducible exact Below.refl _ _) | (with_reducible assumption) | (with_reducible refine Below.alloc ?_ ?_ _) | (with_reducible refine Below.drew ?_) | (with_reducible refine below_drewN ?_ _) | (with_reducible refine Below.setCell ?_ ?_ _) | (with_reducible refine Below.trans ?_ (Below.mono (by with_reducible assumption) ?_)) | (with_reducible exact Below.size (by with_reducible assumption)) | go_size))); have hz_hb2 := hb2.size; (try simp at hz_hb2); (try simp only [Nat.add_one_le_iff] at hz_hb2); have hz0_hb2 : w.heap.size < w2.heap.size := (by omega); have hz1_hb2 : w.heap.size + 1 < w2.heap.size := (by omega)
  go_wp2_with fail
  refine (ucmp_any _ _ _).mono ?_; rintro e w3 ⟨rfl, rfl⟩
  go_wp2_with fail
  go_ret2
  refine ⟨rfl, ?_⟩
  (repeat' (first | (with_reducible exact Below.refl _ _) | (with_reducible assumption) | (with_reducible refine Below.alloc ?_ ?_ _) | (with_reducible refine Below.drew ?_) | (with_reducible refine below_drewN ?_ _) | (with_reducible refine Below.setCell ?_ ?_ _) | (with_reducible refine Below.trans ?_ (Below.mono (by with_reducible assumption) ?_)) | (with_reducible exact Below.size (by with_reducible assumption)) | go_size))
theorem uorder_any (an ad bn bd : Int) (w : World) (ha : FM.isF an ad = true) (hb : FM.isF bn bd = true) :
    Calls Tryd.prog 139 #[.agg #[.int .i64 an, .int .i64 ad], .agg #[.int .i64 bn, .int .i64 bd]] w fun e w' => e = .returned (.int .i64 (FM.cmpI (an * bd) (bn * ad))) ∧ Below w.heap.size w w' := by
  have HC := Lib.hid (fun w => ucompare_any an ad bn bd w ha hb)
  have hc : -1 ≤ FM.cmpI (an * bd) (bn * ad) ∧ FM.cmpI (an * bd) (bn * ad) ≤ 1 := by unfold FM.cmpI; split <;> (try split) <;> omega
  generalize FM.cmpI (an * bd) (bn * ad) = C at *
  clear ha hb
  go_enter Tryd.func139, Tryd.ntmps139
  go_wp2_with fail
  refine (HC.out _).mono ?_; rintro e w1 ⟨rfl, hb1⟩; obtain ⟨hc_hb1, hf_hb1⟩ := bcell hb1; obtain ⟨hcA_hb1, hfA_hb1⟩ := bcellG (W0 := w) hb1 (by (repeat' (first | (with_reducible exact Below.refl _ _) | (with_reducible assumption) | (with_reducible refine Below.alloc ?_ ?_ _) | (with_reducible refine Below.drew ?_) | (with_reducible refine below_drewN ?_ _) | (with_reducible refine Below.setCell ?_ ?_ _) | (with_reducible refine Below.trans ?_ (Below.mono (by with_reducible assumption) ?_)) | (with_reducible exact Below.size (by with_reducible assumption)) | go_size))); have hz_hb1 := hb1.size; (try simp at hz_hb1); (try simp only [Nat.add_one_le_iff] at hz_hb1); have hz0_hb1 : w.heap.size < w1.heap.size := (by omega); have hz1_hb1 : w.heap.size + 1 < w1.heap.size := (by omega)
  go_wp2_with fail
  go_ret
  refine ⟨rfl, ?_⟩
  (repeat' (first | (with_reducible exact Below.refl _ _) | (with_reducible assumption) | (with_reducible refine Below.alloc ?_ ?_ _) | (with_reducible refine Below.drew ?_) | (with_reducible refine below_drewN ?_ _) | (with_reducible refine Below.setCell ?_ ?_ _) | (with_reducible refine Below.trans ?_ (Below.mono (by with_reducible assumption) ?_)) | (with_reducible exact Below.size (by with_reducible assumption)) | go_size))

/-- The place of a value in a list, if it is there first. -/
theorem indexP_any (g cap n t : Nat) (xs : List (Int × Int)) (a b : Int) (w : World) (hv : OwnF w (.slice (some ⟨g, 0, none⟩) n cap) xs) (hn : n = xs.length) (hg : g < w.heap.size) (hm : n ≤ 5) (ht : t < n) (he : xs.getD t (0, 0) = (a, b)) (hne : ∀ j, j < t → xs.getD j (0, 0) ≠ (a, b)) :
    Calls Tryd.prog 137 #[.slice (some ⟨g, 0, none⟩) n cap, .agg #[.int .i64 a, .int .i64 b]] w fun e w' => e = .returned (.int .i64 t) ∧ Below w.heap.size w w' := by
  have HV := Lib.hid hv
  have HN := Lib.hid hn
  have HE := Lib.hid he
  have HNE := Lib.hid hne
  obtain ⟨W0, hW0⟩ : ∃ W0, W0 = w.alloc (.cells #[.int .i64 a, .int .i64 b] 101) := ⟨_, rfl⟩
  have d0 : W0.cell? ⟨w.heap.size, 0, none⟩ = some (.int .i64 a) := by rw [hW0]; simp
  have d1 : W0.cell? ⟨w.heap.size, 1, none⟩ = some (.int .i64 b) := by rw [hW0]; simp
  have hB0 : Below w.heap.size w W0 := by rw [hW0]; exact (Below.refl _ _).alloc (Nat.le_refl _) _
  have HB0 := Lib.hid hB0
  have hV0 := hv.below hB0 hg
  have HV0 := Lib.hid hV0
  have HD0 := Lib.hid d0
  have HD1 := Lib.hid d1
  have hz0 : w.heap.size < W0.heap.size := by rw [hW0]; simp
  have HW0 := Lib.hid hW0
  clear hv hn he hne hV0 hB0 hW0 d0 d1
  go_enter Tryd.func137, Tryd.ntmps137
  go_wp2
  rw [← HW0.out]
  clear HW0
  go_loopw [5, 8] (fun _ i wr => ∃ k : Nat, k ≤ t ∧ i = .int .i64 k ∧ Below W0.heap.size W0 wr) (fun _ i _ => n - (intOf i).toNat)
  case atStart => exact ⟨0, Nat.zero_le _, rfl, Below.refl _ _⟩
  case round =>
    obtain ⟨k, hk, rfl, hB⟩ := hrel
    have hlt : k < n := by omega
    have ho := HV0.out.below hB (by omega)
    have c0 := ho.cell0 HN.out hlt
    have c1 := ho.cell1 HN.out hlt
    have d0 := (hB.cell (p := ⟨w.heap.size, 0, none⟩) hz0).trans HD0.out
    have d1 := (hB.cell (p := ⟨w.heap.size, 1, none⟩) hz0).trans HD1.out
    have HBD := Lib.hid hB
    clear ho hB
    have hx0 : (0 : Int) ≤ (k : Int) := by omega
    have hx1 : (k : Int) < (n : Int) := by omega
    by_cases e : k = t
    · subst e
      rw [HE.out] at c0 c1
      dsimp only at c0 c1
      clear hx0 HNE
      go_wp2_with fail
      go_quiet (fail)
      go_wp2_with fail
      go_ret
      exact ⟨rfl, HB0.out.trans ((below_drewN HBD.out _).mono HB0.out.size)⟩
    · have hxy := HNE.out k (by omega)
      obtain ⟨x, hx⟩ : ∃ x, x = (xs.getD k (0, 0)).1 := ⟨_, rfl⟩
      obtain ⟨y, hy⟩ : ∃ y, y = (xs.getD k (0, 0)).2 := ⟨_, rfl⟩
      rw [← hx] at c0
      rw [← hy] at c1
      have hxy' : ¬ (x = a ∧ y = b) := fun c => hxy (by rw [← c.1, ← c.2, hx, hy])
      clear hxy hx hy
      by_cases e2 : b = y
      · have e1 : ¬ a = x := fun c => hxy' ⟨c.symm, e2.symm⟩
        subst e2
        have hax : (a == x) = false := beq_eq_false_iff_ne.2 e1
        clear hxy' e1
        go_wp2_with fail
        go_quiet (fail)
        go_wp2_with fail
        go_roundw
        case rel => exact ⟨k + 1, by omega, by go_num, below_drewN HBD.out _⟩
        case measure => simp [intOf]; omega
      · have hab : (a == x && b == y) = false := by simp [e2]
        clear hxy' e2
        go_wp2_with fail
        go_quiet (fail)
        go_wp2_with fail
        go_roundw
        case rel => exact ⟨k + 1, by omega, by go_num, below_drewN HBD.out _⟩
        case measure => simp [intOf]; omega

/-- While the least one is looked for: what the variable and the result's place hold. -/
structure MinR (w wr : World) (a b : Int) : Prop where
  below : Below w.heap.size w wr
  r0 : wr.cell? ⟨w.heap.size, 0, none⟩ = some (.int .i64 0)
  r1 : wr.cell? ⟨w.heap.size, 1, none⟩ = some (.int .i64 0)
  m0 : wr.cell? ⟨w.heap.size + 1, 0, none⟩ = some (.int .i64 a)
  m1 : wr.cell? ⟨w.heap.size + 1, 1, none⟩ = some (.int .i64 b)
  fr : ∀ o, wr.frozen? ⟨w.heap.size, o, none⟩ = false
  fm : ∀ o, wr.frozen? ⟨w.heap.size + 1, o, none⟩ = false
theorem MinR.big {w wr : World} {a b : Int} (h : MinR w wr a b) : w.heap.size + 1 < wr.heap.size := World.block_lt_of_cell? wr _ h.m0
theorem MinR.keep {w wr w' : World} {a b : Int} (h : MinR w wr a b) (hb : Below wr.heap.size wr w') : MinR w w' a b := by
  have hz := h.big
  obtain ⟨hc, hf⟩ := FW.bcell hb
  exact ⟨h.below.trans (hb.mono h.below.size), (hc _ _ (by omega)).trans h.r0, (hc _ _ (by omega)).trans h.r1, (hc _ _ (by omega)).trans h.m0, (hc _ _ (by omega)).trans h.m1, fun o => (hf _ _ (by omega)).trans (h.fr o), fun o => (hf _ _ (by omega)).trans (h.fm o)⟩
theorem MinR.put {w wr : World} {a b : Int} (h : MinR w wr a b) (x y : Int) : MinR w ((wr.setCell ⟨w.heap.size + 1, 0, none⟩ (.int .i64 x)).setCell ⟨w.heap.size + 1, 1, none⟩ (.int .i64 y)) x y := by
  have h0 := h.r0; have h1 := h.r1; have h2 := h.m0; have h3 := h.m1; have h4 := h.fr; have h5 := h.fm
  refine ⟨(h.below.setCell (by simp) _).setCell (by simp) _, ?_, ?_, ?_, ?_, ?_, ?_⟩
  all_goals simp [h0, h1, h2, h3, h4, h5, go_sem]

set_option maxHeartbeats 1000000 in
theorem minFunc_any (g cap n : Nat) (xs : List (Int × Int)) (w : World) (hv : OwnF w (.slice (some ⟨g, 0, none⟩) n cap) xs) (hn : n = xs.length) (hg : g < w.heap.size) (h1 : 1 ≤ n) (hm : n ≤ 5) (hF : ∀ j, j < n → FM.isF (xs.getD j (0, 0)).1 (xs.getD j (0, 0)).2 = true) :
    Calls Tryd.prog 138 #[.slice (some ⟨g, 0, none⟩) n cap, .func (.func 139) #[] #[]] w fun e w' => e = .returned (.agg #[.int .i64 (xs.getD (lsI xs n) (0, 0)).1, .int .i64 (xs.getD (lsI xs n) (0, 0)).2]) ∧ Below w.heap.size w w' := by
  have HV := Lib.hid hv
  have HN := Lib.hid hn
  have HF := Lib.hid hF
  have c0 := hv.cell0 hn (show 0 < n by omega)
  have c1 := hv.cell1 hn (show 0 < n by omega)
  rw [Nat.zero_mul] at c0 c1
  rw [Nat.zero_add] at c1
  have hl1 : lsI xs 1 = 0 := rfl
  obtain ⟨a0, ha0⟩ : ∃ a, a = (xs.getD 0 (0, 0)).1 := ⟨_, rfl⟩
  obtain ⟨b0, hb0⟩ : ∃ b, b = (xs.getD 0 (0, 0)).2 := ⟨_, rfl⟩
  rw [← ha0] at c0
  rw [← hb0] at c1
  have HA0 := Lib.hid ha0
  have HB0 := Lib.hid hb0
  have hn1 : ¬ (n : Int) < 1 := by omega
  have hn0 : (0 : Int) < (n : Int) := by omega
  clear hv hn hF ha0 hb0 hl1
  go_enter Tryd.func138, Tryd.ntmps138
  go_wp2_with fail
  go_loopw [6] (fun i wr => ∃ k : Nat, 1 ≤ k ∧ k ≤ n ∧ i = .int .i64 k ∧ MinR w wr (xs.getD (lsI xs k) (0, 0)).1 (xs.getD (lsI xs k) (0, 0)).2) (fun i _ => n - (intOf i).toNat)
  case atStart =>
    refine ⟨1, by omega, by omega, rfl, ?_⟩
    rw [lsI_one, ← HA0.out, ← HB0.out]
    refine ⟨?_, ?_, ?_, ?_, ?_, ?_, ?_⟩
    · (repeat' (first | (with_reducible exact Below.refl _ _) | (with_reducible assumption) | (with_reducible refine Below.alloc ?_ ?_ _) | (with_reducible refine Below.drew ?_) | (with_reducible refine below_drewN ?_ _) | (with_reducible refine Below.setCell ?_ ?_ _) | (with_reducible refine Below.trans ?_ (Below.mono (by with_reducible assumption) ?_)) | (with_reducible exact Below.size (by with_reducible assumption)) | go_size))
    all_goals simp [go_sem]
  case round =>
    obtain ⟨k, hk1, hk, rfl, hR⟩ := hrel
    have HR := Lib.hid hR
    by_cases hlt : k < n
    · have hb := hR.below
      have ho := HV.out.below hb hg
      have c0 := ho.cell0 HN.out hlt
      have c1 := ho.cell1 HN.out hlt
      have hgl : g < wr.heap.size := Nat.lt_of_lt_of_le hg hb.size
      have hls := lsI_lt xs k (by omega)
      have hx := HF.out k hlt
      have hy := HF.out (lsI xs k) (by omega)
      have hm0 := hR.m0
      have hm1 := hR.m1
      have hbig := hR.big
      have hyes := lsI_yes (xs := xs) (k := k) (by omega)
      have hno := lsI_no (xs := xs) (k := k) (by omega)
      unfold lessF at hyes hno
      obtain ⟨a, ha⟩ : ∃ a, a = (xs.getD (lsI xs k) (0, 0)).1 := ⟨_, rfl⟩
      obtain ⟨b, hb'⟩ : ∃ b, b = (xs.getD (lsI xs k) (0, 0)).2 := ⟨_, rfl⟩
      obtain ⟨x, hx'⟩ : ∃ x, x = (xs.getD k (0, 0)).1 := ⟨_, rfl⟩
      obtain ⟨y, hy'⟩ : ∃ y, y = (xs.getD k (0, 0)).2 := ⟨_, rfl⟩
      have HXY := Lib.hid (And.intro hx' hy')
      have HAB := Lib.hid (And.intro ha hb')
      rw [← hx', ← hy'] at hx
      rw [← ha, ← hb'] at hy
      rw [← hx', ← hy', ← ha, ← hb'] at hyes hno
      rw [← hx'] at c0
      rw [← hy'] at c1
      rw [← ha] at hm0
      rw [← hb'] at hm1
      rw [← ha, ← hb'] at HR
      have HYES := Lib.hid hyes
      have HNO := Lib.hid hno
      have r0 : ∀ w', Below wr.heap.size wr w' → w'.cell? ⟨g, k * 2, none⟩ = some (.int .i64 x) := fun w' h => (h.cell (p := ⟨g, k * 2, none⟩) hgl).trans c0
      have r1 : ∀ w', Below wr.heap.size wr w' → w'.cell? ⟨g, k * 2 + 1, none⟩ = some (.int .i64 y) := fun w' h => (h.cell (p := ⟨g, k * 2 + 1, none⟩) hgl).trans c1
      have r2 : ∀ w', Below wr.heap.size wr w' → w'.cell? ⟨w.heap.size + 1, 0, none⟩ = some (.int .i64 a) := fun w' h => (h.cell (p := ⟨w.heap.size + 1, 0, none⟩) hbig).trans hm0
      have r3 : ∀ w', Below wr.heap.size wr w' → w'.cell? ⟨w.heap.size + 1, 1, none⟩ = some (.int .i64 b) := fun w' h => (h.cell (p := ⟨w.heap.size + 1, 1, none⟩) hbig).trans hm1
      have HO := Lib.hid (fun w => uorder_any x y a b w hx hy)
      have hc : -1 ≤ FM.cmpI (x * b) (a * y) ∧ FM.cmpI (x * b) (a * y) ≤ 1 := by unfold FM.cmpI; split <;> (try split) <;> omega
      have hcl : FM.cmpI (x * b) (a * y) < 0 ↔ x * b < a * y := by unfold FM.cmpI; split <;> (try split) <;> omega
      have HCL := Lib.hid hcl
      generalize FM.cmpI (x * b) (a * y) = C at *
      have hk0 : (0 : Int) ≤ (k : Int) := by omega
      have hk2 : (k : Int) < (n : Int) := by omega
      clear hb ho hls hx hy hyes hno ha hb' hx' hy' hcl hR
      by_cases hC : C < 0
      · go_wp2_with fail
        go_region_held3 (fun w' => Below wr.heap.size wr w') ((repeat' (first | (with_reducible exact Below.refl _ _) | (with_reducible assumption) | (with_reducible refine Below.alloc ?_ ?_ _) | (with_reducible refine Below.drew ?_) | (with_reducible refine below_drewN ?_ _) | (with_reducible refine Below.setCell ?_ ?_ _) | (with_reducible refine Below.trans ?_ (Below.mono (by with_reducible assumption) ?_)) | (with_reducible exact Below.size (by with_reducible assumption)) | go_size)))
          (first | (go_at_call 139; refine (HO.out _).mono ?_; rintro e w8 ⟨rfl, hb8⟩; have hS8 : Below wr.heap.size wr w8 := (by (repeat' (first | (with_reducible exact Below.refl _ _) | (with_reducible assumption) | (with_reducible refine Below.alloc ?_ ?_ _) | (with_reducible refine Below.drew ?_) | (with_reducible refine below_drewN ?_ _) | (with_reducible refine Below.setCell ?_ ?_ _) | (with_reducible refine Below.trans ?_ (Below.mono (by with_reducible assumption) ?_)) | (with_reducible exact Below.size (by with_reducible assumption)) | go_size)))))
        have t0 := r0 _ hS8
        have t1 := r1 _ hS8
        have hR8 := HR.out.keep hS8
        have m0 := hR8.m0
        have m1 := hR8.m1
        have f0 := hR8.fm 0
        have f1 := hR8.fm 1
        have hput := hR8.put x y
        have HP := Lib.hid hput
        clear hput hR8 r0 r1 r2 r3 hS8 hb8 c0 c1 hm0 hm1
        go_wp2_with fail
        go_roundw
        case rel =>
          refine ⟨k + 1, by omega, by omega, by go_num, ?_⟩
          rw [HYES.out (HCL.out.1 hC), ← HXY.out.1, ← HXY.out.2]
          exact HP.out
        case measure => simp [intOf]; omega
      · go_wp2_with fail
        go_region_held3 (fun w' => Below wr.heap.size wr w') ((repeat' (first | (with_reducible exact Below.refl _ _) | (with_reducible assumption) | (with_reducible refine Below.alloc ?_ ?_ _) | (with_reducible refine Below.drew ?_) | (with_reducible refine below_drewN ?_ _) | (with_reducible refine Below.setCell ?_ ?_ _) | (with_reducible refine Below.trans ?_ (Below.mono (by with_reducible assumption) ?_)) | (with_reducible exact Below.size (by with_reducible assumption)) | go_size)))
          (first | (go_at_call 139; refine (HO.out _).mono ?_; rintro e w8 ⟨rfl, hb8⟩; have hS8 : Below wr.heap.size wr w8 := (by (repeat' (first | (with_reducible exact Below.refl _ _) | (with_reducible assumption) | (with_reducible refine Below.alloc ?_ ?_ _) | (with_reducible refine Below.drew ?_) | (with_reducible refine below_drewN ?_ _) | (with_reducible refine Below.setCell ?_ ?_ _) | (with_reducible refine Below.trans ?_ (Below.mono (by with_reducible assumption) ?_)) | (with_reducible exact Below.size (by with_reducible assumption)) | go_size)))))
        have HP := Lib.hid (HR.out.keep hS8)
        clear r0 r1 r2 r3 hS8 hb8 c0 c1 hm0 hm1
        go_wp2_with fail
        go_roundw
        case rel =>
          refine ⟨k + 1, by omega, by omega, by go_num, ?_⟩
          rw [HNO.out (by have := HCL.out; omega), ← HAB.out.1, ← HAB.out.2]
          exact HP.out
        case measure => simp [intOf]; omega
    · obtain rfl : k = n := by omega
      have e0 := hR.r0; have e1 := hR.r1; have e2 := hR.m0; have e3 := hR.m1; have e4 := hR.fr 0; have e5 := hR.fr 1
      obtain ⟨a, ha⟩ : ∃ a, a = (xs.getD (lsI xs k) (0, 0)).1 := ⟨_, rfl⟩
      obtain ⟨b, hb⟩ : ∃ b, b = (xs.getD (lsI xs k) (0, 0)).2 := ⟨_, rfl⟩
      rw [← ha] at e2
      rw [← hb] at e3
      have HA := Lib.hid ha
      have HB := Lib.hid hb
      clear hR ha hb
      go_wp2_with fail
      refine bodyPost_ret (v := .agg #[.int .i64 a, .int .i64 b]) (by simp [*, results, Tryd.results138, go_sem]) rfl ?_
      exact ⟨by rw [HA.out, HB.out], (HR.out.below.setCell (by simp) _).setCell (by simp) _⟩

set_option maxHeartbeats 1000000 in
theorem allBelow_any (g cap n : Nat) (xs : List (Int × Int)) (w : World) (hv : OwnF w (.slice (some ⟨g, 0, none⟩) n cap) xs) (hn : n = xs.length) (hg : g < w.heap.size) (hm : n ≤ 5) :
    Calls Tryd.prog 117 #[.slice (some ⟨g, 0, none⟩) n cap] w fun e w' => e = .returned (.int .i64 (negM xs n : Nat)) ∧ Below w.heap.size w w' := by
  have HV := Lib.hid hv
  have HN := Lib.hid hn
  clear hv hn
  go_enter Tryd.func117, Tryd.ntmps117
  go_wp2_with fail
  go_loopw [3, 4, 5, 8] (fun s _ _ i wr => ∃ k : Nat, k ≤ n ∧ i = .int .i64 k ∧ s = .int .i64 (negM xs k : Nat) ∧ Below w.heap.size w wr) (fun _ _ _ i _ => n - (intOf i).toNat)
  case atStart => exact ⟨0, Nat.zero_le _, rfl, rfl, Below.refl _ _⟩
  case round =>
    obtain ⟨k, hk, rfl, rfl, hB⟩ := hrel
    by_cases hlt : k < n
    · have ho := HV.out.below hB hg
      have c0 := ho.cell0 HN.out hlt
      have c1 := ho.cell1 HN.out hlt
      have HB := Lib.hid hB
      have hyes := negM_yes (xs := xs) (k := k)
      have hno := negM_no (xs := xs) (k := k)
      have hN := negM_lt xs k
      have hp := pow_le_32 (n := k) (by omega)
      have hp1 := pow_le_32 (n := k + 1) (by omega)
      have h2k : (2 : Nat) ^ k < 2 ^ (k + 1) := Nat.pow_lt_pow_right (by decide) (by omega)
      have hor := ob_nat (negM xs k) (2 ^ k) (by omega) (by omega)
      have hsh : ((2 ^ k : Nat) : Int) = (2 : Int) ^ k := by norm_cast
      rw [hsh] at hor
      have hpw : wrap64 ((2 : Int) ^ k) = (2 : Int) ^ k := by rw [← hsh]; unfold wrap64; omega
      obtain ⟨x, hx⟩ : ∃ x, x = (xs.getD k (0, 0)).1 := ⟨_, rfl⟩
      rw [← hx] at c0 hyes hno
      have HYES := Lib.hid hyes
      have HNO := Lib.hid hno
      have HOR := Lib.hid hor
      generalize (xs.getD k (0, 0)).2 = y at *
      clear ho hB hx hyes hno hN hp hp1 h2k hsh hor
      have hk0 : (0 : Int) ≤ (k : Int) := by omega
      by_cases hneg : x < 0
      · go_wp2_with fail
        rw [HOR.out]
        go_roundw
        case rel => exact ⟨k + 1, by omega, by go_num, by rw [HYES.out hneg], by have := HB.out; (repeat' (first | (with_reducible exact Below.refl _ _) | (with_reducible assumption) | (with_reducible refine Below.alloc ?_ ?_ _) | (with_reducible refine Below.drew ?_) | (with_reducible refine below_drewN ?_ _) | (with_reducible refine Below.setCell ?_ ?_ _) | (with_reducible refine Below.trans ?_ (Below.mono (by with_reducible assumption) ?_)) | (with_reducible exact Below.size (by with_reducible assumption)) | go_size))⟩
        case measure => simp [intOf]; omega
      · go_wp2_with fail
        go_roundw
        case rel => exact ⟨k + 1, by omega, by go_num, by rw [HNO.out hneg], by have := HB.out; (repeat' (first | (with_reducible exact Below.refl _ _) | (with_reducible assumption) | (with_reducible refine Below.alloc ?_ ?_ _) | (with_reducible refine Below.drew ?_) | (with_reducible refine below_drewN ?_ _) | (with_reducible refine Below.setCell ?_ ?_ _) | (with_reducible refine Below.trans ?_ (Below.mono (by with_reducible assumption) ?_)) | (with_reducible exact Below.size (by with_reducible assumption)) | go_size))⟩
        case measure => simp [intOf]; omega
    · obtain rfl : k = n := by omega
      go_wp2_with fail
      go_ret
      exact ⟨rfl, hB⟩

/-- The least bit, and the length, of a number below 32. -/
theorem tz_core (x k idx : Nat) (w : World) (hx0 : ((x : Int) == 0) = false)
    (key : IntKind.u64.wrap (bits BinOp.and IntKind.u64 (x : Int) (IntKind.u64.wrap (-(x : Int))) * 285870213051353865) / 288230376151711744 = (idx : Int))
    (hi : idx < 64) (hcell : w.cell? ⟨1, idx, none⟩ = some (.int .u8 k)) (hk : k < 64) :
    Calls Tryd.prog 124 #[.int .u64 x] w fun e w' => e = .returned (.int .i64 k) ∧ w = w' := by
  go_enter Tryd.func124, Tryd.ntmps124
  go_wp2_with (simp only [key])
  go_ret
  exact ⟨rfl, rfl⟩
def idxB (l : Nat) : Nat := if l = 0 then 0 else if l = 1 then 1 else if l = 2 then 3 else if l = 3 then 7 else 15
theorem key_dec : ∀ x : Fin 32, x.val ≠ 0 → IntKind.u64.wrap (bits BinOp.and IntKind.u64 (x.val : Int) (IntKind.u64.wrap (-(x.val : Int))) * 285870213051353865) / 288230376151711744 = (idxB (loB x.val) : Int) := by decide +kernel
theorem lohi_5 : ∀ x : Fin 32, loB x.val ≤ 4 ∧ hiB x.val ≤ 4 := by decide +kernel
theorem idxB_at : ∀ l : Fin 5, idxB l.val < 64 ∧ dbT.getD (idxB l.val) 0 = (l.val : Int) := by decide +kernel
theorem tz_any (x : Nat) (h0 : x ≠ 0) (h1 : x < 32) (w : World) (hT : Tab8 w) : Calls Tryd.prog 124 #[.int .u64 x] w fun e w' => e = .returned (.int .i64 (loB x : Nat)) ∧ w = w' := by
  have hl := (lohi_5 ⟨x, h1⟩).1
  dsimp only at hl
  obtain ⟨i1, i2⟩ := idxB_at ⟨loB x, by omega⟩
  dsimp only at i1 i2
  exact tz_core x (loB x) (idxB (loB x)) w (by simp; omega) (key_dec ⟨x, h1⟩ h0) i1 (by rw [hT _ i1, i2]) (by omega)
set_option maxRecDepth 100000 in
theorem len_any (x : Nat) (h0 : x ≠ 0) (h1 : x < 32) (w : World) : Calls Tryd.prog 125 #[.int .u64 x] w fun e w' => e = .returned (.int .i64 ((hiB x : Nat) + 1)) ∧ w = w' := by
  obtain rfl | rfl | rfl | rfl | rfl | rfl | rfl | rfl | rfl | rfl | rfl | rfl | rfl | rfl | rfl | rfl | rfl | rfl | rfl | rfl | rfl | rfl | rfl | rfl | rfl | rfl | rfl | rfl | rfl | rfl | rfl : x = 1 ∨ x = 2 ∨ x = 3 ∨ x = 4 ∨ x = 5 ∨ x = 6 ∨ x = 7 ∨ x = 8 ∨ x = 9 ∨ x = 10 ∨ x = 11 ∨ x = 12 ∨ x = 13 ∨ x = 14 ∨ x = 15 ∨ x = 16 ∨ x = 17 ∨ x = 18 ∨ x = 19 ∨ x = 20 ∨ x = 21 ∨ x = 22 ∨ x = 23 ∨ x = 24 ∨ x = 25 ∨ x = 26 ∨ x = 27 ∨ x = 28 ∨ x = 29 ∨ x = 30 ∨ x = 31 := by omega
  all_goals
    go_enter Tryd.func125, Tryd.ntmps125
    go_wp2
    go_ret
    exact ⟨ret_i64 (by decide +kernel), rfl⟩
theorem changed0_any (x : Nat) (h0 : x ≠ 0) (h1 : x < 32) (w : World) (hT : Tab8 w) : Calls Tryd.prog 93 #[.int .i64 0, .int .i64 x] w fun e w' => e = .returned (.int .i64 ((2 ^ loB x : Nat) : Int)) ∧ w = w' := by
  have HZ := Lib.hid (fun w (h : Tab8 w) => tz_any x h0 h1 w h)
  have HT := Lib.hid hT
  have hl := (lohi_5 ⟨x, h1⟩).1
  dsimp only at hl
  generalize loB x = l at *
  clear hT
  obtain rfl | rfl | rfl | rfl | rfl : l = 0 ∨ l = 1 ∨ l = 2 ∨ l = 3 ∨ l = 4 := by omega
  all_goals
    clear hl
    go_enter Tryd.func93, Tryd.ntmps93
    go_wp2_with fail
    refine (HZ.out _ HT.out).mono ?_; rintro e w1 ⟨rfl, rfl⟩
    go_wp2_with fail
    go_ret
    exact ⟨rfl, rfl⟩
theorem changed1_any (x : Nat) (h0 : x ≠ 0) (h1 : x < 32) (w : World) : Calls Tryd.prog 93 #[.int .i64 1, .int .i64 x] w fun e w' => e = .returned (.int .i64 ((2 ^ hiB x : Nat) : Int)) ∧ w = w' := by
  have HZ := Lib.hid (fun w => len_any x h0 h1 w)
  have hl := (lohi_5 ⟨x, h1⟩).2
  dsimp only at hl
  generalize hiB x = l at *
  obtain rfl | rfl | rfl | rfl | rfl : l = 0 ∨ l = 1 ∨ l = 2 ∨ l = 3 ∨ l = 4 := by omega
  all_goals
    clear hl
    go_enter Tryd.func93, Tryd.ntmps93
    go_wp2_with fail
    refine (HZ.out _).mono ?_; rintro e w1 ⟨rfl, rfl⟩
    go_wp2_with fail
    go_ret
    exact ⟨rfl, rfl⟩
end Go.Proofs.YtopokicejgjcoaaDoor.PW
namespace Go.Proofs.YtopokicejgjcoaaDoor.PW
open Go.RowKit Go.Proofs.YtopokicejgjcoaaDoor
open Go.Proofs.YtopokicejgjcoaaDoor.PM Go.Proofs.YtopokicejgjcoaaDoor.PX

theorem ruleCode_set {M : List (List Int)} {Q : List Int} {s r c : Int} (h : setCode M Q s = c) (hc : c ≠ 0) : ruleCode M Q s r = c := by unfold ruleCode; rw [if_pos (by omega), h]
theorem ruleCode_bad {M : List (List Int)} {Q : List Int} {s r : Int} (h : setCode M Q s = 0) (hr : r < 0 ∨ 3 < r) : ruleCode M Q s r = 2 := by unfold ruleCode; rw [if_neg (by omega), if_pos hr]
theorem ruleCode_ok {M : List (List Int)} {Q : List Int} {s r : Int} (h : setCode M Q s = 0) (hr : ¬ (r < 0 ∨ 3 < r)) : ruleCode M Q s r = 0 := by unfold ruleCode; rw [if_neg (by omega), if_neg hr]
theorem ruleCode_cases (M : List (List Int)) (Q : List Int) (s r : Int) : ruleCode M Q s r = 1 ∨ ruleCode M Q s r = 2 ∨ (ruleCode M Q s r = 0 ∧ setCode M Q s = 0 ∧ isPB M Q = true ∧ 0 ≤ s ∧ s < 2 ^ M.length ∧ 0 ≤ r ∧ r ≤ 3) := by
  rcases setCode_cases M Q s with h | h | ⟨h, hp, h0, h1⟩
  · exact .inl (ruleCode_set h (by decide))
  · exact .inr (.inl (ruleCode_set h (by decide)))
  · by_cases hr : r < 0 ∨ 3 < r
    · exact .inr (.inl (ruleCode_bad h hr))
    · exact .inr (.inr ⟨ruleCode_ok h hr, h, hp, h0, h1, by omega, by omega⟩)

theorem l08Code_any (m q : Value) (M : List (List Int)) (Q : List Int) (s r : Int) (w : World) (h1 : PM.Rows w m M) (h2 : Ints w q Q) :
    Calls Tryd.prog 77 #[.agg #[m, q], .int .i64 s, .int .i64 r] w fun e w' => e = .returned (.int .i64 (ruleCode M Q s r)) ∧ Below w.heap.size w w' := by
  have g1 := fun (w' : World) (h : Below w.heap.size w w') => h1.below h
  have g2 := fun (w' : World) (h : Below w.heap.size w w') => h2.below h
  obtain ⟨a1, c1, rfl, _⟩ := h1
  obtain ⟨a2, c2, rfl, _⟩ := h2
  cases hp : isPB M Q
  · have HP := Lib.hid hp
    rw [ruleCode_set (setCode_err1 (s := s) hp) (by decide)]
    clear hp
    go_enter Tryd.func77, Tryd.ntmps77
    go_wp2_with fail
    refine (l01Is_any _ _ M Q _ (g1 _ (by (repeat' (first | (with_reducible exact Below.refl _ _) | (with_reducible assumption) | (with_reducible refine Below.alloc ?_ ?_ _) | (with_reducible refine Below.drew ?_) | (with_reducible refine below_drewN ?_ _) | (with_reducible refine Below.setCell ?_ ?_ _) | (with_reducible refine Below.trans ?_ (Below.mono (by with_reducible assumption) ?_)) | (with_reducible exact Below.size (by with_reducible assumption)) | go_size)))) (g2 _ (by (repeat' (first | (with_reducible exact Below.refl _ _) | (with_reducible assumption) | (with_reducible refine Below.alloc ?_ ?_ _) | (with_reducible refine Below.drew ?_) | (with_reducible refine below_drewN ?_ _) | (with_reducible refine Below.setCell ?_ ?_ _) | (with_reducible refine Below.trans ?_ (Below.mono (by with_reducible assumption) ?_)) | (with_reducible exact Below.size (by with_reducible assumption)) | go_size))))).mono ?_; rw [HP.out]; rintro e w1 ⟨rfl, hb1⟩; obtain ⟨hc_hb1, hf_hb1⟩ := bcell hb1; obtain ⟨hcA_hb1, hfA_hb1⟩ := bcellG (W0 := w) hb1 (by (repeat' (first | (with_reducible exact Below.refl _ _) | (with_reducible assumption) | (with_reducible refine Below.alloc ?_ ?_ _) | (with_reducible refine Below.drew ?_) | (with_reducible refine below_drewN ?_ _) | (with_reducible refine Below.setCell ?_ ?_ _) | (with_reducible refine Below.trans ?_ (Below.mono (by with_reducible assumption) ?_)) | (with_reducible exact Below.size (by with_reducible assumption)) | go_size))); have hz_hb1 := hb1.size; (try simp at hz_hb1); (try simp only [Nat.add_one_le_iff] at hz_hb1); have hz0_hb1 : w.heap.size < w1.heap.size := (by omega)
    go_wp2_with fail
    go_ret
    exact ⟨rfl, by (repeat' (first | (with_reducible exact Below.refl _ _) | (with_reducible assumption) | (with_reducible refine Below.alloc ?_ ?_ _) | (with_reducible refine Below.drew ?_) | (with_reducible refine below_drewN ?_ _) | (with_reducible refine Below.setCell ?_ ?_ _) | (with_reducible refine Below.trans ?_ (Below.mono (by with_reducible assumption) ?_)) | (with_reducible exact Below.size (by with_reducible assumption)) | go_size))⟩
  obtain ⟨f1, f2, f3, _, _⟩ := isPB_facts hp
  have HP := Lib.hid hp
  have hwr : wrap64 (wrap64 ((2 : Int) ^ M.length) - 1) = 2 ^ M.length - 1 := by
    have := pow_le_32 f2
    have h0 := Nat.two_pow_pos M.length
    have e : (((2 : Nat) ^ M.length : Nat) : Int) = 2 ^ M.length := by norm_cast
    rw [← e]
    unfold wrap64
    omega
  by_cases hs : 0 ≤ s ∧ s < (2 : Int) ^ M.length
  case neg =>
    rw [ruleCode_set (setCode_err2 hp (show s < 0 ∨ (2 : Int) ^ M.length ≤ s by omega)) (by decide)]
    have HI := Lib.hid (show decide (0 ≤ s ∧ s ≤ (2 : Int) ^ M.length - 1) = false from decide_eq_false (by omega))
    rw [f3] at g2 ⊢
    clear hp hs f1 f3
    generalize M.length = n at *
    go_enter Tryd.func77, Tryd.ntmps77
    go_wp2_with fail
    refine (l01Is_any _ _ M Q _ (g1 _ (by (repeat' (first | (with_reducible exact Below.refl _ _) | (with_reducible assumption) | (with_reducible refine Below.alloc ?_ ?_ _) | (with_reducible refine Below.drew ?_) | (with_reducible refine below_drewN ?_ _) | (with_reducible refine Below.setCell ?_ ?_ _) | (with_reducible refine Below.trans ?_ (Below.mono (by with_reducible assumption) ?_)) | (with_reducible exact Below.size (by with_reducible assumption)) | go_size)))) (g2 _ (by (repeat' (first | (with_reducible exact Below.refl _ _) | (with_reducible assumption) | (with_reducible refine Below.alloc ?_ ?_ _) | (with_reducible refine Below.drew ?_) | (with_reducible refine below_drewN ?_ _) | (with_reducible refine Below.setCell ?_ ?_ _) | (with_reducible refine Below.trans ?_ (Below.mono (by with_reducible assumption) ?_)) | (with_reducible exact Below.size (by with_reducible assumption)) | go_size))))).mono ?_; rw [HP.out]; rintro e w1 ⟨rfl, hb1⟩; obtain ⟨hc_hb1, hf_hb1⟩ := bcell hb1; obtain ⟨hcA_hb1, hfA_hb1⟩ := bcellG (W0 := w) hb1 (by (repeat' (first | (with_reducible exact Below.refl _ _) | (with_reducible assumption) | (with_reducible refine Below.alloc ?_ ?_ _) | (with_reducible refine Below.drew ?_) | (with_reducible refine below_drewN ?_ _) | (with_reducible refine Below.setCell ?_ ?_ _) | (with_reducible refine Below.trans ?_ (Below.mono (by with_reducible assumption) ?_)) | (with_reducible exact Below.size (by with_reducible assumption)) | go_size))); have hz_hb1 := hb1.size; (try simp at hz_hb1); (try simp only [Nat.add_one_le_iff] at hz_hb1); have hz0_hb1 : w.heap.size < w1.heap.size := (by omega)
    go_wp2_with fail
    refine (l01In_is s 0 _ false _ HI.out).mono ?_; rintro e w2 ⟨rfl, rfl⟩
    go_wp2_with fail
    go_ret
    exact ⟨rfl, by (repeat' (first | (with_reducible exact Below.refl _ _) | (with_reducible assumption) | (with_reducible refine Below.alloc ?_ ?_ _) | (with_reducible refine Below.drew ?_) | (with_reducible refine below_drewN ?_ _) | (with_reducible refine Below.setCell ?_ ?_ _) | (with_reducible refine Below.trans ?_ (Below.mono (by with_reducible assumption) ?_)) | (with_reducible exact Below.size (by with_reducible assumption)) | go_size))⟩
  have hc : setCode M Q s = 0 := setCode_ok hp (by omega)
  have HI := Lib.hid (show decide (0 ≤ s ∧ s ≤ (2 : Int) ^ M.length - 1) = true from decide_eq_true (by omega))
  by_cases hr : r < 0 ∨ 3 < r
  · rw [ruleCode_bad hc hr]
    have HR := Lib.hid (show decide (0 ≤ r ∧ r ≤ 3) = false from decide_eq_false (by omega))
    rw [f3] at g2 ⊢
    clear hp hs f1 f3 hc hr
    generalize M.length = n at *
    go_enter Tryd.func77, Tryd.ntmps77
    go_wp2_with fail
    refine (l01Is_any _ _ M Q _ (g1 _ (by (repeat' (first | (with_reducible exact Below.refl _ _) | (with_reducible assumption) | (with_reducible refine Below.alloc ?_ ?_ _) | (with_reducible refine Below.drew ?_) | (with_reducible refine below_drewN ?_ _) | (with_reducible refine Below.setCell ?_ ?_ _) | (with_reducible refine Below.trans ?_ (Below.mono (by with_reducible assumption) ?_)) | (with_reducible exact Below.size (by with_reducible assumption)) | go_size)))) (g2 _ (by (repeat' (first | (with_reducible exact Below.refl _ _) | (with_reducible assumption) | (with_reducible refine Below.alloc ?_ ?_ _) | (with_reducible refine Below.drew ?_) | (with_reducible refine below_drewN ?_ _) | (with_reducible refine Below.setCell ?_ ?_ _) | (with_reducible refine Below.trans ?_ (Below.mono (by with_reducible assumption) ?_)) | (with_reducible exact Below.size (by with_reducible assumption)) | go_size))))).mono ?_; rw [HP.out]; rintro e w1 ⟨rfl, hb1⟩; obtain ⟨hc_hb1, hf_hb1⟩ := bcell hb1; obtain ⟨hcA_hb1, hfA_hb1⟩ := bcellG (W0 := w) hb1 (by (repeat' (first | (with_reducible exact Below.refl _ _) | (with_reducible assumption) | (with_reducible refine Below.alloc ?_ ?_ _) | (with_reducible refine Below.drew ?_) | (with_reducible refine below_drewN ?_ _) | (with_reducible refine Below.setCell ?_ ?_ _) | (with_reducible refine Below.trans ?_ (Below.mono (by with_reducible assumption) ?_)) | (with_reducible exact Below.size (by with_reducible assumption)) | go_size))); have hz_hb1 := hb1.size; (try simp at hz_hb1); (try simp only [Nat.add_one_le_iff] at hz_hb1); have hz0_hb1 : w.heap.size < w1.heap.size := (by omega)
    go_wp2_with fail
    refine (l01In_is s 0 _ true _ HI.out).mono ?_; rintro e w2 ⟨rfl, rfl⟩
    go_wp2_with fail
    refine (l01In_is r 0 3 false _ HR.out).mono ?_; rintro e w2 ⟨rfl, rfl⟩
    go_wp2_with fail
    go_ret
    exact ⟨rfl, by (repeat' (first | (with_reducible exact Below.refl _ _) | (with_reducible assumption) | (with_reducible refine Below.alloc ?_ ?_ _) | (with_reducible refine Below.drew ?_) | (with_reducible refine below_drewN ?_ _) | (with_reducible refine Below.setCell ?_ ?_ _) | (with_reducible refine Below.trans ?_ (Below.mono (by with_reducible assumption) ?_)) | (with_reducible exact Below.size (by with_reducible assumption)) | go_size))⟩
  · rw [ruleCode_ok hc hr]
    have HR := Lib.hid (show decide (0 ≤ r ∧ r ≤ 3) = true from decide_eq_true (by omega))
    rw [f3] at g2 ⊢
    clear hp hs f1 f3 hc hr
    generalize M.length = n at *
    go_enter Tryd.func77, Tryd.ntmps77
    go_wp2_with fail
    refine (l01Is_any _ _ M Q _ (g1 _ (by (repeat' (first | (with_reducible exact Below.refl _ _) | (with_reducible assumption) | (with_reducible refine Below.alloc ?_ ?_ _) | (with_reducible refine Below.drew ?_) | (with_reducible refine below_drewN ?_ _) | (with_reducible refine Below.setCell ?_ ?_ _) | (with_reducible refine Below.trans ?_ (Below.mono (by with_reducible assumption) ?_)) | (with_reducible exact Below.size (by with_reducible assumption)) | go_size)))) (g2 _ (by (repeat' (first | (with_reducible exact Below.refl _ _) | (with_reducible assumption) | (with_reducible refine Below.alloc ?_ ?_ _) | (with_reducible refine Below.drew ?_) | (with_reducible refine below_drewN ?_ _) | (with_reducible refine Below.setCell ?_ ?_ _) | (with_reducible refine Below.trans ?_ (Below.mono (by with_reducible assumption) ?_)) | (with_reducible exact Below.size (by with_reducible assumption)) | go_size))))).mono ?_; rw [HP.out]; rintro e w1 ⟨rfl, hb1⟩; obtain ⟨hc_hb1, hf_hb1⟩ := bcell hb1; obtain ⟨hcA_hb1, hfA_hb1⟩ := bcellG (W0 := w) hb1 (by (repeat' (first | (with_reducible exact Below.refl _ _) | (with_reducible assumption) | (with_reducible refine Below.alloc ?_ ?_ _) | (with_reducible refine Below.drew ?_) | (with_reducible refine below_drewN ?_ _) | (with_reducible refine Below.setCell ?_ ?_ _) | (with_reducible refine Below.trans ?_ (Below.mono (by with_reducible assumption) ?_)) | (with_reducible exact Below.size (by with_reducible assumption)) | go_size))); have hz_hb1 := hb1.size; (try simp at hz_hb1); (try simp only [Nat.add_one_le_iff] at hz_hb1); have hz0_hb1 : w.heap.size < w1.heap.size := (by omega)
    go_wp2_with fail
    refine (l01In_is s 0 _ true _ HI.out).mono ?_; rintro e w2 ⟨rfl, rfl⟩
    go_wp2_with fail
    refine (l01In_is r 0 3 true _ HR.out).mono ?_; rintro e w2 ⟨rfl, rfl⟩
    go_wp2_with fail
    go_ret
    exact ⟨rfl, by (repeat' (first | (with_reducible exact Below.refl _ _) | (with_reducible assumption) | (with_reducible refine Below.alloc ?_ ?_ _) | (with_reducible refine Below.drew ?_) | (with_reducible refine below_drewN ?_ _) | (with_reducible refine Below.setCell ?_ ?_ _) | (with_reducible refine Below.trans ?_ (Below.mono (by with_reducible assumption) ?_)) | (with_reducible exact Below.size (by with_reducible assumption)) | go_size))⟩

/-- The rules of the program, as a function's number. -/
def ruleF (r : Int) : FuncId := if r = 0 then 114 else if r = 1 then 115 else if r = 2 then 116 else 117
theorem stepRules_any (w : World) : Calls Tryd.prog 82 #[] w fun e w' => e = .returned (.slice (some ⟨w.heap.size, 0, none⟩) 4 4) ∧ (∀ r : Nat, r < 4 → w'.cell? ⟨w.heap.size, r, none⟩ = some (.func (.func (ruleF r)) #[] #[])) ∧ Below w.heap.size w w' := by
  go_enter Tryd.func82, Tryd.ntmps82
  go_wp2
  go_ret
  refine ⟨rfl, ?_, ?_⟩
  · intro r hr
    obtain rfl | rfl | rfl | rfl : r = 0 ∨ r = 1 ∨ r = 2 ∨ r = 3 := by omega
    all_goals simp [ruleF]
  · (repeat' (first | (with_reducible exact Below.refl _ _) | (with_reducible assumption) | (with_reducible refine Below.alloc ?_ ?_ _) | (with_reducible refine Below.drew ?_) | (with_reducible refine below_drewN ?_ _) | (with_reducible refine Below.setCell ?_ ?_ _) | (with_reducible refine Below.trans ?_ (Below.mono (by with_reducible assumption) ?_)) | (with_reducible exact Below.size (by with_reducible assumption)) | go_size))
theorem checkRule_any (m q : Value) (M : List (List Int)) (Q : List Int) (s r : Int) (w : World) (h1 : PM.Rows w m M) (h2 : Ints w q Q) :
    Calls Tryd.prog 79 #[.agg #[m, q], .int .i64 s, .int .i64 r] w fun e w' => e = .returned (.int .i64 (ruleCode M Q s r)) ∧ Below w.heap.size w w' := by
  have g1 := fun (w' : World) (h : Below w.heap.size w w') => h1.below h
  have g2 := fun (w' : World) (h : Below w.heap.size w w') => h2.below h
  obtain ⟨a1, c1, rfl, _⟩ := h1
  obtain ⟨a2, c2, rfl, _⟩ := h2
  obtain ⟨c, hc⟩ : ∃ c, c = setCode M Q s := ⟨_, rfl⟩
  have HC := Lib.hid hc
  by_cases hcz : c ≠ 0
  · rw [ruleCode_set hc.symm hcz]
    clear hc
    go_enter Tryd.func79, Tryd.ntmps79
    go_wp2_with fail
    refine (checkSet_any _ _ M Q s _ (g1 _ (by (repeat' (first | (with_reducible exact Below.refl _ _) | (with_reducible assumption) | (with_reducible refine Below.alloc ?_ ?_ _) | (with_reducible refine Below.drew ?_) | (with_reducible refine below_drewN ?_ _) | (with_reducible refine Below.setCell ?_ ?_ _) | (with_reducible refine Below.trans ?_ (Below.mono (by with_reducible assumption) ?_)) | (with_reducible exact Below.size (by with_reducible assumption)) | go_size)))) (g2 _ (by (repeat' (first | (with_reducible exact Below.refl _ _) | (with_reducible assumption) | (with_reducible refine Below.alloc ?_ ?_ _) | (with_reducible refine Below.drew ?_) | (with_reducible refine below_drewN ?_ _) | (with_reducible refine Below.setCell ?_ ?_ _) | (with_reducible refine Below.trans ?_ (Below.mono (by with_reducible assumption) ?_)) | (with_reducible exact Below.size (by with_reducible assumption)) | go_size))))).mono ?_; rw [← HC.out]; rintro e w1 ⟨rfl, hb1⟩; obtain ⟨hc_hb1, hf_hb1⟩ := bcell hb1; obtain ⟨hcA_hb1, hfA_hb1⟩ := bcellG (W0 := w) hb1 (by (repeat' (first | (with_reducible exact Below.refl _ _) | (with_reducible assumption) | (with_reducible refine Below.alloc ?_ ?_ _) | (with_reducible refine Below.drew ?_) | (with_reducible refine below_drewN ?_ _) | (with_reducible refine Below.setCell ?_ ?_ _) | (with_reducible refine Below.trans ?_ (Below.mono (by with_reducible assumption) ?_)) | (with_reducible exact Below.size (by with_reducible assumption)) | go_size))); have hz_hb1 := hb1.size; (try simp at hz_hb1); (try simp only [Nat.add_one_le_iff] at hz_hb1); have hz0_hb1 : w.heap.size < w1.heap.size := (by omega)
    go_wp2_with fail
    go_ret
    exact ⟨rfl, by (repeat' (first | (with_reducible exact Below.refl _ _) | (with_reducible assumption) | (with_reducible refine Below.alloc ?_ ?_ _) | (with_reducible refine Below.drew ?_) | (with_reducible refine below_drewN ?_ _) | (with_reducible refine Below.setCell ?_ ?_ _) | (with_reducible refine Below.trans ?_ (Below.mono (by with_reducible assumption) ?_)) | (with_reducible exact Below.size (by with_reducible assumption)) | go_size))⟩
  have hc0 : setCode M Q s = 0 := by omega
  have HC0 := Lib.hid hc0
  clear HC hc hcz
  by_cases hr : r < 0
  · rw [ruleCode_bad hc0 (.inl hr)]
    clear hc0
    go_enter Tryd.func79, Tryd.ntmps79
    go_wp2_with fail
    refine (checkSet_any _ _ M Q s _ (g1 _ (by (repeat' (first | (with_reducible exact Below.refl _ _) | (with_reducible assumption) | (with_reducible refine Below.alloc ?_ ?_ _) | (with_reducible refine Below.drew ?_) | (with_reducible refine below_drewN ?_ _) | (with_reducible refine Below.setCell ?_ ?_ _) | (with_reducible refine Below.trans ?_ (Below.mono (by with_reducible assumption) ?_)) | (with_reducible exact Below.size (by with_reducible assumption)) | go_size)))) (g2 _ (by (repeat' (first | (with_reducible exact Below.refl _ _) | (with_reducible assumption) | (with_reducible refine Below.alloc ?_ ?_ _) | (with_reducible refine Below.drew ?_) | (with_reducible refine below_drewN ?_ _) | (with_reducible refine Below.setCell ?_ ?_ _) | (with_reducible refine Below.trans ?_ (Below.mono (by with_reducible assumption) ?_)) | (with_reducible exact Below.size (by with_reducible assumption)) | go_size))))).mono ?_; rw [HC0.out]; rintro e w1 ⟨rfl, hb1⟩; obtain ⟨hc_hb1, hf_hb1⟩ := bcell hb1; obtain ⟨hcA_hb1, hfA_hb1⟩ := bcellG (W0 := w) hb1 (by (repeat' (first | (with_reducible exact Below.refl _ _) | (with_reducible assumption) | (with_reducible refine Below.alloc ?_ ?_ _) | (with_reducible refine Below.drew ?_) | (with_reducible refine below_drewN ?_ _) | (with_reducible refine Below.setCell ?_ ?_ _) | (with_reducible refine Below.trans ?_ (Below.mono (by with_reducible assumption) ?_)) | (with_reducible exact Below.size (by with_reducible assumption)) | go_size))); have hz_hb1 := hb1.size; (try simp at hz_hb1); (try simp only [Nat.add_one_le_iff] at hz_hb1); have hz0_hb1 : w.heap.size < w1.heap.size := (by omega)
    go_wp2_with fail
    go_ret
    exact ⟨rfl, by (repeat' (first | (with_reducible exact Below.refl _ _) | (with_reducible assumption) | (with_reducible refine Below.alloc ?_ ?_ _) | (with_reducible refine Below.drew ?_) | (with_reducible refine below_drewN ?_ _) | (with_reducible refine Below.setCell ?_ ?_ _) | (with_reducible refine Below.trans ?_ (Below.mono (by with_reducible assumption) ?_)) | (with_reducible exact Below.size (by with_reducible assumption)) | go_size))⟩
  by_cases hr3 : 3 < r
  · rw [ruleCode_bad hc0 (.inr hr3)]
    have hr4 : (4 : Int) ≤ r := by omega
    clear hc0 hr3
    go_enter Tryd.func79, Tryd.ntmps79
    go_wp2_with fail
    refine (checkSet_any _ _ M Q s _ (g1 _ (by (repeat' (first | (with_reducible exact Below.refl _ _) | (with_reducible assumption) | (with_reducible refine Below.alloc ?_ ?_ _) | (with_reducible refine Below.drew ?_) | (with_reducible refine below_drewN ?_ _) | (with_reducible refine Below.setCell ?_ ?_ _) | (with_reducible refine Below.trans ?_ (Below.mono (by with_reducible assumption) ?_)) | (with_reducible exact Below.size (by with_reducible assumption)) | go_size)))) (g2 _ (by (repeat' (first | (with_reducible exact Below.refl _ _) | (with_reducible assumption) | (with_reducible refine Below.alloc ?_ ?_ _) | (with_reducible refine Below.drew ?_) | (with_reducible refine below_drewN ?_ _) | (with_reducible refine Below.setCell ?_ ?_ _) | (with_reducible refine Below.trans ?_ (Below.mono (by with_reducible assumption) ?_)) | (with_reducible exact Below.size (by with_reducible assumption)) | go_size))))).mono ?_; rw [HC0.out]; rintro e w1 ⟨rfl, hb1⟩; obtain ⟨hc_hb1, hf_hb1⟩ := bcell hb1; obtain ⟨hcA_hb1, hfA_hb1⟩ := bcellG (W0 := w) hb1 (by (repeat' (first | (with_reducible exact Below.refl _ _) | (with_reducible assumption) | (with_reducible refine Below.alloc ?_ ?_ _) | (with_reducible refine Below.drew ?_) | (with_reducible refine below_drewN ?_ _) | (with_reducible refine Below.setCell ?_ ?_ _) | (with_reducible refine Below.trans ?_ (Below.mono (by with_reducible assumption) ?_)) | (with_reducible exact Below.size (by with_reducible assumption)) | go_size))); have hz_hb1 := hb1.size; (try simp at hz_hb1); (try simp only [Nat.add_one_le_iff] at hz_hb1); have hz0_hb1 : w.heap.size < w1.heap.size := (by omega)
    go_wp2_with fail
    refine (stepRules_any _).mono ?_; rintro e w2 ⟨rfl, _, hb2⟩
    go_wp2_with fail
    go_ret
    exact ⟨rfl, by (repeat' (first | (with_reducible exact Below.refl _ _) | (with_reducible assumption) | (with_reducible refine Below.alloc ?_ ?_ _) | (with_reducible refine Below.drew ?_) | (with_reducible refine below_drewN ?_ _) | (with_reducible refine Below.setCell ?_ ?_ _) | (with_reducible refine Below.trans ?_ (Below.mono (by with_reducible assumption) ?_)) | (with_reducible exact Below.size (by with_reducible assumption)) | go_size))⟩
  · rw [ruleCode_ok hc0 (by omega)]
    have hr4 : ¬ (4 : Int) ≤ r := by omega
    clear hc0 hr3
    go_enter Tryd.func79, Tryd.ntmps79
    go_wp2_with fail
    refine (checkSet_any _ _ M Q s _ (g1 _ (by (repeat' (first | (with_reducible exact Below.refl _ _) | (with_reducible assumption) | (with_reducible refine Below.alloc ?_ ?_ _) | (with_reducible refine Below.drew ?_) | (with_reducible refine below_drewN ?_ _) | (with_reducible refine Below.setCell ?_ ?_ _) | (with_reducible refine Below.trans ?_ (Below.mono (by with_reducible assumption) ?_)) | (with_reducible exact Below.size (by with_reducible assumption)) | go_size)))) (g2 _ (by (repeat' (first | (with_reducible exact Below.refl _ _) | (with_reducible assumption) | (with_reducible refine Below.alloc ?_ ?_ _) | (with_reducible refine Below.drew ?_) | (with_reducible refine below_drewN ?_ _) | (with_reducible refine Below.setCell ?_ ?_ _) | (with_reducible refine Below.trans ?_ (Below.mono (by with_reducible assumption) ?_)) | (with_reducible exact Below.size (by with_reducible assumption)) | go_size))))).mono ?_; rw [HC0.out]; rintro e w1 ⟨rfl, hb1⟩; obtain ⟨hc_hb1, hf_hb1⟩ := bcell hb1; obtain ⟨hcA_hb1, hfA_hb1⟩ := bcellG (W0 := w) hb1 (by (repeat' (first | (with_reducible exact Below.refl _ _) | (with_reducible assumption) | (with_reducible refine Below.alloc ?_ ?_ _) | (with_reducible refine Below.drew ?_) | (with_reducible refine below_drewN ?_ _) | (with_reducible refine Below.setCell ?_ ?_ _) | (with_reducible refine Below.trans ?_ (Below.mono (by with_reducible assumption) ?_)) | (with_reducible exact Below.size (by with_reducible assumption)) | go_size))); have hz_hb1 := hb1.size; (try simp at hz_hb1); (try simp only [Nat.add_one_le_iff] at hz_hb1); have hz0_hb1 : w.heap.size < w1.heap.size := (by omega)
    go_wp2_with fail
    refine (stepRules_any _).mono ?_; rintro e w2 ⟨rfl, _, hb2⟩
    go_wp2_with fail
    go_ret
    exact ⟨rfl, by (repeat' (first | (with_reducible exact Below.refl _ _) | (with_reducible assumption) | (with_reducible refine Below.alloc ?_ ?_ _) | (with_reducible refine Below.drew ?_) | (with_reducible refine below_drewN ?_ _) | (with_reducible refine Below.setCell ?_ ?_ _) | (with_reducible refine Below.trans ?_ (Below.mono (by with_reducible assumption) ?_)) | (with_reducible exact Below.size (by with_reducible assumption)) | go_size))⟩

/-- A rule at a point: the set that it exchanges. -/
theorem rule_any (r : Int) (g cap n : Nat) (xs : List (Int × Int)) (w : World) (hT : Tab8 w) (hv : OwnF w (.slice (some ⟨g, 0, none⟩) n cap) xs) (hn : n = xs.length) (hg : g < w.heap.size) (h1 : 1 ≤ n) (hm : n ≤ 5) (hF : ∀ j, j < n → FM.isF (xs.getD j (0, 0)).1 (xs.getD j (0, 0)).2 = true) (h0 : negM xs n ≠ 0) :
    Calls Tryd.prog (ruleF r) #[.slice (some ⟨g, 0, none⟩) n cap] w fun e w' => e = .returned (.int .i64 (exM r xs n : Nat)) ∧ Below w.heap.size w w' := by
  have HA := Lib.hid (allBelow_any g cap n xs w hv hn hg hm)
  have hlt := negM_lt xs n
  have hp := pow_le_32 hm
  have hx : negM xs n < 32 := by omega
  by_cases r0 : r = 0
  · rw [show ruleF r = 114 by unfold ruleF; rw [if_pos r0], show exM r xs n = 2 ^ loB (negM xs n) by unfold exM; rw [if_pos r0]]
    have HC := Lib.hid (fun w (h : Tab8 w) => changed0_any (negM xs n) h0 hx w h)
    have HT := Lib.hid hT
    clear hT hv hn hF h0 hlt hp hx
    generalize negM xs n = x at *
    go_enter Tryd.func114, Tryd.ntmps114
    go_wp2_with fail
    refine HA.out.mono ?_; rintro e w1 ⟨rfl, hb1⟩
    go_wp2_with fail
    refine (HC.out _ (HT.out.below hb1)).mono ?_; rintro e w2 ⟨rfl, rfl⟩
    go_wp2_with fail
    go_ret
    exact ⟨rfl, hb1⟩
  by_cases r1 : r = 1
  · rw [show ruleF r = 115 by unfold ruleF; rw [if_neg r0, if_pos r1], show exM r xs n = 2 ^ hiB (negM xs n) by unfold exM; rw [if_neg r0, if_pos r1]]
    have HC := Lib.hid (fun w => changed1_any (negM xs n) h0 hx w)
    clear hT hv hn hF h0 hlt hp hx
    generalize negM xs n = x at *
    go_enter Tryd.func115, Tryd.ntmps115
    go_wp2_with fail
    refine HA.out.mono ?_; rintro e w1 ⟨rfl, hb1⟩
    go_wp2_with fail
    refine (HC.out _).mono ?_; rintro e w2 ⟨rfl, rfl⟩
    go_wp2_with fail
    go_ret
    exact ⟨rfl, hb1⟩
  by_cases r2 : r = 2
  · rw [show ruleF r = 116 by unfold ruleF; rw [if_neg r0, if_neg r1, if_pos r2], show exM r xs n = 2 ^ lsI xs n by unfold exM; rw [if_neg r0, if_neg r1, if_pos r2]]
    have hl := lsI_lt xs n h1
    have hpos : ∀ j, j < n → 0 < (xs.getD j (0, 0)).2 := fun j hj => by have := FM.isF_yes (hF j hj); omega
    have hmin := (lsI_min n hpos).2
    have HM := Lib.hid (minFunc_any g cap n xs w hv hn hg h1 hm hF)
    have HX := Lib.hid (fun w' (hb : Below w.heap.size w w') => indexP_any g cap n (lsI xs n) xs (xs.getD (lsI xs n) (0, 0)).1 (xs.getD (lsI xs n) (0, 0)).2 w' (hv.below hb hg) hn (Nat.lt_of_lt_of_le hg hb.size) hm hl rfl (fun j hj e => by
      have := hmin j hj
      rw [e] at this
      unfold lessF at this
      simp at this))
    clear hT hv hn hF h0 hlt hp hx hpos hmin HA
    generalize (xs.getD (lsI xs n) (0, 0)).1 = a at *
    generalize (xs.getD (lsI xs n) (0, 0)).2 = b at *
    generalize lsI xs n = l at *
    obtain rfl | rfl | rfl | rfl | rfl : l = 0 ∨ l = 1 ∨ l = 2 ∨ l = 3 ∨ l = 4 := by omega
    all_goals
      go_enter Tryd.func116, Tryd.ntmps116
      go_wp2_with fail
      refine HM.out.mono ?_; rintro e w1 ⟨rfl, hb1⟩
      go_wp2_with fail
      refine (HX.out _ hb1).mono ?_; rintro e w2 ⟨rfl, hb2⟩
      go_wp2_with fail
      go_ret
      exact ⟨rfl, hb1.trans (hb2.mono hb1.size)⟩
  rw [show ruleF r = 117 by unfold ruleF; rw [if_neg r0, if_neg r1, if_neg r2], show exM r xs n = negM xs n by unfold exM; rw [if_neg r0, if_neg r1, if_neg r2]]
  exact HA.out
end Go.Proofs.YtopokicejgjcoaaDoor.PW
namespace Go.Proofs.YtopokicejgjcoaaDoor.PW
open Go.RowKit Go.Proofs.YtopokicejgjcoaaDoor
open Go.Proofs.YtopokicejgjcoaaDoor.PM Go.Proofs.YtopokicejgjcoaaDoor.PX

def stepOut (M : List (List Int)) (Q : List Int) (s r : Int) : Int × Int :=
  if ruleCode M Q s r ≠ 0 then (0, ruleCode M Q s r) else if dt M.length (colS M s) = 0 then (0, 5) else if nonneg (ptL M Q s) = true then (0, 4) else (stpS M Q r s, 0)
theorem stepOut_err {M : List (List Int)} {Q : List Int} {s r c : Int} (h : ruleCode M Q s r = c) (hc : c ≠ 0) : stepOut M Q s r = (0, c) := by unfold stepOut; rw [if_pos (by omega), h]
theorem stepOut_zero {M : List (List Int)} {Q : List Int} {s r : Int} (h : ruleCode M Q s r = 0) (hd : dt M.length (colS M s) = 0) : stepOut M Q s r = (0, 5) := by unfold stepOut; rw [if_neg (by omega), if_pos hd]
theorem stepOut_end {M : List (List Int)} {Q : List Int} {s r : Int} (h : ruleCode M Q s r = 0) (hd : dt M.length (colS M s) ≠ 0) (hn : nonneg (ptL M Q s) = true) : stepOut M Q s r = (0, 4) := by unfold stepOut; rw [if_neg (by omega), if_neg hd, if_pos hn]
theorem stepOut_ok {M : List (List Int)} {Q : List Int} {s r : Int} (h : ruleCode M Q s r = 0) (hd : dt M.length (colS M s) ≠ 0) (hn : nonneg (ptL M Q s) = false) : stepOut M Q s r = (stpS M Q r s, 0) := by unfold stepOut; rw [if_neg (by omega), if_neg hd, if_neg (by rw [hn]; exact Bool.noConfusion)]

theorem ptL_isF {M : List (List Int)} {Q : List Int} {s : Int} (hp : isPB M Q = true) (hD : dt M.length (colS M s) ≠ 0) (j : Nat) (hj : j < M.length) : FM.isF ((ptL M Q s).getD j (0, 0)).1 ((ptL M Q s).getD j (0, 0)).2 = true := by
  have e : (ptL M Q s).getD j (0, 0) = ptF M Q s j := by unfold ptL; simp [hj]
  rw [e]
  exact pt_isF hp hD j
/-- The program's point of a basic set, and of another one. -/
theorem implPoint_at (m q : Value) (M : List (List Int)) (Q : List Int) (s : Int) (w : World) (h1 : PM.Rows w m M) (h2 : Ints w q Q) (h : setCode M Q s = 0) (hp : isPB M Q = true) (hD : dt M.length (colS M s) ≠ 0) :
    Calls Tryd.prog 80 #[.agg #[m, q], .int .i64 s] w fun e w' => ∃ g c, e = .returned (.tuple #[.slice (some ⟨g, 0, none⟩) M.length c, .int .i64 0]) ∧ g < w'.heap.size ∧ OwnF w' (.slice (some ⟨g, 0, none⟩) M.length c) (ptL M Q s) ∧ Below w.heap.size w w' := by
  have f1 := (isPB_facts hp).1
  have hl := ptL_length M Q s
  refine (implPointOf_any m q M Q s w h1 h2).mono ?_
  rw [ptOut_ok h hD]
  rintro e w1 ho
  obtain ⟨a3, c3, rfl, hr, hb1⟩ := ho.out
  dsimp only at hr ⊢
  have hown := hr.own
  rw [hl] at hown ⊢
  obtain ⟨g, hg, hgl⟩ : ∃ g, a3 = some ⟨g, 0, none⟩ ∧ g < w1.heap.size := by
    rcases hown.cases with ⟨hv, hn⟩ | ⟨g, cap, hv, hlt⟩
    · rw [hn] at hl; simp at hl; omega
    · simp at hv; exact ⟨g, hv.1, hlt⟩
  subst hg
  exact ⟨g, c3, rfl, hgl, hown, hb1⟩
theorem implPoint_zero (m q : Value) (M : List (List Int)) (Q : List Int) (s : Int) (w : World) (h1 : PM.Rows w m M) (h2 : Ints w q Q) (h : setCode M Q s = 0) (hD : dt M.length (colS M s) = 0) :
    Calls Tryd.prog 80 #[.agg #[m, q], .int .i64 s] w fun e w' => ∃ a c, e = .returned (.tuple #[.slice a 0 c, .int .i64 5]) ∧ Below w.heap.size w w' := by
  refine (implPointOf_any m q M Q s w h1 h2).mono ?_
  rw [ptOut_zero h hD]
  rintro e w1 ho
  obtain ⟨a3, c3, rfl, hr, hb1⟩ := ho.out
  exact ⟨a3, c3, rfl, hb1⟩

set_option maxHeartbeats 1000000 in
theorem implStepByRule_any (m q : Value) (M : List (List Int)) (Q : List Int) (s r : Int) (w : World) (hT : Tab8 w) (h1 : PM.Rows w m M) (h2 : Ints w q Q) :
    Calls Tryd.prog 29 #[.agg #[m, q], .int .i64 s, .int .i64 r] w (OutN w (stepOut M Q s r)) := by
  have g1 := fun (w' : World) (h : Below w.heap.size w w') => h1.below h
  have g2 := fun (w' : World) (h : Below w.heap.size w w') => h2.below h
  have gt := fun (w' : World) (h : Below w.heap.size w w') => hT.below h
  clear hT
  obtain ⟨a1, c1, rfl, _⟩ := h1
  obtain ⟨a2, c2, rfl, _⟩ := h2
  rcases ruleCode_cases M Q s r with h | h | ⟨h, hs, hp, hs0, hs1, hr0, hr1⟩
  case' inr.inr =>
    have HC := Lib.hid h
    have f1 := (isPB_facts hp).1
    have f2 := (isPB_facts hp).2.1
    by_cases hD : dt M.length (colS M s) = 0
    · rw [stepOut_zero h hD]
      have HPZ := Lib.hid (fun (w' : World) (hb : Below w.heap.size w w') => implPoint_zero _ _ M Q s w' (g1 _ hb) (g2 _ hb) hs hD)
      clear h hp hs0 hs1 hs hD
      go_enter Tryd.func29, Tryd.ntmps29
      go_wp2_with fail
      refine (checkRule_any _ _ M Q s r _ (g1 _ (by (repeat' (first | (with_reducible exact Below.refl _ _) | (with_reducible assumption) | (with_reducible refine Below.alloc ?_ ?_ _) | (with_reducible refine Below.drew ?_) | (with_reducible refine below_drewN ?_ _) | (with_reducible refine Below.setCell ?_ ?_ _) | (with_reducible refine Below.trans ?_ (Below.mono (by with_reducible assumption) ?_)) | (with_reducible exact Below.size (by with_reducible assumption)) | go_size)))) (g2 _ (by (repeat' (first | (with_reducible exact Below.refl _ _) | (with_reducible assumption) | (with_reducible refine Below.alloc ?_ ?_ _) | (with_reducible refine Below.drew ?_) | (with_reducible refine below_drewN ?_ _) | (with_reducible refine Below.setCell ?_ ?_ _) | (with_reducible refine Below.trans ?_ (Below.mono (by with_reducible assumption) ?_)) | (with_reducible exact Below.size (by with_reducible assumption)) | go_size))))).mono ?_; rw [HC.out]; rintro e w1 ⟨rfl, hb1⟩; obtain ⟨hc_hb1, hf_hb1⟩ := bcell hb1; obtain ⟨hcA_hb1, hfA_hb1⟩ := bcellG (W0 := w) hb1 (by (repeat' (first | (with_reducible exact Below.refl _ _) | (with_reducible assumption) | (with_reducible refine Below.alloc ?_ ?_ _) | (with_reducible refine Below.drew ?_) | (with_reducible refine below_drewN ?_ _) | (with_reducible refine Below.setCell ?_ ?_ _) | (with_reducible refine Below.trans ?_ (Below.mono (by with_reducible assumption) ?_)) | (with_reducible exact Below.size (by with_reducible assumption)) | go_size))); have hz_hb1 := hb1.size; (try simp at hz_hb1); (try simp only [Nat.add_one_le_iff] at hz_hb1); have hz0_hb1 : w.heap.size < w1.heap.size := (by omega)
      have hw1 : Below w.heap.size w w1 := by (repeat' (first | (with_reducible exact Below.refl _ _) | (with_reducible assumption) | (with_reducible refine Below.alloc ?_ ?_ _) | (with_reducible refine Below.drew ?_) | (with_reducible refine below_drewN ?_ _) | (with_reducible refine Below.setCell ?_ ?_ _) | (with_reducible refine Below.trans ?_ (Below.mono (by with_reducible assumption) ?_)) | (with_reducible exact Below.size (by with_reducible assumption)) | go_size))
      go_wp2_with fail
      refine (HPZ.out _ hw1).mono ?_; rintro e w2 ⟨a3, c3, rfl, hb2⟩
      go_wp2_with fail
      go_ret2
      exact ⟨rfl, hw1.trans (hb2.mono hw1.size)⟩
    have HPK := Lib.hid (fun (w' : World) (hb : Below w.heap.size w w') => implPoint_at _ _ M Q s w' (g1 _ hb) (g2 _ hb) hs hp hD)
    have HLL := Lib.hid (ptL_length M Q s)
    have HLE : Hid ((ptL M Q s).length ≤ 1048576) := Lib.hid (by rw [HLL.out]; omega)
    cases hn : nonneg (ptL M Q s)
    case' true =>
      rw [stepOut_end h hD hn]
      have HN := Lib.hid hn
      clear h hp hs0 hs1 hs hD hn
      go_enter Tryd.func29, Tryd.ntmps29
      go_wp2_with fail
      refine (checkRule_any _ _ M Q s r _ (g1 _ (by (repeat' (first | (with_reducible exact Below.refl _ _) | (with_reducible assumption) | (with_reducible refine Below.alloc ?_ ?_ _) | (with_reducible refine Below.drew ?_) | (with_reducible refine below_drewN ?_ _) | (with_reducible refine Below.setCell ?_ ?_ _) | (with_reducible refine Below.trans ?_ (Below.mono (by with_reducible assumption) ?_)) | (with_reducible exact Below.size (by with_reducible assumption)) | go_size)))) (g2 _ (by (repeat' (first | (with_reducible exact Below.refl _ _) | (with_reducible assumption) | (with_reducible refine Below.alloc ?_ ?_ _) | (with_reducible refine Below.drew ?_) | (with_reducible refine below_drewN ?_ _) | (with_reducible refine Below.setCell ?_ ?_ _) | (with_reducible refine Below.trans ?_ (Below.mono (by with_reducible assumption) ?_)) | (with_reducible exact Below.size (by with_reducible assumption)) | go_size))))).mono ?_; rw [HC.out]; rintro e w1 ⟨rfl, hb1⟩; obtain ⟨hc_hb1, hf_hb1⟩ := bcell hb1; obtain ⟨hcA_hb1, hfA_hb1⟩ := bcellG (W0 := w) hb1 (by (repeat' (first | (with_reducible exact Below.refl _ _) | (with_reducible assumption) | (with_reducible refine Below.alloc ?_ ?_ _) | (with_reducible refine Below.drew ?_) | (with_reducible refine below_drewN ?_ _) | (with_reducible refine Below.setCell ?_ ?_ _) | (with_reducible refine Below.trans ?_ (Below.mono (by with_reducible assumption) ?_)) | (with_reducible exact Below.size (by with_reducible assumption)) | go_size))); have hz_hb1 := hb1.size; (try simp at hz_hb1); (try simp only [Nat.add_one_le_iff] at hz_hb1); have hz0_hb1 : w.heap.size < w1.heap.size := (by omega)
      have hw1 : Below w.heap.size w w1 := by (repeat' (first | (with_reducible exact Below.refl _ _) | (with_reducible assumption) | (with_reducible refine Below.alloc ?_ ?_ _) | (with_reducible refine Below.drew ?_) | (with_reducible refine below_drewN ?_ _) | (with_reducible refine Below.setCell ?_ ?_ _) | (with_reducible refine Below.trans ?_ (Below.mono (by with_reducible assumption) ?_)) | (with_reducible exact Below.size (by with_reducible assumption)) | go_size))
      go_wp2_with fail
      refine (HPK.out _ hw1).mono ?_; rintro e w2 ⟨g, c, rfl, hgl, ho, hb2⟩
      have HO := Lib.hid ho
      clear ho
      go_wp2_with fail
      refine (areNonnegative_any _ _ _ HO.out HLE.out).mono ?_; rw [HN.out]; rintro e w3 ⟨rfl, hb3⟩
      go_wp2_with fail
      go_ret2
      exact ⟨rfl, hw1.trans ((hb2.trans (hb3.mono hb2.size)).mono hw1.size)⟩
    case' false =>
      rw [stepOut_ok h hD hn]
      have HN := Lib.hid hn
      have hneg : negM (ptL M Q s) M.length ≠ 0 := fun e => by rw [negM_nonneg.1 e] at hn; cases hn
      have HR := Lib.hid (fun (g c : Nat) (w' : World) (hT : Tab8 w') (hv : OwnF w' (.slice (some ⟨g, 0, none⟩) M.length c) (ptL M Q s)) (hg : g < w'.heap.size) => rule_any r g c M.length (ptL M Q s) w' hT hv HLL.out.symm hg f1 f2 (fun j hj => ptL_isF hp hD j hj) hneg)
      obtain ⟨X, hX⟩ : ∃ X : Nat, X = exM r (ptL M Q s) M.length := ⟨_, rfl⟩
      have HST := Lib.hid (show stpS M Q r s = bits BinOp.xor IntKind.i64 s X by unfold stpS; rw [hX])
      rw [HST.out]
      rw [← hX] at HR
      clear h hp hs0 hs1 hs hD hn hneg hX HST
      obtain rfl | rfl | rfl | rfl : r = 0 ∨ r = 1 ∨ r = 2 ∨ r = 3 := by omega
      all_goals
        go_enter Tryd.func29, Tryd.ntmps29
        go_wp2_with fail
        refine (checkRule_any _ _ M Q s _ _ (g1 _ (by (repeat' (first | (with_reducible exact Below.refl _ _) | (with_reducible assumption) | (with_reducible refine Below.alloc ?_ ?_ _) | (with_reducible refine Below.drew ?_) | (with_reducible refine below_drewN ?_ _) | (with_reducible refine Below.setCell ?_ ?_ _) | (with_reducible refine Below.trans ?_ (Below.mono (by with_reducible assumption) ?_)) | (with_reducible exact Below.size (by with_reducible assumption)) | go_size)))) (g2 _ (by (repeat' (first | (with_reducible exact Below.refl _ _) | (with_reducible assumption) | (with_reducible refine Below.alloc ?_ ?_ _) | (with_reducible refine Below.drew ?_) | (with_reducible refine below_drewN ?_ _) | (with_reducible refine Below.setCell ?_ ?_ _) | (with_reducible refine Below.trans ?_ (Below.mono (by with_reducible assumption) ?_)) | (with_reducible exact Below.size (by with_reducible assumption)) | go_size))))).mono ?_; rw [HC.out]; rintro e w1 ⟨rfl, hb1⟩; obtain ⟨hc_hb1, hf_hb1⟩ := bcell hb1; obtain ⟨hcA_hb1, hfA_hb1⟩ := bcellG (W0 := w) hb1 (by (repeat' (first | (with_reducible exact Below.refl _ _) | (with_reducible assumption) | (with_reducible refine Below.alloc ?_ ?_ _) | (with_reducible refine Below.drew ?_) | (with_reducible refine below_drewN ?_ _) | (with_reducible refine Below.setCell ?_ ?_ _) | (with_reducible refine Below.trans ?_ (Below.mono (by with_reducible assumption) ?_)) | (with_reducible exact Below.size (by with_reducible assumption)) | go_size))); have hz_hb1 := hb1.size; (try simp at hz_hb1); (try simp only [Nat.add_one_le_iff] at hz_hb1); have hz0_hb1 : w.heap.size < w1.heap.size := (by omega)
        have hw1 : Below w.heap.size w w1 := by (repeat' (first | (with_reducible exact Below.refl _ _) | (with_reducible assumption) | (with_reducible refine Below.alloc ?_ ?_ _) | (with_reducible refine Below.drew ?_) | (with_reducible refine below_drewN ?_ _) | (with_reducible refine Below.setCell ?_ ?_ _) | (with_reducible refine Below.trans ?_ (Below.mono (by with_reducible assumption) ?_)) | (with_reducible exact Below.size (by with_reducible assumption)) | go_size))
        go_wp2_with fail
        refine (HPK.out _ hw1).mono ?_; rintro e w2 ⟨g, c, rfl, hgl, ho, hb2⟩
        have HO := Lib.hid ho
        clear ho
        go_wp2_with fail
        refine (areNonnegative_any _ _ _ HO.out HLE.out).mono ?_; rw [HN.out]; rintro e w3 ⟨rfl, hb3⟩
        go_wp2_with fail
        refine (stepRules_any _).mono ?_; rintro e w4 ⟨rfl, hf4, hb4⟩
        have hw4 : Below w.heap.size w w4 := hw1.trans ((hb2.trans ((hb3.trans (hb4.mono hb3.size)).mono hb2.size)).mono hw1.size)
        have hb24 : Below w2.heap.size w2 w4 := hb3.trans (hb4.mono hb3.size)
        have k0 := hf4 0 (by decide)
        have k1 := hf4 1 (by decide)
        have k2 := hf4 2 (by decide)
        have k3 := hf4 3 (by decide)
        have HR4 := Lib.hid (HR.out g c w4 (gt _ hw4) (HO.out.below hb24 hgl) (Nat.lt_of_lt_of_le hgl hb24.size))
        simp only [ruleF] at k0 k1 k2 k3
        simp at k0 k1 k2 k3
        clear hf4 hb3 hb4 HO
        go_wp2_with fail
        refine HR4.out.mono ?_; rintro e w5 ⟨rfl, hb5⟩
        go_wp2_with fail
        go_ret2
        exact ⟨rfl, hw4.trans (hb5.mono hw4.size)⟩
  all_goals
    rw [stepOut_err h (by decide)]
    have HC := Lib.hid h
    clear h
    go_enter Tryd.func29, Tryd.ntmps29
    go_wp2_with fail
    refine (checkRule_any _ _ M Q s r _ (g1 _ (by (repeat' (first | (with_reducible exact Below.refl _ _) | (with_reducible assumption) | (with_reducible refine Below.alloc ?_ ?_ _) | (with_reducible refine Below.drew ?_) | (with_reducible refine below_drewN ?_ _) | (with_reducible refine Below.setCell ?_ ?_ _) | (with_reducible refine Below.trans ?_ (Below.mono (by with_reducible assumption) ?_)) | (with_reducible exact Below.size (by with_reducible assumption)) | go_size)))) (g2 _ (by (repeat' (first | (with_reducible exact Below.refl _ _) | (with_reducible assumption) | (with_reducible refine Below.alloc ?_ ?_ _) | (with_reducible refine Below.drew ?_) | (with_reducible refine below_drewN ?_ _) | (with_reducible refine Below.setCell ?_ ?_ _) | (with_reducible refine Below.trans ?_ (Below.mono (by with_reducible assumption) ?_)) | (with_reducible exact Below.size (by with_reducible assumption)) | go_size))))).mono ?_; rw [HC.out]; rintro e w1 ⟨rfl, hb1⟩; obtain ⟨hc_hb1, hf_hb1⟩ := bcell hb1; obtain ⟨hcA_hb1, hfA_hb1⟩ := bcellG (W0 := w) hb1 (by (repeat' (first | (with_reducible exact Below.refl _ _) | (with_reducible assumption) | (with_reducible refine Below.alloc ?_ ?_ _) | (with_reducible refine Below.drew ?_) | (with_reducible refine below_drewN ?_ _) | (with_reducible refine Below.setCell ?_ ?_ _) | (with_reducible refine Below.trans ?_ (Below.mono (by with_reducible assumption) ?_)) | (with_reducible exact Below.size (by with_reducible assumption)) | go_size))); have hz_hb1 := hb1.size; (try simp at hz_hb1); (try simp only [Nat.add_one_le_iff] at hz_hb1); have hz0_hb1 : w.heap.size < w1.heap.size := (by omega)
    go_wp2_with fail
    go_ret2
    exact ⟨rfl, by (repeat' (first | (with_reducible exact Below.refl _ _) | (with_reducible assumption) | (with_reducible refine Below.alloc ?_ ?_ _) | (with_reducible refine Below.drew ?_) | (with_reducible refine below_drewN ?_ _) | (with_reducible refine Below.setCell ?_ ?_ _) | (with_reducible refine Below.trans ?_ (Below.mono (by with_reducible assumption) ?_)) | (with_reducible exact Below.size (by with_reducible assumption)) | go_size))⟩
end Go.Proofs.YtopokicejgjcoaaDoor.PW
