/-
  The mathematics of steps by rules: which numbers of a point are less than 0, as a set; the least and the greatest of them; the least number; steps and runs.
-/
import Derived.Test.YtopokicejgjcoaaDoorPNonA
import Derived.Test.YtopokicejgjcoaaDoorCBit
namespace Go.Proofs.YtopokicejgjcoaaDoor.PW
open Go.RowKit Go.Proofs.YtopokicejgjcoaaDoor
open Go.Proofs.YtopokicejgjcoaaDoor.PM Go.Proofs.YtopokicejgjcoaaDoor.PX

/-- The set of the numbers that are less than 0, of the first k. -/
def negM (xs : List (Int × Int)) : Nat → Nat
  | 0 => 0
  | k + 1 => if (xs.getD k (0, 0)).1 < 0 then negM xs k ||| 2 ^ k else negM xs k
theorem negM_yes {xs : List (Int × Int)} {k : Nat} (h : (xs.getD k (0, 0)).1 < 0) : negM xs (k + 1) = negM xs k ||| 2 ^ k := by show (if _ then _ else _) = _; rw [if_pos h]
theorem negM_no {xs : List (Int × Int)} {k : Nat} (h : ¬ (xs.getD k (0, 0)).1 < 0) : negM xs (k + 1) = negM xs k := by show (if _ then _ else _) = _; rw [if_neg h]
theorem negM_lt (xs : List (Int × Int)) : ∀ k, negM xs k < 2 ^ k
  | 0 => by simp [negM]
  | k + 1 => by
    have ih := negM_lt xs k
    have h2 : 2 ^ k < 2 ^ (k + 1) := Nat.pow_lt_pow_right (by decide) (by omega)
    by_cases h : (xs.getD k (0, 0)).1 < 0
    · rw [negM_yes h]
      exact Nat.or_lt_two_pow (by omega) h2
    · rw [negM_no h]
      omega
theorem negM_zero (xs : List (Int × Int)) : ∀ k, negM xs k = 0 ↔ ∀ j, j < k → ¬ (xs.getD j (0, 0)).1 < 0
  | 0 => ⟨fun _ j hj => absurd hj (Nat.not_lt_zero _), fun _ => rfl⟩
  | k + 1 => by
    have ih := negM_zero xs k
    by_cases h : (xs.getD k (0, 0)).1 < 0
    · rw [negM_yes h]
      constructor
      · intro e
        have := congrArg (fun x => x.testBit k) e
        simp [Nat.testBit_or, Nat.testBit_two_pow_self] at this
      · intro hall
        exact absurd h (hall k (by omega))
    · rw [negM_no h, ih]
      constructor
      · intro hall j hj
        by_cases e : j = k
        · subst e; exact h
        · exact hall j (by omega)
      · intro hall j hj
        exact hall j (by omega)
/-- The least and the greatest number of a set below 32. -/
def loB (x : Nat) : Nat := if x % 2 = 1 then 0 else if x / 2 % 2 = 1 then 1 else if x / 4 % 2 = 1 then 2 else if x / 8 % 2 = 1 then 3 else 4
def hiB (x : Nat) : Nat := if 16 ≤ x then 4 else if 8 ≤ x then 3 else if 4 ≤ x then 2 else if 2 ≤ x then 1 else 0
theorem lohi_dec : ∀ k : Fin 5, ∀ x : Fin 32, x.val < 2 ^ k.val → x.val ||| 2 ^ k.val ≠ 0 ∧ hiB (x.val ||| 2 ^ k.val) = k.val ∧ loB (x.val ||| 2 ^ k.val) = if x.val = 0 then k.val else loB x.val := by decide +kernel
theorem pow_le_32 {n : Nat} (hn : n ≤ 5) : (2 : Nat) ^ n ≤ 32 := by
  obtain rfl | rfl | rfl | rfl | rfl | rfl : n = 0 ∨ n = 1 ∨ n = 2 ∨ n = 3 ∨ n = 4 ∨ n = 5 := by omega
  all_goals decide
theorem lohi_step {k x : Nat} (hk : k < 5) (hx : x < 2 ^ k) : x ||| 2 ^ k ≠ 0 ∧ hiB (x ||| 2 ^ k) = k ∧ loB (x ||| 2 ^ k) = if x = 0 then k else loB x := by
  have := pow_le_32 (n := k) (by omega)
  exact lohi_dec ⟨k, hk⟩ ⟨x, by omega⟩ hx
theorem lohi_lt_dec : ∀ n : Fin 6, ∀ x : Fin 32, x.val < 2 ^ n.val → x.val ≠ 0 → loB x.val < n.val ∧ hiB x.val < n.val := by decide +kernel
theorem lohi_lt {n x : Nat} (hn : n ≤ 5) (hx : x < 2 ^ n) (h0 : x ≠ 0) : loB x < n ∧ hiB x < n := by
  have := pow_le_32 hn
  exact lohi_lt_dec ⟨n, by omega⟩ ⟨x, by omega⟩ hx h0

/-- A fraction is less than another one. -/
def lessF (a b : Int × Int) : Prop := a.1 * b.2 < b.1 * a.2
instance (a b : Int × Int) : Decidable (lessF a b) := inferInstanceAs (Decidable (_ < _))
theorem mulc {a b c : Int} (hc : 0 < c) : a < b ↔ a * c < b * c := ⟨fun h => Int.mul_lt_mul_of_pos_right h hc, fun h => Int.lt_of_mul_lt_mul_right h (by omega)⟩
theorem lessF_trans {a b c : Int × Int} (ha : 0 < a.2) (hb : 0 < b.2) (hc : 0 < c.2) (h1 : ¬ lessF b a) (h2 : lessF b c) : lessF a c := by
  unfold lessF at *
  have h1' : a.1 * b.2 ≤ b.1 * a.2 := by omega
  have e1 : a.1 * b.2 * c.2 ≤ b.1 * a.2 * c.2 := Int.mul_le_mul_of_nonneg_right h1' (by omega)
  have e2 : b.1 * c.2 * a.2 < c.1 * b.2 * a.2 := (mulc ha).1 h2
  have e3 : b.1 * a.2 * c.2 = b.1 * c.2 * a.2 := by rw [Int.mul_assoc, Int.mul_comm a.2 c.2, ← Int.mul_assoc]
  have e4 : (a.1 * c.2) * b.2 < (c.1 * a.2) * b.2 := by
    rw [show a.1 * c.2 * b.2 = a.1 * b.2 * c.2 by rw [Int.mul_assoc, Int.mul_comm c.2 b.2, ← Int.mul_assoc], show c.1 * a.2 * b.2 = c.1 * b.2 * a.2 by rw [Int.mul_assoc, Int.mul_comm a.2 b.2, ← Int.mul_assoc]]
    omega
  exact (mulc hb).2 e4
theorem lessF_trans' {a b c : Int × Int} (ha : 0 < a.2) (hb : 0 < b.2) (hc : 0 < c.2) (h1 : lessF a b) (h2 : ¬ lessF c b) : lessF a c := by
  unfold lessF at *
  have h2' : b.1 * c.2 ≤ c.1 * b.2 := by omega
  have e1 : a.1 * b.2 * c.2 < b.1 * a.2 * c.2 := (mulc hc).1 h1
  have e2 : b.1 * c.2 * a.2 ≤ c.1 * b.2 * a.2 := Int.mul_le_mul_of_nonneg_right h2' (by omega)
  have e3 : b.1 * a.2 * c.2 = b.1 * c.2 * a.2 := by rw [Int.mul_assoc, Int.mul_comm a.2 c.2, ← Int.mul_assoc]
  have e4 : (a.1 * c.2) * b.2 < (c.1 * a.2) * b.2 := by
    rw [show a.1 * c.2 * b.2 = a.1 * b.2 * c.2 by rw [Int.mul_assoc, Int.mul_comm c.2 b.2, ← Int.mul_assoc], show c.1 * a.2 * b.2 = c.1 * b.2 * a.2 by rw [Int.mul_assoc, Int.mul_comm a.2 b.2, ← Int.mul_assoc]]
    omega
  exact (mulc hb).2 e4
/-- The first of the least numbers, of the first k. -/
def lsI (xs : List (Int × Int)) : Nat → Nat
  | 0 => 0
  | k + 1 => if k = 0 then 0 else if lessF (xs.getD k (0, 0)) (xs.getD (lsI xs k) (0, 0)) then k else lsI xs k
theorem lsI_one (xs : List (Int × Int)) : lsI xs 1 = 0 := rfl
theorem lsI_yes {xs : List (Int × Int)} {k : Nat} (hk : k ≠ 0) (h : lessF (xs.getD k (0, 0)) (xs.getD (lsI xs k) (0, 0))) : lsI xs (k + 1) = k := by show (if _ then _ else _) = _; rw [if_neg hk, if_pos h]
theorem lsI_no {xs : List (Int × Int)} {k : Nat} (hk : k ≠ 0) (h : ¬ lessF (xs.getD k (0, 0)) (xs.getD (lsI xs k) (0, 0))) : lsI xs (k + 1) = lsI xs k := by show (if _ then _ else _) = _; rw [if_neg hk, if_neg h]
theorem lsI_lt (xs : List (Int × Int)) : ∀ k, 0 < k → lsI xs k < k
  | 0, h => absurd h (Nat.lt_irrefl _)
  | k + 1, _ => by
    by_cases hk : k = 0
    · subst hk; rw [lsI_one]; omega
    · have ih := lsI_lt xs k (by omega)
      by_cases h : lessF (xs.getD k (0, 0)) (xs.getD (lsI xs k) (0, 0))
      · rw [lsI_yes hk h]; omega
      · rw [lsI_no hk h]; omega
theorem lsI_min {xs : List (Int × Int)} : ∀ k, (∀ j, j < k → 0 < (xs.getD j (0, 0)).2) → (∀ j, j < k → ¬ lessF (xs.getD j (0, 0)) (xs.getD (lsI xs k) (0, 0))) ∧ ∀ j, j < lsI xs k → lessF (xs.getD (lsI xs k) (0, 0)) (xs.getD j (0, 0))
  | 0, _ => ⟨fun j hj => absurd hj (Nat.not_lt_zero _), fun j hj => absurd hj (Nat.not_lt_zero _)⟩
  | k + 1, hp => by
    by_cases hk : k = 0
    · subst hk
      rw [lsI_one]
      refine ⟨fun j hj => ?_, fun j hj => absurd hj (Nat.not_lt_zero _)⟩
      obtain rfl : j = 0 := by omega
      unfold lessF
      omega
    · obtain ⟨i1, i2⟩ := lsI_min k (fun j hj => hp j (by omega))
      have hl := lsI_lt xs k (by omega)
      by_cases h : lessF (xs.getD k (0, 0)) (xs.getD (lsI xs k) (0, 0))
      · rw [lsI_yes hk h]
        have hlt : ∀ j, j < k → lessF (xs.getD k (0, 0)) (xs.getD j (0, 0)) := fun j hj => lessF_trans' (hp k (by omega)) (hp _ (by omega)) (hp j (by omega)) h (i1 j hj)
        refine ⟨fun j hj => ?_, hlt⟩
        by_cases e : j = k
        · subst e; unfold lessF; omega
        · have := hlt j (by omega)
          unfold lessF at this ⊢
          omega
      · rw [lsI_no hk h]
        refine ⟨fun j hj => ?_, i2⟩
        by_cases e : j = k
        · subst e; exact h
        · exact i1 j (by omega)
/-- The model looks at the numbers below 0 alone: it finds the same one. -/
theorem lsI_first {xs : List (Int × Int)} {k : Nat} (hp : ∀ j, j < k + 1 → 0 < (xs.getD j (0, 0)).2) (h0 : negM xs k = 0) (h : (xs.getD k (0, 0)).1 < 0) : lsI xs (k + 1) = k := by
  by_cases hk : k = 0
  · subst hk; rfl
  · have hl := lsI_lt xs k (by omega)
    have h1 := (negM_zero xs k).1 h0 _ hl
    have p1 := hp k (by omega)
    have p2 := hp (lsI xs k) (by omega)
    refine lsI_yes hk ?_
    unfold lessF
    have e1 : (xs.getD k (0, 0)).1 * (xs.getD (lsI xs k) (0, 0)).2 < 0 := Int.mul_neg_of_neg_of_pos h p2
    have e2 : 0 ≤ (xs.getD (lsI xs k) (0, 0)).1 * (xs.getD k (0, 0)).2 := Int.mul_nonneg (by omega) (by omega)
    omega
theorem lsI_past {xs : List (Int × Int)} {k : Nat} (hp : ∀ j, j < k + 1 → 0 < (xs.getD j (0, 0)).2) (h0 : negM xs k ≠ 0) (h : ¬ (xs.getD k (0, 0)).1 < 0) : lsI xs (k + 1) = lsI xs k := by
  have hk : k ≠ 0 := fun e => h0 (by subst e; rfl)
  have hl := lsI_lt xs k (by omega)
  have p1 := hp k (by omega)
  have p2 := hp (lsI xs k) (by omega)
  refine lsI_no hk ?_
  have hneg : (xs.getD (lsI xs k) (0, 0)).1 < 0 := by
    rcases Classical.em ((xs.getD (lsI xs k) (0, 0)).1 < 0) with c | hc
    · exact c
    exfalso
    refine h0 ((negM_zero xs k).2 (fun j hj c => ?_))
    refine (lsI_min k (fun j hj => hp j (by omega))).1 j hj ?_
    unfold lessF
    have e1 : (xs.getD j (0, 0)).1 * (xs.getD (lsI xs k) (0, 0)).2 < 0 := Int.mul_neg_of_neg_of_pos c p2
    have e2 : 0 ≤ (xs.getD (lsI xs k) (0, 0)).1 * (xs.getD j (0, 0)).2 := Int.mul_nonneg (by omega) (by have := hp j (by omega); omega)
    omega
  unfold lessF
  have e1 : (xs.getD (lsI xs k) (0, 0)).1 * (xs.getD k (0, 0)).2 < 0 := Int.mul_neg_of_neg_of_pos hneg p1
  have e2 : 0 ≤ (xs.getD k (0, 0)).1 * (xs.getD (lsI xs k) (0, 0)).2 := Int.mul_nonneg (by omega) (by omega)
  omega

/-- The set that a rule exchanges. -/
def exM (r : Int) (xs : List (Int × Int)) (n : Nat) : Nat :=
  if r = 0 then 2 ^ loB (negM xs n) else if r = 1 then 2 ^ hiB (negM xs n) else if r = 2 then 2 ^ lsI xs n else negM xs n
theorem exM_lt {r : Int} {xs : List (Int × Int)} {n : Nat} (h1 : 1 ≤ n) (h5 : n ≤ 5) (h0 : negM xs n ≠ 0) : exM r xs n < 2 ^ n := by
  obtain ⟨hlo, hhi⟩ := lohi_lt h5 (negM_lt xs n) h0
  have hls := lsI_lt xs n h1
  unfold exM
  split
  · exact Nat.pow_lt_pow_right (by decide) hlo
  · split
    · exact Nat.pow_lt_pow_right (by decide) hhi
    · split
      · exact Nat.pow_lt_pow_right (by decide) hls
      · exact negM_lt xs n
/-- The set behind a set. -/
def stpS (M : List (List Int)) (Q : List Int) (r s : Int) : Int := bits BinOp.xor IntKind.i64 s ((exM r (ptL M Q s) M.length : Nat) : Int)
theorem ptL_length (M : List (List Int)) (Q : List Int) (s : Int) : (ptL M Q s).length = M.length := by unfold ptL; rw [rowF_length]
theorem negM_nonneg {M : List (List Int)} {Q : List Int} {s : Int} : negM (ptL M Q s) M.length = 0 ↔ nonneg (ptL M Q s) = true := by
  rw [negM_zero, nonneg_iff, ptL_length]
  exact ⟨fun h j hj => by have := h j hj; omega, fun h j hj => by have := h j hj; omega⟩
theorem stpS_in {M : List (List Int)} {Q : List Int} {r s : Int} (h1 : 1 ≤ M.length) (h5 : M.length ≤ 5) (hs0 : 0 ≤ s) (hs1 : s < 2 ^ M.length) (hn : nonneg (ptL M Q s) = false) : 0 ≤ stpS M Q r s ∧ stpS M Q r s < 2 ^ M.length := by
  have h0 : negM (ptL M Q s) M.length ≠ 0 := fun e => by rw [negM_nonneg.1 e] at hn; cases hn
  have hx := exM_lt (r := r) h1 h5 h0
  have hp := pow_le_32 h5
  obtain ⟨t, rfl⟩ := Int.eq_ofNat_of_zero_le hs0
  have e : (((2 : Nat) ^ M.length : Nat) : Int) = 2 ^ M.length := by norm_cast
  have ht : t < 2 ^ M.length := by omega
  unfold stpS
  rw [xb_nat t _ (by omega) (by omega)]
  have hxx := Nat.xor_lt_two_pow ht hx
  refine ⟨by omega, ?_⟩
  have : ((t ^^^ exM r (ptL M Q t) M.length : Nat) : Int) < ((2 ^ M.length : Nat) : Int) := by omega
  simpa using this

/-- A run, from the set s on, those of S being met before. -/
def runO (M : List (List Int)) (Q : List Int) (r : Int) : Nat → List Int → Int → List Int × Int
  | 0, S, _ => (S, 0)
  | k + 1, S, s => if dt M.length (colS M s) = 0 then (S ++ [s], 1) else if s ∈ S then (S ++ [s], 2) else if nonneg (ptL M Q s) = true then (S ++ [s], 0) else runO M Q r k (S ++ [s]) (stpS M Q r s)
theorem runO_stuck {M : List (List Int)} {Q : List Int} {r s : Int} {k : Nat} {S : List Int} (h : dt M.length (colS M s) = 0) : runO M Q r (k + 1) S s = (S ++ [s], 1) := by show (if _ then _ else _) = _; rw [if_pos h]
theorem runO_again {M : List (List Int)} {Q : List Int} {r s : Int} {k : Nat} {S : List Int} (h : dt M.length (colS M s) ≠ 0) (h2 : s ∈ S) : runO M Q r (k + 1) S s = (S ++ [s], 2) := by show (if _ then _ else _) = _; rw [if_neg h, if_pos h2]
theorem runO_solved {M : List (List Int)} {Q : List Int} {r s : Int} {k : Nat} {S : List Int} (h : dt M.length (colS M s) ≠ 0) (h2 : s ∉ S) (h3 : nonneg (ptL M Q s) = true) : runO M Q r (k + 1) S s = (S ++ [s], 0) := by show (if _ then _ else _) = _; rw [if_neg h, if_neg h2, if_pos h3]
theorem runO_on {M : List (List Int)} {Q : List Int} {r s : Int} {k : Nat} {S : List Int} (h : dt M.length (colS M s) ≠ 0) (h2 : s ∉ S) (h3 : nonneg (ptL M Q s) = false) : runO M Q r (k + 1) S s = runO M Q r k (S ++ [s]) (stpS M Q r s) := by show (if _ then _ else _) = _; rw [if_neg h, if_neg h2, if_neg (by rw [h3]; exact Bool.noConfusion)]
/-- A list without doubles of numbers below b is no longer than b. -/
theorem nodup_le : ∀ (b : Nat) (S : List Int), S.Nodup → (∀ x ∈ S, 0 ≤ x ∧ x < b) → S.length ≤ b
  | 0, S, _, h => by
    cases S with
    | nil => simp
    | cons x r => have := h x (by simp); omega
  | b + 1, S, hd, h => by
    have ih := nodup_le b (S.erase (b : Int)) (hd.erase _) (fun x hx => by
      obtain ⟨h1, h2⟩ := (hd.mem_erase_iff).1 hx
      have := h x h2
      omega)
    have : S.length ≤ (S.erase (b : Int)).length + 1 := by
      rw [List.length_erase]
      split <;> omega
    omega
/-- What holds of the sets that a run has met. -/
structure Met (n : Nat) (S : List Int) (s : Int) (k : Nat) : Prop where
  dup : S.Nodup
  inn : ∀ x ∈ S, 0 ≤ x ∧ x < 2 ^ n
  lo : 0 ≤ s
  hi : s < 2 ^ n
  len : k + S.length = 33
theorem Met.pos {n : Nat} {S : List Int} {s : Int} {k : Nat} (h : Met n S s k) (hn : n ≤ 5) : ∃ j, k = j + 1 ∧ S.length ≤ 32 := by
  have hp := pow_le_32 hn
  have e : (((2 : Nat) ^ n : Nat) : Int) = 2 ^ n := by norm_cast
  have := nodup_le (2 ^ n) S h.dup (fun x hx => by
    have := h.inn x hx
    exact ⟨this.1, by omega⟩)
  have := h.len
  exact ⟨k - 1, by omega, by omega⟩
theorem Met.next {n : Nat} {S : List Int} {s t : Int} {k : Nat} (h : Met n S s (k + 1)) (hs : s ∉ S) (h0 : 0 ≤ t) (h1 : t < 2 ^ n) : Met n (S ++ [s]) t k := by
  refine ⟨?_, ?_, h0, h1, ?_⟩
  · rw [List.nodup_append]
    refine ⟨h.dup, by simp, ?_⟩
    intro a ha b hb
    simp at hb
    subst hb
    intro e
    exact hs (e ▸ ha)
  · intro x hx
    rcases List.mem_append.1 hx with h2 | h2
    · exact h.inn x h2
    · simp at h2
      subst h2
      exact ⟨h.lo, h.hi⟩
  · have := h.len
    simp
    omega
theorem Met.first {n : Nat} {s : Int} (h0 : 0 ≤ s) (h1 : s < 2 ^ n) : Met n [] s 33 := ⟨by simp, by simp, h0, h1, rfl⟩
theorem runO_facts {M : List (List Int)} {Q : List Int} {r : Int} (h1 : 1 ≤ M.length) (h5 : M.length ≤ 5) : ∀ (k : Nat) (S : List Int) (s : Int), Met M.length S s k →
    (runO M Q r k S s).1.length ≤ 33 ∧ 1 ≤ (runO M Q r k S s).1.length ∧ (∀ x ∈ (runO M Q r k S s).1, 0 ≤ x ∧ x < 2 ^ M.length) ∧ 0 ≤ (runO M Q r k S s).2 ∧ (runO M Q r k S s).2 ≤ 2
  | 0, S, s, h => by obtain ⟨j, hj, _⟩ := h.pos h5; omega
  | k + 1, S, s, h => by
    obtain ⟨j, _, hl⟩ := h.pos h5
    have hend : (S ++ [s]).length ≤ 33 ∧ 1 ≤ (S ++ [s]).length ∧ ∀ x ∈ S ++ [s], 0 ≤ x ∧ x < 2 ^ M.length := by
      refine ⟨by simp; omega, by simp, fun x hx => ?_⟩
      rcases List.mem_append.1 hx with h2 | h2
      · exact h.inn x h2
      · simp at h2
        subst h2
        exact ⟨h.lo, h.hi⟩
    by_cases hd : dt M.length (colS M s) = 0
    · rw [runO_stuck hd]; exact ⟨hend.1, hend.2.1, hend.2.2, by simp, by simp⟩
    by_cases hm : s ∈ S
    · rw [runO_again hd hm]; exact ⟨hend.1, hend.2.1, hend.2.2, by simp, by simp⟩
    cases hn : nonneg (ptL M Q s)
    · rw [runO_on hd hm hn]
      obtain ⟨t0, t1⟩ := stpS_in (r := r) h1 h5 h.lo h.hi hn
      exact runO_facts h1 h5 k _ _ (h.next hm t0 t1)
    · rw [runO_solved hd hm hn]; exact ⟨hend.1, hend.2.1, hend.2.2, by simp, by simp⟩
/-- The set at which a run ends with a solution has one. -/
theorem runO_last {M : List (List Int)} {Q : List Int} {r : Int} (h1 : 1 ≤ M.length) (h5 : M.length ≤ 5) : ∀ (k : Nat) (S : List Int) (s : Int), Met M.length S s k → (runO M Q r k S s).2 = 0 →
    ∃ T t, (runO M Q r k S s).1 = T ++ [t] ∧ 0 ≤ t ∧ t < 2 ^ M.length ∧ dt M.length (colS M t) ≠ 0 ∧ nonneg (ptL M Q t) = true
  | 0, S, s, h, _ => by obtain ⟨j, hj, _⟩ := h.pos h5; omega
  | k + 1, S, s, h, he => by
    by_cases hd : dt M.length (colS M s) = 0
    · rw [runO_stuck hd] at he; simp at he
    by_cases hm : s ∈ S
    · rw [runO_again hd hm] at he; simp at he
    cases hn : nonneg (ptL M Q s)
    · rw [runO_on hd hm hn] at he ⊢
      obtain ⟨t0, t1⟩ := stpS_in (r := r) h1 h5 h.lo h.hi hn
      exact runO_last h1 h5 k _ _ (h.next hm t0 t1) he
    · rw [runO_solved hd hm hn]; exact ⟨S, s, rfl, h.lo, h.hi, hd, hn⟩
/-- The error of a problem, a set and a rule. -/
def ruleCode (M : List (List Int)) (Q : List Int) (s r : Int) : Int := if setCode M Q s ≠ 0 then setCode M Q s else if r < 0 ∨ 3 < r then 2 else 0
end Go.Proofs.YtopokicejgjcoaaDoor.PW
