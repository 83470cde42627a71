/-
  Orientations without cycles: sinks are taken out turn by turn; numbers of sets; the mathematics.
-/
import Derived.Test.YtlccdnpicfmeaaaCSW
namespace Go.Proofs.Ytlccdnpicfmeaaa.SW

/-- What remains of A without its sinks. -/
def stp (n : Nat) (f : Nat → Nat) (A : Nat → Bool) (v : Nat) : Bool := A v && (List.range n).any fun i => (f v).testBit i && A (v ^^^ 2 ^ i)
def Rm (n : Nat) (f : Nat → Nat) : Nat → Nat → Bool
  | 0 => fun _ => true
  | t + 1 => stp n f (Rm n f t)
theorem stp_le {n : Nat} {f : Nat → Nat} {A : Nat → Bool} {v : Nat} (h : stp n f A v = true) : A v = true := by unfold stp at h; simp at h; exact h.1
theorem stp_congr {n : Nat} {f : Nat → Nat} {A B : Nat → Bool} (h : ∀ v, v < 2 ^ n → A v = B v) {v : Nat} (hv : v < 2 ^ n) : stp n f A v = stp n f B v := by
  unfold stp
  rw [h v hv]
  congr 1
  rw [Bool.eq_iff_iff]
  simp only [List.any_eq_true, List.mem_range]
  constructor
  · rintro ⟨i, hi, hb⟩; exact ⟨i, hi, by rw [← h _ (nb_lt hv hi)]; exact hb⟩
  · rintro ⟨i, hi, hb⟩; exact ⟨i, hi, by rw [h _ (nb_lt hv hi)]; exact hb⟩
theorem rm_mono {n : Nat} {f : Nat → Nat} {t : Nat} : ∀ s, ∀ v, Rm n f (t + s) v = true → Rm n f t v = true
  | 0, _, h => h
  | s + 1, v, h => rm_mono s v (stp_le h)
theorem rm_empty {n : Nat} {f : Nat → Nat} {t : Nat} (h : ∀ v, v < 2 ^ n → Rm n f t v = false) (s : Nat) : ∀ v, v < 2 ^ n → Rm n f (t + s) v = false := fun v hv => by
  cases hb : Rm n f (t + s) v
  · rfl
  · rw [← h v hv]; exact (rm_mono s v hb).symm ▸ rfl
theorem rm_stable {n : Nat} {f : Nat → Nat} {t : Nat} (h : ∀ v, v < 2 ^ n → Rm n f (t + 1) v = Rm n f t v) : ∀ s, ∀ v, v < 2 ^ n → Rm n f (t + s) v = Rm n f t v
  | 0, _, _ => rfl
  | s + 1, v, hv => by
    have : Rm n f (t + (s + 1)) v = stp n f (Rm n f (t + s)) v := rfl
    rw [this, stp_congr (rm_stable h s) hv]
    exact h v hv
theorem cn_mono {A B : Nat → Bool} : ∀ m, (∀ u, u < m → A u = true → B u = true) → cn A m ≤ cn B m
  | 0, _ => Nat.le_refl _
  | m + 1, h => by
    have := cn_mono m (fun u hu => h u (by omega))
    rw [cn, cn]
    have hm := h m (by omega)
    cases ha : A m
    · simp; split <;> omega
    · rw [hm ha]; simp; omega
theorem cn_strict {A B : Nat → Bool} : ∀ m, (∀ u, u < m → A u = true → B u = true) → (∃ u, u < m ∧ A u ≠ B u) → cn A m < cn B m
  | 0, _, ⟨u, hu, _⟩ => absurd hu (Nat.not_lt_zero _)
  | m + 1, h, ⟨u, hu, hne⟩ => by
    have hle := cn_mono m (fun u hu => h u (by omega))
    rw [cn, cn]
    have hm := h m (by omega)
    by_cases e : u = m
    · subst e
      cases ha : A u
      · cases hb : B u
        · rw [ha, hb] at hne; exact absurd rfl hne
        · simp; omega
      · rw [ha, hm ha] at hne; exact absurd rfl hne
    · have := cn_strict m (fun u hu => h u (by omega)) ⟨u, by omega, hne⟩
      cases ha : A m
      · simp; split <;> omega
      · rw [hm ha]; simp; omega
/-- There is no cycle. -/
def acyB (n : Nat) (f : Nat → Nat) : Bool := decide (∀ v, v < 2 ^ n → Rm n f (2 ^ n) v = false)
/-- The longest walk along edges. -/
def lpN (n : Nat) (f : Nat → Nat) : Nat := cn (fun t => decide (∃ v, v < 2 ^ n ∧ Rm n f (t + 1) v = true)) (2 ^ n)
/-- As long as it goes on, something goes in each turn. -/
structure Turn (n : Nat) (f : Nat → Nat) (t : Nat) : Prop where
  some_ : ∃ v, v < 2 ^ n ∧ Rm n f t v = true
  less : cn (Rm n f t) (2 ^ n) + t ≤ 2 ^ n
theorem cn_true : ∀ m, cn (fun _ => true) m = m
  | 0 => rfl
  | m + 1 => by rw [cn, cn_true m]; rfl
theorem turn_zero (n : Nat) (f : Nat → Nat) : Turn n f 0 := ⟨⟨0, Nat.pow_pos (by decide), rfl⟩, by rw [show Rm n f 0 = fun _ => true from rfl, cn_true]; omega⟩
theorem turn_lt {n : Nat} {f : Nat → Nat} {t : Nat} (h : Turn n f t) : t < 2 ^ n := by
  obtain ⟨v, hv, hb⟩ := h.some_
  have h1 : cn (Rm n f t) (2 ^ n) ≠ 0 := fun e => by have := (cn_zero _).1 e v hv; rw [hb] at this; exact Bool.noConfusion this
  have := h.less
  omega
theorem turn_next {n : Nat} {f : Nat → Nat} {t : Nat} (h : Turn n f t) (h0 : ∃ v, v < 2 ^ n ∧ Rm n f (t + 1) v = true) (h1 : ∃ v, v < 2 ^ n ∧ Rm n f (t + 1) v ≠ Rm n f t v) : Turn n f (t + 1) ∧ cn (Rm n f (t + 1)) (2 ^ n) < cn (Rm n f t) (2 ^ n) := by
  have hs := cn_strict (A := Rm n f (t + 1)) (B := Rm n f t) (2 ^ n) (fun u _ hu => stp_le hu) h1
  exact ⟨⟨h0, by have := h.less; omega⟩, hs⟩
theorem turn_end {n : Nat} {f : Nat → Nat} {t : Nat} (h : Turn n f t) (h0 : ∀ v, v < 2 ^ n → Rm n f (t + 1) v = false) : acyB n f = true ∧ lpN n f = t := by
  have ht := turn_lt h
  constructor
  · refine decide_eq_true (fun v hv => ?_)
    have := rm_empty h0 (2 ^ n - (t + 1)) v hv
    rwa [show t + 1 + (2 ^ n - (t + 1)) = 2 ^ n by omega] at this
  · have hA : ∀ m, m ≤ 2 ^ n → cn (fun s => decide (∃ v, v < 2 ^ n ∧ Rm n f (s + 1) v = true)) m = min m t := by
      intro m
      induction m with
      | zero => intro _; simp [cn]
      | succ m ih =>
        intro hm
        rw [cn, ih (by omega)]
        by_cases e : m < t
        · have : (∃ v, v < 2 ^ n ∧ Rm n f (m + 1) v = true) := by
            obtain ⟨v, hv, hb⟩ := h.some_
            exact ⟨v, hv, rm_mono (t - (m + 1)) v (by rw [show m + 1 + (t - (m + 1)) = t by omega]; exact hb)⟩
          rw [if_pos (decide_eq_true this)]
          omega
        · have : ¬ (∃ v, v < 2 ^ n ∧ Rm n f (m + 1) v = true) := by
            rintro ⟨v, hv, hb⟩
            have := rm_empty h0 (m - t) v hv
            rw [show t + 1 + (m - t) = m + 1 by omega, hb] at this
            exact Bool.noConfusion this
          rw [if_neg (by simpa using this)]
          omega
    show cn _ _ = t
    rw [hA _ (Nat.le_refl _)]
    omega
theorem turn_cycle {n : Nat} {f : Nat → Nat} {t : Nat} (h : Turn n f t) (h0 : ∀ v, v < 2 ^ n → Rm n f (t + 1) v = Rm n f t v) : acyB n f = false := by
  have ht := turn_lt h
  obtain ⟨v, hv, hb⟩ := h.some_
  refine decide_eq_false (fun hh => ?_)
  have h1 := rm_stable h0 (2 ^ n - t) v hv
  rw [show t + (2 ^ n - t) = 2 ^ n by omega, hh v hv, hb] at h1
  exact Bool.noConfusion h1
/-- Heights: each is one more than the greatest of those that its edges lead to. -/
def hmx (n : Nat) (f h : Nat → Nat) (v : Nat) : Nat → Nat
  | 0 => 0
  | i + 1 => if (f v).testBit i then max (hmx n f h v i) (h (v ^^^ 2 ^ i) + 1) else hmx n f h v i
theorem hmx_le {n : Nat} {f h : Nat → Nat} {v t : Nat} : ∀ k, t + 1 ≤ hmx n f h v k ↔ ∃ i, i < k ∧ (f v).testBit i = true ∧ t ≤ h (v ^^^ 2 ^ i)
  | 0 => ⟨fun h => by simp [hmx] at h, fun ⟨i, hi, _⟩ => absurd hi (Nat.not_lt_zero _)⟩
  | k + 1 => by
    have ih := hmx_le (n := n) (f := f) (h := h) (v := v) (t := t) k
    rw [hmx]
    cases hb : (f v).testBit k
    · rw [if_neg (by simp), ih]
      constructor
      · rintro ⟨i, hi, h1, h2⟩; exact ⟨i, by omega, h1, h2⟩
      · rintro ⟨i, hi, h1, h2⟩
        by_cases e : i = k
        · subst e; rw [hb] at h1; exact Bool.noConfusion h1
        · exact ⟨i, by omega, h1, h2⟩
    · rw [if_pos rfl, show t + 1 ≤ max (hmx n f h v k) (h (v ^^^ 2 ^ k) + 1) ↔ (t + 1 ≤ hmx n f h v k ∨ t + 1 ≤ h (v ^^^ 2 ^ k) + 1) by omega, ih]
      constructor
      · rintro (⟨i, hi, h1, h2⟩ | h2)
        · exact ⟨i, by omega, h1, h2⟩
        · exact ⟨k, by omega, hb, by omega⟩
      · rintro ⟨i, hi, h1, h2⟩
        by_cases e : i = k
        · subst e; right; omega
        · left; exact ⟨i, by omega, h1, h2⟩
theorem heights_rm {n : Nat} {f h : Nat → Nat} (hh : ∀ v, v < 2 ^ n → h v = hmx n f h v n) : ∀ t, ∀ v, v < 2 ^ n → (Rm n f t v = true ↔ t ≤ h v)
  | 0, v, _ => ⟨fun _ => Nat.zero_le _, fun _ => rfl⟩
  | t + 1, v, hv => by
    have ih := heights_rm hh t
    show stp n f (Rm n f t) v = true ↔ _
    rw [hh v hv, hmx_le]
    unfold stp
    simp only [Bool.and_eq_true, List.any_eq_true, List.mem_range]
    constructor
    · rintro ⟨_, i, hi, h1, h2⟩
      exact ⟨i, hi, h1, (ih _ (nb_lt hv hi)).1 h2⟩
    · rintro ⟨i, hi, h1, h2⟩
      refine ⟨(ih v hv).2 ?_, i, hi, h1, (ih _ (nb_lt hv hi)).2 h2⟩
      have : t + 1 ≤ hmx n f h v n := (hmx_le n).2 ⟨i, hi, h1, h2⟩
      rw [← hh v hv] at this
      omega
/-- The greatest of the first heights. -/
def hgt (h : Nat → Nat) : Nat → Nat
  | 0 => 0
  | k + 1 => max (hgt h k) (h k)
theorem hgt_ge (h : Nat → Nat) : ∀ k v, v < k → h v ≤ hgt h k
  | k + 1, v, hv => by
    rw [hgt]
    by_cases e : v = k
    · subst e; omega
    · have := hgt_ge h k v (by omega); omega
theorem hgt_at (h : Nat → Nat) : ∀ k, 0 < k → ∃ v, v < k ∧ h v = hgt h k
  | 1, _ => ⟨0, by omega, by simp [hgt]⟩
  | k + 2, _ => by
    obtain ⟨v, hv, e⟩ := hgt_at h (k + 1) (by omega)
    rw [hgt]
    rcases Nat.le_total (h (k + 1)) (hgt h (k + 1)) with hl | hl
    · exact ⟨v, by omega, by omega⟩
    · exact ⟨k + 1, by omega, by omega⟩
theorem heights_end {n : Nat} {f h : Nat → Nat} (hh : ∀ v, v < 2 ^ n → h v = hmx n f h v n) (hb : ∀ v, v < 2 ^ n → h v < 2 ^ n) : acyB n f = true ∧ lpN n f = hgt h (2 ^ n) := by
  have hr := heights_rm hh
  obtain ⟨w, hw, e⟩ := hgt_at h (2 ^ n) (Nat.pow_pos (by decide))
  have hlt := hb w hw
  have h1 : ∀ s, s < 2 ^ n → ((∃ v, v < 2 ^ n ∧ Rm n f (s + 1) v = true) ↔ s < hgt h (2 ^ n)) := fun s _ => by
    constructor
    · rintro ⟨v, hv, hb'⟩
      have a := (hr (s + 1) v hv).1 hb'
      have b := hgt_ge h (2 ^ n) v hv
      omega
    · intro hs
      exact ⟨w, hw, (hr (s + 1) w hw).2 (by omega)⟩
  constructor
  · refine decide_eq_true (fun v hv => ?_)
    cases hc : Rm n f (2 ^ n) v
    · rfl
    · have a := (hr (2 ^ n) v hv).1 hc
      have b := hb v hv
      omega
  · have hA : ∀ m, m ≤ 2 ^ n → cn (fun s => decide (∃ v, v < 2 ^ n ∧ Rm n f (s + 1) v = true)) m = min m (hgt h (2 ^ n)) := by
      intro m
      induction m with
      | zero => intro _; simp [cn]
      | succ m ih =>
        intro hm
        rw [cn, ih (by omega)]
        by_cases e2 : m < hgt h (2 ^ n)
        · rw [if_pos (decide_eq_true ((h1 m (by omega)).2 e2))]; omega
        · rw [if_neg (by simpa using fun c => e2 ((h1 m (by omega)).1 c))]; omega
    show cn _ _ = _
    rw [hA _ (Nat.le_refl _)]
    omega
theorem stuck_end {n : Nat} {f : Nat → Nat} {K : Nat → Bool} (h0 : ∃ v, v < 2 ^ n ∧ K v = false) (hs : ∀ v, v < 2 ^ n → K v = false → ∃ i, i < n ∧ (f v).testBit i = true ∧ K (v ^^^ 2 ^ i) = false) : acyB n f = false := by
  have hr : ∀ t, ∀ v, v < 2 ^ n → K v = false → Rm n f t v = true := by
    intro t
    induction t with
    | zero => intro v _ _; rfl
    | succ t ih =>
      intro v hv hk
      obtain ⟨i, hi, h1, h2⟩ := hs v hv hk
      show stp n f (Rm n f t) v = true
      unfold stp
      simp only [Bool.and_eq_true, List.any_eq_true, List.mem_range]
      exact ⟨ih v hv hk, i, hi, h1, ih _ (nb_lt hv hi) h2⟩
  obtain ⟨v, hv, hk⟩ := h0
  exact decide_eq_false (fun hh => by have := hh v hv; rw [hr _ v hv hk] at this; exact Bool.noConfusion this)
/-- The number of a set. -/
def code (A : Nat → Bool) : Nat → Nat
  | 0 => 0
  | k + 1 => code A k ||| (if A k then 2 ^ k else 0)
theorem code_lt (A : Nat → Bool) : ∀ k, code A k < 2 ^ k
  | 0 => Nat.one_pos
  | k + 1 => by
    have h := code_lt A k
    rw [code]
    refine Nat.or_lt_two_pow (Nat.lt_of_lt_of_le h (Nat.pow_le_pow_right (by decide) (by omega))) ?_
    split
    · exact Nat.pow_lt_pow_right (by decide) (by omega)
    · exact Nat.pow_pos (by decide)
theorem code_bit (A : Nat → Bool) (i : Nat) : ∀ k, (code A k).testBit i = (decide (i < k) && A i)
  | 0 => by simp [code]
  | k + 1 => by
    rw [code, Nat.testBit_or, code_bit A i k]
    by_cases e : i = k
    · subst e
      cases ha : A i
      · simp
      · simp
    · have h1 : (if A k then 2 ^ k else 0).testBit i = false := by
        split
        · rw [Nat.testBit_two_pow]; simp [Ne.symm e]
        · simp
      rw [h1]
      have : decide (i < k + 1) = decide (i < k) := by
        by_cases c : i < k
        · simp [c]; omega
        · simp [c]; omega
      rw [this]
      simp
theorem code_eq {A B : Nat → Bool} {k : Nat} (h : code A k = code B k) : ∀ i, i < k → A i = B i := fun i hi => by
  have := congrArg (fun x => x.testBit i) h
  simpa [code_bit, hi] using this
theorem code_congr {A B : Nat → Bool} {k : Nat} (h : ∀ i, i < k → A i = B i) : code A k = code B k := by
  apply Nat.eq_of_testBit_eq
  intro i
  rw [code_bit, code_bit]
  by_cases hi : i < k
  · rw [h i hi]
  · simp [hi]
theorem code_zero {A : Nat → Bool} {k : Nat} : code A k = 0 ↔ ∀ i, i < k → A i = false := by
  constructor
  · intro h i hi
    have := code_bit A i k
    rw [h, Nat.zero_testBit] at this
    simpa [hi] using this.symm
  · intro h
    apply Nat.eq_of_testBit_eq
    intro i
    rw [code_bit, Nat.zero_testBit]
    by_cases hi : i < k
    · rw [h i hi]; simp
    · simp [hi]
end Go.Proofs.Ytlccdnpicfmeaaa.SW
