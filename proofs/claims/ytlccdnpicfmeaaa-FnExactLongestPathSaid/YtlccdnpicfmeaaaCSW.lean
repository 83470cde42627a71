/-
  Unique sinks in all faces of a cube, and outmaps that differ in a direction in which any two vertices do: the same (Szabo and Welzl).
-/
import Derived.Test.YtlccdnpicfmeaaaCBit
namespace Go.Proofs.Ytlccdnpicfmeaaa.SW

def InF (u v D : Nat) : Prop := ∀ i, u.testBit i ≠ v.testBit i → D.testBit i = true
def Sk (f : Nat → Nat) (D u : Nat) : Prop := ∀ i, D.testBit i = true → (f u).testBit i = false
def Uq (n : Nat) (f : Nat → Nat) (v D : Nat) : Prop := ∃ s, s < 2 ^ n ∧ InF s v D ∧ Sk f D s ∧ ∀ u, u < 2 ^ n → InF u v D → Sk f D u → u = s
/-- D' is D without the direction k. -/
def Wo (D D' k : Nat) : Prop := D.testBit k = true ∧ ∀ i, D'.testBit i = (D.testBit i && decide (i ≠ k))
theorem wo_xor {D k : Nat} (h : D.testBit k = true) : Wo D (D ^^^ 2 ^ k) k := ⟨h, fun i => by
  rw [Nat.testBit_xor, Nat.testBit_two_pow]
  by_cases e : k = i
  · subst e; simp [h]
  · simp [e, Ne.symm e]⟩
theorem nb_bit (v k i : Nat) : (v ^^^ 2 ^ k).testBit i = (v.testBit i ^^ decide (k = i)) := by rw [Nat.testBit_xor, Nat.testBit_two_pow]
theorem inF_split {D D' k : Nat} (h : Wo D D' k) (u v : Nat) : InF u v D ↔ (InF u v D' ∨ InF u (v ^^^ 2 ^ k) D') := by
  obtain ⟨h1, h2⟩ := h
  constructor
  · intro hu
    by_cases hk : u.testBit k = v.testBit k
    · left
      intro i hi
      have hik : i ≠ k := fun e => hi (by rw [e]; exact hk)
      rw [h2 i, hu i hi]
      simp [hik]
    · right
      intro i hi
      rw [nb_bit] at hi
      have hik : i ≠ k := fun e => by
        subst e
        apply hi
        cases hx : u.testBit i <;> cases hy : v.testBit i <;> simp [hx, hy] at hk ⊢
      rw [h2 i, hu i (fun e => hi (by rw [e]; simp [Ne.symm hik]))]
      simp [hik]
  · rintro (hu | hu) i hi
    · have := hu i hi
      rw [h2 i] at this
      simp at this
      exact this.1
    · by_cases hik : i = k
      · rw [hik]; exact h1
      · have := hu i (fun e => hi (by rw [e, nb_bit]; simp [Ne.symm hik]))
        rw [h2 i] at this
        simp at this
        exact this.1
theorem sk_split {f : Nat → Nat} {D D' k : Nat} (h : Wo D D' k) (u : Nat) : Sk f D u ↔ (Sk f D' u ∧ (f u).testBit k = false) := by
  obtain ⟨h1, h2⟩ := h
  constructor
  · exact fun hu => ⟨fun i hi => hu i (by rw [h2 i] at hi; simp at hi; exact hi.1), hu k h1⟩
  · rintro ⟨hu, hk⟩ i hi
    by_cases hik : i = k
    · rw [hik]; exact hk
    · exact hu i (by rw [h2 i, hi]; simp [hik])
theorem inF_bit {D D' k : Nat} (h : Wo D D' k) {u v : Nat} (hu : InF u v D') : u.testBit k = v.testBit k := by
  by_cases hk : u.testBit k = v.testBit k
  · exact hk
  · have := hu k hk
    rw [h.2 k] at this
    simp at this
/-- The sinks of both halves tell those of the whole. -/
theorem key {n : Nat} {f : Nat → Nat} {v D D' k s0 s1 : Nat} (h : Wo D D' k) (a0 : s0 < 2 ^ n) (b0 : InF s0 v D') (c0 : Sk f D' s0) (d0 : ∀ u, u < 2 ^ n → InF u v D' → Sk f D' u → u = s0)
    (a1 : s1 < 2 ^ n) (b1 : InF s1 (v ^^^ 2 ^ k) D') (c1 : Sk f D' s1) (d1 : ∀ u, u < 2 ^ n → InF u (v ^^^ 2 ^ k) D' → Sk f D' u → u = s1) :
    s0 ≠ s1 ∧ (Uq n f v D ↔ (f s0).testBit k ≠ (f s1).testBit k) := by
  have hne : s0 ≠ s1 := fun e => by
    have e0 := inF_bit h b0
    have e1 := inF_bit h b1
    rw [nb_bit] at e1
    rw [e, e1] at e0
    cases hv : v.testBit k <;> simp [hv] at e0
  refine ⟨hne, ?_, ?_⟩
  · rintro ⟨s, hs, hi, hk, hu⟩ he
    rw [inF_split h] at hi
    rw [sk_split h] at hk
    cases hb : (f s0).testBit k
    · rw [hb] at he
      have e0 := hu s0 a0 ((inF_split h _ _).2 (.inl b0)) ((sk_split h _).2 ⟨c0, hb⟩)
      have e1 := hu s1 a1 ((inF_split h _ _).2 (.inr b1)) ((sk_split h _).2 ⟨c1, he.symm⟩)
      exact hne (e0.trans e1.symm)
    · rw [hb] at he
      rcases hi with hi | hi
      · have := d0 s hs hi hk.1
        rw [this, hb] at hk
        exact Bool.noConfusion hk.2
      · have := d1 s hs hi hk.1
        rw [this, ← he] at hk
        exact Bool.noConfusion hk.2
  · intro he
    cases hb : (f s0).testBit k
    · refine ⟨s0, a0, (inF_split h _ _).2 (.inl b0), (sk_split h _).2 ⟨c0, hb⟩, fun u hu hi hk => ?_⟩
      rw [inF_split h] at hi
      rw [sk_split h] at hk
      rcases hi with hi | hi
      · exact d0 u hu hi hk.1
      · have := d1 u hu hi hk.1
        rw [this] at hk
        rw [hb, hk.2] at he
        exact absurd rfl he
    · have hb1 : (f s1).testBit k = false := by cases hc : (f s1).testBit k; rfl; rw [hb, hc] at he; exact absurd rfl he
      refine ⟨s1, a1, (inF_split h _ _).2 (.inr b1), (sk_split h _).2 ⟨c1, hb1⟩, fun u hu hi hk => ?_⟩
      rw [inF_split h] at hi
      rw [sk_split h] at hk
      rcases hi with hi | hi
      · have := d0 u hu hi hk.1
        rw [this, hb] at hk
        exact Bool.noConfusion hk.2
      · exact d1 u hu hi hk.1
theorem lt_of_bit {D m : Nat} (h : D < 2 ^ (m + 1)) (hb : D.testBit m = false) : D < 2 ^ m := by
  apply Nat.lt_pow_two_of_testBit
  intro i hi
  by_cases e : i = m
  · rw [e]; exact hb
  · exact Nat.testBit_lt_two_pow (Nat.lt_of_lt_of_le h (Nat.pow_le_pow_right (by decide) (by omega)))
theorem lt_xor_bit {D m : Nat} (h : D < 2 ^ (m + 1)) (hb : D.testBit m = true) : D ^^^ 2 ^ m < 2 ^ m := by
  apply lt_of_bit
  · exact Nat.xor_lt_two_pow h (Nat.pow_lt_pow_right (by decide) (by omega))
  · rw [nb_bit, hb]; simp
theorem nb_lt {v k n : Nat} (hv : v < 2 ^ n) (hk : k < n) : v ^^^ 2 ^ k < 2 ^ n := Nat.xor_lt_two_pow hv (Nat.pow_lt_pow_right (by decide) hk)
theorem uq_zero {n : Nat} {f : Nat → Nat} {v : Nat} (hv : v < 2 ^ n) : Uq n f v 0 :=
  ⟨v, hv, fun i hi => absurd rfl hi, fun i hi => by simp at hi, fun u _ hi _ => Nat.eq_of_testBit_eq (fun i => by
    by_cases e : u.testBit i = v.testBit i
    · exact e
    · have := hi i e; simp at this)⟩
def Pw (n : Nat) (f : Nat → Nat) : Prop := ∀ v u, v < 2 ^ n → u < 2 ^ n → u ≠ v → (f v ^^^ f u) &&& (v ^^^ u) ≠ 0
def All (n : Nat) (f : Nat → Nat) : Prop := ∀ v D, v < 2 ^ n → D < 2 ^ n → Uq n f v D
theorem exists_bit {x : Nat} (h : x ≠ 0) : ∃ i, x.testBit i = true := by
  by_cases e : ∃ i, x.testBit i = true
  · exact e
  · exact absurd (Nat.eq_of_testBit_eq (fun i => by rw [Nat.zero_testBit]; cases hb : x.testBit i; rfl; exact absurd ⟨i, hb⟩ e)) h
theorem all_of_pw {n : Nat} {f : Nat → Nat} (h : Pw n f) : ∀ m, m ≤ n → ∀ D, D < 2 ^ m → ∀ v, v < 2 ^ n → Uq n f v D
  | 0, _, D, hD, v, hv => by
    obtain rfl : D = 0 := by simp at hD; exact hD
    exact uq_zero hv
  | m + 1, hm, D, hD, v, hv => by
    cases hb : D.testBit m
    · exact all_of_pw h m (by omega) D (lt_of_bit hD hb) v hv
    · have hw := wo_xor hb
      have hD' := lt_xor_bit hD hb
      obtain ⟨s0, a0, b0, c0, d0⟩ := all_of_pw h m (by omega) _ hD' v hv
      obtain ⟨s1, a1, b1, c1, d1⟩ := all_of_pw h m (by omega) _ hD' _ (nb_lt hv (show m < n by omega))
      obtain ⟨hne, hk⟩ := key hw a0 b0 c0 d0 a1 b1 c1 d1
      refine hk.2 (fun he => ?_)
      obtain ⟨i, hi⟩ := exists_bit (h s0 s1 a0 a1 (Ne.symm hne))
      rw [Nat.testBit_and, Nat.testBit_xor, Nat.testBit_xor] at hi
      simp only [Bool.and_eq_true] at hi
      obtain ⟨hi1, hi2⟩ := hi
      by_cases e : i = m
      · rw [e, he] at hi1; simp at hi1
      · have hDi : (D ^^^ 2 ^ m).testBit i = true := by
          by_cases e0 : s0.testBit i = v.testBit i
          · refine b1 i (fun e1 => ?_)
            rw [nb_bit] at e1
            rw [e0, e1] at hi2
            simp [Ne.symm e] at hi2
          · exact b0 i e0
        rw [c0 i hDi, c1 i hDi] at hi1
        simp at hi1
theorem sk_flip {f : Nat → Nat} {D k u : Nat} (h : D.testBit k = false) : Sk (fun x => f x ^^^ 2 ^ k) D u ↔ Sk f D u := by
  constructor
  · intro hu i hi
    have hik : k ≠ i := fun e => by rw [e, hi] at h; exact Bool.noConfusion h
    have := hu i hi
    rw [nb_bit] at this
    simpa [hik] using this
  · intro hu i hi
    have hik : k ≠ i := fun e => by rw [e, hi] at h; exact Bool.noConfusion h
    show (f u ^^^ 2 ^ k).testBit i = false
    rw [nb_bit, hu i hi]
    simp [hik]
theorem all_flip {n : Nat} {f : Nat → Nat} (h : All n f) {k : Nat} (hk : k < n) : All n (fun u => f u ^^^ 2 ^ k) := by
  intro v D hv hD
  cases hb : D.testBit k
  · obtain ⟨s, a, b, c, d⟩ := h v D hv hD
    exact ⟨s, a, b, (sk_flip hb).2 c, fun u hu hi hs => d u hu hi ((sk_flip hb).1 hs)⟩
  · have hw := wo_xor hb
    have hb' : (D ^^^ 2 ^ k).testBit k = false := by rw [nb_bit, hb]; simp
    have hD' : D ^^^ 2 ^ k < 2 ^ n := nb_lt hD hk
    obtain ⟨s0, a0, b0, c0, d0⟩ := h v _ hv hD'
    obtain ⟨s1, a1, b1, c1, d1⟩ := h _ _ (nb_lt hv hk) hD'
    have hd := (key hw a0 b0 c0 d0 a1 b1 c1 d1).2.1 (h v D hv hD)
    refine (key (f := fun u => f u ^^^ 2 ^ k) hw a0 b0 ((sk_flip hb').2 c0) (fun u hu hi hs => d0 u hu hi ((sk_flip hb').1 hs)) a1 b1 ((sk_flip hb').2 c1) (fun u hu hi hs => d1 u hu hi ((sk_flip hb').1 hs))).2.2 ?_
    show (f s0 ^^^ 2 ^ k).testBit k ≠ (f s1 ^^^ 2 ^ k).testBit k
    rw [nb_bit, nb_bit]
    cases h0 : (f s0).testBit k <;> cases h1 : (f s1).testBit k <;> simp [h0, h1] at hd ⊢
theorem all_flips {n : Nat} {f : Nat → Nat} (h : All n f) : ∀ m, m ≤ n → ∀ R, R < 2 ^ m → All n (fun u => f u ^^^ R)
  | 0, _, R, hR => by
    obtain rfl : R = 0 := by simp at hR; exact hR
    simpa using h
  | m + 1, hm, R, hR => by
    cases hb : R.testBit m
    · exact all_flips h m (by omega) R (lt_of_bit hR hb)
    · have := all_flip (all_flips h m (by omega) _ (lt_xor_bit hR hb)) (show m < n by omega)
      have e : (fun u => (fun u => f u ^^^ (R ^^^ 2 ^ m)) u ^^^ 2 ^ m) = fun u => f u ^^^ R := by
        funext u
        show f u ^^^ (R ^^^ 2 ^ m) ^^^ 2 ^ m = _
        rw [Nat.xor_assoc, Nat.xor_assoc, Nat.xor_self, Nat.xor_zero]
      rw [e] at this
      exact this
theorem pw_of_all {n : Nat} {f : Nat → Nat} (h : All n f) : Pw n f := by
  intro v u hv hu hne h0
  have hbit : ∀ i, (v ^^^ u).testBit i = true → (f v).testBit i = (f u).testBit i := fun i hi => by
    have := congrArg (fun x => x.testBit i) h0
    simp only [Nat.testBit_and, Nat.zero_testBit] at this
    rw [hi, Nat.testBit_xor] at this
    cases h1 : (f v).testBit i <;> cases h2 : (f u).testBit i <;> simp [h1, h2] at this ⊢
  have hD : v ^^^ u < 2 ^ n := Nat.xor_lt_two_pow hv hu
  have hR : f v &&& (v ^^^ u) < 2 ^ n := Nat.and_lt_two_pow _ hD
  obtain ⟨s, _, _, _, hs⟩ := all_flips h n (Nat.le_refl _) _ hR v (v ^^^ u) hv hD
  have hz : ∀ x, (∀ i, (v ^^^ u).testBit i = true → (f x).testBit i = (f v).testBit i) → Sk (fun y => f y ^^^ (f v &&& (v ^^^ u))) (v ^^^ u) x := fun x hx i hi => by
    show (f x ^^^ (f v &&& (v ^^^ u))).testBit i = false
    rw [Nat.testBit_xor, Nat.testBit_and, hi, hx i hi]
    simp
  have e1 := hs v hv (fun i hi => absurd rfl hi) (hz v (fun _ _ => rfl))
  have e2 := hs u hu (fun i hi => by rw [Nat.testBit_xor]; cases h1 : u.testBit i <;> cases h2 : v.testBit i <;> simp [h1, h2] at hi ⊢) (hz u (fun i hi => (hbit i hi).symm))
  exact hne (e2.trans e1.symm)
theorem szabo_welzl (n : Nat) (f : Nat → Nat) : All n f ↔ Pw n f := ⟨pw_of_all, fun h v D hv hD => all_of_pw h n (Nat.le_refl _) D hD v hv⟩
/-- How many numbers below m are such. -/
def cn (P : Nat → Bool) : Nat → Nat
  | 0 => 0
  | k + 1 => cn P k + (if P k then 1 else 0)
theorem cn_zero {P : Nat → Bool} : ∀ m, cn P m = 0 ↔ ∀ u, u < m → P u = false
  | 0 => ⟨fun _ u h => absurd h (Nat.not_lt_zero _), fun _ => rfl⟩
  | m + 1 => by
    have ih := cn_zero (P := P) m
    rw [cn]
    constructor
    · intro h u hu
      by_cases hp : P m = true
      · rw [if_pos hp] at h; omega
      · by_cases e : u = m
        · subst e; simpa using hp
        · exact ih.1 (by omega) u (by omega)
    · intro h
      rw [if_neg (by rw [h m (by omega)]; simp), ih.2 (fun u hu => h u (by omega))]
theorem cn_one {P : Nat → Bool} : ∀ m, cn P m = 1 ↔ ∃ s, s < m ∧ P s = true ∧ ∀ u, u < m → P u = true → u = s
  | 0 => ⟨fun h => by simp [cn] at h, fun ⟨s, h, _⟩ => absurd h (Nat.not_lt_zero _)⟩
  | m + 1 => by
    have ih := cn_one (P := P) m
    rw [cn]
    by_cases hp : P m = true
    · rw [if_pos hp]
      constructor
      · intro h
        have h0 := (cn_zero (P := P) m).1 (by omega)
        refine ⟨m, by omega, hp, fun u hu hpu => ?_⟩
        by_cases e : u = m
        · exact e
        · rw [h0 u (by omega)] at hpu; exact Bool.noConfusion hpu
      · rintro ⟨s, hs, _, hu⟩
        have e := hu m (by omega) hp
        rw [(cn_zero (P := P) m).2 (fun u hu' => by cases hpu : P u; rfl; exact absurd (hu u (by omega) hpu) (by omega))]
    · rw [if_neg hp, Nat.add_zero, ih]
      constructor
      · rintro ⟨s, hs, h1, h2⟩
        refine ⟨s, by omega, h1, fun u hu hpu => ?_⟩
        by_cases e : u = m
        · subst e; exact absurd hpu hp
        · exact h2 u (by omega) hpu
      · rintro ⟨s, hs, h1, h2⟩
        have e : s ≠ m := fun e => by subst e; exact hp h1
        exact ⟨s, by omega, h1, fun u hu => h2 u (by omega)⟩
theorem cn_le (P : Nat → Bool) : ∀ m, cn P m ≤ m
  | 0 => Nat.le_refl _
  | m + 1 => by have := cn_le P m; rw [cn]; split <;> omega
/-- A sink of the face of v and D, as the program tests it. -/
def pB (f : Nat → Nat) (v D u : Nat) : Bool := decide (PW.andn (u ^^^ v) D = 0 ∧ f u &&& D = 0)
theorem inF_iff (u v D : Nat) : InF u v D ↔ PW.andn (u ^^^ v) D = 0 := by
  constructor
  · intro h
    apply Nat.eq_of_testBit_eq
    intro i
    rw [PW.andn_bit, Nat.testBit_xor, Nat.zero_testBit]
    by_cases e : u.testBit i = v.testBit i
    · rw [e]; simp
    · rw [h i e]; simp
  · intro h i hi
    have := congrArg (fun x => x.testBit i) h
    simp only [PW.andn_bit, Nat.testBit_xor, Nat.zero_testBit] at this
    cases h1 : u.testBit i <;> cases h2 : v.testBit i <;> cases h3 : D.testBit i <;> simp [h1, h2, h3] at this hi ⊢
theorem sk_iff (f : Nat → Nat) (D u : Nat) : Sk f D u ↔ f u &&& D = 0 := by
  constructor
  · intro h
    apply Nat.eq_of_testBit_eq
    intro i
    rw [Nat.testBit_and, Nat.zero_testBit]
    cases hd : D.testBit i
    · simp
    · rw [h i hd]; rfl
  · intro h i hi
    have := congrArg (fun x => x.testBit i) h
    simpa [Nat.testBit_and, hi] using this
theorem uq_iff (n : Nat) (f : Nat → Nat) (v D : Nat) : Uq n f v D ↔ cn (pB f v D) (2 ^ n) = 1 := by
  rw [cn_one]
  unfold Uq pB
  constructor
  · rintro ⟨s, a, b, c, d⟩
    exact ⟨s, a, decide_eq_true ⟨(inF_iff _ _ _).1 b, (sk_iff _ _ _).1 c⟩, fun u hu hp => by
      have := of_decide_eq_true hp
      exact d u hu ((inF_iff _ _ _).2 this.1) ((sk_iff _ _ _).2 this.2)⟩
  · rintro ⟨s, a, b, d⟩
    have hb := of_decide_eq_true b
    exact ⟨s, a, (inF_iff _ _ _).2 hb.1, (sk_iff _ _ _).2 hb.2, fun u hu hi hk => d u hu (decide_eq_true ⟨(inF_iff _ _ _).1 hi, (sk_iff _ _ _).1 hk⟩)⟩
end Go.Proofs.Ytlccdnpicfmeaaa.SW
