/-
  Heights, as the model reckons them: what stands while they are reckoned.
-/
import Derived.Test.YtlccdnpicfmeaaaCAcy
namespace Go.Proofs.Ytlccdnpicfmeaaa.SW

structure Ht (n : Nat) (f : Nat → Nat) (K : Nat → Bool) (h : Nat → Nat) (c : Nat) : Prop where
  clo : ∀ v, v < 2 ^ n → K v = true → ∀ i, i < n → (f v).testBit i = true → K (v ^^^ 2 ^ i) = true
  hgt : ∀ v, v < 2 ^ n → K v = true → h v = hmx n f h v n
  cnt : c = cn K (2 ^ n)
  lt : ∀ v, v < 2 ^ n → K v = true → h v < c
  le : ∀ v, v < 2 ^ n → h v ≤ c
def stuckAt (n : Nat) (f : Nat → Nat) (K : Nat → Bool) (v : Nat) : Prop := K v = false → ∃ i, i < n ∧ (f v).testBit i = true ∧ K (v ^^^ 2 ^ i) = false
theorem ht_start (n : Nat) (f : Nat → Nat) : Ht n f (fun _ => false) (fun _ => 0) 0 :=
  ⟨fun _ _ h => Bool.noConfusion h, fun _ _ h => Bool.noConfusion h, ((cn_zero _).2 (fun _ _ => rfl)).symm, fun _ _ h => Bool.noConfusion h, fun _ _ => Nat.le_refl _⟩
theorem hmx_congr {n : Nat} {f h h' : Nat → Nat} {v : Nat} : ∀ k, (∀ i, i < k → (f v).testBit i = true → h (v ^^^ 2 ^ i) = h' (v ^^^ 2 ^ i)) → hmx n f h v k = hmx n f h' v k
  | 0, _ => rfl
  | k + 1, hh => by
    rw [hmx, hmx, hmx_congr k (fun i hi => hh i (by omega))]
    cases hb : (f v).testBit k
    · rfl
    · rw [if_pos rfl, if_pos rfl, hh k (by omega) hb]
theorem hmx_bd {n : Nat} {f h : Nat → Nat} {v c : Nat} : ∀ k, (∀ i, i < k → (f v).testBit i = true → h (v ^^^ 2 ^ i) < c) → hmx n f h v k ≤ c
  | 0, _ => Nat.zero_le _
  | k + 1, hh => by
    have ih := hmx_bd (n := n) k (fun i hi => hh i (by omega))
    rw [hmx]
    cases hb : (f v).testBit k
    · simpa using ih
    · have := hh k (by omega) hb
      rw [if_pos rfl]; omega
theorem nb_ne (v i : Nat) : v ^^^ 2 ^ i ≠ v := fun e => by
  have h1 := nb_bit v i i
  rw [e] at h1
  cases hb : v.testBit i <;> rw [hb] at h1 <;> simp at h1
theorem cn_add {K : Nat → Bool} {v : Nat} (hk : K v = false) : ∀ m, cn (fun u => if u = v then true else K u) m = cn K m + (if v < m then 1 else 0)
  | 0 => rfl
  | m + 1 => by
    rw [cn, cn, cn_add hk m]
    by_cases e : m = v
    · subst e
      simp [hk]
    · rw [if_neg e]
      by_cases h1 : v < m
      · rw [if_pos h1, if_pos (show v < m + 1 by omega)]; omega
      · rw [if_neg h1, if_neg (show ¬ v < m + 1 by omega)]; omega
theorem Ht.step {n : Nat} {f h : Nat → Nat} {K : Nat → Bool} {c v : Nat} (H : Ht n f K h c) (hv : v < 2 ^ n) (hk : K v = false) (hr : ∀ i, i < n → (f v).testBit i = true → K (v ^^^ 2 ^ i) = true) :
    Ht n f (fun u => if u = v then true else K u) (fun u => if u = v then hmx n f h v n else h u) (c + 1) := by
  have hb := hmx_bd (n := n) (f := f) (h := h) (v := v) (c := c) n (fun i hi ht => H.lt _ (nb_lt hv hi) (hr i hi ht))
  refine ⟨fun u hu hku i hi ht => ?_, fun u hu hku => ?_, ?_, fun u hu hku => ?_, fun u hu => ?_⟩
  · by_cases e : u = v
    · subst e
      rw [if_neg (nb_ne _ _)]
      exact hr i hi ht
    · rw [if_neg e] at hku
      have := H.clo u hu hku i hi ht
      split
      · rfl
      · exact this
  · by_cases e : u = v
    · subst e
      rw [if_pos rfl]
      exact hmx_congr n (fun i _ _ => by rw [if_neg (nb_ne _ _)])
    · rw [if_neg e] at hku ⊢
      rw [H.hgt u hu hku]
      exact hmx_congr n (fun i hi ht => by
        have h1 := H.clo u hu hku i hi ht
        rw [if_neg (fun e2 => by rw [e2, hk] at h1; exact Bool.noConfusion h1)])
  · rw [cn_add hk, if_pos hv, H.cnt]
  · by_cases e : u = v
    · subst e; rw [if_pos rfl]; omega
    · rw [if_neg e] at hku ⊢
      have := H.lt u hu hku; omega
  · by_cases e : u = v
    · subst e; rw [if_pos rfl]; omega
    · rw [if_neg e]; have := H.le u hu; omega
theorem Ht.full {n : Nat} {f h : Nat → Nat} {K : Nat → Bool} {c : Nat} (H : Ht n f K h c) : c ≤ 2 ^ n ∧ (c = 2 ^ n → acyB n f = true ∧ lpN n f = SW.hgt h (2 ^ n)) ∧ (c ≠ 2 ^ n → (∀ v, v < 2 ^ n → stuckAt n f K v) → acyB n f = false) := by
  have hle : c ≤ 2 ^ n := by rw [H.cnt]; exact cn_le _ _
  refine ⟨hle, fun hc => ?_, fun hc hs => ?_⟩
  · have hall : ∀ v, v < 2 ^ n → K v = true := fun v hv => by
      cases hk : K v
      · exfalso
        have h1 := cn_add hk (2 ^ n)
        have h2 := cn_le (fun u => if u = v then true else K u) (2 ^ n)
        rw [if_pos hv, ← H.cnt] at h1
        omega
      · rfl
    exact heights_end (fun v hv => H.hgt v hv (hall v hv)) (fun v hv => by have := H.lt v hv (hall v hv); omega)
  · refine stuck_end (K := K) ?_ (fun v hv hk => hs v hv hk)
    refine Classical.byContradiction (fun hno => hc ?_)
    have hall : ∀ v, v < 2 ^ n → K v = true := fun v hv => by
      cases hk : K v
      · exact absurd ⟨v, hv, hk⟩ hno
      · rfl
    rw [H.cnt]
    have : ∀ m, m ≤ 2 ^ n → cn K m = m := by
      intro m
      induction m with
      | zero => intro _; rfl
      | succ m ih => intro hm; rw [cn, ih (by omega), if_pos (hall m (by omega))]
    exact this _ (Nat.le_refl _)
/-- Is a vertex ready, as far as the first k directions tell? -/
def rdB (f : Nat → Nat) (K : Nat → Bool) (v : Nat) : Nat → Bool
  | 0 => !K v
  | k + 1 => if (f v).testBit k then rdB f K v k && K (v ^^^ 2 ^ k) else rdB f K v k
theorem rdB_iff (f : Nat → Nat) (K : Nat → Bool) (v : Nat) : ∀ k, rdB f K v k = true ↔ K v = false ∧ ∀ i, i < k → (f v).testBit i = true → K (v ^^^ 2 ^ i) = true
  | 0 => by simp [rdB]
  | k + 1 => by
    have ih := rdB_iff f K v k
    rw [rdB]
    cases hb : (f v).testBit k
    · rw [if_neg (by simp), ih]
      constructor
      · rintro ⟨a, b⟩
        exact ⟨a, fun i hi ht => by
          by_cases e : i = k
          · subst e; rw [hb] at ht; exact Bool.noConfusion ht
          · exact b i (by omega) ht⟩
      · rintro ⟨a, b⟩
        exact ⟨a, fun i hi ht => b i (by omega) ht⟩
    · rw [if_pos rfl, Bool.and_eq_true, ih]
      constructor
      · rintro ⟨⟨a, b⟩, c⟩
        exact ⟨a, fun i hi ht => by
          by_cases e : i = k
          · subst e; exact c
          · exact b i (by omega) ht⟩
      · rintro ⟨a, b⟩
        exact ⟨⟨a, fun i hi ht => b i (by omega) ht⟩, b k (by omega) hb⟩
theorem rdB_stuck {n : Nat} {f : Nat → Nat} {K : Nat → Bool} {v : Nat} (h : rdB f K v n = false) : stuckAt n f K v := fun hk => by
  refine Classical.byContradiction (fun hno => ?_)
  have : rdB f K v n = true := (rdB_iff f K v n).2 ⟨hk, fun i hi ht => by
    cases hc : K (v ^^^ 2 ^ i)
    · exact absurd ⟨i, hi, ht, hc⟩ hno
    · rfl⟩
  rw [h] at this
  exact Bool.noConfusion this
end Go.Proofs.Ytlccdnpicfmeaaa.SW
