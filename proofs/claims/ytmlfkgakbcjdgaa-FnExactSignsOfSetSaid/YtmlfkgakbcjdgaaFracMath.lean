/-
  Plain mathematics of fractions: greatest common divisors, lowest terms, sums and products. No program is named here.
-/
import Derived.KernelRfl
namespace Go.Proofs.Ytmlfkgakbcjdgaa.FM

/-- The greatest common divisor as an integer. -/
def gcdI (a b : Int) : Int := ((Int.gcd a b : Nat) : Int)

theorem gcdI_nonneg (a b : Int) : 0 ≤ gcdI a b := by unfold gcdI; omega

theorem gcd_step (a b : Int) : Int.gcd b (a.tmod b) = Int.gcd a b := by
  simp only [Int.gcd, Int.natAbs_tmod]
  rw [Nat.gcd_comm a.natAbs, Nat.gcd_rec b.natAbs a.natAbs, Nat.gcd_comm]

theorem gcdI_step (a b : Int) : gcdI b (a.tmod b) = gcdI a b := by
  unfold gcdI; rw [gcd_step]

theorem gcdI_zero (a : Int) : gcdI a 0 = (a.natAbs : Int) := by
  unfold gcdI; simp

theorem gcdI_pos (a b : Int) (h : b ≠ 0) : 0 < gcdI a b := by
  unfold gcdI
  have : 0 < Int.gcd a b := Int.gcd_pos_of_ne_zero_right a h
  omega

theorem gcdI_dvd_left (a b : Int) : gcdI a b ∣ a := by
  unfold gcdI; exact Int.gcd_dvd_left ..
theorem gcdI_dvd_right (a b : Int) : gcdI a b ∣ b := by
  unfold gcdI; exact Int.gcd_dvd_right ..

theorem gcdI_neg_left (a b : Int) : gcdI (-a) b = gcdI a b := by unfold gcdI; rw [Int.neg_gcd]
theorem gcdI_neg_right (a b : Int) : gcdI a (-b) = gcdI a b := by unfold gcdI; rw [Int.gcd_neg]
theorem gcdI_comm (a b : Int) : gcdI a b = gcdI b a := by unfold gcdI; rw [Int.gcd_comm]

theorem gcdI_le (a b : Int) (h : b ≠ 0) : gcdI a b ≤ (b.natAbs : Int) := by
  have hd := gcdI_dvd_right a b
  have : gcdI a b ∣ (b.natAbs : Int) := Int.dvd_natAbs.2 hd
  exact Int.le_of_dvd (by omega) this

/-- The bounds of a remainder. -/
theorem tmod_lt (a b : Int) (h : b ≠ 0) : (a.tmod b).natAbs < b.natAbs := by
  rw [Int.natAbs_tmod]; exact Nat.mod_lt _ (by omega)

/-- Numerator and denominator in lowest terms, for d other than 0. -/
def redN (n d : Int) : Int := if d < 0 then -(n.tdiv (gcdI n d)) else n.tdiv (gcdI n d)
def redD (n d : Int) : Int := if d < 0 then -(d.tdiv (gcdI n d)) else d.tdiv (gcdI n d)

theorem redN_neg (n d : Int) (h : d < 0) : redN (-n) (-d) = redN n d := by
  unfold redN
  rw [if_neg (by omega), if_pos h, gcdI_neg_left, gcdI_neg_right, Int.neg_tdiv]
theorem redD_neg (n d : Int) (h : d < 0) : redD (-n) (-d) = redD n d := by
  unfold redD
  rw [if_neg (by omega), if_pos h, gcdI_neg_left, gcdI_neg_right, Int.neg_tdiv]

theorem tdiv_natAbs_le (a b : Int) : (a.tdiv b).natAbs ≤ a.natAbs := by
  rw [Int.natAbs_tdiv]; exact Nat.div_le_self _ _

theorem redN_bd (n d : Int) : (redN n d).natAbs ≤ n.natAbs := by
  unfold redN; have := tdiv_natAbs_le n (gcdI n d); split <;> omega
theorem redD_bd (n d : Int) : (redD n d).natAbs ≤ d.natAbs := by
  unfold redD; have := tdiv_natAbs_le d (gcdI n d); split <;> omega

theorem redD_pos (n d : Int) (h : d ≠ 0) : 0 < redD n d := by
  have hg := gcdI_pos n d h
  have hd := gcdI_dvd_right n d
  have e : d.tdiv (gcdI n d) * gcdI n d = d := Int.tdiv_mul_cancel hd
  unfold redD
  split
  · rename_i hn
    have : d.tdiv (gcdI n d) < 0 := by
      refine Int.not_le.1 fun hc => ?_
      have := Int.mul_nonneg hc (Int.le_of_lt hg)
      omega
    omega
  · refine Int.not_le.1 fun hc => ?_
    have := Int.mul_nonneg (a := -(d.tdiv (gcdI n d))) (b := gcdI n d) (by omega) (by omega)
    rw [Int.neg_mul] at this
    omega

theorem redN_mul (n d : Int) : redN n d * gcdI n d = if d < 0 then -n else n := by
  have e : n.tdiv (gcdI n d) * gcdI n d = n := Int.tdiv_mul_cancel (gcdI_dvd_left n d)
  unfold redN
  split
  · rw [Int.neg_mul, e]
  · exact e
theorem redD_mul (n d : Int) : redD n d * gcdI n d = if d < 0 then -d else d := by
  have e : d.tdiv (gcdI n d) * gcdI n d = d := Int.tdiv_mul_cancel (gcdI_dvd_right n d)
  unfold redD
  split
  · rw [Int.neg_mul, e]
  · exact e

/-- In lowest terms. -/
theorem gcd_red (n d : Int) (h : d ≠ 0) : gcdI (redN n d) (redD n d) = 1 := by
  have hg := gcdI_pos n d h
  have e1 := redN_mul n d
  have e2 := redD_mul n d
  have e3 : gcdI (redN n d * gcdI n d) (redD n d * gcdI n d) = gcdI n d := by
    rw [e1, e2]; split
    · rw [gcdI_neg_left, gcdI_neg_right]
    · rfl
  have e4 : gcdI (redN n d * gcdI n d) (redD n d * gcdI n d) = gcdI (redN n d) (redD n d) * gcdI n d := by
    unfold gcdI
    rw [Int.gcd_mul_right]
    simp
  rw [e4] at e3
  have : gcdI (redN n d) (redD n d) * gcdI n d = 1 * gcdI n d := by rw [e3]; omega
  exact Int.eq_of_mul_eq_mul_right (by omega) this

/-- Scaling by a number greater than 0 does not matter. -/
theorem gcdI_scale (k n d : Int) (hk : 0 < k) : gcdI (n * k) (d * k) = gcdI n d * k := by
  unfold gcdI
  rw [Int.gcd_mul_right]
  rw [Int.natCast_mul]
  congr 1
  omega

theorem redN_scale (k n d : Int) (hk : 0 < k) : redN (n * k) (d * k) = redN n d := by
  have hs : d * k < 0 ↔ d < 0 := by
    constructor
    · intro h1
      refine Int.not_le.1 fun hc => ?_
      have := Int.mul_nonneg hc (Int.le_of_lt hk)
      omega
    · intro h1
      exact Int.mul_neg_of_neg_of_pos h1 hk
  have he : (n * k).tdiv (gcdI n d * k) = n.tdiv (gcdI n d) := by
    rw [Int.mul_comm n, Int.mul_comm (gcdI n d)]
    exact Int.mul_tdiv_mul_of_pos _ _ hk
  unfold redN
  rw [gcdI_scale k n d hk, he]
  by_cases hd : d < 0
  · rw [if_pos hd, if_pos (hs.2 hd)]
  · rw [if_neg hd, if_neg (fun c => hd (hs.1 c))]
theorem redD_scale (k n d : Int) (hk : 0 < k) : redD (n * k) (d * k) = redD n d := by
  have hs : d * k < 0 ↔ d < 0 := by
    constructor
    · intro h1
      refine Int.not_le.1 fun hc => ?_
      have := Int.mul_nonneg hc (Int.le_of_lt hk)
      omega
    · intro h1
      exact Int.mul_neg_of_neg_of_pos h1 hk
  have he : (d * k).tdiv (gcdI n d * k) = d.tdiv (gcdI n d) := by
    rw [Int.mul_comm d, Int.mul_comm (gcdI n d)]
    exact Int.mul_tdiv_mul_of_pos _ _ hk
  unfold redD
  rw [gcdI_scale k n d hk, he]
  by_cases hd : d < 0
  · rw [if_pos hd, if_pos (hs.2 hd)]
  · rw [if_neg hd, if_neg (fun c => hd (hs.1 c))]

/-- The fractions of the document: within the limits, in lowest terms. -/
def IsF (n d : Int) : Prop := -1000000000 ≤ n ∧ n ≤ 1000000000 ∧ 1 ≤ d ∧ d ≤ 1000000000 ∧ gcdI n d = 1
instance (n d : Int) : Decidable (IsF n d) := by unfold IsF; infer_instance
def isF (n d : Int) : Bool := decide (IsF n d)

theorem isF_yes {n d : Int} (h : isF n d = true) : -1000000000 ≤ n ∧ n ≤ 1000000000 ∧ 1 ≤ d ∧ d ≤ 1000000000 ∧ gcdI n d = 1 := by
  have := of_decide_eq_true h; exact this

/-- The program's own test, by lowest terms, is the same. -/
theorem red_self_iff (n d : Int) (hd : 1 ≤ d) : (redN n d = n ∧ redD n d = d) ↔ gcdI n d = 1 := by
  constructor
  · rintro ⟨h1, h2⟩
    have := gcd_red n d (by omega)
    rwa [h1, h2] at this
  · intro h
    unfold redN redD
    rw [if_neg (by omega), if_neg (by omega), h]
    simp

/-- What a function that tells a fraction returns: the fraction and the code 0, or nothing and the code 3. -/
def toldN (n d : Int) : Int := if isF (redN n d) (redD n d) then redN n d else 0
def toldD (n d : Int) : Int := if isF (redN n d) (redD n d) then redD n d else 0
def toldC (n d : Int) : Int := if isF (redN n d) (redD n d) then 0 else 3

/-- The sum by the least common denominator is the sum by the product. -/
theorem plus_eq (an ad bn bd : Int) :
    an * bd + bn * ad = (an * bd.tdiv (gcdI ad bd) + bn * ad.tdiv (gcdI ad bd)) * gcdI ad bd ∧
    ad * bd = (ad.tdiv (gcdI ad bd) * bd) * gcdI ad bd := by
  have e1 : ad.tdiv (gcdI ad bd) * gcdI ad bd = ad := Int.tdiv_mul_cancel (gcdI_dvd_left ad bd)
  have e2 : bd.tdiv (gcdI ad bd) * gcdI ad bd = bd := Int.tdiv_mul_cancel (gcdI_dvd_right ad bd)
  constructor
  · rw [Int.add_mul, Int.mul_assoc, e2, Int.mul_assoc, e1]
  · rw [Int.mul_assoc, Int.mul_comm bd, ← Int.mul_assoc, e1]

/-- Whether a number lies in a range. -/
def inB (lo hi x : Int) : Bool := decide (lo ≤ x ∧ x ≤ hi)
theorem inB_yes {lo hi x : Int} (h : inB lo hi x = true) : lo ≤ x ∧ x ≤ hi := of_decide_eq_true h
theorem inB_no {lo hi x : Int} (h : inB lo hi x = false) : ¬ (lo ≤ x ∧ x ≤ hi) := of_decide_eq_false h

theorem mul_bd {a b A B : Int} (h1 : -A ≤ a) (h2 : a ≤ A) (h3 : -B ≤ b) (h4 : b ≤ B) : -(A * B) ≤ a * b ∧ a * b ≤ A * B := by
  have hA : 0 ≤ A := by omega
  have hB : 0 ≤ B := by omega
  have h : (a * b).natAbs ≤ (A * B).natAbs := by
    rw [Int.natAbs_mul, Int.natAbs_mul]
    exact Nat.mul_le_mul (by omega) (by omega)
  have h0 : 0 ≤ A * B := Int.mul_nonneg hA hB
  omega

/-- What the functions on fractions return: numerator, denominator, code. -/
def told (n d : Int) : Int × Int × Int := (toldN n d, toldD n d, toldC n d)
def fracOut (n d : Int) : Int × Int × Int :=
  if d = 0 ∨ inB (-1000000000000) 1000000000000 n = false ∨ inB (-1000000000000) 1000000000000 d = false then (0, 0, 2) else told n d
def addOut (an ad bn bd k : Int) : Int × Int × Int :=
  if isF an ad = false ∨ isF bn bd = false then (0, 0, 1)
  else if k ≠ 1 ∧ k ≠ -1 then (0, 0, 2)
  else told (an * bd + k * bn * ad) (ad * bd)
def mulOut (an ad bn bd : Int) : Int × Int × Int :=
  if isF an ad = false ∨ isF bn bd = false then (0, 0, 1) else told (an * bn) (ad * bd)
def cmpI (x y : Int) : Int := if x < y then -1 else if y < x then 1 else 0
def cmpOut (an ad bn bd : Int) : Int × Int :=
  if isF an ad = false ∨ isF bn bd = false then (0, 1) else (cmpI (an * bd) (bn * ad), 0)

/-- The model's sum, by the least common denominator, tells the same. -/
theorem told_plus (an ad bn bd : Int) (h1 : 1 ≤ ad) :
    told (an * bd.tdiv (gcdI ad bd) + bn * ad.tdiv (gcdI ad bd)) (ad.tdiv (gcdI ad bd) * bd) = told (an * bd + bn * ad) (ad * bd) := by
  have hg : 0 < gcdI ad bd := by rw [gcdI_comm]; exact gcdI_pos _ _ (by omega)
  obtain ⟨e1, e2⟩ := plus_eq an ad bn bd
  have eN := redN_scale (gcdI ad bd) (an * bd.tdiv (gcdI ad bd) + bn * ad.tdiv (gcdI ad bd)) (ad.tdiv (gcdI ad bd) * bd) hg
  have eD := redD_scale (gcdI ad bd) (an * bd.tdiv (gcdI ad bd) + bn * ad.tdiv (gcdI ad bd)) (ad.tdiv (gcdI ad bd) * bd) hg
  rw [← e1, ← e2] at eN eD
  unfold told toldN toldD toldC
  rw [eN, eD]

end Go.Proofs.Ytmlfkgakbcjdgaa.FM
