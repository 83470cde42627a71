/-
  Plain mathematics of determinants of at most five rows: along the first row, without fractions, rows exchanged, bounds. No program is named here.
-/
import Derived.KernelRfl
namespace Go.Proofs.Ytgncaploccbfnaa.PX
/-- Sums. -/
def sumTo (f : Nat → Int) : Nat → Int
  | 0 => 0
  | k + 1 => sumTo f k + f k
def sgn (k : Nat) : Int := if k % 2 = 1 then -1 else 1
def del (k : Nat) (g : Nat → Nat → Int) : Nat → Nat → Int := fun i j => g (i + 1) (if j < k then j else j + 1)
/-- The determinant, along the first row. -/
def dt : Nat → (Nat → Nat → Int) → Int
  | 0, _ => 1
  | n + 1, g => sumTo (fun k => sgn k * (g 0 k * dt n (del k g))) (n + 1)

def m2 (a : Nat → Nat → Int) (i j p q : Nat) : Int := a i p * a j q - a i q * a j p
def m3 (a : Nat → Nat → Int) (i j k p q r : Nat) : Int := a i p * m2 a j k q r - a i q * m2 a j k p r + a i r * m2 a j k p q
def m4 (a : Nat → Nat → Int) (i j k l p q r s : Nat) : Int := a i p * m3 a j k l q r s - a i q * m3 a j k l p r s + a i r * m3 a j k l p q s - a i s * m3 a j k l p q r
def m5 (a : Nat → Nat → Int) (i j k l m p q r s t : Nat) : Int := a i p * m4 a j k l m q r s t - a i q * m4 a j k l m p r s t + a i r * m4 a j k l m p q s t - a i s * m4 a j k l m p q r t + a i t * m4 a j k l m p q r s

/-- What stands at i, k when c columns are eliminated without fractions. -/
def T (a : Nat → Nat → Int) (c i k : Nat) : Int :=
  match c with
  | 0 => a i k
  | 1 => m2 a 0 i 0 k
  | 2 => m3 a 0 1 i 0 1 k
  | 3 => m4 a 0 1 2 i 0 1 2 k
  | _ => m5 a 0 1 2 3 i 0 1 2 3 k
def lastT (a : Nat → Nat → Int) (c : Nat) : Int :=
  match c with
  | 0 => 1
  | c + 1 => T a c c c


theorem ring1 (a : Nat → Nat → Int) : a 0 0 * m4 a 0 1 2 3 0 1 2 3 = m2 a 0 1 0 1 * m3 a 0 2 3 0 2 3 - m2 a 0 2 0 1 * m3 a 0 1 3 0 2 3 + m2 a 0 3 0 1 * m3 a 0 1 2 0 2 3 := by
  simp only [m2, m3, m4]; grind
theorem ring2 (a : Nat → Nat → Int) : a 0 0 * m5 a 0 1 2 3 4 0 1 2 3 4 = m2 a 0 1 0 1 * m4 a 0 2 3 4 0 2 3 4 - m2 a 0 2 0 1 * m4 a 0 1 3 4 0 2 3 4 + m2 a 0 3 0 1 * m4 a 0 1 2 4 0 2 3 4 - m2 a 0 4 0 1 * m4 a 0 1 2 3 0 2 3 4 := by
  simp only [m2, m3, m4, m5]; grind
theorem ring3 (a : Nat → Nat → Int) : m2 a 0 1 0 1 * m5 a 0 1 2 3 4 0 1 2 3 4 = m3 a 0 1 2 0 1 2 * m4 a 0 1 3 4 0 1 3 4 - m3 a 0 1 3 0 1 2 * m4 a 0 1 2 4 0 1 3 4 + m3 a 0 1 4 0 1 2 * m4 a 0 1 2 3 0 1 3 4 := by
  simp only [m2, m3, m4, m5]; grind

theorem m2_s01 (a : Nat → Nat → Int) (i j p q : Nat) : m2 a j i p q = - m2 a i j p q := by unfold m2; grind
theorem m3_s01 (a : Nat → Nat → Int) (i j k p q r : Nat) : m3 a j i k p q r = - m3 a i j k p q r := by
  unfold m3 m2; grind
theorem m3_s12 (a : Nat → Nat → Int) (i j k p q r : Nat) : m3 a i k j p q r = - m3 a i j k p q r := by
  unfold m3
  rw [m2_s01 a j k q r, m2_s01 a j k p r, m2_s01 a j k p q]; grind
theorem m4_s01 (a : Nat → Nat → Int) (i j k l p q r s : Nat) : m4 a j i k l p q r s = - m4 a i j k l p q r s := by
  unfold m4 m3; grind
theorem m4_s12 (a : Nat → Nat → Int) (i j k l p q r s : Nat) : m4 a i k j l p q r s = - m4 a i j k l p q r s := by
  unfold m4
  rw [m3_s01 a j k l q r s, m3_s01 a j k l p r s, m3_s01 a j k l p q s, m3_s01 a j k l p q r]; grind
theorem m4_s23 (a : Nat → Nat → Int) (i j k l p q r s : Nat) : m4 a i j l k p q r s = - m4 a i j k l p q r s := by
  unfold m4
  rw [m3_s12 a j k l q r s, m3_s12 a j k l p r s, m3_s12 a j k l p q s, m3_s12 a j k l p q r]; grind
theorem m5_s01 (a : Nat → Nat → Int) (i j k l m p q r s t : Nat) : m5 a j i k l m p q r s t = - m5 a i j k l m p q r s t := by
  unfold m5 m4; grind
theorem m5_s12 (a : Nat → Nat → Int) (i j k l m p q r s t : Nat) : m5 a i k j l m p q r s t = - m5 a i j k l m p q r s t := by
  unfold m5
  rw [m4_s01 a j k l m q r s t, m4_s01 a j k l m p r s t, m4_s01 a j k l m p q s t, m4_s01 a j k l m p q r t, m4_s01 a j k l m p q r s]; grind
theorem m5_s23 (a : Nat → Nat → Int) (i j k l m p q r s t : Nat) : m5 a i j l k m p q r s t = - m5 a i j k l m p q r s t := by
  unfold m5
  rw [m4_s12 a j k l m q r s t, m4_s12 a j k l m p r s t, m4_s12 a j k l m p q s t, m4_s12 a j k l m p q r t, m4_s12 a j k l m p q r s]; grind
theorem m5_s34 (a : Nat → Nat → Int) (i j k l m p q r s t : Nat) : m5 a i j k m l p q r s t = - m5 a i j k l m p q r s t := by
  unfold m5
  rw [m4_s23 a j k l m q r s t, m4_s23 a j k l m p r s t, m4_s23 a j k l m p q s t, m4_s23 a j k l m p q r t, m4_s23 a j k l m p q r s]; grind
theorem w2_01 (a : Nat → Nat → Int) : m2 a 1 0 0 1 = - m2 a 0 1 0 1 := by
  have := m2_s01 a 0 1 0 1
  omega
theorem w3_01 (a : Nat → Nat → Int) : m3 a 1 0 2 0 1 2 = - m3 a 0 1 2 0 1 2 := by
  have := m3_s01 a 0 1 2 0 1 2
  omega
theorem w3_02 (a : Nat → Nat → Int) : m3 a 2 1 0 0 1 2 = - m3 a 0 1 2 0 1 2 := by
  have := m3_s01 a 1 2 0 0 1 2
  have := m3_s12 a 1 0 2 0 1 2
  have := m3_s01 a 0 1 2 0 1 2
  omega
theorem w3_12 (a : Nat → Nat → Int) : m3 a 0 2 1 0 1 2 = - m3 a 0 1 2 0 1 2 := by
  have := m3_s12 a 0 1 2 0 1 2
  omega
theorem w4_01 (a : Nat → Nat → Int) : m4 a 1 0 2 3 0 1 2 3 = - m4 a 0 1 2 3 0 1 2 3 := by
  have := m4_s01 a 0 1 2 3 0 1 2 3
  omega
theorem w4_02 (a : Nat → Nat → Int) : m4 a 2 1 0 3 0 1 2 3 = - m4 a 0 1 2 3 0 1 2 3 := by
  have := m4_s01 a 1 2 0 3 0 1 2 3
  have := m4_s12 a 1 0 2 3 0 1 2 3
  have := m4_s01 a 0 1 2 3 0 1 2 3
  omega
theorem w4_03 (a : Nat → Nat → Int) : m4 a 3 1 2 0 0 1 2 3 = - m4 a 0 1 2 3 0 1 2 3 := by
  have := m4_s01 a 1 3 2 0 0 1 2 3
  have := m4_s12 a 1 2 3 0 0 1 2 3
  have := m4_s23 a 1 2 0 3 0 1 2 3
  have := m4_s12 a 1 0 2 3 0 1 2 3
  have := m4_s01 a 0 1 2 3 0 1 2 3
  omega
theorem w4_12 (a : Nat → Nat → Int) : m4 a 0 2 1 3 0 1 2 3 = - m4 a 0 1 2 3 0 1 2 3 := by
  have := m4_s12 a 0 1 2 3 0 1 2 3
  omega
theorem w4_13 (a : Nat → Nat → Int) : m4 a 0 3 2 1 0 1 2 3 = - m4 a 0 1 2 3 0 1 2 3 := by
  have := m4_s12 a 0 2 3 1 0 1 2 3
  have := m4_s23 a 0 2 1 3 0 1 2 3
  have := m4_s12 a 0 1 2 3 0 1 2 3
  omega
theorem w4_23 (a : Nat → Nat → Int) : m4 a 0 1 3 2 0 1 2 3 = - m4 a 0 1 2 3 0 1 2 3 := by
  have := m4_s23 a 0 1 2 3 0 1 2 3
  omega
theorem w5_01 (a : Nat → Nat → Int) : m5 a 1 0 2 3 4 0 1 2 3 4 = - m5 a 0 1 2 3 4 0 1 2 3 4 := by
  have := m5_s01 a 0 1 2 3 4 0 1 2 3 4
  omega
theorem w5_02 (a : Nat → Nat → Int) : m5 a 2 1 0 3 4 0 1 2 3 4 = - m5 a 0 1 2 3 4 0 1 2 3 4 := by
  have := m5_s01 a 1 2 0 3 4 0 1 2 3 4
  have := m5_s12 a 1 0 2 3 4 0 1 2 3 4
  have := m5_s01 a 0 1 2 3 4 0 1 2 3 4
  omega
theorem w5_03 (a : Nat → Nat → Int) : m5 a 3 1 2 0 4 0 1 2 3 4 = - m5 a 0 1 2 3 4 0 1 2 3 4 := by
  have := m5_s01 a 1 3 2 0 4 0 1 2 3 4
  have := m5_s12 a 1 2 3 0 4 0 1 2 3 4
  have := m5_s23 a 1 2 0 3 4 0 1 2 3 4
  have := m5_s12 a 1 0 2 3 4 0 1 2 3 4
  have := m5_s01 a 0 1 2 3 4 0 1 2 3 4
  omega
theorem w5_04 (a : Nat → Nat → Int) : m5 a 4 1 2 3 0 0 1 2 3 4 = - m5 a 0 1 2 3 4 0 1 2 3 4 := by
  have := m5_s01 a 1 4 2 3 0 0 1 2 3 4
  have := m5_s12 a 1 2 4 3 0 0 1 2 3 4
  have := m5_s23 a 1 2 3 4 0 0 1 2 3 4
  have := m5_s34 a 1 2 3 0 4 0 1 2 3 4
  have := m5_s23 a 1 2 0 3 4 0 1 2 3 4
  have := m5_s12 a 1 0 2 3 4 0 1 2 3 4
  have := m5_s01 a 0 1 2 3 4 0 1 2 3 4
  omega
theorem w5_12 (a : Nat → Nat → Int) : m5 a 0 2 1 3 4 0 1 2 3 4 = - m5 a 0 1 2 3 4 0 1 2 3 4 := by
  have := m5_s12 a 0 1 2 3 4 0 1 2 3 4
  omega
theorem w5_13 (a : Nat → Nat → Int) : m5 a 0 3 2 1 4 0 1 2 3 4 = - m5 a 0 1 2 3 4 0 1 2 3 4 := by
  have := m5_s12 a 0 2 3 1 4 0 1 2 3 4
  have := m5_s23 a 0 2 1 3 4 0 1 2 3 4
  have := m5_s12 a 0 1 2 3 4 0 1 2 3 4
  omega
theorem w5_14 (a : Nat → Nat → Int) : m5 a 0 4 2 3 1 0 1 2 3 4 = - m5 a 0 1 2 3 4 0 1 2 3 4 := by
  have := m5_s12 a 0 2 4 3 1 0 1 2 3 4
  have := m5_s23 a 0 2 3 4 1 0 1 2 3 4
  have := m5_s34 a 0 2 3 1 4 0 1 2 3 4
  have := m5_s23 a 0 2 1 3 4 0 1 2 3 4
  have := m5_s12 a 0 1 2 3 4 0 1 2 3 4
  omega
theorem w5_23 (a : Nat → Nat → Int) : m5 a 0 1 3 2 4 0 1 2 3 4 = - m5 a 0 1 2 3 4 0 1 2 3 4 := by
  have := m5_s23 a 0 1 2 3 4 0 1 2 3 4
  omega
theorem w5_24 (a : Nat → Nat → Int) : m5 a 0 1 4 3 2 0 1 2 3 4 = - m5 a 0 1 2 3 4 0 1 2 3 4 := by
  have := m5_s23 a 0 1 3 4 2 0 1 2 3 4
  have := m5_s34 a 0 1 3 2 4 0 1 2 3 4
  have := m5_s23 a 0 1 2 3 4 0 1 2 3 4
  omega
theorem w5_34 (a : Nat → Nat → Int) : m5 a 0 1 2 4 3 0 1 2 3 4 = - m5 a 0 1 2 3 4 0 1 2 3 4 := by
  have := m5_s34 a 0 1 2 3 4 0 1 2 3 4
  omega

theorem dt1 (a : Nat → Nat → Int) : dt 1 a = a 0 0 := by simp [dt, sumTo, sgn]
theorem dt2 (a : Nat → Nat → Int) : dt 2 a = m2 a 0 1 0 1 := by simp [dt, sumTo, sgn, del, m2]; grind
theorem dt3 (a : Nat → Nat → Int) : dt 3 a = m3 a 0 1 2 0 1 2 := by
  rw [dt]; simp only [sumTo, dt2]; simp [sgn, del, m3, m2]; grind
theorem dt4 (a : Nat → Nat → Int) : dt 4 a = m4 a 0 1 2 3 0 1 2 3 := by
  rw [dt]; simp only [sumTo, dt3]; simp [sgn, del, m4, m3, m2]; grind
theorem dt5 (a : Nat → Nat → Int) : dt 5 a = m5 a 0 1 2 3 4 0 1 2 3 4 := by
  rw [dt]; simp only [sumTo, dt4]; simp [sgn, del, m5, m4, m3, m2]; grind
theorem m4_last (a : Nat → Nat → Int) (i j k l p q r s : Nat) : m4 a i j k l p q r s = - (a l p * m3 a i j k q r s) + a l q * m3 a i j k p r s - a l r * m3 a i j k p q s + a l s * m3 a i j k p q r := by
  unfold m4 m3 m2; grind
theorem m5_last2 (a : Nat → Nat → Int) (i j k l m p q r s t : Nat) : m5 a i j k l m p q r s t =
    m2 a l m p q * m3 a i j k r s t - m2 a l m p r * m3 a i j k q s t + m2 a l m p s * m3 a i j k q r t - m2 a l m p t * m3 a i j k q r s + m2 a l m q r * m3 a i j k p s t
    - m2 a l m q s * m3 a i j k p r t + m2 a l m q t * m3 a i j k p r s + m2 a l m r s * m3 a i j k p q t - m2 a l m r t * m3 a i j k p q s + m2 a l m s t * m3 a i j k p q r := by
  unfold m5 m4 m3 m2; grind
theorem plu01 (a : Nat → Nat → Int) (k : Nat) : m3 a 0 1 2 1 2 k * m3 a 0 1 2 0 2 3 - m3 a 0 1 2 1 2 3 * m3 a 0 1 2 0 2 k = m3 a 0 1 2 0 1 2 * m3 a 0 1 2 2 3 k := by
  unfold m3 m2; grind
theorem plu02 (a : Nat → Nat → Int) (k : Nat) : m3 a 0 1 2 1 2 3 * m3 a 0 1 2 0 1 k - m3 a 0 1 2 1 2 k * m3 a 0 1 2 0 1 3 = - (m3 a 0 1 2 0 1 2 * m3 a 0 1 2 1 3 k) := by
  unfold m3 m2; grind
theorem plu12 (a : Nat → Nat → Int) (k : Nat) : m3 a 0 1 2 0 2 k * m3 a 0 1 2 0 1 3 - m3 a 0 1 2 0 2 3 * m3 a 0 1 2 0 1 k = m3 a 0 1 2 0 1 2 * m3 a 0 1 2 0 3 k := by
  unfold m3 m2; grind
theorem step3 (a : Nat → Nat → Int) (i k : Nat) : m4 a 0 1 2 i 0 1 2 k * m4 a 0 1 2 3 0 1 2 3 - m4 a 0 1 2 i 0 1 2 3 * m4 a 0 1 2 3 0 1 2 k = m3 a 0 1 2 0 1 2 * m5 a 0 1 2 3 i 0 1 2 3 k := by
  have h1 := plu01 a k
  have h2 := plu02 a k
  have h3 := plu12 a k
  rw [m4_last a 0 1 2 i 0 1 2 k, m4_last a 0 1 2 3 0 1 2 3, m4_last a 0 1 2 i 0 1 2 3, m4_last a 0 1 2 3 0 1 2 k, m5_last2]
  generalize m3 a 0 1 2 0 1 2 = P at *
  generalize m3 a 0 1 2 1 2 k = x1 at *
  generalize m3 a 0 1 2 0 2 3 = x2 at *
  generalize m3 a 0 1 2 1 2 3 = x3 at *
  generalize m3 a 0 1 2 0 2 k = x4 at *
  generalize m3 a 0 1 2 0 1 k = x5 at *
  generalize m3 a 0 1 2 0 1 3 = x6 at *
  generalize m3 a 0 1 2 2 3 k = x7 at *
  generalize m3 a 0 1 2 1 3 k = x8 at *
  generalize m3 a 0 1 2 0 3 k = x9 at *
  unfold m2
  grind
theorem T_step (a : Nat → Nat → Int) (c i k : Nat) (hc : c < 4) : T a c i k * T a c c c - T a c i c * T a c c k = lastT a c * T a (c + 1) i k := by
  obtain rfl | rfl | rfl | rfl : c = 0 ∨ c = 1 ∨ c = 2 ∨ c = 3 := by omega
  · simp only [T, lastT, m2]; grind
  · simp only [T, lastT, m2, m3]; grind
  · simp only [T, lastT, m2, m3, m4]; grind
  · exact step3 a i k
/-- Two numbers exchanged. -/
def sw (c r i : Nat) : Nat := if i = c then r else if i = r then c else i
def rowsSw (c r : Nat) (a : Nat → Nat → Int) : Nat → Nat → Int := fun i j => a (sw c r i) j
theorem T_sw (a : Nat → Nat → Int) (c r e i k : Nat) (he : e ≤ c) (hcr : c < r) (hc : c ≤ 4) : T (rowsSw c r a) e i k = T a e (sw c r i) k := by
  have h : ∀ x, x < c → sw c r x = x := fun x hx => by unfold sw; rw [if_neg (by omega), if_neg (by omega)]
  obtain rfl | rfl | rfl | rfl | rfl : e = 0 ∨ e = 1 ∨ e = 2 ∨ e = 3 ∨ e = 4 := by omega
  · rfl
  · simp only [T, m2, rowsSw, h 0 (by omega)]
  · simp only [T, m3, m2, rowsSw, h 0 (by omega), h 1 (by omega)]
  · simp only [T, m4, m3, m2, rowsSw, h 0 (by omega), h 1 (by omega), h 2 (by omega)]
  · simp only [T, m5, m4, m3, m2, rowsSw, h 0 (by omega), h 1 (by omega), h 2 (by omega), h 3 (by omega)]
theorem dt_sw (a : Nat → Nat → Int) (n c r : Nat) (hcr : c < r) (hr : r < n) (hn : n ≤ 5) : dt n (rowsSw c r a) = - dt n a := by
  obtain rfl | rfl | rfl | rfl : n = 2 ∨ n = 3 ∨ n = 4 ∨ n = 5 := by omega
  · rw [dt2, dt2]
    obtain ⟨rfl, rfl⟩ : (c = 0 ∧ r = 1) := by omega
    · exact w2_01 a
  · rw [dt3, dt3]
    obtain ⟨rfl, rfl⟩ | ⟨rfl, rfl⟩ | ⟨rfl, rfl⟩ : (c = 0 ∧ r = 1) ∨ (c = 0 ∧ r = 2) ∨ (c = 1 ∧ r = 2) := by omega
    · exact w3_01 a
    · exact w3_02 a
    · exact w3_12 a
  · rw [dt4, dt4]
    obtain ⟨rfl, rfl⟩ | ⟨rfl, rfl⟩ | ⟨rfl, rfl⟩ | ⟨rfl, rfl⟩ | ⟨rfl, rfl⟩ | ⟨rfl, rfl⟩ : (c = 0 ∧ r = 1) ∨ (c = 0 ∧ r = 2) ∨ (c = 0 ∧ r = 3) ∨ (c = 1 ∧ r = 2) ∨ (c = 1 ∧ r = 3) ∨ (c = 2 ∧ r = 3) := by omega
    · exact w4_01 a
    · exact w4_02 a
    · exact w4_03 a
    · exact w4_12 a
    · exact w4_13 a
    · exact w4_23 a
  · rw [dt5, dt5]
    obtain ⟨rfl, rfl⟩ | ⟨rfl, rfl⟩ | ⟨rfl, rfl⟩ | ⟨rfl, rfl⟩ | ⟨rfl, rfl⟩ | ⟨rfl, rfl⟩ | ⟨rfl, rfl⟩ | ⟨rfl, rfl⟩ | ⟨rfl, rfl⟩ | ⟨rfl, rfl⟩ : (c = 0 ∧ r = 1) ∨ (c = 0 ∧ r = 2) ∨ (c = 0 ∧ r = 3) ∨ (c = 0 ∧ r = 4) ∨ (c = 1 ∧ r = 2) ∨ (c = 1 ∧ r = 3) ∨ (c = 1 ∧ r = 4) ∨ (c = 2 ∧ r = 3) ∨ (c = 2 ∧ r = 4) ∨ (c = 3 ∧ r = 4) := by omega
    · exact w5_01 a
    · exact w5_02 a
    · exact w5_03 a
    · exact w5_04 a
    · exact w5_12 a
    · exact w5_13 a
    · exact w5_14 a
    · exact w5_23 a
    · exact w5_24 a
    · exact w5_34 a

theorem dt_T (a : Nat → Nat → Int) (n : Nat) (h1 : 1 ≤ n) (hn : n ≤ 5) : dt n a = lastT a n := by
  obtain rfl | rfl | rfl | rfl | rfl : n = 1 ∨ n = 2 ∨ n = 3 ∨ n = 4 ∨ n = 5 := by omega
  · exact dt1 a
  · exact dt2 a
  · exact dt3 a
  · exact dt4 a
  · exact dt5 a
theorem mul_zero_of {p x : Int} (hp : p ≠ 0) (h : p * x = 0) : x = 0 := (Int.mul_eq_zero.1 h).resolve_left hp
theorem dt_zero (a : Nat → Nat → Int) (n c : Nat) (hc : c < n) (hn : n ≤ 5) (hp : lastT a c ≠ 0) (h : ∀ i, c ≤ i → i < n → T a c i c = 0) : dt n a = 0 := by
  by_cases e : n = c + 1
  · subst e
    rw [dt_T a (c + 1) (by omega) hn]
    exact h c (Nat.le_refl _) hc
  by_cases e2 : n = c + 2
  · subst e2
    rw [dt_T a (c + 2) (by omega) hn]
    refine mul_zero_of hp ?_
    have := T_step a c (c + 1) (c + 1) (by omega)
    show lastT a c * T a (c + 1) (c + 1) (c + 1) = 0
    rw [← this, h c (Nat.le_refl _) (by omega), h (c + 1) (by omega) (by omega)]
    simp
  obtain ⟨rfl, rfl⟩ | ⟨rfl, rfl⟩ | ⟨rfl, rfl⟩ | ⟨rfl, rfl⟩ | ⟨rfl, rfl⟩ | ⟨rfl, rfl⟩ : (n = 3 ∧ c = 0) ∨ (n = 4 ∧ c = 0) ∨ (n = 5 ∧ c = 0) ∨ (n = 4 ∧ c = 1) ∨ (n = 5 ∧ c = 1) ∨ (n = 5 ∧ c = 2) := by omega
  · have h0 : a 0 0 = 0 := h 0 (by omega) (by omega)
    have h1 : a 1 0 = 0 := h 1 (by omega) (by omega)
    have h2 : a 2 0 = 0 := h 2 (by omega) (by omega)
    rw [dt3]; simp [m3, m2, h0, h1, h2]
  · have h0 : a 0 0 = 0 := h 0 (by omega) (by omega)
    have h1 : a 1 0 = 0 := h 1 (by omega) (by omega)
    have h2 : a 2 0 = 0 := h 2 (by omega) (by omega)
    have h3 : a 3 0 = 0 := h 3 (by omega) (by omega)
    rw [dt4]; simp [m4, m3, m2, h0, h1, h2, h3]
  · have h0 : a 0 0 = 0 := h 0 (by omega) (by omega)
    have h1 : a 1 0 = 0 := h 1 (by omega) (by omega)
    have h2 : a 2 0 = 0 := h 2 (by omega) (by omega)
    have h3 : a 3 0 = 0 := h 3 (by omega) (by omega)
    have h4 : a 4 0 = 0 := h 4 (by omega) (by omega)
    rw [dt5]; simp [m5, m4, m3, m2, h0, h1, h2, h3, h4]
  · have h1 : m2 a 0 1 0 1 = 0 := h 1 (by omega) (by omega)
    have h2 : m2 a 0 2 0 1 = 0 := h 2 (by omega) (by omega)
    have h3 : m2 a 0 3 0 1 = 0 := h 3 (by omega) (by omega)
    rw [dt4]; refine mul_zero_of hp ?_; show a 0 0 * _ = 0; rw [ring1, h1, h2, h3]; simp
  · have h1 : m2 a 0 1 0 1 = 0 := h 1 (by omega) (by omega)
    have h2 : m2 a 0 2 0 1 = 0 := h 2 (by omega) (by omega)
    have h3 : m2 a 0 3 0 1 = 0 := h 3 (by omega) (by omega)
    have h4 : m2 a 0 4 0 1 = 0 := h 4 (by omega) (by omega)
    rw [dt5]; refine mul_zero_of hp ?_; show a 0 0 * _ = 0; rw [ring2, h1, h2, h3, h4]; simp
  · have h2 : m3 a 0 1 2 0 1 2 = 0 := h 2 (by omega) (by omega)
    have h3 : m3 a 0 1 3 0 1 2 = 0 := h 3 (by omega) (by omega)
    have h4 : m3 a 0 1 4 0 1 2 = 0 := h 4 (by omega) (by omega)
    rw [dt5]; refine mul_zero_of hp ?_; show m2 a 0 1 0 1 * _ = 0; rw [ring3, h2, h3, h4]; simp
/-- Within a bound, with both signs. -/
def Bd (B x : Int) : Prop := -B ≤ x ∧ x ≤ B
theorem Bd.nonneg {B x : Int} (h : Bd B x) : 0 ≤ B := by unfold Bd at h; omega
theorem Bd.mono {A B x : Int} (h : Bd A x) (hab : A ≤ B) : Bd B x := by unfold Bd at *; omega
theorem Bd.mul {A B x y : Int} (h : Bd A x) (k : Bd B y) : Bd (A * B) (x * y) := by
  have hA := h.nonneg
  have hB := k.nonneg
  unfold Bd at *
  have e1 : x.natAbs ≤ A.natAbs := by omega
  have e2 : y.natAbs ≤ B.natAbs := by omega
  have e3 : (x * y).natAbs ≤ (A * B).natAbs := by rw [Int.natAbs_mul, Int.natAbs_mul]; exact Nat.mul_le_mul e1 e2
  have e4 : 0 ≤ A * B := Int.mul_nonneg hA hB
  omega
theorem Bd.add {A B x y : Int} (h : Bd A x) (k : Bd B y) : Bd (A + B) (x + y) := by unfold Bd at *; omega
theorem Bd.sub {A B x y : Int} (h : Bd A x) (k : Bd B y) : Bd (A + B) (x - y) := by unfold Bd at *; omega
theorem Bd.neg {A x : Int} (h : Bd A x) : Bd A (-x) := by unfold Bd at *; omega
/-- One column may have numbers five times as large. -/
def u (j0 p : Nat) : Int := if p = j0 then 5 else 1
theorem m2_bd {a : Nat → Nat → Int} {j0 : Nat} (h : ∀ i j, Bd (20 * u j0 j) (a i j)) (i j p q : Nat) : Bd (800 * (u j0 p * u j0 q)) (m2 a i j p q) := by
  have := ((h i p).mul (h j q)).sub ((h i q).mul (h j p))
  unfold m2
  rw [show (800 * (u j0 p * u j0 q) : Int) = 20 * u j0 p * (20 * u j0 q) + 20 * u j0 q * (20 * u j0 p) by grind]
  exact this
theorem m3_bd {a : Nat → Nat → Int} {j0 : Nat} (h : ∀ i j, Bd (20 * u j0 j) (a i j)) (i j k p q r : Nat) : Bd (48000 * (u j0 p * u j0 q * u j0 r)) (m3 a i j k p q r) := by
  have := (((h i p).mul (m2_bd h j k q r)).sub ((h i q).mul (m2_bd h j k p r))).add ((h i r).mul (m2_bd h j k p q))
  unfold m3
  rw [show (48000 * (u j0 p * u j0 q * u j0 r) : Int) = 20 * u j0 p * (800 * (u j0 q * u j0 r)) + 20 * u j0 q * (800 * (u j0 p * u j0 r)) + 20 * u j0 r * (800 * (u j0 p * u j0 q)) by grind]
  exact this
theorem m4_bd {a : Nat → Nat → Int} {j0 : Nat} (h : ∀ i j, Bd (20 * u j0 j) (a i j)) (i j k l p q r s : Nat) : Bd (3840000 * (u j0 p * u j0 q * u j0 r * u j0 s)) (m4 a i j k l p q r s) := by
  have := ((((h i p).mul (m3_bd h j k l q r s)).sub ((h i q).mul (m3_bd h j k l p r s))).add ((h i r).mul (m3_bd h j k l p q s))).sub ((h i s).mul (m3_bd h j k l p q r))
  unfold m4
  rw [show (3840000 * (u j0 p * u j0 q * u j0 r * u j0 s) : Int) = 20 * u j0 p * (48000 * (u j0 q * u j0 r * u j0 s)) + 20 * u j0 q * (48000 * (u j0 p * u j0 r * u j0 s)) + 20 * u j0 r * (48000 * (u j0 p * u j0 q * u j0 s)) + 20 * u j0 s * (48000 * (u j0 p * u j0 q * u j0 r)) by grind]
  exact this
theorem m5_bd {a : Nat → Nat → Int} {j0 : Nat} (h : ∀ i j, Bd (20 * u j0 j) (a i j)) (i j k l m p q r s t : Nat) : Bd (384000000 * (u j0 p * u j0 q * u j0 r * u j0 s * u j0 t)) (m5 a i j k l m p q r s t) := by
  have := (((((h i p).mul (m4_bd h j k l m q r s t)).sub ((h i q).mul (m4_bd h j k l m p r s t))).add ((h i r).mul (m4_bd h j k l m p q s t))).sub ((h i s).mul (m4_bd h j k l m p q r t))).add ((h i t).mul (m4_bd h j k l m p q r s))
  unfold m5
  rw [show (384000000 * (u j0 p * u j0 q * u j0 r * u j0 s * u j0 t) : Int) = 20 * u j0 p * (3840000 * (u j0 q * u j0 r * u j0 s * u j0 t)) + 20 * u j0 q * (3840000 * (u j0 p * u j0 r * u j0 s * u j0 t)) + 20 * u j0 r * (3840000 * (u j0 p * u j0 q * u j0 s * u j0 t)) + 20 * u j0 s * (3840000 * (u j0 p * u j0 q * u j0 r * u j0 t)) + 20 * u j0 t * (3840000 * (u j0 p * u j0 q * u j0 r * u j0 s)) by grind]
  exact this
/-- The bounds of what stands when c columns are eliminated. -/
def capT (c : Nat) : Int := match c with | 0 => 100 | 1 => 4000 | 2 => 240000 | 3 => 19200000 | _ => 1920000000
theorem T_bd {a : Nat → Nat → Int} {j0 : Nat} (h : ∀ i j, Bd (20 * u j0 j) (a i j)) (c i k : Nat) (hk : c ≤ k) (hc : c ≤ 4) : Bd (capT c) (T a c i k) := by
  obtain rfl | rfl | rfl | rfl | rfl : c = 0 ∨ c = 1 ∨ c = 2 ∨ c = 3 ∨ c = 4 := by omega
  · refine (h i k).mono ?_; show _ ≤ (100 : Int); unfold u; split <;> omega
  · refine (m2_bd h 0 i 0 k).mono ?_; show _ ≤ (4000 : Int); unfold u; split <;> split <;> omega
  · refine (m3_bd h 0 1 i 0 1 k).mono ?_; show _ ≤ (240000 : Int); unfold u; split <;> split <;> split <;> omega
  · refine (m4_bd h 0 1 2 i 0 1 2 k).mono ?_; show _ ≤ (19200000 : Int); unfold u; split <;> split <;> split <;> split <;> omega
  · refine (m5_bd h 0 1 2 3 i 0 1 2 3 k).mono ?_; show _ ≤ (1920000000 : Int); unfold u; split <;> split <;> split <;> split <;> split <;> omega

/-! ### Hadamard's bound -/
def sqX : List (Int × Int) → Int
  | [] => 0
  | p :: l => p.1 * p.1 + sqX l
def sqY : List (Int × Int) → Int
  | [] => 0
  | p :: l => p.2 * p.2 + sqY l
def prP : List (Int × Int) → Int
  | [] => 0
  | p :: l => p.1 * p.2 + prP l
theorem sq_nonneg (x : Int) : 0 ≤ x * x := by
  rcases Int.le_total 0 x with h | h
  · exact Int.mul_nonneg h h
  · exact Int.mul_nonneg_of_nonpos_of_nonpos h h
theorem cs1 (l : List (Int × Int)) (x y : Int) : 0 ≤ sqX l * (y * y) + sqY l * (x * x) - 2 * (prP l * (x * y)) := by
  induction l with
  | nil => simp [sqX, sqY, prP]
  | cons p l ih =>
    have e : sqX (p :: l) * (y * y) + sqY (p :: l) * (x * x) - 2 * (prP (p :: l) * (x * y)) = (sqX l * (y * y) + sqY l * (x * x) - 2 * (prP l * (x * y))) + (p.1 * y - p.2 * x) * (p.1 * y - p.2 * x) := by
      simp only [sqX, sqY, prP]; grind
    rw [e]
    exact Int.add_nonneg ih (sq_nonneg _)
theorem cs2 (l : List (Int × Int)) : prP l * prP l ≤ sqX l * sqY l := by
  induction l with
  | nil => simp [sqX, sqY, prP]
  | cons p l ih =>
    have h1 := cs1 l p.1 p.2
    have e : sqX (p :: l) * sqY (p :: l) - prP (p :: l) * prP (p :: l) = (sqX l * sqY l - prP l * prP l) + (sqX l * (p.2 * p.2) + sqY l * (p.1 * p.1) - 2 * (prP l * (p.1 * p.2))) := by
      simp only [sqX, sqY, prP]; grind
    have h2 : 0 ≤ sqX l * sqY l - prP l * prP l := Int.sub_nonneg_of_le ih
    have h3 := Int.add_nonneg h2 h1
    rw [← e] at h3
    exact Int.le_of_sub_nonneg h3
/-- The sum of the squares of a column. -/
def nq (a : Nat → Nat → Int) (p : Nat) : Int := a 0 p * a 0 p + a 1 p * a 1 p + a 2 p * a 2 p + a 3 p * a 3 p + a 4 p * a 4 p
theorem lagr (x0 x1 x2 x3 x4 y0 y1 y2 y3 y4 : Int) :
    (x0 * x0 + x1 * x1 + x2 * x2 + x3 * x3 + x4 * x4) * (y0 * y0 + y1 * y1 + y2 * y2 + y3 * y3 + y4 * y4) - (x0 * y0 + x1 * y1 + x2 * y2 + x3 * y3 + x4 * y4) * (x0 * y0 + x1 * y1 + x2 * y2 + x3 * y3 + x4 * y4) =
    (x0 * y1 - y0 * x1) * (x0 * y1 - y0 * x1) + (x0 * y2 - y0 * x2) * (x0 * y2 - y0 * x2) + (x0 * y3 - y0 * x3) * (x0 * y3 - y0 * x3) + (x0 * y4 - y0 * x4) * (x0 * y4 - y0 * x4) + (x1 * y2 - y1 * x2) * (x1 * y2 - y1 * x2) + (x1 * y3 - y1 * x3) * (x1 * y3 - y1 * x3) + (x1 * y4 - y1 * x4) * (x1 * y4 - y1 * x4) + (x2 * y3 - y2 * x3) * (x2 * y3 - y2 * x3) + (x2 * y4 - y2 * x4) * (x2 * y4 - y2 * x4) + (x3 * y4 - y3 * x4) * (x3 * y4 - y3 * x4) := by grind
/-- The squares of all pairs of two columns. -/
def pq (a : Nat → Nat → Int) (p q : Nat) : Int :=
  m2 a 0 1 p q * m2 a 0 1 p q + m2 a 0 2 p q * m2 a 0 2 p q + m2 a 0 3 p q * m2 a 0 3 p q + m2 a 0 4 p q * m2 a 0 4 p q + m2 a 1 2 p q * m2 a 1 2 p q + m2 a 1 3 p q * m2 a 1 3 p q + m2 a 1 4 p q * m2 a 1 4 p q + m2 a 2 3 p q * m2 a 2 3 p q + m2 a 2 4 p q * m2 a 2 4 p q + m2 a 3 4 p q * m2 a 3 4 p q
theorem pq_le (a : Nat → Nat → Int) (p q : Nat) : pq a p q ≤ nq a p * nq a q := by
  have h := lagr (a 0 p) (a 1 p) (a 2 p) (a 3 p) (a 4 p) (a 0 q) (a 1 q) (a 2 q) (a 3 q) (a 4 q)
  have h2 := sq_nonneg (a 0 p * a 0 q + a 1 p * a 1 q + a 2 p * a 2 q + a 3 p * a 3 q + a 4 p * a 4 q)
  unfold pq nq m2
  omega
theorem wedge (u0 u1 u2 u3 u4 w01 w02 w03 w04 w12 w13 w14 w23 w24 w34 : Int) :
    (u0 * u0 + u1 * u1 + u2 * u2 + u3 * u3 + u4 * u4) * (w01 * w01 + w02 * w02 + w03 * w03 + w04 * w04 + w12 * w12 + w13 * w13 + w14 * w14 + w23 * w23 + w24 * w24 + w34 * w34) =
    ((u0 * w12 - u1 * w02 + u2 * w01) * (u0 * w12 - u1 * w02 + u2 * w01) + (u0 * w13 - u1 * w03 + u3 * w01) * (u0 * w13 - u1 * w03 + u3 * w01) + (u0 * w14 - u1 * w04 + u4 * w01) * (u0 * w14 - u1 * w04 + u4 * w01) +
     (u0 * w23 - u2 * w03 + u3 * w02) * (u0 * w23 - u2 * w03 + u3 * w02) + (u0 * w24 - u2 * w04 + u4 * w02) * (u0 * w24 - u2 * w04 + u4 * w02) + (u0 * w34 - u3 * w04 + u4 * w03) * (u0 * w34 - u3 * w04 + u4 * w03) +
     (u1 * w23 - u2 * w13 + u3 * w12) * (u1 * w23 - u2 * w13 + u3 * w12) + (u1 * w24 - u2 * w14 + u4 * w12) * (u1 * w24 - u2 * w14 + u4 * w12) + (u1 * w34 - u3 * w14 + u4 * w13) * (u1 * w34 - u3 * w14 + u4 * w13) + (u2 * w34 - u3 * w24 + u4 * w23) * (u2 * w34 - u3 * w24 + u4 * w23)) +
    ((- u1 * w01 - u2 * w02 - u3 * w03 - u4 * w04) * (- u1 * w01 - u2 * w02 - u3 * w03 - u4 * w04) + (u0 * w01 - u2 * w12 - u3 * w13 - u4 * w14) * (u0 * w01 - u2 * w12 - u3 * w13 - u4 * w14) + (u0 * w02 + u1 * w12 - u3 * w23 - u4 * w24) * (u0 * w02 + u1 * w12 - u3 * w23 - u4 * w24) +
     (u0 * w03 + u1 * w13 + u2 * w23 - u4 * w34) * (u0 * w03 + u1 * w13 + u2 * w23 - u4 * w34) + (u0 * w04 + u1 * w14 + u2 * w24 + u3 * w34) * (u0 * w04 + u1 * w14 + u2 * w24 + u3 * w34)) := by grind

/-- The squares of all triples of three columns. -/
def tq (a : Nat → Nat → Int) (p q r : Nat) : Int :=
  m3 a 0 1 2 p q r * m3 a 0 1 2 p q r + m3 a 0 1 3 p q r * m3 a 0 1 3 p q r + m3 a 0 1 4 p q r * m3 a 0 1 4 p q r + m3 a 0 2 3 p q r * m3 a 0 2 3 p q r + m3 a 0 2 4 p q r * m3 a 0 2 4 p q r + m3 a 0 3 4 p q r * m3 a 0 3 4 p q r + m3 a 1 2 3 p q r * m3 a 1 2 3 p q r + m3 a 1 2 4 p q r * m3 a 1 2 4 p q r + m3 a 1 3 4 p q r * m3 a 1 3 4 p q r + m3 a 2 3 4 p q r * m3 a 2 3 4 p q r
theorem m3_col (a : Nat → Nat → Int) (i j k p q r : Nat) : m3 a i j k p q r = a i p * m2 a j k q r - a j p * m2 a i k q r + a k p * m2 a i j q r := by
  unfold m3 m2; grind
theorem tq_le (a : Nat → Nat → Int) (p q r : Nat) : tq a p q r ≤ nq a p * pq a q r := by
  have h := wedge (a 0 p) (a 1 p) (a 2 p) (a 3 p) (a 4 p) (m2 a 0 1 q r) (m2 a 0 2 q r) (m2 a 0 3 q r) (m2 a 0 4 q r) (m2 a 1 2 q r) (m2 a 1 3 q r) (m2 a 1 4 q r) (m2 a 2 3 q r) (m2 a 2 4 q r) (m2 a 3 4 q r)
  unfold nq pq
  rw [h]
  unfold tq
  simp only [m3_col]
  have := sq_nonneg (- a 1 p * m2 a 0 1 q r - a 2 p * m2 a 0 2 q r - a 3 p * m2 a 0 3 q r - a 4 p * m2 a 0 4 q r)
  have := sq_nonneg (a 0 p * m2 a 0 1 q r - a 2 p * m2 a 1 2 q r - a 3 p * m2 a 1 3 q r - a 4 p * m2 a 1 4 q r)
  have := sq_nonneg (a 0 p * m2 a 0 2 q r + a 1 p * m2 a 1 2 q r - a 3 p * m2 a 2 3 q r - a 4 p * m2 a 2 4 q r)
  have := sq_nonneg (a 0 p * m2 a 0 3 q r + a 1 p * m2 a 1 3 q r + a 2 p * m2 a 2 3 q r - a 4 p * m2 a 3 4 q r)
  have := sq_nonneg (a 0 p * m2 a 0 4 q r + a 1 p * m2 a 1 4 q r + a 2 p * m2 a 2 4 q r + a 3 p * m2 a 3 4 q r)
  omega
theorem m5_lap (a : Nat → Nat → Int) : m5 a 0 1 2 3 4 0 1 2 3 4 = prP [(m2 a 0 1 0 1, m3 a 2 3 4 2 3 4), (- m2 a 0 2 0 1, m3 a 1 3 4 2 3 4), (m2 a 0 3 0 1, m3 a 1 2 4 2 3 4), (- m2 a 0 4 0 1, m3 a 1 2 3 2 3 4), (m2 a 1 2 0 1, m3 a 0 3 4 2 3 4), (- m2 a 1 3 0 1, m3 a 0 2 4 2 3 4), (m2 a 1 4 0 1, m3 a 0 2 3 2 3 4), (m2 a 2 3 0 1, m3 a 0 1 4 2 3 4), (- m2 a 2 4 0 1, m3 a 0 1 3 2 3 4), (m2 a 3 4 0 1, m3 a 0 1 2 2 3 4)] := by
  simp only [prP, m5, m4, m3, m2]; grind
theorem nq_nonneg (a : Nat → Nat → Int) (p : Nat) : 0 ≤ nq a p := by
  unfold nq
  have := sq_nonneg (a 0 p)
  have := sq_nonneg (a 1 p)
  have := sq_nonneg (a 2 p)
  have := sq_nonneg (a 3 p)
  have := sq_nonneg (a 4 p)
  omega
theorem mul_le {a b c d : Int} (h1 : a ≤ b) (h2 : c ≤ d) (h3 : 0 ≤ c) (h4 : 0 ≤ b) : a * c ≤ b * d :=
  Int.le_trans (Int.mul_le_mul_of_nonneg_right h1 h3) (Int.mul_le_mul_of_nonneg_left h2 h4)
theorem hada (a : Nat → Nat → Int) : m5 a 0 1 2 3 4 0 1 2 3 4 * m5 a 0 1 2 3 4 0 1 2 3 4 ≤ (nq a 0 * nq a 1) * (nq a 2 * (nq a 3 * nq a 4)) := by
  rw [m5_lap]
  refine Int.le_trans (cs2 _) ?_
  have hX : sqX [(m2 a 0 1 0 1, m3 a 2 3 4 2 3 4), (- m2 a 0 2 0 1, m3 a 1 3 4 2 3 4), (m2 a 0 3 0 1, m3 a 1 2 4 2 3 4), (- m2 a 0 4 0 1, m3 a 1 2 3 2 3 4), (m2 a 1 2 0 1, m3 a 0 3 4 2 3 4), (- m2 a 1 3 0 1, m3 a 0 2 4 2 3 4), (m2 a 1 4 0 1, m3 a 0 2 3 2 3 4), (m2 a 2 3 0 1, m3 a 0 1 4 2 3 4), (- m2 a 2 4 0 1, m3 a 0 1 3 2 3 4), (m2 a 3 4 0 1, m3 a 0 1 2 2 3 4)] = pq a 0 1 := by
    simp only [sqX, pq]; grind
  have hY : sqY [(m2 a 0 1 0 1, m3 a 2 3 4 2 3 4), (- m2 a 0 2 0 1, m3 a 1 3 4 2 3 4), (m2 a 0 3 0 1, m3 a 1 2 4 2 3 4), (- m2 a 0 4 0 1, m3 a 1 2 3 2 3 4), (m2 a 1 2 0 1, m3 a 0 3 4 2 3 4), (- m2 a 1 3 0 1, m3 a 0 2 4 2 3 4), (m2 a 1 4 0 1, m3 a 0 2 3 2 3 4), (m2 a 2 3 0 1, m3 a 0 1 4 2 3 4), (- m2 a 2 4 0 1, m3 a 0 1 3 2 3 4), (m2 a 3 4 0 1, m3 a 0 1 2 2 3 4)] = tq a 2 3 4 := by
    simp only [sqY, tq]; grind
  rw [hX, hY]
  have h1 := pq_le a 0 1
  have h2 := Int.le_trans (tq_le a 2 3 4) (Int.mul_le_mul_of_nonneg_left (pq_le a 3 4) (nq_nonneg a 2))
  have h3 : 0 ≤ tq a 2 3 4 := by
    unfold tq
    have := sq_nonneg (m3 a 0 1 2 2 3 4)
    have := sq_nonneg (m3 a 0 1 3 2 3 4)
    have := sq_nonneg (m3 a 0 1 4 2 3 4)
    have := sq_nonneg (m3 a 0 2 3 2 3 4)
    have := sq_nonneg (m3 a 0 2 4 2 3 4)
    have := sq_nonneg (m3 a 0 3 4 2 3 4)
    have := sq_nonneg (m3 a 1 2 3 2 3 4)
    have := sq_nonneg (m3 a 1 2 4 2 3 4)
    have := sq_nonneg (m3 a 1 3 4 2 3 4)
    have := sq_nonneg (m3 a 2 3 4 2 3 4)
    omega
  exact mul_le h1 h2 h3 (Int.mul_nonneg (nq_nonneg a 0) (nq_nonneg a 1))
theorem nq_bd {a : Nat → Nat → Int} {j0 : Nat} (h : ∀ i j, Bd (20 * u j0 j) (a i j)) (p : Nat) : nq a p ≤ 2000 * (u j0 p * u j0 p) := by
  have e : ∀ i, a i p * a i p ≤ 20 * u j0 p * (20 * u j0 p) := fun i => ((h i p).mul (h i p)).2
  have h0 := e 0
  have h1 := e 1
  have h2 := e 2
  have h3 := e 3
  have h4 := e 4
  have e2 : 20 * u j0 p * (20 * u j0 p) = 400 * (u j0 p * u j0 p) := by grind
  unfold nq
  omega
theorem m5_had {a : Nat → Nat → Int} {j0 : Nat} (h : ∀ i j, Bd (20 * u j0 j) (a i j)) : Bd 1000000000 (m5 a 0 1 2 3 4 0 1 2 3 4) := by
  have h1 := hada a
  have b := nq_bd h
  have n := nq_nonneg a
  have u0 : ∀ p, 0 ≤ 2000 * (u j0 p * u j0 p) := fun p => Int.le_trans (n p) (b p)
  have h2 := mul_le (mul_le (b 0) (b 1) (n 1) (u0 0)) (mul_le (b 2) (mul_le (b 3) (b 4) (n 4) (u0 3)) (Int.mul_nonneg (n 3) (n 4)) (u0 2)) (Int.mul_nonneg (n 2) (Int.mul_nonneg (n 3) (n 4))) (Int.mul_nonneg (u0 0) (u0 1))
  have h3 : 2000 * (u j0 0 * u j0 0) * (2000 * (u j0 1 * u j0 1)) * (2000 * (u j0 2 * u j0 2) * (2000 * (u j0 3 * u j0 3) * (2000 * (u j0 4 * u j0 4)))) ≤ 800000000000000000 := by
    unfold u; split <;> split <;> split <;> split <;> split <;> omega
  have h4 := Int.le_trans (Int.le_trans h1 h2) h3
  generalize m5 a 0 1 2 3 4 0 1 2 3 4 = x at *
  have hx : x.natAbs < 1000000000 := by
    rcases Nat.lt_or_ge x.natAbs 1000000000 with h | h
    · exact h
    · exfalso
      have := Nat.mul_le_mul h h
      have e : ((x.natAbs * x.natAbs : Nat) : Int) = x * x := Int.natAbs_mul_self' x ▸ by simp
      omega
  unfold Bd
  omega
end Go.Proofs.Ytgncaploccbfnaa.PX
