/-
  Plain mathematics of the elimination without fractions, below and above the diagonal: what stands when c columns are eliminated are minors; the steps keep it. No program is named here.
-/
import Derived.Test.YtgncaploccbfnaaPDet
namespace Go.Proofs.Ytgncaploccbfnaa.PX
/-! ### Columns exchanged -/
theorem m2_c01 (a : Nat → Nat → Int) (i j p q : Nat) : m2 a i j q p = - m2 a i j p q := by unfold m2; grind
theorem m3_c01 (a : Nat → Nat → Int) (i j k p q r : Nat) : m3 a i j k q p r = - m3 a i j k p q r := by
  unfold m3; rw [m2_c01 a j k p q]; grind
theorem m3_c12 (a : Nat → Nat → Int) (i j k p q r : Nat) : m3 a i j k p r q = - m3 a i j k p q r := by
  unfold m3; rw [m2_c01 a j k q r]; grind
theorem m4_c01 (a : Nat → Nat → Int) (i j k l p q r s : Nat) : m4 a i j k l q p r s = - m4 a i j k l p q r s := by
  unfold m4; rw [m3_c01 a j k l p q s, m3_c01 a j k l p q r]; grind
theorem m4_c12 (a : Nat → Nat → Int) (i j k l p q r s : Nat) : m4 a i j k l p r q s = - m4 a i j k l p q r s := by
  unfold m4; rw [m3_c01 a j k l q r s, m3_c12 a j k l p q r]; grind
theorem m4_c23 (a : Nat → Nat → Int) (i j k l p q r s : Nat) : m4 a i j k l p q s r = - m4 a i j k l p q r s := by
  unfold m4; rw [m3_c12 a j k l q r s, m3_c12 a j k l p r s]; grind
theorem m5_c01 (a : Nat → Nat → Int) (i j k l m p q r s t : Nat) : m5 a i j k l m q p r s t = - m5 a i j k l m p q r s t := by
  unfold m5; rw [m4_c01 a j k l m p q s t, m4_c01 a j k l m p q r t, m4_c01 a j k l m p q r s]; grind
theorem m5_c12 (a : Nat → Nat → Int) (i j k l m p q r s t : Nat) : m5 a i j k l m p r q s t = - m5 a i j k l m p q r s t := by
  unfold m5; rw [m4_c01 a j k l m q r s t, m4_c12 a j k l m p q r t, m4_c12 a j k l m p q r s]; grind
theorem m5_c23 (a : Nat → Nat → Int) (i j k l m p q r s t : Nat) : m5 a i j k l m p q s r t = - m5 a i j k l m p q r s t := by
  unfold m5; rw [m4_c12 a j k l m q r s t, m4_c12 a j k l m p r s t, m4_c23 a j k l m p q r s]; grind
theorem m3_c02 (a : Nat → Nat → Int) (i j k p q r : Nat) : m3 a i j k r q p = - m3 a i j k p q r := by
  have := m3_c01 a i j k q r p
  have := m3_c12 a i j k q p r
  have := m3_c01 a i j k p q r
  omega
theorem m4_c02 (a : Nat → Nat → Int) (i j k l p q r s : Nat) : m4 a i j k l r q p s = - m4 a i j k l p q r s := by
  have := m4_c01 a i j k l q r p s
  have := m4_c12 a i j k l q p r s
  have := m4_c01 a i j k l p q r s
  omega
theorem m4_c03 (a : Nat → Nat → Int) (i j k l p q r s : Nat) : m4 a i j k l s q r p = - m4 a i j k l p q r s := by
  have := m4_c02 a i j k l r q s p
  have := m4_c23 a i j k l r q p s
  have := m4_c02 a i j k l p q r s
  omega
theorem m5_c02 (a : Nat → Nat → Int) (i j k l m p q r s t : Nat) : m5 a i j k l m r q p s t = - m5 a i j k l m p q r s t := by
  have := m5_c01 a i j k l m q r p s t
  have := m5_c12 a i j k l m q p r s t
  have := m5_c01 a i j k l m p q r s t
  omega
theorem m5_c03 (a : Nat → Nat → Int) (i j k l m p q r s t : Nat) : m5 a i j k l m s q r p t = - m5 a i j k l m p q r s t := by
  have := m5_c02 a i j k l m r q s p t
  have := m5_c23 a i j k l m r q p s t
  have := m5_c02 a i j k l m p q r s t
  omega
/-! ### A column replaced: one step -/
theorem jor1 (a : Nat → Nat → Int) (p t k : Nat) : a 0 k * m2 a 0 1 p t - a 0 t * m2 a 0 1 p k = a 0 p * m2 a 0 1 k t := by unfold m2; grind
theorem jor2 (a : Nat → Nat → Int) (p q t k : Nat) : m2 a 0 1 k q * m3 a 0 1 2 p q t - m2 a 0 1 t q * m3 a 0 1 2 p q k = m2 a 0 1 p q * m3 a 0 1 2 k q t := by unfold m3 m2; grind
theorem m3_last (a : Nat → Nat → Int) (i j k p q r : Nat) : m3 a i j k p q r = a k p * m2 a i j q r - a k q * m2 a i j p r + a k r * m2 a i j p q := by unfold m3 m2; grind
theorem plk3 (a : Nat → Nat → Int) (k q p t r : Nat) : m3 a 0 1 2 k q r * m3 a 0 1 2 p t r - m3 a 0 1 2 t q r * m3 a 0 1 2 p k r = m3 a 0 1 2 p q r * m3 a 0 1 2 k t r := by
  unfold m3 m2; grind
theorem comb3 {A B D x1 x2 x3 y1 y2 y3 p q r t k : Int} (h1 : A * x1 - B * x2 = D * x3) (h2 : A * y1 - B * y2 = D * y3) :
    A * (-(p * B) + q * x1 - r * y1 + t * D) - B * (-(p * A) + q * x2 - r * y2 + k * D) = D * (-(k * B) + q * x3 - r * y3 + t * A) := by
  have e1 : q * (A * x1 - B * x2) = q * (D * x3) := by rw [h1]
  have e2 : r * (A * y1 - B * y2) = r * (D * y3) := by rw [h2]
  grind
theorem jor3 (a : Nat → Nat → Int) (p q r t k : Nat) : m3 a 0 1 2 k q r * m4 a 0 1 2 3 p q r t - m3 a 0 1 2 t q r * m4 a 0 1 2 3 p q r k = m3 a 0 1 2 p q r * m4 a 0 1 2 3 k q r t := by
  have h1 : m3 a 0 1 2 k q r * m3 a 0 1 2 p r t - m3 a 0 1 2 t q r * m3 a 0 1 2 p r k = m3 a 0 1 2 p q r * m3 a 0 1 2 k r t := by
    have h := plk3 a k q p t r
    rw [m3_c12 a 0 1 2 p r t, m3_c12 a 0 1 2 p r k, m3_c12 a 0 1 2 k r t] at h
    grind
  have h2 : m3 a 0 1 2 k q r * m3 a 0 1 2 p q t - m3 a 0 1 2 t q r * m3 a 0 1 2 p q k = m3 a 0 1 2 p q r * m3 a 0 1 2 k q t := by
    have h := plk3 a k r p t q
    rw [m3_c12 a 0 1 2 p q t, m3_c12 a 0 1 2 p q k, m3_c12 a 0 1 2 k q t, m3_c12 a 0 1 2 k q r, m3_c12 a 0 1 2 t q r, m3_c12 a 0 1 2 p q r] at h
    grind
  have e9 : m3 a 0 1 2 q r k = m3 a 0 1 2 k q r := by have := m3_c02 a 0 1 2 k r q; have := m3_c12 a 0 1 2 k q r; omega
  have e10 : m3 a 0 1 2 q r t = m3 a 0 1 2 t q r := by have := m3_c02 a 0 1 2 t r q; have := m3_c12 a 0 1 2 t q r; omega
  rw [m4_last a 0 1 2 3 p q r t, m4_last a 0 1 2 3 p q r k, m4_last a 0 1 2 3 k q r t, e9, e10]
  exact comb3 h1 h2
theorem m5_last (a : Nat → Nat → Int) (i j k l m p q r s t : Nat) : m5 a i j k l m p q r s t = a m p * m4 a i j k l q r s t - a m q * m4 a i j k l p r s t + a m r * m4 a i j k l p q s t - a m s * m4 a i j k l p q r t + a m t * m4 a i j k l p q r s := by
  unfold m5 m4 m3 m2; grind
theorem lap4 (a : Nat → Nat → Int) (x y r s : Nat) : m4 a 0 1 2 3 x y r s = m2 a 0 1 x y * m2 a 2 3 r s - m2 a 0 2 x y * m2 a 1 3 r s + m2 a 0 3 x y * m2 a 1 2 r s + m2 a 1 2 x y * m2 a 0 3 r s - m2 a 1 3 x y * m2 a 0 2 r s + m2 a 2 3 x y * m2 a 0 1 r s := by
  unfold m4 m3 m2; grind
theorem plk2 (a : Nat → Nat → Int) (r s : Nat) : m2 a 0 1 r s * m2 a 2 3 r s - m2 a 0 2 r s * m2 a 1 3 r s + m2 a 0 3 r s * m2 a 1 2 r s = 0 := by unfold m2; grind
/-- A form of two vectors of four numbers. -/
def fm (x0 x1 x2 x3 y0 y1 y2 y3 c01 c02 c03 c12 c13 c23 : Int) : Int :=
  (x0 * y1 - y0 * x1) * c23 - (x0 * y2 - y0 * x2) * c13 + (x0 * y3 - y0 * x3) * c12 + (x1 * y2 - y1 * x2) * c03 - (x1 * y3 - y1 * x3) * c02 + (x2 * y3 - y2 * x3) * c01
theorem fm_plk (k0 k1 k2 k3 q0 q1 q2 q3 p0 p1 p2 p3 t0 t1 t2 t3 c01 c02 c03 c12 c13 c23 : Int) :
    fm k0 k1 k2 k3 q0 q1 q2 q3 c01 c02 c03 c12 c13 c23 * fm p0 p1 p2 p3 t0 t1 t2 t3 c01 c02 c03 c12 c13 c23 - fm t0 t1 t2 t3 q0 q1 q2 q3 c01 c02 c03 c12 c13 c23 * fm p0 p1 p2 p3 k0 k1 k2 k3 c01 c02 c03 c12 c13 c23
      - fm p0 p1 p2 p3 q0 q1 q2 q3 c01 c02 c03 c12 c13 c23 * fm k0 k1 k2 k3 t0 t1 t2 t3 c01 c02 c03 c12 c13 c23 =
    (c01 * c23 - c02 * c13 + c03 * c12) * ((k0 * q1 - q0 * k1) * (p2 * t3 - t2 * p3) - (k0 * q2 - q0 * k2) * (p1 * t3 - t1 * p3) + (k0 * q3 - q0 * k3) * (p1 * t2 - t1 * p2) + (k1 * q2 - q1 * k2) * (p0 * t3 - t0 * p3) - (k1 * q3 - q1 * k3) * (p0 * t2 - t0 * p2) + (k2 * q3 - q2 * k3) * (p0 * t1 - t0 * p1)) := by
  unfold fm; grind
theorem lap4f (a : Nat → Nat → Int) (x y r s : Nat) : m4 a 0 1 2 3 x y r s = fm (a 0 x) (a 1 x) (a 2 x) (a 3 x) (a 0 y) (a 1 y) (a 2 y) (a 3 y) (m2 a 0 1 r s) (m2 a 0 2 r s) (m2 a 0 3 r s) (m2 a 1 2 r s) (m2 a 1 3 r s) (m2 a 2 3 r s) := by
  rw [lap4]; unfold fm; simp only [m2]
theorem plk4 (a : Nat → Nat → Int) (k q p t r s : Nat) : m4 a 0 1 2 3 k q r s * m4 a 0 1 2 3 p t r s - m4 a 0 1 2 3 t q r s * m4 a 0 1 2 3 p k r s = m4 a 0 1 2 3 p q r s * m4 a 0 1 2 3 k t r s := by
  have h := fm_plk (a 0 k) (a 1 k) (a 2 k) (a 3 k) (a 0 q) (a 1 q) (a 2 q) (a 3 q) (a 0 p) (a 1 p) (a 2 p) (a 3 p) (a 0 t) (a 1 t) (a 2 t) (a 3 t) (m2 a 0 1 r s) (m2 a 0 2 r s) (m2 a 0 3 r s) (m2 a 1 2 r s) (m2 a 1 3 r s) (m2 a 2 3 r s)
  rw [plk2, Int.zero_mul, ← lap4f, ← lap4f, ← lap4f, ← lap4f, ← lap4f, ← lap4f] at h
  omega
theorem comb4 {A B D x1 x2 x3 y1 y2 y3 z1 z2 z3 p q r s t k : Int} (h1 : A * x1 - B * x2 = D * x3) (h2 : A * y1 - B * y2 = D * y3) (h3 : A * z1 - B * z2 = D * z3) :
    A * (p * -B - q * x1 + r * y1 - s * z1 + t * D) - B * (p * -A - q * x2 + r * y2 - s * z2 + k * D) = D * (k * -B - q * x3 + r * y3 - s * z3 + t * A) := by
  have e1 : q * (A * x1 - B * x2) = q * (D * x3) := by rw [h1]
  have e2 : r * (A * y1 - B * y2) = r * (D * y3) := by rw [h2]
  have e3 : s * (A * z1 - B * z2) = s * (D * z3) := by rw [h3]
  grind
/-- The second column goes behind the fourth one. -/
theorem m4_cyc (a : Nat → Nat → Int) (i j k l p q r s : Nat) : m4 a i j k l p q r s = m4 a i j k l p s q r := by
  have := m4_c23 a i j k l p q s r
  have := m4_c12 a i j k l p q s r
  omega
theorem m4_cyc4 (a : Nat → Nat → Int) (i j k l p q r s : Nat) : m4 a i j k l q r s p = - m4 a i j k l p q r s := by
  have := m4_c01 a i j k l p q r s
  have := m4_c12 a i j k l q p r s
  have := m4_c23 a i j k l q r p s
  omega
theorem jor4 (a : Nat → Nat → Int) (p q r s t k : Nat) : m4 a 0 1 2 3 k q r s * m5 a 0 1 2 3 4 p q r s t - m4 a 0 1 2 3 t q r s * m5 a 0 1 2 3 4 p q r s k = m4 a 0 1 2 3 p q r s * m5 a 0 1 2 3 4 k q r s t := by
  have h1 : m4 a 0 1 2 3 k q r s * m4 a 0 1 2 3 p r s t - m4 a 0 1 2 3 t q r s * m4 a 0 1 2 3 p r s k = m4 a 0 1 2 3 p q r s * m4 a 0 1 2 3 k r s t := by
    rw [m4_cyc a 0 1 2 3 p r s t, m4_cyc a 0 1 2 3 p r s k, m4_cyc a 0 1 2 3 k r s t]
    exact plk4 a k q p t r s
  have h2 : m4 a 0 1 2 3 k q r s * m4 a 0 1 2 3 p q s t - m4 a 0 1 2 3 t q r s * m4 a 0 1 2 3 p q s k = m4 a 0 1 2 3 p q r s * m4 a 0 1 2 3 k q s t := by
    have h := plk4 a k r p t q s
    rw [m4_c12 a 0 1 2 3 k q r s, m4_c12 a 0 1 2 3 t q r s, m4_c12 a 0 1 2 3 p q r s, ← m4_cyc a 0 1 2 3 p q s t, ← m4_cyc a 0 1 2 3 p q s k, ← m4_cyc a 0 1 2 3 k q s t] at h
    grind
  have h3 : m4 a 0 1 2 3 k q r s * m4 a 0 1 2 3 p q r t - m4 a 0 1 2 3 t q r s * m4 a 0 1 2 3 p q r k = m4 a 0 1 2 3 p q r s * m4 a 0 1 2 3 k q r t := by
    have h := plk4 a k s p t q r
    rw [← m4_cyc a 0 1 2 3 k q r s, ← m4_cyc a 0 1 2 3 t q r s, ← m4_cyc a 0 1 2 3 p q r s, ← m4_cyc a 0 1 2 3 p q r t, ← m4_cyc a 0 1 2 3 p q r k, ← m4_cyc a 0 1 2 3 k q r t] at h
    exact h
  rw [m5_last a 0 1 2 3 4 p q r s t, m5_last a 0 1 2 3 4 p q r s k, m5_last a 0 1 2 3 4 k q r s t, m4_cyc4 a 0 1 2 3 t q r s, m4_cyc4 a 0 1 2 3 k q r s]
  exact comb4 h1 h2 h3

/-- The column i is replaced by the column k. -/
def rp (i k j : Nat) : Nat := if j = i then k else j
/-- The minor of the first c rows and columns, the column i replaced by k. -/
def U (a : Nat → Nat → Int) (c i k : Nat) : Int :=
  match c with
  | 0 => 1
  | 1 => a 0 (rp i k 0)
  | 2 => m2 a 0 1 (rp i k 0) (rp i k 1)
  | 3 => m3 a 0 1 2 (rp i k 0) (rp i k 1) (rp i k 2)
  | 4 => m4 a 0 1 2 3 (rp i k 0) (rp i k 1) (rp i k 2) (rp i k 3)
  | _ => m5 a 0 1 2 3 4 (rp i k 0) (rp i k 1) (rp i k 2) (rp i k 3) (rp i k 4)
theorem U_step (a : Nat → Nat → Int) (c i k : Nat) (hc : c ≤ 4) (hi : i < c) : U a c i k * T a c c c - U a c i c * T a c c k = lastT a c * U a (c + 1) i k := by
  obtain ⟨rfl, rfl⟩ | ⟨rfl, rfl⟩ | ⟨rfl, rfl⟩ | ⟨rfl, rfl⟩ | ⟨rfl, rfl⟩ | ⟨rfl, rfl⟩ | ⟨rfl, rfl⟩ | ⟨rfl, rfl⟩ | ⟨rfl, rfl⟩ | ⟨rfl, rfl⟩ :
      (c = 1 ∧ i = 0) ∨ (c = 2 ∧ i = 0) ∨ (c = 2 ∧ i = 1) ∨ (c = 3 ∧ i = 0) ∨ (c = 3 ∧ i = 1) ∨ (c = 3 ∧ i = 2) ∨ (c = 4 ∧ i = 0) ∨ (c = 4 ∧ i = 1) ∨ (c = 4 ∧ i = 2) ∨ (c = 4 ∧ i = 3) := by omega
  · exact jor1 a 0 1 k
  · exact jor2 a 0 1 2 k
  · show m2 a 0 1 0 k * m3 a 0 1 2 0 1 2 - m2 a 0 1 0 2 * m3 a 0 1 2 0 1 k = m2 a 0 1 0 1 * m3 a 0 1 2 0 k 2
    have h := jor2 a 1 0 2 k
    rw [m2_c01 a 0 1 0 k, m2_c01 a 0 1 0 2, m2_c01 a 0 1 0 1, m3_c01 a 0 1 2 0 1 2, m3_c01 a 0 1 2 0 1 k, m3_c01 a 0 1 2 0 k 2] at h
    grind
  · exact jor3 a 0 1 2 3 k
  · show m3 a 0 1 2 0 k 2 * m4 a 0 1 2 3 0 1 2 3 - m3 a 0 1 2 0 3 2 * m4 a 0 1 2 3 0 1 2 k = m3 a 0 1 2 0 1 2 * m4 a 0 1 2 3 0 k 2 3
    have h := jor3 a 1 0 2 3 k
    rw [m3_c01 a 0 1 2 0 k 2, m3_c01 a 0 1 2 0 3 2, m3_c01 a 0 1 2 0 1 2, m4_c01 a 0 1 2 3 0 1 2 3, m4_c01 a 0 1 2 3 0 1 2 k, m4_c01 a 0 1 2 3 0 k 2 3] at h
    grind
  · show m3 a 0 1 2 0 1 k * m4 a 0 1 2 3 0 1 2 3 - m3 a 0 1 2 0 1 3 * m4 a 0 1 2 3 0 1 2 k = m3 a 0 1 2 0 1 2 * m4 a 0 1 2 3 0 1 k 3
    have h := jor3 a 2 1 0 3 k
    rw [m3_c02 a 0 1 2 0 1 k, m3_c02 a 0 1 2 0 1 3, m3_c02 a 0 1 2 0 1 2, m4_c02 a 0 1 2 3 0 1 2 3, m4_c02 a 0 1 2 3 0 1 2 k, m4_c02 a 0 1 2 3 0 1 k 3] at h
    grind
  · exact jor4 a 0 1 2 3 4 k
  · show m4 a 0 1 2 3 0 k 2 3 * m5 a 0 1 2 3 4 0 1 2 3 4 - m4 a 0 1 2 3 0 4 2 3 * m5 a 0 1 2 3 4 0 1 2 3 k = m4 a 0 1 2 3 0 1 2 3 * m5 a 0 1 2 3 4 0 k 2 3 4
    have h := jor4 a 1 0 2 3 4 k
    rw [m4_c01 a 0 1 2 3 0 k 2 3, m4_c01 a 0 1 2 3 0 4 2 3, m4_c01 a 0 1 2 3 0 1 2 3, m5_c01 a 0 1 2 3 4 0 1 2 3 4, m5_c01 a 0 1 2 3 4 0 1 2 3 k, m5_c01 a 0 1 2 3 4 0 k 2 3 4] at h
    grind
  · show m4 a 0 1 2 3 0 1 k 3 * m5 a 0 1 2 3 4 0 1 2 3 4 - m4 a 0 1 2 3 0 1 4 3 * m5 a 0 1 2 3 4 0 1 2 3 k = m4 a 0 1 2 3 0 1 2 3 * m5 a 0 1 2 3 4 0 1 k 3 4
    have h := jor4 a 2 1 0 3 4 k
    rw [m4_c02 a 0 1 2 3 0 1 k 3, m4_c02 a 0 1 2 3 0 1 4 3, m4_c02 a 0 1 2 3 0 1 2 3, m5_c02 a 0 1 2 3 4 0 1 2 3 4, m5_c02 a 0 1 2 3 4 0 1 2 3 k, m5_c02 a 0 1 2 3 4 0 1 k 3 4] at h
    grind
  · show m4 a 0 1 2 3 0 1 2 k * m5 a 0 1 2 3 4 0 1 2 3 4 - m4 a 0 1 2 3 0 1 2 4 * m5 a 0 1 2 3 4 0 1 2 3 k = m4 a 0 1 2 3 0 1 2 3 * m5 a 0 1 2 3 4 0 1 2 k 4
    have h := jor4 a 3 1 2 0 4 k
    rw [m4_c03 a 0 1 2 3 0 1 2 k, m4_c03 a 0 1 2 3 0 1 2 4, m4_c03 a 0 1 2 3 0 1 2 3, m5_c03 a 0 1 2 3 4 0 1 2 3 4, m5_c03 a 0 1 2 3 4 0 1 2 3 k, m5_c03 a 0 1 2 3 4 0 1 2 k 4] at h
    grind
/-- What stands at i, k when c columns are eliminated below and above. -/
def J (a : Nat → Nat → Int) (c i k : Nat) : Int := if i < c then U a c i k else T a c i k
theorem J_step (a : Nat → Nat → Int) (n c i k : Nat) (hn : n ≤ 5) (hin : i < n) (hc : c < n) (hi : i ≠ c) : J a c i k * T a c c c - J a c i c * T a c c k = lastT a c * J a (c + 1) i k := by
  unfold J
  by_cases h : i < c
  · rw [if_pos h, if_pos h, if_pos (by omega)]
    exact U_step a c i k (by omega) h
  · rw [if_neg h, if_neg h, if_neg (by omega)]
    exact T_step a c i k (by omega)
theorem J_row (a : Nat → Nat → Int) (c k : Nat) (hc : c ≤ 4) : T a c c k = J a (c + 1) c k := by
  unfold J
  rw [if_pos (by omega)]
  obtain rfl | rfl | rfl | rfl | rfl : c = 0 ∨ c = 1 ∨ c = 2 ∨ c = 3 ∨ c = 4 := by omega
  all_goals rfl
theorem J_piv (a : Nat → Nat → Int) (c k : Nat) : J a c c k = T a c c k := by unfold J; rw [if_neg (by omega)]
theorem J_zero (a : Nat → Nat → Int) (i k : Nat) : J a 0 i k = a i k := by unfold J; rw [if_neg (by omega)]; rfl
theorem U_sw (a : Nat → Nat → Int) (c r i k : Nat) (hcr : c < r) (hc : c ≤ 4) (hi : i < c) : U (rowsSw c r a) c i k = U a c i k := by
  have h : ∀ x, x < c → sw c r x = x := fun x hx => by unfold sw; rw [if_neg (by omega), if_neg (by omega)]
  obtain rfl | rfl | rfl | rfl : c = 1 ∨ c = 2 ∨ c = 3 ∨ c = 4 := by omega
  · simp only [U, rowsSw, h 0 (by omega)]
  · simp only [U, m2, rowsSw, h 0 (by omega), h 1 (by omega)]
  · simp only [U, m3, m2, rowsSw, h 0 (by omega), h 1 (by omega), h 2 (by omega)]
  · simp only [U, m4, m3, m2, rowsSw, h 0 (by omega), h 1 (by omega), h 2 (by omega), h 3 (by omega)]
theorem J_sw (a : Nat → Nat → Int) (c r i k : Nat) (hcr : c < r) (hc : c ≤ 4) : J (rowsSw c r a) c i k = J a c (sw c r i) k := by
  unfold J
  by_cases h : i < c
  · have e : sw c r i = i := by unfold sw; rw [if_neg (by omega), if_neg (by omega)]
    rw [e, if_pos h, if_pos h]
    exact U_sw a c r i k hcr hc h
  · have e : ¬ sw c r i < c := by unfold sw; split <;> (try split) <;> omega
    rw [if_neg h, if_neg e]
    exact T_sw a c r c i k (Nat.le_refl _) hcr hc
theorem U_bd {a : Nat → Nat → Int} {j0 : Nat} (h : ∀ i j, Bd (20 * u j0 j) (a i j)) (c i k : Nat) (hk : c ≤ k) (hc : c ≤ 5) : Bd 1920000000 (U a c i k) := by
  obtain rfl | rfl | rfl | rfl | rfl | rfl : c = 0 ∨ c = 1 ∨ c = 2 ∨ c = 3 ∨ c = 4 ∨ c = 5 := by omega
  · show Bd _ (1 : Int); unfold Bd; omega
  · refine (h 0 (rp i k 0)).mono ?_; unfold u; split <;> omega
  · refine (m2_bd h 0 1 (rp i k 0) (rp i k 1)).mono ?_; unfold u rp; repeat' split
    all_goals omega
  · refine (m3_bd h 0 1 2 (rp i k 0) (rp i k 1) (rp i k 2)).mono ?_; unfold u rp; repeat' split
    all_goals omega
  · refine (m4_bd h 0 1 2 3 (rp i k 0) (rp i k 1) (rp i k 2) (rp i k 3)).mono ?_; unfold u rp; repeat' split
    all_goals omega
  · refine (m5_bd h 0 1 2 3 4 (rp i k 0) (rp i k 1) (rp i k 2) (rp i k 3) (rp i k 4)).mono ?_; unfold u rp; repeat' split
    all_goals omega
theorem J_bd {a : Nat → Nat → Int} {j0 : Nat} (h : ∀ i j, Bd (20 * u j0 j) (a i j)) (n c i k : Nat) (hn : n ≤ 5) (hk : c ≤ k) (hin : i < n) (hc : c ≤ n) : Bd 1920000000 (J a c i k) := by
  unfold J
  split
  · exact U_bd h c i k hk (by omega)
  · refine (T_bd h c i k hk (by omega)).mono ?_
    obtain rfl | rfl | rfl | rfl | rfl : c = 0 ∨ c = 1 ∨ c = 2 ∨ c = 3 ∨ c = 4 := by omega
    all_goals decide
theorem U_dt (a : Nat → Nat → Int) (n i k : Nat) (h1 : 1 ≤ n) (hn : n ≤ 5) : U a n i k = dt n (fun x y => a x (rp i k y)) := by
  obtain rfl | rfl | rfl | rfl | rfl : n = 1 ∨ n = 2 ∨ n = 3 ∨ n = 4 ∨ n = 5 := by omega
  · rw [dt1]; rfl
  · rw [dt2]; rfl
  · rw [dt3]; rfl
  · rw [dt4]; rfl
  · rw [dt5]; rfl
theorem J_end (a : Nat → Nat → Int) (n i k : Nat) (h1 : 1 ≤ n) (hn : n ≤ 5) (hi : i < n) : J a n i k = dt n (fun x y => a x (rp i k y)) := by
  unfold J; rw [if_pos hi]; exact U_dt a n i k h1 hn
end Go.Proofs.Ytgncaploccbfnaa.PX
