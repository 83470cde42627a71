/-
  Plain mathematics of fractions: greatest common divisors, lowest terms, sums and products. No program is named here.
  Walks of the functions on fractions: ranges, greatest common divisors, lowest terms. Each contract holds for the arguments that its premises name.
  Walks of the functions on fractions: lowest terms, and whether a pair of numbers is a fraction.
  Walks of the functions on fractions: the program's test of a fraction, and what is told of one.
  Walks of the functions on fractions: what is told of a fraction, sums, products, comparisons, in the program and in the model.
-/
import Derived.KernelRfl
import Derived.Test.YtgncaploccbfnaaChecked
import Derived.WalkKit
import Derived.ProofKit
import Derived.WalkLawsBesides
import Derived.WalkSpells
import Derived.IntWalk
import Derived.LoopTactic
import Derived.RegionTactic
import Derived.BigRegion
import Derived.BigQuiet
import Derived.Deep.QuietTactic
import Derived.Below
import Derived.Handy
import Derived.Outline
import Derived.Lib.Hide
import Derived.Deep.RegionHeld3
import Derived.Deep.RegionWith
import Derived.Deep.DeepCutAuto
namespace Go.Proofs.Ytgncaploccbfnaa.FM

/-- The greatest common divisor as an integer. -/
def gcdI (a b : Int) : Int := ((Int.gcd a b : Nat) : Int)

theorem gcdI_nonneg (a b : Int) : 0 ≤ gcdI a b := by unfold gcdI; omega

theorem gcd_step (a b : Int) : Int.gcd b (a.tmod b) = Int.gcd a b := by
  simp only [Int.gcd, Int.natAbs_tmod]
  rw [Nat.gcd_comm a.natAbs, Nat.gcd_rec b.natAbs a.natAbs, Nat.gcd_comm]

theorem gcdI_step (a b : Int) : gcdI b (a.tmod b) = gcdI a b := by
  unfold gcdI; rw [gcd_step]

theorem gcdI_zero (a : Int) : gcdI a 0 = (a.natAbs : Int) := by
  unfold gcdI; simp

theorem gcdI_pos (a b : Int) (h : b ≠ 0) : 0 < gcdI a b := by
  unfold gcdI
  have : 0 < Int.gcd a b := Int.gcd_pos_of_ne_zero_right a h
  omega

theorem gcdI_dvd_left (a b : Int) : gcdI a b ∣ a := by
  unfold gcdI; exact Int.gcd_dvd_left ..
theorem gcdI_dvd_right (a b : Int) : gcdI a b ∣ b := by
  unfold gcdI; exact Int.gcd_dvd_right ..

theorem gcdI_neg_left (a b : Int) : gcdI (-a) b = gcdI a b := by unfold gcdI; rw [Int.neg_gcd]
theorem gcdI_neg_right (a b : Int) : gcdI a (-b) = gcdI a b := by unfold gcdI; rw [Int.gcd_neg]
theorem gcdI_comm (a b : Int) : gcdI a b = gcdI b a := by unfold gcdI; rw [Int.gcd_comm]

theorem gcdI_le (a b : Int) (h : b ≠ 0) : gcdI a b ≤ (b.natAbs : Int) := by
  have hd := gcdI_dvd_right a b
  have : gcdI a b ∣ (b.natAbs : Int) := Int.dvd_natAbs.2 hd
  exact Int.le_of_dvd (by omega) this

/-- The bounds of a remainder. -/
theorem tmod_lt (a b : Int) (h : b ≠ 0) : (a.tmod b).natAbs < b.natAbs := by
  rw [Int.natAbs_tmod]; exact Nat.mod_lt _ (by omega)

/-- Numerator and denominator in lowest terms, for d other than 0. -/
def redN (n d : Int) : Int := if d < 0 then -(n.tdiv (gcdI n d)) else n.tdiv (gcdI n d)
def redD (n d : Int) : Int := if d < 0 then -(d.tdiv (gcdI n d)) else d.tdiv (gcdI n d)

theorem redN_neg (n d : Int) (h : d < 0) : redN (-n) (-d) = redN n d := by
  unfold redN
  rw [if_neg (by omega), if_pos h, gcdI_neg_left, gcdI_neg_right, Int.neg_tdiv]
theorem redD_neg (n d : Int) (h : d < 0) : redD (-n) (-d) = redD n d := by
  unfold redD
  rw [if_neg (by omega), if_pos h, gcdI_neg_left, gcdI_neg_right, Int.neg_tdiv]

theorem tdiv_natAbs_le (a b : Int) : (a.tdiv b).natAbs ≤ a.natAbs := by
  rw [Int.natAbs_tdiv]; exact Nat.div_le_self _ _

theorem redN_bd (n d : Int) : (redN n d).natAbs ≤ n.natAbs := by
  unfold redN; have := tdiv_natAbs_le n (gcdI n d); split <;> omega
theorem redD_bd (n d : Int) : (redD n d).natAbs ≤ d.natAbs := by
  unfold redD; have := tdiv_natAbs_le d (gcdI n d); split <;> omega

theorem redD_pos (n d : Int) (h : d ≠ 0) : 0 < redD n d := by
  have hg := gcdI_pos n d h
  have hd := gcdI_dvd_right n d
  have e : d.tdiv (gcdI n d) * gcdI n d = d := Int.tdiv_mul_cancel hd
  unfold redD
  split
  · rename_i hn
    have : d.tdiv (gcdI n d) < 0 := by
      refine Int.not_le.1 fun hc => ?_
      have := Int.mul_nonneg hc (Int.le_of_lt hg)
      omega
    omega
  · refine Int.not_le.1 fun hc => ?_
    have := Int.mul_nonneg (a := -(d.tdiv (gcdI n d))) (b := gcdI n d) (by omega) (by omega)
    rw [Int.neg_mul] at this
    omega

theorem redN_mul (n d : Int) : redN n d * gcdI n d = if d < 0 then -n else n := by
  have e : n.tdiv (gcdI n d) * gcdI n d = n := Int.tdiv_mul_cancel (gcdI_dvd_left n d)
  unfold redN
  split
  · rw [Int.neg_mul, e]
  · exact e
theorem redD_mul (n d : Int) : redD n d * gcdI n d = if d < 0 then -d else d := by
  have e : d.tdiv (gcdI n d) * gcdI n d = d := Int.tdiv_mul_cancel (gcdI_dvd_right n d)
  unfold redD
  split
  · rw [Int.neg_mul, e]
  · exact e

/-- In lowest terms. -/
theorem gcd_red (n d : Int) (h : d ≠ 0) : gcdI (redN n d) (redD n d) = 1 := by
  have hg := gcdI_pos n d h
  have e1 := redN_mul n d
  have e2 := redD_mul n d
  have e3 : gcdI (redN n d * gcdI n d) (redD n d * gcdI n d) = gcdI n d := by
    rw [e1, e2]; split
    · rw [gcdI_neg_left, gcdI_neg_right]
    · rfl
  have e4 : gcdI (redN n d * gcdI n d) (redD n d * gcdI n d) = gcdI (redN n d) (redD n d) * gcdI n d := by
    unfold gcdI
    rw [Int.gcd_mul_right]
    simp
  rw [e4] at e3
  have : gcdI (redN n d) (redD n d) * gcdI n d = 1 * gcdI n d := by rw [e3]; omega
  exact Int.eq_of_mul_eq_mul_right (by omega) this

/-- Scaling by a number greater than 0 does not matter. -/
theorem gcdI_scale (k n d : Int) (hk : 0 < k) : gcdI (n * k) (d * k) = gcdI n d * k := by
  unfold gcdI
  rw [Int.gcd_mul_right]
  rw [Int.natCast_mul]
  congr 1
  omega

theorem redN_scale (k n d : Int) (hk : 0 < k) : redN (n * k) (d * k) = redN n d := by
  have hs : d * k < 0 ↔ d < 0 := by
    constructor
    · intro h1
      refine Int.not_le.1 fun hc => ?_
      have := Int.mul_nonneg hc (Int.le_of_lt hk)
      omega
    · intro h1
      exact Int.mul_neg_of_neg_of_pos h1 hk
  have he : (n * k).tdiv (gcdI n d * k) = n.tdiv (gcdI n d) := by
    rw [Int.mul_comm n, Int.mul_comm (gcdI n d)]
    exact Int.mul_tdiv_mul_of_pos _ _ hk
  unfold redN
  rw [gcdI_scale k n d hk, he]
  by_cases hd : d < 0
  · rw [if_pos hd, if_pos (hs.2 hd)]
  · rw [if_neg hd, if_neg (fun c => hd (hs.1 c))]
theorem redD_scale (k n d : Int) (hk : 0 < k) : redD (n * k) (d * k) = redD n d := by
  have hs : d * k < 0 ↔ d < 0 := by
    constructor
    · intro h1
      refine Int.not_le.1 fun hc => ?_
      have := Int.mul_nonneg hc (Int.le_of_lt hk)
      omega
    · intro h1
      exact Int.mul_neg_of_neg_of_pos h1 hk
  have he : (d * k).tdiv (gcdI n d * k) = d.tdiv (gcdI n d) := by
    rw [Int.mul_comm d, Int.mul_comm (gcdI n d)]
    exact Int.mul_tdiv_mul_of_pos _ _ hk
  unfold redD
  rw [gcdI_scale k n d hk, he]
  by_cases hd : d < 0
  · rw [if_pos hd, if_pos (hs.2 hd)]
  · rw [if_neg hd, if_neg (fun c => hd (hs.1 c))]

/-- The fractions of the document: within the limits, in lowest terms. -/
def IsF (n d : Int) : Prop := -1000000000 ≤ n ∧ n ≤ 1000000000 ∧ 1 ≤ d ∧ d ≤ 1000000000 ∧ gcdI n d = 1
instance (n d : Int) : Decidable (IsF n d) := by unfold IsF; infer_instance
def isF (n d : Int) : Bool := decide (IsF n d)

theorem isF_yes {n d : Int} (h : isF n d = true) : -1000000000 ≤ n ∧ n ≤ 1000000000 ∧ 1 ≤ d ∧ d ≤ 1000000000 ∧ gcdI n d = 1 := by
  have := of_decide_eq_true h; exact this

/-- The program's own test, by lowest terms, is the same. -/
theorem red_self_iff (n d : Int) (hd : 1 ≤ d) : (redN n d = n ∧ redD n d = d) ↔ gcdI n d = 1 := by
  constructor
  · rintro ⟨h1, h2⟩
    have := gcd_red n d (by omega)
    rwa [h1, h2] at this
  · intro h
    unfold redN redD
    rw [if_neg (by omega), if_neg (by omega), h]
    simp

/-- What a function that tells a fraction returns: the fraction and the code 0, or nothing and the code 3. -/
def toldN (n d : Int) : Int := if isF (redN n d) (redD n d) then redN n d else 0
def toldD (n d : Int) : Int := if isF (redN n d) (redD n d) then redD n d else 0
def toldC (n d : Int) : Int := if isF (redN n d) (redD n d) then 0 else 3

/-- The sum by the least common denominator is the sum by the product. -/
theorem plus_eq (an ad bn bd : Int) :
    an * bd + bn * ad = (an * bd.tdiv (gcdI ad bd) + bn * ad.tdiv (gcdI ad bd)) * gcdI ad bd ∧
    ad * bd = (ad.tdiv (gcdI ad bd) * bd) * gcdI ad bd := by
  have e1 : ad.tdiv (gcdI ad bd) * gcdI ad bd = ad := Int.tdiv_mul_cancel (gcdI_dvd_left ad bd)
  have e2 : bd.tdiv (gcdI ad bd) * gcdI ad bd = bd := Int.tdiv_mul_cancel (gcdI_dvd_right ad bd)
  constructor
  · rw [Int.add_mul, Int.mul_assoc, e2, Int.mul_assoc, e1]
  · rw [Int.mul_assoc, Int.mul_comm bd, ← Int.mul_assoc, e1]

/-- Whether a number lies in a range. -/
def inB (lo hi x : Int) : Bool := decide (lo ≤ x ∧ x ≤ hi)
theorem inB_yes {lo hi x : Int} (h : inB lo hi x = true) : lo ≤ x ∧ x ≤ hi := of_decide_eq_true h
theorem inB_no {lo hi x : Int} (h : inB lo hi x = false) : ¬ (lo ≤ x ∧ x ≤ hi) := of_decide_eq_false h

theorem mul_bd {a b A B : Int} (h1 : -A ≤ a) (h2 : a ≤ A) (h3 : -B ≤ b) (h4 : b ≤ B) : -(A * B) ≤ a * b ∧ a * b ≤ A * B := by
  have hA : 0 ≤ A := by omega
  have hB : 0 ≤ B := by omega
  have h : (a * b).natAbs ≤ (A * B).natAbs := by
    rw [Int.natAbs_mul, Int.natAbs_mul]
    exact Nat.mul_le_mul (by omega) (by omega)
  have h0 : 0 ≤ A * B := Int.mul_nonneg hA hB
  omega

/-- What the functions on fractions return: numerator, denominator, code. -/
def told (n d : Int) : Int × Int × Int := (toldN n d, toldD n d, toldC n d)
def fracOut (n d : Int) : Int × Int × Int :=
  if d = 0 ∨ inB (-1000000000000) 1000000000000 n = false ∨ inB (-1000000000000) 1000000000000 d = false then (0, 0, 2) else told n d
def addOut (an ad bn bd k : Int) : Int × Int × Int :=
  if isF an ad = false ∨ isF bn bd = false then (0, 0, 1)
  else if k ≠ 1 ∧ k ≠ -1 then (0, 0, 2)
  else told (an * bd + k * bn * ad) (ad * bd)
def mulOut (an ad bn bd : Int) : Int × Int × Int :=
  if isF an ad = false ∨ isF bn bd = false then (0, 0, 1) else told (an * bn) (ad * bd)
def cmpI (x y : Int) : Int := if x < y then -1 else if y < x then 1 else 0
def cmpOut (an ad bn bd : Int) : Int × Int :=
  if isF an ad = false ∨ isF bn bd = false then (0, 1) else (cmpI (an * bd) (bn * ad), 0)

/-- The model's sum, by the least common denominator, tells the same. -/
theorem told_plus (an ad bn bd : Int) (h1 : 1 ≤ ad) :
    told (an * bd.tdiv (gcdI ad bd) + bn * ad.tdiv (gcdI ad bd)) (ad.tdiv (gcdI ad bd) * bd) = told (an * bd + bn * ad) (ad * bd) := by
  have hg : 0 < gcdI ad bd := by rw [gcdI_comm]; exact gcdI_pos _ _ (by omega)
  obtain ⟨e1, e2⟩ := plus_eq an ad bn bd
  have eN := redN_scale (gcdI ad bd) (an * bd.tdiv (gcdI ad bd) + bn * ad.tdiv (gcdI ad bd)) (ad.tdiv (gcdI ad bd) * bd) hg
  have eD := redD_scale (gcdI ad bd) (an * bd.tdiv (gcdI ad bd) + bn * ad.tdiv (gcdI ad bd)) (ad.tdiv (gcdI ad bd) * bd) hg
  rw [← e1, ← e2] at eN eD
  unfold told toldN toldD toldC
  rw [eN, eD]

end Go.Proofs.Ytgncaploccbfnaa.FM
namespace Go.Proofs.Ytgncaploccbfnaa.FW
open Go.RowKit Go.Proofs.Ytgncaploccbfnaa
open Go.Proofs.Ytgncaploccbfnaa.FM

theorem ret_int {k : IntKind} {a b : Int} (h : a = b) : Ending.returned (.int k a) = .returned (.int k b) := by rw [h]
theorem ret_bool {a b : Bool} (h : a = b) : Ending.returned (.bool a) = .returned (.bool b) := by rw [h]


/-- Behind a contract that ends in 'Below': all elder cells and marks read as before. -/
theorem bcell {W w1 : World} (hb : Below W.heap.size W w1) : (∀ b o, b < W.heap.size → w1.cell? ⟨b, o, none⟩ = W.cell? ⟨b, o, none⟩) ∧ (∀ b o, b < W.heap.size → w1.frozen? ⟨b, o, none⟩ = W.frozen? ⟨b, o, none⟩) :=
  ⟨fun b o h => hb.cell (p := ⟨b, o, none⟩) h, fun b o h => hb.frozen (p := ⟨b, o, none⟩) h⟩
theorem bcellG {W0 W w1 : World} (hb : Below W.heap.size W w1) (h0 : Below W0.heap.size W0 W) : (∀ b o, b < W0.heap.size → w1.cell? ⟨b, o, none⟩ = W0.cell? ⟨b, o, none⟩) ∧ (∀ b o, b < W0.heap.size → w1.frozen? ⟨b, o, none⟩ = W0.frozen? ⟨b, o, none⟩) :=
  bcell (h0.trans (hb.mono h0.size))
theorem size_drewN (w : World) (n : Nat) : (w.drewN n).heap.size = w.heap.size := rfl

/-- Whether a number lies within a limit. -/
theorem isWithin_any (x l : Int) (w : World) (h0 : 0 ≤ l) (h1 : l ≤ 1000000000000) :
    Calls Try.prog 127 #[.int .i64 x, .int .i64 l] w fun e w' => e = .returned (.bool (decide (-l ≤ x ∧ x ≤ l))) ∧ w = w' := by
  go_enter Try.func127, Try.ntmps127
  go_wp2
  all_goals (go_ret; exact ⟨ret_bool (by simp; try omega), rfl⟩)

theorem l01In_any (n lo hi : Int) (w : World) :
    Calls Try.prog 65 #[.int .i64 n, .int .i64 lo, .int .i64 hi] w fun e w' => e = .returned (.bool (decide (lo ≤ n ∧ n ≤ hi))) ∧ w = w' := by
  go_enter Try.func65, Try.ntmps65
  go_wp2
  all_goals (go_ret; exact ⟨ret_bool (by simp; try omega), rfl⟩)

theorem gcd_end {x a b : Int} (hg : Hid (gcdI x 0 = gcdI a b)) (y : Int) (hy : y = (x.natAbs : Int)) : y = gcdI a b := by
  rw [← hg.out, gcdI_zero]; exact hy

theorem l01Gcd_any (a b : Int) (w : World) (ha : -9223372036854775807 ≤ a) (ha' : a ≤ 9223372036854775807) (hb : -9223372036854775807 ≤ b) (hb' : b ≤ 9223372036854775807) :
    Calls Try.prog 124 #[.int .i64 a, .int .i64 b] w fun e w' => e = .returned (.int .i64 (gcdI a b)) ∧ w = w' := by
  go_enter Try.func124, Try.ntmps124
  go_wp2
  go_loop [0, 1, 5] (fun u v _ => ∃ x y : Int, Hid (gcdI x y = gcdI a b) ∧ -9223372036854775807 ≤ x ∧ x ≤ 9223372036854775807 ∧ -9223372036854775807 ≤ y ∧ y ≤ 9223372036854775807 ∧ u = .int .i64 x ∧ v = .int .i64 y) (fun _ v _ => (intOf v).natAbs)
  case atStart => exact ⟨a, b, rfl, ha, ha', hb, hb', rfl, rfl⟩
  case round =>
    obtain ⟨x, y, hg, h1, h2, h3, h4, rfl, rfl⟩ := hrel
    by_cases hy : y = 0
    · subst hy
      go_wp2
      all_goals (go_ret; exact ⟨ret_int (gcd_end hg _ (by omega)), rfl⟩)
    · have hlt := tmod_lt x y hy
      have hb1 : -9223372036854775807 ≤ x.tmod y := by omega
      have hb2 : x.tmod y ≤ 9223372036854775807 := by omega
      have HL : Hid ((x.tmod y).natAbs < y.natAbs) := hlt
      clear hlt
      have hs : Hid (gcdI y (x.tmod y) = gcdI x y) := gcdI_step x y
      go_wp2
      all_goals
        go_round
        case rel => exact ⟨y, x.tmod y, hs.out.trans hg.out, h3, h4, hb1, hb2, rfl, rfl⟩
        case measure => exact HL.out

theorem greatestDivisor_any (a b : Int) (w : World) (ha : -9223372036854775807 ≤ a) (ha' : a ≤ 9223372036854775807) (hb : -9223372036854775807 ≤ b) (hb' : b ≤ 9223372036854775807) :
    Calls Try.prog 126 #[.int .i64 a, .int .i64 b] w fun e w' => e = .returned (.int .i64 (gcdI a b)) ∧ ∃ n, w' = w.drewN n := by
  go_enter Try.func126, Try.ntmps126
  go_wp2
  go_loopw [0, 1] (fun u v wr => ∃ x y : Int, Hid (gcdI x y = gcdI a b) ∧ -9223372036854775807 ≤ x ∧ x ≤ 9223372036854775807 ∧ -9223372036854775807 ≤ y ∧ y ≤ 9223372036854775807 ∧ u = .int .i64 x ∧ v = .int .i64 y ∧ ∃ n, wr = w.drewN n) (fun _ v _ => (intOf v).natAbs)
  case atStart => exact ⟨a, b, rfl, ha, ha', hb, hb', rfl, rfl, 0, rfl⟩
  case round =>
    obtain ⟨x, y, hg, h1, h2, h3, h4, rfl, rfl, n, rfl⟩ := hrel
    by_cases hy : y = 0
    · subst hy
      go_wp2
      all_goals (go_ret; exact ⟨ret_int (gcd_end hg _ (by omega)), n, rfl⟩)
    · have hlt := tmod_lt x y hy
      have hb1 : -9223372036854775807 ≤ x.tmod y := by omega
      have hb2 : x.tmod y ≤ 9223372036854775807 := by omega
      have HL : Hid ((x.tmod y).natAbs < y.natAbs) := hlt
      clear hlt
      have hs : Hid (gcdI y (x.tmod y) = gcdI x y) := gcdI_step x y
      go_wp2
      go_region
      all_goals go_wp2
      all_goals
        go_roundw
        case rel => exact ⟨y, x.tmod y, hs.out.trans hg.out, h3, h4, hb1, hb2, rfl, rfl, n + 1, rfl⟩
        case measure => exact HL.out
end Go.Proofs.Ytgncaploccbfnaa.FW
namespace Go.Proofs.Ytgncaploccbfnaa.FW
open Go.RowKit Go.Proofs.Ytgncaploccbfnaa
open Go.Proofs.Ytgncaploccbfnaa.FM

theorem lowestTerms_any (n d : Int) (w : World) (ha : -9223372036854775807 ≤ n) (ha' : n ≤ 9223372036854775807) (hb : -9223372036854775807 ≤ d) (hb' : d ≤ 9223372036854775807) (h0 : d ≠ 0) :
    Calls Try.prog 133 #[.int .i64 n, .int .i64 d] w fun e w' => e = .returned (.agg #[.int .i64 (redN n d), .int .i64 (redD n d)]) ∧ Below w.heap.size w w' := by
  have hg0 := gcdI_pos n d h0
  have hg1 := gcdI_le n d h0
  have hn1 : -9223372036854775807 ≤ n.tdiv (gcdI n d) ∧ n.tdiv (gcdI n d) ≤ 9223372036854775807 := by have := tdiv_natAbs_le n (gcdI n d); omega
  have hd1 : -9223372036854775807 ≤ d.tdiv (gcdI n d) ∧ d.tdiv (gcdI n d) ≤ 9223372036854775807 := by have := tdiv_natAbs_le d (gcdI n d); omega
  by_cases hd : d < 0
  · have eN : redN n d = -n.tdiv (gcdI n d) := by unfold redN; rw [if_pos hd]
    have eD : redD n d = -d.tdiv (gcdI n d) := by unfold redD; rw [if_pos hd]
    rw [eN, eD]
    clear eN eD
    go_enter Try.func133, Try.ntmps133
    go_wp2_with (go_at_call 126; refine (greatestDivisor_any _ _ _ (by omega) (by omega) (by omega) (by omega)).mono ?_; rintro e w' ⟨rfl, k, rfl⟩)
    go_region
    all_goals go_wp2
    go_returns
    refine ⟨rfl, ?_⟩
    (repeat' (first | (with_reducible exact Below.refl _ _) | (with_reducible assumption) | (with_reducible refine Below.alloc ?_ ?_ _) | (with_reducible refine Below.drew ?_) | (with_reducible refine below_drewN ?_ _) | (with_reducible refine Below.setCell ?_ ?_ _) | (with_reducible refine Below.trans ?_ (Below.mono (by with_reducible assumption) ?_)) | (with_reducible exact Below.size (by with_reducible assumption)) | go_size))
  · have eN : redN n d = n.tdiv (gcdI n d) := by unfold redN; rw [if_neg hd]
    have eD : redD n d = d.tdiv (gcdI n d) := by unfold redD; rw [if_neg hd]
    rw [eN, eD]
    clear eN eD
    go_enter Try.func133, Try.ntmps133
    go_wp2_with (go_at_call 126; refine (greatestDivisor_any _ _ _ (by omega) (by omega) (by omega) (by omega)).mono ?_; rintro e w' ⟨rfl, k, rfl⟩)
    go_region
    all_goals go_wp2
    go_returns
    refine ⟨rfl, ?_⟩
    (repeat' (first | (with_reducible exact Below.refl _ _) | (with_reducible assumption) | (with_reducible refine Below.alloc ?_ ?_ _) | (with_reducible refine Below.drew ?_) | (with_reducible refine below_drewN ?_ _) | (with_reducible refine Below.setCell ?_ ?_ _) | (with_reducible refine Below.trans ?_ (Below.mono (by with_reducible assumption) ?_)) | (with_reducible exact Below.size (by with_reducible assumption)) | go_size))

theorem l01Frac_any (n d : Int) (w : World) (ha : -9223372036854775807 ≤ n) (ha' : n ≤ 9223372036854775807) (hb : -9223372036854775807 ≤ d) (hb' : d ≤ 9223372036854775807) (h0 : d ≠ 0) :
    Calls Try.prog 83 #[.int .i64 n, .int .i64 d] w fun e w' => e = .returned (.agg #[.int .i64 (redN n d), .int .i64 (redD n d)]) ∧ Below w.heap.size w w' := by
  have hg0 := gcdI_pos n d h0
  have hg1 := gcdI_le n d h0
  have hn1 : -9223372036854775807 ≤ n.tdiv (gcdI n d) ∧ n.tdiv (gcdI n d) ≤ 9223372036854775807 := by have := tdiv_natAbs_le n (gcdI n d); omega
  have hd1 : -9223372036854775807 ≤ d.tdiv (gcdI n d) ∧ d.tdiv (gcdI n d) ≤ 9223372036854775807 := by have := tdiv_natAbs_le d (gcdI n d); omega
  by_cases hd : d < 0
  · have eN : redN n d = -n.tdiv (gcdI n d) := by unfold redN; rw [if_pos hd]
    have eD : redD n d = -d.tdiv (gcdI n d) := by unfold redD; rw [if_pos hd]
    have eG : gcdI (-n) (-d) = gcdI n d := by rw [gcdI_neg_left, gcdI_neg_right]
    rw [eN, eD]
    have HG := Lib.hid eG
    clear eN eD eG
    go_enter Try.func83, Try.ntmps83
    go_wp2_with (go_at_call 124; refine (l01Gcd_any _ _ _ (by omega) (by omega) (by omega) (by omega)).mono ?_; rw [HG.out]; rintro e w' ⟨rfl, rfl⟩)
    go_region
    all_goals go_wp2
    go_returns
    refine ⟨rfl, ?_⟩
    (repeat' (first | (with_reducible exact Below.refl _ _) | (with_reducible assumption) | (with_reducible refine Below.alloc ?_ ?_ _) | (with_reducible refine Below.drew ?_) | (with_reducible refine below_drewN ?_ _) | (with_reducible refine Below.setCell ?_ ?_ _) | (with_reducible refine Below.trans ?_ (Below.mono (by with_reducible assumption) ?_)) | (with_reducible exact Below.size (by with_reducible assumption)) | go_size))
  · have eN : redN n d = n.tdiv (gcdI n d) := by unfold redN; rw [if_neg hd]
    have eD : redD n d = d.tdiv (gcdI n d) := by unfold redD; rw [if_neg hd]
    rw [eN, eD]
    clear eN eD
    go_enter Try.func83, Try.ntmps83
    go_wp2_with (go_at_call 124; refine (l01Gcd_any _ _ _ (by omega) (by omega) (by omega) (by omega)).mono ?_; rintro e w' ⟨rfl, rfl⟩)
    go_region
    all_goals go_wp2
    go_returns
    refine ⟨rfl, ?_⟩
    (repeat' (first | (with_reducible exact Below.refl _ _) | (with_reducible assumption) | (with_reducible refine Below.alloc ?_ ?_ _) | (with_reducible refine Below.drew ?_) | (with_reducible refine below_drewN ?_ _) | (with_reducible refine Below.setCell ?_ ?_ _) | (with_reducible refine Below.trans ?_ (Below.mono (by with_reducible assumption) ?_)) | (with_reducible exact Below.size (by with_reducible assumption)) | go_size))

theorem l01IsFrac_any (n d m : Int) (w : World) (hm : 0 ≤ m) (hm' : m ≤ 1000000000000) :
    Calls Try.prog 125 #[.agg #[.int .i64 n, .int .i64 d], .int .i64 m] w fun e w' => e = .returned (.bool (decide (1 ≤ d ∧ d ≤ m ∧ -m ≤ n ∧ n ≤ m ∧ gcdI n d = 1))) ∧ Below w.heap.size w w' := by
  go_enter Try.func125, Try.ntmps125
  go_wp2_with (first
    | (go_at_call 65; refine (l01In_any _ _ _ _).mono ?_; rintro e w' ⟨rfl, rfl⟩)
    | (go_at_call 124; refine (l01Gcd_any _ _ _ (by omega) (by omega) (by omega) (by omega)).mono ?_; rintro e w' ⟨rfl, rfl⟩))
  all_goals (go_returns; refine ⟨ret_bool ?_, ?_⟩)
  all_goals first | (rw [Bool.eq_iff_iff]; simp; omega) | (repeat' (first | (with_reducible exact Below.refl _ _) | (with_reducible assumption) | (with_reducible refine Below.alloc ?_ ?_ _) | (with_reducible refine Below.drew ?_) | (with_reducible refine below_drewN ?_ _) | (with_reducible refine Below.setCell ?_ ?_ _) | (with_reducible refine Below.trans ?_ (Below.mono (by with_reducible assumption) ?_)) | (with_reducible exact Below.size (by with_reducible assumption)) | go_size))
end Go.Proofs.Ytgncaploccbfnaa.FW
namespace Go.Proofs.Ytgncaploccbfnaa.FW
open Go.RowKit Go.Proofs.Ytgncaploccbfnaa
open Go.Proofs.Ytgncaploccbfnaa.FM

theorem isWithin_yes (x l : Int) (w : World) (h0 : 0 ≤ l) (h1 : l ≤ 1000000000000) (h2 : -l ≤ x) (h3 : x ≤ l) :
    Calls Try.prog 127 #[.int .i64 x, .int .i64 l] w fun e w' => e = .returned (.bool true) ∧ w = w' :=
  (isWithin_any x l w h0 h1).mono fun e w' ⟨he, hw⟩ => ⟨by rw [he, decide_eq_true ⟨h2, h3⟩], hw⟩
theorem isWithin_no (x l : Int) (w : World) (h0 : 0 ≤ l) (h1 : l ≤ 1000000000000) (h2 : x < -l ∨ l < x) :
    Calls Try.prog 127 #[.int .i64 x, .int .i64 l] w fun e w' => e = .returned (.bool false) ∧ w = w' :=
  (isWithin_any x l w h0 h1).mono fun e w' ⟨he, hw⟩ => ⟨by rw [he, decide_eq_false (by omega)], hw⟩

theorem implIsFrac_no1 (n d : Int) (w : World) (h : n < -1000000000 ∨ 1000000000 < n) :
    Calls Try.prog 130 #[.agg #[.int .i64 n, .int .i64 d]] w fun e w' => e = .returned (.bool false) ∧ Below w.heap.size w w' := by
  go_enter Try.func130, Try.ntmps130
  go_wp2
  go_quiet ((go_at_call 127; exact Calls.quiet_of_same ((isWithin_no _ _ _ (by omega) (by omega) h).mono fun e w' ⟨he, hw⟩ => ⟨he, hw.symm⟩)))
  go_wp2
  go_returns
  exact ⟨rfl, by (repeat' (first | (with_reducible exact Below.refl _ _) | (with_reducible assumption) | (with_reducible refine Below.alloc ?_ ?_ _) | (with_reducible refine Below.drew ?_) | (with_reducible refine below_drewN ?_ _) | (with_reducible refine Below.setCell ?_ ?_ _) | (with_reducible refine Below.trans ?_ (Below.mono (by with_reducible assumption) ?_)) | (with_reducible exact Below.size (by with_reducible assumption)) | go_size))⟩

theorem fields_frac : (Try.prog.fieldsOf 98).toList.map (fun f => (f.name, f.type, f.offset)) = [("Num", 2, 0), ("Den", 2, 1)] := by kernel_rfl

theorem eql_frac (a b c e : Int) (w : World) : (Go.binOp .eql 98 (.agg #[.int .i64 a, .int .i64 b]) (.agg #[.int .i64 c, .int .i64 e])).run Try.prog w = .ok (.bool (a == c && b == e)) w := by
  rw [run_eql_struct, run_equalIn_struct w 9999 _ _ _ (by kernel_rfl) (by kernel_rfl)]
  have h := fields_frac
  generalize (Try.prog.fieldsOf 98).toList = fs at h ⊢
  rcases fs with _ | ⟨f, _ | ⟨g, _ | ⟨x, fs⟩⟩⟩ <;> simp at h
  obtain ⟨⟨h1, h2, h3⟩, h4, h5, h6⟩ := h
  simp [Op.eqFields, h1, h2, h3, h4, h5, h6, go_sem]
  by_cases hac : a = c <;> by_cases hbe : b = e <;> simp [hac, hbe]

theorem guard_frac : Try.prog.eqGuardType Try.prog.depth 98 = false := by kernel_rfl
theorem eqGuard_frac (op : BinOp) (x y : Operand) (xs ys : Array Value) (w : World) : (eqGuard op 98 x y (.agg xs) (.agg ys)).run Try.prog w = .ok () w :=
  run_eqGuard_agg w op _ x y xs ys guard_frac
attribute [local go_sem high] eql_frac eqGuard_frac

theorem implIsFrac_yes (n d : Int) (w : World) (h1 : -1000000000 ≤ n) (h2 : n ≤ 1000000000) (h3 : 1 ≤ d) (h4 : d ≤ 1000000000) :
    Calls Try.prog 130 #[.agg #[.int .i64 n, .int .i64 d]] w fun e w' => e = .returned (.bool (decide (gcdI n d = 1))) ∧ Below w.heap.size w w' := by
  go_enter Try.func130, Try.ntmps130
  go_wp2
  go_region_held3 (fun w' => w'.cell? ⟨w.heap.size, 0, none⟩ = some (.int .i64 n) ∧ w'.cell? ⟨w.heap.size, 1, none⟩ = some (.int .i64 d)) (first | go_keep | (refine ⟨?_, ?_⟩ <;> (rw [hb.cell (by simp)]; simp [*])))
    (first | (go_at_call 127; refine (isWithin_yes _ _ _ (by omega) (by omega) (by omega) (by omega)).mono ?_; rintro e w' ⟨rfl, rfl⟩) | (go_at_call 133; refine (lowestTerms_any _ _ _ (by omega) (by omega) (by omega) (by omega) (by omega)).mono ?_; rintro e w' ⟨rfl, hb⟩))
  go_wp2
  go_returns
  refine ⟨ret_bool ?_, ?_⟩
  · rw [Bool.eq_iff_iff]
    have := red_self_iff n d h3
    constructor
    · intro h
      simp only [Bool.and_eq_true, beq_iff_eq] at h
      exact decide_eq_true (this.1 ⟨h.1.symm, h.2.symm⟩)
    · intro h
      have h := this.2 (of_decide_eq_true h)
      simp only [Bool.and_eq_true, beq_iff_eq]
      exact ⟨h.1.symm, h.2.symm⟩
  · have h : Below w.heap.size w (w.alloc (Obj.cells #[Value.int IntKind.i64 n, Value.int IntKind.i64 d] 98)).drew := by (repeat' (first | (with_reducible exact Below.refl _ _) | (with_reducible assumption) | (with_reducible refine Below.alloc ?_ ?_ _) | (with_reducible refine Below.drew ?_) | (with_reducible refine below_drewN ?_ _) | (with_reducible refine Below.setCell ?_ ?_ _) | (with_reducible refine Below.trans ?_ (Below.mono (by with_reducible assumption) ?_)) | (with_reducible exact Below.size (by with_reducible assumption)) | go_size))
    refine h.trans (hb.mono (by simp))

theorem implIsFrac_no2 (n d : Int) (w : World) (h1 : -1000000000 ≤ n) (h2 : n ≤ 1000000000) (h : d < 1) :
    Calls Try.prog 130 #[.agg #[.int .i64 n, .int .i64 d]] w fun e w' => e = .returned (.bool false) ∧ Below w.heap.size w w' := by
  have hdec : decide (1 ≤ d) = false := decide_eq_false (by omega)
  go_enter Try.func130, Try.ntmps130
  go_wp2
  go_quiet ((go_at_call 127; exact Calls.quiet_of_same ((isWithin_yes _ _ _ (by omega) (by omega) (by omega) (by omega)).mono fun e w' ⟨he, hw⟩ => ⟨he, hw.symm⟩)))
  go_wp2
  go_returns
  exact ⟨rfl, by (repeat' (first | (with_reducible exact Below.refl _ _) | (with_reducible assumption) | (with_reducible refine Below.alloc ?_ ?_ _) | (with_reducible refine Below.drew ?_) | (with_reducible refine below_drewN ?_ _) | (with_reducible refine Below.setCell ?_ ?_ _) | (with_reducible refine Below.trans ?_ (Below.mono (by with_reducible assumption) ?_)) | (with_reducible exact Below.size (by with_reducible assumption)) | go_size))⟩

theorem implIsFrac_no3 (n d : Int) (w : World) (h1 : -1000000000 ≤ n) (h2 : n ≤ 1000000000) (h3 : 1 ≤ d) (h : 1000000000 < d) :
    Calls Try.prog 130 #[.agg #[.int .i64 n, .int .i64 d]] w fun e w' => e = .returned (.bool false) ∧ Below w.heap.size w w' := by
  have hdec : decide (d ≤ 1000000000) = false := decide_eq_false (by omega)
  go_enter Try.func130, Try.ntmps130
  go_wp2
  go_quiet ((go_at_call 127; exact Calls.quiet_of_same ((isWithin_yes _ _ _ (by omega) (by omega) (by omega) (by omega)).mono fun e w' ⟨he, hw⟩ => ⟨he, hw.symm⟩)))
  go_wp2
  go_returns
  exact ⟨rfl, by (repeat' (first | (with_reducible exact Below.refl _ _) | (with_reducible assumption) | (with_reducible refine Below.alloc ?_ ?_ _) | (with_reducible refine Below.drew ?_) | (with_reducible refine below_drewN ?_ _) | (with_reducible refine Below.setCell ?_ ?_ _) | (with_reducible refine Below.trans ?_ (Below.mono (by with_reducible assumption) ?_)) | (with_reducible exact Below.size (by with_reducible assumption)) | go_size))⟩

/-- The program's test of a fraction, at every pair of numbers. -/
theorem implIsFrac_any (n d : Int) (w : World) :
    Calls Try.prog 130 #[.agg #[.int .i64 n, .int .i64 d]] w fun e w' => e = .returned (.bool (isF n d)) ∧ Below w.heap.size w w' := by
  by_cases h1 : n < -1000000000 ∨ 1000000000 < n
  · refine (implIsFrac_no1 n d w h1).mono fun e w' ⟨he, hb⟩ => ⟨?_, hb⟩
    rw [he, isF, decide_eq_false (by unfold IsF; omega)]
  by_cases h2 : d < 1
  · refine (implIsFrac_no2 n d w (by omega) (by omega) h2).mono fun e w' ⟨he, hb⟩ => ⟨?_, hb⟩
    rw [he, isF, decide_eq_false (by unfold IsF; omega)]
  by_cases h3 : 1000000000 < d
  · refine (implIsFrac_no3 n d w (by omega) (by omega) (by omega) h3).mono fun e w' ⟨he, hb⟩ => ⟨?_, hb⟩
    rw [he, isF, decide_eq_false (by unfold IsF; omega)]
  refine (implIsFrac_yes n d w (by omega) (by omega) (by omega) (by omega)).mono fun e w' ⟨he, hb⟩ => ⟨?_, hb⟩
  rw [he]
  refine ret_bool ?_
  unfold isF
  rw [decide_eq_decide]
  unfold IsF
  omega

theorem specIsFrac_any (n d : Int) (w : World) :
    Calls Try.prog 123 #[.agg #[.int .i64 n, .int .i64 d]] w fun e w' => e = .returned (.bool (isF n d)) ∧ Below w.heap.size w w' := by
  have e0 : decide (1 ≤ d ∧ d ≤ 1000000000 ∧ -1000000000 ≤ n ∧ n ≤ 1000000000 ∧ gcdI n d = 1) = isF n d := by
    unfold isF
    rw [decide_eq_decide]
    unfold IsF
    omega
  have E := Lib.hid e0
  clear e0
  go_enter Try.func123, Try.ntmps123
  go_wp2_with (go_at_call 125; refine (l01IsFrac_any _ _ _ _ (by omega) (by omega)).mono ?_; rw [E.out]; rintro e w' ⟨rfl, hb⟩)
  go_returns
  refine ⟨rfl, ?_⟩
  (repeat' (first | (with_reducible exact Below.refl _ _) | (with_reducible assumption) | (with_reducible refine Below.alloc ?_ ?_ _) | (with_reducible refine Below.drew ?_) | (with_reducible refine below_drewN ?_ _) | (with_reducible refine Below.setCell ?_ ?_ _) | (with_reducible refine Below.trans ?_ (Below.mono (by with_reducible assumption) ?_)) | (with_reducible exact Below.size (by with_reducible assumption)) | go_size))
end Go.Proofs.Ytgncaploccbfnaa.FW
namespace Go.Proofs.Ytgncaploccbfnaa.FW
open Go.RowKit Go.Proofs.Ytgncaploccbfnaa
open Go.Proofs.Ytgncaploccbfnaa.FM

theorem implIsFrac_is (n d : Int) (b : Bool) (w : World) (h : isF n d = b) :
    Calls Try.prog 130 #[.agg #[.int .i64 n, .int .i64 d]] w fun e w' => e = .returned (.bool b) ∧ Below w.heap.size w w' := by
  subst h; exact implIsFrac_any n d w
theorem specIsFrac_is (n d : Int) (b : Bool) (w : World) (h : isF n d = b) :
    Calls Try.prog 123 #[.agg #[.int .i64 n, .int .i64 d]] w fun e w' => e = .returned (.bool b) ∧ Below w.heap.size w w' := by
  subst h; exact specIsFrac_any n d w
theorem l01IsFrac_is (n d : Int) (b : Bool) (w : World) (h : isF n d = b) :
    Calls Try.prog 125 #[.agg #[.int .i64 n, .int .i64 d], .int .i64 1000000000] w fun e w' => e = .returned (.bool b) ∧ Below w.heap.size w w' := by
  subst h
  refine (l01IsFrac_any n d 1000000000 w (by omega) (by omega)).mono fun e w' ⟨he, hb⟩ => ⟨?_, hb⟩
  rw [he]
  refine ret_bool ?_
  unfold isF
  rw [decide_eq_decide]
  unfold IsF
  omega

theorem limitedFrac_any (n d : Int) (w : World) (ha : -9223372036854775807 ≤ n) (ha' : n ≤ 9223372036854775807) (hb : -9223372036854775807 ≤ d) (hb' : d ≤ 9223372036854775807) (h0 : d ≠ 0) :
    Calls Try.prog 128 #[.int .i64 n, .int .i64 d] w fun e w' => e = .returned (.tuple #[.agg #[.int .i64 (toldN n d), .int .i64 (toldD n d)], .int .i64 (toldC n d)]) ∧ Below w.heap.size w w' := by
  by_cases hf : isF (redN n d) (redD n d) = true
  · have e1 : toldN n d = redN n d := by unfold toldN; rw [if_pos hf]
    have e2 : toldD n d = redD n d := by unfold toldD; rw [if_pos hf]
    have e3 : toldC n d = 0 := by unfold toldC; rw [if_pos hf]
    rw [e1, e2, e3]
    clear e1 e2 e3
    have HF := Lib.hid hf
    clear hf
    go_enter Try.func128, Try.ntmps128
    go_wp2_with (first | (go_at_call 133; refine (lowestTerms_any _ _ _ (by omega) (by omega) (by omega) (by omega) (by omega)).mono ?_; rintro e w1 ⟨rfl, hb1⟩; obtain ⟨hc_hb1, hf_hb1⟩ := bcell hb1; have hz_hb1 := hb1.size; (try simp at hz_hb1); (try simp only [Nat.add_one_le_iff] at hz_hb1)) | (go_at_call 130; refine (implIsFrac_is _ _ _ _ HF.out).mono ?_; rintro e w2 ⟨rfl, hb2⟩; obtain ⟨hc_hb2, hf_hb2⟩ := bcell hb2; obtain ⟨hcA_hb2, hfA_hb2⟩ := bcellG (W0 := w1) hb2 (by (repeat' (first | (with_reducible exact Below.refl _ _) | (with_reducible assumption) | (with_reducible refine Below.alloc ?_ ?_ _) | (with_reducible refine Below.drew ?_) | (with_reducible refine below_drewN ?_ _) | (with_reducible refine Below.setCell ?_ ?_ _) | (with_reducible refine Below.trans ?_ (Below.mono (by with_reducible assumption) ?_)) | (with_reducible exact Below.size (by with_reducible assumption)) | go_size))); have hz_hb2 := hb2.size; (try simp at hz_hb2); (try simp only [Nat.add_one_le_iff] at hz_hb2)))
    refine bodyPost_ret (v := .tuple #[.agg #[.int .i64 (redN n d), .int .i64 (redD n d)], .int .i64 0]) (by simp [*, results, Try.results128, go_sem]) rfl ?_
    refine ⟨rfl, ?_⟩
    (repeat' (first | (with_reducible exact Below.refl _ _) | (with_reducible assumption) | (with_reducible refine Below.alloc ?_ ?_ _) | (with_reducible refine Below.drew ?_) | (with_reducible refine below_drewN ?_ _) | (with_reducible refine Below.setCell ?_ ?_ _) | (with_reducible refine Below.trans ?_ (Below.mono (by with_reducible assumption) ?_)) | (with_reducible exact Below.size (by with_reducible assumption)) | go_size))
  · have e1 : toldN n d = 0 := by unfold toldN; rw [if_neg hf]
    have e2 : toldD n d = 0 := by unfold toldD; rw [if_neg hf]
    have e3 : toldC n d = 3 := by unfold toldC; rw [if_neg hf]
    rw [e1, e2, e3]
    clear e1 e2 e3
    have hf' : isF (redN n d) (redD n d) = false := by simpa using hf
    have HF := Lib.hid hf'
    clear hf hf'
    go_enter Try.func128, Try.ntmps128
    go_wp2_with (first | (go_at_call 133; refine (lowestTerms_any _ _ _ (by omega) (by omega) (by omega) (by omega) (by omega)).mono ?_; rintro e w1 ⟨rfl, hb1⟩; obtain ⟨hc_hb1, hf_hb1⟩ := bcell hb1; have hz_hb1 := hb1.size; (try simp at hz_hb1); (try simp only [Nat.add_one_le_iff] at hz_hb1)) | (go_at_call 130; refine (implIsFrac_is _ _ _ _ HF.out).mono ?_; rintro e w2 ⟨rfl, hb2⟩; obtain ⟨hc_hb2, hf_hb2⟩ := bcell hb2; obtain ⟨hcA_hb2, hfA_hb2⟩ := bcellG (W0 := w1) hb2 (by (repeat' (first | (with_reducible exact Below.refl _ _) | (with_reducible assumption) | (with_reducible refine Below.alloc ?_ ?_ _) | (with_reducible refine Below.drew ?_) | (with_reducible refine below_drewN ?_ _) | (with_reducible refine Below.setCell ?_ ?_ _) | (with_reducible refine Below.trans ?_ (Below.mono (by with_reducible assumption) ?_)) | (with_reducible exact Below.size (by with_reducible assumption)) | go_size))); have hz_hb2 := hb2.size; (try simp at hz_hb2); (try simp only [Nat.add_one_le_iff] at hz_hb2)))
    refine bodyPost_ret (v := .tuple #[.agg #[.int .i64 0, .int .i64 0], .int .i64 3]) (by simp [*, results, Try.results128, go_sem]) rfl ?_
    refine ⟨rfl, ?_⟩
    (repeat' (first | (with_reducible exact Below.refl _ _) | (with_reducible assumption) | (with_reducible refine Below.alloc ?_ ?_ _) | (with_reducible refine Below.drew ?_) | (with_reducible refine below_drewN ?_ _) | (with_reducible refine Below.setCell ?_ ?_ _) | (with_reducible refine Below.trans ?_ (Below.mono (by with_reducible assumption) ?_)) | (with_reducible exact Below.size (by with_reducible assumption)) | go_size))

/-- What is told of a pair of numbers by the model. -/
theorem l01Told_any (x y : Int) (w : World) :
    Calls Try.prog 82 #[.agg #[.int .i64 x, .int .i64 y]] w fun e w' => e = .returned (.tuple #[.agg #[.int .i64 (if isF x y then x else 0), .int .i64 (if isF x y then y else 0)], .int .i64 (if isF x y then 0 else 3)]) ∧ Below w.heap.size w w' := by
  by_cases hf : isF x y = true
  · rw [if_pos hf, if_pos hf, if_pos hf]
    have HF := Lib.hid hf
    clear hf
    go_enter Try.func82, Try.ntmps82
    go_wp2_with (go_at_call 125; refine (l01IsFrac_is _ _ _ _ HF.out).mono ?_; rintro e w1 ⟨rfl, hb1⟩; obtain ⟨hc_hb1, hf_hb1⟩ := bcell hb1; have hz_hb1 := hb1.size; (try simp at hz_hb1); (try simp only [Nat.add_one_le_iff] at hz_hb1))
    refine bodyPost_ret (v := .tuple #[.agg #[.int .i64 x, .int .i64 y], .int .i64 0]) (by simp [*, results, Try.results82, go_sem]) rfl ?_
    refine ⟨rfl, ?_⟩
    (repeat' (first | (with_reducible exact Below.refl _ _) | (with_reducible assumption) | (with_reducible refine Below.alloc ?_ ?_ _) | (with_reducible refine Below.drew ?_) | (with_reducible refine below_drewN ?_ _) | (with_reducible refine Below.setCell ?_ ?_ _) | (with_reducible refine Below.trans ?_ (Below.mono (by with_reducible assumption) ?_)) | (with_reducible exact Below.size (by with_reducible assumption)) | go_size))
  · rw [if_neg hf, if_neg hf, if_neg hf]
    have hf' : isF x y = false := by simpa using hf
    have HF := Lib.hid hf'
    clear hf hf'
    go_enter Try.func82, Try.ntmps82
    go_wp2_with (go_at_call 125; refine (l01IsFrac_is _ _ _ _ HF.out).mono ?_; rintro e w1 ⟨rfl, hb1⟩; obtain ⟨hc_hb1, hf_hb1⟩ := bcell hb1; have hz_hb1 := hb1.size; (try simp at hz_hb1); (try simp only [Nat.add_one_le_iff] at hz_hb1))
    refine bodyPost_ret (v := .tuple #[.agg #[.int .i64 0, .int .i64 0], .int .i64 3]) (by simp [*, results, Try.results82, go_sem]) rfl ?_
    refine ⟨rfl, ?_⟩
    (repeat' (first | (with_reducible exact Below.refl _ _) | (with_reducible assumption) | (with_reducible refine Below.alloc ?_ ?_ _) | (with_reducible refine Below.drew ?_) | (with_reducible refine below_drewN ?_ _) | (with_reducible refine Below.setCell ?_ ?_ _) | (with_reducible refine Below.trans ?_ (Below.mono (by with_reducible assumption) ?_)) | (with_reducible exact Below.size (by with_reducible assumption)) | go_size))

end Go.Proofs.Ytgncaploccbfnaa.FW
