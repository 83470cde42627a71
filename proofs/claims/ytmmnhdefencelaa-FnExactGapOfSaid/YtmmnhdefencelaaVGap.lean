/-
  The gap of fractions: plain mathematics, and its walk in the model.
-/
import Derived.Test.YtmmnhdefencelaaVRemD
import Derived.Test.YtmmnhdefencelaaVNum
namespace Go.Proofs.Ytmmnhdefencelaa.PW
open Go.RowKit Go.Proofs.Ytmmnhdefencelaa
open Go.Proofs.Ytmmnhdefencelaa.PM Go.Proofs.Ytmmnhdefencelaa.PX

theorem remTo_bd2 {M : List (List Int)} {Q L : List Int} {d : Int} (hp : isPB M Q = true) (hd : 0 ≤ d ∧ d ≤ 1000) (hL : ∀ t, t < M.length → -1000000 ≤ L.getD t 0 ∧ L.getD t 0 ≤ 1000000) {i : Nat} (hi : i < M.length) :
    ∀ t, t ≤ M.length → -(100000 + 20000000 * t) ≤ remTo M Q L d i t ∧ remTo M Q L d i t ≤ 100000 + 20000000 * t := by
  obtain ⟨f1, f2, f3, f4, f5⟩ := isPB_facts hp
  intro t
  induction t with
  | zero =>
    intro _
    have := f5 i (by omega)
    have := PM.mul_bd (A := 100) (B := 1000) this.1 this.2 (by omega) hd.2
    simp only [remTo]
    omega
  | succ t ih =>
    intro ht
    have h1 := ih (by omega)
    have h2 := (f4 i hi).2 t (by omega)
    have h3 := hL t (by omega)
    have := PM.mul_bd (A := 20) (B := 1000000) h2.1 h2.2 h3.1 h3.2
    simp only [remTo]
    have e : ent M i t = (M.getD i []).getD t 0 := rfl
    rw [← e] at this
    rw [show ((t + 1 : Nat) : Int) = (t : Int) + 1 by omega]
    omega
/-- The sum of the products. -/
def dotTo (R L : List Int) : Nat → Int
  | 0 => 0
  | t + 1 => dotTo R L t + L.getD t 0 * R.getD t 0
theorem dotTo_bd {R L : List Int} {n : Nat} (hR : ∀ t, t < n → -110000000 ≤ R.getD t 0 ∧ R.getD t 0 ≤ 110000000) (hL : ∀ t, t < n → -1000000 ≤ L.getD t 0 ∧ L.getD t 0 ≤ 1000000) :
    ∀ t, t ≤ n → -(110000000000000 * t) ≤ dotTo R L t ∧ dotTo R L t ≤ 110000000000000 * t := by
  intro t
  induction t with
  | zero => intro _; simp [dotTo]
  | succ t ih =>
    intro ht
    have h1 := ih (by omega)
    have h2 := hR t (by omega)
    have h3 := hL t (by omega)
    have := PM.mul_bd (A := 1000000) (B := 110000000) h3.1 h3.2 h2.1 h2.2
    simp only [dotTo]
    rw [show ((t + 1 : Nat) : Int) = (t : Int) + 1 by omega]
    omega
def numsIn (Z : List (Int × Int)) : Bool := Z.all fun x => decide (-1000 ≤ x.1 ∧ x.1 ≤ 1000)
theorem numsIn_iff (Z : List (Int × Int)) : numsIn Z = true ↔ ∀ i, i < Z.length → -1000 ≤ (Z.getD i (0, 0)).1 ∧ (Z.getD i (0, 0)).1 ≤ 1000 := by
  unfold numsIn
  rw [List.all_eq_true]
  constructor
  · intro h i hi
    exact of_decide_eq_true (h _ (getD_mem2 hi))
  · intro h x hx
    obtain ⟨j, hj, rfl⟩ := List.mem_iff_getElem.1 hx
    have := h j hj
    rw [show Z.getD j (0, 0) = Z[j] by simp [hj]] at this
    exact decide_eq_true this
def gapS (M : List (List Int)) (Q : List Int) (Z : List (Int × Int)) (d : Int) : Int := dotTo (remL M Q (Z.map (numI d)) d) (Z.map (numI d)) M.length
/-- What is told of the gap: fraction and code, and whether it is a fraction that is told. -/
def gapD (Z : List (Int × Int)) : Option Int := if numsIn Z = true then (match comOut Z with
  | none => none
  | some d => if 1000 < d then none else some d) else none
def gapOut (M : List (List Int)) (Q : List Int) (Z : List (Int × Int)) : (Int × Int) × Int :=
  if fcCode M Q Z = 0 then (match gapD Z with
    | none => ((0, 0), 2)
    | some d => ((FM.toldN (gapS M Q Z d) (d * d), FM.toldD (gapS M Q Z d) (d * d)), FM.toldC (gapS M Q Z d) (d * d))) else ((0, 0), fcCode M Q Z)
theorem gapOut_err {M : List (List Int)} {Q : List Int} {Z : List (Int × Int)} (h : fcCode M Q Z ≠ 0) : gapOut M Q Z = ((0, 0), fcCode M Q Z) := by unfold gapOut; rw [if_neg h]
theorem gapOut_none {M : List (List Int)} {Q : List Int} {Z : List (Int × Int)} (h : fcCode M Q Z = 0) (h2 : gapD Z = none) : gapOut M Q Z = ((0, 0), 2) := by unfold gapOut; rw [if_pos h, h2]
theorem gapOut_some {M : List (List Int)} {Q : List Int} {Z : List (Int × Int)} {d : Int} (h : fcCode M Q Z = 0) (h2 : gapD Z = some d) : gapOut M Q Z = ((FM.toldN (gapS M Q Z d) (d * d), FM.toldD (gapS M Q Z d) (d * d)), FM.toldC (gapS M Q Z d) (d * d)) := by unfold gapOut; rw [if_pos h, h2]
theorem gapD_bad {Z : List (Int × Int)} {i : Nat} (hi : i < Z.length) (h : ¬ (-1000 ≤ (Z.getD i (0, 0)).1 ∧ (Z.getD i (0, 0)).1 ≤ 1000)) : gapD Z = none := by
  unfold gapD
  rw [if_neg]
  intro e
  exact h ((numsIn_iff Z).1 e i hi)
theorem gapD_com {Z : List (Int × Int)} (h : comOut Z = none) : gapD Z = none := by
  unfold gapD
  split
  · rw [h]
  · rfl
theorem gapD_far {Z : List (Int × Int)} {d : Int} (h : comOut Z = some d) (hd : 1000 < d) : gapD Z = none := by
  unfold gapD
  split
  · rw [h]; simp only; rw [if_pos hd]
  · rfl
theorem gapD_ok {Z : List (Int × Int)} {d : Int} (hn : numsIn Z = true) (h : comOut Z = some d) (hd : ¬ 1000 < d) : gapD Z = some d := by
  unfold gapD
  rw [if_pos hn, h]
  simp only
  rw [if_neg hd]
theorem gapD_den {Z : List (Int × Int)} (hf : fracs Z) {i : Nat} (hi : i < Z.length) (h : 1000 < (Z.getD i (0, 0)).2) : gapD Z = none := by
  cases hc : comOut Z with
  | none => exact gapD_com hc
  | some d =>
    obtain ⟨h1, h2, _⟩ := comV_some hf hc
    obtain ⟨_, hdv⟩ := comV_dvd Z 1 d ⟨by decide, by decide⟩ hf h1
    have := Int.le_of_dvd (by omega) (hdv _ (getD_mem2 hi))
    exact gapD_far hc (by omega)
/-- The numbers of a gap that is told. -/
theorem gap_nums {M : List (List Int)} {Q : List Int} {Z : List (Int × Int)} {d : Int} (hp : isPB M Q = true) (hf : fracs Z) (hl : Z.length = M.length) (hn : numsIn Z = true) (hd : 1 ≤ d ∧ d ≤ 1000) :
    (∀ t, t < M.length → -1000000 ≤ (Z.map (numI d)).getD t 0 ∧ (Z.map (numI d)).getD t 0 ≤ 1000000) ∧ (∀ t, t < M.length → -110000000 ≤ (remL M Q (Z.map (numI d)) d).getD t 0 ∧ (remL M Q (Z.map (numI d)) d).getD t 0 ≤ 110000000) ∧
    ∀ t, t ≤ M.length → -550000000000000 ≤ dotTo (remL M Q (Z.map (numI d)) d) (Z.map (numI d)) t ∧ dotTo (remL M Q (Z.map (numI d)) d) (Z.map (numI d)) t ≤ 550000000000000 := by
  have h5 := (isPB_facts hp).2.1
  have hL : ∀ t, t < M.length → -1000000 ≤ (Z.map (numI d)).getD t 0 ∧ (Z.map (numI d)).getD t 0 ≤ 1000000 := fun t ht => by
    have htz : t < Z.length := by omega
    rw [show (Z.map (numI d)).getD t 0 = numI d (Z.getD t (0, 0)) by simp [htz]]
    have h1 := (numsIn_iff Z).1 hn t htz
    have h2 := FM.isF_yes (hf _ (getD_mem2 htz))
    generalize Z.getD t (0, 0) = x at *
    have hq : d.tdiv x.2 = d / x.2 := Int.tdiv_eq_ediv_of_nonneg (by omega)
    have hq0 : 0 ≤ d / x.2 := Int.ediv_nonneg (by omega) (by omega)
    have hq1 : d / x.2 ≤ d := Int.ediv_le_self _ (by omega)
    have := PM.mul_bd (A := 1000) (B := 1000) h1.1 h1.2 (show -1000 ≤ d.tdiv x.2 by omega) (by omega)
    unfold numI
    omega
  have hR : ∀ t, t < M.length → -110000000 ≤ (remL M Q (Z.map (numI d)) d).getD t 0 ∧ (remL M Q (Z.map (numI d)) d).getD t 0 ≤ 110000000 := fun t ht => by
    have := remTo_bd2 hp ⟨by omega, hd.2⟩ hL ht M.length (Nat.le_refl _)
    rw [show (remL M Q (Z.map (numI d)) d).getD t 0 = remTo M Q (Z.map (numI d)) d t M.length by simp [remL, ht]]
    omega
  refine ⟨hL, hR, fun t ht => ?_⟩
  have := dotTo_bd hR hL t ht
  omega
theorem sq_bd {d : Int} (hd : 1 ≤ d ∧ d ≤ 1000) : 1 ≤ d * d ∧ d * d ≤ 1000000 := by
  have h1 : 1 * 1 ≤ d * d := Int.mul_le_mul hd.1 hd.1 (by omega) (by omega)
  have h2 : d * d ≤ 1000 * 1000 := Int.mul_le_mul hd.2 hd.2 (by omega) (by omega)
  omega
theorem gap_isF {S d : Int} (hd : 1 ≤ d ∧ d ≤ 1000000) : FM.isF (FM.redN S d) (FM.redD S d) = true ↔ (-1000000000 ≤ FM.redN S d ∧ FM.redN S d ≤ 1000000000) := by
  have b2 := FM.redD_bd S d
  have b3 := FM.redD_pos S d (by omega)
  have b4 := FM.gcd_red S d (by omega)
  constructor
  · intro h
    have := FM.isF_yes h
    omega
  · intro h
    exact decide_eq_true ⟨h.1, h.2, by omega, by omega, b4⟩
end Go.Proofs.Ytmmnhdefencelaa.PW
