/-
  The remainder of a problem at fractions: what stands.
-/
import Derived.Test.YtgncaploccbfnaaVRemS
import Derived.Test.YtgncaploccbfnaaVLim
namespace Go.Proofs.Ytgncaploccbfnaa.PW
open Go.RowKit Go.Proofs.Ytgncaploccbfnaa
open Go.Proofs.Ytgncaploccbfnaa.PM Go.Proofs.Ytgncaploccbfnaa.PX

/-- What stands when a common denominator is found. -/
theorem comV_some {xs : List (Int × Int)} {d : Int} (hf : fracs xs) (h : comOut xs = some d) : comD 1 xs = some d ∧ (1 ≤ d ∧ d ≤ 1000000000) ∧ ∀ x ∈ xs, -1000000000000 ≤ numI d x ∧ numI d x ≤ 1000000000000 := by
  unfold comOut at h
  cases hc : comD 1 xs with
  | none => rw [hc] at h; cases h
  | some e =>
    rw [hc] at h
    simp only at h
    split at h
    · rename_i hn
      obtain rfl : e = d := by simpa using h
      refine ⟨rfl, comD_bd xs 1 e (by omega) hf hc, fun x hx => ?_⟩
      have := List.all_eq_true.1 hn x hx
      exact of_decide_eq_true this
    · cases h
/-- The denominators divide the common one. -/
theorem comV_dvd : ∀ (xs : List (Int × Int)) (d e : Int), (1 ≤ d ∧ d ≤ 1000000000) → fracs xs → comD d xs = some e → d ∣ e ∧ ∀ x ∈ xs, x.2 ∣ e
  | [], d, e, _, _, h => by
    obtain rfl : d = e := by simpa [comD] using h
    exact ⟨Int.dvd_refl _, fun x hx => (List.not_mem_nil hx).elim⟩
  | x :: r, d, e, hd, hf, h => by
    unfold comD at h
    split at h
    · cases h
    · rename_i hn
      have hx := FM.isF_yes (hf x (by simp))
      have hst := com_step hd (y := x.2) ⟨hx.2.2.1, hx.2.2.2.1⟩
      obtain ⟨h1, h2⟩ := comV_dvd r _ e ⟨hst.2.2.2.1, by omega⟩ (fun y hy => hf y (by simp [hy])) h
      obtain ⟨q, hq⟩ := FM.gcdI_dvd_left d x.2
      obtain ⟨p, hp⟩ := FM.gcdI_dvd_right d x.2
      have hdq : d.tdiv (FM.gcdI d x.2) = q := by
        have h := Int.mul_tdiv_cancel_left q (show FM.gcdI d x.2 ≠ 0 by omega)
        rwa [← hq] at h
      rw [hdq] at h1
      have hd1 : d ∣ q * x.2 := ⟨p, by
        conv => lhs; rw [hp]
        rw [← Int.mul_assoc, Int.mul_comm q, ← hq]⟩
      exact ⟨Int.dvd_trans hd1 h1, fun y hy => by
        rcases List.mem_cons.1 hy with rfl | hy
        · exact Int.dvd_trans (Int.dvd_mul_left _ _) h1
        · exact h2 y hy⟩

def remOut (M : List (List Int)) (Q : List Int) (Z : List (Int × Int)) : List (Int × Int) × Int :=
  if fcCode M Q Z = 0 then (match comOut Z with
    | none => ([], 3)
    | some d => limOut (remL M Q (Z.map (numI d)) d) d) else ([], fcCode M Q Z)
theorem remOut_err {M : List (List Int)} {Q : List Int} {Z : List (Int × Int)} (h : fcCode M Q Z ≠ 0) : remOut M Q Z = ([], fcCode M Q Z) := by unfold remOut; rw [if_neg h]
theorem remOut_none {M : List (List Int)} {Q : List Int} {Z : List (Int × Int)} (h : fcCode M Q Z = 0) (h2 : comOut Z = none) : remOut M Q Z = ([], 3) := by unfold remOut; rw [if_pos h, h2]
theorem remOut_some {M : List (List Int)} {Q : List Int} {Z : List (Int × Int)} {d : Int} (h : fcCode M Q Z = 0) (h2 : comOut Z = some d) : remOut M Q Z = limOut (remL M Q (Z.map (numI d)) d) d := by unfold remOut; rw [if_pos h, h2]
theorem remL_length (M : List (List Int)) (Q L : List Int) (d : Int) : (remL M Q L d).length = M.length := by simp [remL]
theorem fine_rem (M : List (List Int)) (Q : List Int) (Z : List (Int × Int)) : FineF (remOut M Q Z).1 := by
  unfold remOut
  split
  · rename_i hc
    have hl : M.length ≤ 5 := by
      rcases fc_cases M Q Z with h | ⟨_, hp, _⟩
      · omega
      · exact (isPB_facts hp).2.1
    split
    · exact fineF_nil
    · unfold limOut
      split
      · refine ⟨?_⟩
        simp [remL]
        omega
      · exact fineF_nil
  · exact fineF_nil
/-- What stands of the numbers of a good list. -/
theorem nums_bd {Z : List (Int × Int)} {d : Int} (h : ∀ x ∈ Z, -1000000000000 ≤ numI d x ∧ numI d x ≤ 1000000000000) (t : Nat) (ht : t < Z.length) : -1000000000000 ≤ (Z.map (numI d)).getD t 0 ∧ (Z.map (numI d)).getD t 0 ≤ 1000000000000 := by
  rw [show (Z.map (numI d)).getD t 0 = numI d (Z.getD t (0, 0)) by simp [ht]]
  exact h _ (getD_mem2 ht)
theorem nums_i64 {Z : List (Int × Int)} {d : Int} (h : ∀ x ∈ Z, -1000000000000 ≤ numI d x ∧ numI d x ≤ 1000000000000) : ∀ x ∈ Z.map (numI d), I64 x := fun x hx => by
  obtain ⟨y, hy, rfl⟩ := List.mem_map.1 hx
  have := h y hy
  unfold I64; omega
theorem rem_bd {M : List (List Int)} {Q L : List Int} {d : Int} (hp : isPB M Q = true) (hd : 0 ≤ d ∧ d ≤ 1000000000) (hL : ∀ t, t < M.length → -1000000000000 ≤ L.getD t 0 ∧ L.getD t 0 ≤ 1000000000000) : ∀ j, j < (remL M Q L d).length → -200000000000000 ≤ (remL M Q L d).getD j 0 ∧ (remL M Q L d).getD j 0 ≤ 200000000000000 := fun j hj => by
  rw [remL_length] at hj
  have h5 := (isPB_facts hp).2.1
  have := remTo_bd hp hd hL hj M.length (Nat.le_refl _)
  rw [show (remL M Q L d).getD j 0 = remTo M Q L d j M.length by simp [remL, hj]]
  omega
theorem freshI_ints2 {B : Nat} {w : World} {v : Value} {xs : List Int} (h : FreshI B w v xs) (hx : ∀ x ∈ xs, I64 x) : Ints w v xs := OwnI.ints (show OwnI w v xs from h.owns) hx

end Go.Proofs.Ytgncaploccbfnaa.PW
