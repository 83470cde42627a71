/-
  Which lists of fractions have no negative one: in the program, wherever the list lies.
-/
import Derived.Test.YtoglmkjmnknbbaaVNum
import Derived.Test.YtoglmkjmnknbbaaPCol
namespace Go.Proofs.Ytoglmkjmnknbbaa.PW
open Go.RowKit Go.Proofs.Ytoglmkjmnknbbaa
open Go.Proofs.Ytoglmkjmnknbbaa.PM

def nonnZ (xs : List (Int × Int)) : Bool := xs.all fun x => decide (0 ≤ x.1)
theorem nonnZ_iff (xs : List (Int × Int)) : nonnZ xs = true ↔ ∀ j, j < xs.length → 0 ≤ (xs.getD j (0, 0)).1 := by
  unfold nonnZ
  rw [List.all_eq_true]
  constructor
  · intro h j hj
    exact of_decide_eq_true (h _ (getD_mem2 hj))
  · intro h x hx
    obtain ⟨j, hj, rfl⟩ := List.getElem_of_mem hx
    have := h j hj
    simpa [hj] using this
theorem nonnZ_no {xs : List (Int × Int)} {j : Nat} (hj : j < xs.length) (h : (xs.getD j (0, 0)).1 < 0) : nonnZ xs = false := by
  cases e : nonnZ xs
  · rfl
  · have := (nonnZ_iff xs).1 e j hj
    omega

set_option maxHeartbeats 1000000 in
theorem areNonneg_frs (v : Value) (xs : List (Int × Int)) (w : World) (hv : Frs w v xs) (hn1 : 1 ≤ xs.length) (hm : xs.length ≤ 1048576) :
    Calls Try.prog 114 #[v] w fun e w' => e = .returned (.bool (nonnZ xs)) ∧ Below w.heap.size w w' := by
  obtain ⟨b, off, c, rfl, _, hcell⟩ := hv.at_ hn1
  have HC := Lib.hid hcell
  have HI := Lib.hid (nonnZ_iff xs)
  have HNO := Lib.hid (fun j (hj : j < xs.length) => nonnZ_no hj)
  obtain ⟨t, ht⟩ : ∃ t, t = nonnZ xs := ⟨_, rfl⟩
  rw [← ht] at HI HNO ⊢
  clear hv hcell ht
  go_enter Try.func114, Try.ntmps114
  go_wp2
  go_loopw [4, 7] (fun _ i wr => ∃ k : Nat, k ≤ xs.length ∧ i = .int .i64 k ∧ Hid (∀ j, j < k → 0 ≤ (xs.getD j (0, 0)).1) ∧ Below w.heap.size w wr) (fun _ i _ => xs.length - (intOf i).toNat)
  case atStart => exact ⟨0, Nat.zero_le _, rfl, fun j hj => absurd hj (Nat.not_lt_zero _), Below.refl _ _⟩
  case round =>
    obtain ⟨k, hk, rfl, HA, hB⟩ := hrel
    by_cases hlt3 : k < xs.length
    · obtain ⟨c0, c1⟩ := HC.out wr hB k hlt3
      have hno := HNO.out k hlt3
      have HBW := Lib.hid hB
      obtain ⟨x, hx⟩ : ∃ x, x = (xs.getD k (0, 0)).1 := ⟨_, rfl⟩
      rw [← hx] at c0 hno
      have HX := Lib.hid hx
      have HN := Lib.hid hno
      generalize (xs.getD k (0, 0)).2 = y at *
      clear hx hno
      by_cases hneg : x < 0
      · have hbf : Hid (t = false) := HN.out hneg
        go_wp2
        go_ret
        exact ⟨ret_bool hbf.out.symm, by (repeat' (first | (with_reducible exact Below.refl _ _) | (with_reducible assumption) | (with_reducible refine Below.alloc ?_ ?_ _) | (with_reducible refine Below.drew ?_) | (with_reducible refine below_drewN ?_ _) | (with_reducible refine Below.setCell ?_ ?_ _) | (with_reducible refine Below.trans ?_ (Below.mono (by with_reducible assumption) ?_)) | (with_reducible exact Below.size (by with_reducible assumption)) | go_size))⟩
      · have hnext : Hid (∀ j, j < k + 1 → 0 ≤ (xs.getD j (0, 0)).1) := by
          show ∀ j, j < k + 1 → _
          intro j hj
          by_cases e : j = k
          · subst e; rw [← HX.out]; omega
          · exact HA.out j (by omega)
        go_wp2
        go_roundw
        case rel => exact ⟨k + 1, by omega, by go_num, hnext, by (repeat' (first | (with_reducible exact Below.refl _ _) | (with_reducible assumption) | (with_reducible refine Below.alloc ?_ ?_ _) | (with_reducible refine Below.drew ?_) | (with_reducible refine below_drewN ?_ _) | (with_reducible refine Below.setCell ?_ ?_ _) | (with_reducible refine Below.trans ?_ (Below.mono (by with_reducible assumption) ?_)) | (with_reducible exact Below.size (by with_reducible assumption)) | go_size))⟩
        case measure => simp [intOf]; omega
    · obtain rfl : k = xs.length := by omega
      have hbt : Hid (t = true) := HI.out.2 HA.out
      go_wp2
      go_ret
      exact ⟨ret_bool hbt.out.symm, hB⟩
end Go.Proofs.Ytoglmkjmnknbbaa.PW
