/-
  Walks of the functions on fractions: lowest terms, and whether a pair of numbers is a fraction.
-/
import Derived.Test.YtmlfkgakbcjdgaaFracWalkA
import Derived.Deep.RegionHeld3
import Derived.Deep.RegionWith
import Derived.Deep.DeepCutAuto
namespace Go.Proofs.Ytmlfkgakbcjdgaa.FW
open Go.RowKit Go.Proofs.Ytmlfkgakbcjdgaa
open Go.Proofs.Ytmlfkgakbcjdgaa.FM

theorem lowestTerms_any (n d : Int) (w : World) (ha : -9223372036854775807 ≤ n) (ha' : n ≤ 9223372036854775807) (hb : -9223372036854775807 ≤ d) (hb' : d ≤ 9223372036854775807) (h0 : d ≠ 0) :
    Calls Try.prog 119 #[.int .i64 n, .int .i64 d] w fun e w' => e = .returned (.agg #[.int .i64 (redN n d), .int .i64 (redD n d)]) ∧ Below w.heap.size w w' := by
  have hg0 := gcdI_pos n d h0
  have hg1 := gcdI_le n d h0
  have hn1 : -9223372036854775807 ≤ n.tdiv (gcdI n d) ∧ n.tdiv (gcdI n d) ≤ 9223372036854775807 := by have := tdiv_natAbs_le n (gcdI n d); omega
  have hd1 : -9223372036854775807 ≤ d.tdiv (gcdI n d) ∧ d.tdiv (gcdI n d) ≤ 9223372036854775807 := by have := tdiv_natAbs_le d (gcdI n d); omega
  by_cases hd : d < 0
  · have eN : redN n d = -n.tdiv (gcdI n d) := by unfold redN; rw [if_pos hd]
    have eD : redD n d = -d.tdiv (gcdI n d) := by unfold redD; rw [if_pos hd]
    rw [eN, eD]
    clear eN eD
    go_enter Try.func119, Try.ntmps119
    go_wp2_with (go_at_call 122; refine (greatestDivisor_any _ _ _ (by omega) (by omega) (by omega) (by omega)).mono ?_; rintro e w' ⟨rfl, k, rfl⟩)
    go_region
    all_goals go_wp2
    go_returns
    refine ⟨rfl, ?_⟩
    (repeat' (first | (with_reducible exact Below.refl _ _) | (with_reducible assumption) | (with_reducible refine Below.alloc ?_ ?_ _) | (with_reducible refine Below.drew ?_) | (with_reducible refine below_drewN ?_ _) | (with_reducible refine Below.setCell ?_ ?_ _) | (with_reducible refine Below.trans ?_ (Below.mono (by with_reducible assumption) ?_)) | (with_reducible exact Below.size (by with_reducible assumption)) | go_size))
  · have eN : redN n d = n.tdiv (gcdI n d) := by unfold redN; rw [if_neg hd]
    have eD : redD n d = d.tdiv (gcdI n d) := by unfold redD; rw [if_neg hd]
    rw [eN, eD]
    clear eN eD
    go_enter Try.func119, Try.ntmps119
    go_wp2_with (go_at_call 122; refine (greatestDivisor_any _ _ _ (by omega) (by omega) (by omega) (by omega)).mono ?_; rintro e w' ⟨rfl, k, rfl⟩)
    go_region
    all_goals go_wp2
    go_returns
    refine ⟨rfl, ?_⟩
    (repeat' (first | (with_reducible exact Below.refl _ _) | (with_reducible assumption) | (with_reducible refine Below.alloc ?_ ?_ _) | (with_reducible refine Below.drew ?_) | (with_reducible refine below_drewN ?_ _) | (with_reducible refine Below.setCell ?_ ?_ _) | (with_reducible refine Below.trans ?_ (Below.mono (by with_reducible assumption) ?_)) | (with_reducible exact Below.size (by with_reducible assumption)) | go_size))

theorem l01Frac_any (n d : Int) (w : World) (ha : -9223372036854775807 ≤ n) (ha' : n ≤ 9223372036854775807) (hb : -9223372036854775807 ≤ d) (hb' : d ≤ 9223372036854775807) (h0 : d ≠ 0) :
    Calls Try.prog 104 #[.int .i64 n, .int .i64 d] w fun e w' => e = .returned (.agg #[.int .i64 (redN n d), .int .i64 (redD n d)]) ∧ Below w.heap.size w w' := by
  have hg0 := gcdI_pos n d h0
  have hg1 := gcdI_le n d h0
  have hn1 : -9223372036854775807 ≤ n.tdiv (gcdI n d) ∧ n.tdiv (gcdI n d) ≤ 9223372036854775807 := by have := tdiv_natAbs_le n (gcdI n d); omega
  have hd1 : -9223372036854775807 ≤ d.tdiv (gcdI n d) ∧ d.tdiv (gcdI n d) ≤ 9223372036854775807 := by have := tdiv_natAbs_le d (gcdI n d); omega
  by_cases hd : d < 0
  · have eN : redN n d = -n.tdiv (gcdI n d) := by unfold redN; rw [if_pos hd]
    have eD : redD n d = -d.tdiv (gcdI n d) := by unfold redD; rw [if_pos hd]
    have eG : gcdI (-n) (-d) = gcdI n d := by rw [gcdI_neg_left, gcdI_neg_right]
    rw [eN, eD]
    have HG := Lib.hid eG
    clear eN eD eG
    go_enter Try.func104, Try.ntmps104
    go_wp2_with (go_at_call 118; refine (l01Gcd_any _ _ _ (by omega) (by omega) (by omega) (by omega)).mono ?_; rw [HG.out]; rintro e w' ⟨rfl, rfl⟩)
    go_region
    all_goals go_wp2
    go_returns
    refine ⟨rfl, ?_⟩
    (repeat' (first | (with_reducible exact Below.refl _ _) | (with_reducible assumption) | (with_reducible refine Below.alloc ?_ ?_ _) | (with_reducible refine Below.drew ?_) | (with_reducible refine below_drewN ?_ _) | (with_reducible refine Below.setCell ?_ ?_ _) | (with_reducible refine Below.trans ?_ (Below.mono (by with_reducible assumption) ?_)) | (with_reducible exact Below.size (by with_reducible assumption)) | go_size))
  · have eN : redN n d = n.tdiv (gcdI n d) := by unfold redN; rw [if_neg hd]
    have eD : redD n d = d.tdiv (gcdI n d) := by unfold redD; rw [if_neg hd]
    rw [eN, eD]
    clear eN eD
    go_enter Try.func104, Try.ntmps104
    go_wp2_with (go_at_call 118; refine (l01Gcd_any _ _ _ (by omega) (by omega) (by omega) (by omega)).mono ?_; rintro e w' ⟨rfl, rfl⟩)
    go_region
    all_goals go_wp2
    go_returns
    refine ⟨rfl, ?_⟩
    (repeat' (first | (with_reducible exact Below.refl _ _) | (with_reducible assumption) | (with_reducible refine Below.alloc ?_ ?_ _) | (with_reducible refine Below.drew ?_) | (with_reducible refine below_drewN ?_ _) | (with_reducible refine Below.setCell ?_ ?_ _) | (with_reducible refine Below.trans ?_ (Below.mono (by with_reducible assumption) ?_)) | (with_reducible exact Below.size (by with_reducible assumption)) | go_size))

theorem l01IsFrac_any (n d m : Int) (w : World) (hm : 0 ≤ m) (hm' : m ≤ 1000000000000) :
    Calls Try.prog 105 #[.agg #[.int .i64 n, .int .i64 d], .int .i64 m] w fun e w' => e = .returned (.bool (decide (1 ≤ d ∧ d ≤ m ∧ -m ≤ n ∧ n ≤ m ∧ gcdI n d = 1))) ∧ Below w.heap.size w w' := by
  go_enter Try.func105, Try.ntmps105
  go_wp2_with (first
    | (go_at_call 57; refine (l01In_any _ _ _ _).mono ?_; rintro e w' ⟨rfl, rfl⟩)
    | (go_at_call 118; refine (l01Gcd_any _ _ _ (by omega) (by omega) (by omega) (by omega)).mono ?_; rintro e w' ⟨rfl, rfl⟩))
  all_goals (go_returns; refine ⟨ret_bool ?_, ?_⟩)
  all_goals first | (rw [Bool.eq_iff_iff]; simp; omega) | (repeat' (first | (with_reducible exact Below.refl _ _) | (with_reducible assumption) | (with_reducible refine Below.alloc ?_ ?_ _) | (with_reducible refine Below.drew ?_) | (with_reducible refine below_drewN ?_ _) | (with_reducible refine Below.setCell ?_ ?_ _) | (with_reducible refine Below.trans ?_ (Below.mono (by with_reducible assumption) ?_)) | (with_reducible exact Below.size (by with_reducible assumption)) | go_size))
end Go.Proofs.Ytmlfkgakbcjdgaa.FW
