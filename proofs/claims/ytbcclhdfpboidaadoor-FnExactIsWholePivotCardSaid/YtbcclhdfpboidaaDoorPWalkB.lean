/-
  Walks of the laws' own helpers: equal lists, rows and problems.
-/
import Derived.Test.YtbcclhdfpboidaaDoorPWalkA
namespace Go.Proofs.YtbcclhdfpboidaaDoor.PW
open Go.RowKit Go.Proofs.YtbcclhdfpboidaaDoor
open Go.Proofs.YtbcclhdfpboidaaDoor.PM

theorem eqInt64S_same (v u : Value) (xs : List Int) (w : World) (hv : Ints w v xs) (hu : Ints w u xs) :
    Calls Tryd.prog 37 #[v, u] w fun e w' => e = .returned (.bool true) ∧ Below w.heap.size w w' := by
  obtain ⟨a, cap, rfl, hc, hm0, _, hx⟩ := hv
  obtain ⟨a2, cap2, rfl, hc2, _, _, hx2⟩ := hu
  have hm := maxLen_le (Nat.le_trans hc hm0)
  clear hm0 hc hc2
  rcases hx with rfl | ⟨b, off, rfl, hlt, hcell⟩
  · show Calls _ _ #[.slice a 0 cap, .slice a2 0 cap2] _ _
    go_enter Tryd.func37, Tryd.ntmps37
    go_wp2
    go_rounds 1
    all_goals go_ret
    all_goals exact ⟨rfl, Below.refl _ _⟩
  rcases hx2 with rfl | ⟨b2, off2, rfl, hlt2, hcell2⟩
  · show Calls _ _ #[.slice _ 0 cap, .slice a2 0 cap2] _ _
    go_enter Tryd.func37, Tryd.ntmps37
    go_wp2
    go_rounds 1
    all_goals go_ret
    all_goals exact ⟨rfl, Below.refl _ _⟩
  have HC := Lib.hid hcell
  have HC2 := Lib.hid hcell2
  clear hcell hcell2
  go_enter Tryd.func37, Tryd.ntmps37
  go_wp2
  go_loopw [5] (fun i wr => ∃ k : Nat, k ≤ xs.length ∧ i = .int .i64 k ∧ Below w.heap.size w wr) (fun i _ => xs.length - (intOf i).toNat)
  case atStart => exact ⟨0, Nat.zero_le _, rfl, Below.refl _ _⟩
  case round =>
    obtain ⟨k, hk, rfl, hb⟩ := hrel
    by_cases hlt3 : k < xs.length
    · have h1 := (hb.cell (p := ⟨b, off + k, none⟩) hlt).trans (HC.out k hlt3)
      have h2 := (hb.cell (p := ⟨b2, off2 + k, none⟩) hlt2).trans (HC2.out k hlt3)
      have i0 : (0 : Int) ≤ (k : Int) := by omega
      have i1 : (k : Int) < (xs.length : Int) := by omega
      generalize xs.getD k 0 = x at *
      go_wp2
      go_quiet (fail)
      go_wp2
      go_roundw
      case rel => exact ⟨k + 1, by omega, by go_num, below_drewN hb _⟩
      case measure => simp [intOf]; omega
    · obtain rfl : k = xs.length := by omega
      go_wp2
      go_ret
      exact ⟨rfl, hb⟩

theorem eqInt64SS_same (v u : Value) (xss : List (List Int)) (w : World) (hv : PM.Rows w v xss) (hu : PM.Rows w u xss) :
    Calls Tryd.prog 29 #[v, u] w fun e w' => e = .returned (.bool true) ∧ Below w.heap.size w w' := by
  obtain ⟨a, cap, rfl, hc, hm0, hx⟩ := hv
  obtain ⟨a2, cap2, rfl, hc2, _, hx2⟩ := hu
  have hm := maxLen_le (Nat.le_trans hc hm0)
  clear hm0 hc hc2
  rcases hx with rfl | ⟨b, off, rfl, hlt, hcell⟩
  · show Calls _ _ #[.slice a 0 cap, .slice a2 0 cap2] _ _
    go_enter Tryd.func29, Tryd.ntmps29
    go_wp2
    go_rounds 1
    all_goals go_ret
    all_goals exact ⟨rfl, Below.refl _ _⟩
  rcases hx2 with rfl | ⟨b2, off2, rfl, hlt2, hcell2⟩
  · show Calls _ _ #[.slice _ 0 cap, .slice a2 0 cap2] _ _
    go_enter Tryd.func29, Tryd.ntmps29
    go_wp2
    go_rounds 1
    all_goals go_ret
    all_goals exact ⟨rfl, Below.refl _ _⟩
  have HC := Lib.hid hcell
  have HC2 := Lib.hid hcell2
  clear hcell hcell2
  go_enter Tryd.func29, Tryd.ntmps29
  go_wp2
  go_loopw [5] (fun i wr => ∃ k : Nat, k ≤ xss.length ∧ i = .int .i64 k ∧ Below w.heap.size w wr) (fun i _ => xss.length - (intOf i).toNat)
  case atStart => exact ⟨0, Nat.zero_le _, rfl, Below.refl _ _⟩
  case round =>
    obtain ⟨k, hk, rfl, hb⟩ := hrel
    by_cases hlt3 : k < xss.length
    · obtain ⟨r1, h1, I1⟩ := HC.out k hlt3
      obtain ⟨r2, h2, I2⟩ := HC2.out k hlt3
      have g1 : ∀ w', Below w.heap.size w w' → w'.cell? ⟨b, off + k, none⟩ = some r1 := fun w' h => (h.cell (p := ⟨b, off + k, none⟩) hlt).trans h1
      have g2 : ∀ w', Below w.heap.size w w' → w'.cell? ⟨b2, off2 + k, none⟩ = some r2 := fun w' h => (h.cell (p := ⟨b2, off2 + k, none⟩) hlt2).trans h2
      have i0 : (0 : Int) ≤ (k : Int) := by omega
      have i1 : (k : Int) < (xss.length : Int) := by omega
      clear h1 h2
      generalize xss.getD k [] = r at *
      go_wp2
      go_region_held3 (fun w' => Below w.heap.size w w') ((repeat' (first | (with_reducible exact Below.refl _ _) | (with_reducible assumption) | (with_reducible refine Below.alloc ?_ ?_ _) | (with_reducible refine Below.drew ?_) | (with_reducible refine below_drewN ?_ _) | (with_reducible refine Below.setCell ?_ ?_ _) | (with_reducible refine Below.trans ?_ (Below.mono (by with_reducible assumption) ?_)) | (with_reducible exact Below.size (by with_reducible assumption)) | go_size)))
        (first | (go_at_call 37; refine (eqInt64S_same _ _ r _ (Ints.below I1 (by assumption)) (Ints.below I2 (by assumption))).mono ?_; rintro e w' ⟨rfl, hE⟩; have hE0 : Below w.heap.size w w' := (by (repeat' (first | (with_reducible exact Below.refl _ _) | (with_reducible assumption) | (with_reducible refine Below.alloc ?_ ?_ _) | (with_reducible refine Below.drew ?_) | (with_reducible refine below_drewN ?_ _) | (with_reducible refine Below.setCell ?_ ?_ _) | (with_reducible refine Below.trans ?_ (Below.mono (by with_reducible assumption) ?_)) | (with_reducible exact Below.size (by with_reducible assumption)) | go_size)))))
      go_wp2
      go_roundw
      case rel => exact ⟨k + 1, by omega, by go_num, hE0⟩
      case measure => simp [intOf]; omega
    · obtain rfl : k = xss.length := by omega
      go_wp2
      go_ret
      exact ⟨rfl, hb⟩
end Go.Proofs.YtbcclhdfpboidaaDoor.PW
