/-
  Walks of the functions on fractions: ranges, greatest common divisors, lowest terms. Each contract holds for the arguments that its premises name.
-/
import Derived.Test.YtmlfkgakbcjdgaaChecked
import Derived.Test.YtmlfkgakbcjdgaaFracMath
import Derived.WalkKit
import Derived.ProofKit
import Derived.WalkLawsBesides
import Derived.WalkSpells
import Derived.IntWalk
import Derived.LoopTactic
import Derived.RegionTactic
import Derived.BigRegion
import Derived.BigQuiet
import Derived.Deep.QuietTactic
import Derived.Below
import Derived.Handy
import Derived.Outline
import Derived.Lib.Hide
namespace Go.Proofs.Ytmlfkgakbcjdgaa.FW
open Go.RowKit Go.Proofs.Ytmlfkgakbcjdgaa
open Go.Proofs.Ytmlfkgakbcjdgaa.FM

theorem ret_int {k : IntKind} {a b : Int} (h : a = b) : Ending.returned (.int k a) = .returned (.int k b) := by rw [h]
theorem ret_bool {a b : Bool} (h : a = b) : Ending.returned (.bool a) = .returned (.bool b) := by rw [h]


/-- Behind a contract that ends in 'Below': all elder cells and marks read as before. -/
theorem bcell {W w1 : World} (hb : Below W.heap.size W w1) : (∀ b o, b < W.heap.size → w1.cell? ⟨b, o, none⟩ = W.cell? ⟨b, o, none⟩) ∧ (∀ b o, b < W.heap.size → w1.frozen? ⟨b, o, none⟩ = W.frozen? ⟨b, o, none⟩) :=
  ⟨fun b o h => hb.cell (p := ⟨b, o, none⟩) h, fun b o h => hb.frozen (p := ⟨b, o, none⟩) h⟩
theorem bcellG {W0 W w1 : World} (hb : Below W.heap.size W w1) (h0 : Below W0.heap.size W0 W) : (∀ b o, b < W0.heap.size → w1.cell? ⟨b, o, none⟩ = W0.cell? ⟨b, o, none⟩) ∧ (∀ b o, b < W0.heap.size → w1.frozen? ⟨b, o, none⟩ = W0.frozen? ⟨b, o, none⟩) :=
  bcell (h0.trans (hb.mono h0.size))
theorem size_drewN (w : World) (n : Nat) : (w.drewN n).heap.size = w.heap.size := rfl

/-- Whether a number lies within a limit. -/
theorem isWithin_any (x l : Int) (w : World) (h0 : 0 ≤ l) (h1 : l ≤ 1000000000000) :
    Calls Try.prog 114 #[.int .i64 x, .int .i64 l] w fun e w' => e = .returned (.bool (decide (-l ≤ x ∧ x ≤ l))) ∧ w = w' := by
  go_enter Try.func114, Try.ntmps114
  go_wp2
  all_goals (go_ret; exact ⟨ret_bool (by simp; try omega), rfl⟩)

theorem l01In_any (n lo hi : Int) (w : World) :
    Calls Try.prog 57 #[.int .i64 n, .int .i64 lo, .int .i64 hi] w fun e w' => e = .returned (.bool (decide (lo ≤ n ∧ n ≤ hi))) ∧ w = w' := by
  go_enter Try.func57, Try.ntmps57
  go_wp2
  all_goals (go_ret; exact ⟨ret_bool (by simp; try omega), rfl⟩)

theorem gcd_end {x a b : Int} (hg : Hid (gcdI x 0 = gcdI a b)) (y : Int) (hy : y = (x.natAbs : Int)) : y = gcdI a b := by
  rw [← hg.out, gcdI_zero]; exact hy

theorem l01Gcd_any (a b : Int) (w : World) (ha : -9223372036854775807 ≤ a) (ha' : a ≤ 9223372036854775807) (hb : -9223372036854775807 ≤ b) (hb' : b ≤ 9223372036854775807) :
    Calls Try.prog 118 #[.int .i64 a, .int .i64 b] w fun e w' => e = .returned (.int .i64 (gcdI a b)) ∧ w = w' := by
  go_enter Try.func118, Try.ntmps118
  go_wp2
  go_loop [0, 1, 5] (fun u v _ => ∃ x y : Int, Hid (gcdI x y = gcdI a b) ∧ -9223372036854775807 ≤ x ∧ x ≤ 9223372036854775807 ∧ -9223372036854775807 ≤ y ∧ y ≤ 9223372036854775807 ∧ u = .int .i64 x ∧ v = .int .i64 y) (fun _ v _ => (intOf v).natAbs)
  case atStart => exact ⟨a, b, rfl, ha, ha', hb, hb', rfl, rfl⟩
  case round =>
    obtain ⟨x, y, hg, h1, h2, h3, h4, rfl, rfl⟩ := hrel
    by_cases hy : y = 0
    · subst hy
      go_wp2
      all_goals (go_ret; exact ⟨ret_int (gcd_end hg _ (by omega)), rfl⟩)
    · have hlt := tmod_lt x y hy
      have hb1 : -9223372036854775807 ≤ x.tmod y := by omega
      have hb2 : x.tmod y ≤ 9223372036854775807 := by omega
      have HL : Hid ((x.tmod y).natAbs < y.natAbs) := hlt
      clear hlt
      have hs : Hid (gcdI y (x.tmod y) = gcdI x y) := gcdI_step x y
      go_wp2
      all_goals
        go_round
        case rel => exact ⟨y, x.tmod y, hs.out.trans hg.out, h3, h4, hb1, hb2, rfl, rfl⟩
        case measure => exact HL.out

theorem greatestDivisor_any (a b : Int) (w : World) (ha : -9223372036854775807 ≤ a) (ha' : a ≤ 9223372036854775807) (hb : -9223372036854775807 ≤ b) (hb' : b ≤ 9223372036854775807) :
    Calls Try.prog 122 #[.int .i64 a, .int .i64 b] w fun e w' => e = .returned (.int .i64 (gcdI a b)) ∧ ∃ n, w' = w.drewN n := by
  go_enter Try.func122, Try.ntmps122
  go_wp2
  go_loopw [0, 1] (fun u v wr => ∃ x y : Int, Hid (gcdI x y = gcdI a b) ∧ -9223372036854775807 ≤ x ∧ x ≤ 9223372036854775807 ∧ -9223372036854775807 ≤ y ∧ y ≤ 9223372036854775807 ∧ u = .int .i64 x ∧ v = .int .i64 y ∧ ∃ n, wr = w.drewN n) (fun _ v _ => (intOf v).natAbs)
  case atStart => exact ⟨a, b, rfl, ha, ha', hb, hb', rfl, rfl, 0, rfl⟩
  case round =>
    obtain ⟨x, y, hg, h1, h2, h3, h4, rfl, rfl, n, rfl⟩ := hrel
    by_cases hy : y = 0
    · subst hy
      go_wp2
      all_goals (go_ret; exact ⟨ret_int (gcd_end hg _ (by omega)), n, rfl⟩)
    · have hlt := tmod_lt x y hy
      have hb1 : -9223372036854775807 ≤ x.tmod y := by omega
      have hb2 : x.tmod y ≤ 9223372036854775807 := by omega
      have HL : Hid ((x.tmod y).natAbs < y.natAbs) := hlt
      clear hlt
      have hs : Hid (gcdI y (x.tmod y) = gcdI x y) := gcdI_step x y
      go_wp2
      go_region
      all_goals go_wp2
      all_goals
        go_roundw
        case rel => exact ⟨y, x.tmod y, hs.out.trans hg.out, h3, h4, hb1, hb2, rfl, rfl, n + 1, rfl⟩
        case measure => exact HL.out
end Go.Proofs.Ytmlfkgakbcjdgaa.FW
