/-
  Walks: is a list a numbering? In the program.
-/
import Derived.Test.YtoglmkjmnknbbaaPProb
import Derived.Test.YtoglmkjmnknbbaaPNum
namespace Go.Proofs.Ytoglmkjmnknbbaa.PW
open Go.RowKit Go.Proofs.Ytoglmkjmnknbbaa
open Go.Proofs.Ytoglmkjmnknbbaa.PM

theorem index_any (v : Value) (xs : List Int) (x : Int) (w : World) (hv : Ints w v xs) :
    Calls Try.prog 130 #[v, .int .i64 x] w fun e w' => ∃ r : Int, e = .returned (.int .i64 r) ∧ -1 ≤ r ∧ r ≤ xs.length ∧ (0 ≤ r ↔ x ∈ xs) ∧ w = w' := by
  obtain ⟨a, cap, rfl, hc, hm0, _, hx⟩ := hv
  have hm := maxLen_le (Nat.le_trans hc hm0)
  have hcell : ∃ b off, xs = [] ∨ (a = some ⟨b, off, none⟩ ∧ CellsAt w b off xs) := by
    rcases hx with hx | ⟨b, off, ha, _, hce⟩
    · exact ⟨0, 0, .inl hx⟩
    · exact ⟨b, off, .inr ⟨ha, hce⟩⟩
  obtain ⟨b, off, hcell⟩ := hcell
  have HC := Lib.hid hcell
  clear hcell hx hc hm0
  go_enter Try.func130, Try.ntmps130
  go_wp2
  go_loop [5, 8] (fun _ i => ∃ k : Nat, k ≤ xs.length ∧ i = .int .i64 k ∧ ∀ j, j < k → xs.getD j 0 ≠ x) (fun _ i => xs.length - (intOf i).toNat)
  case atStart => exact ⟨0, Nat.zero_le _, rfl, fun j hj => absurd hj (Nat.not_lt_zero _)⟩
  case round =>
    obtain ⟨k, hk, rfl, hall⟩ := hrel
    by_cases hlt : k < xs.length
    · have hcell : a = some ⟨b, off, none⟩ ∧ CellsAt w b off xs := by
        rcases HC.out with h | h
        · rw [h] at hlt; simp at hlt
        · exact h
      obtain ⟨rfl, hce⟩ := hcell
      have hu := hce k hlt
      have HA := Lib.hid hall
      clear hce hall
      by_cases he : x = xs.getD k 0
      · have hmem : x ∈ xs := by
          rw [he]
          simp [hlt]
        have HM := Lib.hid hmem
        rw [← he] at hu
        clear he hmem
        go_wp2
        go_ret
        exact ⟨k, rfl, by omega, by omega, ⟨fun _ => HM.out, fun _ => by omega⟩, rfl⟩
      · have HE := Lib.hid he
        generalize xs.getD k 0 = y at he hu
        go_wp2
        go_round
        case rel =>
          refine ⟨k + 1, by omega, by go_num, fun j hj => ?_⟩
          by_cases e : j = k
          · rw [e]; exact fun c => HE.out c.symm
          · exact HA.out j (by omega)
        case measure => simp [intOf]; omega
    · obtain rfl : k = xs.length := by omega
      have HA := Lib.hid hall
      clear hall
      go_wp2
      go_ret
      refine ⟨-1, rfl, by omega, by omega, ⟨fun h => by omega, fun h => ?_⟩, rfl⟩
      obtain ⟨j, hj, e⟩ := getD_of_mem h
      exact absurd e (HA.out j hj)

theorem contains_any (v : Value) (xs : List Int) (x : Int) (w : World) (hv : Ints w v xs) :
    Calls Try.prog 98 #[v, .int .i64 x] w fun e w' => e = .returned (.bool (decide (x ∈ xs))) ∧ w = w' := by
  have HI := Lib.hid (index_any v xs x w hv)
  clear hv
  go_enter Try.func98, Try.ntmps98
  go_wp2_with fail
  refine HI.out.mono ?_
  rintro e w1 ⟨r, rfl, h1, h2, h3, rfl⟩
  have HE := Lib.hid h3
  clear h3 h2 h1
  go_wp2
  go_ret
  refine ⟨?_, rfl⟩
  have he : decide (x ∈ xs) = decide (0 ≤ r) := by simp only [HE.out]
  rw [he]
  rfl

end Go.Proofs.Ytoglmkjmnknbbaa.PW
