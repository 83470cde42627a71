/-
  Walks: the determinant of a part of a matrix, in the program and in the model, and the laws of it.
-/
import Derived.Test.YtiojmfikokecbaaQBy
import Derived.Test.YtiojmfikokecbaaPDetA
namespace Go.Proofs.Ytiojmfikokecbaa.PW
open Go.RowKit Go.Proofs.Ytiojmfikokecbaa
open Go.Proofs.Ytiojmfikokecbaa.PM Go.Proofs.Ytiojmfikokecbaa.PX

/-- All of them are sets of the numbers 1 .. n. -/
def inAll (n : Nat) (xs : List Int) : Bool := xs.all fun s => decide (0 ≤ s ∧ s ≤ (2 : Int) ^ n - 1)
theorem inAll_no {n : Nat} {xs : List Int} {k : Nat} (hk : k < xs.length) (h : decide (0 ≤ xs.getD k 0 ∧ xs.getD k 0 ≤ (2 : Int) ^ n - 1) = false) : inAll n xs = false := by
  rw [getD_at _ _ hk] at h
  unfold inAll
  rw [List.all_eq_false]
  exact ⟨_, List.getElem_mem hk, by simpa using h⟩
theorem inAll_yes {n : Nat} {xs : List Int} (h : ∀ k, k < xs.length → decide (0 ≤ xs.getD k 0 ∧ xs.getD k 0 ≤ (2 : Int) ^ n - 1) = true) : inAll n xs = true := by
  unfold inAll
  rw [List.all_eq_true]
  intro x hx
  obtain ⟨k, hk, rfl⟩ := List.getElem_of_mem hx
  have := h k hk
  rw [getD_at _ _ hk] at this
  exact this
theorem inAll_two {n : Nat} {r c : Int} : inAll n [r, c] = true ↔ (0 ≤ r ∧ r < (2 : Int) ^ n) ∧ (0 ≤ c ∧ c < (2 : Int) ^ n) := by
  simp [inAll]
  omega
theorem inAll_one {n : Nat} {s : Int} : inAll n [s] = inAll n [s, s] := by simp [inAll]
theorem pow_le32 {n : Nat} (h : n ≤ 5) : (2 : Int) ^ n ≤ 32 := by
  obtain rfl | rfl | rfl | rfl | rfl | rfl : n = 0 ∨ n = 1 ∨ n = 2 ∨ n = 3 ∨ n = 4 ∨ n = 5 := by omega
  all_goals decide

theorem l03SetE_any (m q : Value) (M : List (List Int)) (w : World) (h1 : PM.Rows w m M) (hM : matB M = false) :
    Calls Try.prog 87 #[m, q] w fun e w' => e = .returned (.int .i64 1) ∧ w = w' := by
  have hmat := l01Matrix_any m M w h1
  rw [hM] at hmat
  have HM := Lib.hid hmat
  obtain ⟨a1, c1, rfl, _⟩ := h1
  clear hM hmat
  go_enter Try.func87, Try.ntmps87
  go_wp2_with fail
  refine HM.out.mono ?_; rintro e w1 ⟨rfl, rfl⟩
  go_wp2_with fail
  go_ret
  exact ⟨rfl, rfl⟩

set_option maxHeartbeats 2000000 in
theorem l03Set_any (m : Value) (M : List (List Int)) (xs : List Int) (g : Nat) (w : World) (h1 : PM.Rows w m M) (hl : xs.length ≤ 5) (hM : matB M = true)
    (hcell : ∀ k, k < xs.length → w.cell? ⟨g, k, none⟩ = some (.int .i64 (xs.getD k 0))) :
    Calls Try.prog 87 #[m, .slice (some ⟨g, 0, none⟩) xs.length xs.length] w fun e w' => e = .returned (.int .i64 (if inAll M.length xs = true then 0 else 2)) ∧ w = w' := by
  obtain ⟨f1, f2, _, _⟩ := matB_facts hM
  have hmat := l01Matrix_any m M w h1
  rw [hM] at hmat
  obtain ⟨a1, c1, rfl, _⟩ := h1
  obtain ⟨C, hC⟩ : ∃ C : Int, C = if inAll M.length xs = true then 0 else 2 := ⟨_, rfl⟩
  rw [← hC]
  obtain ⟨L, hL⟩ : ∃ L : Int, L = (2 : Int) ^ M.length - 1 := ⟨_, rfl⟩
  have hno : ∀ k, k < xs.length → decide (0 ≤ xs.getD k 0 ∧ xs.getD k 0 ≤ L) = false → C = 2 := fun k hk h => by rw [hL] at h; rw [hC, inAll_no hk h]; rfl
  have hyes : (∀ k, k < xs.length → decide (0 ≤ xs.getD k 0 ∧ xs.getD k 0 ≤ L) = true) → C = 0 := fun h => by rw [hL] at h; rw [hC, inAll_yes h]; rfl
  clear hC hM
  generalize M.length = n at *
  have HCE := Lib.hid hcell
  have HNO := Lib.hid hno
  have HYES := Lib.hid hyes
  clear hcell hno hyes
  obtain rfl | rfl | rfl | rfl | rfl : n = 1 ∨ n = 2 ∨ n = 3 ∨ n = 4 ∨ n = 5 := by omega
  all_goals
    simp only [Int.reducePow, Int.reduceSub] at hL
    have HL := Lib.hid hL
    have HMAT := Lib.hid hmat
    clear hmat f1 f2 hL
    go_enter Try.func87, Try.ntmps87
    go_wp2_with fail
    refine HMAT.out.mono ?_; rintro e w1 ⟨rfl, rfl⟩
    go_wp2_with fail
    go_loop [5] (fun i => ∃ k : Nat, k ≤ xs.length ∧ i = .int .i64 k ∧ ∀ j, j < k → decide (0 ≤ xs.getD j 0 ∧ xs.getD j 0 ≤ L) = true) (fun i => xs.length - (intOf i).toNat)
    case atStart => exact ⟨0, Nat.zero_le _, rfl, fun j hj => absurd hj (Nat.not_lt_zero j)⟩
    case round =>
      obtain ⟨k, hk, rfl, hall⟩ := hrel
      have HALL := Lib.hid hall
      clear hall
      by_cases hlt : k < xs.length
      · have hc := HCE.out k hlt
        have hno := HNO.out k hlt
        have hnext : ∀ x, x = xs.getD k 0 → decide (0 ≤ x ∧ x ≤ L) = true → ∀ j, j < k + 1 → decide (0 ≤ xs.getD j 0 ∧ xs.getD j 0 ≤ L) = true := fun x hx h j hj => by
          by_cases e : j = k
          · rw [e, ← hx]; exact h
          · exact HALL.out j (by omega)
        have hnext := hnext _ rfl
        have HNX := Lib.hid hnext
        have HN := Lib.hid hno
        clear hnext hno
        obtain ⟨x, hx⟩ : ∃ x, x = xs.getD k 0 := ⟨_, rfl⟩
        rw [← hx] at hc HNX HN
        clear hx
        cases hb : decide (0 ≤ x ∧ x ≤ L)
        · have HB := Lib.hid hb
          have HC := Lib.hid (HN.out hb)
          clear hb
          go_wp2_with fail
          refine (l01In_is _ _ _ false _ (by have := HB.out; rw [HL.out] at this; exact this)).mono ?_; rintro e w2 ⟨rfl, rfl⟩
          go_wp2_with fail
          go_ret
          exact ⟨ret_i64 HC.out.symm, rfl⟩
        · have HB := Lib.hid hb
          clear hb
          go_wp2_with fail
          refine (l01In_is _ _ _ true _ (by have := HB.out; rw [HL.out] at this; exact this)).mono ?_; rintro e w2 ⟨rfl, rfl⟩
          go_wp2_with fail
          go_round
          case rel => exact ⟨k + 1, by omega, by go_num, HNX.out HB.out⟩
          case measure => simp [intOf]; omega
      · obtain rfl : k = xs.length := by omega
        have HC := Lib.hid (HYES.out HALL.out)
        go_wp2_with fail
        go_ret
        exact ⟨ret_i64 HC.out.symm, rfl⟩
end Go.Proofs.Ytiojmfikokecbaa.PW
