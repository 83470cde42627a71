/-
  Walks: whether all choices of a mix are in a list, in the model.
-/
import Derived.Test.YtimcokealhnfhaaGTab
namespace Go.Proofs.Ytimcokealhnfhaa.PW
open Go.RowKit Go.Proofs.Ytimcokealhnfhaa
open Go.Proofs.Ytimcokealhnfhaa.PM

/-- Choice i is 0 in the mix, or one of the first k of the list. -/
def foundB (X R : List Int) (i k : Nat) : Bool := decide (X.getD i 0 = 0 ∨ ∃ t, t < k ∧ R.getD t 0 = (i : Int))
def holdsB (X R : List Int) : Bool := decide (∀ i, i < X.length → foundB X R i R.length = true)
theorem foundB_zero (X R : List Int) (i : Nat) : foundB X R i 0 = decide (X.getD i 0 = 0) := by
  unfold foundB
  congr 1
  simp
theorem foundB_yes {X R : List Int} {i k : Nat} (h : foundB X R i k = true) : foundB X R i (k + 1) = true := by
  unfold foundB at *
  rw [decide_eq_true_iff] at *
  rcases h with h | ⟨t, h1, h2⟩
  · exact .inl h
  · exact .inr ⟨t, by omega, h2⟩
theorem foundB_no {X R : List Int} {i k : Nat} (h : foundB X R i k = false) : foundB X R i (k + 1) = decide (R.getD k 0 = (i : Int)) := by
  unfold foundB at *
  rw [decide_eq_false_iff_not] at h
  congr 1
  apply propext
  constructor
  · rintro (h1 | ⟨t, h1, h2⟩)
    · exact absurd (.inl h1) h
    · by_cases e : t = k
      · rw [← e]; exact h2
      · exact absurd (.inr ⟨t, by omega, h2⟩) h
  · intro h1; exact .inr ⟨k, by omega, h1⟩

set_option maxRecDepth 100000 in
set_option maxHeartbeats 4000000 in
theorem l07Holds_any (v u : Value) (X R : List Int) (w : World) (h1 : Ints w v X) (hx : 1 ≤ X.length) (h2 : Ints w u R) :
    Calls Try.prog 99 #[v, u] w fun e w' => e = .returned (.bool (holdsB X R)) ∧ w = w' := by
  have hx63 := ints_len63 h1
  have hr63 := ints_len63 h2
  obtain ⟨b, off, c, rfl, _, hX⟩ := ints_row h1 hx
  obtain ⟨a, cr, rfl, _, _, _, hR⟩ := h2
  have HX := Lib.hid hX
  have hRc : ∀ t, t < R.length → ∃ rb ro, a = some ⟨rb, ro, none⟩ ∧ w.cell? ⟨rb, ro + t, none⟩ = some (.int .i64 (R.getD t 0)) := fun t ht => by
    rcases hR with hR | ⟨rb, ro, rfl, _, hc⟩
    · rw [hR] at ht; exact absurd ht (Nat.not_lt_zero _)
    · exact ⟨rb, ro, rfl, hc t ht⟩
  have HR := Lib.hid hRc
  have hno : ∀ i, i < X.length → foundB X R i R.length = false → holdsB X R = false := fun i hi h => by
    unfold holdsB
    rw [decide_eq_false_iff_not]
    intro hall
    rw [hall i hi] at h
    cases h
  have hyes : (∀ i, i < X.length → foundB X R i R.length = true) → holdsB X R = true := fun h => by unfold holdsB; exact decide_eq_true h
  have HNO := Lib.hid hno
  have HYES := Lib.hid hyes
  generalize holdsB X R = B at *
  clear h1 hX hR hRc hno hyes
  go_enter Try.func99, Try.ntmps99
  go_wp2_with fail
  go_loop [5, 6, 7] (fun i _ _ => ∃ k : Nat, k ≤ X.length ∧ i = .int .i64 k ∧ Hid (∀ i, i < k → foundB X R i R.length = true)) (fun i _ _ => X.length - (intOf i).toNat)
  case atStart => exact ⟨0, Nat.zero_le _, rfl, fun i hi => absurd hi (Nat.not_lt_zero _)⟩
  case round =>
    obtain ⟨k, hk, rfl, hgood⟩ := hrel
    by_cases hlt : k < X.length
    · have t1 := HX.out k hlt
      have hf0 := foundB_zero X R k
      obtain ⟨x, hxe⟩ : ∃ x, x = X.getD k 0 := ⟨_, rfl⟩
      rw [← hxe] at t1 hf0
      have HF0 := Lib.hid hf0
      clear hf0 hxe
      go_wp2_with fail
      go_loop [6, 7] (fun f j => ∃ t : Nat, t ≤ R.length ∧ j = .int .i64 t ∧ f = .bool (foundB X R k t)) (fun _ j => R.length - (intOf j).toNat)
      case atStart =>
        refine ⟨0, Nat.zero_le _, rfl, ?_⟩
        rw [HF0.out]
        by_cases e : x = 0
        · simp [e]
        · simp [e]
      case round =>
        obtain ⟨t, ht, rfl, rfl⟩ := hrel
        by_cases hltt : t < R.length
        · obtain ⟨rb, ro, rfl, t2⟩ := HR.out t hltt
          cases hf : foundB X R k t
          · have HFN := Lib.hid (foundB_no hf)
            generalize R.getD t 0 = y at *
            clear hf
            go_wp2_with fail
            go_round
            case rel =>
              refine ⟨t + 1, by omega, by go_num, ?_⟩
              rw [HFN.out]
              by_cases e : y = (k : Int)
              · simp [e]
              · simp [e]
            case measure => simp [intOf]; omega
          · have HFY := Lib.hid (foundB_yes hf)
            generalize R.getD t 0 = y at *
            clear hf
            go_wp2_with fail
            go_round
            case rel => exact ⟨t + 1, by omega, by go_num, by rw [HFY.out]⟩
            case measure => simp [intOf]; omega
        · have htR : t = R.length := by omega
          rw [htR]
          clear htR
          cases hf : foundB X R k R.length
          · have HB := Lib.hid (HNO.out k hlt hf)
            clear hf
            go_wp2_with fail
            go_ret
            exact ⟨ret_bool HB.out.symm, rfl⟩
          · have hnx : Hid (∀ i, i < k + 1 → foundB X R i R.length = true) := fun i hi => by
              by_cases e : i = k
              · subst e; exact hf
              · exact hgood.out i (by omega)
            clear hf
            go_wp2_with fail
            go_round
            case rel => exact ⟨k + 1, by omega, by go_num, hnx⟩
            case measure => simp [intOf]; omega
    · obtain rfl : k = X.length := by omega
      have HB := Lib.hid (HYES.out hgood.out)
      go_wp2_with fail
      go_ret
      exact ⟨ret_bool HB.out.symm, rfl⟩
end Go.Proofs.Ytimcokealhnfhaa.PW
