/-
  Walks: how many elements a set has (the texts of QOnes, for seats without chapter 3).
-/
import Derived.Test.YtlccdnpicfmeaaaCGat
namespace Go.Proofs.Ytlccdnpicfmeaaa.PW
open Go.RowKit Go.Proofs.Ytlccdnpicfmeaaa
open Go.Proofs.Ytlccdnpicfmeaaa.PM

/-- The digits 1 of a number, of the first k. -/
def onesTo (s : Int) : Nat → Int
  | 0 => 0
  | k + 1 => onesTo s k + (s / 2 ^ k) % 2
set_option maxHeartbeats 8000000 in
theorem ones64_any (s : Int) (h0 : 0 ≤ s) (h1 : s < 32) (w : World) : Calls Try.prog 77 #[.int .u64 s] w fun e w' => e = .returned (.int .i64 (onesTo s 5)) ∧ w = w' := by
  obtain rfl | rfl | rfl | rfl | rfl | rfl | rfl | rfl | rfl | rfl | rfl | rfl | rfl | rfl | rfl | rfl | rfl | rfl | rfl | rfl | rfl | rfl | rfl | rfl | rfl | rfl | rfl | rfl | rfl | rfl | rfl | rfl : s = 0 ∨ s = 1 ∨ s = 2 ∨ s = 3 ∨ s = 4 ∨ s = 5 ∨ s = 6 ∨ s = 7 ∨ s = 8 ∨ s = 9 ∨ s = 10 ∨ s = 11 ∨ s = 12 ∨ s = 13 ∨ s = 14 ∨ s = 15 ∨ s = 16 ∨ s = 17 ∨ s = 18 ∨ s = 19 ∨ s = 20 ∨ s = 21 ∨ s = 22 ∨ s = 23 ∨ s = 24 ∨ s = 25 ∨ s = 26 ∨ s = 27 ∨ s = 28 ∨ s = 29 ∨ s = 30 ∨ s = 31 := by omega
  all_goals
    go_enter Try.func77, Try.ntmps77
    go_wp2
    go_ret
    exact ⟨ret_i64 (by decide +kernel), rfl⟩

theorem onesTo_high {s : Int} (h0 : 0 ≤ s) (_h : s < 32) {k : Nat} (hz : s / 2 ^ k ≤ 0) (_hk : k ≤ 5) : onesTo s k = onesTo s 5 := by
  have h2 : ∀ j, k ≤ j → s / 2 ^ j = 0 := fun j hj => div_high h0 hz hj
  have h3 : ∀ d, onesTo s (k + d) = onesTo s k := by
    intro d
    induction d with
    | zero => rfl
    | succ d ih =>
      show onesTo s (k + d) + (s / 2 ^ (k + d)) % 2 = _
      rw [ih, h2 (k + d) (by omega)]
      simp
  have := h3 (5 - k)
  rw [show k + (5 - k) = 5 by omega] at this
  exact this.symm
theorem onesTo_bd {s : Int} (h0 : 0 ≤ s) : ∀ k, 0 ≤ onesTo s k ∧ onesTo s k ≤ k := by
  intro k
  induction k with
  | zero => simp [onesTo]
  | succ k ih =>
    have : 0 ≤ s / 2 ^ k := Int.ediv_nonneg h0 (Int.le_of_lt (Int.pow_pos (by decide)))
    show 0 ≤ onesTo s k + (s / 2 ^ k) % 2 ∧ onesTo s k + (s / 2 ^ k) % 2 ≤ _
    omega
theorem l01Ones_any (s : Int) (h0 : 0 ≤ s) (h1 : s < 32) (w : World) : Calls Try.prog 74 #[.int .i64 s] w fun e w' => e = .returned (.int .i64 (onesTo s 5)) ∧ w = w' := by
  have hnn : ∀ k : Nat, 0 ≤ s / 2 ^ k := fun k => Int.ediv_nonneg h0 (Int.le_of_lt (Int.pow_pos (by decide)))
  have hle : ∀ k : Nat, s / 2 ^ k ≤ s := fun k => Int.ediv_le_self _ h0
  have HN := Lib.hid hnn
  have HLE := Lib.hid hle
  have H5 : Hid (s / 2 ^ 5 = 0) := Lib.hid (Int.ediv_eq_zero_of_lt h0 (by omega))
  have HH : Hid (∀ k : Nat, k ≤ 5 → s / 2 ^ k ≤ 0 → onesTo s k = onesTo s 5) := Lib.hid (fun k hk hz => onesTo_high h0 h1 hz hk)
  have HD : Hid (∀ k : Nat, s / 2 ^ k / 2 = s / 2 ^ (k + 1)) := Lib.hid (fun k => by rw [Int.pow_succ, Int.ediv_ediv_of_nonneg (Int.le_of_lt (Int.pow_pos (by decide)))])
  have HO : Hid (∀ k, 0 ≤ onesTo s k ∧ onesTo s k ≤ k) := Lib.hid (onesTo_bd h0)
  clear hnn hle
  go_enter Try.func74, Try.ntmps74
  go_wp2
  go_loop [0, 3] (fun x c => ∃ k : Nat, k ≤ 5 ∧ x = .int .i64 (s / 2 ^ k) ∧ c = .int .i64 (onesTo s k)) (fun x _ => (intOf x).toNat)
  case atStart => exact ⟨0, Nat.zero_le _, by simp, rfl⟩
  case round =>
    obtain ⟨k, hk, rfl, rfl⟩ := hrel
    have e1 := HN.out k
    have e2 := HLE.out k
    have e5 := HO.out k
    have hst : onesTo s (k + 1) = onesTo s k + (s / 2 ^ k) % 2 := rfl
    have hd := HD.out k
    by_cases hpos : 0 < s / 2 ^ k
    · have hk5 : k + 1 ≤ 5 := by
        by_cases e : k = 5
        · subst e; have := H5.out; omega
        · omega
      have t1 : (s / 2 ^ k).tdiv 2 = s / 2 ^ (k + 1) := by rw [Int.tdiv_eq_ediv_of_nonneg e1, hd]
      have t2 : (s / 2 ^ k).tmod 2 = (s / 2 ^ k) % 2 := by rw [Int.tmod_eq_emod_of_nonneg e1]
      have hlt : s / 2 ^ (k + 1) < s / 2 ^ k := by omega
      have hge := HN.out (k + 1)
      have HST := Lib.hid hst
      have hdd : (s / 2 ^ k) / 2 = s / 2 ^ (k + 1) := hd
      obtain ⟨y, hy⟩ : ∃ y, y = s / 2 ^ (k + 1) := ⟨_, rfl⟩
      obtain ⟨x, hx⟩ : ∃ x, x = s / 2 ^ k := ⟨_, rfl⟩
      obtain ⟨c, hc⟩ : ∃ c, c = onesTo s k := ⟨_, rfl⟩
      rw [← hx, ← hc] at HST
      rw [← hy] at t1 hlt hge
      rw [← hx] at t1 t2 hlt e1 e2 hpos ⊢
      rw [← hc] at e5 ⊢
      have HY := Lib.hid hy
      clear hst hd hdd HD HH H5 hy hx hc
      have t3 : 0 ≤ x % 2 ∧ x % 2 < 2 := by omega
      obtain ⟨t3, t4⟩ := t3
      obtain ⟨e5, e6⟩ := e5
      go_wp2
      go_round
      case rel => exact ⟨k + 1, hk5, by rw [← HY.out], by rw [HST.out]⟩
      case measure => simp [intOf]; omega
    · have hend := HH.out k hk (by omega)
      have HEND := Lib.hid hend
      obtain ⟨x, hx⟩ : ∃ x, x = s / 2 ^ k := ⟨_, rfl⟩
      obtain ⟨c, hc⟩ : ∃ c, c = onesTo s k := ⟨_, rfl⟩
      rw [← hx] at e1 e2 hpos ⊢
      rw [← hc] at e5 HEND ⊢
      clear hst hd HD HH H5 hend hx hc
      go_wp2
      go_ret
      exact ⟨ret_i64 HEND.out, rfl⟩

end Go.Proofs.Ytlccdnpicfmeaaa.PW
