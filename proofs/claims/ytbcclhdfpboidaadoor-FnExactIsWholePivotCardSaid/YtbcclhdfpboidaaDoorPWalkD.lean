/-
  Walks: what is a matrix and a problem, in the model and in the program.
-/
import Derived.Test.YtbcclhdfpboidaaDoorPWalkC
namespace Go.Proofs.YtbcclhdfpboidaaDoor.PW
open Go.RowKit Go.Proofs.YtbcclhdfpboidaaDoor
open Go.Proofs.YtbcclhdfpboidaaDoor.PM

theorem l01In_is (n lo hi : Int) (b : Bool) (w : World) (h : decide (lo ≤ n ∧ n ≤ hi) = b) :
    Calls Tryd.prog 65 #[.int .i64 n, .int .i64 lo, .int .i64 hi] w fun e w' => e = .returned (.bool b) ∧ w = w' := by
  subst h
  go_enter Tryd.func65, Tryd.ntmps65
  go_wp2
  all_goals (go_ret; exact ⟨ret_bool (by simp; try omega), rfl⟩)

theorem isWithin_is (x l : Int) (b : Bool) (w : World) (h0 : 0 ≤ l) (h1 : l ≤ 1000000000000) (h : decide (-l ≤ x ∧ x ≤ l) = b) :
    Calls Tryd.prog 92 #[.int .i64 x, .int .i64 l] w fun e w' => e = .returned (.bool b) ∧ w = w' := by
  subst h
  go_enter Tryd.func92, Tryd.ntmps92
  go_wp2
  all_goals (go_ret; exact ⟨ret_bool (by simp; try omega), rfl⟩)

theorem areWithin_any (v : Value) (xs : List Int) (l : Int) (w : World) (hv : Ints w v xs) (h0 : 0 ≤ l) (h1 : l ≤ 1000000000000) :
    Calls Tryd.prog 80 #[v, .int .i64 l] w fun e w' => e = .returned (.bool (wit l xs)) ∧ w = w' := by
  obtain ⟨a, cap, rfl, hc, hm0, _, hx⟩ := hv
  have hm := maxLen_le (Nat.le_trans hc hm0)
  clear hm0 hc
  rcases hx with rfl | ⟨b, off, rfl, hlt, hcell⟩
  · show Calls _ _ #[.slice a 0 cap, .int .i64 l] _ _
    go_enter Tryd.func80, Tryd.ntmps80
    go_wp2
    go_rounds 1
    all_goals go_ret
    all_goals exact ⟨rfl, rfl⟩
  have HC := Lib.hid hcell
  clear hcell
  have HI := Lib.hid (wit_iff l xs)
  go_enter Tryd.func80, Tryd.ntmps80
  go_wp2
  go_loop [6, 9] (fun _ i => ∃ k : Nat, k ≤ xs.length ∧ i = .int .i64 k ∧ Hid (∀ j, j < k → -l ≤ xs.getD j 0 ∧ xs.getD j 0 ≤ l)) (fun _ i => xs.length - (intOf i).toNat)
  case atStart => exact ⟨0, Nat.zero_le _, rfl, fun j hj => absurd hj (Nat.not_lt_zero _)⟩
  case round =>
    obtain ⟨k, hk, rfl, hrng⟩ := hrel
    by_cases hlt3 : k < xs.length
    · have h1 := HC.out k hlt3
      by_cases hin : -l ≤ xs.getD k 0 ∧ xs.getD k 0 ≤ l
      · have hnext : Hid (∀ j, j < k + 1 → -l ≤ xs.getD j 0 ∧ xs.getD j 0 ≤ l) := fun j hj => by
          by_cases e : j = k
          · subst e; exact hin
          · exact hrng.out j (by omega)
        have hd : Hid (decide (-l ≤ xs.getD k 0 ∧ xs.getD k 0 ≤ l) = true) := decide_eq_true hin
        clear hin
        generalize xs.getD k 0 = x at *
        go_wp2_with (go_at_call 92; refine (isWithin_is _ _ _ _ (by omega) (by omega) hd.out).mono ?_; rintro e w' ⟨rfl, rfl⟩)
        go_round
        case rel => exact ⟨k + 1, by omega, by go_num, hnext⟩
        case measure => simp [intOf]; omega
      · have hno : Hid (wit l xs = false) := wit_no hlt3 hin
        have hd : Hid (decide (-l ≤ xs.getD k 0 ∧ xs.getD k 0 ≤ l) = false) := decide_eq_false hin
        clear hin
        generalize xs.getD k 0 = x at *
        go_wp2_with (go_at_call 92; refine (isWithin_is _ _ _ _ (by omega) (by omega) hd.out).mono ?_; rintro e w' ⟨rfl, rfl⟩)
        go_ret
        exact ⟨by rw [hno.out]; rfl, rfl⟩
    · obtain rfl : k = xs.length := by omega
      have hyes : Hid (wit l xs = true) := HI.out.2 hrng.out
      go_wp2
      go_ret
      exact ⟨by rw [hyes.out]; rfl, rfl⟩

theorem l01Matrix_any (v : Value) (M : List (List Int)) (w : World) (hv : PM.Rows w v M) :
    Calls Tryd.prog 78 #[v] w fun e w' => e = .returned (.bool (matB M)) ∧ w = w' := by
  obtain ⟨a, cap, rfl, hc, hm0, hx⟩ := hv
  have hm := maxLen_le (Nat.le_trans hc hm0)
  clear hm0 hc
  by_cases hs : 1 ≤ M.length ∧ M.length ≤ 5
  case neg =>
    rw [matB_size hs]
    clear hx
    by_cases hs1 : M.length < 1
    · obtain hs0 : M.length = 0 := by omega
      rw [hs0]
      clear hs hs1 hs0 hm
      go_enter Tryd.func78, Tryd.ntmps78
      go_wp2
      go_ret
      exact ⟨rfl, rfl⟩
    · have hs5 : 5 < M.length := by omega
      clear hs
      generalize M.length = n at *
      go_enter Tryd.func78, Tryd.ntmps78
      go_wp2
      go_ret
      exact ⟨rfl, rfl⟩
  obtain ⟨hs1, hs5⟩ := hs
  rcases hx with rfl | ⟨b, off, rfl, hlt, hcell⟩
  · simp at hs1
  have HC := Lib.hid hcell
  clear hcell
  have HI := Lib.hid (matB_iff M)
  obtain ⟨n, hn⟩ : ∃ n, n = M.length := ⟨_, rfl⟩
  rw [← hn] at hs1 hs5 hm ⊢
  have HN := Lib.hid hn
  clear hn
  go_enter Tryd.func78, Tryd.ntmps78
  go_wp2
  go_loop [4, 5] (fun i _ => ∃ k : Nat, k ≤ n ∧ i = .int .i64 k ∧ Hid (∀ j, j < k → (M.getD j []).length = n ∧ wit 20 (M.getD j []) = true)) (fun i _ => n - (intOf i).toNat)
  case atStart => exact ⟨0, Nat.zero_le _, rfl, fun j hj => absurd hj (Nat.not_lt_zero _)⟩
  case round =>
    obtain ⟨k, hk, rfl, hrows⟩ := hrel
    by_cases hlt3 : k < n
    · obtain ⟨u, hu, ra, rc, rfl, hrl, hrm, _, hrx⟩ := HC.out k (by rw [← HN.out]; exact hlt3)
      have hrm' := maxLen_le (Nat.le_trans hrl hrm)
      clear hrl hrm
      have hkM : k < M.length := by rw [← HN.out]; exact hlt3
      have HK := Lib.hid hkM
      clear hkM
      by_cases hlen : (M.getD k []).length = n
      · have hrow := Lib.hid (wit_iff 20 (M.getD k []))
        have hstep : Hid (wit 20 (M.getD k []) = true → ∀ j, j < k + 1 → (M.getD j []).length = n ∧ wit 20 (M.getD j []) = true) := fun hw j hj => by
          by_cases e : j = k
          · subst e; exact ⟨hlen, hw⟩
          · exact hrows.out j (by omega)
        have hbad : Hid (wit 20 (M.getD k []) = false → matB M = false) := fun hw => matB_no HK.out (by rw [hw]; simp)
        clear hrows
        generalize M.getD k [] = r at *
        rcases hrx with rfl | ⟨b2, off2, rfl, hlt2, hcell2⟩
        · simp at hlen; omega
        rw [hlen] at hu hrm'
        have HL := Lib.hid hlen
        have HC2 := Lib.hid hcell2
        clear hlen hcell2
        go_wp2
        go_loop [5] (fun i => ∃ c : Nat, c ≤ n ∧ i = .int .i64 c ∧ Hid (∀ j, j < c → -20 ≤ r.getD j 0 ∧ r.getD j 0 ≤ 20)) (fun i => n - (intOf i).toNat)
        case atStart => exact ⟨0, Nat.zero_le _, rfl, fun j hj => absurd hj (Nat.not_lt_zero _)⟩
        case round =>
          obtain ⟨c, hc, rfl, hrng⟩ := hrel
          by_cases hlt4 : c < n
          · have hcr : c < r.length := by rw [HL.out]; exact hlt4
            have h1 := HC2.out c hcr
            by_cases hin : -20 ≤ r.getD c 0 ∧ r.getD c 0 ≤ 20
            · have hnext : Hid (∀ j, j < c + 1 → -20 ≤ r.getD j 0 ∧ r.getD j 0 ≤ 20) := fun j hj => by
                by_cases e : j = c
                · subst e; exact hin
                · exact hrng.out j (by omega)
              have hd : Hid (decide (-20 ≤ r.getD c 0 ∧ r.getD c 0 ≤ 20) = true) := decide_eq_true hin
              clear hin hcr
              generalize r.getD c 0 = x at *
              go_wp2_with (go_at_call 65; refine (l01In_is _ _ _ _ _ hd.out).mono ?_; rintro e w' ⟨rfl, rfl⟩)
              go_round
              case rel => exact ⟨c + 1, by omega, by go_num, hnext⟩
              case measure => simp [intOf]; omega
            · have hno : Hid (matB M = false) := hbad.out (wit_no hcr hin)
              have hd : Hid (decide (-20 ≤ r.getD c 0 ∧ r.getD c 0 ≤ 20) = false) := decide_eq_false hin
              clear hin hcr
              generalize r.getD c 0 = x at *
              go_wp2_with (go_at_call 65; refine (l01In_is _ _ _ _ _ hd.out).mono ?_; rintro e w' ⟨rfl, rfl⟩)
              go_ret
              exact ⟨by rw [hno.out]; rfl, rfl⟩
          · obtain rfl : c = n := by omega
            have hnext := hstep.out (hrow.out.2 (by rw [HL.out]; exact hrng.out))
            have HX := Lib.hid hnext
            clear hnext
            go_wp2
            go_round
            case rel => exact ⟨k + 1, by omega, by go_num, HX⟩
            case measure => simp [intOf]; omega
      · have hno : Hid (matB M = false) := matB_no HK.out (fun c => hlen (by rw [c.1, HN.out]))
        generalize (M.getD k []).length = l at *
        have hne : ((l : Int) != (n : Int)) = true := by simp; omega
        go_wp2
        go_ret
        exact ⟨by rw [hno.out]; rfl, rfl⟩
    · obtain rfl : k = n := by omega
      have hyes : Hid (matB M = true) := HI.out.2 ⟨⟨by rw [← HN.out]; exact hs1, by rw [← HN.out]; exact hs5⟩, by rw [← HN.out]; exact hrows.out⟩
      go_wp2
      go_ret
      exact ⟨by rw [hyes.out]; rfl, rfl⟩
end Go.Proofs.YtbcclhdfpboidaaDoor.PW
