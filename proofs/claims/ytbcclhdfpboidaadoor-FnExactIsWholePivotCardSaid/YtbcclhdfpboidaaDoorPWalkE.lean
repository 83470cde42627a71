/-
  Walks: what is a problem, in the model and in the program.
-/
import Derived.Test.YtbcclhdfpboidaaDoorPWalkD
namespace Go.Proofs.YtbcclhdfpboidaaDoor.PW
open Go.RowKit Go.Proofs.YtbcclhdfpboidaaDoor
open Go.Proofs.YtbcclhdfpboidaaDoor.PM

theorem l01Is_any (m q : Value) (M : List (List Int)) (Q : List Int) (w : World) (h1 : PM.Rows w m M) (h2 : Ints w q Q) :
    Calls Tryd.prog 53 #[.agg #[m, q]] w fun e w' => e = .returned (.bool (isPB M Q)) ∧ Below w.heap.size w w' := by
  have g1 := fun (w' : World) (h : Below w.heap.size w w') => h1.below h
  obtain ⟨a1, c1, rfl, hl1, hm1, _⟩ := h1
  obtain ⟨a2, c2, rfl, hl2, hm2, _, hx⟩ := h2
  have hm := maxLen_le (Nat.le_trans hl2 hm2)
  have hm' := maxLen_le (Nat.le_trans hl1 hm1)
  clear hl1 hm1 hl2 hm2
  by_cases hM : matB M = true
  case neg =>
    have hM' : matB M = false := by simpa using hM
    rw [isPB_mat hM']
    have HM := Lib.hid hM'
    clear hM hM' hx
    go_enter Tryd.func53, Tryd.ntmps53
    go_wp2_with fail
    refine (l01Matrix_any _ M _ (g1 _ (by (repeat' (first | (with_reducible exact Below.refl _ _) | (with_reducible assumption) | (with_reducible refine Below.alloc ?_ ?_ _) | (with_reducible refine Below.drew ?_) | (with_reducible refine below_drewN ?_ _) | (with_reducible refine Below.setCell ?_ ?_ _) | (with_reducible refine Below.trans ?_ (Below.mono (by with_reducible assumption) ?_)) | (with_reducible exact Below.size (by with_reducible assumption)) | go_size))))).mono ?_; rw [HM.out]; rintro e w1 ⟨rfl, rfl⟩
    go_wp2_with fail
    go_ret
    exact ⟨rfl, by (repeat' (first | (with_reducible exact Below.refl _ _) | (with_reducible assumption) | (with_reducible refine Below.alloc ?_ ?_ _) | (with_reducible refine Below.drew ?_) | (with_reducible refine below_drewN ?_ _) | (with_reducible refine Below.setCell ?_ ?_ _) | (with_reducible refine Below.trans ?_ (Below.mono (by with_reducible assumption) ?_)) | (with_reducible exact Below.size (by with_reducible assumption)) | go_size))⟩
  have HM := Lib.hid hM
  clear hM
  by_cases hl : Q.length = M.length
  case neg =>
    rw [isPB_no (fun c => hl c.2.1)]
    clear hx
    have hne : ((Q.length : Int) != (M.length : Int)) = true := by simp; omega
    generalize M.length = n at *
    generalize Q.length = k at *
    clear hl
    go_enter Tryd.func53, Tryd.ntmps53
    go_wp2_with fail
    refine (l01Matrix_any _ M _ (g1 _ (by (repeat' (first | (with_reducible exact Below.refl _ _) | (with_reducible assumption) | (with_reducible refine Below.alloc ?_ ?_ _) | (with_reducible refine Below.drew ?_) | (with_reducible refine below_drewN ?_ _) | (with_reducible refine Below.setCell ?_ ?_ _) | (with_reducible refine Below.trans ?_ (Below.mono (by with_reducible assumption) ?_)) | (with_reducible exact Below.size (by with_reducible assumption)) | go_size))))).mono ?_; rw [HM.out]; rintro e w1 ⟨rfl, rfl⟩
    go_wp2_with fail
    go_ret
    exact ⟨rfl, by (repeat' (first | (with_reducible exact Below.refl _ _) | (with_reducible assumption) | (with_reducible refine Below.alloc ?_ ?_ _) | (with_reducible refine Below.drew ?_) | (with_reducible refine below_drewN ?_ _) | (with_reducible refine Below.setCell ?_ ?_ _) | (with_reducible refine Below.trans ?_ (Below.mono (by with_reducible assumption) ?_)) | (with_reducible exact Below.size (by with_reducible assumption)) | go_size))⟩
  have hQ0 : 1 ≤ Q.length := by rw [hl]; exact ((matB_iff M).1 HM.out).1.1
  have HI := Lib.hid (wit_iff 100 Q)
  have HP := Lib.hid (isPB_iff M Q)
  have HL := Lib.hid hl
  rcases hx with rfl | ⟨b2, off2, rfl, hlt2, hcell2⟩
  · simp at hQ0
  rw [← hl] at g1 ⊢
  have HC2 := Lib.hid hcell2
  clear hcell2 hl hm'
  go_enter Tryd.func53, Tryd.ntmps53
  go_wp2_with fail
  refine (l01Matrix_any _ M _ (by rw [← HL.out] at *; exact g1 _ (by (repeat' (first | (with_reducible exact Below.refl _ _) | (with_reducible assumption) | (with_reducible refine Below.alloc ?_ ?_ _) | (with_reducible refine Below.drew ?_) | (with_reducible refine below_drewN ?_ _) | (with_reducible refine Below.setCell ?_ ?_ _) | (with_reducible refine Below.trans ?_ (Below.mono (by with_reducible assumption) ?_)) | (with_reducible exact Below.size (by with_reducible assumption)) | go_size))))).mono ?_; rw [HM.out]; rintro e w1 ⟨rfl, rfl⟩
  go_wp2_with fail
  go_loop [3] (fun i => ∃ k : Nat, k ≤ Q.length ∧ i = .int .i64 k ∧ Hid (∀ j, j < k → -100 ≤ Q.getD j 0 ∧ Q.getD j 0 ≤ 100)) (fun i => Q.length - (intOf i).toNat)
  case atStart => exact ⟨0, Nat.zero_le _, rfl, fun j hj => absurd hj (Nat.not_lt_zero _)⟩
  case round =>
    obtain ⟨k, hk, rfl, hrng⟩ := hrel
    by_cases hlt3 : k < Q.length
    · have h1 := HC2.out k hlt3
      by_cases hin : -100 ≤ Q.getD k 0 ∧ Q.getD k 0 ≤ 100
      · have hnext : Hid (∀ j, j < k + 1 → -100 ≤ Q.getD j 0 ∧ Q.getD j 0 ≤ 100) := fun j hj => by
          by_cases e : j = k
          · subst e; exact hin
          · exact hrng.out j (by omega)
        have hd : Hid (decide (-100 ≤ Q.getD k 0 ∧ Q.getD k 0 ≤ 100) = true) := decide_eq_true hin
        clear hin
        generalize Q.getD k 0 = x at *
        go_wp2_with (go_at_call 65; refine (l01In_is _ _ _ _ _ hd.out).mono ?_; rintro e w' ⟨rfl, rfl⟩)
        go_round
        case rel => exact ⟨k + 1, by omega, by go_num, hnext⟩
        case measure => simp [intOf]; omega
      · have hno : Hid (isPB M Q = false) := isPB_no (fun c => by rw [wit_no hlt3 hin] at c; exact absurd c.2.2 (by simp))
        have hd : Hid (decide (-100 ≤ Q.getD k 0 ∧ Q.getD k 0 ≤ 100) = false) := decide_eq_false hin
        clear hin
        generalize Q.getD k 0 = x at *
        go_wp2_with (go_at_call 65; refine (l01In_is _ _ _ _ _ hd.out).mono ?_; rintro e w' ⟨rfl, rfl⟩)
        go_ret
        exact ⟨by rw [hno.out]; rfl, by (repeat' (first | (with_reducible exact Below.refl _ _) | (with_reducible assumption) | (with_reducible refine Below.alloc ?_ ?_ _) | (with_reducible refine Below.drew ?_) | (with_reducible refine below_drewN ?_ _) | (with_reducible refine Below.setCell ?_ ?_ _) | (with_reducible refine Below.trans ?_ (Below.mono (by with_reducible assumption) ?_)) | (with_reducible exact Below.size (by with_reducible assumption)) | go_size))⟩
    · obtain rfl : k = Q.length := by omega
      have hyes : Hid (isPB M Q = true) := HP.out.2 ⟨HM.out, HL.out, HI.out.2 hrng.out⟩
      go_wp2
      go_ret
      exact ⟨by rw [hyes.out]; rfl, by (repeat' (first | (with_reducible exact Below.refl _ _) | (with_reducible assumption) | (with_reducible refine Below.alloc ?_ ?_ _) | (with_reducible refine Below.drew ?_) | (with_reducible refine below_drewN ?_ _) | (with_reducible refine Below.setCell ?_ ?_ _) | (with_reducible refine Below.trans ?_ (Below.mono (by with_reducible assumption) ?_)) | (with_reducible exact Below.size (by with_reducible assumption)) | go_size))⟩

theorem isSquareWithin_any (v : Value) (M : List (List Int)) (w : World) (hv : PM.Rows w v M) :
    Calls Tryd.prog 79 #[v, .int .i64 20] w fun e w' => e = .returned (.bool (matB M)) ∧ w = w' := by
  obtain ⟨a, cap, rfl, hc, hm0, hx⟩ := hv
  have hm := maxLen_le (Nat.le_trans hc hm0)
  clear hm0 hc
  by_cases hs : 1 ≤ M.length ∧ M.length ≤ 5
  case neg =>
    rw [matB_size hs]
    clear hx
    by_cases hs1 : M.length < 1
    · obtain hs0 : M.length = 0 := by omega
      rw [hs0]
      clear hs hs1 hs0 hm
      go_enter Tryd.func79, Tryd.ntmps79
      go_wp2_with fail
      go_ret
      exact ⟨rfl, rfl⟩
    · have hs5 : 5 < M.length := by omega
      clear hs
      generalize M.length = n at *
      go_enter Tryd.func79, Tryd.ntmps79
      go_wp2_with fail
      go_ret
      exact ⟨rfl, rfl⟩
  obtain ⟨hs1, hs5⟩ := hs
  rcases hx with rfl | ⟨b, off, rfl, hlt, hcell⟩
  · simp at hs1
  have HC := Lib.hid hcell
  clear hcell
  have HI := Lib.hid (matB_iff M)
  obtain ⟨n, hn⟩ : ∃ n, n = M.length := ⟨_, rfl⟩
  rw [← hn] at hs1 hs5 hm ⊢
  have HN := Lib.hid hn
  clear hn
  go_enter Tryd.func79, Tryd.ntmps79
  go_wp2_with fail
  go_loop [7, 18] (fun _ i => ∃ k : Nat, k ≤ n ∧ i = .int .i64 k ∧ Hid (∀ j, j < k → (M.getD j []).length = n ∧ wit 20 (M.getD j []) = true)) (fun _ i => n - (intOf i).toNat)
  case atStart => exact ⟨0, Nat.zero_le _, rfl, fun j hj => absurd hj (Nat.not_lt_zero _)⟩
  case round =>
    obtain ⟨k, hk, rfl, hrows⟩ := hrel
    by_cases hlt3 : k < n
    · obtain ⟨u, hu, hU⟩ := HC.out k (by rw [← HN.out]; exact hlt3)
      have hkM : k < M.length := by rw [← HN.out]; exact hlt3
      have gU := fun (w' : World) (h : Below w.heap.size w w') => hU.below h
      obtain ⟨ra, rc, rfl, hrl, hrm, _, _⟩ := hU
      have hrm' := maxLen_le (Nat.le_trans hrl hrm)
      clear hrl hrm
      by_cases hlen : (M.getD k []).length = n
      · by_cases hw : wit 20 (M.getD k []) = true
        · have hnext : Hid (∀ j, j < k + 1 → (M.getD j []).length = n ∧ wit 20 (M.getD j []) = true) := fun j hj => by
            by_cases e : j = k
            · subst e; exact ⟨hlen, hw⟩
            · exact hrows.out j (by omega)
          have HW := Lib.hid hw
          clear hw hrows hkM
          generalize M.getD k [] = r at *
          rw [hlen] at hu hrm' gU
          clear hlen
          go_wp2_with (go_at_call 80; refine (areWithin_any _ r _ _ (gU _ (by (repeat' (first | (with_reducible exact Below.refl _ _) | (with_reducible assumption) | (with_reducible refine Below.alloc ?_ ?_ _) | (with_reducible refine Below.drew ?_) | (with_reducible refine below_drewN ?_ _) | (with_reducible refine Below.setCell ?_ ?_ _) | (with_reducible refine Below.trans ?_ (Below.mono (by with_reducible assumption) ?_)) | (with_reducible exact Below.size (by with_reducible assumption)) | go_size)))) (by omega) (by omega)).mono ?_; rw [HW.out]; rintro e w' ⟨rfl, rfl⟩)
          go_round
          case rel => exact ⟨k + 1, by omega, by go_num, hnext⟩
          case measure => simp [intOf]; omega
        · have hw' : wit 20 (M.getD k []) = false := by simpa using hw
          have hno : Hid (matB M = false) := matB_no hkM (fun c => hw c.2)
          have HW := Lib.hid hw'
          clear hw hw' hrows hkM
          generalize M.getD k [] = r at *
          rw [hlen] at hu hrm' gU
          clear hlen
          go_wp2_with (go_at_call 80; refine (areWithin_any _ r _ _ (gU _ (by (repeat' (first | (with_reducible exact Below.refl _ _) | (with_reducible assumption) | (with_reducible refine Below.alloc ?_ ?_ _) | (with_reducible refine Below.drew ?_) | (with_reducible refine below_drewN ?_ _) | (with_reducible refine Below.setCell ?_ ?_ _) | (with_reducible refine Below.trans ?_ (Below.mono (by with_reducible assumption) ?_)) | (with_reducible exact Below.size (by with_reducible assumption)) | go_size)))) (by omega) (by omega)).mono ?_; rw [HW.out]; rintro e w' ⟨rfl, rfl⟩)
          go_ret
          exact ⟨by rw [hno.out]; rfl, rfl⟩
      · have hno : Hid (matB M = false) := matB_no hkM (fun c => hlen (by rw [c.1, HN.out]))
        clear gU hrows hkM
        generalize (M.getD k []).length = l at *
        have hne : ((l : Int) != (n : Int)) = true := by simp; omega
        clear hlen
        go_wp2
        go_ret
        exact ⟨by rw [hno.out]; rfl, rfl⟩
    · obtain rfl : k = n := by omega
      have hyes : Hid (matB M = true) := HI.out.2 ⟨⟨by rw [← HN.out]; exact hs1, by rw [← HN.out]; exact hs5⟩, by rw [← HN.out]; exact hrows.out⟩
      go_wp2
      go_ret
      exact ⟨by rw [hyes.out]; rfl, rfl⟩

theorem implIsProblem_any (m q : Value) (M : List (List Int)) (Q : List Int) (w : World) (h1 : PM.Rows w m M) (h2 : Ints w q Q) :
    Calls Tryd.prog 55 #[.agg #[m, q]] w fun e w' => e = .returned (.bool (isPB M Q)) ∧ Below w.heap.size w w' := by
  have g1 := fun (w' : World) (h : Below w.heap.size w w') => h1.below h
  have g2 := fun (w' : World) (h : Below w.heap.size w w') => h2.below h
  obtain ⟨a1, c1, rfl, hl1, hm1, _⟩ := h1
  obtain ⟨a2, c2, rfl, hl2, hm2, _⟩ := h2
  have hm := maxLen_le (Nat.le_trans hl2 hm2)
  have hm' := maxLen_le (Nat.le_trans hl1 hm1)
  clear hl1 hm1 hl2 hm2
  by_cases hM : matB M = true
  case neg =>
    have hM' : matB M = false := by simpa using hM
    rw [isPB_mat hM']
    have HM := Lib.hid hM'
    clear hM hM'
    go_enter Tryd.func55, Tryd.ntmps55
    go_wp2_with fail
    refine (isSquareWithin_any _ M _ (g1 _ (by (repeat' (first | (with_reducible exact Below.refl _ _) | (with_reducible assumption) | (with_reducible refine Below.alloc ?_ ?_ _) | (with_reducible refine Below.drew ?_) | (with_reducible refine below_drewN ?_ _) | (with_reducible refine Below.setCell ?_ ?_ _) | (with_reducible refine Below.trans ?_ (Below.mono (by with_reducible assumption) ?_)) | (with_reducible exact Below.size (by with_reducible assumption)) | go_size))))).mono ?_; rw [HM.out]; rintro e w1 ⟨rfl, rfl⟩
    go_wp2_with fail
    go_ret
    exact ⟨rfl, by (repeat' (first | (with_reducible exact Below.refl _ _) | (with_reducible assumption) | (with_reducible refine Below.alloc ?_ ?_ _) | (with_reducible refine Below.drew ?_) | (with_reducible refine below_drewN ?_ _) | (with_reducible refine Below.setCell ?_ ?_ _) | (with_reducible refine Below.trans ?_ (Below.mono (by with_reducible assumption) ?_)) | (with_reducible exact Below.size (by with_reducible assumption)) | go_size))⟩
  have HM := Lib.hid hM
  clear hM
  by_cases hl : Q.length = M.length
  case neg =>
    rw [isPB_no (fun c => hl c.2.1)]
    have hne : ((Q.length : Int) == (M.length : Int)) = false := by simp; omega
    clear hl
    go_enter Tryd.func55, Tryd.ntmps55
    go_wp2_with fail
    refine (isSquareWithin_any _ M _ (g1 _ (by (repeat' (first | (with_reducible exact Below.refl _ _) | (with_reducible assumption) | (with_reducible refine Below.alloc ?_ ?_ _) | (with_reducible refine Below.drew ?_) | (with_reducible refine below_drewN ?_ _) | (with_reducible refine Below.setCell ?_ ?_ _) | (with_reducible refine Below.trans ?_ (Below.mono (by with_reducible assumption) ?_)) | (with_reducible exact Below.size (by with_reducible assumption)) | go_size))))).mono ?_; rw [HM.out]; rintro e w1 ⟨rfl, rfl⟩
    go_wp2_with fail
    go_ret
    exact ⟨rfl, by (repeat' (first | (with_reducible exact Below.refl _ _) | (with_reducible assumption) | (with_reducible refine Below.alloc ?_ ?_ _) | (with_reducible refine Below.drew ?_) | (with_reducible refine below_drewN ?_ _) | (with_reducible refine Below.setCell ?_ ?_ _) | (with_reducible refine Below.trans ?_ (Below.mono (by with_reducible assumption) ?_)) | (with_reducible exact Below.size (by with_reducible assumption)) | go_size))⟩
  have hans : isPB M Q = wit 100 Q := by
    cases hQ : wit 100 Q
    · exact isPB_no (fun c => by rw [hQ] at c; exact absurd c.2.2 (by simp))
    · exact (isPB_iff M Q).2 ⟨HM.out, hl, hQ⟩
  rw [hans]
  have HL := Lib.hid hl
  clear hans hm'
  rw [← hl] at g1 ⊢
  clear hl
  go_enter Tryd.func55, Tryd.ntmps55
  go_wp2_with fail
  refine (isSquareWithin_any _ M _ (by rw [← HL.out] at *; exact g1 _ (by (repeat' (first | (with_reducible exact Below.refl _ _) | (with_reducible assumption) | (with_reducible refine Below.alloc ?_ ?_ _) | (with_reducible refine Below.drew ?_) | (with_reducible refine below_drewN ?_ _) | (with_reducible refine Below.setCell ?_ ?_ _) | (with_reducible refine Below.trans ?_ (Below.mono (by with_reducible assumption) ?_)) | (with_reducible exact Below.size (by with_reducible assumption)) | go_size))))).mono ?_; rw [HM.out]; rintro e w1 ⟨rfl, rfl⟩
  go_wp2_with fail
  refine (areWithin_any _ Q _ _ (g2 _ (by (repeat' (first | (with_reducible exact Below.refl _ _) | (with_reducible assumption) | (with_reducible refine Below.alloc ?_ ?_ _) | (with_reducible refine Below.drew ?_) | (with_reducible refine below_drewN ?_ _) | (with_reducible refine Below.setCell ?_ ?_ _) | (with_reducible refine Below.trans ?_ (Below.mono (by with_reducible assumption) ?_)) | (with_reducible exact Below.size (by with_reducible assumption)) | go_size)))) (by omega) (by omega)).mono ?_; rintro e w1 ⟨rfl, rfl⟩
  go_wp2_with fail
  go_ret
  exact ⟨rfl, by (repeat' (first | (with_reducible exact Below.refl _ _) | (with_reducible assumption) | (with_reducible refine Below.alloc ?_ ?_ _) | (with_reducible refine Below.drew ?_) | (with_reducible refine below_drewN ?_ _) | (with_reducible refine Below.setCell ?_ ?_ _) | (with_reducible refine Below.trans ?_ (Below.mono (by with_reducible assumption) ?_)) | (with_reducible exact Below.size (by with_reducible assumption)) | go_size))⟩
end Go.Proofs.YtbcclhdfpboidaaDoor.PW
