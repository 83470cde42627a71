/-
  The exact laws of MinorBy and MinorOf: both sides' answers, and the laws.
-/
import Derived.Test.YtiojmfikokecbaaQMin
import Derived.Test.YtiojmfikokecbaaQPDet
namespace Go.Proofs.Ytiojmfikokecbaa.PW
open Go.RowKit Go.Proofs.Ytiojmfikokecbaa
open Go.Proofs.Ytiojmfikokecbaa.PM Go.Proofs.Ytiojmfikokecbaa.PX

theorem inAll_not {n : Nat} {xs : List Int} (h : ¬ inAll n xs = true) : inAll n xs = false := by cases e : inAll n xs <;> simp_all
theorem cells_one (w : World) (x : Int) (t : TypeId) : ∀ k, k < [x].length → (w.alloc (.cells #[.int .i64 x] t)).cell? ⟨w.heap.size, k, none⟩ = some (.int .i64 ([x].getD k 0)) := by
  intro k hk
  obtain rfl : k = 0 := by simp at hk; omega
  rw [World.cell?_alloc_new]; rfl
theorem cells_two (w : World) (x y : Int) (t : TypeId) : ∀ k, k < [x, y].length → (w.alloc (.cells #[.int .i64 x, .int .i64 y] t)).cell? ⟨w.heap.size, k, none⟩ = some (.int .i64 ([x, y].getD k 0)) := by
  intro k hk
  obtain rfl | rfl : k = 0 ∨ k = 1 := by simp at hk; omega
  · rw [World.cell?_alloc_new]; rfl
  · rw [World.cell?_alloc_new]; rfl

/-- The determinant of a part of a matrix, and a code. -/
def byOut (M : List (List Int)) (r c : Int) : Int × Int :=
  if matB M = false then (0, 1) else if inAll M.length [r, c] = false then (0, 2) else if onesTo r 5 ≠ onesTo c 5 then (0, 2) else (dt (memTo M.length r M.length).length (ent (partL M r c)), 0)
theorem byOut_e1 {M : List (List Int)} {r c : Int} (h : matB M = false) : byOut M r c = (0, 1) := by unfold byOut; rw [if_pos h]
theorem byOut_e2 {M : List (List Int)} {r c : Int} (h : matB M = true) (h2 : inAll M.length [r, c] = false) : byOut M r c = (0, 2) := by unfold byOut; rw [if_neg (by simp [h]), if_pos h2]
theorem byOut_e3 {M : List (List Int)} {r c : Int} (h : matB M = true) (h2 : inAll M.length [r, c] = true) (h3 : onesTo r 5 ≠ onesTo c 5) : byOut M r c = (0, 2) := by unfold byOut; rw [if_neg (by simp [h]), if_neg (by simp [h2]), if_pos h3]
theorem byOut_ok {M : List (List Int)} {r c : Int} (h : matB M = true) (h2 : inAll M.length [r, c] = true) (h3 : onesTo r 5 = onesTo c 5) : byOut M r c = (dt (memTo M.length r M.length).length (ent (partL M r c)), 0) := by
  unfold byOut; rw [if_neg (by simp [h]), if_neg (by simp [h2]), if_neg (fun e => e h3)]
theorem cnt_of {n : Nat} {r c : Int} (hn : n ≤ 5) (hr : 0 ≤ r ∧ r < (2 : Int) ^ n) (hc : 0 ≤ c ∧ c < (2 : Int) ^ n) (h : onesTo r 5 = onesTo c 5) : (memTo n r n).length = (memTo n c n).length := by
  have h1 := memTo_ones hn hr.1 hr.2
  have h2 := memTo_ones hn hc.1 hc.2
  omega
theorem outN_at {w w' : World} {o : Int × Int} {x y : Int} (h : o = (x, y)) (hb : Below w.heap.size w w') : OutN w o (.returned (.tuple #[.int .i64 x, .int .i64 y])) w' := by rw [h]; exact ⟨rfl, hb⟩

set_option maxHeartbeats 4000000 in
theorem implMinorBy_any (m : Value) (M : List (List Int)) (r c : Int) (w : World) (h1 : PM.Rows w m M) : Calls Try.prog 50 #[m, .int .i64 r, .int .i64 c] w (OutN w (byOut M r c)) := by
  have hmat := implIsMatrix_any m M w h1
  cases hM : matB M
  · rw [byOut_e1 hM]
    rw [hM] at hmat
    have HS := Lib.hid hmat
    obtain ⟨a1, c1, rfl, _⟩ := h1
    clear hM hmat
    go_enter Try.func50, Try.ntmps50
    go_wp2_with fail
    refine HS.out.mono ?_; rintro e w1 ⟨rfl, rfl⟩
    go_wp2_with fail
    go_ret2
    exact ⟨rfl, by (repeat' (first | (with_reducible exact Below.refl _ _) | (with_reducible assumption) | (with_reducible refine Below.alloc ?_ ?_ _) | (with_reducible refine Below.drew ?_) | (with_reducible refine below_drewN ?_ _) | (with_reducible refine Below.setCell ?_ ?_ _) | (with_reducible refine Below.trans ?_ (Below.mono (by with_reducible assumption) ?_)) | (with_reducible exact Below.size (by with_reducible assumption)) | go_size))⟩
  rw [hM] at hmat
  have HS := Lib.hid hmat
  obtain ⟨f1, f2, f3, f4⟩ := matB_facts hM
  have hma := matB_all hM
  clear hmat
  have hp := pow_le32 f2
  by_cases hr : 0 ≤ r ∧ r < (2 : Int) ^ M.length
  case neg =>
    have HO := Lib.hid (byOut_e2 (r := r) (c := c) hM (inAll_not fun h => hr (inAll_two.1 h).1))
    have HR := Lib.hid (fun w => isSet_is r M.length false w f2 (decide_eq_false hr))
    obtain ⟨a1, c1, rfl, _⟩ := h1
    clear hM hr f3 f4 hma hp
    rw [HO.out]
    go_enter Try.func50, Try.ntmps50
    go_wp2_with fail
    refine HS.out.mono ?_; rintro e w1 ⟨rfl, rfl⟩
    go_wp2_with fail
    refine (HR.out _).mono ?_; rintro e w2 ⟨rfl, rfl⟩
    go_wp2_with fail
    go_ret2
    exact ⟨rfl, by (repeat' (first | (with_reducible exact Below.refl _ _) | (with_reducible assumption) | (with_reducible refine Below.alloc ?_ ?_ _) | (with_reducible refine Below.drew ?_) | (with_reducible refine below_drewN ?_ _) | (with_reducible refine Below.setCell ?_ ?_ _) | (with_reducible refine Below.trans ?_ (Below.mono (by with_reducible assumption) ?_)) | (with_reducible exact Below.size (by with_reducible assumption)) | go_size))⟩
  by_cases hc : 0 ≤ c ∧ c < (2 : Int) ^ M.length
  case neg =>
    have HO := Lib.hid (byOut_e2 (r := r) (c := c) hM (inAll_not fun h => hc (inAll_two.1 h).2))
    have HR := Lib.hid (fun w => isSet_is r M.length true w f2 (decide_eq_true hr))
    have HC := Lib.hid (fun w => isSet_is c M.length false w f2 (decide_eq_false hc))
    obtain ⟨a1, c1, rfl, _⟩ := h1
    clear hM hr hc f3 f4 hma hp
    rw [HO.out]
    go_enter Try.func50, Try.ntmps50
    go_wp2_with fail
    refine HS.out.mono ?_; rintro e w1 ⟨rfl, rfl⟩
    go_wp2_with fail
    refine (HR.out _).mono ?_; rintro e w2 ⟨rfl, rfl⟩
    go_wp2_with fail
    refine (HC.out _).mono ?_; rintro e w3 ⟨rfl, rfl⟩
    go_wp2_with fail
    go_ret2
    exact ⟨rfl, by (repeat' (first | (with_reducible exact Below.refl _ _) | (with_reducible assumption) | (with_reducible refine Below.alloc ?_ ?_ _) | (with_reducible refine Below.drew ?_) | (with_reducible refine below_drewN ?_ _) | (with_reducible refine Below.setCell ?_ ?_ _) | (with_reducible refine Below.trans ?_ (Below.mono (by with_reducible assumption) ?_)) | (with_reducible exact Below.size (by with_reducible assumption)) | go_size))⟩
  have hin := inAll_two.2 ⟨hr, hc⟩
  have HR := Lib.hid (fun w => isSet_is r M.length true w f2 (decide_eq_true hr))
  have HC := Lib.hid (fun w => isSet_is c M.length true w f2 (decide_eq_true hc))
  have hmany := fun w => haveAsMany_any r c hr.1 (by omega) hc.1 (by omega) w
  by_cases h3 : onesTo r 5 = onesTo c 5
  case neg =>
    have HO := Lib.hid (byOut_e3 hM hin h3)
    rw [decide_eq_false h3] at hmany
    have HH := Lib.hid hmany
    obtain ⟨a1, c1, rfl, _⟩ := h1
    clear hM hr hc f3 f4 hma hp hin h3 hmany
    rw [HO.out]
    go_enter Try.func50, Try.ntmps50
    go_wp2_with fail
    refine HS.out.mono ?_; rintro e w1 ⟨rfl, rfl⟩
    go_wp2_with fail
    refine (HR.out _).mono ?_; rintro e w2 ⟨rfl, rfl⟩
    go_wp2_with fail
    refine (HC.out _).mono ?_; rintro e w3 ⟨rfl, rfl⟩
    go_wp2_with fail
    refine (HH.out _).mono ?_; rintro e w4 ⟨rfl, rfl⟩
    go_wp2_with fail
    go_ret2
    exact ⟨rfl, by (repeat' (first | (with_reducible exact Below.refl _ _) | (with_reducible assumption) | (with_reducible refine Below.alloc ?_ ?_ _) | (with_reducible refine Below.drew ?_) | (with_reducible refine below_drewN ?_ _) | (with_reducible refine Below.setCell ?_ ?_ _) | (with_reducible refine Below.trans ?_ (Below.mono (by with_reducible assumption) ?_)) | (with_reducible exact Below.size (by with_reducible assumption)) | go_size))⟩
  rw [decide_eq_true h3] at hmany
  have HH := Lib.hid hmany
  have HO := Lib.hid (byOut_ok hM hin h3)
  have HD := Lib.hid (fun v w hv => partDet v M r c w hv f2 hma (cnt_of f2 hr hc h3))
  have HI := Lib.hid (partL_I64 hma r c)
  have h1' := h1
  obtain ⟨a1, c1, rfl, _, _, hx⟩ := h1
  obtain ⟨b, off, rfl⟩ : ∃ b off, a1 = some ⟨b, off, none⟩ := by
    rcases hx with hx | ⟨b, off, rfl, _⟩
    · rw [hx] at f1; simp at f1
    · exact ⟨b, off, rfl⟩
  have HP := Lib.hid (callsIn_wide.1 (partOf_ok b off c1 M r c w h1' f2 f3 hr.1 hr.2 hc.1 hc.2))
  obtain ⟨D, hD⟩ : ∃ D, D = dt (memTo M.length r M.length).length (ent (partL M r c)) := ⟨_, rfl⟩
  rw [← hD] at HD HO
  clear hM hr hc f3 f4 hma hp hin h3 hmany h1' hx hD
  rw [HO.out]
  go_enter Try.func50, Try.ntmps50
  go_wp2_with fail
  refine HS.out.mono ?_; rintro e w1 ⟨rfl, rfl⟩
  go_wp2_with fail
  refine (HR.out _).mono ?_; rintro e w2 ⟨rfl, rfl⟩
  go_wp2_with fail
  refine (HC.out _).mono ?_; rintro e w3 ⟨rfl, rfl⟩
  go_wp2_with fail
  refine (HH.out _).mono ?_; rintro e w4 ⟨rfl, rfl⟩
  go_wp2_with fail
  refine HP.out.mono ?_; rintro e w5 ⟨v, us, rfl, ho, hb5⟩
  have HV := Lib.hid (HD.out _ _ (ho.rows.rows' HI.out))
  clear ho
  go_wp2_with fail
  refine HV.out.mono ?_; rintro e w6 ⟨rfl, hb6⟩
  go_wp2_with fail
  go_ret2
  exact ⟨rfl, hb5.trans (hb6.mono hb5.size)⟩

set_option maxHeartbeats 4000000 in
theorem specMinorBy_any (m : Value) (M : List (List Int)) (r c : Int) (w : World) (h1 : PM.Rows w m M) : Calls Try.prog 48 #[m, .int .i64 r, .int .i64 c] w (OutN w (byOut M r c)) := by
  have g1 := fun (w' : World) (h : Below w.heap.size w w') => h1.below h
  obtain ⟨a1, c1, rfl, _⟩ := h1
  cases hM : matB M
  · rw [byOut_e1 hM]
    have HS := Lib.hid (fun q w h1 => l03SetE_any (.slice a1 M.length c1) q M w h1 hM)
    clear hM
    go_enter Try.func48, Try.ntmps48
    go_wp2_with fail
    refine (HS.out _ _ (g1 _ (by (repeat' (first | (with_reducible exact Below.refl _ _) | (with_reducible assumption) | (with_reducible refine Below.alloc ?_ ?_ _) | (with_reducible refine Below.drew ?_) | (with_reducible refine below_drewN ?_ _) | (with_reducible refine Below.setCell ?_ ?_ _) | (with_reducible refine Below.trans ?_ (Below.mono (by with_reducible assumption) ?_)) | (with_reducible exact Below.size (by with_reducible assumption)) | go_size))))).mono ?_; rintro e w1 ⟨rfl, rfl⟩
    go_wp2_with fail
    go_ret2
    exact ⟨rfl, by (repeat' (first | (with_reducible exact Below.refl _ _) | (with_reducible assumption) | (with_reducible refine Below.alloc ?_ ?_ _) | (with_reducible refine Below.drew ?_) | (with_reducible refine below_drewN ?_ _) | (with_reducible refine Below.setCell ?_ ?_ _) | (with_reducible refine Below.trans ?_ (Below.mono (by with_reducible assumption) ?_)) | (with_reducible exact Below.size (by with_reducible assumption)) | go_size))⟩
  obtain ⟨f1, f2, f3, f4⟩ := matB_facts hM
  have hma := matB_all hM
  have hp := pow_le32 f2
  cases hin : inAll M.length [r, c]
  · have HO := Lib.hid (byOut_e2 hM hin)
    have hs := fun (g : Nat) w h1 hc => l03Set_any (.slice a1 M.length c1) M [r, c] g w h1 (by simp) hM hc
    rw [hin] at hs
    have HS := Lib.hid hs
    clear hM hin f3 f4 hma hp hs
    rw [HO.out]
    go_enter Try.func48, Try.ntmps48
    go_wp2_with fail
    refine (HS.out _ _ (g1 _ (by (repeat' (first | (with_reducible exact Below.refl _ _) | (with_reducible assumption) | (with_reducible refine Below.alloc ?_ ?_ _) | (with_reducible refine Below.drew ?_) | (with_reducible refine below_drewN ?_ _) | (with_reducible refine Below.setCell ?_ ?_ _) | (with_reducible refine Below.trans ?_ (Below.mono (by with_reducible assumption) ?_)) | (with_reducible exact Below.size (by with_reducible assumption)) | go_size)))) (cells_two _ _ _ _)).mono ?_; rintro e w1 ⟨rfl, rfl⟩
    go_wp2_with fail
    go_ret2
    exact ⟨rfl, by (repeat' (first | (with_reducible exact Below.refl _ _) | (with_reducible assumption) | (with_reducible refine Below.alloc ?_ ?_ _) | (with_reducible refine Below.drew ?_) | (with_reducible refine below_drewN ?_ _) | (with_reducible refine Below.setCell ?_ ?_ _) | (with_reducible refine Below.trans ?_ (Below.mono (by with_reducible assumption) ?_)) | (with_reducible exact Below.size (by with_reducible assumption)) | go_size))⟩
  have hs := fun (g : Nat) w h1 hc => l03Set_any (.slice a1 M.length c1) M [r, c] g w h1 (by simp) hM hc
  rw [hin] at hs
  have HS := Lib.hid hs
  obtain ⟨hr, hc⟩ := inAll_two.1 hin
  have HR := Lib.hid (fun w => l01Ones_any r hr.1 (by omega) w)
  have HC := Lib.hid (fun w => l01Ones_any c hc.1 (by omega) w)
  by_cases h3 : onesTo r 5 = onesTo c 5
  case neg =>
    have HO := Lib.hid (byOut_e3 hM hin h3)
    clear hM hr hc f3 f4 hma hp hin hs
    rw [HO.out]
    generalize onesTo r 5 = x at *
    generalize onesTo c 5 = y at *
    go_enter Try.func48, Try.ntmps48
    go_wp2_with fail
    refine (HS.out _ _ (g1 _ (by (repeat' (first | (with_reducible exact Below.refl _ _) | (with_reducible assumption) | (with_reducible refine Below.alloc ?_ ?_ _) | (with_reducible refine Below.drew ?_) | (with_reducible refine below_drewN ?_ _) | (with_reducible refine Below.setCell ?_ ?_ _) | (with_reducible refine Below.trans ?_ (Below.mono (by with_reducible assumption) ?_)) | (with_reducible exact Below.size (by with_reducible assumption)) | go_size)))) (cells_two _ _ _ _)).mono ?_; rintro e w1 ⟨rfl, rfl⟩
    go_wp2_with fail
    refine (HR.out _).mono ?_; rintro e w2 ⟨rfl, rfl⟩
    go_wp2_with fail
    refine (HC.out _).mono ?_; rintro e w3 ⟨rfl, rfl⟩
    go_wp2_with fail
    go_ret2
    exact ⟨rfl, by (repeat' (first | (with_reducible exact Below.refl _ _) | (with_reducible assumption) | (with_reducible refine Below.alloc ?_ ?_ _) | (with_reducible refine Below.drew ?_) | (with_reducible refine below_drewN ?_ _) | (with_reducible refine Below.setCell ?_ ?_ _) | (with_reducible refine Below.trans ?_ (Below.mono (by with_reducible assumption) ?_)) | (with_reducible exact Below.size (by with_reducible assumption)) | go_size))⟩
  have HO := Lib.hid (byOut_ok hM hin h3)
  have HB := Lib.hid (fun m w h1 => l03By_any m M r c w h1 f1 f2 f3 hma hr.1 (by omega) hc.1 (by omega) (cnt_of f2 hr hc h3))
  obtain ⟨D, hD⟩ : ∃ D, D = dt (memTo M.length r M.length).length (ent (partL M r c)) := ⟨_, rfl⟩
  rw [← hD] at HB HO
  clear hM hr hc f3 f4 hma hp hin hs hD
  rw [HO.out]
  rw [h3] at HR
  clear h3
  generalize onesTo c 5 = y at *
  go_enter Try.func48, Try.ntmps48
  go_wp2_with fail
  refine (HS.out _ _ (g1 _ (by (repeat' (first | (with_reducible exact Below.refl _ _) | (with_reducible assumption) | (with_reducible refine Below.alloc ?_ ?_ _) | (with_reducible refine Below.drew ?_) | (with_reducible refine below_drewN ?_ _) | (with_reducible refine Below.setCell ?_ ?_ _) | (with_reducible refine Below.trans ?_ (Below.mono (by with_reducible assumption) ?_)) | (with_reducible exact Below.size (by with_reducible assumption)) | go_size)))) (cells_two _ _ _ _)).mono ?_; rintro e w1 ⟨rfl, rfl⟩
  go_wp2_with fail
  refine (HR.out _).mono ?_; rintro e w2 ⟨rfl, rfl⟩
  go_wp2_with fail
  refine (HC.out _).mono ?_; rintro e w3 ⟨rfl, rfl⟩
  go_wp2_with fail
  refine (HB.out _ _ (g1 _ (by (repeat' (first | (with_reducible exact Below.refl _ _) | (with_reducible assumption) | (with_reducible refine Below.alloc ?_ ?_ _) | (with_reducible refine Below.drew ?_) | (with_reducible refine below_drewN ?_ _) | (with_reducible refine Below.setCell ?_ ?_ _) | (with_reducible refine Below.trans ?_ (Below.mono (by with_reducible assumption) ?_)) | (with_reducible exact Below.size (by with_reducible assumption)) | go_size))))).mono ?_; rintro e w4 ⟨rfl, hb4⟩
  go_wp2_with fail
  go_ret2
  exact ⟨rfl, by (repeat' (first | (with_reducible exact Below.refl _ _) | (with_reducible assumption) | (with_reducible refine Below.alloc ?_ ?_ _) | (with_reducible refine Below.drew ?_) | (with_reducible refine below_drewN ?_ _) | (with_reducible refine Below.setCell ?_ ?_ _) | (with_reducible refine Below.trans ?_ (Below.mono (by with_reducible assumption) ?_)) | (with_reducible exact Below.size (by with_reducible assumption)) | go_size))⟩
set_option maxHeartbeats 4000000 in
theorem law_FnExactMinorBy (m : Value) (M : List (List Int)) (r c : Int) (w : World) (h1 : PM.Rows w m M) :
    Calls Try.prog 12 #[m, .int .i64 r, .int .i64 c] w fun e w' => e = .returned (.bool true) ∧ Below w.heap.size w w' := by
  have g1 := fun (w' : World) (h : Below w.heap.size w w') => h1.below h
  have I1 := Lib.hid (rows_I64 h1)
  obtain ⟨a1, c1, rfl, _⟩ := h1
  by_cases hz : szR M 1048576 < 0
  · have e1 := szR_neg hz
    have E1 := Lib.hid e1
    clear hz e1
    go_enter Try.func12, Try.ntmps12
    go_wp2_with fail
    refine (szInt64SS_any _ M _ _ (g1 _ (by (repeat' (first | (with_reducible exact Below.refl _ _) | (with_reducible assumption) | (with_reducible refine Below.alloc ?_ ?_ _) | (with_reducible refine Below.drew ?_) | (with_reducible refine below_drewN ?_ _) | (with_reducible refine Below.setCell ?_ ?_ _) | (with_reducible refine Below.trans ?_ (Below.mono (by with_reducible assumption) ?_)) | (with_reducible exact Below.size (by with_reducible assumption)) | go_size)))) (by omega) (by omega)).mono ?_; rw [E1.out]; rintro e w1 ⟨rfl, rfl⟩
    go_wp2_with fail
    go_ret
    exact ⟨rfl, by (repeat' (first | (with_reducible exact Below.refl _ _) | (with_reducible assumption) | (with_reducible refine Below.alloc ?_ ?_ _) | (with_reducible refine Below.drew ?_) | (with_reducible refine below_drewN ?_ _) | (with_reducible refine Below.setCell ?_ ?_ _) | (with_reducible refine Below.trans ?_ (Below.mono (by with_reducible assumption) ?_)) | (with_reducible exact Below.size (by with_reducible assumption)) | go_size))⟩
  have hle := szR_le M
  have HN1 := Lib.hid (szR_fits hz)
  have hspec := fun (m : Value) (w : World) (h1 : PM.Rows w m M) => specMinorBy_any m M r c w h1
  have himpl := fun (m : Value) (w : World) (h1 : PM.Rows w m M) => implMinorBy_any m M r c w h1
  generalize byOut M r c = o at *
  obtain ⟨O, code⟩ := o
  have HS := Lib.hid hspec
  have HI := Lib.hid himpl
  clear hspec himpl
  go_enter Try.func12, Try.ntmps12
  go_wp2_with fail
  refine (szInt64SS_any _ M _ _ (g1 _ (by (repeat' (first | (with_reducible exact Below.refl _ _) | (with_reducible assumption) | (with_reducible refine Below.alloc ?_ ?_ _) | (with_reducible refine Below.drew ?_) | (with_reducible refine below_drewN ?_ _) | (with_reducible refine Below.setCell ?_ ?_ _) | (with_reducible refine Below.trans ?_ (Below.mono (by with_reducible assumption) ?_)) | (with_reducible exact Below.size (by with_reducible assumption)) | go_size)))) (by omega) (by omega)).mono ?_; rintro e w1 ⟨rfl, rfl⟩
  generalize szR M 1048576 = left at *
  go_wp2_with fail
  refine (toRows_out _ M _ (g1 _ (by (repeat' (first | (with_reducible exact Below.refl _ _) | (with_reducible assumption) | (with_reducible refine Below.alloc ?_ ?_ _) | (with_reducible refine Below.drew ?_) | (with_reducible refine below_drewN ?_ _) | (with_reducible refine Below.setCell ?_ ?_ _) | (with_reducible refine Below.trans ?_ (Below.mono (by with_reducible assumption) ?_)) | (with_reducible exact Below.size (by with_reducible assumption)) | go_size)))) HN1.out).mono ?_; rintro e w2 ⟨gA, rfl, hr2, hb2⟩
  have R2 := Lib.hid (hr2.rows I1.out)
  clear hr2

  go_wp2_with fail
  refine (HS.out _ _ R2.out).mono ?_; rintro e w3 ⟨rfl, hb3⟩; dsimp only
  have hw3 : Below w.heap.size w w3 := hb2.trans (hb3.mono hb2.size)
  clear R2 HS
  go_wp2_with fail
  refine (toRows_out _ M _ (g1 _ hw3) HN1.out).mono ?_; rintro e w4 ⟨gC, rfl, hr4, hb4⟩
  have R4 := Lib.hid (hr4.rows I1.out)
  have hw4 : Below w.heap.size w w4 := hw3.trans (hb4.mono hw3.size)
  clear hr4
  go_wp2_with fail
  refine (HI.out _ _ R4.out).mono ?_; rintro e w5 ⟨rfl, hb5⟩; dsimp only
  have R5 := Lib.hid (R4.out.below hb5)
  have hw5 : Below w.heap.size w w5 := hw4.trans (hb5.mono hw4.size)
  clear R4 HI
  go_wp2_with fail
  refine (toRows_out _ M _ (g1 _ hw5) HN1.out).mono ?_; rintro e w6 ⟨gE, rfl, hr6, hb6⟩
  have R6 := Lib.hid (hr6.rows I1.out)
  have hw6 : Below w.heap.size w w6 := hw5.trans (hb6.mono hw5.size)
  clear hr6
  go_wp2_with fail
  refine (eqInt64SS_same _ _ M _ (R5.out.below hb6) R6.out).mono ?_; rintro e w7 ⟨rfl, hb7⟩
  have hw7 : Below w.heap.size w w7 := hw6.trans (hb7.mono hw6.size)
  go_wp2_with fail
  go_ret
  exact ⟨rfl, hw7⟩
end Go.Proofs.Ytiojmfikokecbaa.PW
