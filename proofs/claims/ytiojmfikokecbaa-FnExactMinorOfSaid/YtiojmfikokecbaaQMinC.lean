/-
  The exact law of MinorOf: both sides' answers, and the law.
-/
import Derived.Test.YtiojmfikokecbaaQMinB
namespace Go.Proofs.Ytiojmfikokecbaa.PW
open Go.RowKit Go.Proofs.Ytiojmfikokecbaa
open Go.Proofs.Ytiojmfikokecbaa.PM Go.Proofs.Ytiojmfikokecbaa.PX

def minOut (M : List (List Int)) (s : Int) : Int × Int := byOut M s s

set_option maxHeartbeats 1000000 in
theorem implMinorOf_any (m : Value) (M : List (List Int)) (s : Int) (w : World) (h1 : PM.Rows w m M) : Calls Try.prog 52 #[m, .int .i64 s] w (OutN w (minOut M s)) := by
  have hb := implMinorBy_any m M s s w h1
  unfold minOut
  generalize byOut M s s = o at *
  obtain ⟨D, c⟩ := o
  have HB := Lib.hid hb
  obtain ⟨a1, c1, rfl, _⟩ := h1
  clear hb
  go_enter Try.func52, Try.ntmps52
  go_wp2_with fail
  refine HB.out.mono ?_; rintro e w1 ⟨rfl, hb1⟩; dsimp only
  go_wp2_with fail
  go_ret2
  exact ⟨rfl, hb1⟩

set_option maxHeartbeats 1000000 in
theorem l03Minor_any (m : Value) (M : List (List Int)) (s : Int) (w : World) (h1 : PM.Rows w m M) (hM : matB M = true) (hs : 0 ≤ s ∧ s < (2 : Int) ^ M.length) :
    Calls Try.prog 94 #[m, .int .i64 s] w fun e w' => e = .returned (.int .i64 (dt (memTo M.length s M.length).length (ent (partL M s s)))) ∧ Below w.heap.size w w' := by
  obtain ⟨f1, f2, f3, f4⟩ := matB_facts hM
  have hma := matB_all hM
  have hp := pow_le32 f2
  have HP := Lib.hid (l01Part_any m M s w h1 f1 f2 f3 hma hs.1 (by omega))
  have HD := Lib.hid (fun s' v hr => partL_det (M := M) (rs := s) (cs := s) (s := s') (v := v) f2 rfl hma hr)
  have HI := Lib.hid (partL_I64 hma s s)
  have HL := Lib.hid (partL_length M s s)
  obtain ⟨D, hD⟩ : ∃ D, D = dt (memTo M.length s M.length).length (ent (partL M s s)) := ⟨_, rfl⟩
  rw [← hD] at HD ⊢
  obtain ⟨a1, c1, rfl, _⟩ := h1
  clear hM f1 f2 f3 f4 hma hp hD
  go_enter Try.func94, Try.ntmps94
  go_wp2_with fail
  refine HP.out.mono ?_; rintro e w1 ⟨g, cap, us, rfl, hf, hb1⟩
  have hd := HD.out _ _ (hf.own.rows' HI.out)
  have HDD := Lib.hid hd
  clear hf hd
  go_wp2_with fail
  refine HDD.out.mono ?_; rintro e w2 ⟨rfl, hb2⟩
  go_wp2_with fail
  go_ret
  exact ⟨rfl, hb1.trans (hb2.mono hb1.size)⟩

set_option maxHeartbeats 1000000 in
theorem specMinorOf_any (m : Value) (M : List (List Int)) (s : Int) (w : World) (h1 : PM.Rows w m M) : Calls Try.prog 51 #[m, .int .i64 s] w (OutN w (minOut M s)) := by
  unfold minOut
  have g1 := fun (w' : World) (h : Below w.heap.size w w') => h1.below h
  obtain ⟨a1, c1, rfl, _⟩ := h1
  cases hM : matB M
  · rw [byOut_e1 hM]
    have HS := Lib.hid (fun q w h1 => l03SetE_any (.slice a1 M.length c1) q M w h1 hM)
    clear hM
    go_enter Try.func51, Try.ntmps51
    go_wp2_with fail
    refine (HS.out _ _ (g1 _ (by (repeat' (first | (with_reducible exact Below.refl _ _) | (with_reducible assumption) | (with_reducible refine Below.alloc ?_ ?_ _) | (with_reducible refine Below.drew ?_) | (with_reducible refine below_drewN ?_ _) | (with_reducible refine Below.setCell ?_ ?_ _) | (with_reducible refine Below.trans ?_ (Below.mono (by with_reducible assumption) ?_)) | (with_reducible exact Below.size (by with_reducible assumption)) | go_size))))).mono ?_; rintro e w1 ⟨rfl, rfl⟩
    go_wp2_with fail
    go_ret2
    exact ⟨rfl, by (repeat' (first | (with_reducible exact Below.refl _ _) | (with_reducible assumption) | (with_reducible refine Below.alloc ?_ ?_ _) | (with_reducible refine Below.drew ?_) | (with_reducible refine below_drewN ?_ _) | (with_reducible refine Below.setCell ?_ ?_ _) | (with_reducible refine Below.trans ?_ (Below.mono (by with_reducible assumption) ?_)) | (with_reducible exact Below.size (by with_reducible assumption)) | go_size))⟩
  have hs := fun (g : Nat) w h1 hc => l03Set_any (.slice a1 M.length c1) M [s] g w h1 (by simp) hM hc
  rw [inAll_one] at hs
  cases hin : inAll M.length [s, s]
  · have HO := Lib.hid (byOut_e2 hM hin)
    rw [hin] at hs
    have HS := Lib.hid hs
    clear hM hin hs
    rw [HO.out]
    go_enter Try.func51, Try.ntmps51
    go_wp2_with fail
    refine (HS.out _ _ (g1 _ (by (repeat' (first | (with_reducible exact Below.refl _ _) | (with_reducible assumption) | (with_reducible refine Below.alloc ?_ ?_ _) | (with_reducible refine Below.drew ?_) | (with_reducible refine below_drewN ?_ _) | (with_reducible refine Below.setCell ?_ ?_ _) | (with_reducible refine Below.trans ?_ (Below.mono (by with_reducible assumption) ?_)) | (with_reducible exact Below.size (by with_reducible assumption)) | go_size)))) (cells_one _ _ _)).mono ?_; rintro e w1 ⟨rfl, rfl⟩
    go_wp2_with fail
    go_ret2
    exact ⟨rfl, by (repeat' (first | (with_reducible exact Below.refl _ _) | (with_reducible assumption) | (with_reducible refine Below.alloc ?_ ?_ _) | (with_reducible refine Below.drew ?_) | (with_reducible refine below_drewN ?_ _) | (with_reducible refine Below.setCell ?_ ?_ _) | (with_reducible refine Below.trans ?_ (Below.mono (by with_reducible assumption) ?_)) | (with_reducible exact Below.size (by with_reducible assumption)) | go_size))⟩
  rw [hin] at hs
  have HS := Lib.hid hs
  have HO := Lib.hid (byOut_ok hM hin rfl)
  have HB := Lib.hid (fun m w h1 => l03Minor_any m M s w h1 hM (inAll_two.1 hin).1)
  obtain ⟨D, hD⟩ : ∃ D, D = dt (memTo M.length s M.length).length (ent (partL M s s)) := ⟨_, rfl⟩
  rw [← hD] at HB HO
  clear hM hin hs hD
  rw [HO.out]
  go_enter Try.func51, Try.ntmps51
  go_wp2_with fail
  refine (HS.out _ _ (g1 _ (by (repeat' (first | (with_reducible exact Below.refl _ _) | (with_reducible assumption) | (with_reducible refine Below.alloc ?_ ?_ _) | (with_reducible refine Below.drew ?_) | (with_reducible refine below_drewN ?_ _) | (with_reducible refine Below.setCell ?_ ?_ _) | (with_reducible refine Below.trans ?_ (Below.mono (by with_reducible assumption) ?_)) | (with_reducible exact Below.size (by with_reducible assumption)) | go_size)))) (cells_one _ _ _)).mono ?_; rintro e w1 ⟨rfl, rfl⟩
  go_wp2_with fail
  refine (HB.out _ _ (g1 _ (by (repeat' (first | (with_reducible exact Below.refl _ _) | (with_reducible assumption) | (with_reducible refine Below.alloc ?_ ?_ _) | (with_reducible refine Below.drew ?_) | (with_reducible refine below_drewN ?_ _) | (with_reducible refine Below.setCell ?_ ?_ _) | (with_reducible refine Below.trans ?_ (Below.mono (by with_reducible assumption) ?_)) | (with_reducible exact Below.size (by with_reducible assumption)) | go_size))))).mono ?_; rintro e w4 ⟨rfl, hb4⟩
  go_wp2_with fail
  go_ret2
  exact ⟨rfl, by (repeat' (first | (with_reducible exact Below.refl _ _) | (with_reducible assumption) | (with_reducible refine Below.alloc ?_ ?_ _) | (with_reducible refine Below.drew ?_) | (with_reducible refine below_drewN ?_ _) | (with_reducible refine Below.setCell ?_ ?_ _) | (with_reducible refine Below.trans ?_ (Below.mono (by with_reducible assumption) ?_)) | (with_reducible exact Below.size (by with_reducible assumption)) | go_size))⟩
set_option maxHeartbeats 4000000 in
theorem law_FnExactMinorOf (m : Value) (M : List (List Int)) (s : Int) (w : World) (h1 : PM.Rows w m M) :
    Calls Try.prog 13 #[m, .int .i64 s] w fun e w' => e = .returned (.bool true) ∧ Below w.heap.size w w' := by
  have g1 := fun (w' : World) (h : Below w.heap.size w w') => h1.below h
  have I1 := Lib.hid (rows_I64 h1)
  obtain ⟨a1, c1, rfl, _⟩ := h1
  by_cases hz : szR M 1048576 < 0
  · have e1 := szR_neg hz
    have E1 := Lib.hid e1
    clear hz e1
    go_enter Try.func13, Try.ntmps13
    go_wp2_with fail
    refine (szInt64SS_any _ M _ _ (g1 _ (by (repeat' (first | (with_reducible exact Below.refl _ _) | (with_reducible assumption) | (with_reducible refine Below.alloc ?_ ?_ _) | (with_reducible refine Below.drew ?_) | (with_reducible refine below_drewN ?_ _) | (with_reducible refine Below.setCell ?_ ?_ _) | (with_reducible refine Below.trans ?_ (Below.mono (by with_reducible assumption) ?_)) | (with_reducible exact Below.size (by with_reducible assumption)) | go_size)))) (by omega) (by omega)).mono ?_; rw [E1.out]; rintro e w1 ⟨rfl, rfl⟩
    go_wp2_with fail
    go_ret
    exact ⟨rfl, by (repeat' (first | (with_reducible exact Below.refl _ _) | (with_reducible assumption) | (with_reducible refine Below.alloc ?_ ?_ _) | (with_reducible refine Below.drew ?_) | (with_reducible refine below_drewN ?_ _) | (with_reducible refine Below.setCell ?_ ?_ _) | (with_reducible refine Below.trans ?_ (Below.mono (by with_reducible assumption) ?_)) | (with_reducible exact Below.size (by with_reducible assumption)) | go_size))⟩
  have hle := szR_le M
  have HN1 := Lib.hid (szR_fits hz)
  have hspec := fun (m : Value) (w : World) (h1 : PM.Rows w m M) => specMinorOf_any m M s w h1
  have himpl := fun (m : Value) (w : World) (h1 : PM.Rows w m M) => implMinorOf_any m M s w h1
  generalize minOut M s = o at *
  obtain ⟨O, code⟩ := o
  have HS := Lib.hid hspec
  have HI := Lib.hid himpl
  clear hspec himpl
  go_enter Try.func13, Try.ntmps13
  go_wp2_with fail
  refine (szInt64SS_any _ M _ _ (g1 _ (by (repeat' (first | (with_reducible exact Below.refl _ _) | (with_reducible assumption) | (with_reducible refine Below.alloc ?_ ?_ _) | (with_reducible refine Below.drew ?_) | (with_reducible refine below_drewN ?_ _) | (with_reducible refine Below.setCell ?_ ?_ _) | (with_reducible refine Below.trans ?_ (Below.mono (by with_reducible assumption) ?_)) | (with_reducible exact Below.size (by with_reducible assumption)) | go_size)))) (by omega) (by omega)).mono ?_; rintro e w1 ⟨rfl, rfl⟩
  generalize szR M 1048576 = left at *
  go_wp2_with fail
  refine (toRows_out _ M _ (g1 _ (by (repeat' (first | (with_reducible exact Below.refl _ _) | (with_reducible assumption) | (with_reducible refine Below.alloc ?_ ?_ _) | (with_reducible refine Below.drew ?_) | (with_reducible refine below_drewN ?_ _) | (with_reducible refine Below.setCell ?_ ?_ _) | (with_reducible refine Below.trans ?_ (Below.mono (by with_reducible assumption) ?_)) | (with_reducible exact Below.size (by with_reducible assumption)) | go_size)))) HN1.out).mono ?_; rintro e w2 ⟨gA, rfl, hr2, hb2⟩
  have R2 := Lib.hid (hr2.rows I1.out)
  clear hr2

  go_wp2_with fail
  refine (HS.out _ _ R2.out).mono ?_; rintro e w3 ⟨rfl, hb3⟩; dsimp only
  have hw3 : Below w.heap.size w w3 := hb2.trans (hb3.mono hb2.size)
  clear R2 HS
  go_wp2_with fail
  refine (toRows_out _ M _ (g1 _ hw3) HN1.out).mono ?_; rintro e w4 ⟨gC, rfl, hr4, hb4⟩
  have R4 := Lib.hid (hr4.rows I1.out)
  have hw4 : Below w.heap.size w w4 := hw3.trans (hb4.mono hw3.size)
  clear hr4
  go_wp2_with fail
  refine (HI.out _ _ R4.out).mono ?_; rintro e w5 ⟨rfl, hb5⟩; dsimp only
  have R5 := Lib.hid (R4.out.below hb5)
  have hw5 : Below w.heap.size w w5 := hw4.trans (hb5.mono hw4.size)
  clear R4 HI
  go_wp2_with fail
  refine (toRows_out _ M _ (g1 _ hw5) HN1.out).mono ?_; rintro e w6 ⟨gE, rfl, hr6, hb6⟩
  have R6 := Lib.hid (hr6.rows I1.out)
  have hw6 : Below w.heap.size w w6 := hw5.trans (hb6.mono hw5.size)
  clear hr6
  go_wp2_with fail
  refine (eqInt64SS_same _ _ M _ (R5.out.below hb6) R6.out).mono ?_; rintro e w7 ⟨rfl, hb7⟩
  have hw7 : Below w.heap.size w w7 := hw6.trans (hb7.mono hw6.size)
  go_wp2_with fail
  go_ret
  exact ⟨rfl, hw7⟩
end Go.Proofs.Ytiojmfikokecbaa.PW
