/-
  The exact law of IsPlace: whatever the program and the fractions, the program answers as the model, and leaves them as they were.
-/
import Derived.Test.YtoglmkjmnknbbaaWPls
import Derived.Test.YtoglmkjmnknbbaaLKW
import Derived.Test.YtoglmkjmnknbbaaLKF
namespace Go.Proofs.Ytoglmkjmnknbbaa.PW
open Go.RowKit Go.Proofs.Ytoglmkjmnknbbaa
open Go.Proofs.Ytoglmkjmnknbbaa.PM
set_option maxHeartbeats 8000000 in
theorem law_FnExactIsPlace (v00 v01 v02 v03 : Value) (X00 : List (List Int)) (X01 : List Int) (X02 : List (List Int)) (X03 : List Int) (v10 : Value) (X10 : List (Int × Int)) (w : World) (h00 : PM.Rows w v00 X00) (h01 : Ints w v01 X01) (h02 : PM.Rows w v02 X02) (h03 : Ints w v03 X03) (h10 : Frs w v10 X10) :
    Calls Try.prog 14 #[.agg #[v00, v01, v02, v03], v10] w fun e w' => e = .returned (.bool true) ∧ Below w.heap.size w w' := by
  have g00 := fun (w' : World) (h : Below w.heap.size w w') => h00.below h
  have I00 := Lib.hid (rows_I64 h00)
  obtain ⟨a00, c00, rfl, _⟩ := h00
  have g01 := fun (w' : World) (h : Below w.heap.size w w') => h01.below h
  have I01 := Lib.hid (ints_I64 h01)
  obtain ⟨a01, c01, rfl, _⟩ := h01
  have g02 := fun (w' : World) (h : Below w.heap.size w w') => h02.below h
  have I02 := Lib.hid (rows_I64 h02)
  obtain ⟨a02, c02, rfl, _⟩ := h02
  have g03 := fun (w' : World) (h : Below w.heap.size w w') => h03.below h
  have I03 := Lib.hid (ints_I64 h03)
  obtain ⟨a03, c03, rfl, _⟩ := h03
  have g10 := fun (w' : World) (h : Below w.heap.size w w') => h10.below h
  have I10 := Lib.hid ((h10).i64)
  obtain ⟨a10, c10, rfl, _⟩ := h10
  by_cases hz0 : szI (szWn X00 X01 X02 X03) 1048576 < 0
  · have E1 := Lib.hid (szx_neg hz0)
    clear hz0
    go_enter Try.func14, Try.ntmps14
    have hwc : Below w.heap.size w w := Below.refl _ _
    go_wp2_with fail
    obtain ⟨W1, hW1⟩ : ∃ w', w' = (w.alloc (.cells #[.slice a00 (X00).length c00, .slice a01 (X01).length c01, .slice a02 (X02).length c02, .slice a03 (X03).length c03] 68)) := ⟨_, rfl⟩
    rw [← hW1]
    have hbx : Below w.heap.size w W1 := by rw [hW1]; exact ((Below.refl _ _).alloc (by simp) _)
    obtain ⟨P2, hP2⟩ : ∃ n, n = w.heap.size := ⟨_, rfl⟩
    have cP2_0 : W1.cell? ⟨P2, 0, none⟩ = some (.slice a00 (X00).length c00) := by rw [hW1, hP2]; simp [go_sem]
    have cP2_1 : W1.cell? ⟨P2, 1, none⟩ = some (.slice a01 (X01).length c01) := by rw [hW1, hP2]; simp [go_sem]
    have cP2_2 : W1.cell? ⟨P2, 2, none⟩ = some (.slice a02 (X02).length c02) := by rw [hW1, hP2]; simp [go_sem]
    have cP2_3 : W1.cell? ⟨P2, 3, none⟩ = some (.slice a03 (X03).length c03) := by rw [hW1, hP2]; simp [go_sem]
    have lP2 : P2 < W1.heap.size := by rw [hW1, hP2]; simp
    have CP2 := Lib.hid (show w.heap.size ≤ P2 from by rw [hP2]; exact hwc.size)
    rw [← hP2]
    clear hP2 hW1
    have hz := hbx.size
    replace hwc := hwc.trans (hbx.mono hwc.size)
    clear hbx hz
    obtain ⟨N3, hN3⟩ : ∃ n, n = W1.heap.size := ⟨_, rfl⟩
    have CN3 := Lib.hid (show P2 < N3 from by rw [hN3]; exact lP2)
    have top : N3 ≤ W1.heap.size := Nat.le_of_eq hN3
    clear hN3
    refine (szW_x _ _ _ _ X00 X01 X02 X03 _ _ (g00 _ hwc) (g01 _ hwc) (g02 _ hwc) (g03 _ hwc) (by omega) (by omega)).mono ?_; rw [E1.out]; rintro e W5 ⟨rfl, hb4⟩
    have hz := hb4.size
    replace hwc := hwc.trans (hb4.mono hwc.size)
    replace cP2_0 := (hb4.cell (p := ⟨P2, 0, none⟩) lP2).trans cP2_0
    replace cP2_1 := (hb4.cell (p := ⟨P2, 1, none⟩) lP2).trans cP2_1
    replace cP2_2 := (hb4.cell (p := ⟨P2, 2, none⟩) lP2).trans cP2_2
    replace cP2_3 := (hb4.cell (p := ⟨P2, 3, none⟩) lP2).trans cP2_3
    replace lP2 : P2 < W5.heap.size := Nat.lt_of_lt_of_le lP2 hz
    replace top := Nat.le_trans top hz
    clear hb4 hz
    go_wp2_with fail
    go_ret
    exact ⟨rfl, hwc⟩
  obtain ⟨hf0, hle0⟩ := szx_fits hz0
  have hn0 : (szWn X00 X01 X02 X03) ≤ 1048576 := by omega
  have HN0 := Lib.hid hn0
  clear hn0 hf0
  by_cases hz1 : szI (X10).length (szI (szWn X00 X01 X02 X03) 1048576) < 0
  · have E1 := Lib.hid (szx_neg hz1)
    clear hz1
    go_enter Try.func14, Try.ntmps14
    have hwc : Below w.heap.size w w := Below.refl _ _
    go_wp2_with fail
    obtain ⟨W6, hW6⟩ : ∃ w', w' = (w.alloc (.cells #[.slice a00 (X00).length c00, .slice a01 (X01).length c01, .slice a02 (X02).length c02, .slice a03 (X03).length c03] 68)) := ⟨_, rfl⟩
    rw [← hW6]
    have hbx : Below w.heap.size w W6 := by rw [hW6]; exact ((Below.refl _ _).alloc (by simp) _)
    obtain ⟨P7, hP7⟩ : ∃ n, n = w.heap.size := ⟨_, rfl⟩
    have cP7_0 : W6.cell? ⟨P7, 0, none⟩ = some (.slice a00 (X00).length c00) := by rw [hW6, hP7]; simp [go_sem]
    have cP7_1 : W6.cell? ⟨P7, 1, none⟩ = some (.slice a01 (X01).length c01) := by rw [hW6, hP7]; simp [go_sem]
    have cP7_2 : W6.cell? ⟨P7, 2, none⟩ = some (.slice a02 (X02).length c02) := by rw [hW6, hP7]; simp [go_sem]
    have cP7_3 : W6.cell? ⟨P7, 3, none⟩ = some (.slice a03 (X03).length c03) := by rw [hW6, hP7]; simp [go_sem]
    have lP7 : P7 < W6.heap.size := by rw [hW6, hP7]; simp
    have CP7 := Lib.hid (show w.heap.size ≤ P7 from by rw [hP7]; exact hwc.size)
    rw [← hP7]
    clear hP7 hW6
    have hz := hbx.size
    replace hwc := hwc.trans (hbx.mono hwc.size)
    clear hbx hz
    obtain ⟨N8, hN8⟩ : ∃ n, n = W6.heap.size := ⟨_, rfl⟩
    have CN8 := Lib.hid (show P7 < N8 from by rw [hN8]; exact lP7)
    have top : N8 ≤ W6.heap.size := Nat.le_of_eq hN8
    clear hN8
    refine (szW_x _ _ _ _ X00 X01 X02 X03 _ _ (g00 _ hwc) (g01 _ hwc) (g02 _ hwc) (g03 _ hwc) (by omega) (by omega)).mono ?_; rintro e W10 ⟨rfl, hb9⟩
    have hz := hb9.size
    replace hwc := hwc.trans (hb9.mono hwc.size)
    replace cP7_0 := (hb9.cell (p := ⟨P7, 0, none⟩) lP7).trans cP7_0
    replace cP7_1 := (hb9.cell (p := ⟨P7, 1, none⟩) lP7).trans cP7_1
    replace cP7_2 := (hb9.cell (p := ⟨P7, 2, none⟩) lP7).trans cP7_2
    replace cP7_3 := (hb9.cell (p := ⟨P7, 3, none⟩) lP7).trans cP7_3
    replace lP7 : P7 < W10.heap.size := Nat.lt_of_lt_of_le lP7 hz
    replace top := Nat.le_trans top hz
    clear hb9 hz
    generalize szI (szWn X00 X01 X02 X03) 1048576 = lf11 at *
    go_wp2_with fail
    refine (szF_x _ X10 _ _ (g10 _ hwc) (by omega) (by omega)).mono ?_; rw [E1.out]; rintro e W13 ⟨rfl, hb12⟩
    have hz := hb12.size
    replace hwc := hwc.trans (hb12.mono hwc.size)
    replace cP7_0 := (hb12.cell (p := ⟨P7, 0, none⟩) lP7).trans cP7_0
    replace cP7_1 := (hb12.cell (p := ⟨P7, 1, none⟩) lP7).trans cP7_1
    replace cP7_2 := (hb12.cell (p := ⟨P7, 2, none⟩) lP7).trans cP7_2
    replace cP7_3 := (hb12.cell (p := ⟨P7, 3, none⟩) lP7).trans cP7_3
    replace lP7 : P7 < W13.heap.size := Nat.lt_of_lt_of_le lP7 hz
    replace top := Nat.le_trans top hz
    clear hb12 hz
    go_wp2_with fail
    go_ret
    exact ⟨rfl, hwc⟩
  obtain ⟨hf1, hle1⟩ := szx_fits hz1
  have hn1 : (X10).length ≤ 1048576 := by omega
  have HN1 := Lib.hid hn1
  clear hn1 hf1
  have hspec := fun (v00 v01 v02 v03 v10 : Value) (w : World) (h0 : PM.Rows w v00 X00) (h1 : Ints w v01 X01) (h2 : PM.Rows w v02 X02) (h3 : Ints w v03 X03) (h4 : Frs w v10 X10) => specIsPlace_any v00 v01 v02 v03 v10 X00 X01 X02 X03 X10  w h0 h1 h2 h3 h4 HN0.out
  have himpl := fun (v00 v01 v02 v03 v10 : Value) (w : World) (h0 : PM.Rows w v00 X00) (h1 : Ints w v01 X01) (h2 : PM.Rows w v02 X02) (h3 : Ints w v03 X03) (h4 : Frs w v10 X10) => implIsPlace_any v00 v01 v02 v03 v10 X00 X01 X02 X03 X10  w h0 h1 h2 h3 h4 HN0.out
  generalize ipOut X00 X01 X02 X03 X10  = o at *
  obtain ⟨o0, o1⟩ := o
  have HS := Lib.hid hspec
  have HI := Lib.hid himpl
  clear hspec himpl
  go_enter Try.func14, Try.ntmps14
  have hwc : Below w.heap.size w w := Below.refl _ _
  go_wp2_with fail
  obtain ⟨W14, hW14⟩ : ∃ w', w' = (w.alloc (.cells #[.slice a00 (X00).length c00, .slice a01 (X01).length c01, .slice a02 (X02).length c02, .slice a03 (X03).length c03] 68)) := ⟨_, rfl⟩
  rw [← hW14]
  have hbx : Below w.heap.size w W14 := by rw [hW14]; exact ((Below.refl _ _).alloc (by simp) _)
  obtain ⟨P15, hP15⟩ : ∃ n, n = w.heap.size := ⟨_, rfl⟩
  have cP15_0 : W14.cell? ⟨P15, 0, none⟩ = some (.slice a00 (X00).length c00) := by rw [hW14, hP15]; simp [go_sem]
  have cP15_1 : W14.cell? ⟨P15, 1, none⟩ = some (.slice a01 (X01).length c01) := by rw [hW14, hP15]; simp [go_sem]
  have cP15_2 : W14.cell? ⟨P15, 2, none⟩ = some (.slice a02 (X02).length c02) := by rw [hW14, hP15]; simp [go_sem]
  have cP15_3 : W14.cell? ⟨P15, 3, none⟩ = some (.slice a03 (X03).length c03) := by rw [hW14, hP15]; simp [go_sem]
  have lP15 : P15 < W14.heap.size := by rw [hW14, hP15]; simp
  have CP15 := Lib.hid (show w.heap.size ≤ P15 from by rw [hP15]; exact hwc.size)
  rw [← hP15]
  clear hP15 hW14
  have hz := hbx.size
  replace hwc := hwc.trans (hbx.mono hwc.size)
  clear hbx hz
  obtain ⟨N16, hN16⟩ : ∃ n, n = W14.heap.size := ⟨_, rfl⟩
  have CN16 := Lib.hid (show P15 < N16 from by rw [hN16]; exact lP15)
  have top : N16 ≤ W14.heap.size := Nat.le_of_eq hN16
  clear hN16
  refine (szW_x _ _ _ _ X00 X01 X02 X03 _ _ (g00 _ hwc) (g01 _ hwc) (g02 _ hwc) (g03 _ hwc) (by omega) (by omega)).mono ?_; rintro e W18 ⟨rfl, hb17⟩
  have hz := hb17.size
  replace hwc := hwc.trans (hb17.mono hwc.size)
  replace cP15_0 := (hb17.cell (p := ⟨P15, 0, none⟩) lP15).trans cP15_0
  replace cP15_1 := (hb17.cell (p := ⟨P15, 1, none⟩) lP15).trans cP15_1
  replace cP15_2 := (hb17.cell (p := ⟨P15, 2, none⟩) lP15).trans cP15_2
  replace cP15_3 := (hb17.cell (p := ⟨P15, 3, none⟩) lP15).trans cP15_3
  replace lP15 : P15 < W18.heap.size := Nat.lt_of_lt_of_le lP15 hz
  replace top := Nat.le_trans top hz
  clear hb17 hz
  generalize szI (szWn X00 X01 X02 X03) 1048576 = lf19 at *
  go_wp2_with fail
  refine (szF_x _ X10 _ _ (g10 _ hwc) (by omega) (by omega)).mono ?_; rintro e W21 ⟨rfl, hb20⟩
  have hz := hb20.size
  replace hwc := hwc.trans (hb20.mono hwc.size)
  replace cP15_0 := (hb20.cell (p := ⟨P15, 0, none⟩) lP15).trans cP15_0
  replace cP15_1 := (hb20.cell (p := ⟨P15, 1, none⟩) lP15).trans cP15_1
  replace cP15_2 := (hb20.cell (p := ⟨P15, 2, none⟩) lP15).trans cP15_2
  replace cP15_3 := (hb20.cell (p := ⟨P15, 3, none⟩) lP15).trans cP15_3
  replace lP15 : P15 < W21.heap.size := Nat.lt_of_lt_of_le lP15 hz
  replace top := Nat.le_trans top hz
  clear hb20 hz
  generalize szI (X10).length lf19 = lf22 at *
  go_wp2_with fail
  clear hz0 hle0 hz1 hle1
  refine (toW_x _ _ _ _ X00 X01 X02 X03 _ (g00 _ hwc) (g01 _ hwc) (g02 _ hwc) (g03 _ hwc) HN0.out).mono ?_; rintro e W24 ⟨p25, q26, p27, q28, p29, q30, p31, q32, rfl, hr, hb23⟩
  have hrr := RngWx.reads hr I00.out I01.out I02.out I03.out
  have RD33 := Lib.hid (hrr.1)
  have RD34 := Lib.hid (hrr.2.1)
  have RD35 := Lib.hid (hrr.2.2.1)
  have RD36 := Lib.hid (hrr.2.2.2)
  clear hrr
  clear hr
  have hz := hb23.size
  replace hwc := hwc.trans (hb23.mono hwc.size)
  replace cP15_0 := (hb23.cell (p := ⟨P15, 0, none⟩) lP15).trans cP15_0
  replace cP15_1 := (hb23.cell (p := ⟨P15, 1, none⟩) lP15).trans cP15_1
  replace cP15_2 := (hb23.cell (p := ⟨P15, 2, none⟩) lP15).trans cP15_2
  replace cP15_3 := (hb23.cell (p := ⟨P15, 3, none⟩) lP15).trans cP15_3
  replace lP15 : P15 < W24.heap.size := Nat.lt_of_lt_of_le lP15 hz
  replace top := Nat.le_trans top hz
  clear hb23 hz
  go_wp2_with fail
  refine (toF_x _ X10 _ (g10 _ hwc) HN1.out).mono ?_; rintro e W38 ⟨p39, q40, rfl, hr, hb37⟩
  have RD41 := Lib.hid (RngFx.reads hr I10.out)
  clear hr
  have hz := hb37.size
  replace hwc := hwc.trans (hb37.mono hwc.size)
  replace cP15_0 := (hb37.cell (p := ⟨P15, 0, none⟩) lP15).trans cP15_0
  replace cP15_1 := (hb37.cell (p := ⟨P15, 1, none⟩) lP15).trans cP15_1
  replace cP15_2 := (hb37.cell (p := ⟨P15, 2, none⟩) lP15).trans cP15_2
  replace cP15_3 := (hb37.cell (p := ⟨P15, 3, none⟩) lP15).trans cP15_3
  replace lP15 : P15 < W38.heap.size := Nat.lt_of_lt_of_le lP15 hz
  replace RD33 := Lib.hid (RD33.out.below hb37)
  replace RD34 := Lib.hid (RD34.out.below hb37)
  replace RD35 := Lib.hid (RD35.out.below hb37)
  replace RD36 := Lib.hid (RD36.out.below hb37)
  replace top := Nat.le_trans top hz
  clear hb37 hz
  go_wp2_with fail
  refine (HS.out _ _ _ _ _ _ RD33.out RD34.out RD35.out RD36.out RD41.out).mono ?_; rintro e W42 ⟨rfl, hb43⟩; dsimp only
  have hz := hb43.size
  replace hwc := hwc.trans (hb43.mono hwc.size)
  replace cP15_0 := (hb43.cell (p := ⟨P15, 0, none⟩) lP15).trans cP15_0
  replace cP15_1 := (hb43.cell (p := ⟨P15, 1, none⟩) lP15).trans cP15_1
  replace cP15_2 := (hb43.cell (p := ⟨P15, 2, none⟩) lP15).trans cP15_2
  replace cP15_3 := (hb43.cell (p := ⟨P15, 3, none⟩) lP15).trans cP15_3
  replace lP15 : P15 < W42.heap.size := Nat.lt_of_lt_of_le lP15 hz
  replace RD33 := Lib.hid (RD33.out.below hb43)
  replace RD34 := Lib.hid (RD34.out.below hb43)
  replace RD35 := Lib.hid (RD35.out.below hb43)
  replace RD36 := Lib.hid (RD36.out.below hb43)
  replace RD41 := Lib.hid (RD41.out.below hb43)
  replace top := Nat.le_trans top hz
  clear hb43 hz
  clear RD33 RD34 RD35 RD36 RD41
  go_wp2_with fail
  obtain ⟨N44, hN44⟩ : ∃ N44, N44 = W42.heap.size := ⟨_, rfl⟩
  have CN44 := Lib.hid (show N16 ≤ N44 from by rw [hN44]; exact top)
  have top' : N44 ≤ W42.heap.size := Nat.le_of_eq hN44
  clear top
  have top := top'
  clear top'
  refine (toW_x _ _ _ _ X00 X01 X02 X03 _ (g00 _ hwc) (g01 _ hwc) (g02 _ hwc) (g03 _ hwc) HN0.out).mono ?_; rintro e W46 ⟨p47, q48, p49, q50, p51, q52, p53, q54, rfl, hr, hb45⟩
  rw [← hN44] at hr
  clear hN44
  have hz := hb45.size
  replace hwc := hwc.trans (hb45.mono hwc.size)
  replace cP15_0 := (hb45.cell (p := ⟨P15, 0, none⟩) lP15).trans cP15_0
  replace cP15_1 := (hb45.cell (p := ⟨P15, 1, none⟩) lP15).trans cP15_1
  replace cP15_2 := (hb45.cell (p := ⟨P15, 2, none⟩) lP15).trans cP15_2
  replace cP15_3 := (hb45.cell (p := ⟨P15, 3, none⟩) lP15).trans cP15_3
  replace lP15 : P15 < W46.heap.size := Nat.lt_of_lt_of_le lP15 hz
  replace top := Nat.le_trans top hz
  clear hb45 hz
  obtain ⟨N55, hN55⟩ : ∃ N55, N55 = W46.heap.size := ⟨_, rfl⟩
  have CN55 := Lib.hid (show N44 ≤ N55 from by rw [hN55]; exact top)
  have top' : N55 ≤ W46.heap.size := Nat.le_of_eq hN55
  clear top
  have top := top'
  clear top'
  rw [← hN55] at hr
  clear hN55
  have HX56 := Lib.hid hr
  clear hr
  go_wp2_with fail
  obtain ⟨W57, hW57⟩ : ∃ w', w' = (W46.alloc (.cells #[.slice p47 (X00).length q48, .slice p49 (X01).length q50, .slice p51 (X02).length q52, .slice p53 (X03).length q54] 71)) := ⟨_, rfl⟩
  rw [← hW57]
  have hbx : Below W46.heap.size W46 W57 := by rw [hW57]; exact ((Below.refl _ _).alloc (by simp) _)
  obtain ⟨P58, hP58⟩ : ∃ n, n = W46.heap.size := ⟨_, rfl⟩
  have cP58_0 : W57.cell? ⟨P58, 0, none⟩ = some (.slice p47 (X00).length q48) := by rw [hW57, hP58]; simp [go_sem]
  have cP58_1 : W57.cell? ⟨P58, 1, none⟩ = some (.slice p49 (X01).length q50) := by rw [hW57, hP58]; simp [go_sem]
  have cP58_2 : W57.cell? ⟨P58, 2, none⟩ = some (.slice p51 (X02).length q52) := by rw [hW57, hP58]; simp [go_sem]
  have cP58_3 : W57.cell? ⟨P58, 3, none⟩ = some (.slice p53 (X03).length q54) := by rw [hW57, hP58]; simp [go_sem]
  have lP58 : P58 < W57.heap.size := by rw [hW57, hP58]; simp
  have CP58 := Lib.hid (show N55 ≤ P58 from by rw [hP58]; exact top)
  rw [← hP58]
  clear hP58 hW57
  have hz := hbx.size
  replace hwc := hwc.trans (hbx.mono hwc.size)
  replace cP15_0 := (hbx.cell (p := ⟨P15, 0, none⟩) lP15).trans cP15_0
  replace cP15_1 := (hbx.cell (p := ⟨P15, 1, none⟩) lP15).trans cP15_1
  replace cP15_2 := (hbx.cell (p := ⟨P15, 2, none⟩) lP15).trans cP15_2
  replace cP15_3 := (hbx.cell (p := ⟨P15, 3, none⟩) lP15).trans cP15_3
  replace lP15 : P15 < W57.heap.size := Nat.lt_of_lt_of_le lP15 hz
  replace HX56 := Lib.hid (HX56.out.below hbx (show N55 ≤ W46.heap.size from (by have := CP15.out; have := CN16.out; have := CN44.out; have := CN55.out; have := CP58.out; omega)))
  replace top := Nat.le_trans top hz
  clear hbx hz
  clear top
  obtain ⟨N59, hN59⟩ : ∃ n, n = W57.heap.size := ⟨_, rfl⟩
  have CN59 := Lib.hid (show P58 < N59 from by rw [hN59]; exact lP58)
  have top : N59 ≤ W57.heap.size := Nat.le_of_eq hN59
  clear hN59
  obtain ⟨N60, hN60⟩ : ∃ N60, N60 = W57.heap.size := ⟨_, rfl⟩
  have CN60 := Lib.hid (show N59 ≤ N60 from by rw [hN60]; exact top)
  have top' : N60 ≤ W57.heap.size := Nat.le_of_eq hN60
  clear top
  have top := top'
  clear top'
  refine (toF_x _ X10 _ (g10 _ hwc) HN1.out).mono ?_; rintro e W62 ⟨p63, q64, rfl, hr, hb61⟩
  rw [← hN60] at hr
  clear hN60
  have hz := hb61.size
  replace hwc := hwc.trans (hb61.mono hwc.size)
  replace cP15_0 := (hb61.cell (p := ⟨P15, 0, none⟩) lP15).trans cP15_0
  replace cP15_1 := (hb61.cell (p := ⟨P15, 1, none⟩) lP15).trans cP15_1
  replace cP15_2 := (hb61.cell (p := ⟨P15, 2, none⟩) lP15).trans cP15_2
  replace cP15_3 := (hb61.cell (p := ⟨P15, 3, none⟩) lP15).trans cP15_3
  replace lP15 : P15 < W62.heap.size := Nat.lt_of_lt_of_le lP15 hz
  replace cP58_0 := (hb61.cell (p := ⟨P58, 0, none⟩) lP58).trans cP58_0
  replace cP58_1 := (hb61.cell (p := ⟨P58, 1, none⟩) lP58).trans cP58_1
  replace cP58_2 := (hb61.cell (p := ⟨P58, 2, none⟩) lP58).trans cP58_2
  replace cP58_3 := (hb61.cell (p := ⟨P58, 3, none⟩) lP58).trans cP58_3
  replace lP58 : P58 < W62.heap.size := Nat.lt_of_lt_of_le lP58 hz
  replace HX56 := Lib.hid (HX56.out.below hb61 (show N55 ≤ W57.heap.size from (by have := CP15.out; have := CN16.out; have := CN44.out; have := CN55.out; have := CP58.out; have := CN59.out; have := CN60.out; omega)))
  replace top := Nat.le_trans top hz
  clear hb61 hz
  obtain ⟨N65, hN65⟩ : ∃ N65, N65 = W62.heap.size := ⟨_, rfl⟩
  have CN65 := Lib.hid (show N60 ≤ N65 from by rw [hN65]; exact top)
  have top' : N65 ≤ W62.heap.size := Nat.le_of_eq hN65
  clear top
  have top := top'
  clear top'
  rw [← hN65] at hr
  clear hN65
  have HX66 := Lib.hid hr
  clear hr
  have hrr := RngWx.reads HX56.out I00.out I01.out I02.out I03.out
  have RD67 := Lib.hid (hrr.1)
  have RD68 := Lib.hid (hrr.2.1)
  have RD69 := Lib.hid (hrr.2.2.1)
  have RD70 := Lib.hid (hrr.2.2.2)
  clear hrr
  have RD71 := Lib.hid (RngFx.reads HX66.out I10.out)
  go_wp2_with fail
  refine (HI.out _ _ _ _ _ _ RD67.out RD68.out RD69.out RD70.out RD71.out).mono ?_; rintro e W72 ⟨rfl, hb73⟩; dsimp only
  have hz := hb73.size
  replace hwc := hwc.trans (hb73.mono hwc.size)
  replace cP15_0 := (hb73.cell (p := ⟨P15, 0, none⟩) lP15).trans cP15_0
  replace cP15_1 := (hb73.cell (p := ⟨P15, 1, none⟩) lP15).trans cP15_1
  replace cP15_2 := (hb73.cell (p := ⟨P15, 2, none⟩) lP15).trans cP15_2
  replace cP15_3 := (hb73.cell (p := ⟨P15, 3, none⟩) lP15).trans cP15_3
  replace lP15 : P15 < W72.heap.size := Nat.lt_of_lt_of_le lP15 hz
  replace cP58_0 := (hb73.cell (p := ⟨P58, 0, none⟩) lP58).trans cP58_0
  replace cP58_1 := (hb73.cell (p := ⟨P58, 1, none⟩) lP58).trans cP58_1
  replace cP58_2 := (hb73.cell (p := ⟨P58, 2, none⟩) lP58).trans cP58_2
  replace cP58_3 := (hb73.cell (p := ⟨P58, 3, none⟩) lP58).trans cP58_3
  replace lP58 : P58 < W72.heap.size := Nat.lt_of_lt_of_le lP58 hz
  replace RD67 := Lib.hid (RD67.out.below hb73)
  replace RD68 := Lib.hid (RD68.out.below hb73)
  replace RD69 := Lib.hid (RD69.out.below hb73)
  replace RD70 := Lib.hid (RD70.out.below hb73)
  replace RD71 := Lib.hid (RD71.out.below hb73)
  replace HX56 := Lib.hid (HX56.out.below hb73 (show N55 ≤ W62.heap.size from (by have := CP15.out; have := CN16.out; have := CN44.out; have := CN55.out; have := CP58.out; have := CN59.out; have := CN60.out; have := CN65.out; omega)))
  replace HX66 := Lib.hid (HX66.out.below hb73 (show N65 ≤ W62.heap.size from (by have := CP15.out; have := CN16.out; have := CN44.out; have := CN55.out; have := CP58.out; have := CN59.out; have := CN60.out; have := CN65.out; omega)))
  replace top := Nat.le_trans top hz
  clear hb73 hz
  clear RD67 RD68 RD69 RD70 RD71
  have hrr := RngWx.reads HX56.out I00.out I01.out I02.out I03.out
  have RX74 := Lib.hid (hrr.1)
  have RX75 := Lib.hid (hrr.2.1)
  have RX76 := Lib.hid (hrr.2.2.1)
  have RX77 := Lib.hid (hrr.2.2.2)
  clear hrr
  have rp0 := fun (w' : World) (h : Below W72.heap.size W72 w') => (h.cell (p := ⟨P15, 0, none⟩) lP15).trans cP15_0
  have rp1 := fun (w' : World) (h : Below W72.heap.size W72 w') => (h.cell (p := ⟨P15, 1, none⟩) lP15).trans cP15_1
  have rp2 := fun (w' : World) (h : Below W72.heap.size W72 w') => (h.cell (p := ⟨P15, 2, none⟩) lP15).trans cP15_2
  have rp3 := fun (w' : World) (h : Below W72.heap.size W72 w') => (h.cell (p := ⟨P15, 3, none⟩) lP15).trans cP15_3
  have rv0 := fun (w' : World) (h : Below W72.heap.size W72 w') => (h.cell (p := ⟨P58, 0, none⟩) lP58).trans cP58_0
  have rv1 := fun (w' : World) (h : Below W72.heap.size W72 w') => (h.cell (p := ⟨P58, 1, none⟩) lP58).trans cP58_1
  have rv2 := fun (w' : World) (h : Below W72.heap.size W72 w') => (h.cell (p := ⟨P58, 2, none⟩) lP58).trans cP58_2
  have rv3 := fun (w' : World) (h : Below W72.heap.size W72 w') => (h.cell (p := ⟨P58, 3, none⟩) lP58).trans cP58_3
  clear cP15_0 cP15_1 cP15_2 cP15_3
  clear cP58_0 cP58_1 cP58_2 cP58_3
  go_wp2_with fail
  have hz9 := hwc.size
  go_region_held3 (fun w' => Below W72.heap.size W72 w') ((repeat' (first | (with_reducible exact Below.refl _ _) | (with_reducible assumption) | (with_reducible refine Below.alloc ?_ ?_ _) | (with_reducible refine Below.drew ?_) | (with_reducible refine below_drewN ?_ _) | (with_reducible refine Below.setCell ?_ ?_ _) | (with_reducible refine Below.trans ?_ (Below.mono (by with_reducible assumption) ?_)) | (with_reducible exact Below.size (by with_reducible assumption)) | go_size)))
    (first | (go_at_call 54; refine (toW_x _ _ _ _ X00 X01 X02 X03 _ (g00 _ (hwc.trans (Below.mono (by assumption) hz9))) (g01 _ (hwc.trans (Below.mono (by assumption) hz9))) (g02 _ (hwc.trans (Below.mono (by assumption) hz9))) (g03 _ (hwc.trans (Below.mono (by assumption) hz9))) HN0.out).mono ?_; rintro e w8 ⟨p78, q79, p80, q81, p82, q83, p84, q85, rfl, hr8, hb8⟩; have hS8 : Below W72.heap.size W72 w8 := (by (repeat' (first | (with_reducible exact Below.refl _ _) | (with_reducible assumption) | (with_reducible refine Below.alloc ?_ ?_ _) | (with_reducible refine Below.drew ?_) | (with_reducible refine below_drewN ?_ _) | (with_reducible refine Below.setCell ?_ ?_ _) | (with_reducible refine Below.trans ?_ (Below.mono (by with_reducible assumption) ?_)) | (with_reducible exact Below.size (by with_reducible assumption)) | go_size))); have R8 := Lib.hid (RngWx.reads hr8 I00.out I01.out I02.out I03.out); clear hr8) | (go_at_call 56; refine (eqW_x _ _ _ _ _ _ _ _ X00 X01 X02 X03 _ (RX74.out.below hS8) (RX75.out.below hS8) (RX76.out.below hS8) (RX77.out.below hS8) (R8.out.1) (R8.out.2.1) (R8.out.2.2.1) (R8.out.2.2.2)).mono ?_; rintro e w9 ⟨rfl, hb9⟩; have hS9 : Below W72.heap.size W72 w9 := (by (repeat' (first | (with_reducible exact Below.refl _ _) | (with_reducible assumption) | (with_reducible refine Below.alloc ?_ ?_ _) | (with_reducible refine Below.drew ?_) | (with_reducible refine below_drewN ?_ _) | (with_reducible refine Below.setCell ?_ ?_ _) | (with_reducible refine Below.trans ?_ (Below.mono (by with_reducible assumption) ?_)) | (with_reducible exact Below.size (by with_reducible assumption)) | go_size)))))
  clear R8 hS8 hb8 hb9 hz9 RX74 RX75 RX76 RX77
  have cP15_0 := rp0 _ hS9
  have cP15_1 := rp1 _ hS9
  have cP15_2 := rp2 _ hS9
  have cP15_3 := rp3 _ hS9
  have cP58_0 := rv0 _ hS9
  have cP58_1 := rv1 _ hS9
  have cP58_2 := rv2 _ hS9
  have cP58_3 := rv3 _ hS9
  clear rp0 rp1 rp2 rp3 rv0 rv1 rv2 rv3
  have hS9' := hS9
  have lP9 := Nat.lt_of_lt_of_le lP15 hS9.size
  have lV9 := Nat.lt_of_lt_of_le lP58 hS9.size
  clear hS9 lP15 lP58
  have lP15 := lP9
  have lP58 := lV9
  clear lP9 lV9
  have hz := hS9'.size
  replace hwc := hwc.trans (hS9'.mono hwc.size)
  replace HX56 := Lib.hid (HX56.out.below hS9' (show N55 ≤ W72.heap.size from (by have := CP15.out; have := CN16.out; have := CN44.out; have := CN55.out; have := CP58.out; have := CN59.out; have := CN60.out; have := CN65.out; omega)))
  replace HX66 := Lib.hid (HX66.out.below hS9' (show N65 ≤ W72.heap.size from (by have := CP15.out; have := CN16.out; have := CN44.out; have := CN55.out; have := CP58.out; have := CN59.out; have := CN60.out; have := CN65.out; omega)))
  replace top := Nat.le_trans top hz
  clear hS9' hz
  obtain ⟨W86, rfl⟩ : ∃ w', w' = w9 := ⟨_, rfl⟩
  go_wp2_with fail
  refine (toF_x _ X10 _ (g10 _ hwc) HN1.out).mono ?_; rintro e W88 ⟨p89, q90, rfl, hr, hb87⟩
  have RT := Lib.hid hr
  clear hr
  have hz := hb87.size
  replace hwc := hwc.trans (hb87.mono hwc.size)
  replace cP15_0 := (hb87.cell (p := ⟨P15, 0, none⟩) lP15).trans cP15_0
  replace cP15_1 := (hb87.cell (p := ⟨P15, 1, none⟩) lP15).trans cP15_1
  replace cP15_2 := (hb87.cell (p := ⟨P15, 2, none⟩) lP15).trans cP15_2
  replace cP15_3 := (hb87.cell (p := ⟨P15, 3, none⟩) lP15).trans cP15_3
  replace lP15 : P15 < W88.heap.size := Nat.lt_of_lt_of_le lP15 hz
  replace cP58_0 := (hb87.cell (p := ⟨P58, 0, none⟩) lP58).trans cP58_0
  replace cP58_1 := (hb87.cell (p := ⟨P58, 1, none⟩) lP58).trans cP58_1
  replace cP58_2 := (hb87.cell (p := ⟨P58, 2, none⟩) lP58).trans cP58_2
  replace cP58_3 := (hb87.cell (p := ⟨P58, 3, none⟩) lP58).trans cP58_3
  replace lP58 : P58 < W88.heap.size := Nat.lt_of_lt_of_le lP58 hz
  replace HX56 := Lib.hid (HX56.out.below hb87 (show N55 ≤ W86.heap.size from (by have := CP15.out; have := CN16.out; have := CN44.out; have := CN55.out; have := CP58.out; have := CN59.out; have := CN60.out; have := CN65.out; omega)))
  replace HX66 := Lib.hid (HX66.out.below hb87 (show N65 ≤ W86.heap.size from (by have := CP15.out; have := CN16.out; have := CN44.out; have := CN55.out; have := CP58.out; have := CN59.out; have := CN60.out; have := CN65.out; omega)))
  replace top := Nat.le_trans top hz
  clear hb87 hz
  go_wp2_with fail
  refine (eqF_x _ _ X10 _ HX66.out RT.out I10.out HN1.out).mono ?_; rintro e W92 ⟨rfl, hb91⟩
  clear RT
  have hz := hb91.size
  replace hwc := hwc.trans (hb91.mono hwc.size)
  replace cP15_0 := (hb91.cell (p := ⟨P15, 0, none⟩) lP15).trans cP15_0
  replace cP15_1 := (hb91.cell (p := ⟨P15, 1, none⟩) lP15).trans cP15_1
  replace cP15_2 := (hb91.cell (p := ⟨P15, 2, none⟩) lP15).trans cP15_2
  replace cP15_3 := (hb91.cell (p := ⟨P15, 3, none⟩) lP15).trans cP15_3
  replace lP15 : P15 < W92.heap.size := Nat.lt_of_lt_of_le lP15 hz
  replace cP58_0 := (hb91.cell (p := ⟨P58, 0, none⟩) lP58).trans cP58_0
  replace cP58_1 := (hb91.cell (p := ⟨P58, 1, none⟩) lP58).trans cP58_1
  replace cP58_2 := (hb91.cell (p := ⟨P58, 2, none⟩) lP58).trans cP58_2
  replace cP58_3 := (hb91.cell (p := ⟨P58, 3, none⟩) lP58).trans cP58_3
  replace lP58 : P58 < W92.heap.size := Nat.lt_of_lt_of_le lP58 hz
  replace HX56 := Lib.hid (HX56.out.below hb91 (show N55 ≤ W88.heap.size from (by have := CP15.out; have := CN16.out; have := CN44.out; have := CN55.out; have := CP58.out; have := CN59.out; have := CN60.out; have := CN65.out; omega)))
  replace HX66 := Lib.hid (HX66.out.below hb91 (show N65 ≤ W88.heap.size from (by have := CP15.out; have := CN16.out; have := CN44.out; have := CN55.out; have := CP58.out; have := CN59.out; have := CN60.out; have := CN65.out; omega)))
  replace top := Nat.le_trans top hz
  clear hb91 hz
  go_wp2_with fail
  go_ret
  exact ⟨rfl, hwc⟩
end Go.Proofs.Ytoglmkjmnknbbaa.PW
