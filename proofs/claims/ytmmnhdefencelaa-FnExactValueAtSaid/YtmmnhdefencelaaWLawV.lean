/-
  The exact law of ValueAt: whatever the program and the fractions, the program answers as the model, and leaves them as they were.
-/
import Derived.Test.YtmmnhdefencelaaWVa3
import Derived.Test.YtmmnhdefencelaaLKW
import Derived.Test.YtmmnhdefencelaaLKF
namespace Go.Proofs.Ytmmnhdefencelaa.PW
open Go.RowKit Go.Proofs.Ytmmnhdefencelaa
open Go.Proofs.Ytmmnhdefencelaa.PM
set_option maxHeartbeats 8000000 in
theorem law_FnExactValueAt (v00 v01 v02 v03 : Value) (X00 : List (List Int)) (X01 : List Int) (X02 : List (List Int)) (X03 : List Int) (v10 : Value) (X10 : List (Int × Int)) (w : World) (h00 : PM.Rows w v00 X00) (h01 : Ints w v01 X01) (h02 : PM.Rows w v02 X02) (h03 : Ints w v03 X03) (h10 : Frs w v10 X10) :
    Calls Try.prog 11 #[.agg #[v00, v01, v02, v03], v10] w fun e w' => e = .returned (.bool true) ∧ Below w.heap.size w w' := by
  have g00 := fun (w' : World) (h : Below w.heap.size w w') => h00.below h
  have I00 := Lib.hid (rows_I64 h00)
  obtain ⟨a00, c00, rfl, _⟩ := h00
  have g01 := fun (w' : World) (h : Below w.heap.size w w') => h01.below h
  have I01 := Lib.hid (ints_I64 h01)
  obtain ⟨a01, c01, rfl, _⟩ := h01
  have g02 := fun (w' : World) (h : Below w.heap.size w w') => h02.below h
  have I02 := Lib.hid (rows_I64 h02)
  obtain ⟨a02, c02, rfl, _⟩ := h02
  have g03 := fun (w' : World) (h : Below w.heap.size w w') => h03.below h
  have I03 := Lib.hid (ints_I64 h03)
  obtain ⟨a03, c03, rfl, _⟩ := h03
  have g10 := fun (w' : World) (h : Below w.heap.size w w') => h10.below h
  have I10 := Lib.hid ((h10).i64)
  obtain ⟨a10, c10, rfl, _⟩ := h10
  by_cases hz0 : szI (szWn X00 X01 X02 X03) 1048576 < 0
  · have E1 := Lib.hid (szx_neg hz0)
    clear hz0
    go_enter Try.func11, Try.ntmps11
    have hwc : Below w.heap.size w w := Below.refl _ _
    go_wp2_with fail
    obtain ⟨W1, hW1⟩ : ∃ w', w' = (w.alloc (.cells #[.slice a00 (X00).length c00, .slice a01 (X01).length c01, .slice a02 (X02).length c02, .slice a03 (X03).length c03] 56)) := ⟨_, rfl⟩
    rw [← hW1]
    have hbx : Below w.heap.size w W1 := by rw [hW1]; exact ((Below.refl _ _).alloc (by simp) _)
    obtain ⟨P2, hP2⟩ : ∃ n, n = w.heap.size := ⟨_, rfl⟩
    have cP2_0 : W1.cell? ⟨P2, 0, none⟩ = some (.slice a00 (X00).length c00) := by rw [hW1, hP2]; simp [go_sem]
    have cP2_1 : W1.cell? ⟨P2, 1, none⟩ = some (.slice a01 (X01).length c01) := by rw [hW1, hP2]; simp [go_sem]
    have cP2_2 : W1.cell? ⟨P2, 2, none⟩ = some (.slice a02 (X02).length c02) := by rw [hW1, hP2]; simp [go_sem]
    have cP2_3 : W1.cell? ⟨P2, 3, none⟩ = some (.slice a03 (X03).length c03) := by rw [hW1, hP2]; simp [go_sem]
    have lP2 : P2 < W1.heap.size := by rw [hW1, hP2]; simp
    have CP2 := Lib.hid (show w.heap.size ≤ P2 from by rw [hP2]; exact hwc.size)
    rw [← hP2]
    clear hP2 hW1
    have hz := hbx.size
    replace hwc := hwc.trans (hbx.mono hwc.size)
    clear hbx hz
    obtain ⟨N3, hN3⟩ : ∃ n, n = W1.heap.size := ⟨_, rfl⟩
    have CN3 := Lib.hid (show P2 < N3 from by rw [hN3]; exact lP2)
    have top : N3 ≤ W1.heap.size := Nat.le_of_eq hN3
    clear hN3
    refine (szW_x _ _ _ _ X00 X01 X02 X03 _ _ (g00 _ hwc) (g01 _ hwc) (g02 _ hwc) (g03 _ hwc) (by omega) (by omega)).mono ?_; rw [E1.out]; rintro e W5 ⟨rfl, hb4⟩
    have hz := hb4.size
    replace hwc := hwc.trans (hb4.mono hwc.size)
    replace cP2_0 := (hb4.cell (p := ⟨P2, 0, none⟩) lP2).trans cP2_0
    replace cP2_1 := (hb4.cell (p := ⟨P2, 1, none⟩) lP2).trans cP2_1
    replace cP2_2 := (hb4.cell (p := ⟨P2, 2, none⟩) lP2).trans cP2_2
    replace cP2_3 := (hb4.cell (p := ⟨P2, 3, none⟩) lP2).trans cP2_3
    replace lP2 : P2 < W5.heap.size := Nat.lt_of_lt_of_le lP2 hz
    replace top := Nat.le_trans top hz
    clear hb4 hz
    go_wp2_with fail
    go_ret
    exact ⟨rfl, hwc⟩
  obtain ⟨hf0, hle0⟩ := szx_fits hz0
  have hn0 : (szWn X00 X01 X02 X03) ≤ 1048576 := by omega
  have HN0 := Lib.hid hn0
  clear hn0 hf0
  by_cases hz1 : szI (X10).length (szI (szWn X00 X01 X02 X03) 1048576) < 0
  · have E1 := Lib.hid (szx_neg hz1)
    clear hz1
    go_enter Try.func11, Try.ntmps11
    have hwc : Below w.heap.size w w := Below.refl _ _
    go_wp2_with fail
    obtain ⟨W6, hW6⟩ : ∃ w', w' = (w.alloc (.cells #[.slice a00 (X00).length c00, .slice a01 (X01).length c01, .slice a02 (X02).length c02, .slice a03 (X03).length c03] 56)) := ⟨_, rfl⟩
    rw [← hW6]
    have hbx : Below w.heap.size w W6 := by rw [hW6]; exact ((Below.refl _ _).alloc (by simp) _)
    obtain ⟨P7, hP7⟩ : ∃ n, n = w.heap.size := ⟨_, rfl⟩
    have cP7_0 : W6.cell? ⟨P7, 0, none⟩ = some (.slice a00 (X00).length c00) := by rw [hW6, hP7]; simp [go_sem]
    have cP7_1 : W6.cell? ⟨P7, 1, none⟩ = some (.slice a01 (X01).length c01) := by rw [hW6, hP7]; simp [go_sem]
    have cP7_2 : W6.cell? ⟨P7, 2, none⟩ = some (.slice a02 (X02).length c02) := by rw [hW6, hP7]; simp [go_sem]
    have cP7_3 : W6.cell? ⟨P7, 3, none⟩ = some (.slice a03 (X03).length c03) := by rw [hW6, hP7]; simp [go_sem]
    have lP7 : P7 < W6.heap.size := by rw [hW6, hP7]; simp
    have CP7 := Lib.hid (show w.heap.size ≤ P7 from by rw [hP7]; exact hwc.size)
    rw [← hP7]
    clear hP7 hW6
    have hz := hbx.size
    replace hwc := hwc.trans (hbx.mono hwc.size)
    clear hbx hz
    obtain ⟨N8, hN8⟩ : ∃ n, n = W6.heap.size := ⟨_, rfl⟩
    have CN8 := Lib.hid (show P7 < N8 from by rw [hN8]; exact lP7)
    have top : N8 ≤ W6.heap.size := Nat.le_of_eq hN8
    clear hN8
    refine (szW_x _ _ _ _ X00 X01 X02 X03 _ _ (g00 _ hwc) (g01 _ hwc) (g02 _ hwc) (g03 _ hwc) (by omega) (by omega)).mono ?_; rintro e W10 ⟨rfl, hb9⟩
    have hz := hb9.size
    replace hwc := hwc.trans (hb9.mono hwc.size)
    replace cP7_0 := (hb9.cell (p := ⟨P7, 0, none⟩) lP7).trans cP7_0
    replace cP7_1 := (hb9.cell (p := ⟨P7, 1, none⟩) lP7).trans cP7_1
    replace cP7_2 := (hb9.cell (p := ⟨P7, 2, none⟩) lP7).trans cP7_2
    replace cP7_3 := (hb9.cell (p := ⟨P7, 3, none⟩) lP7).trans cP7_3
    replace lP7 : P7 < W10.heap.size := Nat.lt_of_lt_of_le lP7 hz
    replace top := Nat.le_trans top hz
    clear hb9 hz
    generalize szI (szWn X00 X01 X02 X03) 1048576 = lf11 at *
    go_wp2_with fail
    refine (szF_x _ X10 _ _ (g10 _ hwc) (by omega) (by omega)).mono ?_; rw [E1.out]; rintro e W13 ⟨rfl, hb12⟩
    have hz := hb12.size
    replace hwc := hwc.trans (hb12.mono hwc.size)
    replace cP7_0 := (hb12.cell (p := ⟨P7, 0, none⟩) lP7).trans cP7_0
    replace cP7_1 := (hb12.cell (p := ⟨P7, 1, none⟩) lP7).trans cP7_1
    replace cP7_2 := (hb12.cell (p := ⟨P7, 2, none⟩) lP7).trans cP7_2
    replace cP7_3 := (hb12.cell (p := ⟨P7, 3, none⟩) lP7).trans cP7_3
    replace lP7 : P7 < W13.heap.size := Nat.lt_of_lt_of_le lP7 hz
    replace top := Nat.le_trans top hz
    clear hb12 hz
    go_wp2_with fail
    go_ret
    exact ⟨rfl, hwc⟩
  obtain ⟨hf1, hle1⟩ := szx_fits hz1
  have hn1 : (X10).length ≤ 1048576 := by omega
  have HN1 := Lib.hid hn1
  clear hn1 hf1
  have hspec := fun (v00 v01 v02 v03 v10 : Value) (w : World) (h0 : PM.Rows w v00 X00) (h1 : Ints w v01 X01) (h2 : PM.Rows w v02 X02) (h3 : Ints w v03 X03) (h4 : Frs w v10 X10) => specValueAt_any v00 v01 v02 v03 v10 X00 X01 X02 X03 X10  w h0 h1 h2 h3 h4 HN0.out
  have himpl := fun (v00 v01 v02 v03 v10 : Value) (w : World) (h0 : PM.Rows w v00 X00) (h1 : Ints w v01 X01) (h2 : PM.Rows w v02 X02) (h3 : Ints w v03 X03) (h4 : Frs w v10 X10) => implValueAt_any v00 v01 v02 v03 v10 X00 X01 X02 X03 X10  w h0 h1 h2 h3 h4 HN0.out
  generalize vaOut X00 X01 X02 X03 X10  = o at *
  obtain ⟨⟨n0, d0⟩, o1⟩ := o
  have HS := Lib.hid hspec
  have HI := Lib.hid himpl
  clear hspec himpl
  go_enter Try.func11, Try.ntmps11
  have hwc : Below w.heap.size w w := Below.refl _ _
  go_wp2_with fail
  obtain ⟨W14, hW14⟩ : ∃ w', w' = (w.alloc (.cells #[.slice a00 (X00).length c00, .slice a01 (X01).length c01, .slice a02 (X02).length c02, .slice a03 (X03).length c03] 56)) := ⟨_, rfl⟩
  rw [← hW14]
  have hbx : Below w.heap.size w W14 := by rw [hW14]; exact ((Below.refl _ _).alloc (by simp) _)
  obtain ⟨P15, hP15⟩ : ∃ n, n = w.heap.size := ⟨_, rfl⟩
  have cP15_0 : W14.cell? ⟨P15, 0, none⟩ = some (.slice a00 (X00).length c00) := by rw [hW14, hP15]; simp [go_sem]
  have cP15_1 : W14.cell? ⟨P15, 1, none⟩ = some (.slice a01 (X01).length c01) := by rw [hW14, hP15]; simp [go_sem]
  have cP15_2 : W14.cell? ⟨P15, 2, none⟩ = some (.slice a02 (X02).length c02) := by rw [hW14, hP15]; simp [go_sem]
  have cP15_3 : W14.cell? ⟨P15, 3, none⟩ = some (.slice a03 (X03).length c03) := by rw [hW14, hP15]; simp [go_sem]
  have lP15 : P15 < W14.heap.size := by rw [hW14, hP15]; simp
  have CP15 := Lib.hid (show w.heap.size ≤ P15 from by rw [hP15]; exact hwc.size)
  rw [← hP15]
  clear hP15 hW14
  have hz := hbx.size
  replace hwc := hwc.trans (hbx.mono hwc.size)
  clear hbx hz
  obtain ⟨N16, hN16⟩ : ∃ n, n = W14.heap.size := ⟨_, rfl⟩
  have CN16 := Lib.hid (show P15 < N16 from by rw [hN16]; exact lP15)
  have top : N16 ≤ W14.heap.size := Nat.le_of_eq hN16
  clear hN16
  refine (szW_x _ _ _ _ X00 X01 X02 X03 _ _ (g00 _ hwc) (g01 _ hwc) (g02 _ hwc) (g03 _ hwc) (by omega) (by omega)).mono ?_; rintro e W18 ⟨rfl, hb17⟩
  have hz := hb17.size
  replace hwc := hwc.trans (hb17.mono hwc.size)
  replace cP15_0 := (hb17.cell (p := ⟨P15, 0, none⟩) lP15).trans cP15_0
  replace cP15_1 := (hb17.cell (p := ⟨P15, 1, none⟩) lP15).trans cP15_1
  replace cP15_2 := (hb17.cell (p := ⟨P15, 2, none⟩) lP15).trans cP15_2
  replace cP15_3 := (hb17.cell (p := ⟨P15, 3, none⟩) lP15).trans cP15_3
  replace lP15 : P15 < W18.heap.size := Nat.lt_of_lt_of_le lP15 hz
  replace top := Nat.le_trans top hz
  clear hb17 hz
  generalize szI (szWn X00 X01 X02 X03) 1048576 = lf19 at *
  go_wp2_with fail
  refine (szF_x _ X10 _ _ (g10 _ hwc) (by omega) (by omega)).mono ?_; rintro e W21 ⟨rfl, hb20⟩
  have hz := hb20.size
  replace hwc := hwc.trans (hb20.mono hwc.size)
  replace cP15_0 := (hb20.cell (p := ⟨P15, 0, none⟩) lP15).trans cP15_0
  replace cP15_1 := (hb20.cell (p := ⟨P15, 1, none⟩) lP15).trans cP15_1
  replace cP15_2 := (hb20.cell (p := ⟨P15, 2, none⟩) lP15).trans cP15_2
  replace cP15_3 := (hb20.cell (p := ⟨P15, 3, none⟩) lP15).trans cP15_3
  replace lP15 : P15 < W21.heap.size := Nat.lt_of_lt_of_le lP15 hz
  replace top := Nat.le_trans top hz
  clear hb20 hz
  generalize szI (X10).length lf19 = lf22 at *
  go_wp2_with fail
  clear hz0 hle0 hz1 hle1
  refine (toW_x _ _ _ _ X00 X01 X02 X03 _ (g00 _ hwc) (g01 _ hwc) (g02 _ hwc) (g03 _ hwc) HN0.out).mono ?_; rintro e W24 ⟨p25, q26, p27, q28, p29, q30, p31, q32, rfl, hr, hb23⟩
  have hrr := RngWx.reads hr I00.out I01.out I02.out I03.out
  have RD33 := Lib.hid (hrr.1)
  have RD34 := Lib.hid (hrr.2.1)
  have RD35 := Lib.hid (hrr.2.2.1)
  have RD36 := Lib.hid (hrr.2.2.2)
  clear hrr
  clear hr
  have hz := hb23.size
  replace hwc := hwc.trans (hb23.mono hwc.size)
  replace cP15_0 := (hb23.cell (p := ⟨P15, 0, none⟩) lP15).trans cP15_0
  replace cP15_1 := (hb23.cell (p := ⟨P15, 1, none⟩) lP15).trans cP15_1
  replace cP15_2 := (hb23.cell (p := ⟨P15, 2, none⟩) lP15).trans cP15_2
  replace cP15_3 := (hb23.cell (p := ⟨P15, 3, none⟩) lP15).trans cP15_3
  replace lP15 : P15 < W24.heap.size := Nat.lt_of_lt_of_le lP15 hz
  replace top := Nat.le_trans top hz
  clear hb23 hz
  go_wp2_with fail
  refine (toF_x _ X10 _ (g10 _ hwc) HN1.out).mono ?_; rintro e W38 ⟨p39, q40, rfl, hr, hb37⟩
  have RD41 := Lib.hid (RngFx.reads hr I10.out)
  clear hr
  have hz := hb37.size
  replace hwc := hwc.trans (hb37.mono hwc.size)
  replace cP15_0 := (hb37.cell (p := ⟨P15, 0, none⟩) lP15).trans cP15_0
  replace cP15_1 := (hb37.cell (p := ⟨P15, 1, none⟩) lP15).trans cP15_1
  replace cP15_2 := (hb37.cell (p := ⟨P15, 2, none⟩) lP15).trans cP15_2
  replace cP15_3 := (hb37.cell (p := ⟨P15, 3, none⟩) lP15).trans cP15_3
  replace lP15 : P15 < W38.heap.size := Nat.lt_of_lt_of_le lP15 hz
  replace RD33 := Lib.hid (RD33.out.below hb37)
  replace RD34 := Lib.hid (RD34.out.below hb37)
  replace RD35 := Lib.hid (RD35.out.below hb37)
  replace RD36 := Lib.hid (RD36.out.below hb37)
  replace top := Nat.le_trans top hz
  clear hb37 hz
  go_wp2_with fail
  refine (HS.out _ _ _ _ _ _ RD33.out RD34.out RD35.out RD36.out RD41.out).mono ?_; rintro e W42 ⟨rfl, hb43⟩; dsimp only
  have hz := hb43.size
  replace hwc := hwc.trans (hb43.mono hwc.size)
  replace cP15_0 := (hb43.cell (p := ⟨P15, 0, none⟩) lP15).trans cP15_0
  replace cP15_1 := (hb43.cell (p := ⟨P15, 1, none⟩) lP15).trans cP15_1
  replace cP15_2 := (hb43.cell (p := ⟨P15, 2, none⟩) lP15).trans cP15_2
  replace cP15_3 := (hb43.cell (p := ⟨P15, 3, none⟩) lP15).trans cP15_3
  replace lP15 : P15 < W42.heap.size := Nat.lt_of_lt_of_le lP15 hz
  replace RD33 := Lib.hid (RD33.out.below hb43)
  replace RD34 := Lib.hid (RD34.out.below hb43)
  replace RD35 := Lib.hid (RD35.out.below hb43)
  replace RD36 := Lib.hid (RD36.out.below hb43)
  replace RD41 := Lib.hid (RD41.out.below hb43)
  replace top := Nat.le_trans top hz
  clear hb43 hz
  go_wp2_with fail
  obtain ⟨W44, hW44⟩ : ∃ w', w' = (W42.alloc (.cells #[.int .i64 n0, .int .i64 d0] 51)) := ⟨_, rfl⟩
  rw [← hW44]
  have hbx : Below W42.heap.size W42 W44 := by rw [hW44]; exact ((Below.refl _ _).alloc (by simp) _)
  obtain ⟨P45, hP45⟩ : ∃ n, n = W42.heap.size := ⟨_, rfl⟩
  have cP45_0 : W44.cell? ⟨P45, 0, none⟩ = some (.int .i64 n0) := by rw [hW44, hP45]; simp [go_sem]
  have cP45_1 : W44.cell? ⟨P45, 1, none⟩ = some (.int .i64 d0) := by rw [hW44, hP45]; simp [go_sem]
  have lP45 : P45 < W44.heap.size := by rw [hW44, hP45]; simp
  have CP45 := Lib.hid (show N16 ≤ P45 from by rw [hP45]; exact top)
  rw [← hP45]
  clear hP45 hW44
  have hz := hbx.size
  replace hwc := hwc.trans (hbx.mono hwc.size)
  replace cP15_0 := (hbx.cell (p := ⟨P15, 0, none⟩) lP15).trans cP15_0
  replace cP15_1 := (hbx.cell (p := ⟨P15, 1, none⟩) lP15).trans cP15_1
  replace cP15_2 := (hbx.cell (p := ⟨P15, 2, none⟩) lP15).trans cP15_2
  replace cP15_3 := (hbx.cell (p := ⟨P15, 3, none⟩) lP15).trans cP15_3
  replace lP15 : P15 < W44.heap.size := Nat.lt_of_lt_of_le lP15 hz
  replace RD33 := Lib.hid (RD33.out.below hbx)
  replace RD34 := Lib.hid (RD34.out.below hbx)
  replace RD35 := Lib.hid (RD35.out.below hbx)
  replace RD36 := Lib.hid (RD36.out.below hbx)
  replace RD41 := Lib.hid (RD41.out.below hbx)
  replace top := Nat.le_trans top hz
  clear hbx hz
  clear top
  obtain ⟨N46, hN46⟩ : ∃ n, n = W44.heap.size := ⟨_, rfl⟩
  have CN46 := Lib.hid (show P45 < N46 from by rw [hN46]; exact lP45)
  have top : N46 ≤ W44.heap.size := Nat.le_of_eq hN46
  clear hN46
  clear RD33 RD34 RD35 RD36 RD41
  obtain ⟨N47, hN47⟩ : ∃ N47, N47 = W44.heap.size := ⟨_, rfl⟩
  have CN47 := Lib.hid (show N46 ≤ N47 from by rw [hN47]; exact top)
  have top' : N47 ≤ W44.heap.size := Nat.le_of_eq hN47
  clear top
  have top := top'
  clear top'
  refine (toW_x _ _ _ _ X00 X01 X02 X03 _ (g00 _ hwc) (g01 _ hwc) (g02 _ hwc) (g03 _ hwc) HN0.out).mono ?_; rintro e W49 ⟨p50, q51, p52, q53, p54, q55, p56, q57, rfl, hr, hb48⟩
  rw [← hN47] at hr
  clear hN47
  have hz := hb48.size
  replace hwc := hwc.trans (hb48.mono hwc.size)
  replace cP15_0 := (hb48.cell (p := ⟨P15, 0, none⟩) lP15).trans cP15_0
  replace cP15_1 := (hb48.cell (p := ⟨P15, 1, none⟩) lP15).trans cP15_1
  replace cP15_2 := (hb48.cell (p := ⟨P15, 2, none⟩) lP15).trans cP15_2
  replace cP15_3 := (hb48.cell (p := ⟨P15, 3, none⟩) lP15).trans cP15_3
  replace lP15 : P15 < W49.heap.size := Nat.lt_of_lt_of_le lP15 hz
  replace cP45_0 := (hb48.cell (p := ⟨P45, 0, none⟩) lP45).trans cP45_0
  replace cP45_1 := (hb48.cell (p := ⟨P45, 1, none⟩) lP45).trans cP45_1
  replace lP45 : P45 < W49.heap.size := Nat.lt_of_lt_of_le lP45 hz
  replace top := Nat.le_trans top hz
  clear hb48 hz
  obtain ⟨N58, hN58⟩ : ∃ N58, N58 = W49.heap.size := ⟨_, rfl⟩
  have CN58 := Lib.hid (show N47 ≤ N58 from by rw [hN58]; exact top)
  have top' : N58 ≤ W49.heap.size := Nat.le_of_eq hN58
  clear top
  have top := top'
  clear top'
  rw [← hN58] at hr
  clear hN58
  have HX59 := Lib.hid hr
  clear hr
  go_wp2_with fail
  obtain ⟨W60, hW60⟩ : ∃ w', w' = (W49.alloc (.cells #[.slice p50 (X00).length q51, .slice p52 (X01).length q53, .slice p54 (X02).length q55, .slice p56 (X03).length q57] 59)) := ⟨_, rfl⟩
  rw [← hW60]
  have hbx : Below W49.heap.size W49 W60 := by rw [hW60]; exact ((Below.refl _ _).alloc (by simp) _)
  obtain ⟨P61, hP61⟩ : ∃ n, n = W49.heap.size := ⟨_, rfl⟩
  have cP61_0 : W60.cell? ⟨P61, 0, none⟩ = some (.slice p50 (X00).length q51) := by rw [hW60, hP61]; simp [go_sem]
  have cP61_1 : W60.cell? ⟨P61, 1, none⟩ = some (.slice p52 (X01).length q53) := by rw [hW60, hP61]; simp [go_sem]
  have cP61_2 : W60.cell? ⟨P61, 2, none⟩ = some (.slice p54 (X02).length q55) := by rw [hW60, hP61]; simp [go_sem]
  have cP61_3 : W60.cell? ⟨P61, 3, none⟩ = some (.slice p56 (X03).length q57) := by rw [hW60, hP61]; simp [go_sem]
  have lP61 : P61 < W60.heap.size := by rw [hW60, hP61]; simp
  have CP61 := Lib.hid (show N58 ≤ P61 from by rw [hP61]; exact top)
  rw [← hP61]
  clear hP61 hW60
  have hz := hbx.size
  replace hwc := hwc.trans (hbx.mono hwc.size)
  replace cP15_0 := (hbx.cell (p := ⟨P15, 0, none⟩) lP15).trans cP15_0
  replace cP15_1 := (hbx.cell (p := ⟨P15, 1, none⟩) lP15).trans cP15_1
  replace cP15_2 := (hbx.cell (p := ⟨P15, 2, none⟩) lP15).trans cP15_2
  replace cP15_3 := (hbx.cell (p := ⟨P15, 3, none⟩) lP15).trans cP15_3
  replace lP15 : P15 < W60.heap.size := Nat.lt_of_lt_of_le lP15 hz
  replace cP45_0 := (hbx.cell (p := ⟨P45, 0, none⟩) lP45).trans cP45_0
  replace cP45_1 := (hbx.cell (p := ⟨P45, 1, none⟩) lP45).trans cP45_1
  replace lP45 : P45 < W60.heap.size := Nat.lt_of_lt_of_le lP45 hz
  replace HX59 := Lib.hid (HX59.out.below hbx (show N58 ≤ W49.heap.size from (by have := CP15.out; have := CN16.out; have := CP45.out; have := CN46.out; have := CN47.out; have := CN58.out; have := CP61.out; omega)))
  replace top := Nat.le_trans top hz
  clear hbx hz
  clear top
  obtain ⟨N62, hN62⟩ : ∃ n, n = W60.heap.size := ⟨_, rfl⟩
  have CN62 := Lib.hid (show P61 < N62 from by rw [hN62]; exact lP61)
  have top : N62 ≤ W60.heap.size := Nat.le_of_eq hN62
  clear hN62
  obtain ⟨N63, hN63⟩ : ∃ N63, N63 = W60.heap.size := ⟨_, rfl⟩
  have CN63 := Lib.hid (show N62 ≤ N63 from by rw [hN63]; exact top)
  have top' : N63 ≤ W60.heap.size := Nat.le_of_eq hN63
  clear top
  have top := top'
  clear top'
  refine (toF_x _ X10 _ (g10 _ hwc) HN1.out).mono ?_; rintro e W65 ⟨p66, q67, rfl, hr, hb64⟩
  rw [← hN63] at hr
  clear hN63
  have hz := hb64.size
  replace hwc := hwc.trans (hb64.mono hwc.size)
  replace cP15_0 := (hb64.cell (p := ⟨P15, 0, none⟩) lP15).trans cP15_0
  replace cP15_1 := (hb64.cell (p := ⟨P15, 1, none⟩) lP15).trans cP15_1
  replace cP15_2 := (hb64.cell (p := ⟨P15, 2, none⟩) lP15).trans cP15_2
  replace cP15_3 := (hb64.cell (p := ⟨P15, 3, none⟩) lP15).trans cP15_3
  replace lP15 : P15 < W65.heap.size := Nat.lt_of_lt_of_le lP15 hz
  replace cP45_0 := (hb64.cell (p := ⟨P45, 0, none⟩) lP45).trans cP45_0
  replace cP45_1 := (hb64.cell (p := ⟨P45, 1, none⟩) lP45).trans cP45_1
  replace lP45 : P45 < W65.heap.size := Nat.lt_of_lt_of_le lP45 hz
  replace cP61_0 := (hb64.cell (p := ⟨P61, 0, none⟩) lP61).trans cP61_0
  replace cP61_1 := (hb64.cell (p := ⟨P61, 1, none⟩) lP61).trans cP61_1
  replace cP61_2 := (hb64.cell (p := ⟨P61, 2, none⟩) lP61).trans cP61_2
  replace cP61_3 := (hb64.cell (p := ⟨P61, 3, none⟩) lP61).trans cP61_3
  replace lP61 : P61 < W65.heap.size := Nat.lt_of_lt_of_le lP61 hz
  replace HX59 := Lib.hid (HX59.out.below hb64 (show N58 ≤ W60.heap.size from (by have := CP15.out; have := CN16.out; have := CP45.out; have := CN46.out; have := CN47.out; have := CN58.out; have := CP61.out; have := CN62.out; have := CN63.out; omega)))
  replace top := Nat.le_trans top hz
  clear hb64 hz
  obtain ⟨N68, hN68⟩ : ∃ N68, N68 = W65.heap.size := ⟨_, rfl⟩
  have CN68 := Lib.hid (show N63 ≤ N68 from by rw [hN68]; exact top)
  have top' : N68 ≤ W65.heap.size := Nat.le_of_eq hN68
  clear top
  have top := top'
  clear top'
  rw [← hN68] at hr
  clear hN68
  have HX69 := Lib.hid hr
  clear hr
  have hrr := RngWx.reads HX59.out I00.out I01.out I02.out I03.out
  have RD70 := Lib.hid (hrr.1)
  have RD71 := Lib.hid (hrr.2.1)
  have RD72 := Lib.hid (hrr.2.2.1)
  have RD73 := Lib.hid (hrr.2.2.2)
  clear hrr
  have RD74 := Lib.hid (RngFx.reads HX69.out I10.out)
  go_wp2_with fail
  refine (HI.out _ _ _ _ _ _ RD70.out RD71.out RD72.out RD73.out RD74.out).mono ?_; rintro e W75 ⟨rfl, hb76⟩; dsimp only
  have hz := hb76.size
  replace hwc := hwc.trans (hb76.mono hwc.size)
  replace cP15_0 := (hb76.cell (p := ⟨P15, 0, none⟩) lP15).trans cP15_0
  replace cP15_1 := (hb76.cell (p := ⟨P15, 1, none⟩) lP15).trans cP15_1
  replace cP15_2 := (hb76.cell (p := ⟨P15, 2, none⟩) lP15).trans cP15_2
  replace cP15_3 := (hb76.cell (p := ⟨P15, 3, none⟩) lP15).trans cP15_3
  replace lP15 : P15 < W75.heap.size := Nat.lt_of_lt_of_le lP15 hz
  replace cP45_0 := (hb76.cell (p := ⟨P45, 0, none⟩) lP45).trans cP45_0
  replace cP45_1 := (hb76.cell (p := ⟨P45, 1, none⟩) lP45).trans cP45_1
  replace lP45 : P45 < W75.heap.size := Nat.lt_of_lt_of_le lP45 hz
  replace cP61_0 := (hb76.cell (p := ⟨P61, 0, none⟩) lP61).trans cP61_0
  replace cP61_1 := (hb76.cell (p := ⟨P61, 1, none⟩) lP61).trans cP61_1
  replace cP61_2 := (hb76.cell (p := ⟨P61, 2, none⟩) lP61).trans cP61_2
  replace cP61_3 := (hb76.cell (p := ⟨P61, 3, none⟩) lP61).trans cP61_3
  replace lP61 : P61 < W75.heap.size := Nat.lt_of_lt_of_le lP61 hz
  replace RD70 := Lib.hid (RD70.out.below hb76)
  replace RD71 := Lib.hid (RD71.out.below hb76)
  replace RD72 := Lib.hid (RD72.out.below hb76)
  replace RD73 := Lib.hid (RD73.out.below hb76)
  replace RD74 := Lib.hid (RD74.out.below hb76)
  replace HX59 := Lib.hid (HX59.out.below hb76 (show N58 ≤ W65.heap.size from (by have := CP15.out; have := CN16.out; have := CP45.out; have := CN46.out; have := CN47.out; have := CN58.out; have := CP61.out; have := CN62.out; have := CN63.out; have := CN68.out; omega)))
  replace HX69 := Lib.hid (HX69.out.below hb76 (show N68 ≤ W65.heap.size from (by have := CP15.out; have := CN16.out; have := CP45.out; have := CN46.out; have := CN47.out; have := CN58.out; have := CP61.out; have := CN62.out; have := CN63.out; have := CN68.out; omega)))
  replace top := Nat.le_trans top hz
  clear hb76 hz
  go_wp2_with fail
  obtain ⟨W77, hW77⟩ : ∃ w', w' = (W75.alloc (.cells #[.int .i64 n0, .int .i64 d0] 51)) := ⟨_, rfl⟩
  rw [← hW77]
  have hbx : Below W75.heap.size W75 W77 := by rw [hW77]; exact ((Below.refl _ _).alloc (by simp) _)
  obtain ⟨P78, hP78⟩ : ∃ n, n = W75.heap.size := ⟨_, rfl⟩
  have cP78_0 : W77.cell? ⟨P78, 0, none⟩ = some (.int .i64 n0) := by rw [hW77, hP78]; simp [go_sem]
  have cP78_1 : W77.cell? ⟨P78, 1, none⟩ = some (.int .i64 d0) := by rw [hW77, hP78]; simp [go_sem]
  have lP78 : P78 < W77.heap.size := by rw [hW77, hP78]; simp
  have CP78 := Lib.hid (show N68 ≤ P78 from by rw [hP78]; exact top)
  rw [← hP78]
  clear hP78 hW77
  have hz := hbx.size
  replace hwc := hwc.trans (hbx.mono hwc.size)
  replace cP15_0 := (hbx.cell (p := ⟨P15, 0, none⟩) lP15).trans cP15_0
  replace cP15_1 := (hbx.cell (p := ⟨P15, 1, none⟩) lP15).trans cP15_1
  replace cP15_2 := (hbx.cell (p := ⟨P15, 2, none⟩) lP15).trans cP15_2
  replace cP15_3 := (hbx.cell (p := ⟨P15, 3, none⟩) lP15).trans cP15_3
  replace lP15 : P15 < W77.heap.size := Nat.lt_of_lt_of_le lP15 hz
  replace cP45_0 := (hbx.cell (p := ⟨P45, 0, none⟩) lP45).trans cP45_0
  replace cP45_1 := (hbx.cell (p := ⟨P45, 1, none⟩) lP45).trans cP45_1
  replace lP45 : P45 < W77.heap.size := Nat.lt_of_lt_of_le lP45 hz
  replace cP61_0 := (hbx.cell (p := ⟨P61, 0, none⟩) lP61).trans cP61_0
  replace cP61_1 := (hbx.cell (p := ⟨P61, 1, none⟩) lP61).trans cP61_1
  replace cP61_2 := (hbx.cell (p := ⟨P61, 2, none⟩) lP61).trans cP61_2
  replace cP61_3 := (hbx.cell (p := ⟨P61, 3, none⟩) lP61).trans cP61_3
  replace lP61 : P61 < W77.heap.size := Nat.lt_of_lt_of_le lP61 hz
  replace RD70 := Lib.hid (RD70.out.below hbx)
  replace RD71 := Lib.hid (RD71.out.below hbx)
  replace RD72 := Lib.hid (RD72.out.below hbx)
  replace RD73 := Lib.hid (RD73.out.below hbx)
  replace RD74 := Lib.hid (RD74.out.below hbx)
  replace HX59 := Lib.hid (HX59.out.below hbx (show N58 ≤ W75.heap.size from (by have := CP15.out; have := CN16.out; have := CP45.out; have := CN46.out; have := CN47.out; have := CN58.out; have := CP61.out; have := CN62.out; have := CN63.out; have := CN68.out; have := CP78.out; omega)))
  replace HX69 := Lib.hid (HX69.out.below hbx (show N68 ≤ W75.heap.size from (by have := CP15.out; have := CN16.out; have := CP45.out; have := CN46.out; have := CN47.out; have := CN58.out; have := CP61.out; have := CN62.out; have := CN63.out; have := CN68.out; have := CP78.out; omega)))
  replace top := Nat.le_trans top hz
  clear hbx hz
  clear top
  obtain ⟨N79, hN79⟩ : ∃ n, n = W77.heap.size := ⟨_, rfl⟩
  have CN79 := Lib.hid (show P78 < N79 from by rw [hN79]; exact lP78)
  have top : N79 ≤ W77.heap.size := Nat.le_of_eq hN79
  clear hN79
  clear RD70 RD71 RD72 RD73 RD74
  refine (eqFrac_self n0 d0 _).mono ?_; rintro e W81 ⟨rfl, hb80⟩
  have hz := hb80.size
  replace hwc := hwc.trans (hb80.mono hwc.size)
  replace cP15_0 := (hb80.cell (p := ⟨P15, 0, none⟩) lP15).trans cP15_0
  replace cP15_1 := (hb80.cell (p := ⟨P15, 1, none⟩) lP15).trans cP15_1
  replace cP15_2 := (hb80.cell (p := ⟨P15, 2, none⟩) lP15).trans cP15_2
  replace cP15_3 := (hb80.cell (p := ⟨P15, 3, none⟩) lP15).trans cP15_3
  replace lP15 : P15 < W81.heap.size := Nat.lt_of_lt_of_le lP15 hz
  replace cP45_0 := (hb80.cell (p := ⟨P45, 0, none⟩) lP45).trans cP45_0
  replace cP45_1 := (hb80.cell (p := ⟨P45, 1, none⟩) lP45).trans cP45_1
  replace lP45 : P45 < W81.heap.size := Nat.lt_of_lt_of_le lP45 hz
  replace cP61_0 := (hb80.cell (p := ⟨P61, 0, none⟩) lP61).trans cP61_0
  replace cP61_1 := (hb80.cell (p := ⟨P61, 1, none⟩) lP61).trans cP61_1
  replace cP61_2 := (hb80.cell (p := ⟨P61, 2, none⟩) lP61).trans cP61_2
  replace cP61_3 := (hb80.cell (p := ⟨P61, 3, none⟩) lP61).trans cP61_3
  replace lP61 : P61 < W81.heap.size := Nat.lt_of_lt_of_le lP61 hz
  replace cP78_0 := (hb80.cell (p := ⟨P78, 0, none⟩) lP78).trans cP78_0
  replace cP78_1 := (hb80.cell (p := ⟨P78, 1, none⟩) lP78).trans cP78_1
  replace lP78 : P78 < W81.heap.size := Nat.lt_of_lt_of_le lP78 hz
  replace HX59 := Lib.hid (HX59.out.below hb80 (show N58 ≤ W77.heap.size from (by have := CP15.out; have := CN16.out; have := CP45.out; have := CN46.out; have := CN47.out; have := CN58.out; have := CP61.out; have := CN62.out; have := CN63.out; have := CN68.out; have := CP78.out; have := CN79.out; omega)))
  replace HX69 := Lib.hid (HX69.out.below hb80 (show N68 ≤ W77.heap.size from (by have := CP15.out; have := CN16.out; have := CP45.out; have := CN46.out; have := CN47.out; have := CN58.out; have := CP61.out; have := CN62.out; have := CN63.out; have := CN68.out; have := CP78.out; have := CN79.out; omega)))
  replace top := Nat.le_trans top hz
  clear hb80 hz
  have hrr := RngWx.reads HX59.out I00.out I01.out I02.out I03.out
  have RX82 := Lib.hid (hrr.1)
  have RX83 := Lib.hid (hrr.2.1)
  have RX84 := Lib.hid (hrr.2.2.1)
  have RX85 := Lib.hid (hrr.2.2.2)
  clear hrr
  have rp0 := fun (w' : World) (h : Below W81.heap.size W81 w') => (h.cell (p := ⟨P15, 0, none⟩) lP15).trans cP15_0
  have rp1 := fun (w' : World) (h : Below W81.heap.size W81 w') => (h.cell (p := ⟨P15, 1, none⟩) lP15).trans cP15_1
  have rp2 := fun (w' : World) (h : Below W81.heap.size W81 w') => (h.cell (p := ⟨P15, 2, none⟩) lP15).trans cP15_2
  have rp3 := fun (w' : World) (h : Below W81.heap.size W81 w') => (h.cell (p := ⟨P15, 3, none⟩) lP15).trans cP15_3
  have rv0 := fun (w' : World) (h : Below W81.heap.size W81 w') => (h.cell (p := ⟨P61, 0, none⟩) lP61).trans cP61_0
  have rv1 := fun (w' : World) (h : Below W81.heap.size W81 w') => (h.cell (p := ⟨P61, 1, none⟩) lP61).trans cP61_1
  have rv2 := fun (w' : World) (h : Below W81.heap.size W81 w') => (h.cell (p := ⟨P61, 2, none⟩) lP61).trans cP61_2
  have rv3 := fun (w' : World) (h : Below W81.heap.size W81 w') => (h.cell (p := ⟨P61, 3, none⟩) lP61).trans cP61_3
  clear cP15_0 cP15_1 cP15_2 cP15_3
  clear cP61_0 cP61_1 cP61_2 cP61_3
  go_wp2_with fail
  have hz9 := hwc.size
  go_region_held3 (fun w' => Below W81.heap.size W81 w') ((repeat' (first | (with_reducible exact Below.refl _ _) | (with_reducible assumption) | (with_reducible refine Below.alloc ?_ ?_ _) | (with_reducible refine Below.drew ?_) | (with_reducible refine below_drewN ?_ _) | (with_reducible refine Below.setCell ?_ ?_ _) | (with_reducible refine Below.trans ?_ (Below.mono (by with_reducible assumption) ?_)) | (with_reducible exact Below.size (by with_reducible assumption)) | go_size)))
    (first | (go_at_call 43; refine (toW_x _ _ _ _ X00 X01 X02 X03 _ (g00 _ (hwc.trans (Below.mono (by assumption) hz9))) (g01 _ (hwc.trans (Below.mono (by assumption) hz9))) (g02 _ (hwc.trans (Below.mono (by assumption) hz9))) (g03 _ (hwc.trans (Below.mono (by assumption) hz9))) HN0.out).mono ?_; rintro e w8 ⟨p86, q87, p88, q89, p90, q91, p92, q93, rfl, hr8, hb8⟩; have hS8 : Below W81.heap.size W81 w8 := (by (repeat' (first | (with_reducible exact Below.refl _ _) | (with_reducible assumption) | (with_reducible refine Below.alloc ?_ ?_ _) | (with_reducible refine Below.drew ?_) | (with_reducible refine below_drewN ?_ _) | (with_reducible refine Below.setCell ?_ ?_ _) | (with_reducible refine Below.trans ?_ (Below.mono (by with_reducible assumption) ?_)) | (with_reducible exact Below.size (by with_reducible assumption)) | go_size))); have R8 := Lib.hid (RngWx.reads hr8 I00.out I01.out I02.out I03.out); clear hr8) | (go_at_call 45; refine (eqW_x _ _ _ _ _ _ _ _ X00 X01 X02 X03 _ (RX82.out.below hS8) (RX83.out.below hS8) (RX84.out.below hS8) (RX85.out.below hS8) (R8.out.1) (R8.out.2.1) (R8.out.2.2.1) (R8.out.2.2.2)).mono ?_; rintro e w9 ⟨rfl, hb9⟩; have hS9 : Below W81.heap.size W81 w9 := (by (repeat' (first | (with_reducible exact Below.refl _ _) | (with_reducible assumption) | (with_reducible refine Below.alloc ?_ ?_ _) | (with_reducible refine Below.drew ?_) | (with_reducible refine below_drewN ?_ _) | (with_reducible refine Below.setCell ?_ ?_ _) | (with_reducible refine Below.trans ?_ (Below.mono (by with_reducible assumption) ?_)) | (with_reducible exact Below.size (by with_reducible assumption)) | go_size)))))
  clear R8 hS8 hb8 hb9 hz9 RX82 RX83 RX84 RX85
  have cP15_0 := rp0 _ hS9
  have cP15_1 := rp1 _ hS9
  have cP15_2 := rp2 _ hS9
  have cP15_3 := rp3 _ hS9
  have cP61_0 := rv0 _ hS9
  have cP61_1 := rv1 _ hS9
  have cP61_2 := rv2 _ hS9
  have cP61_3 := rv3 _ hS9
  clear rp0 rp1 rp2 rp3 rv0 rv1 rv2 rv3
  have hS9' := hS9
  have lP9 := Nat.lt_of_lt_of_le lP15 hS9.size
  have lV9 := Nat.lt_of_lt_of_le lP61 hS9.size
  clear hS9 lP15 lP61
  have lP15 := lP9
  have lP61 := lV9
  clear lP9 lV9
  have hz := hS9'.size
  replace hwc := hwc.trans (hS9'.mono hwc.size)
  replace cP45_0 := (hS9'.cell (p := ⟨P45, 0, none⟩) lP45).trans cP45_0
  replace cP45_1 := (hS9'.cell (p := ⟨P45, 1, none⟩) lP45).trans cP45_1
  replace lP45 : P45 < w9.heap.size := Nat.lt_of_lt_of_le lP45 hz
  replace cP78_0 := (hS9'.cell (p := ⟨P78, 0, none⟩) lP78).trans cP78_0
  replace cP78_1 := (hS9'.cell (p := ⟨P78, 1, none⟩) lP78).trans cP78_1
  replace lP78 : P78 < w9.heap.size := Nat.lt_of_lt_of_le lP78 hz
  replace HX59 := Lib.hid (HX59.out.below hS9' (show N58 ≤ W81.heap.size from (by have := CP15.out; have := CN16.out; have := CP45.out; have := CN46.out; have := CN47.out; have := CN58.out; have := CP61.out; have := CN62.out; have := CN63.out; have := CN68.out; have := CP78.out; have := CN79.out; omega)))
  replace HX69 := Lib.hid (HX69.out.below hS9' (show N68 ≤ W81.heap.size from (by have := CP15.out; have := CN16.out; have := CP45.out; have := CN46.out; have := CN47.out; have := CN58.out; have := CP61.out; have := CN62.out; have := CN63.out; have := CN68.out; have := CP78.out; have := CN79.out; omega)))
  replace top := Nat.le_trans top hz
  clear hS9' hz
  obtain ⟨W94, rfl⟩ : ∃ w', w' = w9 := ⟨_, rfl⟩
  go_wp2_with fail
  refine (toF_x _ X10 _ (g10 _ hwc) HN1.out).mono ?_; rintro e W96 ⟨p97, q98, rfl, hr, hb95⟩
  have RT := Lib.hid hr
  clear hr
  have hz := hb95.size
  replace hwc := hwc.trans (hb95.mono hwc.size)
  replace cP15_0 := (hb95.cell (p := ⟨P15, 0, none⟩) lP15).trans cP15_0
  replace cP15_1 := (hb95.cell (p := ⟨P15, 1, none⟩) lP15).trans cP15_1
  replace cP15_2 := (hb95.cell (p := ⟨P15, 2, none⟩) lP15).trans cP15_2
  replace cP15_3 := (hb95.cell (p := ⟨P15, 3, none⟩) lP15).trans cP15_3
  replace lP15 : P15 < W96.heap.size := Nat.lt_of_lt_of_le lP15 hz
  replace cP45_0 := (hb95.cell (p := ⟨P45, 0, none⟩) lP45).trans cP45_0
  replace cP45_1 := (hb95.cell (p := ⟨P45, 1, none⟩) lP45).trans cP45_1
  replace lP45 : P45 < W96.heap.size := Nat.lt_of_lt_of_le lP45 hz
  replace cP61_0 := (hb95.cell (p := ⟨P61, 0, none⟩) lP61).trans cP61_0
  replace cP61_1 := (hb95.cell (p := ⟨P61, 1, none⟩) lP61).trans cP61_1
  replace cP61_2 := (hb95.cell (p := ⟨P61, 2, none⟩) lP61).trans cP61_2
  replace cP61_3 := (hb95.cell (p := ⟨P61, 3, none⟩) lP61).trans cP61_3
  replace lP61 : P61 < W96.heap.size := Nat.lt_of_lt_of_le lP61 hz
  replace cP78_0 := (hb95.cell (p := ⟨P78, 0, none⟩) lP78).trans cP78_0
  replace cP78_1 := (hb95.cell (p := ⟨P78, 1, none⟩) lP78).trans cP78_1
  replace lP78 : P78 < W96.heap.size := Nat.lt_of_lt_of_le lP78 hz
  replace HX59 := Lib.hid (HX59.out.below hb95 (show N58 ≤ W94.heap.size from (by have := CP15.out; have := CN16.out; have := CP45.out; have := CN46.out; have := CN47.out; have := CN58.out; have := CP61.out; have := CN62.out; have := CN63.out; have := CN68.out; have := CP78.out; have := CN79.out; omega)))
  replace HX69 := Lib.hid (HX69.out.below hb95 (show N68 ≤ W94.heap.size from (by have := CP15.out; have := CN16.out; have := CP45.out; have := CN46.out; have := CN47.out; have := CN58.out; have := CP61.out; have := CN62.out; have := CN63.out; have := CN68.out; have := CP78.out; have := CN79.out; omega)))
  replace top := Nat.le_trans top hz
  clear hb95 hz
  go_wp2_with fail
  refine (eqF_x _ _ X10 _ HX69.out RT.out I10.out HN1.out).mono ?_; rintro e W100 ⟨rfl, hb99⟩
  clear RT
  have hz := hb99.size
  replace hwc := hwc.trans (hb99.mono hwc.size)
  replace cP15_0 := (hb99.cell (p := ⟨P15, 0, none⟩) lP15).trans cP15_0
  replace cP15_1 := (hb99.cell (p := ⟨P15, 1, none⟩) lP15).trans cP15_1
  replace cP15_2 := (hb99.cell (p := ⟨P15, 2, none⟩) lP15).trans cP15_2
  replace cP15_3 := (hb99.cell (p := ⟨P15, 3, none⟩) lP15).trans cP15_3
  replace lP15 : P15 < W100.heap.size := Nat.lt_of_lt_of_le lP15 hz
  replace cP45_0 := (hb99.cell (p := ⟨P45, 0, none⟩) lP45).trans cP45_0
  replace cP45_1 := (hb99.cell (p := ⟨P45, 1, none⟩) lP45).trans cP45_1
  replace lP45 : P45 < W100.heap.size := Nat.lt_of_lt_of_le lP45 hz
  replace cP61_0 := (hb99.cell (p := ⟨P61, 0, none⟩) lP61).trans cP61_0
  replace cP61_1 := (hb99.cell (p := ⟨P61, 1, none⟩) lP61).trans cP61_1
  replace cP61_2 := (hb99.cell (p := ⟨P61, 2, none⟩) lP61).trans cP61_2
  replace cP61_3 := (hb99.cell (p := ⟨P61, 3, none⟩) lP61).trans cP61_3
  replace lP61 : P61 < W100.heap.size := Nat.lt_of_lt_of_le lP61 hz
  replace cP78_0 := (hb99.cell (p := ⟨P78, 0, none⟩) lP78).trans cP78_0
  replace cP78_1 := (hb99.cell (p := ⟨P78, 1, none⟩) lP78).trans cP78_1
  replace lP78 : P78 < W100.heap.size := Nat.lt_of_lt_of_le lP78 hz
  replace HX59 := Lib.hid (HX59.out.below hb99 (show N58 ≤ W96.heap.size from (by have := CP15.out; have := CN16.out; have := CP45.out; have := CN46.out; have := CN47.out; have := CN58.out; have := CP61.out; have := CN62.out; have := CN63.out; have := CN68.out; have := CP78.out; have := CN79.out; omega)))
  replace HX69 := Lib.hid (HX69.out.below hb99 (show N68 ≤ W96.heap.size from (by have := CP15.out; have := CN16.out; have := CP45.out; have := CN46.out; have := CN47.out; have := CN58.out; have := CP61.out; have := CN62.out; have := CN63.out; have := CN68.out; have := CP78.out; have := CN79.out; omega)))
  replace top := Nat.le_trans top hz
  clear hb99 hz
  go_wp2_with fail
  go_ret
  exact ⟨rfl, hwc⟩
end Go.Proofs.Ytmmnhdefencelaa.PW
