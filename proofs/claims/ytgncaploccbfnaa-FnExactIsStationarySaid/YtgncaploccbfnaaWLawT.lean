/-
  The exact law of IsStationary: whatever the program and the two lists, the program answers as the model and leaves all as they were.
-/
import Derived.Test.YtgncaploccbfnaaWSti
import Derived.Test.YtgncaploccbfnaaLKW
import Derived.Test.YtgncaploccbfnaaLKF
namespace Go.Proofs.Ytgncaploccbfnaa.PW
open Go.RowKit Go.Proofs.Ytgncaploccbfnaa
open Go.Proofs.Ytgncaploccbfnaa.PM
set_option maxHeartbeats 8000000 in
theorem law_FnExactIsStationary (v00 v01 v02 v03 : Value) (X00 : List (List Int)) (X01 : List Int) (X02 : List (List Int)) (X03 : List Int) (v10 : Value) (X10 : List (Int × Int)) (v20 : Value) (X20 : List (Int × Int)) (w : World) (h00 : PM.Rows w v00 X00) (h01 : Ints w v01 X01) (h02 : PM.Rows w v02 X02) (h03 : Ints w v03 X03) (h10 : Frs w v10 X10) (h20 : Frs w v20 X20) :
    Calls Try.prog 9 #[.agg #[v00, v01, v02, v03], v10, v20] w fun e w' => e = .returned (.bool true) ∧ Below w.heap.size w w' := by
  have g00 := fun (w' : World) (h : Below w.heap.size w w') => h00.below h
  have I00 := Lib.hid (rows_I64 h00)
  obtain ⟨a00, c00, rfl, _⟩ := h00
  have g01 := fun (w' : World) (h : Below w.heap.size w w') => h01.below h
  have I01 := Lib.hid (ints_I64 h01)
  obtain ⟨a01, c01, rfl, _⟩ := h01
  have g02 := fun (w' : World) (h : Below w.heap.size w w') => h02.below h
  have I02 := Lib.hid (rows_I64 h02)
  obtain ⟨a02, c02, rfl, _⟩ := h02
  have g03 := fun (w' : World) (h : Below w.heap.size w w') => h03.below h
  have I03 := Lib.hid (ints_I64 h03)
  obtain ⟨a03, c03, rfl, _⟩ := h03
  have g10 := fun (w' : World) (h : Below w.heap.size w w') => h10.below h
  have I10 := Lib.hid ((h10).i64)
  obtain ⟨a10, c10, rfl, _⟩ := h10
  have g20 := fun (w' : World) (h : Below w.heap.size w w') => h20.below h
  have I20 := Lib.hid ((h20).i64)
  obtain ⟨a20, c20, rfl, _⟩ := h20
  by_cases hz0 : szI (szWn X00 X01 X02 X03) 1048576 < 0
  · have E1 := Lib.hid (szx_neg hz0)
    clear hz0
    go_enter Try.func9, Try.ntmps9
    have hwc : Below w.heap.size w w := Below.refl _ _
    go_wp2_with fail
    obtain ⟨W1, hW1⟩ : ∃ w', w' = (w.alloc (.cells #[.slice a00 (X00).length c00, .slice a01 (X01).length c01, .slice a02 (X02).length c02, .slice a03 (X03).length c03] 51)) := ⟨_, rfl⟩
    rw [← hW1]
    have hbx : Below w.heap.size w W1 := by rw [hW1]; exact ((Below.refl _ _).alloc (by simp) _)
    obtain ⟨P2, hP2⟩ : ∃ n, n = w.heap.size := ⟨_, rfl⟩
    have cP2_0 : W1.cell? ⟨P2, 0, none⟩ = some (.slice a00 (X00).length c00) := by rw [hW1, hP2]; simp [go_sem]
    have cP2_1 : W1.cell? ⟨P2, 1, none⟩ = some (.slice a01 (X01).length c01) := by rw [hW1, hP2]; simp [go_sem]
    have cP2_2 : W1.cell? ⟨P2, 2, none⟩ = some (.slice a02 (X02).length c02) := by rw [hW1, hP2]; simp [go_sem]
    have cP2_3 : W1.cell? ⟨P2, 3, none⟩ = some (.slice a03 (X03).length c03) := by rw [hW1, hP2]; simp [go_sem]
    have lP2 : P2 < W1.heap.size := by rw [hW1, hP2]; simp
    have CP2 := Lib.hid (show w.heap.size ≤ P2 from by rw [hP2]; exact hwc.size)
    rw [← hP2]
    clear hP2 hW1
    have hz := hbx.size
    replace hwc := hwc.trans (hbx.mono hwc.size)
    clear hbx hz
    obtain ⟨N3, hN3⟩ : ∃ n, n = W1.heap.size := ⟨_, rfl⟩
    have CN3 := Lib.hid (show P2 < N3 from by rw [hN3]; exact lP2)
    have top : N3 ≤ W1.heap.size := Nat.le_of_eq hN3
    clear hN3
    refine (szW_x _ _ _ _ X00 X01 X02 X03 _ _ (g00 _ hwc) (g01 _ hwc) (g02 _ hwc) (g03 _ hwc) (by omega) (by omega)).mono ?_; rw [E1.out]; rintro e W5 ⟨rfl, hb4⟩
    have hz := hb4.size
    replace hwc := hwc.trans (hb4.mono hwc.size)
    replace cP2_0 := (hb4.cell (p := ⟨P2, 0, none⟩) lP2).trans cP2_0
    replace cP2_1 := (hb4.cell (p := ⟨P2, 1, none⟩) lP2).trans cP2_1
    replace cP2_2 := (hb4.cell (p := ⟨P2, 2, none⟩) lP2).trans cP2_2
    replace cP2_3 := (hb4.cell (p := ⟨P2, 3, none⟩) lP2).trans cP2_3
    replace lP2 : P2 < W5.heap.size := Nat.lt_of_lt_of_le lP2 hz
    replace top := Nat.le_trans top hz
    clear hb4 hz
    go_wp2_with fail
    go_ret
    exact ⟨rfl, hwc⟩
  obtain ⟨hf0, hle0⟩ := szx_fits hz0
  have hn0 : (szWn X00 X01 X02 X03) ≤ 1048576 := by omega
  have HN0 := Lib.hid hn0
  clear hn0 hf0
  by_cases hz1 : szI (X10).length (szI (szWn X00 X01 X02 X03) 1048576) < 0
  · have E1 := Lib.hid (szx_neg hz1)
    clear hz1
    go_enter Try.func9, Try.ntmps9
    have hwc : Below w.heap.size w w := Below.refl _ _
    go_wp2_with fail
    obtain ⟨W6, hW6⟩ : ∃ w', w' = (w.alloc (.cells #[.slice a00 (X00).length c00, .slice a01 (X01).length c01, .slice a02 (X02).length c02, .slice a03 (X03).length c03] 51)) := ⟨_, rfl⟩
    rw [← hW6]
    have hbx : Below w.heap.size w W6 := by rw [hW6]; exact ((Below.refl _ _).alloc (by simp) _)
    obtain ⟨P7, hP7⟩ : ∃ n, n = w.heap.size := ⟨_, rfl⟩
    have cP7_0 : W6.cell? ⟨P7, 0, none⟩ = some (.slice a00 (X00).length c00) := by rw [hW6, hP7]; simp [go_sem]
    have cP7_1 : W6.cell? ⟨P7, 1, none⟩ = some (.slice a01 (X01).length c01) := by rw [hW6, hP7]; simp [go_sem]
    have cP7_2 : W6.cell? ⟨P7, 2, none⟩ = some (.slice a02 (X02).length c02) := by rw [hW6, hP7]; simp [go_sem]
    have cP7_3 : W6.cell? ⟨P7, 3, none⟩ = some (.slice a03 (X03).length c03) := by rw [hW6, hP7]; simp [go_sem]
    have lP7 : P7 < W6.heap.size := by rw [hW6, hP7]; simp
    have CP7 := Lib.hid (show w.heap.size ≤ P7 from by rw [hP7]; exact hwc.size)
    rw [← hP7]
    clear hP7 hW6
    have hz := hbx.size
    replace hwc := hwc.trans (hbx.mono hwc.size)
    clear hbx hz
    obtain ⟨N8, hN8⟩ : ∃ n, n = W6.heap.size := ⟨_, rfl⟩
    have CN8 := Lib.hid (show P7 < N8 from by rw [hN8]; exact lP7)
    have top : N8 ≤ W6.heap.size := Nat.le_of_eq hN8
    clear hN8
    refine (szW_x _ _ _ _ X00 X01 X02 X03 _ _ (g00 _ hwc) (g01 _ hwc) (g02 _ hwc) (g03 _ hwc) (by omega) (by omega)).mono ?_; rintro e W10 ⟨rfl, hb9⟩
    have hz := hb9.size
    replace hwc := hwc.trans (hb9.mono hwc.size)
    replace cP7_0 := (hb9.cell (p := ⟨P7, 0, none⟩) lP7).trans cP7_0
    replace cP7_1 := (hb9.cell (p := ⟨P7, 1, none⟩) lP7).trans cP7_1
    replace cP7_2 := (hb9.cell (p := ⟨P7, 2, none⟩) lP7).trans cP7_2
    replace cP7_3 := (hb9.cell (p := ⟨P7, 3, none⟩) lP7).trans cP7_3
    replace lP7 : P7 < W10.heap.size := Nat.lt_of_lt_of_le lP7 hz
    replace top := Nat.le_trans top hz
    clear hb9 hz
    generalize szI (szWn X00 X01 X02 X03) 1048576 = lf11 at *
    go_wp2_with fail
    refine (szF_x _ X10 _ _ (g10 _ hwc) (by omega) (by omega)).mono ?_; rw [E1.out]; rintro e W13 ⟨rfl, hb12⟩
    have hz := hb12.size
    replace hwc := hwc.trans (hb12.mono hwc.size)
    replace cP7_0 := (hb12.cell (p := ⟨P7, 0, none⟩) lP7).trans cP7_0
    replace cP7_1 := (hb12.cell (p := ⟨P7, 1, none⟩) lP7).trans cP7_1
    replace cP7_2 := (hb12.cell (p := ⟨P7, 2, none⟩) lP7).trans cP7_2
    replace cP7_3 := (hb12.cell (p := ⟨P7, 3, none⟩) lP7).trans cP7_3
    replace lP7 : P7 < W13.heap.size := Nat.lt_of_lt_of_le lP7 hz
    replace top := Nat.le_trans top hz
    clear hb12 hz
    go_wp2_with fail
    go_ret
    exact ⟨rfl, hwc⟩
  obtain ⟨hf1, hle1⟩ := szx_fits hz1
  have hn1 : (X10).length ≤ 1048576 := by omega
  have HN1 := Lib.hid hn1
  clear hn1 hf1
  by_cases hz2 : szI (X20).length (szI (X10).length (szI (szWn X00 X01 X02 X03) 1048576)) < 0
  · have E1 := Lib.hid (szx_neg hz2)
    clear hz2
    go_enter Try.func9, Try.ntmps9
    have hwc : Below w.heap.size w w := Below.refl _ _
    go_wp2_with fail
    obtain ⟨W14, hW14⟩ : ∃ w', w' = (w.alloc (.cells #[.slice a00 (X00).length c00, .slice a01 (X01).length c01, .slice a02 (X02).length c02, .slice a03 (X03).length c03] 51)) := ⟨_, rfl⟩
    rw [← hW14]
    have hbx : Below w.heap.size w W14 := by rw [hW14]; exact ((Below.refl _ _).alloc (by simp) _)
    obtain ⟨P15, hP15⟩ : ∃ n, n = w.heap.size := ⟨_, rfl⟩
    have cP15_0 : W14.cell? ⟨P15, 0, none⟩ = some (.slice a00 (X00).length c00) := by rw [hW14, hP15]; simp [go_sem]
    have cP15_1 : W14.cell? ⟨P15, 1, none⟩ = some (.slice a01 (X01).length c01) := by rw [hW14, hP15]; simp [go_sem]
    have cP15_2 : W14.cell? ⟨P15, 2, none⟩ = some (.slice a02 (X02).length c02) := by rw [hW14, hP15]; simp [go_sem]
    have cP15_3 : W14.cell? ⟨P15, 3, none⟩ = some (.slice a03 (X03).length c03) := by rw [hW14, hP15]; simp [go_sem]
    have lP15 : P15 < W14.heap.size := by rw [hW14, hP15]; simp
    have CP15 := Lib.hid (show w.heap.size ≤ P15 from by rw [hP15]; exact hwc.size)
    rw [← hP15]
    clear hP15 hW14
    have hz := hbx.size
    replace hwc := hwc.trans (hbx.mono hwc.size)
    clear hbx hz
    obtain ⟨N16, hN16⟩ : ∃ n, n = W14.heap.size := ⟨_, rfl⟩
    have CN16 := Lib.hid (show P15 < N16 from by rw [hN16]; exact lP15)
    have top : N16 ≤ W14.heap.size := Nat.le_of_eq hN16
    clear hN16
    refine (szW_x _ _ _ _ X00 X01 X02 X03 _ _ (g00 _ hwc) (g01 _ hwc) (g02 _ hwc) (g03 _ hwc) (by omega) (by omega)).mono ?_; rintro e W18 ⟨rfl, hb17⟩
    have hz := hb17.size
    replace hwc := hwc.trans (hb17.mono hwc.size)
    replace cP15_0 := (hb17.cell (p := ⟨P15, 0, none⟩) lP15).trans cP15_0
    replace cP15_1 := (hb17.cell (p := ⟨P15, 1, none⟩) lP15).trans cP15_1
    replace cP15_2 := (hb17.cell (p := ⟨P15, 2, none⟩) lP15).trans cP15_2
    replace cP15_3 := (hb17.cell (p := ⟨P15, 3, none⟩) lP15).trans cP15_3
    replace lP15 : P15 < W18.heap.size := Nat.lt_of_lt_of_le lP15 hz
    replace top := Nat.le_trans top hz
    clear hb17 hz
    generalize szI (szWn X00 X01 X02 X03) 1048576 = lf19 at *
    go_wp2_with fail
    refine (szF_x _ X10 _ _ (g10 _ hwc) (by omega) (by omega)).mono ?_; rintro e W21 ⟨rfl, hb20⟩
    have hz := hb20.size
    replace hwc := hwc.trans (hb20.mono hwc.size)
    replace cP15_0 := (hb20.cell (p := ⟨P15, 0, none⟩) lP15).trans cP15_0
    replace cP15_1 := (hb20.cell (p := ⟨P15, 1, none⟩) lP15).trans cP15_1
    replace cP15_2 := (hb20.cell (p := ⟨P15, 2, none⟩) lP15).trans cP15_2
    replace cP15_3 := (hb20.cell (p := ⟨P15, 3, none⟩) lP15).trans cP15_3
    replace lP15 : P15 < W21.heap.size := Nat.lt_of_lt_of_le lP15 hz
    replace top := Nat.le_trans top hz
    clear hb20 hz
    generalize szI (X10).length lf19 = lf22 at *
    go_wp2_with fail
    refine (szF_x _ X20 _ _ (g20 _ hwc) (by omega) (by omega)).mono ?_; rw [E1.out]; rintro e W24 ⟨rfl, hb23⟩
    have hz := hb23.size
    replace hwc := hwc.trans (hb23.mono hwc.size)
    replace cP15_0 := (hb23.cell (p := ⟨P15, 0, none⟩) lP15).trans cP15_0
    replace cP15_1 := (hb23.cell (p := ⟨P15, 1, none⟩) lP15).trans cP15_1
    replace cP15_2 := (hb23.cell (p := ⟨P15, 2, none⟩) lP15).trans cP15_2
    replace cP15_3 := (hb23.cell (p := ⟨P15, 3, none⟩) lP15).trans cP15_3
    replace lP15 : P15 < W24.heap.size := Nat.lt_of_lt_of_le lP15 hz
    replace top := Nat.le_trans top hz
    clear hb23 hz
    go_wp2_with fail
    go_ret
    exact ⟨rfl, hwc⟩
  obtain ⟨hf2, hle2⟩ := szx_fits hz2
  have hn2 : (X20).length ≤ 1048576 := by omega
  have HN2 := Lib.hid hn2
  clear hn2 hf2
  have hspec := fun (v00 v01 v02 v03 v10 v20 : Value) (w : World) (h0 : PM.Rows w v00 X00) (h1 : Ints w v01 X01) (h2 : PM.Rows w v02 X02) (h3 : Ints w v03 X03) (h4 : Frs w v10 X10) (h5 : Frs w v20 X20) => specIsStationary_any v00 v01 v02 v03 v10 v20 X00 X01 X02 X03 X10 X20  w h0 h1 h2 h3 h4 h5 HN0.out
  have himpl := fun (v00 v01 v02 v03 v10 v20 : Value) (w : World) (h0 : PM.Rows w v00 X00) (h1 : Ints w v01 X01) (h2 : PM.Rows w v02 X02) (h3 : Ints w v03 X03) (h4 : Frs w v10 X10) (h5 : Frs w v20 X20) => implIsStationary_any v00 v01 v02 v03 v10 v20 X00 X01 X02 X03 X10 X20  w h0 h1 h2 h3 h4 h5 HN0.out
  generalize stOut X00 X01 X02 X03 X10 X20  = o at *
  obtain ⟨o0, o1⟩ := o
  have HS := Lib.hid hspec
  have HI := Lib.hid himpl
  clear hspec himpl
  go_enter Try.func9, Try.ntmps9
  have hwc : Below w.heap.size w w := Below.refl _ _
  go_wp2_with fail
  obtain ⟨W25, hW25⟩ : ∃ w', w' = (w.alloc (.cells #[.slice a00 (X00).length c00, .slice a01 (X01).length c01, .slice a02 (X02).length c02, .slice a03 (X03).length c03] 51)) := ⟨_, rfl⟩
  rw [← hW25]
  have hbx : Below w.heap.size w W25 := by rw [hW25]; exact ((Below.refl _ _).alloc (by simp) _)
  obtain ⟨P26, hP26⟩ : ∃ n, n = w.heap.size := ⟨_, rfl⟩
  have cP26_0 : W25.cell? ⟨P26, 0, none⟩ = some (.slice a00 (X00).length c00) := by rw [hW25, hP26]; simp [go_sem]
  have cP26_1 : W25.cell? ⟨P26, 1, none⟩ = some (.slice a01 (X01).length c01) := by rw [hW25, hP26]; simp [go_sem]
  have cP26_2 : W25.cell? ⟨P26, 2, none⟩ = some (.slice a02 (X02).length c02) := by rw [hW25, hP26]; simp [go_sem]
  have cP26_3 : W25.cell? ⟨P26, 3, none⟩ = some (.slice a03 (X03).length c03) := by rw [hW25, hP26]; simp [go_sem]
  have lP26 : P26 < W25.heap.size := by rw [hW25, hP26]; simp
  have CP26 := Lib.hid (show w.heap.size ≤ P26 from by rw [hP26]; exact hwc.size)
  rw [← hP26]
  clear hP26 hW25
  have hz := hbx.size
  replace hwc := hwc.trans (hbx.mono hwc.size)
  clear hbx hz
  obtain ⟨N27, hN27⟩ : ∃ n, n = W25.heap.size := ⟨_, rfl⟩
  have CN27 := Lib.hid (show P26 < N27 from by rw [hN27]; exact lP26)
  have top : N27 ≤ W25.heap.size := Nat.le_of_eq hN27
  clear hN27
  refine (szW_x _ _ _ _ X00 X01 X02 X03 _ _ (g00 _ hwc) (g01 _ hwc) (g02 _ hwc) (g03 _ hwc) (by omega) (by omega)).mono ?_; rintro e W29 ⟨rfl, hb28⟩
  have hz := hb28.size
  replace hwc := hwc.trans (hb28.mono hwc.size)
  replace cP26_0 := (hb28.cell (p := ⟨P26, 0, none⟩) lP26).trans cP26_0
  replace cP26_1 := (hb28.cell (p := ⟨P26, 1, none⟩) lP26).trans cP26_1
  replace cP26_2 := (hb28.cell (p := ⟨P26, 2, none⟩) lP26).trans cP26_2
  replace cP26_3 := (hb28.cell (p := ⟨P26, 3, none⟩) lP26).trans cP26_3
  replace lP26 : P26 < W29.heap.size := Nat.lt_of_lt_of_le lP26 hz
  replace top := Nat.le_trans top hz
  clear hb28 hz
  generalize szI (szWn X00 X01 X02 X03) 1048576 = lf30 at *
  go_wp2_with fail
  refine (szF_x _ X10 _ _ (g10 _ hwc) (by omega) (by omega)).mono ?_; rintro e W32 ⟨rfl, hb31⟩
  have hz := hb31.size
  replace hwc := hwc.trans (hb31.mono hwc.size)
  replace cP26_0 := (hb31.cell (p := ⟨P26, 0, none⟩) lP26).trans cP26_0
  replace cP26_1 := (hb31.cell (p := ⟨P26, 1, none⟩) lP26).trans cP26_1
  replace cP26_2 := (hb31.cell (p := ⟨P26, 2, none⟩) lP26).trans cP26_2
  replace cP26_3 := (hb31.cell (p := ⟨P26, 3, none⟩) lP26).trans cP26_3
  replace lP26 : P26 < W32.heap.size := Nat.lt_of_lt_of_le lP26 hz
  replace top := Nat.le_trans top hz
  clear hb31 hz
  generalize szI (X10).length lf30 = lf33 at *
  go_wp2_with fail
  refine (szF_x _ X20 _ _ (g20 _ hwc) (by omega) (by omega)).mono ?_; rintro e W35 ⟨rfl, hb34⟩
  have hz := hb34.size
  replace hwc := hwc.trans (hb34.mono hwc.size)
  replace cP26_0 := (hb34.cell (p := ⟨P26, 0, none⟩) lP26).trans cP26_0
  replace cP26_1 := (hb34.cell (p := ⟨P26, 1, none⟩) lP26).trans cP26_1
  replace cP26_2 := (hb34.cell (p := ⟨P26, 2, none⟩) lP26).trans cP26_2
  replace cP26_3 := (hb34.cell (p := ⟨P26, 3, none⟩) lP26).trans cP26_3
  replace lP26 : P26 < W35.heap.size := Nat.lt_of_lt_of_le lP26 hz
  replace top := Nat.le_trans top hz
  clear hb34 hz
  generalize szI (X20).length lf33 = lf36 at *
  go_wp2_with fail
  clear hz0 hle0 hz1 hle1 hz2 hle2
  refine (toW_x _ _ _ _ X00 X01 X02 X03 _ (g00 _ hwc) (g01 _ hwc) (g02 _ hwc) (g03 _ hwc) HN0.out).mono ?_; rintro e W38 ⟨p39, q40, p41, q42, p43, q44, p45, q46, rfl, hr, hb37⟩
  have hrr := RngWx.reads hr I00.out I01.out I02.out I03.out
  have RD47 := Lib.hid (hrr.1)
  have RD48 := Lib.hid (hrr.2.1)
  have RD49 := Lib.hid (hrr.2.2.1)
  have RD50 := Lib.hid (hrr.2.2.2)
  clear hrr
  clear hr
  have hz := hb37.size
  replace hwc := hwc.trans (hb37.mono hwc.size)
  replace cP26_0 := (hb37.cell (p := ⟨P26, 0, none⟩) lP26).trans cP26_0
  replace cP26_1 := (hb37.cell (p := ⟨P26, 1, none⟩) lP26).trans cP26_1
  replace cP26_2 := (hb37.cell (p := ⟨P26, 2, none⟩) lP26).trans cP26_2
  replace cP26_3 := (hb37.cell (p := ⟨P26, 3, none⟩) lP26).trans cP26_3
  replace lP26 : P26 < W38.heap.size := Nat.lt_of_lt_of_le lP26 hz
  replace top := Nat.le_trans top hz
  clear hb37 hz
  go_wp2_with fail
  refine (toF_x _ X10 _ (g10 _ hwc) HN1.out).mono ?_; rintro e W52 ⟨p53, q54, rfl, hr, hb51⟩
  have RD55 := Lib.hid (RngFx.reads hr I10.out)
  clear hr
  have hz := hb51.size
  replace hwc := hwc.trans (hb51.mono hwc.size)
  replace cP26_0 := (hb51.cell (p := ⟨P26, 0, none⟩) lP26).trans cP26_0
  replace cP26_1 := (hb51.cell (p := ⟨P26, 1, none⟩) lP26).trans cP26_1
  replace cP26_2 := (hb51.cell (p := ⟨P26, 2, none⟩) lP26).trans cP26_2
  replace cP26_3 := (hb51.cell (p := ⟨P26, 3, none⟩) lP26).trans cP26_3
  replace lP26 : P26 < W52.heap.size := Nat.lt_of_lt_of_le lP26 hz
  replace RD47 := Lib.hid (RD47.out.below hb51)
  replace RD48 := Lib.hid (RD48.out.below hb51)
  replace RD49 := Lib.hid (RD49.out.below hb51)
  replace RD50 := Lib.hid (RD50.out.below hb51)
  replace top := Nat.le_trans top hz
  clear hb51 hz
  go_wp2_with fail
  refine (toF_x _ X20 _ (g20 _ hwc) HN2.out).mono ?_; rintro e W57 ⟨p58, q59, rfl, hr, hb56⟩
  have RD60 := Lib.hid (RngFx.reads hr I20.out)
  clear hr
  have hz := hb56.size
  replace hwc := hwc.trans (hb56.mono hwc.size)
  replace cP26_0 := (hb56.cell (p := ⟨P26, 0, none⟩) lP26).trans cP26_0
  replace cP26_1 := (hb56.cell (p := ⟨P26, 1, none⟩) lP26).trans cP26_1
  replace cP26_2 := (hb56.cell (p := ⟨P26, 2, none⟩) lP26).trans cP26_2
  replace cP26_3 := (hb56.cell (p := ⟨P26, 3, none⟩) lP26).trans cP26_3
  replace lP26 : P26 < W57.heap.size := Nat.lt_of_lt_of_le lP26 hz
  replace RD47 := Lib.hid (RD47.out.below hb56)
  replace RD48 := Lib.hid (RD48.out.below hb56)
  replace RD49 := Lib.hid (RD49.out.below hb56)
  replace RD50 := Lib.hid (RD50.out.below hb56)
  replace RD55 := Lib.hid (RD55.out.below hb56)
  replace top := Nat.le_trans top hz
  clear hb56 hz
  go_wp2_with fail
  refine (HS.out _ _ _ _ _ _ _ RD47.out RD48.out RD49.out RD50.out RD55.out RD60.out).mono ?_; rintro e W61 ⟨rfl, hb62⟩; dsimp only
  have hz := hb62.size
  replace hwc := hwc.trans (hb62.mono hwc.size)
  replace cP26_0 := (hb62.cell (p := ⟨P26, 0, none⟩) lP26).trans cP26_0
  replace cP26_1 := (hb62.cell (p := ⟨P26, 1, none⟩) lP26).trans cP26_1
  replace cP26_2 := (hb62.cell (p := ⟨P26, 2, none⟩) lP26).trans cP26_2
  replace cP26_3 := (hb62.cell (p := ⟨P26, 3, none⟩) lP26).trans cP26_3
  replace lP26 : P26 < W61.heap.size := Nat.lt_of_lt_of_le lP26 hz
  replace RD47 := Lib.hid (RD47.out.below hb62)
  replace RD48 := Lib.hid (RD48.out.below hb62)
  replace RD49 := Lib.hid (RD49.out.below hb62)
  replace RD50 := Lib.hid (RD50.out.below hb62)
  replace RD55 := Lib.hid (RD55.out.below hb62)
  replace RD60 := Lib.hid (RD60.out.below hb62)
  replace top := Nat.le_trans top hz
  clear hb62 hz
  clear RD47 RD48 RD49 RD50 RD55 RD60
  go_wp2_with fail
  obtain ⟨N63, hN63⟩ : ∃ N63, N63 = W61.heap.size := ⟨_, rfl⟩
  have CN63 := Lib.hid (show N27 ≤ N63 from by rw [hN63]; exact top)
  have top' : N63 ≤ W61.heap.size := Nat.le_of_eq hN63
  clear top
  have top := top'
  clear top'
  refine (toW_x _ _ _ _ X00 X01 X02 X03 _ (g00 _ hwc) (g01 _ hwc) (g02 _ hwc) (g03 _ hwc) HN0.out).mono ?_; rintro e W65 ⟨p66, q67, p68, q69, p70, q71, p72, q73, rfl, hr, hb64⟩
  rw [← hN63] at hr
  clear hN63
  have hz := hb64.size
  replace hwc := hwc.trans (hb64.mono hwc.size)
  replace cP26_0 := (hb64.cell (p := ⟨P26, 0, none⟩) lP26).trans cP26_0
  replace cP26_1 := (hb64.cell (p := ⟨P26, 1, none⟩) lP26).trans cP26_1
  replace cP26_2 := (hb64.cell (p := ⟨P26, 2, none⟩) lP26).trans cP26_2
  replace cP26_3 := (hb64.cell (p := ⟨P26, 3, none⟩) lP26).trans cP26_3
  replace lP26 : P26 < W65.heap.size := Nat.lt_of_lt_of_le lP26 hz
  replace top := Nat.le_trans top hz
  clear hb64 hz
  obtain ⟨N74, hN74⟩ : ∃ N74, N74 = W65.heap.size := ⟨_, rfl⟩
  have CN74 := Lib.hid (show N63 ≤ N74 from by rw [hN74]; exact top)
  have top' : N74 ≤ W65.heap.size := Nat.le_of_eq hN74
  clear top
  have top := top'
  clear top'
  rw [← hN74] at hr
  clear hN74
  have HX75 := Lib.hid hr
  clear hr
  go_wp2_with fail
  obtain ⟨W76, hW76⟩ : ∃ w', w' = (W65.alloc (.cells #[.slice p66 (X00).length q67, .slice p68 (X01).length q69, .slice p70 (X02).length q71, .slice p72 (X03).length q73] 54)) := ⟨_, rfl⟩
  rw [← hW76]
  have hbx : Below W65.heap.size W65 W76 := by rw [hW76]; exact ((Below.refl _ _).alloc (by simp) _)
  obtain ⟨P77, hP77⟩ : ∃ n, n = W65.heap.size := ⟨_, rfl⟩
  have cP77_0 : W76.cell? ⟨P77, 0, none⟩ = some (.slice p66 (X00).length q67) := by rw [hW76, hP77]; simp [go_sem]
  have cP77_1 : W76.cell? ⟨P77, 1, none⟩ = some (.slice p68 (X01).length q69) := by rw [hW76, hP77]; simp [go_sem]
  have cP77_2 : W76.cell? ⟨P77, 2, none⟩ = some (.slice p70 (X02).length q71) := by rw [hW76, hP77]; simp [go_sem]
  have cP77_3 : W76.cell? ⟨P77, 3, none⟩ = some (.slice p72 (X03).length q73) := by rw [hW76, hP77]; simp [go_sem]
  have lP77 : P77 < W76.heap.size := by rw [hW76, hP77]; simp
  have CP77 := Lib.hid (show N74 ≤ P77 from by rw [hP77]; exact top)
  rw [← hP77]
  clear hP77 hW76
  have hz := hbx.size
  replace hwc := hwc.trans (hbx.mono hwc.size)
  replace cP26_0 := (hbx.cell (p := ⟨P26, 0, none⟩) lP26).trans cP26_0
  replace cP26_1 := (hbx.cell (p := ⟨P26, 1, none⟩) lP26).trans cP26_1
  replace cP26_2 := (hbx.cell (p := ⟨P26, 2, none⟩) lP26).trans cP26_2
  replace cP26_3 := (hbx.cell (p := ⟨P26, 3, none⟩) lP26).trans cP26_3
  replace lP26 : P26 < W76.heap.size := Nat.lt_of_lt_of_le lP26 hz
  replace HX75 := Lib.hid (HX75.out.below hbx (show N74 ≤ W65.heap.size from (by have := CP26.out; have := CN27.out; have := CN63.out; have := CN74.out; have := CP77.out; omega)))
  replace top := Nat.le_trans top hz
  clear hbx hz
  clear top
  obtain ⟨N78, hN78⟩ : ∃ n, n = W76.heap.size := ⟨_, rfl⟩
  have CN78 := Lib.hid (show P77 < N78 from by rw [hN78]; exact lP77)
  have top : N78 ≤ W76.heap.size := Nat.le_of_eq hN78
  clear hN78
  obtain ⟨N79, hN79⟩ : ∃ N79, N79 = W76.heap.size := ⟨_, rfl⟩
  have CN79 := Lib.hid (show N78 ≤ N79 from by rw [hN79]; exact top)
  have top' : N79 ≤ W76.heap.size := Nat.le_of_eq hN79
  clear top
  have top := top'
  clear top'
  refine (toF_x _ X10 _ (g10 _ hwc) HN1.out).mono ?_; rintro e W81 ⟨p82, q83, rfl, hr, hb80⟩
  rw [← hN79] at hr
  clear hN79
  have hz := hb80.size
  replace hwc := hwc.trans (hb80.mono hwc.size)
  replace cP26_0 := (hb80.cell (p := ⟨P26, 0, none⟩) lP26).trans cP26_0
  replace cP26_1 := (hb80.cell (p := ⟨P26, 1, none⟩) lP26).trans cP26_1
  replace cP26_2 := (hb80.cell (p := ⟨P26, 2, none⟩) lP26).trans cP26_2
  replace cP26_3 := (hb80.cell (p := ⟨P26, 3, none⟩) lP26).trans cP26_3
  replace lP26 : P26 < W81.heap.size := Nat.lt_of_lt_of_le lP26 hz
  replace cP77_0 := (hb80.cell (p := ⟨P77, 0, none⟩) lP77).trans cP77_0
  replace cP77_1 := (hb80.cell (p := ⟨P77, 1, none⟩) lP77).trans cP77_1
  replace cP77_2 := (hb80.cell (p := ⟨P77, 2, none⟩) lP77).trans cP77_2
  replace cP77_3 := (hb80.cell (p := ⟨P77, 3, none⟩) lP77).trans cP77_3
  replace lP77 : P77 < W81.heap.size := Nat.lt_of_lt_of_le lP77 hz
  replace HX75 := Lib.hid (HX75.out.below hb80 (show N74 ≤ W76.heap.size from (by have := CP26.out; have := CN27.out; have := CN63.out; have := CN74.out; have := CP77.out; have := CN78.out; have := CN79.out; omega)))
  replace top := Nat.le_trans top hz
  clear hb80 hz
  obtain ⟨N84, hN84⟩ : ∃ N84, N84 = W81.heap.size := ⟨_, rfl⟩
  have CN84 := Lib.hid (show N79 ≤ N84 from by rw [hN84]; exact top)
  have top' : N84 ≤ W81.heap.size := Nat.le_of_eq hN84
  clear top
  have top := top'
  clear top'
  rw [← hN84] at hr
  clear hN84
  have HX85 := Lib.hid hr
  clear hr
  go_wp2_with fail
  obtain ⟨N86, hN86⟩ : ∃ N86, N86 = W81.heap.size := ⟨_, rfl⟩
  have CN86 := Lib.hid (show N84 ≤ N86 from by rw [hN86]; exact top)
  have top' : N86 ≤ W81.heap.size := Nat.le_of_eq hN86
  clear top
  have top := top'
  clear top'
  refine (toF_x _ X20 _ (g20 _ hwc) HN2.out).mono ?_; rintro e W88 ⟨p89, q90, rfl, hr, hb87⟩
  rw [← hN86] at hr
  clear hN86
  have hz := hb87.size
  replace hwc := hwc.trans (hb87.mono hwc.size)
  replace cP26_0 := (hb87.cell (p := ⟨P26, 0, none⟩) lP26).trans cP26_0
  replace cP26_1 := (hb87.cell (p := ⟨P26, 1, none⟩) lP26).trans cP26_1
  replace cP26_2 := (hb87.cell (p := ⟨P26, 2, none⟩) lP26).trans cP26_2
  replace cP26_3 := (hb87.cell (p := ⟨P26, 3, none⟩) lP26).trans cP26_3
  replace lP26 : P26 < W88.heap.size := Nat.lt_of_lt_of_le lP26 hz
  replace cP77_0 := (hb87.cell (p := ⟨P77, 0, none⟩) lP77).trans cP77_0
  replace cP77_1 := (hb87.cell (p := ⟨P77, 1, none⟩) lP77).trans cP77_1
  replace cP77_2 := (hb87.cell (p := ⟨P77, 2, none⟩) lP77).trans cP77_2
  replace cP77_3 := (hb87.cell (p := ⟨P77, 3, none⟩) lP77).trans cP77_3
  replace lP77 : P77 < W88.heap.size := Nat.lt_of_lt_of_le lP77 hz
  replace HX75 := Lib.hid (HX75.out.below hb87 (show N74 ≤ W81.heap.size from (by have := CP26.out; have := CN27.out; have := CN63.out; have := CN74.out; have := CP77.out; have := CN78.out; have := CN79.out; have := CN84.out; have := CN86.out; omega)))
  replace HX85 := Lib.hid (HX85.out.below hb87 (show N84 ≤ W81.heap.size from (by have := CP26.out; have := CN27.out; have := CN63.out; have := CN74.out; have := CP77.out; have := CN78.out; have := CN79.out; have := CN84.out; have := CN86.out; omega)))
  replace top := Nat.le_trans top hz
  clear hb87 hz
  obtain ⟨N91, hN91⟩ : ∃ N91, N91 = W88.heap.size := ⟨_, rfl⟩
  have CN91 := Lib.hid (show N86 ≤ N91 from by rw [hN91]; exact top)
  have top' : N91 ≤ W88.heap.size := Nat.le_of_eq hN91
  clear top
  have top := top'
  clear top'
  rw [← hN91] at hr
  clear hN91
  have HX92 := Lib.hid hr
  clear hr
  have hrr := RngWx.reads HX75.out I00.out I01.out I02.out I03.out
  have RD93 := Lib.hid (hrr.1)
  have RD94 := Lib.hid (hrr.2.1)
  have RD95 := Lib.hid (hrr.2.2.1)
  have RD96 := Lib.hid (hrr.2.2.2)
  clear hrr
  have RD97 := Lib.hid (RngFx.reads HX85.out I10.out)
  have RD98 := Lib.hid (RngFx.reads HX92.out I20.out)
  go_wp2_with fail
  refine (HI.out _ _ _ _ _ _ _ RD93.out RD94.out RD95.out RD96.out RD97.out RD98.out).mono ?_; rintro e W99 ⟨rfl, hb100⟩; dsimp only
  have hz := hb100.size
  replace hwc := hwc.trans (hb100.mono hwc.size)
  replace cP26_0 := (hb100.cell (p := ⟨P26, 0, none⟩) lP26).trans cP26_0
  replace cP26_1 := (hb100.cell (p := ⟨P26, 1, none⟩) lP26).trans cP26_1
  replace cP26_2 := (hb100.cell (p := ⟨P26, 2, none⟩) lP26).trans cP26_2
  replace cP26_3 := (hb100.cell (p := ⟨P26, 3, none⟩) lP26).trans cP26_3
  replace lP26 : P26 < W99.heap.size := Nat.lt_of_lt_of_le lP26 hz
  replace cP77_0 := (hb100.cell (p := ⟨P77, 0, none⟩) lP77).trans cP77_0
  replace cP77_1 := (hb100.cell (p := ⟨P77, 1, none⟩) lP77).trans cP77_1
  replace cP77_2 := (hb100.cell (p := ⟨P77, 2, none⟩) lP77).trans cP77_2
  replace cP77_3 := (hb100.cell (p := ⟨P77, 3, none⟩) lP77).trans cP77_3
  replace lP77 : P77 < W99.heap.size := Nat.lt_of_lt_of_le lP77 hz
  replace RD93 := Lib.hid (RD93.out.below hb100)
  replace RD94 := Lib.hid (RD94.out.below hb100)
  replace RD95 := Lib.hid (RD95.out.below hb100)
  replace RD96 := Lib.hid (RD96.out.below hb100)
  replace RD97 := Lib.hid (RD97.out.below hb100)
  replace RD98 := Lib.hid (RD98.out.below hb100)
  replace HX75 := Lib.hid (HX75.out.below hb100 (show N74 ≤ W88.heap.size from (by have := CP26.out; have := CN27.out; have := CN63.out; have := CN74.out; have := CP77.out; have := CN78.out; have := CN79.out; have := CN84.out; have := CN86.out; have := CN91.out; omega)))
  replace HX85 := Lib.hid (HX85.out.below hb100 (show N84 ≤ W88.heap.size from (by have := CP26.out; have := CN27.out; have := CN63.out; have := CN74.out; have := CP77.out; have := CN78.out; have := CN79.out; have := CN84.out; have := CN86.out; have := CN91.out; omega)))
  replace HX92 := Lib.hid (HX92.out.below hb100 (show N91 ≤ W88.heap.size from (by have := CP26.out; have := CN27.out; have := CN63.out; have := CN74.out; have := CP77.out; have := CN78.out; have := CN79.out; have := CN84.out; have := CN86.out; have := CN91.out; omega)))
  replace top := Nat.le_trans top hz
  clear hb100 hz
  clear RD93 RD94 RD95 RD96 RD97 RD98
  have hrr := RngWx.reads HX75.out I00.out I01.out I02.out I03.out
  have RX101 := Lib.hid (hrr.1)
  have RX102 := Lib.hid (hrr.2.1)
  have RX103 := Lib.hid (hrr.2.2.1)
  have RX104 := Lib.hid (hrr.2.2.2)
  clear hrr
  have rp0 := fun (w' : World) (h : Below W99.heap.size W99 w') => (h.cell (p := ⟨P26, 0, none⟩) lP26).trans cP26_0
  have rp1 := fun (w' : World) (h : Below W99.heap.size W99 w') => (h.cell (p := ⟨P26, 1, none⟩) lP26).trans cP26_1
  have rp2 := fun (w' : World) (h : Below W99.heap.size W99 w') => (h.cell (p := ⟨P26, 2, none⟩) lP26).trans cP26_2
  have rp3 := fun (w' : World) (h : Below W99.heap.size W99 w') => (h.cell (p := ⟨P26, 3, none⟩) lP26).trans cP26_3
  have rv0 := fun (w' : World) (h : Below W99.heap.size W99 w') => (h.cell (p := ⟨P77, 0, none⟩) lP77).trans cP77_0
  have rv1 := fun (w' : World) (h : Below W99.heap.size W99 w') => (h.cell (p := ⟨P77, 1, none⟩) lP77).trans cP77_1
  have rv2 := fun (w' : World) (h : Below W99.heap.size W99 w') => (h.cell (p := ⟨P77, 2, none⟩) lP77).trans cP77_2
  have rv3 := fun (w' : World) (h : Below W99.heap.size W99 w') => (h.cell (p := ⟨P77, 3, none⟩) lP77).trans cP77_3
  clear cP26_0 cP26_1 cP26_2 cP26_3
  clear cP77_0 cP77_1 cP77_2 cP77_3
  go_wp2_with fail
  have hz9 := hwc.size
  go_region_held3 (fun w' => Below W99.heap.size W99 w') ((repeat' (first | (with_reducible exact Below.refl _ _) | (with_reducible assumption) | (with_reducible refine Below.alloc ?_ ?_ _) | (with_reducible refine Below.drew ?_) | (with_reducible refine below_drewN ?_ _) | (with_reducible refine Below.setCell ?_ ?_ _) | (with_reducible refine Below.trans ?_ (Below.mono (by with_reducible assumption) ?_)) | (with_reducible exact Below.size (by with_reducible assumption)) | go_size)))
    (first | (go_at_call 38; refine (toW_x _ _ _ _ X00 X01 X02 X03 _ (g00 _ (hwc.trans (Below.mono (by assumption) hz9))) (g01 _ (hwc.trans (Below.mono (by assumption) hz9))) (g02 _ (hwc.trans (Below.mono (by assumption) hz9))) (g03 _ (hwc.trans (Below.mono (by assumption) hz9))) HN0.out).mono ?_; rintro e w8 ⟨p105, q106, p107, q108, p109, q110, p111, q112, rfl, hr8, hb8⟩; have hS8 : Below W99.heap.size W99 w8 := (by (repeat' (first | (with_reducible exact Below.refl _ _) | (with_reducible assumption) | (with_reducible refine Below.alloc ?_ ?_ _) | (with_reducible refine Below.drew ?_) | (with_reducible refine below_drewN ?_ _) | (with_reducible refine Below.setCell ?_ ?_ _) | (with_reducible refine Below.trans ?_ (Below.mono (by with_reducible assumption) ?_)) | (with_reducible exact Below.size (by with_reducible assumption)) | go_size))); have R8 := Lib.hid (RngWx.reads hr8 I00.out I01.out I02.out I03.out); clear hr8) | (go_at_call 40; refine (eqW_x _ _ _ _ _ _ _ _ X00 X01 X02 X03 _ (RX101.out.below hS8) (RX102.out.below hS8) (RX103.out.below hS8) (RX104.out.below hS8) (R8.out.1) (R8.out.2.1) (R8.out.2.2.1) (R8.out.2.2.2)).mono ?_; rintro e w9 ⟨rfl, hb9⟩; have hS9 : Below W99.heap.size W99 w9 := (by (repeat' (first | (with_reducible exact Below.refl _ _) | (with_reducible assumption) | (with_reducible refine Below.alloc ?_ ?_ _) | (with_reducible refine Below.drew ?_) | (with_reducible refine below_drewN ?_ _) | (with_reducible refine Below.setCell ?_ ?_ _) | (with_reducible refine Below.trans ?_ (Below.mono (by with_reducible assumption) ?_)) | (with_reducible exact Below.size (by with_reducible assumption)) | go_size)))))
  clear R8 hS8 hb8 hb9 hz9 RX101 RX102 RX103 RX104
  have cP26_0 := rp0 _ hS9
  have cP26_1 := rp1 _ hS9
  have cP26_2 := rp2 _ hS9
  have cP26_3 := rp3 _ hS9
  have cP77_0 := rv0 _ hS9
  have cP77_1 := rv1 _ hS9
  have cP77_2 := rv2 _ hS9
  have cP77_3 := rv3 _ hS9
  clear rp0 rp1 rp2 rp3 rv0 rv1 rv2 rv3
  have hS9' := hS9
  have lP9 := Nat.lt_of_lt_of_le lP26 hS9.size
  have lV9 := Nat.lt_of_lt_of_le lP77 hS9.size
  clear hS9 lP26 lP77
  have lP26 := lP9
  have lP77 := lV9
  clear lP9 lV9
  have hz := hS9'.size
  replace hwc := hwc.trans (hS9'.mono hwc.size)
  replace HX75 := Lib.hid (HX75.out.below hS9' (show N74 ≤ W99.heap.size from (by have := CP26.out; have := CN27.out; have := CN63.out; have := CN74.out; have := CP77.out; have := CN78.out; have := CN79.out; have := CN84.out; have := CN86.out; have := CN91.out; omega)))
  replace HX85 := Lib.hid (HX85.out.below hS9' (show N84 ≤ W99.heap.size from (by have := CP26.out; have := CN27.out; have := CN63.out; have := CN74.out; have := CP77.out; have := CN78.out; have := CN79.out; have := CN84.out; have := CN86.out; have := CN91.out; omega)))
  replace HX92 := Lib.hid (HX92.out.below hS9' (show N91 ≤ W99.heap.size from (by have := CP26.out; have := CN27.out; have := CN63.out; have := CN74.out; have := CP77.out; have := CN78.out; have := CN79.out; have := CN84.out; have := CN86.out; have := CN91.out; omega)))
  replace top := Nat.le_trans top hz
  clear hS9' hz
  obtain ⟨W113, rfl⟩ : ∃ w', w' = w9 := ⟨_, rfl⟩
  go_wp2_with fail
  refine (toF_x _ X10 _ (g10 _ hwc) HN1.out).mono ?_; rintro e W115 ⟨p116, q117, rfl, hr, hb114⟩
  have RT := Lib.hid hr
  clear hr
  have hz := hb114.size
  replace hwc := hwc.trans (hb114.mono hwc.size)
  replace cP26_0 := (hb114.cell (p := ⟨P26, 0, none⟩) lP26).trans cP26_0
  replace cP26_1 := (hb114.cell (p := ⟨P26, 1, none⟩) lP26).trans cP26_1
  replace cP26_2 := (hb114.cell (p := ⟨P26, 2, none⟩) lP26).trans cP26_2
  replace cP26_3 := (hb114.cell (p := ⟨P26, 3, none⟩) lP26).trans cP26_3
  replace lP26 : P26 < W115.heap.size := Nat.lt_of_lt_of_le lP26 hz
  replace cP77_0 := (hb114.cell (p := ⟨P77, 0, none⟩) lP77).trans cP77_0
  replace cP77_1 := (hb114.cell (p := ⟨P77, 1, none⟩) lP77).trans cP77_1
  replace cP77_2 := (hb114.cell (p := ⟨P77, 2, none⟩) lP77).trans cP77_2
  replace cP77_3 := (hb114.cell (p := ⟨P77, 3, none⟩) lP77).trans cP77_3
  replace lP77 : P77 < W115.heap.size := Nat.lt_of_lt_of_le lP77 hz
  replace HX75 := Lib.hid (HX75.out.below hb114 (show N74 ≤ W113.heap.size from (by have := CP26.out; have := CN27.out; have := CN63.out; have := CN74.out; have := CP77.out; have := CN78.out; have := CN79.out; have := CN84.out; have := CN86.out; have := CN91.out; omega)))
  replace HX85 := Lib.hid (HX85.out.below hb114 (show N84 ≤ W113.heap.size from (by have := CP26.out; have := CN27.out; have := CN63.out; have := CN74.out; have := CP77.out; have := CN78.out; have := CN79.out; have := CN84.out; have := CN86.out; have := CN91.out; omega)))
  replace HX92 := Lib.hid (HX92.out.below hb114 (show N91 ≤ W113.heap.size from (by have := CP26.out; have := CN27.out; have := CN63.out; have := CN74.out; have := CP77.out; have := CN78.out; have := CN79.out; have := CN84.out; have := CN86.out; have := CN91.out; omega)))
  replace top := Nat.le_trans top hz
  clear hb114 hz
  go_wp2_with fail
  refine (eqF_x _ _ X10 _ HX85.out RT.out I10.out HN1.out).mono ?_; rintro e W119 ⟨rfl, hb118⟩
  clear RT
  have hz := hb118.size
  replace hwc := hwc.trans (hb118.mono hwc.size)
  replace cP26_0 := (hb118.cell (p := ⟨P26, 0, none⟩) lP26).trans cP26_0
  replace cP26_1 := (hb118.cell (p := ⟨P26, 1, none⟩) lP26).trans cP26_1
  replace cP26_2 := (hb118.cell (p := ⟨P26, 2, none⟩) lP26).trans cP26_2
  replace cP26_3 := (hb118.cell (p := ⟨P26, 3, none⟩) lP26).trans cP26_3
  replace lP26 : P26 < W119.heap.size := Nat.lt_of_lt_of_le lP26 hz
  replace cP77_0 := (hb118.cell (p := ⟨P77, 0, none⟩) lP77).trans cP77_0
  replace cP77_1 := (hb118.cell (p := ⟨P77, 1, none⟩) lP77).trans cP77_1
  replace cP77_2 := (hb118.cell (p := ⟨P77, 2, none⟩) lP77).trans cP77_2
  replace cP77_3 := (hb118.cell (p := ⟨P77, 3, none⟩) lP77).trans cP77_3
  replace lP77 : P77 < W119.heap.size := Nat.lt_of_lt_of_le lP77 hz
  replace HX75 := Lib.hid (HX75.out.below hb118 (show N74 ≤ W115.heap.size from (by have := CP26.out; have := CN27.out; have := CN63.out; have := CN74.out; have := CP77.out; have := CN78.out; have := CN79.out; have := CN84.out; have := CN86.out; have := CN91.out; omega)))
  replace HX85 := Lib.hid (HX85.out.below hb118 (show N84 ≤ W115.heap.size from (by have := CP26.out; have := CN27.out; have := CN63.out; have := CN74.out; have := CP77.out; have := CN78.out; have := CN79.out; have := CN84.out; have := CN86.out; have := CN91.out; omega)))
  replace HX92 := Lib.hid (HX92.out.below hb118 (show N91 ≤ W115.heap.size from (by have := CP26.out; have := CN27.out; have := CN63.out; have := CN74.out; have := CP77.out; have := CN78.out; have := CN79.out; have := CN84.out; have := CN86.out; have := CN91.out; omega)))
  replace top := Nat.le_trans top hz
  clear hb118 hz
  go_wp2_with fail
  refine (toF_x _ X20 _ (g20 _ hwc) HN2.out).mono ?_; rintro e W121 ⟨p122, q123, rfl, hr, hb120⟩
  have RT := Lib.hid hr
  clear hr
  have hz := hb120.size
  replace hwc := hwc.trans (hb120.mono hwc.size)
  replace cP26_0 := (hb120.cell (p := ⟨P26, 0, none⟩) lP26).trans cP26_0
  replace cP26_1 := (hb120.cell (p := ⟨P26, 1, none⟩) lP26).trans cP26_1
  replace cP26_2 := (hb120.cell (p := ⟨P26, 2, none⟩) lP26).trans cP26_2
  replace cP26_3 := (hb120.cell (p := ⟨P26, 3, none⟩) lP26).trans cP26_3
  replace lP26 : P26 < W121.heap.size := Nat.lt_of_lt_of_le lP26 hz
  replace cP77_0 := (hb120.cell (p := ⟨P77, 0, none⟩) lP77).trans cP77_0
  replace cP77_1 := (hb120.cell (p := ⟨P77, 1, none⟩) lP77).trans cP77_1
  replace cP77_2 := (hb120.cell (p := ⟨P77, 2, none⟩) lP77).trans cP77_2
  replace cP77_3 := (hb120.cell (p := ⟨P77, 3, none⟩) lP77).trans cP77_3
  replace lP77 : P77 < W121.heap.size := Nat.lt_of_lt_of_le lP77 hz
  replace HX75 := Lib.hid (HX75.out.below hb120 (show N74 ≤ W119.heap.size from (by have := CP26.out; have := CN27.out; have := CN63.out; have := CN74.out; have := CP77.out; have := CN78.out; have := CN79.out; have := CN84.out; have := CN86.out; have := CN91.out; omega)))
  replace HX85 := Lib.hid (HX85.out.below hb120 (show N84 ≤ W119.heap.size from (by have := CP26.out; have := CN27.out; have := CN63.out; have := CN74.out; have := CP77.out; have := CN78.out; have := CN79.out; have := CN84.out; have := CN86.out; have := CN91.out; omega)))
  replace HX92 := Lib.hid (HX92.out.below hb120 (show N91 ≤ W119.heap.size from (by have := CP26.out; have := CN27.out; have := CN63.out; have := CN74.out; have := CP77.out; have := CN78.out; have := CN79.out; have := CN84.out; have := CN86.out; have := CN91.out; omega)))
  replace top := Nat.le_trans top hz
  clear hb120 hz
  go_wp2_with fail
  refine (eqF_x _ _ X20 _ HX92.out RT.out I20.out HN2.out).mono ?_; rintro e W125 ⟨rfl, hb124⟩
  clear RT
  have hz := hb124.size
  replace hwc := hwc.trans (hb124.mono hwc.size)
  replace cP26_0 := (hb124.cell (p := ⟨P26, 0, none⟩) lP26).trans cP26_0
  replace cP26_1 := (hb124.cell (p := ⟨P26, 1, none⟩) lP26).trans cP26_1
  replace cP26_2 := (hb124.cell (p := ⟨P26, 2, none⟩) lP26).trans cP26_2
  replace cP26_3 := (hb124.cell (p := ⟨P26, 3, none⟩) lP26).trans cP26_3
  replace lP26 : P26 < W125.heap.size := Nat.lt_of_lt_of_le lP26 hz
  replace cP77_0 := (hb124.cell (p := ⟨P77, 0, none⟩) lP77).trans cP77_0
  replace cP77_1 := (hb124.cell (p := ⟨P77, 1, none⟩) lP77).trans cP77_1
  replace cP77_2 := (hb124.cell (p := ⟨P77, 2, none⟩) lP77).trans cP77_2
  replace cP77_3 := (hb124.cell (p := ⟨P77, 3, none⟩) lP77).trans cP77_3
  replace lP77 : P77 < W125.heap.size := Nat.lt_of_lt_of_le lP77 hz
  replace HX75 := Lib.hid (HX75.out.below hb124 (show N74 ≤ W121.heap.size from (by have := CP26.out; have := CN27.out; have := CN63.out; have := CN74.out; have := CP77.out; have := CN78.out; have := CN79.out; have := CN84.out; have := CN86.out; have := CN91.out; omega)))
  replace HX85 := Lib.hid (HX85.out.below hb124 (show N84 ≤ W121.heap.size from (by have := CP26.out; have := CN27.out; have := CN63.out; have := CN74.out; have := CP77.out; have := CN78.out; have := CN79.out; have := CN84.out; have := CN86.out; have := CN91.out; omega)))
  replace HX92 := Lib.hid (HX92.out.below hb124 (show N91 ≤ W121.heap.size from (by have := CP26.out; have := CN27.out; have := CN63.out; have := CN74.out; have := CP77.out; have := CN78.out; have := CN79.out; have := CN84.out; have := CN86.out; have := CN91.out; omega)))
  replace top := Nat.le_trans top hz
  clear hb124 hz
  go_wp2_with fail
  go_ret
  exact ⟨rfl, hwc⟩
end Go.Proofs.Ytgncaploccbfnaa.PW
