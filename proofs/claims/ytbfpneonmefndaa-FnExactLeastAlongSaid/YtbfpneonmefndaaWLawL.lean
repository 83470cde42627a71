/-
  The exact law of LeastAlong: whatever the program and the numbers, the program answers as the model, and leaves them as they were.
-/
import Derived.Test.YtbfpneonmefndaaWLes
import Derived.Test.YtbfpneonmefndaaWLei
import Derived.Test.YtbfpneonmefndaaLKW
import Derived.Test.YtbfpneonmefndaaLKX
namespace Go.Proofs.Ytbfpneonmefndaa.PW
open Go.RowKit Go.Proofs.Ytbfpneonmefndaa
open Go.Proofs.Ytbfpneonmefndaa.PM
set_option maxHeartbeats 8000000 in
theorem law_FnExactLeastAlong (v00 v01 v02 v03 : Value) (X00 : List (List Int)) (X01 : List Int) (X02 : List (List Int)) (X03 : List Int) (v10 : Value) (X10 : List Int) (v20 : Value) (X20 : List Int) (w : World) (h00 : PM.Rows w v00 X00) (h01 : Ints w v01 X01) (h02 : PM.Rows w v02 X02) (h03 : Ints w v03 X03) (h10 : Ints w v10 X10) (h20 : Ints w v20 X20) :
    Calls Try.prog 11 #[.agg #[v00, v01, v02, v03], v10, v20] w fun e w' => e = .returned (.bool true) ∧ Below w.heap.size w w' := by
  have g00 := fun (w' : World) (h : Below w.heap.size w w') => h00.below h
  have I00 := Lib.hid (rows_I64 h00)
  obtain ⟨a00, c00, rfl, _⟩ := h00
  have g01 := fun (w' : World) (h : Below w.heap.size w w') => h01.below h
  have I01 := Lib.hid (ints_I64 h01)
  obtain ⟨a01, c01, rfl, _⟩ := h01
  have g02 := fun (w' : World) (h : Below w.heap.size w w') => h02.below h
  have I02 := Lib.hid (rows_I64 h02)
  obtain ⟨a02, c02, rfl, _⟩ := h02
  have g03 := fun (w' : World) (h : Below w.heap.size w w') => h03.below h
  have I03 := Lib.hid (ints_I64 h03)
  obtain ⟨a03, c03, rfl, _⟩ := h03
  have g10 := fun (w' : World) (h : Below w.heap.size w w') => h10.below h
  have I10 := Lib.hid (ints_I64 h10)
  obtain ⟨a10, c10, rfl, _⟩ := h10
  have g20 := fun (w' : World) (h : Below w.heap.size w w') => h20.below h
  have I20 := Lib.hid (ints_I64 h20)
  obtain ⟨a20, c20, rfl, _⟩ := h20
  by_cases hz0 : szI (szWn X00 X01 X02 X03) 1048576 < 0
  · have E1 := Lib.hid (szx_neg hz0)
    clear hz0
    go_enter Try.func11, Try.ntmps11
    have hwc : Below w.heap.size w w := Below.refl _ _
    go_wp2_with fail
    obtain ⟨W1, hW1⟩ : ∃ w', w' = (w.alloc (.cells #[.slice a00 (X00).length c00, .slice a01 (X01).length c01, .slice a02 (X02).length c02, .slice a03 (X03).length c03] 51)) := ⟨_, rfl⟩
    rw [← hW1]
    have hbx : Below w.heap.size w W1 := by rw [hW1]; exact ((Below.refl _ _).alloc (by simp) _)
    obtain ⟨P2, hP2⟩ : ∃ n, n = w.heap.size := ⟨_, rfl⟩
    have cP2_0 : W1.cell? ⟨P2, 0, none⟩ = some (.slice a00 (X00).length c00) := by rw [hW1, hP2]; simp [go_sem]
    have cP2_1 : W1.cell? ⟨P2, 1, none⟩ = some (.slice a01 (X01).length c01) := by rw [hW1, hP2]; simp [go_sem]
    have cP2_2 : W1.cell? ⟨P2, 2, none⟩ = some (.slice a02 (X02).length c02) := by rw [hW1, hP2]; simp [go_sem]
    have cP2_3 : W1.cell? ⟨P2, 3, none⟩ = some (.slice a03 (X03).length c03) := by rw [hW1, hP2]; simp [go_sem]
    have lP2 : P2 < W1.heap.size := by rw [hW1, hP2]; simp
    have CP2 := Lib.hid (show w.heap.size ≤ P2 from by rw [hP2]; exact hwc.size)
    rw [← hP2]
    clear hP2 hW1
    have hz := hbx.size
    replace hwc := hwc.trans (hbx.mono hwc.size)
    clear hbx hz
    obtain ⟨N3, hN3⟩ : ∃ n, n = W1.heap.size := ⟨_, rfl⟩
    have CN3 := Lib.hid (show P2 < N3 from by rw [hN3]; exact lP2)
    have top : N3 ≤ W1.heap.size := Nat.le_of_eq hN3
    clear hN3
    refine (szW_x _ _ _ _ X00 X01 X02 X03 _ _ (g00 _ hwc) (g01 _ hwc) (g02 _ hwc) (g03 _ hwc) (by omega) (by omega)).mono ?_; rw [E1.out]; rintro e W5 ⟨rfl, hb4⟩
    have hz := hb4.size
    replace hwc := hwc.trans (hb4.mono hwc.size)
    replace cP2_0 := (hb4.cell (p := ⟨P2, 0, none⟩) lP2).trans cP2_0
    replace cP2_1 := (hb4.cell (p := ⟨P2, 1, none⟩) lP2).trans cP2_1
    replace cP2_2 := (hb4.cell (p := ⟨P2, 2, none⟩) lP2).trans cP2_2
    replace cP2_3 := (hb4.cell (p := ⟨P2, 3, none⟩) lP2).trans cP2_3
    replace lP2 : P2 < W5.heap.size := Nat.lt_of_lt_of_le lP2 hz
    replace top := Nat.le_trans top hz
    clear hb4 hz
    go_wp2_with fail
    go_ret
    exact ⟨rfl, hwc⟩
  obtain ⟨hf0, hle0⟩ := szx_fits hz0
  have hn0 : (szWn X00 X01 X02 X03) ≤ 1048576 := by omega
  have HN0 := Lib.hid hn0
  clear hn0 hf0
  by_cases hz1 : szI (X10).length (szI (szWn X00 X01 X02 X03) 1048576) < 0
  · have E1 := Lib.hid (szx_neg hz1)
    clear hz1
    go_enter Try.func11, Try.ntmps11
    have hwc : Below w.heap.size w w := Below.refl _ _
    go_wp2_with fail
    obtain ⟨W6, hW6⟩ : ∃ w', w' = (w.alloc (.cells #[.slice a00 (X00).length c00, .slice a01 (X01).length c01, .slice a02 (X02).length c02, .slice a03 (X03).length c03] 51)) := ⟨_, rfl⟩
    rw [← hW6]
    have hbx : Below w.heap.size w W6 := by rw [hW6]; exact ((Below.refl _ _).alloc (by simp) _)
    obtain ⟨P7, hP7⟩ : ∃ n, n = w.heap.size := ⟨_, rfl⟩
    have cP7_0 : W6.cell? ⟨P7, 0, none⟩ = some (.slice a00 (X00).length c00) := by rw [hW6, hP7]; simp [go_sem]
    have cP7_1 : W6.cell? ⟨P7, 1, none⟩ = some (.slice a01 (X01).length c01) := by rw [hW6, hP7]; simp [go_sem]
    have cP7_2 : W6.cell? ⟨P7, 2, none⟩ = some (.slice a02 (X02).length c02) := by rw [hW6, hP7]; simp [go_sem]
    have cP7_3 : W6.cell? ⟨P7, 3, none⟩ = some (.slice a03 (X03).length c03) := by rw [hW6, hP7]; simp [go_sem]
    have lP7 : P7 < W6.heap.size := by rw [hW6, hP7]; simp
    have CP7 := Lib.hid (show w.heap.size ≤ P7 from by rw [hP7]; exact hwc.size)
    rw [← hP7]
    clear hP7 hW6
    have hz := hbx.size
    replace hwc := hwc.trans (hbx.mono hwc.size)
    clear hbx hz
    obtain ⟨N8, hN8⟩ : ∃ n, n = W6.heap.size := ⟨_, rfl⟩
    have CN8 := Lib.hid (show P7 < N8 from by rw [hN8]; exact lP7)
    have top : N8 ≤ W6.heap.size := Nat.le_of_eq hN8
    clear hN8
    refine (szW_x _ _ _ _ X00 X01 X02 X03 _ _ (g00 _ hwc) (g01 _ hwc) (g02 _ hwc) (g03 _ hwc) (by omega) (by omega)).mono ?_; rintro e W10 ⟨rfl, hb9⟩
    have hz := hb9.size
    replace hwc := hwc.trans (hb9.mono hwc.size)
    replace cP7_0 := (hb9.cell (p := ⟨P7, 0, none⟩) lP7).trans cP7_0
    replace cP7_1 := (hb9.cell (p := ⟨P7, 1, none⟩) lP7).trans cP7_1
    replace cP7_2 := (hb9.cell (p := ⟨P7, 2, none⟩) lP7).trans cP7_2
    replace cP7_3 := (hb9.cell (p := ⟨P7, 3, none⟩) lP7).trans cP7_3
    replace lP7 : P7 < W10.heap.size := Nat.lt_of_lt_of_le lP7 hz
    replace top := Nat.le_trans top hz
    clear hb9 hz
    generalize szI (szWn X00 X01 X02 X03) 1048576 = lf11 at *
    go_wp2_with fail
    refine (szI_x _ X10 _ _ (g10 _ hwc) (by omega) (by omega)).mono ?_; rw [E1.out]; rintro e W13 ⟨rfl, hb12⟩
    have hz := hb12.size
    replace hwc := hwc.trans (hb12.mono hwc.size)
    replace cP7_0 := (hb12.cell (p := ⟨P7, 0, none⟩) lP7).trans cP7_0
    replace cP7_1 := (hb12.cell (p := ⟨P7, 1, none⟩) lP7).trans cP7_1
    replace cP7_2 := (hb12.cell (p := ⟨P7, 2, none⟩) lP7).trans cP7_2
    replace cP7_3 := (hb12.cell (p := ⟨P7, 3, none⟩) lP7).trans cP7_3
    replace lP7 : P7 < W13.heap.size := Nat.lt_of_lt_of_le lP7 hz
    replace top := Nat.le_trans top hz
    clear hb12 hz
    go_wp2_with fail
    go_ret
    exact ⟨rfl, hwc⟩
  obtain ⟨hf1, hle1⟩ := szx_fits hz1
  have hn1 : (X10).length ≤ 1048576 := by omega
  have HN1 := Lib.hid hn1
  clear hn1 hf1
  by_cases hz2 : szI (X20).length (szI (X10).length (szI (szWn X00 X01 X02 X03) 1048576)) < 0
  · have E1 := Lib.hid (szx_neg hz2)
    clear hz2
    go_enter Try.func11, Try.ntmps11
    have hwc : Below w.heap.size w w := Below.refl _ _
    go_wp2_with fail
    obtain ⟨W14, hW14⟩ : ∃ w', w' = (w.alloc (.cells #[.slice a00 (X00).length c00, .slice a01 (X01).length c01, .slice a02 (X02).length c02, .slice a03 (X03).length c03] 51)) := ⟨_, rfl⟩
    rw [← hW14]
    have hbx : Below w.heap.size w W14 := by rw [hW14]; exact ((Below.refl _ _).alloc (by simp) _)
    obtain ⟨P15, hP15⟩ : ∃ n, n = w.heap.size := ⟨_, rfl⟩
    have cP15_0 : W14.cell? ⟨P15, 0, none⟩ = some (.slice a00 (X00).length c00) := by rw [hW14, hP15]; simp [go_sem]
    have cP15_1 : W14.cell? ⟨P15, 1, none⟩ = some (.slice a01 (X01).length c01) := by rw [hW14, hP15]; simp [go_sem]
    have cP15_2 : W14.cell? ⟨P15, 2, none⟩ = some (.slice a02 (X02).length c02) := by rw [hW14, hP15]; simp [go_sem]
    have cP15_3 : W14.cell? ⟨P15, 3, none⟩ = some (.slice a03 (X03).length c03) := by rw [hW14, hP15]; simp [go_sem]
    have lP15 : P15 < W14.heap.size := by rw [hW14, hP15]; simp
    have CP15 := Lib.hid (show w.heap.size ≤ P15 from by rw [hP15]; exact hwc.size)
    rw [← hP15]
    clear hP15 hW14
    have hz := hbx.size
    replace hwc := hwc.trans (hbx.mono hwc.size)
    clear hbx hz
    obtain ⟨N16, hN16⟩ : ∃ n, n = W14.heap.size := ⟨_, rfl⟩
    have CN16 := Lib.hid (show P15 < N16 from by rw [hN16]; exact lP15)
    have top : N16 ≤ W14.heap.size := Nat.le_of_eq hN16
    clear hN16
    refine (szW_x _ _ _ _ X00 X01 X02 X03 _ _ (g00 _ hwc) (g01 _ hwc) (g02 _ hwc) (g03 _ hwc) (by omega) (by omega)).mono ?_; rintro e W18 ⟨rfl, hb17⟩
    have hz := hb17.size
    replace hwc := hwc.trans (hb17.mono hwc.size)
    replace cP15_0 := (hb17.cell (p := ⟨P15, 0, none⟩) lP15).trans cP15_0
    replace cP15_1 := (hb17.cell (p := ⟨P15, 1, none⟩) lP15).trans cP15_1
    replace cP15_2 := (hb17.cell (p := ⟨P15, 2, none⟩) lP15).trans cP15_2
    replace cP15_3 := (hb17.cell (p := ⟨P15, 3, none⟩) lP15).trans cP15_3
    replace lP15 : P15 < W18.heap.size := Nat.lt_of_lt_of_le lP15 hz
    replace top := Nat.le_trans top hz
    clear hb17 hz
    generalize szI (szWn X00 X01 X02 X03) 1048576 = lf19 at *
    go_wp2_with fail
    refine (szI_x _ X10 _ _ (g10 _ hwc) (by omega) (by omega)).mono ?_; rintro e W21 ⟨rfl, hb20⟩
    have hz := hb20.size
    replace hwc := hwc.trans (hb20.mono hwc.size)
    replace cP15_0 := (hb20.cell (p := ⟨P15, 0, none⟩) lP15).trans cP15_0
    replace cP15_1 := (hb20.cell (p := ⟨P15, 1, none⟩) lP15).trans cP15_1
    replace cP15_2 := (hb20.cell (p := ⟨P15, 2, none⟩) lP15).trans cP15_2
    replace cP15_3 := (hb20.cell (p := ⟨P15, 3, none⟩) lP15).trans cP15_3
    replace lP15 : P15 < W21.heap.size := Nat.lt_of_lt_of_le lP15 hz
    replace top := Nat.le_trans top hz
    clear hb20 hz
    generalize szI (X10).length lf19 = lf22 at *
    go_wp2_with fail
    refine (szI_x _ X20 _ _ (g20 _ hwc) (by omega) (by omega)).mono ?_; rw [E1.out]; rintro e W24 ⟨rfl, hb23⟩
    have hz := hb23.size
    replace hwc := hwc.trans (hb23.mono hwc.size)
    replace cP15_0 := (hb23.cell (p := ⟨P15, 0, none⟩) lP15).trans cP15_0
    replace cP15_1 := (hb23.cell (p := ⟨P15, 1, none⟩) lP15).trans cP15_1
    replace cP15_2 := (hb23.cell (p := ⟨P15, 2, none⟩) lP15).trans cP15_2
    replace cP15_3 := (hb23.cell (p := ⟨P15, 3, none⟩) lP15).trans cP15_3
    replace lP15 : P15 < W24.heap.size := Nat.lt_of_lt_of_le lP15 hz
    replace top := Nat.le_trans top hz
    clear hb23 hz
    go_wp2_with fail
    go_ret
    exact ⟨rfl, hwc⟩
  obtain ⟨hf2, hle2⟩ := szx_fits hz2
  have hn2 : (X20).length ≤ 1048576 := by omega
  have HN2 := Lib.hid hn2
  clear hn2 hf2
  have hspec := fun (v00 v01 v02 v03 v10 v20 : Value) (w : World) (h0 : PM.Rows w v00 X00) (h1 : Ints w v01 X01) (h2 : PM.Rows w v02 X02) (h3 : Ints w v03 X03) (h4 : Ints w v10 X10) (h5 : Ints w v20 X20) => specLeastAlong_any v00 v01 v02 v03 v10 v20 X00 X01 X02 X03 X10 X20  w h0 h1 h2 h3 h4 h5 HN0.out
  have himpl := fun (v00 v01 v02 v03 v10 v20 : Value) (w : World) (h0 : PM.Rows w v00 X00) (h1 : Ints w v01 X01) (h2 : PM.Rows w v02 X02) (h3 : Ints w v03 X03) (h4 : Ints w v10 X10) (h5 : Ints w v20 X20) => implLeastAlong_any v00 v01 v02 v03 v10 v20 X00 X01 X02 X03 X10 X20  w h0 h1 h2 h3 h4 h5 HN0.out
  generalize laOut X00 X01 X02 X03 X10 X20  = o at *
  obtain ⟨⟨n0, d0⟩, ⟨n1, d1⟩, o2⟩ := o
  have HS := Lib.hid hspec
  have HI := Lib.hid himpl
  clear hspec himpl
  go_enter Try.func11, Try.ntmps11
  have hwc : Below w.heap.size w w := Below.refl _ _
  go_wp2_with fail
  obtain ⟨W25, hW25⟩ : ∃ w', w' = (w.alloc (.cells #[.slice a00 (X00).length c00, .slice a01 (X01).length c01, .slice a02 (X02).length c02, .slice a03 (X03).length c03] 51)) := ⟨_, rfl⟩
  rw [← hW25]
  have hbx : Below w.heap.size w W25 := by rw [hW25]; exact ((Below.refl _ _).alloc (by simp) _)
  obtain ⟨P26, hP26⟩ : ∃ n, n = w.heap.size := ⟨_, rfl⟩
  have cP26_0 : W25.cell? ⟨P26, 0, none⟩ = some (.slice a00 (X00).length c00) := by rw [hW25, hP26]; simp [go_sem]
  have cP26_1 : W25.cell? ⟨P26, 1, none⟩ = some (.slice a01 (X01).length c01) := by rw [hW25, hP26]; simp [go_sem]
  have cP26_2 : W25.cell? ⟨P26, 2, none⟩ = some (.slice a02 (X02).length c02) := by rw [hW25, hP26]; simp [go_sem]
  have cP26_3 : W25.cell? ⟨P26, 3, none⟩ = some (.slice a03 (X03).length c03) := by rw [hW25, hP26]; simp [go_sem]
  have lP26 : P26 < W25.heap.size := by rw [hW25, hP26]; simp
  have CP26 := Lib.hid (show w.heap.size ≤ P26 from by rw [hP26]; exact hwc.size)
  rw [← hP26]
  clear hP26 hW25
  have hz := hbx.size
  replace hwc := hwc.trans (hbx.mono hwc.size)
  clear hbx hz
  obtain ⟨N27, hN27⟩ : ∃ n, n = W25.heap.size := ⟨_, rfl⟩
  have CN27 := Lib.hid (show P26 < N27 from by rw [hN27]; exact lP26)
  have top : N27 ≤ W25.heap.size := Nat.le_of_eq hN27
  clear hN27
  refine (szW_x _ _ _ _ X00 X01 X02 X03 _ _ (g00 _ hwc) (g01 _ hwc) (g02 _ hwc) (g03 _ hwc) (by omega) (by omega)).mono ?_; rintro e W29 ⟨rfl, hb28⟩
  have hz := hb28.size
  replace hwc := hwc.trans (hb28.mono hwc.size)
  replace cP26_0 := (hb28.cell (p := ⟨P26, 0, none⟩) lP26).trans cP26_0
  replace cP26_1 := (hb28.cell (p := ⟨P26, 1, none⟩) lP26).trans cP26_1
  replace cP26_2 := (hb28.cell (p := ⟨P26, 2, none⟩) lP26).trans cP26_2
  replace cP26_3 := (hb28.cell (p := ⟨P26, 3, none⟩) lP26).trans cP26_3
  replace lP26 : P26 < W29.heap.size := Nat.lt_of_lt_of_le lP26 hz
  replace top := Nat.le_trans top hz
  clear hb28 hz
  generalize szI (szWn X00 X01 X02 X03) 1048576 = lf30 at *
  go_wp2_with fail
  refine (szI_x _ X10 _ _ (g10 _ hwc) (by omega) (by omega)).mono ?_; rintro e W32 ⟨rfl, hb31⟩
  have hz := hb31.size
  replace hwc := hwc.trans (hb31.mono hwc.size)
  replace cP26_0 := (hb31.cell (p := ⟨P26, 0, none⟩) lP26).trans cP26_0
  replace cP26_1 := (hb31.cell (p := ⟨P26, 1, none⟩) lP26).trans cP26_1
  replace cP26_2 := (hb31.cell (p := ⟨P26, 2, none⟩) lP26).trans cP26_2
  replace cP26_3 := (hb31.cell (p := ⟨P26, 3, none⟩) lP26).trans cP26_3
  replace lP26 : P26 < W32.heap.size := Nat.lt_of_lt_of_le lP26 hz
  replace top := Nat.le_trans top hz
  clear hb31 hz
  generalize szI (X10).length lf30 = lf33 at *
  go_wp2_with fail
  refine (szI_x _ X20 _ _ (g20 _ hwc) (by omega) (by omega)).mono ?_; rintro e W35 ⟨rfl, hb34⟩
  have hz := hb34.size
  replace hwc := hwc.trans (hb34.mono hwc.size)
  replace cP26_0 := (hb34.cell (p := ⟨P26, 0, none⟩) lP26).trans cP26_0
  replace cP26_1 := (hb34.cell (p := ⟨P26, 1, none⟩) lP26).trans cP26_1
  replace cP26_2 := (hb34.cell (p := ⟨P26, 2, none⟩) lP26).trans cP26_2
  replace cP26_3 := (hb34.cell (p := ⟨P26, 3, none⟩) lP26).trans cP26_3
  replace lP26 : P26 < W35.heap.size := Nat.lt_of_lt_of_le lP26 hz
  replace top := Nat.le_trans top hz
  clear hb34 hz
  generalize szI (X20).length lf33 = lf36 at *
  go_wp2_with fail
  clear hz0 hle0 hz1 hle1 hz2 hle2
  refine (toW_x _ _ _ _ X00 X01 X02 X03 _ (g00 _ hwc) (g01 _ hwc) (g02 _ hwc) (g03 _ hwc) HN0.out).mono ?_; rintro e W38 ⟨p39, q40, p41, q42, p43, q44, p45, q46, rfl, hr, hb37⟩
  have hrr := RngWx.reads hr I00.out I01.out I02.out I03.out
  have RD47 := Lib.hid (hrr.1)
  have RD48 := Lib.hid (hrr.2.1)
  have RD49 := Lib.hid (hrr.2.2.1)
  have RD50 := Lib.hid (hrr.2.2.2)
  clear hrr
  clear hr
  have hz := hb37.size
  replace hwc := hwc.trans (hb37.mono hwc.size)
  replace cP26_0 := (hb37.cell (p := ⟨P26, 0, none⟩) lP26).trans cP26_0
  replace cP26_1 := (hb37.cell (p := ⟨P26, 1, none⟩) lP26).trans cP26_1
  replace cP26_2 := (hb37.cell (p := ⟨P26, 2, none⟩) lP26).trans cP26_2
  replace cP26_3 := (hb37.cell (p := ⟨P26, 3, none⟩) lP26).trans cP26_3
  replace lP26 : P26 < W38.heap.size := Nat.lt_of_lt_of_le lP26 hz
  replace top := Nat.le_trans top hz
  clear hb37 hz
  go_wp2_with fail
  refine (toI_x _ X10 _ (g10 _ hwc) HN1.out).mono ?_; rintro e W52 ⟨p53, q54, rfl, hr, hb51⟩
  have RD55 := Lib.hid (RngIx.reads hr I10.out)
  clear hr
  have hz := hb51.size
  replace hwc := hwc.trans (hb51.mono hwc.size)
  replace cP26_0 := (hb51.cell (p := ⟨P26, 0, none⟩) lP26).trans cP26_0
  replace cP26_1 := (hb51.cell (p := ⟨P26, 1, none⟩) lP26).trans cP26_1
  replace cP26_2 := (hb51.cell (p := ⟨P26, 2, none⟩) lP26).trans cP26_2
  replace cP26_3 := (hb51.cell (p := ⟨P26, 3, none⟩) lP26).trans cP26_3
  replace lP26 : P26 < W52.heap.size := Nat.lt_of_lt_of_le lP26 hz
  replace RD47 := Lib.hid (RD47.out.below hb51)
  replace RD48 := Lib.hid (RD48.out.below hb51)
  replace RD49 := Lib.hid (RD49.out.below hb51)
  replace RD50 := Lib.hid (RD50.out.below hb51)
  replace top := Nat.le_trans top hz
  clear hb51 hz
  go_wp2_with fail
  refine (toI_x _ X20 _ (g20 _ hwc) HN2.out).mono ?_; rintro e W57 ⟨p58, q59, rfl, hr, hb56⟩
  have RD60 := Lib.hid (RngIx.reads hr I20.out)
  clear hr
  have hz := hb56.size
  replace hwc := hwc.trans (hb56.mono hwc.size)
  replace cP26_0 := (hb56.cell (p := ⟨P26, 0, none⟩) lP26).trans cP26_0
  replace cP26_1 := (hb56.cell (p := ⟨P26, 1, none⟩) lP26).trans cP26_1
  replace cP26_2 := (hb56.cell (p := ⟨P26, 2, none⟩) lP26).trans cP26_2
  replace cP26_3 := (hb56.cell (p := ⟨P26, 3, none⟩) lP26).trans cP26_3
  replace lP26 : P26 < W57.heap.size := Nat.lt_of_lt_of_le lP26 hz
  replace RD47 := Lib.hid (RD47.out.below hb56)
  replace RD48 := Lib.hid (RD48.out.below hb56)
  replace RD49 := Lib.hid (RD49.out.below hb56)
  replace RD50 := Lib.hid (RD50.out.below hb56)
  replace RD55 := Lib.hid (RD55.out.below hb56)
  replace top := Nat.le_trans top hz
  clear hb56 hz
  go_wp2_with fail
  refine (HS.out _ _ _ _ _ _ _ RD47.out RD48.out RD49.out RD50.out RD55.out RD60.out).mono ?_; rintro e W61 ⟨rfl, hb62⟩; dsimp only
  have hz := hb62.size
  replace hwc := hwc.trans (hb62.mono hwc.size)
  replace cP26_0 := (hb62.cell (p := ⟨P26, 0, none⟩) lP26).trans cP26_0
  replace cP26_1 := (hb62.cell (p := ⟨P26, 1, none⟩) lP26).trans cP26_1
  replace cP26_2 := (hb62.cell (p := ⟨P26, 2, none⟩) lP26).trans cP26_2
  replace cP26_3 := (hb62.cell (p := ⟨P26, 3, none⟩) lP26).trans cP26_3
  replace lP26 : P26 < W61.heap.size := Nat.lt_of_lt_of_le lP26 hz
  replace RD47 := Lib.hid (RD47.out.below hb62)
  replace RD48 := Lib.hid (RD48.out.below hb62)
  replace RD49 := Lib.hid (RD49.out.below hb62)
  replace RD50 := Lib.hid (RD50.out.below hb62)
  replace RD55 := Lib.hid (RD55.out.below hb62)
  replace RD60 := Lib.hid (RD60.out.below hb62)
  replace top := Nat.le_trans top hz
  clear hb62 hz
  go_wp2_with fail
  obtain ⟨W63, hW63⟩ : ∃ w', w' = ((W61.alloc (.cells #[.int .i64 n0, .int .i64 d0] 62)).alloc (.cells #[.int .i64 n1, .int .i64 d1] 62)) := ⟨_, rfl⟩
  rw [← hW63]
  have hbx : Below W61.heap.size W61 W63 := by rw [hW63]; exact (((Below.refl _ _).alloc (by simp) _).alloc (by simp) _)
  obtain ⟨P64, hP64⟩ : ∃ n, n = W61.heap.size := ⟨_, rfl⟩
  obtain ⟨P65, hP65⟩ : ∃ n, n = W61.heap.size + 1 := ⟨_, rfl⟩
  have cP64_0 : W63.cell? ⟨P64, 0, none⟩ = some (.int .i64 n0) := by rw [hW63, hP64]; simp [go_sem]
  have cP64_1 : W63.cell? ⟨P64, 1, none⟩ = some (.int .i64 d0) := by rw [hW63, hP64]; simp [go_sem]
  have lP64 : P64 < W63.heap.size := by rw [hW63, hP64]; simp <;> omega
  have CP64 := Lib.hid (show N27 ≤ P64 from by rw [hP64]; exact top)
  have cP65_0 : W63.cell? ⟨P65, 0, none⟩ = some (.int .i64 n1) := by rw [hW63, hP65]; simp [go_sem]
  have cP65_1 : W63.cell? ⟨P65, 1, none⟩ = some (.int .i64 d1) := by rw [hW63, hP65]; simp [go_sem]
  have lP65 : P65 < W63.heap.size := by rw [hW63, hP65]; simp
  have CP65 := Lib.hid (show P64 < P65 from by omega)
  rw [← hP65]
  rw [← hP64]
  clear hP65 hP64 hW63
  have hz := hbx.size
  replace hwc := hwc.trans (hbx.mono hwc.size)
  replace cP26_0 := (hbx.cell (p := ⟨P26, 0, none⟩) lP26).trans cP26_0
  replace cP26_1 := (hbx.cell (p := ⟨P26, 1, none⟩) lP26).trans cP26_1
  replace cP26_2 := (hbx.cell (p := ⟨P26, 2, none⟩) lP26).trans cP26_2
  replace cP26_3 := (hbx.cell (p := ⟨P26, 3, none⟩) lP26).trans cP26_3
  replace lP26 : P26 < W63.heap.size := Nat.lt_of_lt_of_le lP26 hz
  replace RD47 := Lib.hid (RD47.out.below hbx)
  replace RD48 := Lib.hid (RD48.out.below hbx)
  replace RD49 := Lib.hid (RD49.out.below hbx)
  replace RD50 := Lib.hid (RD50.out.below hbx)
  replace RD55 := Lib.hid (RD55.out.below hbx)
  replace RD60 := Lib.hid (RD60.out.below hbx)
  replace top := Nat.le_trans top hz
  clear hbx hz
  clear top
  obtain ⟨N66, hN66⟩ : ∃ n, n = W63.heap.size := ⟨_, rfl⟩
  have CN66 := Lib.hid (show P65 < N66 from by rw [hN66]; exact lP65)
  have top : N66 ≤ W63.heap.size := Nat.le_of_eq hN66
  clear hN66
  clear RD47 RD48 RD49 RD50 RD55 RD60
  obtain ⟨N67, hN67⟩ : ∃ N67, N67 = W63.heap.size := ⟨_, rfl⟩
  have CN67 := Lib.hid (show N66 ≤ N67 from by rw [hN67]; exact top)
  have top' : N67 ≤ W63.heap.size := Nat.le_of_eq hN67
  clear top
  have top := top'
  clear top'
  refine (toW_x _ _ _ _ X00 X01 X02 X03 _ (g00 _ hwc) (g01 _ hwc) (g02 _ hwc) (g03 _ hwc) HN0.out).mono ?_; rintro e W69 ⟨p70, q71, p72, q73, p74, q75, p76, q77, rfl, hr, hb68⟩
  rw [← hN67] at hr
  clear hN67
  have hz := hb68.size
  replace hwc := hwc.trans (hb68.mono hwc.size)
  replace cP26_0 := (hb68.cell (p := ⟨P26, 0, none⟩) lP26).trans cP26_0
  replace cP26_1 := (hb68.cell (p := ⟨P26, 1, none⟩) lP26).trans cP26_1
  replace cP26_2 := (hb68.cell (p := ⟨P26, 2, none⟩) lP26).trans cP26_2
  replace cP26_3 := (hb68.cell (p := ⟨P26, 3, none⟩) lP26).trans cP26_3
  replace lP26 : P26 < W69.heap.size := Nat.lt_of_lt_of_le lP26 hz
  replace cP64_0 := (hb68.cell (p := ⟨P64, 0, none⟩) lP64).trans cP64_0
  replace cP64_1 := (hb68.cell (p := ⟨P64, 1, none⟩) lP64).trans cP64_1
  replace lP64 : P64 < W69.heap.size := Nat.lt_of_lt_of_le lP64 hz
  replace cP65_0 := (hb68.cell (p := ⟨P65, 0, none⟩) lP65).trans cP65_0
  replace cP65_1 := (hb68.cell (p := ⟨P65, 1, none⟩) lP65).trans cP65_1
  replace lP65 : P65 < W69.heap.size := Nat.lt_of_lt_of_le lP65 hz
  replace top := Nat.le_trans top hz
  clear hb68 hz
  obtain ⟨N78, hN78⟩ : ∃ N78, N78 = W69.heap.size := ⟨_, rfl⟩
  have CN78 := Lib.hid (show N67 ≤ N78 from by rw [hN78]; exact top)
  have top' : N78 ≤ W69.heap.size := Nat.le_of_eq hN78
  clear top
  have top := top'
  clear top'
  rw [← hN78] at hr
  clear hN78
  have HX79 := Lib.hid hr
  clear hr
  go_wp2_with fail
  obtain ⟨W80, hW80⟩ : ∃ w', w' = (W69.alloc (.cells #[.slice p70 (X00).length q71, .slice p72 (X01).length q73, .slice p74 (X02).length q75, .slice p76 (X03).length q77] 54)) := ⟨_, rfl⟩
  rw [← hW80]
  have hbx : Below W69.heap.size W69 W80 := by rw [hW80]; exact ((Below.refl _ _).alloc (by simp) _)
  obtain ⟨P81, hP81⟩ : ∃ n, n = W69.heap.size := ⟨_, rfl⟩
  have cP81_0 : W80.cell? ⟨P81, 0, none⟩ = some (.slice p70 (X00).length q71) := by rw [hW80, hP81]; simp [go_sem]
  have cP81_1 : W80.cell? ⟨P81, 1, none⟩ = some (.slice p72 (X01).length q73) := by rw [hW80, hP81]; simp [go_sem]
  have cP81_2 : W80.cell? ⟨P81, 2, none⟩ = some (.slice p74 (X02).length q75) := by rw [hW80, hP81]; simp [go_sem]
  have cP81_3 : W80.cell? ⟨P81, 3, none⟩ = some (.slice p76 (X03).length q77) := by rw [hW80, hP81]; simp [go_sem]
  have lP81 : P81 < W80.heap.size := by rw [hW80, hP81]; simp
  have CP81 := Lib.hid (show N78 ≤ P81 from by rw [hP81]; exact top)
  rw [← hP81]
  clear hP81 hW80
  have hz := hbx.size
  replace hwc := hwc.trans (hbx.mono hwc.size)
  replace cP26_0 := (hbx.cell (p := ⟨P26, 0, none⟩) lP26).trans cP26_0
  replace cP26_1 := (hbx.cell (p := ⟨P26, 1, none⟩) lP26).trans cP26_1
  replace cP26_2 := (hbx.cell (p := ⟨P26, 2, none⟩) lP26).trans cP26_2
  replace cP26_3 := (hbx.cell (p := ⟨P26, 3, none⟩) lP26).trans cP26_3
  replace lP26 : P26 < W80.heap.size := Nat.lt_of_lt_of_le lP26 hz
  replace cP64_0 := (hbx.cell (p := ⟨P64, 0, none⟩) lP64).trans cP64_0
  replace cP64_1 := (hbx.cell (p := ⟨P64, 1, none⟩) lP64).trans cP64_1
  replace lP64 : P64 < W80.heap.size := Nat.lt_of_lt_of_le lP64 hz
  replace cP65_0 := (hbx.cell (p := ⟨P65, 0, none⟩) lP65).trans cP65_0
  replace cP65_1 := (hbx.cell (p := ⟨P65, 1, none⟩) lP65).trans cP65_1
  replace lP65 : P65 < W80.heap.size := Nat.lt_of_lt_of_le lP65 hz
  replace HX79 := Lib.hid (HX79.out.below hbx (show N78 ≤ W69.heap.size from (by have := CP26.out; have := CN27.out; have := CP64.out; have := CP65.out; have := CN66.out; have := CN67.out; have := CN78.out; have := CP81.out; omega)))
  replace top := Nat.le_trans top hz
  clear hbx hz
  clear top
  obtain ⟨N82, hN82⟩ : ∃ n, n = W80.heap.size := ⟨_, rfl⟩
  have CN82 := Lib.hid (show P81 < N82 from by rw [hN82]; exact lP81)
  have top : N82 ≤ W80.heap.size := Nat.le_of_eq hN82
  clear hN82
  obtain ⟨N83, hN83⟩ : ∃ N83, N83 = W80.heap.size := ⟨_, rfl⟩
  have CN83 := Lib.hid (show N82 ≤ N83 from by rw [hN83]; exact top)
  have top' : N83 ≤ W80.heap.size := Nat.le_of_eq hN83
  clear top
  have top := top'
  clear top'
  refine (toI_x _ X10 _ (g10 _ hwc) HN1.out).mono ?_; rintro e W85 ⟨p86, q87, rfl, hr, hb84⟩
  rw [← hN83] at hr
  clear hN83
  have hz := hb84.size
  replace hwc := hwc.trans (hb84.mono hwc.size)
  replace cP26_0 := (hb84.cell (p := ⟨P26, 0, none⟩) lP26).trans cP26_0
  replace cP26_1 := (hb84.cell (p := ⟨P26, 1, none⟩) lP26).trans cP26_1
  replace cP26_2 := (hb84.cell (p := ⟨P26, 2, none⟩) lP26).trans cP26_2
  replace cP26_3 := (hb84.cell (p := ⟨P26, 3, none⟩) lP26).trans cP26_3
  replace lP26 : P26 < W85.heap.size := Nat.lt_of_lt_of_le lP26 hz
  replace cP64_0 := (hb84.cell (p := ⟨P64, 0, none⟩) lP64).trans cP64_0
  replace cP64_1 := (hb84.cell (p := ⟨P64, 1, none⟩) lP64).trans cP64_1
  replace lP64 : P64 < W85.heap.size := Nat.lt_of_lt_of_le lP64 hz
  replace cP65_0 := (hb84.cell (p := ⟨P65, 0, none⟩) lP65).trans cP65_0
  replace cP65_1 := (hb84.cell (p := ⟨P65, 1, none⟩) lP65).trans cP65_1
  replace lP65 : P65 < W85.heap.size := Nat.lt_of_lt_of_le lP65 hz
  replace cP81_0 := (hb84.cell (p := ⟨P81, 0, none⟩) lP81).trans cP81_0
  replace cP81_1 := (hb84.cell (p := ⟨P81, 1, none⟩) lP81).trans cP81_1
  replace cP81_2 := (hb84.cell (p := ⟨P81, 2, none⟩) lP81).trans cP81_2
  replace cP81_3 := (hb84.cell (p := ⟨P81, 3, none⟩) lP81).trans cP81_3
  replace lP81 : P81 < W85.heap.size := Nat.lt_of_lt_of_le lP81 hz
  replace HX79 := Lib.hid (HX79.out.below hb84 (show N78 ≤ W80.heap.size from (by have := CP26.out; have := CN27.out; have := CP64.out; have := CP65.out; have := CN66.out; have := CN67.out; have := CN78.out; have := CP81.out; have := CN82.out; have := CN83.out; omega)))
  replace top := Nat.le_trans top hz
  clear hb84 hz
  obtain ⟨N88, hN88⟩ : ∃ N88, N88 = W85.heap.size := ⟨_, rfl⟩
  have CN88 := Lib.hid (show N83 ≤ N88 from by rw [hN88]; exact top)
  have top' : N88 ≤ W85.heap.size := Nat.le_of_eq hN88
  clear top
  have top := top'
  clear top'
  rw [← hN88] at hr
  clear hN88
  have HX89 := Lib.hid hr
  clear hr
  go_wp2_with fail
  obtain ⟨N90, hN90⟩ : ∃ N90, N90 = W85.heap.size := ⟨_, rfl⟩
  have CN90 := Lib.hid (show N88 ≤ N90 from by rw [hN90]; exact top)
  have top' : N90 ≤ W85.heap.size := Nat.le_of_eq hN90
  clear top
  have top := top'
  clear top'
  refine (toI_x _ X20 _ (g20 _ hwc) HN2.out).mono ?_; rintro e W92 ⟨p93, q94, rfl, hr, hb91⟩
  rw [← hN90] at hr
  clear hN90
  have hz := hb91.size
  replace hwc := hwc.trans (hb91.mono hwc.size)
  replace cP26_0 := (hb91.cell (p := ⟨P26, 0, none⟩) lP26).trans cP26_0
  replace cP26_1 := (hb91.cell (p := ⟨P26, 1, none⟩) lP26).trans cP26_1
  replace cP26_2 := (hb91.cell (p := ⟨P26, 2, none⟩) lP26).trans cP26_2
  replace cP26_3 := (hb91.cell (p := ⟨P26, 3, none⟩) lP26).trans cP26_3
  replace lP26 : P26 < W92.heap.size := Nat.lt_of_lt_of_le lP26 hz
  replace cP64_0 := (hb91.cell (p := ⟨P64, 0, none⟩) lP64).trans cP64_0
  replace cP64_1 := (hb91.cell (p := ⟨P64, 1, none⟩) lP64).trans cP64_1
  replace lP64 : P64 < W92.heap.size := Nat.lt_of_lt_of_le lP64 hz
  replace cP65_0 := (hb91.cell (p := ⟨P65, 0, none⟩) lP65).trans cP65_0
  replace cP65_1 := (hb91.cell (p := ⟨P65, 1, none⟩) lP65).trans cP65_1
  replace lP65 : P65 < W92.heap.size := Nat.lt_of_lt_of_le lP65 hz
  replace cP81_0 := (hb91.cell (p := ⟨P81, 0, none⟩) lP81).trans cP81_0
  replace cP81_1 := (hb91.cell (p := ⟨P81, 1, none⟩) lP81).trans cP81_1
  replace cP81_2 := (hb91.cell (p := ⟨P81, 2, none⟩) lP81).trans cP81_2
  replace cP81_3 := (hb91.cell (p := ⟨P81, 3, none⟩) lP81).trans cP81_3
  replace lP81 : P81 < W92.heap.size := Nat.lt_of_lt_of_le lP81 hz
  replace HX79 := Lib.hid (HX79.out.below hb91 (show N78 ≤ W85.heap.size from (by have := CP26.out; have := CN27.out; have := CP64.out; have := CP65.out; have := CN66.out; have := CN67.out; have := CN78.out; have := CP81.out; have := CN82.out; have := CN83.out; have := CN88.out; have := CN90.out; omega)))
  replace HX89 := Lib.hid (HX89.out.below hb91 (show N88 ≤ W85.heap.size from (by have := CP26.out; have := CN27.out; have := CP64.out; have := CP65.out; have := CN66.out; have := CN67.out; have := CN78.out; have := CP81.out; have := CN82.out; have := CN83.out; have := CN88.out; have := CN90.out; omega)))
  replace top := Nat.le_trans top hz
  clear hb91 hz
  obtain ⟨N95, hN95⟩ : ∃ N95, N95 = W92.heap.size := ⟨_, rfl⟩
  have CN95 := Lib.hid (show N90 ≤ N95 from by rw [hN95]; exact top)
  have top' : N95 ≤ W92.heap.size := Nat.le_of_eq hN95
  clear top
  have top := top'
  clear top'
  rw [← hN95] at hr
  clear hN95
  have HX96 := Lib.hid hr
  clear hr
  have hrr := RngWx.reads HX79.out I00.out I01.out I02.out I03.out
  have RD97 := Lib.hid (hrr.1)
  have RD98 := Lib.hid (hrr.2.1)
  have RD99 := Lib.hid (hrr.2.2.1)
  have RD100 := Lib.hid (hrr.2.2.2)
  clear hrr
  have RD101 := Lib.hid (RngIx.reads HX89.out I10.out)
  have RD102 := Lib.hid (RngIx.reads HX96.out I20.out)
  go_wp2_with fail
  refine (HI.out _ _ _ _ _ _ _ RD97.out RD98.out RD99.out RD100.out RD101.out RD102.out).mono ?_; rintro e W103 ⟨rfl, hb104⟩; dsimp only
  have hz := hb104.size
  replace hwc := hwc.trans (hb104.mono hwc.size)
  replace cP26_0 := (hb104.cell (p := ⟨P26, 0, none⟩) lP26).trans cP26_0
  replace cP26_1 := (hb104.cell (p := ⟨P26, 1, none⟩) lP26).trans cP26_1
  replace cP26_2 := (hb104.cell (p := ⟨P26, 2, none⟩) lP26).trans cP26_2
  replace cP26_3 := (hb104.cell (p := ⟨P26, 3, none⟩) lP26).trans cP26_3
  replace lP26 : P26 < W103.heap.size := Nat.lt_of_lt_of_le lP26 hz
  replace cP64_0 := (hb104.cell (p := ⟨P64, 0, none⟩) lP64).trans cP64_0
  replace cP64_1 := (hb104.cell (p := ⟨P64, 1, none⟩) lP64).trans cP64_1
  replace lP64 : P64 < W103.heap.size := Nat.lt_of_lt_of_le lP64 hz
  replace cP65_0 := (hb104.cell (p := ⟨P65, 0, none⟩) lP65).trans cP65_0
  replace cP65_1 := (hb104.cell (p := ⟨P65, 1, none⟩) lP65).trans cP65_1
  replace lP65 : P65 < W103.heap.size := Nat.lt_of_lt_of_le lP65 hz
  replace cP81_0 := (hb104.cell (p := ⟨P81, 0, none⟩) lP81).trans cP81_0
  replace cP81_1 := (hb104.cell (p := ⟨P81, 1, none⟩) lP81).trans cP81_1
  replace cP81_2 := (hb104.cell (p := ⟨P81, 2, none⟩) lP81).trans cP81_2
  replace cP81_3 := (hb104.cell (p := ⟨P81, 3, none⟩) lP81).trans cP81_3
  replace lP81 : P81 < W103.heap.size := Nat.lt_of_lt_of_le lP81 hz
  replace RD97 := Lib.hid (RD97.out.below hb104)
  replace RD98 := Lib.hid (RD98.out.below hb104)
  replace RD99 := Lib.hid (RD99.out.below hb104)
  replace RD100 := Lib.hid (RD100.out.below hb104)
  replace RD101 := Lib.hid (RD101.out.below hb104)
  replace RD102 := Lib.hid (RD102.out.below hb104)
  replace HX79 := Lib.hid (HX79.out.below hb104 (show N78 ≤ W92.heap.size from (by have := CP26.out; have := CN27.out; have := CP64.out; have := CP65.out; have := CN66.out; have := CN67.out; have := CN78.out; have := CP81.out; have := CN82.out; have := CN83.out; have := CN88.out; have := CN90.out; have := CN95.out; omega)))
  replace HX89 := Lib.hid (HX89.out.below hb104 (show N88 ≤ W92.heap.size from (by have := CP26.out; have := CN27.out; have := CP64.out; have := CP65.out; have := CN66.out; have := CN67.out; have := CN78.out; have := CP81.out; have := CN82.out; have := CN83.out; have := CN88.out; have := CN90.out; have := CN95.out; omega)))
  replace HX96 := Lib.hid (HX96.out.below hb104 (show N95 ≤ W92.heap.size from (by have := CP26.out; have := CN27.out; have := CP64.out; have := CP65.out; have := CN66.out; have := CN67.out; have := CN78.out; have := CP81.out; have := CN82.out; have := CN83.out; have := CN88.out; have := CN90.out; have := CN95.out; omega)))
  replace top := Nat.le_trans top hz
  clear hb104 hz
  go_wp2_with fail
  obtain ⟨W105, hW105⟩ : ∃ w', w' = ((W103.alloc (.cells #[.int .i64 n0, .int .i64 d0] 62)).alloc (.cells #[.int .i64 n1, .int .i64 d1] 62)) := ⟨_, rfl⟩
  rw [← hW105]
  have hbx : Below W103.heap.size W103 W105 := by rw [hW105]; exact (((Below.refl _ _).alloc (by simp) _).alloc (by simp) _)
  obtain ⟨P106, hP106⟩ : ∃ n, n = W103.heap.size := ⟨_, rfl⟩
  obtain ⟨P107, hP107⟩ : ∃ n, n = W103.heap.size + 1 := ⟨_, rfl⟩
  have cP106_0 : W105.cell? ⟨P106, 0, none⟩ = some (.int .i64 n0) := by rw [hW105, hP106]; simp [go_sem]
  have cP106_1 : W105.cell? ⟨P106, 1, none⟩ = some (.int .i64 d0) := by rw [hW105, hP106]; simp [go_sem]
  have lP106 : P106 < W105.heap.size := by rw [hW105, hP106]; simp <;> omega
  have CP106 := Lib.hid (show N95 ≤ P106 from by rw [hP106]; exact top)
  have cP107_0 : W105.cell? ⟨P107, 0, none⟩ = some (.int .i64 n1) := by rw [hW105, hP107]; simp [go_sem]
  have cP107_1 : W105.cell? ⟨P107, 1, none⟩ = some (.int .i64 d1) := by rw [hW105, hP107]; simp [go_sem]
  have lP107 : P107 < W105.heap.size := by rw [hW105, hP107]; simp
  have CP107 := Lib.hid (show P106 < P107 from by omega)
  rw [← hP107]
  rw [← hP106]
  clear hP107 hP106 hW105
  have hz := hbx.size
  replace hwc := hwc.trans (hbx.mono hwc.size)
  replace cP26_0 := (hbx.cell (p := ⟨P26, 0, none⟩) lP26).trans cP26_0
  replace cP26_1 := (hbx.cell (p := ⟨P26, 1, none⟩) lP26).trans cP26_1
  replace cP26_2 := (hbx.cell (p := ⟨P26, 2, none⟩) lP26).trans cP26_2
  replace cP26_3 := (hbx.cell (p := ⟨P26, 3, none⟩) lP26).trans cP26_3
  replace lP26 : P26 < W105.heap.size := Nat.lt_of_lt_of_le lP26 hz
  replace cP64_0 := (hbx.cell (p := ⟨P64, 0, none⟩) lP64).trans cP64_0
  replace cP64_1 := (hbx.cell (p := ⟨P64, 1, none⟩) lP64).trans cP64_1
  replace lP64 : P64 < W105.heap.size := Nat.lt_of_lt_of_le lP64 hz
  replace cP65_0 := (hbx.cell (p := ⟨P65, 0, none⟩) lP65).trans cP65_0
  replace cP65_1 := (hbx.cell (p := ⟨P65, 1, none⟩) lP65).trans cP65_1
  replace lP65 : P65 < W105.heap.size := Nat.lt_of_lt_of_le lP65 hz
  replace cP81_0 := (hbx.cell (p := ⟨P81, 0, none⟩) lP81).trans cP81_0
  replace cP81_1 := (hbx.cell (p := ⟨P81, 1, none⟩) lP81).trans cP81_1
  replace cP81_2 := (hbx.cell (p := ⟨P81, 2, none⟩) lP81).trans cP81_2
  replace cP81_3 := (hbx.cell (p := ⟨P81, 3, none⟩) lP81).trans cP81_3
  replace lP81 : P81 < W105.heap.size := Nat.lt_of_lt_of_le lP81 hz
  replace RD97 := Lib.hid (RD97.out.below hbx)
  replace RD98 := Lib.hid (RD98.out.below hbx)
  replace RD99 := Lib.hid (RD99.out.below hbx)
  replace RD100 := Lib.hid (RD100.out.below hbx)
  replace RD101 := Lib.hid (RD101.out.below hbx)
  replace RD102 := Lib.hid (RD102.out.below hbx)
  replace HX79 := Lib.hid (HX79.out.below hbx (show N78 ≤ W103.heap.size from (by have := CP26.out; have := CN27.out; have := CP64.out; have := CP65.out; have := CN66.out; have := CN67.out; have := CN78.out; have := CP81.out; have := CN82.out; have := CN83.out; have := CN88.out; have := CN90.out; have := CN95.out; have := CP106.out; have := CP107.out; omega)))
  replace HX89 := Lib.hid (HX89.out.below hbx (show N88 ≤ W103.heap.size from (by have := CP26.out; have := CN27.out; have := CP64.out; have := CP65.out; have := CN66.out; have := CN67.out; have := CN78.out; have := CP81.out; have := CN82.out; have := CN83.out; have := CN88.out; have := CN90.out; have := CN95.out; have := CP106.out; have := CP107.out; omega)))
  replace HX96 := Lib.hid (HX96.out.below hbx (show N95 ≤ W103.heap.size from (by have := CP26.out; have := CN27.out; have := CP64.out; have := CP65.out; have := CN66.out; have := CN67.out; have := CN78.out; have := CP81.out; have := CN82.out; have := CN83.out; have := CN88.out; have := CN90.out; have := CN95.out; have := CP106.out; have := CP107.out; omega)))
  replace top := Nat.le_trans top hz
  clear hbx hz
  clear top
  obtain ⟨N108, hN108⟩ : ∃ n, n = W105.heap.size := ⟨_, rfl⟩
  have CN108 := Lib.hid (show P107 < N108 from by rw [hN108]; exact lP107)
  have top : N108 ≤ W105.heap.size := Nat.le_of_eq hN108
  clear hN108
  clear RD97 RD98 RD99 RD100 RD101 RD102
  refine (eqFrac_self n0 d0 _).mono ?_; rintro e W110 ⟨rfl, hb109⟩
  have hz := hb109.size
  replace hwc := hwc.trans (hb109.mono hwc.size)
  replace cP26_0 := (hb109.cell (p := ⟨P26, 0, none⟩) lP26).trans cP26_0
  replace cP26_1 := (hb109.cell (p := ⟨P26, 1, none⟩) lP26).trans cP26_1
  replace cP26_2 := (hb109.cell (p := ⟨P26, 2, none⟩) lP26).trans cP26_2
  replace cP26_3 := (hb109.cell (p := ⟨P26, 3, none⟩) lP26).trans cP26_3
  replace lP26 : P26 < W110.heap.size := Nat.lt_of_lt_of_le lP26 hz
  replace cP64_0 := (hb109.cell (p := ⟨P64, 0, none⟩) lP64).trans cP64_0
  replace cP64_1 := (hb109.cell (p := ⟨P64, 1, none⟩) lP64).trans cP64_1
  replace lP64 : P64 < W110.heap.size := Nat.lt_of_lt_of_le lP64 hz
  replace cP65_0 := (hb109.cell (p := ⟨P65, 0, none⟩) lP65).trans cP65_0
  replace cP65_1 := (hb109.cell (p := ⟨P65, 1, none⟩) lP65).trans cP65_1
  replace lP65 : P65 < W110.heap.size := Nat.lt_of_lt_of_le lP65 hz
  replace cP81_0 := (hb109.cell (p := ⟨P81, 0, none⟩) lP81).trans cP81_0
  replace cP81_1 := (hb109.cell (p := ⟨P81, 1, none⟩) lP81).trans cP81_1
  replace cP81_2 := (hb109.cell (p := ⟨P81, 2, none⟩) lP81).trans cP81_2
  replace cP81_3 := (hb109.cell (p := ⟨P81, 3, none⟩) lP81).trans cP81_3
  replace lP81 : P81 < W110.heap.size := Nat.lt_of_lt_of_le lP81 hz
  replace cP106_0 := (hb109.cell (p := ⟨P106, 0, none⟩) lP106).trans cP106_0
  replace cP106_1 := (hb109.cell (p := ⟨P106, 1, none⟩) lP106).trans cP106_1
  replace lP106 : P106 < W110.heap.size := Nat.lt_of_lt_of_le lP106 hz
  replace cP107_0 := (hb109.cell (p := ⟨P107, 0, none⟩) lP107).trans cP107_0
  replace cP107_1 := (hb109.cell (p := ⟨P107, 1, none⟩) lP107).trans cP107_1
  replace lP107 : P107 < W110.heap.size := Nat.lt_of_lt_of_le lP107 hz
  replace HX79 := Lib.hid (HX79.out.below hb109 (show N78 ≤ W105.heap.size from (by have := CP26.out; have := CN27.out; have := CP64.out; have := CP65.out; have := CN66.out; have := CN67.out; have := CN78.out; have := CP81.out; have := CN82.out; have := CN83.out; have := CN88.out; have := CN90.out; have := CN95.out; have := CP106.out; have := CP107.out; have := CN108.out; omega)))
  replace HX89 := Lib.hid (HX89.out.below hb109 (show N88 ≤ W105.heap.size from (by have := CP26.out; have := CN27.out; have := CP64.out; have := CP65.out; have := CN66.out; have := CN67.out; have := CN78.out; have := CP81.out; have := CN82.out; have := CN83.out; have := CN88.out; have := CN90.out; have := CN95.out; have := CP106.out; have := CP107.out; have := CN108.out; omega)))
  replace HX96 := Lib.hid (HX96.out.below hb109 (show N95 ≤ W105.heap.size from (by have := CP26.out; have := CN27.out; have := CP64.out; have := CP65.out; have := CN66.out; have := CN67.out; have := CN78.out; have := CP81.out; have := CN82.out; have := CN83.out; have := CN88.out; have := CN90.out; have := CN95.out; have := CP106.out; have := CP107.out; have := CN108.out; omega)))
  replace top := Nat.le_trans top hz
  clear hb109 hz
  go_wp2_with fail
  refine (eqFrac_self n1 d1 _).mono ?_; rintro e W112 ⟨rfl, hb111⟩
  have hz := hb111.size
  replace hwc := hwc.trans (hb111.mono hwc.size)
  replace cP26_0 := (hb111.cell (p := ⟨P26, 0, none⟩) lP26).trans cP26_0
  replace cP26_1 := (hb111.cell (p := ⟨P26, 1, none⟩) lP26).trans cP26_1
  replace cP26_2 := (hb111.cell (p := ⟨P26, 2, none⟩) lP26).trans cP26_2
  replace cP26_3 := (hb111.cell (p := ⟨P26, 3, none⟩) lP26).trans cP26_3
  replace lP26 : P26 < W112.heap.size := Nat.lt_of_lt_of_le lP26 hz
  replace cP64_0 := (hb111.cell (p := ⟨P64, 0, none⟩) lP64).trans cP64_0
  replace cP64_1 := (hb111.cell (p := ⟨P64, 1, none⟩) lP64).trans cP64_1
  replace lP64 : P64 < W112.heap.size := Nat.lt_of_lt_of_le lP64 hz
  replace cP65_0 := (hb111.cell (p := ⟨P65, 0, none⟩) lP65).trans cP65_0
  replace cP65_1 := (hb111.cell (p := ⟨P65, 1, none⟩) lP65).trans cP65_1
  replace lP65 : P65 < W112.heap.size := Nat.lt_of_lt_of_le lP65 hz
  replace cP81_0 := (hb111.cell (p := ⟨P81, 0, none⟩) lP81).trans cP81_0
  replace cP81_1 := (hb111.cell (p := ⟨P81, 1, none⟩) lP81).trans cP81_1
  replace cP81_2 := (hb111.cell (p := ⟨P81, 2, none⟩) lP81).trans cP81_2
  replace cP81_3 := (hb111.cell (p := ⟨P81, 3, none⟩) lP81).trans cP81_3
  replace lP81 : P81 < W112.heap.size := Nat.lt_of_lt_of_le lP81 hz
  replace cP106_0 := (hb111.cell (p := ⟨P106, 0, none⟩) lP106).trans cP106_0
  replace cP106_1 := (hb111.cell (p := ⟨P106, 1, none⟩) lP106).trans cP106_1
  replace lP106 : P106 < W112.heap.size := Nat.lt_of_lt_of_le lP106 hz
  replace cP107_0 := (hb111.cell (p := ⟨P107, 0, none⟩) lP107).trans cP107_0
  replace cP107_1 := (hb111.cell (p := ⟨P107, 1, none⟩) lP107).trans cP107_1
  replace lP107 : P107 < W112.heap.size := Nat.lt_of_lt_of_le lP107 hz
  replace HX79 := Lib.hid (HX79.out.below hb111 (show N78 ≤ W110.heap.size from (by have := CP26.out; have := CN27.out; have := CP64.out; have := CP65.out; have := CN66.out; have := CN67.out; have := CN78.out; have := CP81.out; have := CN82.out; have := CN83.out; have := CN88.out; have := CN90.out; have := CN95.out; have := CP106.out; have := CP107.out; have := CN108.out; omega)))
  replace HX89 := Lib.hid (HX89.out.below hb111 (show N88 ≤ W110.heap.size from (by have := CP26.out; have := CN27.out; have := CP64.out; have := CP65.out; have := CN66.out; have := CN67.out; have := CN78.out; have := CP81.out; have := CN82.out; have := CN83.out; have := CN88.out; have := CN90.out; have := CN95.out; have := CP106.out; have := CP107.out; have := CN108.out; omega)))
  replace HX96 := Lib.hid (HX96.out.below hb111 (show N95 ≤ W110.heap.size from (by have := CP26.out; have := CN27.out; have := CP64.out; have := CP65.out; have := CN66.out; have := CN67.out; have := CN78.out; have := CP81.out; have := CN82.out; have := CN83.out; have := CN88.out; have := CN90.out; have := CN95.out; have := CP106.out; have := CP107.out; have := CN108.out; omega)))
  replace top := Nat.le_trans top hz
  clear hb111 hz
  have hrr := RngWx.reads HX79.out I00.out I01.out I02.out I03.out
  have RX113 := Lib.hid (hrr.1)
  have RX114 := Lib.hid (hrr.2.1)
  have RX115 := Lib.hid (hrr.2.2.1)
  have RX116 := Lib.hid (hrr.2.2.2)
  clear hrr
  have rp0 := fun (w' : World) (h : Below W112.heap.size W112 w') => (h.cell (p := ⟨P26, 0, none⟩) lP26).trans cP26_0
  have rp1 := fun (w' : World) (h : Below W112.heap.size W112 w') => (h.cell (p := ⟨P26, 1, none⟩) lP26).trans cP26_1
  have rp2 := fun (w' : World) (h : Below W112.heap.size W112 w') => (h.cell (p := ⟨P26, 2, none⟩) lP26).trans cP26_2
  have rp3 := fun (w' : World) (h : Below W112.heap.size W112 w') => (h.cell (p := ⟨P26, 3, none⟩) lP26).trans cP26_3
  have rv0 := fun (w' : World) (h : Below W112.heap.size W112 w') => (h.cell (p := ⟨P81, 0, none⟩) lP81).trans cP81_0
  have rv1 := fun (w' : World) (h : Below W112.heap.size W112 w') => (h.cell (p := ⟨P81, 1, none⟩) lP81).trans cP81_1
  have rv2 := fun (w' : World) (h : Below W112.heap.size W112 w') => (h.cell (p := ⟨P81, 2, none⟩) lP81).trans cP81_2
  have rv3 := fun (w' : World) (h : Below W112.heap.size W112 w') => (h.cell (p := ⟨P81, 3, none⟩) lP81).trans cP81_3
  clear cP26_0 cP26_1 cP26_2 cP26_3
  clear cP81_0 cP81_1 cP81_2 cP81_3
  go_wp2_with fail
  have hz9 := hwc.size
  go_region_held3 (fun w' => Below W112.heap.size W112 w') ((repeat' (first | (with_reducible exact Below.refl _ _) | (with_reducible assumption) | (with_reducible refine Below.alloc ?_ ?_ _) | (with_reducible refine Below.drew ?_) | (with_reducible refine below_drewN ?_ _) | (with_reducible refine Below.setCell ?_ ?_ _) | (with_reducible refine Below.trans ?_ (Below.mono (by with_reducible assumption) ?_)) | (with_reducible exact Below.size (by with_reducible assumption)) | go_size)))
    (first | (go_at_call 38; refine (toW_x _ _ _ _ X00 X01 X02 X03 _ (g00 _ (hwc.trans (Below.mono (by assumption) hz9))) (g01 _ (hwc.trans (Below.mono (by assumption) hz9))) (g02 _ (hwc.trans (Below.mono (by assumption) hz9))) (g03 _ (hwc.trans (Below.mono (by assumption) hz9))) HN0.out).mono ?_; rintro e w8 ⟨p117, q118, p119, q120, p121, q122, p123, q124, rfl, hr8, hb8⟩; have hS8 : Below W112.heap.size W112 w8 := (by (repeat' (first | (with_reducible exact Below.refl _ _) | (with_reducible assumption) | (with_reducible refine Below.alloc ?_ ?_ _) | (with_reducible refine Below.drew ?_) | (with_reducible refine below_drewN ?_ _) | (with_reducible refine Below.setCell ?_ ?_ _) | (with_reducible refine Below.trans ?_ (Below.mono (by with_reducible assumption) ?_)) | (with_reducible exact Below.size (by with_reducible assumption)) | go_size))); have R8 := Lib.hid (RngWx.reads hr8 I00.out I01.out I02.out I03.out); clear hr8) | (go_at_call 40; refine (eqW_x _ _ _ _ _ _ _ _ X00 X01 X02 X03 _ (RX113.out.below hS8) (RX114.out.below hS8) (RX115.out.below hS8) (RX116.out.below hS8) (R8.out.1) (R8.out.2.1) (R8.out.2.2.1) (R8.out.2.2.2)).mono ?_; rintro e w9 ⟨rfl, hb9⟩; have hS9 : Below W112.heap.size W112 w9 := (by (repeat' (first | (with_reducible exact Below.refl _ _) | (with_reducible assumption) | (with_reducible refine Below.alloc ?_ ?_ _) | (with_reducible refine Below.drew ?_) | (with_reducible refine below_drewN ?_ _) | (with_reducible refine Below.setCell ?_ ?_ _) | (with_reducible refine Below.trans ?_ (Below.mono (by with_reducible assumption) ?_)) | (with_reducible exact Below.size (by with_reducible assumption)) | go_size)))))
  clear R8 hS8 hb8 hb9 hz9 RX113 RX114 RX115 RX116
  have cP26_0 := rp0 _ hS9
  have cP26_1 := rp1 _ hS9
  have cP26_2 := rp2 _ hS9
  have cP26_3 := rp3 _ hS9
  have cP81_0 := rv0 _ hS9
  have cP81_1 := rv1 _ hS9
  have cP81_2 := rv2 _ hS9
  have cP81_3 := rv3 _ hS9
  clear rp0 rp1 rp2 rp3 rv0 rv1 rv2 rv3
  have hS9' := hS9
  have lP9 := Nat.lt_of_lt_of_le lP26 hS9.size
  have lV9 := Nat.lt_of_lt_of_le lP81 hS9.size
  clear hS9 lP26 lP81
  have lP26 := lP9
  have lP81 := lV9
  clear lP9 lV9
  have hz := hS9'.size
  replace hwc := hwc.trans (hS9'.mono hwc.size)
  replace cP64_0 := (hS9'.cell (p := ⟨P64, 0, none⟩) lP64).trans cP64_0
  replace cP64_1 := (hS9'.cell (p := ⟨P64, 1, none⟩) lP64).trans cP64_1
  replace lP64 : P64 < w9.heap.size := Nat.lt_of_lt_of_le lP64 hz
  replace cP65_0 := (hS9'.cell (p := ⟨P65, 0, none⟩) lP65).trans cP65_0
  replace cP65_1 := (hS9'.cell (p := ⟨P65, 1, none⟩) lP65).trans cP65_1
  replace lP65 : P65 < w9.heap.size := Nat.lt_of_lt_of_le lP65 hz
  replace cP106_0 := (hS9'.cell (p := ⟨P106, 0, none⟩) lP106).trans cP106_0
  replace cP106_1 := (hS9'.cell (p := ⟨P106, 1, none⟩) lP106).trans cP106_1
  replace lP106 : P106 < w9.heap.size := Nat.lt_of_lt_of_le lP106 hz
  replace cP107_0 := (hS9'.cell (p := ⟨P107, 0, none⟩) lP107).trans cP107_0
  replace cP107_1 := (hS9'.cell (p := ⟨P107, 1, none⟩) lP107).trans cP107_1
  replace lP107 : P107 < w9.heap.size := Nat.lt_of_lt_of_le lP107 hz
  replace HX79 := Lib.hid (HX79.out.below hS9' (show N78 ≤ W112.heap.size from (by have := CP26.out; have := CN27.out; have := CP64.out; have := CP65.out; have := CN66.out; have := CN67.out; have := CN78.out; have := CP81.out; have := CN82.out; have := CN83.out; have := CN88.out; have := CN90.out; have := CN95.out; have := CP106.out; have := CP107.out; have := CN108.out; omega)))
  replace HX89 := Lib.hid (HX89.out.below hS9' (show N88 ≤ W112.heap.size from (by have := CP26.out; have := CN27.out; have := CP64.out; have := CP65.out; have := CN66.out; have := CN67.out; have := CN78.out; have := CP81.out; have := CN82.out; have := CN83.out; have := CN88.out; have := CN90.out; have := CN95.out; have := CP106.out; have := CP107.out; have := CN108.out; omega)))
  replace HX96 := Lib.hid (HX96.out.below hS9' (show N95 ≤ W112.heap.size from (by have := CP26.out; have := CN27.out; have := CP64.out; have := CP65.out; have := CN66.out; have := CN67.out; have := CN78.out; have := CP81.out; have := CN82.out; have := CN83.out; have := CN88.out; have := CN90.out; have := CN95.out; have := CP106.out; have := CP107.out; have := CN108.out; omega)))
  replace top := Nat.le_trans top hz
  clear hS9' hz
  obtain ⟨W125, rfl⟩ : ∃ w', w' = w9 := ⟨_, rfl⟩
  go_wp2_with fail
  refine (toI_x _ X10 _ (g10 _ hwc) HN1.out).mono ?_; rintro e W127 ⟨p128, q129, rfl, hr, hb126⟩
  have RT := Lib.hid hr
  clear hr
  have hz := hb126.size
  replace hwc := hwc.trans (hb126.mono hwc.size)
  replace cP26_0 := (hb126.cell (p := ⟨P26, 0, none⟩) lP26).trans cP26_0
  replace cP26_1 := (hb126.cell (p := ⟨P26, 1, none⟩) lP26).trans cP26_1
  replace cP26_2 := (hb126.cell (p := ⟨P26, 2, none⟩) lP26).trans cP26_2
  replace cP26_3 := (hb126.cell (p := ⟨P26, 3, none⟩) lP26).trans cP26_3
  replace lP26 : P26 < W127.heap.size := Nat.lt_of_lt_of_le lP26 hz
  replace cP64_0 := (hb126.cell (p := ⟨P64, 0, none⟩) lP64).trans cP64_0
  replace cP64_1 := (hb126.cell (p := ⟨P64, 1, none⟩) lP64).trans cP64_1
  replace lP64 : P64 < W127.heap.size := Nat.lt_of_lt_of_le lP64 hz
  replace cP65_0 := (hb126.cell (p := ⟨P65, 0, none⟩) lP65).trans cP65_0
  replace cP65_1 := (hb126.cell (p := ⟨P65, 1, none⟩) lP65).trans cP65_1
  replace lP65 : P65 < W127.heap.size := Nat.lt_of_lt_of_le lP65 hz
  replace cP81_0 := (hb126.cell (p := ⟨P81, 0, none⟩) lP81).trans cP81_0
  replace cP81_1 := (hb126.cell (p := ⟨P81, 1, none⟩) lP81).trans cP81_1
  replace cP81_2 := (hb126.cell (p := ⟨P81, 2, none⟩) lP81).trans cP81_2
  replace cP81_3 := (hb126.cell (p := ⟨P81, 3, none⟩) lP81).trans cP81_3
  replace lP81 : P81 < W127.heap.size := Nat.lt_of_lt_of_le lP81 hz
  replace cP106_0 := (hb126.cell (p := ⟨P106, 0, none⟩) lP106).trans cP106_0
  replace cP106_1 := (hb126.cell (p := ⟨P106, 1, none⟩) lP106).trans cP106_1
  replace lP106 : P106 < W127.heap.size := Nat.lt_of_lt_of_le lP106 hz
  replace cP107_0 := (hb126.cell (p := ⟨P107, 0, none⟩) lP107).trans cP107_0
  replace cP107_1 := (hb126.cell (p := ⟨P107, 1, none⟩) lP107).trans cP107_1
  replace lP107 : P107 < W127.heap.size := Nat.lt_of_lt_of_le lP107 hz
  replace HX79 := Lib.hid (HX79.out.below hb126 (show N78 ≤ W125.heap.size from (by have := CP26.out; have := CN27.out; have := CP64.out; have := CP65.out; have := CN66.out; have := CN67.out; have := CN78.out; have := CP81.out; have := CN82.out; have := CN83.out; have := CN88.out; have := CN90.out; have := CN95.out; have := CP106.out; have := CP107.out; have := CN108.out; omega)))
  replace HX89 := Lib.hid (HX89.out.below hb126 (show N88 ≤ W125.heap.size from (by have := CP26.out; have := CN27.out; have := CP64.out; have := CP65.out; have := CN66.out; have := CN67.out; have := CN78.out; have := CP81.out; have := CN82.out; have := CN83.out; have := CN88.out; have := CN90.out; have := CN95.out; have := CP106.out; have := CP107.out; have := CN108.out; omega)))
  replace HX96 := Lib.hid (HX96.out.below hb126 (show N95 ≤ W125.heap.size from (by have := CP26.out; have := CN27.out; have := CP64.out; have := CP65.out; have := CN66.out; have := CN67.out; have := CN78.out; have := CP81.out; have := CN82.out; have := CN83.out; have := CN88.out; have := CN90.out; have := CN95.out; have := CP106.out; have := CP107.out; have := CN108.out; omega)))
  replace top := Nat.le_trans top hz
  clear hb126 hz
  go_wp2_with fail
  refine (eqI_x _ _ X10 _ HX89.out RT.out I10.out HN1.out).mono ?_; rintro e W131 ⟨rfl, hb130⟩
  clear RT
  have hz := hb130.size
  replace hwc := hwc.trans (hb130.mono hwc.size)
  replace cP26_0 := (hb130.cell (p := ⟨P26, 0, none⟩) lP26).trans cP26_0
  replace cP26_1 := (hb130.cell (p := ⟨P26, 1, none⟩) lP26).trans cP26_1
  replace cP26_2 := (hb130.cell (p := ⟨P26, 2, none⟩) lP26).trans cP26_2
  replace cP26_3 := (hb130.cell (p := ⟨P26, 3, none⟩) lP26).trans cP26_3
  replace lP26 : P26 < W131.heap.size := Nat.lt_of_lt_of_le lP26 hz
  replace cP64_0 := (hb130.cell (p := ⟨P64, 0, none⟩) lP64).trans cP64_0
  replace cP64_1 := (hb130.cell (p := ⟨P64, 1, none⟩) lP64).trans cP64_1
  replace lP64 : P64 < W131.heap.size := Nat.lt_of_lt_of_le lP64 hz
  replace cP65_0 := (hb130.cell (p := ⟨P65, 0, none⟩) lP65).trans cP65_0
  replace cP65_1 := (hb130.cell (p := ⟨P65, 1, none⟩) lP65).trans cP65_1
  replace lP65 : P65 < W131.heap.size := Nat.lt_of_lt_of_le lP65 hz
  replace cP81_0 := (hb130.cell (p := ⟨P81, 0, none⟩) lP81).trans cP81_0
  replace cP81_1 := (hb130.cell (p := ⟨P81, 1, none⟩) lP81).trans cP81_1
  replace cP81_2 := (hb130.cell (p := ⟨P81, 2, none⟩) lP81).trans cP81_2
  replace cP81_3 := (hb130.cell (p := ⟨P81, 3, none⟩) lP81).trans cP81_3
  replace lP81 : P81 < W131.heap.size := Nat.lt_of_lt_of_le lP81 hz
  replace cP106_0 := (hb130.cell (p := ⟨P106, 0, none⟩) lP106).trans cP106_0
  replace cP106_1 := (hb130.cell (p := ⟨P106, 1, none⟩) lP106).trans cP106_1
  replace lP106 : P106 < W131.heap.size := Nat.lt_of_lt_of_le lP106 hz
  replace cP107_0 := (hb130.cell (p := ⟨P107, 0, none⟩) lP107).trans cP107_0
  replace cP107_1 := (hb130.cell (p := ⟨P107, 1, none⟩) lP107).trans cP107_1
  replace lP107 : P107 < W131.heap.size := Nat.lt_of_lt_of_le lP107 hz
  replace HX79 := Lib.hid (HX79.out.below hb130 (show N78 ≤ W127.heap.size from (by have := CP26.out; have := CN27.out; have := CP64.out; have := CP65.out; have := CN66.out; have := CN67.out; have := CN78.out; have := CP81.out; have := CN82.out; have := CN83.out; have := CN88.out; have := CN90.out; have := CN95.out; have := CP106.out; have := CP107.out; have := CN108.out; omega)))
  replace HX89 := Lib.hid (HX89.out.below hb130 (show N88 ≤ W127.heap.size from (by have := CP26.out; have := CN27.out; have := CP64.out; have := CP65.out; have := CN66.out; have := CN67.out; have := CN78.out; have := CP81.out; have := CN82.out; have := CN83.out; have := CN88.out; have := CN90.out; have := CN95.out; have := CP106.out; have := CP107.out; have := CN108.out; omega)))
  replace HX96 := Lib.hid (HX96.out.below hb130 (show N95 ≤ W127.heap.size from (by have := CP26.out; have := CN27.out; have := CP64.out; have := CP65.out; have := CN66.out; have := CN67.out; have := CN78.out; have := CP81.out; have := CN82.out; have := CN83.out; have := CN88.out; have := CN90.out; have := CN95.out; have := CP106.out; have := CP107.out; have := CN108.out; omega)))
  replace top := Nat.le_trans top hz
  clear hb130 hz
  go_wp2_with fail
  refine (toI_x _ X20 _ (g20 _ hwc) HN2.out).mono ?_; rintro e W133 ⟨p134, q135, rfl, hr, hb132⟩
  have RT := Lib.hid hr
  clear hr
  have hz := hb132.size
  replace hwc := hwc.trans (hb132.mono hwc.size)
  replace cP26_0 := (hb132.cell (p := ⟨P26, 0, none⟩) lP26).trans cP26_0
  replace cP26_1 := (hb132.cell (p := ⟨P26, 1, none⟩) lP26).trans cP26_1
  replace cP26_2 := (hb132.cell (p := ⟨P26, 2, none⟩) lP26).trans cP26_2
  replace cP26_3 := (hb132.cell (p := ⟨P26, 3, none⟩) lP26).trans cP26_3
  replace lP26 : P26 < W133.heap.size := Nat.lt_of_lt_of_le lP26 hz
  replace cP64_0 := (hb132.cell (p := ⟨P64, 0, none⟩) lP64).trans cP64_0
  replace cP64_1 := (hb132.cell (p := ⟨P64, 1, none⟩) lP64).trans cP64_1
  replace lP64 : P64 < W133.heap.size := Nat.lt_of_lt_of_le lP64 hz
  replace cP65_0 := (hb132.cell (p := ⟨P65, 0, none⟩) lP65).trans cP65_0
  replace cP65_1 := (hb132.cell (p := ⟨P65, 1, none⟩) lP65).trans cP65_1
  replace lP65 : P65 < W133.heap.size := Nat.lt_of_lt_of_le lP65 hz
  replace cP81_0 := (hb132.cell (p := ⟨P81, 0, none⟩) lP81).trans cP81_0
  replace cP81_1 := (hb132.cell (p := ⟨P81, 1, none⟩) lP81).trans cP81_1
  replace cP81_2 := (hb132.cell (p := ⟨P81, 2, none⟩) lP81).trans cP81_2
  replace cP81_3 := (hb132.cell (p := ⟨P81, 3, none⟩) lP81).trans cP81_3
  replace lP81 : P81 < W133.heap.size := Nat.lt_of_lt_of_le lP81 hz
  replace cP106_0 := (hb132.cell (p := ⟨P106, 0, none⟩) lP106).trans cP106_0
  replace cP106_1 := (hb132.cell (p := ⟨P106, 1, none⟩) lP106).trans cP106_1
  replace lP106 : P106 < W133.heap.size := Nat.lt_of_lt_of_le lP106 hz
  replace cP107_0 := (hb132.cell (p := ⟨P107, 0, none⟩) lP107).trans cP107_0
  replace cP107_1 := (hb132.cell (p := ⟨P107, 1, none⟩) lP107).trans cP107_1
  replace lP107 : P107 < W133.heap.size := Nat.lt_of_lt_of_le lP107 hz
  replace HX79 := Lib.hid (HX79.out.below hb132 (show N78 ≤ W131.heap.size from (by have := CP26.out; have := CN27.out; have := CP64.out; have := CP65.out; have := CN66.out; have := CN67.out; have := CN78.out; have := CP81.out; have := CN82.out; have := CN83.out; have := CN88.out; have := CN90.out; have := CN95.out; have := CP106.out; have := CP107.out; have := CN108.out; omega)))
  replace HX89 := Lib.hid (HX89.out.below hb132 (show N88 ≤ W131.heap.size from (by have := CP26.out; have := CN27.out; have := CP64.out; have := CP65.out; have := CN66.out; have := CN67.out; have := CN78.out; have := CP81.out; have := CN82.out; have := CN83.out; have := CN88.out; have := CN90.out; have := CN95.out; have := CP106.out; have := CP107.out; have := CN108.out; omega)))
  replace HX96 := Lib.hid (HX96.out.below hb132 (show N95 ≤ W131.heap.size from (by have := CP26.out; have := CN27.out; have := CP64.out; have := CP65.out; have := CN66.out; have := CN67.out; have := CN78.out; have := CP81.out; have := CN82.out; have := CN83.out; have := CN88.out; have := CN90.out; have := CN95.out; have := CP106.out; have := CP107.out; have := CN108.out; omega)))
  replace top := Nat.le_trans top hz
  clear hb132 hz
  go_wp2_with fail
  refine (eqI_x _ _ X20 _ HX96.out RT.out I20.out HN2.out).mono ?_; rintro e W137 ⟨rfl, hb136⟩
  clear RT
  have hz := hb136.size
  replace hwc := hwc.trans (hb136.mono hwc.size)
  replace cP26_0 := (hb136.cell (p := ⟨P26, 0, none⟩) lP26).trans cP26_0
  replace cP26_1 := (hb136.cell (p := ⟨P26, 1, none⟩) lP26).trans cP26_1
  replace cP26_2 := (hb136.cell (p := ⟨P26, 2, none⟩) lP26).trans cP26_2
  replace cP26_3 := (hb136.cell (p := ⟨P26, 3, none⟩) lP26).trans cP26_3
  replace lP26 : P26 < W137.heap.size := Nat.lt_of_lt_of_le lP26 hz
  replace cP64_0 := (hb136.cell (p := ⟨P64, 0, none⟩) lP64).trans cP64_0
  replace cP64_1 := (hb136.cell (p := ⟨P64, 1, none⟩) lP64).trans cP64_1
  replace lP64 : P64 < W137.heap.size := Nat.lt_of_lt_of_le lP64 hz
  replace cP65_0 := (hb136.cell (p := ⟨P65, 0, none⟩) lP65).trans cP65_0
  replace cP65_1 := (hb136.cell (p := ⟨P65, 1, none⟩) lP65).trans cP65_1
  replace lP65 : P65 < W137.heap.size := Nat.lt_of_lt_of_le lP65 hz
  replace cP81_0 := (hb136.cell (p := ⟨P81, 0, none⟩) lP81).trans cP81_0
  replace cP81_1 := (hb136.cell (p := ⟨P81, 1, none⟩) lP81).trans cP81_1
  replace cP81_2 := (hb136.cell (p := ⟨P81, 2, none⟩) lP81).trans cP81_2
  replace cP81_3 := (hb136.cell (p := ⟨P81, 3, none⟩) lP81).trans cP81_3
  replace lP81 : P81 < W137.heap.size := Nat.lt_of_lt_of_le lP81 hz
  replace cP106_0 := (hb136.cell (p := ⟨P106, 0, none⟩) lP106).trans cP106_0
  replace cP106_1 := (hb136.cell (p := ⟨P106, 1, none⟩) lP106).trans cP106_1
  replace lP106 : P106 < W137.heap.size := Nat.lt_of_lt_of_le lP106 hz
  replace cP107_0 := (hb136.cell (p := ⟨P107, 0, none⟩) lP107).trans cP107_0
  replace cP107_1 := (hb136.cell (p := ⟨P107, 1, none⟩) lP107).trans cP107_1
  replace lP107 : P107 < W137.heap.size := Nat.lt_of_lt_of_le lP107 hz
  replace HX79 := Lib.hid (HX79.out.below hb136 (show N78 ≤ W133.heap.size from (by have := CP26.out; have := CN27.out; have := CP64.out; have := CP65.out; have := CN66.out; have := CN67.out; have := CN78.out; have := CP81.out; have := CN82.out; have := CN83.out; have := CN88.out; have := CN90.out; have := CN95.out; have := CP106.out; have := CP107.out; have := CN108.out; omega)))
  replace HX89 := Lib.hid (HX89.out.below hb136 (show N88 ≤ W133.heap.size from (by have := CP26.out; have := CN27.out; have := CP64.out; have := CP65.out; have := CN66.out; have := CN67.out; have := CN78.out; have := CP81.out; have := CN82.out; have := CN83.out; have := CN88.out; have := CN90.out; have := CN95.out; have := CP106.out; have := CP107.out; have := CN108.out; omega)))
  replace HX96 := Lib.hid (HX96.out.below hb136 (show N95 ≤ W133.heap.size from (by have := CP26.out; have := CN27.out; have := CP64.out; have := CP65.out; have := CN66.out; have := CN67.out; have := CN78.out; have := CP81.out; have := CN82.out; have := CN83.out; have := CN88.out; have := CN90.out; have := CN95.out; have := CP106.out; have := CP107.out; have := CN108.out; omega)))
  replace top := Nat.le_trans top hz
  clear hb136 hz
  go_wp2_with fail
  go_ret
  exact ⟨rfl, hwc⟩
end Go.Proofs.Ytbfpneonmefndaa.PW
