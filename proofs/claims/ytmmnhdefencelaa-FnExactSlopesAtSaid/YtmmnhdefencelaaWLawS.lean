/-
  The exact law of SlopesAt: whatever the program and the fractions, the program answers as the model, leaves them as they were, and answers in memory of its own.
-/
import Derived.Test.YtmmnhdefencelaaWSl3
import Derived.Test.YtmmnhdefencelaaLKW
import Derived.Test.YtmmnhdefencelaaLKF
namespace Go.Proofs.Ytmmnhdefencelaa.PW
open Go.RowKit Go.Proofs.Ytmmnhdefencelaa
open Go.Proofs.Ytmmnhdefencelaa.PM
set_option maxHeartbeats 8000000 in
theorem law_FnExactSlopesAt (v00 v01 v02 v03 : Value) (X00 : List (List Int)) (X01 : List Int) (X02 : List (List Int)) (X03 : List Int) (v10 : Value) (X10 : List (Int × Int)) (w : World) (h00 : PM.Rows w v00 X00) (h01 : Ints w v01 X01) (h02 : PM.Rows w v02 X02) (h03 : Ints w v03 X03) (h10 : Frs w v10 X10) :
    Calls Try.prog 12 #[.agg #[v00, v01, v02, v03], v10] w fun e w' => e = .returned (.bool true) ∧ Below w.heap.size w w' := by
  have g00 := fun (w' : World) (h : Below w.heap.size w w') => h00.below h
  have I00 := Lib.hid (rows_I64 h00)
  obtain ⟨a00, c00, rfl, _⟩ := h00
  have g01 := fun (w' : World) (h : Below w.heap.size w w') => h01.below h
  have I01 := Lib.hid (ints_I64 h01)
  obtain ⟨a01, c01, rfl, _⟩ := h01
  have g02 := fun (w' : World) (h : Below w.heap.size w w') => h02.below h
  have I02 := Lib.hid (rows_I64 h02)
  obtain ⟨a02, c02, rfl, _⟩ := h02
  have g03 := fun (w' : World) (h : Below w.heap.size w w') => h03.below h
  have I03 := Lib.hid (ints_I64 h03)
  obtain ⟨a03, c03, rfl, _⟩ := h03
  have g10 := fun (w' : World) (h : Below w.heap.size w w') => h10.below h
  have I10 := Lib.hid ((h10).i64)
  obtain ⟨a10, c10, rfl, _⟩ := h10
  by_cases hz0 : szI (szWn X00 X01 X02 X03) 1048576 < 0
  · have E1 := Lib.hid (szx_neg hz0)
    clear hz0
    go_enter Try.func12, Try.ntmps12
    have hwc : Below w.heap.size w w := Below.refl _ _
    go_wp2_with fail
    obtain ⟨W1, hW1⟩ : ∃ w', w' = (w.alloc (.cells #[.slice a00 (X00).length c00, .slice a01 (X01).length c01, .slice a02 (X02).length c02, .slice a03 (X03).length c03] 56)) := ⟨_, rfl⟩
    rw [← hW1]
    have hbx : Below w.heap.size w W1 := by rw [hW1]; exact ((Below.refl _ _).alloc (by simp) _)
    obtain ⟨P2, hP2⟩ : ∃ n, n = w.heap.size := ⟨_, rfl⟩
    have cP2_0 : W1.cell? ⟨P2, 0, none⟩ = some (.slice a00 (X00).length c00) := by rw [hW1, hP2]; simp [go_sem]
    have cP2_1 : W1.cell? ⟨P2, 1, none⟩ = some (.slice a01 (X01).length c01) := by rw [hW1, hP2]; simp [go_sem]
    have cP2_2 : W1.cell? ⟨P2, 2, none⟩ = some (.slice a02 (X02).length c02) := by rw [hW1, hP2]; simp [go_sem]
    have cP2_3 : W1.cell? ⟨P2, 3, none⟩ = some (.slice a03 (X03).length c03) := by rw [hW1, hP2]; simp [go_sem]
    have lP2 : P2 < W1.heap.size := by rw [hW1, hP2]; simp
    have CP2 := Lib.hid (show w.heap.size ≤ P2 from by rw [hP2]; exact hwc.size)
    rw [← hP2]
    clear hP2 hW1
    have hz := hbx.size
    replace hwc := hwc.trans (hbx.mono hwc.size)
    clear hbx hz
    obtain ⟨N3, hN3⟩ : ∃ n, n = W1.heap.size := ⟨_, rfl⟩
    have CN3 := Lib.hid (show P2 < N3 from by rw [hN3]; exact lP2)
    have top : N3 ≤ W1.heap.size := Nat.le_of_eq hN3
    clear hN3
    refine (szW_x _ _ _ _ X00 X01 X02 X03 _ _ (g00 _ hwc) (g01 _ hwc) (g02 _ hwc) (g03 _ hwc) (by omega) (by omega)).mono ?_; rw [E1.out]; rintro e W5 ⟨rfl, hb4⟩
    have hz := hb4.size
    replace hwc := hwc.trans (hb4.mono hwc.size)
    replace cP2_0 := (hb4.cell (p := ⟨P2, 0, none⟩) lP2).trans cP2_0
    replace cP2_1 := (hb4.cell (p := ⟨P2, 1, none⟩) lP2).trans cP2_1
    replace cP2_2 := (hb4.cell (p := ⟨P2, 2, none⟩) lP2).trans cP2_2
    replace cP2_3 := (hb4.cell (p := ⟨P2, 3, none⟩) lP2).trans cP2_3
    replace lP2 : P2 < W5.heap.size := Nat.lt_of_lt_of_le lP2 hz
    replace top := Nat.le_trans top hz
    clear hb4 hz
    go_wp2_with fail
    go_ret
    exact ⟨rfl, hwc⟩
  obtain ⟨hf0, hle0⟩ := szx_fits hz0
  have hn0 : (szWn X00 X01 X02 X03) ≤ 1048576 := by omega
  have HN0 := Lib.hid hn0
  clear hn0 hf0
  by_cases hz1 : szI (X10).length (szI (szWn X00 X01 X02 X03) 1048576) < 0
  · have E1 := Lib.hid (szx_neg hz1)
    clear hz1
    go_enter Try.func12, Try.ntmps12
    have hwc : Below w.heap.size w w := Below.refl _ _
    go_wp2_with fail
    obtain ⟨W6, hW6⟩ : ∃ w', w' = (w.alloc (.cells #[.slice a00 (X00).length c00, .slice a01 (X01).length c01, .slice a02 (X02).length c02, .slice a03 (X03).length c03] 56)) := ⟨_, rfl⟩
    rw [← hW6]
    have hbx : Below w.heap.size w W6 := by rw [hW6]; exact ((Below.refl _ _).alloc (by simp) _)
    obtain ⟨P7, hP7⟩ : ∃ n, n = w.heap.size := ⟨_, rfl⟩
    have cP7_0 : W6.cell? ⟨P7, 0, none⟩ = some (.slice a00 (X00).length c00) := by rw [hW6, hP7]; simp [go_sem]
    have cP7_1 : W6.cell? ⟨P7, 1, none⟩ = some (.slice a01 (X01).length c01) := by rw [hW6, hP7]; simp [go_sem]
    have cP7_2 : W6.cell? ⟨P7, 2, none⟩ = some (.slice a02 (X02).length c02) := by rw [hW6, hP7]; simp [go_sem]
    have cP7_3 : W6.cell? ⟨P7, 3, none⟩ = some (.slice a03 (X03).length c03) := by rw [hW6, hP7]; simp [go_sem]
    have lP7 : P7 < W6.heap.size := by rw [hW6, hP7]; simp
    have CP7 := Lib.hid (show w.heap.size ≤ P7 from by rw [hP7]; exact hwc.size)
    rw [← hP7]
    clear hP7 hW6
    have hz := hbx.size
    replace hwc := hwc.trans (hbx.mono hwc.size)
    clear hbx hz
    obtain ⟨N8, hN8⟩ : ∃ n, n = W6.heap.size := ⟨_, rfl⟩
    have CN8 := Lib.hid (show P7 < N8 from by rw [hN8]; exact lP7)
    have top : N8 ≤ W6.heap.size := Nat.le_of_eq hN8
    clear hN8
    refine (szW_x _ _ _ _ X00 X01 X02 X03 _ _ (g00 _ hwc) (g01 _ hwc) (g02 _ hwc) (g03 _ hwc) (by omega) (by omega)).mono ?_; rintro e W10 ⟨rfl, hb9⟩
    have hz := hb9.size
    replace hwc := hwc.trans (hb9.mono hwc.size)
    replace cP7_0 := (hb9.cell (p := ⟨P7, 0, none⟩) lP7).trans cP7_0
    replace cP7_1 := (hb9.cell (p := ⟨P7, 1, none⟩) lP7).trans cP7_1
    replace cP7_2 := (hb9.cell (p := ⟨P7, 2, none⟩) lP7).trans cP7_2
    replace cP7_3 := (hb9.cell (p := ⟨P7, 3, none⟩) lP7).trans cP7_3
    replace lP7 : P7 < W10.heap.size := Nat.lt_of_lt_of_le lP7 hz
    replace top := Nat.le_trans top hz
    clear hb9 hz
    generalize szI (szWn X00 X01 X02 X03) 1048576 = lf11 at *
    go_wp2_with fail
    refine (szF_x _ X10 _ _ (g10 _ hwc) (by omega) (by omega)).mono ?_; rw [E1.out]; rintro e W13 ⟨rfl, hb12⟩
    have hz := hb12.size
    replace hwc := hwc.trans (hb12.mono hwc.size)
    replace cP7_0 := (hb12.cell (p := ⟨P7, 0, none⟩) lP7).trans cP7_0
    replace cP7_1 := (hb12.cell (p := ⟨P7, 1, none⟩) lP7).trans cP7_1
    replace cP7_2 := (hb12.cell (p := ⟨P7, 2, none⟩) lP7).trans cP7_2
    replace cP7_3 := (hb12.cell (p := ⟨P7, 3, none⟩) lP7).trans cP7_3
    replace lP7 : P7 < W13.heap.size := Nat.lt_of_lt_of_le lP7 hz
    replace top := Nat.le_trans top hz
    clear hb12 hz
    go_wp2_with fail
    go_ret
    exact ⟨rfl, hwc⟩
  obtain ⟨hf1, hle1⟩ := szx_fits hz1
  have hn1 : (X10).length ≤ 1048576 := by omega
  have HN1 := Lib.hid hn1
  clear hn1 hf1
  have hspec := fun (v00 v01 v02 v03 v10 : Value) (w : World) (h0 : PM.Rows w v00 X00) (h1 : Ints w v01 X01) (h2 : PM.Rows w v02 X02) (h3 : Ints w v03 X03) (h4 : Frs w v10 X10) => specSlopesAt_any v00 v01 v02 v03 v10 X00 X01 X02 X03 X10  w h0 h1 h2 h3 h4 HN0.out
  have himpl := fun (v00 v01 v02 v03 v10 : Value) (w : World) (h0 : PM.Rows w v00 X00) (h1 : Ints w v01 X01) (h2 : PM.Rows w v02 X02) (h3 : Ints w v03 X03) (h4 : Frs w v10 X10) => implSlopesAt_any v00 v01 v02 v03 v10 X00 X01 X02 X03 X10  w h0 h1 h2 h3 h4 HN0.out
  have hfine := fine_sl X00 X01 X02 X03 X10 
  generalize slOut X00 X01 X02 X03 X10  = o at *
  obtain ⟨O0, o1⟩ := o
  have HS := Lib.hid hspec
  have HI := Lib.hid himpl
  clear hspec himpl
  have HF0 : Hid (FineFx O0) := Lib.hid hfine
  clear hfine
  go_enter Try.func12, Try.ntmps12
  have hwc : Below w.heap.size w w := Below.refl _ _
  go_wp2_with fail
  obtain ⟨W14, hW14⟩ : ∃ w', w' = (w.alloc (.cells #[.slice a00 (X00).length c00, .slice a01 (X01).length c01, .slice a02 (X02).length c02, .slice a03 (X03).length c03] 56)) := ⟨_, rfl⟩
  rw [← hW14]
  have hbx : Below w.heap.size w W14 := by rw [hW14]; exact ((Below.refl _ _).alloc (by simp) _)
  obtain ⟨P15, hP15⟩ : ∃ n, n = w.heap.size := ⟨_, rfl⟩
  have cP15_0 : W14.cell? ⟨P15, 0, none⟩ = some (.slice a00 (X00).length c00) := by rw [hW14, hP15]; simp [go_sem]
  have cP15_1 : W14.cell? ⟨P15, 1, none⟩ = some (.slice a01 (X01).length c01) := by rw [hW14, hP15]; simp [go_sem]
  have cP15_2 : W14.cell? ⟨P15, 2, none⟩ = some (.slice a02 (X02).length c02) := by rw [hW14, hP15]; simp [go_sem]
  have cP15_3 : W14.cell? ⟨P15, 3, none⟩ = some (.slice a03 (X03).length c03) := by rw [hW14, hP15]; simp [go_sem]
  have lP15 : P15 < W14.heap.size := by rw [hW14, hP15]; simp
  have CP15 := Lib.hid (show w.heap.size ≤ P15 from by rw [hP15]; exact hwc.size)
  rw [← hP15]
  clear hP15 hW14
  have hz := hbx.size
  replace hwc := hwc.trans (hbx.mono hwc.size)
  clear hbx hz
  obtain ⟨N16, hN16⟩ : ∃ n, n = W14.heap.size := ⟨_, rfl⟩
  have CN16 := Lib.hid (show P15 < N16 from by rw [hN16]; exact lP15)
  have top : N16 ≤ W14.heap.size := Nat.le_of_eq hN16
  clear hN16
  refine (szW_x _ _ _ _ X00 X01 X02 X03 _ _ (g00 _ hwc) (g01 _ hwc) (g02 _ hwc) (g03 _ hwc) (by omega) (by omega)).mono ?_; rintro e W18 ⟨rfl, hb17⟩
  have hz := hb17.size
  replace hwc := hwc.trans (hb17.mono hwc.size)
  replace cP15_0 := (hb17.cell (p := ⟨P15, 0, none⟩) lP15).trans cP15_0
  replace cP15_1 := (hb17.cell (p := ⟨P15, 1, none⟩) lP15).trans cP15_1
  replace cP15_2 := (hb17.cell (p := ⟨P15, 2, none⟩) lP15).trans cP15_2
  replace cP15_3 := (hb17.cell (p := ⟨P15, 3, none⟩) lP15).trans cP15_3
  replace lP15 : P15 < W18.heap.size := Nat.lt_of_lt_of_le lP15 hz
  replace top := Nat.le_trans top hz
  clear hb17 hz
  generalize szI (szWn X00 X01 X02 X03) 1048576 = lf19 at *
  go_wp2_with fail
  refine (szF_x _ X10 _ _ (g10 _ hwc) (by omega) (by omega)).mono ?_; rintro e W21 ⟨rfl, hb20⟩
  have hz := hb20.size
  replace hwc := hwc.trans (hb20.mono hwc.size)
  replace cP15_0 := (hb20.cell (p := ⟨P15, 0, none⟩) lP15).trans cP15_0
  replace cP15_1 := (hb20.cell (p := ⟨P15, 1, none⟩) lP15).trans cP15_1
  replace cP15_2 := (hb20.cell (p := ⟨P15, 2, none⟩) lP15).trans cP15_2
  replace cP15_3 := (hb20.cell (p := ⟨P15, 3, none⟩) lP15).trans cP15_3
  replace lP15 : P15 < W21.heap.size := Nat.lt_of_lt_of_le lP15 hz
  replace top := Nat.le_trans top hz
  clear hb20 hz
  generalize szI (X10).length lf19 = lf22 at *
  go_wp2_with fail
  clear hz0 hle0 hz1 hle1
  refine (toW_x _ _ _ _ X00 X01 X02 X03 _ (g00 _ hwc) (g01 _ hwc) (g02 _ hwc) (g03 _ hwc) HN0.out).mono ?_; rintro e W24 ⟨p25, q26, p27, q28, p29, q30, p31, q32, rfl, hr, hb23⟩
  have hrr := RngWx.reads hr I00.out I01.out I02.out I03.out
  have RD33 := Lib.hid (hrr.1)
  have RD34 := Lib.hid (hrr.2.1)
  have RD35 := Lib.hid (hrr.2.2.1)
  have RD36 := Lib.hid (hrr.2.2.2)
  clear hrr
  clear hr
  have hz := hb23.size
  replace hwc := hwc.trans (hb23.mono hwc.size)
  replace cP15_0 := (hb23.cell (p := ⟨P15, 0, none⟩) lP15).trans cP15_0
  replace cP15_1 := (hb23.cell (p := ⟨P15, 1, none⟩) lP15).trans cP15_1
  replace cP15_2 := (hb23.cell (p := ⟨P15, 2, none⟩) lP15).trans cP15_2
  replace cP15_3 := (hb23.cell (p := ⟨P15, 3, none⟩) lP15).trans cP15_3
  replace lP15 : P15 < W24.heap.size := Nat.lt_of_lt_of_le lP15 hz
  replace top := Nat.le_trans top hz
  clear hb23 hz
  go_wp2_with fail
  refine (toF_x _ X10 _ (g10 _ hwc) HN1.out).mono ?_; rintro e W38 ⟨p39, q40, rfl, hr, hb37⟩
  have RD41 := Lib.hid (RngFx.reads hr I10.out)
  clear hr
  have hz := hb37.size
  replace hwc := hwc.trans (hb37.mono hwc.size)
  replace cP15_0 := (hb37.cell (p := ⟨P15, 0, none⟩) lP15).trans cP15_0
  replace cP15_1 := (hb37.cell (p := ⟨P15, 1, none⟩) lP15).trans cP15_1
  replace cP15_2 := (hb37.cell (p := ⟨P15, 2, none⟩) lP15).trans cP15_2
  replace cP15_3 := (hb37.cell (p := ⟨P15, 3, none⟩) lP15).trans cP15_3
  replace lP15 : P15 < W38.heap.size := Nat.lt_of_lt_of_le lP15 hz
  replace RD33 := Lib.hid (RD33.out.below hb37)
  replace RD34 := Lib.hid (RD34.out.below hb37)
  replace RD35 := Lib.hid (RD35.out.below hb37)
  replace RD36 := Lib.hid (RD36.out.below hb37)
  replace top := Nat.le_trans top hz
  clear hb37 hz
  go_wp2_with fail
  obtain ⟨N44, hN44⟩ : ∃ N44, N44 = W38.heap.size := ⟨_, rfl⟩
  have CN44 := Lib.hid (show N16 ≤ N44 from by rw [hN44]; exact top)
  have top' : N44 ≤ W38.heap.size := Nat.le_of_eq hN44
  clear top
  have top := top'
  clear top'
  refine (HS.out _ _ _ _ _ _ RD33.out RD34.out RD35.out RD36.out RD41.out).mono ?_; rintro e W42 ho; obtain ⟨p45, q46, rfl, hr0, hb43⟩ := ho.out; clear ho; dsimp only at hr0; dsimp only
  rw [← hN44] at hr0
  clear hN44
  have hz := hb43.size
  replace hwc := hwc.trans (hb43.mono hwc.size)
  replace cP15_0 := (hb43.cell (p := ⟨P15, 0, none⟩) lP15).trans cP15_0
  replace cP15_1 := (hb43.cell (p := ⟨P15, 1, none⟩) lP15).trans cP15_1
  replace cP15_2 := (hb43.cell (p := ⟨P15, 2, none⟩) lP15).trans cP15_2
  replace cP15_3 := (hb43.cell (p := ⟨P15, 3, none⟩) lP15).trans cP15_3
  replace lP15 : P15 < W42.heap.size := Nat.lt_of_lt_of_le lP15 hz
  replace RD33 := Lib.hid (RD33.out.below hb43)
  replace RD34 := Lib.hid (RD34.out.below hb43)
  replace RD35 := Lib.hid (RD35.out.below hb43)
  replace RD36 := Lib.hid (RD36.out.below hb43)
  replace RD41 := Lib.hid (RD41.out.below hb43)
  replace top := Nat.le_trans top hz
  clear hb43 hz
  obtain ⟨N47, hN47⟩ : ∃ N47, N47 = W42.heap.size := ⟨_, rfl⟩
  have CN47 := Lib.hid (show N44 ≤ N47 from by rw [hN47]; exact top)
  have top' : N47 ≤ W42.heap.size := Nat.le_of_eq hN47
  clear top
  have top := top'
  clear top'
  rw [← hN47] at hr0
  clear hN47
  have HA48 := Lib.hid hr0
  clear hr0
  clear RD33 RD34 RD35 RD36 RD41
  go_wp2_with fail
  obtain ⟨N49, hN49⟩ : ∃ N49, N49 = W42.heap.size := ⟨_, rfl⟩
  have CN49 := Lib.hid (show N47 ≤ N49 from by rw [hN49]; exact top)
  have top' : N49 ≤ W42.heap.size := Nat.le_of_eq hN49
  clear top
  have top := top'
  clear top'
  refine (toW_x _ _ _ _ X00 X01 X02 X03 _ (g00 _ hwc) (g01 _ hwc) (g02 _ hwc) (g03 _ hwc) HN0.out).mono ?_; rintro e W51 ⟨p52, q53, p54, q55, p56, q57, p58, q59, rfl, hr, hb50⟩
  rw [← hN49] at hr
  clear hN49
  have hz := hb50.size
  replace hwc := hwc.trans (hb50.mono hwc.size)
  replace cP15_0 := (hb50.cell (p := ⟨P15, 0, none⟩) lP15).trans cP15_0
  replace cP15_1 := (hb50.cell (p := ⟨P15, 1, none⟩) lP15).trans cP15_1
  replace cP15_2 := (hb50.cell (p := ⟨P15, 2, none⟩) lP15).trans cP15_2
  replace cP15_3 := (hb50.cell (p := ⟨P15, 3, none⟩) lP15).trans cP15_3
  replace lP15 : P15 < W51.heap.size := Nat.lt_of_lt_of_le lP15 hz
  replace HA48 := Lib.hid (HA48.out.below hb50 (show N47 ≤ W42.heap.size from (by have := CP15.out; have := CN16.out; have := CN44.out; have := CN47.out; have := CN49.out; omega)))
  replace top := Nat.le_trans top hz
  clear hb50 hz
  obtain ⟨N60, hN60⟩ : ∃ N60, N60 = W51.heap.size := ⟨_, rfl⟩
  have CN60 := Lib.hid (show N49 ≤ N60 from by rw [hN60]; exact top)
  have top' : N60 ≤ W51.heap.size := Nat.le_of_eq hN60
  clear top
  have top := top'
  clear top'
  rw [← hN60] at hr
  clear hN60
  have HX61 := Lib.hid hr
  clear hr
  go_wp2_with fail
  obtain ⟨W62, hW62⟩ : ∃ w', w' = (W51.alloc (.cells #[.slice p52 (X00).length q53, .slice p54 (X01).length q55, .slice p56 (X02).length q57, .slice p58 (X03).length q59] 59)) := ⟨_, rfl⟩
  rw [← hW62]
  have hbx : Below W51.heap.size W51 W62 := by rw [hW62]; exact ((Below.refl _ _).alloc (by simp) _)
  obtain ⟨P63, hP63⟩ : ∃ n, n = W51.heap.size := ⟨_, rfl⟩
  have cP63_0 : W62.cell? ⟨P63, 0, none⟩ = some (.slice p52 (X00).length q53) := by rw [hW62, hP63]; simp [go_sem]
  have cP63_1 : W62.cell? ⟨P63, 1, none⟩ = some (.slice p54 (X01).length q55) := by rw [hW62, hP63]; simp [go_sem]
  have cP63_2 : W62.cell? ⟨P63, 2, none⟩ = some (.slice p56 (X02).length q57) := by rw [hW62, hP63]; simp [go_sem]
  have cP63_3 : W62.cell? ⟨P63, 3, none⟩ = some (.slice p58 (X03).length q59) := by rw [hW62, hP63]; simp [go_sem]
  have lP63 : P63 < W62.heap.size := by rw [hW62, hP63]; simp
  have CP63 := Lib.hid (show N60 ≤ P63 from by rw [hP63]; exact top)
  rw [← hP63]
  clear hP63 hW62
  have hz := hbx.size
  replace hwc := hwc.trans (hbx.mono hwc.size)
  replace cP15_0 := (hbx.cell (p := ⟨P15, 0, none⟩) lP15).trans cP15_0
  replace cP15_1 := (hbx.cell (p := ⟨P15, 1, none⟩) lP15).trans cP15_1
  replace cP15_2 := (hbx.cell (p := ⟨P15, 2, none⟩) lP15).trans cP15_2
  replace cP15_3 := (hbx.cell (p := ⟨P15, 3, none⟩) lP15).trans cP15_3
  replace lP15 : P15 < W62.heap.size := Nat.lt_of_lt_of_le lP15 hz
  replace HA48 := Lib.hid (HA48.out.below hbx (show N47 ≤ W51.heap.size from (by have := CP15.out; have := CN16.out; have := CN44.out; have := CN47.out; have := CN49.out; have := CN60.out; have := CP63.out; omega)))
  replace HX61 := Lib.hid (HX61.out.below hbx (show N60 ≤ W51.heap.size from (by have := CP15.out; have := CN16.out; have := CN44.out; have := CN47.out; have := CN49.out; have := CN60.out; have := CP63.out; omega)))
  replace top := Nat.le_trans top hz
  clear hbx hz
  clear top
  obtain ⟨N64, hN64⟩ : ∃ n, n = W62.heap.size := ⟨_, rfl⟩
  have CN64 := Lib.hid (show P63 < N64 from by rw [hN64]; exact lP63)
  have top : N64 ≤ W62.heap.size := Nat.le_of_eq hN64
  clear hN64
  obtain ⟨N65, hN65⟩ : ∃ N65, N65 = W62.heap.size := ⟨_, rfl⟩
  have CN65 := Lib.hid (show N64 ≤ N65 from by rw [hN65]; exact top)
  have top' : N65 ≤ W62.heap.size := Nat.le_of_eq hN65
  clear top
  have top := top'
  clear top'
  refine (toF_x _ X10 _ (g10 _ hwc) HN1.out).mono ?_; rintro e W67 ⟨p68, q69, rfl, hr, hb66⟩
  rw [← hN65] at hr
  clear hN65
  have hz := hb66.size
  replace hwc := hwc.trans (hb66.mono hwc.size)
  replace cP15_0 := (hb66.cell (p := ⟨P15, 0, none⟩) lP15).trans cP15_0
  replace cP15_1 := (hb66.cell (p := ⟨P15, 1, none⟩) lP15).trans cP15_1
  replace cP15_2 := (hb66.cell (p := ⟨P15, 2, none⟩) lP15).trans cP15_2
  replace cP15_3 := (hb66.cell (p := ⟨P15, 3, none⟩) lP15).trans cP15_3
  replace lP15 : P15 < W67.heap.size := Nat.lt_of_lt_of_le lP15 hz
  replace cP63_0 := (hb66.cell (p := ⟨P63, 0, none⟩) lP63).trans cP63_0
  replace cP63_1 := (hb66.cell (p := ⟨P63, 1, none⟩) lP63).trans cP63_1
  replace cP63_2 := (hb66.cell (p := ⟨P63, 2, none⟩) lP63).trans cP63_2
  replace cP63_3 := (hb66.cell (p := ⟨P63, 3, none⟩) lP63).trans cP63_3
  replace lP63 : P63 < W67.heap.size := Nat.lt_of_lt_of_le lP63 hz
  replace HA48 := Lib.hid (HA48.out.below hb66 (show N47 ≤ W62.heap.size from (by have := CP15.out; have := CN16.out; have := CN44.out; have := CN47.out; have := CN49.out; have := CN60.out; have := CP63.out; have := CN64.out; have := CN65.out; omega)))
  replace HX61 := Lib.hid (HX61.out.below hb66 (show N60 ≤ W62.heap.size from (by have := CP15.out; have := CN16.out; have := CN44.out; have := CN47.out; have := CN49.out; have := CN60.out; have := CP63.out; have := CN64.out; have := CN65.out; omega)))
  replace top := Nat.le_trans top hz
  clear hb66 hz
  obtain ⟨N70, hN70⟩ : ∃ N70, N70 = W67.heap.size := ⟨_, rfl⟩
  have CN70 := Lib.hid (show N65 ≤ N70 from by rw [hN70]; exact top)
  have top' : N70 ≤ W67.heap.size := Nat.le_of_eq hN70
  clear top
  have top := top'
  clear top'
  rw [← hN70] at hr
  clear hN70
  have HX71 := Lib.hid hr
  clear hr
  have hrr := RngWx.reads HX61.out I00.out I01.out I02.out I03.out
  have RD72 := Lib.hid (hrr.1)
  have RD73 := Lib.hid (hrr.2.1)
  have RD74 := Lib.hid (hrr.2.2.1)
  have RD75 := Lib.hid (hrr.2.2.2)
  clear hrr
  have RD76 := Lib.hid (RngFx.reads HX71.out I10.out)
  go_wp2_with fail
  obtain ⟨N79, hN79⟩ : ∃ N79, N79 = W67.heap.size := ⟨_, rfl⟩
  have CN79 := Lib.hid (show N70 ≤ N79 from by rw [hN79]; exact top)
  have top' : N79 ≤ W67.heap.size := Nat.le_of_eq hN79
  clear top
  have top := top'
  clear top'
  refine (HI.out _ _ _ _ _ _ RD72.out RD73.out RD74.out RD75.out RD76.out).mono ?_; rintro e W77 ho; obtain ⟨p80, q81, rfl, hr0, hb78⟩ := ho.out; clear ho; dsimp only at hr0; dsimp only
  rw [← hN79] at hr0
  clear hN79
  have hz := hb78.size
  replace hwc := hwc.trans (hb78.mono hwc.size)
  replace cP15_0 := (hb78.cell (p := ⟨P15, 0, none⟩) lP15).trans cP15_0
  replace cP15_1 := (hb78.cell (p := ⟨P15, 1, none⟩) lP15).trans cP15_1
  replace cP15_2 := (hb78.cell (p := ⟨P15, 2, none⟩) lP15).trans cP15_2
  replace cP15_3 := (hb78.cell (p := ⟨P15, 3, none⟩) lP15).trans cP15_3
  replace lP15 : P15 < W77.heap.size := Nat.lt_of_lt_of_le lP15 hz
  replace cP63_0 := (hb78.cell (p := ⟨P63, 0, none⟩) lP63).trans cP63_0
  replace cP63_1 := (hb78.cell (p := ⟨P63, 1, none⟩) lP63).trans cP63_1
  replace cP63_2 := (hb78.cell (p := ⟨P63, 2, none⟩) lP63).trans cP63_2
  replace cP63_3 := (hb78.cell (p := ⟨P63, 3, none⟩) lP63).trans cP63_3
  replace lP63 : P63 < W77.heap.size := Nat.lt_of_lt_of_le lP63 hz
  replace RD72 := Lib.hid (RD72.out.below hb78)
  replace RD73 := Lib.hid (RD73.out.below hb78)
  replace RD74 := Lib.hid (RD74.out.below hb78)
  replace RD75 := Lib.hid (RD75.out.below hb78)
  replace RD76 := Lib.hid (RD76.out.below hb78)
  replace HA48 := Lib.hid (HA48.out.below hb78 (show N47 ≤ W67.heap.size from (by have := CP15.out; have := CN16.out; have := CN44.out; have := CN47.out; have := CN49.out; have := CN60.out; have := CP63.out; have := CN64.out; have := CN65.out; have := CN70.out; have := CN79.out; omega)))
  replace HX61 := Lib.hid (HX61.out.below hb78 (show N60 ≤ W67.heap.size from (by have := CP15.out; have := CN16.out; have := CN44.out; have := CN47.out; have := CN49.out; have := CN60.out; have := CP63.out; have := CN64.out; have := CN65.out; have := CN70.out; have := CN79.out; omega)))
  replace HX71 := Lib.hid (HX71.out.below hb78 (show N70 ≤ W67.heap.size from (by have := CP15.out; have := CN16.out; have := CN44.out; have := CN47.out; have := CN49.out; have := CN60.out; have := CP63.out; have := CN64.out; have := CN65.out; have := CN70.out; have := CN79.out; omega)))
  replace top := Nat.le_trans top hz
  clear hb78 hz
  obtain ⟨N82, hN82⟩ : ∃ N82, N82 = W77.heap.size := ⟨_, rfl⟩
  have CN82 := Lib.hid (show N79 ≤ N82 from by rw [hN82]; exact top)
  have top' : N82 ≤ W77.heap.size := Nat.le_of_eq hN82
  clear top
  have top := top'
  clear top'
  rw [← hN82] at hr0
  clear hN82
  have HA83 := Lib.hid hr0
  clear hr0
  clear RD72 RD73 RD74 RD75 RD76
  go_wp2_with fail
  refine (eqF_ans HA83.out HA48.out HF0.out).mono ?_; rintro e W85 ⟨rfl, hb84⟩
  have hz := hb84.size
  replace hwc := hwc.trans (hb84.mono hwc.size)
  replace cP15_0 := (hb84.cell (p := ⟨P15, 0, none⟩) lP15).trans cP15_0
  replace cP15_1 := (hb84.cell (p := ⟨P15, 1, none⟩) lP15).trans cP15_1
  replace cP15_2 := (hb84.cell (p := ⟨P15, 2, none⟩) lP15).trans cP15_2
  replace cP15_3 := (hb84.cell (p := ⟨P15, 3, none⟩) lP15).trans cP15_3
  replace lP15 : P15 < W85.heap.size := Nat.lt_of_lt_of_le lP15 hz
  replace cP63_0 := (hb84.cell (p := ⟨P63, 0, none⟩) lP63).trans cP63_0
  replace cP63_1 := (hb84.cell (p := ⟨P63, 1, none⟩) lP63).trans cP63_1
  replace cP63_2 := (hb84.cell (p := ⟨P63, 2, none⟩) lP63).trans cP63_2
  replace cP63_3 := (hb84.cell (p := ⟨P63, 3, none⟩) lP63).trans cP63_3
  replace lP63 : P63 < W85.heap.size := Nat.lt_of_lt_of_le lP63 hz
  replace HA48 := Lib.hid (HA48.out.below hb84 (show N47 ≤ W77.heap.size from (by have := CP15.out; have := CN16.out; have := CN44.out; have := CN47.out; have := CN49.out; have := CN60.out; have := CP63.out; have := CN64.out; have := CN65.out; have := CN70.out; have := CN79.out; have := CN82.out; omega)))
  replace HX61 := Lib.hid (HX61.out.below hb84 (show N60 ≤ W77.heap.size from (by have := CP15.out; have := CN16.out; have := CN44.out; have := CN47.out; have := CN49.out; have := CN60.out; have := CP63.out; have := CN64.out; have := CN65.out; have := CN70.out; have := CN79.out; have := CN82.out; omega)))
  replace HX71 := Lib.hid (HX71.out.below hb84 (show N70 ≤ W77.heap.size from (by have := CP15.out; have := CN16.out; have := CN44.out; have := CN47.out; have := CN49.out; have := CN60.out; have := CP63.out; have := CN64.out; have := CN65.out; have := CN70.out; have := CN79.out; have := CN82.out; omega)))
  replace HA83 := Lib.hid (HA83.out.below hb84 (show N82 ≤ W77.heap.size from (by have := CP15.out; have := CN16.out; have := CN44.out; have := CN47.out; have := CN49.out; have := CN60.out; have := CP63.out; have := CN64.out; have := CN65.out; have := CN70.out; have := CN79.out; have := CN82.out; omega)))
  replace top := Nat.le_trans top hz
  clear hb84 hz
  have hrr := RngWx.reads HX61.out I00.out I01.out I02.out I03.out
  have RX86 := Lib.hid (hrr.1)
  have RX87 := Lib.hid (hrr.2.1)
  have RX88 := Lib.hid (hrr.2.2.1)
  have RX89 := Lib.hid (hrr.2.2.2)
  clear hrr
  have rp0 := fun (w' : World) (h : Below W85.heap.size W85 w') => (h.cell (p := ⟨P15, 0, none⟩) lP15).trans cP15_0
  have rp1 := fun (w' : World) (h : Below W85.heap.size W85 w') => (h.cell (p := ⟨P15, 1, none⟩) lP15).trans cP15_1
  have rp2 := fun (w' : World) (h : Below W85.heap.size W85 w') => (h.cell (p := ⟨P15, 2, none⟩) lP15).trans cP15_2
  have rp3 := fun (w' : World) (h : Below W85.heap.size W85 w') => (h.cell (p := ⟨P15, 3, none⟩) lP15).trans cP15_3
  have rv0 := fun (w' : World) (h : Below W85.heap.size W85 w') => (h.cell (p := ⟨P63, 0, none⟩) lP63).trans cP63_0
  have rv1 := fun (w' : World) (h : Below W85.heap.size W85 w') => (h.cell (p := ⟨P63, 1, none⟩) lP63).trans cP63_1
  have rv2 := fun (w' : World) (h : Below W85.heap.size W85 w') => (h.cell (p := ⟨P63, 2, none⟩) lP63).trans cP63_2
  have rv3 := fun (w' : World) (h : Below W85.heap.size W85 w') => (h.cell (p := ⟨P63, 3, none⟩) lP63).trans cP63_3
  clear cP15_0 cP15_1 cP15_2 cP15_3
  clear cP63_0 cP63_1 cP63_2 cP63_3
  go_wp2_with fail
  have hz9 := hwc.size
  go_region_held3 (fun w' => Below W85.heap.size W85 w') ((repeat' (first | (with_reducible exact Below.refl _ _) | (with_reducible assumption) | (with_reducible refine Below.alloc ?_ ?_ _) | (with_reducible refine Below.drew ?_) | (with_reducible refine below_drewN ?_ _) | (with_reducible refine Below.setCell ?_ ?_ _) | (with_reducible refine Below.trans ?_ (Below.mono (by with_reducible assumption) ?_)) | (with_reducible exact Below.size (by with_reducible assumption)) | go_size)))
    (first | (go_at_call 43; refine (toW_x _ _ _ _ X00 X01 X02 X03 _ (g00 _ (hwc.trans (Below.mono (by assumption) hz9))) (g01 _ (hwc.trans (Below.mono (by assumption) hz9))) (g02 _ (hwc.trans (Below.mono (by assumption) hz9))) (g03 _ (hwc.trans (Below.mono (by assumption) hz9))) HN0.out).mono ?_; rintro e w8 ⟨p90, q91, p92, q93, p94, q95, p96, q97, rfl, hr8, hb8⟩; have hS8 : Below W85.heap.size W85 w8 := (by (repeat' (first | (with_reducible exact Below.refl _ _) | (with_reducible assumption) | (with_reducible refine Below.alloc ?_ ?_ _) | (with_reducible refine Below.drew ?_) | (with_reducible refine below_drewN ?_ _) | (with_reducible refine Below.setCell ?_ ?_ _) | (with_reducible refine Below.trans ?_ (Below.mono (by with_reducible assumption) ?_)) | (with_reducible exact Below.size (by with_reducible assumption)) | go_size))); have R8 := Lib.hid (RngWx.reads hr8 I00.out I01.out I02.out I03.out); clear hr8) | (go_at_call 45; refine (eqW_x _ _ _ _ _ _ _ _ X00 X01 X02 X03 _ (RX86.out.below hS8) (RX87.out.below hS8) (RX88.out.below hS8) (RX89.out.below hS8) (R8.out.1) (R8.out.2.1) (R8.out.2.2.1) (R8.out.2.2.2)).mono ?_; rintro e w9 ⟨rfl, hb9⟩; have hS9 : Below W85.heap.size W85 w9 := (by (repeat' (first | (with_reducible exact Below.refl _ _) | (with_reducible assumption) | (with_reducible refine Below.alloc ?_ ?_ _) | (with_reducible refine Below.drew ?_) | (with_reducible refine below_drewN ?_ _) | (with_reducible refine Below.setCell ?_ ?_ _) | (with_reducible refine Below.trans ?_ (Below.mono (by with_reducible assumption) ?_)) | (with_reducible exact Below.size (by with_reducible assumption)) | go_size)))))
  clear R8 hS8 hb8 hb9 hz9 RX86 RX87 RX88 RX89
  have cP15_0 := rp0 _ hS9
  have cP15_1 := rp1 _ hS9
  have cP15_2 := rp2 _ hS9
  have cP15_3 := rp3 _ hS9
  have cP63_0 := rv0 _ hS9
  have cP63_1 := rv1 _ hS9
  have cP63_2 := rv2 _ hS9
  have cP63_3 := rv3 _ hS9
  clear rp0 rp1 rp2 rp3 rv0 rv1 rv2 rv3
  have hS9' := hS9
  have lP9 := Nat.lt_of_lt_of_le lP15 hS9.size
  have lV9 := Nat.lt_of_lt_of_le lP63 hS9.size
  clear hS9 lP15 lP63
  have lP15 := lP9
  have lP63 := lV9
  clear lP9 lV9
  have hz := hS9'.size
  replace hwc := hwc.trans (hS9'.mono hwc.size)
  replace HA48 := Lib.hid (HA48.out.below hS9' (show N47 ≤ W85.heap.size from (by have := CP15.out; have := CN16.out; have := CN44.out; have := CN47.out; have := CN49.out; have := CN60.out; have := CP63.out; have := CN64.out; have := CN65.out; have := CN70.out; have := CN79.out; have := CN82.out; omega)))
  replace HX61 := Lib.hid (HX61.out.below hS9' (show N60 ≤ W85.heap.size from (by have := CP15.out; have := CN16.out; have := CN44.out; have := CN47.out; have := CN49.out; have := CN60.out; have := CP63.out; have := CN64.out; have := CN65.out; have := CN70.out; have := CN79.out; have := CN82.out; omega)))
  replace HX71 := Lib.hid (HX71.out.below hS9' (show N70 ≤ W85.heap.size from (by have := CP15.out; have := CN16.out; have := CN44.out; have := CN47.out; have := CN49.out; have := CN60.out; have := CP63.out; have := CN64.out; have := CN65.out; have := CN70.out; have := CN79.out; have := CN82.out; omega)))
  replace HA83 := Lib.hid (HA83.out.below hS9' (show N82 ≤ W85.heap.size from (by have := CP15.out; have := CN16.out; have := CN44.out; have := CN47.out; have := CN49.out; have := CN60.out; have := CP63.out; have := CN64.out; have := CN65.out; have := CN70.out; have := CN79.out; have := CN82.out; omega)))
  replace top := Nat.le_trans top hz
  clear hS9' hz
  obtain ⟨W98, rfl⟩ : ∃ w', w' = w9 := ⟨_, rfl⟩
  go_wp2_with fail
  refine (toF_x _ X10 _ (g10 _ hwc) HN1.out).mono ?_; rintro e W100 ⟨p101, q102, rfl, hr, hb99⟩
  have RT := Lib.hid hr
  clear hr
  have hz := hb99.size
  replace hwc := hwc.trans (hb99.mono hwc.size)
  replace cP15_0 := (hb99.cell (p := ⟨P15, 0, none⟩) lP15).trans cP15_0
  replace cP15_1 := (hb99.cell (p := ⟨P15, 1, none⟩) lP15).trans cP15_1
  replace cP15_2 := (hb99.cell (p := ⟨P15, 2, none⟩) lP15).trans cP15_2
  replace cP15_3 := (hb99.cell (p := ⟨P15, 3, none⟩) lP15).trans cP15_3
  replace lP15 : P15 < W100.heap.size := Nat.lt_of_lt_of_le lP15 hz
  replace cP63_0 := (hb99.cell (p := ⟨P63, 0, none⟩) lP63).trans cP63_0
  replace cP63_1 := (hb99.cell (p := ⟨P63, 1, none⟩) lP63).trans cP63_1
  replace cP63_2 := (hb99.cell (p := ⟨P63, 2, none⟩) lP63).trans cP63_2
  replace cP63_3 := (hb99.cell (p := ⟨P63, 3, none⟩) lP63).trans cP63_3
  replace lP63 : P63 < W100.heap.size := Nat.lt_of_lt_of_le lP63 hz
  replace HA48 := Lib.hid (HA48.out.below hb99 (show N47 ≤ W98.heap.size from (by have := CP15.out; have := CN16.out; have := CN44.out; have := CN47.out; have := CN49.out; have := CN60.out; have := CP63.out; have := CN64.out; have := CN65.out; have := CN70.out; have := CN79.out; have := CN82.out; omega)))
  replace HX61 := Lib.hid (HX61.out.below hb99 (show N60 ≤ W98.heap.size from (by have := CP15.out; have := CN16.out; have := CN44.out; have := CN47.out; have := CN49.out; have := CN60.out; have := CP63.out; have := CN64.out; have := CN65.out; have := CN70.out; have := CN79.out; have := CN82.out; omega)))
  replace HX71 := Lib.hid (HX71.out.below hb99 (show N70 ≤ W98.heap.size from (by have := CP15.out; have := CN16.out; have := CN44.out; have := CN47.out; have := CN49.out; have := CN60.out; have := CP63.out; have := CN64.out; have := CN65.out; have := CN70.out; have := CN79.out; have := CN82.out; omega)))
  replace HA83 := Lib.hid (HA83.out.below hb99 (show N82 ≤ W98.heap.size from (by have := CP15.out; have := CN16.out; have := CN44.out; have := CN47.out; have := CN49.out; have := CN60.out; have := CP63.out; have := CN64.out; have := CN65.out; have := CN70.out; have := CN79.out; have := CN82.out; omega)))
  replace top := Nat.le_trans top hz
  clear hb99 hz
  go_wp2_with fail
  refine (eqF_x _ _ X10 _ HX71.out RT.out I10.out HN1.out).mono ?_; rintro e W104 ⟨rfl, hb103⟩
  clear RT
  have hz := hb103.size
  replace hwc := hwc.trans (hb103.mono hwc.size)
  replace cP15_0 := (hb103.cell (p := ⟨P15, 0, none⟩) lP15).trans cP15_0
  replace cP15_1 := (hb103.cell (p := ⟨P15, 1, none⟩) lP15).trans cP15_1
  replace cP15_2 := (hb103.cell (p := ⟨P15, 2, none⟩) lP15).trans cP15_2
  replace cP15_3 := (hb103.cell (p := ⟨P15, 3, none⟩) lP15).trans cP15_3
  replace lP15 : P15 < W104.heap.size := Nat.lt_of_lt_of_le lP15 hz
  replace cP63_0 := (hb103.cell (p := ⟨P63, 0, none⟩) lP63).trans cP63_0
  replace cP63_1 := (hb103.cell (p := ⟨P63, 1, none⟩) lP63).trans cP63_1
  replace cP63_2 := (hb103.cell (p := ⟨P63, 2, none⟩) lP63).trans cP63_2
  replace cP63_3 := (hb103.cell (p := ⟨P63, 3, none⟩) lP63).trans cP63_3
  replace lP63 : P63 < W104.heap.size := Nat.lt_of_lt_of_le lP63 hz
  replace HA48 := Lib.hid (HA48.out.below hb103 (show N47 ≤ W100.heap.size from (by have := CP15.out; have := CN16.out; have := CN44.out; have := CN47.out; have := CN49.out; have := CN60.out; have := CP63.out; have := CN64.out; have := CN65.out; have := CN70.out; have := CN79.out; have := CN82.out; omega)))
  replace HX61 := Lib.hid (HX61.out.below hb103 (show N60 ≤ W100.heap.size from (by have := CP15.out; have := CN16.out; have := CN44.out; have := CN47.out; have := CN49.out; have := CN60.out; have := CP63.out; have := CN64.out; have := CN65.out; have := CN70.out; have := CN79.out; have := CN82.out; omega)))
  replace HX71 := Lib.hid (HX71.out.below hb103 (show N70 ≤ W100.heap.size from (by have := CP15.out; have := CN16.out; have := CN44.out; have := CN47.out; have := CN49.out; have := CN60.out; have := CP63.out; have := CN64.out; have := CN65.out; have := CN70.out; have := CN79.out; have := CN82.out; omega)))
  replace HA83 := Lib.hid (HA83.out.below hb103 (show N82 ≤ W100.heap.size from (by have := CP15.out; have := CN16.out; have := CN44.out; have := CN47.out; have := CN49.out; have := CN60.out; have := CP63.out; have := CN64.out; have := CN65.out; have := CN70.out; have := CN79.out; have := CN82.out; omega)))
  replace top := Nat.le_trans top hz
  clear hb103 hz
  go_wp2_with fail
  refine (markW_x HX61.out HN0.out (show N60 ≤ W104.heap.size from (by have := CP15.out; have := CN16.out; have := CN44.out; have := CN47.out; have := CN49.out; have := CN60.out; have := CP63.out; have := CN64.out; have := CN65.out; have := CN70.out; have := CN79.out; have := CN82.out; omega)) 1 (by decide) (by omega)).mono ?_; rintro e W106 ⟨k107, rfl, hk107a, hk107b, hb105⟩
  clear HX61
  have hz := hb105.size
  replace hwc := hwc.trans ((hb105.below (show N49 ≤ W104.heap.size from (by have := CP15.out; have := CN16.out; have := CN44.out; have := CN47.out; have := CN49.out; have := CN60.out; have := CP63.out; have := CN64.out; have := CN65.out; have := CN70.out; have := CN79.out; have := CN82.out; omega))).mono (show w.heap.size ≤ N49 from (by have := CP15.out; have := CN16.out; have := CN44.out; have := CN47.out; have := CN49.out; have := CN60.out; have := CP63.out; have := CN64.out; have := CN65.out; have := CN70.out; have := CN79.out; have := CN82.out; omega)))
  replace cP15_0 := (hb105.cell (p := ⟨P15, 0, none⟩) lP15 (show P15 < N49 ∨ N60 ≤ P15 from (by have := CP15.out; have := CN16.out; have := CN44.out; have := CN47.out; have := CN49.out; have := CN60.out; have := CP63.out; have := CN64.out; have := CN65.out; have := CN70.out; have := CN79.out; have := CN82.out; omega))).trans cP15_0
  replace cP15_1 := (hb105.cell (p := ⟨P15, 1, none⟩) lP15 (show P15 < N49 ∨ N60 ≤ P15 from (by have := CP15.out; have := CN16.out; have := CN44.out; have := CN47.out; have := CN49.out; have := CN60.out; have := CP63.out; have := CN64.out; have := CN65.out; have := CN70.out; have := CN79.out; have := CN82.out; omega))).trans cP15_1
  replace cP15_2 := (hb105.cell (p := ⟨P15, 2, none⟩) lP15 (show P15 < N49 ∨ N60 ≤ P15 from (by have := CP15.out; have := CN16.out; have := CN44.out; have := CN47.out; have := CN49.out; have := CN60.out; have := CP63.out; have := CN64.out; have := CN65.out; have := CN70.out; have := CN79.out; have := CN82.out; omega))).trans cP15_2
  replace cP15_3 := (hb105.cell (p := ⟨P15, 3, none⟩) lP15 (show P15 < N49 ∨ N60 ≤ P15 from (by have := CP15.out; have := CN16.out; have := CN44.out; have := CN47.out; have := CN49.out; have := CN60.out; have := CP63.out; have := CN64.out; have := CN65.out; have := CN70.out; have := CN79.out; have := CN82.out; omega))).trans cP15_3
  replace lP15 : P15 < W106.heap.size := Nat.lt_of_lt_of_le lP15 hz
  replace cP63_0 := (hb105.cell (p := ⟨P63, 0, none⟩) lP63 (show P63 < N49 ∨ N60 ≤ P63 from (by have := CP15.out; have := CN16.out; have := CN44.out; have := CN47.out; have := CN49.out; have := CN60.out; have := CP63.out; have := CN64.out; have := CN65.out; have := CN70.out; have := CN79.out; have := CN82.out; omega))).trans cP63_0
  replace cP63_1 := (hb105.cell (p := ⟨P63, 1, none⟩) lP63 (show P63 < N49 ∨ N60 ≤ P63 from (by have := CP15.out; have := CN16.out; have := CN44.out; have := CN47.out; have := CN49.out; have := CN60.out; have := CP63.out; have := CN64.out; have := CN65.out; have := CN70.out; have := CN79.out; have := CN82.out; omega))).trans cP63_1
  replace cP63_2 := (hb105.cell (p := ⟨P63, 2, none⟩) lP63 (show P63 < N49 ∨ N60 ≤ P63 from (by have := CP15.out; have := CN16.out; have := CN44.out; have := CN47.out; have := CN49.out; have := CN60.out; have := CP63.out; have := CN64.out; have := CN65.out; have := CN70.out; have := CN79.out; have := CN82.out; omega))).trans cP63_2
  replace cP63_3 := (hb105.cell (p := ⟨P63, 3, none⟩) lP63 (show P63 < N49 ∨ N60 ≤ P63 from (by have := CP15.out; have := CN16.out; have := CN44.out; have := CN47.out; have := CN49.out; have := CN60.out; have := CP63.out; have := CN64.out; have := CN65.out; have := CN70.out; have := CN79.out; have := CN82.out; omega))).trans cP63_3
  replace lP63 : P63 < W106.heap.size := Nat.lt_of_lt_of_le lP63 hz
  replace HA48 := Lib.hid (HA48.out.bet hb105 (show N47 ≤ N49 ∨ N60 ≤ N44 from (by have := CP15.out; have := CN16.out; have := CN44.out; have := CN47.out; have := CN49.out; have := CN60.out; have := CP63.out; have := CN64.out; have := CN65.out; have := CN70.out; have := CN79.out; have := CN82.out; omega)))
  replace HX71 := Lib.hid (HX71.out.bet hb105 (show N70 ≤ N49 ∨ N60 ≤ N65 from (by have := CP15.out; have := CN16.out; have := CN44.out; have := CN47.out; have := CN49.out; have := CN60.out; have := CP63.out; have := CN64.out; have := CN65.out; have := CN70.out; have := CN79.out; have := CN82.out; omega)))
  replace HA83 := Lib.hid (HA83.out.bet hb105 (show N82 ≤ N49 ∨ N60 ≤ N79 from (by have := CP15.out; have := CN16.out; have := CN44.out; have := CN47.out; have := CN49.out; have := CN60.out; have := CP63.out; have := CN64.out; have := CN65.out; have := CN70.out; have := CN79.out; have := CN82.out; omega)))
  replace top := Nat.le_trans top hz
  clear hb105 hz
  go_wp2_with fail
  refine (markF_x HX71.out HN1.out (show N70 ≤ W106.heap.size from (by have := CP15.out; have := CN16.out; have := CN44.out; have := CN47.out; have := CN49.out; have := CN60.out; have := CP63.out; have := CN64.out; have := CN65.out; have := CN70.out; have := CN79.out; have := CN82.out; omega)) k107 hk107a (by omega)).mono ?_; rintro e W109 ⟨k110, rfl, hk110a, hk110b, hb108⟩
  clear HX71
  have hz := hb108.size
  replace hwc := hwc.trans ((hb108.below (show N65 ≤ W106.heap.size from (by have := CP15.out; have := CN16.out; have := CN44.out; have := CN47.out; have := CN49.out; have := CN60.out; have := CP63.out; have := CN64.out; have := CN65.out; have := CN70.out; have := CN79.out; have := CN82.out; omega))).mono (show w.heap.size ≤ N65 from (by have := CP15.out; have := CN16.out; have := CN44.out; have := CN47.out; have := CN49.out; have := CN60.out; have := CP63.out; have := CN64.out; have := CN65.out; have := CN70.out; have := CN79.out; have := CN82.out; omega)))
  replace cP15_0 := (hb108.cell (p := ⟨P15, 0, none⟩) lP15 (show P15 < N65 ∨ N70 ≤ P15 from (by have := CP15.out; have := CN16.out; have := CN44.out; have := CN47.out; have := CN49.out; have := CN60.out; have := CP63.out; have := CN64.out; have := CN65.out; have := CN70.out; have := CN79.out; have := CN82.out; omega))).trans cP15_0
  replace cP15_1 := (hb108.cell (p := ⟨P15, 1, none⟩) lP15 (show P15 < N65 ∨ N70 ≤ P15 from (by have := CP15.out; have := CN16.out; have := CN44.out; have := CN47.out; have := CN49.out; have := CN60.out; have := CP63.out; have := CN64.out; have := CN65.out; have := CN70.out; have := CN79.out; have := CN82.out; omega))).trans cP15_1
  replace cP15_2 := (hb108.cell (p := ⟨P15, 2, none⟩) lP15 (show P15 < N65 ∨ N70 ≤ P15 from (by have := CP15.out; have := CN16.out; have := CN44.out; have := CN47.out; have := CN49.out; have := CN60.out; have := CP63.out; have := CN64.out; have := CN65.out; have := CN70.out; have := CN79.out; have := CN82.out; omega))).trans cP15_2
  replace cP15_3 := (hb108.cell (p := ⟨P15, 3, none⟩) lP15 (show P15 < N65 ∨ N70 ≤ P15 from (by have := CP15.out; have := CN16.out; have := CN44.out; have := CN47.out; have := CN49.out; have := CN60.out; have := CP63.out; have := CN64.out; have := CN65.out; have := CN70.out; have := CN79.out; have := CN82.out; omega))).trans cP15_3
  replace lP15 : P15 < W109.heap.size := Nat.lt_of_lt_of_le lP15 hz
  replace cP63_0 := (hb108.cell (p := ⟨P63, 0, none⟩) lP63 (show P63 < N65 ∨ N70 ≤ P63 from (by have := CP15.out; have := CN16.out; have := CN44.out; have := CN47.out; have := CN49.out; have := CN60.out; have := CP63.out; have := CN64.out; have := CN65.out; have := CN70.out; have := CN79.out; have := CN82.out; omega))).trans cP63_0
  replace cP63_1 := (hb108.cell (p := ⟨P63, 1, none⟩) lP63 (show P63 < N65 ∨ N70 ≤ P63 from (by have := CP15.out; have := CN16.out; have := CN44.out; have := CN47.out; have := CN49.out; have := CN60.out; have := CP63.out; have := CN64.out; have := CN65.out; have := CN70.out; have := CN79.out; have := CN82.out; omega))).trans cP63_1
  replace cP63_2 := (hb108.cell (p := ⟨P63, 2, none⟩) lP63 (show P63 < N65 ∨ N70 ≤ P63 from (by have := CP15.out; have := CN16.out; have := CN44.out; have := CN47.out; have := CN49.out; have := CN60.out; have := CP63.out; have := CN64.out; have := CN65.out; have := CN70.out; have := CN79.out; have := CN82.out; omega))).trans cP63_2
  replace cP63_3 := (hb108.cell (p := ⟨P63, 3, none⟩) lP63 (show P63 < N65 ∨ N70 ≤ P63 from (by have := CP15.out; have := CN16.out; have := CN44.out; have := CN47.out; have := CN49.out; have := CN60.out; have := CP63.out; have := CN64.out; have := CN65.out; have := CN70.out; have := CN79.out; have := CN82.out; omega))).trans cP63_3
  replace lP63 : P63 < W109.heap.size := Nat.lt_of_lt_of_le lP63 hz
  replace HA48 := Lib.hid (HA48.out.bet hb108 (show N47 ≤ N65 ∨ N70 ≤ N44 from (by have := CP15.out; have := CN16.out; have := CN44.out; have := CN47.out; have := CN49.out; have := CN60.out; have := CP63.out; have := CN64.out; have := CN65.out; have := CN70.out; have := CN79.out; have := CN82.out; omega)))
  replace HA83 := Lib.hid (HA83.out.bet hb108 (show N82 ≤ N65 ∨ N70 ≤ N79 from (by have := CP15.out; have := CN16.out; have := CN44.out; have := CN47.out; have := CN49.out; have := CN60.out; have := CP63.out; have := CN64.out; have := CN65.out; have := CN70.out; have := CN79.out; have := CN82.out; omega)))
  replace top := Nat.le_trans top hz
  clear hb108 hz
  go_wp2_with fail
  refine (eqF_ans HA83.out HA48.out HF0.out).mono ?_; rintro e W112 ⟨rfl, hb111⟩
  have hz := hb111.size
  replace hwc := hwc.trans (hb111.mono hwc.size)
  replace cP15_0 := (hb111.cell (p := ⟨P15, 0, none⟩) lP15).trans cP15_0
  replace cP15_1 := (hb111.cell (p := ⟨P15, 1, none⟩) lP15).trans cP15_1
  replace cP15_2 := (hb111.cell (p := ⟨P15, 2, none⟩) lP15).trans cP15_2
  replace cP15_3 := (hb111.cell (p := ⟨P15, 3, none⟩) lP15).trans cP15_3
  replace lP15 : P15 < W112.heap.size := Nat.lt_of_lt_of_le lP15 hz
  replace cP63_0 := (hb111.cell (p := ⟨P63, 0, none⟩) lP63).trans cP63_0
  replace cP63_1 := (hb111.cell (p := ⟨P63, 1, none⟩) lP63).trans cP63_1
  replace cP63_2 := (hb111.cell (p := ⟨P63, 2, none⟩) lP63).trans cP63_2
  replace cP63_3 := (hb111.cell (p := ⟨P63, 3, none⟩) lP63).trans cP63_3
  replace lP63 : P63 < W112.heap.size := Nat.lt_of_lt_of_le lP63 hz
  replace HA48 := Lib.hid (HA48.out.below hb111 (show N47 ≤ W109.heap.size from (by have := CP15.out; have := CN16.out; have := CN44.out; have := CN47.out; have := CN49.out; have := CN60.out; have := CP63.out; have := CN64.out; have := CN65.out; have := CN70.out; have := CN79.out; have := CN82.out; omega)))
  replace HA83 := Lib.hid (HA83.out.below hb111 (show N82 ≤ W109.heap.size from (by have := CP15.out; have := CN16.out; have := CN44.out; have := CN47.out; have := CN49.out; have := CN60.out; have := CP63.out; have := CN64.out; have := CN65.out; have := CN70.out; have := CN79.out; have := CN82.out; omega)))
  replace top := Nat.le_trans top hz
  clear hb111 hz
  obtain ⟨m113, hm113⟩ : ∃ x, x = 1 + (sizeFx O0 : Int) := ⟨_, rfl⟩
  have hm113l : 0 ≤ m113 ∧ m113 ≤ 1048577 := by have := sizeFx_le HF0.out; omega
  have hm113p := hm113l.1
  have HLm113 := Lib.hid hm113l
  have Em113 := Lib.hid hm113
  clear hm113 hm113l
  go_wp2_with fail
  refine (markF_k HA83.out HF0.out (show N82 ≤ W112.heap.size from (by have := CP15.out; have := CN16.out; have := CN44.out; have := CN47.out; have := CN49.out; have := CN60.out; have := CP63.out; have := CN64.out; have := CN65.out; have := CN70.out; have := CN79.out; have := CN82.out; omega)) 1 (by decide) (by decide)).mono ?_; rw [← Em113.out]; rintro e W115 ⟨rfl, hm, hb114⟩
  clear HA83
  have hz := hb114.size
  replace hwc := hwc.trans ((hb114.below (show N79 ≤ W112.heap.size from (by have := CP15.out; have := CN16.out; have := CN44.out; have := CN47.out; have := CN49.out; have := CN60.out; have := CP63.out; have := CN64.out; have := CN65.out; have := CN70.out; have := CN79.out; have := CN82.out; omega))).mono (show w.heap.size ≤ N79 from (by have := CP15.out; have := CN16.out; have := CN44.out; have := CN47.out; have := CN49.out; have := CN60.out; have := CP63.out; have := CN64.out; have := CN65.out; have := CN70.out; have := CN79.out; have := CN82.out; omega)))
  replace cP15_0 := (hb114.cell (p := ⟨P15, 0, none⟩) lP15 (show P15 < N79 ∨ N82 ≤ P15 from (by have := CP15.out; have := CN16.out; have := CN44.out; have := CN47.out; have := CN49.out; have := CN60.out; have := CP63.out; have := CN64.out; have := CN65.out; have := CN70.out; have := CN79.out; have := CN82.out; omega))).trans cP15_0
  replace cP15_1 := (hb114.cell (p := ⟨P15, 1, none⟩) lP15 (show P15 < N79 ∨ N82 ≤ P15 from (by have := CP15.out; have := CN16.out; have := CN44.out; have := CN47.out; have := CN49.out; have := CN60.out; have := CP63.out; have := CN64.out; have := CN65.out; have := CN70.out; have := CN79.out; have := CN82.out; omega))).trans cP15_1
  replace cP15_2 := (hb114.cell (p := ⟨P15, 2, none⟩) lP15 (show P15 < N79 ∨ N82 ≤ P15 from (by have := CP15.out; have := CN16.out; have := CN44.out; have := CN47.out; have := CN49.out; have := CN60.out; have := CP63.out; have := CN64.out; have := CN65.out; have := CN70.out; have := CN79.out; have := CN82.out; omega))).trans cP15_2
  replace cP15_3 := (hb114.cell (p := ⟨P15, 3, none⟩) lP15 (show P15 < N79 ∨ N82 ≤ P15 from (by have := CP15.out; have := CN16.out; have := CN44.out; have := CN47.out; have := CN49.out; have := CN60.out; have := CP63.out; have := CN64.out; have := CN65.out; have := CN70.out; have := CN79.out; have := CN82.out; omega))).trans cP15_3
  replace lP15 : P15 < W115.heap.size := Nat.lt_of_lt_of_le lP15 hz
  replace cP63_0 := (hb114.cell (p := ⟨P63, 0, none⟩) lP63 (show P63 < N79 ∨ N82 ≤ P63 from (by have := CP15.out; have := CN16.out; have := CN44.out; have := CN47.out; have := CN49.out; have := CN60.out; have := CP63.out; have := CN64.out; have := CN65.out; have := CN70.out; have := CN79.out; have := CN82.out; omega))).trans cP63_0
  replace cP63_1 := (hb114.cell (p := ⟨P63, 1, none⟩) lP63 (show P63 < N79 ∨ N82 ≤ P63 from (by have := CP15.out; have := CN16.out; have := CN44.out; have := CN47.out; have := CN49.out; have := CN60.out; have := CP63.out; have := CN64.out; have := CN65.out; have := CN70.out; have := CN79.out; have := CN82.out; omega))).trans cP63_1
  replace cP63_2 := (hb114.cell (p := ⟨P63, 2, none⟩) lP63 (show P63 < N79 ∨ N82 ≤ P63 from (by have := CP15.out; have := CN16.out; have := CN44.out; have := CN47.out; have := CN49.out; have := CN60.out; have := CP63.out; have := CN64.out; have := CN65.out; have := CN70.out; have := CN79.out; have := CN82.out; omega))).trans cP63_2
  replace cP63_3 := (hb114.cell (p := ⟨P63, 3, none⟩) lP63 (show P63 < N79 ∨ N82 ≤ P63 from (by have := CP15.out; have := CN16.out; have := CN44.out; have := CN47.out; have := CN49.out; have := CN60.out; have := CP63.out; have := CN64.out; have := CN65.out; have := CN70.out; have := CN79.out; have := CN82.out; omega))).trans cP63_3
  replace lP63 : P63 < W115.heap.size := Nat.lt_of_lt_of_le lP63 hz
  replace HA48 := Lib.hid (HA48.out.bet hb114 (show N47 ≤ N79 ∨ N82 ≤ N44 from (by have := CP15.out; have := CN16.out; have := CN44.out; have := CN47.out; have := CN49.out; have := CN60.out; have := CP63.out; have := CN64.out; have := CN65.out; have := CN70.out; have := CN79.out; have := CN82.out; omega)))
  replace top := Nat.le_trans top hz
  clear hb114 hz
  have HM116 := Lib.hid hm
  clear hm
  go_wp2_with fail
  refine (heldF_k 1 HM116.out HF0.out (show N82 ≤ W115.heap.size from (by have := CP15.out; have := CN16.out; have := CN44.out; have := CN47.out; have := CN49.out; have := CN60.out; have := CP63.out; have := CN64.out; have := CN65.out; have := CN70.out; have := CN79.out; have := CN82.out; omega)) (by decide) (by decide)).mono ?_; rw [← Em113.out]; rintro e W118 ⟨rfl, hb117⟩
  have hz := hb117.size
  replace hwc := hwc.trans (hb117.mono hwc.size)
  replace cP15_0 := (hb117.cell (p := ⟨P15, 0, none⟩) lP15).trans cP15_0
  replace cP15_1 := (hb117.cell (p := ⟨P15, 1, none⟩) lP15).trans cP15_1
  replace cP15_2 := (hb117.cell (p := ⟨P15, 2, none⟩) lP15).trans cP15_2
  replace cP15_3 := (hb117.cell (p := ⟨P15, 3, none⟩) lP15).trans cP15_3
  replace lP15 : P15 < W118.heap.size := Nat.lt_of_lt_of_le lP15 hz
  replace cP63_0 := (hb117.cell (p := ⟨P63, 0, none⟩) lP63).trans cP63_0
  replace cP63_1 := (hb117.cell (p := ⟨P63, 1, none⟩) lP63).trans cP63_1
  replace cP63_2 := (hb117.cell (p := ⟨P63, 2, none⟩) lP63).trans cP63_2
  replace cP63_3 := (hb117.cell (p := ⟨P63, 3, none⟩) lP63).trans cP63_3
  replace lP63 : P63 < W118.heap.size := Nat.lt_of_lt_of_le lP63 hz
  replace HA48 := Lib.hid (HA48.out.below hb117 (show N47 ≤ W115.heap.size from (by have := CP15.out; have := CN16.out; have := CN44.out; have := CN47.out; have := CN49.out; have := CN60.out; have := CP63.out; have := CN64.out; have := CN65.out; have := CN70.out; have := CN79.out; have := CN82.out; omega)))
  replace HM116 := Lib.hid (HM116.out.below hb117 (show N82 ≤ W115.heap.size from (by have := CP15.out; have := CN16.out; have := CN44.out; have := CN47.out; have := CN49.out; have := CN60.out; have := CP63.out; have := CN64.out; have := CN65.out; have := CN70.out; have := CN79.out; have := CN82.out; omega)))
  replace top := Nat.le_trans top hz
  clear hb117 hz
  go_wp2_with fail
  refine (toW_x _ _ _ _ X00 X01 X02 X03 _ (g00 _ hwc) (g01 _ hwc) (g02 _ hwc) (g03 _ hwc) HN0.out).mono ?_; rintro e W120 ⟨p121, q122, p123, q124, p125, q126, p127, q128, rfl, hr, hb119⟩
  have hrr := RngWx.reads hr I00.out I01.out I02.out I03.out
  have RD129 := Lib.hid (hrr.1)
  have RD130 := Lib.hid (hrr.2.1)
  have RD131 := Lib.hid (hrr.2.2.1)
  have RD132 := Lib.hid (hrr.2.2.2)
  clear hrr
  clear hr
  have hz := hb119.size
  replace hwc := hwc.trans (hb119.mono hwc.size)
  replace cP15_0 := (hb119.cell (p := ⟨P15, 0, none⟩) lP15).trans cP15_0
  replace cP15_1 := (hb119.cell (p := ⟨P15, 1, none⟩) lP15).trans cP15_1
  replace cP15_2 := (hb119.cell (p := ⟨P15, 2, none⟩) lP15).trans cP15_2
  replace cP15_3 := (hb119.cell (p := ⟨P15, 3, none⟩) lP15).trans cP15_3
  replace lP15 : P15 < W120.heap.size := Nat.lt_of_lt_of_le lP15 hz
  replace cP63_0 := (hb119.cell (p := ⟨P63, 0, none⟩) lP63).trans cP63_0
  replace cP63_1 := (hb119.cell (p := ⟨P63, 1, none⟩) lP63).trans cP63_1
  replace cP63_2 := (hb119.cell (p := ⟨P63, 2, none⟩) lP63).trans cP63_2
  replace cP63_3 := (hb119.cell (p := ⟨P63, 3, none⟩) lP63).trans cP63_3
  replace lP63 : P63 < W120.heap.size := Nat.lt_of_lt_of_le lP63 hz
  replace HA48 := Lib.hid (HA48.out.below hb119 (show N47 ≤ W118.heap.size from (by have := CP15.out; have := CN16.out; have := CN44.out; have := CN47.out; have := CN49.out; have := CN60.out; have := CP63.out; have := CN64.out; have := CN65.out; have := CN70.out; have := CN79.out; have := CN82.out; omega)))
  replace HM116 := Lib.hid (HM116.out.below hb119 (show N82 ≤ W118.heap.size from (by have := CP15.out; have := CN16.out; have := CN44.out; have := CN47.out; have := CN49.out; have := CN60.out; have := CP63.out; have := CN64.out; have := CN65.out; have := CN70.out; have := CN79.out; have := CN82.out; omega)))
  replace top := Nat.le_trans top hz
  clear hb119 hz
  go_wp2_with fail
  refine (toF_x _ X10 _ (g10 _ hwc) HN1.out).mono ?_; rintro e W134 ⟨p135, q136, rfl, hr, hb133⟩
  have RD137 := Lib.hid (RngFx.reads hr I10.out)
  clear hr
  have hz := hb133.size
  replace hwc := hwc.trans (hb133.mono hwc.size)
  replace cP15_0 := (hb133.cell (p := ⟨P15, 0, none⟩) lP15).trans cP15_0
  replace cP15_1 := (hb133.cell (p := ⟨P15, 1, none⟩) lP15).trans cP15_1
  replace cP15_2 := (hb133.cell (p := ⟨P15, 2, none⟩) lP15).trans cP15_2
  replace cP15_3 := (hb133.cell (p := ⟨P15, 3, none⟩) lP15).trans cP15_3
  replace lP15 : P15 < W134.heap.size := Nat.lt_of_lt_of_le lP15 hz
  replace cP63_0 := (hb133.cell (p := ⟨P63, 0, none⟩) lP63).trans cP63_0
  replace cP63_1 := (hb133.cell (p := ⟨P63, 1, none⟩) lP63).trans cP63_1
  replace cP63_2 := (hb133.cell (p := ⟨P63, 2, none⟩) lP63).trans cP63_2
  replace cP63_3 := (hb133.cell (p := ⟨P63, 3, none⟩) lP63).trans cP63_3
  replace lP63 : P63 < W134.heap.size := Nat.lt_of_lt_of_le lP63 hz
  replace RD129 := Lib.hid (RD129.out.below hb133)
  replace RD130 := Lib.hid (RD130.out.below hb133)
  replace RD131 := Lib.hid (RD131.out.below hb133)
  replace RD132 := Lib.hid (RD132.out.below hb133)
  replace HA48 := Lib.hid (HA48.out.below hb133 (show N47 ≤ W120.heap.size from (by have := CP15.out; have := CN16.out; have := CN44.out; have := CN47.out; have := CN49.out; have := CN60.out; have := CP63.out; have := CN64.out; have := CN65.out; have := CN70.out; have := CN79.out; have := CN82.out; omega)))
  replace HM116 := Lib.hid (HM116.out.below hb133 (show N82 ≤ W120.heap.size from (by have := CP15.out; have := CN16.out; have := CN44.out; have := CN47.out; have := CN49.out; have := CN60.out; have := CP63.out; have := CN64.out; have := CN65.out; have := CN70.out; have := CN79.out; have := CN82.out; omega)))
  replace top := Nat.le_trans top hz
  clear hb133 hz
  go_wp2_with fail
  obtain ⟨N140, hN140⟩ : ∃ N140, N140 = W134.heap.size := ⟨_, rfl⟩
  have CN140 := Lib.hid (show N82 ≤ N140 from by rw [hN140]; exact top)
  have top' : N140 ≤ W134.heap.size := Nat.le_of_eq hN140
  clear top
  have top := top'
  clear top'
  refine (HI.out _ _ _ _ _ _ RD129.out RD130.out RD131.out RD132.out RD137.out).mono ?_; rintro e W138 ho; obtain ⟨p141, q142, rfl, hr0, hb139⟩ := ho.out; clear ho; dsimp only at hr0; dsimp only
  rw [← hN140] at hr0
  clear hN140
  have hz := hb139.size
  replace hwc := hwc.trans (hb139.mono hwc.size)
  replace cP15_0 := (hb139.cell (p := ⟨P15, 0, none⟩) lP15).trans cP15_0
  replace cP15_1 := (hb139.cell (p := ⟨P15, 1, none⟩) lP15).trans cP15_1
  replace cP15_2 := (hb139.cell (p := ⟨P15, 2, none⟩) lP15).trans cP15_2
  replace cP15_3 := (hb139.cell (p := ⟨P15, 3, none⟩) lP15).trans cP15_3
  replace lP15 : P15 < W138.heap.size := Nat.lt_of_lt_of_le lP15 hz
  replace cP63_0 := (hb139.cell (p := ⟨P63, 0, none⟩) lP63).trans cP63_0
  replace cP63_1 := (hb139.cell (p := ⟨P63, 1, none⟩) lP63).trans cP63_1
  replace cP63_2 := (hb139.cell (p := ⟨P63, 2, none⟩) lP63).trans cP63_2
  replace cP63_3 := (hb139.cell (p := ⟨P63, 3, none⟩) lP63).trans cP63_3
  replace lP63 : P63 < W138.heap.size := Nat.lt_of_lt_of_le lP63 hz
  replace RD129 := Lib.hid (RD129.out.below hb139)
  replace RD130 := Lib.hid (RD130.out.below hb139)
  replace RD131 := Lib.hid (RD131.out.below hb139)
  replace RD132 := Lib.hid (RD132.out.below hb139)
  replace RD137 := Lib.hid (RD137.out.below hb139)
  replace HA48 := Lib.hid (HA48.out.below hb139 (show N47 ≤ W134.heap.size from (by have := CP15.out; have := CN16.out; have := CN44.out; have := CN47.out; have := CN49.out; have := CN60.out; have := CP63.out; have := CN64.out; have := CN65.out; have := CN70.out; have := CN79.out; have := CN82.out; have := CN140.out; omega)))
  replace HM116 := Lib.hid (HM116.out.below hb139 (show N82 ≤ W134.heap.size from (by have := CP15.out; have := CN16.out; have := CN44.out; have := CN47.out; have := CN49.out; have := CN60.out; have := CP63.out; have := CN64.out; have := CN65.out; have := CN70.out; have := CN79.out; have := CN82.out; have := CN140.out; omega)))
  replace top := Nat.le_trans top hz
  clear hb139 hz
  obtain ⟨N143, hN143⟩ : ∃ N143, N143 = W138.heap.size := ⟨_, rfl⟩
  have CN143 := Lib.hid (show N140 ≤ N143 from by rw [hN143]; exact top)
  have top' : N143 ≤ W138.heap.size := Nat.le_of_eq hN143
  clear top
  have top := top'
  clear top'
  rw [← hN143] at hr0
  clear hN143
  have HA144 := Lib.hid hr0
  clear hr0
  clear RD129 RD130 RD131 RD132 RD137
  go_wp2_with fail
  refine (eqF_ans HA144.out HA48.out HF0.out).mono ?_; rintro e W146 ⟨rfl, hb145⟩
  have hz := hb145.size
  replace hwc := hwc.trans (hb145.mono hwc.size)
  replace cP15_0 := (hb145.cell (p := ⟨P15, 0, none⟩) lP15).trans cP15_0
  replace cP15_1 := (hb145.cell (p := ⟨P15, 1, none⟩) lP15).trans cP15_1
  replace cP15_2 := (hb145.cell (p := ⟨P15, 2, none⟩) lP15).trans cP15_2
  replace cP15_3 := (hb145.cell (p := ⟨P15, 3, none⟩) lP15).trans cP15_3
  replace lP15 : P15 < W146.heap.size := Nat.lt_of_lt_of_le lP15 hz
  replace cP63_0 := (hb145.cell (p := ⟨P63, 0, none⟩) lP63).trans cP63_0
  replace cP63_1 := (hb145.cell (p := ⟨P63, 1, none⟩) lP63).trans cP63_1
  replace cP63_2 := (hb145.cell (p := ⟨P63, 2, none⟩) lP63).trans cP63_2
  replace cP63_3 := (hb145.cell (p := ⟨P63, 3, none⟩) lP63).trans cP63_3
  replace lP63 : P63 < W146.heap.size := Nat.lt_of_lt_of_le lP63 hz
  replace HA48 := Lib.hid (HA48.out.below hb145 (show N47 ≤ W138.heap.size from (by have := CP15.out; have := CN16.out; have := CN44.out; have := CN47.out; have := CN49.out; have := CN60.out; have := CP63.out; have := CN64.out; have := CN65.out; have := CN70.out; have := CN79.out; have := CN82.out; have := CN140.out; have := CN143.out; omega)))
  replace HM116 := Lib.hid (HM116.out.below hb145 (show N82 ≤ W138.heap.size from (by have := CP15.out; have := CN16.out; have := CN44.out; have := CN47.out; have := CN49.out; have := CN60.out; have := CP63.out; have := CN64.out; have := CN65.out; have := CN70.out; have := CN79.out; have := CN82.out; have := CN140.out; have := CN143.out; omega)))
  replace HA144 := Lib.hid (HA144.out.below hb145 (show N143 ≤ W138.heap.size from (by have := CP15.out; have := CN16.out; have := CN44.out; have := CN47.out; have := CN49.out; have := CN60.out; have := CP63.out; have := CN64.out; have := CN65.out; have := CN70.out; have := CN79.out; have := CN82.out; have := CN140.out; have := CN143.out; omega)))
  replace top := Nat.le_trans top hz
  clear hb145 hz
  go_wp2_with fail
  refine (heldF_k 1 HM116.out HF0.out (show N82 ≤ W146.heap.size from (by have := CP15.out; have := CN16.out; have := CN44.out; have := CN47.out; have := CN49.out; have := CN60.out; have := CP63.out; have := CN64.out; have := CN65.out; have := CN70.out; have := CN79.out; have := CN82.out; have := CN140.out; have := CN143.out; omega)) (by decide) (by decide)).mono ?_; rw [← Em113.out]; rintro e W148 ⟨rfl, hb147⟩
  have hz := hb147.size
  replace hwc := hwc.trans (hb147.mono hwc.size)
  replace cP15_0 := (hb147.cell (p := ⟨P15, 0, none⟩) lP15).trans cP15_0
  replace cP15_1 := (hb147.cell (p := ⟨P15, 1, none⟩) lP15).trans cP15_1
  replace cP15_2 := (hb147.cell (p := ⟨P15, 2, none⟩) lP15).trans cP15_2
  replace cP15_3 := (hb147.cell (p := ⟨P15, 3, none⟩) lP15).trans cP15_3
  replace lP15 : P15 < W148.heap.size := Nat.lt_of_lt_of_le lP15 hz
  replace cP63_0 := (hb147.cell (p := ⟨P63, 0, none⟩) lP63).trans cP63_0
  replace cP63_1 := (hb147.cell (p := ⟨P63, 1, none⟩) lP63).trans cP63_1
  replace cP63_2 := (hb147.cell (p := ⟨P63, 2, none⟩) lP63).trans cP63_2
  replace cP63_3 := (hb147.cell (p := ⟨P63, 3, none⟩) lP63).trans cP63_3
  replace lP63 : P63 < W148.heap.size := Nat.lt_of_lt_of_le lP63 hz
  replace HA48 := Lib.hid (HA48.out.below hb147 (show N47 ≤ W146.heap.size from (by have := CP15.out; have := CN16.out; have := CN44.out; have := CN47.out; have := CN49.out; have := CN60.out; have := CP63.out; have := CN64.out; have := CN65.out; have := CN70.out; have := CN79.out; have := CN82.out; have := CN140.out; have := CN143.out; omega)))
  replace HM116 := Lib.hid (HM116.out.below hb147 (show N82 ≤ W146.heap.size from (by have := CP15.out; have := CN16.out; have := CN44.out; have := CN47.out; have := CN49.out; have := CN60.out; have := CP63.out; have := CN64.out; have := CN65.out; have := CN70.out; have := CN79.out; have := CN82.out; have := CN140.out; have := CN143.out; omega)))
  replace HA144 := Lib.hid (HA144.out.below hb147 (show N143 ≤ W146.heap.size from (by have := CP15.out; have := CN16.out; have := CN44.out; have := CN47.out; have := CN49.out; have := CN60.out; have := CP63.out; have := CN64.out; have := CN65.out; have := CN70.out; have := CN79.out; have := CN82.out; have := CN140.out; have := CN143.out; omega)))
  replace top := Nat.le_trans top hz
  clear hb147 hz
  go_wp2_with fail
  go_ret
  exact ⟨rfl, hwc⟩
end Go.Proofs.Ytmmnhdefencelaa.PW
