/-
  The exact law of IsProgram: whatever the program given, the program answers as the model, and leaves it as it was.
-/
import Derived.Test.YtmmnhdefencelaaWIp
import Derived.Test.YtmmnhdefencelaaLKW
namespace Go.Proofs.Ytmmnhdefencelaa.PW
open Go.RowKit Go.Proofs.Ytmmnhdefencelaa
open Go.Proofs.Ytmmnhdefencelaa.PM
set_option maxHeartbeats 8000000 in
theorem law_FnExactIsProgram (v00 v01 v02 v03 : Value) (X00 : List (List Int)) (X01 : List Int) (X02 : List (List Int)) (X03 : List Int) (w : World) (h00 : PM.Rows w v00 X00) (h01 : Ints w v01 X01) (h02 : PM.Rows w v02 X02) (h03 : Ints w v03 X03) :
    Calls Try.prog 9 #[.agg #[v00, v01, v02, v03]] w fun e w' => e = .returned (.bool true) ∧ Below w.heap.size w w' := by
  have g00 := fun (w' : World) (h : Below w.heap.size w w') => h00.below h
  have I00 := Lib.hid (rows_I64 h00)
  obtain ⟨a00, c00, rfl, _⟩ := h00
  have g01 := fun (w' : World) (h : Below w.heap.size w w') => h01.below h
  have I01 := Lib.hid (ints_I64 h01)
  obtain ⟨a01, c01, rfl, _⟩ := h01
  have g02 := fun (w' : World) (h : Below w.heap.size w w') => h02.below h
  have I02 := Lib.hid (rows_I64 h02)
  obtain ⟨a02, c02, rfl, _⟩ := h02
  have g03 := fun (w' : World) (h : Below w.heap.size w w') => h03.below h
  have I03 := Lib.hid (ints_I64 h03)
  obtain ⟨a03, c03, rfl, _⟩ := h03
  by_cases hz0 : szI (szWn X00 X01 X02 X03) 1048576 < 0
  · have E1 := Lib.hid (szx_neg hz0)
    clear hz0
    go_enter Try.func9, Try.ntmps9
    have hwc : Below w.heap.size w w := Below.refl _ _
    go_wp2_with fail
    obtain ⟨W1, hW1⟩ : ∃ w', w' = (w.alloc (.cells #[.slice a00 (X00).length c00, .slice a01 (X01).length c01, .slice a02 (X02).length c02, .slice a03 (X03).length c03] 56)) := ⟨_, rfl⟩
    rw [← hW1]
    have hbx : Below w.heap.size w W1 := by rw [hW1]; exact ((Below.refl _ _).alloc (by simp) _)
    obtain ⟨P2, hP2⟩ : ∃ n, n = w.heap.size := ⟨_, rfl⟩
    have cP2_0 : W1.cell? ⟨P2, 0, none⟩ = some (.slice a00 (X00).length c00) := by rw [hW1, hP2]; simp [go_sem]
    have cP2_1 : W1.cell? ⟨P2, 1, none⟩ = some (.slice a01 (X01).length c01) := by rw [hW1, hP2]; simp [go_sem]
    have cP2_2 : W1.cell? ⟨P2, 2, none⟩ = some (.slice a02 (X02).length c02) := by rw [hW1, hP2]; simp [go_sem]
    have cP2_3 : W1.cell? ⟨P2, 3, none⟩ = some (.slice a03 (X03).length c03) := by rw [hW1, hP2]; simp [go_sem]
    have lP2 : P2 < W1.heap.size := by rw [hW1, hP2]; simp
    have CP2 := Lib.hid (show w.heap.size ≤ P2 from by rw [hP2]; exact hwc.size)
    rw [← hP2]
    clear hP2 hW1
    have hz := hbx.size
    replace hwc := hwc.trans (hbx.mono hwc.size)
    clear hbx hz
    obtain ⟨N3, hN3⟩ : ∃ n, n = W1.heap.size := ⟨_, rfl⟩
    have CN3 := Lib.hid (show P2 < N3 from by rw [hN3]; exact lP2)
    have top : N3 ≤ W1.heap.size := Nat.le_of_eq hN3
    clear hN3
    refine (szW_x _ _ _ _ X00 X01 X02 X03 _ _ (g00 _ hwc) (g01 _ hwc) (g02 _ hwc) (g03 _ hwc) (by omega) (by omega)).mono ?_; rw [E1.out]; rintro e W5 ⟨rfl, hb4⟩
    have hz := hb4.size
    replace hwc := hwc.trans (hb4.mono hwc.size)
    replace cP2_0 := (hb4.cell (p := ⟨P2, 0, none⟩) lP2).trans cP2_0
    replace cP2_1 := (hb4.cell (p := ⟨P2, 1, none⟩) lP2).trans cP2_1
    replace cP2_2 := (hb4.cell (p := ⟨P2, 2, none⟩) lP2).trans cP2_2
    replace cP2_3 := (hb4.cell (p := ⟨P2, 3, none⟩) lP2).trans cP2_3
    replace lP2 : P2 < W5.heap.size := Nat.lt_of_lt_of_le lP2 hz
    replace top := Nat.le_trans top hz
    clear hb4 hz
    go_wp2_with fail
    go_ret
    exact ⟨rfl, hwc⟩
  obtain ⟨hf0, hle0⟩ := szx_fits hz0
  have hn0 : (szWn X00 X01 X02 X03) ≤ 1048576 := by omega
  have HN0 := Lib.hid hn0
  clear hn0 hf0
  have hspec := fun (v00 v01 v02 v03 : Value) (w : World) (h0 : PM.Rows w v00 X00) (h1 : Ints w v01 X01) (h2 : PM.Rows w v02 X02) (h3 : Ints w v03 X03) => specIsProgram_any v00 v01 v02 v03 X00 X01 X02 X03  w h0 h1 h2 h3 HN0.out
  have himpl := fun (v00 v01 v02 v03 : Value) (w : World) (h0 : PM.Rows w v00 X00) (h1 : Ints w v01 X01) (h2 : PM.Rows w v02 X02) (h3 : Ints w v03 X03) => implIsProgram_any v00 v01 v02 v03 X00 X01 X02 X03  w h0 h1 h2 h3 HN0.out
  generalize isWB X00 X01 X02 X03  = o at *
  obtain ⟨o0, rfl⟩ : ∃ x, x = o := ⟨_, rfl⟩
  have HS := Lib.hid hspec
  have HI := Lib.hid himpl
  clear hspec himpl
  go_enter Try.func9, Try.ntmps9
  have hwc : Below w.heap.size w w := Below.refl _ _
  go_wp2_with fail
  obtain ⟨W6, hW6⟩ : ∃ w', w' = (w.alloc (.cells #[.slice a00 (X00).length c00, .slice a01 (X01).length c01, .slice a02 (X02).length c02, .slice a03 (X03).length c03] 56)) := ⟨_, rfl⟩
  rw [← hW6]
  have hbx : Below w.heap.size w W6 := by rw [hW6]; exact ((Below.refl _ _).alloc (by simp) _)
  obtain ⟨P7, hP7⟩ : ∃ n, n = w.heap.size := ⟨_, rfl⟩
  have cP7_0 : W6.cell? ⟨P7, 0, none⟩ = some (.slice a00 (X00).length c00) := by rw [hW6, hP7]; simp [go_sem]
  have cP7_1 : W6.cell? ⟨P7, 1, none⟩ = some (.slice a01 (X01).length c01) := by rw [hW6, hP7]; simp [go_sem]
  have cP7_2 : W6.cell? ⟨P7, 2, none⟩ = some (.slice a02 (X02).length c02) := by rw [hW6, hP7]; simp [go_sem]
  have cP7_3 : W6.cell? ⟨P7, 3, none⟩ = some (.slice a03 (X03).length c03) := by rw [hW6, hP7]; simp [go_sem]
  have lP7 : P7 < W6.heap.size := by rw [hW6, hP7]; simp
  have CP7 := Lib.hid (show w.heap.size ≤ P7 from by rw [hP7]; exact hwc.size)
  rw [← hP7]
  clear hP7 hW6
  have hz := hbx.size
  replace hwc := hwc.trans (hbx.mono hwc.size)
  clear hbx hz
  obtain ⟨N8, hN8⟩ : ∃ n, n = W6.heap.size := ⟨_, rfl⟩
  have CN8 := Lib.hid (show P7 < N8 from by rw [hN8]; exact lP7)
  have top : N8 ≤ W6.heap.size := Nat.le_of_eq hN8
  clear hN8
  refine (szW_x _ _ _ _ X00 X01 X02 X03 _ _ (g00 _ hwc) (g01 _ hwc) (g02 _ hwc) (g03 _ hwc) (by omega) (by omega)).mono ?_; rintro e W10 ⟨rfl, hb9⟩
  have hz := hb9.size
  replace hwc := hwc.trans (hb9.mono hwc.size)
  replace cP7_0 := (hb9.cell (p := ⟨P7, 0, none⟩) lP7).trans cP7_0
  replace cP7_1 := (hb9.cell (p := ⟨P7, 1, none⟩) lP7).trans cP7_1
  replace cP7_2 := (hb9.cell (p := ⟨P7, 2, none⟩) lP7).trans cP7_2
  replace cP7_3 := (hb9.cell (p := ⟨P7, 3, none⟩) lP7).trans cP7_3
  replace lP7 : P7 < W10.heap.size := Nat.lt_of_lt_of_le lP7 hz
  replace top := Nat.le_trans top hz
  clear hb9 hz
  generalize szI (szWn X00 X01 X02 X03) 1048576 = lf11 at *
  go_wp2_with fail
  clear hz0 hle0
  refine (toW_x _ _ _ _ X00 X01 X02 X03 _ (g00 _ hwc) (g01 _ hwc) (g02 _ hwc) (g03 _ hwc) HN0.out).mono ?_; rintro e W13 ⟨p14, q15, p16, q17, p18, q19, p20, q21, rfl, hr, hb12⟩
  have hrr := RngWx.reads hr I00.out I01.out I02.out I03.out
  have RD22 := Lib.hid (hrr.1)
  have RD23 := Lib.hid (hrr.2.1)
  have RD24 := Lib.hid (hrr.2.2.1)
  have RD25 := Lib.hid (hrr.2.2.2)
  clear hrr
  clear hr
  have hz := hb12.size
  replace hwc := hwc.trans (hb12.mono hwc.size)
  replace cP7_0 := (hb12.cell (p := ⟨P7, 0, none⟩) lP7).trans cP7_0
  replace cP7_1 := (hb12.cell (p := ⟨P7, 1, none⟩) lP7).trans cP7_1
  replace cP7_2 := (hb12.cell (p := ⟨P7, 2, none⟩) lP7).trans cP7_2
  replace cP7_3 := (hb12.cell (p := ⟨P7, 3, none⟩) lP7).trans cP7_3
  replace lP7 : P7 < W13.heap.size := Nat.lt_of_lt_of_le lP7 hz
  replace top := Nat.le_trans top hz
  clear hb12 hz
  go_wp2_with fail
  refine (HS.out _ _ _ _ _ RD22.out RD23.out RD24.out RD25.out).mono ?_; rintro e W26 ⟨rfl, hb27⟩; dsimp only
  have hz := hb27.size
  replace hwc := hwc.trans (hb27.mono hwc.size)
  replace cP7_0 := (hb27.cell (p := ⟨P7, 0, none⟩) lP7).trans cP7_0
  replace cP7_1 := (hb27.cell (p := ⟨P7, 1, none⟩) lP7).trans cP7_1
  replace cP7_2 := (hb27.cell (p := ⟨P7, 2, none⟩) lP7).trans cP7_2
  replace cP7_3 := (hb27.cell (p := ⟨P7, 3, none⟩) lP7).trans cP7_3
  replace lP7 : P7 < W26.heap.size := Nat.lt_of_lt_of_le lP7 hz
  replace RD22 := Lib.hid (RD22.out.below hb27)
  replace RD23 := Lib.hid (RD23.out.below hb27)
  replace RD24 := Lib.hid (RD24.out.below hb27)
  replace RD25 := Lib.hid (RD25.out.below hb27)
  replace top := Nat.le_trans top hz
  clear hb27 hz
  clear RD22 RD23 RD24 RD25
  go_wp2_with fail
  obtain ⟨N28, hN28⟩ : ∃ N28, N28 = W26.heap.size := ⟨_, rfl⟩
  have CN28 := Lib.hid (show N8 ≤ N28 from by rw [hN28]; exact top)
  have top' : N28 ≤ W26.heap.size := Nat.le_of_eq hN28
  clear top
  have top := top'
  clear top'
  refine (toW_x _ _ _ _ X00 X01 X02 X03 _ (g00 _ hwc) (g01 _ hwc) (g02 _ hwc) (g03 _ hwc) HN0.out).mono ?_; rintro e W30 ⟨p31, q32, p33, q34, p35, q36, p37, q38, rfl, hr, hb29⟩
  rw [← hN28] at hr
  clear hN28
  have hz := hb29.size
  replace hwc := hwc.trans (hb29.mono hwc.size)
  replace cP7_0 := (hb29.cell (p := ⟨P7, 0, none⟩) lP7).trans cP7_0
  replace cP7_1 := (hb29.cell (p := ⟨P7, 1, none⟩) lP7).trans cP7_1
  replace cP7_2 := (hb29.cell (p := ⟨P7, 2, none⟩) lP7).trans cP7_2
  replace cP7_3 := (hb29.cell (p := ⟨P7, 3, none⟩) lP7).trans cP7_3
  replace lP7 : P7 < W30.heap.size := Nat.lt_of_lt_of_le lP7 hz
  replace top := Nat.le_trans top hz
  clear hb29 hz
  obtain ⟨N39, hN39⟩ : ∃ N39, N39 = W30.heap.size := ⟨_, rfl⟩
  have CN39 := Lib.hid (show N28 ≤ N39 from by rw [hN39]; exact top)
  have top' : N39 ≤ W30.heap.size := Nat.le_of_eq hN39
  clear top
  have top := top'
  clear top'
  rw [← hN39] at hr
  clear hN39
  have HX40 := Lib.hid hr
  clear hr
  go_wp2_with fail
  obtain ⟨W41, hW41⟩ : ∃ w', w' = (W30.alloc (.cells #[.slice p31 (X00).length q32, .slice p33 (X01).length q34, .slice p35 (X02).length q36, .slice p37 (X03).length q38] 59)) := ⟨_, rfl⟩
  rw [← hW41]
  have hbx : Below W30.heap.size W30 W41 := by rw [hW41]; exact ((Below.refl _ _).alloc (by simp) _)
  obtain ⟨P42, hP42⟩ : ∃ n, n = W30.heap.size := ⟨_, rfl⟩
  have cP42_0 : W41.cell? ⟨P42, 0, none⟩ = some (.slice p31 (X00).length q32) := by rw [hW41, hP42]; simp [go_sem]
  have cP42_1 : W41.cell? ⟨P42, 1, none⟩ = some (.slice p33 (X01).length q34) := by rw [hW41, hP42]; simp [go_sem]
  have cP42_2 : W41.cell? ⟨P42, 2, none⟩ = some (.slice p35 (X02).length q36) := by rw [hW41, hP42]; simp [go_sem]
  have cP42_3 : W41.cell? ⟨P42, 3, none⟩ = some (.slice p37 (X03).length q38) := by rw [hW41, hP42]; simp [go_sem]
  have lP42 : P42 < W41.heap.size := by rw [hW41, hP42]; simp
  have CP42 := Lib.hid (show N39 ≤ P42 from by rw [hP42]; exact top)
  rw [← hP42]
  clear hP42 hW41
  have hz := hbx.size
  replace hwc := hwc.trans (hbx.mono hwc.size)
  replace cP7_0 := (hbx.cell (p := ⟨P7, 0, none⟩) lP7).trans cP7_0
  replace cP7_1 := (hbx.cell (p := ⟨P7, 1, none⟩) lP7).trans cP7_1
  replace cP7_2 := (hbx.cell (p := ⟨P7, 2, none⟩) lP7).trans cP7_2
  replace cP7_3 := (hbx.cell (p := ⟨P7, 3, none⟩) lP7).trans cP7_3
  replace lP7 : P7 < W41.heap.size := Nat.lt_of_lt_of_le lP7 hz
  replace HX40 := Lib.hid (HX40.out.below hbx (show N39 ≤ W30.heap.size from (by have := CP7.out; have := CN8.out; have := CN28.out; have := CN39.out; have := CP42.out; omega)))
  replace top := Nat.le_trans top hz
  clear hbx hz
  clear top
  obtain ⟨N43, hN43⟩ : ∃ n, n = W41.heap.size := ⟨_, rfl⟩
  have CN43 := Lib.hid (show P42 < N43 from by rw [hN43]; exact lP42)
  have top : N43 ≤ W41.heap.size := Nat.le_of_eq hN43
  clear hN43
  have hrr := RngWx.reads HX40.out I00.out I01.out I02.out I03.out
  have RD44 := Lib.hid (hrr.1)
  have RD45 := Lib.hid (hrr.2.1)
  have RD46 := Lib.hid (hrr.2.2.1)
  have RD47 := Lib.hid (hrr.2.2.2)
  clear hrr
  refine (HI.out _ _ _ _ _ RD44.out RD45.out RD46.out RD47.out).mono ?_; rintro e W48 ⟨rfl, hb49⟩; dsimp only
  have hz := hb49.size
  replace hwc := hwc.trans (hb49.mono hwc.size)
  replace cP7_0 := (hb49.cell (p := ⟨P7, 0, none⟩) lP7).trans cP7_0
  replace cP7_1 := (hb49.cell (p := ⟨P7, 1, none⟩) lP7).trans cP7_1
  replace cP7_2 := (hb49.cell (p := ⟨P7, 2, none⟩) lP7).trans cP7_2
  replace cP7_3 := (hb49.cell (p := ⟨P7, 3, none⟩) lP7).trans cP7_3
  replace lP7 : P7 < W48.heap.size := Nat.lt_of_lt_of_le lP7 hz
  replace cP42_0 := (hb49.cell (p := ⟨P42, 0, none⟩) lP42).trans cP42_0
  replace cP42_1 := (hb49.cell (p := ⟨P42, 1, none⟩) lP42).trans cP42_1
  replace cP42_2 := (hb49.cell (p := ⟨P42, 2, none⟩) lP42).trans cP42_2
  replace cP42_3 := (hb49.cell (p := ⟨P42, 3, none⟩) lP42).trans cP42_3
  replace lP42 : P42 < W48.heap.size := Nat.lt_of_lt_of_le lP42 hz
  replace RD44 := Lib.hid (RD44.out.below hb49)
  replace RD45 := Lib.hid (RD45.out.below hb49)
  replace RD46 := Lib.hid (RD46.out.below hb49)
  replace RD47 := Lib.hid (RD47.out.below hb49)
  replace HX40 := Lib.hid (HX40.out.below hb49 (show N39 ≤ W41.heap.size from (by have := CP7.out; have := CN8.out; have := CN28.out; have := CN39.out; have := CP42.out; have := CN43.out; omega)))
  replace top := Nat.le_trans top hz
  clear hb49 hz
  clear RD44 RD45 RD46 RD47
  have hrr := RngWx.reads HX40.out I00.out I01.out I02.out I03.out
  have RX50 := Lib.hid (hrr.1)
  have RX51 := Lib.hid (hrr.2.1)
  have RX52 := Lib.hid (hrr.2.2.1)
  have RX53 := Lib.hid (hrr.2.2.2)
  clear hrr
  have rp0 := fun (w' : World) (h : Below W48.heap.size W48 w') => (h.cell (p := ⟨P7, 0, none⟩) lP7).trans cP7_0
  have rp1 := fun (w' : World) (h : Below W48.heap.size W48 w') => (h.cell (p := ⟨P7, 1, none⟩) lP7).trans cP7_1
  have rp2 := fun (w' : World) (h : Below W48.heap.size W48 w') => (h.cell (p := ⟨P7, 2, none⟩) lP7).trans cP7_2
  have rp3 := fun (w' : World) (h : Below W48.heap.size W48 w') => (h.cell (p := ⟨P7, 3, none⟩) lP7).trans cP7_3
  have rv0 := fun (w' : World) (h : Below W48.heap.size W48 w') => (h.cell (p := ⟨P42, 0, none⟩) lP42).trans cP42_0
  have rv1 := fun (w' : World) (h : Below W48.heap.size W48 w') => (h.cell (p := ⟨P42, 1, none⟩) lP42).trans cP42_1
  have rv2 := fun (w' : World) (h : Below W48.heap.size W48 w') => (h.cell (p := ⟨P42, 2, none⟩) lP42).trans cP42_2
  have rv3 := fun (w' : World) (h : Below W48.heap.size W48 w') => (h.cell (p := ⟨P42, 3, none⟩) lP42).trans cP42_3
  clear cP7_0 cP7_1 cP7_2 cP7_3
  clear cP42_0 cP42_1 cP42_2 cP42_3
  go_wp2_with fail
  have hz9 := hwc.size
  go_region_held3 (fun w' => Below W48.heap.size W48 w') ((repeat' (first | (with_reducible exact Below.refl _ _) | (with_reducible assumption) | (with_reducible refine Below.alloc ?_ ?_ _) | (with_reducible refine Below.drew ?_) | (with_reducible refine below_drewN ?_ _) | (with_reducible refine Below.setCell ?_ ?_ _) | (with_reducible refine Below.trans ?_ (Below.mono (by with_reducible assumption) ?_)) | (with_reducible exact Below.size (by with_reducible assumption)) | go_size)))
    (first | (go_at_call 43; refine (toW_x _ _ _ _ X00 X01 X02 X03 _ (g00 _ (hwc.trans (Below.mono (by assumption) hz9))) (g01 _ (hwc.trans (Below.mono (by assumption) hz9))) (g02 _ (hwc.trans (Below.mono (by assumption) hz9))) (g03 _ (hwc.trans (Below.mono (by assumption) hz9))) HN0.out).mono ?_; rintro e w8 ⟨p54, q55, p56, q57, p58, q59, p60, q61, rfl, hr8, hb8⟩; have hS8 : Below W48.heap.size W48 w8 := (by (repeat' (first | (with_reducible exact Below.refl _ _) | (with_reducible assumption) | (with_reducible refine Below.alloc ?_ ?_ _) | (with_reducible refine Below.drew ?_) | (with_reducible refine below_drewN ?_ _) | (with_reducible refine Below.setCell ?_ ?_ _) | (with_reducible refine Below.trans ?_ (Below.mono (by with_reducible assumption) ?_)) | (with_reducible exact Below.size (by with_reducible assumption)) | go_size))); have R8 := Lib.hid (RngWx.reads hr8 I00.out I01.out I02.out I03.out); clear hr8) | (go_at_call 45; refine (eqW_x _ _ _ _ _ _ _ _ X00 X01 X02 X03 _ (RX50.out.below hS8) (RX51.out.below hS8) (RX52.out.below hS8) (RX53.out.below hS8) (R8.out.1) (R8.out.2.1) (R8.out.2.2.1) (R8.out.2.2.2)).mono ?_; rintro e w9 ⟨rfl, hb9⟩; have hS9 : Below W48.heap.size W48 w9 := (by (repeat' (first | (with_reducible exact Below.refl _ _) | (with_reducible assumption) | (with_reducible refine Below.alloc ?_ ?_ _) | (with_reducible refine Below.drew ?_) | (with_reducible refine below_drewN ?_ _) | (with_reducible refine Below.setCell ?_ ?_ _) | (with_reducible refine Below.trans ?_ (Below.mono (by with_reducible assumption) ?_)) | (with_reducible exact Below.size (by with_reducible assumption)) | go_size)))))
  clear R8 hS8 hb8 hb9 hz9 RX50 RX51 RX52 RX53
  have cP7_0 := rp0 _ hS9
  have cP7_1 := rp1 _ hS9
  have cP7_2 := rp2 _ hS9
  have cP7_3 := rp3 _ hS9
  have cP42_0 := rv0 _ hS9
  have cP42_1 := rv1 _ hS9
  have cP42_2 := rv2 _ hS9
  have cP42_3 := rv3 _ hS9
  clear rp0 rp1 rp2 rp3 rv0 rv1 rv2 rv3
  have hS9' := hS9
  have lP9 := Nat.lt_of_lt_of_le lP7 hS9.size
  have lV9 := Nat.lt_of_lt_of_le lP42 hS9.size
  clear hS9 lP7 lP42
  have lP7 := lP9
  have lP42 := lV9
  clear lP9 lV9
  have hz := hS9'.size
  replace hwc := hwc.trans (hS9'.mono hwc.size)
  replace HX40 := Lib.hid (HX40.out.below hS9' (show N39 ≤ W48.heap.size from (by have := CP7.out; have := CN8.out; have := CN28.out; have := CN39.out; have := CP42.out; have := CN43.out; omega)))
  replace top := Nat.le_trans top hz
  clear hS9' hz
  obtain ⟨W62, rfl⟩ : ∃ w', w' = w9 := ⟨_, rfl⟩
  go_wp2_with fail
  go_ret
  exact ⟨rfl, hwc⟩
end Go.Proofs.Ytmmnhdefencelaa.PW
