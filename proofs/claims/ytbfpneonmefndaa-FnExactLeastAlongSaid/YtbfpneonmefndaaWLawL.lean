/-
  The exact law of LeastAlong: whatever the program and the numbers, the program answers as the model, and leaves them as they were.
-/
import Derived.Test.YtbfpneonmefndaaWLes
import Derived.Test.YtbfpneonmefndaaWLei
import Derived.Test.YtbfpneonmefndaaLKW
import Derived.Test.YtbfpneonmefndaaLKX
namespace Go.Proofs.Ytbfpneonmefndaa.PW
open Go.RowKit Go.Proofs.Ytbfpneonmefndaa
open Go.Proofs.Ytbfpneonmefndaa.PM
set_option maxHeartbeats 8000000 in
theorem law_FnExactLeastAlong (v00 v01 v02 v03 : Value) (X00 : List (List Int)) (X01 : List Int) (X02 : List (List Int)) (X03 : List Int) (v10 : Value) (X10 : List Int) (v20 : Value) (X20 : List Int) (w : World) (h00 : PM.Rows w v00 X00) (h01 : Ints w v01 X01) (h02 : PM.Rows w v02 X02) (h03 : Ints w v03 X03) (h10 : Ints w v10 X10) (h20 : Ints w v20 X20) :
    Calls Try.prog 11 #[.agg #[v00, v01, v02, v03], v10, v20] w fun e w' => e = .returned (.bool true) ∧ Below w.heap.size w w' := by
  have g00 := fun (w' : World) (h : Below w.heap.size w w') => h00.below h
  have I00 := Lib.hid (rows_I64 h00)
  obtain ⟨a00, c00, rfl, _⟩ := h00
  have g01 := fun (w' : World) (h : Below w.heap.size w w') => h01.below h
  have I01 := Lib.hid (ints_I64 h01)
  obtain ⟨a01, c01, rfl, _⟩ := h01
  have g02 := fun (w' : World) (h : Below w.heap.size w w') => h02.below h
  have I02 := Lib.hid (rows_I64 h02)
  obtain ⟨a02, c02, rfl, _⟩ := h02
  have g03 := fun (w' : World) (h : Below w.heap.size w w') => h03.below h
  have I03 := Lib.hid (ints_I64 h03)
  obtain ⟨a03, c03, rfl, _⟩ := h03
  have g10 := fun (w' : World) (h : Below w.heap.size w w') => h10.below h
  have I10 := Lib.hid (ints_I64 h10)
  obtain ⟨a10, c10, rfl, hlc, hlm, -⟩ := h10
  have hlb1 := maxLen_le (Nat.le_trans hlc hlm)
  clear hlc hlm
  have g20 := fun (w' : World) (h : Below w.heap.size w w') => h20.below h
  have I20 := Lib.hid (ints_I64 h20)
  obtain ⟨a20, c20, rfl, hlc, hlm, -⟩ := h20
  have hlb2 := maxLen_le (Nat.le_trans hlc hlm)
  clear hlc hlm
  by_cases hlen1 : (X10).length ≤ 1048576
  case neg =>
    go_enter Try.func11, Try.ntmps11
    go_wp2_with fail
    go_ret
    refine ⟨rfl, ?_⟩
    (repeat' (first | (with_reducible exact Below.refl _ _) | (with_reducible assumption) | (with_reducible refine Below.alloc ?_ ?_ _) | (with_reducible refine Below.drew ?_) | (with_reducible refine below_drewN ?_ _) | (with_reducible refine Below.setCell ?_ ?_ _) | (with_reducible refine Below.trans ?_ (Below.mono (by with_reducible assumption) ?_)) | (with_reducible exact Below.size (by with_reducible assumption)) | go_size))
  have HN1 := Lib.hid hlen1
  by_cases hlen2 : (X20).length ≤ 1048576
  case neg =>
    go_enter Try.func11, Try.ntmps11
    go_wp2_with fail
    go_ret
    refine ⟨rfl, ?_⟩
    (repeat' (first | (with_reducible exact Below.refl _ _) | (with_reducible assumption) | (with_reducible refine Below.alloc ?_ ?_ _) | (with_reducible refine Below.drew ?_) | (with_reducible refine below_drewN ?_ _) | (with_reducible refine Below.setCell ?_ ?_ _) | (with_reducible refine Below.trans ?_ (Below.mono (by with_reducible assumption) ?_)) | (with_reducible exact Below.size (by with_reducible assumption)) | go_size))
  have HN2 := Lib.hid hlen2
  by_cases hz0 : szI (szWn X00 X01 X02 X03) 1048576 < 0
  · have E1 := Lib.hid (szx_neg hz0)
    clear hz0
    go_enter Try.func11, Try.ntmps11
    have hwc : Below w.heap.size w w := Below.refl _ _
    go_wp2_with fail
    obtain ⟨W1, hW1⟩ : ∃ w', w' = (w.alloc (.cells #[.slice a00 (X00).length c00, .slice a01 (X01).length c01, .slice a02 (X02).length c02, .slice a03 (X03).length c03] 51)) := ⟨_, rfl⟩
    rw [← hW1]
    have hbx : Below w.heap.size w W1 := by rw [hW1]; exact ((Below.refl _ _).alloc (by simp) _)
    obtain ⟨P2, hP2⟩ : ∃ n, n = w.heap.size := ⟨_, rfl⟩
    have cP2_0 : W1.cell? ⟨P2, 0, none⟩ = some (.slice a00 (X00).length c00) := by rw [hW1, hP2]; simp [go_sem]
    have cP2_1 : W1.cell? ⟨P2, 1, none⟩ = some (.slice a01 (X01).length c01) := by rw [hW1, hP2]; simp [go_sem]
    have cP2_2 : W1.cell? ⟨P2, 2, none⟩ = some (.slice a02 (X02).length c02) := by rw [hW1, hP2]; simp [go_sem]
    have cP2_3 : W1.cell? ⟨P2, 3, none⟩ = some (.slice a03 (X03).length c03) := by rw [hW1, hP2]; simp [go_sem]
    have lP2 : P2 < W1.heap.size := by rw [hW1, hP2]; simp
    have CP2 := Lib.hid (show w.heap.size ≤ P2 from by rw [hP2]; exact hwc.size)
    rw [← hP2]
    clear hP2 hW1
    have hz := hbx.size
    replace hwc := hwc.trans (hbx.mono hwc.size)
    clear hbx hz
    obtain ⟨N3, hN3⟩ : ∃ n, n = W1.heap.size := ⟨_, rfl⟩
    have CN3 := Lib.hid (show P2 < N3 from by rw [hN3]; exact lP2)
    have top : N3 ≤ W1.heap.size := Nat.le_of_eq hN3
    clear hN3
    refine (szW_x _ _ _ _ X00 X01 X02 X03 _ _ (g00 _ hwc) (g01 _ hwc) (g02 _ hwc) (g03 _ hwc) (by omega) (by omega)).mono ?_; rw [E1.out]; rintro e W5 ⟨rfl, hb4⟩
    have hz := hb4.size
    replace hwc := hwc.trans (hb4.mono hwc.size)
    replace cP2_0 := (hb4.cell (p := ⟨P2, 0, none⟩) lP2).trans cP2_0
    replace cP2_1 := (hb4.cell (p := ⟨P2, 1, none⟩) lP2).trans cP2_1
    replace cP2_2 := (hb4.cell (p := ⟨P2, 2, none⟩) lP2).trans cP2_2
    replace cP2_3 := (hb4.cell (p := ⟨P2, 3, none⟩) lP2).trans cP2_3
    replace lP2 : P2 < W5.heap.size := Nat.lt_of_lt_of_le lP2 hz
    replace top := Nat.le_trans top hz
    clear hb4 hz
    go_wp2_with fail
    go_ret
    exact ⟨rfl, hwc⟩
  obtain ⟨hf0, hle0⟩ := szx_fits hz0
  have hn0 : (szWn X00 X01 X02 X03) ≤ 1048576 := by omega
  have HN0 := Lib.hid hn0
  clear hn0 hf0
  have hspec := fun (v00 v01 v02 v03 v10 v20 : Value) (w : World) (h0 : PM.Rows w v00 X00) (h1 : Ints w v01 X01) (h2 : PM.Rows w v02 X02) (h3 : Ints w v03 X03) (h4 : Ints w v10 X10) (h5 : Ints w v20 X20) => specLeastAlong_any v00 v01 v02 v03 v10 v20 X00 X01 X02 X03 X10 X20  w h0 h1 h2 h3 h4 h5 HN0.out
  have himpl := fun (v00 v01 v02 v03 v10 v20 : Value) (w : World) (h0 : PM.Rows w v00 X00) (h1 : Ints w v01 X01) (h2 : PM.Rows w v02 X02) (h3 : Ints w v03 X03) (h4 : Ints w v10 X10) (h5 : Ints w v20 X20) => implLeastAlong_any v00 v01 v02 v03 v10 v20 X00 X01 X02 X03 X10 X20  w h0 h1 h2 h3 h4 h5 HN0.out
  generalize laOut X00 X01 X02 X03 X10 X20  = o at *
  obtain ⟨⟨n0, d0⟩, ⟨n1, d1⟩, o2⟩ := o
  have HS := Lib.hid hspec
  have HI := Lib.hid himpl
  clear hspec himpl
  go_enter Try.func11, Try.ntmps11
  have hwc : Below w.heap.size w w := Below.refl _ _
  go_wp2_with fail
  obtain ⟨W6, hW6⟩ : ∃ w', w' = (w.alloc (.cells #[.slice a00 (X00).length c00, .slice a01 (X01).length c01, .slice a02 (X02).length c02, .slice a03 (X03).length c03] 51)) := ⟨_, rfl⟩
  rw [← hW6]
  have hbx : Below w.heap.size w W6 := by rw [hW6]; exact ((Below.refl _ _).alloc (by simp) _)
  obtain ⟨P7, hP7⟩ : ∃ n, n = w.heap.size := ⟨_, rfl⟩
  have cP7_0 : W6.cell? ⟨P7, 0, none⟩ = some (.slice a00 (X00).length c00) := by rw [hW6, hP7]; simp [go_sem]
  have cP7_1 : W6.cell? ⟨P7, 1, none⟩ = some (.slice a01 (X01).length c01) := by rw [hW6, hP7]; simp [go_sem]
  have cP7_2 : W6.cell? ⟨P7, 2, none⟩ = some (.slice a02 (X02).length c02) := by rw [hW6, hP7]; simp [go_sem]
  have cP7_3 : W6.cell? ⟨P7, 3, none⟩ = some (.slice a03 (X03).length c03) := by rw [hW6, hP7]; simp [go_sem]
  have lP7 : P7 < W6.heap.size := by rw [hW6, hP7]; simp
  have CP7 := Lib.hid (show w.heap.size ≤ P7 from by rw [hP7]; exact hwc.size)
  rw [← hP7]
  clear hP7 hW6
  have hz := hbx.size
  replace hwc := hwc.trans (hbx.mono hwc.size)
  clear hbx hz
  obtain ⟨N8, hN8⟩ : ∃ n, n = W6.heap.size := ⟨_, rfl⟩
  have CN8 := Lib.hid (show P7 < N8 from by rw [hN8]; exact lP7)
  have top : N8 ≤ W6.heap.size := Nat.le_of_eq hN8
  clear hN8
  refine (szW_x _ _ _ _ X00 X01 X02 X03 _ _ (g00 _ hwc) (g01 _ hwc) (g02 _ hwc) (g03 _ hwc) (by omega) (by omega)).mono ?_; rintro e W10 ⟨rfl, hb9⟩
  have hz := hb9.size
  replace hwc := hwc.trans (hb9.mono hwc.size)
  replace cP7_0 := (hb9.cell (p := ⟨P7, 0, none⟩) lP7).trans cP7_0
  replace cP7_1 := (hb9.cell (p := ⟨P7, 1, none⟩) lP7).trans cP7_1
  replace cP7_2 := (hb9.cell (p := ⟨P7, 2, none⟩) lP7).trans cP7_2
  replace cP7_3 := (hb9.cell (p := ⟨P7, 3, none⟩) lP7).trans cP7_3
  replace lP7 : P7 < W10.heap.size := Nat.lt_of_lt_of_le lP7 hz
  replace top := Nat.le_trans top hz
  clear hb9 hz
  generalize szI (szWn X00 X01 X02 X03) 1048576 = lf11 at *
  go_wp2_with fail
  clear hz0 hle0 hlen1 hlb1 hlen2 hlb2
  refine (toW_x _ _ _ _ X00 X01 X02 X03 _ (g00 _ hwc) (g01 _ hwc) (g02 _ hwc) (g03 _ hwc) HN0.out).mono ?_; rintro e W13 ⟨p14, q15, p16, q17, p18, q19, p20, q21, rfl, hr, hb12⟩
  have hrr := RngWx.reads hr I00.out I01.out I02.out I03.out
  have RD22 := Lib.hid (hrr.1)
  have RD23 := Lib.hid (hrr.2.1)
  have RD24 := Lib.hid (hrr.2.2.1)
  have RD25 := Lib.hid (hrr.2.2.2)
  clear hrr
  clear hr
  have hz := hb12.size
  replace hwc := hwc.trans (hb12.mono hwc.size)
  replace cP7_0 := (hb12.cell (p := ⟨P7, 0, none⟩) lP7).trans cP7_0
  replace cP7_1 := (hb12.cell (p := ⟨P7, 1, none⟩) lP7).trans cP7_1
  replace cP7_2 := (hb12.cell (p := ⟨P7, 2, none⟩) lP7).trans cP7_2
  replace cP7_3 := (hb12.cell (p := ⟨P7, 3, none⟩) lP7).trans cP7_3
  replace lP7 : P7 < W13.heap.size := Nat.lt_of_lt_of_le lP7 hz
  replace top := Nat.le_trans top hz
  clear hb12 hz
  go_wp2_with fail
  refine (toI_x _ X10 _ (g10 _ hwc) HN1.out).mono ?_; rintro e W27 ⟨p28, q29, rfl, hr, hb26⟩
  have RD30 := Lib.hid (RngIx.reads hr I10.out)
  clear hr
  have hz := hb26.size
  replace hwc := hwc.trans (hb26.mono hwc.size)
  replace cP7_0 := (hb26.cell (p := ⟨P7, 0, none⟩) lP7).trans cP7_0
  replace cP7_1 := (hb26.cell (p := ⟨P7, 1, none⟩) lP7).trans cP7_1
  replace cP7_2 := (hb26.cell (p := ⟨P7, 2, none⟩) lP7).trans cP7_2
  replace cP7_3 := (hb26.cell (p := ⟨P7, 3, none⟩) lP7).trans cP7_3
  replace lP7 : P7 < W27.heap.size := Nat.lt_of_lt_of_le lP7 hz
  replace RD22 := Lib.hid (RD22.out.below hb26)
  replace RD23 := Lib.hid (RD23.out.below hb26)
  replace RD24 := Lib.hid (RD24.out.below hb26)
  replace RD25 := Lib.hid (RD25.out.below hb26)
  replace top := Nat.le_trans top hz
  clear hb26 hz
  go_wp2_with fail
  refine (toI_x _ X20 _ (g20 _ hwc) HN2.out).mono ?_; rintro e W32 ⟨p33, q34, rfl, hr, hb31⟩
  have RD35 := Lib.hid (RngIx.reads hr I20.out)
  clear hr
  have hz := hb31.size
  replace hwc := hwc.trans (hb31.mono hwc.size)
  replace cP7_0 := (hb31.cell (p := ⟨P7, 0, none⟩) lP7).trans cP7_0
  replace cP7_1 := (hb31.cell (p := ⟨P7, 1, none⟩) lP7).trans cP7_1
  replace cP7_2 := (hb31.cell (p := ⟨P7, 2, none⟩) lP7).trans cP7_2
  replace cP7_3 := (hb31.cell (p := ⟨P7, 3, none⟩) lP7).trans cP7_3
  replace lP7 : P7 < W32.heap.size := Nat.lt_of_lt_of_le lP7 hz
  replace RD22 := Lib.hid (RD22.out.below hb31)
  replace RD23 := Lib.hid (RD23.out.below hb31)
  replace RD24 := Lib.hid (RD24.out.below hb31)
  replace RD25 := Lib.hid (RD25.out.below hb31)
  replace RD30 := Lib.hid (RD30.out.below hb31)
  replace top := Nat.le_trans top hz
  clear hb31 hz
  go_wp2_with fail
  refine (HS.out _ _ _ _ _ _ _ RD22.out RD23.out RD24.out RD25.out RD30.out RD35.out).mono ?_; rintro e W36 ⟨rfl, hb37⟩; dsimp only
  have hz := hb37.size
  replace hwc := hwc.trans (hb37.mono hwc.size)
  replace cP7_0 := (hb37.cell (p := ⟨P7, 0, none⟩) lP7).trans cP7_0
  replace cP7_1 := (hb37.cell (p := ⟨P7, 1, none⟩) lP7).trans cP7_1
  replace cP7_2 := (hb37.cell (p := ⟨P7, 2, none⟩) lP7).trans cP7_2
  replace cP7_3 := (hb37.cell (p := ⟨P7, 3, none⟩) lP7).trans cP7_3
  replace lP7 : P7 < W36.heap.size := Nat.lt_of_lt_of_le lP7 hz
  replace RD22 := Lib.hid (RD22.out.below hb37)
  replace RD23 := Lib.hid (RD23.out.below hb37)
  replace RD24 := Lib.hid (RD24.out.below hb37)
  replace RD25 := Lib.hid (RD25.out.below hb37)
  replace RD30 := Lib.hid (RD30.out.below hb37)
  replace RD35 := Lib.hid (RD35.out.below hb37)
  replace top := Nat.le_trans top hz
  clear hb37 hz
  go_wp2_with fail
  obtain ⟨W38, hW38⟩ : ∃ w', w' = ((W36.alloc (.cells #[.int .i64 n0, .int .i64 d0] 62)).alloc (.cells #[.int .i64 n1, .int .i64 d1] 62)) := ⟨_, rfl⟩
  rw [← hW38]
  have hbx : Below W36.heap.size W36 W38 := by rw [hW38]; exact (((Below.refl _ _).alloc (by simp) _).alloc (by simp) _)
  obtain ⟨P39, hP39⟩ : ∃ n, n = W36.heap.size := ⟨_, rfl⟩
  obtain ⟨P40, hP40⟩ : ∃ n, n = W36.heap.size + 1 := ⟨_, rfl⟩
  have cP39_0 : W38.cell? ⟨P39, 0, none⟩ = some (.int .i64 n0) := by rw [hW38, hP39]; simp [go_sem]
  have cP39_1 : W38.cell? ⟨P39, 1, none⟩ = some (.int .i64 d0) := by rw [hW38, hP39]; simp [go_sem]
  have lP39 : P39 < W38.heap.size := by rw [hW38, hP39]; simp <;> omega
  have CP39 := Lib.hid (show N8 ≤ P39 from by rw [hP39]; exact top)
  have cP40_0 : W38.cell? ⟨P40, 0, none⟩ = some (.int .i64 n1) := by rw [hW38, hP40]; simp [go_sem]
  have cP40_1 : W38.cell? ⟨P40, 1, none⟩ = some (.int .i64 d1) := by rw [hW38, hP40]; simp [go_sem]
  have lP40 : P40 < W38.heap.size := by rw [hW38, hP40]; simp
  have CP40 := Lib.hid (show P39 < P40 from by omega)
  rw [← hP40]
  rw [← hP39]
  clear hP40 hP39 hW38
  have hz := hbx.size
  replace hwc := hwc.trans (hbx.mono hwc.size)
  replace cP7_0 := (hbx.cell (p := ⟨P7, 0, none⟩) lP7).trans cP7_0
  replace cP7_1 := (hbx.cell (p := ⟨P7, 1, none⟩) lP7).trans cP7_1
  replace cP7_2 := (hbx.cell (p := ⟨P7, 2, none⟩) lP7).trans cP7_2
  replace cP7_3 := (hbx.cell (p := ⟨P7, 3, none⟩) lP7).trans cP7_3
  replace lP7 : P7 < W38.heap.size := Nat.lt_of_lt_of_le lP7 hz
  replace RD22 := Lib.hid (RD22.out.below hbx)
  replace RD23 := Lib.hid (RD23.out.below hbx)
  replace RD24 := Lib.hid (RD24.out.below hbx)
  replace RD25 := Lib.hid (RD25.out.below hbx)
  replace RD30 := Lib.hid (RD30.out.below hbx)
  replace RD35 := Lib.hid (RD35.out.below hbx)
  replace top := Nat.le_trans top hz
  clear hbx hz
  clear top
  obtain ⟨N41, hN41⟩ : ∃ n, n = W38.heap.size := ⟨_, rfl⟩
  have CN41 := Lib.hid (show P40 < N41 from by rw [hN41]; exact lP40)
  have top : N41 ≤ W38.heap.size := Nat.le_of_eq hN41
  clear hN41
  clear RD22 RD23 RD24 RD25 RD30 RD35
  obtain ⟨N42, hN42⟩ : ∃ N42, N42 = W38.heap.size := ⟨_, rfl⟩
  have CN42 := Lib.hid (show N41 ≤ N42 from by rw [hN42]; exact top)
  have top' : N42 ≤ W38.heap.size := Nat.le_of_eq hN42
  clear top
  have top := top'
  clear top'
  refine (toW_x _ _ _ _ X00 X01 X02 X03 _ (g00 _ hwc) (g01 _ hwc) (g02 _ hwc) (g03 _ hwc) HN0.out).mono ?_; rintro e W44 ⟨p45, q46, p47, q48, p49, q50, p51, q52, rfl, hr, hb43⟩
  rw [← hN42] at hr
  clear hN42
  have hz := hb43.size
  replace hwc := hwc.trans (hb43.mono hwc.size)
  replace cP7_0 := (hb43.cell (p := ⟨P7, 0, none⟩) lP7).trans cP7_0
  replace cP7_1 := (hb43.cell (p := ⟨P7, 1, none⟩) lP7).trans cP7_1
  replace cP7_2 := (hb43.cell (p := ⟨P7, 2, none⟩) lP7).trans cP7_2
  replace cP7_3 := (hb43.cell (p := ⟨P7, 3, none⟩) lP7).trans cP7_3
  replace lP7 : P7 < W44.heap.size := Nat.lt_of_lt_of_le lP7 hz
  replace cP39_0 := (hb43.cell (p := ⟨P39, 0, none⟩) lP39).trans cP39_0
  replace cP39_1 := (hb43.cell (p := ⟨P39, 1, none⟩) lP39).trans cP39_1
  replace lP39 : P39 < W44.heap.size := Nat.lt_of_lt_of_le lP39 hz
  replace cP40_0 := (hb43.cell (p := ⟨P40, 0, none⟩) lP40).trans cP40_0
  replace cP40_1 := (hb43.cell (p := ⟨P40, 1, none⟩) lP40).trans cP40_1
  replace lP40 : P40 < W44.heap.size := Nat.lt_of_lt_of_le lP40 hz
  replace top := Nat.le_trans top hz
  clear hb43 hz
  obtain ⟨N53, hN53⟩ : ∃ N53, N53 = W44.heap.size := ⟨_, rfl⟩
  have CN53 := Lib.hid (show N42 ≤ N53 from by rw [hN53]; exact top)
  have top' : N53 ≤ W44.heap.size := Nat.le_of_eq hN53
  clear top
  have top := top'
  clear top'
  rw [← hN53] at hr
  clear hN53
  have HX54 := Lib.hid hr
  clear hr
  go_wp2_with fail
  obtain ⟨W55, hW55⟩ : ∃ w', w' = (W44.alloc (.cells #[.slice p45 (X00).length q46, .slice p47 (X01).length q48, .slice p49 (X02).length q50, .slice p51 (X03).length q52] 54)) := ⟨_, rfl⟩
  rw [← hW55]
  have hbx : Below W44.heap.size W44 W55 := by rw [hW55]; exact ((Below.refl _ _).alloc (by simp) _)
  obtain ⟨P56, hP56⟩ : ∃ n, n = W44.heap.size := ⟨_, rfl⟩
  have cP56_0 : W55.cell? ⟨P56, 0, none⟩ = some (.slice p45 (X00).length q46) := by rw [hW55, hP56]; simp [go_sem]
  have cP56_1 : W55.cell? ⟨P56, 1, none⟩ = some (.slice p47 (X01).length q48) := by rw [hW55, hP56]; simp [go_sem]
  have cP56_2 : W55.cell? ⟨P56, 2, none⟩ = some (.slice p49 (X02).length q50) := by rw [hW55, hP56]; simp [go_sem]
  have cP56_3 : W55.cell? ⟨P56, 3, none⟩ = some (.slice p51 (X03).length q52) := by rw [hW55, hP56]; simp [go_sem]
  have lP56 : P56 < W55.heap.size := by rw [hW55, hP56]; simp
  have CP56 := Lib.hid (show N53 ≤ P56 from by rw [hP56]; exact top)
  rw [← hP56]
  clear hP56 hW55
  have hz := hbx.size
  replace hwc := hwc.trans (hbx.mono hwc.size)
  replace cP7_0 := (hbx.cell (p := ⟨P7, 0, none⟩) lP7).trans cP7_0
  replace cP7_1 := (hbx.cell (p := ⟨P7, 1, none⟩) lP7).trans cP7_1
  replace cP7_2 := (hbx.cell (p := ⟨P7, 2, none⟩) lP7).trans cP7_2
  replace cP7_3 := (hbx.cell (p := ⟨P7, 3, none⟩) lP7).trans cP7_3
  replace lP7 : P7 < W55.heap.size := Nat.lt_of_lt_of_le lP7 hz
  replace cP39_0 := (hbx.cell (p := ⟨P39, 0, none⟩) lP39).trans cP39_0
  replace cP39_1 := (hbx.cell (p := ⟨P39, 1, none⟩) lP39).trans cP39_1
  replace lP39 : P39 < W55.heap.size := Nat.lt_of_lt_of_le lP39 hz
  replace cP40_0 := (hbx.cell (p := ⟨P40, 0, none⟩) lP40).trans cP40_0
  replace cP40_1 := (hbx.cell (p := ⟨P40, 1, none⟩) lP40).trans cP40_1
  replace lP40 : P40 < W55.heap.size := Nat.lt_of_lt_of_le lP40 hz
  replace HX54 := Lib.hid (HX54.out.below hbx (show N53 ≤ W44.heap.size from (by have := CP7.out; have := CN8.out; have := CP39.out; have := CP40.out; have := CN41.out; have := CN42.out; have := CN53.out; have := CP56.out; omega)))
  replace top := Nat.le_trans top hz
  clear hbx hz
  clear top
  obtain ⟨N57, hN57⟩ : ∃ n, n = W55.heap.size := ⟨_, rfl⟩
  have CN57 := Lib.hid (show P56 < N57 from by rw [hN57]; exact lP56)
  have top : N57 ≤ W55.heap.size := Nat.le_of_eq hN57
  clear hN57
  obtain ⟨N58, hN58⟩ : ∃ N58, N58 = W55.heap.size := ⟨_, rfl⟩
  have CN58 := Lib.hid (show N57 ≤ N58 from by rw [hN58]; exact top)
  have top' : N58 ≤ W55.heap.size := Nat.le_of_eq hN58
  clear top
  have top := top'
  clear top'
  refine (toI_x _ X10 _ (g10 _ hwc) HN1.out).mono ?_; rintro e W60 ⟨p61, q62, rfl, hr, hb59⟩
  rw [← hN58] at hr
  clear hN58
  have hz := hb59.size
  replace hwc := hwc.trans (hb59.mono hwc.size)
  replace cP7_0 := (hb59.cell (p := ⟨P7, 0, none⟩) lP7).trans cP7_0
  replace cP7_1 := (hb59.cell (p := ⟨P7, 1, none⟩) lP7).trans cP7_1
  replace cP7_2 := (hb59.cell (p := ⟨P7, 2, none⟩) lP7).trans cP7_2
  replace cP7_3 := (hb59.cell (p := ⟨P7, 3, none⟩) lP7).trans cP7_3
  replace lP7 : P7 < W60.heap.size := Nat.lt_of_lt_of_le lP7 hz
  replace cP39_0 := (hb59.cell (p := ⟨P39, 0, none⟩) lP39).trans cP39_0
  replace cP39_1 := (hb59.cell (p := ⟨P39, 1, none⟩) lP39).trans cP39_1
  replace lP39 : P39 < W60.heap.size := Nat.lt_of_lt_of_le lP39 hz
  replace cP40_0 := (hb59.cell (p := ⟨P40, 0, none⟩) lP40).trans cP40_0
  replace cP40_1 := (hb59.cell (p := ⟨P40, 1, none⟩) lP40).trans cP40_1
  replace lP40 : P40 < W60.heap.size := Nat.lt_of_lt_of_le lP40 hz
  replace cP56_0 := (hb59.cell (p := ⟨P56, 0, none⟩) lP56).trans cP56_0
  replace cP56_1 := (hb59.cell (p := ⟨P56, 1, none⟩) lP56).trans cP56_1
  replace cP56_2 := (hb59.cell (p := ⟨P56, 2, none⟩) lP56).trans cP56_2
  replace cP56_3 := (hb59.cell (p := ⟨P56, 3, none⟩) lP56).trans cP56_3
  replace lP56 : P56 < W60.heap.size := Nat.lt_of_lt_of_le lP56 hz
  replace HX54 := Lib.hid (HX54.out.below hb59 (show N53 ≤ W55.heap.size from (by have := CP7.out; have := CN8.out; have := CP39.out; have := CP40.out; have := CN41.out; have := CN42.out; have := CN53.out; have := CP56.out; have := CN57.out; have := CN58.out; omega)))
  replace top := Nat.le_trans top hz
  clear hb59 hz
  obtain ⟨N63, hN63⟩ : ∃ N63, N63 = W60.heap.size := ⟨_, rfl⟩
  have CN63 := Lib.hid (show N58 ≤ N63 from by rw [hN63]; exact top)
  have top' : N63 ≤ W60.heap.size := Nat.le_of_eq hN63
  clear top
  have top := top'
  clear top'
  rw [← hN63] at hr
  clear hN63
  have HX64 := Lib.hid hr
  clear hr
  go_wp2_with fail
  obtain ⟨N65, hN65⟩ : ∃ N65, N65 = W60.heap.size := ⟨_, rfl⟩
  have CN65 := Lib.hid (show N63 ≤ N65 from by rw [hN65]; exact top)
  have top' : N65 ≤ W60.heap.size := Nat.le_of_eq hN65
  clear top
  have top := top'
  clear top'
  refine (toI_x _ X20 _ (g20 _ hwc) HN2.out).mono ?_; rintro e W67 ⟨p68, q69, rfl, hr, hb66⟩
  rw [← hN65] at hr
  clear hN65
  have hz := hb66.size
  replace hwc := hwc.trans (hb66.mono hwc.size)
  replace cP7_0 := (hb66.cell (p := ⟨P7, 0, none⟩) lP7).trans cP7_0
  replace cP7_1 := (hb66.cell (p := ⟨P7, 1, none⟩) lP7).trans cP7_1
  replace cP7_2 := (hb66.cell (p := ⟨P7, 2, none⟩) lP7).trans cP7_2
  replace cP7_3 := (hb66.cell (p := ⟨P7, 3, none⟩) lP7).trans cP7_3
  replace lP7 : P7 < W67.heap.size := Nat.lt_of_lt_of_le lP7 hz
  replace cP39_0 := (hb66.cell (p := ⟨P39, 0, none⟩) lP39).trans cP39_0
  replace cP39_1 := (hb66.cell (p := ⟨P39, 1, none⟩) lP39).trans cP39_1
  replace lP39 : P39 < W67.heap.size := Nat.lt_of_lt_of_le lP39 hz
  replace cP40_0 := (hb66.cell (p := ⟨P40, 0, none⟩) lP40).trans cP40_0
  replace cP40_1 := (hb66.cell (p := ⟨P40, 1, none⟩) lP40).trans cP40_1
  replace lP40 : P40 < W67.heap.size := Nat.lt_of_lt_of_le lP40 hz
  replace cP56_0 := (hb66.cell (p := ⟨P56, 0, none⟩) lP56).trans cP56_0
  replace cP56_1 := (hb66.cell (p := ⟨P56, 1, none⟩) lP56).trans cP56_1
  replace cP56_2 := (hb66.cell (p := ⟨P56, 2, none⟩) lP56).trans cP56_2
  replace cP56_3 := (hb66.cell (p := ⟨P56, 3, none⟩) lP56).trans cP56_3
  replace lP56 : P56 < W67.heap.size := Nat.lt_of_lt_of_le lP56 hz
  replace HX54 := Lib.hid (HX54.out.below hb66 (show N53 ≤ W60.heap.size from (by have := CP7.out; have := CN8.out; have := CP39.out; have := CP40.out; have := CN41.out; have := CN42.out; have := CN53.out; have := CP56.out; have := CN57.out; have := CN58.out; have := CN63.out; have := CN65.out; omega)))
  replace HX64 := Lib.hid (HX64.out.below hb66 (show N63 ≤ W60.heap.size from (by have := CP7.out; have := CN8.out; have := CP39.out; have := CP40.out; have := CN41.out; have := CN42.out; have := CN53.out; have := CP56.out; have := CN57.out; have := CN58.out; have := CN63.out; have := CN65.out; omega)))
  replace top := Nat.le_trans top hz
  clear hb66 hz
  obtain ⟨N70, hN70⟩ : ∃ N70, N70 = W67.heap.size := ⟨_, rfl⟩
  have CN70 := Lib.hid (show N65 ≤ N70 from by rw [hN70]; exact top)
  have top' : N70 ≤ W67.heap.size := Nat.le_of_eq hN70
  clear top
  have top := top'
  clear top'
  rw [← hN70] at hr
  clear hN70
  have HX71 := Lib.hid hr
  clear hr
  have hrr := RngWx.reads HX54.out I00.out I01.out I02.out I03.out
  have RD72 := Lib.hid (hrr.1)
  have RD73 := Lib.hid (hrr.2.1)
  have RD74 := Lib.hid (hrr.2.2.1)
  have RD75 := Lib.hid (hrr.2.2.2)
  clear hrr
  have RD76 := Lib.hid (RngIx.reads HX64.out I10.out)
  have RD77 := Lib.hid (RngIx.reads HX71.out I20.out)
  go_wp2_with fail
  refine (HI.out _ _ _ _ _ _ _ RD72.out RD73.out RD74.out RD75.out RD76.out RD77.out).mono ?_; rintro e W78 ⟨rfl, hb79⟩; dsimp only
  have hz := hb79.size
  replace hwc := hwc.trans (hb79.mono hwc.size)
  replace cP7_0 := (hb79.cell (p := ⟨P7, 0, none⟩) lP7).trans cP7_0
  replace cP7_1 := (hb79.cell (p := ⟨P7, 1, none⟩) lP7).trans cP7_1
  replace cP7_2 := (hb79.cell (p := ⟨P7, 2, none⟩) lP7).trans cP7_2
  replace cP7_3 := (hb79.cell (p := ⟨P7, 3, none⟩) lP7).trans cP7_3
  replace lP7 : P7 < W78.heap.size := Nat.lt_of_lt_of_le lP7 hz
  replace cP39_0 := (hb79.cell (p := ⟨P39, 0, none⟩) lP39).trans cP39_0
  replace cP39_1 := (hb79.cell (p := ⟨P39, 1, none⟩) lP39).trans cP39_1
  replace lP39 : P39 < W78.heap.size := Nat.lt_of_lt_of_le lP39 hz
  replace cP40_0 := (hb79.cell (p := ⟨P40, 0, none⟩) lP40).trans cP40_0
  replace cP40_1 := (hb79.cell (p := ⟨P40, 1, none⟩) lP40).trans cP40_1
  replace lP40 : P40 < W78.heap.size := Nat.lt_of_lt_of_le lP40 hz
  replace cP56_0 := (hb79.cell (p := ⟨P56, 0, none⟩) lP56).trans cP56_0
  replace cP56_1 := (hb79.cell (p := ⟨P56, 1, none⟩) lP56).trans cP56_1
  replace cP56_2 := (hb79.cell (p := ⟨P56, 2, none⟩) lP56).trans cP56_2
  replace cP56_3 := (hb79.cell (p := ⟨P56, 3, none⟩) lP56).trans cP56_3
  replace lP56 : P56 < W78.heap.size := Nat.lt_of_lt_of_le lP56 hz
  replace RD72 := Lib.hid (RD72.out.below hb79)
  replace RD73 := Lib.hid (RD73.out.below hb79)
  replace RD74 := Lib.hid (RD74.out.below hb79)
  replace RD75 := Lib.hid (RD75.out.below hb79)
  replace RD76 := Lib.hid (RD76.out.below hb79)
  replace RD77 := Lib.hid (RD77.out.below hb79)
  replace HX54 := Lib.hid (HX54.out.below hb79 (show N53 ≤ W67.heap.size from (by have := CP7.out; have := CN8.out; have := CP39.out; have := CP40.out; have := CN41.out; have := CN42.out; have := CN53.out; have := CP56.out; have := CN57.out; have := CN58.out; have := CN63.out; have := CN65.out; have := CN70.out; omega)))
  replace HX64 := Lib.hid (HX64.out.below hb79 (show N63 ≤ W67.heap.size from (by have := CP7.out; have := CN8.out; have := CP39.out; have := CP40.out; have := CN41.out; have := CN42.out; have := CN53.out; have := CP56.out; have := CN57.out; have := CN58.out; have := CN63.out; have := CN65.out; have := CN70.out; omega)))
  replace HX71 := Lib.hid (HX71.out.below hb79 (show N70 ≤ W67.heap.size from (by have := CP7.out; have := CN8.out; have := CP39.out; have := CP40.out; have := CN41.out; have := CN42.out; have := CN53.out; have := CP56.out; have := CN57.out; have := CN58.out; have := CN63.out; have := CN65.out; have := CN70.out; omega)))
  replace top := Nat.le_trans top hz
  clear hb79 hz
  go_wp2_with fail
  obtain ⟨W80, hW80⟩ : ∃ w', w' = ((W78.alloc (.cells #[.int .i64 n0, .int .i64 d0] 62)).alloc (.cells #[.int .i64 n1, .int .i64 d1] 62)) := ⟨_, rfl⟩
  rw [← hW80]
  have hbx : Below W78.heap.size W78 W80 := by rw [hW80]; exact (((Below.refl _ _).alloc (by simp) _).alloc (by simp) _)
  obtain ⟨P81, hP81⟩ : ∃ n, n = W78.heap.size := ⟨_, rfl⟩
  obtain ⟨P82, hP82⟩ : ∃ n, n = W78.heap.size + 1 := ⟨_, rfl⟩
  have cP81_0 : W80.cell? ⟨P81, 0, none⟩ = some (.int .i64 n0) := by rw [hW80, hP81]; simp [go_sem]
  have cP81_1 : W80.cell? ⟨P81, 1, none⟩ = some (.int .i64 d0) := by rw [hW80, hP81]; simp [go_sem]
  have lP81 : P81 < W80.heap.size := by rw [hW80, hP81]; simp <;> omega
  have CP81 := Lib.hid (show N70 ≤ P81 from by rw [hP81]; exact top)
  have cP82_0 : W80.cell? ⟨P82, 0, none⟩ = some (.int .i64 n1) := by rw [hW80, hP82]; simp [go_sem]
  have cP82_1 : W80.cell? ⟨P82, 1, none⟩ = some (.int .i64 d1) := by rw [hW80, hP82]; simp [go_sem]
  have lP82 : P82 < W80.heap.size := by rw [hW80, hP82]; simp
  have CP82 := Lib.hid (show P81 < P82 from by omega)
  rw [← hP82]
  rw [← hP81]
  clear hP82 hP81 hW80
  have hz := hbx.size
  replace hwc := hwc.trans (hbx.mono hwc.size)
  replace cP7_0 := (hbx.cell (p := ⟨P7, 0, none⟩) lP7).trans cP7_0
  replace cP7_1 := (hbx.cell (p := ⟨P7, 1, none⟩) lP7).trans cP7_1
  replace cP7_2 := (hbx.cell (p := ⟨P7, 2, none⟩) lP7).trans cP7_2
  replace cP7_3 := (hbx.cell (p := ⟨P7, 3, none⟩) lP7).trans cP7_3
  replace lP7 : P7 < W80.heap.size := Nat.lt_of_lt_of_le lP7 hz
  replace cP39_0 := (hbx.cell (p := ⟨P39, 0, none⟩) lP39).trans cP39_0
  replace cP39_1 := (hbx.cell (p := ⟨P39, 1, none⟩) lP39).trans cP39_1
  replace lP39 : P39 < W80.heap.size := Nat.lt_of_lt_of_le lP39 hz
  replace cP40_0 := (hbx.cell (p := ⟨P40, 0, none⟩) lP40).trans cP40_0
  replace cP40_1 := (hbx.cell (p := ⟨P40, 1, none⟩) lP40).trans cP40_1
  replace lP40 : P40 < W80.heap.size := Nat.lt_of_lt_of_le lP40 hz
  replace cP56_0 := (hbx.cell (p := ⟨P56, 0, none⟩) lP56).trans cP56_0
  replace cP56_1 := (hbx.cell (p := ⟨P56, 1, none⟩) lP56).trans cP56_1
  replace cP56_2 := (hbx.cell (p := ⟨P56, 2, none⟩) lP56).trans cP56_2
  replace cP56_3 := (hbx.cell (p := ⟨P56, 3, none⟩) lP56).trans cP56_3
  replace lP56 : P56 < W80.heap.size := Nat.lt_of_lt_of_le lP56 hz
  replace RD72 := Lib.hid (RD72.out.below hbx)
  replace RD73 := Lib.hid (RD73.out.below hbx)
  replace RD74 := Lib.hid (RD74.out.below hbx)
  replace RD75 := Lib.hid (RD75.out.below hbx)
  replace RD76 := Lib.hid (RD76.out.below hbx)
  replace RD77 := Lib.hid (RD77.out.below hbx)
  replace HX54 := Lib.hid (HX54.out.below hbx (show N53 ≤ W78.heap.size from (by have := CP7.out; have := CN8.out; have := CP39.out; have := CP40.out; have := CN41.out; have := CN42.out; have := CN53.out; have := CP56.out; have := CN57.out; have := CN58.out; have := CN63.out; have := CN65.out; have := CN70.out; have := CP81.out; have := CP82.out; omega)))
  replace HX64 := Lib.hid (HX64.out.below hbx (show N63 ≤ W78.heap.size from (by have := CP7.out; have := CN8.out; have := CP39.out; have := CP40.out; have := CN41.out; have := CN42.out; have := CN53.out; have := CP56.out; have := CN57.out; have := CN58.out; have := CN63.out; have := CN65.out; have := CN70.out; have := CP81.out; have := CP82.out; omega)))
  replace HX71 := Lib.hid (HX71.out.below hbx (show N70 ≤ W78.heap.size from (by have := CP7.out; have := CN8.out; have := CP39.out; have := CP40.out; have := CN41.out; have := CN42.out; have := CN53.out; have := CP56.out; have := CN57.out; have := CN58.out; have := CN63.out; have := CN65.out; have := CN70.out; have := CP81.out; have := CP82.out; omega)))
  replace top := Nat.le_trans top hz
  clear hbx hz
  clear top
  obtain ⟨N83, hN83⟩ : ∃ n, n = W80.heap.size := ⟨_, rfl⟩
  have CN83 := Lib.hid (show P82 < N83 from by rw [hN83]; exact lP82)
  have top : N83 ≤ W80.heap.size := Nat.le_of_eq hN83
  clear hN83
  clear RD72 RD73 RD74 RD75 RD76 RD77
  refine (eqFrac_self n0 d0 _).mono ?_; rintro e W85 ⟨rfl, hb84⟩
  have hz := hb84.size
  replace hwc := hwc.trans (hb84.mono hwc.size)
  replace cP7_0 := (hb84.cell (p := ⟨P7, 0, none⟩) lP7).trans cP7_0
  replace cP7_1 := (hb84.cell (p := ⟨P7, 1, none⟩) lP7).trans cP7_1
  replace cP7_2 := (hb84.cell (p := ⟨P7, 2, none⟩) lP7).trans cP7_2
  replace cP7_3 := (hb84.cell (p := ⟨P7, 3, none⟩) lP7).trans cP7_3
  replace lP7 : P7 < W85.heap.size := Nat.lt_of_lt_of_le lP7 hz
  replace cP39_0 := (hb84.cell (p := ⟨P39, 0, none⟩) lP39).trans cP39_0
  replace cP39_1 := (hb84.cell (p := ⟨P39, 1, none⟩) lP39).trans cP39_1
  replace lP39 : P39 < W85.heap.size := Nat.lt_of_lt_of_le lP39 hz
  replace cP40_0 := (hb84.cell (p := ⟨P40, 0, none⟩) lP40).trans cP40_0
  replace cP40_1 := (hb84.cell (p := ⟨P40, 1, none⟩) lP40).trans cP40_1
  replace lP40 : P40 < W85.heap.size := Nat.lt_of_lt_of_le lP40 hz
  replace cP56_0 := (hb84.cell (p := ⟨P56, 0, none⟩) lP56).trans cP56_0
  replace cP56_1 := (hb84.cell (p := ⟨P56, 1, none⟩) lP56).trans cP56_1
  replace cP56_2 := (hb84.cell (p := ⟨P56, 2, none⟩) lP56).trans cP56_2
  replace cP56_3 := (hb84.cell (p := ⟨P56, 3, none⟩) lP56).trans cP56_3
  replace lP56 : P56 < W85.heap.size := Nat.lt_of_lt_of_le lP56 hz
  replace cP81_0 := (hb84.cell (p := ⟨P81, 0, none⟩) lP81).trans cP81_0
  replace cP81_1 := (hb84.cell (p := ⟨P81, 1, none⟩) lP81).trans cP81_1
  replace lP81 : P81 < W85.heap.size := Nat.lt_of_lt_of_le lP81 hz
  replace cP82_0 := (hb84.cell (p := ⟨P82, 0, none⟩) lP82).trans cP82_0
  replace cP82_1 := (hb84.cell (p := ⟨P82, 1, none⟩) lP82).trans cP82_1
  replace lP82 : P82 < W85.heap.size := Nat.lt_of_lt_of_le lP82 hz
  replace HX54 := Lib.hid (HX54.out.below hb84 (show N53 ≤ W80.heap.size from (by have := CP7.out; have := CN8.out; have := CP39.out; have := CP40.out; have := CN41.out; have := CN42.out; have := CN53.out; have := CP56.out; have := CN57.out; have := CN58.out; have := CN63.out; have := CN65.out; have := CN70.out; have := CP81.out; have := CP82.out; have := CN83.out; omega)))
  replace HX64 := Lib.hid (HX64.out.below hb84 (show N63 ≤ W80.heap.size from (by have := CP7.out; have := CN8.out; have := CP39.out; have := CP40.out; have := CN41.out; have := CN42.out; have := CN53.out; have := CP56.out; have := CN57.out; have := CN58.out; have := CN63.out; have := CN65.out; have := CN70.out; have := CP81.out; have := CP82.out; have := CN83.out; omega)))
  replace HX71 := Lib.hid (HX71.out.below hb84 (show N70 ≤ W80.heap.size from (by have := CP7.out; have := CN8.out; have := CP39.out; have := CP40.out; have := CN41.out; have := CN42.out; have := CN53.out; have := CP56.out; have := CN57.out; have := CN58.out; have := CN63.out; have := CN65.out; have := CN70.out; have := CP81.out; have := CP82.out; have := CN83.out; omega)))
  replace top := Nat.le_trans top hz
  clear hb84 hz
  go_wp2_with fail
  refine (eqFrac_self n1 d1 _).mono ?_; rintro e W87 ⟨rfl, hb86⟩
  have hz := hb86.size
  replace hwc := hwc.trans (hb86.mono hwc.size)
  replace cP7_0 := (hb86.cell (p := ⟨P7, 0, none⟩) lP7).trans cP7_0
  replace cP7_1 := (hb86.cell (p := ⟨P7, 1, none⟩) lP7).trans cP7_1
  replace cP7_2 := (hb86.cell (p := ⟨P7, 2, none⟩) lP7).trans cP7_2
  replace cP7_3 := (hb86.cell (p := ⟨P7, 3, none⟩) lP7).trans cP7_3
  replace lP7 : P7 < W87.heap.size := Nat.lt_of_lt_of_le lP7 hz
  replace cP39_0 := (hb86.cell (p := ⟨P39, 0, none⟩) lP39).trans cP39_0
  replace cP39_1 := (hb86.cell (p := ⟨P39, 1, none⟩) lP39).trans cP39_1
  replace lP39 : P39 < W87.heap.size := Nat.lt_of_lt_of_le lP39 hz
  replace cP40_0 := (hb86.cell (p := ⟨P40, 0, none⟩) lP40).trans cP40_0
  replace cP40_1 := (hb86.cell (p := ⟨P40, 1, none⟩) lP40).trans cP40_1
  replace lP40 : P40 < W87.heap.size := Nat.lt_of_lt_of_le lP40 hz
  replace cP56_0 := (hb86.cell (p := ⟨P56, 0, none⟩) lP56).trans cP56_0
  replace cP56_1 := (hb86.cell (p := ⟨P56, 1, none⟩) lP56).trans cP56_1
  replace cP56_2 := (hb86.cell (p := ⟨P56, 2, none⟩) lP56).trans cP56_2
  replace cP56_3 := (hb86.cell (p := ⟨P56, 3, none⟩) lP56).trans cP56_3
  replace lP56 : P56 < W87.heap.size := Nat.lt_of_lt_of_le lP56 hz
  replace cP81_0 := (hb86.cell (p := ⟨P81, 0, none⟩) lP81).trans cP81_0
  replace cP81_1 := (hb86.cell (p := ⟨P81, 1, none⟩) lP81).trans cP81_1
  replace lP81 : P81 < W87.heap.size := Nat.lt_of_lt_of_le lP81 hz
  replace cP82_0 := (hb86.cell (p := ⟨P82, 0, none⟩) lP82).trans cP82_0
  replace cP82_1 := (hb86.cell (p := ⟨P82, 1, none⟩) lP82).trans cP82_1
  replace lP82 : P82 < W87.heap.size := Nat.lt_of_lt_of_le lP82 hz
  replace HX54 := Lib.hid (HX54.out.below hb86 (show N53 ≤ W85.heap.size from (by have := CP7.out; have := CN8.out; have := CP39.out; have := CP40.out; have := CN41.out; have := CN42.out; have := CN53.out; have := CP56.out; have := CN57.out; have := CN58.out; have := CN63.out; have := CN65.out; have := CN70.out; have := CP81.out; have := CP82.out; have := CN83.out; omega)))
  replace HX64 := Lib.hid (HX64.out.below hb86 (show N63 ≤ W85.heap.size from (by have := CP7.out; have := CN8.out; have := CP39.out; have := CP40.out; have := CN41.out; have := CN42.out; have := CN53.out; have := CP56.out; have := CN57.out; have := CN58.out; have := CN63.out; have := CN65.out; have := CN70.out; have := CP81.out; have := CP82.out; have := CN83.out; omega)))
  replace HX71 := Lib.hid (HX71.out.below hb86 (show N70 ≤ W85.heap.size from (by have := CP7.out; have := CN8.out; have := CP39.out; have := CP40.out; have := CN41.out; have := CN42.out; have := CN53.out; have := CP56.out; have := CN57.out; have := CN58.out; have := CN63.out; have := CN65.out; have := CN70.out; have := CP81.out; have := CP82.out; have := CN83.out; omega)))
  replace top := Nat.le_trans top hz
  clear hb86 hz
  have hrr := RngWx.reads HX54.out I00.out I01.out I02.out I03.out
  have RX88 := Lib.hid (hrr.1)
  have RX89 := Lib.hid (hrr.2.1)
  have RX90 := Lib.hid (hrr.2.2.1)
  have RX91 := Lib.hid (hrr.2.2.2)
  clear hrr
  have rp0 := fun (w' : World) (h : Below W87.heap.size W87 w') => (h.cell (p := ⟨P7, 0, none⟩) lP7).trans cP7_0
  have rp1 := fun (w' : World) (h : Below W87.heap.size W87 w') => (h.cell (p := ⟨P7, 1, none⟩) lP7).trans cP7_1
  have rp2 := fun (w' : World) (h : Below W87.heap.size W87 w') => (h.cell (p := ⟨P7, 2, none⟩) lP7).trans cP7_2
  have rp3 := fun (w' : World) (h : Below W87.heap.size W87 w') => (h.cell (p := ⟨P7, 3, none⟩) lP7).trans cP7_3
  have rv0 := fun (w' : World) (h : Below W87.heap.size W87 w') => (h.cell (p := ⟨P56, 0, none⟩) lP56).trans cP56_0
  have rv1 := fun (w' : World) (h : Below W87.heap.size W87 w') => (h.cell (p := ⟨P56, 1, none⟩) lP56).trans cP56_1
  have rv2 := fun (w' : World) (h : Below W87.heap.size W87 w') => (h.cell (p := ⟨P56, 2, none⟩) lP56).trans cP56_2
  have rv3 := fun (w' : World) (h : Below W87.heap.size W87 w') => (h.cell (p := ⟨P56, 3, none⟩) lP56).trans cP56_3
  clear cP7_0 cP7_1 cP7_2 cP7_3
  clear cP56_0 cP56_1 cP56_2 cP56_3
  go_wp2_with fail
  have hz9 := hwc.size
  go_region_held3 (fun w' => Below W87.heap.size W87 w') ((repeat' (first | (with_reducible exact Below.refl _ _) | (with_reducible assumption) | (with_reducible refine Below.alloc ?_ ?_ _) | (with_reducible refine Below.drew ?_) | (with_reducible refine below_drewN ?_ _) | (with_reducible refine Below.setCell ?_ ?_ _) | (with_reducible refine Below.trans ?_ (Below.mono (by with_reducible assumption) ?_)) | (with_reducible exact Below.size (by with_reducible assumption)) | go_size)))
    (first | (go_at_call 38; refine (toW_x _ _ _ _ X00 X01 X02 X03 _ (g00 _ (hwc.trans (Below.mono (by assumption) hz9))) (g01 _ (hwc.trans (Below.mono (by assumption) hz9))) (g02 _ (hwc.trans (Below.mono (by assumption) hz9))) (g03 _ (hwc.trans (Below.mono (by assumption) hz9))) HN0.out).mono ?_; rintro e w8 ⟨p92, q93, p94, q95, p96, q97, p98, q99, rfl, hr8, hb8⟩; have hS8 : Below W87.heap.size W87 w8 := (by (repeat' (first | (with_reducible exact Below.refl _ _) | (with_reducible assumption) | (with_reducible refine Below.alloc ?_ ?_ _) | (with_reducible refine Below.drew ?_) | (with_reducible refine below_drewN ?_ _) | (with_reducible refine Below.setCell ?_ ?_ _) | (with_reducible refine Below.trans ?_ (Below.mono (by with_reducible assumption) ?_)) | (with_reducible exact Below.size (by with_reducible assumption)) | go_size))); have R8 := Lib.hid (RngWx.reads hr8 I00.out I01.out I02.out I03.out); clear hr8) | (go_at_call 40; refine (eqW_x _ _ _ _ _ _ _ _ X00 X01 X02 X03 _ (RX88.out.below hS8) (RX89.out.below hS8) (RX90.out.below hS8) (RX91.out.below hS8) (R8.out.1) (R8.out.2.1) (R8.out.2.2.1) (R8.out.2.2.2)).mono ?_; rintro e w9 ⟨rfl, hb9⟩; have hS9 : Below W87.heap.size W87 w9 := (by (repeat' (first | (with_reducible exact Below.refl _ _) | (with_reducible assumption) | (with_reducible refine Below.alloc ?_ ?_ _) | (with_reducible refine Below.drew ?_) | (with_reducible refine below_drewN ?_ _) | (with_reducible refine Below.setCell ?_ ?_ _) | (with_reducible refine Below.trans ?_ (Below.mono (by with_reducible assumption) ?_)) | (with_reducible exact Below.size (by with_reducible assumption)) | go_size)))))
  clear R8 hS8 hb8 hb9 hz9 RX88 RX89 RX90 RX91
  have cP7_0 := rp0 _ hS9
  have cP7_1 := rp1 _ hS9
  have cP7_2 := rp2 _ hS9
  have cP7_3 := rp3 _ hS9
  have cP56_0 := rv0 _ hS9
  have cP56_1 := rv1 _ hS9
  have cP56_2 := rv2 _ hS9
  have cP56_3 := rv3 _ hS9
  clear rp0 rp1 rp2 rp3 rv0 rv1 rv2 rv3
  have hS9' := hS9
  have lP9 := Nat.lt_of_lt_of_le lP7 hS9.size
  have lV9 := Nat.lt_of_lt_of_le lP56 hS9.size
  clear hS9 lP7 lP56
  have lP7 := lP9
  have lP56 := lV9
  clear lP9 lV9
  have hz := hS9'.size
  replace hwc := hwc.trans (hS9'.mono hwc.size)
  replace cP39_0 := (hS9'.cell (p := ⟨P39, 0, none⟩) lP39).trans cP39_0
  replace cP39_1 := (hS9'.cell (p := ⟨P39, 1, none⟩) lP39).trans cP39_1
  replace lP39 : P39 < w9.heap.size := Nat.lt_of_lt_of_le lP39 hz
  replace cP40_0 := (hS9'.cell (p := ⟨P40, 0, none⟩) lP40).trans cP40_0
  replace cP40_1 := (hS9'.cell (p := ⟨P40, 1, none⟩) lP40).trans cP40_1
  replace lP40 : P40 < w9.heap.size := Nat.lt_of_lt_of_le lP40 hz
  replace cP81_0 := (hS9'.cell (p := ⟨P81, 0, none⟩) lP81).trans cP81_0
  replace cP81_1 := (hS9'.cell (p := ⟨P81, 1, none⟩) lP81).trans cP81_1
  replace lP81 : P81 < w9.heap.size := Nat.lt_of_lt_of_le lP81 hz
  replace cP82_0 := (hS9'.cell (p := ⟨P82, 0, none⟩) lP82).trans cP82_0
  replace cP82_1 := (hS9'.cell (p := ⟨P82, 1, none⟩) lP82).trans cP82_1
  replace lP82 : P82 < w9.heap.size := Nat.lt_of_lt_of_le lP82 hz
  replace HX54 := Lib.hid (HX54.out.below hS9' (show N53 ≤ W87.heap.size from (by have := CP7.out; have := CN8.out; have := CP39.out; have := CP40.out; have := CN41.out; have := CN42.out; have := CN53.out; have := CP56.out; have := CN57.out; have := CN58.out; have := CN63.out; have := CN65.out; have := CN70.out; have := CP81.out; have := CP82.out; have := CN83.out; omega)))
  replace HX64 := Lib.hid (HX64.out.below hS9' (show N63 ≤ W87.heap.size from (by have := CP7.out; have := CN8.out; have := CP39.out; have := CP40.out; have := CN41.out; have := CN42.out; have := CN53.out; have := CP56.out; have := CN57.out; have := CN58.out; have := CN63.out; have := CN65.out; have := CN70.out; have := CP81.out; have := CP82.out; have := CN83.out; omega)))
  replace HX71 := Lib.hid (HX71.out.below hS9' (show N70 ≤ W87.heap.size from (by have := CP7.out; have := CN8.out; have := CP39.out; have := CP40.out; have := CN41.out; have := CN42.out; have := CN53.out; have := CP56.out; have := CN57.out; have := CN58.out; have := CN63.out; have := CN65.out; have := CN70.out; have := CP81.out; have := CP82.out; have := CN83.out; omega)))
  replace top := Nat.le_trans top hz
  clear hS9' hz
  obtain ⟨W100, rfl⟩ : ∃ w', w' = w9 := ⟨_, rfl⟩
  go_wp2_with fail
  refine (toI_x _ X10 _ (g10 _ hwc) HN1.out).mono ?_; rintro e W102 ⟨p103, q104, rfl, hr, hb101⟩
  have RT := Lib.hid hr
  clear hr
  have hz := hb101.size
  replace hwc := hwc.trans (hb101.mono hwc.size)
  replace cP7_0 := (hb101.cell (p := ⟨P7, 0, none⟩) lP7).trans cP7_0
  replace cP7_1 := (hb101.cell (p := ⟨P7, 1, none⟩) lP7).trans cP7_1
  replace cP7_2 := (hb101.cell (p := ⟨P7, 2, none⟩) lP7).trans cP7_2
  replace cP7_3 := (hb101.cell (p := ⟨P7, 3, none⟩) lP7).trans cP7_3
  replace lP7 : P7 < W102.heap.size := Nat.lt_of_lt_of_le lP7 hz
  replace cP39_0 := (hb101.cell (p := ⟨P39, 0, none⟩) lP39).trans cP39_0
  replace cP39_1 := (hb101.cell (p := ⟨P39, 1, none⟩) lP39).trans cP39_1
  replace lP39 : P39 < W102.heap.size := Nat.lt_of_lt_of_le lP39 hz
  replace cP40_0 := (hb101.cell (p := ⟨P40, 0, none⟩) lP40).trans cP40_0
  replace cP40_1 := (hb101.cell (p := ⟨P40, 1, none⟩) lP40).trans cP40_1
  replace lP40 : P40 < W102.heap.size := Nat.lt_of_lt_of_le lP40 hz
  replace cP56_0 := (hb101.cell (p := ⟨P56, 0, none⟩) lP56).trans cP56_0
  replace cP56_1 := (hb101.cell (p := ⟨P56, 1, none⟩) lP56).trans cP56_1
  replace cP56_2 := (hb101.cell (p := ⟨P56, 2, none⟩) lP56).trans cP56_2
  replace cP56_3 := (hb101.cell (p := ⟨P56, 3, none⟩) lP56).trans cP56_3
  replace lP56 : P56 < W102.heap.size := Nat.lt_of_lt_of_le lP56 hz
  replace cP81_0 := (hb101.cell (p := ⟨P81, 0, none⟩) lP81).trans cP81_0
  replace cP81_1 := (hb101.cell (p := ⟨P81, 1, none⟩) lP81).trans cP81_1
  replace lP81 : P81 < W102.heap.size := Nat.lt_of_lt_of_le lP81 hz
  replace cP82_0 := (hb101.cell (p := ⟨P82, 0, none⟩) lP82).trans cP82_0
  replace cP82_1 := (hb101.cell (p := ⟨P82, 1, none⟩) lP82).trans cP82_1
  replace lP82 : P82 < W102.heap.size := Nat.lt_of_lt_of_le lP82 hz
  replace HX54 := Lib.hid (HX54.out.below hb101 (show N53 ≤ W100.heap.size from (by have := CP7.out; have := CN8.out; have := CP39.out; have := CP40.out; have := CN41.out; have := CN42.out; have := CN53.out; have := CP56.out; have := CN57.out; have := CN58.out; have := CN63.out; have := CN65.out; have := CN70.out; have := CP81.out; have := CP82.out; have := CN83.out; omega)))
  replace HX64 := Lib.hid (HX64.out.below hb101 (show N63 ≤ W100.heap.size from (by have := CP7.out; have := CN8.out; have := CP39.out; have := CP40.out; have := CN41.out; have := CN42.out; have := CN53.out; have := CP56.out; have := CN57.out; have := CN58.out; have := CN63.out; have := CN65.out; have := CN70.out; have := CP81.out; have := CP82.out; have := CN83.out; omega)))
  replace HX71 := Lib.hid (HX71.out.below hb101 (show N70 ≤ W100.heap.size from (by have := CP7.out; have := CN8.out; have := CP39.out; have := CP40.out; have := CN41.out; have := CN42.out; have := CN53.out; have := CP56.out; have := CN57.out; have := CN58.out; have := CN63.out; have := CN65.out; have := CN70.out; have := CP81.out; have := CP82.out; have := CN83.out; omega)))
  replace top := Nat.le_trans top hz
  clear hb101 hz
  go_wp2_with fail
  refine (eqI_x _ _ X10 _ HX64.out RT.out I10.out HN1.out).mono ?_; rintro e W106 ⟨rfl, hb105⟩
  clear RT
  have hz := hb105.size
  replace hwc := hwc.trans (hb105.mono hwc.size)
  replace cP7_0 := (hb105.cell (p := ⟨P7, 0, none⟩) lP7).trans cP7_0
  replace cP7_1 := (hb105.cell (p := ⟨P7, 1, none⟩) lP7).trans cP7_1
  replace cP7_2 := (hb105.cell (p := ⟨P7, 2, none⟩) lP7).trans cP7_2
  replace cP7_3 := (hb105.cell (p := ⟨P7, 3, none⟩) lP7).trans cP7_3
  replace lP7 : P7 < W106.heap.size := Nat.lt_of_lt_of_le lP7 hz
  replace cP39_0 := (hb105.cell (p := ⟨P39, 0, none⟩) lP39).trans cP39_0
  replace cP39_1 := (hb105.cell (p := ⟨P39, 1, none⟩) lP39).trans cP39_1
  replace lP39 : P39 < W106.heap.size := Nat.lt_of_lt_of_le lP39 hz
  replace cP40_0 := (hb105.cell (p := ⟨P40, 0, none⟩) lP40).trans cP40_0
  replace cP40_1 := (hb105.cell (p := ⟨P40, 1, none⟩) lP40).trans cP40_1
  replace lP40 : P40 < W106.heap.size := Nat.lt_of_lt_of_le lP40 hz
  replace cP56_0 := (hb105.cell (p := ⟨P56, 0, none⟩) lP56).trans cP56_0
  replace cP56_1 := (hb105.cell (p := ⟨P56, 1, none⟩) lP56).trans cP56_1
  replace cP56_2 := (hb105.cell (p := ⟨P56, 2, none⟩) lP56).trans cP56_2
  replace cP56_3 := (hb105.cell (p := ⟨P56, 3, none⟩) lP56).trans cP56_3
  replace lP56 : P56 < W106.heap.size := Nat.lt_of_lt_of_le lP56 hz
  replace cP81_0 := (hb105.cell (p := ⟨P81, 0, none⟩) lP81).trans cP81_0
  replace cP81_1 := (hb105.cell (p := ⟨P81, 1, none⟩) lP81).trans cP81_1
  replace lP81 : P81 < W106.heap.size := Nat.lt_of_lt_of_le lP81 hz
  replace cP82_0 := (hb105.cell (p := ⟨P82, 0, none⟩) lP82).trans cP82_0
  replace cP82_1 := (hb105.cell (p := ⟨P82, 1, none⟩) lP82).trans cP82_1
  replace lP82 : P82 < W106.heap.size := Nat.lt_of_lt_of_le lP82 hz
  replace HX54 := Lib.hid (HX54.out.below hb105 (show N53 ≤ W102.heap.size from (by have := CP7.out; have := CN8.out; have := CP39.out; have := CP40.out; have := CN41.out; have := CN42.out; have := CN53.out; have := CP56.out; have := CN57.out; have := CN58.out; have := CN63.out; have := CN65.out; have := CN70.out; have := CP81.out; have := CP82.out; have := CN83.out; omega)))
  replace HX64 := Lib.hid (HX64.out.below hb105 (show N63 ≤ W102.heap.size from (by have := CP7.out; have := CN8.out; have := CP39.out; have := CP40.out; have := CN41.out; have := CN42.out; have := CN53.out; have := CP56.out; have := CN57.out; have := CN58.out; have := CN63.out; have := CN65.out; have := CN70.out; have := CP81.out; have := CP82.out; have := CN83.out; omega)))
  replace HX71 := Lib.hid (HX71.out.below hb105 (show N70 ≤ W102.heap.size from (by have := CP7.out; have := CN8.out; have := CP39.out; have := CP40.out; have := CN41.out; have := CN42.out; have := CN53.out; have := CP56.out; have := CN57.out; have := CN58.out; have := CN63.out; have := CN65.out; have := CN70.out; have := CP81.out; have := CP82.out; have := CN83.out; omega)))
  replace top := Nat.le_trans top hz
  clear hb105 hz
  go_wp2_with fail
  refine (toI_x _ X20 _ (g20 _ hwc) HN2.out).mono ?_; rintro e W108 ⟨p109, q110, rfl, hr, hb107⟩
  have RT := Lib.hid hr
  clear hr
  have hz := hb107.size
  replace hwc := hwc.trans (hb107.mono hwc.size)
  replace cP7_0 := (hb107.cell (p := ⟨P7, 0, none⟩) lP7).trans cP7_0
  replace cP7_1 := (hb107.cell (p := ⟨P7, 1, none⟩) lP7).trans cP7_1
  replace cP7_2 := (hb107.cell (p := ⟨P7, 2, none⟩) lP7).trans cP7_2
  replace cP7_3 := (hb107.cell (p := ⟨P7, 3, none⟩) lP7).trans cP7_3
  replace lP7 : P7 < W108.heap.size := Nat.lt_of_lt_of_le lP7 hz
  replace cP39_0 := (hb107.cell (p := ⟨P39, 0, none⟩) lP39).trans cP39_0
  replace cP39_1 := (hb107.cell (p := ⟨P39, 1, none⟩) lP39).trans cP39_1
  replace lP39 : P39 < W108.heap.size := Nat.lt_of_lt_of_le lP39 hz
  replace cP40_0 := (hb107.cell (p := ⟨P40, 0, none⟩) lP40).trans cP40_0
  replace cP40_1 := (hb107.cell (p := ⟨P40, 1, none⟩) lP40).trans cP40_1
  replace lP40 : P40 < W108.heap.size := Nat.lt_of_lt_of_le lP40 hz
  replace cP56_0 := (hb107.cell (p := ⟨P56, 0, none⟩) lP56).trans cP56_0
  replace cP56_1 := (hb107.cell (p := ⟨P56, 1, none⟩) lP56).trans cP56_1
  replace cP56_2 := (hb107.cell (p := ⟨P56, 2, none⟩) lP56).trans cP56_2
  replace cP56_3 := (hb107.cell (p := ⟨P56, 3, none⟩) lP56).trans cP56_3
  replace lP56 : P56 < W108.heap.size := Nat.lt_of_lt_of_le lP56 hz
  replace cP81_0 := (hb107.cell (p := ⟨P81, 0, none⟩) lP81).trans cP81_0
  replace cP81_1 := (hb107.cell (p := ⟨P81, 1, none⟩) lP81).trans cP81_1
  replace lP81 : P81 < W108.heap.size := Nat.lt_of_lt_of_le lP81 hz
  replace cP82_0 := (hb107.cell (p := ⟨P82, 0, none⟩) lP82).trans cP82_0
  replace cP82_1 := (hb107.cell (p := ⟨P82, 1, none⟩) lP82).trans cP82_1
  replace lP82 : P82 < W108.heap.size := Nat.lt_of_lt_of_le lP82 hz
  replace HX54 := Lib.hid (HX54.out.below hb107 (show N53 ≤ W106.heap.size from (by have := CP7.out; have := CN8.out; have := CP39.out; have := CP40.out; have := CN41.out; have := CN42.out; have := CN53.out; have := CP56.out; have := CN57.out; have := CN58.out; have := CN63.out; have := CN65.out; have := CN70.out; have := CP81.out; have := CP82.out; have := CN83.out; omega)))
  replace HX64 := Lib.hid (HX64.out.below hb107 (show N63 ≤ W106.heap.size from (by have := CP7.out; have := CN8.out; have := CP39.out; have := CP40.out; have := CN41.out; have := CN42.out; have := CN53.out; have := CP56.out; have := CN57.out; have := CN58.out; have := CN63.out; have := CN65.out; have := CN70.out; have := CP81.out; have := CP82.out; have := CN83.out; omega)))
  replace HX71 := Lib.hid (HX71.out.below hb107 (show N70 ≤ W106.heap.size from (by have := CP7.out; have := CN8.out; have := CP39.out; have := CP40.out; have := CN41.out; have := CN42.out; have := CN53.out; have := CP56.out; have := CN57.out; have := CN58.out; have := CN63.out; have := CN65.out; have := CN70.out; have := CP81.out; have := CP82.out; have := CN83.out; omega)))
  replace top := Nat.le_trans top hz
  clear hb107 hz
  go_wp2_with fail
  refine (eqI_x _ _ X20 _ HX71.out RT.out I20.out HN2.out).mono ?_; rintro e W112 ⟨rfl, hb111⟩
  clear RT
  have hz := hb111.size
  replace hwc := hwc.trans (hb111.mono hwc.size)
  replace cP7_0 := (hb111.cell (p := ⟨P7, 0, none⟩) lP7).trans cP7_0
  replace cP7_1 := (hb111.cell (p := ⟨P7, 1, none⟩) lP7).trans cP7_1
  replace cP7_2 := (hb111.cell (p := ⟨P7, 2, none⟩) lP7).trans cP7_2
  replace cP7_3 := (hb111.cell (p := ⟨P7, 3, none⟩) lP7).trans cP7_3
  replace lP7 : P7 < W112.heap.size := Nat.lt_of_lt_of_le lP7 hz
  replace cP39_0 := (hb111.cell (p := ⟨P39, 0, none⟩) lP39).trans cP39_0
  replace cP39_1 := (hb111.cell (p := ⟨P39, 1, none⟩) lP39).trans cP39_1
  replace lP39 : P39 < W112.heap.size := Nat.lt_of_lt_of_le lP39 hz
  replace cP40_0 := (hb111.cell (p := ⟨P40, 0, none⟩) lP40).trans cP40_0
  replace cP40_1 := (hb111.cell (p := ⟨P40, 1, none⟩) lP40).trans cP40_1
  replace lP40 : P40 < W112.heap.size := Nat.lt_of_lt_of_le lP40 hz
  replace cP56_0 := (hb111.cell (p := ⟨P56, 0, none⟩) lP56).trans cP56_0
  replace cP56_1 := (hb111.cell (p := ⟨P56, 1, none⟩) lP56).trans cP56_1
  replace cP56_2 := (hb111.cell (p := ⟨P56, 2, none⟩) lP56).trans cP56_2
  replace cP56_3 := (hb111.cell (p := ⟨P56, 3, none⟩) lP56).trans cP56_3
  replace lP56 : P56 < W112.heap.size := Nat.lt_of_lt_of_le lP56 hz
  replace cP81_0 := (hb111.cell (p := ⟨P81, 0, none⟩) lP81).trans cP81_0
  replace cP81_1 := (hb111.cell (p := ⟨P81, 1, none⟩) lP81).trans cP81_1
  replace lP81 : P81 < W112.heap.size := Nat.lt_of_lt_of_le lP81 hz
  replace cP82_0 := (hb111.cell (p := ⟨P82, 0, none⟩) lP82).trans cP82_0
  replace cP82_1 := (hb111.cell (p := ⟨P82, 1, none⟩) lP82).trans cP82_1
  replace lP82 : P82 < W112.heap.size := Nat.lt_of_lt_of_le lP82 hz
  replace HX54 := Lib.hid (HX54.out.below hb111 (show N53 ≤ W108.heap.size from (by have := CP7.out; have := CN8.out; have := CP39.out; have := CP40.out; have := CN41.out; have := CN42.out; have := CN53.out; have := CP56.out; have := CN57.out; have := CN58.out; have := CN63.out; have := CN65.out; have := CN70.out; have := CP81.out; have := CP82.out; have := CN83.out; omega)))
  replace HX64 := Lib.hid (HX64.out.below hb111 (show N63 ≤ W108.heap.size from (by have := CP7.out; have := CN8.out; have := CP39.out; have := CP40.out; have := CN41.out; have := CN42.out; have := CN53.out; have := CP56.out; have := CN57.out; have := CN58.out; have := CN63.out; have := CN65.out; have := CN70.out; have := CP81.out; have := CP82.out; have := CN83.out; omega)))
  replace HX71 := Lib.hid (HX71.out.below hb111 (show N70 ≤ W108.heap.size from (by have := CP7.out; have := CN8.out; have := CP39.out; have := CP40.out; have := CN41.out; have := CN42.out; have := CN53.out; have := CP56.out; have := CN57.out; have := CN58.out; have := CN63.out; have := CN65.out; have := CN70.out; have := CP81.out; have := CP82.out; have := CN83.out; omega)))
  replace top := Nat.le_trans top hz
  clear hb111 hz
  go_wp2_with fail
  go_ret
  exact ⟨rfl, hwc⟩
end Go.Proofs.Ytbfpneonmefndaa.PW
