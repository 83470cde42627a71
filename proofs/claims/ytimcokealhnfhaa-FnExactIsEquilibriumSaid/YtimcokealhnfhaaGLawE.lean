/-
  The exact law of IsEquilibrium: whatever the game and the two mixes, the program answers as the model and leaves all as they were.
-/
import Derived.Test.YtimcokealhnfhaaGIeqI
import Derived.Test.YtimcokealhnfhaaLKG
import Derived.Test.YtimcokealhnfhaaLKF
namespace Go.Proofs.Ytimcokealhnfhaa.PW
open Go.RowKit Go.Proofs.Ytimcokealhnfhaa
open Go.Proofs.Ytimcokealhnfhaa.PM
set_option maxHeartbeats 8000000 in
theorem law_FnExactIsEquilibrium (v00 v01 : Value) (X00 : List (List Int)) (X01 : List (List Int)) (v10 : Value) (X10 : List (Int × Int)) (v20 : Value) (X20 : List (Int × Int)) (w : World) (h00 : PM.Rows w v00 X00) (h01 : PM.Rows w v01 X01) (h10 : Frs w v10 X10) (h20 : Frs w v20 X20) :
    Calls Try.prog 12 #[.agg #[v00, v01], v10, v20] w fun e w' => e = .returned (.bool true) ∧ Below w.heap.size w w' := by
  have g00 := fun (w' : World) (h : Below w.heap.size w w') => h00.below h
  have I00 := Lib.hid (rows_I64 h00)
  obtain ⟨a00, c00, rfl, _⟩ := h00
  have g01 := fun (w' : World) (h : Below w.heap.size w w') => h01.below h
  have I01 := Lib.hid (rows_I64 h01)
  obtain ⟨a01, c01, rfl, _⟩ := h01
  have g10 := fun (w' : World) (h : Below w.heap.size w w') => h10.below h
  have I10 := Lib.hid ((h10).i64)
  obtain ⟨a10, c10, rfl, _⟩ := h10
  have g20 := fun (w' : World) (h : Below w.heap.size w w') => h20.below h
  have I20 := Lib.hid ((h20).i64)
  obtain ⟨a20, c20, rfl, _⟩ := h20
  by_cases hz0 : szI (tot X00 + tot X01) 1048576 < 0
  · have E1 := Lib.hid (szx_neg hz0)
    clear hz0
    go_enter Try.func12, Try.ntmps12
    have hwc : Below w.heap.size w w := Below.refl _ _
    go_wp2_with fail
    obtain ⟨W1, hW1⟩ : ∃ w', w' = (w.alloc (.cells #[.slice a00 (X00).length c00, .slice a01 (X01).length c01] 40)) := ⟨_, rfl⟩
    rw [← hW1]
    have hbx : Below w.heap.size w W1 := by rw [hW1]; exact ((Below.refl _ _).alloc (by simp) _)
    obtain ⟨P2, hP2⟩ : ∃ n, n = w.heap.size := ⟨_, rfl⟩
    have cP2_0 : W1.cell? ⟨P2, 0, none⟩ = some (.slice a00 (X00).length c00) := by rw [hW1, hP2]; simp [go_sem]
    have cP2_1 : W1.cell? ⟨P2, 1, none⟩ = some (.slice a01 (X01).length c01) := by rw [hW1, hP2]; simp [go_sem]
    have lP2 : P2 < W1.heap.size := by rw [hW1, hP2]; simp
    have CP2 := Lib.hid (show w.heap.size ≤ P2 from by rw [hP2]; exact hwc.size)
    rw [← hP2]
    clear hP2 hW1
    have hz := hbx.size
    replace hwc := hwc.trans (hbx.mono hwc.size)
    clear hbx hz
    obtain ⟨N3, hN3⟩ : ∃ n, n = W1.heap.size := ⟨_, rfl⟩
    have CN3 := Lib.hid (show P2 < N3 from by rw [hN3]; exact lP2)
    have top : N3 ≤ W1.heap.size := Nat.le_of_eq hN3
    clear hN3
    refine (szG_x _ _ X00 X01 _ (g00 _ hwc) (g01 _ hwc)).mono ?_; rw [E1.out]; rintro e W5 ⟨rfl, hb4⟩
    have hz := hb4.size
    replace hwc := hwc.trans (hb4.mono hwc.size)
    replace cP2_0 := (hb4.cell (p := ⟨P2, 0, none⟩) lP2).trans cP2_0
    replace cP2_1 := (hb4.cell (p := ⟨P2, 1, none⟩) lP2).trans cP2_1
    replace lP2 : P2 < W5.heap.size := Nat.lt_of_lt_of_le lP2 hz
    replace top := Nat.le_trans top hz
    clear hb4 hz
    go_wp2_with fail
    go_ret
    exact ⟨rfl, hwc⟩
  obtain ⟨hf0, hle0⟩ := szx_fits hz0
  have hn0 : (tot X00 + tot X01) ≤ 1048576 := by omega
  have HN0 := Lib.hid hn0
  clear hn0 hf0
  by_cases hz1 : szI (X10).length (szI (tot X00 + tot X01) 1048576) < 0
  · have E1 := Lib.hid (szx_neg hz1)
    clear hz1
    go_enter Try.func12, Try.ntmps12
    have hwc : Below w.heap.size w w := Below.refl _ _
    go_wp2_with fail
    obtain ⟨W6, hW6⟩ : ∃ w', w' = (w.alloc (.cells #[.slice a00 (X00).length c00, .slice a01 (X01).length c01] 40)) := ⟨_, rfl⟩
    rw [← hW6]
    have hbx : Below w.heap.size w W6 := by rw [hW6]; exact ((Below.refl _ _).alloc (by simp) _)
    obtain ⟨P7, hP7⟩ : ∃ n, n = w.heap.size := ⟨_, rfl⟩
    have cP7_0 : W6.cell? ⟨P7, 0, none⟩ = some (.slice a00 (X00).length c00) := by rw [hW6, hP7]; simp [go_sem]
    have cP7_1 : W6.cell? ⟨P7, 1, none⟩ = some (.slice a01 (X01).length c01) := by rw [hW6, hP7]; simp [go_sem]
    have lP7 : P7 < W6.heap.size := by rw [hW6, hP7]; simp
    have CP7 := Lib.hid (show w.heap.size ≤ P7 from by rw [hP7]; exact hwc.size)
    rw [← hP7]
    clear hP7 hW6
    have hz := hbx.size
    replace hwc := hwc.trans (hbx.mono hwc.size)
    clear hbx hz
    obtain ⟨N8, hN8⟩ : ∃ n, n = W6.heap.size := ⟨_, rfl⟩
    have CN8 := Lib.hid (show P7 < N8 from by rw [hN8]; exact lP7)
    have top : N8 ≤ W6.heap.size := Nat.le_of_eq hN8
    clear hN8
    refine (szG_x _ _ X00 X01 _ (g00 _ hwc) (g01 _ hwc)).mono ?_; rintro e W10 ⟨rfl, hb9⟩
    have hz := hb9.size
    replace hwc := hwc.trans (hb9.mono hwc.size)
    replace cP7_0 := (hb9.cell (p := ⟨P7, 0, none⟩) lP7).trans cP7_0
    replace cP7_1 := (hb9.cell (p := ⟨P7, 1, none⟩) lP7).trans cP7_1
    replace lP7 : P7 < W10.heap.size := Nat.lt_of_lt_of_le lP7 hz
    replace top := Nat.le_trans top hz
    clear hb9 hz
    generalize szI (tot X00 + tot X01) 1048576 = lf11 at *
    go_wp2_with fail
    refine (szF_x _ X10 _ _ (g10 _ hwc) (by omega) (by omega)).mono ?_; rw [E1.out]; rintro e W13 ⟨rfl, hb12⟩
    have hz := hb12.size
    replace hwc := hwc.trans (hb12.mono hwc.size)
    replace cP7_0 := (hb12.cell (p := ⟨P7, 0, none⟩) lP7).trans cP7_0
    replace cP7_1 := (hb12.cell (p := ⟨P7, 1, none⟩) lP7).trans cP7_1
    replace lP7 : P7 < W13.heap.size := Nat.lt_of_lt_of_le lP7 hz
    replace top := Nat.le_trans top hz
    clear hb12 hz
    go_wp2_with fail
    go_ret
    exact ⟨rfl, hwc⟩
  obtain ⟨hf1, hle1⟩ := szx_fits hz1
  have hn1 : (X10).length ≤ 1048576 := by omega
  have HN1 := Lib.hid hn1
  clear hn1 hf1
  by_cases hz2 : szI (X20).length (szI (X10).length (szI (tot X00 + tot X01) 1048576)) < 0
  · have E1 := Lib.hid (szx_neg hz2)
    clear hz2
    go_enter Try.func12, Try.ntmps12
    have hwc : Below w.heap.size w w := Below.refl _ _
    go_wp2_with fail
    obtain ⟨W14, hW14⟩ : ∃ w', w' = (w.alloc (.cells #[.slice a00 (X00).length c00, .slice a01 (X01).length c01] 40)) := ⟨_, rfl⟩
    rw [← hW14]
    have hbx : Below w.heap.size w W14 := by rw [hW14]; exact ((Below.refl _ _).alloc (by simp) _)
    obtain ⟨P15, hP15⟩ : ∃ n, n = w.heap.size := ⟨_, rfl⟩
    have cP15_0 : W14.cell? ⟨P15, 0, none⟩ = some (.slice a00 (X00).length c00) := by rw [hW14, hP15]; simp [go_sem]
    have cP15_1 : W14.cell? ⟨P15, 1, none⟩ = some (.slice a01 (X01).length c01) := by rw [hW14, hP15]; simp [go_sem]
    have lP15 : P15 < W14.heap.size := by rw [hW14, hP15]; simp
    have CP15 := Lib.hid (show w.heap.size ≤ P15 from by rw [hP15]; exact hwc.size)
    rw [← hP15]
    clear hP15 hW14
    have hz := hbx.size
    replace hwc := hwc.trans (hbx.mono hwc.size)
    clear hbx hz
    obtain ⟨N16, hN16⟩ : ∃ n, n = W14.heap.size := ⟨_, rfl⟩
    have CN16 := Lib.hid (show P15 < N16 from by rw [hN16]; exact lP15)
    have top : N16 ≤ W14.heap.size := Nat.le_of_eq hN16
    clear hN16
    refine (szG_x _ _ X00 X01 _ (g00 _ hwc) (g01 _ hwc)).mono ?_; rintro e W18 ⟨rfl, hb17⟩
    have hz := hb17.size
    replace hwc := hwc.trans (hb17.mono hwc.size)
    replace cP15_0 := (hb17.cell (p := ⟨P15, 0, none⟩) lP15).trans cP15_0
    replace cP15_1 := (hb17.cell (p := ⟨P15, 1, none⟩) lP15).trans cP15_1
    replace lP15 : P15 < W18.heap.size := Nat.lt_of_lt_of_le lP15 hz
    replace top := Nat.le_trans top hz
    clear hb17 hz
    generalize szI (tot X00 + tot X01) 1048576 = lf19 at *
    go_wp2_with fail
    refine (szF_x _ X10 _ _ (g10 _ hwc) (by omega) (by omega)).mono ?_; rintro e W21 ⟨rfl, hb20⟩
    have hz := hb20.size
    replace hwc := hwc.trans (hb20.mono hwc.size)
    replace cP15_0 := (hb20.cell (p := ⟨P15, 0, none⟩) lP15).trans cP15_0
    replace cP15_1 := (hb20.cell (p := ⟨P15, 1, none⟩) lP15).trans cP15_1
    replace lP15 : P15 < W21.heap.size := Nat.lt_of_lt_of_le lP15 hz
    replace top := Nat.le_trans top hz
    clear hb20 hz
    generalize szI (X10).length lf19 = lf22 at *
    go_wp2_with fail
    refine (szF_x _ X20 _ _ (g20 _ hwc) (by omega) (by omega)).mono ?_; rw [E1.out]; rintro e W24 ⟨rfl, hb23⟩
    have hz := hb23.size
    replace hwc := hwc.trans (hb23.mono hwc.size)
    replace cP15_0 := (hb23.cell (p := ⟨P15, 0, none⟩) lP15).trans cP15_0
    replace cP15_1 := (hb23.cell (p := ⟨P15, 1, none⟩) lP15).trans cP15_1
    replace lP15 : P15 < W24.heap.size := Nat.lt_of_lt_of_le lP15 hz
    replace top := Nat.le_trans top hz
    clear hb23 hz
    go_wp2_with fail
    go_ret
    exact ⟨rfl, hwc⟩
  obtain ⟨hf2, hle2⟩ := szx_fits hz2
  have hn2 : (X20).length ≤ 1048576 := by omega
  have HN2 := Lib.hid hn2
  clear hn2 hf2
  have hspec := fun (v00 v01 v10 v20 : Value) (w : World) (h0 : PM.Rows w v00 X00) (h1 : PM.Rows w v01 X01) (h2 : Frs w v10 X10) (h3 : Frs w v20 X20) => specIsEquilibrium_any v00 v01 v10 v20 X00 X01 X10 X20  w h0 h1 h2 h3 
  have himpl := fun (v00 v01 v10 v20 : Value) (w : World) (h0 : PM.Rows w v00 X00) (h1 : PM.Rows w v01 X01) (h2 : Frs w v10 X10) (h3 : Frs w v20 X20) => implIsEquilibrium_any v00 v01 v10 v20 X00 X01 X10 X20  w h0 h1 h2 h3 (by have := HN0.out; omega)
  generalize ieOut X00 X01 X10 X20  = o at *
  obtain ⟨o0, o1⟩ := o
  have HS := Lib.hid hspec
  have HI := Lib.hid himpl
  clear hspec himpl
  go_enter Try.func12, Try.ntmps12
  have hwc : Below w.heap.size w w := Below.refl _ _
  go_wp2_with fail
  obtain ⟨W25, hW25⟩ : ∃ w', w' = (w.alloc (.cells #[.slice a00 (X00).length c00, .slice a01 (X01).length c01] 40)) := ⟨_, rfl⟩
  rw [← hW25]
  have hbx : Below w.heap.size w W25 := by rw [hW25]; exact ((Below.refl _ _).alloc (by simp) _)
  obtain ⟨P26, hP26⟩ : ∃ n, n = w.heap.size := ⟨_, rfl⟩
  have cP26_0 : W25.cell? ⟨P26, 0, none⟩ = some (.slice a00 (X00).length c00) := by rw [hW25, hP26]; simp [go_sem]
  have cP26_1 : W25.cell? ⟨P26, 1, none⟩ = some (.slice a01 (X01).length c01) := by rw [hW25, hP26]; simp [go_sem]
  have lP26 : P26 < W25.heap.size := by rw [hW25, hP26]; simp
  have CP26 := Lib.hid (show w.heap.size ≤ P26 from by rw [hP26]; exact hwc.size)
  rw [← hP26]
  clear hP26 hW25
  have hz := hbx.size
  replace hwc := hwc.trans (hbx.mono hwc.size)
  clear hbx hz
  obtain ⟨N27, hN27⟩ : ∃ n, n = W25.heap.size := ⟨_, rfl⟩
  have CN27 := Lib.hid (show P26 < N27 from by rw [hN27]; exact lP26)
  have top : N27 ≤ W25.heap.size := Nat.le_of_eq hN27
  clear hN27
  refine (szG_x _ _ X00 X01 _ (g00 _ hwc) (g01 _ hwc)).mono ?_; rintro e W29 ⟨rfl, hb28⟩
  have hz := hb28.size
  replace hwc := hwc.trans (hb28.mono hwc.size)
  replace cP26_0 := (hb28.cell (p := ⟨P26, 0, none⟩) lP26).trans cP26_0
  replace cP26_1 := (hb28.cell (p := ⟨P26, 1, none⟩) lP26).trans cP26_1
  replace lP26 : P26 < W29.heap.size := Nat.lt_of_lt_of_le lP26 hz
  replace top := Nat.le_trans top hz
  clear hb28 hz
  generalize szI (tot X00 + tot X01) 1048576 = lf30 at *
  go_wp2_with fail
  refine (szF_x _ X10 _ _ (g10 _ hwc) (by omega) (by omega)).mono ?_; rintro e W32 ⟨rfl, hb31⟩
  have hz := hb31.size
  replace hwc := hwc.trans (hb31.mono hwc.size)
  replace cP26_0 := (hb31.cell (p := ⟨P26, 0, none⟩) lP26).trans cP26_0
  replace cP26_1 := (hb31.cell (p := ⟨P26, 1, none⟩) lP26).trans cP26_1
  replace lP26 : P26 < W32.heap.size := Nat.lt_of_lt_of_le lP26 hz
  replace top := Nat.le_trans top hz
  clear hb31 hz
  generalize szI (X10).length lf30 = lf33 at *
  go_wp2_with fail
  refine (szF_x _ X20 _ _ (g20 _ hwc) (by omega) (by omega)).mono ?_; rintro e W35 ⟨rfl, hb34⟩
  have hz := hb34.size
  replace hwc := hwc.trans (hb34.mono hwc.size)
  replace cP26_0 := (hb34.cell (p := ⟨P26, 0, none⟩) lP26).trans cP26_0
  replace cP26_1 := (hb34.cell (p := ⟨P26, 1, none⟩) lP26).trans cP26_1
  replace lP26 : P26 < W35.heap.size := Nat.lt_of_lt_of_le lP26 hz
  replace top := Nat.le_trans top hz
  clear hb34 hz
  generalize szI (X20).length lf33 = lf36 at *
  go_wp2_with fail
  clear hz0 hle0 hz1 hle1 hz2 hle2
  refine (toG_x _ _ X00 X01 _ (g00 _ hwc) (g01 _ hwc) HN0.out).mono ?_; rintro e W38 ⟨p39, q40, p41, q42, rfl, hr, hb37⟩
  have hrr := RngGx.reads hr I00.out I01.out
  have RD43 := Lib.hid (hrr.1)
  have RD44 := Lib.hid (hrr.2)
  clear hrr
  clear hr
  have hz := hb37.size
  replace hwc := hwc.trans (hb37.mono hwc.size)
  replace cP26_0 := (hb37.cell (p := ⟨P26, 0, none⟩) lP26).trans cP26_0
  replace cP26_1 := (hb37.cell (p := ⟨P26, 1, none⟩) lP26).trans cP26_1
  replace lP26 : P26 < W38.heap.size := Nat.lt_of_lt_of_le lP26 hz
  replace top := Nat.le_trans top hz
  clear hb37 hz
  go_wp2_with fail
  refine (toF_x _ X10 _ (g10 _ hwc) HN1.out).mono ?_; rintro e W46 ⟨p47, q48, rfl, hr, hb45⟩
  have RD49 := Lib.hid (RngFx.reads hr I10.out)
  clear hr
  have hz := hb45.size
  replace hwc := hwc.trans (hb45.mono hwc.size)
  replace cP26_0 := (hb45.cell (p := ⟨P26, 0, none⟩) lP26).trans cP26_0
  replace cP26_1 := (hb45.cell (p := ⟨P26, 1, none⟩) lP26).trans cP26_1
  replace lP26 : P26 < W46.heap.size := Nat.lt_of_lt_of_le lP26 hz
  replace RD43 := Lib.hid (RD43.out.below hb45)
  replace RD44 := Lib.hid (RD44.out.below hb45)
  replace top := Nat.le_trans top hz
  clear hb45 hz
  go_wp2_with fail
  refine (toF_x _ X20 _ (g20 _ hwc) HN2.out).mono ?_; rintro e W51 ⟨p52, q53, rfl, hr, hb50⟩
  have RD54 := Lib.hid (RngFx.reads hr I20.out)
  clear hr
  have hz := hb50.size
  replace hwc := hwc.trans (hb50.mono hwc.size)
  replace cP26_0 := (hb50.cell (p := ⟨P26, 0, none⟩) lP26).trans cP26_0
  replace cP26_1 := (hb50.cell (p := ⟨P26, 1, none⟩) lP26).trans cP26_1
  replace lP26 : P26 < W51.heap.size := Nat.lt_of_lt_of_le lP26 hz
  replace RD43 := Lib.hid (RD43.out.below hb50)
  replace RD44 := Lib.hid (RD44.out.below hb50)
  replace RD49 := Lib.hid (RD49.out.below hb50)
  replace top := Nat.le_trans top hz
  clear hb50 hz
  go_wp2_with fail
  refine (HS.out _ _ _ _ _ RD43.out RD44.out RD49.out RD54.out).mono ?_; rintro e W55 ⟨rfl, hb56⟩; dsimp only
  have hz := hb56.size
  replace hwc := hwc.trans (hb56.mono hwc.size)
  replace cP26_0 := (hb56.cell (p := ⟨P26, 0, none⟩) lP26).trans cP26_0
  replace cP26_1 := (hb56.cell (p := ⟨P26, 1, none⟩) lP26).trans cP26_1
  replace lP26 : P26 < W55.heap.size := Nat.lt_of_lt_of_le lP26 hz
  replace RD43 := Lib.hid (RD43.out.below hb56)
  replace RD44 := Lib.hid (RD44.out.below hb56)
  replace RD49 := Lib.hid (RD49.out.below hb56)
  replace RD54 := Lib.hid (RD54.out.below hb56)
  replace top := Nat.le_trans top hz
  clear hb56 hz
  clear RD43 RD44 RD49 RD54
  go_wp2_with fail
  obtain ⟨N57, hN57⟩ : ∃ N57, N57 = W55.heap.size := ⟨_, rfl⟩
  have CN57 := Lib.hid (show N27 ≤ N57 from by rw [hN57]; exact top)
  have top' : N57 ≤ W55.heap.size := Nat.le_of_eq hN57
  clear top
  have top := top'
  clear top'
  refine (toG_x _ _ X00 X01 _ (g00 _ hwc) (g01 _ hwc) HN0.out).mono ?_; rintro e W59 ⟨p60, q61, p62, q63, rfl, hr, hb58⟩
  rw [← hN57] at hr
  clear hN57
  have hz := hb58.size
  replace hwc := hwc.trans (hb58.mono hwc.size)
  replace cP26_0 := (hb58.cell (p := ⟨P26, 0, none⟩) lP26).trans cP26_0
  replace cP26_1 := (hb58.cell (p := ⟨P26, 1, none⟩) lP26).trans cP26_1
  replace lP26 : P26 < W59.heap.size := Nat.lt_of_lt_of_le lP26 hz
  replace top := Nat.le_trans top hz
  clear hb58 hz
  obtain ⟨N64, hN64⟩ : ∃ N64, N64 = W59.heap.size := ⟨_, rfl⟩
  have CN64 := Lib.hid (show N57 ≤ N64 from by rw [hN64]; exact top)
  have top' : N64 ≤ W59.heap.size := Nat.le_of_eq hN64
  clear top
  have top := top'
  clear top'
  rw [← hN64] at hr
  clear hN64
  have HX65 := Lib.hid hr
  clear hr
  go_wp2_with fail
  obtain ⟨W66, hW66⟩ : ∃ w', w' = (W59.alloc (.cells #[.slice p60 (X00).length q61, .slice p62 (X01).length q63] 43)) := ⟨_, rfl⟩
  rw [← hW66]
  have hbx : Below W59.heap.size W59 W66 := by rw [hW66]; exact ((Below.refl _ _).alloc (by simp) _)
  obtain ⟨P67, hP67⟩ : ∃ n, n = W59.heap.size := ⟨_, rfl⟩
  have cP67_0 : W66.cell? ⟨P67, 0, none⟩ = some (.slice p60 (X00).length q61) := by rw [hW66, hP67]; simp [go_sem]
  have cP67_1 : W66.cell? ⟨P67, 1, none⟩ = some (.slice p62 (X01).length q63) := by rw [hW66, hP67]; simp [go_sem]
  have lP67 : P67 < W66.heap.size := by rw [hW66, hP67]; simp
  have CP67 := Lib.hid (show N64 ≤ P67 from by rw [hP67]; exact top)
  rw [← hP67]
  clear hP67 hW66
  have hz := hbx.size
  replace hwc := hwc.trans (hbx.mono hwc.size)
  replace cP26_0 := (hbx.cell (p := ⟨P26, 0, none⟩) lP26).trans cP26_0
  replace cP26_1 := (hbx.cell (p := ⟨P26, 1, none⟩) lP26).trans cP26_1
  replace lP26 : P26 < W66.heap.size := Nat.lt_of_lt_of_le lP26 hz
  replace HX65 := Lib.hid (HX65.out.below hbx (show N64 ≤ W59.heap.size from (by have := CP26.out; have := CN27.out; have := CN57.out; have := CN64.out; have := CP67.out; omega)))
  replace top := Nat.le_trans top hz
  clear hbx hz
  clear top
  obtain ⟨N68, hN68⟩ : ∃ n, n = W66.heap.size := ⟨_, rfl⟩
  have CN68 := Lib.hid (show P67 < N68 from by rw [hN68]; exact lP67)
  have top : N68 ≤ W66.heap.size := Nat.le_of_eq hN68
  clear hN68
  obtain ⟨N69, hN69⟩ : ∃ N69, N69 = W66.heap.size := ⟨_, rfl⟩
  have CN69 := Lib.hid (show N68 ≤ N69 from by rw [hN69]; exact top)
  have top' : N69 ≤ W66.heap.size := Nat.le_of_eq hN69
  clear top
  have top := top'
  clear top'
  refine (toF_x _ X10 _ (g10 _ hwc) HN1.out).mono ?_; rintro e W71 ⟨p72, q73, rfl, hr, hb70⟩
  rw [← hN69] at hr
  clear hN69
  have hz := hb70.size
  replace hwc := hwc.trans (hb70.mono hwc.size)
  replace cP26_0 := (hb70.cell (p := ⟨P26, 0, none⟩) lP26).trans cP26_0
  replace cP26_1 := (hb70.cell (p := ⟨P26, 1, none⟩) lP26).trans cP26_1
  replace lP26 : P26 < W71.heap.size := Nat.lt_of_lt_of_le lP26 hz
  replace cP67_0 := (hb70.cell (p := ⟨P67, 0, none⟩) lP67).trans cP67_0
  replace cP67_1 := (hb70.cell (p := ⟨P67, 1, none⟩) lP67).trans cP67_1
  replace lP67 : P67 < W71.heap.size := Nat.lt_of_lt_of_le lP67 hz
  replace HX65 := Lib.hid (HX65.out.below hb70 (show N64 ≤ W66.heap.size from (by have := CP26.out; have := CN27.out; have := CN57.out; have := CN64.out; have := CP67.out; have := CN68.out; have := CN69.out; omega)))
  replace top := Nat.le_trans top hz
  clear hb70 hz
  obtain ⟨N74, hN74⟩ : ∃ N74, N74 = W71.heap.size := ⟨_, rfl⟩
  have CN74 := Lib.hid (show N69 ≤ N74 from by rw [hN74]; exact top)
  have top' : N74 ≤ W71.heap.size := Nat.le_of_eq hN74
  clear top
  have top := top'
  clear top'
  rw [← hN74] at hr
  clear hN74
  have HX75 := Lib.hid hr
  clear hr
  go_wp2_with fail
  obtain ⟨N76, hN76⟩ : ∃ N76, N76 = W71.heap.size := ⟨_, rfl⟩
  have CN76 := Lib.hid (show N74 ≤ N76 from by rw [hN76]; exact top)
  have top' : N76 ≤ W71.heap.size := Nat.le_of_eq hN76
  clear top
  have top := top'
  clear top'
  refine (toF_x _ X20 _ (g20 _ hwc) HN2.out).mono ?_; rintro e W78 ⟨p79, q80, rfl, hr, hb77⟩
  rw [← hN76] at hr
  clear hN76
  have hz := hb77.size
  replace hwc := hwc.trans (hb77.mono hwc.size)
  replace cP26_0 := (hb77.cell (p := ⟨P26, 0, none⟩) lP26).trans cP26_0
  replace cP26_1 := (hb77.cell (p := ⟨P26, 1, none⟩) lP26).trans cP26_1
  replace lP26 : P26 < W78.heap.size := Nat.lt_of_lt_of_le lP26 hz
  replace cP67_0 := (hb77.cell (p := ⟨P67, 0, none⟩) lP67).trans cP67_0
  replace cP67_1 := (hb77.cell (p := ⟨P67, 1, none⟩) lP67).trans cP67_1
  replace lP67 : P67 < W78.heap.size := Nat.lt_of_lt_of_le lP67 hz
  replace HX65 := Lib.hid (HX65.out.below hb77 (show N64 ≤ W71.heap.size from (by have := CP26.out; have := CN27.out; have := CN57.out; have := CN64.out; have := CP67.out; have := CN68.out; have := CN69.out; have := CN74.out; have := CN76.out; omega)))
  replace HX75 := Lib.hid (HX75.out.below hb77 (show N74 ≤ W71.heap.size from (by have := CP26.out; have := CN27.out; have := CN57.out; have := CN64.out; have := CP67.out; have := CN68.out; have := CN69.out; have := CN74.out; have := CN76.out; omega)))
  replace top := Nat.le_trans top hz
  clear hb77 hz
  obtain ⟨N81, hN81⟩ : ∃ N81, N81 = W78.heap.size := ⟨_, rfl⟩
  have CN81 := Lib.hid (show N76 ≤ N81 from by rw [hN81]; exact top)
  have top' : N81 ≤ W78.heap.size := Nat.le_of_eq hN81
  clear top
  have top := top'
  clear top'
  rw [← hN81] at hr
  clear hN81
  have HX82 := Lib.hid hr
  clear hr
  have hrr := RngGx.reads HX65.out I00.out I01.out
  have RD83 := Lib.hid (hrr.1)
  have RD84 := Lib.hid (hrr.2)
  clear hrr
  have RD85 := Lib.hid (RngFx.reads HX75.out I10.out)
  have RD86 := Lib.hid (RngFx.reads HX82.out I20.out)
  go_wp2_with fail
  refine (HI.out _ _ _ _ _ RD83.out RD84.out RD85.out RD86.out).mono ?_; rintro e W87 ⟨rfl, hb88⟩; dsimp only
  have hz := hb88.size
  replace hwc := hwc.trans (hb88.mono hwc.size)
  replace cP26_0 := (hb88.cell (p := ⟨P26, 0, none⟩) lP26).trans cP26_0
  replace cP26_1 := (hb88.cell (p := ⟨P26, 1, none⟩) lP26).trans cP26_1
  replace lP26 : P26 < W87.heap.size := Nat.lt_of_lt_of_le lP26 hz
  replace cP67_0 := (hb88.cell (p := ⟨P67, 0, none⟩) lP67).trans cP67_0
  replace cP67_1 := (hb88.cell (p := ⟨P67, 1, none⟩) lP67).trans cP67_1
  replace lP67 : P67 < W87.heap.size := Nat.lt_of_lt_of_le lP67 hz
  replace RD83 := Lib.hid (RD83.out.below hb88)
  replace RD84 := Lib.hid (RD84.out.below hb88)
  replace RD85 := Lib.hid (RD85.out.below hb88)
  replace RD86 := Lib.hid (RD86.out.below hb88)
  replace HX65 := Lib.hid (HX65.out.below hb88 (show N64 ≤ W78.heap.size from (by have := CP26.out; have := CN27.out; have := CN57.out; have := CN64.out; have := CP67.out; have := CN68.out; have := CN69.out; have := CN74.out; have := CN76.out; have := CN81.out; omega)))
  replace HX75 := Lib.hid (HX75.out.below hb88 (show N74 ≤ W78.heap.size from (by have := CP26.out; have := CN27.out; have := CN57.out; have := CN64.out; have := CP67.out; have := CN68.out; have := CN69.out; have := CN74.out; have := CN76.out; have := CN81.out; omega)))
  replace HX82 := Lib.hid (HX82.out.below hb88 (show N81 ≤ W78.heap.size from (by have := CP26.out; have := CN27.out; have := CN57.out; have := CN64.out; have := CP67.out; have := CN68.out; have := CN69.out; have := CN74.out; have := CN76.out; have := CN81.out; omega)))
  replace top := Nat.le_trans top hz
  clear hb88 hz
  clear RD83 RD84 RD85 RD86
  have hrr := RngGx.reads HX65.out I00.out I01.out
  have RX89 := Lib.hid (hrr.1)
  have RX90 := Lib.hid (hrr.2)
  clear hrr
  have rp0 := fun (w' : World) (h : Below W87.heap.size W87 w') => (h.cell (p := ⟨P26, 0, none⟩) lP26).trans cP26_0
  have rp1 := fun (w' : World) (h : Below W87.heap.size W87 w') => (h.cell (p := ⟨P26, 1, none⟩) lP26).trans cP26_1
  have rv0 := fun (w' : World) (h : Below W87.heap.size W87 w') => (h.cell (p := ⟨P67, 0, none⟩) lP67).trans cP67_0
  have rv1 := fun (w' : World) (h : Below W87.heap.size W87 w') => (h.cell (p := ⟨P67, 1, none⟩) lP67).trans cP67_1
  clear cP26_0 cP26_1
  clear cP67_0 cP67_1
  go_wp2_with fail
  have hz9 := hwc.size
  go_region_held3 (fun w' => Below W87.heap.size W87 w') ((repeat' (first | (with_reducible exact Below.refl _ _) | (with_reducible assumption) | (with_reducible refine Below.alloc ?_ ?_ _) | (with_reducible refine Below.drew ?_) | (with_reducible refine below_drewN ?_ _) | (with_reducible refine Below.setCell ?_ ?_ _) | (with_reducible refine Below.trans ?_ (Below.mono (by with_reducible assumption) ?_)) | (with_reducible exact Below.size (by with_reducible assumption)) | go_size)))
    (first | (go_at_call 29; refine (toG_x _ _ X00 X01 _ (g00 _ (hwc.trans (Below.mono (by assumption) hz9))) (g01 _ (hwc.trans (Below.mono (by assumption) hz9))) HN0.out).mono ?_; rintro e w8 ⟨p91, q92, p93, q94, rfl, hr8, hb8⟩; have hS8 : Below W87.heap.size W87 w8 := (by (repeat' (first | (with_reducible exact Below.refl _ _) | (with_reducible assumption) | (with_reducible refine Below.alloc ?_ ?_ _) | (with_reducible refine Below.drew ?_) | (with_reducible refine below_drewN ?_ _) | (with_reducible refine Below.setCell ?_ ?_ _) | (with_reducible refine Below.trans ?_ (Below.mono (by with_reducible assumption) ?_)) | (with_reducible exact Below.size (by with_reducible assumption)) | go_size))); have R8 := Lib.hid (RngGx.reads hr8 I00.out I01.out); clear hr8) | (go_at_call 31; refine (eqG_x _ _ _ _ X00 X01 _ (RX89.out.below hS8) (RX90.out.below hS8) (R8.out.1) (R8.out.2)).mono ?_; rintro e w9 ⟨rfl, hb9⟩; have hS9 : Below W87.heap.size W87 w9 := (by (repeat' (first | (with_reducible exact Below.refl _ _) | (with_reducible assumption) | (with_reducible refine Below.alloc ?_ ?_ _) | (with_reducible refine Below.drew ?_) | (with_reducible refine below_drewN ?_ _) | (with_reducible refine Below.setCell ?_ ?_ _) | (with_reducible refine Below.trans ?_ (Below.mono (by with_reducible assumption) ?_)) | (with_reducible exact Below.size (by with_reducible assumption)) | go_size)))))
  clear R8 hS8 hb8 hb9 hz9 RX89 RX90
  have cP26_0 := rp0 _ hS9
  have cP26_1 := rp1 _ hS9
  have cP67_0 := rv0 _ hS9
  have cP67_1 := rv1 _ hS9
  clear rp0 rp1 rv0 rv1
  have hS9' := hS9
  have lP9 := Nat.lt_of_lt_of_le lP26 hS9.size
  have lV9 := Nat.lt_of_lt_of_le lP67 hS9.size
  clear hS9 lP26 lP67
  have lP26 := lP9
  have lP67 := lV9
  clear lP9 lV9
  have hz := hS9'.size
  replace hwc := hwc.trans (hS9'.mono hwc.size)
  replace HX65 := Lib.hid (HX65.out.below hS9' (show N64 ≤ W87.heap.size from (by have := CP26.out; have := CN27.out; have := CN57.out; have := CN64.out; have := CP67.out; have := CN68.out; have := CN69.out; have := CN74.out; have := CN76.out; have := CN81.out; omega)))
  replace HX75 := Lib.hid (HX75.out.below hS9' (show N74 ≤ W87.heap.size from (by have := CP26.out; have := CN27.out; have := CN57.out; have := CN64.out; have := CP67.out; have := CN68.out; have := CN69.out; have := CN74.out; have := CN76.out; have := CN81.out; omega)))
  replace HX82 := Lib.hid (HX82.out.below hS9' (show N81 ≤ W87.heap.size from (by have := CP26.out; have := CN27.out; have := CN57.out; have := CN64.out; have := CP67.out; have := CN68.out; have := CN69.out; have := CN74.out; have := CN76.out; have := CN81.out; omega)))
  replace top := Nat.le_trans top hz
  clear hS9' hz
  obtain ⟨W95, rfl⟩ : ∃ w', w' = w9 := ⟨_, rfl⟩
  go_wp2_with fail
  refine (toF_x _ X10 _ (g10 _ hwc) HN1.out).mono ?_; rintro e W97 ⟨p98, q99, rfl, hr, hb96⟩
  have RT := Lib.hid hr
  clear hr
  have hz := hb96.size
  replace hwc := hwc.trans (hb96.mono hwc.size)
  replace cP26_0 := (hb96.cell (p := ⟨P26, 0, none⟩) lP26).trans cP26_0
  replace cP26_1 := (hb96.cell (p := ⟨P26, 1, none⟩) lP26).trans cP26_1
  replace lP26 : P26 < W97.heap.size := Nat.lt_of_lt_of_le lP26 hz
  replace cP67_0 := (hb96.cell (p := ⟨P67, 0, none⟩) lP67).trans cP67_0
  replace cP67_1 := (hb96.cell (p := ⟨P67, 1, none⟩) lP67).trans cP67_1
  replace lP67 : P67 < W97.heap.size := Nat.lt_of_lt_of_le lP67 hz
  replace HX65 := Lib.hid (HX65.out.below hb96 (show N64 ≤ W95.heap.size from (by have := CP26.out; have := CN27.out; have := CN57.out; have := CN64.out; have := CP67.out; have := CN68.out; have := CN69.out; have := CN74.out; have := CN76.out; have := CN81.out; omega)))
  replace HX75 := Lib.hid (HX75.out.below hb96 (show N74 ≤ W95.heap.size from (by have := CP26.out; have := CN27.out; have := CN57.out; have := CN64.out; have := CP67.out; have := CN68.out; have := CN69.out; have := CN74.out; have := CN76.out; have := CN81.out; omega)))
  replace HX82 := Lib.hid (HX82.out.below hb96 (show N81 ≤ W95.heap.size from (by have := CP26.out; have := CN27.out; have := CN57.out; have := CN64.out; have := CP67.out; have := CN68.out; have := CN69.out; have := CN74.out; have := CN76.out; have := CN81.out; omega)))
  replace top := Nat.le_trans top hz
  clear hb96 hz
  go_wp2_with fail
  refine (eqF_x _ _ X10 _ HX75.out RT.out I10.out HN1.out).mono ?_; rintro e W101 ⟨rfl, hb100⟩
  clear RT
  have hz := hb100.size
  replace hwc := hwc.trans (hb100.mono hwc.size)
  replace cP26_0 := (hb100.cell (p := ⟨P26, 0, none⟩) lP26).trans cP26_0
  replace cP26_1 := (hb100.cell (p := ⟨P26, 1, none⟩) lP26).trans cP26_1
  replace lP26 : P26 < W101.heap.size := Nat.lt_of_lt_of_le lP26 hz
  replace cP67_0 := (hb100.cell (p := ⟨P67, 0, none⟩) lP67).trans cP67_0
  replace cP67_1 := (hb100.cell (p := ⟨P67, 1, none⟩) lP67).trans cP67_1
  replace lP67 : P67 < W101.heap.size := Nat.lt_of_lt_of_le lP67 hz
  replace HX65 := Lib.hid (HX65.out.below hb100 (show N64 ≤ W97.heap.size from (by have := CP26.out; have := CN27.out; have := CN57.out; have := CN64.out; have := CP67.out; have := CN68.out; have := CN69.out; have := CN74.out; have := CN76.out; have := CN81.out; omega)))
  replace HX75 := Lib.hid (HX75.out.below hb100 (show N74 ≤ W97.heap.size from (by have := CP26.out; have := CN27.out; have := CN57.out; have := CN64.out; have := CP67.out; have := CN68.out; have := CN69.out; have := CN74.out; have := CN76.out; have := CN81.out; omega)))
  replace HX82 := Lib.hid (HX82.out.below hb100 (show N81 ≤ W97.heap.size from (by have := CP26.out; have := CN27.out; have := CN57.out; have := CN64.out; have := CP67.out; have := CN68.out; have := CN69.out; have := CN74.out; have := CN76.out; have := CN81.out; omega)))
  replace top := Nat.le_trans top hz
  clear hb100 hz
  go_wp2_with fail
  refine (toF_x _ X20 _ (g20 _ hwc) HN2.out).mono ?_; rintro e W103 ⟨p104, q105, rfl, hr, hb102⟩
  have RT := Lib.hid hr
  clear hr
  have hz := hb102.size
  replace hwc := hwc.trans (hb102.mono hwc.size)
  replace cP26_0 := (hb102.cell (p := ⟨P26, 0, none⟩) lP26).trans cP26_0
  replace cP26_1 := (hb102.cell (p := ⟨P26, 1, none⟩) lP26).trans cP26_1
  replace lP26 : P26 < W103.heap.size := Nat.lt_of_lt_of_le lP26 hz
  replace cP67_0 := (hb102.cell (p := ⟨P67, 0, none⟩) lP67).trans cP67_0
  replace cP67_1 := (hb102.cell (p := ⟨P67, 1, none⟩) lP67).trans cP67_1
  replace lP67 : P67 < W103.heap.size := Nat.lt_of_lt_of_le lP67 hz
  replace HX65 := Lib.hid (HX65.out.below hb102 (show N64 ≤ W101.heap.size from (by have := CP26.out; have := CN27.out; have := CN57.out; have := CN64.out; have := CP67.out; have := CN68.out; have := CN69.out; have := CN74.out; have := CN76.out; have := CN81.out; omega)))
  replace HX75 := Lib.hid (HX75.out.below hb102 (show N74 ≤ W101.heap.size from (by have := CP26.out; have := CN27.out; have := CN57.out; have := CN64.out; have := CP67.out; have := CN68.out; have := CN69.out; have := CN74.out; have := CN76.out; have := CN81.out; omega)))
  replace HX82 := Lib.hid (HX82.out.below hb102 (show N81 ≤ W101.heap.size from (by have := CP26.out; have := CN27.out; have := CN57.out; have := CN64.out; have := CP67.out; have := CN68.out; have := CN69.out; have := CN74.out; have := CN76.out; have := CN81.out; omega)))
  replace top := Nat.le_trans top hz
  clear hb102 hz
  go_wp2_with fail
  refine (eqF_x _ _ X20 _ HX82.out RT.out I20.out HN2.out).mono ?_; rintro e W107 ⟨rfl, hb106⟩
  clear RT
  have hz := hb106.size
  replace hwc := hwc.trans (hb106.mono hwc.size)
  replace cP26_0 := (hb106.cell (p := ⟨P26, 0, none⟩) lP26).trans cP26_0
  replace cP26_1 := (hb106.cell (p := ⟨P26, 1, none⟩) lP26).trans cP26_1
  replace lP26 : P26 < W107.heap.size := Nat.lt_of_lt_of_le lP26 hz
  replace cP67_0 := (hb106.cell (p := ⟨P67, 0, none⟩) lP67).trans cP67_0
  replace cP67_1 := (hb106.cell (p := ⟨P67, 1, none⟩) lP67).trans cP67_1
  replace lP67 : P67 < W107.heap.size := Nat.lt_of_lt_of_le lP67 hz
  replace HX65 := Lib.hid (HX65.out.below hb106 (show N64 ≤ W103.heap.size from (by have := CP26.out; have := CN27.out; have := CN57.out; have := CN64.out; have := CP67.out; have := CN68.out; have := CN69.out; have := CN74.out; have := CN76.out; have := CN81.out; omega)))
  replace HX75 := Lib.hid (HX75.out.below hb106 (show N74 ≤ W103.heap.size from (by have := CP26.out; have := CN27.out; have := CN57.out; have := CN64.out; have := CP67.out; have := CN68.out; have := CN69.out; have := CN74.out; have := CN76.out; have := CN81.out; omega)))
  replace HX82 := Lib.hid (HX82.out.below hb106 (show N81 ≤ W103.heap.size from (by have := CP26.out; have := CN27.out; have := CN57.out; have := CN64.out; have := CP67.out; have := CN68.out; have := CN69.out; have := CN74.out; have := CN76.out; have := CN81.out; omega)))
  replace top := Nat.le_trans top hz
  clear hb106 hz
  go_wp2_with fail
  go_ret
  exact ⟨rfl, hwc⟩
end Go.Proofs.Ytimcokealhnfhaa.PW
