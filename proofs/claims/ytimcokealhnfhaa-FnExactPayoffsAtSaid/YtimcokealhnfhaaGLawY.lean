/-
  The exact law of PayoffsAt: whatever the game and the two mixes, the program answers as the model and leaves all as they were.
-/
import Derived.Test.YtimcokealhnfhaaGPyi
import Derived.Test.YtimcokealhnfhaaLKG
import Derived.Test.YtimcokealhnfhaaLKF
namespace Go.Proofs.Ytimcokealhnfhaa.PW
open Go.RowKit Go.Proofs.Ytimcokealhnfhaa
open Go.Proofs.Ytimcokealhnfhaa.PM
set_option maxHeartbeats 8000000 in
theorem law_FnExactPayoffsAt (v00 v01 : Value) (X00 : List (List Int)) (X01 : List (List Int)) (v10 : Value) (X10 : List (Int × Int)) (v20 : Value) (X20 : List (Int × Int)) (w : World) (h00 : PM.Rows w v00 X00) (h01 : PM.Rows w v01 X01) (h10 : Frs w v10 X10) (h20 : Frs w v20 X20) :
    Calls Try.prog 8 #[.agg #[v00, v01], v10, v20] w fun e w' => e = .returned (.bool true) ∧ Below w.heap.size w w' := by
  have g00 := fun (w' : World) (h : Below w.heap.size w w') => h00.below h
  have I00 := Lib.hid (rows_I64 h00)
  obtain ⟨a00, c00, rfl, _⟩ := h00
  have g01 := fun (w' : World) (h : Below w.heap.size w w') => h01.below h
  have I01 := Lib.hid (rows_I64 h01)
  obtain ⟨a01, c01, rfl, _⟩ := h01
  have g10 := fun (w' : World) (h : Below w.heap.size w w') => h10.below h
  have I10 := Lib.hid ((h10).i64)
  obtain ⟨a10, c10, rfl, _⟩ := h10
  have g20 := fun (w' : World) (h : Below w.heap.size w w') => h20.below h
  have I20 := Lib.hid ((h20).i64)
  obtain ⟨a20, c20, rfl, _⟩ := h20
  by_cases hz0 : szI (tot X00 + tot X01) 1048576 < 0
  · have E1 := Lib.hid (szx_neg hz0)
    clear hz0
    go_enter Try.func8, Try.ntmps8
    have hwc : Below w.heap.size w w := Below.refl _ _
    go_wp2_with fail
    obtain ⟨W1, hW1⟩ : ∃ w', w' = (w.alloc (.cells #[.slice a00 (X00).length c00, .slice a01 (X01).length c01] 40)) := ⟨_, rfl⟩
    rw [← hW1]
    have hbx : Below w.heap.size w W1 := by rw [hW1]; exact ((Below.refl _ _).alloc (by simp) _)
    obtain ⟨P2, hP2⟩ : ∃ n, n = w.heap.size := ⟨_, rfl⟩
    have cP2_0 : W1.cell? ⟨P2, 0, none⟩ = some (.slice a00 (X00).length c00) := by rw [hW1, hP2]; simp [go_sem]
    have cP2_1 : W1.cell? ⟨P2, 1, none⟩ = some (.slice a01 (X01).length c01) := by rw [hW1, hP2]; simp [go_sem]
    have lP2 : P2 < W1.heap.size := by rw [hW1, hP2]; simp
    have CP2 := Lib.hid (show w.heap.size ≤ P2 from by rw [hP2]; exact hwc.size)
    rw [← hP2]
    clear hP2 hW1
    have hz := hbx.size
    replace hwc := hwc.trans (hbx.mono hwc.size)
    clear hbx hz
    obtain ⟨N3, hN3⟩ : ∃ n, n = W1.heap.size := ⟨_, rfl⟩
    have CN3 := Lib.hid (show P2 < N3 from by rw [hN3]; exact lP2)
    have top : N3 ≤ W1.heap.size := Nat.le_of_eq hN3
    clear hN3
    refine (szG_x _ _ X00 X01 _ (g00 _ hwc) (g01 _ hwc)).mono ?_; rw [E1.out]; rintro e W5 ⟨rfl, hb4⟩
    have hz := hb4.size
    replace hwc := hwc.trans (hb4.mono hwc.size)
    replace cP2_0 := (hb4.cell (p := ⟨P2, 0, none⟩) lP2).trans cP2_0
    replace cP2_1 := (hb4.cell (p := ⟨P2, 1, none⟩) lP2).trans cP2_1
    replace lP2 : P2 < W5.heap.size := Nat.lt_of_lt_of_le lP2 hz
    replace top := Nat.le_trans top hz
    clear hb4 hz
    go_wp2_with fail
    go_ret
    exact ⟨rfl, hwc⟩
  obtain ⟨hf0, hle0⟩ := szx_fits hz0
  have hn0 : (tot X00 + tot X01) ≤ 1048576 := by omega
  have HN0 := Lib.hid hn0
  clear hn0 hf0
  by_cases hz1 : szI (X10).length (szI (tot X00 + tot X01) 1048576) < 0
  · have E1 := Lib.hid (szx_neg hz1)
    clear hz1
    go_enter Try.func8, Try.ntmps8
    have hwc : Below w.heap.size w w := Below.refl _ _
    go_wp2_with fail
    obtain ⟨W6, hW6⟩ : ∃ w', w' = (w.alloc (.cells #[.slice a00 (X00).length c00, .slice a01 (X01).length c01] 40)) := ⟨_, rfl⟩
    rw [← hW6]
    have hbx : Below w.heap.size w W6 := by rw [hW6]; exact ((Below.refl _ _).alloc (by simp) _)
    obtain ⟨P7, hP7⟩ : ∃ n, n = w.heap.size := ⟨_, rfl⟩
    have cP7_0 : W6.cell? ⟨P7, 0, none⟩ = some (.slice a00 (X00).length c00) := by rw [hW6, hP7]; simp [go_sem]
    have cP7_1 : W6.cell? ⟨P7, 1, none⟩ = some (.slice a01 (X01).length c01) := by rw [hW6, hP7]; simp [go_sem]
    have lP7 : P7 < W6.heap.size := by rw [hW6, hP7]; simp
    have CP7 := Lib.hid (show w.heap.size ≤ P7 from by rw [hP7]; exact hwc.size)
    rw [← hP7]
    clear hP7 hW6
    have hz := hbx.size
    replace hwc := hwc.trans (hbx.mono hwc.size)
    clear hbx hz
    obtain ⟨N8, hN8⟩ : ∃ n, n = W6.heap.size := ⟨_, rfl⟩
    have CN8 := Lib.hid (show P7 < N8 from by rw [hN8]; exact lP7)
    have top : N8 ≤ W6.heap.size := Nat.le_of_eq hN8
    clear hN8
    refine (szG_x _ _ X00 X01 _ (g00 _ hwc) (g01 _ hwc)).mono ?_; rintro e W10 ⟨rfl, hb9⟩
    have hz := hb9.size
    replace hwc := hwc.trans (hb9.mono hwc.size)
    replace cP7_0 := (hb9.cell (p := ⟨P7, 0, none⟩) lP7).trans cP7_0
    replace cP7_1 := (hb9.cell (p := ⟨P7, 1, none⟩) lP7).trans cP7_1
    replace lP7 : P7 < W10.heap.size := Nat.lt_of_lt_of_le lP7 hz
    replace top := Nat.le_trans top hz
    clear hb9 hz
    generalize szI (tot X00 + tot X01) 1048576 = lf11 at *
    go_wp2_with fail
    refine (szF_x _ X10 _ _ (g10 _ hwc) (by omega) (by omega)).mono ?_; rw [E1.out]; rintro e W13 ⟨rfl, hb12⟩
    have hz := hb12.size
    replace hwc := hwc.trans (hb12.mono hwc.size)
    replace cP7_0 := (hb12.cell (p := ⟨P7, 0, none⟩) lP7).trans cP7_0
    replace cP7_1 := (hb12.cell (p := ⟨P7, 1, none⟩) lP7).trans cP7_1
    replace lP7 : P7 < W13.heap.size := Nat.lt_of_lt_of_le lP7 hz
    replace top := Nat.le_trans top hz
    clear hb12 hz
    go_wp2_with fail
    go_ret
    exact ⟨rfl, hwc⟩
  obtain ⟨hf1, hle1⟩ := szx_fits hz1
  have hn1 : (X10).length ≤ 1048576 := by omega
  have HN1 := Lib.hid hn1
  clear hn1 hf1
  by_cases hz2 : szI (X20).length (szI (X10).length (szI (tot X00 + tot X01) 1048576)) < 0
  · have E1 := Lib.hid (szx_neg hz2)
    clear hz2
    go_enter Try.func8, Try.ntmps8
    have hwc : Below w.heap.size w w := Below.refl _ _
    go_wp2_with fail
    obtain ⟨W14, hW14⟩ : ∃ w', w' = (w.alloc (.cells #[.slice a00 (X00).length c00, .slice a01 (X01).length c01] 40)) := ⟨_, rfl⟩
    rw [← hW14]
    have hbx : Below w.heap.size w W14 := by rw [hW14]; exact ((Below.refl _ _).alloc (by simp) _)
    obtain ⟨P15, hP15⟩ : ∃ n, n = w.heap.size := ⟨_, rfl⟩
    have cP15_0 : W14.cell? ⟨P15, 0, none⟩ = some (.slice a00 (X00).length c00) := by rw [hW14, hP15]; simp [go_sem]
    have cP15_1 : W14.cell? ⟨P15, 1, none⟩ = some (.slice a01 (X01).length c01) := by rw [hW14, hP15]; simp [go_sem]
    have lP15 : P15 < W14.heap.size := by rw [hW14, hP15]; simp
    have CP15 := Lib.hid (show w.heap.size ≤ P15 from by rw [hP15]; exact hwc.size)
    rw [← hP15]
    clear hP15 hW14
    have hz := hbx.size
    replace hwc := hwc.trans (hbx.mono hwc.size)
    clear hbx hz
    obtain ⟨N16, hN16⟩ : ∃ n, n = W14.heap.size := ⟨_, rfl⟩
    have CN16 := Lib.hid (show P15 < N16 from by rw [hN16]; exact lP15)
    have top : N16 ≤ W14.heap.size := Nat.le_of_eq hN16
    clear hN16
    refine (szG_x _ _ X00 X01 _ (g00 _ hwc) (g01 _ hwc)).mono ?_; rintro e W18 ⟨rfl, hb17⟩
    have hz := hb17.size
    replace hwc := hwc.trans (hb17.mono hwc.size)
    replace cP15_0 := (hb17.cell (p := ⟨P15, 0, none⟩) lP15).trans cP15_0
    replace cP15_1 := (hb17.cell (p := ⟨P15, 1, none⟩) lP15).trans cP15_1
    replace lP15 : P15 < W18.heap.size := Nat.lt_of_lt_of_le lP15 hz
    replace top := Nat.le_trans top hz
    clear hb17 hz
    generalize szI (tot X00 + tot X01) 1048576 = lf19 at *
    go_wp2_with fail
    refine (szF_x _ X10 _ _ (g10 _ hwc) (by omega) (by omega)).mono ?_; rintro e W21 ⟨rfl, hb20⟩
    have hz := hb20.size
    replace hwc := hwc.trans (hb20.mono hwc.size)
    replace cP15_0 := (hb20.cell (p := ⟨P15, 0, none⟩) lP15).trans cP15_0
    replace cP15_1 := (hb20.cell (p := ⟨P15, 1, none⟩) lP15).trans cP15_1
    replace lP15 : P15 < W21.heap.size := Nat.lt_of_lt_of_le lP15 hz
    replace top := Nat.le_trans top hz
    clear hb20 hz
    generalize szI (X10).length lf19 = lf22 at *
    go_wp2_with fail
    refine (szF_x _ X20 _ _ (g20 _ hwc) (by omega) (by omega)).mono ?_; rw [E1.out]; rintro e W24 ⟨rfl, hb23⟩
    have hz := hb23.size
    replace hwc := hwc.trans (hb23.mono hwc.size)
    replace cP15_0 := (hb23.cell (p := ⟨P15, 0, none⟩) lP15).trans cP15_0
    replace cP15_1 := (hb23.cell (p := ⟨P15, 1, none⟩) lP15).trans cP15_1
    replace lP15 : P15 < W24.heap.size := Nat.lt_of_lt_of_le lP15 hz
    replace top := Nat.le_trans top hz
    clear hb23 hz
    go_wp2_with fail
    go_ret
    exact ⟨rfl, hwc⟩
  obtain ⟨hf2, hle2⟩ := szx_fits hz2
  have hn2 : (X20).length ≤ 1048576 := by omega
  have HN2 := Lib.hid hn2
  clear hn2 hf2
  have hspec := fun (v00 v01 v10 v20 : Value) (w : World) (h0 : PM.Rows w v00 X00) (h1 : PM.Rows w v01 X01) (h2 : Frs w v10 X10) (h3 : Frs w v20 X20) => specPayoffsAt_any v00 v01 v10 v20 X00 X01 X10 X20  w h0 h1 h2 h3 
  have himpl := fun (v00 v01 v10 v20 : Value) (w : World) (h0 : PM.Rows w v00 X00) (h1 : PM.Rows w v01 X01) (h2 : Frs w v10 X10) (h3 : Frs w v20 X20) => implPayoffsAt_any v00 v01 v10 v20 X00 X01 X10 X20  w h0 h1 h2 h3 (by have := HN0.out; omega)
  generalize paOut X00 X01 X10 X20  = o at *
  obtain ⟨⟨n0, d0⟩, ⟨n1, d1⟩, o2⟩ := o
  have HS := Lib.hid hspec
  have HI := Lib.hid himpl
  clear hspec himpl
  go_enter Try.func8, Try.ntmps8
  have hwc : Below w.heap.size w w := Below.refl _ _
  go_wp2_with fail
  obtain ⟨W25, hW25⟩ : ∃ w', w' = (w.alloc (.cells #[.slice a00 (X00).length c00, .slice a01 (X01).length c01] 40)) := ⟨_, rfl⟩
  rw [← hW25]
  have hbx : Below w.heap.size w W25 := by rw [hW25]; exact ((Below.refl _ _).alloc (by simp) _)
  obtain ⟨P26, hP26⟩ : ∃ n, n = w.heap.size := ⟨_, rfl⟩
  have cP26_0 : W25.cell? ⟨P26, 0, none⟩ = some (.slice a00 (X00).length c00) := by rw [hW25, hP26]; simp [go_sem]
  have cP26_1 : W25.cell? ⟨P26, 1, none⟩ = some (.slice a01 (X01).length c01) := by rw [hW25, hP26]; simp [go_sem]
  have lP26 : P26 < W25.heap.size := by rw [hW25, hP26]; simp
  have CP26 := Lib.hid (show w.heap.size ≤ P26 from by rw [hP26]; exact hwc.size)
  rw [← hP26]
  clear hP26 hW25
  have hz := hbx.size
  replace hwc := hwc.trans (hbx.mono hwc.size)
  clear hbx hz
  obtain ⟨N27, hN27⟩ : ∃ n, n = W25.heap.size := ⟨_, rfl⟩
  have CN27 := Lib.hid (show P26 < N27 from by rw [hN27]; exact lP26)
  have top : N27 ≤ W25.heap.size := Nat.le_of_eq hN27
  clear hN27
  refine (szG_x _ _ X00 X01 _ (g00 _ hwc) (g01 _ hwc)).mono ?_; rintro e W29 ⟨rfl, hb28⟩
  have hz := hb28.size
  replace hwc := hwc.trans (hb28.mono hwc.size)
  replace cP26_0 := (hb28.cell (p := ⟨P26, 0, none⟩) lP26).trans cP26_0
  replace cP26_1 := (hb28.cell (p := ⟨P26, 1, none⟩) lP26).trans cP26_1
  replace lP26 : P26 < W29.heap.size := Nat.lt_of_lt_of_le lP26 hz
  replace top := Nat.le_trans top hz
  clear hb28 hz
  generalize szI (tot X00 + tot X01) 1048576 = lf30 at *
  go_wp2_with fail
  refine (szF_x _ X10 _ _ (g10 _ hwc) (by omega) (by omega)).mono ?_; rintro e W32 ⟨rfl, hb31⟩
  have hz := hb31.size
  replace hwc := hwc.trans (hb31.mono hwc.size)
  replace cP26_0 := (hb31.cell (p := ⟨P26, 0, none⟩) lP26).trans cP26_0
  replace cP26_1 := (hb31.cell (p := ⟨P26, 1, none⟩) lP26).trans cP26_1
  replace lP26 : P26 < W32.heap.size := Nat.lt_of_lt_of_le lP26 hz
  replace top := Nat.le_trans top hz
  clear hb31 hz
  generalize szI (X10).length lf30 = lf33 at *
  go_wp2_with fail
  refine (szF_x _ X20 _ _ (g20 _ hwc) (by omega) (by omega)).mono ?_; rintro e W35 ⟨rfl, hb34⟩
  have hz := hb34.size
  replace hwc := hwc.trans (hb34.mono hwc.size)
  replace cP26_0 := (hb34.cell (p := ⟨P26, 0, none⟩) lP26).trans cP26_0
  replace cP26_1 := (hb34.cell (p := ⟨P26, 1, none⟩) lP26).trans cP26_1
  replace lP26 : P26 < W35.heap.size := Nat.lt_of_lt_of_le lP26 hz
  replace top := Nat.le_trans top hz
  clear hb34 hz
  generalize szI (X20).length lf33 = lf36 at *
  go_wp2_with fail
  clear hz0 hle0 hz1 hle1 hz2 hle2
  refine (toG_x _ _ X00 X01 _ (g00 _ hwc) (g01 _ hwc) HN0.out).mono ?_; rintro e W38 ⟨p39, q40, p41, q42, rfl, hr, hb37⟩
  have hrr := RngGx.reads hr I00.out I01.out
  have RD43 := Lib.hid (hrr.1)
  have RD44 := Lib.hid (hrr.2)
  clear hrr
  clear hr
  have hz := hb37.size
  replace hwc := hwc.trans (hb37.mono hwc.size)
  replace cP26_0 := (hb37.cell (p := ⟨P26, 0, none⟩) lP26).trans cP26_0
  replace cP26_1 := (hb37.cell (p := ⟨P26, 1, none⟩) lP26).trans cP26_1
  replace lP26 : P26 < W38.heap.size := Nat.lt_of_lt_of_le lP26 hz
  replace top := Nat.le_trans top hz
  clear hb37 hz
  go_wp2_with fail
  refine (toF_x _ X10 _ (g10 _ hwc) HN1.out).mono ?_; rintro e W46 ⟨p47, q48, rfl, hr, hb45⟩
  have RD49 := Lib.hid (RngFx.reads hr I10.out)
  clear hr
  have hz := hb45.size
  replace hwc := hwc.trans (hb45.mono hwc.size)
  replace cP26_0 := (hb45.cell (p := ⟨P26, 0, none⟩) lP26).trans cP26_0
  replace cP26_1 := (hb45.cell (p := ⟨P26, 1, none⟩) lP26).trans cP26_1
  replace lP26 : P26 < W46.heap.size := Nat.lt_of_lt_of_le lP26 hz
  replace RD43 := Lib.hid (RD43.out.below hb45)
  replace RD44 := Lib.hid (RD44.out.below hb45)
  replace top := Nat.le_trans top hz
  clear hb45 hz
  go_wp2_with fail
  refine (toF_x _ X20 _ (g20 _ hwc) HN2.out).mono ?_; rintro e W51 ⟨p52, q53, rfl, hr, hb50⟩
  have RD54 := Lib.hid (RngFx.reads hr I20.out)
  clear hr
  have hz := hb50.size
  replace hwc := hwc.trans (hb50.mono hwc.size)
  replace cP26_0 := (hb50.cell (p := ⟨P26, 0, none⟩) lP26).trans cP26_0
  replace cP26_1 := (hb50.cell (p := ⟨P26, 1, none⟩) lP26).trans cP26_1
  replace lP26 : P26 < W51.heap.size := Nat.lt_of_lt_of_le lP26 hz
  replace RD43 := Lib.hid (RD43.out.below hb50)
  replace RD44 := Lib.hid (RD44.out.below hb50)
  replace RD49 := Lib.hid (RD49.out.below hb50)
  replace top := Nat.le_trans top hz
  clear hb50 hz
  go_wp2_with fail
  refine (HS.out _ _ _ _ _ RD43.out RD44.out RD49.out RD54.out).mono ?_; rintro e W55 ⟨rfl, hb56⟩; dsimp only
  have hz := hb56.size
  replace hwc := hwc.trans (hb56.mono hwc.size)
  replace cP26_0 := (hb56.cell (p := ⟨P26, 0, none⟩) lP26).trans cP26_0
  replace cP26_1 := (hb56.cell (p := ⟨P26, 1, none⟩) lP26).trans cP26_1
  replace lP26 : P26 < W55.heap.size := Nat.lt_of_lt_of_le lP26 hz
  replace RD43 := Lib.hid (RD43.out.below hb56)
  replace RD44 := Lib.hid (RD44.out.below hb56)
  replace RD49 := Lib.hid (RD49.out.below hb56)
  replace RD54 := Lib.hid (RD54.out.below hb56)
  replace top := Nat.le_trans top hz
  clear hb56 hz
  go_wp2_with fail
  obtain ⟨W57, hW57⟩ : ∃ w', w' = ((W55.alloc (.cells #[.int .i64 n0, .int .i64 d0] 61)).alloc (.cells #[.int .i64 n1, .int .i64 d1] 61)) := ⟨_, rfl⟩
  rw [← hW57]
  have hbx : Below W55.heap.size W55 W57 := by rw [hW57]; exact (((Below.refl _ _).alloc (by simp) _).alloc (by simp) _)
  obtain ⟨P58, hP58⟩ : ∃ n, n = W55.heap.size := ⟨_, rfl⟩
  obtain ⟨P59, hP59⟩ : ∃ n, n = W55.heap.size + 1 := ⟨_, rfl⟩
  have cP58_0 : W57.cell? ⟨P58, 0, none⟩ = some (.int .i64 n0) := by rw [hW57, hP58]; simp [go_sem]
  have cP58_1 : W57.cell? ⟨P58, 1, none⟩ = some (.int .i64 d0) := by rw [hW57, hP58]; simp [go_sem]
  have lP58 : P58 < W57.heap.size := by rw [hW57, hP58]; simp <;> omega
  have CP58 := Lib.hid (show N27 ≤ P58 from by rw [hP58]; exact top)
  have cP59_0 : W57.cell? ⟨P59, 0, none⟩ = some (.int .i64 n1) := by rw [hW57, hP59]; simp [go_sem]
  have cP59_1 : W57.cell? ⟨P59, 1, none⟩ = some (.int .i64 d1) := by rw [hW57, hP59]; simp [go_sem]
  have lP59 : P59 < W57.heap.size := by rw [hW57, hP59]; simp
  have CP59 := Lib.hid (show P58 < P59 from by omega)
  rw [← hP59]
  rw [← hP58]
  clear hP59 hP58 hW57
  have hz := hbx.size
  replace hwc := hwc.trans (hbx.mono hwc.size)
  replace cP26_0 := (hbx.cell (p := ⟨P26, 0, none⟩) lP26).trans cP26_0
  replace cP26_1 := (hbx.cell (p := ⟨P26, 1, none⟩) lP26).trans cP26_1
  replace lP26 : P26 < W57.heap.size := Nat.lt_of_lt_of_le lP26 hz
  replace RD43 := Lib.hid (RD43.out.below hbx)
  replace RD44 := Lib.hid (RD44.out.below hbx)
  replace RD49 := Lib.hid (RD49.out.below hbx)
  replace RD54 := Lib.hid (RD54.out.below hbx)
  replace top := Nat.le_trans top hz
  clear hbx hz
  clear top
  obtain ⟨N60, hN60⟩ : ∃ n, n = W57.heap.size := ⟨_, rfl⟩
  have CN60 := Lib.hid (show P59 < N60 from by rw [hN60]; exact lP59)
  have top : N60 ≤ W57.heap.size := Nat.le_of_eq hN60
  clear hN60
  clear RD43 RD44 RD49 RD54
  obtain ⟨N61, hN61⟩ : ∃ N61, N61 = W57.heap.size := ⟨_, rfl⟩
  have CN61 := Lib.hid (show N60 ≤ N61 from by rw [hN61]; exact top)
  have top' : N61 ≤ W57.heap.size := Nat.le_of_eq hN61
  clear top
  have top := top'
  clear top'
  refine (toG_x _ _ X00 X01 _ (g00 _ hwc) (g01 _ hwc) HN0.out).mono ?_; rintro e W63 ⟨p64, q65, p66, q67, rfl, hr, hb62⟩
  rw [← hN61] at hr
  clear hN61
  have hz := hb62.size
  replace hwc := hwc.trans (hb62.mono hwc.size)
  replace cP26_0 := (hb62.cell (p := ⟨P26, 0, none⟩) lP26).trans cP26_0
  replace cP26_1 := (hb62.cell (p := ⟨P26, 1, none⟩) lP26).trans cP26_1
  replace lP26 : P26 < W63.heap.size := Nat.lt_of_lt_of_le lP26 hz
  replace cP58_0 := (hb62.cell (p := ⟨P58, 0, none⟩) lP58).trans cP58_0
  replace cP58_1 := (hb62.cell (p := ⟨P58, 1, none⟩) lP58).trans cP58_1
  replace lP58 : P58 < W63.heap.size := Nat.lt_of_lt_of_le lP58 hz
  replace cP59_0 := (hb62.cell (p := ⟨P59, 0, none⟩) lP59).trans cP59_0
  replace cP59_1 := (hb62.cell (p := ⟨P59, 1, none⟩) lP59).trans cP59_1
  replace lP59 : P59 < W63.heap.size := Nat.lt_of_lt_of_le lP59 hz
  replace top := Nat.le_trans top hz
  clear hb62 hz
  obtain ⟨N68, hN68⟩ : ∃ N68, N68 = W63.heap.size := ⟨_, rfl⟩
  have CN68 := Lib.hid (show N61 ≤ N68 from by rw [hN68]; exact top)
  have top' : N68 ≤ W63.heap.size := Nat.le_of_eq hN68
  clear top
  have top := top'
  clear top'
  rw [← hN68] at hr
  clear hN68
  have HX69 := Lib.hid hr
  clear hr
  go_wp2_with fail
  obtain ⟨W70, hW70⟩ : ∃ w', w' = (W63.alloc (.cells #[.slice p64 (X00).length q65, .slice p66 (X01).length q67] 43)) := ⟨_, rfl⟩
  rw [← hW70]
  have hbx : Below W63.heap.size W63 W70 := by rw [hW70]; exact ((Below.refl _ _).alloc (by simp) _)
  obtain ⟨P71, hP71⟩ : ∃ n, n = W63.heap.size := ⟨_, rfl⟩
  have cP71_0 : W70.cell? ⟨P71, 0, none⟩ = some (.slice p64 (X00).length q65) := by rw [hW70, hP71]; simp [go_sem]
  have cP71_1 : W70.cell? ⟨P71, 1, none⟩ = some (.slice p66 (X01).length q67) := by rw [hW70, hP71]; simp [go_sem]
  have lP71 : P71 < W70.heap.size := by rw [hW70, hP71]; simp
  have CP71 := Lib.hid (show N68 ≤ P71 from by rw [hP71]; exact top)
  rw [← hP71]
  clear hP71 hW70
  have hz := hbx.size
  replace hwc := hwc.trans (hbx.mono hwc.size)
  replace cP26_0 := (hbx.cell (p := ⟨P26, 0, none⟩) lP26).trans cP26_0
  replace cP26_1 := (hbx.cell (p := ⟨P26, 1, none⟩) lP26).trans cP26_1
  replace lP26 : P26 < W70.heap.size := Nat.lt_of_lt_of_le lP26 hz
  replace cP58_0 := (hbx.cell (p := ⟨P58, 0, none⟩) lP58).trans cP58_0
  replace cP58_1 := (hbx.cell (p := ⟨P58, 1, none⟩) lP58).trans cP58_1
  replace lP58 : P58 < W70.heap.size := Nat.lt_of_lt_of_le lP58 hz
  replace cP59_0 := (hbx.cell (p := ⟨P59, 0, none⟩) lP59).trans cP59_0
  replace cP59_1 := (hbx.cell (p := ⟨P59, 1, none⟩) lP59).trans cP59_1
  replace lP59 : P59 < W70.heap.size := Nat.lt_of_lt_of_le lP59 hz
  replace HX69 := Lib.hid (HX69.out.below hbx (show N68 ≤ W63.heap.size from (by have := CP26.out; have := CN27.out; have := CP58.out; have := CP59.out; have := CN60.out; have := CN61.out; have := CN68.out; have := CP71.out; omega)))
  replace top := Nat.le_trans top hz
  clear hbx hz
  clear top
  obtain ⟨N72, hN72⟩ : ∃ n, n = W70.heap.size := ⟨_, rfl⟩
  have CN72 := Lib.hid (show P71 < N72 from by rw [hN72]; exact lP71)
  have top : N72 ≤ W70.heap.size := Nat.le_of_eq hN72
  clear hN72
  obtain ⟨N73, hN73⟩ : ∃ N73, N73 = W70.heap.size := ⟨_, rfl⟩
  have CN73 := Lib.hid (show N72 ≤ N73 from by rw [hN73]; exact top)
  have top' : N73 ≤ W70.heap.size := Nat.le_of_eq hN73
  clear top
  have top := top'
  clear top'
  refine (toF_x _ X10 _ (g10 _ hwc) HN1.out).mono ?_; rintro e W75 ⟨p76, q77, rfl, hr, hb74⟩
  rw [← hN73] at hr
  clear hN73
  have hz := hb74.size
  replace hwc := hwc.trans (hb74.mono hwc.size)
  replace cP26_0 := (hb74.cell (p := ⟨P26, 0, none⟩) lP26).trans cP26_0
  replace cP26_1 := (hb74.cell (p := ⟨P26, 1, none⟩) lP26).trans cP26_1
  replace lP26 : P26 < W75.heap.size := Nat.lt_of_lt_of_le lP26 hz
  replace cP58_0 := (hb74.cell (p := ⟨P58, 0, none⟩) lP58).trans cP58_0
  replace cP58_1 := (hb74.cell (p := ⟨P58, 1, none⟩) lP58).trans cP58_1
  replace lP58 : P58 < W75.heap.size := Nat.lt_of_lt_of_le lP58 hz
  replace cP59_0 := (hb74.cell (p := ⟨P59, 0, none⟩) lP59).trans cP59_0
  replace cP59_1 := (hb74.cell (p := ⟨P59, 1, none⟩) lP59).trans cP59_1
  replace lP59 : P59 < W75.heap.size := Nat.lt_of_lt_of_le lP59 hz
  replace cP71_0 := (hb74.cell (p := ⟨P71, 0, none⟩) lP71).trans cP71_0
  replace cP71_1 := (hb74.cell (p := ⟨P71, 1, none⟩) lP71).trans cP71_1
  replace lP71 : P71 < W75.heap.size := Nat.lt_of_lt_of_le lP71 hz
  replace HX69 := Lib.hid (HX69.out.below hb74 (show N68 ≤ W70.heap.size from (by have := CP26.out; have := CN27.out; have := CP58.out; have := CP59.out; have := CN60.out; have := CN61.out; have := CN68.out; have := CP71.out; have := CN72.out; have := CN73.out; omega)))
  replace top := Nat.le_trans top hz
  clear hb74 hz
  obtain ⟨N78, hN78⟩ : ∃ N78, N78 = W75.heap.size := ⟨_, rfl⟩
  have CN78 := Lib.hid (show N73 ≤ N78 from by rw [hN78]; exact top)
  have top' : N78 ≤ W75.heap.size := Nat.le_of_eq hN78
  clear top
  have top := top'
  clear top'
  rw [← hN78] at hr
  clear hN78
  have HX79 := Lib.hid hr
  clear hr
  go_wp2_with fail
  obtain ⟨N80, hN80⟩ : ∃ N80, N80 = W75.heap.size := ⟨_, rfl⟩
  have CN80 := Lib.hid (show N78 ≤ N80 from by rw [hN80]; exact top)
  have top' : N80 ≤ W75.heap.size := Nat.le_of_eq hN80
  clear top
  have top := top'
  clear top'
  refine (toF_x _ X20 _ (g20 _ hwc) HN2.out).mono ?_; rintro e W82 ⟨p83, q84, rfl, hr, hb81⟩
  rw [← hN80] at hr
  clear hN80
  have hz := hb81.size
  replace hwc := hwc.trans (hb81.mono hwc.size)
  replace cP26_0 := (hb81.cell (p := ⟨P26, 0, none⟩) lP26).trans cP26_0
  replace cP26_1 := (hb81.cell (p := ⟨P26, 1, none⟩) lP26).trans cP26_1
  replace lP26 : P26 < W82.heap.size := Nat.lt_of_lt_of_le lP26 hz
  replace cP58_0 := (hb81.cell (p := ⟨P58, 0, none⟩) lP58).trans cP58_0
  replace cP58_1 := (hb81.cell (p := ⟨P58, 1, none⟩) lP58).trans cP58_1
  replace lP58 : P58 < W82.heap.size := Nat.lt_of_lt_of_le lP58 hz
  replace cP59_0 := (hb81.cell (p := ⟨P59, 0, none⟩) lP59).trans cP59_0
  replace cP59_1 := (hb81.cell (p := ⟨P59, 1, none⟩) lP59).trans cP59_1
  replace lP59 : P59 < W82.heap.size := Nat.lt_of_lt_of_le lP59 hz
  replace cP71_0 := (hb81.cell (p := ⟨P71, 0, none⟩) lP71).trans cP71_0
  replace cP71_1 := (hb81.cell (p := ⟨P71, 1, none⟩) lP71).trans cP71_1
  replace lP71 : P71 < W82.heap.size := Nat.lt_of_lt_of_le lP71 hz
  replace HX69 := Lib.hid (HX69.out.below hb81 (show N68 ≤ W75.heap.size from (by have := CP26.out; have := CN27.out; have := CP58.out; have := CP59.out; have := CN60.out; have := CN61.out; have := CN68.out; have := CP71.out; have := CN72.out; have := CN73.out; have := CN78.out; have := CN80.out; omega)))
  replace HX79 := Lib.hid (HX79.out.below hb81 (show N78 ≤ W75.heap.size from (by have := CP26.out; have := CN27.out; have := CP58.out; have := CP59.out; have := CN60.out; have := CN61.out; have := CN68.out; have := CP71.out; have := CN72.out; have := CN73.out; have := CN78.out; have := CN80.out; omega)))
  replace top := Nat.le_trans top hz
  clear hb81 hz
  obtain ⟨N85, hN85⟩ : ∃ N85, N85 = W82.heap.size := ⟨_, rfl⟩
  have CN85 := Lib.hid (show N80 ≤ N85 from by rw [hN85]; exact top)
  have top' : N85 ≤ W82.heap.size := Nat.le_of_eq hN85
  clear top
  have top := top'
  clear top'
  rw [← hN85] at hr
  clear hN85
  have HX86 := Lib.hid hr
  clear hr
  have hrr := RngGx.reads HX69.out I00.out I01.out
  have RD87 := Lib.hid (hrr.1)
  have RD88 := Lib.hid (hrr.2)
  clear hrr
  have RD89 := Lib.hid (RngFx.reads HX79.out I10.out)
  have RD90 := Lib.hid (RngFx.reads HX86.out I20.out)
  go_wp2_with fail
  refine (HI.out _ _ _ _ _ RD87.out RD88.out RD89.out RD90.out).mono ?_; rintro e W91 ⟨rfl, hb92⟩; dsimp only
  have hz := hb92.size
  replace hwc := hwc.trans (hb92.mono hwc.size)
  replace cP26_0 := (hb92.cell (p := ⟨P26, 0, none⟩) lP26).trans cP26_0
  replace cP26_1 := (hb92.cell (p := ⟨P26, 1, none⟩) lP26).trans cP26_1
  replace lP26 : P26 < W91.heap.size := Nat.lt_of_lt_of_le lP26 hz
  replace cP58_0 := (hb92.cell (p := ⟨P58, 0, none⟩) lP58).trans cP58_0
  replace cP58_1 := (hb92.cell (p := ⟨P58, 1, none⟩) lP58).trans cP58_1
  replace lP58 : P58 < W91.heap.size := Nat.lt_of_lt_of_le lP58 hz
  replace cP59_0 := (hb92.cell (p := ⟨P59, 0, none⟩) lP59).trans cP59_0
  replace cP59_1 := (hb92.cell (p := ⟨P59, 1, none⟩) lP59).trans cP59_1
  replace lP59 : P59 < W91.heap.size := Nat.lt_of_lt_of_le lP59 hz
  replace cP71_0 := (hb92.cell (p := ⟨P71, 0, none⟩) lP71).trans cP71_0
  replace cP71_1 := (hb92.cell (p := ⟨P71, 1, none⟩) lP71).trans cP71_1
  replace lP71 : P71 < W91.heap.size := Nat.lt_of_lt_of_le lP71 hz
  replace RD87 := Lib.hid (RD87.out.below hb92)
  replace RD88 := Lib.hid (RD88.out.below hb92)
  replace RD89 := Lib.hid (RD89.out.below hb92)
  replace RD90 := Lib.hid (RD90.out.below hb92)
  replace HX69 := Lib.hid (HX69.out.below hb92 (show N68 ≤ W82.heap.size from (by have := CP26.out; have := CN27.out; have := CP58.out; have := CP59.out; have := CN60.out; have := CN61.out; have := CN68.out; have := CP71.out; have := CN72.out; have := CN73.out; have := CN78.out; have := CN80.out; have := CN85.out; omega)))
  replace HX79 := Lib.hid (HX79.out.below hb92 (show N78 ≤ W82.heap.size from (by have := CP26.out; have := CN27.out; have := CP58.out; have := CP59.out; have := CN60.out; have := CN61.out; have := CN68.out; have := CP71.out; have := CN72.out; have := CN73.out; have := CN78.out; have := CN80.out; have := CN85.out; omega)))
  replace HX86 := Lib.hid (HX86.out.below hb92 (show N85 ≤ W82.heap.size from (by have := CP26.out; have := CN27.out; have := CP58.out; have := CP59.out; have := CN60.out; have := CN61.out; have := CN68.out; have := CP71.out; have := CN72.out; have := CN73.out; have := CN78.out; have := CN80.out; have := CN85.out; omega)))
  replace top := Nat.le_trans top hz
  clear hb92 hz
  go_wp2_with fail
  obtain ⟨W93, hW93⟩ : ∃ w', w' = ((W91.alloc (.cells #[.int .i64 n0, .int .i64 d0] 61)).alloc (.cells #[.int .i64 n1, .int .i64 d1] 61)) := ⟨_, rfl⟩
  rw [← hW93]
  have hbx : Below W91.heap.size W91 W93 := by rw [hW93]; exact (((Below.refl _ _).alloc (by simp) _).alloc (by simp) _)
  obtain ⟨P94, hP94⟩ : ∃ n, n = W91.heap.size := ⟨_, rfl⟩
  obtain ⟨P95, hP95⟩ : ∃ n, n = W91.heap.size + 1 := ⟨_, rfl⟩
  have cP94_0 : W93.cell? ⟨P94, 0, none⟩ = some (.int .i64 n0) := by rw [hW93, hP94]; simp [go_sem]
  have cP94_1 : W93.cell? ⟨P94, 1, none⟩ = some (.int .i64 d0) := by rw [hW93, hP94]; simp [go_sem]
  have lP94 : P94 < W93.heap.size := by rw [hW93, hP94]; simp <;> omega
  have CP94 := Lib.hid (show N85 ≤ P94 from by rw [hP94]; exact top)
  have cP95_0 : W93.cell? ⟨P95, 0, none⟩ = some (.int .i64 n1) := by rw [hW93, hP95]; simp [go_sem]
  have cP95_1 : W93.cell? ⟨P95, 1, none⟩ = some (.int .i64 d1) := by rw [hW93, hP95]; simp [go_sem]
  have lP95 : P95 < W93.heap.size := by rw [hW93, hP95]; simp
  have CP95 := Lib.hid (show P94 < P95 from by omega)
  rw [← hP95]
  rw [← hP94]
  clear hP95 hP94 hW93
  have hz := hbx.size
  replace hwc := hwc.trans (hbx.mono hwc.size)
  replace cP26_0 := (hbx.cell (p := ⟨P26, 0, none⟩) lP26).trans cP26_0
  replace cP26_1 := (hbx.cell (p := ⟨P26, 1, none⟩) lP26).trans cP26_1
  replace lP26 : P26 < W93.heap.size := Nat.lt_of_lt_of_le lP26 hz
  replace cP58_0 := (hbx.cell (p := ⟨P58, 0, none⟩) lP58).trans cP58_0
  replace cP58_1 := (hbx.cell (p := ⟨P58, 1, none⟩) lP58).trans cP58_1
  replace lP58 : P58 < W93.heap.size := Nat.lt_of_lt_of_le lP58 hz
  replace cP59_0 := (hbx.cell (p := ⟨P59, 0, none⟩) lP59).trans cP59_0
  replace cP59_1 := (hbx.cell (p := ⟨P59, 1, none⟩) lP59).trans cP59_1
  replace lP59 : P59 < W93.heap.size := Nat.lt_of_lt_of_le lP59 hz
  replace cP71_0 := (hbx.cell (p := ⟨P71, 0, none⟩) lP71).trans cP71_0
  replace cP71_1 := (hbx.cell (p := ⟨P71, 1, none⟩) lP71).trans cP71_1
  replace lP71 : P71 < W93.heap.size := Nat.lt_of_lt_of_le lP71 hz
  replace RD87 := Lib.hid (RD87.out.below hbx)
  replace RD88 := Lib.hid (RD88.out.below hbx)
  replace RD89 := Lib.hid (RD89.out.below hbx)
  replace RD90 := Lib.hid (RD90.out.below hbx)
  replace HX69 := Lib.hid (HX69.out.below hbx (show N68 ≤ W91.heap.size from (by have := CP26.out; have := CN27.out; have := CP58.out; have := CP59.out; have := CN60.out; have := CN61.out; have := CN68.out; have := CP71.out; have := CN72.out; have := CN73.out; have := CN78.out; have := CN80.out; have := CN85.out; have := CP94.out; have := CP95.out; omega)))
  replace HX79 := Lib.hid (HX79.out.below hbx (show N78 ≤ W91.heap.size from (by have := CP26.out; have := CN27.out; have := CP58.out; have := CP59.out; have := CN60.out; have := CN61.out; have := CN68.out; have := CP71.out; have := CN72.out; have := CN73.out; have := CN78.out; have := CN80.out; have := CN85.out; have := CP94.out; have := CP95.out; omega)))
  replace HX86 := Lib.hid (HX86.out.below hbx (show N85 ≤ W91.heap.size from (by have := CP26.out; have := CN27.out; have := CP58.out; have := CP59.out; have := CN60.out; have := CN61.out; have := CN68.out; have := CP71.out; have := CN72.out; have := CN73.out; have := CN78.out; have := CN80.out; have := CN85.out; have := CP94.out; have := CP95.out; omega)))
  replace top := Nat.le_trans top hz
  clear hbx hz
  clear top
  obtain ⟨N96, hN96⟩ : ∃ n, n = W93.heap.size := ⟨_, rfl⟩
  have CN96 := Lib.hid (show P95 < N96 from by rw [hN96]; exact lP95)
  have top : N96 ≤ W93.heap.size := Nat.le_of_eq hN96
  clear hN96
  clear RD87 RD88 RD89 RD90
  refine (eqFrac_self n0 d0 _).mono ?_; rintro e W98 ⟨rfl, hb97⟩
  have hz := hb97.size
  replace hwc := hwc.trans (hb97.mono hwc.size)
  replace cP26_0 := (hb97.cell (p := ⟨P26, 0, none⟩) lP26).trans cP26_0
  replace cP26_1 := (hb97.cell (p := ⟨P26, 1, none⟩) lP26).trans cP26_1
  replace lP26 : P26 < W98.heap.size := Nat.lt_of_lt_of_le lP26 hz
  replace cP58_0 := (hb97.cell (p := ⟨P58, 0, none⟩) lP58).trans cP58_0
  replace cP58_1 := (hb97.cell (p := ⟨P58, 1, none⟩) lP58).trans cP58_1
  replace lP58 : P58 < W98.heap.size := Nat.lt_of_lt_of_le lP58 hz
  replace cP59_0 := (hb97.cell (p := ⟨P59, 0, none⟩) lP59).trans cP59_0
  replace cP59_1 := (hb97.cell (p := ⟨P59, 1, none⟩) lP59).trans cP59_1
  replace lP59 : P59 < W98.heap.size := Nat.lt_of_lt_of_le lP59 hz
  replace cP71_0 := (hb97.cell (p := ⟨P71, 0, none⟩) lP71).trans cP71_0
  replace cP71_1 := (hb97.cell (p := ⟨P71, 1, none⟩) lP71).trans cP71_1
  replace lP71 : P71 < W98.heap.size := Nat.lt_of_lt_of_le lP71 hz
  replace cP94_0 := (hb97.cell (p := ⟨P94, 0, none⟩) lP94).trans cP94_0
  replace cP94_1 := (hb97.cell (p := ⟨P94, 1, none⟩) lP94).trans cP94_1
  replace lP94 : P94 < W98.heap.size := Nat.lt_of_lt_of_le lP94 hz
  replace cP95_0 := (hb97.cell (p := ⟨P95, 0, none⟩) lP95).trans cP95_0
  replace cP95_1 := (hb97.cell (p := ⟨P95, 1, none⟩) lP95).trans cP95_1
  replace lP95 : P95 < W98.heap.size := Nat.lt_of_lt_of_le lP95 hz
  replace HX69 := Lib.hid (HX69.out.below hb97 (show N68 ≤ W93.heap.size from (by have := CP26.out; have := CN27.out; have := CP58.out; have := CP59.out; have := CN60.out; have := CN61.out; have := CN68.out; have := CP71.out; have := CN72.out; have := CN73.out; have := CN78.out; have := CN80.out; have := CN85.out; have := CP94.out; have := CP95.out; have := CN96.out; omega)))
  replace HX79 := Lib.hid (HX79.out.below hb97 (show N78 ≤ W93.heap.size from (by have := CP26.out; have := CN27.out; have := CP58.out; have := CP59.out; have := CN60.out; have := CN61.out; have := CN68.out; have := CP71.out; have := CN72.out; have := CN73.out; have := CN78.out; have := CN80.out; have := CN85.out; have := CP94.out; have := CP95.out; have := CN96.out; omega)))
  replace HX86 := Lib.hid (HX86.out.below hb97 (show N85 ≤ W93.heap.size from (by have := CP26.out; have := CN27.out; have := CP58.out; have := CP59.out; have := CN60.out; have := CN61.out; have := CN68.out; have := CP71.out; have := CN72.out; have := CN73.out; have := CN78.out; have := CN80.out; have := CN85.out; have := CP94.out; have := CP95.out; have := CN96.out; omega)))
  replace top := Nat.le_trans top hz
  clear hb97 hz
  go_wp2_with fail
  refine (eqFrac_self n1 d1 _).mono ?_; rintro e W100 ⟨rfl, hb99⟩
  have hz := hb99.size
  replace hwc := hwc.trans (hb99.mono hwc.size)
  replace cP26_0 := (hb99.cell (p := ⟨P26, 0, none⟩) lP26).trans cP26_0
  replace cP26_1 := (hb99.cell (p := ⟨P26, 1, none⟩) lP26).trans cP26_1
  replace lP26 : P26 < W100.heap.size := Nat.lt_of_lt_of_le lP26 hz
  replace cP58_0 := (hb99.cell (p := ⟨P58, 0, none⟩) lP58).trans cP58_0
  replace cP58_1 := (hb99.cell (p := ⟨P58, 1, none⟩) lP58).trans cP58_1
  replace lP58 : P58 < W100.heap.size := Nat.lt_of_lt_of_le lP58 hz
  replace cP59_0 := (hb99.cell (p := ⟨P59, 0, none⟩) lP59).trans cP59_0
  replace cP59_1 := (hb99.cell (p := ⟨P59, 1, none⟩) lP59).trans cP59_1
  replace lP59 : P59 < W100.heap.size := Nat.lt_of_lt_of_le lP59 hz
  replace cP71_0 := (hb99.cell (p := ⟨P71, 0, none⟩) lP71).trans cP71_0
  replace cP71_1 := (hb99.cell (p := ⟨P71, 1, none⟩) lP71).trans cP71_1
  replace lP71 : P71 < W100.heap.size := Nat.lt_of_lt_of_le lP71 hz
  replace cP94_0 := (hb99.cell (p := ⟨P94, 0, none⟩) lP94).trans cP94_0
  replace cP94_1 := (hb99.cell (p := ⟨P94, 1, none⟩) lP94).trans cP94_1
  replace lP94 : P94 < W100.heap.size := Nat.lt_of_lt_of_le lP94 hz
  replace cP95_0 := (hb99.cell (p := ⟨P95, 0, none⟩) lP95).trans cP95_0
  replace cP95_1 := (hb99.cell (p := ⟨P95, 1, none⟩) lP95).trans cP95_1
  replace lP95 : P95 < W100.heap.size := Nat.lt_of_lt_of_le lP95 hz
  replace HX69 := Lib.hid (HX69.out.below hb99 (show N68 ≤ W98.heap.size from (by have := CP26.out; have := CN27.out; have := CP58.out; have := CP59.out; have := CN60.out; have := CN61.out; have := CN68.out; have := CP71.out; have := CN72.out; have := CN73.out; have := CN78.out; have := CN80.out; have := CN85.out; have := CP94.out; have := CP95.out; have := CN96.out; omega)))
  replace HX79 := Lib.hid (HX79.out.below hb99 (show N78 ≤ W98.heap.size from (by have := CP26.out; have := CN27.out; have := CP58.out; have := CP59.out; have := CN60.out; have := CN61.out; have := CN68.out; have := CP71.out; have := CN72.out; have := CN73.out; have := CN78.out; have := CN80.out; have := CN85.out; have := CP94.out; have := CP95.out; have := CN96.out; omega)))
  replace HX86 := Lib.hid (HX86.out.below hb99 (show N85 ≤ W98.heap.size from (by have := CP26.out; have := CN27.out; have := CP58.out; have := CP59.out; have := CN60.out; have := CN61.out; have := CN68.out; have := CP71.out; have := CN72.out; have := CN73.out; have := CN78.out; have := CN80.out; have := CN85.out; have := CP94.out; have := CP95.out; have := CN96.out; omega)))
  replace top := Nat.le_trans top hz
  clear hb99 hz
  have hrr := RngGx.reads HX69.out I00.out I01.out
  have RX101 := Lib.hid (hrr.1)
  have RX102 := Lib.hid (hrr.2)
  clear hrr
  have rp0 := fun (w' : World) (h : Below W100.heap.size W100 w') => (h.cell (p := ⟨P26, 0, none⟩) lP26).trans cP26_0
  have rp1 := fun (w' : World) (h : Below W100.heap.size W100 w') => (h.cell (p := ⟨P26, 1, none⟩) lP26).trans cP26_1
  have rv0 := fun (w' : World) (h : Below W100.heap.size W100 w') => (h.cell (p := ⟨P71, 0, none⟩) lP71).trans cP71_0
  have rv1 := fun (w' : World) (h : Below W100.heap.size W100 w') => (h.cell (p := ⟨P71, 1, none⟩) lP71).trans cP71_1
  clear cP26_0 cP26_1
  clear cP71_0 cP71_1
  go_wp2_with fail
  have hz9 := hwc.size
  go_region_held3 (fun w' => Below W100.heap.size W100 w') ((repeat' (first | (with_reducible exact Below.refl _ _) | (with_reducible assumption) | (with_reducible refine Below.alloc ?_ ?_ _) | (with_reducible refine Below.drew ?_) | (with_reducible refine below_drewN ?_ _) | (with_reducible refine Below.setCell ?_ ?_ _) | (with_reducible refine Below.trans ?_ (Below.mono (by with_reducible assumption) ?_)) | (with_reducible exact Below.size (by with_reducible assumption)) | go_size)))
    (first | (go_at_call 29; refine (toG_x _ _ X00 X01 _ (g00 _ (hwc.trans (Below.mono (by assumption) hz9))) (g01 _ (hwc.trans (Below.mono (by assumption) hz9))) HN0.out).mono ?_; rintro e w8 ⟨p103, q104, p105, q106, rfl, hr8, hb8⟩; have hS8 : Below W100.heap.size W100 w8 := (by (repeat' (first | (with_reducible exact Below.refl _ _) | (with_reducible assumption) | (with_reducible refine Below.alloc ?_ ?_ _) | (with_reducible refine Below.drew ?_) | (with_reducible refine below_drewN ?_ _) | (with_reducible refine Below.setCell ?_ ?_ _) | (with_reducible refine Below.trans ?_ (Below.mono (by with_reducible assumption) ?_)) | (with_reducible exact Below.size (by with_reducible assumption)) | go_size))); have R8 := Lib.hid (RngGx.reads hr8 I00.out I01.out); clear hr8) | (go_at_call 31; refine (eqG_x _ _ _ _ X00 X01 _ (RX101.out.below hS8) (RX102.out.below hS8) (R8.out.1) (R8.out.2)).mono ?_; rintro e w9 ⟨rfl, hb9⟩; have hS9 : Below W100.heap.size W100 w9 := (by (repeat' (first | (with_reducible exact Below.refl _ _) | (with_reducible assumption) | (with_reducible refine Below.alloc ?_ ?_ _) | (with_reducible refine Below.drew ?_) | (with_reducible refine below_drewN ?_ _) | (with_reducible refine Below.setCell ?_ ?_ _) | (with_reducible refine Below.trans ?_ (Below.mono (by with_reducible assumption) ?_)) | (with_reducible exact Below.size (by with_reducible assumption)) | go_size)))))
  clear R8 hS8 hb8 hb9 hz9 RX101 RX102
  have cP26_0 := rp0 _ hS9
  have cP26_1 := rp1 _ hS9
  have cP71_0 := rv0 _ hS9
  have cP71_1 := rv1 _ hS9
  clear rp0 rp1 rv0 rv1
  have hS9' := hS9
  have lP9 := Nat.lt_of_lt_of_le lP26 hS9.size
  have lV9 := Nat.lt_of_lt_of_le lP71 hS9.size
  clear hS9 lP26 lP71
  have lP26 := lP9
  have lP71 := lV9
  clear lP9 lV9
  have hz := hS9'.size
  replace hwc := hwc.trans (hS9'.mono hwc.size)
  replace cP58_0 := (hS9'.cell (p := ⟨P58, 0, none⟩) lP58).trans cP58_0
  replace cP58_1 := (hS9'.cell (p := ⟨P58, 1, none⟩) lP58).trans cP58_1
  replace lP58 : P58 < w9.heap.size := Nat.lt_of_lt_of_le lP58 hz
  replace cP59_0 := (hS9'.cell (p := ⟨P59, 0, none⟩) lP59).trans cP59_0
  replace cP59_1 := (hS9'.cell (p := ⟨P59, 1, none⟩) lP59).trans cP59_1
  replace lP59 : P59 < w9.heap.size := Nat.lt_of_lt_of_le lP59 hz
  replace cP94_0 := (hS9'.cell (p := ⟨P94, 0, none⟩) lP94).trans cP94_0
  replace cP94_1 := (hS9'.cell (p := ⟨P94, 1, none⟩) lP94).trans cP94_1
  replace lP94 : P94 < w9.heap.size := Nat.lt_of_lt_of_le lP94 hz
  replace cP95_0 := (hS9'.cell (p := ⟨P95, 0, none⟩) lP95).trans cP95_0
  replace cP95_1 := (hS9'.cell (p := ⟨P95, 1, none⟩) lP95).trans cP95_1
  replace lP95 : P95 < w9.heap.size := Nat.lt_of_lt_of_le lP95 hz
  replace HX69 := Lib.hid (HX69.out.below hS9' (show N68 ≤ W100.heap.size from (by have := CP26.out; have := CN27.out; have := CP58.out; have := CP59.out; have := CN60.out; have := CN61.out; have := CN68.out; have := CP71.out; have := CN72.out; have := CN73.out; have := CN78.out; have := CN80.out; have := CN85.out; have := CP94.out; have := CP95.out; have := CN96.out; omega)))
  replace HX79 := Lib.hid (HX79.out.below hS9' (show N78 ≤ W100.heap.size from (by have := CP26.out; have := CN27.out; have := CP58.out; have := CP59.out; have := CN60.out; have := CN61.out; have := CN68.out; have := CP71.out; have := CN72.out; have := CN73.out; have := CN78.out; have := CN80.out; have := CN85.out; have := CP94.out; have := CP95.out; have := CN96.out; omega)))
  replace HX86 := Lib.hid (HX86.out.below hS9' (show N85 ≤ W100.heap.size from (by have := CP26.out; have := CN27.out; have := CP58.out; have := CP59.out; have := CN60.out; have := CN61.out; have := CN68.out; have := CP71.out; have := CN72.out; have := CN73.out; have := CN78.out; have := CN80.out; have := CN85.out; have := CP94.out; have := CP95.out; have := CN96.out; omega)))
  replace top := Nat.le_trans top hz
  clear hS9' hz
  obtain ⟨W107, rfl⟩ : ∃ w', w' = w9 := ⟨_, rfl⟩
  go_wp2_with fail
  refine (toF_x _ X10 _ (g10 _ hwc) HN1.out).mono ?_; rintro e W109 ⟨p110, q111, rfl, hr, hb108⟩
  have RT := Lib.hid hr
  clear hr
  have hz := hb108.size
  replace hwc := hwc.trans (hb108.mono hwc.size)
  replace cP26_0 := (hb108.cell (p := ⟨P26, 0, none⟩) lP26).trans cP26_0
  replace cP26_1 := (hb108.cell (p := ⟨P26, 1, none⟩) lP26).trans cP26_1
  replace lP26 : P26 < W109.heap.size := Nat.lt_of_lt_of_le lP26 hz
  replace cP58_0 := (hb108.cell (p := ⟨P58, 0, none⟩) lP58).trans cP58_0
  replace cP58_1 := (hb108.cell (p := ⟨P58, 1, none⟩) lP58).trans cP58_1
  replace lP58 : P58 < W109.heap.size := Nat.lt_of_lt_of_le lP58 hz
  replace cP59_0 := (hb108.cell (p := ⟨P59, 0, none⟩) lP59).trans cP59_0
  replace cP59_1 := (hb108.cell (p := ⟨P59, 1, none⟩) lP59).trans cP59_1
  replace lP59 : P59 < W109.heap.size := Nat.lt_of_lt_of_le lP59 hz
  replace cP71_0 := (hb108.cell (p := ⟨P71, 0, none⟩) lP71).trans cP71_0
  replace cP71_1 := (hb108.cell (p := ⟨P71, 1, none⟩) lP71).trans cP71_1
  replace lP71 : P71 < W109.heap.size := Nat.lt_of_lt_of_le lP71 hz
  replace cP94_0 := (hb108.cell (p := ⟨P94, 0, none⟩) lP94).trans cP94_0
  replace cP94_1 := (hb108.cell (p := ⟨P94, 1, none⟩) lP94).trans cP94_1
  replace lP94 : P94 < W109.heap.size := Nat.lt_of_lt_of_le lP94 hz
  replace cP95_0 := (hb108.cell (p := ⟨P95, 0, none⟩) lP95).trans cP95_0
  replace cP95_1 := (hb108.cell (p := ⟨P95, 1, none⟩) lP95).trans cP95_1
  replace lP95 : P95 < W109.heap.size := Nat.lt_of_lt_of_le lP95 hz
  replace HX69 := Lib.hid (HX69.out.below hb108 (show N68 ≤ W107.heap.size from (by have := CP26.out; have := CN27.out; have := CP58.out; have := CP59.out; have := CN60.out; have := CN61.out; have := CN68.out; have := CP71.out; have := CN72.out; have := CN73.out; have := CN78.out; have := CN80.out; have := CN85.out; have := CP94.out; have := CP95.out; have := CN96.out; omega)))
  replace HX79 := Lib.hid (HX79.out.below hb108 (show N78 ≤ W107.heap.size from (by have := CP26.out; have := CN27.out; have := CP58.out; have := CP59.out; have := CN60.out; have := CN61.out; have := CN68.out; have := CP71.out; have := CN72.out; have := CN73.out; have := CN78.out; have := CN80.out; have := CN85.out; have := CP94.out; have := CP95.out; have := CN96.out; omega)))
  replace HX86 := Lib.hid (HX86.out.below hb108 (show N85 ≤ W107.heap.size from (by have := CP26.out; have := CN27.out; have := CP58.out; have := CP59.out; have := CN60.out; have := CN61.out; have := CN68.out; have := CP71.out; have := CN72.out; have := CN73.out; have := CN78.out; have := CN80.out; have := CN85.out; have := CP94.out; have := CP95.out; have := CN96.out; omega)))
  replace top := Nat.le_trans top hz
  clear hb108 hz
  go_wp2_with fail
  refine (eqF_x _ _ X10 _ HX79.out RT.out I10.out HN1.out).mono ?_; rintro e W113 ⟨rfl, hb112⟩
  clear RT
  have hz := hb112.size
  replace hwc := hwc.trans (hb112.mono hwc.size)
  replace cP26_0 := (hb112.cell (p := ⟨P26, 0, none⟩) lP26).trans cP26_0
  replace cP26_1 := (hb112.cell (p := ⟨P26, 1, none⟩) lP26).trans cP26_1
  replace lP26 : P26 < W113.heap.size := Nat.lt_of_lt_of_le lP26 hz
  replace cP58_0 := (hb112.cell (p := ⟨P58, 0, none⟩) lP58).trans cP58_0
  replace cP58_1 := (hb112.cell (p := ⟨P58, 1, none⟩) lP58).trans cP58_1
  replace lP58 : P58 < W113.heap.size := Nat.lt_of_lt_of_le lP58 hz
  replace cP59_0 := (hb112.cell (p := ⟨P59, 0, none⟩) lP59).trans cP59_0
  replace cP59_1 := (hb112.cell (p := ⟨P59, 1, none⟩) lP59).trans cP59_1
  replace lP59 : P59 < W113.heap.size := Nat.lt_of_lt_of_le lP59 hz
  replace cP71_0 := (hb112.cell (p := ⟨P71, 0, none⟩) lP71).trans cP71_0
  replace cP71_1 := (hb112.cell (p := ⟨P71, 1, none⟩) lP71).trans cP71_1
  replace lP71 : P71 < W113.heap.size := Nat.lt_of_lt_of_le lP71 hz
  replace cP94_0 := (hb112.cell (p := ⟨P94, 0, none⟩) lP94).trans cP94_0
  replace cP94_1 := (hb112.cell (p := ⟨P94, 1, none⟩) lP94).trans cP94_1
  replace lP94 : P94 < W113.heap.size := Nat.lt_of_lt_of_le lP94 hz
  replace cP95_0 := (hb112.cell (p := ⟨P95, 0, none⟩) lP95).trans cP95_0
  replace cP95_1 := (hb112.cell (p := ⟨P95, 1, none⟩) lP95).trans cP95_1
  replace lP95 : P95 < W113.heap.size := Nat.lt_of_lt_of_le lP95 hz
  replace HX69 := Lib.hid (HX69.out.below hb112 (show N68 ≤ W109.heap.size from (by have := CP26.out; have := CN27.out; have := CP58.out; have := CP59.out; have := CN60.out; have := CN61.out; have := CN68.out; have := CP71.out; have := CN72.out; have := CN73.out; have := CN78.out; have := CN80.out; have := CN85.out; have := CP94.out; have := CP95.out; have := CN96.out; omega)))
  replace HX79 := Lib.hid (HX79.out.below hb112 (show N78 ≤ W109.heap.size from (by have := CP26.out; have := CN27.out; have := CP58.out; have := CP59.out; have := CN60.out; have := CN61.out; have := CN68.out; have := CP71.out; have := CN72.out; have := CN73.out; have := CN78.out; have := CN80.out; have := CN85.out; have := CP94.out; have := CP95.out; have := CN96.out; omega)))
  replace HX86 := Lib.hid (HX86.out.below hb112 (show N85 ≤ W109.heap.size from (by have := CP26.out; have := CN27.out; have := CP58.out; have := CP59.out; have := CN60.out; have := CN61.out; have := CN68.out; have := CP71.out; have := CN72.out; have := CN73.out; have := CN78.out; have := CN80.out; have := CN85.out; have := CP94.out; have := CP95.out; have := CN96.out; omega)))
  replace top := Nat.le_trans top hz
  clear hb112 hz
  go_wp2_with fail
  refine (toF_x _ X20 _ (g20 _ hwc) HN2.out).mono ?_; rintro e W115 ⟨p116, q117, rfl, hr, hb114⟩
  have RT := Lib.hid hr
  clear hr
  have hz := hb114.size
  replace hwc := hwc.trans (hb114.mono hwc.size)
  replace cP26_0 := (hb114.cell (p := ⟨P26, 0, none⟩) lP26).trans cP26_0
  replace cP26_1 := (hb114.cell (p := ⟨P26, 1, none⟩) lP26).trans cP26_1
  replace lP26 : P26 < W115.heap.size := Nat.lt_of_lt_of_le lP26 hz
  replace cP58_0 := (hb114.cell (p := ⟨P58, 0, none⟩) lP58).trans cP58_0
  replace cP58_1 := (hb114.cell (p := ⟨P58, 1, none⟩) lP58).trans cP58_1
  replace lP58 : P58 < W115.heap.size := Nat.lt_of_lt_of_le lP58 hz
  replace cP59_0 := (hb114.cell (p := ⟨P59, 0, none⟩) lP59).trans cP59_0
  replace cP59_1 := (hb114.cell (p := ⟨P59, 1, none⟩) lP59).trans cP59_1
  replace lP59 : P59 < W115.heap.size := Nat.lt_of_lt_of_le lP59 hz
  replace cP71_0 := (hb114.cell (p := ⟨P71, 0, none⟩) lP71).trans cP71_0
  replace cP71_1 := (hb114.cell (p := ⟨P71, 1, none⟩) lP71).trans cP71_1
  replace lP71 : P71 < W115.heap.size := Nat.lt_of_lt_of_le lP71 hz
  replace cP94_0 := (hb114.cell (p := ⟨P94, 0, none⟩) lP94).trans cP94_0
  replace cP94_1 := (hb114.cell (p := ⟨P94, 1, none⟩) lP94).trans cP94_1
  replace lP94 : P94 < W115.heap.size := Nat.lt_of_lt_of_le lP94 hz
  replace cP95_0 := (hb114.cell (p := ⟨P95, 0, none⟩) lP95).trans cP95_0
  replace cP95_1 := (hb114.cell (p := ⟨P95, 1, none⟩) lP95).trans cP95_1
  replace lP95 : P95 < W115.heap.size := Nat.lt_of_lt_of_le lP95 hz
  replace HX69 := Lib.hid (HX69.out.below hb114 (show N68 ≤ W113.heap.size from (by have := CP26.out; have := CN27.out; have := CP58.out; have := CP59.out; have := CN60.out; have := CN61.out; have := CN68.out; have := CP71.out; have := CN72.out; have := CN73.out; have := CN78.out; have := CN80.out; have := CN85.out; have := CP94.out; have := CP95.out; have := CN96.out; omega)))
  replace HX79 := Lib.hid (HX79.out.below hb114 (show N78 ≤ W113.heap.size from (by have := CP26.out; have := CN27.out; have := CP58.out; have := CP59.out; have := CN60.out; have := CN61.out; have := CN68.out; have := CP71.out; have := CN72.out; have := CN73.out; have := CN78.out; have := CN80.out; have := CN85.out; have := CP94.out; have := CP95.out; have := CN96.out; omega)))
  replace HX86 := Lib.hid (HX86.out.below hb114 (show N85 ≤ W113.heap.size from (by have := CP26.out; have := CN27.out; have := CP58.out; have := CP59.out; have := CN60.out; have := CN61.out; have := CN68.out; have := CP71.out; have := CN72.out; have := CN73.out; have := CN78.out; have := CN80.out; have := CN85.out; have := CP94.out; have := CP95.out; have := CN96.out; omega)))
  replace top := Nat.le_trans top hz
  clear hb114 hz
  go_wp2_with fail
  refine (eqF_x _ _ X20 _ HX86.out RT.out I20.out HN2.out).mono ?_; rintro e W119 ⟨rfl, hb118⟩
  clear RT
  have hz := hb118.size
  replace hwc := hwc.trans (hb118.mono hwc.size)
  replace cP26_0 := (hb118.cell (p := ⟨P26, 0, none⟩) lP26).trans cP26_0
  replace cP26_1 := (hb118.cell (p := ⟨P26, 1, none⟩) lP26).trans cP26_1
  replace lP26 : P26 < W119.heap.size := Nat.lt_of_lt_of_le lP26 hz
  replace cP58_0 := (hb118.cell (p := ⟨P58, 0, none⟩) lP58).trans cP58_0
  replace cP58_1 := (hb118.cell (p := ⟨P58, 1, none⟩) lP58).trans cP58_1
  replace lP58 : P58 < W119.heap.size := Nat.lt_of_lt_of_le lP58 hz
  replace cP59_0 := (hb118.cell (p := ⟨P59, 0, none⟩) lP59).trans cP59_0
  replace cP59_1 := (hb118.cell (p := ⟨P59, 1, none⟩) lP59).trans cP59_1
  replace lP59 : P59 < W119.heap.size := Nat.lt_of_lt_of_le lP59 hz
  replace cP71_0 := (hb118.cell (p := ⟨P71, 0, none⟩) lP71).trans cP71_0
  replace cP71_1 := (hb118.cell (p := ⟨P71, 1, none⟩) lP71).trans cP71_1
  replace lP71 : P71 < W119.heap.size := Nat.lt_of_lt_of_le lP71 hz
  replace cP94_0 := (hb118.cell (p := ⟨P94, 0, none⟩) lP94).trans cP94_0
  replace cP94_1 := (hb118.cell (p := ⟨P94, 1, none⟩) lP94).trans cP94_1
  replace lP94 : P94 < W119.heap.size := Nat.lt_of_lt_of_le lP94 hz
  replace cP95_0 := (hb118.cell (p := ⟨P95, 0, none⟩) lP95).trans cP95_0
  replace cP95_1 := (hb118.cell (p := ⟨P95, 1, none⟩) lP95).trans cP95_1
  replace lP95 : P95 < W119.heap.size := Nat.lt_of_lt_of_le lP95 hz
  replace HX69 := Lib.hid (HX69.out.below hb118 (show N68 ≤ W115.heap.size from (by have := CP26.out; have := CN27.out; have := CP58.out; have := CP59.out; have := CN60.out; have := CN61.out; have := CN68.out; have := CP71.out; have := CN72.out; have := CN73.out; have := CN78.out; have := CN80.out; have := CN85.out; have := CP94.out; have := CP95.out; have := CN96.out; omega)))
  replace HX79 := Lib.hid (HX79.out.below hb118 (show N78 ≤ W115.heap.size from (by have := CP26.out; have := CN27.out; have := CP58.out; have := CP59.out; have := CN60.out; have := CN61.out; have := CN68.out; have := CP71.out; have := CN72.out; have := CN73.out; have := CN78.out; have := CN80.out; have := CN85.out; have := CP94.out; have := CP95.out; have := CN96.out; omega)))
  replace HX86 := Lib.hid (HX86.out.below hb118 (show N85 ≤ W115.heap.size from (by have := CP26.out; have := CN27.out; have := CP58.out; have := CP59.out; have := CN60.out; have := CN61.out; have := CN68.out; have := CP71.out; have := CN72.out; have := CN73.out; have := CN78.out; have := CN80.out; have := CN85.out; have := CP94.out; have := CP95.out; have := CN96.out; omega)))
  replace top := Nat.le_trans top hz
  clear hb118 hz
  go_wp2_with fail
  go_ret
  exact ⟨rfl, hwc⟩
end Go.Proofs.Ytimcokealhnfhaa.PW
