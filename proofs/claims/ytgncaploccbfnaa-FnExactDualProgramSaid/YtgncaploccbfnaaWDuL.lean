/-
  DualProgram: the bounds of its answer, and the exact law.
-/
import Derived.Test.YtgncaploccbfnaaWDui
namespace Go.Proofs.Ytgncaploccbfnaa.PW
open Go.RowKit Go.Proofs.Ytgncaploccbfnaa
open Go.Proofs.Ytgncaploccbfnaa.PM
theorem negL_i64 {B : List Int} (hb : ∀ j, j < B.length → -100 ≤ B.getD j 0 ∧ B.getD j 0 ≤ 100) : ∀ x ∈ negL B, I64 x := fun x hx => by
  unfold negL at hx
  obtain ⟨y, hy, rfl⟩ := List.mem_map.1 hx
  obtain ⟨i, hi, rfl⟩ := List.getElem_of_mem hy
  have := hb i hi
  rw [List.getD_eq_getElem?_getD, List.getElem?_eq_getElem hi, Option.getD_some] at this
  unfold I64
  omega
theorem duRows_tot (A : List (List Int)) (m n : Nat) (h : n + m ≤ 5) : PM.tot (duRows A m n) ≤ 100 := by
  unfold PM.tot
  have ht : ((duRows A m n).map List.length).sum = n * m := by
    unfold duRows
    rw [List.map_map]
    have : (List.length ∘ duRow A m) = fun _ => m := by funext i; simp [duRow]
    rw [this, List.map_const', List.sum_replicate_nat]
    simp
  rw [ht, duRows_length]
  have : n * m ≤ 5 * 5 := Nat.mul_le_mul (by omega) (by omega)
  omega
theorem zeros_tot (m : Nat) (h : m ≤ 5) : PM.tot (tab m (fun _ _ => (0 : Int))) ≤ 100 := by
  unfold PM.tot
  have ht : ((tab m (fun _ _ => (0 : Int))).map List.length).sum = m * m := by
    unfold tab
    rw [List.map_map]
    have : (List.length ∘ fun (_ : Nat) => (List.range m).map (fun _ => (0 : Int))) = fun _ => m := by funext i; simp
    rw [this, List.map_const', List.sum_replicate_nat]
    simp
  rw [ht, tab_length]
  have : m * m ≤ 5 * 5 := Nat.mul_le_mul h h
  omega
theorem fine_du (D : List (List Int)) (C : List Int) (A : List (List Int)) (B : List Int) : FineWx (duOut D C A B).1 (duOut D C A B).2.1 (duOut D C A B).2.2.1 (duOut D C A B).2.2.2.1 := by
  have hnil : FineWx [] [] [] [] := ⟨fun i hi => absurd hi (Nat.not_lt_zero _), fun x hx => by simp at hx, fun i hi => absurd hi (Nat.not_lt_zero _), fun x hx => by simp at hx, by unfold szWn; simp [PM.tot]⟩
  cases hc : isWB D C A B
  · rw [du_no hc]; exact hnil
  by_cases hl : linB D = true ∧ 1 ≤ B.length
  case neg => rw [du_five hc hl]; exact hnil
  rw [du_ok hc hl]
  have h := (isWB_is D C A B).1 hc
  have h5 := h.n5
  refine ⟨fun i hi x hx => ?_, negL_i64 h.b, fun i hi x hx => ?_, negL_i64 h.c, ?_⟩
  · dsimp only at hi hx
    rw [tab_length] at hi
    rw [tab_row _ _ _ hi] at hx
    obtain ⟨j, _, rfl⟩ := List.mem_map.1 hx
    unfold I64; omega
  · dsimp only at hi hx
    rw [duRows_length] at hi
    have e : (duRows A B.length C.length).getD i [] = duRow A B.length i := by simp [duRows, hi]
    rw [e] at hx
    unfold duRow at hx
    obtain ⟨j, hj, rfl⟩ := List.mem_map.1 hx
    have := h.ak j (by simpa using hj) i hi
    unfold I64; omega
  · unfold szWn
    have t1 := zeros_tot B.length (by omega)
    have t2 := duRows_tot A B.length C.length (by omega)
    dsimp only
    rw [negL_length, negL_length]
    omega
set_option maxHeartbeats 8000000 in
theorem law_FnExactDualProgram (v00 v01 v02 v03 : Value) (X00 : List (List Int)) (X01 : List Int) (X02 : List (List Int)) (X03 : List Int) (w : World) (h00 : PM.Rows w v00 X00) (h01 : Ints w v01 X01) (h02 : PM.Rows w v02 X02) (h03 : Ints w v03 X03) :
    Calls Try.prog 11 #[.agg #[v00, v01, v02, v03]] w fun e w' => e = .returned (.bool true) ∧ Below w.heap.size w w' := by
  have g00 := fun (w' : World) (h : Below w.heap.size w w') => h00.below h
  have I00 := Lib.hid (rows_I64 h00)
  obtain ⟨a00, c00, rfl, _⟩ := h00
  have g01 := fun (w' : World) (h : Below w.heap.size w w') => h01.below h
  have I01 := Lib.hid (ints_I64 h01)
  obtain ⟨a01, c01, rfl, _⟩ := h01
  have g02 := fun (w' : World) (h : Below w.heap.size w w') => h02.below h
  have I02 := Lib.hid (rows_I64 h02)
  obtain ⟨a02, c02, rfl, _⟩ := h02
  have g03 := fun (w' : World) (h : Below w.heap.size w w') => h03.below h
  have I03 := Lib.hid (ints_I64 h03)
  obtain ⟨a03, c03, rfl, _⟩ := h03
  by_cases hz0 : szI (szWn X00 X01 X02 X03) 1048576 < 0
  · have E1 := Lib.hid (szx_neg hz0)
    clear hz0
    go_enter Try.func11, Try.ntmps11
    have hwc : Below w.heap.size w w := Below.refl _ _
    go_wp2_with fail
    obtain ⟨W1, hW1⟩ : ∃ w', w' = (w.alloc (.cells #[.slice a00 (X00).length c00, .slice a01 (X01).length c01, .slice a02 (X02).length c02, .slice a03 (X03).length c03] 51)) := ⟨_, rfl⟩
    rw [← hW1]
    have hbx : Below w.heap.size w W1 := by rw [hW1]; exact ((Below.refl _ _).alloc (by simp) _)
    obtain ⟨P2, hP2⟩ : ∃ n, n = w.heap.size := ⟨_, rfl⟩
    have cP2_0 : W1.cell? ⟨P2, 0, none⟩ = some (.slice a00 (X00).length c00) := by rw [hW1, hP2]; simp [go_sem]
    have cP2_1 : W1.cell? ⟨P2, 1, none⟩ = some (.slice a01 (X01).length c01) := by rw [hW1, hP2]; simp [go_sem]
    have cP2_2 : W1.cell? ⟨P2, 2, none⟩ = some (.slice a02 (X02).length c02) := by rw [hW1, hP2]; simp [go_sem]
    have cP2_3 : W1.cell? ⟨P2, 3, none⟩ = some (.slice a03 (X03).length c03) := by rw [hW1, hP2]; simp [go_sem]
    have lP2 : P2 < W1.heap.size := by rw [hW1, hP2]; simp
    have CP2 := Lib.hid (show w.heap.size ≤ P2 from by rw [hP2]; exact hwc.size)
    rw [← hP2]
    clear hP2 hW1
    have hz := hbx.size
    replace hwc := hwc.trans (hbx.mono hwc.size)
    clear hbx hz
    obtain ⟨N3, hN3⟩ : ∃ n, n = W1.heap.size := ⟨_, rfl⟩
    have CN3 := Lib.hid (show P2 < N3 from by rw [hN3]; exact lP2)
    have top : N3 ≤ W1.heap.size := Nat.le_of_eq hN3
    clear hN3
    refine (szW_x _ _ _ _ X00 X01 X02 X03 _ _ (g00 _ hwc) (g01 _ hwc) (g02 _ hwc) (g03 _ hwc) (by omega) (by omega)).mono ?_; rw [E1.out]; rintro e W5 ⟨rfl, hb4⟩
    have hz := hb4.size
    replace hwc := hwc.trans (hb4.mono hwc.size)
    replace cP2_0 := (hb4.cell (p := ⟨P2, 0, none⟩) lP2).trans cP2_0
    replace cP2_1 := (hb4.cell (p := ⟨P2, 1, none⟩) lP2).trans cP2_1
    replace cP2_2 := (hb4.cell (p := ⟨P2, 2, none⟩) lP2).trans cP2_2
    replace cP2_3 := (hb4.cell (p := ⟨P2, 3, none⟩) lP2).trans cP2_3
    replace lP2 : P2 < W5.heap.size := Nat.lt_of_lt_of_le lP2 hz
    replace top := Nat.le_trans top hz
    clear hb4 hz
    go_wp2_with fail
    go_ret
    exact ⟨rfl, hwc⟩
  obtain ⟨hf0, hle0⟩ := szx_fits hz0
  have hn0 : (szWn X00 X01 X02 X03) ≤ 1048576 := by omega
  have HN0 := Lib.hid hn0
  clear hn0 hf0
  have hspec := fun (v00 v01 v02 v03 : Value) (w : World) (h0 : PM.Rows w v00 X00) (h1 : Ints w v01 X01) (h2 : PM.Rows w v02 X02) (h3 : Ints w v03 X03) => specDualProgram_any v00 v01 v02 v03 X00 X01 X02 X03  w h0 h1 h2 h3 HN0.out
  have himpl := fun (v00 v01 v02 v03 : Value) (w : World) (h0 : PM.Rows w v00 X00) (h1 : Ints w v01 X01) (h2 : PM.Rows w v02 X02) (h3 : Ints w v03 X03) => implDualProgram_any v00 v01 v02 v03 X00 X01 X02 X03  w h0 h1 h2 h3 HN0.out
  have hfine := fine_du X00 X01 X02 X03 
  generalize duOut X00 X01 X02 X03  = o at *
  obtain ⟨O00, O01, O02, O03, o1⟩ := o
  have HS := Lib.hid hspec
  have HI := Lib.hid himpl
  clear hspec himpl
  have HF0 : Hid (FineWx O00 O01 O02 O03) := Lib.hid hfine
  clear hfine
  go_enter Try.func11, Try.ntmps11
  have hwc : Below w.heap.size w w := Below.refl _ _
  go_wp2_with fail
  obtain ⟨W6, hW6⟩ : ∃ w', w' = (w.alloc (.cells #[.slice a00 (X00).length c00, .slice a01 (X01).length c01, .slice a02 (X02).length c02, .slice a03 (X03).length c03] 51)) := ⟨_, rfl⟩
  rw [← hW6]
  have hbx : Below w.heap.size w W6 := by rw [hW6]; exact ((Below.refl _ _).alloc (by simp) _)
  obtain ⟨P7, hP7⟩ : ∃ n, n = w.heap.size := ⟨_, rfl⟩
  have cP7_0 : W6.cell? ⟨P7, 0, none⟩ = some (.slice a00 (X00).length c00) := by rw [hW6, hP7]; simp [go_sem]
  have cP7_1 : W6.cell? ⟨P7, 1, none⟩ = some (.slice a01 (X01).length c01) := by rw [hW6, hP7]; simp [go_sem]
  have cP7_2 : W6.cell? ⟨P7, 2, none⟩ = some (.slice a02 (X02).length c02) := by rw [hW6, hP7]; simp [go_sem]
  have cP7_3 : W6.cell? ⟨P7, 3, none⟩ = some (.slice a03 (X03).length c03) := by rw [hW6, hP7]; simp [go_sem]
  have lP7 : P7 < W6.heap.size := by rw [hW6, hP7]; simp
  have CP7 := Lib.hid (show w.heap.size ≤ P7 from by rw [hP7]; exact hwc.size)
  rw [← hP7]
  clear hP7 hW6
  have hz := hbx.size
  replace hwc := hwc.trans (hbx.mono hwc.size)
  clear hbx hz
  obtain ⟨N8, hN8⟩ : ∃ n, n = W6.heap.size := ⟨_, rfl⟩
  have CN8 := Lib.hid (show P7 < N8 from by rw [hN8]; exact lP7)
  have top : N8 ≤ W6.heap.size := Nat.le_of_eq hN8
  clear hN8
  refine (szW_x _ _ _ _ X00 X01 X02 X03 _ _ (g00 _ hwc) (g01 _ hwc) (g02 _ hwc) (g03 _ hwc) (by omega) (by omega)).mono ?_; rintro e W10 ⟨rfl, hb9⟩
  have hz := hb9.size
  replace hwc := hwc.trans (hb9.mono hwc.size)
  replace cP7_0 := (hb9.cell (p := ⟨P7, 0, none⟩) lP7).trans cP7_0
  replace cP7_1 := (hb9.cell (p := ⟨P7, 1, none⟩) lP7).trans cP7_1
  replace cP7_2 := (hb9.cell (p := ⟨P7, 2, none⟩) lP7).trans cP7_2
  replace cP7_3 := (hb9.cell (p := ⟨P7, 3, none⟩) lP7).trans cP7_3
  replace lP7 : P7 < W10.heap.size := Nat.lt_of_lt_of_le lP7 hz
  replace top := Nat.le_trans top hz
  clear hb9 hz
  generalize szI (szWn X00 X01 X02 X03) 1048576 = lf11 at *
  go_wp2_with fail
  clear hz0 hle0
  refine (toW_x _ _ _ _ X00 X01 X02 X03 _ (g00 _ hwc) (g01 _ hwc) (g02 _ hwc) (g03 _ hwc) HN0.out).mono ?_; rintro e W13 ⟨p14, q15, p16, q17, p18, q19, p20, q21, rfl, hr, hb12⟩
  have hrr := RngWx.reads hr I00.out I01.out I02.out I03.out
  have RD22 := Lib.hid (hrr.1)
  have RD23 := Lib.hid (hrr.2.1)
  have RD24 := Lib.hid (hrr.2.2.1)
  have RD25 := Lib.hid (hrr.2.2.2)
  clear hrr
  clear hr
  have hz := hb12.size
  replace hwc := hwc.trans (hb12.mono hwc.size)
  replace cP7_0 := (hb12.cell (p := ⟨P7, 0, none⟩) lP7).trans cP7_0
  replace cP7_1 := (hb12.cell (p := ⟨P7, 1, none⟩) lP7).trans cP7_1
  replace cP7_2 := (hb12.cell (p := ⟨P7, 2, none⟩) lP7).trans cP7_2
  replace cP7_3 := (hb12.cell (p := ⟨P7, 3, none⟩) lP7).trans cP7_3
  replace lP7 : P7 < W13.heap.size := Nat.lt_of_lt_of_le lP7 hz
  replace top := Nat.le_trans top hz
  clear hb12 hz
  go_wp2_with fail
  obtain ⟨N28, hN28⟩ : ∃ N28, N28 = W13.heap.size := ⟨_, rfl⟩
  have CN28 := Lib.hid (show N8 ≤ N28 from by rw [hN28]; exact top)
  have top' : N28 ≤ W13.heap.size := Nat.le_of_eq hN28
  clear top
  have top := top'
  clear top'
  refine (HS.out _ _ _ _ _ RD22.out RD23.out RD24.out RD25.out).mono ?_; rintro e W26 ho; obtain ⟨p29, q30, p31, q32, p33, q34, p35, q36, rfl, hr0, hb27⟩ := ho.out; clear ho; dsimp only at hr0; dsimp only
  rw [← hN28] at hr0
  clear hN28
  have hz := hb27.size
  replace hwc := hwc.trans (hb27.mono hwc.size)
  replace cP7_0 := (hb27.cell (p := ⟨P7, 0, none⟩) lP7).trans cP7_0
  replace cP7_1 := (hb27.cell (p := ⟨P7, 1, none⟩) lP7).trans cP7_1
  replace cP7_2 := (hb27.cell (p := ⟨P7, 2, none⟩) lP7).trans cP7_2
  replace cP7_3 := (hb27.cell (p := ⟨P7, 3, none⟩) lP7).trans cP7_3
  replace lP7 : P7 < W26.heap.size := Nat.lt_of_lt_of_le lP7 hz
  replace RD22 := Lib.hid (RD22.out.below hb27)
  replace RD23 := Lib.hid (RD23.out.below hb27)
  replace RD24 := Lib.hid (RD24.out.below hb27)
  replace RD25 := Lib.hid (RD25.out.below hb27)
  replace top := Nat.le_trans top hz
  clear hb27 hz
  obtain ⟨N37, hN37⟩ : ∃ N37, N37 = W26.heap.size := ⟨_, rfl⟩
  have CN37 := Lib.hid (show N28 ≤ N37 from by rw [hN37]; exact top)
  have top' : N37 ≤ W26.heap.size := Nat.le_of_eq hN37
  clear top
  have top := top'
  clear top'
  rw [← hN37] at hr0
  clear hN37
  have HA38 := Lib.hid hr0
  clear hr0
  go_wp2_with fail
  obtain ⟨W39, hW39⟩ : ∃ w', w' = (W26.alloc (.cells #[.slice p29 (O00).length q30, .slice p31 (O01).length q32, .slice p33 (O02).length q34, .slice p35 (O03).length q36] 54)) := ⟨_, rfl⟩
  rw [← hW39]
  have hbx : Below W26.heap.size W26 W39 := by rw [hW39]; exact ((Below.refl _ _).alloc (by simp) _)
  obtain ⟨P40, hP40⟩ : ∃ n, n = W26.heap.size := ⟨_, rfl⟩
  have cP40_0 : W39.cell? ⟨P40, 0, none⟩ = some (.slice p29 (O00).length q30) := by rw [hW39, hP40]; simp [go_sem]
  have cP40_1 : W39.cell? ⟨P40, 1, none⟩ = some (.slice p31 (O01).length q32) := by rw [hW39, hP40]; simp [go_sem]
  have cP40_2 : W39.cell? ⟨P40, 2, none⟩ = some (.slice p33 (O02).length q34) := by rw [hW39, hP40]; simp [go_sem]
  have cP40_3 : W39.cell? ⟨P40, 3, none⟩ = some (.slice p35 (O03).length q36) := by rw [hW39, hP40]; simp [go_sem]
  have lP40 : P40 < W39.heap.size := by rw [hW39, hP40]; simp
  have CP40 := Lib.hid (show N37 ≤ P40 from by rw [hP40]; exact top)
  rw [← hP40]
  clear hP40 hW39
  have hz := hbx.size
  replace hwc := hwc.trans (hbx.mono hwc.size)
  replace cP7_0 := (hbx.cell (p := ⟨P7, 0, none⟩) lP7).trans cP7_0
  replace cP7_1 := (hbx.cell (p := ⟨P7, 1, none⟩) lP7).trans cP7_1
  replace cP7_2 := (hbx.cell (p := ⟨P7, 2, none⟩) lP7).trans cP7_2
  replace cP7_3 := (hbx.cell (p := ⟨P7, 3, none⟩) lP7).trans cP7_3
  replace lP7 : P7 < W39.heap.size := Nat.lt_of_lt_of_le lP7 hz
  replace RD22 := Lib.hid (RD22.out.below hbx)
  replace RD23 := Lib.hid (RD23.out.below hbx)
  replace RD24 := Lib.hid (RD24.out.below hbx)
  replace RD25 := Lib.hid (RD25.out.below hbx)
  replace HA38 := Lib.hid (HA38.out.below hbx (show N37 ≤ W26.heap.size from (by have := CP7.out; have := CN8.out; have := CN28.out; have := CN37.out; have := CP40.out; omega)))
  replace top := Nat.le_trans top hz
  clear hbx hz
  clear top
  obtain ⟨N41, hN41⟩ : ∃ n, n = W39.heap.size := ⟨_, rfl⟩
  have CN41 := Lib.hid (show P40 < N41 from by rw [hN41]; exact lP40)
  have top : N41 ≤ W39.heap.size := Nat.le_of_eq hN41
  clear hN41
  clear RD22 RD23 RD24 RD25
  obtain ⟨N42, hN42⟩ : ∃ N42, N42 = W39.heap.size := ⟨_, rfl⟩
  have CN42 := Lib.hid (show N41 ≤ N42 from by rw [hN42]; exact top)
  have top' : N42 ≤ W39.heap.size := Nat.le_of_eq hN42
  clear top
  have top := top'
  clear top'
  refine (toW_x _ _ _ _ X00 X01 X02 X03 _ (g00 _ hwc) (g01 _ hwc) (g02 _ hwc) (g03 _ hwc) HN0.out).mono ?_; rintro e W44 ⟨p45, q46, p47, q48, p49, q50, p51, q52, rfl, hr, hb43⟩
  rw [← hN42] at hr
  clear hN42
  have hz := hb43.size
  replace hwc := hwc.trans (hb43.mono hwc.size)
  replace cP7_0 := (hb43.cell (p := ⟨P7, 0, none⟩) lP7).trans cP7_0
  replace cP7_1 := (hb43.cell (p := ⟨P7, 1, none⟩) lP7).trans cP7_1
  replace cP7_2 := (hb43.cell (p := ⟨P7, 2, none⟩) lP7).trans cP7_2
  replace cP7_3 := (hb43.cell (p := ⟨P7, 3, none⟩) lP7).trans cP7_3
  replace lP7 : P7 < W44.heap.size := Nat.lt_of_lt_of_le lP7 hz
  replace cP40_0 := (hb43.cell (p := ⟨P40, 0, none⟩) lP40).trans cP40_0
  replace cP40_1 := (hb43.cell (p := ⟨P40, 1, none⟩) lP40).trans cP40_1
  replace cP40_2 := (hb43.cell (p := ⟨P40, 2, none⟩) lP40).trans cP40_2
  replace cP40_3 := (hb43.cell (p := ⟨P40, 3, none⟩) lP40).trans cP40_3
  replace lP40 : P40 < W44.heap.size := Nat.lt_of_lt_of_le lP40 hz
  replace HA38 := Lib.hid (HA38.out.below hb43 (show N37 ≤ W39.heap.size from (by have := CP7.out; have := CN8.out; have := CN28.out; have := CN37.out; have := CP40.out; have := CN41.out; have := CN42.out; omega)))
  replace top := Nat.le_trans top hz
  clear hb43 hz
  obtain ⟨N53, hN53⟩ : ∃ N53, N53 = W44.heap.size := ⟨_, rfl⟩
  have CN53 := Lib.hid (show N42 ≤ N53 from by rw [hN53]; exact top)
  have top' : N53 ≤ W44.heap.size := Nat.le_of_eq hN53
  clear top
  have top := top'
  clear top'
  rw [← hN53] at hr
  clear hN53
  have HX54 := Lib.hid hr
  clear hr
  go_wp2_with fail
  obtain ⟨W55, hW55⟩ : ∃ w', w' = (W44.alloc (.cells #[.slice p45 (X00).length q46, .slice p47 (X01).length q48, .slice p49 (X02).length q50, .slice p51 (X03).length q52] 54)) := ⟨_, rfl⟩
  rw [← hW55]
  have hbx : Below W44.heap.size W44 W55 := by rw [hW55]; exact ((Below.refl _ _).alloc (by simp) _)
  obtain ⟨P56, hP56⟩ : ∃ n, n = W44.heap.size := ⟨_, rfl⟩
  have cP56_0 : W55.cell? ⟨P56, 0, none⟩ = some (.slice p45 (X00).length q46) := by rw [hW55, hP56]; simp [go_sem]
  have cP56_1 : W55.cell? ⟨P56, 1, none⟩ = some (.slice p47 (X01).length q48) := by rw [hW55, hP56]; simp [go_sem]
  have cP56_2 : W55.cell? ⟨P56, 2, none⟩ = some (.slice p49 (X02).length q50) := by rw [hW55, hP56]; simp [go_sem]
  have cP56_3 : W55.cell? ⟨P56, 3, none⟩ = some (.slice p51 (X03).length q52) := by rw [hW55, hP56]; simp [go_sem]
  have lP56 : P56 < W55.heap.size := by rw [hW55, hP56]; simp
  have CP56 := Lib.hid (show N53 ≤ P56 from by rw [hP56]; exact top)
  rw [← hP56]
  clear hP56 hW55
  have hz := hbx.size
  replace hwc := hwc.trans (hbx.mono hwc.size)
  replace cP7_0 := (hbx.cell (p := ⟨P7, 0, none⟩) lP7).trans cP7_0
  replace cP7_1 := (hbx.cell (p := ⟨P7, 1, none⟩) lP7).trans cP7_1
  replace cP7_2 := (hbx.cell (p := ⟨P7, 2, none⟩) lP7).trans cP7_2
  replace cP7_3 := (hbx.cell (p := ⟨P7, 3, none⟩) lP7).trans cP7_3
  replace lP7 : P7 < W55.heap.size := Nat.lt_of_lt_of_le lP7 hz
  replace cP40_0 := (hbx.cell (p := ⟨P40, 0, none⟩) lP40).trans cP40_0
  replace cP40_1 := (hbx.cell (p := ⟨P40, 1, none⟩) lP40).trans cP40_1
  replace cP40_2 := (hbx.cell (p := ⟨P40, 2, none⟩) lP40).trans cP40_2
  replace cP40_3 := (hbx.cell (p := ⟨P40, 3, none⟩) lP40).trans cP40_3
  replace lP40 : P40 < W55.heap.size := Nat.lt_of_lt_of_le lP40 hz
  replace HA38 := Lib.hid (HA38.out.below hbx (show N37 ≤ W44.heap.size from (by have := CP7.out; have := CN8.out; have := CN28.out; have := CN37.out; have := CP40.out; have := CN41.out; have := CN42.out; have := CN53.out; have := CP56.out; omega)))
  replace HX54 := Lib.hid (HX54.out.below hbx (show N53 ≤ W44.heap.size from (by have := CP7.out; have := CN8.out; have := CN28.out; have := CN37.out; have := CP40.out; have := CN41.out; have := CN42.out; have := CN53.out; have := CP56.out; omega)))
  replace top := Nat.le_trans top hz
  clear hbx hz
  clear top
  obtain ⟨N57, hN57⟩ : ∃ n, n = W55.heap.size := ⟨_, rfl⟩
  have CN57 := Lib.hid (show P56 < N57 from by rw [hN57]; exact lP56)
  have top : N57 ≤ W55.heap.size := Nat.le_of_eq hN57
  clear hN57
  have hrr := RngWx.reads HX54.out I00.out I01.out I02.out I03.out
  have RD58 := Lib.hid (hrr.1)
  have RD59 := Lib.hid (hrr.2.1)
  have RD60 := Lib.hid (hrr.2.2.1)
  have RD61 := Lib.hid (hrr.2.2.2)
  clear hrr
  obtain ⟨N64, hN64⟩ : ∃ N64, N64 = W55.heap.size := ⟨_, rfl⟩
  have CN64 := Lib.hid (show N57 ≤ N64 from by rw [hN64]; exact top)
  have top' : N64 ≤ W55.heap.size := Nat.le_of_eq hN64
  clear top
  have top := top'
  clear top'
  refine (HI.out _ _ _ _ _ RD58.out RD59.out RD60.out RD61.out).mono ?_; rintro e W62 ho; obtain ⟨p65, q66, p67, q68, p69, q70, p71, q72, rfl, hr0, hb63⟩ := ho.out; clear ho; dsimp only at hr0; dsimp only
  rw [← hN64] at hr0
  clear hN64
  have hz := hb63.size
  replace hwc := hwc.trans (hb63.mono hwc.size)
  replace cP7_0 := (hb63.cell (p := ⟨P7, 0, none⟩) lP7).trans cP7_0
  replace cP7_1 := (hb63.cell (p := ⟨P7, 1, none⟩) lP7).trans cP7_1
  replace cP7_2 := (hb63.cell (p := ⟨P7, 2, none⟩) lP7).trans cP7_2
  replace cP7_3 := (hb63.cell (p := ⟨P7, 3, none⟩) lP7).trans cP7_3
  replace lP7 : P7 < W62.heap.size := Nat.lt_of_lt_of_le lP7 hz
  replace cP40_0 := (hb63.cell (p := ⟨P40, 0, none⟩) lP40).trans cP40_0
  replace cP40_1 := (hb63.cell (p := ⟨P40, 1, none⟩) lP40).trans cP40_1
  replace cP40_2 := (hb63.cell (p := ⟨P40, 2, none⟩) lP40).trans cP40_2
  replace cP40_3 := (hb63.cell (p := ⟨P40, 3, none⟩) lP40).trans cP40_3
  replace lP40 : P40 < W62.heap.size := Nat.lt_of_lt_of_le lP40 hz
  replace cP56_0 := (hb63.cell (p := ⟨P56, 0, none⟩) lP56).trans cP56_0
  replace cP56_1 := (hb63.cell (p := ⟨P56, 1, none⟩) lP56).trans cP56_1
  replace cP56_2 := (hb63.cell (p := ⟨P56, 2, none⟩) lP56).trans cP56_2
  replace cP56_3 := (hb63.cell (p := ⟨P56, 3, none⟩) lP56).trans cP56_3
  replace lP56 : P56 < W62.heap.size := Nat.lt_of_lt_of_le lP56 hz
  replace RD58 := Lib.hid (RD58.out.below hb63)
  replace RD59 := Lib.hid (RD59.out.below hb63)
  replace RD60 := Lib.hid (RD60.out.below hb63)
  replace RD61 := Lib.hid (RD61.out.below hb63)
  replace HA38 := Lib.hid (HA38.out.below hb63 (show N37 ≤ W55.heap.size from (by have := CP7.out; have := CN8.out; have := CN28.out; have := CN37.out; have := CP40.out; have := CN41.out; have := CN42.out; have := CN53.out; have := CP56.out; have := CN57.out; have := CN64.out; omega)))
  replace HX54 := Lib.hid (HX54.out.below hb63 (show N53 ≤ W55.heap.size from (by have := CP7.out; have := CN8.out; have := CN28.out; have := CN37.out; have := CP40.out; have := CN41.out; have := CN42.out; have := CN53.out; have := CP56.out; have := CN57.out; have := CN64.out; omega)))
  replace top := Nat.le_trans top hz
  clear hb63 hz
  obtain ⟨N73, hN73⟩ : ∃ N73, N73 = W62.heap.size := ⟨_, rfl⟩
  have CN73 := Lib.hid (show N64 ≤ N73 from by rw [hN73]; exact top)
  have top' : N73 ≤ W62.heap.size := Nat.le_of_eq hN73
  clear top
  have top := top'
  clear top'
  rw [← hN73] at hr0
  clear hN73
  have HA74 := Lib.hid hr0
  clear hr0
  go_wp2_with fail
  obtain ⟨W75, hW75⟩ : ∃ w', w' = (W62.alloc (.cells #[.slice p65 (O00).length q66, .slice p67 (O01).length q68, .slice p69 (O02).length q70, .slice p71 (O03).length q72] 54)) := ⟨_, rfl⟩
  rw [← hW75]
  have hbx : Below W62.heap.size W62 W75 := by rw [hW75]; exact ((Below.refl _ _).alloc (by simp) _)
  obtain ⟨P76, hP76⟩ : ∃ n, n = W62.heap.size := ⟨_, rfl⟩
  have cP76_0 : W75.cell? ⟨P76, 0, none⟩ = some (.slice p65 (O00).length q66) := by rw [hW75, hP76]; simp [go_sem]
  have cP76_1 : W75.cell? ⟨P76, 1, none⟩ = some (.slice p67 (O01).length q68) := by rw [hW75, hP76]; simp [go_sem]
  have cP76_2 : W75.cell? ⟨P76, 2, none⟩ = some (.slice p69 (O02).length q70) := by rw [hW75, hP76]; simp [go_sem]
  have cP76_3 : W75.cell? ⟨P76, 3, none⟩ = some (.slice p71 (O03).length q72) := by rw [hW75, hP76]; simp [go_sem]
  have lP76 : P76 < W75.heap.size := by rw [hW75, hP76]; simp
  have CP76 := Lib.hid (show N73 ≤ P76 from by rw [hP76]; exact top)
  rw [← hP76]
  clear hP76 hW75
  have hz := hbx.size
  replace hwc := hwc.trans (hbx.mono hwc.size)
  replace cP7_0 := (hbx.cell (p := ⟨P7, 0, none⟩) lP7).trans cP7_0
  replace cP7_1 := (hbx.cell (p := ⟨P7, 1, none⟩) lP7).trans cP7_1
  replace cP7_2 := (hbx.cell (p := ⟨P7, 2, none⟩) lP7).trans cP7_2
  replace cP7_3 := (hbx.cell (p := ⟨P7, 3, none⟩) lP7).trans cP7_3
  replace lP7 : P7 < W75.heap.size := Nat.lt_of_lt_of_le lP7 hz
  replace cP40_0 := (hbx.cell (p := ⟨P40, 0, none⟩) lP40).trans cP40_0
  replace cP40_1 := (hbx.cell (p := ⟨P40, 1, none⟩) lP40).trans cP40_1
  replace cP40_2 := (hbx.cell (p := ⟨P40, 2, none⟩) lP40).trans cP40_2
  replace cP40_3 := (hbx.cell (p := ⟨P40, 3, none⟩) lP40).trans cP40_3
  replace lP40 : P40 < W75.heap.size := Nat.lt_of_lt_of_le lP40 hz
  replace cP56_0 := (hbx.cell (p := ⟨P56, 0, none⟩) lP56).trans cP56_0
  replace cP56_1 := (hbx.cell (p := ⟨P56, 1, none⟩) lP56).trans cP56_1
  replace cP56_2 := (hbx.cell (p := ⟨P56, 2, none⟩) lP56).trans cP56_2
  replace cP56_3 := (hbx.cell (p := ⟨P56, 3, none⟩) lP56).trans cP56_3
  replace lP56 : P56 < W75.heap.size := Nat.lt_of_lt_of_le lP56 hz
  replace RD58 := Lib.hid (RD58.out.below hbx)
  replace RD59 := Lib.hid (RD59.out.below hbx)
  replace RD60 := Lib.hid (RD60.out.below hbx)
  replace RD61 := Lib.hid (RD61.out.below hbx)
  replace HA38 := Lib.hid (HA38.out.below hbx (show N37 ≤ W62.heap.size from (by have := CP7.out; have := CN8.out; have := CN28.out; have := CN37.out; have := CP40.out; have := CN41.out; have := CN42.out; have := CN53.out; have := CP56.out; have := CN57.out; have := CN64.out; have := CN73.out; have := CP76.out; omega)))
  replace HX54 := Lib.hid (HX54.out.below hbx (show N53 ≤ W62.heap.size from (by have := CP7.out; have := CN8.out; have := CN28.out; have := CN37.out; have := CP40.out; have := CN41.out; have := CN42.out; have := CN53.out; have := CP56.out; have := CN57.out; have := CN64.out; have := CN73.out; have := CP76.out; omega)))
  replace HA74 := Lib.hid (HA74.out.below hbx (show N73 ≤ W62.heap.size from (by have := CP7.out; have := CN8.out; have := CN28.out; have := CN37.out; have := CP40.out; have := CN41.out; have := CN42.out; have := CN53.out; have := CP56.out; have := CN57.out; have := CN64.out; have := CN73.out; have := CP76.out; omega)))
  replace top := Nat.le_trans top hz
  clear hbx hz
  clear top
  obtain ⟨N77, hN77⟩ : ∃ n, n = W75.heap.size := ⟨_, rfl⟩
  have CN77 := Lib.hid (show P76 < N77 from by rw [hN77]; exact lP76)
  have top : N77 ≤ W75.heap.size := Nat.le_of_eq hN77
  clear hN77
  clear RD58 RD59 RD60 RD61
  refine (eqW_ans HA74.out HA38.out HF0.out).mono ?_; rintro e W79 ⟨rfl, hb78⟩
  have hz := hb78.size
  replace hwc := hwc.trans (hb78.mono hwc.size)
  replace cP7_0 := (hb78.cell (p := ⟨P7, 0, none⟩) lP7).trans cP7_0
  replace cP7_1 := (hb78.cell (p := ⟨P7, 1, none⟩) lP7).trans cP7_1
  replace cP7_2 := (hb78.cell (p := ⟨P7, 2, none⟩) lP7).trans cP7_2
  replace cP7_3 := (hb78.cell (p := ⟨P7, 3, none⟩) lP7).trans cP7_3
  replace lP7 : P7 < W79.heap.size := Nat.lt_of_lt_of_le lP7 hz
  replace cP40_0 := (hb78.cell (p := ⟨P40, 0, none⟩) lP40).trans cP40_0
  replace cP40_1 := (hb78.cell (p := ⟨P40, 1, none⟩) lP40).trans cP40_1
  replace cP40_2 := (hb78.cell (p := ⟨P40, 2, none⟩) lP40).trans cP40_2
  replace cP40_3 := (hb78.cell (p := ⟨P40, 3, none⟩) lP40).trans cP40_3
  replace lP40 : P40 < W79.heap.size := Nat.lt_of_lt_of_le lP40 hz
  replace cP56_0 := (hb78.cell (p := ⟨P56, 0, none⟩) lP56).trans cP56_0
  replace cP56_1 := (hb78.cell (p := ⟨P56, 1, none⟩) lP56).trans cP56_1
  replace cP56_2 := (hb78.cell (p := ⟨P56, 2, none⟩) lP56).trans cP56_2
  replace cP56_3 := (hb78.cell (p := ⟨P56, 3, none⟩) lP56).trans cP56_3
  replace lP56 : P56 < W79.heap.size := Nat.lt_of_lt_of_le lP56 hz
  replace cP76_0 := (hb78.cell (p := ⟨P76, 0, none⟩) lP76).trans cP76_0
  replace cP76_1 := (hb78.cell (p := ⟨P76, 1, none⟩) lP76).trans cP76_1
  replace cP76_2 := (hb78.cell (p := ⟨P76, 2, none⟩) lP76).trans cP76_2
  replace cP76_3 := (hb78.cell (p := ⟨P76, 3, none⟩) lP76).trans cP76_3
  replace lP76 : P76 < W79.heap.size := Nat.lt_of_lt_of_le lP76 hz
  replace HA38 := Lib.hid (HA38.out.below hb78 (show N37 ≤ W75.heap.size from (by have := CP7.out; have := CN8.out; have := CN28.out; have := CN37.out; have := CP40.out; have := CN41.out; have := CN42.out; have := CN53.out; have := CP56.out; have := CN57.out; have := CN64.out; have := CN73.out; have := CP76.out; have := CN77.out; omega)))
  replace HX54 := Lib.hid (HX54.out.below hb78 (show N53 ≤ W75.heap.size from (by have := CP7.out; have := CN8.out; have := CN28.out; have := CN37.out; have := CP40.out; have := CN41.out; have := CN42.out; have := CN53.out; have := CP56.out; have := CN57.out; have := CN64.out; have := CN73.out; have := CP76.out; have := CN77.out; omega)))
  replace HA74 := Lib.hid (HA74.out.below hb78 (show N73 ≤ W75.heap.size from (by have := CP7.out; have := CN8.out; have := CN28.out; have := CN37.out; have := CP40.out; have := CN41.out; have := CN42.out; have := CN53.out; have := CP56.out; have := CN57.out; have := CN64.out; have := CN73.out; have := CP76.out; have := CN77.out; omega)))
  replace top := Nat.le_trans top hz
  clear hb78 hz
  have hrr := RngWx.reads HX54.out I00.out I01.out I02.out I03.out
  have RX80 := Lib.hid (hrr.1)
  have RX81 := Lib.hid (hrr.2.1)
  have RX82 := Lib.hid (hrr.2.2.1)
  have RX83 := Lib.hid (hrr.2.2.2)
  clear hrr
  have rp0 := fun (w' : World) (h : Below W79.heap.size W79 w') => (h.cell (p := ⟨P7, 0, none⟩) lP7).trans cP7_0
  have rp1 := fun (w' : World) (h : Below W79.heap.size W79 w') => (h.cell (p := ⟨P7, 1, none⟩) lP7).trans cP7_1
  have rp2 := fun (w' : World) (h : Below W79.heap.size W79 w') => (h.cell (p := ⟨P7, 2, none⟩) lP7).trans cP7_2
  have rp3 := fun (w' : World) (h : Below W79.heap.size W79 w') => (h.cell (p := ⟨P7, 3, none⟩) lP7).trans cP7_3
  have rv0 := fun (w' : World) (h : Below W79.heap.size W79 w') => (h.cell (p := ⟨P56, 0, none⟩) lP56).trans cP56_0
  have rv1 := fun (w' : World) (h : Below W79.heap.size W79 w') => (h.cell (p := ⟨P56, 1, none⟩) lP56).trans cP56_1
  have rv2 := fun (w' : World) (h : Below W79.heap.size W79 w') => (h.cell (p := ⟨P56, 2, none⟩) lP56).trans cP56_2
  have rv3 := fun (w' : World) (h : Below W79.heap.size W79 w') => (h.cell (p := ⟨P56, 3, none⟩) lP56).trans cP56_3
  clear cP7_0 cP7_1 cP7_2 cP7_3
  clear cP56_0 cP56_1 cP56_2 cP56_3
  go_wp2_with fail
  have hz9 := hwc.size
  go_region_held3 (fun w' => Below W79.heap.size W79 w') ((repeat' (first | (with_reducible exact Below.refl _ _) | (with_reducible assumption) | (with_reducible refine Below.alloc ?_ ?_ _) | (with_reducible refine Below.drew ?_) | (with_reducible refine below_drewN ?_ _) | (with_reducible refine Below.setCell ?_ ?_ _) | (with_reducible refine Below.trans ?_ (Below.mono (by with_reducible assumption) ?_)) | (with_reducible exact Below.size (by with_reducible assumption)) | go_size)))
    (first | (go_at_call 38; refine (toW_x _ _ _ _ X00 X01 X02 X03 _ (g00 _ (hwc.trans (Below.mono (by assumption) hz9))) (g01 _ (hwc.trans (Below.mono (by assumption) hz9))) (g02 _ (hwc.trans (Below.mono (by assumption) hz9))) (g03 _ (hwc.trans (Below.mono (by assumption) hz9))) HN0.out).mono ?_; rintro e w8 ⟨p84, q85, p86, q87, p88, q89, p90, q91, rfl, hr8, hb8⟩; have hS8 : Below W79.heap.size W79 w8 := (by (repeat' (first | (with_reducible exact Below.refl _ _) | (with_reducible assumption) | (with_reducible refine Below.alloc ?_ ?_ _) | (with_reducible refine Below.drew ?_) | (with_reducible refine below_drewN ?_ _) | (with_reducible refine Below.setCell ?_ ?_ _) | (with_reducible refine Below.trans ?_ (Below.mono (by with_reducible assumption) ?_)) | (with_reducible exact Below.size (by with_reducible assumption)) | go_size))); have R8 := Lib.hid (RngWx.reads hr8 I00.out I01.out I02.out I03.out); clear hr8) | (go_at_call 40; refine (eqW_x _ _ _ _ _ _ _ _ X00 X01 X02 X03 _ (RX80.out.below hS8) (RX81.out.below hS8) (RX82.out.below hS8) (RX83.out.below hS8) (R8.out.1) (R8.out.2.1) (R8.out.2.2.1) (R8.out.2.2.2)).mono ?_; rintro e w9 ⟨rfl, hb9⟩; have hS9 : Below W79.heap.size W79 w9 := (by (repeat' (first | (with_reducible exact Below.refl _ _) | (with_reducible assumption) | (with_reducible refine Below.alloc ?_ ?_ _) | (with_reducible refine Below.drew ?_) | (with_reducible refine below_drewN ?_ _) | (with_reducible refine Below.setCell ?_ ?_ _) | (with_reducible refine Below.trans ?_ (Below.mono (by with_reducible assumption) ?_)) | (with_reducible exact Below.size (by with_reducible assumption)) | go_size)))))
  clear R8 hS8 hb8 hb9 hz9 RX80 RX81 RX82 RX83
  have cP7_0 := rp0 _ hS9
  have cP7_1 := rp1 _ hS9
  have cP7_2 := rp2 _ hS9
  have cP7_3 := rp3 _ hS9
  have cP56_0 := rv0 _ hS9
  have cP56_1 := rv1 _ hS9
  have cP56_2 := rv2 _ hS9
  have cP56_3 := rv3 _ hS9
  clear rp0 rp1 rp2 rp3 rv0 rv1 rv2 rv3
  have hS9' := hS9
  have lP9 := Nat.lt_of_lt_of_le lP7 hS9.size
  have lV9 := Nat.lt_of_lt_of_le lP56 hS9.size
  clear hS9 lP7 lP56
  have lP7 := lP9
  have lP56 := lV9
  clear lP9 lV9
  have hz := hS9'.size
  replace hwc := hwc.trans (hS9'.mono hwc.size)
  replace cP40_0 := (hS9'.cell (p := ⟨P40, 0, none⟩) lP40).trans cP40_0
  replace cP40_1 := (hS9'.cell (p := ⟨P40, 1, none⟩) lP40).trans cP40_1
  replace cP40_2 := (hS9'.cell (p := ⟨P40, 2, none⟩) lP40).trans cP40_2
  replace cP40_3 := (hS9'.cell (p := ⟨P40, 3, none⟩) lP40).trans cP40_3
  replace lP40 : P40 < w9.heap.size := Nat.lt_of_lt_of_le lP40 hz
  replace cP76_0 := (hS9'.cell (p := ⟨P76, 0, none⟩) lP76).trans cP76_0
  replace cP76_1 := (hS9'.cell (p := ⟨P76, 1, none⟩) lP76).trans cP76_1
  replace cP76_2 := (hS9'.cell (p := ⟨P76, 2, none⟩) lP76).trans cP76_2
  replace cP76_3 := (hS9'.cell (p := ⟨P76, 3, none⟩) lP76).trans cP76_3
  replace lP76 : P76 < w9.heap.size := Nat.lt_of_lt_of_le lP76 hz
  replace HA38 := Lib.hid (HA38.out.below hS9' (show N37 ≤ W79.heap.size from (by have := CP7.out; have := CN8.out; have := CN28.out; have := CN37.out; have := CP40.out; have := CN41.out; have := CN42.out; have := CN53.out; have := CP56.out; have := CN57.out; have := CN64.out; have := CN73.out; have := CP76.out; have := CN77.out; omega)))
  replace HX54 := Lib.hid (HX54.out.below hS9' (show N53 ≤ W79.heap.size from (by have := CP7.out; have := CN8.out; have := CN28.out; have := CN37.out; have := CP40.out; have := CN41.out; have := CN42.out; have := CN53.out; have := CP56.out; have := CN57.out; have := CN64.out; have := CN73.out; have := CP76.out; have := CN77.out; omega)))
  replace HA74 := Lib.hid (HA74.out.below hS9' (show N73 ≤ W79.heap.size from (by have := CP7.out; have := CN8.out; have := CN28.out; have := CN37.out; have := CP40.out; have := CN41.out; have := CN42.out; have := CN53.out; have := CP56.out; have := CN57.out; have := CN64.out; have := CN73.out; have := CP76.out; have := CN77.out; omega)))
  replace top := Nat.le_trans top hz
  clear hS9' hz
  obtain ⟨W92, rfl⟩ : ∃ w', w' = w9 := ⟨_, rfl⟩
  go_wp2_with fail
  refine (markW_x HX54.out HN0.out (show N53 ≤ W92.heap.size from (by have := CP7.out; have := CN8.out; have := CN28.out; have := CN37.out; have := CP40.out; have := CN41.out; have := CN42.out; have := CN53.out; have := CP56.out; have := CN57.out; have := CN64.out; have := CN73.out; have := CP76.out; have := CN77.out; omega)) 1 (by decide) (by omega)).mono ?_; rintro e W94 ⟨k95, rfl, hk95a, hk95b, hb93⟩
  clear HX54
  have hz := hb93.size
  replace hwc := hwc.trans ((hb93.below (show N42 ≤ W92.heap.size from (by have := CP7.out; have := CN8.out; have := CN28.out; have := CN37.out; have := CP40.out; have := CN41.out; have := CN42.out; have := CN53.out; have := CP56.out; have := CN57.out; have := CN64.out; have := CN73.out; have := CP76.out; have := CN77.out; omega))).mono (show w.heap.size ≤ N42 from (by have := CP7.out; have := CN8.out; have := CN28.out; have := CN37.out; have := CP40.out; have := CN41.out; have := CN42.out; have := CN53.out; have := CP56.out; have := CN57.out; have := CN64.out; have := CN73.out; have := CP76.out; have := CN77.out; omega)))
  replace cP7_0 := (hb93.cell (p := ⟨P7, 0, none⟩) lP7 (show P7 < N42 ∨ N53 ≤ P7 from (by have := CP7.out; have := CN8.out; have := CN28.out; have := CN37.out; have := CP40.out; have := CN41.out; have := CN42.out; have := CN53.out; have := CP56.out; have := CN57.out; have := CN64.out; have := CN73.out; have := CP76.out; have := CN77.out; omega))).trans cP7_0
  replace cP7_1 := (hb93.cell (p := ⟨P7, 1, none⟩) lP7 (show P7 < N42 ∨ N53 ≤ P7 from (by have := CP7.out; have := CN8.out; have := CN28.out; have := CN37.out; have := CP40.out; have := CN41.out; have := CN42.out; have := CN53.out; have := CP56.out; have := CN57.out; have := CN64.out; have := CN73.out; have := CP76.out; have := CN77.out; omega))).trans cP7_1
  replace cP7_2 := (hb93.cell (p := ⟨P7, 2, none⟩) lP7 (show P7 < N42 ∨ N53 ≤ P7 from (by have := CP7.out; have := CN8.out; have := CN28.out; have := CN37.out; have := CP40.out; have := CN41.out; have := CN42.out; have := CN53.out; have := CP56.out; have := CN57.out; have := CN64.out; have := CN73.out; have := CP76.out; have := CN77.out; omega))).trans cP7_2
  replace cP7_3 := (hb93.cell (p := ⟨P7, 3, none⟩) lP7 (show P7 < N42 ∨ N53 ≤ P7 from (by have := CP7.out; have := CN8.out; have := CN28.out; have := CN37.out; have := CP40.out; have := CN41.out; have := CN42.out; have := CN53.out; have := CP56.out; have := CN57.out; have := CN64.out; have := CN73.out; have := CP76.out; have := CN77.out; omega))).trans cP7_3
  replace lP7 : P7 < W94.heap.size := Nat.lt_of_lt_of_le lP7 hz
  replace cP40_0 := (hb93.cell (p := ⟨P40, 0, none⟩) lP40 (show P40 < N42 ∨ N53 ≤ P40 from (by have := CP7.out; have := CN8.out; have := CN28.out; have := CN37.out; have := CP40.out; have := CN41.out; have := CN42.out; have := CN53.out; have := CP56.out; have := CN57.out; have := CN64.out; have := CN73.out; have := CP76.out; have := CN77.out; omega))).trans cP40_0
  replace cP40_1 := (hb93.cell (p := ⟨P40, 1, none⟩) lP40 (show P40 < N42 ∨ N53 ≤ P40 from (by have := CP7.out; have := CN8.out; have := CN28.out; have := CN37.out; have := CP40.out; have := CN41.out; have := CN42.out; have := CN53.out; have := CP56.out; have := CN57.out; have := CN64.out; have := CN73.out; have := CP76.out; have := CN77.out; omega))).trans cP40_1
  replace cP40_2 := (hb93.cell (p := ⟨P40, 2, none⟩) lP40 (show P40 < N42 ∨ N53 ≤ P40 from (by have := CP7.out; have := CN8.out; have := CN28.out; have := CN37.out; have := CP40.out; have := CN41.out; have := CN42.out; have := CN53.out; have := CP56.out; have := CN57.out; have := CN64.out; have := CN73.out; have := CP76.out; have := CN77.out; omega))).trans cP40_2
  replace cP40_3 := (hb93.cell (p := ⟨P40, 3, none⟩) lP40 (show P40 < N42 ∨ N53 ≤ P40 from (by have := CP7.out; have := CN8.out; have := CN28.out; have := CN37.out; have := CP40.out; have := CN41.out; have := CN42.out; have := CN53.out; have := CP56.out; have := CN57.out; have := CN64.out; have := CN73.out; have := CP76.out; have := CN77.out; omega))).trans cP40_3
  replace lP40 : P40 < W94.heap.size := Nat.lt_of_lt_of_le lP40 hz
  replace cP56_0 := (hb93.cell (p := ⟨P56, 0, none⟩) lP56 (show P56 < N42 ∨ N53 ≤ P56 from (by have := CP7.out; have := CN8.out; have := CN28.out; have := CN37.out; have := CP40.out; have := CN41.out; have := CN42.out; have := CN53.out; have := CP56.out; have := CN57.out; have := CN64.out; have := CN73.out; have := CP76.out; have := CN77.out; omega))).trans cP56_0
  replace cP56_1 := (hb93.cell (p := ⟨P56, 1, none⟩) lP56 (show P56 < N42 ∨ N53 ≤ P56 from (by have := CP7.out; have := CN8.out; have := CN28.out; have := CN37.out; have := CP40.out; have := CN41.out; have := CN42.out; have := CN53.out; have := CP56.out; have := CN57.out; have := CN64.out; have := CN73.out; have := CP76.out; have := CN77.out; omega))).trans cP56_1
  replace cP56_2 := (hb93.cell (p := ⟨P56, 2, none⟩) lP56 (show P56 < N42 ∨ N53 ≤ P56 from (by have := CP7.out; have := CN8.out; have := CN28.out; have := CN37.out; have := CP40.out; have := CN41.out; have := CN42.out; have := CN53.out; have := CP56.out; have := CN57.out; have := CN64.out; have := CN73.out; have := CP76.out; have := CN77.out; omega))).trans cP56_2
  replace cP56_3 := (hb93.cell (p := ⟨P56, 3, none⟩) lP56 (show P56 < N42 ∨ N53 ≤ P56 from (by have := CP7.out; have := CN8.out; have := CN28.out; have := CN37.out; have := CP40.out; have := CN41.out; have := CN42.out; have := CN53.out; have := CP56.out; have := CN57.out; have := CN64.out; have := CN73.out; have := CP76.out; have := CN77.out; omega))).trans cP56_3
  replace lP56 : P56 < W94.heap.size := Nat.lt_of_lt_of_le lP56 hz
  replace cP76_0 := (hb93.cell (p := ⟨P76, 0, none⟩) lP76 (show P76 < N42 ∨ N53 ≤ P76 from (by have := CP7.out; have := CN8.out; have := CN28.out; have := CN37.out; have := CP40.out; have := CN41.out; have := CN42.out; have := CN53.out; have := CP56.out; have := CN57.out; have := CN64.out; have := CN73.out; have := CP76.out; have := CN77.out; omega))).trans cP76_0
  replace cP76_1 := (hb93.cell (p := ⟨P76, 1, none⟩) lP76 (show P76 < N42 ∨ N53 ≤ P76 from (by have := CP7.out; have := CN8.out; have := CN28.out; have := CN37.out; have := CP40.out; have := CN41.out; have := CN42.out; have := CN53.out; have := CP56.out; have := CN57.out; have := CN64.out; have := CN73.out; have := CP76.out; have := CN77.out; omega))).trans cP76_1
  replace cP76_2 := (hb93.cell (p := ⟨P76, 2, none⟩) lP76 (show P76 < N42 ∨ N53 ≤ P76 from (by have := CP7.out; have := CN8.out; have := CN28.out; have := CN37.out; have := CP40.out; have := CN41.out; have := CN42.out; have := CN53.out; have := CP56.out; have := CN57.out; have := CN64.out; have := CN73.out; have := CP76.out; have := CN77.out; omega))).trans cP76_2
  replace cP76_3 := (hb93.cell (p := ⟨P76, 3, none⟩) lP76 (show P76 < N42 ∨ N53 ≤ P76 from (by have := CP7.out; have := CN8.out; have := CN28.out; have := CN37.out; have := CP40.out; have := CN41.out; have := CN42.out; have := CN53.out; have := CP56.out; have := CN57.out; have := CN64.out; have := CN73.out; have := CP76.out; have := CN77.out; omega))).trans cP76_3
  replace lP76 : P76 < W94.heap.size := Nat.lt_of_lt_of_le lP76 hz
  replace HA38 := Lib.hid (HA38.out.bet hb93 (show N37 ≤ N42 ∨ N53 ≤ N28 from (by have := CP7.out; have := CN8.out; have := CN28.out; have := CN37.out; have := CP40.out; have := CN41.out; have := CN42.out; have := CN53.out; have := CP56.out; have := CN57.out; have := CN64.out; have := CN73.out; have := CP76.out; have := CN77.out; omega)))
  replace HA74 := Lib.hid (HA74.out.bet hb93 (show N73 ≤ N42 ∨ N53 ≤ N64 from (by have := CP7.out; have := CN8.out; have := CN28.out; have := CN37.out; have := CP40.out; have := CN41.out; have := CN42.out; have := CN53.out; have := CP56.out; have := CN57.out; have := CN64.out; have := CN73.out; have := CP76.out; have := CN77.out; omega)))
  replace top := Nat.le_trans top hz
  clear hb93 hz
  go_wp2_with fail
  refine (eqW_ans HA74.out HA38.out HF0.out).mono ?_; rintro e W97 ⟨rfl, hb96⟩
  have hz := hb96.size
  replace hwc := hwc.trans (hb96.mono hwc.size)
  replace cP7_0 := (hb96.cell (p := ⟨P7, 0, none⟩) lP7).trans cP7_0
  replace cP7_1 := (hb96.cell (p := ⟨P7, 1, none⟩) lP7).trans cP7_1
  replace cP7_2 := (hb96.cell (p := ⟨P7, 2, none⟩) lP7).trans cP7_2
  replace cP7_3 := (hb96.cell (p := ⟨P7, 3, none⟩) lP7).trans cP7_3
  replace lP7 : P7 < W97.heap.size := Nat.lt_of_lt_of_le lP7 hz
  replace cP40_0 := (hb96.cell (p := ⟨P40, 0, none⟩) lP40).trans cP40_0
  replace cP40_1 := (hb96.cell (p := ⟨P40, 1, none⟩) lP40).trans cP40_1
  replace cP40_2 := (hb96.cell (p := ⟨P40, 2, none⟩) lP40).trans cP40_2
  replace cP40_3 := (hb96.cell (p := ⟨P40, 3, none⟩) lP40).trans cP40_3
  replace lP40 : P40 < W97.heap.size := Nat.lt_of_lt_of_le lP40 hz
  replace cP56_0 := (hb96.cell (p := ⟨P56, 0, none⟩) lP56).trans cP56_0
  replace cP56_1 := (hb96.cell (p := ⟨P56, 1, none⟩) lP56).trans cP56_1
  replace cP56_2 := (hb96.cell (p := ⟨P56, 2, none⟩) lP56).trans cP56_2
  replace cP56_3 := (hb96.cell (p := ⟨P56, 3, none⟩) lP56).trans cP56_3
  replace lP56 : P56 < W97.heap.size := Nat.lt_of_lt_of_le lP56 hz
  replace cP76_0 := (hb96.cell (p := ⟨P76, 0, none⟩) lP76).trans cP76_0
  replace cP76_1 := (hb96.cell (p := ⟨P76, 1, none⟩) lP76).trans cP76_1
  replace cP76_2 := (hb96.cell (p := ⟨P76, 2, none⟩) lP76).trans cP76_2
  replace cP76_3 := (hb96.cell (p := ⟨P76, 3, none⟩) lP76).trans cP76_3
  replace lP76 : P76 < W97.heap.size := Nat.lt_of_lt_of_le lP76 hz
  replace HA38 := Lib.hid (HA38.out.below hb96 (show N37 ≤ W94.heap.size from (by have := CP7.out; have := CN8.out; have := CN28.out; have := CN37.out; have := CP40.out; have := CN41.out; have := CN42.out; have := CN53.out; have := CP56.out; have := CN57.out; have := CN64.out; have := CN73.out; have := CP76.out; have := CN77.out; omega)))
  replace HA74 := Lib.hid (HA74.out.below hb96 (show N73 ≤ W94.heap.size from (by have := CP7.out; have := CN8.out; have := CN28.out; have := CN37.out; have := CP40.out; have := CN41.out; have := CN42.out; have := CN53.out; have := CP56.out; have := CN57.out; have := CN64.out; have := CN73.out; have := CP76.out; have := CN77.out; omega)))
  replace top := Nat.le_trans top hz
  clear hb96 hz
  obtain ⟨m98, hm98⟩ : ∃ x, x = 1 + (sizeWx O00 O01 O02 O03 : Int) := ⟨_, rfl⟩
  have hm98l : 0 ≤ m98 ∧ m98 ≤ 1048577 := by have := sizeWx_le HF0.out; omega
  have hm98p := hm98l.1
  have HLm98 := Lib.hid hm98l
  have Em98 := Lib.hid hm98
  clear hm98 hm98l
  go_wp2_with fail
  refine (markW_k HA74.out HF0.out (show N73 ≤ W97.heap.size from (by have := CP7.out; have := CN8.out; have := CN28.out; have := CN37.out; have := CP40.out; have := CN41.out; have := CN42.out; have := CN53.out; have := CP56.out; have := CN57.out; have := CN64.out; have := CN73.out; have := CP76.out; have := CN77.out; omega)) 1 (by decide) (by decide)).mono ?_; rw [← Em98.out]; rintro e W100 ⟨rfl, hm, hb99⟩
  clear HA74
  have hz := hb99.size
  replace hwc := hwc.trans ((hb99.below (show N64 ≤ W97.heap.size from (by have := CP7.out; have := CN8.out; have := CN28.out; have := CN37.out; have := CP40.out; have := CN41.out; have := CN42.out; have := CN53.out; have := CP56.out; have := CN57.out; have := CN64.out; have := CN73.out; have := CP76.out; have := CN77.out; omega))).mono (show w.heap.size ≤ N64 from (by have := CP7.out; have := CN8.out; have := CN28.out; have := CN37.out; have := CP40.out; have := CN41.out; have := CN42.out; have := CN53.out; have := CP56.out; have := CN57.out; have := CN64.out; have := CN73.out; have := CP76.out; have := CN77.out; omega)))
  replace cP7_0 := (hb99.cell (p := ⟨P7, 0, none⟩) lP7 (show P7 < N64 ∨ N73 ≤ P7 from (by have := CP7.out; have := CN8.out; have := CN28.out; have := CN37.out; have := CP40.out; have := CN41.out; have := CN42.out; have := CN53.out; have := CP56.out; have := CN57.out; have := CN64.out; have := CN73.out; have := CP76.out; have := CN77.out; omega))).trans cP7_0
  replace cP7_1 := (hb99.cell (p := ⟨P7, 1, none⟩) lP7 (show P7 < N64 ∨ N73 ≤ P7 from (by have := CP7.out; have := CN8.out; have := CN28.out; have := CN37.out; have := CP40.out; have := CN41.out; have := CN42.out; have := CN53.out; have := CP56.out; have := CN57.out; have := CN64.out; have := CN73.out; have := CP76.out; have := CN77.out; omega))).trans cP7_1
  replace cP7_2 := (hb99.cell (p := ⟨P7, 2, none⟩) lP7 (show P7 < N64 ∨ N73 ≤ P7 from (by have := CP7.out; have := CN8.out; have := CN28.out; have := CN37.out; have := CP40.out; have := CN41.out; have := CN42.out; have := CN53.out; have := CP56.out; have := CN57.out; have := CN64.out; have := CN73.out; have := CP76.out; have := CN77.out; omega))).trans cP7_2
  replace cP7_3 := (hb99.cell (p := ⟨P7, 3, none⟩) lP7 (show P7 < N64 ∨ N73 ≤ P7 from (by have := CP7.out; have := CN8.out; have := CN28.out; have := CN37.out; have := CP40.out; have := CN41.out; have := CN42.out; have := CN53.out; have := CP56.out; have := CN57.out; have := CN64.out; have := CN73.out; have := CP76.out; have := CN77.out; omega))).trans cP7_3
  replace lP7 : P7 < W100.heap.size := Nat.lt_of_lt_of_le lP7 hz
  replace cP40_0 := (hb99.cell (p := ⟨P40, 0, none⟩) lP40 (show P40 < N64 ∨ N73 ≤ P40 from (by have := CP7.out; have := CN8.out; have := CN28.out; have := CN37.out; have := CP40.out; have := CN41.out; have := CN42.out; have := CN53.out; have := CP56.out; have := CN57.out; have := CN64.out; have := CN73.out; have := CP76.out; have := CN77.out; omega))).trans cP40_0
  replace cP40_1 := (hb99.cell (p := ⟨P40, 1, none⟩) lP40 (show P40 < N64 ∨ N73 ≤ P40 from (by have := CP7.out; have := CN8.out; have := CN28.out; have := CN37.out; have := CP40.out; have := CN41.out; have := CN42.out; have := CN53.out; have := CP56.out; have := CN57.out; have := CN64.out; have := CN73.out; have := CP76.out; have := CN77.out; omega))).trans cP40_1
  replace cP40_2 := (hb99.cell (p := ⟨P40, 2, none⟩) lP40 (show P40 < N64 ∨ N73 ≤ P40 from (by have := CP7.out; have := CN8.out; have := CN28.out; have := CN37.out; have := CP40.out; have := CN41.out; have := CN42.out; have := CN53.out; have := CP56.out; have := CN57.out; have := CN64.out; have := CN73.out; have := CP76.out; have := CN77.out; omega))).trans cP40_2
  replace cP40_3 := (hb99.cell (p := ⟨P40, 3, none⟩) lP40 (show P40 < N64 ∨ N73 ≤ P40 from (by have := CP7.out; have := CN8.out; have := CN28.out; have := CN37.out; have := CP40.out; have := CN41.out; have := CN42.out; have := CN53.out; have := CP56.out; have := CN57.out; have := CN64.out; have := CN73.out; have := CP76.out; have := CN77.out; omega))).trans cP40_3
  replace lP40 : P40 < W100.heap.size := Nat.lt_of_lt_of_le lP40 hz
  replace cP56_0 := (hb99.cell (p := ⟨P56, 0, none⟩) lP56 (show P56 < N64 ∨ N73 ≤ P56 from (by have := CP7.out; have := CN8.out; have := CN28.out; have := CN37.out; have := CP40.out; have := CN41.out; have := CN42.out; have := CN53.out; have := CP56.out; have := CN57.out; have := CN64.out; have := CN73.out; have := CP76.out; have := CN77.out; omega))).trans cP56_0
  replace cP56_1 := (hb99.cell (p := ⟨P56, 1, none⟩) lP56 (show P56 < N64 ∨ N73 ≤ P56 from (by have := CP7.out; have := CN8.out; have := CN28.out; have := CN37.out; have := CP40.out; have := CN41.out; have := CN42.out; have := CN53.out; have := CP56.out; have := CN57.out; have := CN64.out; have := CN73.out; have := CP76.out; have := CN77.out; omega))).trans cP56_1
  replace cP56_2 := (hb99.cell (p := ⟨P56, 2, none⟩) lP56 (show P56 < N64 ∨ N73 ≤ P56 from (by have := CP7.out; have := CN8.out; have := CN28.out; have := CN37.out; have := CP40.out; have := CN41.out; have := CN42.out; have := CN53.out; have := CP56.out; have := CN57.out; have := CN64.out; have := CN73.out; have := CP76.out; have := CN77.out; omega))).trans cP56_2
  replace cP56_3 := (hb99.cell (p := ⟨P56, 3, none⟩) lP56 (show P56 < N64 ∨ N73 ≤ P56 from (by have := CP7.out; have := CN8.out; have := CN28.out; have := CN37.out; have := CP40.out; have := CN41.out; have := CN42.out; have := CN53.out; have := CP56.out; have := CN57.out; have := CN64.out; have := CN73.out; have := CP76.out; have := CN77.out; omega))).trans cP56_3
  replace lP56 : P56 < W100.heap.size := Nat.lt_of_lt_of_le lP56 hz
  replace cP76_0 := (hb99.cell (p := ⟨P76, 0, none⟩) lP76 (show P76 < N64 ∨ N73 ≤ P76 from (by have := CP7.out; have := CN8.out; have := CN28.out; have := CN37.out; have := CP40.out; have := CN41.out; have := CN42.out; have := CN53.out; have := CP56.out; have := CN57.out; have := CN64.out; have := CN73.out; have := CP76.out; have := CN77.out; omega))).trans cP76_0
  replace cP76_1 := (hb99.cell (p := ⟨P76, 1, none⟩) lP76 (show P76 < N64 ∨ N73 ≤ P76 from (by have := CP7.out; have := CN8.out; have := CN28.out; have := CN37.out; have := CP40.out; have := CN41.out; have := CN42.out; have := CN53.out; have := CP56.out; have := CN57.out; have := CN64.out; have := CN73.out; have := CP76.out; have := CN77.out; omega))).trans cP76_1
  replace cP76_2 := (hb99.cell (p := ⟨P76, 2, none⟩) lP76 (show P76 < N64 ∨ N73 ≤ P76 from (by have := CP7.out; have := CN8.out; have := CN28.out; have := CN37.out; have := CP40.out; have := CN41.out; have := CN42.out; have := CN53.out; have := CP56.out; have := CN57.out; have := CN64.out; have := CN73.out; have := CP76.out; have := CN77.out; omega))).trans cP76_2
  replace cP76_3 := (hb99.cell (p := ⟨P76, 3, none⟩) lP76 (show P76 < N64 ∨ N73 ≤ P76 from (by have := CP7.out; have := CN8.out; have := CN28.out; have := CN37.out; have := CP40.out; have := CN41.out; have := CN42.out; have := CN53.out; have := CP56.out; have := CN57.out; have := CN64.out; have := CN73.out; have := CP76.out; have := CN77.out; omega))).trans cP76_3
  replace lP76 : P76 < W100.heap.size := Nat.lt_of_lt_of_le lP76 hz
  replace HA38 := Lib.hid (HA38.out.bet hb99 (show N37 ≤ N64 ∨ N73 ≤ N28 from (by have := CP7.out; have := CN8.out; have := CN28.out; have := CN37.out; have := CP40.out; have := CN41.out; have := CN42.out; have := CN53.out; have := CP56.out; have := CN57.out; have := CN64.out; have := CN73.out; have := CP76.out; have := CN77.out; omega)))
  replace top := Nat.le_trans top hz
  clear hb99 hz
  have HM101 := Lib.hid hm
  clear hm
  go_wp2_with fail
  refine (heldW_k 1 HM101.out HF0.out (show N73 ≤ W100.heap.size from (by have := CP7.out; have := CN8.out; have := CN28.out; have := CN37.out; have := CP40.out; have := CN41.out; have := CN42.out; have := CN53.out; have := CP56.out; have := CN57.out; have := CN64.out; have := CN73.out; have := CP76.out; have := CN77.out; omega)) (by decide) (by decide)).mono ?_; rw [← Em98.out]; rintro e W103 ⟨rfl, hb102⟩
  have hz := hb102.size
  replace hwc := hwc.trans (hb102.mono hwc.size)
  replace cP7_0 := (hb102.cell (p := ⟨P7, 0, none⟩) lP7).trans cP7_0
  replace cP7_1 := (hb102.cell (p := ⟨P7, 1, none⟩) lP7).trans cP7_1
  replace cP7_2 := (hb102.cell (p := ⟨P7, 2, none⟩) lP7).trans cP7_2
  replace cP7_3 := (hb102.cell (p := ⟨P7, 3, none⟩) lP7).trans cP7_3
  replace lP7 : P7 < W103.heap.size := Nat.lt_of_lt_of_le lP7 hz
  replace cP40_0 := (hb102.cell (p := ⟨P40, 0, none⟩) lP40).trans cP40_0
  replace cP40_1 := (hb102.cell (p := ⟨P40, 1, none⟩) lP40).trans cP40_1
  replace cP40_2 := (hb102.cell (p := ⟨P40, 2, none⟩) lP40).trans cP40_2
  replace cP40_3 := (hb102.cell (p := ⟨P40, 3, none⟩) lP40).trans cP40_3
  replace lP40 : P40 < W103.heap.size := Nat.lt_of_lt_of_le lP40 hz
  replace cP56_0 := (hb102.cell (p := ⟨P56, 0, none⟩) lP56).trans cP56_0
  replace cP56_1 := (hb102.cell (p := ⟨P56, 1, none⟩) lP56).trans cP56_1
  replace cP56_2 := (hb102.cell (p := ⟨P56, 2, none⟩) lP56).trans cP56_2
  replace cP56_3 := (hb102.cell (p := ⟨P56, 3, none⟩) lP56).trans cP56_3
  replace lP56 : P56 < W103.heap.size := Nat.lt_of_lt_of_le lP56 hz
  replace cP76_0 := (hb102.cell (p := ⟨P76, 0, none⟩) lP76).trans cP76_0
  replace cP76_1 := (hb102.cell (p := ⟨P76, 1, none⟩) lP76).trans cP76_1
  replace cP76_2 := (hb102.cell (p := ⟨P76, 2, none⟩) lP76).trans cP76_2
  replace cP76_3 := (hb102.cell (p := ⟨P76, 3, none⟩) lP76).trans cP76_3
  replace lP76 : P76 < W103.heap.size := Nat.lt_of_lt_of_le lP76 hz
  replace HA38 := Lib.hid (HA38.out.below hb102 (show N37 ≤ W100.heap.size from (by have := CP7.out; have := CN8.out; have := CN28.out; have := CN37.out; have := CP40.out; have := CN41.out; have := CN42.out; have := CN53.out; have := CP56.out; have := CN57.out; have := CN64.out; have := CN73.out; have := CP76.out; have := CN77.out; omega)))
  replace HM101 := Lib.hid (HM101.out.below hb102 (show N73 ≤ W100.heap.size from (by have := CP7.out; have := CN8.out; have := CN28.out; have := CN37.out; have := CP40.out; have := CN41.out; have := CN42.out; have := CN53.out; have := CP56.out; have := CN57.out; have := CN64.out; have := CN73.out; have := CP76.out; have := CN77.out; omega)))
  replace top := Nat.le_trans top hz
  clear hb102 hz
  go_wp2_with fail
  refine (toW_x _ _ _ _ X00 X01 X02 X03 _ (g00 _ hwc) (g01 _ hwc) (g02 _ hwc) (g03 _ hwc) HN0.out).mono ?_; rintro e W105 ⟨p106, q107, p108, q109, p110, q111, p112, q113, rfl, hr, hb104⟩
  have hrr := RngWx.reads hr I00.out I01.out I02.out I03.out
  have RD114 := Lib.hid (hrr.1)
  have RD115 := Lib.hid (hrr.2.1)
  have RD116 := Lib.hid (hrr.2.2.1)
  have RD117 := Lib.hid (hrr.2.2.2)
  clear hrr
  clear hr
  have hz := hb104.size
  replace hwc := hwc.trans (hb104.mono hwc.size)
  replace cP7_0 := (hb104.cell (p := ⟨P7, 0, none⟩) lP7).trans cP7_0
  replace cP7_1 := (hb104.cell (p := ⟨P7, 1, none⟩) lP7).trans cP7_1
  replace cP7_2 := (hb104.cell (p := ⟨P7, 2, none⟩) lP7).trans cP7_2
  replace cP7_3 := (hb104.cell (p := ⟨P7, 3, none⟩) lP7).trans cP7_3
  replace lP7 : P7 < W105.heap.size := Nat.lt_of_lt_of_le lP7 hz
  replace cP40_0 := (hb104.cell (p := ⟨P40, 0, none⟩) lP40).trans cP40_0
  replace cP40_1 := (hb104.cell (p := ⟨P40, 1, none⟩) lP40).trans cP40_1
  replace cP40_2 := (hb104.cell (p := ⟨P40, 2, none⟩) lP40).trans cP40_2
  replace cP40_3 := (hb104.cell (p := ⟨P40, 3, none⟩) lP40).trans cP40_3
  replace lP40 : P40 < W105.heap.size := Nat.lt_of_lt_of_le lP40 hz
  replace cP56_0 := (hb104.cell (p := ⟨P56, 0, none⟩) lP56).trans cP56_0
  replace cP56_1 := (hb104.cell (p := ⟨P56, 1, none⟩) lP56).trans cP56_1
  replace cP56_2 := (hb104.cell (p := ⟨P56, 2, none⟩) lP56).trans cP56_2
  replace cP56_3 := (hb104.cell (p := ⟨P56, 3, none⟩) lP56).trans cP56_3
  replace lP56 : P56 < W105.heap.size := Nat.lt_of_lt_of_le lP56 hz
  replace cP76_0 := (hb104.cell (p := ⟨P76, 0, none⟩) lP76).trans cP76_0
  replace cP76_1 := (hb104.cell (p := ⟨P76, 1, none⟩) lP76).trans cP76_1
  replace cP76_2 := (hb104.cell (p := ⟨P76, 2, none⟩) lP76).trans cP76_2
  replace cP76_3 := (hb104.cell (p := ⟨P76, 3, none⟩) lP76).trans cP76_3
  replace lP76 : P76 < W105.heap.size := Nat.lt_of_lt_of_le lP76 hz
  replace HA38 := Lib.hid (HA38.out.below hb104 (show N37 ≤ W103.heap.size from (by have := CP7.out; have := CN8.out; have := CN28.out; have := CN37.out; have := CP40.out; have := CN41.out; have := CN42.out; have := CN53.out; have := CP56.out; have := CN57.out; have := CN64.out; have := CN73.out; have := CP76.out; have := CN77.out; omega)))
  replace HM101 := Lib.hid (HM101.out.below hb104 (show N73 ≤ W103.heap.size from (by have := CP7.out; have := CN8.out; have := CN28.out; have := CN37.out; have := CP40.out; have := CN41.out; have := CN42.out; have := CN53.out; have := CP56.out; have := CN57.out; have := CN64.out; have := CN73.out; have := CP76.out; have := CN77.out; omega)))
  replace top := Nat.le_trans top hz
  clear hb104 hz
  go_wp2_with fail
  obtain ⟨N120, hN120⟩ : ∃ N120, N120 = W105.heap.size := ⟨_, rfl⟩
  have CN120 := Lib.hid (show N77 ≤ N120 from by rw [hN120]; exact top)
  have top' : N120 ≤ W105.heap.size := Nat.le_of_eq hN120
  clear top
  have top := top'
  clear top'
  refine (HI.out _ _ _ _ _ RD114.out RD115.out RD116.out RD117.out).mono ?_; rintro e W118 ho; obtain ⟨p121, q122, p123, q124, p125, q126, p127, q128, rfl, hr0, hb119⟩ := ho.out; clear ho; dsimp only at hr0; dsimp only
  rw [← hN120] at hr0
  clear hN120
  have hz := hb119.size
  replace hwc := hwc.trans (hb119.mono hwc.size)
  replace cP7_0 := (hb119.cell (p := ⟨P7, 0, none⟩) lP7).trans cP7_0
  replace cP7_1 := (hb119.cell (p := ⟨P7, 1, none⟩) lP7).trans cP7_1
  replace cP7_2 := (hb119.cell (p := ⟨P7, 2, none⟩) lP7).trans cP7_2
  replace cP7_3 := (hb119.cell (p := ⟨P7, 3, none⟩) lP7).trans cP7_3
  replace lP7 : P7 < W118.heap.size := Nat.lt_of_lt_of_le lP7 hz
  replace cP40_0 := (hb119.cell (p := ⟨P40, 0, none⟩) lP40).trans cP40_0
  replace cP40_1 := (hb119.cell (p := ⟨P40, 1, none⟩) lP40).trans cP40_1
  replace cP40_2 := (hb119.cell (p := ⟨P40, 2, none⟩) lP40).trans cP40_2
  replace cP40_3 := (hb119.cell (p := ⟨P40, 3, none⟩) lP40).trans cP40_3
  replace lP40 : P40 < W118.heap.size := Nat.lt_of_lt_of_le lP40 hz
  replace cP56_0 := (hb119.cell (p := ⟨P56, 0, none⟩) lP56).trans cP56_0
  replace cP56_1 := (hb119.cell (p := ⟨P56, 1, none⟩) lP56).trans cP56_1
  replace cP56_2 := (hb119.cell (p := ⟨P56, 2, none⟩) lP56).trans cP56_2
  replace cP56_3 := (hb119.cell (p := ⟨P56, 3, none⟩) lP56).trans cP56_3
  replace lP56 : P56 < W118.heap.size := Nat.lt_of_lt_of_le lP56 hz
  replace cP76_0 := (hb119.cell (p := ⟨P76, 0, none⟩) lP76).trans cP76_0
  replace cP76_1 := (hb119.cell (p := ⟨P76, 1, none⟩) lP76).trans cP76_1
  replace cP76_2 := (hb119.cell (p := ⟨P76, 2, none⟩) lP76).trans cP76_2
  replace cP76_3 := (hb119.cell (p := ⟨P76, 3, none⟩) lP76).trans cP76_3
  replace lP76 : P76 < W118.heap.size := Nat.lt_of_lt_of_le lP76 hz
  replace RD114 := Lib.hid (RD114.out.below hb119)
  replace RD115 := Lib.hid (RD115.out.below hb119)
  replace RD116 := Lib.hid (RD116.out.below hb119)
  replace RD117 := Lib.hid (RD117.out.below hb119)
  replace HA38 := Lib.hid (HA38.out.below hb119 (show N37 ≤ W105.heap.size from (by have := CP7.out; have := CN8.out; have := CN28.out; have := CN37.out; have := CP40.out; have := CN41.out; have := CN42.out; have := CN53.out; have := CP56.out; have := CN57.out; have := CN64.out; have := CN73.out; have := CP76.out; have := CN77.out; have := CN120.out; omega)))
  replace HM101 := Lib.hid (HM101.out.below hb119 (show N73 ≤ W105.heap.size from (by have := CP7.out; have := CN8.out; have := CN28.out; have := CN37.out; have := CP40.out; have := CN41.out; have := CN42.out; have := CN53.out; have := CP56.out; have := CN57.out; have := CN64.out; have := CN73.out; have := CP76.out; have := CN77.out; have := CN120.out; omega)))
  replace top := Nat.le_trans top hz
  clear hb119 hz
  obtain ⟨N129, hN129⟩ : ∃ N129, N129 = W118.heap.size := ⟨_, rfl⟩
  have CN129 := Lib.hid (show N120 ≤ N129 from by rw [hN129]; exact top)
  have top' : N129 ≤ W118.heap.size := Nat.le_of_eq hN129
  clear top
  have top := top'
  clear top'
  rw [← hN129] at hr0
  clear hN129
  have HA130 := Lib.hid hr0
  clear hr0
  go_wp2_with fail
  obtain ⟨W131, hW131⟩ : ∃ w', w' = (W118.alloc (.cells #[.slice p121 (O00).length q122, .slice p123 (O01).length q124, .slice p125 (O02).length q126, .slice p127 (O03).length q128] 54)) := ⟨_, rfl⟩
  rw [← hW131]
  have hbx : Below W118.heap.size W118 W131 := by rw [hW131]; exact ((Below.refl _ _).alloc (by simp) _)
  obtain ⟨P132, hP132⟩ : ∃ n, n = W118.heap.size := ⟨_, rfl⟩
  have cP132_0 : W131.cell? ⟨P132, 0, none⟩ = some (.slice p121 (O00).length q122) := by rw [hW131, hP132]; simp [go_sem]
  have cP132_1 : W131.cell? ⟨P132, 1, none⟩ = some (.slice p123 (O01).length q124) := by rw [hW131, hP132]; simp [go_sem]
  have cP132_2 : W131.cell? ⟨P132, 2, none⟩ = some (.slice p125 (O02).length q126) := by rw [hW131, hP132]; simp [go_sem]
  have cP132_3 : W131.cell? ⟨P132, 3, none⟩ = some (.slice p127 (O03).length q128) := by rw [hW131, hP132]; simp [go_sem]
  have lP132 : P132 < W131.heap.size := by rw [hW131, hP132]; simp
  have CP132 := Lib.hid (show N129 ≤ P132 from by rw [hP132]; exact top)
  rw [← hP132]
  clear hP132 hW131
  have hz := hbx.size
  replace hwc := hwc.trans (hbx.mono hwc.size)
  replace cP7_0 := (hbx.cell (p := ⟨P7, 0, none⟩) lP7).trans cP7_0
  replace cP7_1 := (hbx.cell (p := ⟨P7, 1, none⟩) lP7).trans cP7_1
  replace cP7_2 := (hbx.cell (p := ⟨P7, 2, none⟩) lP7).trans cP7_2
  replace cP7_3 := (hbx.cell (p := ⟨P7, 3, none⟩) lP7).trans cP7_3
  replace lP7 : P7 < W131.heap.size := Nat.lt_of_lt_of_le lP7 hz
  replace cP40_0 := (hbx.cell (p := ⟨P40, 0, none⟩) lP40).trans cP40_0
  replace cP40_1 := (hbx.cell (p := ⟨P40, 1, none⟩) lP40).trans cP40_1
  replace cP40_2 := (hbx.cell (p := ⟨P40, 2, none⟩) lP40).trans cP40_2
  replace cP40_3 := (hbx.cell (p := ⟨P40, 3, none⟩) lP40).trans cP40_3
  replace lP40 : P40 < W131.heap.size := Nat.lt_of_lt_of_le lP40 hz
  replace cP56_0 := (hbx.cell (p := ⟨P56, 0, none⟩) lP56).trans cP56_0
  replace cP56_1 := (hbx.cell (p := ⟨P56, 1, none⟩) lP56).trans cP56_1
  replace cP56_2 := (hbx.cell (p := ⟨P56, 2, none⟩) lP56).trans cP56_2
  replace cP56_3 := (hbx.cell (p := ⟨P56, 3, none⟩) lP56).trans cP56_3
  replace lP56 : P56 < W131.heap.size := Nat.lt_of_lt_of_le lP56 hz
  replace cP76_0 := (hbx.cell (p := ⟨P76, 0, none⟩) lP76).trans cP76_0
  replace cP76_1 := (hbx.cell (p := ⟨P76, 1, none⟩) lP76).trans cP76_1
  replace cP76_2 := (hbx.cell (p := ⟨P76, 2, none⟩) lP76).trans cP76_2
  replace cP76_3 := (hbx.cell (p := ⟨P76, 3, none⟩) lP76).trans cP76_3
  replace lP76 : P76 < W131.heap.size := Nat.lt_of_lt_of_le lP76 hz
  replace RD114 := Lib.hid (RD114.out.below hbx)
  replace RD115 := Lib.hid (RD115.out.below hbx)
  replace RD116 := Lib.hid (RD116.out.below hbx)
  replace RD117 := Lib.hid (RD117.out.below hbx)
  replace HA38 := Lib.hid (HA38.out.below hbx (show N37 ≤ W118.heap.size from (by have := CP7.out; have := CN8.out; have := CN28.out; have := CN37.out; have := CP40.out; have := CN41.out; have := CN42.out; have := CN53.out; have := CP56.out; have := CN57.out; have := CN64.out; have := CN73.out; have := CP76.out; have := CN77.out; have := CN120.out; have := CN129.out; have := CP132.out; omega)))
  replace HM101 := Lib.hid (HM101.out.below hbx (show N73 ≤ W118.heap.size from (by have := CP7.out; have := CN8.out; have := CN28.out; have := CN37.out; have := CP40.out; have := CN41.out; have := CN42.out; have := CN53.out; have := CP56.out; have := CN57.out; have := CN64.out; have := CN73.out; have := CP76.out; have := CN77.out; have := CN120.out; have := CN129.out; have := CP132.out; omega)))
  replace HA130 := Lib.hid (HA130.out.below hbx (show N129 ≤ W118.heap.size from (by have := CP7.out; have := CN8.out; have := CN28.out; have := CN37.out; have := CP40.out; have := CN41.out; have := CN42.out; have := CN53.out; have := CP56.out; have := CN57.out; have := CN64.out; have := CN73.out; have := CP76.out; have := CN77.out; have := CN120.out; have := CN129.out; have := CP132.out; omega)))
  replace top := Nat.le_trans top hz
  clear hbx hz
  clear top
  obtain ⟨N133, hN133⟩ : ∃ n, n = W131.heap.size := ⟨_, rfl⟩
  have CN133 := Lib.hid (show P132 < N133 from by rw [hN133]; exact lP132)
  have top : N133 ≤ W131.heap.size := Nat.le_of_eq hN133
  clear hN133
  clear RD114 RD115 RD116 RD117
  refine (eqW_ans HA130.out HA38.out HF0.out).mono ?_; rintro e W135 ⟨rfl, hb134⟩
  have hz := hb134.size
  replace hwc := hwc.trans (hb134.mono hwc.size)
  replace cP7_0 := (hb134.cell (p := ⟨P7, 0, none⟩) lP7).trans cP7_0
  replace cP7_1 := (hb134.cell (p := ⟨P7, 1, none⟩) lP7).trans cP7_1
  replace cP7_2 := (hb134.cell (p := ⟨P7, 2, none⟩) lP7).trans cP7_2
  replace cP7_3 := (hb134.cell (p := ⟨P7, 3, none⟩) lP7).trans cP7_3
  replace lP7 : P7 < W135.heap.size := Nat.lt_of_lt_of_le lP7 hz
  replace cP40_0 := (hb134.cell (p := ⟨P40, 0, none⟩) lP40).trans cP40_0
  replace cP40_1 := (hb134.cell (p := ⟨P40, 1, none⟩) lP40).trans cP40_1
  replace cP40_2 := (hb134.cell (p := ⟨P40, 2, none⟩) lP40).trans cP40_2
  replace cP40_3 := (hb134.cell (p := ⟨P40, 3, none⟩) lP40).trans cP40_3
  replace lP40 : P40 < W135.heap.size := Nat.lt_of_lt_of_le lP40 hz
  replace cP56_0 := (hb134.cell (p := ⟨P56, 0, none⟩) lP56).trans cP56_0
  replace cP56_1 := (hb134.cell (p := ⟨P56, 1, none⟩) lP56).trans cP56_1
  replace cP56_2 := (hb134.cell (p := ⟨P56, 2, none⟩) lP56).trans cP56_2
  replace cP56_3 := (hb134.cell (p := ⟨P56, 3, none⟩) lP56).trans cP56_3
  replace lP56 : P56 < W135.heap.size := Nat.lt_of_lt_of_le lP56 hz
  replace cP76_0 := (hb134.cell (p := ⟨P76, 0, none⟩) lP76).trans cP76_0
  replace cP76_1 := (hb134.cell (p := ⟨P76, 1, none⟩) lP76).trans cP76_1
  replace cP76_2 := (hb134.cell (p := ⟨P76, 2, none⟩) lP76).trans cP76_2
  replace cP76_3 := (hb134.cell (p := ⟨P76, 3, none⟩) lP76).trans cP76_3
  replace lP76 : P76 < W135.heap.size := Nat.lt_of_lt_of_le lP76 hz
  replace cP132_0 := (hb134.cell (p := ⟨P132, 0, none⟩) lP132).trans cP132_0
  replace cP132_1 := (hb134.cell (p := ⟨P132, 1, none⟩) lP132).trans cP132_1
  replace cP132_2 := (hb134.cell (p := ⟨P132, 2, none⟩) lP132).trans cP132_2
  replace cP132_3 := (hb134.cell (p := ⟨P132, 3, none⟩) lP132).trans cP132_3
  replace lP132 : P132 < W135.heap.size := Nat.lt_of_lt_of_le lP132 hz
  replace HA38 := Lib.hid (HA38.out.below hb134 (show N37 ≤ W131.heap.size from (by have := CP7.out; have := CN8.out; have := CN28.out; have := CN37.out; have := CP40.out; have := CN41.out; have := CN42.out; have := CN53.out; have := CP56.out; have := CN57.out; have := CN64.out; have := CN73.out; have := CP76.out; have := CN77.out; have := CN120.out; have := CN129.out; have := CP132.out; have := CN133.out; omega)))
  replace HM101 := Lib.hid (HM101.out.below hb134 (show N73 ≤ W131.heap.size from (by have := CP7.out; have := CN8.out; have := CN28.out; have := CN37.out; have := CP40.out; have := CN41.out; have := CN42.out; have := CN53.out; have := CP56.out; have := CN57.out; have := CN64.out; have := CN73.out; have := CP76.out; have := CN77.out; have := CN120.out; have := CN129.out; have := CP132.out; have := CN133.out; omega)))
  replace HA130 := Lib.hid (HA130.out.below hb134 (show N129 ≤ W131.heap.size from (by have := CP7.out; have := CN8.out; have := CN28.out; have := CN37.out; have := CP40.out; have := CN41.out; have := CN42.out; have := CN53.out; have := CP56.out; have := CN57.out; have := CN64.out; have := CN73.out; have := CP76.out; have := CN77.out; have := CN120.out; have := CN129.out; have := CP132.out; have := CN133.out; omega)))
  replace top := Nat.le_trans top hz
  clear hb134 hz
  go_wp2_with fail
  refine (heldW_k 1 HM101.out HF0.out (show N73 ≤ W135.heap.size from (by have := CP7.out; have := CN8.out; have := CN28.out; have := CN37.out; have := CP40.out; have := CN41.out; have := CN42.out; have := CN53.out; have := CP56.out; have := CN57.out; have := CN64.out; have := CN73.out; have := CP76.out; have := CN77.out; have := CN120.out; have := CN129.out; have := CP132.out; have := CN133.out; omega)) (by decide) (by decide)).mono ?_; rw [← Em98.out]; rintro e W137 ⟨rfl, hb136⟩
  have hz := hb136.size
  replace hwc := hwc.trans (hb136.mono hwc.size)
  replace cP7_0 := (hb136.cell (p := ⟨P7, 0, none⟩) lP7).trans cP7_0
  replace cP7_1 := (hb136.cell (p := ⟨P7, 1, none⟩) lP7).trans cP7_1
  replace cP7_2 := (hb136.cell (p := ⟨P7, 2, none⟩) lP7).trans cP7_2
  replace cP7_3 := (hb136.cell (p := ⟨P7, 3, none⟩) lP7).trans cP7_3
  replace lP7 : P7 < W137.heap.size := Nat.lt_of_lt_of_le lP7 hz
  replace cP40_0 := (hb136.cell (p := ⟨P40, 0, none⟩) lP40).trans cP40_0
  replace cP40_1 := (hb136.cell (p := ⟨P40, 1, none⟩) lP40).trans cP40_1
  replace cP40_2 := (hb136.cell (p := ⟨P40, 2, none⟩) lP40).trans cP40_2
  replace cP40_3 := (hb136.cell (p := ⟨P40, 3, none⟩) lP40).trans cP40_3
  replace lP40 : P40 < W137.heap.size := Nat.lt_of_lt_of_le lP40 hz
  replace cP56_0 := (hb136.cell (p := ⟨P56, 0, none⟩) lP56).trans cP56_0
  replace cP56_1 := (hb136.cell (p := ⟨P56, 1, none⟩) lP56).trans cP56_1
  replace cP56_2 := (hb136.cell (p := ⟨P56, 2, none⟩) lP56).trans cP56_2
  replace cP56_3 := (hb136.cell (p := ⟨P56, 3, none⟩) lP56).trans cP56_3
  replace lP56 : P56 < W137.heap.size := Nat.lt_of_lt_of_le lP56 hz
  replace cP76_0 := (hb136.cell (p := ⟨P76, 0, none⟩) lP76).trans cP76_0
  replace cP76_1 := (hb136.cell (p := ⟨P76, 1, none⟩) lP76).trans cP76_1
  replace cP76_2 := (hb136.cell (p := ⟨P76, 2, none⟩) lP76).trans cP76_2
  replace cP76_3 := (hb136.cell (p := ⟨P76, 3, none⟩) lP76).trans cP76_3
  replace lP76 : P76 < W137.heap.size := Nat.lt_of_lt_of_le lP76 hz
  replace cP132_0 := (hb136.cell (p := ⟨P132, 0, none⟩) lP132).trans cP132_0
  replace cP132_1 := (hb136.cell (p := ⟨P132, 1, none⟩) lP132).trans cP132_1
  replace cP132_2 := (hb136.cell (p := ⟨P132, 2, none⟩) lP132).trans cP132_2
  replace cP132_3 := (hb136.cell (p := ⟨P132, 3, none⟩) lP132).trans cP132_3
  replace lP132 : P132 < W137.heap.size := Nat.lt_of_lt_of_le lP132 hz
  replace HA38 := Lib.hid (HA38.out.below hb136 (show N37 ≤ W135.heap.size from (by have := CP7.out; have := CN8.out; have := CN28.out; have := CN37.out; have := CP40.out; have := CN41.out; have := CN42.out; have := CN53.out; have := CP56.out; have := CN57.out; have := CN64.out; have := CN73.out; have := CP76.out; have := CN77.out; have := CN120.out; have := CN129.out; have := CP132.out; have := CN133.out; omega)))
  replace HM101 := Lib.hid (HM101.out.below hb136 (show N73 ≤ W135.heap.size from (by have := CP7.out; have := CN8.out; have := CN28.out; have := CN37.out; have := CP40.out; have := CN41.out; have := CN42.out; have := CN53.out; have := CP56.out; have := CN57.out; have := CN64.out; have := CN73.out; have := CP76.out; have := CN77.out; have := CN120.out; have := CN129.out; have := CP132.out; have := CN133.out; omega)))
  replace HA130 := Lib.hid (HA130.out.below hb136 (show N129 ≤ W135.heap.size from (by have := CP7.out; have := CN8.out; have := CN28.out; have := CN37.out; have := CP40.out; have := CN41.out; have := CN42.out; have := CN53.out; have := CP56.out; have := CN57.out; have := CN64.out; have := CN73.out; have := CP76.out; have := CN77.out; have := CN120.out; have := CN129.out; have := CP132.out; have := CN133.out; omega)))
  replace top := Nat.le_trans top hz
  clear hb136 hz
  go_wp2_with fail
  go_ret
  exact ⟨rfl, hwc⟩
end Go.Proofs.Ytgncaploccbfnaa.PW
