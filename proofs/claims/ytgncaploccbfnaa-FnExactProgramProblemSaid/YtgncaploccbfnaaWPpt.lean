/-
  ProgramProblem: the model in the words of the law's walk, and the exact law.
-/
import Derived.Test.YtgncaploccbfnaaWPps
import Derived.Test.YtgncaploccbfnaaWPpx
namespace Go.Proofs.Ytgncaploccbfnaa.PW
open Go.RowKit Go.Proofs.Ytgncaploccbfnaa
open Go.Proofs.Ytgncaploccbfnaa.PM
theorem ownR_keepP {W W' : World} {v : Value} {xss : List (List Int)} {us : List Value} (h : OwnR W v xss us) (hv : ∀ b, v.ownBlock = some b → W'.heap[b]? = W.heap[b]?)
    (hu : ∀ i b, i < xss.length → (us.getD i undef).ownBlock = some b → W'.heap[b]? = W.heap[b]?) : OwnR W' v xss us := by
  obtain ⟨h1, h2, h3, h4, h5⟩ := h
  exact ⟨h1, own_keep h2 hv, fun i hi => own_keep (h3 i hi) (fun b hb => hu i b hi hb), h4, h5⟩
set_option maxRecDepth 100000 in
set_option maxHeartbeats 4000000 in
theorem specProgramProblem_p (d c a b : Value) (D : List (List Int)) (C : List Int) (A : List (List Int)) (B : List Int) (w : World) (h1 : PM.Rows w d D) (h2 : Ints w c C) (h3 : PM.Rows w a A) (h4 : Ints w b B) (hs : szWn D C A B ≤ 1048576) :
    Calls Try.prog 41 #[.agg #[d, c, a, b]] w (OutP w (ppOut D C A B)) := by
  have HIS := Lib.hid (fun (w' : World) (h : Below w.heap.size w w') => l09Is_any d c a b D C A B w' (h1.below h) (h2.below h) (h3.below h) (h4.below h) hs)
  have HGP := Lib.hid (fun (hc : isWB D C A B = true) (w' : World) (h : Below w.heap.size w w') => l09Problem_any d c a b D C A B w' (h1.below h) (h2.below h) (h3.below h) (h4.below h) hc)
  obtain ⟨x1, y1, rfl, _⟩ := h1
  obtain ⟨x2, y2, rfl, _⟩ := h2
  obtain ⟨x3, y3, rfl, _⟩ := h3
  obtain ⟨x4, y4, rfl, _⟩ := h4
  obtain ⟨W0, hW0⟩ : ∃ W0, W0 = (w.alloc (.cells #[.slice x1 D.length y1, .slice x2 C.length y2, .slice x3 A.length y3, .slice x4 B.length y4] 54)).alloc (.cells #[.slice none 0 0, .slice none 0 0] 27) := ⟨_, rfl⟩
  have hg0 : Wp w W0 (.slice x1 D.length y1) (.slice x2 C.length y2) (.slice x3 A.length y3) (.slice x4 B.length y4) := by rw [hW0]; exact wp_new _ _ _ _ _ _ _
  have HG0 := Lib.hid hg0
  have HW0 := Lib.hid hW0
  clear hg0 hW0 hs
  cases hc : isWB D C A B
  · rw [ppOut_no hc]
    rw [hc] at HIS
    clear hc HGP
    go_enter Try.func41, Try.ntmps41
    go_wp2_with fail
    rw [← HW0.out]
    refine (HIS.out _ HG0.out.b).mono ?_; rintro e w1 ⟨rfl, hb1⟩
    obtain ⟨hw1, k0, k1, k2, k3, r0, r1, f, hz1⟩ := HG0.out.next hb1
    clear hb1
    go_wp2_with fail
    refine bodyPost_ret (v := .tuple #[.agg #[.slice none 0 0, .slice none 0 0], .int .i64 1]) (by simp [*, results, Try.results41, go_sem]) rfl ?_
    exact outPp_err (by (repeat' (first | (with_reducible exact Below.refl _ _) | (with_reducible assumption) | (with_reducible refine Below.alloc ?_ ?_ _) | (with_reducible refine Below.drew ?_) | (with_reducible refine below_drewN ?_ _) | (with_reducible refine Below.setCell ?_ ?_ _) | (with_reducible refine Below.trans ?_ (Below.mono (by with_reducible assumption) ?_)) | (with_reducible exact Below.size (by with_reducible assumption)) | go_size)))
  rw [ppOut_ok hc]
  have HGP := Lib.hid (HGP.out hc)
  generalize ppG D A C.length = g at *
  generalize ppQ C B = QQ at *
  rw [hc] at HIS
  clear hc
  obtain ⟨n, hn⟩ : ∃ n, n = C.length + B.length := ⟨_, rfl⟩
  rw [← hn] at HGP ⊢
  clear hn
  go_enter Try.func41, Try.ntmps41
  go_wp2_with fail
  rw [← HW0.out]
  refine (HIS.out _ HG0.out.b).mono ?_; rintro e w1 ⟨rfl, hb1⟩
  have hg1 := HG0.out.next hb1
  have HG1 := Lib.hid hg1
  obtain ⟨hw1, k0, k1, k2, k3, _, _, _, hz1⟩ := hg1
  clear hb1
  go_wp2_with fail
  refine (HGP.out _ hw1).mono ?_; rintro e w2 ⟨av, cv, aq, cq, us, rfl, ho, hb2⟩
  have hg2 := HG1.out.next hb2
  obtain ⟨hw2, _, _, _, _, z0, z1, zf, hz2⟩ := hg2
  have zf0 := zf 0
  have zf1 := zf 1
  have HO := Lib.hid ho
  have HBW := Lib.hid ((hw2.setCell (p := ⟨w.heap.size + 1, 0, none⟩) (by show w.heap.size ≤ w.heap.size + 1; omega) (.slice av n cv)).setCell (p := ⟨w.heap.size + 1, 1, none⟩) (by show w.heap.size ≤ w.heap.size + 1; omega) (.slice aq n cq))
  have HZ1 := Lib.hid hz1
  clear ho hb2 hw2 zf hw1 HG0 HG1
  go_wp2_with fail
  refine bodyPost_ret (v := .tuple #[.agg #[.slice av n cv, .slice aq n cq], .int .i64 0]) (by simp [*, results, Try.results41, go_sem]) rfl ?_
  have hk2 : ∀ b, b ≠ w.heap.size + 1 → ((w2.setCell ⟨w.heap.size + 1, 0, none⟩ (.slice av n cv)).setCell ⟨w.heap.size + 1, 1, none⟩ (.slice aq n cq)).heap[b]? = w2.heap[b]? := fun b hb => (Below.heap_setCell _ ⟨w.heap.size + 1, 1, none⟩ _ _ hb).trans (Below.heap_setCell _ ⟨w.heap.size + 1, 0, none⟩ _ _ hb)
  obtain ⟨o1, o2, o3, o4, o5, o6⟩ := HO.out
  have hzz := HZ1.out
  exact ⟨_, _, us, rfl, ⟨ownR_keepP o1 (fun b hb => hk2 b (by have := (o3 b hb).1; omega)) (fun i b hi hb => hk2 b (by have := (o5 i b hi hb).1; omega)), own_keep o2 (fun b hb => hk2 b (by have := (o4 b hb).1; omega)), fun b hb => by have := o3 b hb; simp; omega, fun b hb => by have := o4 b hb; simp; omega, fun i b hi hb => by have := o5 i b hi hb; simp; omega, o6⟩, HBW.out⟩
theorem specProgramProblem_any (d c a b : Value) (D : List (List Int)) (C : List Int) (A : List (List Int)) (B : List Int) (w : World) (h1 : PM.Rows w d D) (h2 : Ints w c C) (h3 : PM.Rows w a A) (h4 : Ints w b B) (hs : szWn D C A B ≤ 1048576) :
    Calls Try.prog 41 #[.agg #[d, c, a, b]] w (OutPx w (ppOut D C A B)) :=
  (specProgramProblem_p d c a b D C A B w h1 h2 h3 h4 hs).mono fun _ _ h => h.px
set_option maxHeartbeats 8000000 in
theorem law_FnExactProgramProblem (v00 v01 v02 v03 : Value) (X00 : List (List Int)) (X01 : List Int) (X02 : List (List Int)) (X03 : List Int) (w : World) (h00 : PM.Rows w v00 X00) (h01 : Ints w v01 X01) (h02 : PM.Rows w v02 X02) (h03 : Ints w v03 X03) :
    Calls Try.prog 8 #[.agg #[v00, v01, v02, v03]] w fun e w' => e = .returned (.bool true) ∧ Below w.heap.size w w' := by
  have g00 := fun (w' : World) (h : Below w.heap.size w w') => h00.below h
  have I00 := Lib.hid (rows_I64 h00)
  obtain ⟨a00, c00, rfl, _⟩ := h00
  have g01 := fun (w' : World) (h : Below w.heap.size w w') => h01.below h
  have I01 := Lib.hid (ints_I64 h01)
  obtain ⟨a01, c01, rfl, _⟩ := h01
  have g02 := fun (w' : World) (h : Below w.heap.size w w') => h02.below h
  have I02 := Lib.hid (rows_I64 h02)
  obtain ⟨a02, c02, rfl, _⟩ := h02
  have g03 := fun (w' : World) (h : Below w.heap.size w w') => h03.below h
  have I03 := Lib.hid (ints_I64 h03)
  obtain ⟨a03, c03, rfl, _⟩ := h03
  by_cases hz0 : szI (szWn X00 X01 X02 X03) 1048576 < 0
  · have E1 := Lib.hid (szx_neg hz0)
    clear hz0
    go_enter Try.func8, Try.ntmps8
    have hwc : Below w.heap.size w w := Below.refl _ _
    go_wp2_with fail
    obtain ⟨W1, hW1⟩ : ∃ w', w' = (w.alloc (.cells #[.slice a00 (X00).length c00, .slice a01 (X01).length c01, .slice a02 (X02).length c02, .slice a03 (X03).length c03] 51)) := ⟨_, rfl⟩
    rw [← hW1]
    have hbx : Below w.heap.size w W1 := by rw [hW1]; exact ((Below.refl _ _).alloc (by simp) _)
    obtain ⟨P2, hP2⟩ : ∃ n, n = w.heap.size := ⟨_, rfl⟩
    have cP2_0 : W1.cell? ⟨P2, 0, none⟩ = some (.slice a00 (X00).length c00) := by rw [hW1, hP2]; simp [go_sem]
    have cP2_1 : W1.cell? ⟨P2, 1, none⟩ = some (.slice a01 (X01).length c01) := by rw [hW1, hP2]; simp [go_sem]
    have cP2_2 : W1.cell? ⟨P2, 2, none⟩ = some (.slice a02 (X02).length c02) := by rw [hW1, hP2]; simp [go_sem]
    have cP2_3 : W1.cell? ⟨P2, 3, none⟩ = some (.slice a03 (X03).length c03) := by rw [hW1, hP2]; simp [go_sem]
    have lP2 : P2 < W1.heap.size := by rw [hW1, hP2]; simp
    have CP2 := Lib.hid (show w.heap.size ≤ P2 from by rw [hP2]; exact hwc.size)
    rw [← hP2]
    clear hP2 hW1
    have hz := hbx.size
    replace hwc := hwc.trans (hbx.mono hwc.size)
    clear hbx hz
    obtain ⟨N3, hN3⟩ : ∃ n, n = W1.heap.size := ⟨_, rfl⟩
    have CN3 := Lib.hid (show P2 < N3 from by rw [hN3]; exact lP2)
    have top : N3 ≤ W1.heap.size := Nat.le_of_eq hN3
    clear hN3
    refine (szW_x _ _ _ _ X00 X01 X02 X03 _ _ (g00 _ hwc) (g01 _ hwc) (g02 _ hwc) (g03 _ hwc) (by omega) (by omega)).mono ?_; rw [E1.out]; rintro e W5 ⟨rfl, hb4⟩
    have hz := hb4.size
    replace hwc := hwc.trans (hb4.mono hwc.size)
    replace cP2_0 := (hb4.cell (p := ⟨P2, 0, none⟩) lP2).trans cP2_0
    replace cP2_1 := (hb4.cell (p := ⟨P2, 1, none⟩) lP2).trans cP2_1
    replace cP2_2 := (hb4.cell (p := ⟨P2, 2, none⟩) lP2).trans cP2_2
    replace cP2_3 := (hb4.cell (p := ⟨P2, 3, none⟩) lP2).trans cP2_3
    replace lP2 : P2 < W5.heap.size := Nat.lt_of_lt_of_le lP2 hz
    replace top := Nat.le_trans top hz
    clear hb4 hz
    go_wp2_with fail
    go_ret
    exact ⟨rfl, hwc⟩
  obtain ⟨hf0, hle0⟩ := szx_fits hz0
  have hn0 : (szWn X00 X01 X02 X03) ≤ 1048576 := by omega
  have HN0 := Lib.hid hn0
  clear hn0 hf0
  have hspec := fun (v00 v01 v02 v03 : Value) (w : World) (h0 : PM.Rows w v00 X00) (h1 : Ints w v01 X01) (h2 : PM.Rows w v02 X02) (h3 : Ints w v03 X03) => specProgramProblem_any v00 v01 v02 v03 X00 X01 X02 X03  w h0 h1 h2 h3 HN0.out
  have himpl := fun (v00 v01 v02 v03 : Value) (w : World) (h0 : PM.Rows w v00 X00) (h1 : Ints w v01 X01) (h2 : PM.Rows w v02 X02) (h3 : Ints w v03 X03) => implProgramProblem_any v00 v01 v02 v03 X00 X01 X02 X03  w h0 h1 h2 h3 HN0.out
  have hfine := fine_ppx X00 X01 X02 X03 
  generalize ppOut X00 X01 X02 X03  = o at *
  obtain ⟨O00, O01, o1⟩ := o
  have HS := Lib.hid hspec
  have HI := Lib.hid himpl
  clear hspec himpl
  have HF0 : Hid (FinePx O00 O01) := Lib.hid hfine
  clear hfine
  go_enter Try.func8, Try.ntmps8
  have hwc : Below w.heap.size w w := Below.refl _ _
  go_wp2_with fail
  obtain ⟨W6, hW6⟩ : ∃ w', w' = (w.alloc (.cells #[.slice a00 (X00).length c00, .slice a01 (X01).length c01, .slice a02 (X02).length c02, .slice a03 (X03).length c03] 51)) := ⟨_, rfl⟩
  rw [← hW6]
  have hbx : Below w.heap.size w W6 := by rw [hW6]; exact ((Below.refl _ _).alloc (by simp) _)
  obtain ⟨P7, hP7⟩ : ∃ n, n = w.heap.size := ⟨_, rfl⟩
  have cP7_0 : W6.cell? ⟨P7, 0, none⟩ = some (.slice a00 (X00).length c00) := by rw [hW6, hP7]; simp [go_sem]
  have cP7_1 : W6.cell? ⟨P7, 1, none⟩ = some (.slice a01 (X01).length c01) := by rw [hW6, hP7]; simp [go_sem]
  have cP7_2 : W6.cell? ⟨P7, 2, none⟩ = some (.slice a02 (X02).length c02) := by rw [hW6, hP7]; simp [go_sem]
  have cP7_3 : W6.cell? ⟨P7, 3, none⟩ = some (.slice a03 (X03).length c03) := by rw [hW6, hP7]; simp [go_sem]
  have lP7 : P7 < W6.heap.size := by rw [hW6, hP7]; simp
  have CP7 := Lib.hid (show w.heap.size ≤ P7 from by rw [hP7]; exact hwc.size)
  rw [← hP7]
  clear hP7 hW6
  have hz := hbx.size
  replace hwc := hwc.trans (hbx.mono hwc.size)
  clear hbx hz
  obtain ⟨N8, hN8⟩ : ∃ n, n = W6.heap.size := ⟨_, rfl⟩
  have CN8 := Lib.hid (show P7 < N8 from by rw [hN8]; exact lP7)
  have top : N8 ≤ W6.heap.size := Nat.le_of_eq hN8
  clear hN8
  refine (szW_x _ _ _ _ X00 X01 X02 X03 _ _ (g00 _ hwc) (g01 _ hwc) (g02 _ hwc) (g03 _ hwc) (by omega) (by omega)).mono ?_; rintro e W10 ⟨rfl, hb9⟩
  have hz := hb9.size
  replace hwc := hwc.trans (hb9.mono hwc.size)
  replace cP7_0 := (hb9.cell (p := ⟨P7, 0, none⟩) lP7).trans cP7_0
  replace cP7_1 := (hb9.cell (p := ⟨P7, 1, none⟩) lP7).trans cP7_1
  replace cP7_2 := (hb9.cell (p := ⟨P7, 2, none⟩) lP7).trans cP7_2
  replace cP7_3 := (hb9.cell (p := ⟨P7, 3, none⟩) lP7).trans cP7_3
  replace lP7 : P7 < W10.heap.size := Nat.lt_of_lt_of_le lP7 hz
  replace top := Nat.le_trans top hz
  clear hb9 hz
  generalize szI (szWn X00 X01 X02 X03) 1048576 = lf11 at *
  go_wp2_with fail
  clear hz0 hle0
  refine (toW_x _ _ _ _ X00 X01 X02 X03 _ (g00 _ hwc) (g01 _ hwc) (g02 _ hwc) (g03 _ hwc) HN0.out).mono ?_; rintro e W13 ⟨p14, q15, p16, q17, p18, q19, p20, q21, rfl, hr, hb12⟩
  have hrr := RngWx.reads hr I00.out I01.out I02.out I03.out
  have RD22 := Lib.hid (hrr.1)
  have RD23 := Lib.hid (hrr.2.1)
  have RD24 := Lib.hid (hrr.2.2.1)
  have RD25 := Lib.hid (hrr.2.2.2)
  clear hrr
  clear hr
  have hz := hb12.size
  replace hwc := hwc.trans (hb12.mono hwc.size)
  replace cP7_0 := (hb12.cell (p := ⟨P7, 0, none⟩) lP7).trans cP7_0
  replace cP7_1 := (hb12.cell (p := ⟨P7, 1, none⟩) lP7).trans cP7_1
  replace cP7_2 := (hb12.cell (p := ⟨P7, 2, none⟩) lP7).trans cP7_2
  replace cP7_3 := (hb12.cell (p := ⟨P7, 3, none⟩) lP7).trans cP7_3
  replace lP7 : P7 < W13.heap.size := Nat.lt_of_lt_of_le lP7 hz
  replace top := Nat.le_trans top hz
  clear hb12 hz
  go_wp2_with fail
  obtain ⟨N28, hN28⟩ : ∃ N28, N28 = W13.heap.size := ⟨_, rfl⟩
  have CN28 := Lib.hid (show N8 ≤ N28 from by rw [hN28]; exact top)
  have top' : N28 ≤ W13.heap.size := Nat.le_of_eq hN28
  clear top
  have top := top'
  clear top'
  refine (HS.out _ _ _ _ _ RD22.out RD23.out RD24.out RD25.out).mono ?_; rintro e W26 ho; obtain ⟨p29, q30, p31, q32, rfl, hr0, hb27⟩ := ho.out; clear ho; dsimp only at hr0; dsimp only
  rw [← hN28] at hr0
  clear hN28
  have hz := hb27.size
  replace hwc := hwc.trans (hb27.mono hwc.size)
  replace cP7_0 := (hb27.cell (p := ⟨P7, 0, none⟩) lP7).trans cP7_0
  replace cP7_1 := (hb27.cell (p := ⟨P7, 1, none⟩) lP7).trans cP7_1
  replace cP7_2 := (hb27.cell (p := ⟨P7, 2, none⟩) lP7).trans cP7_2
  replace cP7_3 := (hb27.cell (p := ⟨P7, 3, none⟩) lP7).trans cP7_3
  replace lP7 : P7 < W26.heap.size := Nat.lt_of_lt_of_le lP7 hz
  replace RD22 := Lib.hid (RD22.out.below hb27)
  replace RD23 := Lib.hid (RD23.out.below hb27)
  replace RD24 := Lib.hid (RD24.out.below hb27)
  replace RD25 := Lib.hid (RD25.out.below hb27)
  replace top := Nat.le_trans top hz
  clear hb27 hz
  obtain ⟨N33, hN33⟩ : ∃ N33, N33 = W26.heap.size := ⟨_, rfl⟩
  have CN33 := Lib.hid (show N28 ≤ N33 from by rw [hN33]; exact top)
  have top' : N33 ≤ W26.heap.size := Nat.le_of_eq hN33
  clear top
  have top := top'
  clear top'
  rw [← hN33] at hr0
  clear hN33
  have HA34 := Lib.hid hr0
  clear hr0
  go_wp2_with fail
  obtain ⟨W35, hW35⟩ : ∃ w', w' = (W26.alloc (.cells #[.slice p29 (O00).length q30, .slice p31 (O01).length q32] 27)) := ⟨_, rfl⟩
  rw [← hW35]
  have hbx : Below W26.heap.size W26 W35 := by rw [hW35]; exact ((Below.refl _ _).alloc (by simp) _)
  obtain ⟨P36, hP36⟩ : ∃ n, n = W26.heap.size := ⟨_, rfl⟩
  have cP36_0 : W35.cell? ⟨P36, 0, none⟩ = some (.slice p29 (O00).length q30) := by rw [hW35, hP36]; simp [go_sem]
  have cP36_1 : W35.cell? ⟨P36, 1, none⟩ = some (.slice p31 (O01).length q32) := by rw [hW35, hP36]; simp [go_sem]
  have lP36 : P36 < W35.heap.size := by rw [hW35, hP36]; simp
  have CP36 := Lib.hid (show N33 ≤ P36 from by rw [hP36]; exact top)
  rw [← hP36]
  clear hP36 hW35
  have hz := hbx.size
  replace hwc := hwc.trans (hbx.mono hwc.size)
  replace cP7_0 := (hbx.cell (p := ⟨P7, 0, none⟩) lP7).trans cP7_0
  replace cP7_1 := (hbx.cell (p := ⟨P7, 1, none⟩) lP7).trans cP7_1
  replace cP7_2 := (hbx.cell (p := ⟨P7, 2, none⟩) lP7).trans cP7_2
  replace cP7_3 := (hbx.cell (p := ⟨P7, 3, none⟩) lP7).trans cP7_3
  replace lP7 : P7 < W35.heap.size := Nat.lt_of_lt_of_le lP7 hz
  replace RD22 := Lib.hid (RD22.out.below hbx)
  replace RD23 := Lib.hid (RD23.out.below hbx)
  replace RD24 := Lib.hid (RD24.out.below hbx)
  replace RD25 := Lib.hid (RD25.out.below hbx)
  replace HA34 := Lib.hid (HA34.out.below hbx (show N33 ≤ W26.heap.size from (by have := CP7.out; have := CN8.out; have := CN28.out; have := CN33.out; have := CP36.out; omega)))
  replace top := Nat.le_trans top hz
  clear hbx hz
  clear top
  obtain ⟨N37, hN37⟩ : ∃ n, n = W35.heap.size := ⟨_, rfl⟩
  have CN37 := Lib.hid (show P36 < N37 from by rw [hN37]; exact lP36)
  have top : N37 ≤ W35.heap.size := Nat.le_of_eq hN37
  clear hN37
  clear RD22 RD23 RD24 RD25
  obtain ⟨N38, hN38⟩ : ∃ N38, N38 = W35.heap.size := ⟨_, rfl⟩
  have CN38 := Lib.hid (show N37 ≤ N38 from by rw [hN38]; exact top)
  have top' : N38 ≤ W35.heap.size := Nat.le_of_eq hN38
  clear top
  have top := top'
  clear top'
  refine (toW_x _ _ _ _ X00 X01 X02 X03 _ (g00 _ hwc) (g01 _ hwc) (g02 _ hwc) (g03 _ hwc) HN0.out).mono ?_; rintro e W40 ⟨p41, q42, p43, q44, p45, q46, p47, q48, rfl, hr, hb39⟩
  rw [← hN38] at hr
  clear hN38
  have hz := hb39.size
  replace hwc := hwc.trans (hb39.mono hwc.size)
  replace cP7_0 := (hb39.cell (p := ⟨P7, 0, none⟩) lP7).trans cP7_0
  replace cP7_1 := (hb39.cell (p := ⟨P7, 1, none⟩) lP7).trans cP7_1
  replace cP7_2 := (hb39.cell (p := ⟨P7, 2, none⟩) lP7).trans cP7_2
  replace cP7_3 := (hb39.cell (p := ⟨P7, 3, none⟩) lP7).trans cP7_3
  replace lP7 : P7 < W40.heap.size := Nat.lt_of_lt_of_le lP7 hz
  replace cP36_0 := (hb39.cell (p := ⟨P36, 0, none⟩) lP36).trans cP36_0
  replace cP36_1 := (hb39.cell (p := ⟨P36, 1, none⟩) lP36).trans cP36_1
  replace lP36 : P36 < W40.heap.size := Nat.lt_of_lt_of_le lP36 hz
  replace HA34 := Lib.hid (HA34.out.below hb39 (show N33 ≤ W35.heap.size from (by have := CP7.out; have := CN8.out; have := CN28.out; have := CN33.out; have := CP36.out; have := CN37.out; have := CN38.out; omega)))
  replace top := Nat.le_trans top hz
  clear hb39 hz
  obtain ⟨N49, hN49⟩ : ∃ N49, N49 = W40.heap.size := ⟨_, rfl⟩
  have CN49 := Lib.hid (show N38 ≤ N49 from by rw [hN49]; exact top)
  have top' : N49 ≤ W40.heap.size := Nat.le_of_eq hN49
  clear top
  have top := top'
  clear top'
  rw [← hN49] at hr
  clear hN49
  have HX50 := Lib.hid hr
  clear hr
  go_wp2_with fail
  obtain ⟨W51, hW51⟩ : ∃ w', w' = (W40.alloc (.cells #[.slice p41 (X00).length q42, .slice p43 (X01).length q44, .slice p45 (X02).length q46, .slice p47 (X03).length q48] 54)) := ⟨_, rfl⟩
  rw [← hW51]
  have hbx : Below W40.heap.size W40 W51 := by rw [hW51]; exact ((Below.refl _ _).alloc (by simp) _)
  obtain ⟨P52, hP52⟩ : ∃ n, n = W40.heap.size := ⟨_, rfl⟩
  have cP52_0 : W51.cell? ⟨P52, 0, none⟩ = some (.slice p41 (X00).length q42) := by rw [hW51, hP52]; simp [go_sem]
  have cP52_1 : W51.cell? ⟨P52, 1, none⟩ = some (.slice p43 (X01).length q44) := by rw [hW51, hP52]; simp [go_sem]
  have cP52_2 : W51.cell? ⟨P52, 2, none⟩ = some (.slice p45 (X02).length q46) := by rw [hW51, hP52]; simp [go_sem]
  have cP52_3 : W51.cell? ⟨P52, 3, none⟩ = some (.slice p47 (X03).length q48) := by rw [hW51, hP52]; simp [go_sem]
  have lP52 : P52 < W51.heap.size := by rw [hW51, hP52]; simp
  have CP52 := Lib.hid (show N49 ≤ P52 from by rw [hP52]; exact top)
  rw [← hP52]
  clear hP52 hW51
  have hz := hbx.size
  replace hwc := hwc.trans (hbx.mono hwc.size)
  replace cP7_0 := (hbx.cell (p := ⟨P7, 0, none⟩) lP7).trans cP7_0
  replace cP7_1 := (hbx.cell (p := ⟨P7, 1, none⟩) lP7).trans cP7_1
  replace cP7_2 := (hbx.cell (p := ⟨P7, 2, none⟩) lP7).trans cP7_2
  replace cP7_3 := (hbx.cell (p := ⟨P7, 3, none⟩) lP7).trans cP7_3
  replace lP7 : P7 < W51.heap.size := Nat.lt_of_lt_of_le lP7 hz
  replace cP36_0 := (hbx.cell (p := ⟨P36, 0, none⟩) lP36).trans cP36_0
  replace cP36_1 := (hbx.cell (p := ⟨P36, 1, none⟩) lP36).trans cP36_1
  replace lP36 : P36 < W51.heap.size := Nat.lt_of_lt_of_le lP36 hz
  replace HA34 := Lib.hid (HA34.out.below hbx (show N33 ≤ W40.heap.size from (by have := CP7.out; have := CN8.out; have := CN28.out; have := CN33.out; have := CP36.out; have := CN37.out; have := CN38.out; have := CN49.out; have := CP52.out; omega)))
  replace HX50 := Lib.hid (HX50.out.below hbx (show N49 ≤ W40.heap.size from (by have := CP7.out; have := CN8.out; have := CN28.out; have := CN33.out; have := CP36.out; have := CN37.out; have := CN38.out; have := CN49.out; have := CP52.out; omega)))
  replace top := Nat.le_trans top hz
  clear hbx hz
  clear top
  obtain ⟨N53, hN53⟩ : ∃ n, n = W51.heap.size := ⟨_, rfl⟩
  have CN53 := Lib.hid (show P52 < N53 from by rw [hN53]; exact lP52)
  have top : N53 ≤ W51.heap.size := Nat.le_of_eq hN53
  clear hN53
  have hrr := RngWx.reads HX50.out I00.out I01.out I02.out I03.out
  have RD54 := Lib.hid (hrr.1)
  have RD55 := Lib.hid (hrr.2.1)
  have RD56 := Lib.hid (hrr.2.2.1)
  have RD57 := Lib.hid (hrr.2.2.2)
  clear hrr
  obtain ⟨N60, hN60⟩ : ∃ N60, N60 = W51.heap.size := ⟨_, rfl⟩
  have CN60 := Lib.hid (show N53 ≤ N60 from by rw [hN60]; exact top)
  have top' : N60 ≤ W51.heap.size := Nat.le_of_eq hN60
  clear top
  have top := top'
  clear top'
  refine (HI.out _ _ _ _ _ RD54.out RD55.out RD56.out RD57.out).mono ?_; rintro e W58 ho; obtain ⟨p61, q62, p63, q64, rfl, hr0, hb59⟩ := ho.out; clear ho; dsimp only at hr0; dsimp only
  rw [← hN60] at hr0
  clear hN60
  have hz := hb59.size
  replace hwc := hwc.trans (hb59.mono hwc.size)
  replace cP7_0 := (hb59.cell (p := ⟨P7, 0, none⟩) lP7).trans cP7_0
  replace cP7_1 := (hb59.cell (p := ⟨P7, 1, none⟩) lP7).trans cP7_1
  replace cP7_2 := (hb59.cell (p := ⟨P7, 2, none⟩) lP7).trans cP7_2
  replace cP7_3 := (hb59.cell (p := ⟨P7, 3, none⟩) lP7).trans cP7_3
  replace lP7 : P7 < W58.heap.size := Nat.lt_of_lt_of_le lP7 hz
  replace cP36_0 := (hb59.cell (p := ⟨P36, 0, none⟩) lP36).trans cP36_0
  replace cP36_1 := (hb59.cell (p := ⟨P36, 1, none⟩) lP36).trans cP36_1
  replace lP36 : P36 < W58.heap.size := Nat.lt_of_lt_of_le lP36 hz
  replace cP52_0 := (hb59.cell (p := ⟨P52, 0, none⟩) lP52).trans cP52_0
  replace cP52_1 := (hb59.cell (p := ⟨P52, 1, none⟩) lP52).trans cP52_1
  replace cP52_2 := (hb59.cell (p := ⟨P52, 2, none⟩) lP52).trans cP52_2
  replace cP52_3 := (hb59.cell (p := ⟨P52, 3, none⟩) lP52).trans cP52_3
  replace lP52 : P52 < W58.heap.size := Nat.lt_of_lt_of_le lP52 hz
  replace RD54 := Lib.hid (RD54.out.below hb59)
  replace RD55 := Lib.hid (RD55.out.below hb59)
  replace RD56 := Lib.hid (RD56.out.below hb59)
  replace RD57 := Lib.hid (RD57.out.below hb59)
  replace HA34 := Lib.hid (HA34.out.below hb59 (show N33 ≤ W51.heap.size from (by have := CP7.out; have := CN8.out; have := CN28.out; have := CN33.out; have := CP36.out; have := CN37.out; have := CN38.out; have := CN49.out; have := CP52.out; have := CN53.out; have := CN60.out; omega)))
  replace HX50 := Lib.hid (HX50.out.below hb59 (show N49 ≤ W51.heap.size from (by have := CP7.out; have := CN8.out; have := CN28.out; have := CN33.out; have := CP36.out; have := CN37.out; have := CN38.out; have := CN49.out; have := CP52.out; have := CN53.out; have := CN60.out; omega)))
  replace top := Nat.le_trans top hz
  clear hb59 hz
  obtain ⟨N65, hN65⟩ : ∃ N65, N65 = W58.heap.size := ⟨_, rfl⟩
  have CN65 := Lib.hid (show N60 ≤ N65 from by rw [hN65]; exact top)
  have top' : N65 ≤ W58.heap.size := Nat.le_of_eq hN65
  clear top
  have top := top'
  clear top'
  rw [← hN65] at hr0
  clear hN65
  have HA66 := Lib.hid hr0
  clear hr0
  go_wp2_with fail
  obtain ⟨W67, hW67⟩ : ∃ w', w' = (W58.alloc (.cells #[.slice p61 (O00).length q62, .slice p63 (O01).length q64] 27)) := ⟨_, rfl⟩
  rw [← hW67]
  have hbx : Below W58.heap.size W58 W67 := by rw [hW67]; exact ((Below.refl _ _).alloc (by simp) _)
  obtain ⟨P68, hP68⟩ : ∃ n, n = W58.heap.size := ⟨_, rfl⟩
  have cP68_0 : W67.cell? ⟨P68, 0, none⟩ = some (.slice p61 (O00).length q62) := by rw [hW67, hP68]; simp [go_sem]
  have cP68_1 : W67.cell? ⟨P68, 1, none⟩ = some (.slice p63 (O01).length q64) := by rw [hW67, hP68]; simp [go_sem]
  have lP68 : P68 < W67.heap.size := by rw [hW67, hP68]; simp
  have CP68 := Lib.hid (show N65 ≤ P68 from by rw [hP68]; exact top)
  rw [← hP68]
  clear hP68 hW67
  have hz := hbx.size
  replace hwc := hwc.trans (hbx.mono hwc.size)
  replace cP7_0 := (hbx.cell (p := ⟨P7, 0, none⟩) lP7).trans cP7_0
  replace cP7_1 := (hbx.cell (p := ⟨P7, 1, none⟩) lP7).trans cP7_1
  replace cP7_2 := (hbx.cell (p := ⟨P7, 2, none⟩) lP7).trans cP7_2
  replace cP7_3 := (hbx.cell (p := ⟨P7, 3, none⟩) lP7).trans cP7_3
  replace lP7 : P7 < W67.heap.size := Nat.lt_of_lt_of_le lP7 hz
  replace cP36_0 := (hbx.cell (p := ⟨P36, 0, none⟩) lP36).trans cP36_0
  replace cP36_1 := (hbx.cell (p := ⟨P36, 1, none⟩) lP36).trans cP36_1
  replace lP36 : P36 < W67.heap.size := Nat.lt_of_lt_of_le lP36 hz
  replace cP52_0 := (hbx.cell (p := ⟨P52, 0, none⟩) lP52).trans cP52_0
  replace cP52_1 := (hbx.cell (p := ⟨P52, 1, none⟩) lP52).trans cP52_1
  replace cP52_2 := (hbx.cell (p := ⟨P52, 2, none⟩) lP52).trans cP52_2
  replace cP52_3 := (hbx.cell (p := ⟨P52, 3, none⟩) lP52).trans cP52_3
  replace lP52 : P52 < W67.heap.size := Nat.lt_of_lt_of_le lP52 hz
  replace RD54 := Lib.hid (RD54.out.below hbx)
  replace RD55 := Lib.hid (RD55.out.below hbx)
  replace RD56 := Lib.hid (RD56.out.below hbx)
  replace RD57 := Lib.hid (RD57.out.below hbx)
  replace HA34 := Lib.hid (HA34.out.below hbx (show N33 ≤ W58.heap.size from (by have := CP7.out; have := CN8.out; have := CN28.out; have := CN33.out; have := CP36.out; have := CN37.out; have := CN38.out; have := CN49.out; have := CP52.out; have := CN53.out; have := CN60.out; have := CN65.out; have := CP68.out; omega)))
  replace HX50 := Lib.hid (HX50.out.below hbx (show N49 ≤ W58.heap.size from (by have := CP7.out; have := CN8.out; have := CN28.out; have := CN33.out; have := CP36.out; have := CN37.out; have := CN38.out; have := CN49.out; have := CP52.out; have := CN53.out; have := CN60.out; have := CN65.out; have := CP68.out; omega)))
  replace HA66 := Lib.hid (HA66.out.below hbx (show N65 ≤ W58.heap.size from (by have := CP7.out; have := CN8.out; have := CN28.out; have := CN33.out; have := CP36.out; have := CN37.out; have := CN38.out; have := CN49.out; have := CP52.out; have := CN53.out; have := CN60.out; have := CN65.out; have := CP68.out; omega)))
  replace top := Nat.le_trans top hz
  clear hbx hz
  clear top
  obtain ⟨N69, hN69⟩ : ∃ n, n = W67.heap.size := ⟨_, rfl⟩
  have CN69 := Lib.hid (show P68 < N69 from by rw [hN69]; exact lP68)
  have top : N69 ≤ W67.heap.size := Nat.le_of_eq hN69
  clear hN69
  clear RD54 RD55 RD56 RD57
  refine (eqP_ans HA66.out HA34.out HF0.out).mono ?_; rintro e W71 ⟨rfl, hb70⟩
  have hz := hb70.size
  replace hwc := hwc.trans (hb70.mono hwc.size)
  replace cP7_0 := (hb70.cell (p := ⟨P7, 0, none⟩) lP7).trans cP7_0
  replace cP7_1 := (hb70.cell (p := ⟨P7, 1, none⟩) lP7).trans cP7_1
  replace cP7_2 := (hb70.cell (p := ⟨P7, 2, none⟩) lP7).trans cP7_2
  replace cP7_3 := (hb70.cell (p := ⟨P7, 3, none⟩) lP7).trans cP7_3
  replace lP7 : P7 < W71.heap.size := Nat.lt_of_lt_of_le lP7 hz
  replace cP36_0 := (hb70.cell (p := ⟨P36, 0, none⟩) lP36).trans cP36_0
  replace cP36_1 := (hb70.cell (p := ⟨P36, 1, none⟩) lP36).trans cP36_1
  replace lP36 : P36 < W71.heap.size := Nat.lt_of_lt_of_le lP36 hz
  replace cP52_0 := (hb70.cell (p := ⟨P52, 0, none⟩) lP52).trans cP52_0
  replace cP52_1 := (hb70.cell (p := ⟨P52, 1, none⟩) lP52).trans cP52_1
  replace cP52_2 := (hb70.cell (p := ⟨P52, 2, none⟩) lP52).trans cP52_2
  replace cP52_3 := (hb70.cell (p := ⟨P52, 3, none⟩) lP52).trans cP52_3
  replace lP52 : P52 < W71.heap.size := Nat.lt_of_lt_of_le lP52 hz
  replace cP68_0 := (hb70.cell (p := ⟨P68, 0, none⟩) lP68).trans cP68_0
  replace cP68_1 := (hb70.cell (p := ⟨P68, 1, none⟩) lP68).trans cP68_1
  replace lP68 : P68 < W71.heap.size := Nat.lt_of_lt_of_le lP68 hz
  replace HA34 := Lib.hid (HA34.out.below hb70 (show N33 ≤ W67.heap.size from (by have := CP7.out; have := CN8.out; have := CN28.out; have := CN33.out; have := CP36.out; have := CN37.out; have := CN38.out; have := CN49.out; have := CP52.out; have := CN53.out; have := CN60.out; have := CN65.out; have := CP68.out; have := CN69.out; omega)))
  replace HX50 := Lib.hid (HX50.out.below hb70 (show N49 ≤ W67.heap.size from (by have := CP7.out; have := CN8.out; have := CN28.out; have := CN33.out; have := CP36.out; have := CN37.out; have := CN38.out; have := CN49.out; have := CP52.out; have := CN53.out; have := CN60.out; have := CN65.out; have := CP68.out; have := CN69.out; omega)))
  replace HA66 := Lib.hid (HA66.out.below hb70 (show N65 ≤ W67.heap.size from (by have := CP7.out; have := CN8.out; have := CN28.out; have := CN33.out; have := CP36.out; have := CN37.out; have := CN38.out; have := CN49.out; have := CP52.out; have := CN53.out; have := CN60.out; have := CN65.out; have := CP68.out; have := CN69.out; omega)))
  replace top := Nat.le_trans top hz
  clear hb70 hz
  have hrr := RngWx.reads HX50.out I00.out I01.out I02.out I03.out
  have RX72 := Lib.hid (hrr.1)
  have RX73 := Lib.hid (hrr.2.1)
  have RX74 := Lib.hid (hrr.2.2.1)
  have RX75 := Lib.hid (hrr.2.2.2)
  clear hrr
  have rp0 := fun (w' : World) (h : Below W71.heap.size W71 w') => (h.cell (p := ⟨P7, 0, none⟩) lP7).trans cP7_0
  have rp1 := fun (w' : World) (h : Below W71.heap.size W71 w') => (h.cell (p := ⟨P7, 1, none⟩) lP7).trans cP7_1
  have rp2 := fun (w' : World) (h : Below W71.heap.size W71 w') => (h.cell (p := ⟨P7, 2, none⟩) lP7).trans cP7_2
  have rp3 := fun (w' : World) (h : Below W71.heap.size W71 w') => (h.cell (p := ⟨P7, 3, none⟩) lP7).trans cP7_3
  have rv0 := fun (w' : World) (h : Below W71.heap.size W71 w') => (h.cell (p := ⟨P52, 0, none⟩) lP52).trans cP52_0
  have rv1 := fun (w' : World) (h : Below W71.heap.size W71 w') => (h.cell (p := ⟨P52, 1, none⟩) lP52).trans cP52_1
  have rv2 := fun (w' : World) (h : Below W71.heap.size W71 w') => (h.cell (p := ⟨P52, 2, none⟩) lP52).trans cP52_2
  have rv3 := fun (w' : World) (h : Below W71.heap.size W71 w') => (h.cell (p := ⟨P52, 3, none⟩) lP52).trans cP52_3
  clear cP7_0 cP7_1 cP7_2 cP7_3
  clear cP52_0 cP52_1 cP52_2 cP52_3
  go_wp2_with fail
  have hz9 := hwc.size
  go_region_held3 (fun w' => Below W71.heap.size W71 w') ((repeat' (first | (with_reducible exact Below.refl _ _) | (with_reducible assumption) | (with_reducible refine Below.alloc ?_ ?_ _) | (with_reducible refine Below.drew ?_) | (with_reducible refine below_drewN ?_ _) | (with_reducible refine Below.setCell ?_ ?_ _) | (with_reducible refine Below.trans ?_ (Below.mono (by with_reducible assumption) ?_)) | (with_reducible exact Below.size (by with_reducible assumption)) | go_size)))
    (first | (go_at_call 38; refine (toW_x _ _ _ _ X00 X01 X02 X03 _ (g00 _ (hwc.trans (Below.mono (by assumption) hz9))) (g01 _ (hwc.trans (Below.mono (by assumption) hz9))) (g02 _ (hwc.trans (Below.mono (by assumption) hz9))) (g03 _ (hwc.trans (Below.mono (by assumption) hz9))) HN0.out).mono ?_; rintro e w8 ⟨p76, q77, p78, q79, p80, q81, p82, q83, rfl, hr8, hb8⟩; have hS8 : Below W71.heap.size W71 w8 := (by (repeat' (first | (with_reducible exact Below.refl _ _) | (with_reducible assumption) | (with_reducible refine Below.alloc ?_ ?_ _) | (with_reducible refine Below.drew ?_) | (with_reducible refine below_drewN ?_ _) | (with_reducible refine Below.setCell ?_ ?_ _) | (with_reducible refine Below.trans ?_ (Below.mono (by with_reducible assumption) ?_)) | (with_reducible exact Below.size (by with_reducible assumption)) | go_size))); have R8 := Lib.hid (RngWx.reads hr8 I00.out I01.out I02.out I03.out); clear hr8) | (go_at_call 40; refine (eqW_x _ _ _ _ _ _ _ _ X00 X01 X02 X03 _ (RX72.out.below hS8) (RX73.out.below hS8) (RX74.out.below hS8) (RX75.out.below hS8) (R8.out.1) (R8.out.2.1) (R8.out.2.2.1) (R8.out.2.2.2)).mono ?_; rintro e w9 ⟨rfl, hb9⟩; have hS9 : Below W71.heap.size W71 w9 := (by (repeat' (first | (with_reducible exact Below.refl _ _) | (with_reducible assumption) | (with_reducible refine Below.alloc ?_ ?_ _) | (with_reducible refine Below.drew ?_) | (with_reducible refine below_drewN ?_ _) | (with_reducible refine Below.setCell ?_ ?_ _) | (with_reducible refine Below.trans ?_ (Below.mono (by with_reducible assumption) ?_)) | (with_reducible exact Below.size (by with_reducible assumption)) | go_size)))))
  clear R8 hS8 hb8 hb9 hz9 RX72 RX73 RX74 RX75
  have cP7_0 := rp0 _ hS9
  have cP7_1 := rp1 _ hS9
  have cP7_2 := rp2 _ hS9
  have cP7_3 := rp3 _ hS9
  have cP52_0 := rv0 _ hS9
  have cP52_1 := rv1 _ hS9
  have cP52_2 := rv2 _ hS9
  have cP52_3 := rv3 _ hS9
  clear rp0 rp1 rp2 rp3 rv0 rv1 rv2 rv3
  have hS9' := hS9
  have lP9 := Nat.lt_of_lt_of_le lP7 hS9.size
  have lV9 := Nat.lt_of_lt_of_le lP52 hS9.size
  clear hS9 lP7 lP52
  have lP7 := lP9
  have lP52 := lV9
  clear lP9 lV9
  have hz := hS9'.size
  replace hwc := hwc.trans (hS9'.mono hwc.size)
  replace cP36_0 := (hS9'.cell (p := ⟨P36, 0, none⟩) lP36).trans cP36_0
  replace cP36_1 := (hS9'.cell (p := ⟨P36, 1, none⟩) lP36).trans cP36_1
  replace lP36 : P36 < w9.heap.size := Nat.lt_of_lt_of_le lP36 hz
  replace cP68_0 := (hS9'.cell (p := ⟨P68, 0, none⟩) lP68).trans cP68_0
  replace cP68_1 := (hS9'.cell (p := ⟨P68, 1, none⟩) lP68).trans cP68_1
  replace lP68 : P68 < w9.heap.size := Nat.lt_of_lt_of_le lP68 hz
  replace HA34 := Lib.hid (HA34.out.below hS9' (show N33 ≤ W71.heap.size from (by have := CP7.out; have := CN8.out; have := CN28.out; have := CN33.out; have := CP36.out; have := CN37.out; have := CN38.out; have := CN49.out; have := CP52.out; have := CN53.out; have := CN60.out; have := CN65.out; have := CP68.out; have := CN69.out; omega)))
  replace HX50 := Lib.hid (HX50.out.below hS9' (show N49 ≤ W71.heap.size from (by have := CP7.out; have := CN8.out; have := CN28.out; have := CN33.out; have := CP36.out; have := CN37.out; have := CN38.out; have := CN49.out; have := CP52.out; have := CN53.out; have := CN60.out; have := CN65.out; have := CP68.out; have := CN69.out; omega)))
  replace HA66 := Lib.hid (HA66.out.below hS9' (show N65 ≤ W71.heap.size from (by have := CP7.out; have := CN8.out; have := CN28.out; have := CN33.out; have := CP36.out; have := CN37.out; have := CN38.out; have := CN49.out; have := CP52.out; have := CN53.out; have := CN60.out; have := CN65.out; have := CP68.out; have := CN69.out; omega)))
  replace top := Nat.le_trans top hz
  clear hS9' hz
  obtain ⟨W84, rfl⟩ : ∃ w', w' = w9 := ⟨_, rfl⟩
  go_wp2_with fail
  refine (markW_x HX50.out HN0.out (show N49 ≤ W84.heap.size from (by have := CP7.out; have := CN8.out; have := CN28.out; have := CN33.out; have := CP36.out; have := CN37.out; have := CN38.out; have := CN49.out; have := CP52.out; have := CN53.out; have := CN60.out; have := CN65.out; have := CP68.out; have := CN69.out; omega)) 1 (by decide) (by omega)).mono ?_; rintro e W86 ⟨k87, rfl, hk87a, hk87b, hb85⟩
  clear HX50
  have hz := hb85.size
  replace hwc := hwc.trans ((hb85.below (show N38 ≤ W84.heap.size from (by have := CP7.out; have := CN8.out; have := CN28.out; have := CN33.out; have := CP36.out; have := CN37.out; have := CN38.out; have := CN49.out; have := CP52.out; have := CN53.out; have := CN60.out; have := CN65.out; have := CP68.out; have := CN69.out; omega))).mono (show w.heap.size ≤ N38 from (by have := CP7.out; have := CN8.out; have := CN28.out; have := CN33.out; have := CP36.out; have := CN37.out; have := CN38.out; have := CN49.out; have := CP52.out; have := CN53.out; have := CN60.out; have := CN65.out; have := CP68.out; have := CN69.out; omega)))
  replace cP7_0 := (hb85.cell (p := ⟨P7, 0, none⟩) lP7 (show P7 < N38 ∨ N49 ≤ P7 from (by have := CP7.out; have := CN8.out; have := CN28.out; have := CN33.out; have := CP36.out; have := CN37.out; have := CN38.out; have := CN49.out; have := CP52.out; have := CN53.out; have := CN60.out; have := CN65.out; have := CP68.out; have := CN69.out; omega))).trans cP7_0
  replace cP7_1 := (hb85.cell (p := ⟨P7, 1, none⟩) lP7 (show P7 < N38 ∨ N49 ≤ P7 from (by have := CP7.out; have := CN8.out; have := CN28.out; have := CN33.out; have := CP36.out; have := CN37.out; have := CN38.out; have := CN49.out; have := CP52.out; have := CN53.out; have := CN60.out; have := CN65.out; have := CP68.out; have := CN69.out; omega))).trans cP7_1
  replace cP7_2 := (hb85.cell (p := ⟨P7, 2, none⟩) lP7 (show P7 < N38 ∨ N49 ≤ P7 from (by have := CP7.out; have := CN8.out; have := CN28.out; have := CN33.out; have := CP36.out; have := CN37.out; have := CN38.out; have := CN49.out; have := CP52.out; have := CN53.out; have := CN60.out; have := CN65.out; have := CP68.out; have := CN69.out; omega))).trans cP7_2
  replace cP7_3 := (hb85.cell (p := ⟨P7, 3, none⟩) lP7 (show P7 < N38 ∨ N49 ≤ P7 from (by have := CP7.out; have := CN8.out; have := CN28.out; have := CN33.out; have := CP36.out; have := CN37.out; have := CN38.out; have := CN49.out; have := CP52.out; have := CN53.out; have := CN60.out; have := CN65.out; have := CP68.out; have := CN69.out; omega))).trans cP7_3
  replace lP7 : P7 < W86.heap.size := Nat.lt_of_lt_of_le lP7 hz
  replace cP36_0 := (hb85.cell (p := ⟨P36, 0, none⟩) lP36 (show P36 < N38 ∨ N49 ≤ P36 from (by have := CP7.out; have := CN8.out; have := CN28.out; have := CN33.out; have := CP36.out; have := CN37.out; have := CN38.out; have := CN49.out; have := CP52.out; have := CN53.out; have := CN60.out; have := CN65.out; have := CP68.out; have := CN69.out; omega))).trans cP36_0
  replace cP36_1 := (hb85.cell (p := ⟨P36, 1, none⟩) lP36 (show P36 < N38 ∨ N49 ≤ P36 from (by have := CP7.out; have := CN8.out; have := CN28.out; have := CN33.out; have := CP36.out; have := CN37.out; have := CN38.out; have := CN49.out; have := CP52.out; have := CN53.out; have := CN60.out; have := CN65.out; have := CP68.out; have := CN69.out; omega))).trans cP36_1
  replace lP36 : P36 < W86.heap.size := Nat.lt_of_lt_of_le lP36 hz
  replace cP52_0 := (hb85.cell (p := ⟨P52, 0, none⟩) lP52 (show P52 < N38 ∨ N49 ≤ P52 from (by have := CP7.out; have := CN8.out; have := CN28.out; have := CN33.out; have := CP36.out; have := CN37.out; have := CN38.out; have := CN49.out; have := CP52.out; have := CN53.out; have := CN60.out; have := CN65.out; have := CP68.out; have := CN69.out; omega))).trans cP52_0
  replace cP52_1 := (hb85.cell (p := ⟨P52, 1, none⟩) lP52 (show P52 < N38 ∨ N49 ≤ P52 from (by have := CP7.out; have := CN8.out; have := CN28.out; have := CN33.out; have := CP36.out; have := CN37.out; have := CN38.out; have := CN49.out; have := CP52.out; have := CN53.out; have := CN60.out; have := CN65.out; have := CP68.out; have := CN69.out; omega))).trans cP52_1
  replace cP52_2 := (hb85.cell (p := ⟨P52, 2, none⟩) lP52 (show P52 < N38 ∨ N49 ≤ P52 from (by have := CP7.out; have := CN8.out; have := CN28.out; have := CN33.out; have := CP36.out; have := CN37.out; have := CN38.out; have := CN49.out; have := CP52.out; have := CN53.out; have := CN60.out; have := CN65.out; have := CP68.out; have := CN69.out; omega))).trans cP52_2
  replace cP52_3 := (hb85.cell (p := ⟨P52, 3, none⟩) lP52 (show P52 < N38 ∨ N49 ≤ P52 from (by have := CP7.out; have := CN8.out; have := CN28.out; have := CN33.out; have := CP36.out; have := CN37.out; have := CN38.out; have := CN49.out; have := CP52.out; have := CN53.out; have := CN60.out; have := CN65.out; have := CP68.out; have := CN69.out; omega))).trans cP52_3
  replace lP52 : P52 < W86.heap.size := Nat.lt_of_lt_of_le lP52 hz
  replace cP68_0 := (hb85.cell (p := ⟨P68, 0, none⟩) lP68 (show P68 < N38 ∨ N49 ≤ P68 from (by have := CP7.out; have := CN8.out; have := CN28.out; have := CN33.out; have := CP36.out; have := CN37.out; have := CN38.out; have := CN49.out; have := CP52.out; have := CN53.out; have := CN60.out; have := CN65.out; have := CP68.out; have := CN69.out; omega))).trans cP68_0
  replace cP68_1 := (hb85.cell (p := ⟨P68, 1, none⟩) lP68 (show P68 < N38 ∨ N49 ≤ P68 from (by have := CP7.out; have := CN8.out; have := CN28.out; have := CN33.out; have := CP36.out; have := CN37.out; have := CN38.out; have := CN49.out; have := CP52.out; have := CN53.out; have := CN60.out; have := CN65.out; have := CP68.out; have := CN69.out; omega))).trans cP68_1
  replace lP68 : P68 < W86.heap.size := Nat.lt_of_lt_of_le lP68 hz
  replace HA34 := Lib.hid (HA34.out.bet hb85 (show N33 ≤ N38 ∨ N49 ≤ N28 from (by have := CP7.out; have := CN8.out; have := CN28.out; have := CN33.out; have := CP36.out; have := CN37.out; have := CN38.out; have := CN49.out; have := CP52.out; have := CN53.out; have := CN60.out; have := CN65.out; have := CP68.out; have := CN69.out; omega)))
  replace HA66 := Lib.hid (HA66.out.bet hb85 (show N65 ≤ N38 ∨ N49 ≤ N60 from (by have := CP7.out; have := CN8.out; have := CN28.out; have := CN33.out; have := CP36.out; have := CN37.out; have := CN38.out; have := CN49.out; have := CP52.out; have := CN53.out; have := CN60.out; have := CN65.out; have := CP68.out; have := CN69.out; omega)))
  replace top := Nat.le_trans top hz
  clear hb85 hz
  go_wp2_with fail
  refine (eqP_ans HA66.out HA34.out HF0.out).mono ?_; rintro e W89 ⟨rfl, hb88⟩
  have hz := hb88.size
  replace hwc := hwc.trans (hb88.mono hwc.size)
  replace cP7_0 := (hb88.cell (p := ⟨P7, 0, none⟩) lP7).trans cP7_0
  replace cP7_1 := (hb88.cell (p := ⟨P7, 1, none⟩) lP7).trans cP7_1
  replace cP7_2 := (hb88.cell (p := ⟨P7, 2, none⟩) lP7).trans cP7_2
  replace cP7_3 := (hb88.cell (p := ⟨P7, 3, none⟩) lP7).trans cP7_3
  replace lP7 : P7 < W89.heap.size := Nat.lt_of_lt_of_le lP7 hz
  replace cP36_0 := (hb88.cell (p := ⟨P36, 0, none⟩) lP36).trans cP36_0
  replace cP36_1 := (hb88.cell (p := ⟨P36, 1, none⟩) lP36).trans cP36_1
  replace lP36 : P36 < W89.heap.size := Nat.lt_of_lt_of_le lP36 hz
  replace cP52_0 := (hb88.cell (p := ⟨P52, 0, none⟩) lP52).trans cP52_0
  replace cP52_1 := (hb88.cell (p := ⟨P52, 1, none⟩) lP52).trans cP52_1
  replace cP52_2 := (hb88.cell (p := ⟨P52, 2, none⟩) lP52).trans cP52_2
  replace cP52_3 := (hb88.cell (p := ⟨P52, 3, none⟩) lP52).trans cP52_3
  replace lP52 : P52 < W89.heap.size := Nat.lt_of_lt_of_le lP52 hz
  replace cP68_0 := (hb88.cell (p := ⟨P68, 0, none⟩) lP68).trans cP68_0
  replace cP68_1 := (hb88.cell (p := ⟨P68, 1, none⟩) lP68).trans cP68_1
  replace lP68 : P68 < W89.heap.size := Nat.lt_of_lt_of_le lP68 hz
  replace HA34 := Lib.hid (HA34.out.below hb88 (show N33 ≤ W86.heap.size from (by have := CP7.out; have := CN8.out; have := CN28.out; have := CN33.out; have := CP36.out; have := CN37.out; have := CN38.out; have := CN49.out; have := CP52.out; have := CN53.out; have := CN60.out; have := CN65.out; have := CP68.out; have := CN69.out; omega)))
  replace HA66 := Lib.hid (HA66.out.below hb88 (show N65 ≤ W86.heap.size from (by have := CP7.out; have := CN8.out; have := CN28.out; have := CN33.out; have := CP36.out; have := CN37.out; have := CN38.out; have := CN49.out; have := CP52.out; have := CN53.out; have := CN60.out; have := CN65.out; have := CP68.out; have := CN69.out; omega)))
  replace top := Nat.le_trans top hz
  clear hb88 hz
  obtain ⟨m90, hm90⟩ : ∃ x, x = 1 + (sizePx O00 O01 : Int) := ⟨_, rfl⟩
  have hm90l : 0 ≤ m90 ∧ m90 ≤ 1048577 := by have := sizePx_le HF0.out; omega
  have hm90p := hm90l.1
  have HLm90 := Lib.hid hm90l
  have Em90 := Lib.hid hm90
  clear hm90 hm90l
  go_wp2_with fail
  refine (markP_k HA66.out HF0.out (show N65 ≤ W89.heap.size from (by have := CP7.out; have := CN8.out; have := CN28.out; have := CN33.out; have := CP36.out; have := CN37.out; have := CN38.out; have := CN49.out; have := CP52.out; have := CN53.out; have := CN60.out; have := CN65.out; have := CP68.out; have := CN69.out; omega)) 1 (by decide) (by decide)).mono ?_; rw [← Em90.out]; rintro e W92 ⟨rfl, hm, hb91⟩
  clear HA66
  have hz := hb91.size
  replace hwc := hwc.trans ((hb91.below (show N60 ≤ W89.heap.size from (by have := CP7.out; have := CN8.out; have := CN28.out; have := CN33.out; have := CP36.out; have := CN37.out; have := CN38.out; have := CN49.out; have := CP52.out; have := CN53.out; have := CN60.out; have := CN65.out; have := CP68.out; have := CN69.out; omega))).mono (show w.heap.size ≤ N60 from (by have := CP7.out; have := CN8.out; have := CN28.out; have := CN33.out; have := CP36.out; have := CN37.out; have := CN38.out; have := CN49.out; have := CP52.out; have := CN53.out; have := CN60.out; have := CN65.out; have := CP68.out; have := CN69.out; omega)))
  replace cP7_0 := (hb91.cell (p := ⟨P7, 0, none⟩) lP7 (show P7 < N60 ∨ N65 ≤ P7 from (by have := CP7.out; have := CN8.out; have := CN28.out; have := CN33.out; have := CP36.out; have := CN37.out; have := CN38.out; have := CN49.out; have := CP52.out; have := CN53.out; have := CN60.out; have := CN65.out; have := CP68.out; have := CN69.out; omega))).trans cP7_0
  replace cP7_1 := (hb91.cell (p := ⟨P7, 1, none⟩) lP7 (show P7 < N60 ∨ N65 ≤ P7 from (by have := CP7.out; have := CN8.out; have := CN28.out; have := CN33.out; have := CP36.out; have := CN37.out; have := CN38.out; have := CN49.out; have := CP52.out; have := CN53.out; have := CN60.out; have := CN65.out; have := CP68.out; have := CN69.out; omega))).trans cP7_1
  replace cP7_2 := (hb91.cell (p := ⟨P7, 2, none⟩) lP7 (show P7 < N60 ∨ N65 ≤ P7 from (by have := CP7.out; have := CN8.out; have := CN28.out; have := CN33.out; have := CP36.out; have := CN37.out; have := CN38.out; have := CN49.out; have := CP52.out; have := CN53.out; have := CN60.out; have := CN65.out; have := CP68.out; have := CN69.out; omega))).trans cP7_2
  replace cP7_3 := (hb91.cell (p := ⟨P7, 3, none⟩) lP7 (show P7 < N60 ∨ N65 ≤ P7 from (by have := CP7.out; have := CN8.out; have := CN28.out; have := CN33.out; have := CP36.out; have := CN37.out; have := CN38.out; have := CN49.out; have := CP52.out; have := CN53.out; have := CN60.out; have := CN65.out; have := CP68.out; have := CN69.out; omega))).trans cP7_3
  replace lP7 : P7 < W92.heap.size := Nat.lt_of_lt_of_le lP7 hz
  replace cP36_0 := (hb91.cell (p := ⟨P36, 0, none⟩) lP36 (show P36 < N60 ∨ N65 ≤ P36 from (by have := CP7.out; have := CN8.out; have := CN28.out; have := CN33.out; have := CP36.out; have := CN37.out; have := CN38.out; have := CN49.out; have := CP52.out; have := CN53.out; have := CN60.out; have := CN65.out; have := CP68.out; have := CN69.out; omega))).trans cP36_0
  replace cP36_1 := (hb91.cell (p := ⟨P36, 1, none⟩) lP36 (show P36 < N60 ∨ N65 ≤ P36 from (by have := CP7.out; have := CN8.out; have := CN28.out; have := CN33.out; have := CP36.out; have := CN37.out; have := CN38.out; have := CN49.out; have := CP52.out; have := CN53.out; have := CN60.out; have := CN65.out; have := CP68.out; have := CN69.out; omega))).trans cP36_1
  replace lP36 : P36 < W92.heap.size := Nat.lt_of_lt_of_le lP36 hz
  replace cP52_0 := (hb91.cell (p := ⟨P52, 0, none⟩) lP52 (show P52 < N60 ∨ N65 ≤ P52 from (by have := CP7.out; have := CN8.out; have := CN28.out; have := CN33.out; have := CP36.out; have := CN37.out; have := CN38.out; have := CN49.out; have := CP52.out; have := CN53.out; have := CN60.out; have := CN65.out; have := CP68.out; have := CN69.out; omega))).trans cP52_0
  replace cP52_1 := (hb91.cell (p := ⟨P52, 1, none⟩) lP52 (show P52 < N60 ∨ N65 ≤ P52 from (by have := CP7.out; have := CN8.out; have := CN28.out; have := CN33.out; have := CP36.out; have := CN37.out; have := CN38.out; have := CN49.out; have := CP52.out; have := CN53.out; have := CN60.out; have := CN65.out; have := CP68.out; have := CN69.out; omega))).trans cP52_1
  replace cP52_2 := (hb91.cell (p := ⟨P52, 2, none⟩) lP52 (show P52 < N60 ∨ N65 ≤ P52 from (by have := CP7.out; have := CN8.out; have := CN28.out; have := CN33.out; have := CP36.out; have := CN37.out; have := CN38.out; have := CN49.out; have := CP52.out; have := CN53.out; have := CN60.out; have := CN65.out; have := CP68.out; have := CN69.out; omega))).trans cP52_2
  replace cP52_3 := (hb91.cell (p := ⟨P52, 3, none⟩) lP52 (show P52 < N60 ∨ N65 ≤ P52 from (by have := CP7.out; have := CN8.out; have := CN28.out; have := CN33.out; have := CP36.out; have := CN37.out; have := CN38.out; have := CN49.out; have := CP52.out; have := CN53.out; have := CN60.out; have := CN65.out; have := CP68.out; have := CN69.out; omega))).trans cP52_3
  replace lP52 : P52 < W92.heap.size := Nat.lt_of_lt_of_le lP52 hz
  replace cP68_0 := (hb91.cell (p := ⟨P68, 0, none⟩) lP68 (show P68 < N60 ∨ N65 ≤ P68 from (by have := CP7.out; have := CN8.out; have := CN28.out; have := CN33.out; have := CP36.out; have := CN37.out; have := CN38.out; have := CN49.out; have := CP52.out; have := CN53.out; have := CN60.out; have := CN65.out; have := CP68.out; have := CN69.out; omega))).trans cP68_0
  replace cP68_1 := (hb91.cell (p := ⟨P68, 1, none⟩) lP68 (show P68 < N60 ∨ N65 ≤ P68 from (by have := CP7.out; have := CN8.out; have := CN28.out; have := CN33.out; have := CP36.out; have := CN37.out; have := CN38.out; have := CN49.out; have := CP52.out; have := CN53.out; have := CN60.out; have := CN65.out; have := CP68.out; have := CN69.out; omega))).trans cP68_1
  replace lP68 : P68 < W92.heap.size := Nat.lt_of_lt_of_le lP68 hz
  replace HA34 := Lib.hid (HA34.out.bet hb91 (show N33 ≤ N60 ∨ N65 ≤ N28 from (by have := CP7.out; have := CN8.out; have := CN28.out; have := CN33.out; have := CP36.out; have := CN37.out; have := CN38.out; have := CN49.out; have := CP52.out; have := CN53.out; have := CN60.out; have := CN65.out; have := CP68.out; have := CN69.out; omega)))
  replace top := Nat.le_trans top hz
  clear hb91 hz
  have HM93 := Lib.hid hm
  clear hm
  go_wp2_with fail
  refine (heldP_k 1 HM93.out HF0.out (show N65 ≤ W92.heap.size from (by have := CP7.out; have := CN8.out; have := CN28.out; have := CN33.out; have := CP36.out; have := CN37.out; have := CN38.out; have := CN49.out; have := CP52.out; have := CN53.out; have := CN60.out; have := CN65.out; have := CP68.out; have := CN69.out; omega)) (by decide) (by decide)).mono ?_; rw [← Em90.out]; rintro e W95 ⟨rfl, hb94⟩
  have hz := hb94.size
  replace hwc := hwc.trans (hb94.mono hwc.size)
  replace cP7_0 := (hb94.cell (p := ⟨P7, 0, none⟩) lP7).trans cP7_0
  replace cP7_1 := (hb94.cell (p := ⟨P7, 1, none⟩) lP7).trans cP7_1
  replace cP7_2 := (hb94.cell (p := ⟨P7, 2, none⟩) lP7).trans cP7_2
  replace cP7_3 := (hb94.cell (p := ⟨P7, 3, none⟩) lP7).trans cP7_3
  replace lP7 : P7 < W95.heap.size := Nat.lt_of_lt_of_le lP7 hz
  replace cP36_0 := (hb94.cell (p := ⟨P36, 0, none⟩) lP36).trans cP36_0
  replace cP36_1 := (hb94.cell (p := ⟨P36, 1, none⟩) lP36).trans cP36_1
  replace lP36 : P36 < W95.heap.size := Nat.lt_of_lt_of_le lP36 hz
  replace cP52_0 := (hb94.cell (p := ⟨P52, 0, none⟩) lP52).trans cP52_0
  replace cP52_1 := (hb94.cell (p := ⟨P52, 1, none⟩) lP52).trans cP52_1
  replace cP52_2 := (hb94.cell (p := ⟨P52, 2, none⟩) lP52).trans cP52_2
  replace cP52_3 := (hb94.cell (p := ⟨P52, 3, none⟩) lP52).trans cP52_3
  replace lP52 : P52 < W95.heap.size := Nat.lt_of_lt_of_le lP52 hz
  replace cP68_0 := (hb94.cell (p := ⟨P68, 0, none⟩) lP68).trans cP68_0
  replace cP68_1 := (hb94.cell (p := ⟨P68, 1, none⟩) lP68).trans cP68_1
  replace lP68 : P68 < W95.heap.size := Nat.lt_of_lt_of_le lP68 hz
  replace HA34 := Lib.hid (HA34.out.below hb94 (show N33 ≤ W92.heap.size from (by have := CP7.out; have := CN8.out; have := CN28.out; have := CN33.out; have := CP36.out; have := CN37.out; have := CN38.out; have := CN49.out; have := CP52.out; have := CN53.out; have := CN60.out; have := CN65.out; have := CP68.out; have := CN69.out; omega)))
  replace HM93 := Lib.hid (HM93.out.below hb94 (show N65 ≤ W92.heap.size from (by have := CP7.out; have := CN8.out; have := CN28.out; have := CN33.out; have := CP36.out; have := CN37.out; have := CN38.out; have := CN49.out; have := CP52.out; have := CN53.out; have := CN60.out; have := CN65.out; have := CP68.out; have := CN69.out; omega)))
  replace top := Nat.le_trans top hz
  clear hb94 hz
  go_wp2_with fail
  refine (toW_x _ _ _ _ X00 X01 X02 X03 _ (g00 _ hwc) (g01 _ hwc) (g02 _ hwc) (g03 _ hwc) HN0.out).mono ?_; rintro e W97 ⟨p98, q99, p100, q101, p102, q103, p104, q105, rfl, hr, hb96⟩
  have hrr := RngWx.reads hr I00.out I01.out I02.out I03.out
  have RD106 := Lib.hid (hrr.1)
  have RD107 := Lib.hid (hrr.2.1)
  have RD108 := Lib.hid (hrr.2.2.1)
  have RD109 := Lib.hid (hrr.2.2.2)
  clear hrr
  clear hr
  have hz := hb96.size
  replace hwc := hwc.trans (hb96.mono hwc.size)
  replace cP7_0 := (hb96.cell (p := ⟨P7, 0, none⟩) lP7).trans cP7_0
  replace cP7_1 := (hb96.cell (p := ⟨P7, 1, none⟩) lP7).trans cP7_1
  replace cP7_2 := (hb96.cell (p := ⟨P7, 2, none⟩) lP7).trans cP7_2
  replace cP7_3 := (hb96.cell (p := ⟨P7, 3, none⟩) lP7).trans cP7_3
  replace lP7 : P7 < W97.heap.size := Nat.lt_of_lt_of_le lP7 hz
  replace cP36_0 := (hb96.cell (p := ⟨P36, 0, none⟩) lP36).trans cP36_0
  replace cP36_1 := (hb96.cell (p := ⟨P36, 1, none⟩) lP36).trans cP36_1
  replace lP36 : P36 < W97.heap.size := Nat.lt_of_lt_of_le lP36 hz
  replace cP52_0 := (hb96.cell (p := ⟨P52, 0, none⟩) lP52).trans cP52_0
  replace cP52_1 := (hb96.cell (p := ⟨P52, 1, none⟩) lP52).trans cP52_1
  replace cP52_2 := (hb96.cell (p := ⟨P52, 2, none⟩) lP52).trans cP52_2
  replace cP52_3 := (hb96.cell (p := ⟨P52, 3, none⟩) lP52).trans cP52_3
  replace lP52 : P52 < W97.heap.size := Nat.lt_of_lt_of_le lP52 hz
  replace cP68_0 := (hb96.cell (p := ⟨P68, 0, none⟩) lP68).trans cP68_0
  replace cP68_1 := (hb96.cell (p := ⟨P68, 1, none⟩) lP68).trans cP68_1
  replace lP68 : P68 < W97.heap.size := Nat.lt_of_lt_of_le lP68 hz
  replace HA34 := Lib.hid (HA34.out.below hb96 (show N33 ≤ W95.heap.size from (by have := CP7.out; have := CN8.out; have := CN28.out; have := CN33.out; have := CP36.out; have := CN37.out; have := CN38.out; have := CN49.out; have := CP52.out; have := CN53.out; have := CN60.out; have := CN65.out; have := CP68.out; have := CN69.out; omega)))
  replace HM93 := Lib.hid (HM93.out.below hb96 (show N65 ≤ W95.heap.size from (by have := CP7.out; have := CN8.out; have := CN28.out; have := CN33.out; have := CP36.out; have := CN37.out; have := CN38.out; have := CN49.out; have := CP52.out; have := CN53.out; have := CN60.out; have := CN65.out; have := CP68.out; have := CN69.out; omega)))
  replace top := Nat.le_trans top hz
  clear hb96 hz
  go_wp2_with fail
  obtain ⟨N112, hN112⟩ : ∃ N112, N112 = W97.heap.size := ⟨_, rfl⟩
  have CN112 := Lib.hid (show N69 ≤ N112 from by rw [hN112]; exact top)
  have top' : N112 ≤ W97.heap.size := Nat.le_of_eq hN112
  clear top
  have top := top'
  clear top'
  refine (HI.out _ _ _ _ _ RD106.out RD107.out RD108.out RD109.out).mono ?_; rintro e W110 ho; obtain ⟨p113, q114, p115, q116, rfl, hr0, hb111⟩ := ho.out; clear ho; dsimp only at hr0; dsimp only
  rw [← hN112] at hr0
  clear hN112
  have hz := hb111.size
  replace hwc := hwc.trans (hb111.mono hwc.size)
  replace cP7_0 := (hb111.cell (p := ⟨P7, 0, none⟩) lP7).trans cP7_0
  replace cP7_1 := (hb111.cell (p := ⟨P7, 1, none⟩) lP7).trans cP7_1
  replace cP7_2 := (hb111.cell (p := ⟨P7, 2, none⟩) lP7).trans cP7_2
  replace cP7_3 := (hb111.cell (p := ⟨P7, 3, none⟩) lP7).trans cP7_3
  replace lP7 : P7 < W110.heap.size := Nat.lt_of_lt_of_le lP7 hz
  replace cP36_0 := (hb111.cell (p := ⟨P36, 0, none⟩) lP36).trans cP36_0
  replace cP36_1 := (hb111.cell (p := ⟨P36, 1, none⟩) lP36).trans cP36_1
  replace lP36 : P36 < W110.heap.size := Nat.lt_of_lt_of_le lP36 hz
  replace cP52_0 := (hb111.cell (p := ⟨P52, 0, none⟩) lP52).trans cP52_0
  replace cP52_1 := (hb111.cell (p := ⟨P52, 1, none⟩) lP52).trans cP52_1
  replace cP52_2 := (hb111.cell (p := ⟨P52, 2, none⟩) lP52).trans cP52_2
  replace cP52_3 := (hb111.cell (p := ⟨P52, 3, none⟩) lP52).trans cP52_3
  replace lP52 : P52 < W110.heap.size := Nat.lt_of_lt_of_le lP52 hz
  replace cP68_0 := (hb111.cell (p := ⟨P68, 0, none⟩) lP68).trans cP68_0
  replace cP68_1 := (hb111.cell (p := ⟨P68, 1, none⟩) lP68).trans cP68_1
  replace lP68 : P68 < W110.heap.size := Nat.lt_of_lt_of_le lP68 hz
  replace RD106 := Lib.hid (RD106.out.below hb111)
  replace RD107 := Lib.hid (RD107.out.below hb111)
  replace RD108 := Lib.hid (RD108.out.below hb111)
  replace RD109 := Lib.hid (RD109.out.below hb111)
  replace HA34 := Lib.hid (HA34.out.below hb111 (show N33 ≤ W97.heap.size from (by have := CP7.out; have := CN8.out; have := CN28.out; have := CN33.out; have := CP36.out; have := CN37.out; have := CN38.out; have := CN49.out; have := CP52.out; have := CN53.out; have := CN60.out; have := CN65.out; have := CP68.out; have := CN69.out; have := CN112.out; omega)))
  replace HM93 := Lib.hid (HM93.out.below hb111 (show N65 ≤ W97.heap.size from (by have := CP7.out; have := CN8.out; have := CN28.out; have := CN33.out; have := CP36.out; have := CN37.out; have := CN38.out; have := CN49.out; have := CP52.out; have := CN53.out; have := CN60.out; have := CN65.out; have := CP68.out; have := CN69.out; have := CN112.out; omega)))
  replace top := Nat.le_trans top hz
  clear hb111 hz
  obtain ⟨N117, hN117⟩ : ∃ N117, N117 = W110.heap.size := ⟨_, rfl⟩
  have CN117 := Lib.hid (show N112 ≤ N117 from by rw [hN117]; exact top)
  have top' : N117 ≤ W110.heap.size := Nat.le_of_eq hN117
  clear top
  have top := top'
  clear top'
  rw [← hN117] at hr0
  clear hN117
  have HA118 := Lib.hid hr0
  clear hr0
  go_wp2_with fail
  obtain ⟨W119, hW119⟩ : ∃ w', w' = (W110.alloc (.cells #[.slice p113 (O00).length q114, .slice p115 (O01).length q116] 27)) := ⟨_, rfl⟩
  rw [← hW119]
  have hbx : Below W110.heap.size W110 W119 := by rw [hW119]; exact ((Below.refl _ _).alloc (by simp) _)
  obtain ⟨P120, hP120⟩ : ∃ n, n = W110.heap.size := ⟨_, rfl⟩
  have cP120_0 : W119.cell? ⟨P120, 0, none⟩ = some (.slice p113 (O00).length q114) := by rw [hW119, hP120]; simp [go_sem]
  have cP120_1 : W119.cell? ⟨P120, 1, none⟩ = some (.slice p115 (O01).length q116) := by rw [hW119, hP120]; simp [go_sem]
  have lP120 : P120 < W119.heap.size := by rw [hW119, hP120]; simp
  have CP120 := Lib.hid (show N117 ≤ P120 from by rw [hP120]; exact top)
  rw [← hP120]
  clear hP120 hW119
  have hz := hbx.size
  replace hwc := hwc.trans (hbx.mono hwc.size)
  replace cP7_0 := (hbx.cell (p := ⟨P7, 0, none⟩) lP7).trans cP7_0
  replace cP7_1 := (hbx.cell (p := ⟨P7, 1, none⟩) lP7).trans cP7_1
  replace cP7_2 := (hbx.cell (p := ⟨P7, 2, none⟩) lP7).trans cP7_2
  replace cP7_3 := (hbx.cell (p := ⟨P7, 3, none⟩) lP7).trans cP7_3
  replace lP7 : P7 < W119.heap.size := Nat.lt_of_lt_of_le lP7 hz
  replace cP36_0 := (hbx.cell (p := ⟨P36, 0, none⟩) lP36).trans cP36_0
  replace cP36_1 := (hbx.cell (p := ⟨P36, 1, none⟩) lP36).trans cP36_1
  replace lP36 : P36 < W119.heap.size := Nat.lt_of_lt_of_le lP36 hz
  replace cP52_0 := (hbx.cell (p := ⟨P52, 0, none⟩) lP52).trans cP52_0
  replace cP52_1 := (hbx.cell (p := ⟨P52, 1, none⟩) lP52).trans cP52_1
  replace cP52_2 := (hbx.cell (p := ⟨P52, 2, none⟩) lP52).trans cP52_2
  replace cP52_3 := (hbx.cell (p := ⟨P52, 3, none⟩) lP52).trans cP52_3
  replace lP52 : P52 < W119.heap.size := Nat.lt_of_lt_of_le lP52 hz
  replace cP68_0 := (hbx.cell (p := ⟨P68, 0, none⟩) lP68).trans cP68_0
  replace cP68_1 := (hbx.cell (p := ⟨P68, 1, none⟩) lP68).trans cP68_1
  replace lP68 : P68 < W119.heap.size := Nat.lt_of_lt_of_le lP68 hz
  replace RD106 := Lib.hid (RD106.out.below hbx)
  replace RD107 := Lib.hid (RD107.out.below hbx)
  replace RD108 := Lib.hid (RD108.out.below hbx)
  replace RD109 := Lib.hid (RD109.out.below hbx)
  replace HA34 := Lib.hid (HA34.out.below hbx (show N33 ≤ W110.heap.size from (by have := CP7.out; have := CN8.out; have := CN28.out; have := CN33.out; have := CP36.out; have := CN37.out; have := CN38.out; have := CN49.out; have := CP52.out; have := CN53.out; have := CN60.out; have := CN65.out; have := CP68.out; have := CN69.out; have := CN112.out; have := CN117.out; have := CP120.out; omega)))
  replace HM93 := Lib.hid (HM93.out.below hbx (show N65 ≤ W110.heap.size from (by have := CP7.out; have := CN8.out; have := CN28.out; have := CN33.out; have := CP36.out; have := CN37.out; have := CN38.out; have := CN49.out; have := CP52.out; have := CN53.out; have := CN60.out; have := CN65.out; have := CP68.out; have := CN69.out; have := CN112.out; have := CN117.out; have := CP120.out; omega)))
  replace HA118 := Lib.hid (HA118.out.below hbx (show N117 ≤ W110.heap.size from (by have := CP7.out; have := CN8.out; have := CN28.out; have := CN33.out; have := CP36.out; have := CN37.out; have := CN38.out; have := CN49.out; have := CP52.out; have := CN53.out; have := CN60.out; have := CN65.out; have := CP68.out; have := CN69.out; have := CN112.out; have := CN117.out; have := CP120.out; omega)))
  replace top := Nat.le_trans top hz
  clear hbx hz
  clear top
  obtain ⟨N121, hN121⟩ : ∃ n, n = W119.heap.size := ⟨_, rfl⟩
  have CN121 := Lib.hid (show P120 < N121 from by rw [hN121]; exact lP120)
  have top : N121 ≤ W119.heap.size := Nat.le_of_eq hN121
  clear hN121
  clear RD106 RD107 RD108 RD109
  refine (eqP_ans HA118.out HA34.out HF0.out).mono ?_; rintro e W123 ⟨rfl, hb122⟩
  have hz := hb122.size
  replace hwc := hwc.trans (hb122.mono hwc.size)
  replace cP7_0 := (hb122.cell (p := ⟨P7, 0, none⟩) lP7).trans cP7_0
  replace cP7_1 := (hb122.cell (p := ⟨P7, 1, none⟩) lP7).trans cP7_1
  replace cP7_2 := (hb122.cell (p := ⟨P7, 2, none⟩) lP7).trans cP7_2
  replace cP7_3 := (hb122.cell (p := ⟨P7, 3, none⟩) lP7).trans cP7_3
  replace lP7 : P7 < W123.heap.size := Nat.lt_of_lt_of_le lP7 hz
  replace cP36_0 := (hb122.cell (p := ⟨P36, 0, none⟩) lP36).trans cP36_0
  replace cP36_1 := (hb122.cell (p := ⟨P36, 1, none⟩) lP36).trans cP36_1
  replace lP36 : P36 < W123.heap.size := Nat.lt_of_lt_of_le lP36 hz
  replace cP52_0 := (hb122.cell (p := ⟨P52, 0, none⟩) lP52).trans cP52_0
  replace cP52_1 := (hb122.cell (p := ⟨P52, 1, none⟩) lP52).trans cP52_1
  replace cP52_2 := (hb122.cell (p := ⟨P52, 2, none⟩) lP52).trans cP52_2
  replace cP52_3 := (hb122.cell (p := ⟨P52, 3, none⟩) lP52).trans cP52_3
  replace lP52 : P52 < W123.heap.size := Nat.lt_of_lt_of_le lP52 hz
  replace cP68_0 := (hb122.cell (p := ⟨P68, 0, none⟩) lP68).trans cP68_0
  replace cP68_1 := (hb122.cell (p := ⟨P68, 1, none⟩) lP68).trans cP68_1
  replace lP68 : P68 < W123.heap.size := Nat.lt_of_lt_of_le lP68 hz
  replace cP120_0 := (hb122.cell (p := ⟨P120, 0, none⟩) lP120).trans cP120_0
  replace cP120_1 := (hb122.cell (p := ⟨P120, 1, none⟩) lP120).trans cP120_1
  replace lP120 : P120 < W123.heap.size := Nat.lt_of_lt_of_le lP120 hz
  replace HA34 := Lib.hid (HA34.out.below hb122 (show N33 ≤ W119.heap.size from (by have := CP7.out; have := CN8.out; have := CN28.out; have := CN33.out; have := CP36.out; have := CN37.out; have := CN38.out; have := CN49.out; have := CP52.out; have := CN53.out; have := CN60.out; have := CN65.out; have := CP68.out; have := CN69.out; have := CN112.out; have := CN117.out; have := CP120.out; have := CN121.out; omega)))
  replace HM93 := Lib.hid (HM93.out.below hb122 (show N65 ≤ W119.heap.size from (by have := CP7.out; have := CN8.out; have := CN28.out; have := CN33.out; have := CP36.out; have := CN37.out; have := CN38.out; have := CN49.out; have := CP52.out; have := CN53.out; have := CN60.out; have := CN65.out; have := CP68.out; have := CN69.out; have := CN112.out; have := CN117.out; have := CP120.out; have := CN121.out; omega)))
  replace HA118 := Lib.hid (HA118.out.below hb122 (show N117 ≤ W119.heap.size from (by have := CP7.out; have := CN8.out; have := CN28.out; have := CN33.out; have := CP36.out; have := CN37.out; have := CN38.out; have := CN49.out; have := CP52.out; have := CN53.out; have := CN60.out; have := CN65.out; have := CP68.out; have := CN69.out; have := CN112.out; have := CN117.out; have := CP120.out; have := CN121.out; omega)))
  replace top := Nat.le_trans top hz
  clear hb122 hz
  go_wp2_with fail
  refine (heldP_k 1 HM93.out HF0.out (show N65 ≤ W123.heap.size from (by have := CP7.out; have := CN8.out; have := CN28.out; have := CN33.out; have := CP36.out; have := CN37.out; have := CN38.out; have := CN49.out; have := CP52.out; have := CN53.out; have := CN60.out; have := CN65.out; have := CP68.out; have := CN69.out; have := CN112.out; have := CN117.out; have := CP120.out; have := CN121.out; omega)) (by decide) (by decide)).mono ?_; rw [← Em90.out]; rintro e W125 ⟨rfl, hb124⟩
  have hz := hb124.size
  replace hwc := hwc.trans (hb124.mono hwc.size)
  replace cP7_0 := (hb124.cell (p := ⟨P7, 0, none⟩) lP7).trans cP7_0
  replace cP7_1 := (hb124.cell (p := ⟨P7, 1, none⟩) lP7).trans cP7_1
  replace cP7_2 := (hb124.cell (p := ⟨P7, 2, none⟩) lP7).trans cP7_2
  replace cP7_3 := (hb124.cell (p := ⟨P7, 3, none⟩) lP7).trans cP7_3
  replace lP7 : P7 < W125.heap.size := Nat.lt_of_lt_of_le lP7 hz
  replace cP36_0 := (hb124.cell (p := ⟨P36, 0, none⟩) lP36).trans cP36_0
  replace cP36_1 := (hb124.cell (p := ⟨P36, 1, none⟩) lP36).trans cP36_1
  replace lP36 : P36 < W125.heap.size := Nat.lt_of_lt_of_le lP36 hz
  replace cP52_0 := (hb124.cell (p := ⟨P52, 0, none⟩) lP52).trans cP52_0
  replace cP52_1 := (hb124.cell (p := ⟨P52, 1, none⟩) lP52).trans cP52_1
  replace cP52_2 := (hb124.cell (p := ⟨P52, 2, none⟩) lP52).trans cP52_2
  replace cP52_3 := (hb124.cell (p := ⟨P52, 3, none⟩) lP52).trans cP52_3
  replace lP52 : P52 < W125.heap.size := Nat.lt_of_lt_of_le lP52 hz
  replace cP68_0 := (hb124.cell (p := ⟨P68, 0, none⟩) lP68).trans cP68_0
  replace cP68_1 := (hb124.cell (p := ⟨P68, 1, none⟩) lP68).trans cP68_1
  replace lP68 : P68 < W125.heap.size := Nat.lt_of_lt_of_le lP68 hz
  replace cP120_0 := (hb124.cell (p := ⟨P120, 0, none⟩) lP120).trans cP120_0
  replace cP120_1 := (hb124.cell (p := ⟨P120, 1, none⟩) lP120).trans cP120_1
  replace lP120 : P120 < W125.heap.size := Nat.lt_of_lt_of_le lP120 hz
  replace HA34 := Lib.hid (HA34.out.below hb124 (show N33 ≤ W123.heap.size from (by have := CP7.out; have := CN8.out; have := CN28.out; have := CN33.out; have := CP36.out; have := CN37.out; have := CN38.out; have := CN49.out; have := CP52.out; have := CN53.out; have := CN60.out; have := CN65.out; have := CP68.out; have := CN69.out; have := CN112.out; have := CN117.out; have := CP120.out; have := CN121.out; omega)))
  replace HM93 := Lib.hid (HM93.out.below hb124 (show N65 ≤ W123.heap.size from (by have := CP7.out; have := CN8.out; have := CN28.out; have := CN33.out; have := CP36.out; have := CN37.out; have := CN38.out; have := CN49.out; have := CP52.out; have := CN53.out; have := CN60.out; have := CN65.out; have := CP68.out; have := CN69.out; have := CN112.out; have := CN117.out; have := CP120.out; have := CN121.out; omega)))
  replace HA118 := Lib.hid (HA118.out.below hb124 (show N117 ≤ W123.heap.size from (by have := CP7.out; have := CN8.out; have := CN28.out; have := CN33.out; have := CP36.out; have := CN37.out; have := CN38.out; have := CN49.out; have := CP52.out; have := CN53.out; have := CN60.out; have := CN65.out; have := CP68.out; have := CN69.out; have := CN112.out; have := CN117.out; have := CP120.out; have := CN121.out; omega)))
  replace top := Nat.le_trans top hz
  clear hb124 hz
  go_wp2_with fail
  go_ret
  exact ⟨rfl, hwc⟩
end Go.Proofs.Ytgncaploccbfnaa.PW
