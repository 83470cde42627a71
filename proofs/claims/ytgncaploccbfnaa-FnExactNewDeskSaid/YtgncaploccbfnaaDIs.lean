/-
  IsDesk: both sides, and the exact laws of NewDesk and IsDesk.
-/
import Derived.Test.YtgncaploccbfnaaDNew
namespace Go.Proofs.Ytgncaploccbfnaa.PW
open Go.RowKit Go.Proofs.Ytgncaploccbfnaa
open Go.Proofs.Ytgncaploccbfnaa.PM
def dkOut (M : List (List Int)) (Q : List Int) (s : Int) : Bool := setCode M Q s == 0
set_option maxRecDepth 100000 in
theorem implIsDesk_any (m q : Value) (M : List (List Int)) (Q : List Int) (s : Int) (w : World) (h1 : PM.Rows w m M) (h2 : Ints w q Q) :
    Calls Try.prog 61 #[.agg #[m, q, .int .i64 s]] w fun e w' => e = .returned (.bool (dkOut M Q s)) ∧ Below w.heap.size w w' := by
  have HS := Lib.hid (fun (w' : World) (h : Below w.heap.size w w') => checkSet_any m q M Q s w' (h1.below h) (h2.below h))
  unfold dkOut
  generalize setCode M Q s = c at *
  obtain ⟨a1, c1, rfl, _⟩ := h1
  obtain ⟨a2, c2, rfl, _⟩ := h2
  go_enter Try.func61, Try.ntmps61
  go_wp2_with fail
  refine (HS.out _ (by (repeat' (first | (with_reducible exact Below.refl _ _) | (with_reducible assumption) | (with_reducible refine Below.alloc ?_ ?_ _) | (with_reducible refine Below.drew ?_) | (with_reducible refine below_drewN ?_ _) | (with_reducible refine Below.setCell ?_ ?_ _) | (with_reducible refine Below.trans ?_ (Below.mono (by with_reducible assumption) ?_)) | (with_reducible exact Below.size (by with_reducible assumption)) | go_size)))).mono ?_; rintro e w1 ⟨rfl, hb1⟩
  go_wp2_with fail
  go_ret
  exact ⟨rfl, by (repeat' (first | (with_reducible exact Below.refl _ _) | (with_reducible assumption) | (with_reducible refine Below.alloc ?_ ?_ _) | (with_reducible refine Below.drew ?_) | (with_reducible refine below_drewN ?_ _) | (with_reducible refine Below.setCell ?_ ?_ _) | (with_reducible refine Below.trans ?_ (Below.mono (by with_reducible assumption) ?_)) | (with_reducible exact Below.size (by with_reducible assumption)) | go_size))⟩
set_option maxRecDepth 100000 in
theorem specIsDesk_any (m q : Value) (M : List (List Int)) (Q : List Int) (s : Int) (w : World) (h1 : PM.Rows w m M) (h2 : Ints w q Q) :
    Calls Try.prog 59 #[.agg #[m, q, .int .i64 s]] w fun e w' => e = .returned (.bool (dkOut M Q s)) ∧ Below w.heap.size w w' := by
  have HS := Lib.hid (fun (w' : World) (h : Below w.heap.size w w') => l02Code_any m q M Q s w' (h1.below h) (h2.below h))
  unfold dkOut
  generalize setCode M Q s = c at *
  obtain ⟨a1, c1, rfl, _⟩ := h1
  obtain ⟨a2, c2, rfl, _⟩ := h2
  go_enter Try.func59, Try.ntmps59
  go_wp2_with fail
  refine (HS.out _ (by (repeat' (first | (with_reducible exact Below.refl _ _) | (with_reducible assumption) | (with_reducible refine Below.alloc ?_ ?_ _) | (with_reducible refine Below.drew ?_) | (with_reducible refine below_drewN ?_ _) | (with_reducible refine Below.setCell ?_ ?_ _) | (with_reducible refine Below.trans ?_ (Below.mono (by with_reducible assumption) ?_)) | (with_reducible exact Below.size (by with_reducible assumption)) | go_size)))).mono ?_; rintro e w1 ⟨rfl, hb1⟩
  go_wp2_with fail
  go_ret
  exact ⟨rfl, by (repeat' (first | (with_reducible exact Below.refl _ _) | (with_reducible assumption) | (with_reducible refine Below.alloc ?_ ?_ _) | (with_reducible refine Below.drew ?_) | (with_reducible refine below_drewN ?_ _) | (with_reducible refine Below.setCell ?_ ?_ _) | (with_reducible refine Below.trans ?_ (Below.mono (by with_reducible assumption) ?_)) | (with_reducible exact Below.size (by with_reducible assumption)) | go_size))⟩
set_option maxHeartbeats 8000000 in
theorem law_FnExactNewDesk  (w : World)  :
    Calls Try.prog 13 #[] w fun e w' => e = .returned (.bool true) ∧ Below w.heap.size w w' := by
  have hspec := fun (w : World) => specNewDesk_any w
  have himpl := fun (w : World) => implNewDesk_any w
  have hfine := fine_nd  
  generalize ndOut   = o at *
  obtain ⟨O00, O01⟩ := o
  have HS := Lib.hid hspec
  have HI := Lib.hid himpl
  clear hspec himpl
  have HF0 : Hid (FinePx O00 O01) := Lib.hid hfine
  clear hfine
  go_enter Try.func13, Try.ntmps13
  have hwc : Below w.heap.size w w := Below.refl _ _
  go_wp2_with fail
  obtain ⟨N3, hN3⟩ : ∃ N3, N3 = w.heap.size := ⟨_, rfl⟩
  have CN3 := Lib.hid (show w.heap.size ≤ N3 from by rw [hN3]; exact hwc.size)
  have top' : N3 ≤ w.heap.size := Nat.le_of_eq hN3
  have top := top'
  clear top'
  refine (HS.out  _ ).mono ?_; rintro e W1 ho; obtain ⟨p4, q5, p6, q7, rfl, hr0, hb2⟩ := ho.out; clear ho; dsimp only at hr0; dsimp only
  rw [← hN3] at hr0
  clear hN3
  have hz := hb2.size
  replace hwc := hwc.trans (hb2.mono hwc.size)
  replace top := Nat.le_trans top hz
  clear hb2 hz
  obtain ⟨N8, hN8⟩ : ∃ N8, N8 = W1.heap.size := ⟨_, rfl⟩
  have CN8 := Lib.hid (show N3 ≤ N8 from by rw [hN8]; exact top)
  have top' : N8 ≤ W1.heap.size := Nat.le_of_eq hN8
  clear top
  have top := top'
  clear top'
  rw [← hN8] at hr0
  clear hN8
  have HA9 := Lib.hid hr0
  clear hr0
  go_wp2_with fail
  obtain ⟨W10, hW10⟩ : ∃ w', w' = (W1.alloc (.cells #[.slice p4 (O00).length q5, .slice p6 (O01).length q7, .int .i64 0] 69)) := ⟨_, rfl⟩
  rw [← hW10]
  have hbx : Below W1.heap.size W1 W10 := by rw [hW10]; exact ((Below.refl _ _).alloc (by simp) _)
  obtain ⟨P11, hP11⟩ : ∃ n, n = W1.heap.size := ⟨_, rfl⟩
  have cP11_0 : W10.cell? ⟨P11, 0, none⟩ = some (.slice p4 (O00).length q5) := by rw [hW10, hP11]; simp [go_sem]
  have cP11_1 : W10.cell? ⟨P11, 1, none⟩ = some (.slice p6 (O01).length q7) := by rw [hW10, hP11]; simp [go_sem]
  have cP11_2 : W10.cell? ⟨P11, 2, none⟩ = some (.int .i64 0) := by rw [hW10, hP11]; simp [go_sem]
  have lP11 : P11 < W10.heap.size := by rw [hW10, hP11]; simp
  have CP11 := Lib.hid (show N8 ≤ P11 from by rw [hP11]; exact top)
  rw [← hP11]
  clear hP11 hW10
  have hz := hbx.size
  replace hwc := hwc.trans (hbx.mono hwc.size)
  replace HA9 := Lib.hid (HA9.out.below hbx (show N8 ≤ W1.heap.size from (by have := CN3.out; have := CN8.out; have := CP11.out; omega)))
  replace top := Nat.le_trans top hz
  clear hbx hz
  clear top
  obtain ⟨N12, hN12⟩ : ∃ n, n = W10.heap.size := ⟨_, rfl⟩
  have CN12 := Lib.hid (show P11 < N12 from by rw [hN12]; exact lP11)
  have top : N12 ≤ W10.heap.size := Nat.le_of_eq hN12
  clear hN12
  obtain ⟨N15, hN15⟩ : ∃ N15, N15 = W10.heap.size := ⟨_, rfl⟩
  have CN15 := Lib.hid (show N12 ≤ N15 from by rw [hN15]; exact top)
  have top' : N15 ≤ W10.heap.size := Nat.le_of_eq hN15
  clear top
  have top := top'
  clear top'
  refine (HI.out  _ ).mono ?_; rintro e W13 ho; obtain ⟨p16, q17, p18, q19, rfl, hr0, hb14⟩ := ho.out; clear ho; dsimp only at hr0; dsimp only
  rw [← hN15] at hr0
  clear hN15
  have hz := hb14.size
  replace hwc := hwc.trans (hb14.mono hwc.size)
  replace cP11_0 := (hb14.cell (p := ⟨P11, 0, none⟩) lP11).trans cP11_0
  replace cP11_1 := (hb14.cell (p := ⟨P11, 1, none⟩) lP11).trans cP11_1
  replace cP11_2 := (hb14.cell (p := ⟨P11, 2, none⟩) lP11).trans cP11_2
  replace lP11 : P11 < W13.heap.size := Nat.lt_of_lt_of_le lP11 hz
  replace HA9 := Lib.hid (HA9.out.below hb14 (show N8 ≤ W10.heap.size from (by have := CN3.out; have := CN8.out; have := CP11.out; have := CN12.out; have := CN15.out; omega)))
  replace top := Nat.le_trans top hz
  clear hb14 hz
  obtain ⟨N20, hN20⟩ : ∃ N20, N20 = W13.heap.size := ⟨_, rfl⟩
  have CN20 := Lib.hid (show N15 ≤ N20 from by rw [hN20]; exact top)
  have top' : N20 ≤ W13.heap.size := Nat.le_of_eq hN20
  clear top
  have top := top'
  clear top'
  rw [← hN20] at hr0
  clear hN20
  have HA21 := Lib.hid hr0
  clear hr0
  go_wp2_with fail
  obtain ⟨W22, hW22⟩ : ∃ w', w' = (W13.alloc (.cells #[.slice p16 (O00).length q17, .slice p18 (O01).length q19, .int .i64 0] 69)) := ⟨_, rfl⟩
  rw [← hW22]
  have hbx : Below W13.heap.size W13 W22 := by rw [hW22]; exact ((Below.refl _ _).alloc (by simp) _)
  obtain ⟨P23, hP23⟩ : ∃ n, n = W13.heap.size := ⟨_, rfl⟩
  have cP23_0 : W22.cell? ⟨P23, 0, none⟩ = some (.slice p16 (O00).length q17) := by rw [hW22, hP23]; simp [go_sem]
  have cP23_1 : W22.cell? ⟨P23, 1, none⟩ = some (.slice p18 (O01).length q19) := by rw [hW22, hP23]; simp [go_sem]
  have cP23_2 : W22.cell? ⟨P23, 2, none⟩ = some (.int .i64 0) := by rw [hW22, hP23]; simp [go_sem]
  have lP23 : P23 < W22.heap.size := by rw [hW22, hP23]; simp
  have CP23 := Lib.hid (show N20 ≤ P23 from by rw [hP23]; exact top)
  rw [← hP23]
  clear hP23 hW22
  have hz := hbx.size
  replace hwc := hwc.trans (hbx.mono hwc.size)
  replace cP11_0 := (hbx.cell (p := ⟨P11, 0, none⟩) lP11).trans cP11_0
  replace cP11_1 := (hbx.cell (p := ⟨P11, 1, none⟩) lP11).trans cP11_1
  replace cP11_2 := (hbx.cell (p := ⟨P11, 2, none⟩) lP11).trans cP11_2
  replace lP11 : P11 < W22.heap.size := Nat.lt_of_lt_of_le lP11 hz
  replace HA9 := Lib.hid (HA9.out.below hbx (show N8 ≤ W13.heap.size from (by have := CN3.out; have := CN8.out; have := CP11.out; have := CN12.out; have := CN15.out; have := CN20.out; have := CP23.out; omega)))
  replace HA21 := Lib.hid (HA21.out.below hbx (show N20 ≤ W13.heap.size from (by have := CN3.out; have := CN8.out; have := CP11.out; have := CN12.out; have := CN15.out; have := CN20.out; have := CP23.out; omega)))
  replace top := Nat.le_trans top hz
  clear hbx hz
  clear top
  obtain ⟨N24, hN24⟩ : ∃ n, n = W22.heap.size := ⟨_, rfl⟩
  have CN24 := Lib.hid (show P23 < N24 from by rw [hN24]; exact lP23)
  have top : N24 ≤ W22.heap.size := Nat.le_of_eq hN24
  clear hN24
  refine (eqD_ans HA21.out HA9.out HF0.out).mono ?_; rintro e W26 ⟨rfl, hb25⟩
  have hz := hb25.size
  replace hwc := hwc.trans (hb25.mono hwc.size)
  replace cP11_0 := (hb25.cell (p := ⟨P11, 0, none⟩) lP11).trans cP11_0
  replace cP11_1 := (hb25.cell (p := ⟨P11, 1, none⟩) lP11).trans cP11_1
  replace cP11_2 := (hb25.cell (p := ⟨P11, 2, none⟩) lP11).trans cP11_2
  replace lP11 : P11 < W26.heap.size := Nat.lt_of_lt_of_le lP11 hz
  replace cP23_0 := (hb25.cell (p := ⟨P23, 0, none⟩) lP23).trans cP23_0
  replace cP23_1 := (hb25.cell (p := ⟨P23, 1, none⟩) lP23).trans cP23_1
  replace cP23_2 := (hb25.cell (p := ⟨P23, 2, none⟩) lP23).trans cP23_2
  replace lP23 : P23 < W26.heap.size := Nat.lt_of_lt_of_le lP23 hz
  replace HA9 := Lib.hid (HA9.out.below hb25 (show N8 ≤ W22.heap.size from (by have := CN3.out; have := CN8.out; have := CP11.out; have := CN12.out; have := CN15.out; have := CN20.out; have := CP23.out; have := CN24.out; omega)))
  replace HA21 := Lib.hid (HA21.out.below hb25 (show N20 ≤ W22.heap.size from (by have := CN3.out; have := CN8.out; have := CP11.out; have := CN12.out; have := CN15.out; have := CN20.out; have := CP23.out; have := CN24.out; omega)))
  replace top := Nat.le_trans top hz
  clear hb25 hz
  obtain ⟨m27, hm27⟩ : ∃ x, x = 1 + (sizePx O00 O01 : Int) := ⟨_, rfl⟩
  have hm27l : 0 ≤ m27 ∧ m27 ≤ 1048577 := by have := sizePx_le HF0.out; omega
  have hm27p := hm27l.1
  have HLm27 := Lib.hid hm27l
  have Em27 := Lib.hid hm27
  clear hm27 hm27l
  go_wp2_with fail
  refine (markD_k HA21.out HF0.out (show N20 ≤ W26.heap.size from (by have := CN3.out; have := CN8.out; have := CP11.out; have := CN12.out; have := CN15.out; have := CN20.out; have := CP23.out; have := CN24.out; omega)) 1 (by decide) (by decide)).mono ?_; rw [← Em27.out]; rintro e W29 ⟨rfl, hm, hb28⟩
  clear HA21
  have hz := hb28.size
  replace hwc := hwc.trans ((hb28.below (show N15 ≤ W26.heap.size from (by have := CN3.out; have := CN8.out; have := CP11.out; have := CN12.out; have := CN15.out; have := CN20.out; have := CP23.out; have := CN24.out; omega))).mono (show w.heap.size ≤ N15 from (by have := CN3.out; have := CN8.out; have := CP11.out; have := CN12.out; have := CN15.out; have := CN20.out; have := CP23.out; have := CN24.out; omega)))
  replace cP11_0 := (hb28.cell (p := ⟨P11, 0, none⟩) lP11 (show P11 < N15 ∨ N20 ≤ P11 from (by have := CN3.out; have := CN8.out; have := CP11.out; have := CN12.out; have := CN15.out; have := CN20.out; have := CP23.out; have := CN24.out; omega))).trans cP11_0
  replace cP11_1 := (hb28.cell (p := ⟨P11, 1, none⟩) lP11 (show P11 < N15 ∨ N20 ≤ P11 from (by have := CN3.out; have := CN8.out; have := CP11.out; have := CN12.out; have := CN15.out; have := CN20.out; have := CP23.out; have := CN24.out; omega))).trans cP11_1
  replace cP11_2 := (hb28.cell (p := ⟨P11, 2, none⟩) lP11 (show P11 < N15 ∨ N20 ≤ P11 from (by have := CN3.out; have := CN8.out; have := CP11.out; have := CN12.out; have := CN15.out; have := CN20.out; have := CP23.out; have := CN24.out; omega))).trans cP11_2
  replace lP11 : P11 < W29.heap.size := Nat.lt_of_lt_of_le lP11 hz
  replace cP23_0 := (hb28.cell (p := ⟨P23, 0, none⟩) lP23 (show P23 < N15 ∨ N20 ≤ P23 from (by have := CN3.out; have := CN8.out; have := CP11.out; have := CN12.out; have := CN15.out; have := CN20.out; have := CP23.out; have := CN24.out; omega))).trans cP23_0
  replace cP23_1 := (hb28.cell (p := ⟨P23, 1, none⟩) lP23 (show P23 < N15 ∨ N20 ≤ P23 from (by have := CN3.out; have := CN8.out; have := CP11.out; have := CN12.out; have := CN15.out; have := CN20.out; have := CP23.out; have := CN24.out; omega))).trans cP23_1
  replace cP23_2 := (hb28.cell (p := ⟨P23, 2, none⟩) lP23 (show P23 < N15 ∨ N20 ≤ P23 from (by have := CN3.out; have := CN8.out; have := CP11.out; have := CN12.out; have := CN15.out; have := CN20.out; have := CP23.out; have := CN24.out; omega))).trans cP23_2
  replace lP23 : P23 < W29.heap.size := Nat.lt_of_lt_of_le lP23 hz
  replace HA9 := Lib.hid (HA9.out.bet hb28 (show N8 ≤ N15 ∨ N20 ≤ N3 from (by have := CN3.out; have := CN8.out; have := CP11.out; have := CN12.out; have := CN15.out; have := CN20.out; have := CP23.out; have := CN24.out; omega)))
  replace top := Nat.le_trans top hz
  clear hb28 hz
  have HM30 := Lib.hid hm
  clear hm
  go_wp2_with fail
  refine (heldD_k 1 HM30.out HF0.out (show N20 ≤ W29.heap.size from (by have := CN3.out; have := CN8.out; have := CP11.out; have := CN12.out; have := CN15.out; have := CN20.out; have := CP23.out; have := CN24.out; omega)) (by decide) (by decide)).mono ?_; rw [← Em27.out]; rintro e W32 ⟨rfl, hb31⟩
  have hz := hb31.size
  replace hwc := hwc.trans (hb31.mono hwc.size)
  replace cP11_0 := (hb31.cell (p := ⟨P11, 0, none⟩) lP11).trans cP11_0
  replace cP11_1 := (hb31.cell (p := ⟨P11, 1, none⟩) lP11).trans cP11_1
  replace cP11_2 := (hb31.cell (p := ⟨P11, 2, none⟩) lP11).trans cP11_2
  replace lP11 : P11 < W32.heap.size := Nat.lt_of_lt_of_le lP11 hz
  replace cP23_0 := (hb31.cell (p := ⟨P23, 0, none⟩) lP23).trans cP23_0
  replace cP23_1 := (hb31.cell (p := ⟨P23, 1, none⟩) lP23).trans cP23_1
  replace cP23_2 := (hb31.cell (p := ⟨P23, 2, none⟩) lP23).trans cP23_2
  replace lP23 : P23 < W32.heap.size := Nat.lt_of_lt_of_le lP23 hz
  replace HA9 := Lib.hid (HA9.out.below hb31 (show N8 ≤ W29.heap.size from (by have := CN3.out; have := CN8.out; have := CP11.out; have := CN12.out; have := CN15.out; have := CN20.out; have := CP23.out; have := CN24.out; omega)))
  replace HM30 := Lib.hid (HM30.out.below hb31 (show N20 ≤ W29.heap.size from (by have := CN3.out; have := CN8.out; have := CP11.out; have := CN12.out; have := CN15.out; have := CN20.out; have := CP23.out; have := CN24.out; omega)))
  replace top := Nat.le_trans top hz
  clear hb31 hz
  go_wp2_with fail
  obtain ⟨N35, hN35⟩ : ∃ N35, N35 = W32.heap.size := ⟨_, rfl⟩
  have CN35 := Lib.hid (show N24 ≤ N35 from by rw [hN35]; exact top)
  have top' : N35 ≤ W32.heap.size := Nat.le_of_eq hN35
  clear top
  have top := top'
  clear top'
  refine (HI.out  _ ).mono ?_; rintro e W33 ho; obtain ⟨p36, q37, p38, q39, rfl, hr0, hb34⟩ := ho.out; clear ho; dsimp only at hr0; dsimp only
  rw [← hN35] at hr0
  clear hN35
  have hz := hb34.size
  replace hwc := hwc.trans (hb34.mono hwc.size)
  replace cP11_0 := (hb34.cell (p := ⟨P11, 0, none⟩) lP11).trans cP11_0
  replace cP11_1 := (hb34.cell (p := ⟨P11, 1, none⟩) lP11).trans cP11_1
  replace cP11_2 := (hb34.cell (p := ⟨P11, 2, none⟩) lP11).trans cP11_2
  replace lP11 : P11 < W33.heap.size := Nat.lt_of_lt_of_le lP11 hz
  replace cP23_0 := (hb34.cell (p := ⟨P23, 0, none⟩) lP23).trans cP23_0
  replace cP23_1 := (hb34.cell (p := ⟨P23, 1, none⟩) lP23).trans cP23_1
  replace cP23_2 := (hb34.cell (p := ⟨P23, 2, none⟩) lP23).trans cP23_2
  replace lP23 : P23 < W33.heap.size := Nat.lt_of_lt_of_le lP23 hz
  replace HA9 := Lib.hid (HA9.out.below hb34 (show N8 ≤ W32.heap.size from (by have := CN3.out; have := CN8.out; have := CP11.out; have := CN12.out; have := CN15.out; have := CN20.out; have := CP23.out; have := CN24.out; have := CN35.out; omega)))
  replace HM30 := Lib.hid (HM30.out.below hb34 (show N20 ≤ W32.heap.size from (by have := CN3.out; have := CN8.out; have := CP11.out; have := CN12.out; have := CN15.out; have := CN20.out; have := CP23.out; have := CN24.out; have := CN35.out; omega)))
  replace top := Nat.le_trans top hz
  clear hb34 hz
  obtain ⟨N40, hN40⟩ : ∃ N40, N40 = W33.heap.size := ⟨_, rfl⟩
  have CN40 := Lib.hid (show N35 ≤ N40 from by rw [hN40]; exact top)
  have top' : N40 ≤ W33.heap.size := Nat.le_of_eq hN40
  clear top
  have top := top'
  clear top'
  rw [← hN40] at hr0
  clear hN40
  have HA41 := Lib.hid hr0
  clear hr0
  go_wp2_with fail
  obtain ⟨W42, hW42⟩ : ∃ w', w' = (W33.alloc (.cells #[.slice p36 (O00).length q37, .slice p38 (O01).length q39, .int .i64 0] 69)) := ⟨_, rfl⟩
  rw [← hW42]
  have hbx : Below W33.heap.size W33 W42 := by rw [hW42]; exact ((Below.refl _ _).alloc (by simp) _)
  obtain ⟨P43, hP43⟩ : ∃ n, n = W33.heap.size := ⟨_, rfl⟩
  have cP43_0 : W42.cell? ⟨P43, 0, none⟩ = some (.slice p36 (O00).length q37) := by rw [hW42, hP43]; simp [go_sem]
  have cP43_1 : W42.cell? ⟨P43, 1, none⟩ = some (.slice p38 (O01).length q39) := by rw [hW42, hP43]; simp [go_sem]
  have cP43_2 : W42.cell? ⟨P43, 2, none⟩ = some (.int .i64 0) := by rw [hW42, hP43]; simp [go_sem]
  have lP43 : P43 < W42.heap.size := by rw [hW42, hP43]; simp
  have CP43 := Lib.hid (show N40 ≤ P43 from by rw [hP43]; exact top)
  rw [← hP43]
  clear hP43 hW42
  have hz := hbx.size
  replace hwc := hwc.trans (hbx.mono hwc.size)
  replace cP11_0 := (hbx.cell (p := ⟨P11, 0, none⟩) lP11).trans cP11_0
  replace cP11_1 := (hbx.cell (p := ⟨P11, 1, none⟩) lP11).trans cP11_1
  replace cP11_2 := (hbx.cell (p := ⟨P11, 2, none⟩) lP11).trans cP11_2
  replace lP11 : P11 < W42.heap.size := Nat.lt_of_lt_of_le lP11 hz
  replace cP23_0 := (hbx.cell (p := ⟨P23, 0, none⟩) lP23).trans cP23_0
  replace cP23_1 := (hbx.cell (p := ⟨P23, 1, none⟩) lP23).trans cP23_1
  replace cP23_2 := (hbx.cell (p := ⟨P23, 2, none⟩) lP23).trans cP23_2
  replace lP23 : P23 < W42.heap.size := Nat.lt_of_lt_of_le lP23 hz
  replace HA9 := Lib.hid (HA9.out.below hbx (show N8 ≤ W33.heap.size from (by have := CN3.out; have := CN8.out; have := CP11.out; have := CN12.out; have := CN15.out; have := CN20.out; have := CP23.out; have := CN24.out; have := CN35.out; have := CN40.out; have := CP43.out; omega)))
  replace HM30 := Lib.hid (HM30.out.below hbx (show N20 ≤ W33.heap.size from (by have := CN3.out; have := CN8.out; have := CP11.out; have := CN12.out; have := CN15.out; have := CN20.out; have := CP23.out; have := CN24.out; have := CN35.out; have := CN40.out; have := CP43.out; omega)))
  replace HA41 := Lib.hid (HA41.out.below hbx (show N40 ≤ W33.heap.size from (by have := CN3.out; have := CN8.out; have := CP11.out; have := CN12.out; have := CN15.out; have := CN20.out; have := CP23.out; have := CN24.out; have := CN35.out; have := CN40.out; have := CP43.out; omega)))
  replace top := Nat.le_trans top hz
  clear hbx hz
  clear top
  obtain ⟨N44, hN44⟩ : ∃ n, n = W42.heap.size := ⟨_, rfl⟩
  have CN44 := Lib.hid (show P43 < N44 from by rw [hN44]; exact lP43)
  have top : N44 ≤ W42.heap.size := Nat.le_of_eq hN44
  clear hN44
  refine (eqD_ans HA41.out HA9.out HF0.out).mono ?_; rintro e W46 ⟨rfl, hb45⟩
  have hz := hb45.size
  replace hwc := hwc.trans (hb45.mono hwc.size)
  replace cP11_0 := (hb45.cell (p := ⟨P11, 0, none⟩) lP11).trans cP11_0
  replace cP11_1 := (hb45.cell (p := ⟨P11, 1, none⟩) lP11).trans cP11_1
  replace cP11_2 := (hb45.cell (p := ⟨P11, 2, none⟩) lP11).trans cP11_2
  replace lP11 : P11 < W46.heap.size := Nat.lt_of_lt_of_le lP11 hz
  replace cP23_0 := (hb45.cell (p := ⟨P23, 0, none⟩) lP23).trans cP23_0
  replace cP23_1 := (hb45.cell (p := ⟨P23, 1, none⟩) lP23).trans cP23_1
  replace cP23_2 := (hb45.cell (p := ⟨P23, 2, none⟩) lP23).trans cP23_2
  replace lP23 : P23 < W46.heap.size := Nat.lt_of_lt_of_le lP23 hz
  replace cP43_0 := (hb45.cell (p := ⟨P43, 0, none⟩) lP43).trans cP43_0
  replace cP43_1 := (hb45.cell (p := ⟨P43, 1, none⟩) lP43).trans cP43_1
  replace cP43_2 := (hb45.cell (p := ⟨P43, 2, none⟩) lP43).trans cP43_2
  replace lP43 : P43 < W46.heap.size := Nat.lt_of_lt_of_le lP43 hz
  replace HA9 := Lib.hid (HA9.out.below hb45 (show N8 ≤ W42.heap.size from (by have := CN3.out; have := CN8.out; have := CP11.out; have := CN12.out; have := CN15.out; have := CN20.out; have := CP23.out; have := CN24.out; have := CN35.out; have := CN40.out; have := CP43.out; have := CN44.out; omega)))
  replace HM30 := Lib.hid (HM30.out.below hb45 (show N20 ≤ W42.heap.size from (by have := CN3.out; have := CN8.out; have := CP11.out; have := CN12.out; have := CN15.out; have := CN20.out; have := CP23.out; have := CN24.out; have := CN35.out; have := CN40.out; have := CP43.out; have := CN44.out; omega)))
  replace HA41 := Lib.hid (HA41.out.below hb45 (show N40 ≤ W42.heap.size from (by have := CN3.out; have := CN8.out; have := CP11.out; have := CN12.out; have := CN15.out; have := CN20.out; have := CP23.out; have := CN24.out; have := CN35.out; have := CN40.out; have := CP43.out; have := CN44.out; omega)))
  replace top := Nat.le_trans top hz
  clear hb45 hz
  go_wp2_with fail
  refine (heldD_k 1 HM30.out HF0.out (show N20 ≤ W46.heap.size from (by have := CN3.out; have := CN8.out; have := CP11.out; have := CN12.out; have := CN15.out; have := CN20.out; have := CP23.out; have := CN24.out; have := CN35.out; have := CN40.out; have := CP43.out; have := CN44.out; omega)) (by decide) (by decide)).mono ?_; rw [← Em27.out]; rintro e W48 ⟨rfl, hb47⟩
  have hz := hb47.size
  replace hwc := hwc.trans (hb47.mono hwc.size)
  replace cP11_0 := (hb47.cell (p := ⟨P11, 0, none⟩) lP11).trans cP11_0
  replace cP11_1 := (hb47.cell (p := ⟨P11, 1, none⟩) lP11).trans cP11_1
  replace cP11_2 := (hb47.cell (p := ⟨P11, 2, none⟩) lP11).trans cP11_2
  replace lP11 : P11 < W48.heap.size := Nat.lt_of_lt_of_le lP11 hz
  replace cP23_0 := (hb47.cell (p := ⟨P23, 0, none⟩) lP23).trans cP23_0
  replace cP23_1 := (hb47.cell (p := ⟨P23, 1, none⟩) lP23).trans cP23_1
  replace cP23_2 := (hb47.cell (p := ⟨P23, 2, none⟩) lP23).trans cP23_2
  replace lP23 : P23 < W48.heap.size := Nat.lt_of_lt_of_le lP23 hz
  replace cP43_0 := (hb47.cell (p := ⟨P43, 0, none⟩) lP43).trans cP43_0
  replace cP43_1 := (hb47.cell (p := ⟨P43, 1, none⟩) lP43).trans cP43_1
  replace cP43_2 := (hb47.cell (p := ⟨P43, 2, none⟩) lP43).trans cP43_2
  replace lP43 : P43 < W48.heap.size := Nat.lt_of_lt_of_le lP43 hz
  replace HA9 := Lib.hid (HA9.out.below hb47 (show N8 ≤ W46.heap.size from (by have := CN3.out; have := CN8.out; have := CP11.out; have := CN12.out; have := CN15.out; have := CN20.out; have := CP23.out; have := CN24.out; have := CN35.out; have := CN40.out; have := CP43.out; have := CN44.out; omega)))
  replace HM30 := Lib.hid (HM30.out.below hb47 (show N20 ≤ W46.heap.size from (by have := CN3.out; have := CN8.out; have := CP11.out; have := CN12.out; have := CN15.out; have := CN20.out; have := CP23.out; have := CN24.out; have := CN35.out; have := CN40.out; have := CP43.out; have := CN44.out; omega)))
  replace HA41 := Lib.hid (HA41.out.below hb47 (show N40 ≤ W46.heap.size from (by have := CN3.out; have := CN8.out; have := CP11.out; have := CN12.out; have := CN15.out; have := CN20.out; have := CP23.out; have := CN24.out; have := CN35.out; have := CN40.out; have := CP43.out; have := CN44.out; omega)))
  replace top := Nat.le_trans top hz
  clear hb47 hz
  go_wp2_with fail
  go_ret
  exact ⟨rfl, hwc⟩
set_option maxHeartbeats 8000000 in
theorem law_FnExactIsDesk (v00 v01 : Value) (X00 : List (List Int)) (X01 : List Int) (s0 : Int) (w : World) (h00 : PM.Rows w v00 X00) (h01 : Ints w v01 X01) :
    Calls Try.prog 14 #[.agg #[v00, v01, .int .i64 s0]] w fun e w' => e = .returned (.bool true) ∧ Below w.heap.size w w' := by
  have g00 := fun (w' : World) (h : Below w.heap.size w w') => h00.below h
  have I00 := Lib.hid (rows_I64 h00)
  obtain ⟨a00, c00, rfl, _⟩ := h00
  have g01 := fun (w' : World) (h : Below w.heap.size w w') => h01.below h
  have I01 := Lib.hid (ints_I64 h01)
  obtain ⟨a01, c01, rfl, _⟩ := h01
  by_cases hz0 : szI (tot X00 + (X01).length) 1048576 < 0
  · have E1 := Lib.hid (szx_neg hz0)
    clear hz0
    go_enter Try.func14, Try.ntmps14
    have hwc : Below w.heap.size w w := Below.refl _ _
    go_wp2_with fail
    obtain ⟨W1, hW1⟩ : ∃ w', w' = (w.alloc (.cells #[.slice a00 (X00).length c00, .slice a01 (X01).length c01, .int .i64 s0] 75)) := ⟨_, rfl⟩
    rw [← hW1]
    have hbx : Below w.heap.size w W1 := by rw [hW1]; exact ((Below.refl _ _).alloc (by simp) _)
    obtain ⟨P2, hP2⟩ : ∃ n, n = w.heap.size := ⟨_, rfl⟩
    have cP2_0 : W1.cell? ⟨P2, 0, none⟩ = some (.slice a00 (X00).length c00) := by rw [hW1, hP2]; simp [go_sem]
    have cP2_1 : W1.cell? ⟨P2, 1, none⟩ = some (.slice a01 (X01).length c01) := by rw [hW1, hP2]; simp [go_sem]
    have cP2_2 : W1.cell? ⟨P2, 2, none⟩ = some (.int .i64 s0) := by rw [hW1, hP2]; simp [go_sem]
    have lP2 : P2 < W1.heap.size := by rw [hW1, hP2]; simp
    have CP2 := Lib.hid (show w.heap.size ≤ P2 from by rw [hP2]; exact hwc.size)
    rw [← hP2]
    clear hP2 hW1
    have hz := hbx.size
    replace hwc := hwc.trans (hbx.mono hwc.size)
    clear hbx hz
    obtain ⟨N3, hN3⟩ : ∃ n, n = W1.heap.size := ⟨_, rfl⟩
    have CN3 := Lib.hid (show P2 < N3 from by rw [hN3]; exact lP2)
    have top : N3 ≤ W1.heap.size := Nat.le_of_eq hN3
    clear hN3
    refine (szD_x _ _ X00 X01 _ (g00 _ hwc) (g01 _ hwc)).mono ?_; rw [E1.out]; rintro e W5 ⟨rfl, hb4⟩
    have hz := hb4.size
    replace hwc := hwc.trans (hb4.mono hwc.size)
    replace cP2_0 := (hb4.cell (p := ⟨P2, 0, none⟩) lP2).trans cP2_0
    replace cP2_1 := (hb4.cell (p := ⟨P2, 1, none⟩) lP2).trans cP2_1
    replace cP2_2 := (hb4.cell (p := ⟨P2, 2, none⟩) lP2).trans cP2_2
    replace lP2 : P2 < W5.heap.size := Nat.lt_of_lt_of_le lP2 hz
    replace top := Nat.le_trans top hz
    clear hb4 hz
    go_wp2_with fail
    go_ret
    exact ⟨rfl, hwc⟩
  obtain ⟨hf0, hle0⟩ := szx_fits hz0
  have hn0 : (tot X00 + (X01).length) ≤ 1048576 := by omega
  have HN0 := Lib.hid hn0
  clear hn0 hf0
  have hspec := fun (v00 v01 : Value) (w : World) (h0 : PM.Rows w v00 X00) (h1 : Ints w v01 X01) => specIsDesk_any v00 v01 X00 X01 s0 w h0 h1 
  have himpl := fun (v00 v01 : Value) (w : World) (h0 : PM.Rows w v00 X00) (h1 : Ints w v01 X01) => implIsDesk_any v00 v01 X00 X01 s0 w h0 h1 
  generalize dkOut X00 X01 s0 = o at *
  obtain ⟨o0, rfl⟩ : ∃ x, x = o := ⟨_, rfl⟩
  have HS := Lib.hid hspec
  have HI := Lib.hid himpl
  clear hspec himpl
  go_enter Try.func14, Try.ntmps14
  have hwc : Below w.heap.size w w := Below.refl _ _
  go_wp2_with fail
  obtain ⟨W6, hW6⟩ : ∃ w', w' = (w.alloc (.cells #[.slice a00 (X00).length c00, .slice a01 (X01).length c01, .int .i64 s0] 75)) := ⟨_, rfl⟩
  rw [← hW6]
  have hbx : Below w.heap.size w W6 := by rw [hW6]; exact ((Below.refl _ _).alloc (by simp) _)
  obtain ⟨P7, hP7⟩ : ∃ n, n = w.heap.size := ⟨_, rfl⟩
  have cP7_0 : W6.cell? ⟨P7, 0, none⟩ = some (.slice a00 (X00).length c00) := by rw [hW6, hP7]; simp [go_sem]
  have cP7_1 : W6.cell? ⟨P7, 1, none⟩ = some (.slice a01 (X01).length c01) := by rw [hW6, hP7]; simp [go_sem]
  have cP7_2 : W6.cell? ⟨P7, 2, none⟩ = some (.int .i64 s0) := by rw [hW6, hP7]; simp [go_sem]
  have lP7 : P7 < W6.heap.size := by rw [hW6, hP7]; simp
  have CP7 := Lib.hid (show w.heap.size ≤ P7 from by rw [hP7]; exact hwc.size)
  rw [← hP7]
  clear hP7 hW6
  have hz := hbx.size
  replace hwc := hwc.trans (hbx.mono hwc.size)
  clear hbx hz
  obtain ⟨N8, hN8⟩ : ∃ n, n = W6.heap.size := ⟨_, rfl⟩
  have CN8 := Lib.hid (show P7 < N8 from by rw [hN8]; exact lP7)
  have top : N8 ≤ W6.heap.size := Nat.le_of_eq hN8
  clear hN8
  refine (szD_x _ _ X00 X01 _ (g00 _ hwc) (g01 _ hwc)).mono ?_; rintro e W10 ⟨rfl, hb9⟩
  have hz := hb9.size
  replace hwc := hwc.trans (hb9.mono hwc.size)
  replace cP7_0 := (hb9.cell (p := ⟨P7, 0, none⟩) lP7).trans cP7_0
  replace cP7_1 := (hb9.cell (p := ⟨P7, 1, none⟩) lP7).trans cP7_1
  replace cP7_2 := (hb9.cell (p := ⟨P7, 2, none⟩) lP7).trans cP7_2
  replace lP7 : P7 < W10.heap.size := Nat.lt_of_lt_of_le lP7 hz
  replace top := Nat.le_trans top hz
  clear hb9 hz
  generalize szI (tot X00 + (X01).length) 1048576 = lf11 at *
  go_wp2_with fail
  clear hz0 hle0
  refine (toD_x _ _ X00 X01 _ (g00 _ hwc) (g01 _ hwc) HN0.out).mono ?_; rintro e W13 ⟨p14, q15, p16, q17, rfl, hr, hb12⟩
  have hrr := RngPx.reads hr I00.out I01.out
  have RD18 := Lib.hid (hrr.1)
  have RD19 := Lib.hid (hrr.2)
  clear hrr
  clear hr
  have hz := hb12.size
  replace hwc := hwc.trans (hb12.mono hwc.size)
  replace cP7_0 := (hb12.cell (p := ⟨P7, 0, none⟩) lP7).trans cP7_0
  replace cP7_1 := (hb12.cell (p := ⟨P7, 1, none⟩) lP7).trans cP7_1
  replace cP7_2 := (hb12.cell (p := ⟨P7, 2, none⟩) lP7).trans cP7_2
  replace lP7 : P7 < W13.heap.size := Nat.lt_of_lt_of_le lP7 hz
  replace top := Nat.le_trans top hz
  clear hb12 hz
  go_wp2_with fail
  refine (HS.out _ _ _ RD18.out RD19.out).mono ?_; rintro e W20 ⟨rfl, hb21⟩; dsimp only
  have hz := hb21.size
  replace hwc := hwc.trans (hb21.mono hwc.size)
  replace cP7_0 := (hb21.cell (p := ⟨P7, 0, none⟩) lP7).trans cP7_0
  replace cP7_1 := (hb21.cell (p := ⟨P7, 1, none⟩) lP7).trans cP7_1
  replace cP7_2 := (hb21.cell (p := ⟨P7, 2, none⟩) lP7).trans cP7_2
  replace lP7 : P7 < W20.heap.size := Nat.lt_of_lt_of_le lP7 hz
  replace RD18 := Lib.hid (RD18.out.below hb21)
  replace RD19 := Lib.hid (RD19.out.below hb21)
  replace top := Nat.le_trans top hz
  clear hb21 hz
  clear RD18 RD19
  go_wp2_with fail
  obtain ⟨N22, hN22⟩ : ∃ N22, N22 = W20.heap.size := ⟨_, rfl⟩
  have CN22 := Lib.hid (show N8 ≤ N22 from by rw [hN22]; exact top)
  have top' : N22 ≤ W20.heap.size := Nat.le_of_eq hN22
  clear top
  have top := top'
  clear top'
  refine (toD_x _ _ X00 X01 _ (g00 _ hwc) (g01 _ hwc) HN0.out).mono ?_; rintro e W24 ⟨p25, q26, p27, q28, rfl, hr, hb23⟩
  rw [← hN22] at hr
  clear hN22
  have hz := hb23.size
  replace hwc := hwc.trans (hb23.mono hwc.size)
  replace cP7_0 := (hb23.cell (p := ⟨P7, 0, none⟩) lP7).trans cP7_0
  replace cP7_1 := (hb23.cell (p := ⟨P7, 1, none⟩) lP7).trans cP7_1
  replace cP7_2 := (hb23.cell (p := ⟨P7, 2, none⟩) lP7).trans cP7_2
  replace lP7 : P7 < W24.heap.size := Nat.lt_of_lt_of_le lP7 hz
  replace top := Nat.le_trans top hz
  clear hb23 hz
  obtain ⟨N29, hN29⟩ : ∃ N29, N29 = W24.heap.size := ⟨_, rfl⟩
  have CN29 := Lib.hid (show N22 ≤ N29 from by rw [hN29]; exact top)
  have top' : N29 ≤ W24.heap.size := Nat.le_of_eq hN29
  clear top
  have top := top'
  clear top'
  rw [← hN29] at hr
  clear hN29
  have HX30 := Lib.hid hr
  clear hr
  go_wp2_with fail
  obtain ⟨W31, hW31⟩ : ∃ w', w' = (W24.alloc (.cells #[.slice p25 (X00).length q26, .slice p27 (X01).length q28, .int .i64 s0] 69)) := ⟨_, rfl⟩
  rw [← hW31]
  have hbx : Below W24.heap.size W24 W31 := by rw [hW31]; exact ((Below.refl _ _).alloc (by simp) _)
  obtain ⟨P32, hP32⟩ : ∃ n, n = W24.heap.size := ⟨_, rfl⟩
  have cP32_0 : W31.cell? ⟨P32, 0, none⟩ = some (.slice p25 (X00).length q26) := by rw [hW31, hP32]; simp [go_sem]
  have cP32_1 : W31.cell? ⟨P32, 1, none⟩ = some (.slice p27 (X01).length q28) := by rw [hW31, hP32]; simp [go_sem]
  have cP32_2 : W31.cell? ⟨P32, 2, none⟩ = some (.int .i64 s0) := by rw [hW31, hP32]; simp [go_sem]
  have lP32 : P32 < W31.heap.size := by rw [hW31, hP32]; simp
  have CP32 := Lib.hid (show N29 ≤ P32 from by rw [hP32]; exact top)
  rw [← hP32]
  clear hP32 hW31
  have hz := hbx.size
  replace hwc := hwc.trans (hbx.mono hwc.size)
  replace cP7_0 := (hbx.cell (p := ⟨P7, 0, none⟩) lP7).trans cP7_0
  replace cP7_1 := (hbx.cell (p := ⟨P7, 1, none⟩) lP7).trans cP7_1
  replace cP7_2 := (hbx.cell (p := ⟨P7, 2, none⟩) lP7).trans cP7_2
  replace lP7 : P7 < W31.heap.size := Nat.lt_of_lt_of_le lP7 hz
  replace HX30 := Lib.hid (HX30.out.below hbx (show N29 ≤ W24.heap.size from (by have := CP7.out; have := CN8.out; have := CN22.out; have := CN29.out; have := CP32.out; omega)))
  replace top := Nat.le_trans top hz
  clear hbx hz
  clear top
  obtain ⟨N33, hN33⟩ : ∃ n, n = W31.heap.size := ⟨_, rfl⟩
  have CN33 := Lib.hid (show P32 < N33 from by rw [hN33]; exact lP32)
  have top : N33 ≤ W31.heap.size := Nat.le_of_eq hN33
  clear hN33
  have hrr := RngPx.reads HX30.out I00.out I01.out
  have RD34 := Lib.hid (hrr.1)
  have RD35 := Lib.hid (hrr.2)
  clear hrr
  refine (HI.out _ _ _ RD34.out RD35.out).mono ?_; rintro e W36 ⟨rfl, hb37⟩; dsimp only
  have hz := hb37.size
  replace hwc := hwc.trans (hb37.mono hwc.size)
  replace cP7_0 := (hb37.cell (p := ⟨P7, 0, none⟩) lP7).trans cP7_0
  replace cP7_1 := (hb37.cell (p := ⟨P7, 1, none⟩) lP7).trans cP7_1
  replace cP7_2 := (hb37.cell (p := ⟨P7, 2, none⟩) lP7).trans cP7_2
  replace lP7 : P7 < W36.heap.size := Nat.lt_of_lt_of_le lP7 hz
  replace cP32_0 := (hb37.cell (p := ⟨P32, 0, none⟩) lP32).trans cP32_0
  replace cP32_1 := (hb37.cell (p := ⟨P32, 1, none⟩) lP32).trans cP32_1
  replace cP32_2 := (hb37.cell (p := ⟨P32, 2, none⟩) lP32).trans cP32_2
  replace lP32 : P32 < W36.heap.size := Nat.lt_of_lt_of_le lP32 hz
  replace RD34 := Lib.hid (RD34.out.below hb37)
  replace RD35 := Lib.hid (RD35.out.below hb37)
  replace HX30 := Lib.hid (HX30.out.below hb37 (show N29 ≤ W31.heap.size from (by have := CP7.out; have := CN8.out; have := CN22.out; have := CN29.out; have := CP32.out; have := CN33.out; omega)))
  replace top := Nat.le_trans top hz
  clear hb37 hz
  clear RD34 RD35
  have hrr := RngPx.reads HX30.out I00.out I01.out
  have RX38 := Lib.hid (hrr.1)
  have RX39 := Lib.hid (hrr.2)
  clear hrr
  have rp0 := fun (w' : World) (h : Below W36.heap.size W36 w') => (h.cell (p := ⟨P7, 0, none⟩) lP7).trans cP7_0
  have rp1 := fun (w' : World) (h : Below W36.heap.size W36 w') => (h.cell (p := ⟨P7, 1, none⟩) lP7).trans cP7_1
  have rp2 := fun (w' : World) (h : Below W36.heap.size W36 w') => (h.cell (p := ⟨P7, 2, none⟩) lP7).trans cP7_2
  have rv0 := fun (w' : World) (h : Below W36.heap.size W36 w') => (h.cell (p := ⟨P32, 0, none⟩) lP32).trans cP32_0
  have rv1 := fun (w' : World) (h : Below W36.heap.size W36 w') => (h.cell (p := ⟨P32, 1, none⟩) lP32).trans cP32_1
  have rv2 := fun (w' : World) (h : Below W36.heap.size W36 w') => (h.cell (p := ⟨P32, 2, none⟩) lP32).trans cP32_2
  clear cP7_0 cP7_1 cP7_2
  clear cP32_0 cP32_1 cP32_2
  go_wp2_with fail
  have hz9 := hwc.size
  go_region_held3 (fun w' => Below W36.heap.size W36 w') ((repeat' (first | (with_reducible exact Below.refl _ _) | (with_reducible assumption) | (with_reducible refine Below.alloc ?_ ?_ _) | (with_reducible refine Below.drew ?_) | (with_reducible refine below_drewN ?_ _) | (with_reducible refine Below.setCell ?_ ?_ _) | (with_reducible refine Below.trans ?_ (Below.mono (by with_reducible assumption) ?_)) | (with_reducible exact Below.size (by with_reducible assumption)) | go_size)))
    (first | (go_at_call 60; refine (toD_x _ _ X00 X01 _ (g00 _ (hwc.trans (Below.mono (by assumption) hz9))) (g01 _ (hwc.trans (Below.mono (by assumption) hz9))) HN0.out).mono ?_; rintro e w8 ⟨p40, q41, p42, q43, rfl, hr8, hb8⟩; have hS8 : Below W36.heap.size W36 w8 := (by (repeat' (first | (with_reducible exact Below.refl _ _) | (with_reducible assumption) | (with_reducible refine Below.alloc ?_ ?_ _) | (with_reducible refine Below.drew ?_) | (with_reducible refine below_drewN ?_ _) | (with_reducible refine Below.setCell ?_ ?_ _) | (with_reducible refine Below.trans ?_ (Below.mono (by with_reducible assumption) ?_)) | (with_reducible exact Below.size (by with_reducible assumption)) | go_size))); have R8 := Lib.hid (RngPx.reads hr8 I00.out I01.out); clear hr8) | (go_at_call 55; refine (eqD_x _ _ _ _ X00 X01 _ (RX38.out.below hS8) (RX39.out.below hS8) (R8.out.1) (R8.out.2)).mono ?_; rintro e w9 ⟨rfl, hb9⟩; have hS9 : Below W36.heap.size W36 w9 := (by (repeat' (first | (with_reducible exact Below.refl _ _) | (with_reducible assumption) | (with_reducible refine Below.alloc ?_ ?_ _) | (with_reducible refine Below.drew ?_) | (with_reducible refine below_drewN ?_ _) | (with_reducible refine Below.setCell ?_ ?_ _) | (with_reducible refine Below.trans ?_ (Below.mono (by with_reducible assumption) ?_)) | (with_reducible exact Below.size (by with_reducible assumption)) | go_size)))))
  clear R8 hS8 hb8 hb9 hz9 RX38 RX39
  have cP7_0 := rp0 _ hS9
  have cP7_1 := rp1 _ hS9
  have cP7_2 := rp2 _ hS9
  have cP32_0 := rv0 _ hS9
  have cP32_1 := rv1 _ hS9
  have cP32_2 := rv2 _ hS9
  clear rp0 rp1 rp2 rv0 rv1 rv2
  have hS9' := hS9
  have lP9 := Nat.lt_of_lt_of_le lP7 hS9.size
  have lV9 := Nat.lt_of_lt_of_le lP32 hS9.size
  clear hS9 lP7 lP32
  have lP7 := lP9
  have lP32 := lV9
  clear lP9 lV9
  have hz := hS9'.size
  replace hwc := hwc.trans (hS9'.mono hwc.size)
  replace HX30 := Lib.hid (HX30.out.below hS9' (show N29 ≤ W36.heap.size from (by have := CP7.out; have := CN8.out; have := CN22.out; have := CN29.out; have := CP32.out; have := CN33.out; omega)))
  replace top := Nat.le_trans top hz
  clear hS9' hz
  obtain ⟨W44, rfl⟩ : ∃ w', w' = w9 := ⟨_, rfl⟩
  go_wp2_with fail
  go_ret
  exact ⟨rfl, hwc⟩
end Go.Proofs.Ytgncaploccbfnaa.PW
