/-
  The exact laws of SymmetricPart, ComparisonOf, SignsOf, IsMatrix: both sides' answers, and the laws.
-/
import Derived.Test.YtillndnamechdaaQSqB
namespace Go.Proofs.Ytillndnamechdaa.PW
open Go.RowKit Go.Proofs.Ytillndnamechdaa
open Go.Proofs.Ytillndnamechdaa.PM Go.Proofs.Ytillndnamechdaa.PX

theorem outR_err (w w' : World) (c : Int) (h : Below w.heap.size w w') : OutR w ([], c) (.returned (.tuple #[.slice none 0 0, .int .i64 c])) w' := ⟨_, [], rfl, ownRs_nil _ _, h⟩
theorem symG_I64 (M : List (List Int)) (h : matB M = true) : ∀ a b, a < M.length → b < M.length → I64 (symG M a b) := by
  obtain ⟨_, _, _, h4⟩ := matB_facts h
  intro a b ha hb
  have := h4 a b ha hb
  have := h4 b a hb ha
  unfold symG I64
  omega
theorem cmpG_I64 (M : List (List Int)) (h : matB M = true) : ∀ a b, a < M.length → b < M.length → I64 (cmpG M a b) := by
  obtain ⟨_, _, _, h4⟩ := matB_facts h
  intro a b ha hb
  have := h4 a b ha hb
  unfold cmpG absI I64
  split <;> split <;> omega
theorem sgnG_I64 (M : List (List Int)) (_h : matB M = true) : ∀ a b, a < M.length → b < M.length → I64 (sgnG M a b) := by
  intro a b _ _
  unfold sgnG sgnI I64
  split <;> (try split) <;> omega

theorem l03Set0_any (m : Value) (M : List (List Int)) (w : World) (h1 : PM.Rows w m M) :
    Calls Try.prog 68 #[m, .slice none 0 0] w fun e w' => e = .returned (.int .i64 (if matB M = true then 0 else 1)) ∧ w = w' := by
  have G1 := Lib.hid h1
  obtain ⟨a1, c1, rfl, _⟩ := h1
  cases hM : matB M
  · have HM := Lib.hid hM
    clear hM
    go_enter Try.func68, Try.ntmps68
    go_wp2_with fail
    refine (l01Matrix_any _ M _ G1.out).mono ?_; rw [HM.out]; rintro e w1 ⟨rfl, rfl⟩
    go_wp2_with fail
    go_ret
    exact ⟨rfl, rfl⟩
  · have HM := Lib.hid hM
    clear hM
    go_enter Try.func68, Try.ntmps68
    go_wp2_with fail
    refine (l01Matrix_any _ M _ G1.out).mono ?_; rw [HM.out]; rintro e w1 ⟨rfl, rfl⟩
    go_wp2_with fail
    go_rounds 1
    all_goals go_ret
    all_goals exact ⟨rfl, rfl⟩

theorem specSymmetricPart_any (m : Value) (M : List (List Int)) (w : World) (h1 : PM.Rows w m M) : Calls Try.prog 35 #[m] w (OutR w (matOut symG M)) := by
  have G1 := Lib.hid h1
  cases hM : matB M
  · rw [matOut_err hM]
    have HS := Lib.hid (l03Set0_any m M w h1)
    obtain ⟨a1, c1, rfl, _⟩ := h1
    have HM := Lib.hid hM
    clear hM
    go_enter Try.func35, Try.ntmps35
    go_wp2_with fail
    refine HS.out.mono ?_; rw [HM.out]; rintro e w1 ⟨rfl, rfl⟩
    go_wp2_with fail
    go_ret2
    exact outR_err _ _ _ (by (repeat' (first | (with_reducible exact Below.refl _ _) | (with_reducible assumption) | (with_reducible refine Below.alloc ?_ ?_ _) | (with_reducible refine Below.drew ?_) | (with_reducible refine below_drewN ?_ _) | (with_reducible refine Below.setCell ?_ ?_ _) | (with_reducible refine Below.trans ?_ (Below.mono (by with_reducible assumption) ?_)) | (with_reducible exact Below.size (by with_reducible assumption)) | go_size)))
  · rw [matOut_ok hM]
    have HS := Lib.hid (l03Set0_any m M w h1)
    obtain ⟨f1, f2, f3, f4⟩ := matB_facts hM
    have HT := Lib.hid (l03Symmetric_any m M w h1 f1 f2 f3 f4)
    obtain ⟨a1, c1, rfl, _⟩ := h1
    have HM := Lib.hid hM
    clear hM f3 f4
    go_enter Try.func35, Try.ntmps35
    go_wp2_with fail
    refine HS.out.mono ?_; rw [HM.out]; rintro e w1 ⟨rfl, rfl⟩
    go_wp2_with fail
    refine HT.out.mono ?_; rintro e w2 ⟨g, cap, us, rfl, hf, hb2⟩
    have HF := Lib.hid hf
    clear hf
    go_wp2_with fail
    go_ret2
    exact ⟨_, us, rfl, HF.out.ownRs, hb2⟩
theorem implSymmetricPart_any (m : Value) (M : List (List Int)) (w : World) (h1 : PM.Rows w m M) : Calls Try.prog 36 #[m] w (OutR w (matOut symG M)) := by
  have HS := Lib.hid (implIsMatrix_any m M w h1)
  cases hM : matB M
  · rw [matOut_err hM]
    obtain ⟨a1, c1, rfl, _⟩ := h1
    have HM := Lib.hid hM
    clear hM
    go_enter Try.func36, Try.ntmps36
    go_wp2_with fail
    refine HS.out.mono ?_; rw [HM.out]; rintro e w1 ⟨rfl, rfl⟩
    go_wp2_with fail
    go_ret2
    exact outR_err _ _ _ (by (repeat' (first | (with_reducible exact Below.refl _ _) | (with_reducible assumption) | (with_reducible refine Below.alloc ?_ ?_ _) | (with_reducible refine Below.drew ?_) | (with_reducible refine below_drewN ?_ _) | (with_reducible refine Below.setCell ?_ ?_ _) | (with_reducible refine Below.trans ?_ (Below.mono (by with_reducible assumption) ?_)) | (with_reducible exact Below.size (by with_reducible assumption)) | go_size)))
  · rw [matOut_ok hM]
    obtain ⟨f1, f2, f3, f4⟩ := matB_facts hM
    have HT := Lib.hid (implSym_any m M w h1 f1 f2 f3 f4)
    obtain ⟨a1, c1, rfl, _⟩ := h1
    have HM := Lib.hid hM
    clear hM f3 f4
    go_enter Try.func36, Try.ntmps36
    go_wp2_with fail
    refine HS.out.mono ?_; rw [HM.out]; rintro e w1 ⟨rfl, rfl⟩
    go_wp2_with fail
    refine HT.out.mono ?_; rintro e w2 ⟨g, us, rfl, hf, hb2⟩
    have HF := Lib.hid hf
    clear hf
    go_wp2_with fail
    go_ret2
    exact ⟨_, us, rfl, HF.out.ownRs, hb2⟩
set_option maxHeartbeats 4000000 in
theorem law_FnExactSymmetricPart (m : Value) (M : List (List Int)) (w : World) (h1 : PM.Rows w m M) :
    Calls Try.prog 8 #[m] w fun e w' => e = .returned (.bool true) ∧ Below w.heap.size w w' := by
  have g1 := fun (w' : World) (h : Below w.heap.size w w') => h1.below h
  have I1 := Lib.hid (rows_I64 h1)
  obtain ⟨a1, c1, rfl, _⟩ := h1
  by_cases hz : szR M 1048576 < 0
  · have e1 := szR_neg hz
    have E1 := Lib.hid e1
    clear hz e1
    go_enter Try.func8, Try.ntmps8
    go_wp2_with fail
    refine (szInt64SS_any _ M _ _ (g1 _ (by (repeat' (first | (with_reducible exact Below.refl _ _) | (with_reducible assumption) | (with_reducible refine Below.alloc ?_ ?_ _) | (with_reducible refine Below.drew ?_) | (with_reducible refine below_drewN ?_ _) | (with_reducible refine Below.setCell ?_ ?_ _) | (with_reducible refine Below.trans ?_ (Below.mono (by with_reducible assumption) ?_)) | (with_reducible exact Below.size (by with_reducible assumption)) | go_size)))) (by omega) (by omega)).mono ?_; rw [E1.out]; rintro e w1 ⟨rfl, rfl⟩
    go_wp2_with fail
    go_ret
    exact ⟨rfl, by (repeat' (first | (with_reducible exact Below.refl _ _) | (with_reducible assumption) | (with_reducible refine Below.alloc ?_ ?_ _) | (with_reducible refine Below.drew ?_) | (with_reducible refine below_drewN ?_ _) | (with_reducible refine Below.setCell ?_ ?_ _) | (with_reducible refine Below.trans ?_ (Below.mono (by with_reducible assumption) ?_)) | (with_reducible exact Below.size (by with_reducible assumption)) | go_size))⟩
  have hle := szR_le M
  have HN1 := Lib.hid (szR_fits hz)
  have hspec := fun (m : Value) (w : World) (h1 : PM.Rows w m M) => specSymmetricPart_any m M w h1
  have himpl := fun (m : Value) (w : World) (h1 : PM.Rows w m M) => implSymmetricPart_any m M w h1
  have hfine := (matOut_fine symG symG_I64) M
  generalize (matOut symG) M = o at *
  obtain ⟨O, code⟩ := o
  have HS := Lib.hid hspec
  have HI := Lib.hid himpl
  have HF : Hid (FineR O) := Lib.hid hfine
  clear hfine
  clear hspec himpl
  go_enter Try.func8, Try.ntmps8
  go_wp2_with fail
  refine (szInt64SS_any _ M _ _ (g1 _ (by (repeat' (first | (with_reducible exact Below.refl _ _) | (with_reducible assumption) | (with_reducible refine Below.alloc ?_ ?_ _) | (with_reducible refine Below.drew ?_) | (with_reducible refine below_drewN ?_ _) | (with_reducible refine Below.setCell ?_ ?_ _) | (with_reducible refine Below.trans ?_ (Below.mono (by with_reducible assumption) ?_)) | (with_reducible exact Below.size (by with_reducible assumption)) | go_size)))) (by omega) (by omega)).mono ?_; rintro e w1 ⟨rfl, rfl⟩
  generalize szR M 1048576 = left at *
  go_wp2_with fail
  refine (toRows_out _ M _ (g1 _ (by (repeat' (first | (with_reducible exact Below.refl _ _) | (with_reducible assumption) | (with_reducible refine Below.alloc ?_ ?_ _) | (with_reducible refine Below.drew ?_) | (with_reducible refine below_drewN ?_ _) | (with_reducible refine Below.setCell ?_ ?_ _) | (with_reducible refine Below.trans ?_ (Below.mono (by with_reducible assumption) ?_)) | (with_reducible exact Below.size (by with_reducible assumption)) | go_size)))) HN1.out).mono ?_; rintro e w2 ⟨gA, rfl, hr2, hb2⟩
  have R2 := Lib.hid (hr2.rows I1.out)
  clear hr2

  go_wp2_with fail
  refine (HS.out _ _ R2.out).mono ?_; rintro e w3 ho3; obtain ⟨a3, c3, rfl, hr3, hb3⟩ := ho3.out; clear ho3; dsimp only at hr3; dsimp only
  have HR3 := Lib.hid hr3
  have hw3 : Below w.heap.size w w3 := hb2.trans (hb3.mono hb2.size)
  have hz3 := hb3.size
  clear R2 HS hr3
  go_wp2_with fail
  refine (toRows_out _ M _ (g1 _ hw3) HN1.out).mono ?_; rintro e w4 ⟨gC, rfl, hr4, hb4⟩
  have R4 := Lib.hid (hr4.rows I1.out)
  have HR4 := Lib.hid hr4
  have hw4 : Below w.heap.size w w4 := hw3.trans (hb4.mono hw3.size)
  have hz4 := hb4.size
  have hw4z := hw4.size
  clear hr4
  go_wp2_with fail
  refine (HI.out _ _ R4.out).mono ?_; rintro e w5 ho5; obtain ⟨a5, c5, rfl, hr5, hb5⟩ := ho5.out; clear ho5; dsimp only at hr5; dsimp only
  have hw5 : Below w.heap.size w w5 := hw4.trans (hb5.mono hw4.size)
  have hz5 := hb5.size
  have HA5 := Lib.hid ((HR3.out.below hb4 (Nat.le_refl _)).below hb5 hz4)
  have HX5 := Lib.hid (HR4.out.below hb5 (Nat.le_refl _))
  have HG5 := Lib.hid hr5
  have hs3 : w.heap.size ≤ w3.heap.size := hw3.size
  obtain ⟨S2, hS2⟩ : ∃ S, S = w2.heap.size := ⟨_, rfl⟩
  obtain ⟨S3, hS3⟩ : ∃ S, S = w3.heap.size := ⟨_, rfl⟩
  obtain ⟨S4, hS4⟩ : ∃ S, S = w4.heap.size := ⟨_, rfl⟩
  obtain ⟨S5, hS5⟩ : ∃ S, S = w5.heap.size := ⟨_, rfl⟩
  rw [← hS3] at hz3 hz4 HA5 HX5 hs3
  rw [← hS4] at hz4 hz5 HX5 HG5 hw4z
  rw [← hS2] at hz3 HA5
  rw [← hS5] at hz5 HG5
  have hSz5 : S5 ≤ w5.heap.size := by omega
  clear hS2 hS3 hS4 hS5 HR3 HR4 R4 hr5 hb2 hb3 hb4 hb5 hw3 hw4
  go_wp2_with fail
  refine (eqR_ans HG5.out HA5.out HF.out).mono ?_; rintro e w6 ⟨rfl, hb6⟩
  have hz6 := hb6.size
  have HA6 := Lib.hid (HA5.out.below hb6 (by omega))
  have HX6 := Lib.hid (HX5.out.below hb6 (by omega))
  have HG6 := Lib.hid (HG5.out.below hb6 (by omega))
  have hw6 : Below w.heap.size w w6 := hw5.trans (hb6.mono hw5.size)
  have hSz6 : S5 ≤ w6.heap.size := by omega
  clear HA5 HX5 HG5 hb6 hw5 hSz5 hz6
  have FM : Hid (FineR M) := Lib.hid (fineR_arg I1.out HN1.out)
  go_wp2_with fail
  refine (toRows_out _ M _ (g1 _ hw6) HN1.out).mono ?_; rintro e w7 ⟨gE, rfl, hr7, hb7⟩
  have hz7 := hb7.size
  have HR7 := Lib.hid hr7
  have HA7 := Lib.hid (HA6.out.below hb7 (by omega))
  have HX7 := Lib.hid (HX6.out.below hb7 (by omega))
  have HG7 := Lib.hid (HG6.out.below hb7 (by omega))
  have hw7 : Below w.heap.size w w7 := hw6.trans (hb7.mono hw6.size)
  have hSz7 : S5 ≤ w7.heap.size := by omega
  clear HA6 HX6 HG6 hb7 hw6 hr7 hSz6 hz7
  go_wp2_with fail
  refine (eqR_ans HX7.out HR7.out FM.out).mono ?_; rintro e w8 ⟨rfl, hb8⟩
  have hz8 := hb8.size
  have HA8 := Lib.hid (HA7.out.below hb8 (by omega))
  have HX8 := Lib.hid (HX7.out.below hb8 (by omega))
  have HG8 := Lib.hid (HG7.out.below hb8 (by omega))
  have hw8 : Below w.heap.size w w8 := hw7.trans (hb8.mono hw7.size)
  have hSz8 : S5 ≤ w8.heap.size := by omega
  clear HA7 HX7 HG7 HR7 hb8 hw7 hSz7 hz8
  have hslM := sizeR_le FM.out
  generalize hsgM : sizeR M = szM at hslM
  have HSGM := Lib.hid hsgM
  clear hsgM
  go_wp2_with fail
  refine (markR_ans HX8.out FM.out).mono ?_; rw [HSGM.out]; rintro e w9 ⟨rfl, hm9, hbt9⟩
  have hz9 := hbt9.size
  have HA9 := Lib.hid (HA8.out.bet hbt9 (.inl (Nat.le_refl _)))
  have HG9 := Lib.hid (HG8.out.bet hbt9 (.inr (Nat.le_refl _)))
  have hw9 : Below w.heap.size w w9 := hw8.trans ((hbt9.below (by omega)).mono (by omega))
  have hSz9 : S5 ≤ w9.heap.size := by omega
  clear HA8 HX8 HG8 hm9 hbt9 hw8 hSz8 hz9
  go_wp2_with fail
  refine (eqR_ans HG9.out HA9.out HF.out).mono ?_; rintro e w10 ⟨rfl, hb10⟩
  have hz10 := hb10.size
  have HA10 := Lib.hid (HA9.out.below hb10 (by omega))
  have HG10 := Lib.hid (HG9.out.below hb10 (by omega))
  have hw10 : Below w.heap.size w w10 := hw9.trans (hb10.mono hw9.size)
  have hSz10 : S5 ≤ w10.heap.size := by omega
  clear HA9 HG9 hb10 hw9 hSz9 hz10
  have hsl := sizeR_le HF.out
  generalize hsg : sizeR O = sz at hsl
  have HSG := Lib.hid hsg
  clear hsg
  go_wp2_with fail
  refine (markR_ans HG10.out HF.out).mono ?_; rw [HSG.out]; rintro e w11 ⟨rfl, hm11, hbt11⟩
  have hz11 := hbt11.size
  have HA11 := Lib.hid (HA10.out.bet hbt11 (.inl hz4))
  have HM11 := Lib.hid hm11
  have hw11 : Below w.heap.size w w11 := hw10.trans ((hbt11.below (by omega)).mono (by omega))
  have hSz11 : S5 ≤ w11.heap.size := by omega
  clear HA10 HG10 hm11 hbt11 hw10 hSz10 hz11
  go_wp2_with fail
  refine (heldR_ans HM11.out HF.out).mono ?_; rw [HSG.out]; rintro e w12 ⟨rfl, hb12⟩
  have hz12 := hb12.size
  have HM12 := Lib.hid (HM11.out.below hb12 (by omega))
  have HA12 := Lib.hid (HA11.out.below hb12 (by omega))
  have hw12 : Below w.heap.size w w12 := hw11.trans (hb12.mono hw11.size)
  have hSz12 : S5 ≤ w12.heap.size := by omega
  clear HA11 HM11 hb12 hw11 hSz11 hz12
  go_wp2_with fail
  refine (toRows_out _ M _ (g1 _ hw12) HN1.out).mono ?_; rintro e w13 ⟨gF, rfl, hr13, hb13⟩
  have hz13 := hb13.size
  have R13 := Lib.hid (hr13.rows I1.out)
  have HM13 := Lib.hid (HM12.out.below hb13 (by omega))
  have HA13 := Lib.hid (HA12.out.below hb13 (by omega))
  have hw13 : Below w.heap.size w w13 := hw12.trans (hb13.mono hw12.size)
  have hSz13 : S5 ≤ w13.heap.size := by omega
  clear HA12 HM12 hb13 hw12 hSz12 hz13 hr13
  go_wp2_with fail
  refine (HI.out _ _ R13.out).mono ?_; rintro e w14 ho14; obtain ⟨a14, c14, rfl, hr14, hb14⟩ := ho14.out; clear ho14; dsimp only at hr14; dsimp only
  have hz14 := hb14.size
  have HM14 := Lib.hid (HM13.out.below hb14 (by omega))
  have HA14 := Lib.hid (HA13.out.below hb14 (by omega))
  have HH14 := Lib.hid hr14
  have hw14 : Below w.heap.size w w14 := hw13.trans (hb14.mono hw13.size)
  have hSz14 : S5 ≤ w14.heap.size := by omega
  clear HA13 HM13 hb14 hw13 hSz13 hz14 hr14 R13
  go_wp2_with fail
  refine (eqR_ans HH14.out HA14.out HF.out).mono ?_; rintro e w15 ⟨rfl, hb15⟩
  have HM15 := Lib.hid (HM14.out.below hb15 (by omega))
  have hw15 : Below w.heap.size w w15 := hw14.trans (hb15.mono hw14.size)
  clear HA14 HM14 HH14 hb15 hw14
  go_wp2_with fail
  refine (heldR_ans HM15.out HF.out).mono ?_; rw [HSG.out]; rintro e w16 ⟨rfl, hb16⟩
  have hw16 : Below w.heap.size w w16 := hw15.trans (hb16.mono hw15.size)
  go_wp2_with fail
  go_ret
  exact ⟨rfl, hw16⟩
theorem specComparisonOf_any (m : Value) (M : List (List Int)) (w : World) (h1 : PM.Rows w m M) : Calls Try.prog 37 #[m] w (OutR w (matOut cmpG M)) := by
  cases hM : matB M
  · rw [matOut_err hM]
    have HS := Lib.hid (l03Set0_any m M w h1)
    obtain ⟨a1, c1, rfl, _⟩ := h1
    have HM := Lib.hid hM
    clear hM
    go_enter Try.func37, Try.ntmps37
    go_wp2_with fail
    refine HS.out.mono ?_; rw [HM.out]; rintro e w1 ⟨rfl, rfl⟩
    go_wp2_with fail
    go_ret2
    exact outR_err _ _ _ (by (repeat' (first | (with_reducible exact Below.refl _ _) | (with_reducible assumption) | (with_reducible refine Below.alloc ?_ ?_ _) | (with_reducible refine Below.drew ?_) | (with_reducible refine below_drewN ?_ _) | (with_reducible refine Below.setCell ?_ ?_ _) | (with_reducible refine Below.trans ?_ (Below.mono (by with_reducible assumption) ?_)) | (with_reducible exact Below.size (by with_reducible assumption)) | go_size)))
  · rw [matOut_ok hM]
    have HS := Lib.hid (l03Set0_any m M w h1)
    obtain ⟨f1, f2, f3, f4⟩ := matB_facts hM
    have HT := Lib.hid (l03Comparison_any m M w h1 f1 f2 f3 f4)
    obtain ⟨a1, c1, rfl, _⟩ := h1
    have HM := Lib.hid hM
    clear hM f3 f4
    go_enter Try.func37, Try.ntmps37
    go_wp2_with fail
    refine HS.out.mono ?_; rw [HM.out]; rintro e w1 ⟨rfl, rfl⟩
    go_wp2_with fail
    refine HT.out.mono ?_; rintro e w2 ⟨g, cap, us, rfl, hf, hb2⟩
    have HF := Lib.hid hf
    clear hf
    go_wp2_with fail
    go_ret2
    exact ⟨_, us, rfl, HF.out.ownRs, hb2⟩
theorem implComparisonOf_any (m : Value) (M : List (List Int)) (w : World) (h1 : PM.Rows w m M) : Calls Try.prog 38 #[m] w (OutR w (matOut cmpG M)) := by
  have HS := Lib.hid (implIsMatrix_any m M w h1)
  cases hM : matB M
  · rw [matOut_err hM]
    obtain ⟨a1, c1, rfl, _⟩ := h1
    have HM := Lib.hid hM
    clear hM
    go_enter Try.func38, Try.ntmps38
    go_wp2_with fail
    refine HS.out.mono ?_; rw [HM.out]; rintro e w1 ⟨rfl, rfl⟩
    go_wp2_with fail
    go_ret2
    exact outR_err _ _ _ (by (repeat' (first | (with_reducible exact Below.refl _ _) | (with_reducible assumption) | (with_reducible refine Below.alloc ?_ ?_ _) | (with_reducible refine Below.drew ?_) | (with_reducible refine below_drewN ?_ _) | (with_reducible refine Below.setCell ?_ ?_ _) | (with_reducible refine Below.trans ?_ (Below.mono (by with_reducible assumption) ?_)) | (with_reducible exact Below.size (by with_reducible assumption)) | go_size)))
  · rw [matOut_ok hM]
    obtain ⟨f1, f2, f3, f4⟩ := matB_facts hM
    have HT := Lib.hid (implCmp_any m M w h1 f1 f2 f3 f4)
    obtain ⟨a1, c1, rfl, _⟩ := h1
    have HM := Lib.hid hM
    clear hM f3 f4
    go_enter Try.func38, Try.ntmps38
    go_wp2_with fail
    refine HS.out.mono ?_; rw [HM.out]; rintro e w1 ⟨rfl, rfl⟩
    go_wp2_with fail
    refine HT.out.mono ?_; rintro e w2 ⟨g, us, rfl, hf, hb2⟩
    have HF := Lib.hid hf
    clear hf
    go_wp2_with fail
    go_ret2
    exact ⟨_, us, rfl, HF.out.ownRs, hb2⟩
set_option maxHeartbeats 4000000 in
theorem law_FnExactComparisonOf (m : Value) (M : List (List Int)) (w : World) (h1 : PM.Rows w m M) :
    Calls Try.prog 9 #[m] w fun e w' => e = .returned (.bool true) ∧ Below w.heap.size w w' := by
  have g1 := fun (w' : World) (h : Below w.heap.size w w') => h1.below h
  have I1 := Lib.hid (rows_I64 h1)
  obtain ⟨a1, c1, rfl, _⟩ := h1
  by_cases hz : szR M 1048576 < 0
  · have e1 := szR_neg hz
    have E1 := Lib.hid e1
    clear hz e1
    go_enter Try.func9, Try.ntmps9
    go_wp2_with fail
    refine (szInt64SS_any _ M _ _ (g1 _ (by (repeat' (first | (with_reducible exact Below.refl _ _) | (with_reducible assumption) | (with_reducible refine Below.alloc ?_ ?_ _) | (with_reducible refine Below.drew ?_) | (with_reducible refine below_drewN ?_ _) | (with_reducible refine Below.setCell ?_ ?_ _) | (with_reducible refine Below.trans ?_ (Below.mono (by with_reducible assumption) ?_)) | (with_reducible exact Below.size (by with_reducible assumption)) | go_size)))) (by omega) (by omega)).mono ?_; rw [E1.out]; rintro e w1 ⟨rfl, rfl⟩
    go_wp2_with fail
    go_ret
    exact ⟨rfl, by (repeat' (first | (with_reducible exact Below.refl _ _) | (with_reducible assumption) | (with_reducible refine Below.alloc ?_ ?_ _) | (with_reducible refine Below.drew ?_) | (with_reducible refine below_drewN ?_ _) | (with_reducible refine Below.setCell ?_ ?_ _) | (with_reducible refine Below.trans ?_ (Below.mono (by with_reducible assumption) ?_)) | (with_reducible exact Below.size (by with_reducible assumption)) | go_size))⟩
  have hle := szR_le M
  have HN1 := Lib.hid (szR_fits hz)
  have hspec := fun (m : Value) (w : World) (h1 : PM.Rows w m M) => specComparisonOf_any m M w h1
  have himpl := fun (m : Value) (w : World) (h1 : PM.Rows w m M) => implComparisonOf_any m M w h1
  have hfine := (matOut_fine cmpG cmpG_I64) M
  generalize (matOut cmpG) M = o at *
  obtain ⟨O, code⟩ := o
  have HS := Lib.hid hspec
  have HI := Lib.hid himpl
  have HF : Hid (FineR O) := Lib.hid hfine
  clear hfine
  clear hspec himpl
  go_enter Try.func9, Try.ntmps9
  go_wp2_with fail
  refine (szInt64SS_any _ M _ _ (g1 _ (by (repeat' (first | (with_reducible exact Below.refl _ _) | (with_reducible assumption) | (with_reducible refine Below.alloc ?_ ?_ _) | (with_reducible refine Below.drew ?_) | (with_reducible refine below_drewN ?_ _) | (with_reducible refine Below.setCell ?_ ?_ _) | (with_reducible refine Below.trans ?_ (Below.mono (by with_reducible assumption) ?_)) | (with_reducible exact Below.size (by with_reducible assumption)) | go_size)))) (by omega) (by omega)).mono ?_; rintro e w1 ⟨rfl, rfl⟩
  generalize szR M 1048576 = left at *
  go_wp2_with fail
  refine (toRows_out _ M _ (g1 _ (by (repeat' (first | (with_reducible exact Below.refl _ _) | (with_reducible assumption) | (with_reducible refine Below.alloc ?_ ?_ _) | (with_reducible refine Below.drew ?_) | (with_reducible refine below_drewN ?_ _) | (with_reducible refine Below.setCell ?_ ?_ _) | (with_reducible refine Below.trans ?_ (Below.mono (by with_reducible assumption) ?_)) | (with_reducible exact Below.size (by with_reducible assumption)) | go_size)))) HN1.out).mono ?_; rintro e w2 ⟨gA, rfl, hr2, hb2⟩
  have R2 := Lib.hid (hr2.rows I1.out)
  clear hr2

  go_wp2_with fail
  refine (HS.out _ _ R2.out).mono ?_; rintro e w3 ho3; obtain ⟨a3, c3, rfl, hr3, hb3⟩ := ho3.out; clear ho3; dsimp only at hr3; dsimp only
  have HR3 := Lib.hid hr3
  have hw3 : Below w.heap.size w w3 := hb2.trans (hb3.mono hb2.size)
  have hz3 := hb3.size
  clear R2 HS hr3
  go_wp2_with fail
  refine (toRows_out _ M _ (g1 _ hw3) HN1.out).mono ?_; rintro e w4 ⟨gC, rfl, hr4, hb4⟩
  have R4 := Lib.hid (hr4.rows I1.out)
  have HR4 := Lib.hid hr4
  have hw4 : Below w.heap.size w w4 := hw3.trans (hb4.mono hw3.size)
  have hz4 := hb4.size
  have hw4z := hw4.size
  clear hr4
  go_wp2_with fail
  refine (HI.out _ _ R4.out).mono ?_; rintro e w5 ho5; obtain ⟨a5, c5, rfl, hr5, hb5⟩ := ho5.out; clear ho5; dsimp only at hr5; dsimp only
  have hw5 : Below w.heap.size w w5 := hw4.trans (hb5.mono hw4.size)
  have hz5 := hb5.size
  have HA5 := Lib.hid ((HR3.out.below hb4 (Nat.le_refl _)).below hb5 hz4)
  have HX5 := Lib.hid (HR4.out.below hb5 (Nat.le_refl _))
  have HG5 := Lib.hid hr5
  have hs3 : w.heap.size ≤ w3.heap.size := hw3.size
  obtain ⟨S2, hS2⟩ : ∃ S, S = w2.heap.size := ⟨_, rfl⟩
  obtain ⟨S3, hS3⟩ : ∃ S, S = w3.heap.size := ⟨_, rfl⟩
  obtain ⟨S4, hS4⟩ : ∃ S, S = w4.heap.size := ⟨_, rfl⟩
  obtain ⟨S5, hS5⟩ : ∃ S, S = w5.heap.size := ⟨_, rfl⟩
  rw [← hS3] at hz3 hz4 HA5 HX5 hs3
  rw [← hS4] at hz4 hz5 HX5 HG5 hw4z
  rw [← hS2] at hz3 HA5
  rw [← hS5] at hz5 HG5
  have hSz5 : S5 ≤ w5.heap.size := by omega
  clear hS2 hS3 hS4 hS5 HR3 HR4 R4 hr5 hb2 hb3 hb4 hb5 hw3 hw4
  go_wp2_with fail
  refine (eqR_ans HG5.out HA5.out HF.out).mono ?_; rintro e w6 ⟨rfl, hb6⟩
  have hz6 := hb6.size
  have HA6 := Lib.hid (HA5.out.below hb6 (by omega))
  have HX6 := Lib.hid (HX5.out.below hb6 (by omega))
  have HG6 := Lib.hid (HG5.out.below hb6 (by omega))
  have hw6 : Below w.heap.size w w6 := hw5.trans (hb6.mono hw5.size)
  have hSz6 : S5 ≤ w6.heap.size := by omega
  clear HA5 HX5 HG5 hb6 hw5 hSz5 hz6
  have FM : Hid (FineR M) := Lib.hid (fineR_arg I1.out HN1.out)
  go_wp2_with fail
  refine (toRows_out _ M _ (g1 _ hw6) HN1.out).mono ?_; rintro e w7 ⟨gE, rfl, hr7, hb7⟩
  have hz7 := hb7.size
  have HR7 := Lib.hid hr7
  have HA7 := Lib.hid (HA6.out.below hb7 (by omega))
  have HX7 := Lib.hid (HX6.out.below hb7 (by omega))
  have HG7 := Lib.hid (HG6.out.below hb7 (by omega))
  have hw7 : Below w.heap.size w w7 := hw6.trans (hb7.mono hw6.size)
  have hSz7 : S5 ≤ w7.heap.size := by omega
  clear HA6 HX6 HG6 hb7 hw6 hr7 hSz6 hz7
  go_wp2_with fail
  refine (eqR_ans HX7.out HR7.out FM.out).mono ?_; rintro e w8 ⟨rfl, hb8⟩
  have hz8 := hb8.size
  have HA8 := Lib.hid (HA7.out.below hb8 (by omega))
  have HX8 := Lib.hid (HX7.out.below hb8 (by omega))
  have HG8 := Lib.hid (HG7.out.below hb8 (by omega))
  have hw8 : Below w.heap.size w w8 := hw7.trans (hb8.mono hw7.size)
  have hSz8 : S5 ≤ w8.heap.size := by omega
  clear HA7 HX7 HG7 HR7 hb8 hw7 hSz7 hz8
  have hslM := sizeR_le FM.out
  generalize hsgM : sizeR M = szM at hslM
  have HSGM := Lib.hid hsgM
  clear hsgM
  go_wp2_with fail
  refine (markR_ans HX8.out FM.out).mono ?_; rw [HSGM.out]; rintro e w9 ⟨rfl, hm9, hbt9⟩
  have hz9 := hbt9.size
  have HA9 := Lib.hid (HA8.out.bet hbt9 (.inl (Nat.le_refl _)))
  have HG9 := Lib.hid (HG8.out.bet hbt9 (.inr (Nat.le_refl _)))
  have hw9 : Below w.heap.size w w9 := hw8.trans ((hbt9.below (by omega)).mono (by omega))
  have hSz9 : S5 ≤ w9.heap.size := by omega
  clear HA8 HX8 HG8 hm9 hbt9 hw8 hSz8 hz9
  go_wp2_with fail
  refine (eqR_ans HG9.out HA9.out HF.out).mono ?_; rintro e w10 ⟨rfl, hb10⟩
  have hz10 := hb10.size
  have HA10 := Lib.hid (HA9.out.below hb10 (by omega))
  have HG10 := Lib.hid (HG9.out.below hb10 (by omega))
  have hw10 : Below w.heap.size w w10 := hw9.trans (hb10.mono hw9.size)
  have hSz10 : S5 ≤ w10.heap.size := by omega
  clear HA9 HG9 hb10 hw9 hSz9 hz10
  have hsl := sizeR_le HF.out
  generalize hsg : sizeR O = sz at hsl
  have HSG := Lib.hid hsg
  clear hsg
  go_wp2_with fail
  refine (markR_ans HG10.out HF.out).mono ?_; rw [HSG.out]; rintro e w11 ⟨rfl, hm11, hbt11⟩
  have hz11 := hbt11.size
  have HA11 := Lib.hid (HA10.out.bet hbt11 (.inl hz4))
  have HM11 := Lib.hid hm11
  have hw11 : Below w.heap.size w w11 := hw10.trans ((hbt11.below (by omega)).mono (by omega))
  have hSz11 : S5 ≤ w11.heap.size := by omega
  clear HA10 HG10 hm11 hbt11 hw10 hSz10 hz11
  go_wp2_with fail
  refine (heldR_ans HM11.out HF.out).mono ?_; rw [HSG.out]; rintro e w12 ⟨rfl, hb12⟩
  have hz12 := hb12.size
  have HM12 := Lib.hid (HM11.out.below hb12 (by omega))
  have HA12 := Lib.hid (HA11.out.below hb12 (by omega))
  have hw12 : Below w.heap.size w w12 := hw11.trans (hb12.mono hw11.size)
  have hSz12 : S5 ≤ w12.heap.size := by omega
  clear HA11 HM11 hb12 hw11 hSz11 hz12
  go_wp2_with fail
  refine (toRows_out _ M _ (g1 _ hw12) HN1.out).mono ?_; rintro e w13 ⟨gF, rfl, hr13, hb13⟩
  have hz13 := hb13.size
  have R13 := Lib.hid (hr13.rows I1.out)
  have HM13 := Lib.hid (HM12.out.below hb13 (by omega))
  have HA13 := Lib.hid (HA12.out.below hb13 (by omega))
  have hw13 : Below w.heap.size w w13 := hw12.trans (hb13.mono hw12.size)
  have hSz13 : S5 ≤ w13.heap.size := by omega
  clear HA12 HM12 hb13 hw12 hSz12 hz13 hr13
  go_wp2_with fail
  refine (HI.out _ _ R13.out).mono ?_; rintro e w14 ho14; obtain ⟨a14, c14, rfl, hr14, hb14⟩ := ho14.out; clear ho14; dsimp only at hr14; dsimp only
  have hz14 := hb14.size
  have HM14 := Lib.hid (HM13.out.below hb14 (by omega))
  have HA14 := Lib.hid (HA13.out.below hb14 (by omega))
  have HH14 := Lib.hid hr14
  have hw14 : Below w.heap.size w w14 := hw13.trans (hb14.mono hw13.size)
  have hSz14 : S5 ≤ w14.heap.size := by omega
  clear HA13 HM13 hb14 hw13 hSz13 hz14 hr14 R13
  go_wp2_with fail
  refine (eqR_ans HH14.out HA14.out HF.out).mono ?_; rintro e w15 ⟨rfl, hb15⟩
  have HM15 := Lib.hid (HM14.out.below hb15 (by omega))
  have hw15 : Below w.heap.size w w15 := hw14.trans (hb15.mono hw14.size)
  clear HA14 HM14 HH14 hb15 hw14
  go_wp2_with fail
  refine (heldR_ans HM15.out HF.out).mono ?_; rw [HSG.out]; rintro e w16 ⟨rfl, hb16⟩
  have hw16 : Below w.heap.size w w16 := hw15.trans (hb16.mono hw15.size)
  go_wp2_with fail
  go_ret
  exact ⟨rfl, hw16⟩
theorem specSignsOf_any (m : Value) (M : List (List Int)) (w : World) (h1 : PM.Rows w m M) : Calls Try.prog 43 #[m] w (OutR w (matOut sgnG M)) := by
  cases hM : matB M
  · rw [matOut_err hM]
    have HS := Lib.hid (l01Matrix_any m M w h1)
    obtain ⟨a1, c1, rfl, _⟩ := h1
    have HM := Lib.hid hM
    clear hM
    go_enter Try.func43, Try.ntmps43
    go_wp2_with fail
    refine HS.out.mono ?_; rw [HM.out]; rintro e w1 ⟨rfl, rfl⟩
    go_wp2_with fail
    go_ret2
    exact outR_err _ _ _ (by (repeat' (first | (with_reducible exact Below.refl _ _) | (with_reducible assumption) | (with_reducible refine Below.alloc ?_ ?_ _) | (with_reducible refine Below.drew ?_) | (with_reducible refine below_drewN ?_ _) | (with_reducible refine Below.setCell ?_ ?_ _) | (with_reducible refine Below.trans ?_ (Below.mono (by with_reducible assumption) ?_)) | (with_reducible exact Below.size (by with_reducible assumption)) | go_size)))
  · rw [matOut_ok hM]
    obtain ⟨f1, f2, f3, f4⟩ := matB_facts hM
    refine (SignsOf_any m M w h1 f1 f2 f3 f4 hM).mono ?_
    rintro e w2 ⟨g, cap, us, rfl, hf, hb2⟩
    exact ⟨_, us, rfl, hf.ownRs, hb2⟩
theorem implSignsOf_any (m : Value) (M : List (List Int)) (w : World) (h1 : PM.Rows w m M) : Calls Try.prog 44 #[m] w (OutR w (matOut sgnG M)) := by
  obtain ⟨a1, c1, rfl, _⟩ := id h1
  have hB := MBox.new h1
  have HS := Lib.hid (implIsMatrix_any _ M _ hB.rows)
  have hAl : Below w.heap.size w (w.alloc (.cells #[.slice a1 M.length c1] 22)) := (Below.refl _ _).alloc (Nat.le_refl _) _
  cases hM : matB M
  · rw [matOut_err hM]
    have HM := Lib.hid hM
    clear hM hB
    go_enter Try.func44, Try.ntmps44
    go_wp2_with fail
    refine HS.out.mono ?_; rw [HM.out]; rintro e w1 ⟨rfl, rfl⟩
    go_wp2_with fail
    go_ret2
    exact outR_err _ _ _ (by (repeat' (first | (with_reducible exact Below.refl _ _) | (with_reducible assumption) | (with_reducible refine Below.alloc ?_ ?_ _) | (with_reducible refine Below.drew ?_) | (with_reducible refine below_drewN ?_ _) | (with_reducible refine Below.setCell ?_ ?_ _) | (with_reducible refine Below.trans ?_ (Below.mono (by with_reducible assumption) ?_)) | (with_reducible exact Below.size (by with_reducible assumption)) | go_size)))
  · rw [matOut_ok hM]
    obtain ⟨f1, f2, f3, f4⟩ := matB_facts hM
    have hT := sgn_tells hB f2 f3
    have HT := Lib.hid (squareRows_sgn w.heap.size M.length (sgnG M) _ f1 f2 hT)
    have hz := hAl.size
    have HM := Lib.hid hM
    clear hM f3 f4 hT hB
    go_enter Try.func44, Try.ntmps44
    go_wp2_with fail
    refine HS.out.mono ?_; rw [HM.out]; rintro e w1 ⟨rfl, rfl⟩
    go_wp2_with fail
    refine HT.out.mono ?_; rintro e w2 ⟨us, rfl, hf, hb2⟩
    have hf' := hf.mono hz
    have HF := Lib.hid hf'
    clear hf hf'
    go_wp2_with fail
    go_ret2
    exact ⟨_, us, rfl, (by simpa using HF.out.ownRs), hAl.trans (hb2.mono hz)⟩
set_option maxHeartbeats 4000000 in
theorem law_FnExactSignsOf (m : Value) (M : List (List Int)) (w : World) (h1 : PM.Rows w m M) :
    Calls Try.prog 11 #[m] w fun e w' => e = .returned (.bool true) ∧ Below w.heap.size w w' := by
  have g1 := fun (w' : World) (h : Below w.heap.size w w') => h1.below h
  have I1 := Lib.hid (rows_I64 h1)
  obtain ⟨a1, c1, rfl, _⟩ := h1
  by_cases hz : szR M 1048576 < 0
  · have e1 := szR_neg hz
    have E1 := Lib.hid e1
    clear hz e1
    go_enter Try.func11, Try.ntmps11
    go_wp2_with fail
    refine (szInt64SS_any _ M _ _ (g1 _ (by (repeat' (first | (with_reducible exact Below.refl _ _) | (with_reducible assumption) | (with_reducible refine Below.alloc ?_ ?_ _) | (with_reducible refine Below.drew ?_) | (with_reducible refine below_drewN ?_ _) | (with_reducible refine Below.setCell ?_ ?_ _) | (with_reducible refine Below.trans ?_ (Below.mono (by with_reducible assumption) ?_)) | (with_reducible exact Below.size (by with_reducible assumption)) | go_size)))) (by omega) (by omega)).mono ?_; rw [E1.out]; rintro e w1 ⟨rfl, rfl⟩
    go_wp2_with fail
    go_ret
    exact ⟨rfl, by (repeat' (first | (with_reducible exact Below.refl _ _) | (with_reducible assumption) | (with_reducible refine Below.alloc ?_ ?_ _) | (with_reducible refine Below.drew ?_) | (with_reducible refine below_drewN ?_ _) | (with_reducible refine Below.setCell ?_ ?_ _) | (with_reducible refine Below.trans ?_ (Below.mono (by with_reducible assumption) ?_)) | (with_reducible exact Below.size (by with_reducible assumption)) | go_size))⟩
  have hle := szR_le M
  have HN1 := Lib.hid (szR_fits hz)
  have hspec := fun (m : Value) (w : World) (h1 : PM.Rows w m M) => specSignsOf_any m M w h1
  have himpl := fun (m : Value) (w : World) (h1 : PM.Rows w m M) => implSignsOf_any m M w h1
  have hfine := (matOut_fine sgnG sgnG_I64) M
  generalize (matOut sgnG) M = o at *
  obtain ⟨O, code⟩ := o
  have HS := Lib.hid hspec
  have HI := Lib.hid himpl
  have HF : Hid (FineR O) := Lib.hid hfine
  clear hfine
  clear hspec himpl
  go_enter Try.func11, Try.ntmps11
  go_wp2_with fail
  refine (szInt64SS_any _ M _ _ (g1 _ (by (repeat' (first | (with_reducible exact Below.refl _ _) | (with_reducible assumption) | (with_reducible refine Below.alloc ?_ ?_ _) | (with_reducible refine Below.drew ?_) | (with_reducible refine below_drewN ?_ _) | (with_reducible refine Below.setCell ?_ ?_ _) | (with_reducible refine Below.trans ?_ (Below.mono (by with_reducible assumption) ?_)) | (with_reducible exact Below.size (by with_reducible assumption)) | go_size)))) (by omega) (by omega)).mono ?_; rintro e w1 ⟨rfl, rfl⟩
  generalize szR M 1048576 = left at *
  go_wp2_with fail
  refine (toRows_out _ M _ (g1 _ (by (repeat' (first | (with_reducible exact Below.refl _ _) | (with_reducible assumption) | (with_reducible refine Below.alloc ?_ ?_ _) | (with_reducible refine Below.drew ?_) | (with_reducible refine below_drewN ?_ _) | (with_reducible refine Below.setCell ?_ ?_ _) | (with_reducible refine Below.trans ?_ (Below.mono (by with_reducible assumption) ?_)) | (with_reducible exact Below.size (by with_reducible assumption)) | go_size)))) HN1.out).mono ?_; rintro e w2 ⟨gA, rfl, hr2, hb2⟩
  have R2 := Lib.hid (hr2.rows I1.out)
  clear hr2

  go_wp2_with fail
  refine (HS.out _ _ R2.out).mono ?_; rintro e w3 ho3; obtain ⟨a3, c3, rfl, hr3, hb3⟩ := ho3.out; clear ho3; dsimp only at hr3; dsimp only
  have HR3 := Lib.hid hr3
  have hw3 : Below w.heap.size w w3 := hb2.trans (hb3.mono hb2.size)
  have hz3 := hb3.size
  clear R2 HS hr3
  go_wp2_with fail
  refine (toRows_out _ M _ (g1 _ hw3) HN1.out).mono ?_; rintro e w4 ⟨gC, rfl, hr4, hb4⟩
  have R4 := Lib.hid (hr4.rows I1.out)
  have HR4 := Lib.hid hr4
  have hw4 : Below w.heap.size w w4 := hw3.trans (hb4.mono hw3.size)
  have hz4 := hb4.size
  have hw4z := hw4.size
  clear hr4
  go_wp2_with fail
  refine (HI.out _ _ R4.out).mono ?_; rintro e w5 ho5; obtain ⟨a5, c5, rfl, hr5, hb5⟩ := ho5.out; clear ho5; dsimp only at hr5; dsimp only
  have hw5 : Below w.heap.size w w5 := hw4.trans (hb5.mono hw4.size)
  have hz5 := hb5.size
  have HA5 := Lib.hid ((HR3.out.below hb4 (Nat.le_refl _)).below hb5 hz4)
  have HX5 := Lib.hid (HR4.out.below hb5 (Nat.le_refl _))
  have HG5 := Lib.hid hr5
  have hs3 : w.heap.size ≤ w3.heap.size := hw3.size
  obtain ⟨S2, hS2⟩ : ∃ S, S = w2.heap.size := ⟨_, rfl⟩
  obtain ⟨S3, hS3⟩ : ∃ S, S = w3.heap.size := ⟨_, rfl⟩
  obtain ⟨S4, hS4⟩ : ∃ S, S = w4.heap.size := ⟨_, rfl⟩
  obtain ⟨S5, hS5⟩ : ∃ S, S = w5.heap.size := ⟨_, rfl⟩
  rw [← hS3] at hz3 hz4 HA5 HX5 hs3
  rw [← hS4] at hz4 hz5 HX5 HG5 hw4z
  rw [← hS2] at hz3 HA5
  rw [← hS5] at hz5 HG5
  have hSz5 : S5 ≤ w5.heap.size := by omega
  clear hS2 hS3 hS4 hS5 HR3 HR4 R4 hr5 hb2 hb3 hb4 hb5 hw3 hw4
  go_wp2_with fail
  refine (eqR_ans HG5.out HA5.out HF.out).mono ?_; rintro e w6 ⟨rfl, hb6⟩
  have hz6 := hb6.size
  have HA6 := Lib.hid (HA5.out.below hb6 (by omega))
  have HX6 := Lib.hid (HX5.out.below hb6 (by omega))
  have HG6 := Lib.hid (HG5.out.below hb6 (by omega))
  have hw6 : Below w.heap.size w w6 := hw5.trans (hb6.mono hw5.size)
  have hSz6 : S5 ≤ w6.heap.size := by omega
  clear HA5 HX5 HG5 hb6 hw5 hSz5 hz6
  have FM : Hid (FineR M) := Lib.hid (fineR_arg I1.out HN1.out)
  go_wp2_with fail
  refine (toRows_out _ M _ (g1 _ hw6) HN1.out).mono ?_; rintro e w7 ⟨gE, rfl, hr7, hb7⟩
  have hz7 := hb7.size
  have HR7 := Lib.hid hr7
  have HA7 := Lib.hid (HA6.out.below hb7 (by omega))
  have HX7 := Lib.hid (HX6.out.below hb7 (by omega))
  have HG7 := Lib.hid (HG6.out.below hb7 (by omega))
  have hw7 : Below w.heap.size w w7 := hw6.trans (hb7.mono hw6.size)
  have hSz7 : S5 ≤ w7.heap.size := by omega
  clear HA6 HX6 HG6 hb7 hw6 hr7 hSz6 hz7
  go_wp2_with fail
  refine (eqR_ans HX7.out HR7.out FM.out).mono ?_; rintro e w8 ⟨rfl, hb8⟩
  have hz8 := hb8.size
  have HA8 := Lib.hid (HA7.out.below hb8 (by omega))
  have HX8 := Lib.hid (HX7.out.below hb8 (by omega))
  have HG8 := Lib.hid (HG7.out.below hb8 (by omega))
  have hw8 : Below w.heap.size w w8 := hw7.trans (hb8.mono hw7.size)
  have hSz8 : S5 ≤ w8.heap.size := by omega
  clear HA7 HX7 HG7 HR7 hb8 hw7 hSz7 hz8
  have hslM := sizeR_le FM.out
  generalize hsgM : sizeR M = szM at hslM
  have HSGM := Lib.hid hsgM
  clear hsgM
  go_wp2_with fail
  refine (markR_ans HX8.out FM.out).mono ?_; rw [HSGM.out]; rintro e w9 ⟨rfl, hm9, hbt9⟩
  have hz9 := hbt9.size
  have HA9 := Lib.hid (HA8.out.bet hbt9 (.inl (Nat.le_refl _)))
  have HG9 := Lib.hid (HG8.out.bet hbt9 (.inr (Nat.le_refl _)))
  have hw9 : Below w.heap.size w w9 := hw8.trans ((hbt9.below (by omega)).mono (by omega))
  have hSz9 : S5 ≤ w9.heap.size := by omega
  clear HA8 HX8 HG8 hm9 hbt9 hw8 hSz8 hz9
  go_wp2_with fail
  refine (eqR_ans HG9.out HA9.out HF.out).mono ?_; rintro e w10 ⟨rfl, hb10⟩
  have hz10 := hb10.size
  have HA10 := Lib.hid (HA9.out.below hb10 (by omega))
  have HG10 := Lib.hid (HG9.out.below hb10 (by omega))
  have hw10 : Below w.heap.size w w10 := hw9.trans (hb10.mono hw9.size)
  have hSz10 : S5 ≤ w10.heap.size := by omega
  clear HA9 HG9 hb10 hw9 hSz9 hz10
  have hsl := sizeR_le HF.out
  generalize hsg : sizeR O = sz at hsl
  have HSG := Lib.hid hsg
  clear hsg
  go_wp2_with fail
  refine (markR_ans HG10.out HF.out).mono ?_; rw [HSG.out]; rintro e w11 ⟨rfl, hm11, hbt11⟩
  have hz11 := hbt11.size
  have HA11 := Lib.hid (HA10.out.bet hbt11 (.inl hz4))
  have HM11 := Lib.hid hm11
  have hw11 : Below w.heap.size w w11 := hw10.trans ((hbt11.below (by omega)).mono (by omega))
  have hSz11 : S5 ≤ w11.heap.size := by omega
  clear HA10 HG10 hm11 hbt11 hw10 hSz10 hz11
  go_wp2_with fail
  refine (heldR_ans HM11.out HF.out).mono ?_; rw [HSG.out]; rintro e w12 ⟨rfl, hb12⟩
  have hz12 := hb12.size
  have HM12 := Lib.hid (HM11.out.below hb12 (by omega))
  have HA12 := Lib.hid (HA11.out.below hb12 (by omega))
  have hw12 : Below w.heap.size w w12 := hw11.trans (hb12.mono hw11.size)
  have hSz12 : S5 ≤ w12.heap.size := by omega
  clear HA11 HM11 hb12 hw11 hSz11 hz12
  go_wp2_with fail
  refine (toRows_out _ M _ (g1 _ hw12) HN1.out).mono ?_; rintro e w13 ⟨gF, rfl, hr13, hb13⟩
  have hz13 := hb13.size
  have R13 := Lib.hid (hr13.rows I1.out)
  have HM13 := Lib.hid (HM12.out.below hb13 (by omega))
  have HA13 := Lib.hid (HA12.out.below hb13 (by omega))
  have hw13 : Below w.heap.size w w13 := hw12.trans (hb13.mono hw12.size)
  have hSz13 : S5 ≤ w13.heap.size := by omega
  clear HA12 HM12 hb13 hw12 hSz12 hz13 hr13
  go_wp2_with fail
  refine (HI.out _ _ R13.out).mono ?_; rintro e w14 ho14; obtain ⟨a14, c14, rfl, hr14, hb14⟩ := ho14.out; clear ho14; dsimp only at hr14; dsimp only
  have hz14 := hb14.size
  have HM14 := Lib.hid (HM13.out.below hb14 (by omega))
  have HA14 := Lib.hid (HA13.out.below hb14 (by omega))
  have HH14 := Lib.hid hr14
  have hw14 : Below w.heap.size w w14 := hw13.trans (hb14.mono hw13.size)
  have hSz14 : S5 ≤ w14.heap.size := by omega
  clear HA13 HM13 hb14 hw13 hSz13 hz14 hr14 R13
  go_wp2_with fail
  refine (eqR_ans HH14.out HA14.out HF.out).mono ?_; rintro e w15 ⟨rfl, hb15⟩
  have HM15 := Lib.hid (HM14.out.below hb15 (by omega))
  have hw15 : Below w.heap.size w w15 := hw14.trans (hb15.mono hw14.size)
  clear HA14 HM14 HH14 hb15 hw14
  go_wp2_with fail
  refine (heldR_ans HM15.out HF.out).mono ?_; rw [HSG.out]; rintro e w16 ⟨rfl, hb16⟩
  have hw16 : Below w.heap.size w w16 := hw15.trans (hb16.mono hw15.size)
  go_wp2_with fail
  go_ret
  exact ⟨rfl, hw16⟩
end Go.Proofs.Ytillndnamechdaa.PW
