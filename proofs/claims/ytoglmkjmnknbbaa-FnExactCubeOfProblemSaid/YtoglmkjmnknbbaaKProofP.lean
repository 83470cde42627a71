/-
  The exact law of CubeOfProblem holds of whatever input: the law's Go function returns true, and its arguments read afterwards as before. No further condition.
-/
import Derived.Test.YtoglmkjmnknbbaaKCos
import Derived.Test.YtoglmkjmnknbbaaCAns
import Derived.Test.YtoglmkjmnknbbaaPProb
import Derived.Test.YtoglmkjmnknbbaaPFrame
namespace Go.Proofs.Ytoglmkjmnknbbaa.PW
open Go.RowKit Go.Proofs.Ytoglmkjmnknbbaa
open Go.Proofs.Ytoglmkjmnknbbaa.PM
theorem fine_cp (M : List (List Int)) (Q : List Int) : FineC (cpOut M Q).1 := by
  by_cases hp : isPB M Q = true
  · cases hb : cpB M Q
    · unfold cpOut
      rw [if_pos hp, if_neg (by rw [hb]; exact Bool.noConfusion)]
      exact ⟨fineI_nil⟩
    · unfold cpOut
      rw [if_pos hp, if_pos hb]
      obtain ⟨_, f2, _⟩ := isPB_facts hp
      have h5 : (2 : Nat) ^ M.length ≤ 2 ^ 5 := Nat.pow_le_pow_right (show 0 < 2 by omega) f2
      have h6 : (2 : Int) ^ M.length = ((2 ^ M.length : Nat) : Int) := by rw [Int.natCast_pow]; rfl
      refine ⟨⟨fun x hx => ?_, by show (mskL M Q).length ≤ _; unfold mskL; simp; omega⟩⟩
      obtain ⟨j, _, rfl⟩ := List.mem_map.1 hx
      obtain ⟨h0, h1⟩ := mskTo_bd (negP M Q j) M.length
      unfold mskS I64
      omega
  · rw [cpOut_no (by simpa using hp)]
    exact ⟨fineI_nil⟩
set_option maxHeartbeats 2000000 in
theorem law_FnExactCubeOfProblem (m q : Value) (M : List (List Int)) (Q : List Int) (w : World) (h1 : PM.Rows w m M) (h2 : Ints w q Q) :
    Calls Try.prog 10 #[.agg #[m, q]] w fun e w' => e = .returned (.bool true) ∧ Below w.heap.size w w' := by
  have g1 := fun (w' : World) (h : Below w.heap.size w w') => h1.below h
  have g2 := fun (w' : World) (h : Below w.heap.size w w') => h2.below h
  have I1 := Lib.hid (rows_I64 h1)
  have I2 := Lib.hid (ints_I64 h2)
  obtain ⟨a1, c1, rfl, _⟩ := h1
  obtain ⟨a2, c2, rfl, _⟩ := h2
  by_cases hz : szP M Q 1048576 < 0
  · have e1 := szP_neg hz
    have E1 := Lib.hid e1
    clear hz e1
    go_enter Try.func10, Try.ntmps10
    go_wp2_with fail
    refine (szProblem_any _ _ M Q _ (g1 _ (by (repeat' (first | (with_reducible exact Below.refl _ _) | (with_reducible assumption) | (with_reducible refine Below.alloc ?_ ?_ _) | (with_reducible refine Below.drew ?_) | (with_reducible refine below_drewN ?_ _) | (with_reducible refine Below.setCell ?_ ?_ _) | (with_reducible refine Below.trans ?_ (Below.mono (by with_reducible assumption) ?_)) | (with_reducible exact Below.size (by with_reducible assumption)) | go_size)))) (g2 _ (by (repeat' (first | (with_reducible exact Below.refl _ _) | (with_reducible assumption) | (with_reducible refine Below.alloc ?_ ?_ _) | (with_reducible refine Below.drew ?_) | (with_reducible refine below_drewN ?_ _) | (with_reducible refine Below.setCell ?_ ?_ _) | (with_reducible refine Below.trans ?_ (Below.mono (by with_reducible assumption) ?_)) | (with_reducible exact Below.size (by with_reducible assumption)) | go_size))))).mono ?_; rw [E1.out]; rintro e w1 ⟨rfl, hb1⟩; obtain ⟨hc_hb1, hf_hb1⟩ := bcell hb1; obtain ⟨hcA_hb1, hfA_hb1⟩ := bcellG (W0 := w) hb1 (by (repeat' (first | (with_reducible exact Below.refl _ _) | (with_reducible assumption) | (with_reducible refine Below.alloc ?_ ?_ _) | (with_reducible refine Below.drew ?_) | (with_reducible refine below_drewN ?_ _) | (with_reducible refine Below.setCell ?_ ?_ _) | (with_reducible refine Below.trans ?_ (Below.mono (by with_reducible assumption) ?_)) | (with_reducible exact Below.size (by with_reducible assumption)) | go_size))); have hz_hb1 := hb1.size; (try simp at hz_hb1); (try simp only [Nat.add_one_le_iff] at hz_hb1); have hz0_hb1 : w.heap.size < w1.heap.size := (by omega)
    go_wp2_with fail
    go_ret
    refine ⟨rfl, ?_⟩
    (repeat' (first | (with_reducible exact Below.refl _ _) | (with_reducible assumption) | (with_reducible refine Below.alloc ?_ ?_ _) | (with_reducible refine Below.drew ?_) | (with_reducible refine below_drewN ?_ _) | (with_reducible refine Below.setCell ?_ ?_ _) | (with_reducible refine Below.trans ?_ (Below.mono (by with_reducible assumption) ?_)) | (with_reducible exact Below.size (by with_reducible assumption)) | go_size))
  obtain ⟨hn1, hn2⟩ := szP_fits hz
  have hle := szP_le M Q
  have HN1 := Lib.hid hn1
  have HN2 := Lib.hid hn2
  clear hn1 hn2
  have hspec := fun (m q : Value) (w : World) (h1 : PM.Rows w m M) (h2 : Ints w q Q) => specCubeOfProblem_any m q M Q w h1 h2
  have himpl := fun (m q : Value) (w : World) (h1 : PM.Rows w m M) (h2 : Ints w q Q) => implCubeOfProblem_any m q M Q w h1 h2
  have hfine := fine_cp M Q
  generalize cpOut M Q = o at *
  obtain ⟨⟨DO, QO⟩, code⟩ := o
  have HS := Lib.hid hspec
  have HI := Lib.hid himpl
  have HF := Lib.hid hfine
  clear hspec himpl hfine
  go_enter Try.func10, Try.ntmps10
  go_wp2_with fail
  refine (szProblem_any _ _ M Q _ (g1 _ (by (repeat' (first | (with_reducible exact Below.refl _ _) | (with_reducible assumption) | (with_reducible refine Below.alloc ?_ ?_ _) | (with_reducible refine Below.drew ?_) | (with_reducible refine below_drewN ?_ _) | (with_reducible refine Below.setCell ?_ ?_ _) | (with_reducible refine Below.trans ?_ (Below.mono (by with_reducible assumption) ?_)) | (with_reducible exact Below.size (by with_reducible assumption)) | go_size)))) (g2 _ (by (repeat' (first | (with_reducible exact Below.refl _ _) | (with_reducible assumption) | (with_reducible refine Below.alloc ?_ ?_ _) | (with_reducible refine Below.drew ?_) | (with_reducible refine below_drewN ?_ _) | (with_reducible refine Below.setCell ?_ ?_ _) | (with_reducible refine Below.trans ?_ (Below.mono (by with_reducible assumption) ?_)) | (with_reducible exact Below.size (by with_reducible assumption)) | go_size))))).mono ?_; rintro e w1 ⟨rfl, hb1⟩; obtain ⟨hc_hb1, hf_hb1⟩ := bcell hb1; obtain ⟨hcA_hb1, hfA_hb1⟩ := bcellG (W0 := w) hb1 (by (repeat' (first | (with_reducible exact Below.refl _ _) | (with_reducible assumption) | (with_reducible refine Below.alloc ?_ ?_ _) | (with_reducible refine Below.drew ?_) | (with_reducible refine below_drewN ?_ _) | (with_reducible refine Below.setCell ?_ ?_ _) | (with_reducible refine Below.trans ?_ (Below.mono (by with_reducible assumption) ?_)) | (with_reducible exact Below.size (by with_reducible assumption)) | go_size))); have hz_hb1 := hb1.size; (try simp at hz_hb1); (try simp only [Nat.add_one_le_iff] at hz_hb1); have hz0_hb1 : w.heap.size < w1.heap.size := (by omega)
  generalize szP M Q 1048576 = left at *
  have hw1 : Below w.heap.size w w1 := by (repeat' (first | (with_reducible exact Below.refl _ _) | (with_reducible assumption) | (with_reducible refine Below.alloc ?_ ?_ _) | (with_reducible refine Below.drew ?_) | (with_reducible refine below_drewN ?_ _) | (with_reducible refine Below.setCell ?_ ?_ _) | (with_reducible refine Below.trans ?_ (Below.mono (by with_reducible assumption) ?_)) | (with_reducible exact Below.size (by with_reducible assumption)) | go_size))
  go_wp2_with fail
  refine (toProblem_out _ _ M Q _ (g1 _ (by (repeat' (first | (with_reducible exact Below.refl _ _) | (with_reducible assumption) | (with_reducible refine Below.alloc ?_ ?_ _) | (with_reducible refine Below.drew ?_) | (with_reducible refine below_drewN ?_ _) | (with_reducible refine Below.setCell ?_ ?_ _) | (with_reducible refine Below.trans ?_ (Below.mono (by with_reducible assumption) ?_)) | (with_reducible exact Below.size (by with_reducible assumption)) | go_size)))) (g2 _ (by (repeat' (first | (with_reducible exact Below.refl _ _) | (with_reducible assumption) | (with_reducible refine Below.alloc ?_ ?_ _) | (with_reducible refine Below.drew ?_) | (with_reducible refine below_drewN ?_ _) | (with_reducible refine Below.setCell ?_ ?_ _) | (with_reducible refine Below.trans ?_ (Below.mono (by with_reducible assumption) ?_)) | (with_reducible exact Below.size (by with_reducible assumption)) | go_size)))) HN1.out HN2.out).mono ?_; rintro e w2 ⟨gA, gB, us2, rfl, hr2, hb2⟩; obtain ⟨hc_hb2, hf_hb2⟩ := bcell hb2; obtain ⟨hcA_hb2, hfA_hb2⟩ := bcellG (W0 := w1) hb2 (by (repeat' (first | (with_reducible exact Below.refl _ _) | (with_reducible assumption) | (with_reducible refine Below.alloc ?_ ?_ _) | (with_reducible refine Below.drew ?_) | (with_reducible refine below_drewN ?_ _) | (with_reducible refine Below.setCell ?_ ?_ _) | (with_reducible refine Below.trans ?_ (Below.mono (by with_reducible assumption) ?_)) | (with_reducible exact Below.size (by with_reducible assumption)) | go_size))); have hz_hb2 := hb2.size; (try simp at hz_hb2); (try simp only [Nat.add_one_le_iff] at hz_hb2); have hz0_hb2 : w.heap.size < w2.heap.size := (by omega)
  have R2 := Lib.hid (hr2.reads I1.out I2.out)
  clear hr2
  have hw2 : Below w.heap.size w w2 := hw1.trans (hb2.mono hw1.size)
  go_wp2_with fail
  refine (HS.out _ _ _ R2.out.1 R2.out.2).mono ?_; rintro e w3 ho3; obtain ⟨b3, d3, rfl, hr3, hb3⟩ := ho3.out; clear ho3; dsimp only at hr3; dsimp only; obtain ⟨hc_hb3, hf_hb3⟩ := bcell hb3; obtain ⟨hcA_hb3, hfA_hb3⟩ := bcellG (W0 := w2) hb3 (by (repeat' (first | (with_reducible exact Below.refl _ _) | (with_reducible assumption) | (with_reducible refine Below.alloc ?_ ?_ _) | (with_reducible refine Below.drew ?_) | (with_reducible refine below_drewN ?_ _) | (with_reducible refine Below.setCell ?_ ?_ _) | (with_reducible refine Below.trans ?_ (Below.mono (by with_reducible assumption) ?_)) | (with_reducible exact Below.size (by with_reducible assumption)) | go_size))); have hz_hb3 := hb3.size; (try simp at hz_hb3); (try simp only [Nat.add_one_le_iff] at hz_hb3); have hz0_hb3 : w.heap.size < w3.heap.size := (by omega)
  have HR3 := Lib.hid hr3
  clear hr3 R2
  have hw3 : Below w.heap.size w w3 := hw2.trans (hb3.mono hw2.size)
  go_wp2_with fail
  refine (toProblem_out _ _ M Q _ (g1 _ (by (repeat' (first | (with_reducible exact Below.refl _ _) | (with_reducible assumption) | (with_reducible refine Below.alloc ?_ ?_ _) | (with_reducible refine Below.drew ?_) | (with_reducible refine below_drewN ?_ _) | (with_reducible refine Below.setCell ?_ ?_ _) | (with_reducible refine Below.trans ?_ (Below.mono (by with_reducible assumption) ?_)) | (with_reducible exact Below.size (by with_reducible assumption)) | go_size)))) (g2 _ (by (repeat' (first | (with_reducible exact Below.refl _ _) | (with_reducible assumption) | (with_reducible refine Below.alloc ?_ ?_ _) | (with_reducible refine Below.drew ?_) | (with_reducible refine below_drewN ?_ _) | (with_reducible refine Below.setCell ?_ ?_ _) | (with_reducible refine Below.trans ?_ (Below.mono (by with_reducible assumption) ?_)) | (with_reducible exact Below.size (by with_reducible assumption)) | go_size)))) HN1.out HN2.out).mono ?_; rintro e w4 ⟨gC, gD, us4, rfl, hr4, hb4⟩; obtain ⟨hc_hb4, hf_hb4⟩ := bcell hb4; obtain ⟨hcA_hb4, hfA_hb4⟩ := bcellG (W0 := w3) hb4 (by (repeat' (first | (with_reducible exact Below.refl _ _) | (with_reducible assumption) | (with_reducible refine Below.alloc ?_ ?_ _) | (with_reducible refine Below.drew ?_) | (with_reducible refine below_drewN ?_ _) | (with_reducible refine Below.setCell ?_ ?_ _) | (with_reducible refine Below.trans ?_ (Below.mono (by with_reducible assumption) ?_)) | (with_reducible exact Below.size (by with_reducible assumption)) | go_size))); have hz_hb4 := hb4.size; (try simp at hz_hb4); (try simp only [Nat.add_one_le_iff] at hz_hb4); have hz0_hb4 : w.heap.size < w4.heap.size := (by omega)
  have hz34 : w3.heap.size < w4.heap.size := by omega
  have HR4 := Lib.hid hr4
  clear hr4
  have hw34 : Below w3.heap.size w3 w4 := ((Below.refl w3.heap.size w3).alloc (Nat.le_refl _) _).trans (hb4.mono (by simp))
  have hw4 : Below w.heap.size w w4 := hw3.trans (hw34.mono hw3.size)
  have e40 : w4.cell? ⟨w3.heap.size, 0, none⟩ = some (.int .i64 DO) := by rw [hc_hb4 _ _ (by simp)]; simp
  have e41 : w4.cell? ⟨w3.heap.size, 1, none⟩ = some (.slice b3 QO.length d3) := by rw [hc_hb4 _ _ (by simp)]; simp
  go_wp2_with fail
  have hr4a := HR4.out.below (w' := w4.alloc (.cells #[.slice (some ⟨gC, 0, none⟩) M.length M.length, .slice (some ⟨gD, 0, none⟩) Q.length Q.length] 27)) (B := w4.heap.size) ((Below.refl _ _).alloc (Nat.le_refl _) _) (Nat.le_refl _)
  have R4 := Lib.hid (hr4a.reads I1.out I2.out)
  clear hr4a
  refine (HI.out _ _ _ R4.out.1 R4.out.2).mono ?_; rintro e w5 ho5; obtain ⟨b5, d5, rfl, hr5, hb5⟩ := ho5.out; clear ho5; dsimp only at hr5; dsimp only; obtain ⟨hc_hb5, hf_hb5⟩ := bcell hb5; obtain ⟨hcA_hb5, hfA_hb5⟩ := bcellG (W0 := w4) hb5 (by (repeat' (first | (with_reducible exact Below.refl _ _) | (with_reducible assumption) | (with_reducible refine Below.alloc ?_ ?_ _) | (with_reducible refine Below.drew ?_) | (with_reducible refine below_drewN ?_ _) | (with_reducible refine Below.setCell ?_ ?_ _) | (with_reducible refine Below.trans ?_ (Below.mono (by with_reducible assumption) ?_)) | (with_reducible exact Below.size (by with_reducible assumption)) | go_size))); have hz_hb5 := hb5.size; (try simp at hz_hb5); (try simp only [Nat.add_one_le_iff] at hz_hb5); have hz0_hb5 : w.heap.size < w5.heap.size := (by omega)
  have hz45 : w4.heap.size < w5.heap.size := by omega
  have HR5 := Lib.hid hr5
  clear hr5 R4
  have hw45 : Below w4.heap.size w4 w5 := ((Below.refl w4.heap.size w4).alloc (Nat.le_refl _) _).trans (hb5.mono (by simp))
  have hz35 : w3.heap.size < w5.heap.size := by omega
  have e50 : w5.cell? ⟨w3.heap.size, 0, none⟩ = some (.int .i64 DO) := (hw45.cell (p := ⟨w3.heap.size, 0, none⟩) hz34).trans e40
  have e51 : w5.cell? ⟨w3.heap.size, 1, none⟩ = some (.slice b3 QO.length d3) := (hw45.cell (p := ⟨w3.heap.size, 1, none⟩) hz34).trans e41
  have x50 : w5.cell? ⟨w4.heap.size, 0, none⟩ = some (.slice (some ⟨gC, 0, none⟩) M.length M.length) := by rw [hc_hb5 _ _ (by simp)]; simp
  have x51 : w5.cell? ⟨w4.heap.size, 1, none⟩ = some (.slice (some ⟨gD, 0, none⟩) Q.length Q.length) := by rw [hc_hb5 _ _ (by simp)]; simp
  go_wp2_with fail
  obtain ⟨W6, hW6⟩ : ∃ W6, W6 = w5.alloc (.cells #[.int .i64 DO, .slice b5 QO.length d5] 59) := ⟨_, rfl⟩
  rw [← hW6]
  have hz6 : w5.heap.size + 1 = W6.heap.size := by rw [hW6]; simp
  have hW56 : Below w5.heap.size w5 W6 := by rw [hW6]; exact (Below.refl _ _).alloc (Nat.le_refl _) _
  have hw13 : Below w1.heap.size w1 w3 := hb2.trans (hb3.mono hb2.size)
  have hw14 : Below w1.heap.size w1 w4 := hw13.trans (hw34.mono hw13.size)
  have hw15 : Below w1.heap.size w1 w5 := hw14.trans (hw45.mono hw14.size)
  have hw16 : Below w1.heap.size w1 W6 := hw15.trans (hW56.mono hw15.size)
  have hw35 : Below w3.heap.size w3 w5 := hw34.trans (hw45.mono hw34.size)
  have hw36 : Below w3.heap.size w3 W6 := hw35.trans (hW56.mono hw35.size)
  have hw46 : Below w4.heap.size w4 W6 := hw45.trans (hW56.mono hw45.size)
  have hw6 : Below w.heap.size w W6 := hw3.trans (hw36.mono hw3.size)
  have p10 : w1.cell? ⟨w.heap.size, 0, none⟩ = some (.slice a1 M.length c1) := by rw [hc_hb1 _ _ (by simp)]; simp
  have p11 : w1.cell? ⟨w.heap.size, 1, none⟩ = some (.slice a2 Q.length c2) := by rw [hc_hb1 _ _ (by simp)]; simp
  have hl1 : w.heap.size < w3.heap.size := by omega
  have hvs : Vs W6 w.heap.size w3.heap.size w5.heap.size (.slice a1 M.length c1) (.slice a2 Q.length c2) (.int .i64 DO) (.slice b3 QO.length d3) (.int .i64 DO) (.slice b5 QO.length d5) :=
    ⟨(hw16.cell (p := ⟨w.heap.size, 0, none⟩) hz0_hb1).trans p10, (hw16.cell (p := ⟨w.heap.size, 1, none⟩) hz0_hb1).trans p11, (hW56.cell (p := ⟨w3.heap.size, 0, none⟩) hz35).trans e50, (hW56.cell (p := ⟨w3.heap.size, 1, none⟩) hz35).trans e51, by rw [hW6]; simp, by rw [hW6]; simp, by omega, by omega, by omega⟩
  have hx0 : W6.cell? ⟨w4.heap.size, 0, none⟩ = some (.slice (some ⟨gC, 0, none⟩) M.length M.length) := (hW56.cell (p := ⟨w4.heap.size, 0, none⟩) hz45).trans x50
  have hx1 : W6.cell? ⟨w4.heap.size, 1, none⟩ = some (.slice (some ⟨gD, 0, none⟩) Q.length Q.length) := (hW56.cell (p := ⟨w4.heap.size, 1, none⟩) hz45).trans x51
  have hA6 := HR3.out.below (hw36) (Nat.le_refl _)
  have hX6 := HR4.out.below (hw46) (Nat.le_refl _)
  have hG6 := HR5.out.below (hW56) (Nat.le_refl _)
  rw [show (w3.alloc (.cells #[.int .i64 DO, .slice b3 QO.length d3] 59)).heap.size = w3.heap.size + 1 by simp] at hX6
  rw [show (w4.alloc (.cells #[.slice (some ⟨gC, 0, none⟩) M.length M.length, .slice (some ⟨gD, 0, none⟩) Q.length Q.length] 27)).heap.size = w4.heap.size + 1 by simp] at hG6
  obtain ⟨P, hP⟩ : ∃ P, P = w.heap.size := ⟨_, rfl⟩
  obtain ⟨V0, hV0⟩ : ∃ V0, V0 = w3.heap.size := ⟨_, rfl⟩
  obtain ⟨V1, hV1⟩ : ∃ V1, V1 = w4.heap.size := ⟨_, rfl⟩
  obtain ⟨V2, hV2⟩ : ∃ V2, V2 = w5.heap.size := ⟨_, rfl⟩
  obtain ⟨V3, hV3⟩ : ∃ V3, V3 = w2.heap.size := ⟨_, rfl⟩
  rw [← hP] at hvs hl1
  rw [← hV0] at hvs hA6 hX6 hz34 hl1
  rw [← hV1] at hx0 hx1 hX6 hG6 hz34 hz45
  rw [← hV2] at hvs hG6 hz6 hz45
  rw [← hV3] at hA6
  rw [← hP, ← hV0, ← hV1, ← hV2]
  have hPw : P ≤ w.heap.size := by omega
  have hwP : w.heap.size ≤ P := by omega
  clear hP hV0 hV1 hV2 hV3 hW6 hW56 hw13 hw14 hw15 hw16 hw35 hw36 hw46 p10 p11 e40 e41 e50 e51 x50 x51 hz35 HR3 HR4 HR5 hw1 hw2 hw3 hw34 hw4 hw45
  clear hc_hb1 hf_hb1 hcA_hb1 hfA_hb1 hz_hb1 hz0_hb1 hb1 hc_hb2 hf_hb2 hcA_hb2 hfA_hb2 hz_hb2 hz0_hb2 hb2 hc_hb3 hf_hb3 hcA_hb3 hfA_hb3 hz_hb3 hz0_hb3 hb3 hc_hb4 hf_hb4 hcA_hb4 hfA_hb4 hz_hb4 hz0_hb4 hb4 hc_hb5 hf_hb5 hcA_hb5 hfA_hb5 hz_hb5 hz0_hb5 hb5
  clear w1 w2 w3 w4 w5
  have hf2 := HF.out.list.m64
  have hf4 := HF.out.list.len
  dsimp only at hf2 hf4
  have F2 := Lib.hid hf2
  have F4 := Lib.hid hf4
  clear hf2 hf4 HF HS
  refine (eqCube_same DO _ _ QO _ (hG6.own.ints F2.out) (hA6.own.ints F2.out)).mono ?_; rintro e w7 ⟨rfl, hb7⟩
  have v7 := hvs.next hb7
  have hw7 : Below w.heap.size w w7 := hw6.trans (hb7.mono hw6.size)
  have hX7 := hX6.below hb7 (by omega)
  have hG7 := hG6.below hb7 (by omega)
  have hA7 := hA6.below hb7 (by omega)
  have hx70 := (hb7.cell (p := ⟨V1, 0, none⟩) (by show V1 < _; omega)).trans hx0
  have hx71 := (hb7.cell (p := ⟨V1, 1, none⟩) (by show V1 < _; omega)).trans hx1
  have hz7 : V2 < w7.heap.size := v7.lG
  have HX := Lib.hid hX7
  have HG := Lib.hid hG7
  have HA := Lib.hid hA7
  have HV := Lib.hid v7
  have RX := Lib.hid (hX7.reads I1.out I2.out)
  obtain ⟨c1, c2, c3, c4, c5, c6, l1, l2, l3⟩ := v7
  have r1 : ∀ w', Below w7.heap.size w7 w' → w'.cell? ⟨P, 0, none⟩ = some (.slice a1 M.length _) := fun w' h => (h.cell (p := ⟨P, 0, none⟩) (by show P < _; omega)).trans c1
  have r2 : ∀ w', Below w7.heap.size w7 w' → w'.cell? ⟨P, 1, none⟩ = some (.slice a2 Q.length _) := fun w' h => (h.cell (p := ⟨P, 1, none⟩) (by show P < _; omega)).trans c2
  have r3 : ∀ w', Below w7.heap.size w7 w' → w'.cell? ⟨V1, 0, none⟩ = some (.slice (some ⟨gC, 0, none⟩) M.length M.length) := fun w' h => (h.cell (p := ⟨V1, 0, none⟩) (by show V1 < _; omega)).trans hx70
  have r4 : ∀ w', Below w7.heap.size w7 w' → w'.cell? ⟨V1, 1, none⟩ = some (.slice (some ⟨gD, 0, none⟩) Q.length Q.length) := fun w' h => (h.cell (p := ⟨V1, 1, none⟩) (by show V1 < _; omega)).trans hx71
  clear hvs hX6 hG6 hA6 hX7 hG7 hA7 hb7 hx0 hx1 hx70 hx71 hw6 hz6 c1 c2 c3 c4 c5 c6 l1 l2 l3
  clear W6
  go_wp2_with fail
  go_region_held3 (fun w' => Below w7.heap.size w7 w') ((repeat' (first | (with_reducible exact Below.refl _ _) | (with_reducible assumption) | (with_reducible refine Below.alloc ?_ ?_ _) | (with_reducible refine Below.drew ?_) | (with_reducible refine below_drewN ?_ _) | (with_reducible refine Below.setCell ?_ ?_ _) | (with_reducible refine Below.trans ?_ (Below.mono (by with_reducible assumption) ?_)) | (with_reducible exact Below.size (by with_reducible assumption)) | go_size)))
    (first | (go_at_call 17; refine (toProblem_out _ _ M Q _ (g1 _ (hw7.trans (Below.mono (by assumption) hw7.size))) (g2 _ (hw7.trans (Below.mono (by assumption) hw7.size))) HN1.out HN2.out).mono ?_; rintro e w8 ⟨gE, gF, us8, rfl, hr8, hb8⟩; have hS8 : Below w7.heap.size w7 w8 := (by (repeat' (first | (with_reducible exact Below.refl _ _) | (with_reducible assumption) | (with_reducible refine Below.alloc ?_ ?_ _) | (with_reducible refine Below.drew ?_) | (with_reducible refine below_drewN ?_ _) | (with_reducible refine Below.setCell ?_ ?_ _) | (with_reducible refine Below.trans ?_ (Below.mono (by with_reducible assumption) ?_)) | (with_reducible exact Below.size (by with_reducible assumption)) | go_size))); have R8 := Lib.hid (hr8.reads I1.out I2.out); clear hr8) | (go_at_call 19; refine (eqProblem_same _ _ _ _ M Q _ (RX.out.1.below hS8) (RX.out.2.below hS8) R8.out.1 R8.out.2).mono ?_; rintro e w9 ⟨rfl, hb9⟩; have hS9 : Below w7.heap.size w7 w9 := (by (repeat' (first | (with_reducible exact Below.refl _ _) | (with_reducible assumption) | (with_reducible refine Below.alloc ?_ ?_ _) | (with_reducible refine Below.drew ?_) | (with_reducible refine below_drewN ?_ _) | (with_reducible refine Below.setCell ?_ ?_ _) | (with_reducible refine Below.trans ?_ (Below.mono (by with_reducible assumption) ?_)) | (with_reducible exact Below.size (by with_reducible assumption)) | go_size)))))
  have x90 := r3 _ hS9
  have x91 := r4 _ hS9
  have v9 := HV.out.next hS9
  have hw9 : Below w.heap.size w w9 := hw7.trans (hS9.mono hw7.size)
  have hX9 := HX.out.below hS9 (by omega)
  have HG9 := Lib.hid (HG.out.below hS9 (by omega))
  have HA9 := Lib.hid (HA.out.below hS9 (by omega))
  have hz9 : V2 < w9.heap.size := v9.lG
  have HV9 := Lib.hid v9
  have HX9 := Lib.hid hX9
  clear v9 hX9 HX HG HA HV RX R8 r1 r2 r3 r4 hS9 hb9 hS8 hb8 hw7 hz7
  have hkb : (1 : Int) + tot M + Q.length ≤ 4611686018427387904 := by have := HN1.out; have := HN2.out; omega
  have hc10 := markProblem_any (V0 + 1) V1 _ _ M Q us4 1 _ HX9.out (by omega) (by decide) hkb
  generalize pre M M.length = pM at hc10
  have hp0 : 0 ≤ (1 : Int) + pM + Q.length := by omega
  have HC10 := Lib.hid hc10
  clear hc10 hkb
  go_wp2_with fail
  refine HC10.out.mono ?_; rintro e w10 ⟨rfl, _, hbt10⟩
  have v10 := HV9.out.bet hbt10 (.inl (by omega)) (.inl (by omega)) (.inr (by omega))
  have hw10 : Below w.heap.size w w10 := hw9.trans ((hbt10.below (by omega)).mono (by omega))
  have hG10 := HG9.out.bet hbt10 (.inr (by omega))
  have hA10 := HA9.out.bet hbt10 (.inl (by omega))
  have hz10 : V2 < w10.heap.size := v10.lG
  have RG := Lib.hid (hG10.own.ints F2.out)
  have RA := Lib.hid (hA10.own.ints F2.out)
  have HG10 := Lib.hid hG10
  have HA10 := Lib.hid hA10
  have HV10 := Lib.hid v10
  obtain ⟨c1, c2, c3, c4, c5, c6, l1, l2, l3⟩ := v10
  clear HC10 HX9 HV9 HG9 HA9 hG10 hA10 hbt10 hw9 hz9 x90 x91 c1 c2 l1 l2 l3
  go_wp2_with fail
  refine (eqCube_same DO _ _ QO _ RG.out RA.out).mono ?_; rintro e w11 ⟨rfl, hb11⟩
  have v11 := HV10.out.next hb11
  have hw11 : Below w.heap.size w w11 := hw10.trans (hb11.mono hw10.size)
  have hG11 := HG10.out.below hb11 (by omega)
  have HA11 := Lib.hid (HA10.out.below hb11 (by omega))
  have hz11 : V2 < w11.heap.size := v11.lG
  have hkb : (1 : Int) + QO.length ≤ 4611686018427387904 := by have := F4.out; omega
  have hc12 := markCube_ans (V1 + 1) V2 DO _ QO 1 _ hG11 (by omega) (by decide) hkb
  have hc13 := fun v w h => heldCube_any DO v QO.length 1 w h (by decide) hkb
  have hm2 : ∀ x ∈ marks 1 QO.length, I64 x := marks_i64 (by decide) (by omega)
  have hp1 : 0 ≤ (1 : Int) + QO.length := by omega
  have HC12 := Lib.hid hc12
  have HC13 := Lib.hid hc13
  have M2 := Lib.hid hm2
  have HV11 := Lib.hid v11
  obtain ⟨c1', c2', c3, c4, c5, c6, l1, l2, l3⟩ := v11
  clear hc12 hc13 hkb hm2 hG11 RG RA HG10 HA10 HV10 hb11 hw10 hz10 c1' c2' l1 l2 l3
  go_wp2_with fail
  refine HC12.out.mono ?_; rintro e w12 ⟨rfl, hm12, hbt12⟩
  have v12 := HV11.out.bet hbt12 (.inl (by omega)) (.inl (by omega)) (.inr (by omega))
  have hw12 : Below w.heap.size w w12 := hw11.trans ((hbt12.below (by omega)).mono (by omega))
  have hA12 := HA11.out.bet hbt12 (.inl (by omega))
  have hz12 : V2 < w12.heap.size := v12.lG
  have HM12 := Lib.hid hm12
  have HA12 := Lib.hid hA12
  have HV12 := Lib.hid v12
  obtain ⟨c1', c2', c3', c4', c5', c6', l1, l2, l3⟩ := v12
  clear HC12 HV11 HA11 hA12 hm12 hbt12 hw11 hz11 c1' c2' c3 c4 c5 c6 l1 l2 l3
  go_wp2_with fail
  refine (HC13.out _ _ (HM12.out.own.ints M2.out)).mono ?_; rintro e w13 ⟨rfl, hb13⟩
  have v13 := HV12.out.next hb13
  have hw13 : Below w.heap.size w w13 := hw12.trans (hb13.mono hw12.size)
  have HM13 := Lib.hid (HM12.out.below hb13 (by omega))
  have HA13 := Lib.hid (HA12.out.below hb13 (by omega))
  have hz13 : V2 < w13.heap.size := v13.lG
  have HV13 := Lib.hid v13
  obtain ⟨q1, q2, q3, q4, q5, q6, l1, l2, l3⟩ := v13
  clear HM12 HA12 HV12 hb13 hw12 hz12 c3' c4' c5' c6' l1 l2 l3
  go_wp2_with fail
  refine (toProblem_out _ _ M Q _ (g1 _ hw13) (g2 _ hw13) HN1.out HN2.out).mono ?_; rintro e w14 ⟨gE, gF, us14, rfl, hr14, hb14⟩
  have v14 := HV13.out.next hb14
  have hw14 : Below w.heap.size w w14 := hw13.trans (hb14.mono hw13.size)
  have R14 := Lib.hid (hr14.reads I1.out I2.out)
  have HM14 := Lib.hid (HM13.out.below hb14 (by omega))
  have HA14 := Lib.hid (HA13.out.below hb14 (by omega))
  have hz14 : V2 < w14.heap.size := v14.lG
  have HV14 := Lib.hid v14
  clear v14 hr14 HV13 HM13 HA13 hb14 hw13 hz13 q1 q2 q3 q4 q5 q6
  go_wp2_with fail
  refine (HI.out _ _ _ R14.out.1 R14.out.2).mono ?_; rintro e w15 ho15; obtain ⟨b15, d15, rfl, hr15, hb15⟩ := ho15.out; clear ho15; dsimp only at hr15; dsimp only
  have v15 := HV14.out.next hb15
  have hw15 : Below w.heap.size w w15 := hw14.trans (hb15.mono hw14.size)
  have HM15 := Lib.hid (HM14.out.below hb15 (by omega))
  have hA15 := HA14.out.below hb15 (by omega)
  have hz15 : V2 < w15.heap.size := v15.lG
  have hal : Below w15.heap.size w15 (w15.alloc (.cells #[.int .i64 DO, .slice b15 QO.length d15] 59)) := (Below.refl _ _).alloc (Nat.le_refl _) _
  have RH := Lib.hid ((hr15.below hal (Nat.le_refl _)).own.ints F2.out)
  have RA := Lib.hid ((hA15.below hal (by omega)).own.ints F2.out)
  have HV15 := Lib.hid v15
  obtain ⟨q1, q2, q3, q4, q5, q6, l1, l2, l3⟩ := v15
  have hA0 : V0 < w15.heap.size := by omega
  clear hr15 hA15 HV14 HM14 HA14 hb15 hw14 hz14 R14 l1 l2 l3 q1 q2
  go_wp2_with fail
  refine (eqCube_same DO _ _ QO _ RH.out RA.out).mono ?_; rintro e w16 ⟨rfl, hb16⟩
  have hb16' : Below w15.heap.size w15 w16 := hal.trans (hb16.mono (by simp))
  have v16 := HV15.out.next hb16'
  have hw16 : Below w.heap.size w w16 := hw15.trans (hb16'.mono hw15.size)
  have HM16 := Lib.hid (HM15.out.below hb16' (by omega))
  obtain ⟨s1, s2, s3, s4, s5, s6, l1, l2, l3⟩ := v16
  clear HV15 HM15 hb16 hb16' hal hw15 RH RA q3 q4 q5 q6 s1 s2 s3 s4 l1 l2 l3
  go_wp2_with fail
  refine (HC13.out _ _ (HM16.out.own.ints M2.out)).mono ?_; rintro e w17 ⟨rfl, hb17⟩
  have hw17 : Below w.heap.size w w17 := hw16.trans (hb17.mono hw16.size)
  go_wp2_with fail
  go_ret
  exact ⟨rfl, hw17⟩
end Go.Proofs.Ytoglmkjmnknbbaa.PW
namespace Go.Proofs.Ytoglmkjmnknbbaa
open Go.ChangeShapes Go.WideShapes Go.ChangeAt Go.RowKit Go.Joins Go.Deep
open Go.Proofs.Ytoglmkjmnknbbaa.PM Go.Proofs.Ytoglmkjmnknbbaa.PW
namespace FnExactCubeOfProblem
set_option maxRecDepth 100000 in
theorem lifted (os : Os) (started : os.Started) (H : Type) (enc : TypeId × Value → H) :
    ReturnsInHanded {} Try.checked os 10 .any (Rows.fnExactCubeOfProblemSpec.pre6 enc Try.prog Try.f10 Rows.fnExactCubeOfProblemRow.domain false) (Rows.fnExactCubeOfProblemSpec.post enc Try.prog Try.f10 false true false false) := by
  refine returnsInHanded_of_change (C := Try.checked) own started (by kernel_rfl) Try.func10
    (ChangeSpec.witness6 (enc := enc) (C := Try.checked) false ⟨#[], #[.agg #[.slice none 0 0, .slice none 0 0]], []⟩ 8 (by kernel_rfl) (by kernel_rfl) (by kernel_rfl) (by kernel_rfl)) ?_
  intro W base args ds gs before hval0 hW _ _
  have hval : ∀ (j : Nat) t v, Try.f10.params[j]? = some t → args[j]? = some v → Value.okWide Try.prog W .any base t v := hval0
  have hW' := hW
  obtain ⟨p, q, hA0, hV, rfl, _, _⟩ := hW
  have hA : DataW.TrodAll enc Try.prog W 0 (fun _ => true) true Try.f10.params.toList args.toList ds p := hA0
  rw [Try.params10] at hA hval
  obtain ⟨v0, vs0, d0, ds0, p0, q0, hargs, rfl, rfl, h0, r0⟩ := trodAll_cons hA
  obtain ⟨rfl, rfl, rfl⟩ := trodAll_nil r0
  obtain rfl : args = #[v0] := by cases args; simp_all
  obtain ⟨rfl, rfl⟩ := trodVars_none hV
  have K0 := h0
  have L0 : ∀ x ∈ p0, x.block < W.heap.size := by obtain ⟨mm, hmm⟩ := K0; exact DataW.trod_lt mm _ _ _ hmm
  obtain ⟨m0, qq0, rfl, hM0, hQ0⟩ : ∃ m q, v0 = .agg #[m, q] ∧ (∃ M, PM.Rows W m M) ∧ ∃ Q, PM.Ints W q Q := by
    obtain ⟨c0, c1, y0, y1, mm, e1, e2, e3, hy0, hy1⟩ := open_agg2 Try.underlying25 (by kernel_rfl) cellsProb (hval 0 25 v0 rfl rfl) h0
    exact ⟨c0, c1, e1, rows_in hy0, ints_in hy1⟩
  obtain ⟨M0, hM0⟩ := hM0
  obtain ⟨Q0, hQ0⟩ := hQ0
  clear hA0 hval0
  simp only [List.append_nil] at hW'
  refine (law_FnExactCubeOfProblem m0 qq0 M0 Q0 W hM0 hQ0).mono fun e W' ⟨he, hb⟩ => ?_
  subst he
  exact ⟨_, rfl, _, _, _, [], _, [], hW', trodAll_mk1 (shut_bool Try.underlying4 _), trodAll_cons_mk (Below.trod laidOut (by kernel_rfl) (of_decide_eq_true (by kernel_rfl)) K0 hb L0) trodAll_mk0, rfl, hb.frame _, fun h => by cases h⟩
theorem over : Rows.fnExactCubeOfProblemRow.holds Try.pinned (OpenSpec.ofChange Rows.fnExactCubeOfProblemSpec) :=
  OpenClaim.holds_of_wide 10 Try.f10 rfl rfl rfl rfl rfl rfl rfl ⟨rfl, rfl, rfl, rfl, rfl⟩ rfl rfl rfl rfl rfl (by kernel_rfl) Try.func10 (by kernel_rfl)
    (of_decide_eq_true (by kernel_rfl)) (by unfold Func.isWrapper; first | (rw [if_pos (by decide +kernel)]; kernel_rfl) | (rw [if_neg (by decide +kernel)]; exact ⟨rfl, rfl⟩))
    (fun os started H enc _ => lifted os started H enc)
theorem proved : Rows.FnExactCubeOfProblemSaid := over
end FnExactCubeOfProblem
end Go.Proofs.Ytoglmkjmnknbbaa
