/-
  Walks of the functions on fractions: sums and comparisons in the program, products, sums and comparisons in the model.
-/
import Derived.Test.YtcgomdoibkplpaaFracWalkE
namespace Go.Proofs.Ytcgomdoibkplpaa.FW
open Go.RowKit Go.Proofs.Ytcgomdoibkplpaa
open Go.Proofs.Ytcgomdoibkplpaa.FM

theorem l01Times_any (an ad bn bd : Int) (w : World) (a1 : -1000000000 ≤ an) (a2 : an ≤ 1000000000) (a3 : 1 ≤ ad) (a4 : ad ≤ 1000000000) (b1 : -1000000000 ≤ bn) (b2 : bn ≤ 1000000000) (b3 : 1 ≤ bd) (b4 : bd ≤ 1000000000) :
    Calls Try.prog 28 #[.agg #[.int .i64 an, .int .i64 ad], .agg #[.int .i64 bn, .int .i64 bd]] w fun e w' => e = .returned (.agg #[.int .i64 (redN (an * bn) (ad * bd)), .int .i64 (redD (an * bn) (ad * bd))]) ∧ Below w.heap.size w w' := by
  have p1 := prod_bd a1 a2 b1 b2
  have p2 := prod_bd (a := ad) (b := bd) (by omega) a4 (by omega) b4
  have p3 := prod_pos a3 b3
  go_enter Try.func28, Try.ntmps28
  go_wp2_with fail
  refine (l01Frac_any _ _ _ (by omega) (by omega) (by omega) (by omega) (by omega)).mono ?_; rintro e w1 ⟨rfl, hb1⟩; obtain ⟨hc_hb1, hf_hb1⟩ := bcell hb1; obtain ⟨hcA_hb1, hfA_hb1⟩ := bcellG (W0 := w) hb1 (by (repeat' (first | (with_reducible exact Below.refl _ _) | (with_reducible assumption) | (with_reducible refine Below.alloc ?_ ?_ _) | (with_reducible refine Below.drew ?_) | (with_reducible refine below_drewN ?_ _) | (with_reducible refine Below.setCell ?_ ?_ _) | (with_reducible refine Below.trans ?_ (Below.mono (by with_reducible assumption) ?_)) | (with_reducible exact Below.size (by with_reducible assumption)) | go_size))); have hz_hb1 := hb1.size; (try simp at hz_hb1); (try simp only [Nat.add_one_le_iff] at hz_hb1); have hz0_hb1 : w.heap.size < w1.heap.size := (by omega); have hz1_hb1 : w.heap.size + 1 < w1.heap.size := (by omega); have hz2_hb1 : w.heap.size + 1 + 1 < w1.heap.size := (by omega)
  go_wp2_with fail
  refine bodyPost_ret (v := .agg #[.int .i64 (redN (an * bn) (ad * bd)), .int .i64 (redD (an * bn) (ad * bd))]) (by simp [*, results, Try.results28, go_sem]) rfl ?_
  refine ⟨rfl, ?_⟩
  (repeat' (first | (with_reducible exact Below.refl _ _) | (with_reducible assumption) | (with_reducible refine Below.alloc ?_ ?_ _) | (with_reducible refine Below.drew ?_) | (with_reducible refine below_drewN ?_ _) | (with_reducible refine Below.setCell ?_ ?_ _) | (with_reducible refine Below.trans ?_ (Below.mono (by with_reducible assumption) ?_)) | (with_reducible exact Below.size (by with_reducible assumption)) | go_size))

theorem specMultiply_any (an ad bn bd : Int) (w : World) :
    Calls Try.prog 16 #[.agg #[.int .i64 an, .int .i64 ad], .agg #[.int .i64 bn, .int .i64 bd]] w fun e w' => e = .returned (outV (mulOut an ad bn bd)) ∧ Below w.heap.size w w' := by
  by_cases ha : isF an ad = false
  · have e : mulOut an ad bn bd = (0, 0, 1) := by unfold mulOut; rw [if_pos (.inl ha)]
    rw [e]
    clear e
    go_enter Try.func16, Try.ntmps16
    go_wp2_with fail
    refine (specIsFrac_any _ _ _).mono ?_; rintro e w1 ⟨rfl, hb1⟩; obtain ⟨hc_hb1, hf_hb1⟩ := bcell hb1; obtain ⟨hcA_hb1, hfA_hb1⟩ := bcellG (W0 := w) hb1 (by (repeat' (first | (with_reducible exact Below.refl _ _) | (with_reducible assumption) | (with_reducible refine Below.alloc ?_ ?_ _) | (with_reducible refine Below.drew ?_) | (with_reducible refine below_drewN ?_ _) | (with_reducible refine Below.setCell ?_ ?_ _) | (with_reducible refine Below.trans ?_ (Below.mono (by with_reducible assumption) ?_)) | (with_reducible exact Below.size (by with_reducible assumption)) | go_size))); have hz_hb1 := hb1.size; (try simp at hz_hb1); (try simp only [Nat.add_one_le_iff] at hz_hb1); have hz0_hb1 : w.heap.size < w1.heap.size := (by omega); have hz1_hb1 : w.heap.size + 1 < w1.heap.size := (by omega); have hz2_hb1 : w.heap.size + 1 + 1 < w1.heap.size := (by omega)
    go_wp2_with fail
    refine bodyPost_ret (v := .tuple #[.agg #[.int .i64 0, .int .i64 0], .int .i64 1]) (by simp [*, results, Try.results16, go_sem]) rfl ?_
    refine ⟨rfl, ?_⟩
    (repeat' (first | (with_reducible exact Below.refl _ _) | (with_reducible assumption) | (with_reducible refine Below.alloc ?_ ?_ _) | (with_reducible refine Below.drew ?_) | (with_reducible refine below_drewN ?_ _) | (with_reducible refine Below.setCell ?_ ?_ _) | (with_reducible refine Below.trans ?_ (Below.mono (by with_reducible assumption) ?_)) | (with_reducible exact Below.size (by with_reducible assumption)) | go_size))
  have ha' : isF an ad = true := by simpa using ha
  by_cases hb : isF bn bd = false
  · have e : mulOut an ad bn bd = (0, 0, 1) := by unfold mulOut; rw [if_pos (.inr hb)]
    rw [e]
    clear e ha
    go_enter Try.func16, Try.ntmps16
    go_wp2_with fail
    refine (specIsFrac_any _ _ _).mono ?_; rintro e w1 ⟨rfl, hb1⟩; obtain ⟨hc_hb1, hf_hb1⟩ := bcell hb1; obtain ⟨hcA_hb1, hfA_hb1⟩ := bcellG (W0 := w) hb1 (by (repeat' (first | (with_reducible exact Below.refl _ _) | (with_reducible assumption) | (with_reducible refine Below.alloc ?_ ?_ _) | (with_reducible refine Below.drew ?_) | (with_reducible refine below_drewN ?_ _) | (with_reducible refine Below.setCell ?_ ?_ _) | (with_reducible refine Below.trans ?_ (Below.mono (by with_reducible assumption) ?_)) | (with_reducible exact Below.size (by with_reducible assumption)) | go_size))); have hz_hb1 := hb1.size; (try simp at hz_hb1); (try simp only [Nat.add_one_le_iff] at hz_hb1); have hz0_hb1 : w.heap.size < w1.heap.size := (by omega); have hz1_hb1 : w.heap.size + 1 < w1.heap.size := (by omega); have hz2_hb1 : w.heap.size + 1 + 1 < w1.heap.size := (by omega)
    go_wp2_with fail
    refine (specIsFrac_any _ _ _).mono ?_; rintro e w2 ⟨rfl, hb2⟩; obtain ⟨hc_hb2, hf_hb2⟩ := bcell hb2; obtain ⟨hcA_hb2, hfA_hb2⟩ := bcellG (W0 := w1) hb2 (by (repeat' (first | (with_reducible exact Below.refl _ _) | (with_reducible assumption) | (with_reducible refine Below.alloc ?_ ?_ _) | (with_reducible refine Below.drew ?_) | (with_reducible refine below_drewN ?_ _) | (with_reducible refine Below.setCell ?_ ?_ _) | (with_reducible refine Below.trans ?_ (Below.mono (by with_reducible assumption) ?_)) | (with_reducible exact Below.size (by with_reducible assumption)) | go_size))); have hz_hb2 := hb2.size; (try simp at hz_hb2); (try simp only [Nat.add_one_le_iff] at hz_hb2); have hz0_hb2 : w.heap.size < w2.heap.size := (by omega); have hz1_hb2 : w.heap.size + 1 < w2.heap.size := (by omega); have hz2_hb2 : w.heap.size + 1 + 1 < w2.heap.size := (by omega)
    go_wp2_with fail
    refine bodyPost_ret (v := .tuple #[.agg #[.int .i64 0, .int .i64 0], .int .i64 1]) (by simp [*, results, Try.results16, go_sem]) rfl ?_
    refine ⟨rfl, ?_⟩
    (repeat' (first | (with_reducible exact Below.refl _ _) | (with_reducible assumption) | (with_reducible refine Below.alloc ?_ ?_ _) | (with_reducible refine Below.drew ?_) | (with_reducible refine below_drewN ?_ _) | (with_reducible refine Below.setCell ?_ ?_ _) | (with_reducible refine Below.trans ?_ (Below.mono (by with_reducible assumption) ?_)) | (with_reducible exact Below.size (by with_reducible assumption)) | go_size))
  have hb' : isF bn bd = true := by simpa using hb
  have e : mulOut an ad bn bd = told (an * bn) (ad * bd) := by unfold mulOut; rw [if_neg (by simp [ha', hb'])]
  rw [e]
  clear e ha hb
  obtain ⟨a1, a2, a3, a4, _⟩ := isF_yes ha'
  obtain ⟨b1, b2, b3, b4, _⟩ := isF_yes hb'
  go_enter Try.func16, Try.ntmps16
  go_wp2_with fail
  refine (specIsFrac_any _ _ _).mono ?_; rintro e w1 ⟨rfl, hb1⟩; obtain ⟨hc_hb1, hf_hb1⟩ := bcell hb1; obtain ⟨hcA_hb1, hfA_hb1⟩ := bcellG (W0 := w) hb1 (by (repeat' (first | (with_reducible exact Below.refl _ _) | (with_reducible assumption) | (with_reducible refine Below.alloc ?_ ?_ _) | (with_reducible refine Below.drew ?_) | (with_reducible refine below_drewN ?_ _) | (with_reducible refine Below.setCell ?_ ?_ _) | (with_reducible refine Below.trans ?_ (Below.mono (by with_reducible assumption) ?_)) | (with_reducible exact Below.size (by with_reducible assumption)) | go_size))); have hz_hb1 := hb1.size; (try simp at hz_hb1); (try simp only [Nat.add_one_le_iff] at hz_hb1); have hz0_hb1 : w.heap.size < w1.heap.size := (by omega); have hz1_hb1 : w.heap.size + 1 < w1.heap.size := (by omega); have hz2_hb1 : w.heap.size + 1 + 1 < w1.heap.size := (by omega)
  go_wp2_with fail
  refine (specIsFrac_any _ _ _).mono ?_; rintro e w2 ⟨rfl, hb2⟩; obtain ⟨hc_hb2, hf_hb2⟩ := bcell hb2; obtain ⟨hcA_hb2, hfA_hb2⟩ := bcellG (W0 := w1) hb2 (by (repeat' (first | (with_reducible exact Below.refl _ _) | (with_reducible assumption) | (with_reducible refine Below.alloc ?_ ?_ _) | (with_reducible refine Below.drew ?_) | (with_reducible refine below_drewN ?_ _) | (with_reducible refine Below.setCell ?_ ?_ _) | (with_reducible refine Below.trans ?_ (Below.mono (by with_reducible assumption) ?_)) | (with_reducible exact Below.size (by with_reducible assumption)) | go_size))); have hz_hb2 := hb2.size; (try simp at hz_hb2); (try simp only [Nat.add_one_le_iff] at hz_hb2); have hz0_hb2 : w.heap.size < w2.heap.size := (by omega); have hz1_hb2 : w.heap.size + 1 < w2.heap.size := (by omega); have hz2_hb2 : w.heap.size + 1 + 1 < w2.heap.size := (by omega)
  go_wp2_with fail
  refine (l01Times_any _ _ _ _ _ a1 a2 a3 a4 b1 b2 b3 b4).mono ?_; rintro e w3 ⟨rfl, hb3⟩; obtain ⟨hc_hb3, hf_hb3⟩ := bcell hb3; obtain ⟨hcA_hb3, hfA_hb3⟩ := bcellG (W0 := w2) hb3 (by (repeat' (first | (with_reducible exact Below.refl _ _) | (with_reducible assumption) | (with_reducible refine Below.alloc ?_ ?_ _) | (with_reducible refine Below.drew ?_) | (with_reducible refine below_drewN ?_ _) | (with_reducible refine Below.setCell ?_ ?_ _) | (with_reducible refine Below.trans ?_ (Below.mono (by with_reducible assumption) ?_)) | (with_reducible exact Below.size (by with_reducible assumption)) | go_size))); have hz_hb3 := hb3.size; (try simp at hz_hb3); (try simp only [Nat.add_one_le_iff] at hz_hb3); have hz0_hb3 : w.heap.size < w3.heap.size := (by omega); have hz1_hb3 : w.heap.size + 1 < w3.heap.size := (by omega); have hz2_hb3 : w.heap.size + 1 + 1 < w3.heap.size := (by omega)
  go_wp2_with fail
  refine (l01Told_red _ _ _).mono ?_; rintro e w4 ⟨rfl, hb4⟩; obtain ⟨hc_hb4, hf_hb4⟩ := bcell hb4; obtain ⟨hcA_hb4, hfA_hb4⟩ := bcellG (W0 := w3) hb4 (by (repeat' (first | (with_reducible exact Below.refl _ _) | (with_reducible assumption) | (with_reducible refine Below.alloc ?_ ?_ _) | (with_reducible refine Below.drew ?_) | (with_reducible refine below_drewN ?_ _) | (with_reducible refine Below.setCell ?_ ?_ _) | (with_reducible refine Below.trans ?_ (Below.mono (by with_reducible assumption) ?_)) | (with_reducible exact Below.size (by with_reducible assumption)) | go_size))); have hz_hb4 := hb4.size; (try simp at hz_hb4); (try simp only [Nat.add_one_le_iff] at hz_hb4); have hz0_hb4 : w.heap.size < w4.heap.size := (by omega); have hz1_hb4 : w.heap.size + 1 < w4.heap.size := (by omega); have hz2_hb4 : w.heap.size + 1 + 1 < w4.heap.size := (by omega)
  go_wp2_with fail
  refine bodyPost_ret (v := .tuple #[.agg #[.int .i64 (toldN (an * bn) (ad * bd)), .int .i64 (toldD (an * bn) (ad * bd))], .int .i64 (toldC (an * bn) (ad * bd))]) (by simp [*, results, Try.results16, go_sem]) rfl ?_
  refine ⟨rfl, ?_⟩
  (repeat' (first | (with_reducible exact Below.refl _ _) | (with_reducible assumption) | (with_reducible refine Below.alloc ?_ ?_ _) | (with_reducible refine Below.drew ?_) | (with_reducible refine below_drewN ?_ _) | (with_reducible refine Below.setCell ?_ ?_ _) | (with_reducible refine Below.trans ?_ (Below.mono (by with_reducible assumption) ?_)) | (with_reducible exact Below.size (by with_reducible assumption)) | go_size))

theorem implAdd_any (an ad bn bd k : Int) (w : World) :
    Calls Try.prog 15 #[.agg #[.int .i64 an, .int .i64 ad], .agg #[.int .i64 bn, .int .i64 bd], .int .i64 k] w fun e w' => e = .returned (outV (addOut an ad bn bd k)) ∧ Below w.heap.size w w' := by
  by_cases ha : isF an ad = false
  · have e : addOut an ad bn bd k = (0, 0, 1) := by unfold addOut; rw [if_pos (.inl ha)]
    rw [e]
    clear e
    go_enter Try.func15, Try.ntmps15
    go_wp2_with fail
    refine (implIsFrac_any _ _ _).mono ?_; rintro e w1 ⟨rfl, hb1⟩; obtain ⟨hc_hb1, hf_hb1⟩ := bcell hb1; obtain ⟨hcA_hb1, hfA_hb1⟩ := bcellG (W0 := w) hb1 (by (repeat' (first | (with_reducible exact Below.refl _ _) | (with_reducible assumption) | (with_reducible refine Below.alloc ?_ ?_ _) | (with_reducible refine Below.drew ?_) | (with_reducible refine below_drewN ?_ _) | (with_reducible refine Below.setCell ?_ ?_ _) | (with_reducible refine Below.trans ?_ (Below.mono (by with_reducible assumption) ?_)) | (with_reducible exact Below.size (by with_reducible assumption)) | go_size))); have hz_hb1 := hb1.size; (try simp at hz_hb1); (try simp only [Nat.add_one_le_iff] at hz_hb1); have hz0_hb1 : w.heap.size < w1.heap.size := (by omega); have hz1_hb1 : w.heap.size + 1 < w1.heap.size := (by omega); have hz2_hb1 : w.heap.size + 1 + 1 < w1.heap.size := (by omega)
    go_wp2_with fail
    refine bodyPost_ret (v := .tuple #[.agg #[.int .i64 0, .int .i64 0], .int .i64 1]) (by simp [*, results, Try.results15, go_sem]) rfl ?_
    refine ⟨rfl, ?_⟩
    (repeat' (first | (with_reducible exact Below.refl _ _) | (with_reducible assumption) | (with_reducible refine Below.alloc ?_ ?_ _) | (with_reducible refine Below.drew ?_) | (with_reducible refine below_drewN ?_ _) | (with_reducible refine Below.setCell ?_ ?_ _) | (with_reducible refine Below.trans ?_ (Below.mono (by with_reducible assumption) ?_)) | (with_reducible exact Below.size (by with_reducible assumption)) | go_size))
  have ha' : isF an ad = true := by simpa using ha
  by_cases hb : isF bn bd = false
  · have e : addOut an ad bn bd k = (0, 0, 1) := by unfold addOut; rw [if_pos (.inr hb)]
    rw [e]
    clear e ha
    go_enter Try.func15, Try.ntmps15
    go_wp2_with fail
    refine (implIsFrac_any _ _ _).mono ?_; rintro e w1 ⟨rfl, hb1⟩; obtain ⟨hc_hb1, hf_hb1⟩ := bcell hb1; obtain ⟨hcA_hb1, hfA_hb1⟩ := bcellG (W0 := w) hb1 (by (repeat' (first | (with_reducible exact Below.refl _ _) | (with_reducible assumption) | (with_reducible refine Below.alloc ?_ ?_ _) | (with_reducible refine Below.drew ?_) | (with_reducible refine below_drewN ?_ _) | (with_reducible refine Below.setCell ?_ ?_ _) | (with_reducible refine Below.trans ?_ (Below.mono (by with_reducible assumption) ?_)) | (with_reducible exact Below.size (by with_reducible assumption)) | go_size))); have hz_hb1 := hb1.size; (try simp at hz_hb1); (try simp only [Nat.add_one_le_iff] at hz_hb1); have hz0_hb1 : w.heap.size < w1.heap.size := (by omega); have hz1_hb1 : w.heap.size + 1 < w1.heap.size := (by omega); have hz2_hb1 : w.heap.size + 1 + 1 < w1.heap.size := (by omega)
    go_wp2_with fail
    refine (implIsFrac_any _ _ _).mono ?_; rintro e w2 ⟨rfl, hb2⟩; obtain ⟨hc_hb2, hf_hb2⟩ := bcell hb2; obtain ⟨hcA_hb2, hfA_hb2⟩ := bcellG (W0 := w1) hb2 (by (repeat' (first | (with_reducible exact Below.refl _ _) | (with_reducible assumption) | (with_reducible refine Below.alloc ?_ ?_ _) | (with_reducible refine Below.drew ?_) | (with_reducible refine below_drewN ?_ _) | (with_reducible refine Below.setCell ?_ ?_ _) | (with_reducible refine Below.trans ?_ (Below.mono (by with_reducible assumption) ?_)) | (with_reducible exact Below.size (by with_reducible assumption)) | go_size))); have hz_hb2 := hb2.size; (try simp at hz_hb2); (try simp only [Nat.add_one_le_iff] at hz_hb2); have hz0_hb2 : w.heap.size < w2.heap.size := (by omega); have hz1_hb2 : w.heap.size + 1 < w2.heap.size := (by omega); have hz2_hb2 : w.heap.size + 1 + 1 < w2.heap.size := (by omega)
    go_wp2_with fail
    refine bodyPost_ret (v := .tuple #[.agg #[.int .i64 0, .int .i64 0], .int .i64 1]) (by simp [*, results, Try.results15, go_sem]) rfl ?_
    refine ⟨rfl, ?_⟩
    (repeat' (first | (with_reducible exact Below.refl _ _) | (with_reducible assumption) | (with_reducible refine Below.alloc ?_ ?_ _) | (with_reducible refine Below.drew ?_) | (with_reducible refine below_drewN ?_ _) | (with_reducible refine Below.setCell ?_ ?_ _) | (with_reducible refine Below.trans ?_ (Below.mono (by with_reducible assumption) ?_)) | (with_reducible exact Below.size (by with_reducible assumption)) | go_size))
  have hb' : isF bn bd = true := by simpa using hb
  by_cases hk : k ≠ 1 ∧ k ≠ -1
  · have e : addOut an ad bn bd k = (0, 0, 2) := by unfold addOut; rw [if_neg (by simp [ha', hb']), if_pos hk]
    rw [e]
    have hk1 : (k != 1) = true := by simpa using hk.1
    have hk2 : (k != -1) = true := by simpa using hk.2
    clear e ha hb hk
    go_enter Try.func15, Try.ntmps15
    go_wp2_with fail
    refine (implIsFrac_any _ _ _).mono ?_; rintro e w1 ⟨rfl, hb1⟩; obtain ⟨hc_hb1, hf_hb1⟩ := bcell hb1; obtain ⟨hcA_hb1, hfA_hb1⟩ := bcellG (W0 := w) hb1 (by (repeat' (first | (with_reducible exact Below.refl _ _) | (with_reducible assumption) | (with_reducible refine Below.alloc ?_ ?_ _) | (with_reducible refine Below.drew ?_) | (with_reducible refine below_drewN ?_ _) | (with_reducible refine Below.setCell ?_ ?_ _) | (with_reducible refine Below.trans ?_ (Below.mono (by with_reducible assumption) ?_)) | (with_reducible exact Below.size (by with_reducible assumption)) | go_size))); have hz_hb1 := hb1.size; (try simp at hz_hb1); (try simp only [Nat.add_one_le_iff] at hz_hb1); have hz0_hb1 : w.heap.size < w1.heap.size := (by omega); have hz1_hb1 : w.heap.size + 1 < w1.heap.size := (by omega); have hz2_hb1 : w.heap.size + 1 + 1 < w1.heap.size := (by omega)
    go_wp2_with fail
    refine (implIsFrac_any _ _ _).mono ?_; rintro e w2 ⟨rfl, hb2⟩; obtain ⟨hc_hb2, hf_hb2⟩ := bcell hb2; obtain ⟨hcA_hb2, hfA_hb2⟩ := bcellG (W0 := w1) hb2 (by (repeat' (first | (with_reducible exact Below.refl _ _) | (with_reducible assumption) | (with_reducible refine Below.alloc ?_ ?_ _) | (with_reducible refine Below.drew ?_) | (with_reducible refine below_drewN ?_ _) | (with_reducible refine Below.setCell ?_ ?_ _) | (with_reducible refine Below.trans ?_ (Below.mono (by with_reducible assumption) ?_)) | (with_reducible exact Below.size (by with_reducible assumption)) | go_size))); have hz_hb2 := hb2.size; (try simp at hz_hb2); (try simp only [Nat.add_one_le_iff] at hz_hb2); have hz0_hb2 : w.heap.size < w2.heap.size := (by omega); have hz1_hb2 : w.heap.size + 1 < w2.heap.size := (by omega); have hz2_hb2 : w.heap.size + 1 + 1 < w2.heap.size := (by omega)
    go_wp2_with fail
    refine bodyPost_ret (v := .tuple #[.agg #[.int .i64 0, .int .i64 0], .int .i64 2]) (by simp [*, results, Try.results15, go_sem]) rfl ?_
    refine ⟨rfl, ?_⟩
    (repeat' (first | (with_reducible exact Below.refl _ _) | (with_reducible assumption) | (with_reducible refine Below.alloc ?_ ?_ _) | (with_reducible refine Below.drew ?_) | (with_reducible refine below_drewN ?_ _) | (with_reducible refine Below.setCell ?_ ?_ _) | (with_reducible refine Below.trans ?_ (Below.mono (by with_reducible assumption) ?_)) | (with_reducible exact Below.size (by with_reducible assumption)) | go_size))
  have e : addOut an ad bn bd k = told (an * bd + k * bn * ad) (ad * bd) := by unfold addOut; rw [if_neg (by simp [ha', hb']), if_neg hk]
  rw [e]
  clear e ha hb
  obtain ⟨a1, a2, a3, a4, _⟩ := isF_yes ha'
  obtain ⟨b1, b2, b3, b4, _⟩ := isF_yes hb'
  have p1 := prod_bd a1 a2 (b := bd) (by omega) b4
  have p2 := prod_bd (a := ad) (b := bd) (by omega) a4 (by omega) b4
  have p3 := prod_pos a3 b3
  have hk : k = 1 ∨ k = -1 := by omega
  rcases hk with rfl | rfl
  · have p4 := prod_bd b1 b2 (b := ad) (by omega) a4
    rw [show an * bd + 1 * bn * ad = an * bd + bn * ad from by rw [Int.one_mul]]
    clear hk
    go_enter Try.func15, Try.ntmps15
    go_wp2_with fail
    refine (implIsFrac_any _ _ _).mono ?_; rintro e w1 ⟨rfl, hb1⟩; obtain ⟨hc_hb1, hf_hb1⟩ := bcell hb1; obtain ⟨hcA_hb1, hfA_hb1⟩ := bcellG (W0 := w) hb1 (by (repeat' (first | (with_reducible exact Below.refl _ _) | (with_reducible assumption) | (with_reducible refine Below.alloc ?_ ?_ _) | (with_reducible refine Below.drew ?_) | (with_reducible refine below_drewN ?_ _) | (with_reducible refine Below.setCell ?_ ?_ _) | (with_reducible refine Below.trans ?_ (Below.mono (by with_reducible assumption) ?_)) | (with_reducible exact Below.size (by with_reducible assumption)) | go_size))); have hz_hb1 := hb1.size; (try simp at hz_hb1); (try simp only [Nat.add_one_le_iff] at hz_hb1); have hz0_hb1 : w.heap.size < w1.heap.size := (by omega); have hz1_hb1 : w.heap.size + 1 < w1.heap.size := (by omega); have hz2_hb1 : w.heap.size + 1 + 1 < w1.heap.size := (by omega)
    go_wp2_with fail
    refine (implIsFrac_any _ _ _).mono ?_; rintro e w2 ⟨rfl, hb2⟩; obtain ⟨hc_hb2, hf_hb2⟩ := bcell hb2; obtain ⟨hcA_hb2, hfA_hb2⟩ := bcellG (W0 := w1) hb2 (by (repeat' (first | (with_reducible exact Below.refl _ _) | (with_reducible assumption) | (with_reducible refine Below.alloc ?_ ?_ _) | (with_reducible refine Below.drew ?_) | (with_reducible refine below_drewN ?_ _) | (with_reducible refine Below.setCell ?_ ?_ _) | (with_reducible refine Below.trans ?_ (Below.mono (by with_reducible assumption) ?_)) | (with_reducible exact Below.size (by with_reducible assumption)) | go_size))); have hz_hb2 := hb2.size; (try simp at hz_hb2); (try simp only [Nat.add_one_le_iff] at hz_hb2); have hz0_hb2 : w.heap.size < w2.heap.size := (by omega); have hz1_hb2 : w.heap.size + 1 < w2.heap.size := (by omega); have hz2_hb2 : w.heap.size + 1 + 1 < w2.heap.size := (by omega)
    go_wp2_with fail
    refine (limitedFrac_out _ _ _ (by omega) (by omega) (by omega) (by omega) (by omega)).mono ?_; rintro e w3 ⟨rfl, hb3⟩; obtain ⟨hc_hb3, hf_hb3⟩ := bcell hb3; obtain ⟨hcA_hb3, hfA_hb3⟩ := bcellG (W0 := w2) hb3 (by (repeat' (first | (with_reducible exact Below.refl _ _) | (with_reducible assumption) | (with_reducible refine Below.alloc ?_ ?_ _) | (with_reducible refine Below.drew ?_) | (with_reducible refine below_drewN ?_ _) | (with_reducible refine Below.setCell ?_ ?_ _) | (with_reducible refine Below.trans ?_ (Below.mono (by with_reducible assumption) ?_)) | (with_reducible exact Below.size (by with_reducible assumption)) | go_size))); have hz_hb3 := hb3.size; (try simp at hz_hb3); (try simp only [Nat.add_one_le_iff] at hz_hb3); have hz0_hb3 : w.heap.size < w3.heap.size := (by omega); have hz1_hb3 : w.heap.size + 1 < w3.heap.size := (by omega); have hz2_hb3 : w.heap.size + 1 + 1 < w3.heap.size := (by omega)
    go_wp2_with fail
    refine bodyPost_ret (v := .tuple #[.agg #[.int .i64 (toldN (an * bd + bn * ad) (ad * bd)), .int .i64 (toldD (an * bd + bn * ad) (ad * bd))], .int .i64 (toldC (an * bd + bn * ad) (ad * bd))]) (by simp [*, results, Try.results15, go_sem]) rfl ?_
    refine ⟨rfl, ?_⟩
    (repeat' (first | (with_reducible exact Below.refl _ _) | (with_reducible assumption) | (with_reducible refine Below.alloc ?_ ?_ _) | (with_reducible refine Below.drew ?_) | (with_reducible refine below_drewN ?_ _) | (with_reducible refine Below.setCell ?_ ?_ _) | (with_reducible refine Below.trans ?_ (Below.mono (by with_reducible assumption) ?_)) | (with_reducible exact Below.size (by with_reducible assumption)) | go_size))
  · have p4 := prod_bd (a := -bn) (by omega) (by omega) (b := ad) (by omega) a4
    rw [show an * bd + -1 * bn * ad = an * bd + -bn * ad from by rw [Int.neg_mul, Int.one_mul]]
    clear hk
    go_enter Try.func15, Try.ntmps15
    go_wp2_with fail
    refine (implIsFrac_any _ _ _).mono ?_; rintro e w1 ⟨rfl, hb1⟩; obtain ⟨hc_hb1, hf_hb1⟩ := bcell hb1; obtain ⟨hcA_hb1, hfA_hb1⟩ := bcellG (W0 := w) hb1 (by (repeat' (first | (with_reducible exact Below.refl _ _) | (with_reducible assumption) | (with_reducible refine Below.alloc ?_ ?_ _) | (with_reducible refine Below.drew ?_) | (with_reducible refine below_drewN ?_ _) | (with_reducible refine Below.setCell ?_ ?_ _) | (with_reducible refine Below.trans ?_ (Below.mono (by with_reducible assumption) ?_)) | (with_reducible exact Below.size (by with_reducible assumption)) | go_size))); have hz_hb1 := hb1.size; (try simp at hz_hb1); (try simp only [Nat.add_one_le_iff] at hz_hb1); have hz0_hb1 : w.heap.size < w1.heap.size := (by omega); have hz1_hb1 : w.heap.size + 1 < w1.heap.size := (by omega); have hz2_hb1 : w.heap.size + 1 + 1 < w1.heap.size := (by omega)
    go_wp2_with fail
    refine (implIsFrac_any _ _ _).mono ?_; rintro e w2 ⟨rfl, hb2⟩; obtain ⟨hc_hb2, hf_hb2⟩ := bcell hb2; obtain ⟨hcA_hb2, hfA_hb2⟩ := bcellG (W0 := w1) hb2 (by (repeat' (first | (with_reducible exact Below.refl _ _) | (with_reducible assumption) | (with_reducible refine Below.alloc ?_ ?_ _) | (with_reducible refine Below.drew ?_) | (with_reducible refine below_drewN ?_ _) | (with_reducible refine Below.setCell ?_ ?_ _) | (with_reducible refine Below.trans ?_ (Below.mono (by with_reducible assumption) ?_)) | (with_reducible exact Below.size (by with_reducible assumption)) | go_size))); have hz_hb2 := hb2.size; (try simp at hz_hb2); (try simp only [Nat.add_one_le_iff] at hz_hb2); have hz0_hb2 : w.heap.size < w2.heap.size := (by omega); have hz1_hb2 : w.heap.size + 1 < w2.heap.size := (by omega); have hz2_hb2 : w.heap.size + 1 + 1 < w2.heap.size := (by omega)
    go_wp2_with fail
    refine (limitedFrac_out _ _ _ (by omega) (by omega) (by omega) (by omega) (by omega)).mono ?_; rintro e w3 ⟨rfl, hb3⟩; obtain ⟨hc_hb3, hf_hb3⟩ := bcell hb3; obtain ⟨hcA_hb3, hfA_hb3⟩ := bcellG (W0 := w2) hb3 (by (repeat' (first | (with_reducible exact Below.refl _ _) | (with_reducible assumption) | (with_reducible refine Below.alloc ?_ ?_ _) | (with_reducible refine Below.drew ?_) | (with_reducible refine below_drewN ?_ _) | (with_reducible refine Below.setCell ?_ ?_ _) | (with_reducible refine Below.trans ?_ (Below.mono (by with_reducible assumption) ?_)) | (with_reducible exact Below.size (by with_reducible assumption)) | go_size))); have hz_hb3 := hb3.size; (try simp at hz_hb3); (try simp only [Nat.add_one_le_iff] at hz_hb3); have hz0_hb3 : w.heap.size < w3.heap.size := (by omega); have hz1_hb3 : w.heap.size + 1 < w3.heap.size := (by omega); have hz2_hb3 : w.heap.size + 1 + 1 < w3.heap.size := (by omega)
    go_wp2_with fail
    refine bodyPost_ret (v := .tuple #[.agg #[.int .i64 (toldN (an * bd + -bn * ad) (ad * bd)), .int .i64 (toldD (an * bd + -bn * ad) (ad * bd))], .int .i64 (toldC (an * bd + -bn * ad) (ad * bd))]) (by simp [*, results, Try.results15, go_sem]) rfl ?_
    refine ⟨rfl, ?_⟩
    (repeat' (first | (with_reducible exact Below.refl _ _) | (with_reducible assumption) | (with_reducible refine Below.alloc ?_ ?_ _) | (with_reducible refine Below.drew ?_) | (with_reducible refine below_drewN ?_ _) | (with_reducible refine Below.setCell ?_ ?_ _) | (with_reducible refine Below.trans ?_ (Below.mono (by with_reducible assumption) ?_)) | (with_reducible exact Below.size (by with_reducible assumption)) | go_size))

theorem isNaN_any (x : Int) (w : World) :
    Calls Try.prog 33 #[.int .i64 x] w fun e w' => e = .returned (.bool false) ∧ w = w' := by
  go_enter Try.func33, Try.ntmps33
  go_wp2
  go_ret
  exact ⟨ret_bool (by simp), rfl⟩

theorem cmpI_lt {x y : Int} (h : x < y) : cmpI x y = -1 := by unfold cmpI; rw [if_pos h]
theorem cmpI_gt {x y : Int} (h : y < x) : cmpI x y = 1 := by unfold cmpI; rw [if_neg (by omega), if_pos h]
theorem cmpI_eq (x : Int) : cmpI x x = 0 := by unfold cmpI; rw [if_neg (by omega), if_neg (by omega)]

theorem compare_any (x y : Int) (w : World) :
    Calls Try.prog 30 #[.int .i64 x, .int .i64 y] w fun e w' => e = .returned (.int .i64 (cmpI x y)) ∧ w = w' := by
  rcases Int.lt_trichotomy x y with h | h | h
  · rw [cmpI_lt h]
    go_enter Try.func30, Try.ntmps30
    go_wp2
    go_ret
    exact ⟨rfl, rfl⟩
  · subst h
    rw [cmpI_eq]
    go_enter Try.func30, Try.ntmps30
    go_wp2
    go_ret
    exact ⟨rfl, rfl⟩
  · rw [cmpI_gt h]
    have h' : ¬ x < y := by omega
    go_enter Try.func30, Try.ntmps30
    go_wp2
    go_ret
    exact ⟨rfl, rfl⟩
end Go.Proofs.Ytcgomdoibkplpaa.FW
