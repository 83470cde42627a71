/-
  Walks of the functions on fractions: the model's sum, and comparisons.
-/
import Derived.Test.YtcgomdoibkplpaaFracWalkF
import Derived.StillTailTactics
namespace Go.Proofs.Ytcgomdoibkplpaa.FW
open Go.RowKit Go.Proofs.Ytcgomdoibkplpaa
open Go.Proofs.Ytcgomdoibkplpaa.FM

theorem l01Plus_any (an ad bn bd : Int) (w : World) (a1 : -1000000000 ≤ an) (a2 : an ≤ 1000000000) (a3 : 1 ≤ ad) (a4 : ad ≤ 1000000000) (b1 : -1000000000 ≤ bn) (b2 : bn ≤ 1000000000) (b3 : 1 ≤ bd) (b4 : bd ≤ 1000000000) :
    Calls Try.prog 27 #[.agg #[.int .i64 an, .int .i64 ad], .agg #[.int .i64 bn, .int .i64 bd]] w fun e w' =>
      e = .returned (.agg #[.int .i64 (redN (an * bd.tdiv (gcdI ad bd) + bn * ad.tdiv (gcdI ad bd)) (ad.tdiv (gcdI ad bd) * bd)), .int .i64 (redD (an * bd.tdiv (gcdI ad bd) + bn * ad.tdiv (gcdI ad bd)) (ad.tdiv (gcdI ad bd) * bd))]) ∧ Below w.heap.size w w' := by
  have hg : 0 < gcdI ad bd := gcdI_pos _ _ (by omega)
  have q1 : 0 ≤ ad.tdiv (gcdI ad bd) ∧ ad.tdiv (gcdI ad bd) ≤ 1000000000 := by
    have := tdiv_natAbs_le ad (gcdI ad bd)
    have := Int.tdiv_nonneg (a := ad) (b := gcdI ad bd) (by omega) (by omega)
    omega
  have q2 : 0 ≤ bd.tdiv (gcdI ad bd) ∧ bd.tdiv (gcdI ad bd) ≤ 1000000000 := by
    have := tdiv_natAbs_le bd (gcdI ad bd)
    have := Int.tdiv_nonneg (a := bd) (b := gcdI ad bd) (by omega) (by omega)
    omega
  have e1 : ad.tdiv (gcdI ad bd) * gcdI ad bd = ad := Int.tdiv_mul_cancel (gcdI_dvd_left ad bd)
  have q1p : 1 ≤ ad.tdiv (gcdI ad bd) := by
    by_cases h : ad.tdiv (gcdI ad bd) = 0
    · rw [h, Int.zero_mul] at e1; omega
    · omega
  have p1 := prod_bd a1 a2 (b := bd.tdiv (gcdI ad bd)) (by omega) (by omega)
  have p2 := prod_bd b1 b2 (b := ad.tdiv (gcdI ad bd)) (by omega) (by omega)
  have p3 := prod_bd (a := ad.tdiv (gcdI ad bd)) (b := bd) (by omega) (by omega) (by omega) b4
  have p4 := prod_pos q1p b3
  clear e1
  generalize hG : gcdI ad bd = G at *
  have HG := Lib.hid hG
  clear hG
  have hq1 : IntKind.i64.wrap (bd.tdiv G) = bd.tdiv G := IntWalk.i64_in _ (by omega)
  have hq2 : IntKind.i64.wrap (ad.tdiv G) = ad.tdiv G := IntWalk.i64_in _ (by omega)
  have hq3 : IntKind.i64.wrap (an * bd.tdiv G) = an * bd.tdiv G := IntWalk.i64_in _ (by omega)
  have hq4 : IntKind.i64.wrap (bn * ad.tdiv G) = bn * ad.tdiv G := IntWalk.i64_in _ (by omega)
  have hq5 : IntKind.i64.wrap (an * bd.tdiv G + bn * ad.tdiv G) = an * bd.tdiv G + bn * ad.tdiv G := IntWalk.i64_in _ (by omega)
  have hq6 : IntKind.i64.wrap (ad.tdiv G * bd) = ad.tdiv G * bd := IntWalk.i64_in _ (by omega)
  have hG0 : ¬ G = 0 := by omega
  have hne1 : ¬ w.heap.size + 1 + 1 = w.heap.size := by omega
  have hne2 : ¬ w.heap.size = w.heap.size + 1 + 1 := by omega
  go_enter Try.func27, Try.ntmps27
  go_wp2_with fail
  refine (l01Gcd_any _ _ _ (by omega) (by omega) (by omega) (by omega)).mono ?_; rw [HG.out]; rintro e w1 ⟨rfl, rfl⟩
  go_wp2_with fail
  go_region_held3 (fun w' => w'.cell? ⟨w.heap.size, 0, none⟩ = some (.int .i64 an) ∧ w'.cell? ⟨w.heap.size, 1, none⟩ = some (.int .i64 ad) ∧ w'.cell? ⟨w.heap.size + 1, 0, none⟩ = some (.int .i64 bn) ∧ w'.cell? ⟨w.heap.size + 1, 1, none⟩ = some (.int .i64 bd))
    (first | (go_keep; done) | ((try dsimp only); (repeat' apply And.intro); all_goals (first | (go_keep; done) | (rw [hb.cell (by simp; try omega)]; simp [*]))))
    (first | (go_at_call 25; refine (l01Frac_any _ _ _ (by omega) (by omega) (by omega) (by omega) (by omega)).mono ?_; rintro e w' ⟨rfl, hb⟩; obtain ⟨hc, hf⟩ := bcell hb; have hz0 := hb.size; simp at hz0; have hz1 : w.heap.size < w'.heap.size := (by omega); have hz2 : w.heap.size + 1 < w'.heap.size := (by omega); have hz3 : w.heap.size + 1 + 1 < w'.heap.size := (by omega)))
  go_wp2_with fail
  refine bodyPost_ret (v := .agg #[.int .i64 (redN (an * bd.tdiv G + bn * ad.tdiv G) (ad.tdiv G * bd)), .int .i64 (redD (an * bd.tdiv G + bn * ad.tdiv G) (ad.tdiv G * bd))]) (by simp [*, results, Try.results27, go_sem]) rfl ?_
  refine ⟨rfl, ?_⟩
  have h0 : Below w.heap.size w (((w.alloc (Obj.cells #[Value.int IntKind.i64 an, Value.int IntKind.i64 ad] 25)).alloc (Obj.cells #[Value.int IntKind.i64 bn, Value.int IntKind.i64 bd] 25)).alloc (Obj.cells #[Value.int IntKind.i64 0, Value.int IntKind.i64 0] 25)).drew := by (repeat' (first | (with_reducible exact Below.refl _ _) | (with_reducible assumption) | (with_reducible refine Below.alloc ?_ ?_ _) | (with_reducible refine Below.drew ?_) | (with_reducible refine below_drewN ?_ _) | (with_reducible refine Below.setCell ?_ ?_ _) | (with_reducible refine Below.trans ?_ (Below.mono (by with_reducible assumption) ?_)) | (with_reducible exact Below.size (by with_reducible assumption)) | go_size))
  have h1 := h0.trans (hb.mono (by simp; omega))
  (repeat' (first | (with_reducible exact Below.refl _ _) | (with_reducible assumption) | (with_reducible refine Below.alloc ?_ ?_ _) | (with_reducible refine Below.drew ?_) | (with_reducible refine below_drewN ?_ _) | (with_reducible refine Below.setCell ?_ ?_ _) | (with_reducible refine Below.trans ?_ (Below.mono (by with_reducible assumption) ?_)) | (with_reducible exact Below.size (by with_reducible assumption)) | go_size))

theorem specAdd_any (an ad bn bd k : Int) (w : World) :
    Calls Try.prog 14 #[.agg #[.int .i64 an, .int .i64 ad], .agg #[.int .i64 bn, .int .i64 bd], .int .i64 k] w fun e w' => e = .returned (outV (addOut an ad bn bd k)) ∧ Below w.heap.size w w' := by
  by_cases ha : isF an ad = false
  · have e : addOut an ad bn bd k = (0, 0, 1) := by unfold addOut; rw [if_pos (.inl ha)]
    rw [e]
    clear e
    go_enter Try.func14, Try.ntmps14
    go_wp2_with fail
    refine (specIsFrac_any _ _ _).mono ?_; rintro e w1 ⟨rfl, hb1⟩; obtain ⟨hc_hb1, hf_hb1⟩ := bcell hb1; obtain ⟨hcA_hb1, hfA_hb1⟩ := bcellG (W0 := w) hb1 (by (repeat' (first | (with_reducible exact Below.refl _ _) | (with_reducible assumption) | (with_reducible refine Below.alloc ?_ ?_ _) | (with_reducible refine Below.drew ?_) | (with_reducible refine below_drewN ?_ _) | (with_reducible refine Below.setCell ?_ ?_ _) | (with_reducible refine Below.trans ?_ (Below.mono (by with_reducible assumption) ?_)) | (with_reducible exact Below.size (by with_reducible assumption)) | go_size))); have hz_hb1 := hb1.size; (try simp at hz_hb1); (try simp only [Nat.add_one_le_iff] at hz_hb1); have hz0_hb1 : w.heap.size < w1.heap.size := (by omega); have hz1_hb1 : w.heap.size + 1 < w1.heap.size := (by omega); have hz2_hb1 : w.heap.size + 1 + 1 < w1.heap.size := (by omega)
    go_wp2_with fail
    refine bodyPost_ret (v := .tuple #[.agg #[.int .i64 0, .int .i64 0], .int .i64 1]) (by simp [*, results, Try.results14, go_sem]) rfl ?_
    refine ⟨rfl, ?_⟩
    (repeat' (first | (with_reducible exact Below.refl _ _) | (with_reducible assumption) | (with_reducible refine Below.alloc ?_ ?_ _) | (with_reducible refine Below.drew ?_) | (with_reducible refine below_drewN ?_ _) | (with_reducible refine Below.setCell ?_ ?_ _) | (with_reducible refine Below.trans ?_ (Below.mono (by with_reducible assumption) ?_)) | (with_reducible exact Below.size (by with_reducible assumption)) | go_size))
  have ha' : isF an ad = true := by simpa using ha
  by_cases hb : isF bn bd = false
  · have e : addOut an ad bn bd k = (0, 0, 1) := by unfold addOut; rw [if_pos (.inr hb)]
    rw [e]
    clear e ha
    go_enter Try.func14, Try.ntmps14
    go_wp2_with fail
    refine (specIsFrac_any _ _ _).mono ?_; rintro e w1 ⟨rfl, hb1⟩; obtain ⟨hc_hb1, hf_hb1⟩ := bcell hb1; obtain ⟨hcA_hb1, hfA_hb1⟩ := bcellG (W0 := w) hb1 (by (repeat' (first | (with_reducible exact Below.refl _ _) | (with_reducible assumption) | (with_reducible refine Below.alloc ?_ ?_ _) | (with_reducible refine Below.drew ?_) | (with_reducible refine below_drewN ?_ _) | (with_reducible refine Below.setCell ?_ ?_ _) | (with_reducible refine Below.trans ?_ (Below.mono (by with_reducible assumption) ?_)) | (with_reducible exact Below.size (by with_reducible assumption)) | go_size))); have hz_hb1 := hb1.size; (try simp at hz_hb1); (try simp only [Nat.add_one_le_iff] at hz_hb1); have hz0_hb1 : w.heap.size < w1.heap.size := (by omega); have hz1_hb1 : w.heap.size + 1 < w1.heap.size := (by omega); have hz2_hb1 : w.heap.size + 1 + 1 < w1.heap.size := (by omega)
    go_wp2_with fail
    refine (specIsFrac_any _ _ _).mono ?_; rintro e w2 ⟨rfl, hb2⟩; obtain ⟨hc_hb2, hf_hb2⟩ := bcell hb2; obtain ⟨hcA_hb2, hfA_hb2⟩ := bcellG (W0 := w1) hb2 (by (repeat' (first | (with_reducible exact Below.refl _ _) | (with_reducible assumption) | (with_reducible refine Below.alloc ?_ ?_ _) | (with_reducible refine Below.drew ?_) | (with_reducible refine below_drewN ?_ _) | (with_reducible refine Below.setCell ?_ ?_ _) | (with_reducible refine Below.trans ?_ (Below.mono (by with_reducible assumption) ?_)) | (with_reducible exact Below.size (by with_reducible assumption)) | go_size))); have hz_hb2 := hb2.size; (try simp at hz_hb2); (try simp only [Nat.add_one_le_iff] at hz_hb2); have hz0_hb2 : w.heap.size < w2.heap.size := (by omega); have hz1_hb2 : w.heap.size + 1 < w2.heap.size := (by omega); have hz2_hb2 : w.heap.size + 1 + 1 < w2.heap.size := (by omega)
    go_wp2_with fail
    refine bodyPost_ret (v := .tuple #[.agg #[.int .i64 0, .int .i64 0], .int .i64 1]) (by simp [*, results, Try.results14, go_sem]) rfl ?_
    refine ⟨rfl, ?_⟩
    (repeat' (first | (with_reducible exact Below.refl _ _) | (with_reducible assumption) | (with_reducible refine Below.alloc ?_ ?_ _) | (with_reducible refine Below.drew ?_) | (with_reducible refine below_drewN ?_ _) | (with_reducible refine Below.setCell ?_ ?_ _) | (with_reducible refine Below.trans ?_ (Below.mono (by with_reducible assumption) ?_)) | (with_reducible exact Below.size (by with_reducible assumption)) | go_size))
  have hb' : isF bn bd = true := by simpa using hb
  by_cases hk : k ≠ 1 ∧ k ≠ -1
  · have e : addOut an ad bn bd k = (0, 0, 2) := by unfold addOut; rw [if_neg (by simp [ha', hb']), if_pos hk]
    rw [e]
    have hk1 : (k != 1) = true := by simpa using hk.1
    have hk2 : (k != -1) = true := by simpa using hk.2
    clear e ha hb hk
    go_enter Try.func14, Try.ntmps14
    go_wp2_with fail
    refine (specIsFrac_any _ _ _).mono ?_; rintro e w1 ⟨rfl, hb1⟩; obtain ⟨hc_hb1, hf_hb1⟩ := bcell hb1; obtain ⟨hcA_hb1, hfA_hb1⟩ := bcellG (W0 := w) hb1 (by (repeat' (first | (with_reducible exact Below.refl _ _) | (with_reducible assumption) | (with_reducible refine Below.alloc ?_ ?_ _) | (with_reducible refine Below.drew ?_) | (with_reducible refine below_drewN ?_ _) | (with_reducible refine Below.setCell ?_ ?_ _) | (with_reducible refine Below.trans ?_ (Below.mono (by with_reducible assumption) ?_)) | (with_reducible exact Below.size (by with_reducible assumption)) | go_size))); have hz_hb1 := hb1.size; (try simp at hz_hb1); (try simp only [Nat.add_one_le_iff] at hz_hb1); have hz0_hb1 : w.heap.size < w1.heap.size := (by omega); have hz1_hb1 : w.heap.size + 1 < w1.heap.size := (by omega); have hz2_hb1 : w.heap.size + 1 + 1 < w1.heap.size := (by omega)
    go_wp2_with fail
    refine (specIsFrac_any _ _ _).mono ?_; rintro e w2 ⟨rfl, hb2⟩; obtain ⟨hc_hb2, hf_hb2⟩ := bcell hb2; obtain ⟨hcA_hb2, hfA_hb2⟩ := bcellG (W0 := w1) hb2 (by (repeat' (first | (with_reducible exact Below.refl _ _) | (with_reducible assumption) | (with_reducible refine Below.alloc ?_ ?_ _) | (with_reducible refine Below.drew ?_) | (with_reducible refine below_drewN ?_ _) | (with_reducible refine Below.setCell ?_ ?_ _) | (with_reducible refine Below.trans ?_ (Below.mono (by with_reducible assumption) ?_)) | (with_reducible exact Below.size (by with_reducible assumption)) | go_size))); have hz_hb2 := hb2.size; (try simp at hz_hb2); (try simp only [Nat.add_one_le_iff] at hz_hb2); have hz0_hb2 : w.heap.size < w2.heap.size := (by omega); have hz1_hb2 : w.heap.size + 1 < w2.heap.size := (by omega); have hz2_hb2 : w.heap.size + 1 + 1 < w2.heap.size := (by omega)
    go_wp2_with fail
    refine bodyPost_ret (v := .tuple #[.agg #[.int .i64 0, .int .i64 0], .int .i64 2]) (by simp [*, results, Try.results14, go_sem]) rfl ?_
    refine ⟨rfl, ?_⟩
    (repeat' (first | (with_reducible exact Below.refl _ _) | (with_reducible assumption) | (with_reducible refine Below.alloc ?_ ?_ _) | (with_reducible refine Below.drew ?_) | (with_reducible refine below_drewN ?_ _) | (with_reducible refine Below.setCell ?_ ?_ _) | (with_reducible refine Below.trans ?_ (Below.mono (by with_reducible assumption) ?_)) | (with_reducible exact Below.size (by with_reducible assumption)) | go_size))
  have e : addOut an ad bn bd k = told (an * bd + k * bn * ad) (ad * bd) := by unfold addOut; rw [if_neg (by simp [ha', hb']), if_neg hk]
  rw [e]
  clear e ha hb
  obtain ⟨a1, a2, a3, a4, _⟩ := isF_yes ha'
  obtain ⟨b1, b2, b3, b4, _⟩ := isF_yes hb'
  have hk : k = 1 ∨ k = -1 := by omega
  rcases hk with rfl | rfl
  · rw [show an * bd + 1 * bn * ad = an * bd + bn * ad from by rw [Int.one_mul], ← told_plus an ad bn bd a3]
    clear hk
    go_enter Try.func14, Try.ntmps14
    go_wp2_with fail
    refine (specIsFrac_any _ _ _).mono ?_; rintro e w1 ⟨rfl, hb1⟩; obtain ⟨hc_hb1, hf_hb1⟩ := bcell hb1; obtain ⟨hcA_hb1, hfA_hb1⟩ := bcellG (W0 := w) hb1 (by (repeat' (first | (with_reducible exact Below.refl _ _) | (with_reducible assumption) | (with_reducible refine Below.alloc ?_ ?_ _) | (with_reducible refine Below.drew ?_) | (with_reducible refine below_drewN ?_ _) | (with_reducible refine Below.setCell ?_ ?_ _) | (with_reducible refine Below.trans ?_ (Below.mono (by with_reducible assumption) ?_)) | (with_reducible exact Below.size (by with_reducible assumption)) | go_size))); have hz_hb1 := hb1.size; (try simp at hz_hb1); (try simp only [Nat.add_one_le_iff] at hz_hb1); have hz0_hb1 : w.heap.size < w1.heap.size := (by omega); have hz1_hb1 : w.heap.size + 1 < w1.heap.size := (by omega); have hz2_hb1 : w.heap.size + 1 + 1 < w1.heap.size := (by omega)
    go_wp2_with fail
    refine (specIsFrac_any _ _ _).mono ?_; rintro e w2 ⟨rfl, hb2⟩; obtain ⟨hc_hb2, hf_hb2⟩ := bcell hb2; obtain ⟨hcA_hb2, hfA_hb2⟩ := bcellG (W0 := w1) hb2 (by (repeat' (first | (with_reducible exact Below.refl _ _) | (with_reducible assumption) | (with_reducible refine Below.alloc ?_ ?_ _) | (with_reducible refine Below.drew ?_) | (with_reducible refine below_drewN ?_ _) | (with_reducible refine Below.setCell ?_ ?_ _) | (with_reducible refine Below.trans ?_ (Below.mono (by with_reducible assumption) ?_)) | (with_reducible exact Below.size (by with_reducible assumption)) | go_size))); have hz_hb2 := hb2.size; (try simp at hz_hb2); (try simp only [Nat.add_one_le_iff] at hz_hb2); have hz0_hb2 : w.heap.size < w2.heap.size := (by omega); have hz1_hb2 : w.heap.size + 1 < w2.heap.size := (by omega); have hz2_hb2 : w.heap.size + 1 + 1 < w2.heap.size := (by omega)
    go_wp2_with fail
    refine (l01Plus_any _ _ _ _ _ (by omega) (by omega) (by omega) (by omega) (by omega) (by omega) (by omega) (by omega)).mono ?_; rintro e w3 ⟨rfl, hb3⟩; obtain ⟨hc_hb3, hf_hb3⟩ := bcell hb3; obtain ⟨hcA_hb3, hfA_hb3⟩ := bcellG (W0 := w2) hb3 (by (repeat' (first | (with_reducible exact Below.refl _ _) | (with_reducible assumption) | (with_reducible refine Below.alloc ?_ ?_ _) | (with_reducible refine Below.drew ?_) | (with_reducible refine below_drewN ?_ _) | (with_reducible refine Below.setCell ?_ ?_ _) | (with_reducible refine Below.trans ?_ (Below.mono (by with_reducible assumption) ?_)) | (with_reducible exact Below.size (by with_reducible assumption)) | go_size))); have hz_hb3 := hb3.size; (try simp at hz_hb3); (try simp only [Nat.add_one_le_iff] at hz_hb3); have hz0_hb3 : w.heap.size < w3.heap.size := (by omega); have hz1_hb3 : w.heap.size + 1 < w3.heap.size := (by omega); have hz2_hb3 : w.heap.size + 1 + 1 < w3.heap.size := (by omega)
    go_wp2_with fail
    refine (l01Told_red _ _ _).mono ?_; rintro e w4 ⟨rfl, hb4⟩; obtain ⟨hc_hb4, hf_hb4⟩ := bcell hb4; obtain ⟨hcA_hb4, hfA_hb4⟩ := bcellG (W0 := w3) hb4 (by (repeat' (first | (with_reducible exact Below.refl _ _) | (with_reducible assumption) | (with_reducible refine Below.alloc ?_ ?_ _) | (with_reducible refine Below.drew ?_) | (with_reducible refine below_drewN ?_ _) | (with_reducible refine Below.setCell ?_ ?_ _) | (with_reducible refine Below.trans ?_ (Below.mono (by with_reducible assumption) ?_)) | (with_reducible exact Below.size (by with_reducible assumption)) | go_size))); have hz_hb4 := hb4.size; (try simp at hz_hb4); (try simp only [Nat.add_one_le_iff] at hz_hb4); have hz0_hb4 : w.heap.size < w4.heap.size := (by omega); have hz1_hb4 : w.heap.size + 1 < w4.heap.size := (by omega); have hz2_hb4 : w.heap.size + 1 + 1 < w4.heap.size := (by omega)
    go_wp2_with fail
    refine bodyPost_ret (v := outV (told (an * bd.tdiv (gcdI ad bd) + bn * ad.tdiv (gcdI ad bd)) (ad.tdiv (gcdI ad bd) * bd))) (by simp [*, outV, told, results, Try.results14, go_sem]) rfl ?_
    refine ⟨rfl, ?_⟩
    (repeat' (first | (with_reducible exact Below.refl _ _) | (with_reducible assumption) | (with_reducible refine Below.alloc ?_ ?_ _) | (with_reducible refine Below.drew ?_) | (with_reducible refine below_drewN ?_ _) | (with_reducible refine Below.setCell ?_ ?_ _) | (with_reducible refine Below.trans ?_ (Below.mono (by with_reducible assumption) ?_)) | (with_reducible exact Below.size (by with_reducible assumption)) | go_size))
  · rw [show an * bd + -1 * bn * ad = an * bd + -bn * ad from by rw [Int.neg_mul, Int.one_mul], ← told_plus an ad (-bn) bd a3]
    clear hk
    go_enter Try.func14, Try.ntmps14
    go_wp2_with fail
    refine (specIsFrac_any _ _ _).mono ?_; rintro e w1 ⟨rfl, hb1⟩; obtain ⟨hc_hb1, hf_hb1⟩ := bcell hb1; obtain ⟨hcA_hb1, hfA_hb1⟩ := bcellG (W0 := w) hb1 (by (repeat' (first | (with_reducible exact Below.refl _ _) | (with_reducible assumption) | (with_reducible refine Below.alloc ?_ ?_ _) | (with_reducible refine Below.drew ?_) | (with_reducible refine below_drewN ?_ _) | (with_reducible refine Below.setCell ?_ ?_ _) | (with_reducible refine Below.trans ?_ (Below.mono (by with_reducible assumption) ?_)) | (with_reducible exact Below.size (by with_reducible assumption)) | go_size))); have hz_hb1 := hb1.size; (try simp at hz_hb1); (try simp only [Nat.add_one_le_iff] at hz_hb1); have hz0_hb1 : w.heap.size < w1.heap.size := (by omega); have hz1_hb1 : w.heap.size + 1 < w1.heap.size := (by omega); have hz2_hb1 : w.heap.size + 1 + 1 < w1.heap.size := (by omega)
    go_wp2_with fail
    refine (specIsFrac_any _ _ _).mono ?_; rintro e w2 ⟨rfl, hb2⟩; obtain ⟨hc_hb2, hf_hb2⟩ := bcell hb2; obtain ⟨hcA_hb2, hfA_hb2⟩ := bcellG (W0 := w1) hb2 (by (repeat' (first | (with_reducible exact Below.refl _ _) | (with_reducible assumption) | (with_reducible refine Below.alloc ?_ ?_ _) | (with_reducible refine Below.drew ?_) | (with_reducible refine below_drewN ?_ _) | (with_reducible refine Below.setCell ?_ ?_ _) | (with_reducible refine Below.trans ?_ (Below.mono (by with_reducible assumption) ?_)) | (with_reducible exact Below.size (by with_reducible assumption)) | go_size))); have hz_hb2 := hb2.size; (try simp at hz_hb2); (try simp only [Nat.add_one_le_iff] at hz_hb2); have hz0_hb2 : w.heap.size < w2.heap.size := (by omega); have hz1_hb2 : w.heap.size + 1 < w2.heap.size := (by omega); have hz2_hb2 : w.heap.size + 1 + 1 < w2.heap.size := (by omega)
    go_wp2_with fail
    refine (l01Plus_any _ _ _ _ _ (by omega) (by omega) (by omega) (by omega) (by omega) (by omega) (by omega) (by omega)).mono ?_; rintro e w3 ⟨rfl, hb3⟩; obtain ⟨hc_hb3, hf_hb3⟩ := bcell hb3; obtain ⟨hcA_hb3, hfA_hb3⟩ := bcellG (W0 := w2) hb3 (by (repeat' (first | (with_reducible exact Below.refl _ _) | (with_reducible assumption) | (with_reducible refine Below.alloc ?_ ?_ _) | (with_reducible refine Below.drew ?_) | (with_reducible refine below_drewN ?_ _) | (with_reducible refine Below.setCell ?_ ?_ _) | (with_reducible refine Below.trans ?_ (Below.mono (by with_reducible assumption) ?_)) | (with_reducible exact Below.size (by with_reducible assumption)) | go_size))); have hz_hb3 := hb3.size; (try simp at hz_hb3); (try simp only [Nat.add_one_le_iff] at hz_hb3); have hz0_hb3 : w.heap.size < w3.heap.size := (by omega); have hz1_hb3 : w.heap.size + 1 < w3.heap.size := (by omega); have hz2_hb3 : w.heap.size + 1 + 1 < w3.heap.size := (by omega)
    go_wp2_with fail
    refine (l01Told_red _ _ _).mono ?_; rintro e w4 ⟨rfl, hb4⟩; obtain ⟨hc_hb4, hf_hb4⟩ := bcell hb4; obtain ⟨hcA_hb4, hfA_hb4⟩ := bcellG (W0 := w3) hb4 (by (repeat' (first | (with_reducible exact Below.refl _ _) | (with_reducible assumption) | (with_reducible refine Below.alloc ?_ ?_ _) | (with_reducible refine Below.drew ?_) | (with_reducible refine below_drewN ?_ _) | (with_reducible refine Below.setCell ?_ ?_ _) | (with_reducible refine Below.trans ?_ (Below.mono (by with_reducible assumption) ?_)) | (with_reducible exact Below.size (by with_reducible assumption)) | go_size))); have hz_hb4 := hb4.size; (try simp at hz_hb4); (try simp only [Nat.add_one_le_iff] at hz_hb4); have hz0_hb4 : w.heap.size < w4.heap.size := (by omega); have hz1_hb4 : w.heap.size + 1 < w4.heap.size := (by omega); have hz2_hb4 : w.heap.size + 1 + 1 < w4.heap.size := (by omega)
    go_wp2_with fail
    refine bodyPost_ret (v := outV (told (an * bd.tdiv (gcdI ad bd) + -bn * ad.tdiv (gcdI ad bd)) (ad.tdiv (gcdI ad bd) * bd))) (by simp [*, outV, told, results, Try.results14, go_sem]) rfl ?_
    refine ⟨rfl, ?_⟩
    (repeat' (first | (with_reducible exact Below.refl _ _) | (with_reducible assumption) | (with_reducible refine Below.alloc ?_ ?_ _) | (with_reducible refine Below.drew ?_) | (with_reducible refine below_drewN ?_ _) | (with_reducible refine Below.setCell ?_ ?_ _) | (with_reducible refine Below.trans ?_ (Below.mono (by with_reducible assumption) ?_)) | (with_reducible exact Below.size (by with_reducible assumption)) | go_size))

theorem l01Less_any (an ad bn bd : Int) (w : World) (a1 : -1000000000 ≤ an) (a2 : an ≤ 1000000000) (a3 : 1 ≤ ad) (a4 : ad ≤ 1000000000) (b1 : -1000000000 ≤ bn) (b2 : bn ≤ 1000000000) (b3 : 1 ≤ bd) (b4 : bd ≤ 1000000000) :
    Calls Try.prog 29 #[.agg #[.int .i64 an, .int .i64 ad], .agg #[.int .i64 bn, .int .i64 bd]] w fun e w' => e = .returned (.bool (decide (an * bd < bn * ad))) ∧ Below w.heap.size w w' := by
  have p1 := prod_bd a1 a2 (b := bd) (by omega) b4
  have p2 := prod_bd b1 b2 (b := ad) (by omega) a4
  go_enter Try.func29, Try.ntmps29
  go_wp2
  all_goals (go_ret; refine ⟨ret_bool (by simp; try omega), ?_⟩)
  all_goals (repeat' (first | (with_reducible exact Below.refl _ _) | (with_reducible assumption) | (with_reducible refine Below.alloc ?_ ?_ _) | (with_reducible refine Below.drew ?_) | (with_reducible refine below_drewN ?_ _) | (with_reducible refine Below.setCell ?_ ?_ _) | (with_reducible refine Below.trans ?_ (Below.mono (by with_reducible assumption) ?_)) | (with_reducible exact Below.size (by with_reducible assumption)) | go_size))
end Go.Proofs.Ytcgomdoibkplpaa.FW
