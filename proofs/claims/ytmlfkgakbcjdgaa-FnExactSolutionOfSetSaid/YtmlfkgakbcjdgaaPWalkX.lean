/-
  Walks: a row of a problem scaled, in the model.
-/
import Derived.Test.YtmlfkgakbcjdgaaPWalkV
namespace Go.Proofs.Ytmlfkgakbcjdgaa.PW
open Go.RowKit Go.Proofs.Ytmlfkgakbcjdgaa
open Go.Proofs.Ytmlfkgakbcjdgaa.PM

theorem sscale_err1 (m q : Value) (M : List (List Int)) (Q : List Int) (i k : Int) (w : World) (h1 : PM.Rows w m M) (h2 : Ints w q Q) (hp' : isPB M Q = false) :
    Calls Try.prog 16 #[.agg #[m, q], .int .i64 i, .int .i64 k] w (OutP w ([], [], 1)) := by
  have g1 := fun (w' : World) (h : Below w.heap.size w w') => h1.below h
  have g2 := fun (w' : World) (h : Below w.heap.size w w') => h2.below h
  obtain ⟨a1, c1, rfl, _⟩ := h1
  obtain ⟨a2, c2, rfl, _⟩ := h2
  have HP := Lib.hid hp'
  clear hp'
  go_enter Try.func16, Try.ntmps16
  go_wp2_with fail
  refine (l01Is_any _ _ M Q _ (g1 _ (by (repeat' (first | (with_reducible exact Below.refl _ _) | (with_reducible assumption) | (with_reducible refine Below.alloc ?_ ?_ _) | (with_reducible refine Below.drew ?_) | (with_reducible refine below_drewN ?_ _) | (with_reducible refine Below.setCell ?_ ?_ _) | (with_reducible refine Below.trans ?_ (Below.mono (by with_reducible assumption) ?_)) | (with_reducible exact Below.size (by with_reducible assumption)) | go_size)))) (g2 _ (by (repeat' (first | (with_reducible exact Below.refl _ _) | (with_reducible assumption) | (with_reducible refine Below.alloc ?_ ?_ _) | (with_reducible refine Below.drew ?_) | (with_reducible refine below_drewN ?_ _) | (with_reducible refine Below.setCell ?_ ?_ _) | (with_reducible refine Below.trans ?_ (Below.mono (by with_reducible assumption) ?_)) | (with_reducible exact Below.size (by with_reducible assumption)) | go_size))))).mono ?_; rw [HP.out]; rintro e w1 ⟨rfl, hb1⟩; obtain ⟨hc_hb1, hf_hb1⟩ := bcell hb1; obtain ⟨hcA_hb1, hfA_hb1⟩ := bcellG (W0 := w) hb1 (by (repeat' (first | (with_reducible exact Below.refl _ _) | (with_reducible assumption) | (with_reducible refine Below.alloc ?_ ?_ _) | (with_reducible refine Below.drew ?_) | (with_reducible refine below_drewN ?_ _) | (with_reducible refine Below.setCell ?_ ?_ _) | (with_reducible refine Below.trans ?_ (Below.mono (by with_reducible assumption) ?_)) | (with_reducible exact Below.size (by with_reducible assumption)) | go_size))); have hz_hb1 := hb1.size; (try simp at hz_hb1); (try simp only [Nat.add_one_le_iff] at hz_hb1); have hz0_hb1 : w.heap.size < w1.heap.size := (by omega); have hz1_hb1 : w.heap.size + 1 < w1.heap.size := (by omega)
  go_wp2_with fail
  refine bodyPost_ret (v := .tuple #[.agg #[.slice none 0 0, .slice none 0 0], .int .i64 1]) (by simp [*, results, Try.results16, go_sem]) rfl ?_
  refine ⟨_, _, [], rfl, ownP_nil _ _, ?_⟩
  (repeat' (first | (with_reducible exact Below.refl _ _) | (with_reducible assumption) | (with_reducible refine Below.alloc ?_ ?_ _) | (with_reducible refine Below.drew ?_) | (with_reducible refine below_drewN ?_ _) | (with_reducible refine Below.setCell ?_ ?_ _) | (with_reducible refine Below.trans ?_ (Below.mono (by with_reducible assumption) ?_)) | (with_reducible exact Below.size (by with_reducible assumption)) | go_size))

theorem sscale_err2a (m q : Value) (M : List (List Int)) (Q : List Int) (i k : Int) (w : World) (h1 : PM.Rows w m M) (h2 : Ints w q Q) (hp : isPB M Q = true) (hn5 : Q.length ≤ 5)
    (hin : decide (0 ≤ i ∧ i ≤ (Q.length : Int) - 1) = false) :
    Calls Try.prog 16 #[.agg #[m, q], .int .i64 i, .int .i64 k] w (OutP w ([], [], 2)) := by
  have g1 := fun (w' : World) (h : Below w.heap.size w w') => h1.below h
  have g2 := fun (w' : World) (h : Below w.heap.size w w') => h2.below h
  obtain ⟨a1, c1, rfl, _⟩ := h1
  obtain ⟨a2, c2, rfl, _⟩ := h2
  have HP := Lib.hid hp
  have HI := Lib.hid hin
  clear hp hin
  go_enter Try.func16, Try.ntmps16
  go_wp2_with fail
  refine (l01Is_any _ _ M Q _ (g1 _ (by (repeat' (first | (with_reducible exact Below.refl _ _) | (with_reducible assumption) | (with_reducible refine Below.alloc ?_ ?_ _) | (with_reducible refine Below.drew ?_) | (with_reducible refine below_drewN ?_ _) | (with_reducible refine Below.setCell ?_ ?_ _) | (with_reducible refine Below.trans ?_ (Below.mono (by with_reducible assumption) ?_)) | (with_reducible exact Below.size (by with_reducible assumption)) | go_size)))) (g2 _ (by (repeat' (first | (with_reducible exact Below.refl _ _) | (with_reducible assumption) | (with_reducible refine Below.alloc ?_ ?_ _) | (with_reducible refine Below.drew ?_) | (with_reducible refine below_drewN ?_ _) | (with_reducible refine Below.setCell ?_ ?_ _) | (with_reducible refine Below.trans ?_ (Below.mono (by with_reducible assumption) ?_)) | (with_reducible exact Below.size (by with_reducible assumption)) | go_size))))).mono ?_; rw [HP.out]; rintro e w1 ⟨rfl, hb1⟩; obtain ⟨hc_hb1, hf_hb1⟩ := bcell hb1; obtain ⟨hcA_hb1, hfA_hb1⟩ := bcellG (W0 := w) hb1 (by (repeat' (first | (with_reducible exact Below.refl _ _) | (with_reducible assumption) | (with_reducible refine Below.alloc ?_ ?_ _) | (with_reducible refine Below.drew ?_) | (with_reducible refine below_drewN ?_ _) | (with_reducible refine Below.setCell ?_ ?_ _) | (with_reducible refine Below.trans ?_ (Below.mono (by with_reducible assumption) ?_)) | (with_reducible exact Below.size (by with_reducible assumption)) | go_size))); have hz_hb1 := hb1.size; (try simp at hz_hb1); (try simp only [Nat.add_one_le_iff] at hz_hb1); have hz0_hb1 : w.heap.size < w1.heap.size := (by omega); have hz1_hb1 : w.heap.size + 1 < w1.heap.size := (by omega)
  go_wp2_with fail
  refine (l01In_is i 0 ((Q.length : Int) - 1) false _ HI.out).mono ?_; rintro e w2 ⟨rfl, rfl⟩
  go_wp2_with fail
  refine bodyPost_ret (v := .tuple #[.agg #[.slice none 0 0, .slice none 0 0], .int .i64 2]) (by simp [*, results, Try.results16, go_sem]) rfl ?_
  refine ⟨_, _, [], rfl, ownP_nil _ _, ?_⟩
  (repeat' (first | (with_reducible exact Below.refl _ _) | (with_reducible assumption) | (with_reducible refine Below.alloc ?_ ?_ _) | (with_reducible refine Below.drew ?_) | (with_reducible refine below_drewN ?_ _) | (with_reducible refine Below.setCell ?_ ?_ _) | (with_reducible refine Below.trans ?_ (Below.mono (by with_reducible assumption) ?_)) | (with_reducible exact Below.size (by with_reducible assumption)) | go_size))
theorem sscale_err2b (m q : Value) (M : List (List Int)) (Q : List Int) (i k : Int) (w : World) (h1 : PM.Rows w m M) (h2 : Ints w q Q) (hp : isPB M Q = true) (hn5 : Q.length ≤ 5)
    (hin : decide (0 ≤ i ∧ i ≤ (Q.length : Int) - 1) = true) (hkn : decide (1 ≤ k ∧ k ≤ (100 : Int)) = false) :
    Calls Try.prog 16 #[.agg #[m, q], .int .i64 i, .int .i64 k] w (OutP w ([], [], 2)) := by
  have g1 := fun (w' : World) (h : Below w.heap.size w w') => h1.below h
  have g2 := fun (w' : World) (h : Below w.heap.size w w') => h2.below h
  obtain ⟨a1, c1, rfl, _⟩ := h1
  obtain ⟨a2, c2, rfl, _⟩ := h2
  have HP := Lib.hid hp
  have HI := Lib.hid hin
  have HK := Lib.hid hkn
  clear hp hin hkn
  go_enter Try.func16, Try.ntmps16
  go_wp2_with fail
  refine (l01Is_any _ _ M Q _ (g1 _ (by (repeat' (first | (with_reducible exact Below.refl _ _) | (with_reducible assumption) | (with_reducible refine Below.alloc ?_ ?_ _) | (with_reducible refine Below.drew ?_) | (with_reducible refine below_drewN ?_ _) | (with_reducible refine Below.setCell ?_ ?_ _) | (with_reducible refine Below.trans ?_ (Below.mono (by with_reducible assumption) ?_)) | (with_reducible exact Below.size (by with_reducible assumption)) | go_size)))) (g2 _ (by (repeat' (first | (with_reducible exact Below.refl _ _) | (with_reducible assumption) | (with_reducible refine Below.alloc ?_ ?_ _) | (with_reducible refine Below.drew ?_) | (with_reducible refine below_drewN ?_ _) | (with_reducible refine Below.setCell ?_ ?_ _) | (with_reducible refine Below.trans ?_ (Below.mono (by with_reducible assumption) ?_)) | (with_reducible exact Below.size (by with_reducible assumption)) | go_size))))).mono ?_; rw [HP.out]; rintro e w1 ⟨rfl, hb1⟩; obtain ⟨hc_hb1, hf_hb1⟩ := bcell hb1; obtain ⟨hcA_hb1, hfA_hb1⟩ := bcellG (W0 := w) hb1 (by (repeat' (first | (with_reducible exact Below.refl _ _) | (with_reducible assumption) | (with_reducible refine Below.alloc ?_ ?_ _) | (with_reducible refine Below.drew ?_) | (with_reducible refine below_drewN ?_ _) | (with_reducible refine Below.setCell ?_ ?_ _) | (with_reducible refine Below.trans ?_ (Below.mono (by with_reducible assumption) ?_)) | (with_reducible exact Below.size (by with_reducible assumption)) | go_size))); have hz_hb1 := hb1.size; (try simp at hz_hb1); (try simp only [Nat.add_one_le_iff] at hz_hb1); have hz0_hb1 : w.heap.size < w1.heap.size := (by omega); have hz1_hb1 : w.heap.size + 1 < w1.heap.size := (by omega)
  go_wp2_with fail
  refine (l01In_is i 0 ((Q.length : Int) - 1) true _ HI.out).mono ?_; rintro e w2 ⟨rfl, rfl⟩
  go_wp2_with fail
  refine (l01In_is k 1 100 false _ HK.out).mono ?_; rintro e w2 ⟨rfl, rfl⟩
  go_wp2_with fail
  refine bodyPost_ret (v := .tuple #[.agg #[.slice none 0 0, .slice none 0 0], .int .i64 2]) (by simp [*, results, Try.results16, go_sem]) rfl ?_
  refine ⟨_, _, [], rfl, ownP_nil _ _, ?_⟩
  (repeat' (first | (with_reducible exact Below.refl _ _) | (with_reducible assumption) | (with_reducible refine Below.alloc ?_ ?_ _) | (with_reducible refine Below.drew ?_) | (with_reducible refine below_drewN ?_ _) | (with_reducible refine Below.setCell ?_ ?_ _) | (with_reducible refine Below.trans ?_ (Below.mono (by with_reducible assumption) ?_)) | (with_reducible exact Below.size (by with_reducible assumption)) | go_size))

/-- l01Copy's answer with its slices written out. -/
theorem l01Copy_out (m q : Value) (M : List (List Int)) (Q : List Int) (w : World) (h1 : PM.Rows w m M) (h2 : Ints w q Q) (h0 : M ≠ []) (hne : ∀ i, i < M.length → M.getD i [] ≠ []) (hq0 : Q ≠ []) (hn : tot M ≤ 1048576) (hn2 : Q.length ≤ 1048576) :
    Calls Try.prog 58 #[.agg #[m, q]] w fun e w' => ∃ gm cm gq cq us, e = .returned (.agg #[.slice (some ⟨gm, 0, none⟩) M.length cm, .slice (some ⟨gq, 0, none⟩) Q.length cq]) ∧ w.heap.size ≤ gm ∧ gm < w'.heap.size ∧ w.heap.size ≤ gq ∧ gq < w'.heap.size ∧ gm ≠ gq ∧
      FreshP w.heap.size w' (.slice (some ⟨gm, 0, none⟩) M.length cm) (.slice (some ⟨gq, 0, none⟩) Q.length cq) M Q us ∧ Below w.heap.size w w' := by
  refine (l01Copy_any m q M Q w h1 h2 h0 hne hq0 hn hn2).mono ?_
  rintro e w' ⟨m', q', us, rfl, hfp, hb⟩
  obtain ⟨gm, cm, rfl, hm1, hm2⟩ := hfp.rows.top
  obtain ⟨gq, cq, rfl, hq1, hq2, _⟩ := hfp.right
  exact ⟨gm, cm, gq, cq, us, rfl, hm1, hm2, hq1, hq2, fun c => (hfp.apart gq rfl).1 (by rw [c]; rfl), hfp, hb⟩

theorem specScaleRow_any (m q : Value) (M : List (List Int)) (Q : List Int) (i k : Int) (w : World) (h1 : PM.Rows w m M) (h2 : Ints w q Q) :
    Calls Try.prog 16 #[.agg #[m, q], .int .i64 i, .int .i64 k] w (OutP w (scaleOut M Q i k)) := by
  by_cases hp : isPB M Q = true
  case neg =>
    have hp' : isPB M Q = false := by simpa using hp
    have e : scaleOut M Q i k = ([], [], 1) := by unfold scaleOut; rw [if_pos hp']
    rw [e]
    exact sscale_err1 m q M Q i k w h1 h2 hp'
  obtain ⟨f1, f2, f3, f4, f5⟩ := isPB_facts hp
  by_cases hrng : i < 0 ∨ (M.length : Int) ≤ i ∨ k < 1 ∨ 100 < k
  · have e : scaleOut M Q i k = ([], [], 2) := by unfold scaleOut; rw [if_neg (by simp [hp]), if_pos hrng]
    rw [e]
    by_cases hin : 0 ≤ i ∧ i ≤ (Q.length : Int) - 1
    · exact sscale_err2b m q M Q i k w h1 h2 hp (by omega) (decide_eq_true hin) (decide_eq_false (by omega))
    · exact sscale_err2a m q M Q i k w h1 h2 hp (by omega) (decide_eq_false hin)
  have g1 := fun (w' : World) (h : Below w.heap.size w w') => h1.below h
  have g2 := fun (w' : World) (h : Below w.heap.size w w') => h2.below h
  obtain ⟨a1, c1, rfl, _⟩ := h1
  obtain ⟨a2, c2, rfl, _⟩ := h2
  have hr1 : 0 ≤ i := by omega
  have hr2 : i < M.length := by omega
  have hk1 : 1 ≤ k := by omega
  have hk2 : k ≤ 100 := by omega
  obtain ⟨ι, rfl⟩ := Int.eq_ofNat_of_zero_le hr1
  have hι : ι < M.length := by omega
  have hin : decide (0 ≤ (ι : Int) ∧ (ι : Int) ≤ (Q.length : Int) - 1) = true := decide_eq_true (by omega)
  have hkn : decide (1 ≤ k ∧ k ≤ (100 : Int)) = true := decide_eq_true (by omega)
  have e0 : scaleOut M Q (ι : Int) k = if isPB (scM M ι k) (scQ Q ι k) = false then ([], [], 3) else (scM M ι k, scQ Q ι k, 0) := by
    unfold scaleOut; rw [if_neg (by simp [hp]), if_neg hrng, Int.toNat_natCast]
  rw [e0]
  clear e0 hrng
  generalize hoe : (if isPB (scM M ι k) (scQ Q ι k) = false then (([], [], 3) : List (List Int) × List Int × Int) else (scM M ι k, scQ Q ι k, 0)) = o
  have HO := Lib.hid hoe
  clear hoe
  have htot := tot_small hp
  have hP := Lib.hid hp
  have H4 := Lib.hid f4
  have H3 := Lib.hid f3
  have HT := Lib.hid htot
  have HI := Lib.hid hin
  have HK := Lib.hid hkn
  have hqm : -10000 ≤ k * Q.getD ι 0 ∧ k * Q.getD ι 0 ≤ 10000 := by
    have hb := f5 ι (by omega)
    have := mul_bd (a := Q.getD ι 0) (b := k) (A := 100) (B := 100) (by omega) (by omega) (by omega) (by omega)
    rw [Int.mul_comm]
    omega
  have hne1 : M ≠ [] := by intro c; rw [c] at f1; simp at f1
  have hne2 : Q ≠ [] := by intro c; rw [c] at f3; simp at f3; omega
  have hne3 : ∀ j, j < M.length → M.getD j [] ≠ [] := fun j hj c => by have := (f4 j hj).1; rw [c] at this; simp at this; omega
  have hql : Q.length ≤ 1048576 := by omega
  have hq5 : Q.length ≤ 5 := by omega
  have HQL := Lib.hid hql
  have HQM := Lib.hid hqm
  have N1 := Lib.hid hne1
  have N2 := Lib.hid hne2
  have N3 := Lib.hid hne3
  clear hp f4 htot f5 hne1 hne2 hne3 hql hqm f3 hin hkn
  go_enter Try.func16, Try.ntmps16
  go_wp2_with fail
  refine (l01Is_any _ _ M Q _ (g1 _ (by (repeat' (first | (with_reducible exact Below.refl _ _) | (with_reducible assumption) | (with_reducible refine Below.alloc ?_ ?_ _) | (with_reducible refine Below.drew ?_) | (with_reducible refine below_drewN ?_ _) | (with_reducible refine Below.setCell ?_ ?_ _) | (with_reducible refine Below.trans ?_ (Below.mono (by with_reducible assumption) ?_)) | (with_reducible exact Below.size (by with_reducible assumption)) | go_size)))) (g2 _ (by (repeat' (first | (with_reducible exact Below.refl _ _) | (with_reducible assumption) | (with_reducible refine Below.alloc ?_ ?_ _) | (with_reducible refine Below.drew ?_) | (with_reducible refine below_drewN ?_ _) | (with_reducible refine Below.setCell ?_ ?_ _) | (with_reducible refine Below.trans ?_ (Below.mono (by with_reducible assumption) ?_)) | (with_reducible exact Below.size (by with_reducible assumption)) | go_size))))).mono ?_; rw [hP.out]; rintro e w1 ⟨rfl, hb1⟩; obtain ⟨hc_hb1, hf_hb1⟩ := bcell hb1; obtain ⟨hcA_hb1, hfA_hb1⟩ := bcellG (W0 := w) hb1 (by (repeat' (first | (with_reducible exact Below.refl _ _) | (with_reducible assumption) | (with_reducible refine Below.alloc ?_ ?_ _) | (with_reducible refine Below.drew ?_) | (with_reducible refine below_drewN ?_ _) | (with_reducible refine Below.setCell ?_ ?_ _) | (with_reducible refine Below.trans ?_ (Below.mono (by with_reducible assumption) ?_)) | (with_reducible exact Below.size (by with_reducible assumption)) | go_size))); have hz_hb1 := hb1.size; (try simp at hz_hb1); (try simp only [Nat.add_one_le_iff] at hz_hb1); have hz0_hb1 : w.heap.size < w1.heap.size := (by omega); have hz1_hb1 : w.heap.size + 1 < w1.heap.size := (by omega)
  have hw1 : Below w.heap.size w w1 := by (repeat' (first | (with_reducible exact Below.refl _ _) | (with_reducible assumption) | (with_reducible refine Below.alloc ?_ ?_ _) | (with_reducible refine Below.drew ?_) | (with_reducible refine below_drewN ?_ _) | (with_reducible refine Below.setCell ?_ ?_ _) | (with_reducible refine Below.trans ?_ (Below.mono (by with_reducible assumption) ?_)) | (with_reducible exact Below.size (by with_reducible assumption)) | go_size))
  go_wp2_with fail
  refine (l01In_is _ 0 ((Q.length : Int) - 1) true _ HI.out).mono ?_; rintro e w2 ⟨rfl, rfl⟩
  go_wp2_with fail
  refine (l01In_is k 1 100 true _ HK.out).mono ?_; rintro e w2 ⟨rfl, rfl⟩
  go_wp2_with fail
  refine (l01Copy_out _ _ M Q _ (g1 _ (by (repeat' (first | (with_reducible exact Below.refl _ _) | (with_reducible assumption) | (with_reducible refine Below.alloc ?_ ?_ _) | (with_reducible refine Below.drew ?_) | (with_reducible refine below_drewN ?_ _) | (with_reducible refine Below.setCell ?_ ?_ _) | (with_reducible refine Below.trans ?_ (Below.mono (by with_reducible assumption) ?_)) | (with_reducible exact Below.size (by with_reducible assumption)) | go_size)))) (g2 _ (by (repeat' (first | (with_reducible exact Below.refl _ _) | (with_reducible assumption) | (with_reducible refine Below.alloc ?_ ?_ _) | (with_reducible refine Below.drew ?_) | (with_reducible refine below_drewN ?_ _) | (with_reducible refine Below.setCell ?_ ?_ _) | (with_reducible refine Below.trans ?_ (Below.mono (by with_reducible assumption) ?_)) | (with_reducible exact Below.size (by with_reducible assumption)) | go_size)))) N1.out N3.out N2.out HT.out HQL.out).mono ?_
  rintro e w2 ⟨gm, cm, gq, cq, us, rfl, hgm1, hgm2, hgq1, hgq2, hgmq, hfp, hb2⟩
  obtain ⟨_, _, hqe, _, _, hoq⟩ := hfp.right
  obtain ⟨rfl, rfl⟩ : _ ∧ _ := by simpa using hqe
  have hoR := hfp.rows.own.rows ι hι
  obtain ⟨gr, cr, hur⟩ := own_nonempty hoR (N3.out ι hι)
  have hgr := hfp.rows.rows ι gr hι (by rw [hur]; rfl)
  have htop := top_cell hfp.rows.own hι
  rw [hur] at htop
  obtain ⟨hc_hb2, hf_hb2⟩ := bcell hb2; obtain ⟨hcA_hb2, hfA_hb2⟩ := bcellG (W0 := w1) hb2 (by (repeat' (first | (with_reducible exact Below.refl _ _) | (with_reducible assumption) | (with_reducible refine Below.alloc ?_ ?_ _) | (with_reducible refine Below.drew ?_) | (with_reducible refine below_drewN ?_ _) | (with_reducible refine Below.setCell ?_ ?_ _) | (with_reducible refine Below.trans ?_ (Below.mono (by with_reducible assumption) ?_)) | (with_reducible exact Below.size (by with_reducible assumption)) | go_size))); have hz_hb2 := hb2.size; (try simp at hz_hb2); (try simp only [Nat.add_one_le_iff] at hz_hb2)
  have hz0_2 : w.heap.size < w2.heap.size := by omega
  have hz1_2 : w.heap.size + 1 < w2.heap.size := by omega
  have hne_q : ¬ gq = w2.heap.size := by omega
  have hne_m : ¬ gm = w2.heap.size := by omega
  have hne_r : ¬ gr = w2.heap.size := by omega
  have hbt : Below w.heap.size w w2 := hw1.trans (hb2.mono hw1.size)
  have hr0 : w2.cell? ⟨w.heap.size + 1, 0, none⟩ = some (.slice none 0 0) := by rw [hc_hb2 _ _ hz1_hb1, hc_hb1 _ _ (by simp)]; simp
  have hr1 : w2.cell? ⟨w.heap.size + 1, 1, none⟩ = some (.slice none 0 0) := by rw [hc_hb2 _ _ hz1_hb1, hc_hb1 _ _ (by simp)]; simp
  have hrf : ∀ o, w2.frozen? ⟨w.heap.size + 1, o, none⟩ = false := fun o => by rw [hf_hb2 _ _ hz1_hb1, hf_hb1 _ _ (by simp)]; simp
  have hS0 : Sc w (w2.alloc (.cells #[.slice (some ⟨gm, 0, none⟩) M.length cm, .slice (some ⟨gq, 0, none⟩) Q.length cq] 27)) w1.heap.size w2.heap.size (.slice (some ⟨gm, 0, none⟩) M.length cm) (.slice (some ⟨gq, 0, none⟩) Q.length cq) (M.set ι (scPart (M.getD ι []) k 0)) Q us := by
    rw [scM_zero]
    exact Sc.start (w := w) hfp hr0 hr1 hrf hz1_2 hbt
  have HS0 := Lib.hid hS0
  have HU := Lib.hid hur
  clear hfp hoq hqe hoR hur hS0 hbt hr0 hr1 hrf
  obtain ⟨n, hn⟩ : ∃ n, n = (M.getD ι []).length := ⟨_, rfl⟩
  have hn5 : n ≤ 5 := by rw [hn, (H4.out ι hι).1]; omega
  rw [← hn] at htop
  have HNN := Lib.hid hn
  clear hn
  have hB : w.heap.size + 1 < gr := by omega
  have hBq : w.heap.size + 1 < gq := by omega
  go_wp2_with fail
  go_loopw [10] (fun i wr => ∃ (c : Nat), c ≤ n ∧ i = .int .i64 c ∧ Sc w wr w1.heap.size w2.heap.size (.slice (some ⟨gm, 0, none⟩) M.length cm) (.slice (some ⟨gq, 0, none⟩) Q.length cq) (M.set ι (scPart (M.getD ι []) k c)) Q us) (fun i _ => n - (intOf i).toNat)
  case atStart => exact ⟨0, Nat.zero_le _, rfl, HS0.out⟩
  case round =>
    obtain ⟨c, hc, rfl, hS⟩ := hrel
    by_cases hlt2 : c < n
    · have hlc : c < (M.getD ι []).length := by have := HNN.out; omega
      obtain ⟨hce, hfe⟩ := hS.cellRow hι hlc HU.out
      have hst := hS.step hι hlc HU.out hne_r hB
      rw [Int.mul_comm] at hst
      have hbd := (H4.out ι hι).2 c (by have := (H4.out ι hι).1; omega)
      have hym : -2000 ≤ k * (M.getD ι []).getD c 0 ∧ k * (M.getD ι []).getD c 0 ≤ 2000 := by
        have := mul_bd (a := (M.getD ι []).getD c 0) (b := k) (A := 20) (B := 100) (by omega) (by omega) (by omega) (by omega)
        rw [Int.mul_comm]
        omega
      have HST := Lib.hid hst
      clear hst hS hbd hlc
      generalize (M.getD ι []).getD c 0 = y at *
      go_wp2_with fail
      go_roundw
      case rel => exact ⟨c + 1, by omega, by go_num, HST.out⟩
      case measure => simp [intOf]; omega
    · obtain rfl : c = n := by omega
      have hM : M.set ι (scPart (M.getD ι []) k c) = scM M ι k := by rw [HNN.out]; exact scM_end M ι k
      rw [hM] at hS
      have hιq : ι < Q.length := by have := H3.out; omega
      have hoq := hS.fresh.right
      obtain ⟨_, _, hqe, _, _, hoq⟩ := hoq
      obtain ⟨rfl, rfl⟩ : _ ∧ _ := by simpa using hqe
      have hcq := own_cell hoq (j := ι) hιq
      have hfq := own_frozen hoq ι
      have hn1 := hS.c1
      have hn0 := hS.c0
      have hS2 := hS.setRight hne_q hBq ι (Q.getD ι 0 * k)
      rw [Int.mul_comm] at hS2
      have HS2 := Lib.hid hS2
      have hqm := HQM.out
      clear hS2 hS hoq hqe hM
      generalize hx : Q.getD ι 0 = x at *
      go_wp2_with fail
      go_region
      obtain ⟨W3, hW3⟩ : ∃ W3, W3 = wr.setCell ⟨gq, ι, none⟩ (.int .i64 (k * x)) := ⟨_, rfl⟩
      rw [← hW3] at HS2 ⊢
      clear hW3 hcq hfq hn0 hn1
      have hS := HS2.out
      obtain ⟨hi1, hi2⟩ := sc_i64 hP.out hι hk1 hk2
      have hQx : Q.set ι (k * x) = scQ Q ι k := by rw [← hx, Int.mul_comm]; rfl
      rw [hQx] at hS
      obtain ⟨hrd1, hrd2⟩ := hS.fresh.reads hi1 hi2
      have hn0 := hS.c0
      have hn1 := hS.c1
      have hr0 := hS.r0
      have hr1 := hS.r1
      have hrf := hS.rf
      have hzr1 := hS.lt
      have hzr0 : w.heap.size < W3.heap.size := by omega
      have hzN : w2.heap.size < W3.heap.size := World.block_lt_of_cell? W3 _ hn0
      have HS := Lib.hid hS
      have HR1 := Lib.hid hrd1
      have HR2 := Lib.hid hrd2
      clear hS hi1 hi2 hrd1 hrd2 hQx HS2
      cases hib : isPB (scM M ι k) (scQ Q ι k)
      case false =>
        have ho : o = ([], [], 3) := by rw [← HO.out, if_pos hib]
        subst ho
        have HIB := Lib.hid hib
        clear hib
        go_wp2_with fail
        refine (l01Is_any _ _ (scM M ι k) (scQ Q ι k) _ (HR1.out.below (by (repeat' (first | (with_reducible exact Below.refl _ _) | (with_reducible assumption) | (with_reducible refine Below.alloc ?_ ?_ _) | (with_reducible refine Below.drew ?_) | (with_reducible refine below_drewN ?_ _) | (with_reducible refine Below.setCell ?_ ?_ _) | (with_reducible refine Below.trans ?_ (Below.mono (by with_reducible assumption) ?_)) | (with_reducible exact Below.size (by with_reducible assumption)) | go_size)))) (HR2.out.below (by (repeat' (first | (with_reducible exact Below.refl _ _) | (with_reducible assumption) | (with_reducible refine Below.alloc ?_ ?_ _) | (with_reducible refine Below.drew ?_) | (with_reducible refine below_drewN ?_ _) | (with_reducible refine Below.setCell ?_ ?_ _) | (with_reducible refine Below.trans ?_ (Below.mono (by with_reducible assumption) ?_)) | (with_reducible exact Below.size (by with_reducible assumption)) | go_size))))).mono ?_; rw [HIB.out]; rintro e w4 ⟨rfl, hb4⟩
        have hb5 : Below W3.heap.size W3 w4 := by (repeat' (first | (with_reducible exact Below.refl _ _) | (with_reducible assumption) | (with_reducible refine Below.alloc ?_ ?_ _) | (with_reducible refine Below.drew ?_) | (with_reducible refine below_drewN ?_ _) | (with_reducible refine Below.setCell ?_ ?_ _) | (with_reducible refine Below.trans ?_ (Below.mono (by with_reducible assumption) ?_)) | (with_reducible exact Below.size (by with_reducible assumption)) | go_size))
        clear hb4
        obtain ⟨hc_hb5, hf_hb5⟩ := bcell hb5; obtain ⟨hcA_hb5, hfA_hb5⟩ := bcellG (W0 := W3) hb5 (by (repeat' (first | (with_reducible exact Below.refl _ _) | (with_reducible assumption) | (with_reducible refine Below.alloc ?_ ?_ _) | (with_reducible refine Below.drew ?_) | (with_reducible refine below_drewN ?_ _) | (with_reducible refine Below.setCell ?_ ?_ _) | (with_reducible refine Below.trans ?_ (Below.mono (by with_reducible assumption) ?_)) | (with_reducible exact Below.size (by with_reducible assumption)) | go_size))); have hz_hb5 := hb5.size; (try simp at hz_hb5); (try simp only [Nat.add_one_le_iff] at hz_hb5)
        go_wp2_with fail
        refine bodyPost_ret (v := .tuple #[.agg #[.slice none 0 0, .slice none 0 0], .int .i64 3]) (by simp [*, results, Try.results16, go_sem]) rfl ?_
        have hbb : Below w.heap.size w w4 := HS.out.below.trans (hb5.mono (by omega))
        exact ⟨_, _, [], rfl, ownP_nil _ _, (hbb.setCell (by simp) _).setCell (by simp) _⟩
      case true =>
        have ho : o = (scM M ι k, scQ Q ι k, 0) := by rw [← HO.out, if_neg (by rw [hib]; exact Bool.noConfusion)]
        subst ho
        have HIB := Lib.hid hib
        clear hib
        go_wp2_with fail
        refine (l01Is_any _ _ (scM M ι k) (scQ Q ι k) _ (HR1.out.below (by (repeat' (first | (with_reducible exact Below.refl _ _) | (with_reducible assumption) | (with_reducible refine Below.alloc ?_ ?_ _) | (with_reducible refine Below.drew ?_) | (with_reducible refine below_drewN ?_ _) | (with_reducible refine Below.setCell ?_ ?_ _) | (with_reducible refine Below.trans ?_ (Below.mono (by with_reducible assumption) ?_)) | (with_reducible exact Below.size (by with_reducible assumption)) | go_size)))) (HR2.out.below (by (repeat' (first | (with_reducible exact Below.refl _ _) | (with_reducible assumption) | (with_reducible refine Below.alloc ?_ ?_ _) | (with_reducible refine Below.drew ?_) | (with_reducible refine below_drewN ?_ _) | (with_reducible refine Below.setCell ?_ ?_ _) | (with_reducible refine Below.trans ?_ (Below.mono (by with_reducible assumption) ?_)) | (with_reducible exact Below.size (by with_reducible assumption)) | go_size))))).mono ?_; rw [HIB.out]; rintro e w4 ⟨rfl, hb4⟩
        have hb5 : Below W3.heap.size W3 w4 := by (repeat' (first | (with_reducible exact Below.refl _ _) | (with_reducible assumption) | (with_reducible refine Below.alloc ?_ ?_ _) | (with_reducible refine Below.drew ?_) | (with_reducible refine below_drewN ?_ _) | (with_reducible refine Below.setCell ?_ ?_ _) | (with_reducible refine Below.trans ?_ (Below.mono (by with_reducible assumption) ?_)) | (with_reducible exact Below.size (by with_reducible assumption)) | go_size))
        clear hb4
        obtain ⟨hc_hb5, hf_hb5⟩ := bcell hb5; obtain ⟨hcA_hb5, hfA_hb5⟩ := bcellG (W0 := W3) hb5 (by (repeat' (first | (with_reducible exact Below.refl _ _) | (with_reducible assumption) | (with_reducible refine Below.alloc ?_ ?_ _) | (with_reducible refine Below.drew ?_) | (with_reducible refine below_drewN ?_ _) | (with_reducible refine Below.setCell ?_ ?_ _) | (with_reducible refine Below.trans ?_ (Below.mono (by with_reducible assumption) ?_)) | (with_reducible exact Below.size (by with_reducible assumption)) | go_size))); have hz_hb5 := hb5.size; (try simp at hz_hb5); (try simp only [Nat.add_one_le_iff] at hz_hb5)
        go_wp2_with fail
        refine bodyPost_ret (v := .tuple #[.agg #[.slice (some ⟨gm, 0, none⟩) M.length cm, .slice (some ⟨gq, 0, none⟩) Q.length cq], .int .i64 0]) (by simp [*, results, Try.results16, go_sem]) rfl ?_
        have hbb : Below w.heap.size w w4 := HS.out.below.trans (hb5.mono (by omega))
        have hfr := ((HS.out.fresh.below hb5).tch (bs := [w.heap.size + 1]) (((Tch.refl _ w4).setCell (p := ⟨w.heap.size + 1, 0, none⟩) (by simp) (.slice (some ⟨gm, 0, none⟩) M.length cm)).setCell (p := ⟨w.heap.size + 1, 1, none⟩) (by simp) (.slice (some ⟨gq, 0, none⟩) Q.length cq)) (fun b hb => by simp at hb; omega)).mono (C := w.heap.size) (by omega)
        exact ⟨_, _, us, rfl, hfr.ownP, (hbb.setCell (by simp) _).setCell (by simp) _⟩
end Go.Proofs.Ytmlfkgakbcjdgaa.PW
