/-
  Walks of the functions on fractions: what is told of a fraction, sums, products, comparisons, in the program and in the model.
-/
import Derived.Test.YtmlfkgakbcjdgaaFracWalkC
namespace Go.Proofs.Ytmlfkgakbcjdgaa.FW
open Go.RowKit Go.Proofs.Ytmlfkgakbcjdgaa
open Go.Proofs.Ytmlfkgakbcjdgaa.FM

theorem implIsFrac_is (n d : Int) (b : Bool) (w : World) (h : isF n d = b) :
    Calls Try.prog 120 #[.agg #[.int .i64 n, .int .i64 d]] w fun e w' => e = .returned (.bool b) ∧ Below w.heap.size w w' := by
  subst h; exact implIsFrac_any n d w
theorem specIsFrac_is (n d : Int) (b : Bool) (w : World) (h : isF n d = b) :
    Calls Try.prog 70 #[.agg #[.int .i64 n, .int .i64 d]] w fun e w' => e = .returned (.bool b) ∧ Below w.heap.size w w' := by
  subst h; exact specIsFrac_any n d w
theorem l01IsFrac_is (n d : Int) (b : Bool) (w : World) (h : isF n d = b) :
    Calls Try.prog 105 #[.agg #[.int .i64 n, .int .i64 d], .int .i64 1000000000] w fun e w' => e = .returned (.bool b) ∧ Below w.heap.size w w' := by
  subst h
  refine (l01IsFrac_any n d 1000000000 w (by omega) (by omega)).mono fun e w' ⟨he, hb⟩ => ⟨?_, hb⟩
  rw [he]
  refine ret_bool ?_
  unfold isF
  rw [decide_eq_decide]
  unfold IsF
  omega

theorem limitedFrac_any (n d : Int) (w : World) (ha : -9223372036854775807 ≤ n) (ha' : n ≤ 9223372036854775807) (hb : -9223372036854775807 ≤ d) (hb' : d ≤ 9223372036854775807) (h0 : d ≠ 0) :
    Calls Try.prog 106 #[.int .i64 n, .int .i64 d] w fun e w' => e = .returned (.tuple #[.agg #[.int .i64 (toldN n d), .int .i64 (toldD n d)], .int .i64 (toldC n d)]) ∧ Below w.heap.size w w' := by
  by_cases hf : isF (redN n d) (redD n d) = true
  · have e1 : toldN n d = redN n d := by unfold toldN; rw [if_pos hf]
    have e2 : toldD n d = redD n d := by unfold toldD; rw [if_pos hf]
    have e3 : toldC n d = 0 := by unfold toldC; rw [if_pos hf]
    rw [e1, e2, e3]
    clear e1 e2 e3
    have HF := Lib.hid hf
    clear hf
    go_enter Try.func106, Try.ntmps106
    go_wp2_with (first | (go_at_call 119; refine (lowestTerms_any _ _ _ (by omega) (by omega) (by omega) (by omega) (by omega)).mono ?_; rintro e w1 ⟨rfl, hb1⟩; obtain ⟨hc_hb1, hf_hb1⟩ := bcell hb1; have hz_hb1 := hb1.size; (try simp at hz_hb1); (try simp only [Nat.add_one_le_iff] at hz_hb1)) | (go_at_call 120; refine (implIsFrac_is _ _ _ _ HF.out).mono ?_; rintro e w2 ⟨rfl, hb2⟩; obtain ⟨hc_hb2, hf_hb2⟩ := bcell hb2; obtain ⟨hcA_hb2, hfA_hb2⟩ := bcellG (W0 := w1) hb2 (by (repeat' (first | (with_reducible exact Below.refl _ _) | (with_reducible assumption) | (with_reducible refine Below.alloc ?_ ?_ _) | (with_reducible refine Below.drew ?_) | (with_reducible refine below_drewN ?_ _) | (with_reducible refine Below.setCell ?_ ?_ _) | (with_reducible refine Below.trans ?_ (Below.mono (by with_reducible assumption) ?_)) | (with_reducible exact Below.size (by with_reducible assumption)) | go_size))); have hz_hb2 := hb2.size; (try simp at hz_hb2); (try simp only [Nat.add_one_le_iff] at hz_hb2)))
    refine bodyPost_ret (v := .tuple #[.agg #[.int .i64 (redN n d), .int .i64 (redD n d)], .int .i64 0]) (by simp [*, results, Try.results106, go_sem]) rfl ?_
    refine ⟨rfl, ?_⟩
    (repeat' (first | (with_reducible exact Below.refl _ _) | (with_reducible assumption) | (with_reducible refine Below.alloc ?_ ?_ _) | (with_reducible refine Below.drew ?_) | (with_reducible refine below_drewN ?_ _) | (with_reducible refine Below.setCell ?_ ?_ _) | (with_reducible refine Below.trans ?_ (Below.mono (by with_reducible assumption) ?_)) | (with_reducible exact Below.size (by with_reducible assumption)) | go_size))
  · have e1 : toldN n d = 0 := by unfold toldN; rw [if_neg hf]
    have e2 : toldD n d = 0 := by unfold toldD; rw [if_neg hf]
    have e3 : toldC n d = 3 := by unfold toldC; rw [if_neg hf]
    rw [e1, e2, e3]
    clear e1 e2 e3
    have hf' : isF (redN n d) (redD n d) = false := by simpa using hf
    have HF := Lib.hid hf'
    clear hf hf'
    go_enter Try.func106, Try.ntmps106
    go_wp2_with (first | (go_at_call 119; refine (lowestTerms_any _ _ _ (by omega) (by omega) (by omega) (by omega) (by omega)).mono ?_; rintro e w1 ⟨rfl, hb1⟩; obtain ⟨hc_hb1, hf_hb1⟩ := bcell hb1; have hz_hb1 := hb1.size; (try simp at hz_hb1); (try simp only [Nat.add_one_le_iff] at hz_hb1)) | (go_at_call 120; refine (implIsFrac_is _ _ _ _ HF.out).mono ?_; rintro e w2 ⟨rfl, hb2⟩; obtain ⟨hc_hb2, hf_hb2⟩ := bcell hb2; obtain ⟨hcA_hb2, hfA_hb2⟩ := bcellG (W0 := w1) hb2 (by (repeat' (first | (with_reducible exact Below.refl _ _) | (with_reducible assumption) | (with_reducible refine Below.alloc ?_ ?_ _) | (with_reducible refine Below.drew ?_) | (with_reducible refine below_drewN ?_ _) | (with_reducible refine Below.setCell ?_ ?_ _) | (with_reducible refine Below.trans ?_ (Below.mono (by with_reducible assumption) ?_)) | (with_reducible exact Below.size (by with_reducible assumption)) | go_size))); have hz_hb2 := hb2.size; (try simp at hz_hb2); (try simp only [Nat.add_one_le_iff] at hz_hb2)))
    refine bodyPost_ret (v := .tuple #[.agg #[.int .i64 0, .int .i64 0], .int .i64 3]) (by simp [*, results, Try.results106, go_sem]) rfl ?_
    refine ⟨rfl, ?_⟩
    (repeat' (first | (with_reducible exact Below.refl _ _) | (with_reducible assumption) | (with_reducible refine Below.alloc ?_ ?_ _) | (with_reducible refine Below.drew ?_) | (with_reducible refine below_drewN ?_ _) | (with_reducible refine Below.setCell ?_ ?_ _) | (with_reducible refine Below.trans ?_ (Below.mono (by with_reducible assumption) ?_)) | (with_reducible exact Below.size (by with_reducible assumption)) | go_size))

end Go.Proofs.Ytmlfkgakbcjdgaa.FW
