/-
  Walks of the functions on fractions: FracOf, sums, products, comparisons, in the program and in the model.
-/
import Derived.Test.YtcgomdoibkplpaaFracWalkD
namespace Go.Proofs.Ytcgomdoibkplpaa.FW
open Go.RowKit Go.Proofs.Ytcgomdoibkplpaa
open Go.Proofs.Ytcgomdoibkplpaa.FM

/-- A fraction and a code, as a value. -/
def outV (p : Int × Int × Int) : Value := .tuple #[.agg #[.int .i64 p.1, .int .i64 p.2.1], .int .i64 p.2.2]

theorem isWithin_b (x l : Int) (w : World) (h0 : 0 ≤ l) (h1 : l ≤ 1000000000000) :
    Calls Try.prog 21 #[.int .i64 x, .int .i64 l] w fun e w' => e = .returned (.bool (inB (-l) l x)) ∧ w = w' := isWithin_any x l w h0 h1
theorem l01In_b (n lo hi : Int) (w : World) :
    Calls Try.prog 23 #[.int .i64 n, .int .i64 lo, .int .i64 hi] w fun e w' => e = .returned (.bool (inB lo hi n)) ∧ w = w' := l01In_any n lo hi w

theorem limitedFrac_out (n d : Int) (w : World) (ha : -9223372036854775807 ≤ n) (ha' : n ≤ 9223372036854775807) (hb : -9223372036854775807 ≤ d) (hb' : d ≤ 9223372036854775807) (h0 : d ≠ 0) :
    Calls Try.prog 26 #[.int .i64 n, .int .i64 d] w fun e w' => e = .returned (.tuple #[.agg #[.int .i64 (toldN n d), .int .i64 (toldD n d)], .int .i64 (toldC n d)]) ∧ Below w.heap.size w w' :=
  limitedFrac_any n d w ha ha' hb hb' h0

/-- What the model tells of a fraction in lowest terms. -/
theorem l01Told_red (n d : Int) (w : World) :
    Calls Try.prog 24 #[.agg #[.int .i64 (redN n d), .int .i64 (redD n d)]] w fun e w' => e = .returned (.tuple #[.agg #[.int .i64 (toldN n d), .int .i64 (toldD n d)], .int .i64 (toldC n d)]) ∧ Below w.heap.size w w' :=
  l01Told_any (redN n d) (redD n d) w

theorem implFracOf_any (n d : Int) (w : World) :
    Calls Try.prog 12 #[.int .i64 n, .int .i64 d] w fun e w' => e = .returned (outV (fracOut n d)) ∧ Below w.heap.size w w' := by
  by_cases h : d = 0 ∨ inB (-1000000000000) 1000000000000 n = false ∨ inB (-1000000000000) 1000000000000 d = false
  · have e : fracOut n d = (0, 0, 2) := by unfold fracOut; rw [if_pos h]
    rw [e]
    clear e
    by_cases h0 : d = 0
    · subst h0
      clear h
      go_enter Try.func12, Try.ntmps12
      go_wp2_with (go_at_call 21; refine (isWithin_b _ _ _ (by omega) (by omega)).mono ?_; rintro e w1 ⟨rfl, rfl⟩)
      refine bodyPost_ret (v := .tuple #[.agg #[.int .i64 0, .int .i64 0], .int .i64 2]) (by simp [*, results, Try.results12, go_sem]) rfl ?_
      refine ⟨rfl, ?_⟩
      (repeat' (first | (with_reducible exact Below.refl _ _) | (with_reducible assumption) | (with_reducible refine Below.alloc ?_ ?_ _) | (with_reducible refine Below.drew ?_) | (with_reducible refine below_drewN ?_ _) | (with_reducible refine Below.setCell ?_ ?_ _) | (with_reducible refine Below.trans ?_ (Below.mono (by with_reducible assumption) ?_)) | (with_reducible exact Below.size (by with_reducible assumption)) | go_size))
    · have hd0 : (d == 0) = false := by simpa using h0
      by_cases hn : inB (-1000000000000) 1000000000000 n = false
      · clear h
        go_enter Try.func12, Try.ntmps12
        go_wp2_with (go_at_call 21; refine (isWithin_b _ _ _ (by omega) (by omega)).mono ?_; rintro e w1 ⟨rfl, rfl⟩)
        refine bodyPost_ret (v := .tuple #[.agg #[.int .i64 0, .int .i64 0], .int .i64 2]) (by simp [*, results, Try.results12, go_sem]) rfl ?_
        refine ⟨rfl, ?_⟩
        (repeat' (first | (with_reducible exact Below.refl _ _) | (with_reducible assumption) | (with_reducible refine Below.alloc ?_ ?_ _) | (with_reducible refine Below.drew ?_) | (with_reducible refine below_drewN ?_ _) | (with_reducible refine Below.setCell ?_ ?_ _) | (with_reducible refine Below.trans ?_ (Below.mono (by with_reducible assumption) ?_)) | (with_reducible exact Below.size (by with_reducible assumption)) | go_size))
      · have hd : inB (-1000000000000) 1000000000000 d = false := by
          rcases h with h | h | h
          · exact absurd h h0
          · exact absurd h hn
          · exact h
        have hn' : inB (-1000000000000) 1000000000000 n = true := by simpa using hn
        clear h hn
        go_enter Try.func12, Try.ntmps12
        go_wp2_with (go_at_call 21; refine (isWithin_b _ _ _ (by omega) (by omega)).mono ?_; rintro e w1 ⟨rfl, rfl⟩)
        refine bodyPost_ret (v := .tuple #[.agg #[.int .i64 0, .int .i64 0], .int .i64 2]) (by simp [*, results, Try.results12, go_sem]) rfl ?_
        refine ⟨rfl, ?_⟩
        (repeat' (first | (with_reducible exact Below.refl _ _) | (with_reducible assumption) | (with_reducible refine Below.alloc ?_ ?_ _) | (with_reducible refine Below.drew ?_) | (with_reducible refine below_drewN ?_ _) | (with_reducible refine Below.setCell ?_ ?_ _) | (with_reducible refine Below.trans ?_ (Below.mono (by with_reducible assumption) ?_)) | (with_reducible exact Below.size (by with_reducible assumption)) | go_size))
  · have e : fracOut n d = told n d := by unfold fracOut; rw [if_neg h]
    rw [e]
    have h0 : d ≠ 0 := fun c => h (.inl c)
    have hd0 : (d == 0) = false := by simpa using h0
    have hn : inB (-1000000000000) 1000000000000 n = true := by
      have : ¬ inB (-1000000000000) 1000000000000 n = false := fun c => h (.inr (.inl c))
      simpa using this
    have hd : inB (-1000000000000) 1000000000000 d = true := by
      have : ¬ inB (-1000000000000) 1000000000000 d = false := fun c => h (.inr (.inr c))
      simpa using this
    have bn := inB_yes hn
    have bd := inB_yes hd
    clear h e
    go_enter Try.func12, Try.ntmps12
    go_wp2_with (first | (go_at_call 21; refine (isWithin_b _ _ _ (by omega) (by omega)).mono ?_; rintro e w1 ⟨rfl, rfl⟩) | (go_at_call 26; refine (limitedFrac_out _ _ _ (by omega) (by omega) (by omega) (by omega) h0).mono ?_; rintro e w1 ⟨rfl, hb1⟩; obtain ⟨hc_hb1, hf_hb1⟩ := bcell hb1; have hz_hb1 := hb1.size; (try simp at hz_hb1); (try simp only [Nat.add_one_le_iff] at hz_hb1)))
    refine bodyPost_ret (v := .tuple #[.agg #[.int .i64 (toldN n d), .int .i64 (toldD n d)], .int .i64 (toldC n d)]) (by simp [*, results, Try.results12, go_sem]) rfl ?_
    refine ⟨rfl, ?_⟩
    (repeat' (first | (with_reducible exact Below.refl _ _) | (with_reducible assumption) | (with_reducible refine Below.alloc ?_ ?_ _) | (with_reducible refine Below.drew ?_) | (with_reducible refine below_drewN ?_ _) | (with_reducible refine Below.setCell ?_ ?_ _) | (with_reducible refine Below.trans ?_ (Below.mono (by with_reducible assumption) ?_)) | (with_reducible exact Below.size (by with_reducible assumption)) | go_size))

theorem specFracOf_any (n d : Int) (w : World) :
    Calls Try.prog 11 #[.int .i64 n, .int .i64 d] w fun e w' => e = .returned (outV (fracOut n d)) ∧ Below w.heap.size w w' := by
  by_cases h : d = 0 ∨ inB (-1000000000000) 1000000000000 n = false ∨ inB (-1000000000000) 1000000000000 d = false
  · have e : fracOut n d = (0, 0, 2) := by unfold fracOut; rw [if_pos h]
    rw [e]
    clear e
    by_cases h0 : d = 0
    · subst h0
      clear h
      go_enter Try.func11, Try.ntmps11
      go_wp2_with (go_at_call 23; refine (l01In_b _ _ _ _).mono ?_; rintro e w1 ⟨rfl, rfl⟩)
      refine bodyPost_ret (v := .tuple #[.agg #[.int .i64 0, .int .i64 0], .int .i64 2]) (by simp [*, results, Try.results11, go_sem]) rfl ?_
      refine ⟨rfl, ?_⟩
      (repeat' (first | (with_reducible exact Below.refl _ _) | (with_reducible assumption) | (with_reducible refine Below.alloc ?_ ?_ _) | (with_reducible refine Below.drew ?_) | (with_reducible refine below_drewN ?_ _) | (with_reducible refine Below.setCell ?_ ?_ _) | (with_reducible refine Below.trans ?_ (Below.mono (by with_reducible assumption) ?_)) | (with_reducible exact Below.size (by with_reducible assumption)) | go_size))
    · have hd0 : (d == 0) = false := by simpa using h0
      by_cases hn : inB (-1000000000000) 1000000000000 n = false
      · clear h
        go_enter Try.func11, Try.ntmps11
        go_wp2_with (go_at_call 23; refine (l01In_b _ _ _ _).mono ?_; rintro e w1 ⟨rfl, rfl⟩)
        refine bodyPost_ret (v := .tuple #[.agg #[.int .i64 0, .int .i64 0], .int .i64 2]) (by simp [*, results, Try.results11, go_sem]) rfl ?_
        refine ⟨rfl, ?_⟩
        (repeat' (first | (with_reducible exact Below.refl _ _) | (with_reducible assumption) | (with_reducible refine Below.alloc ?_ ?_ _) | (with_reducible refine Below.drew ?_) | (with_reducible refine below_drewN ?_ _) | (with_reducible refine Below.setCell ?_ ?_ _) | (with_reducible refine Below.trans ?_ (Below.mono (by with_reducible assumption) ?_)) | (with_reducible exact Below.size (by with_reducible assumption)) | go_size))
      · have hd : inB (-1000000000000) 1000000000000 d = false := by
          rcases h with h | h | h
          · exact absurd h h0
          · exact absurd h hn
          · exact h
        have hn' : inB (-1000000000000) 1000000000000 n = true := by simpa using hn
        clear h hn
        go_enter Try.func11, Try.ntmps11
        go_wp2_with (go_at_call 23; refine (l01In_b _ _ _ _).mono ?_; rintro e w1 ⟨rfl, rfl⟩)
        refine bodyPost_ret (v := .tuple #[.agg #[.int .i64 0, .int .i64 0], .int .i64 2]) (by simp [*, results, Try.results11, go_sem]) rfl ?_
        refine ⟨rfl, ?_⟩
        (repeat' (first | (with_reducible exact Below.refl _ _) | (with_reducible assumption) | (with_reducible refine Below.alloc ?_ ?_ _) | (with_reducible refine Below.drew ?_) | (with_reducible refine below_drewN ?_ _) | (with_reducible refine Below.setCell ?_ ?_ _) | (with_reducible refine Below.trans ?_ (Below.mono (by with_reducible assumption) ?_)) | (with_reducible exact Below.size (by with_reducible assumption)) | go_size))
  · have e : fracOut n d = told n d := by unfold fracOut; rw [if_neg h]
    rw [e]
    have h0 : d ≠ 0 := fun c => h (.inl c)
    have hd0 : (d == 0) = false := by simpa using h0
    have hn : inB (-1000000000000) 1000000000000 n = true := by
      have : ¬ inB (-1000000000000) 1000000000000 n = false := fun c => h (.inr (.inl c))
      simpa using this
    have hd : inB (-1000000000000) 1000000000000 d = true := by
      have : ¬ inB (-1000000000000) 1000000000000 d = false := fun c => h (.inr (.inr c))
      simpa using this
    have bn := inB_yes hn
    have bd := inB_yes hd
    clear h e
    go_enter Try.func11, Try.ntmps11
    go_wp2_with (first | (go_at_call 23; refine (l01In_b _ _ _ _).mono ?_; rintro e w1 ⟨rfl, rfl⟩) | (go_at_call 25; refine (l01Frac_any _ _ _ (by omega) (by omega) (by omega) (by omega) h0).mono ?_; rintro e w1 ⟨rfl, hb1⟩; obtain ⟨hc_hb1, hf_hb1⟩ := bcell hb1; have hz_hb1 := hb1.size; (try simp at hz_hb1); (try simp only [Nat.add_one_le_iff] at hz_hb1)) | (go_at_call 24; refine (l01Told_red _ _ _).mono ?_; rintro e w2 ⟨rfl, hb2⟩; obtain ⟨hc_hb2, hf_hb2⟩ := bcell hb2; obtain ⟨hcA_hb2, hfA_hb2⟩ := bcellG (W0 := w1) hb2 (by (repeat' (first | (with_reducible exact Below.refl _ _) | (with_reducible assumption) | (with_reducible refine Below.alloc ?_ ?_ _) | (with_reducible refine Below.drew ?_) | (with_reducible refine below_drewN ?_ _) | (with_reducible refine Below.setCell ?_ ?_ _) | (with_reducible refine Below.trans ?_ (Below.mono (by with_reducible assumption) ?_)) | (with_reducible exact Below.size (by with_reducible assumption)) | go_size))); have hz_hb2 := hb2.size; (try simp at hz_hb2); (try simp only [Nat.add_one_le_iff] at hz_hb2); have hz0_hb2 : w.heap.size < w2.heap.size := (by omega)))
    refine bodyPost_ret (v := .tuple #[.agg #[.int .i64 (toldN n d), .int .i64 (toldD n d)], .int .i64 (toldC n d)]) (by simp [*, results, Try.results11, go_sem]) rfl ?_
    refine ⟨rfl, ?_⟩
    (repeat' (first | (with_reducible exact Below.refl _ _) | (with_reducible assumption) | (with_reducible refine Below.alloc ?_ ?_ _) | (with_reducible refine Below.drew ?_) | (with_reducible refine below_drewN ?_ _) | (with_reducible refine Below.setCell ?_ ?_ _) | (with_reducible refine Below.trans ?_ (Below.mono (by with_reducible assumption) ?_)) | (with_reducible exact Below.size (by with_reducible assumption)) | go_size))

theorem prod_bd {a b : Int} (h1 : -1000000000 ≤ a) (h2 : a ≤ 1000000000) (h3 : -1000000000 ≤ b) (h4 : b ≤ 1000000000) : -1000000000000000000 ≤ a * b ∧ a * b ≤ 1000000000000000000 := mul_bd h1 h2 h3 h4
theorem prod_pos {a b : Int} (h1 : 1 ≤ a) (h3 : 1 ≤ b) : 1 ≤ a * b := by
  have := Int.mul_pos (a := a) (b := b) (by omega) (by omega)
  omega

theorem implMultiply_any (an ad bn bd : Int) (w : World) :
    Calls Try.prog 17 #[.agg #[.int .i64 an, .int .i64 ad], .agg #[.int .i64 bn, .int .i64 bd]] w fun e w' => e = .returned (outV (mulOut an ad bn bd)) ∧ Below w.heap.size w w' := by
  by_cases ha : isF an ad = false
  · have e : mulOut an ad bn bd = (0, 0, 1) := by unfold mulOut; rw [if_pos (.inl ha)]
    rw [e]
    clear e
    go_enter Try.func17, Try.ntmps17
    go_wp2_with (go_at_call 10; refine (implIsFrac_any _ _ _).mono ?_; rintro e w1 ⟨rfl, hb1⟩; obtain ⟨hc_hb1, hf_hb1⟩ := bcell hb1; obtain ⟨hcA_hb1, hfA_hb1⟩ := bcellG (W0 := w) hb1 (by (repeat' (first | (with_reducible exact Below.refl _ _) | (with_reducible assumption) | (with_reducible refine Below.alloc ?_ ?_ _) | (with_reducible refine Below.drew ?_) | (with_reducible refine below_drewN ?_ _) | (with_reducible refine Below.setCell ?_ ?_ _) | (with_reducible refine Below.trans ?_ (Below.mono (by with_reducible assumption) ?_)) | (with_reducible exact Below.size (by with_reducible assumption)) | go_size))); have hz_hb1 := hb1.size; (try simp at hz_hb1); (try simp only [Nat.add_one_le_iff] at hz_hb1); have hz0_hb1 : w.heap.size < w1.heap.size := (by omega); have hz1_hb1 : w.heap.size + 1 < w1.heap.size := (by omega); have hz2_hb1 : w.heap.size + 1 + 1 < w1.heap.size := (by omega))
    refine bodyPost_ret (v := .tuple #[.agg #[.int .i64 0, .int .i64 0], .int .i64 1]) (by simp [*, results, Try.results17, go_sem]) rfl ?_
    refine ⟨rfl, ?_⟩
    (repeat' (first | (with_reducible exact Below.refl _ _) | (with_reducible assumption) | (with_reducible refine Below.alloc ?_ ?_ _) | (with_reducible refine Below.drew ?_) | (with_reducible refine below_drewN ?_ _) | (with_reducible refine Below.setCell ?_ ?_ _) | (with_reducible refine Below.trans ?_ (Below.mono (by with_reducible assumption) ?_)) | (with_reducible exact Below.size (by with_reducible assumption)) | go_size))
  have ha' : isF an ad = true := by simpa using ha
  by_cases hb : isF bn bd = false
  · have e : mulOut an ad bn bd = (0, 0, 1) := by unfold mulOut; rw [if_pos (.inr hb)]
    rw [e]
    clear e ha
    go_enter Try.func17, Try.ntmps17
    go_wp2_with fail
    refine (implIsFrac_any _ _ _).mono ?_; rintro e w1 ⟨rfl, hb1⟩; obtain ⟨hc_hb1, hf_hb1⟩ := bcell hb1; obtain ⟨hcA_hb1, hfA_hb1⟩ := bcellG (W0 := w) hb1 (by (repeat' (first | (with_reducible exact Below.refl _ _) | (with_reducible assumption) | (with_reducible refine Below.alloc ?_ ?_ _) | (with_reducible refine Below.drew ?_) | (with_reducible refine below_drewN ?_ _) | (with_reducible refine Below.setCell ?_ ?_ _) | (with_reducible refine Below.trans ?_ (Below.mono (by with_reducible assumption) ?_)) | (with_reducible exact Below.size (by with_reducible assumption)) | go_size))); have hz_hb1 := hb1.size; (try simp at hz_hb1); (try simp only [Nat.add_one_le_iff] at hz_hb1); have hz0_hb1 : w.heap.size < w1.heap.size := (by omega); have hz1_hb1 : w.heap.size + 1 < w1.heap.size := (by omega); have hz2_hb1 : w.heap.size + 1 + 1 < w1.heap.size := (by omega)
    go_wp2_with fail
    refine (implIsFrac_any _ _ _).mono ?_; rintro e w2 ⟨rfl, hb2⟩; obtain ⟨hc_hb2, hf_hb2⟩ := bcell hb2; obtain ⟨hcA_hb2, hfA_hb2⟩ := bcellG (W0 := w1) hb2 (by (repeat' (first | (with_reducible exact Below.refl _ _) | (with_reducible assumption) | (with_reducible refine Below.alloc ?_ ?_ _) | (with_reducible refine Below.drew ?_) | (with_reducible refine below_drewN ?_ _) | (with_reducible refine Below.setCell ?_ ?_ _) | (with_reducible refine Below.trans ?_ (Below.mono (by with_reducible assumption) ?_)) | (with_reducible exact Below.size (by with_reducible assumption)) | go_size))); have hz_hb2 := hb2.size; (try simp at hz_hb2); (try simp only [Nat.add_one_le_iff] at hz_hb2); have hz0_hb2 : w.heap.size < w2.heap.size := (by omega); have hz1_hb2 : w.heap.size + 1 < w2.heap.size := (by omega); have hz2_hb2 : w.heap.size + 1 + 1 < w2.heap.size := (by omega)
    go_wp2_with fail
    refine bodyPost_ret (v := .tuple #[.agg #[.int .i64 0, .int .i64 0], .int .i64 1]) (by simp [*, results, Try.results17, go_sem]) rfl ?_
    refine ⟨rfl, ?_⟩
    (repeat' (first | (with_reducible exact Below.refl _ _) | (with_reducible assumption) | (with_reducible refine Below.alloc ?_ ?_ _) | (with_reducible refine Below.drew ?_) | (with_reducible refine below_drewN ?_ _) | (with_reducible refine Below.setCell ?_ ?_ _) | (with_reducible refine Below.trans ?_ (Below.mono (by with_reducible assumption) ?_)) | (with_reducible exact Below.size (by with_reducible assumption)) | go_size))
  have hb' : isF bn bd = true := by simpa using hb
  have e : mulOut an ad bn bd = told (an * bn) (ad * bd) := by unfold mulOut; rw [if_neg (by simp [ha', hb'])]
  rw [e]
  clear e ha hb
  obtain ⟨a1, a2, a3, a4, _⟩ := isF_yes ha'
  obtain ⟨b1, b2, b3, b4, _⟩ := isF_yes hb'
  have p1 := prod_bd a1 a2 b1 b2
  have p2 := prod_bd (a := ad) (b := bd) (by omega) a4 (by omega) b4
  have p3 := prod_pos a3 b3
  go_enter Try.func17, Try.ntmps17
  go_wp2_with fail
  refine (implIsFrac_any _ _ _).mono ?_; rintro e w1 ⟨rfl, hb1⟩; obtain ⟨hc_hb1, hf_hb1⟩ := bcell hb1; obtain ⟨hcA_hb1, hfA_hb1⟩ := bcellG (W0 := w) hb1 (by (repeat' (first | (with_reducible exact Below.refl _ _) | (with_reducible assumption) | (with_reducible refine Below.alloc ?_ ?_ _) | (with_reducible refine Below.drew ?_) | (with_reducible refine below_drewN ?_ _) | (with_reducible refine Below.setCell ?_ ?_ _) | (with_reducible refine Below.trans ?_ (Below.mono (by with_reducible assumption) ?_)) | (with_reducible exact Below.size (by with_reducible assumption)) | go_size))); have hz_hb1 := hb1.size; (try simp at hz_hb1); (try simp only [Nat.add_one_le_iff] at hz_hb1); have hz0_hb1 : w.heap.size < w1.heap.size := (by omega); have hz1_hb1 : w.heap.size + 1 < w1.heap.size := (by omega); have hz2_hb1 : w.heap.size + 1 + 1 < w1.heap.size := (by omega)
  go_wp2_with fail
  refine (implIsFrac_any _ _ _).mono ?_; rintro e w2 ⟨rfl, hb2⟩; obtain ⟨hc_hb2, hf_hb2⟩ := bcell hb2; obtain ⟨hcA_hb2, hfA_hb2⟩ := bcellG (W0 := w1) hb2 (by (repeat' (first | (with_reducible exact Below.refl _ _) | (with_reducible assumption) | (with_reducible refine Below.alloc ?_ ?_ _) | (with_reducible refine Below.drew ?_) | (with_reducible refine below_drewN ?_ _) | (with_reducible refine Below.setCell ?_ ?_ _) | (with_reducible refine Below.trans ?_ (Below.mono (by with_reducible assumption) ?_)) | (with_reducible exact Below.size (by with_reducible assumption)) | go_size))); have hz_hb2 := hb2.size; (try simp at hz_hb2); (try simp only [Nat.add_one_le_iff] at hz_hb2); have hz0_hb2 : w.heap.size < w2.heap.size := (by omega); have hz1_hb2 : w.heap.size + 1 < w2.heap.size := (by omega); have hz2_hb2 : w.heap.size + 1 + 1 < w2.heap.size := (by omega)
  go_wp2_with fail
  refine (limitedFrac_out _ _ _ (by omega) (by omega) (by omega) (by omega) (by omega)).mono ?_; rintro e w3 ⟨rfl, hb3⟩; obtain ⟨hc_hb3, hf_hb3⟩ := bcell hb3; obtain ⟨hcA_hb3, hfA_hb3⟩ := bcellG (W0 := w2) hb3 (by (repeat' (first | (with_reducible exact Below.refl _ _) | (with_reducible assumption) | (with_reducible refine Below.alloc ?_ ?_ _) | (with_reducible refine Below.drew ?_) | (with_reducible refine below_drewN ?_ _) | (with_reducible refine Below.setCell ?_ ?_ _) | (with_reducible refine Below.trans ?_ (Below.mono (by with_reducible assumption) ?_)) | (with_reducible exact Below.size (by with_reducible assumption)) | go_size))); have hz_hb3 := hb3.size; (try simp at hz_hb3); (try simp only [Nat.add_one_le_iff] at hz_hb3); have hz0_hb3 : w.heap.size < w3.heap.size := (by omega); have hz1_hb3 : w.heap.size + 1 < w3.heap.size := (by omega); have hz2_hb3 : w.heap.size + 1 + 1 < w3.heap.size := (by omega)
  go_wp2_with fail
  refine bodyPost_ret (v := .tuple #[.agg #[.int .i64 (toldN (an * bn) (ad * bd)), .int .i64 (toldD (an * bn) (ad * bd))], .int .i64 (toldC (an * bn) (ad * bd))]) (by simp [*, results, Try.results17, go_sem]) rfl ?_
  refine ⟨rfl, ?_⟩
  (repeat' (first | (with_reducible exact Below.refl _ _) | (with_reducible assumption) | (with_reducible refine Below.alloc ?_ ?_ _) | (with_reducible refine Below.drew ?_) | (with_reducible refine below_drewN ?_ _) | (with_reducible refine Below.setCell ?_ ?_ _) | (with_reducible refine Below.trans ?_ (Below.mono (by with_reducible assumption) ?_)) | (with_reducible exact Below.size (by with_reducible assumption)) | go_size))
end Go.Proofs.Ytcgomdoibkplpaa.FW
