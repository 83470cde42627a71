/-
  Walks: what is a program: IsProgram, both sides.
-/
import Derived.Test.YtgncaploccbfnaaWIs
import Derived.Test.YtgncaploccbfnaaWPrg
namespace Go.Proofs.Ytgncaploccbfnaa.PW
open Go.RowKit Go.Proofs.Ytgncaploccbfnaa
open Go.Proofs.Ytgncaploccbfnaa.PM

theorem szWn_le {D : List (List Int)} {C : List Int} {A : List (List Int)} {B : List Int} (h : szWn D C A B ≤ 1048576) : D.length ≤ 1048576 ∧ C.length ≤ 1048576 ∧ A.length ≤ 1048576 ∧ B.length ≤ 1048576 := by
  unfold szWn tot at h
  omega
set_option maxHeartbeats 2000000 in
theorem implIsProgram_any (d c a b : Value) (D : List (List Int)) (C : List Int) (A : List (List Int)) (B : List Int) (w : World) (h1 : PM.Rows w d D) (h2 : Ints w c C) (h3 : PM.Rows w a A) (h4 : Ints w b B) (hs : szWn D C A B ≤ 1048576) :
    Calls Try.prog 39 #[.agg #[d, c, a, b]] w fun e w' => e = .returned (.bool (isWB D C A B)) ∧ Below w.heap.size w w' := by
  have T1 := Lib.hid (fun (w' : World) (h : Below w.heap.size w w') => isSquareWithin_any d D w' (h1.below h))
  have T2 := Lib.hid (fun (w' : World) (h : Below w.heap.size w w') (hm : matB D = true) => isSymmetric_any d D w' (h1.below h) ((matB_iff D).1 hm).1.1 (fun i hi => (((matB_iff D).1 hm).2 i hi).1))
  have T3 := Lib.hid (fun (w' : World) (h : Below w.heap.size w w') => areRowsOf_any a A C.length w' (h3.below h))
  have T4 := Lib.hid (fun (w' : World) (h : Below w.heap.size w w') => areWithin_any c C 100 w' (h2.below h) (by decide) (by decide))
  have T5 := Lib.hid (fun (w' : World) (h : Below w.heap.size w w') => areWithin_any b B 100 w' (h4.below h) (by decide) (by decide))
  have hG : isWB D C A B = (decide (C.length + A.length ≤ 5 ∧ D.length = C.length ∧ B.length = A.length) && (matB D && (symB D && (rowsB C.length A && (wit 100 C && wit 100 B))))) := rfl
  rw [hG]
  obtain ⟨l1, l2, l3, l4⟩ := szWn_le hs
  obtain ⟨x1, y1, rfl, _⟩ := h1
  obtain ⟨x2, y2, rfl, _⟩ := h2
  obtain ⟨x3, y3, rfl, _⟩ := h3
  obtain ⟨x4, y4, rfl, _⟩ := h4
  clear hG hs
  obtain ⟨m1, hm1⟩ : ∃ x, x = matB D := ⟨_, rfl⟩
  obtain ⟨m2, hm2⟩ : ∃ x, x = symB D := ⟨_, rfl⟩
  obtain ⟨m3, hm3⟩ : ∃ x, x = rowsB C.length A := ⟨_, rfl⟩
  obtain ⟨m4, hm4⟩ : ∃ x, x = wit 100 C := ⟨_, rfl⟩
  obtain ⟨m5, hm5⟩ : ∃ x, x = wit 100 B := ⟨_, rfl⟩
  rw [← hm1] at T1 T2
  rw [← hm2] at T2
  rw [← hm3] at T3
  rw [← hm4] at T4
  rw [← hm5] at T5
  rw [← hm1, ← hm2, ← hm3, ← hm4, ← hm5]
  clear hm1 hm2 hm3 hm4 hm5
  generalize D.length = n1 at *
  generalize C.length = n2 at *
  generalize A.length = n3 at *
  generalize B.length = n4 at *
  by_cases k1 : n2 + n3 ≤ 5
  case neg =>
    rw [decide_eq_false (by omega), Bool.false_and]
    clear T1 T2 T3 T4 T5
    go_enter Try.func39, Try.ntmps39
    go_wp2_with fail
    go_ret
    exact ⟨rfl, by (repeat' (first | (with_reducible exact Below.refl _ _) | (with_reducible assumption) | (with_reducible refine Below.alloc ?_ ?_ _) | (with_reducible refine Below.drew ?_) | (with_reducible refine below_drewN ?_ _) | (with_reducible refine Below.setCell ?_ ?_ _) | (with_reducible refine Below.trans ?_ (Below.mono (by with_reducible assumption) ?_)) | (with_reducible exact Below.size (by with_reducible assumption)) | go_size))⟩
  by_cases k2 : n1 = n2
  case neg =>
    rw [decide_eq_false (by omega), Bool.false_and]
    have q2 : ((n1 : Int) == (n2 : Int)) = false := by simp; omega
    clear T1 T2 T3 T4 T5 k2
    go_enter Try.func39, Try.ntmps39
    go_wp2_with fail
    go_ret
    exact ⟨rfl, by (repeat' (first | (with_reducible exact Below.refl _ _) | (with_reducible assumption) | (with_reducible refine Below.alloc ?_ ?_ _) | (with_reducible refine Below.drew ?_) | (with_reducible refine below_drewN ?_ _) | (with_reducible refine Below.setCell ?_ ?_ _) | (with_reducible refine Below.trans ?_ (Below.mono (by with_reducible assumption) ?_)) | (with_reducible exact Below.size (by with_reducible assumption)) | go_size))⟩
  subst k2
  by_cases k3 : n4 = n3
  case neg =>
    rw [decide_eq_false (by omega), Bool.false_and]
    have q2 : ((n4 : Int) == (n3 : Int)) = false := by simp; omega
    clear T1 T2 T3 T4 T5 k3
    go_enter Try.func39, Try.ntmps39
    go_wp2_with fail
    go_ret
    exact ⟨rfl, by (repeat' (first | (with_reducible exact Below.refl _ _) | (with_reducible assumption) | (with_reducible refine Below.alloc ?_ ?_ _) | (with_reducible refine Below.drew ?_) | (with_reducible refine below_drewN ?_ _) | (with_reducible refine Below.setCell ?_ ?_ _) | (with_reducible refine Below.trans ?_ (Below.mono (by with_reducible assumption) ?_)) | (with_reducible exact Below.size (by with_reducible assumption)) | go_size))⟩
  subst k3
  rw [decide_eq_true (by omega), Bool.true_and]
  cases m1
  · rw [Bool.false_and]
    go_enter Try.func39, Try.ntmps39
    go_wp2_with fail
    refine (T1.out _ (by (repeat' (first | (with_reducible exact Below.refl _ _) | (with_reducible assumption) | (with_reducible refine Below.alloc ?_ ?_ _) | (with_reducible refine Below.drew ?_) | (with_reducible refine below_drewN ?_ _) | (with_reducible refine Below.setCell ?_ ?_ _) | (with_reducible refine Below.trans ?_ (Below.mono (by with_reducible assumption) ?_)) | (with_reducible exact Below.size (by with_reducible assumption)) | go_size)))).mono ?_; rintro e w' ⟨rfl, rfl⟩
    go_wp2_with fail
    go_ret
    exact ⟨rfl, by (repeat' (first | (with_reducible exact Below.refl _ _) | (with_reducible assumption) | (with_reducible refine Below.alloc ?_ ?_ _) | (with_reducible refine Below.drew ?_) | (with_reducible refine below_drewN ?_ _) | (with_reducible refine Below.setCell ?_ ?_ _) | (with_reducible refine Below.trans ?_ (Below.mono (by with_reducible assumption) ?_)) | (with_reducible exact Below.size (by with_reducible assumption)) | go_size))⟩
  rw [Bool.true_and]
  cases m2
  · rw [Bool.false_and]
    go_enter Try.func39, Try.ntmps39
    go_wp2_with fail
    refine (T1.out _ (by (repeat' (first | (with_reducible exact Below.refl _ _) | (with_reducible assumption) | (with_reducible refine Below.alloc ?_ ?_ _) | (with_reducible refine Below.drew ?_) | (with_reducible refine below_drewN ?_ _) | (with_reducible refine Below.setCell ?_ ?_ _) | (with_reducible refine Below.trans ?_ (Below.mono (by with_reducible assumption) ?_)) | (with_reducible exact Below.size (by with_reducible assumption)) | go_size)))).mono ?_; rintro e w' ⟨rfl, rfl⟩
    go_wp2_with fail
    refine (T2.out _ (by (repeat' (first | (with_reducible exact Below.refl _ _) | (with_reducible assumption) | (with_reducible refine Below.alloc ?_ ?_ _) | (with_reducible refine Below.drew ?_) | (with_reducible refine below_drewN ?_ _) | (with_reducible refine Below.setCell ?_ ?_ _) | (with_reducible refine Below.trans ?_ (Below.mono (by with_reducible assumption) ?_)) | (with_reducible exact Below.size (by with_reducible assumption)) | go_size))) (by first | exact rfl | exact trivial)).mono ?_; rintro e w' ⟨rfl, rfl⟩
    go_wp2_with fail
    go_ret
    exact ⟨rfl, by (repeat' (first | (with_reducible exact Below.refl _ _) | (with_reducible assumption) | (with_reducible refine Below.alloc ?_ ?_ _) | (with_reducible refine Below.drew ?_) | (with_reducible refine below_drewN ?_ _) | (with_reducible refine Below.setCell ?_ ?_ _) | (with_reducible refine Below.trans ?_ (Below.mono (by with_reducible assumption) ?_)) | (with_reducible exact Below.size (by with_reducible assumption)) | go_size))⟩
  rw [Bool.true_and]
  cases m3
  · rw [Bool.false_and]
    go_enter Try.func39, Try.ntmps39
    go_wp2_with fail
    refine (T1.out _ (by (repeat' (first | (with_reducible exact Below.refl _ _) | (with_reducible assumption) | (with_reducible refine Below.alloc ?_ ?_ _) | (with_reducible refine Below.drew ?_) | (with_reducible refine below_drewN ?_ _) | (with_reducible refine Below.setCell ?_ ?_ _) | (with_reducible refine Below.trans ?_ (Below.mono (by with_reducible assumption) ?_)) | (with_reducible exact Below.size (by with_reducible assumption)) | go_size)))).mono ?_; rintro e w' ⟨rfl, rfl⟩
    go_wp2_with fail
    refine (T2.out _ (by (repeat' (first | (with_reducible exact Below.refl _ _) | (with_reducible assumption) | (with_reducible refine Below.alloc ?_ ?_ _) | (with_reducible refine Below.drew ?_) | (with_reducible refine below_drewN ?_ _) | (with_reducible refine Below.setCell ?_ ?_ _) | (with_reducible refine Below.trans ?_ (Below.mono (by with_reducible assumption) ?_)) | (with_reducible exact Below.size (by with_reducible assumption)) | go_size))) (by first | exact rfl | exact trivial)).mono ?_; rintro e w' ⟨rfl, rfl⟩
    go_wp2_with fail
    refine (T3.out _ (by (repeat' (first | (with_reducible exact Below.refl _ _) | (with_reducible assumption) | (with_reducible refine Below.alloc ?_ ?_ _) | (with_reducible refine Below.drew ?_) | (with_reducible refine below_drewN ?_ _) | (with_reducible refine Below.setCell ?_ ?_ _) | (with_reducible refine Below.trans ?_ (Below.mono (by with_reducible assumption) ?_)) | (with_reducible exact Below.size (by with_reducible assumption)) | go_size)))).mono ?_; rintro e w' ⟨rfl, rfl⟩
    go_wp2_with fail
    go_ret
    exact ⟨rfl, by (repeat' (first | (with_reducible exact Below.refl _ _) | (with_reducible assumption) | (with_reducible refine Below.alloc ?_ ?_ _) | (with_reducible refine Below.drew ?_) | (with_reducible refine below_drewN ?_ _) | (with_reducible refine Below.setCell ?_ ?_ _) | (with_reducible refine Below.trans ?_ (Below.mono (by with_reducible assumption) ?_)) | (with_reducible exact Below.size (by with_reducible assumption)) | go_size))⟩
  rw [Bool.true_and]
  cases m4
  · rw [Bool.false_and]
    go_enter Try.func39, Try.ntmps39
    go_wp2_with fail
    refine (T1.out _ (by (repeat' (first | (with_reducible exact Below.refl _ _) | (with_reducible assumption) | (with_reducible refine Below.alloc ?_ ?_ _) | (with_reducible refine Below.drew ?_) | (with_reducible refine below_drewN ?_ _) | (with_reducible refine Below.setCell ?_ ?_ _) | (with_reducible refine Below.trans ?_ (Below.mono (by with_reducible assumption) ?_)) | (with_reducible exact Below.size (by with_reducible assumption)) | go_size)))).mono ?_; rintro e w' ⟨rfl, rfl⟩
    go_wp2_with fail
    refine (T2.out _ (by (repeat' (first | (with_reducible exact Below.refl _ _) | (with_reducible assumption) | (with_reducible refine Below.alloc ?_ ?_ _) | (with_reducible refine Below.drew ?_) | (with_reducible refine below_drewN ?_ _) | (with_reducible refine Below.setCell ?_ ?_ _) | (with_reducible refine Below.trans ?_ (Below.mono (by with_reducible assumption) ?_)) | (with_reducible exact Below.size (by with_reducible assumption)) | go_size))) (by first | exact rfl | exact trivial)).mono ?_; rintro e w' ⟨rfl, rfl⟩
    go_wp2_with fail
    refine (T3.out _ (by (repeat' (first | (with_reducible exact Below.refl _ _) | (with_reducible assumption) | (with_reducible refine Below.alloc ?_ ?_ _) | (with_reducible refine Below.drew ?_) | (with_reducible refine below_drewN ?_ _) | (with_reducible refine Below.setCell ?_ ?_ _) | (with_reducible refine Below.trans ?_ (Below.mono (by with_reducible assumption) ?_)) | (with_reducible exact Below.size (by with_reducible assumption)) | go_size)))).mono ?_; rintro e w' ⟨rfl, rfl⟩
    go_wp2_with fail
    refine (T4.out _ (by (repeat' (first | (with_reducible exact Below.refl _ _) | (with_reducible assumption) | (with_reducible refine Below.alloc ?_ ?_ _) | (with_reducible refine Below.drew ?_) | (with_reducible refine below_drewN ?_ _) | (with_reducible refine Below.setCell ?_ ?_ _) | (with_reducible refine Below.trans ?_ (Below.mono (by with_reducible assumption) ?_)) | (with_reducible exact Below.size (by with_reducible assumption)) | go_size)))).mono ?_; rintro e w' ⟨rfl, rfl⟩
    go_wp2_with fail
    go_ret
    exact ⟨rfl, by (repeat' (first | (with_reducible exact Below.refl _ _) | (with_reducible assumption) | (with_reducible refine Below.alloc ?_ ?_ _) | (with_reducible refine Below.drew ?_) | (with_reducible refine below_drewN ?_ _) | (with_reducible refine Below.setCell ?_ ?_ _) | (with_reducible refine Below.trans ?_ (Below.mono (by with_reducible assumption) ?_)) | (with_reducible exact Below.size (by with_reducible assumption)) | go_size))⟩
  rw [Bool.true_and]
  go_enter Try.func39, Try.ntmps39
  go_wp2_with fail
  refine (T1.out _ (by (repeat' (first | (with_reducible exact Below.refl _ _) | (with_reducible assumption) | (with_reducible refine Below.alloc ?_ ?_ _) | (with_reducible refine Below.drew ?_) | (with_reducible refine below_drewN ?_ _) | (with_reducible refine Below.setCell ?_ ?_ _) | (with_reducible refine Below.trans ?_ (Below.mono (by with_reducible assumption) ?_)) | (with_reducible exact Below.size (by with_reducible assumption)) | go_size)))).mono ?_; rintro e w' ⟨rfl, rfl⟩
  go_wp2_with fail
  refine (T2.out _ (by (repeat' (first | (with_reducible exact Below.refl _ _) | (with_reducible assumption) | (with_reducible refine Below.alloc ?_ ?_ _) | (with_reducible refine Below.drew ?_) | (with_reducible refine below_drewN ?_ _) | (with_reducible refine Below.setCell ?_ ?_ _) | (with_reducible refine Below.trans ?_ (Below.mono (by with_reducible assumption) ?_)) | (with_reducible exact Below.size (by with_reducible assumption)) | go_size))) (by first | exact rfl | exact trivial)).mono ?_; rintro e w' ⟨rfl, rfl⟩
  go_wp2_with fail
  refine (T3.out _ (by (repeat' (first | (with_reducible exact Below.refl _ _) | (with_reducible assumption) | (with_reducible refine Below.alloc ?_ ?_ _) | (with_reducible refine Below.drew ?_) | (with_reducible refine below_drewN ?_ _) | (with_reducible refine Below.setCell ?_ ?_ _) | (with_reducible refine Below.trans ?_ (Below.mono (by with_reducible assumption) ?_)) | (with_reducible exact Below.size (by with_reducible assumption)) | go_size)))).mono ?_; rintro e w' ⟨rfl, rfl⟩
  go_wp2_with fail
  refine (T4.out _ (by (repeat' (first | (with_reducible exact Below.refl _ _) | (with_reducible assumption) | (with_reducible refine Below.alloc ?_ ?_ _) | (with_reducible refine Below.drew ?_) | (with_reducible refine below_drewN ?_ _) | (with_reducible refine Below.setCell ?_ ?_ _) | (with_reducible refine Below.trans ?_ (Below.mono (by with_reducible assumption) ?_)) | (with_reducible exact Below.size (by with_reducible assumption)) | go_size)))).mono ?_; rintro e w' ⟨rfl, rfl⟩
  go_wp2_with fail
  refine (T5.out _ (by (repeat' (first | (with_reducible exact Below.refl _ _) | (with_reducible assumption) | (with_reducible refine Below.alloc ?_ ?_ _) | (with_reducible refine Below.drew ?_) | (with_reducible refine below_drewN ?_ _) | (with_reducible refine Below.setCell ?_ ?_ _) | (with_reducible refine Below.trans ?_ (Below.mono (by with_reducible assumption) ?_)) | (with_reducible exact Below.size (by with_reducible assumption)) | go_size)))).mono ?_; rintro e w' ⟨rfl, rfl⟩
  go_wp2_with fail
  go_ret
  exact ⟨rfl, by (repeat' (first | (with_reducible exact Below.refl _ _) | (with_reducible assumption) | (with_reducible refine Below.alloc ?_ ?_ _) | (with_reducible refine Below.drew ?_) | (with_reducible refine below_drewN ?_ _) | (with_reducible refine Below.setCell ?_ ?_ _) | (with_reducible refine Below.trans ?_ (Below.mono (by with_reducible assumption) ?_)) | (with_reducible exact Below.size (by with_reducible assumption)) | go_size))⟩

/-! ### The model -/
set_option maxHeartbeats 8000000 in
theorem l09Is_any (d c a b : Value) (D : List (List Int)) (C : List Int) (A : List (List Int)) (B : List Int) (w : World) (h1 : PM.Rows w d D) (h2 : Ints w c C) (h3 : PM.Rows w a A) (h4 : Ints w b B) (hs : szWn D C A B ≤ 1048576) :
    Calls Try.prog 91 #[.agg #[d, c, a, b]] w fun e w' => e = .returned (.bool (isWB D C A B)) ∧ Below w.heap.size w w' := by
  have HIS := Lib.hid (isWB_is D C A B)
  have HNO := Lib.hid (isWB_no (D := D) (C := C) (A := A) (B := B))
  obtain ⟨R, hR⟩ : ∃ R, R = isWB D C A B := ⟨_, rfl⟩
  rw [← hR] at HIS HNO ⊢
  obtain ⟨l1, l2, l3, l4⟩ := szWn_le hs
  clear hR hs
  have hB0 : ∀ (o : Obj) k, Below w.heap.size w ((w.alloc o).drewN k) := fun o k => below_drewN ((Below.refl _ _).alloc (Nat.le_refl _) _) k
  have HB0 := Lib.hid hB0
  clear hB0
  by_cases hbad : C.length < 1 ∨ 5 < C.length + B.length ∨ D.length ≠ C.length ∨ A.length ≠ B.length
  · obtain rfl : R = false := HNO.out (fun k => by have := k.n1; have := k.n5; have := k.d; have := k.a; omega)
    obtain ⟨x1, y1, rfl, _⟩ := h1
    obtain ⟨x2, y2, rfl, _⟩ := h2
    obtain ⟨x3, y3, rfl, _⟩ := h3
    obtain ⟨x4, y4, rfl, _⟩ := h4
    clear HIS HNO
    generalize D.length = n1 at *
    generalize C.length = n2 at *
    generalize A.length = n3 at *
    generalize B.length = n4 at *
    by_cases k1 : n2 < 1
    · obtain rfl : n2 = 0 := by omega
      clear hbad k1
      go_enter Try.func91, Try.ntmps91
      go_wp2_with fail
      go_quiet (fail)
      go_wp2_with fail
      go_ret
      exact ⟨rfl, HB0.out _ _⟩
    by_cases k2 : 5 < n2 + n4
    · clear hbad
      go_enter Try.func91, Try.ntmps91
      go_wp2_with fail
      go_quiet (fail)
      go_wp2_with fail
      go_ret
      exact ⟨rfl, HB0.out _ _⟩
    by_cases k3 : n1 = n2
    case neg =>
      have q : ((n1 : Int) != (n2 : Int)) = true := by simp; omega
      clear hbad k3
      go_enter Try.func91, Try.ntmps91
      go_wp2_with fail
      go_quiet (fail)
      go_wp2_with fail
      go_ret
      exact ⟨rfl, HB0.out _ _⟩
    have q : ((n3 : Int) != (n4 : Int)) = true := by simp; omega
    subst k3
    clear hbad
    go_enter Try.func91, Try.ntmps91
    go_wp2_with fail
    go_quiet (fail)
    go_wp2_with fail
    go_ret
    exact ⟨rfl, HB0.out _ _⟩
  obtain ⟨n, hN⟩ : ∃ n, n = C.length := ⟨_, rfl⟩
  obtain ⟨m, hM⟩ : ∃ m, m = B.length := ⟨_, rfl⟩
  have hdn : D.length = n := by omega
  have ham : A.length = m := by omega
  obtain ⟨b1, o1, c1, rfl, hb1, _, hcell1⟩ := wrows_at h1 (by omega)
  obtain ⟨b2, o2, c2, rfl, hb2, hcell2⟩ := wints_row h2 (by omega)
  obtain ⟨a3, c3, rfl, h3a, h3b, hx3⟩ := h3
  obtain ⟨a4, c4, rfl, h4a, h4b, _, hx4⟩ := h4
  have HC3 : Hid (∀ j, j < m → ∃ b3 o3, a3 = some ⟨b3, o3, none⟩ ∧ b3 < w.heap.size ∧ ∃ u, w.cell? ⟨b3, o3 + j, none⟩ = some u ∧ Ints w u (A.getD j [])) := fun j hj => by
    rcases hx3 with hx | ⟨b3, o3, rfl, hb3, hc3⟩
    · rw [hx] at ham; simp at ham; omega
    · exact ⟨b3, o3, rfl, hb3, hc3 j (by omega)⟩
  have HC4 : Hid (∀ j, j < m → ∃ b4 o4, a4 = some ⟨b4, o4, none⟩ ∧ b4 < w.heap.size ∧ w.cell? ⟨b4, o4 + j, none⟩ = some (.int .i64 (B.getD j 0))) := fun j hj => by
    rcases hx4 with hx | ⟨b4, o4, rfl, hb4, hc4⟩
    · rw [hx] at hM; simp at hM; omega
    · exact ⟨b4, o4, rfl, hb4, hc4 j (by omega)⟩
  have HC1 : Hid (∀ i, i < n → ∃ u, w.cell? ⟨b1, o1 + i, none⟩ = some u ∧ Ints w u (D.getD i [])) := fun i hi => hcell1 i (by omega)
  have HC2 : Hid (∀ i, i < n → w.cell? ⟨b2, o2 + i, none⟩ = some (.int .i64 (C.getD i 0))) := fun i hi => hcell2 i (by omega)
  have HF : Hid (R = true ↔ (∀ i, i < n → ((D.getD i []).length = n ∧ (-100 ≤ C.getD i 0 ∧ C.getD i 0 ≤ 100)) ∧ ∀ k, k < n → -20 ≤ wE D i k ∧ wE D i k ≤ 20) ∧ (∀ i, i < n → ∀ k, k < i → wE D i k = wE D k i) ∧
      (∀ j, j < m → ((A.getD j []).length = n ∧ (-100 ≤ B.getD j 0 ∧ B.getD j 0 ≤ 100)) ∧ ∀ k, k < n → -20 ≤ wE A j k ∧ wE A j k ≤ 20)) := by
    refine HIS.out.trans ⟨fun h => ?_, fun ⟨f1, f2, f3⟩ => ?_⟩
    · obtain ⟨n1, n5, d, a, dr, cc, dk, sym, ar, bb, ak⟩ := h
      rw [← hN] at *
      rw [← hM] at *
      exact ⟨fun i hi => ⟨⟨dr i hi, cc i hi⟩, dk i hi⟩, sym, fun j hj => ⟨⟨ar j hj, bb j hj⟩, ak j hj⟩⟩
    · exact ⟨by omega, by omega, by omega, by omega, fun i hi => by rw [← hN] at hi ⊢; exact (f1 i hi).1.1, fun i hi => (f1 i (by omega)).1.2, fun i hi k hk => (f1 i (by omega)).2 k (by omega), fun i hi k hk => f2 i (by omega) k hk, fun j hj => by rw [← hN]; exact (f3 j (by omega)).1.1, fun j hj => (f3 j (by omega)).1.2, fun j hj k hk => (f3 j (by omega)).2 k (by omega)⟩
  rw [hdn, ham, ← hN, ← hM]
  have hn5 : 1 ≤ n ∧ n + m ≤ 5 := by omega
  obtain ⟨hn1, hn5⟩ := hn5
  have qn : ((n : Int) != (n : Int)) = false := by simp
  have qm : ((m : Int) != (m : Int)) = false := by simp
  obtain ⟨W0, hW0⟩ : ∃ W0, W0 = w.alloc (.cells #[.slice (some ⟨b1, o1, none⟩) n c1, .slice (some ⟨b2, o2, none⟩) n c2, .slice a3 m c3, .slice a4 m c4] 54) := ⟨_, rfl⟩
  obtain ⟨P, hP⟩ : ∃ P, P = w.heap.size := ⟨_, rfl⟩
  have x0 : W0.cell? ⟨P, 0, none⟩ = some (.slice (some ⟨b1, o1, none⟩) n c1) := by rw [hW0, hP]; simp
  have x1 : W0.cell? ⟨P, 1, none⟩ = some (.slice (some ⟨b2, o2, none⟩) n c2) := by rw [hW0, hP]; simp
  have x2 : W0.cell? ⟨P, 2, none⟩ = some (.slice a3 m c3) := by rw [hW0, hP]; simp
  have x3 : W0.cell? ⟨P, 3, none⟩ = some (.slice a4 m c4) := by rw [hW0, hP]; simp
  have lP : P < W0.heap.size := by rw [hW0, hP]; simp
  have hb0 : Below w.heap.size w W0 := by rw [hW0]; exact (Below.refl _ _).alloc (Nat.le_refl _) _
  have HK := Lib.hid (fun wr (h : Below W0.heap.size W0 wr) => show wr.cell? ⟨P, 0, none⟩ = some (.slice (some ⟨b1, o1, none⟩) n c1) ∧ wr.cell? ⟨P, 1, none⟩ = some (.slice (some ⟨b2, o2, none⟩) n c2) ∧ wr.cell? ⟨P, 2, none⟩ = some (.slice a3 m c3) ∧ wr.cell? ⟨P, 3, none⟩ = some (.slice a4 m c4) from
    ⟨(h.cell (p := ⟨P, 0, none⟩) lP).trans x0, (h.cell (p := ⟨P, 1, none⟩) lP).trans x1, (h.cell (p := ⟨P, 2, none⟩) lP).trans x2, (h.cell (p := ⟨P, 3, none⟩) lP).trans x3⟩)
  have HX := Lib.hid (fun wr (h : Below W0.heap.size W0 wr) => hb0.trans (h.mono hb0.size))
  have HROW := Lib.hid (fun (L : List Int) (u : Value) (hU : Ints w u L) => show ∃ a c, u = .slice a L.length c ∧ L.length ≤ 9223372036854775807 ∧ (L.length = n → ∃ r o, a = some ⟨r, o, none⟩ ∧ ∀ wr, Below w.heap.size w wr → ∀ k, k < n → wr.cell? ⟨r, o + k, none⟩ = some (.int .i64 (L.getD k 0))) from by
    have hl := wints_len hU
    obtain ⟨a, c, rfl, _, _, _, hx⟩ := hU
    refine ⟨a, c, rfl, hl, fun he => ?_⟩
    rcases hx with hx | ⟨r, o, rfl, hr, hce⟩
    · rw [hx] at he; simp at he; omega
    · exact ⟨r, o, rfl, fun wr h k hk => (h.cell (p := ⟨r, o + k, none⟩) hr).trans (hce k (by omega))⟩)
  have HD : Hid (∀ wr, Below W0.heap.size W0 wr → ∀ i, i < n → ∃ a c, wr.cell? ⟨b1, o1 + i, none⟩ = some (.slice a (D.getD i []).length c) ∧ (D.getD i []).length ≤ 9223372036854775807 ∧ ((D.getD i []).length = n → ∃ r o, a = some ⟨r, o, none⟩ ∧ ∀ k, k < n → wr.cell? ⟨r, o + k, none⟩ = some (.int .i64 (wE D i k)))) := fun wr h i hi => by
    obtain ⟨u, hu, hU⟩ := HC1.out i hi
    obtain ⟨a, c, rfl, hl, hr⟩ := HROW.out _ u hU
    have hB := HX.out wr h
    exact ⟨a, c, (hB.cell (p := ⟨b1, o1 + i, none⟩) hb1).trans hu, hl, fun he => by
      obtain ⟨r, o, e, hk⟩ := hr he
      exact ⟨r, o, e, hk wr hB⟩⟩
  have HA : Hid (∀ wr, Below W0.heap.size W0 wr → ∀ j, j < m → ∃ b3 o3 a c, a3 = some ⟨b3, o3, none⟩ ∧ wr.cell? ⟨b3, o3 + j, none⟩ = some (.slice a (A.getD j []).length c) ∧ (A.getD j []).length ≤ 9223372036854775807 ∧ ((A.getD j []).length = n → ∃ r o, a = some ⟨r, o, none⟩ ∧ ∀ k, k < n → wr.cell? ⟨r, o + k, none⟩ = some (.int .i64 (wE A j k)))) := fun wr h j hj => by
    obtain ⟨b3, o3, e3, hb3, u, hu, hU⟩ := HC3.out j hj
    obtain ⟨a, c, rfl, hl, hr⟩ := HROW.out _ u hU
    have hB := HX.out wr h
    exact ⟨b3, o3, a, c, e3, (hB.cell (p := ⟨b3, o3 + j, none⟩) hb3).trans hu, hl, fun he => by
      obtain ⟨r, o, e, hk⟩ := hr he
      exact ⟨r, o, e, hk wr hB⟩⟩
  have HCC : Hid (∀ wr, Below W0.heap.size W0 wr → ∀ i, i < n → wr.cell? ⟨b2, o2 + i, none⟩ = some (.int .i64 (C.getD i 0))) := fun wr h i hi => ((HX.out wr h).cell (p := ⟨b2, o2 + i, none⟩) hb2).trans (HC2.out i hi)
  have HBB : Hid (∀ wr, Below W0.heap.size W0 wr → ∀ j, j < m → ∃ b4 o4, a4 = some ⟨b4, o4, none⟩ ∧ wr.cell? ⟨b4, o4 + j, none⟩ = some (.int .i64 (B.getD j 0))) := fun wr h j hj => by
    obtain ⟨b4, o4, e4, hb4, hc⟩ := HC4.out j hj
    exact ⟨b4, o4, e4, ((HX.out wr h).cell (p := ⟨b4, o4 + j, none⟩) hb4).trans hc⟩
  have HW0 := Lib.hid hW0
  have HPE := Lib.hid hP
  clear hcell1 hcell2 hx3 hx4 h1 h2 h3a h3b h4a h4b HIS HNO hbad l1 l2 l3 l4 hN hM hdn ham hb0 hW0 hP x0 x1 x2 x3 lP HB0 HC1 HC2 HC3 HC4 HROW hb1 hb2
  have hBk := fun k => below_drewN (Below.refl W0.heap.size W0) k
  have HBK := Lib.hid hBk
  clear hBk
  obtain ⟨x0, x1, x2, x3⟩ := HK.out W0 (Below.refl _ _)
  go_enter Try.func91, Try.ntmps91
  go_wp2_with fail
  rw [← HW0.out, ← HPE.out]
  go_quiet (fail)
  go_wp2_with fail
  generalize hW1 : W0.drewN _ = W1
  have hB1 : Below W0.heap.size W0 W1 := by rw [← hW1]; exact HBK.out _
  clear hW1 x0 x1 x2 x3
  obtain ⟨x0, x1, x2, x3⟩ := HK.out W1 hB1
  have HB1 := Lib.hid hB1
  clear hB1
  go_loop [5, 6] (fun i _ => ∃ k : Nat, k ≤ n ∧ i = .int .i64 k ∧ Hid (∀ i, i < k → ((D.getD i []).length = n ∧ (-100 ≤ C.getD i 0 ∧ C.getD i 0 ≤ 100)) ∧ ∀ k, k < n → -20 ≤ wE D i k ∧ wE D i k ≤ 20)) (fun i _ => n - (intOf i).toNat)
  case atStart => exact ⟨0, Nat.zero_le _, rfl, fun j hj => absurd hj (Nat.not_lt_zero _)⟩
  case round =>
    obtain ⟨i, hi, rfl, hgood⟩ := hrel
    by_cases hlt : i < n
    · obtain ⟨ra, rc, hu, hl63, hrow⟩ := HD.out W1 HB1.out i hlt
      have hc := HCC.out W1 HB1.out i hlt
      have hno : Hid (¬ (((D.getD i []).length = n ∧ (-100 ≤ C.getD i 0 ∧ C.getD i 0 ≤ 100)) ∧ ∀ k, k < n → -20 ≤ wE D i k ∧ wE D i k ≤ 20) → R = false) := fun h => by
        show R = false
        cases R
        · rfl
        · exact absurd ((HF.out.1 rfl).1 i hlt) h
      have hnx : Hid ((D.getD i []).length = n → (-100 ≤ C.getD i 0 ∧ C.getD i 0 ≤ 100) → (∀ k, k < n → -20 ≤ wE D i k ∧ wE D i k ≤ 20) → ∀ j, j < i + 1 → ((D.getD j []).length = n ∧ (-100 ≤ C.getD j 0 ∧ C.getD j 0 ≤ 100)) ∧ ∀ k, k < n → -20 ≤ wE D j k ∧ wE D j k ≤ 20) := fun h1 h2 h3 j hj => by
        by_cases e : j = i
        · subst e; exact ⟨⟨h1, h2⟩, h3⟩
        · exact hgood.out j (by omega)
      generalize (D.getD i []).length = q at *
      generalize C.getD i 0 = x at *
      by_cases hq : q = n
      case neg =>
        have HO := Lib.hid (hno.out (fun c => hq c.1.1))
        have hne : ((q : Int) != (n : Int)) = true := by simp; omega
        clear hno hnx hgood hrow hq
        go_wp2_with fail
        go_ret
        exact ⟨by rw [HO.out]; rfl, HX.out _ HB1.out⟩
      obtain ⟨r, o, rfl, hce⟩ := hrow hq
      have HE := Lib.hid hce
      have hne : ((q : Int) != (n : Int)) = false := by simp [hq]
      by_cases hx : -100 ≤ x ∧ x ≤ 100
      case neg =>
        have HO := Lib.hid (hno.out (fun c => hx c.1.2))
        have HDc := Lib.hid (show decide (-100 ≤ x ∧ x ≤ 100) = false from decide_eq_false hx)
        clear hno hnx hgood hrow hq hx hce
        go_wp2_with (go_at_call 65; refine (l01In_is _ _ _ _ _ HDc.out).mono ?_; rintro e w' ⟨rfl, rfl⟩)
        go_ret
        exact ⟨by rw [HO.out]; rfl, HX.out _ HB1.out⟩
      have HDc := Lib.hid (show decide (-100 ≤ x ∧ x ≤ 100) = true from decide_eq_true hx)
      have HN2 := Lib.hid (hnx.out hq hx)
      have HO2 := Lib.hid (show ∀ k, k < n → ¬ (-20 ≤ wE D i k ∧ wE D i k ≤ 20) → R = false from fun k hk h => hno.out (fun c => h (c.2 k hk)))
      clear hno hnx hgood hrow hx hce
      go_wp2_with (go_at_call 65; refine (l01In_is _ _ _ _ _ HDc.out).mono ?_; rintro e w' ⟨rfl, rfl⟩)
      clear hc
      subst hq
      go_loop [6] (fun i' => ∃ k : Nat, k ≤ q ∧ i' = .int .i64 k ∧ Hid (∀ j, j < k → -20 ≤ wE D i j ∧ wE D i j ≤ 20)) (fun i' => q - (intOf i').toNat)
      case atStart => exact ⟨0, Nat.zero_le _, rfl, fun j hj => absurd hj (Nat.not_lt_zero _)⟩
      case round =>
        obtain ⟨k, hk, rfl, hin⟩ := hrel
        by_cases hlt2 : k < q
        · have e1 := HE.out k hlt2
          have hno := HO2.out k hlt2
          have hnx : Hid ((-20 ≤ wE D i k ∧ wE D i k ≤ 20) → ∀ j, j < k + 1 → -20 ≤ wE D i j ∧ wE D i j ≤ 20) := fun h j hj => by
            by_cases e : j = k
            · subst e; exact h
            · exact hin.out j (by omega)
          generalize wE D i k = y at *
          have HNO := Lib.hid hno
          clear hno hin
          by_cases hy : -20 ≤ y ∧ y ≤ 20
          · have HX2 := Lib.hid (hnx.out hy)
            have HDy := Lib.hid (show decide (-20 ≤ y ∧ y ≤ 20) = true from decide_eq_true hy)
            clear hy hnx HNO
            go_wp2_with (go_at_call 65; refine (l01In_is _ _ _ _ _ HDy.out).mono ?_; rintro e w' ⟨rfl, rfl⟩)
            go_round
            case rel => exact ⟨k + 1, by omega, by go_num, HX2⟩
            case measure => simp [intOf]; omega
          · have HO := Lib.hid (HNO.out hy)
            have HDy := Lib.hid (show decide (-20 ≤ y ∧ y ≤ 20) = false from decide_eq_false hy)
            clear hy hnx HNO
            go_wp2_with (go_at_call 65; refine (l01In_is _ _ _ _ _ HDy.out).mono ?_; rintro e w' ⟨rfl, rfl⟩)
            go_ret
            exact ⟨by rw [HO.out]; rfl, HX.out _ HB1.out⟩
        · obtain rfl : k = q := by omega
          have HX2 := Lib.hid (HN2.out hin.out)
          clear hin
          go_wp2_with fail
          go_round
          case rel => exact ⟨i + 1, by omega, by go_num, HX2⟩
          case measure => simp [intOf]; omega
    · obtain rfl : i = n := by omega
      have HL := Lib.hid (fun j (hj : j < i) => (hgood.out j hj).1.1)
      have HG1 := hgood
      clear hgood
      go_wp2_with fail
      go_loopw [7, 8] (fun i' _ wr => ∃ k : Nat, k ≤ i ∧ i' = .int .i64 k ∧ Hid (∀ a, a < k → ∀ b, b < a → wE D a b = wE D b a) ∧ Below W0.heap.size W0 wr) (fun i' _ _ => i - (intOf i').toNat)
      case atStart => exact ⟨0, Nat.zero_le _, rfl, fun j hj => absurd hj (Nat.not_lt_zero _), HB1.out⟩
      case round =>
        obtain ⟨k, hk, rfl, hsym, hB⟩ := hrel
        clear x0 x1 x2 x3
        by_cases hlt : k < i
        · have HB := Lib.hid hB
          clear hB
          obtain ⟨Wr, rfl⟩ : ∃ Wr, Wr = wr := ⟨_, rfl⟩
          go_wp2_with fail
          go_loopw [8] (fun i' wr => ∃ l : Nat, l ≤ k ∧ i' = .int .i64 l ∧ Hid (∀ b, b < l → wE D k b = wE D b k) ∧ Below W0.heap.size W0 wr) (fun i' _ => k - (intOf i').toNat)
          case atStart => exact ⟨0, Nat.zero_le _, rfl, fun j hj => absurd hj (Nat.not_lt_zero _), HB.out⟩
          case round =>
            obtain ⟨l, hl, rfl, hin, hB2⟩ := hrel
            by_cases hlt2 : l < k
            · obtain ⟨x0, x1, x2, x3⟩ := HK.out wr hB2
              obtain ⟨ra, rc, hu, _, hrow⟩ := HD.out wr hB2 k hlt
              obtain ⟨ra2, rc2, hu2, _, hrow2⟩ := HD.out wr hB2 l (by omega)
              have q1 := HL.out k hlt
              have q2 := HL.out l (by omega)
              obtain ⟨r, o, rfl, hce⟩ := hrow q1
              obtain ⟨r2, o2', rfl, hce2⟩ := hrow2 q2
              rw [q1] at hu
              rw [q2] at hu2
              have e1 := hce l (by omega)
              have e2 := hce2 k (by omega)
              have hno : Hid (wE D k l ≠ wE D l k → R = false) := fun h => by
                show R = false
                cases R
                · rfl
                · exact absurd ((HF.out.1 rfl).2.1 k hlt l hlt2) h
              have hnx : Hid (wE D k l = wE D l k → ∀ b, b < l + 1 → wE D k b = wE D b k) := fun h b hb => by
                by_cases e : b = l
                · subst e; exact h
                · exact hin.out b (by omega)
              generalize wE D k l = x at *
              generalize wE D l k = y at *
              have HBd := Lib.hid (fun n => below_drewN hB2 n)
              clear hce hce2 hrow hrow2 q1 q2 hB2 hin
              by_cases hxy : x = y
              · have HX2 := Lib.hid (hnx.out hxy)
                have hb2 : (x != y) = false := by simp [hxy]
                clear hno hnx hxy
                go_wp2_with fail
                go_quiet (fail)
                go_wp2_with fail
                go_roundw
                case rel => exact ⟨l + 1, by omega, by go_num, HX2, HBd.out _⟩
                case measure => simp [intOf]; omega
              · have HO := Lib.hid (hno.out hxy)
                have hb2 : (x != y) = true := by simp [hxy]
                clear hno hnx hxy
                go_wp2_with fail
                go_quiet (fail)
                go_wp2_with fail
                go_ret
                exact ⟨by rw [HO.out]; rfl, HX.out _ (HBd.out _)⟩
            · obtain rfl : l = k := by omega
              have HX2 : Hid (∀ a, a < l + 1 → ∀ b, b < a → wE D a b = wE D b a) := fun a ha b hb => by
                by_cases e : a = l
                · subst e; exact hin.out b hb
                · exact hsym.out a (by omega) b hb
              have HB2 := Lib.hid hB2
              clear hin hB2
              go_wp2_with fail
              go_roundw
              case rel => exact ⟨l + 1, by omega, by go_num, HX2, HB2.out⟩
              case measure => simp [intOf]; omega
        · obtain rfl : k = i := by omega
          obtain ⟨x0, x1, x2, x3⟩ := HK.out wr hB
          have HB := Lib.hid hB
          clear hB HL
          go_wp2_with fail
          go_loop [9, 10] (fun i' _ => ∃ j : Nat, j ≤ m ∧ i' = .int .i64 j ∧ Hid (∀ a, a < j → ((A.getD a []).length = k ∧ (-100 ≤ B.getD a 0 ∧ B.getD a 0 ≤ 100)) ∧ ∀ b, b < k → -20 ≤ wE A a b ∧ wE A a b ≤ 20)) (fun i' _ => m - (intOf i').toNat)
          case atStart => exact ⟨0, Nat.zero_le _, rfl, fun j hj => absurd hj (Nat.not_lt_zero _)⟩
          case round =>
            obtain ⟨j, hj, rfl, hgood⟩ := hrel
            by_cases hlt : j < m
            · obtain ⟨b3, o3, ra, rc, rfl, hu, hl63, hrow⟩ := HA.out wr HB.out j hlt
              obtain ⟨b4, o4, rfl, hc⟩ := HBB.out wr HB.out j hlt
              have hno : Hid (¬ (((A.getD j []).length = k ∧ (-100 ≤ B.getD j 0 ∧ B.getD j 0 ≤ 100)) ∧ ∀ b, b < k → -20 ≤ wE A j b ∧ wE A j b ≤ 20) → R = false) := fun h => by
                show R = false
                cases R
                · rfl
                · exact absurd ((HF.out.1 rfl).2.2 j hlt) h
              have hnx : Hid ((A.getD j []).length = k → (-100 ≤ B.getD j 0 ∧ B.getD j 0 ≤ 100) → (∀ b, b < k → -20 ≤ wE A j b ∧ wE A j b ≤ 20) → ∀ a, a < j + 1 → ((A.getD a []).length = k ∧ (-100 ≤ B.getD a 0 ∧ B.getD a 0 ≤ 100)) ∧ ∀ b, b < k → -20 ≤ wE A a b ∧ wE A a b ≤ 20) := fun h1 h2 h3 a ha => by
                by_cases e : a = j
                · subst e; exact ⟨⟨h1, h2⟩, h3⟩
                · exact hgood.out a (by omega)
              generalize (A.getD j []).length = q at *
              generalize B.getD j 0 = x at *
              by_cases hq : q = k
              case neg =>
                have HO := Lib.hid (hno.out (fun c => hq c.1.1))
                have hne : ((q : Int) != (k : Int)) = true := by simp; omega
                clear hno hnx hgood hrow hq
                go_wp2_with fail
                go_ret
                exact ⟨by rw [HO.out]; rfl, HX.out _ HB.out⟩
              obtain ⟨r, o, rfl, hce⟩ := hrow hq
              have HE := Lib.hid hce
              have hne : ((q : Int) != (k : Int)) = false := by simp [hq]
              by_cases hx : -100 ≤ x ∧ x ≤ 100
              case neg =>
                have HO := Lib.hid (hno.out (fun c => hx c.1.2))
                have HDc := Lib.hid (show decide (-100 ≤ x ∧ x ≤ 100) = false from decide_eq_false hx)
                clear hno hnx hgood hrow hq hx hce
                go_wp2_with (go_at_call 65; refine (l01In_is _ _ _ _ _ HDc.out).mono ?_; rintro e w' ⟨rfl, rfl⟩)
                go_ret
                exact ⟨by rw [HO.out]; rfl, HX.out _ HB.out⟩
              have HDc := Lib.hid (show decide (-100 ≤ x ∧ x ≤ 100) = true from decide_eq_true hx)
              have HN2 := Lib.hid (hnx.out hq hx)
              have HO2 := Lib.hid (show ∀ b, b < k → ¬ (-20 ≤ wE A j b ∧ wE A j b ≤ 20) → R = false from fun b hb h => hno.out (fun c => h (c.2 b hb)))
              clear hno hnx hgood hrow hx hce
              go_wp2_with (go_at_call 65; refine (l01In_is _ _ _ _ _ HDc.out).mono ?_; rintro e w' ⟨rfl, rfl⟩)
              clear hc
              have hu' : wr.cell? ⟨b3, o3 + j, none⟩ = some (.slice (some ⟨r, o, none⟩) k rc) := by rw [hu, hq]
              clear hu hne hq
              go_loop [10] (fun i' => ∃ l : Nat, l ≤ k ∧ i' = .int .i64 l ∧ Hid (∀ b, b < l → -20 ≤ wE A j b ∧ wE A j b ≤ 20)) (fun i' => k - (intOf i').toNat)
              case atStart => exact ⟨0, Nat.zero_le _, rfl, fun j hj => absurd hj (Nat.not_lt_zero _)⟩
              case round =>
                obtain ⟨l, hl, rfl, hin⟩ := hrel
                by_cases hlt2 : l < k
                · have e1 := HE.out l hlt2
                  have hno := HO2.out l hlt2
                  have hnx : Hid ((-20 ≤ wE A j l ∧ wE A j l ≤ 20) → ∀ b, b < l + 1 → -20 ≤ wE A j b ∧ wE A j b ≤ 20) := fun h b hb => by
                    by_cases e : b = l
                    · subst e; exact h
                    · exact hin.out b (by omega)
                  generalize wE A j l = y at *
                  have HNO := Lib.hid hno
                  clear hno hin
                  by_cases hy : -20 ≤ y ∧ y ≤ 20
                  · have HX2 := Lib.hid (hnx.out hy)
                    have HDy := Lib.hid (show decide (-20 ≤ y ∧ y ≤ 20) = true from decide_eq_true hy)
                    clear hy hnx HNO
                    go_wp2_with (go_at_call 65; refine (l01In_is _ _ _ _ _ HDy.out).mono ?_; rintro e w' ⟨rfl, rfl⟩)
                    go_round
                    case rel => exact ⟨l + 1, by omega, by go_num, HX2⟩
                    case measure => simp [intOf]; omega
                  · have HO := Lib.hid (HNO.out hy)
                    have HDy := Lib.hid (show decide (-20 ≤ y ∧ y ≤ 20) = false from decide_eq_false hy)
                    clear hy hnx HNO
                    go_wp2_with (go_at_call 65; refine (l01In_is _ _ _ _ _ HDy.out).mono ?_; rintro e w' ⟨rfl, rfl⟩)
                    go_ret
                    exact ⟨by rw [HO.out]; rfl, HX.out _ HB.out⟩
                · obtain rfl : l = k := by omega
                  have HX2 := Lib.hid (HN2.out hin.out)
                  clear hin
                  go_wp2_with fail
                  go_round
                  case rel => exact ⟨j + 1, by omega, by go_num, HX2⟩
                  case measure => simp [intOf]; omega
            · obtain rfl : j = m := by omega
              have HO : Hid (R = true) := HF.out.2 ⟨HG1.out, hsym.out, hgood.out⟩
              clear hgood
              go_wp2_with fail
              go_ret
              exact ⟨by rw [HO.out]; rfl, HX.out _ HB.out⟩

theorem specIsProgram_any (d c a b : Value) (D : List (List Int)) (C : List Int) (A : List (List Int)) (B : List Int) (w : World) (h1 : PM.Rows w d D) (h2 : Ints w c C) (h3 : PM.Rows w a A) (h4 : Ints w b B) (hs : szWn D C A B ≤ 1048576) :
    Calls Try.prog 37 #[.agg #[d, c, a, b]] w fun e w' => e = .returned (.bool (isWB D C A B)) ∧ Below w.heap.size w w' := by
  have HI := Lib.hid (fun (w' : World) (h : Below w.heap.size w w') => l09Is_any d c a b D C A B w' (h1.below h) (h2.below h) (h3.below h) (h4.below h) hs)
  obtain ⟨x1, y1, rfl, _⟩ := h1
  obtain ⟨x2, y2, rfl, _⟩ := h2
  obtain ⟨x3, y3, rfl, _⟩ := h3
  obtain ⟨x4, y4, rfl, _⟩ := h4
  clear hs
  go_enter Try.func37, Try.ntmps37
  go_wp2_with fail
  refine (HI.out _ (by (repeat' (first | (with_reducible exact Below.refl _ _) | (with_reducible assumption) | (with_reducible refine Below.alloc ?_ ?_ _) | (with_reducible refine Below.drew ?_) | (with_reducible refine below_drewN ?_ _) | (with_reducible refine Below.setCell ?_ ?_ _) | (with_reducible refine Below.trans ?_ (Below.mono (by with_reducible assumption) ?_)) | (with_reducible exact Below.size (by with_reducible assumption)) | go_size)))).mono ?_; rintro e w1 ⟨rfl, hb⟩
  have hw1 : Below w.heap.size w w1 := by (repeat' (first | (with_reducible exact Below.refl _ _) | (with_reducible assumption) | (with_reducible refine Below.alloc ?_ ?_ _) | (with_reducible refine Below.drew ?_) | (with_reducible refine below_drewN ?_ _) | (with_reducible refine Below.setCell ?_ ?_ _) | (with_reducible refine Below.trans ?_ (Below.mono (by with_reducible assumption) ?_)) | (with_reducible exact Below.size (by with_reducible assumption)) | go_size))
  go_wp2_with fail
  go_ret
  exact ⟨rfl, hw1⟩
end Go.Proofs.Ytgncaploccbfnaa.PW
