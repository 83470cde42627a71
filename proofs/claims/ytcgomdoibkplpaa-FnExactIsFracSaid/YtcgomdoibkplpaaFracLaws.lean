/-
  The exact laws of the functions on fractions: whatever the arguments, the program answers as the model: for every pair of numbers, and every number k.
-/
import Derived.Test.YtcgomdoibkplpaaFracWalkH
namespace Go.Proofs.Ytcgomdoibkplpaa.FW
open Go.RowKit Go.Proofs.Ytcgomdoibkplpaa
open Go.Proofs.Ytcgomdoibkplpaa.FM

/-- What an assignment of a fraction and a code leaves: the fraction in a new block, the code in a slot. -/
def FracAt (W0 : World) (x y c : Int) (sa sb : Value) (wx : World) : Prop :=
  ∃ N : Nat, W0.heap.size ≤ N ∧ N < wx.heap.size ∧ sa = .pointer (some ⟨N, 0, none⟩) ∧ sb = .int .i64 c ∧ wx.cell? ⟨N, 0, none⟩ = some (.int .i64 x) ∧ wx.cell? ⟨N, 1, none⟩ = some (.int .i64 y) ∧ Below W0.heap.size W0 wx

theorem two_set {W : World} {b : Nat} {x y u v : Value} (h0 : W.cell? ⟨b, 0, none⟩ = some u) (h1 : W.cell? ⟨b, 1, none⟩ = some v) :
    ((W.setCell ⟨b, 0, none⟩ x).setCell ⟨b, 1, none⟩ y).cell? ⟨b, 0, none⟩ = some x ∧ ((W.setCell ⟨b, 0, none⟩ x).setCell ⟨b, 1, none⟩ y).cell? ⟨b, 1, none⟩ = some y := by
  have n1 : (⟨b, 0, none⟩ : Addr) ≠ ⟨b, 1, none⟩ := by simp
  have n2 : (⟨b, 1, none⟩ : Addr) ≠ ⟨b, 0, none⟩ := by simp
  have e1 : (W.setCell ⟨b, 0, none⟩ x).cell? ⟨b, 1, none⟩ = some v := (World.cell?_setCell_other W _ _ _ n1).trans h1
  constructor
  · exact (World.cell?_setCell_other _ _ _ _ n2).trans (World.cell?_setCell_same W _ _ h0)
  · exact World.cell?_setCell_same _ _ _ e1

theorem specAdd_at (an ad bn bd k x y c : Int) (w : World) (h : addOut an ad bn bd k = (x, y, c)) :
    Calls Try.prog 14 #[.agg #[.int .i64 an, .int .i64 ad], .agg #[.int .i64 bn, .int .i64 bd], .int .i64 k] w fun e w' => e = .returned (.tuple #[.agg #[.int .i64 x, .int .i64 y], .int .i64 c]) ∧ Below w.heap.size w w' := by
  have := specAdd_any an ad bn bd k w
  rw [h] at this
  exact this

theorem implAdd_at (an ad bn bd k x y c : Int) (w : World) (h : addOut an ad bn bd k = (x, y, c)) :
    Calls Try.prog 15 #[.agg #[.int .i64 an, .int .i64 ad], .agg #[.int .i64 bn, .int .i64 bd], .int .i64 k] w fun e w' => e = .returned (.tuple #[.agg #[.int .i64 x, .int .i64 y], .int .i64 c]) ∧ Below w.heap.size w w' := by
  have := implAdd_any an ad bn bd k w
  rw [h] at this
  exact this

theorem specMultiply_at (an ad bn bd x y c : Int) (w : World) (h : mulOut an ad bn bd = (x, y, c)) :
    Calls Try.prog 16 #[.agg #[.int .i64 an, .int .i64 ad], .agg #[.int .i64 bn, .int .i64 bd]] w fun e w' => e = .returned (.tuple #[.agg #[.int .i64 x, .int .i64 y], .int .i64 c]) ∧ Below w.heap.size w w' := by
  have := specMultiply_any an ad bn bd w
  rw [h] at this
  exact this

theorem implMultiply_at (an ad bn bd x y c : Int) (w : World) (h : mulOut an ad bn bd = (x, y, c)) :
    Calls Try.prog 17 #[.agg #[.int .i64 an, .int .i64 ad], .agg #[.int .i64 bn, .int .i64 bd]] w fun e w' => e = .returned (.tuple #[.agg #[.int .i64 x, .int .i64 y], .int .i64 c]) ∧ Below w.heap.size w w' := by
  have := implMultiply_any an ad bn bd w
  rw [h] at this
  exact this

theorem specFracOf_at (an ad x y c : Int) (w : World) (h : fracOut an ad = (x, y, c)) :
    Calls Try.prog 11 #[.int .i64 an, .int .i64 ad] w fun e w' => e = .returned (.tuple #[.agg #[.int .i64 x, .int .i64 y], .int .i64 c]) ∧ Below w.heap.size w w' := by
  have := specFracOf_any an ad w
  rw [h] at this
  exact this

theorem implFracOf_at (an ad x y c : Int) (w : World) (h : fracOut an ad = (x, y, c)) :
    Calls Try.prog 12 #[.int .i64 an, .int .i64 ad] w fun e w' => e = .returned (.tuple #[.agg #[.int .i64 x, .int .i64 y], .int .i64 c]) ∧ Below w.heap.size w w' := by
  have := implFracOf_any an ad w
  rw [h] at this
  exact this

theorem law_FnExactIsFrac (an ad : Int) (w : World) :
    Calls Try.prog 3 #[.agg #[.int .i64 an, .int .i64 ad]] w fun e w' => e = .returned (.bool true) ∧ Below w.heap.size w w' := by
  go_enter Try.func3, Try.ntmps3
  go_wp2_with fail
  refine (toFrac_any _ _ _).mono ?_; rintro e w1 ⟨rfl, hb1⟩; obtain ⟨hc_hb1, hf_hb1⟩ := bcell hb1; obtain ⟨hcA_hb1, hfA_hb1⟩ := bcellG (W0 := w) hb1 (by (repeat' (first | (with_reducible exact Below.refl _ _) | (with_reducible assumption) | (with_reducible refine Below.alloc ?_ ?_ _) | (with_reducible refine Below.drew ?_) | (with_reducible refine below_drewN ?_ _) | (with_reducible refine Below.setCell ?_ ?_ _) | (with_reducible refine Below.trans ?_ (Below.mono (by with_reducible assumption) ?_)) | (with_reducible exact Below.size (by with_reducible assumption)) | go_size))); have hz_hb1 := hb1.size; (try simp at hz_hb1); (try simp only [Nat.add_one_le_iff] at hz_hb1); have hz0_hb1 : w.heap.size < w1.heap.size := (by omega)
  go_wp2_with fail
  refine (specIsFrac_any _ _ _).mono ?_; rintro e w2 ⟨rfl, hb2⟩; obtain ⟨hc_hb2, hf_hb2⟩ := bcell hb2; obtain ⟨hcA_hb2, hfA_hb2⟩ := bcellG (W0 := w1) hb2 (by (repeat' (first | (with_reducible exact Below.refl _ _) | (with_reducible assumption) | (with_reducible refine Below.alloc ?_ ?_ _) | (with_reducible refine Below.drew ?_) | (with_reducible refine below_drewN ?_ _) | (with_reducible refine Below.setCell ?_ ?_ _) | (with_reducible refine Below.trans ?_ (Below.mono (by with_reducible assumption) ?_)) | (with_reducible exact Below.size (by with_reducible assumption)) | go_size))); have hz_hb2 := hb2.size; (try simp at hz_hb2); (try simp only [Nat.add_one_le_iff] at hz_hb2); have hz0_hb2 : w.heap.size < w2.heap.size := (by omega)
  go_wp2_with fail
  refine (toFrac_any _ _ _).mono ?_; rintro e w3 ⟨rfl, hb3⟩; obtain ⟨hc_hb3, hf_hb3⟩ := bcell hb3; obtain ⟨hcA_hb3, hfA_hb3⟩ := bcellG (W0 := w2) hb3 (by (repeat' (first | (with_reducible exact Below.refl _ _) | (with_reducible assumption) | (with_reducible refine Below.alloc ?_ ?_ _) | (with_reducible refine Below.drew ?_) | (with_reducible refine below_drewN ?_ _) | (with_reducible refine Below.setCell ?_ ?_ _) | (with_reducible refine Below.trans ?_ (Below.mono (by with_reducible assumption) ?_)) | (with_reducible exact Below.size (by with_reducible assumption)) | go_size))); have hz_hb3 := hb3.size; (try simp at hz_hb3); (try simp only [Nat.add_one_le_iff] at hz_hb3); have hz0_hb3 : w.heap.size < w3.heap.size := (by omega)
  go_wp2_with fail
  refine (implIsFrac_any _ _ _).mono ?_; rintro e w4 ⟨rfl, hb4⟩; obtain ⟨hc_hb4, hf_hb4⟩ := bcell hb4; obtain ⟨hcA_hb4, hfA_hb4⟩ := bcellG (W0 := w3) hb4 (by (repeat' (first | (with_reducible exact Below.refl _ _) | (with_reducible assumption) | (with_reducible refine Below.alloc ?_ ?_ _) | (with_reducible refine Below.drew ?_) | (with_reducible refine below_drewN ?_ _) | (with_reducible refine Below.setCell ?_ ?_ _) | (with_reducible refine Below.trans ?_ (Below.mono (by with_reducible assumption) ?_)) | (with_reducible exact Below.size (by with_reducible assumption)) | go_size))); have hz_hb4 := hb4.size; (try simp at hz_hb4); (try simp only [Nat.add_one_le_iff] at hz_hb4); have hz0_hb4 : w.heap.size < w4.heap.size := (by omega)
  go_wp2_with fail
  all_goals go_ret
  all_goals refine ⟨rfl, ?_⟩
  all_goals (repeat' (first | (with_reducible exact Below.refl _ _) | (with_reducible assumption) | (with_reducible refine Below.alloc ?_ ?_ _) | (with_reducible refine Below.drew ?_) | (with_reducible refine below_drewN ?_ _) | (with_reducible refine Below.setCell ?_ ?_ _) | (with_reducible refine Below.trans ?_ (Below.mono (by with_reducible assumption) ?_)) | (with_reducible exact Below.size (by with_reducible assumption)) | go_size))

set_option maxHeartbeats 1000000 in
theorem law_FnExactAddFracs (an ad bn bd k : Int) (w : World) :
    Calls Try.prog 5 #[.agg #[.int .i64 an, .int .i64 ad], .agg #[.int .i64 bn, .int .i64 bd], .int .i64 k] w fun e w' => e = .returned (.bool true) ∧ Below w.heap.size w w' := by
  obtain ⟨x, y, c, h⟩ : ∃ x y c, addOut an ad bn bd k = (x, y, c) := ⟨_, _, _, rfl⟩
  have H := Lib.hid h
  clear h
  obtain ⟨W0, hW0⟩ : ∃ W0, W0 = ((w.alloc (Obj.cells #[Value.int IntKind.i64 an, Value.int IntKind.i64 ad] 23)).alloc (Obj.cells #[Value.int IntKind.i64 bn, Value.int IntKind.i64 bd] 23)) := ⟨_, rfl⟩
  have hz0 : w.heap.size + 2 = W0.heap.size := by rw [hW0]; simp
  have hb0 : Below w.heap.size w W0 := by rw [hW0]; (repeat' (first | (with_reducible exact Below.refl _ _) | (with_reducible assumption) | (with_reducible refine Below.alloc ?_ ?_ _) | (with_reducible refine Below.drew ?_) | (with_reducible refine below_drewN ?_ _) | (with_reducible refine Below.setCell ?_ ?_ _) | (with_reducible refine Below.trans ?_ (Below.mono (by with_reducible assumption) ?_)) | (with_reducible exact Below.size (by with_reducible assumption)) | go_size))
  have r1 : ∀ w', Below W0.heap.size W0 w' → w'.cell? ⟨w.heap.size, 0, none⟩ = some (.int .i64 an) := fun w' h => (h.cell (p := ⟨w.heap.size, 0, none⟩) (by show w.heap.size < _; omega)).trans (by rw [hW0]; simp)
  have r2 : ∀ w', Below W0.heap.size W0 w' → w'.cell? ⟨w.heap.size, 1, none⟩ = some (.int .i64 ad) := fun w' h => (h.cell (p := ⟨w.heap.size, 1, none⟩) (by show w.heap.size < _; omega)).trans (by rw [hW0]; simp)
  have r3 : ∀ w', Below W0.heap.size W0 w' → w'.cell? ⟨w.heap.size + 1, 0, none⟩ = some (.int .i64 bn) := fun w' h => (h.cell (p := ⟨w.heap.size + 1, 0, none⟩) (by show w.heap.size + 1 < _; omega)).trans (by rw [hW0]; simp)
  have r4 : ∀ w', Below W0.heap.size W0 w' → w'.cell? ⟨w.heap.size + 1, 1, none⟩ = some (.int .i64 bd) := fun w' h => (h.cell (p := ⟨w.heap.size + 1, 1, none⟩) (by show w.heap.size + 1 < _; omega)).trans (by rw [hW0]; simp)
  have HW := Lib.hid hW0
  have HZ := Lib.hid hz0
  clear hW0 hz0
  go_enter Try.func5, Try.ntmps5
  go_upto_region 1 with fail
  rw [← HW.out]
  go_cut [7, 8] (fun sa sb wx => FracAt W0 x y c sa sb wx)
  case first =>
    go_region_held3 (fun w' => Below W0.heap.size W0 w') ((repeat' (first | (with_reducible exact Below.refl _ _) | (with_reducible assumption) | (with_reducible refine Below.alloc ?_ ?_ _) | (with_reducible refine Below.drew ?_) | (with_reducible refine below_drewN ?_ _) | (with_reducible refine Below.setCell ?_ ?_ _) | (with_reducible refine Below.trans ?_ (Below.mono (by with_reducible assumption) ?_)) | (with_reducible exact Below.size (by with_reducible assumption)) | go_size)))
      (first | (go_at_call_of 9 (Value.agg #[Value.int IntKind.i64 an, Value.int IntKind.i64 ad]); refine (toFrac_any _ _ _).mono ?_; rintro e wA ⟨rfl, hA⟩; obtain ⟨hcA, hfA⟩ := bcell hA; have hzA := hA.size; (try simp at hzA); have hkA : Below W0.heap.size W0 wA := (by (repeat' (first | (with_reducible exact Below.refl _ _) | (with_reducible assumption) | (with_reducible refine Below.alloc ?_ ?_ _) | (with_reducible refine Below.drew ?_) | (with_reducible refine below_drewN ?_ _) | (with_reducible refine Below.setCell ?_ ?_ _) | (with_reducible refine Below.trans ?_ (Below.mono (by with_reducible assumption) ?_)) | (with_reducible exact Below.size (by with_reducible assumption)) | go_size))); (try have hz_W0_wA : W0.heap.size < wA.heap.size := (by omega))) | (go_at_call_of 9 (Value.agg #[Value.int IntKind.i64 bn, Value.int IntKind.i64 bd]); refine (toFrac_any _ _ _).mono ?_; rintro e wB ⟨rfl, hB⟩; obtain ⟨hcB, hfB⟩ := bcell hB; have hzB := hB.size; (try simp at hzB); have hkB : Below W0.heap.size W0 wB := (by (repeat' (first | (with_reducible exact Below.refl _ _) | (with_reducible assumption) | (with_reducible refine Below.alloc ?_ ?_ _) | (with_reducible refine Below.drew ?_) | (with_reducible refine below_drewN ?_ _) | (with_reducible refine Below.setCell ?_ ?_ _) | (with_reducible refine Below.trans ?_ (Below.mono (by with_reducible assumption) ?_)) | (with_reducible exact Below.size (by with_reducible assumption)) | go_size))); (try have hz_W0_wB : W0.heap.size < wB.heap.size := (by omega)); (try have hz_wA_wB : wA.heap.size < wB.heap.size := (by omega))) | (go_at_call 14; refine (specAdd_at _ _ _ _ _ _ _ _ _ H.out).mono ?_; rintro e wS ⟨rfl, hS⟩; obtain ⟨hcS, hfS⟩ := bcell hS; have hzS := hS.size; (try simp at hzS); have hkS : Below W0.heap.size W0 wS := (by (repeat' (first | (with_reducible exact Below.refl _ _) | (with_reducible assumption) | (with_reducible refine Below.alloc ?_ ?_ _) | (with_reducible refine Below.drew ?_) | (with_reducible refine below_drewN ?_ _) | (with_reducible refine Below.setCell ?_ ?_ _) | (with_reducible refine Below.trans ?_ (Below.mono (by with_reducible assumption) ?_)) | (with_reducible exact Below.size (by with_reducible assumption)) | go_size))); (try have hz_W0_wS : W0.heap.size < wS.heap.size := (by omega)); (try have hz_wA_wS : wA.heap.size < wS.heap.size := (by omega)); (try have hz_wB_wS : wB.heap.size < wS.heap.size := (by omega))))
    all_goals (go_wp2_with fail; go_meet)
    all_goals (have := hkA.size; have := hkB.size; have := hkS.size; have := hS.size)
    all_goals refine ⟨_, ?_, ?_, rfl, rfl, ?_, ?_, ?_⟩
    all_goals first | omega | (simp; done) | (simp; omega) | (simp [*]; done) | (exact (two_set (u := .int .i64 0) (v := .int .i64 0) (by simp [*]) (by simp [*])).1) | (exact (two_set (u := .int .i64 0) (v := .int .i64 0) (by simp [*]) (by simp [*])).2) | (repeat' (first | (with_reducible exact Below.refl _ _) | (with_reducible assumption) | (with_reducible refine Below.alloc ?_ ?_ _) | (with_reducible refine Below.drew ?_) | (with_reducible refine below_drewN ?_ _) | (with_reducible refine Below.setCell ?_ ?_ _) | (with_reducible refine Below.trans ?_ (Below.mono (by with_reducible assumption) ?_)) | (with_reducible exact Below.size (by with_reducible assumption)) | go_size))

  case rest =>
    obtain ⟨N, hN1, hN2, rfl, rfl, hx, hy, hb1⟩ := hcut
    have q1 : ∀ w', Below wc.heap.size wc w' → w'.cell? ⟨w.heap.size, 0, none⟩ = some (.int .i64 an) := fun w' h => r1 w' (hb1.trans (h.mono hb1.size))
    have q2 : ∀ w', Below wc.heap.size wc w' → w'.cell? ⟨w.heap.size, 1, none⟩ = some (.int .i64 ad) := fun w' h => r2 w' (hb1.trans (h.mono hb1.size))
    have q3 : ∀ w', Below wc.heap.size wc w' → w'.cell? ⟨w.heap.size + 1, 0, none⟩ = some (.int .i64 bn) := fun w' h => r3 w' (hb1.trans (h.mono hb1.size))
    have q4 : ∀ w', Below wc.heap.size wc w' → w'.cell? ⟨w.heap.size + 1, 1, none⟩ = some (.int .i64 bd) := fun w' h => r4 w' (hb1.trans (h.mono hb1.size))
    have q5 : ∀ w', Below wc.heap.size wc w' → w'.cell? ⟨N, 0, none⟩ = some (.int .i64 x) := fun w' h => (h.cell (p := ⟨N, 0, none⟩) hN2).trans hx
    have q6 : ∀ w', Below wc.heap.size wc w' → w'.cell? ⟨N, 1, none⟩ = some (.int .i64 y) := fun w' h => (h.cell (p := ⟨N, 1, none⟩) hN2).trans hy
    clear r1 r2 r3 r4
    go_upto_region 2 with fail
    go_cut [9, 10] (fun sa sb wx => FracAt wc x y c sa sb wx)
    case first =>
        go_region_held3 (fun w' => Below wc.heap.size wc w') ((repeat' (first | (with_reducible exact Below.refl _ _) | (with_reducible assumption) | (with_reducible refine Below.alloc ?_ ?_ _) | (with_reducible refine Below.drew ?_) | (with_reducible refine below_drewN ?_ _) | (with_reducible refine Below.setCell ?_ ?_ _) | (with_reducible refine Below.trans ?_ (Below.mono (by with_reducible assumption) ?_)) | (with_reducible exact Below.size (by with_reducible assumption)) | go_size)))
          (first | (go_at_call_of 9 (Value.agg #[Value.int IntKind.i64 an, Value.int IntKind.i64 ad]); refine (toFrac_any _ _ _).mono ?_; rintro e wA ⟨rfl, hA⟩; obtain ⟨hcA, hfA⟩ := bcell hA; have hzA := hA.size; (try simp at hzA); have hkA : Below wc.heap.size wc wA := (by (repeat' (first | (with_reducible exact Below.refl _ _) | (with_reducible assumption) | (with_reducible refine Below.alloc ?_ ?_ _) | (with_reducible refine Below.drew ?_) | (with_reducible refine below_drewN ?_ _) | (with_reducible refine Below.setCell ?_ ?_ _) | (with_reducible refine Below.trans ?_ (Below.mono (by with_reducible assumption) ?_)) | (with_reducible exact Below.size (by with_reducible assumption)) | go_size))); (try have hz_wc_wA : wc.heap.size < wA.heap.size := (by omega))) | (go_at_call_of 9 (Value.agg #[Value.int IntKind.i64 bn, Value.int IntKind.i64 bd]); refine (toFrac_any _ _ _).mono ?_; rintro e wB ⟨rfl, hB⟩; obtain ⟨hcB, hfB⟩ := bcell hB; have hzB := hB.size; (try simp at hzB); have hkB : Below wc.heap.size wc wB := (by (repeat' (first | (with_reducible exact Below.refl _ _) | (with_reducible assumption) | (with_reducible refine Below.alloc ?_ ?_ _) | (with_reducible refine Below.drew ?_) | (with_reducible refine below_drewN ?_ _) | (with_reducible refine Below.setCell ?_ ?_ _) | (with_reducible refine Below.trans ?_ (Below.mono (by with_reducible assumption) ?_)) | (with_reducible exact Below.size (by with_reducible assumption)) | go_size))); (try have hz_wc_wB : wc.heap.size < wB.heap.size := (by omega)); (try have hz_wA_wB : wA.heap.size < wB.heap.size := (by omega))) | (go_at_call 15; refine (implAdd_at _ _ _ _ _ _ _ _ _ H.out).mono ?_; rintro e wS ⟨rfl, hS⟩; obtain ⟨hcS, hfS⟩ := bcell hS; have hzS := hS.size; (try simp at hzS); have hkS : Below wc.heap.size wc wS := (by (repeat' (first | (with_reducible exact Below.refl _ _) | (with_reducible assumption) | (with_reducible refine Below.alloc ?_ ?_ _) | (with_reducible refine Below.drew ?_) | (with_reducible refine below_drewN ?_ _) | (with_reducible refine Below.setCell ?_ ?_ _) | (with_reducible refine Below.trans ?_ (Below.mono (by with_reducible assumption) ?_)) | (with_reducible exact Below.size (by with_reducible assumption)) | go_size))); (try have hz_wc_wS : wc.heap.size < wS.heap.size := (by omega)); (try have hz_wA_wS : wA.heap.size < wS.heap.size := (by omega)); (try have hz_wB_wS : wB.heap.size < wS.heap.size := (by omega))))
        all_goals (go_wp2_with fail; go_meet)
        all_goals (have := hkA.size; have := hkB.size; have := hkS.size; have := hS.size)
        all_goals refine ⟨_, ?_, ?_, rfl, rfl, ?_, ?_, ?_⟩
        all_goals first | omega | (simp; done) | (simp; omega) | (simp [*]; done) | (exact (two_set (u := .int .i64 0) (v := .int .i64 0) (by simp [*]) (by simp [*])).1) | (exact (two_set (u := .int .i64 0) (v := .int .i64 0) (by simp [*]) (by simp [*])).2) | (repeat' (first | (with_reducible exact Below.refl _ _) | (with_reducible assumption) | (with_reducible refine Below.alloc ?_ ?_ _) | (with_reducible refine Below.drew ?_) | (with_reducible refine below_drewN ?_ _) | (with_reducible refine Below.setCell ?_ ?_ _) | (with_reducible refine Below.trans ?_ (Below.mono (by with_reducible assumption) ?_)) | (with_reducible exact Below.size (by with_reducible assumption)) | go_size))
    
    case rest =>
      obtain ⟨N2, hM1, hM2, rfl, rfl, hx2, hy2, hb2⟩ := hcut
      have c1 := q5 _ hb2
      have c2 := q6 _ hb2
      have hb3 : Below w.heap.size w wc := (hb0.trans (hb1.mono hb0.size)).trans (hb2.mono (Nat.le_trans hb0.size hb1.size))
      clear q1 q2 q3 q4 q5 q6
      go_wp2_with (go_at_call 13; refine (eqFrac_same _ _ _).mono ?_; rintro e wE ⟨rfl, hE⟩)
      all_goals go_ret
      all_goals refine ⟨rfl, ?_⟩
      all_goals (repeat' (first | (with_reducible exact Below.refl _ _) | (with_reducible assumption) | (with_reducible refine Below.alloc ?_ ?_ _) | (with_reducible refine Below.drew ?_) | (with_reducible refine below_drewN ?_ _) | (with_reducible refine Below.setCell ?_ ?_ _) | (with_reducible refine Below.trans ?_ (Below.mono (by with_reducible assumption) ?_)) | (with_reducible exact Below.size (by with_reducible assumption)) | go_size))

set_option maxHeartbeats 1000000 in
theorem law_FnExactMultiplyFracs (an ad bn bd : Int) (w : World) :
    Calls Try.prog 6 #[.agg #[.int .i64 an, .int .i64 ad], .agg #[.int .i64 bn, .int .i64 bd]] w fun e w' => e = .returned (.bool true) ∧ Below w.heap.size w w' := by
  obtain ⟨x, y, c, h⟩ : ∃ x y c, mulOut an ad bn bd = (x, y, c) := ⟨_, _, _, rfl⟩
  have H := Lib.hid h
  clear h
  obtain ⟨W0, hW0⟩ : ∃ W0, W0 = ((w.alloc (Obj.cells #[Value.int IntKind.i64 an, Value.int IntKind.i64 ad] 23)).alloc (Obj.cells #[Value.int IntKind.i64 bn, Value.int IntKind.i64 bd] 23)) := ⟨_, rfl⟩
  have hz0 : w.heap.size + 2 = W0.heap.size := by rw [hW0]; simp
  have hb0 : Below w.heap.size w W0 := by rw [hW0]; (repeat' (first | (with_reducible exact Below.refl _ _) | (with_reducible assumption) | (with_reducible refine Below.alloc ?_ ?_ _) | (with_reducible refine Below.drew ?_) | (with_reducible refine below_drewN ?_ _) | (with_reducible refine Below.setCell ?_ ?_ _) | (with_reducible refine Below.trans ?_ (Below.mono (by with_reducible assumption) ?_)) | (with_reducible exact Below.size (by with_reducible assumption)) | go_size))
  have r1 : ∀ w', Below W0.heap.size W0 w' → w'.cell? ⟨w.heap.size, 0, none⟩ = some (.int .i64 an) := fun w' h => (h.cell (p := ⟨w.heap.size, 0, none⟩) (by show w.heap.size < _; omega)).trans (by rw [hW0]; simp)
  have r2 : ∀ w', Below W0.heap.size W0 w' → w'.cell? ⟨w.heap.size, 1, none⟩ = some (.int .i64 ad) := fun w' h => (h.cell (p := ⟨w.heap.size, 1, none⟩) (by show w.heap.size < _; omega)).trans (by rw [hW0]; simp)
  have r3 : ∀ w', Below W0.heap.size W0 w' → w'.cell? ⟨w.heap.size + 1, 0, none⟩ = some (.int .i64 bn) := fun w' h => (h.cell (p := ⟨w.heap.size + 1, 0, none⟩) (by show w.heap.size + 1 < _; omega)).trans (by rw [hW0]; simp)
  have r4 : ∀ w', Below W0.heap.size W0 w' → w'.cell? ⟨w.heap.size + 1, 1, none⟩ = some (.int .i64 bd) := fun w' h => (h.cell (p := ⟨w.heap.size + 1, 1, none⟩) (by show w.heap.size + 1 < _; omega)).trans (by rw [hW0]; simp)
  have HW := Lib.hid hW0
  have HZ := Lib.hid hz0
  clear hW0 hz0
  go_enter Try.func6, Try.ntmps6
  go_upto_region 1 with fail
  rw [← HW.out]
  go_cut [5, 6] (fun sa sb wx => FracAt W0 x y c sa sb wx)
  case first =>
    go_region_held3 (fun w' => Below W0.heap.size W0 w') ((repeat' (first | (with_reducible exact Below.refl _ _) | (with_reducible assumption) | (with_reducible refine Below.alloc ?_ ?_ _) | (with_reducible refine Below.drew ?_) | (with_reducible refine below_drewN ?_ _) | (with_reducible refine Below.setCell ?_ ?_ _) | (with_reducible refine Below.trans ?_ (Below.mono (by with_reducible assumption) ?_)) | (with_reducible exact Below.size (by with_reducible assumption)) | go_size)))
      (first | (go_at_call_of 9 (Value.agg #[Value.int IntKind.i64 an, Value.int IntKind.i64 ad]); refine (toFrac_any _ _ _).mono ?_; rintro e wA ⟨rfl, hA⟩; obtain ⟨hcA, hfA⟩ := bcell hA; have hzA := hA.size; (try simp at hzA); have hkA : Below W0.heap.size W0 wA := (by (repeat' (first | (with_reducible exact Below.refl _ _) | (with_reducible assumption) | (with_reducible refine Below.alloc ?_ ?_ _) | (with_reducible refine Below.drew ?_) | (with_reducible refine below_drewN ?_ _) | (with_reducible refine Below.setCell ?_ ?_ _) | (with_reducible refine Below.trans ?_ (Below.mono (by with_reducible assumption) ?_)) | (with_reducible exact Below.size (by with_reducible assumption)) | go_size))); (try have hz_W0_wA : W0.heap.size < wA.heap.size := (by omega))) | (go_at_call_of 9 (Value.agg #[Value.int IntKind.i64 bn, Value.int IntKind.i64 bd]); refine (toFrac_any _ _ _).mono ?_; rintro e wB ⟨rfl, hB⟩; obtain ⟨hcB, hfB⟩ := bcell hB; have hzB := hB.size; (try simp at hzB); have hkB : Below W0.heap.size W0 wB := (by (repeat' (first | (with_reducible exact Below.refl _ _) | (with_reducible assumption) | (with_reducible refine Below.alloc ?_ ?_ _) | (with_reducible refine Below.drew ?_) | (with_reducible refine below_drewN ?_ _) | (with_reducible refine Below.setCell ?_ ?_ _) | (with_reducible refine Below.trans ?_ (Below.mono (by with_reducible assumption) ?_)) | (with_reducible exact Below.size (by with_reducible assumption)) | go_size))); (try have hz_W0_wB : W0.heap.size < wB.heap.size := (by omega)); (try have hz_wA_wB : wA.heap.size < wB.heap.size := (by omega))) | (go_at_call 16; refine (specMultiply_at _ _ _ _ _ _ _ _ H.out).mono ?_; rintro e wS ⟨rfl, hS⟩; obtain ⟨hcS, hfS⟩ := bcell hS; have hzS := hS.size; (try simp at hzS); have hkS : Below W0.heap.size W0 wS := (by (repeat' (first | (with_reducible exact Below.refl _ _) | (with_reducible assumption) | (with_reducible refine Below.alloc ?_ ?_ _) | (with_reducible refine Below.drew ?_) | (with_reducible refine below_drewN ?_ _) | (with_reducible refine Below.setCell ?_ ?_ _) | (with_reducible refine Below.trans ?_ (Below.mono (by with_reducible assumption) ?_)) | (with_reducible exact Below.size (by with_reducible assumption)) | go_size))); (try have hz_W0_wS : W0.heap.size < wS.heap.size := (by omega)); (try have hz_wA_wS : wA.heap.size < wS.heap.size := (by omega)); (try have hz_wB_wS : wB.heap.size < wS.heap.size := (by omega))))
    all_goals (go_wp2_with fail; go_meet)
    all_goals (have := hkA.size; have := hkB.size; have := hkS.size; have := hS.size)
    all_goals refine ⟨_, ?_, ?_, rfl, rfl, ?_, ?_, ?_⟩
    all_goals first | omega | (simp; done) | (simp; omega) | (simp [*]; done) | (exact (two_set (u := .int .i64 0) (v := .int .i64 0) (by simp [*]) (by simp [*])).1) | (exact (two_set (u := .int .i64 0) (v := .int .i64 0) (by simp [*]) (by simp [*])).2) | (repeat' (first | (with_reducible exact Below.refl _ _) | (with_reducible assumption) | (with_reducible refine Below.alloc ?_ ?_ _) | (with_reducible refine Below.drew ?_) | (with_reducible refine below_drewN ?_ _) | (with_reducible refine Below.setCell ?_ ?_ _) | (with_reducible refine Below.trans ?_ (Below.mono (by with_reducible assumption) ?_)) | (with_reducible exact Below.size (by with_reducible assumption)) | go_size))

  case rest =>
    obtain ⟨N, hN1, hN2, rfl, rfl, hx, hy, hb1⟩ := hcut
    have q1 : ∀ w', Below wc.heap.size wc w' → w'.cell? ⟨w.heap.size, 0, none⟩ = some (.int .i64 an) := fun w' h => r1 w' (hb1.trans (h.mono hb1.size))
    have q2 : ∀ w', Below wc.heap.size wc w' → w'.cell? ⟨w.heap.size, 1, none⟩ = some (.int .i64 ad) := fun w' h => r2 w' (hb1.trans (h.mono hb1.size))
    have q3 : ∀ w', Below wc.heap.size wc w' → w'.cell? ⟨w.heap.size + 1, 0, none⟩ = some (.int .i64 bn) := fun w' h => r3 w' (hb1.trans (h.mono hb1.size))
    have q4 : ∀ w', Below wc.heap.size wc w' → w'.cell? ⟨w.heap.size + 1, 1, none⟩ = some (.int .i64 bd) := fun w' h => r4 w' (hb1.trans (h.mono hb1.size))
    have q5 : ∀ w', Below wc.heap.size wc w' → w'.cell? ⟨N, 0, none⟩ = some (.int .i64 x) := fun w' h => (h.cell (p := ⟨N, 0, none⟩) hN2).trans hx
    have q6 : ∀ w', Below wc.heap.size wc w' → w'.cell? ⟨N, 1, none⟩ = some (.int .i64 y) := fun w' h => (h.cell (p := ⟨N, 1, none⟩) hN2).trans hy
    clear r1 r2 r3 r4
    go_upto_region 2 with fail
    go_cut [7, 8] (fun sa sb wx => FracAt wc x y c sa sb wx)
    case first =>
        go_region_held3 (fun w' => Below wc.heap.size wc w') ((repeat' (first | (with_reducible exact Below.refl _ _) | (with_reducible assumption) | (with_reducible refine Below.alloc ?_ ?_ _) | (with_reducible refine Below.drew ?_) | (with_reducible refine below_drewN ?_ _) | (with_reducible refine Below.setCell ?_ ?_ _) | (with_reducible refine Below.trans ?_ (Below.mono (by with_reducible assumption) ?_)) | (with_reducible exact Below.size (by with_reducible assumption)) | go_size)))
          (first | (go_at_call_of 9 (Value.agg #[Value.int IntKind.i64 an, Value.int IntKind.i64 ad]); refine (toFrac_any _ _ _).mono ?_; rintro e wA ⟨rfl, hA⟩; obtain ⟨hcA, hfA⟩ := bcell hA; have hzA := hA.size; (try simp at hzA); have hkA : Below wc.heap.size wc wA := (by (repeat' (first | (with_reducible exact Below.refl _ _) | (with_reducible assumption) | (with_reducible refine Below.alloc ?_ ?_ _) | (with_reducible refine Below.drew ?_) | (with_reducible refine below_drewN ?_ _) | (with_reducible refine Below.setCell ?_ ?_ _) | (with_reducible refine Below.trans ?_ (Below.mono (by with_reducible assumption) ?_)) | (with_reducible exact Below.size (by with_reducible assumption)) | go_size))); (try have hz_wc_wA : wc.heap.size < wA.heap.size := (by omega))) | (go_at_call_of 9 (Value.agg #[Value.int IntKind.i64 bn, Value.int IntKind.i64 bd]); refine (toFrac_any _ _ _).mono ?_; rintro e wB ⟨rfl, hB⟩; obtain ⟨hcB, hfB⟩ := bcell hB; have hzB := hB.size; (try simp at hzB); have hkB : Below wc.heap.size wc wB := (by (repeat' (first | (with_reducible exact Below.refl _ _) | (with_reducible assumption) | (with_reducible refine Below.alloc ?_ ?_ _) | (with_reducible refine Below.drew ?_) | (with_reducible refine below_drewN ?_ _) | (with_reducible refine Below.setCell ?_ ?_ _) | (with_reducible refine Below.trans ?_ (Below.mono (by with_reducible assumption) ?_)) | (with_reducible exact Below.size (by with_reducible assumption)) | go_size))); (try have hz_wc_wB : wc.heap.size < wB.heap.size := (by omega)); (try have hz_wA_wB : wA.heap.size < wB.heap.size := (by omega))) | (go_at_call 17; refine (implMultiply_at _ _ _ _ _ _ _ _ H.out).mono ?_; rintro e wS ⟨rfl, hS⟩; obtain ⟨hcS, hfS⟩ := bcell hS; have hzS := hS.size; (try simp at hzS); have hkS : Below wc.heap.size wc wS := (by (repeat' (first | (with_reducible exact Below.refl _ _) | (with_reducible assumption) | (with_reducible refine Below.alloc ?_ ?_ _) | (with_reducible refine Below.drew ?_) | (with_reducible refine below_drewN ?_ _) | (with_reducible refine Below.setCell ?_ ?_ _) | (with_reducible refine Below.trans ?_ (Below.mono (by with_reducible assumption) ?_)) | (with_reducible exact Below.size (by with_reducible assumption)) | go_size))); (try have hz_wc_wS : wc.heap.size < wS.heap.size := (by omega)); (try have hz_wA_wS : wA.heap.size < wS.heap.size := (by omega)); (try have hz_wB_wS : wB.heap.size < wS.heap.size := (by omega))))
        all_goals (go_wp2_with fail; go_meet)
        all_goals (have := hkA.size; have := hkB.size; have := hkS.size; have := hS.size)
        all_goals refine ⟨_, ?_, ?_, rfl, rfl, ?_, ?_, ?_⟩
        all_goals first | omega | (simp; done) | (simp; omega) | (simp [*]; done) | (exact (two_set (u := .int .i64 0) (v := .int .i64 0) (by simp [*]) (by simp [*])).1) | (exact (two_set (u := .int .i64 0) (v := .int .i64 0) (by simp [*]) (by simp [*])).2) | (repeat' (first | (with_reducible exact Below.refl _ _) | (with_reducible assumption) | (with_reducible refine Below.alloc ?_ ?_ _) | (with_reducible refine Below.drew ?_) | (with_reducible refine below_drewN ?_ _) | (with_reducible refine Below.setCell ?_ ?_ _) | (with_reducible refine Below.trans ?_ (Below.mono (by with_reducible assumption) ?_)) | (with_reducible exact Below.size (by with_reducible assumption)) | go_size))
    
    case rest =>
      obtain ⟨N2, hM1, hM2, rfl, rfl, hx2, hy2, hb2⟩ := hcut
      have c1 := q5 _ hb2
      have c2 := q6 _ hb2
      have hb3 : Below w.heap.size w wc := (hb0.trans (hb1.mono hb0.size)).trans (hb2.mono (Nat.le_trans hb0.size hb1.size))
      clear q1 q2 q3 q4 q5 q6
      go_wp2_with (go_at_call 13; refine (eqFrac_same _ _ _).mono ?_; rintro e wE ⟨rfl, hE⟩)
      all_goals go_ret
      all_goals refine ⟨rfl, ?_⟩
      all_goals (repeat' (first | (with_reducible exact Below.refl _ _) | (with_reducible assumption) | (with_reducible refine Below.alloc ?_ ?_ _) | (with_reducible refine Below.drew ?_) | (with_reducible refine below_drewN ?_ _) | (with_reducible refine Below.setCell ?_ ?_ _) | (with_reducible refine Below.trans ?_ (Below.mono (by with_reducible assumption) ?_)) | (with_reducible exact Below.size (by with_reducible assumption)) | go_size))

theorem law_FnExactFracOf (an ad : Int) (w : World) :
    Calls Try.prog 4 #[.int .i64 an, .int .i64 ad] w fun e w' => e = .returned (.bool true) ∧ Below w.heap.size w w' := by
  obtain ⟨x, y, c, h⟩ : ∃ x y c, fracOut an ad = (x, y, c) := ⟨_, _, _, rfl⟩
  have H := Lib.hid h
  clear h
  go_enter Try.func4, Try.ntmps4
  go_wp2_with fail
  refine (specFracOf_at _ _ _ _ _ _ H.out).mono ?_; rintro e w1 ⟨rfl, hb1⟩; obtain ⟨hc_hb1, hf_hb1⟩ := bcell hb1; obtain ⟨hcA_hb1, hfA_hb1⟩ := bcellG (W0 := w) hb1 (by (repeat' (first | (with_reducible exact Below.refl _ _) | (with_reducible assumption) | (with_reducible refine Below.alloc ?_ ?_ _) | (with_reducible refine Below.drew ?_) | (with_reducible refine below_drewN ?_ _) | (with_reducible refine Below.setCell ?_ ?_ _) | (with_reducible refine Below.trans ?_ (Below.mono (by with_reducible assumption) ?_)) | (with_reducible exact Below.size (by with_reducible assumption)) | go_size))); have hz_hb1 := hb1.size; (try simp at hz_hb1); (try simp only [Nat.add_one_le_iff] at hz_hb1)
  go_wp2_with fail
  refine (implFracOf_at _ _ _ _ _ _ H.out).mono ?_; rintro e w2 ⟨rfl, hb2⟩; obtain ⟨hc_hb2, hf_hb2⟩ := bcell hb2; obtain ⟨hcA_hb2, hfA_hb2⟩ := bcellG (W0 := w1) hb2 (by (repeat' (first | (with_reducible exact Below.refl _ _) | (with_reducible assumption) | (with_reducible refine Below.alloc ?_ ?_ _) | (with_reducible refine Below.drew ?_) | (with_reducible refine below_drewN ?_ _) | (with_reducible refine Below.setCell ?_ ?_ _) | (with_reducible refine Below.trans ?_ (Below.mono (by with_reducible assumption) ?_)) | (with_reducible exact Below.size (by with_reducible assumption)) | go_size))); have hz_hb2 := hb2.size; (try simp at hz_hb2); (try simp only [Nat.add_one_le_iff] at hz_hb2)
  have hz3 : w1.heap.size < w2.heap.size := by have := hb2.size; simp at this; omega
  go_wp2_with fail
  refine (eqFrac_same _ _ _).mono ?_; rintro e w3 ⟨rfl, hb3⟩; obtain ⟨hc_hb3, hf_hb3⟩ := bcell hb3; obtain ⟨hcA_hb3, hfA_hb3⟩ := bcellG (W0 := w2) hb3 (by (repeat' (first | (with_reducible exact Below.refl _ _) | (with_reducible assumption) | (with_reducible refine Below.alloc ?_ ?_ _) | (with_reducible refine Below.drew ?_) | (with_reducible refine below_drewN ?_ _) | (with_reducible refine Below.setCell ?_ ?_ _) | (with_reducible refine Below.trans ?_ (Below.mono (by with_reducible assumption) ?_)) | (with_reducible exact Below.size (by with_reducible assumption)) | go_size))); have hz_hb3 := hb3.size; (try simp at hz_hb3); (try simp only [Nat.add_one_le_iff] at hz_hb3)
  go_wp2_with fail
  all_goals go_ret
  all_goals refine ⟨rfl, ?_⟩
  all_goals (repeat' (first | (with_reducible exact Below.refl _ _) | (with_reducible assumption) | (with_reducible refine Below.alloc ?_ ?_ _) | (with_reducible refine Below.drew ?_) | (with_reducible refine below_drewN ?_ _) | (with_reducible refine Below.setCell ?_ ?_ _) | (with_reducible refine Below.trans ?_ (Below.mono (by with_reducible assumption) ?_)) | (with_reducible exact Below.size (by with_reducible assumption)) | go_size))

theorem implCompare_at (an ad bn bd x c : Int) (w : World) (h : cmpOut an ad bn bd = (x, c)) :
    Calls Try.prog 19 #[.agg #[.int .i64 an, .int .i64 ad], .agg #[.int .i64 bn, .int .i64 bd]] w fun e w' => e = .returned (.tuple #[.int .i64 x, .int .i64 c]) ∧ Below w.heap.size w w' := by
  have := implCompare_any an ad bn bd w
  rw [h] at this
  exact this
theorem specCompare_at (an ad bn bd x c : Int) (w : World) (h : cmpOut an ad bn bd = (x, c)) :
    Calls Try.prog 18 #[.agg #[.int .i64 an, .int .i64 ad], .agg #[.int .i64 bn, .int .i64 bd]] w fun e w' => e = .returned (.tuple #[.int .i64 x, .int .i64 c]) ∧ Below w.heap.size w w' := by
  have := specCompare_any an ad bn bd w
  rw [h] at this
  exact this

theorem law_FnExactCompareFracs (an ad bn bd : Int) (w : World) :
    Calls Try.prog 7 #[.agg #[.int .i64 an, .int .i64 ad], .agg #[.int .i64 bn, .int .i64 bd]] w fun e w' => e = .returned (.bool true) ∧ Below w.heap.size w w' := by
  obtain ⟨x, c, h⟩ : ∃ x c, cmpOut an ad bn bd = (x, c) := ⟨_, _, rfl⟩
  have H := Lib.hid h
  clear h
  obtain ⟨W0, hW0⟩ : ∃ W0, W0 = ((w.alloc (Obj.cells #[Value.int IntKind.i64 an, Value.int IntKind.i64 ad] 23)).alloc (Obj.cells #[Value.int IntKind.i64 bn, Value.int IntKind.i64 bd] 23)) := ⟨_, rfl⟩
  have hz0 : w.heap.size + 2 = W0.heap.size := by rw [hW0]; simp
  have hb0 : Below w.heap.size w W0 := by rw [hW0]; (repeat' (first | (with_reducible exact Below.refl _ _) | (with_reducible assumption) | (with_reducible refine Below.alloc ?_ ?_ _) | (with_reducible refine Below.drew ?_) | (with_reducible refine below_drewN ?_ _) | (with_reducible refine Below.setCell ?_ ?_ _) | (with_reducible refine Below.trans ?_ (Below.mono (by with_reducible assumption) ?_)) | (with_reducible exact Below.size (by with_reducible assumption)) | go_size))
  have r1 : ∀ w', Below W0.heap.size W0 w' → w'.cell? ⟨w.heap.size, 0, none⟩ = some (.int .i64 an) := fun w' h => (h.cell (p := ⟨w.heap.size, 0, none⟩) (by show w.heap.size < _; omega)).trans (by rw [hW0]; simp)
  have r2 : ∀ w', Below W0.heap.size W0 w' → w'.cell? ⟨w.heap.size, 1, none⟩ = some (.int .i64 ad) := fun w' h => (h.cell (p := ⟨w.heap.size, 1, none⟩) (by show w.heap.size < _; omega)).trans (by rw [hW0]; simp)
  have r3 : ∀ w', Below W0.heap.size W0 w' → w'.cell? ⟨w.heap.size + 1, 0, none⟩ = some (.int .i64 bn) := fun w' h => (h.cell (p := ⟨w.heap.size + 1, 0, none⟩) (by show w.heap.size + 1 < _; omega)).trans (by rw [hW0]; simp)
  have r4 : ∀ w', Below W0.heap.size W0 w' → w'.cell? ⟨w.heap.size + 1, 1, none⟩ = some (.int .i64 bd) := fun w' h => (h.cell (p := ⟨w.heap.size + 1, 1, none⟩) (by show w.heap.size + 1 < _; omega)).trans (by rw [hW0]; simp)
  have HW := Lib.hid hW0
  have HZ := Lib.hid hz0
  clear hW0 hz0
  go_enter Try.func7, Try.ntmps7
  go_wp2_with fail
  rw [← HW.out]
  go_region_held3 (fun w' => Below W0.heap.size W0 w') ((repeat' (first | (with_reducible exact Below.refl _ _) | (with_reducible assumption) | (with_reducible refine Below.alloc ?_ ?_ _) | (with_reducible refine Below.drew ?_) | (with_reducible refine below_drewN ?_ _) | (with_reducible refine Below.setCell ?_ ?_ _) | (with_reducible refine Below.trans ?_ (Below.mono (by with_reducible assumption) ?_)) | (with_reducible exact Below.size (by with_reducible assumption)) | go_size)))
    (first | (go_at_call 9; refine (toFrac_any _ _ _).mono ?_; rintro e wA ⟨rfl, hA⟩; have hkA : Below W0.heap.size W0 wA := (by (repeat' (first | (with_reducible exact Below.refl _ _) | (with_reducible assumption) | (with_reducible refine Below.alloc ?_ ?_ _) | (with_reducible refine Below.drew ?_) | (with_reducible refine below_drewN ?_ _) | (with_reducible refine Below.setCell ?_ ?_ _) | (with_reducible refine Below.trans ?_ (Below.mono (by with_reducible assumption) ?_)) | (with_reducible exact Below.size (by with_reducible assumption)) | go_size)))) | (go_at_call 18; refine (specCompare_at _ _ _ _ _ _ _ H.out).mono ?_; rintro e wS ⟨rfl, hS⟩; have hkS : Below W0.heap.size W0 wS := (by (repeat' (first | (with_reducible exact Below.refl _ _) | (with_reducible assumption) | (with_reducible refine Below.alloc ?_ ?_ _) | (with_reducible refine Below.drew ?_) | (with_reducible refine below_drewN ?_ _) | (with_reducible refine Below.setCell ?_ ?_ _) | (with_reducible refine Below.trans ?_ (Below.mono (by with_reducible assumption) ?_)) | (with_reducible exact Below.size (by with_reducible assumption)) | go_size)))))
  go_wp2_with fail
  go_region_held3 (fun w' => Below W0.heap.size W0 w') ((repeat' (first | (with_reducible exact Below.refl _ _) | (with_reducible assumption) | (with_reducible refine Below.alloc ?_ ?_ _) | (with_reducible refine Below.drew ?_) | (with_reducible refine below_drewN ?_ _) | (with_reducible refine Below.setCell ?_ ?_ _) | (with_reducible refine Below.trans ?_ (Below.mono (by with_reducible assumption) ?_)) | (with_reducible exact Below.size (by with_reducible assumption)) | go_size)))
    (first | (go_at_call 9; refine (toFrac_any _ _ _).mono ?_; rintro e wA ⟨rfl, hA⟩; have hkA : Below W0.heap.size W0 wA := (by (repeat' (first | (with_reducible exact Below.refl _ _) | (with_reducible assumption) | (with_reducible refine Below.alloc ?_ ?_ _) | (with_reducible refine Below.drew ?_) | (with_reducible refine below_drewN ?_ _) | (with_reducible refine Below.setCell ?_ ?_ _) | (with_reducible refine Below.trans ?_ (Below.mono (by with_reducible assumption) ?_)) | (with_reducible exact Below.size (by with_reducible assumption)) | go_size)))) | (go_at_call 19; refine (implCompare_at _ _ _ _ _ _ _ H.out).mono ?_; rintro e wS ⟨rfl, hS⟩; have hkS : Below W0.heap.size W0 wS := (by (repeat' (first | (with_reducible exact Below.refl _ _) | (with_reducible assumption) | (with_reducible refine Below.alloc ?_ ?_ _) | (with_reducible refine Below.drew ?_) | (with_reducible refine below_drewN ?_ _) | (with_reducible refine Below.setCell ?_ ?_ _) | (with_reducible refine Below.trans ?_ (Below.mono (by with_reducible assumption) ?_)) | (with_reducible exact Below.size (by with_reducible assumption)) | go_size)))))
  go_wp2_with fail
  all_goals go_ret
  all_goals refine ⟨rfl, ?_⟩
  all_goals (repeat' (first | (with_reducible exact Below.refl _ _) | (with_reducible assumption) | (with_reducible refine Below.alloc ?_ ?_ _) | (with_reducible refine Below.drew ?_) | (with_reducible refine below_drewN ?_ _) | (with_reducible refine Below.setCell ?_ ?_ _) | (with_reducible refine Below.trans ?_ (Below.mono (by with_reducible assumption) ?_)) | (with_reducible exact Below.size (by with_reducible assumption)) | go_size))

end Go.Proofs.Ytcgomdoibkplpaa.FW
