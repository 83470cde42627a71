/-
  Walks: arrays of 32 numbers; an orientation out of one; the code of an orientation with some vertices, in the program.
-/
import Derived.Test.YtoglmkjmnknbbaaCCat
import Derived.Test.YtoglmkjmnknbbaaCCode
namespace Go.Proofs.Ytoglmkjmnknbbaa.PW
open Go.RowKit Go.Proofs.Ytoglmkjmnknbbaa
open Go.Proofs.Ytoglmkjmnknbbaa.PM

def arrC (f : Nat → Int) : Array Value := ((List.range 32).map fun j => Value.int .i64 (f j)).toArray
def arrV (f : Nat → Int) : Value := .agg (arrC f)
/-- The block g is an array of the 32 numbers f. -/
def Arr (w : World) (g : Nat) (f : Nat → Int) : Prop := w.heap[g]? = some (.cells (arrC f) 119 (0, 0))
theorem arrC_size (f : Nat → Int) : (arrC f).size = 32 := by simp [arrC]
theorem arrC_at (f : Nat → Int) (j : Nat) (h : j < 32) : (arrC f)[j]? = some (.int .i64 (f j)) := by simp [arrC, h]
theorem arrC_zero : arrC (fun _ => 0) = #[.int .i64 0, .int .i64 0, .int .i64 0, .int .i64 0, .int .i64 0, .int .i64 0, .int .i64 0, .int .i64 0, .int .i64 0, .int .i64 0, .int .i64 0, .int .i64 0, .int .i64 0, .int .i64 0, .int .i64 0, .int .i64 0, .int .i64 0, .int .i64 0, .int .i64 0, .int .i64 0, .int .i64 0, .int .i64 0, .int .i64 0, .int .i64 0, .int .i64 0, .int .i64 0, .int .i64 0, .int .i64 0, .int .i64 0, .int .i64 0, .int .i64 0, .int .i64 0] := rfl
theorem info_arr : (Try.prog.info? 119).map (·.size) = some 32 := by kernel_rfl
theorem Arr.cell {w : World} {g : Nat} {f : Nat → Int} (h : Arr w g f) (j : Nat) (hj : j < 32) : w.cell? ⟨g, j, none⟩ = some (.int .i64 (f j)) := by
  rw [cell_of_row w g j _ _ _ h]
  exact arrC_at f j hj
theorem Arr.frozen {w : World} {g : Nat} {f : Nat → Int} (h : Arr w g f) (j : Nat) : w.frozen? ⟨g, j, none⟩ = false := frozen_of_row w g j _ _ h
theorem Arr.lt {w : World} {g : Nat} {f : Nat → Int} (h : Arr w g f) : g < w.heap.size := (Array.getElem?_eq_some_iff.1 h).1
theorem Arr.below {B : Nat} {w w' : World} {g : Nat} {f : Nat → Int} (h : Arr w g f) (hb : Below B w w') (hg : g < B) : Arr w' g f := by
  unfold Arr
  rw [hb.block g hg]
  exact h
theorem Arr.congr {w : World} {g : Nat} {f f' : Nat → Int} (h : Arr w g f) (he : ∀ j, j < 32 → f j = f' j) : Arr w g f' := by
  have : arrC f = arrC f' := by
    unfold arrC
    congr 1
    exact List.map_congr_left (fun j hj => by rw [he j (by simpa using hj)])
  unfold Arr
  rw [← this]
  exact h
theorem Arr.set {w : World} {g : Nat} {f : Nat → Int} (h : Arr w g f) (i : Nat) (x : Int) (hi : i < 32) : Arr (w.setCell ⟨g, i, none⟩ (.int .i64 x)) g (fun j => if j = i then x else f j) := by
  unfold Arr
  rw [heap_setCell_same w g i _ _ _ h]
  congr 2
  apply Array.ext_getElem?
  intro j
  rw [Array.getElem?_setIfInBounds]
  rcases Nat.lt_or_ge j 32 with hj | hj
  · rw [arrC_at _ j hj]
    by_cases e : i = j
    · subst e; rw [if_pos rfl, if_pos (by rw [arrC_size]; exact hi), arrC_at _ i hj, if_pos rfl]
    · rw [if_neg e, arrC_at _ j hj, if_neg (fun c => e c.symm)]
  · have h1 : (arrC (fun j => if j = i then x else f j))[j]? = none := Array.getElem?_eq_none (by rw [arrC_size]; exact hj)
    rw [h1, if_neg (by omega)]
    exact (Array.getElem?_eq_none (by rw [arrC_size]; exact hj))
theorem Arr.ints {w : World} {g n : Nat} {f : Nat → Int} (h : Arr w g f) (hn : n ≤ 32) (hf : ∀ j, j < n → I64 (f j)) : Ints w (.slice (some ⟨g, 0, none⟩) n 32) ((List.range n).map f) := by
  refine ⟨some ⟨g, 0, none⟩, 32, by simp, by simpa using hn, by unfold maxLen; omega, fun x hx => ?_, .inr ⟨g, 0, rfl, h.lt, fun k hk => ?_⟩⟩
  · obtain ⟨j, hj, rfl⟩ := List.mem_map.1 hx
    exact hf j (by simpa using hj)
  · have hk' : k < n := by simpa using hk
    rw [Nat.zero_add, h.cell k (by omega)]
    simp [List.getD, hk']

set_option maxRecDepth 100000 in
set_option maxHeartbeats 2000000 in
theorem cubeOf_any (f : Nat → Int) (n : Nat) (w : World) (h1 : 1 ≤ n) (h5 : n ≤ 5) (hf : ∀ j, j < 2 ^ n → I64 (f j)) :
    Calls Try.prog 99 #[arrV f, .int .i64 n] w fun e w' => ∃ g cap, e = .returned (.agg #[.int .i64 n, .slice (some ⟨g, 0, none⟩) (2 ^ n) cap]) ∧ FreshI w.heap.size w' (.slice (some ⟨g, 0, none⟩) (2 ^ n) cap) ((List.range (2 ^ n)).map f) ∧ Below w.heap.size w w' := by
  have HA : ∀ w' : World, Arr (w'.alloc (.cells (arrC f) 119)) w'.heap.size f := fun w' => heap_alloc_new w' _
  have HN := Lib.hid h1
  have HA2 := Lib.hid (show ∀ w', Below (w.heap.size + 1) (w.alloc (.cells (arrC f) 119)) w' → Ints w' (.slice (some ⟨w.heap.size, 0, none⟩) (2 ^ n) 32) ((List.range (2 ^ n)).map f) from fun w' h => ((HA w).below h (by omega)).ints (by
    have := Nat.pow_le_pow_right (show 0 < 2 by decide) h5
    exact this) hf)
  have hne : Hid ((List.range (2 ^ n)).map f ≠ []) := fun c => by
    have := congrArg List.length c
    have hp : 0 < 2 ^ n := Nat.pow_pos (by decide)
    simp at this
  have hl : Hid (((List.range (2 ^ n)).map f).length = 2 ^ n) := by show _ = _; simp
  have hlen := hl
  generalize (List.range (2 ^ n)).map f = X at *
  clear HA hf
  unfold arrV at *
  generalize arrC f = C at *
  obtain rfl | rfl | rfl | rfl | rfl : n = 1 ∨ n = 2 ∨ n = 3 ∨ n = 4 ∨ n = 5 := by omega
  · simp only [Nat.reducePow] at *
    go_enter Try.func99, Try.ntmps99
    go_wp2_with fail
    obtain ⟨W2, hW2⟩ : ∃ W2, W2 = (w.alloc (.cells C 119)).alloc (.cells #[.int .i64 0, .slice none 0 0] 59) := ⟨_, rfl⟩
    have hbb : Below (w.heap.size + 1) (w.alloc (.cells C 119)) W2 := by rw [hW2]; exact (Below.refl _ _).alloc (by simp) _
    have hb0 : Below w.heap.size w W2 := by rw [hW2]; (repeat' (first | (with_reducible exact Below.refl _ _) | (with_reducible assumption) | (with_reducible refine Below.alloc ?_ ?_ _) | (with_reducible refine Below.drew ?_) | (with_reducible refine below_drewN ?_ _) | (with_reducible refine Below.setCell ?_ ?_ _) | (with_reducible refine Below.trans ?_ (Below.mono (by with_reducible assumption) ?_)) | (with_reducible exact Below.size (by with_reducible assumption)) | go_size))
    rw [← hW2]
    have z2 : W2.heap.size = w.heap.size + 1 + 1 := by rw [hW2]; simp
    have y0 : W2.cell? ⟨w.heap.size + 1, 0, none⟩ = some (.int .i64 0) := by rw [hW2]; simp [go_sem]
    have y1 : W2.cell? ⟨w.heap.size + 1, 1, none⟩ = some (.slice none 0 0) := by rw [hW2]; simp [go_sem]
    have y2 : ∀ o, W2.frozen? ⟨w.heap.size + 1, o, none⟩ = false := fun o => by rw [hW2]; simp [go_sem]
    clear hW2
    refine (clone_any _ X _ (HA2.out _ hbb) hne.out (by rw [hl.out]; decide)).mono ?_
    rintro e w3 ⟨u, rfl, hf3, hb3⟩
    obtain ⟨g, cap, rfl, g1, g2, g3⟩ := hf3
    rw [hl.out] at g3 ⊢
    have x0 := (hb3.cell (p := ⟨w.heap.size + 1, 0, none⟩) (by show w.heap.size + 1 < _; omega)).trans y0
    have x1 := (hb3.cell (p := ⟨w.heap.size + 1, 1, none⟩) (by show w.heap.size + 1 < _; omega)).trans y1
    have x2 := fun o => (hb3.frozen (p := ⟨w.heap.size + 1, o, none⟩) (by show w.heap.size + 1 < _; omega)).trans (y2 o)
    have hgw : w.heap.size + 1 < g := by omega
    have HO := Lib.hid g3
    have HB := Lib.hid (hb0.trans (hb3.mono hb0.size))
    have hz3 := hb3.size
    have hg2 : g < w3.heap.size := g2
    clear g1 g2 g3 hb3 y0 y1 y2 hbb hb0 HA2 hl
    go_wp2_with fail
    refine bodyPost_ret (v := .agg #[.int .i64 (1 : Nat), .slice (some ⟨g, 0, none⟩) 2 cap]) (by simp [*, results, Try.results99, go_sem]) rfl ?_
    have ht : Tch [w.heap.size + 1] w3 ((w3.setCell ⟨w.heap.size + 1, 0, none⟩ (.int .i64 (1 : Nat))).setCell ⟨w.heap.size + 1, 1, none⟩ (.slice (some ⟨g, 0, none⟩) 2 cap)) := ((Tch.refl _ _).setCell (by simp) _).setCell (by simp) _
    exact ⟨g, cap, rfl, ⟨g, cap, by rw [hlen.out], by omega, by simpa using hg2, HO.out.tch ht (fun b hb c => by simp [Value.ownBlock] at hb c; omega)⟩, HB.out.trans (ht.below (fun b hb => by simp at hb; omega))⟩
  · simp only [Nat.reducePow] at *
    go_enter Try.func99, Try.ntmps99
    go_wp2_with fail
    obtain ⟨W2, hW2⟩ : ∃ W2, W2 = (w.alloc (.cells C 119)).alloc (.cells #[.int .i64 0, .slice none 0 0] 59) := ⟨_, rfl⟩
    have hbb : Below (w.heap.size + 1) (w.alloc (.cells C 119)) W2 := by rw [hW2]; exact (Below.refl _ _).alloc (by simp) _
    have hb0 : Below w.heap.size w W2 := by rw [hW2]; (repeat' (first | (with_reducible exact Below.refl _ _) | (with_reducible assumption) | (with_reducible refine Below.alloc ?_ ?_ _) | (with_reducible refine Below.drew ?_) | (with_reducible refine below_drewN ?_ _) | (with_reducible refine Below.setCell ?_ ?_ _) | (with_reducible refine Below.trans ?_ (Below.mono (by with_reducible assumption) ?_)) | (with_reducible exact Below.size (by with_reducible assumption)) | go_size))
    rw [← hW2]
    have z2 : W2.heap.size = w.heap.size + 1 + 1 := by rw [hW2]; simp
    have y0 : W2.cell? ⟨w.heap.size + 1, 0, none⟩ = some (.int .i64 0) := by rw [hW2]; simp [go_sem]
    have y1 : W2.cell? ⟨w.heap.size + 1, 1, none⟩ = some (.slice none 0 0) := by rw [hW2]; simp [go_sem]
    have y2 : ∀ o, W2.frozen? ⟨w.heap.size + 1, o, none⟩ = false := fun o => by rw [hW2]; simp [go_sem]
    clear hW2
    refine (clone_any _ X _ (HA2.out _ hbb) hne.out (by rw [hl.out]; decide)).mono ?_
    rintro e w3 ⟨u, rfl, hf3, hb3⟩
    obtain ⟨g, cap, rfl, g1, g2, g3⟩ := hf3
    rw [hl.out] at g3 ⊢
    have x0 := (hb3.cell (p := ⟨w.heap.size + 1, 0, none⟩) (by show w.heap.size + 1 < _; omega)).trans y0
    have x1 := (hb3.cell (p := ⟨w.heap.size + 1, 1, none⟩) (by show w.heap.size + 1 < _; omega)).trans y1
    have x2 := fun o => (hb3.frozen (p := ⟨w.heap.size + 1, o, none⟩) (by show w.heap.size + 1 < _; omega)).trans (y2 o)
    have hgw : w.heap.size + 1 < g := by omega
    have HO := Lib.hid g3
    have HB := Lib.hid (hb0.trans (hb3.mono hb0.size))
    have hz3 := hb3.size
    have hg2 : g < w3.heap.size := g2
    clear g1 g2 g3 hb3 y0 y1 y2 hbb hb0 HA2 hl
    go_wp2_with fail
    refine bodyPost_ret (v := .agg #[.int .i64 (2 : Nat), .slice (some ⟨g, 0, none⟩) 4 cap]) (by simp [*, results, Try.results99, go_sem]) rfl ?_
    have ht : Tch [w.heap.size + 1] w3 ((w3.setCell ⟨w.heap.size + 1, 0, none⟩ (.int .i64 (2 : Nat))).setCell ⟨w.heap.size + 1, 1, none⟩ (.slice (some ⟨g, 0, none⟩) 4 cap)) := ((Tch.refl _ _).setCell (by simp) _).setCell (by simp) _
    exact ⟨g, cap, rfl, ⟨g, cap, by rw [hlen.out], by omega, by simpa using hg2, HO.out.tch ht (fun b hb c => by simp [Value.ownBlock] at hb c; omega)⟩, HB.out.trans (ht.below (fun b hb => by simp at hb; omega))⟩
  · simp only [Nat.reducePow] at *
    go_enter Try.func99, Try.ntmps99
    go_wp2_with fail
    obtain ⟨W2, hW2⟩ : ∃ W2, W2 = (w.alloc (.cells C 119)).alloc (.cells #[.int .i64 0, .slice none 0 0] 59) := ⟨_, rfl⟩
    have hbb : Below (w.heap.size + 1) (w.alloc (.cells C 119)) W2 := by rw [hW2]; exact (Below.refl _ _).alloc (by simp) _
    have hb0 : Below w.heap.size w W2 := by rw [hW2]; (repeat' (first | (with_reducible exact Below.refl _ _) | (with_reducible assumption) | (with_reducible refine Below.alloc ?_ ?_ _) | (with_reducible refine Below.drew ?_) | (with_reducible refine below_drewN ?_ _) | (with_reducible refine Below.setCell ?_ ?_ _) | (with_reducible refine Below.trans ?_ (Below.mono (by with_reducible assumption) ?_)) | (with_reducible exact Below.size (by with_reducible assumption)) | go_size))
    rw [← hW2]
    have z2 : W2.heap.size = w.heap.size + 1 + 1 := by rw [hW2]; simp
    have y0 : W2.cell? ⟨w.heap.size + 1, 0, none⟩ = some (.int .i64 0) := by rw [hW2]; simp [go_sem]
    have y1 : W2.cell? ⟨w.heap.size + 1, 1, none⟩ = some (.slice none 0 0) := by rw [hW2]; simp [go_sem]
    have y2 : ∀ o, W2.frozen? ⟨w.heap.size + 1, o, none⟩ = false := fun o => by rw [hW2]; simp [go_sem]
    clear hW2
    refine (clone_any _ X _ (HA2.out _ hbb) hne.out (by rw [hl.out]; decide)).mono ?_
    rintro e w3 ⟨u, rfl, hf3, hb3⟩
    obtain ⟨g, cap, rfl, g1, g2, g3⟩ := hf3
    rw [hl.out] at g3 ⊢
    have x0 := (hb3.cell (p := ⟨w.heap.size + 1, 0, none⟩) (by show w.heap.size + 1 < _; omega)).trans y0
    have x1 := (hb3.cell (p := ⟨w.heap.size + 1, 1, none⟩) (by show w.heap.size + 1 < _; omega)).trans y1
    have x2 := fun o => (hb3.frozen (p := ⟨w.heap.size + 1, o, none⟩) (by show w.heap.size + 1 < _; omega)).trans (y2 o)
    have hgw : w.heap.size + 1 < g := by omega
    have HO := Lib.hid g3
    have HB := Lib.hid (hb0.trans (hb3.mono hb0.size))
    have hz3 := hb3.size
    have hg2 : g < w3.heap.size := g2
    clear g1 g2 g3 hb3 y0 y1 y2 hbb hb0 HA2 hl
    go_wp2_with fail
    refine bodyPost_ret (v := .agg #[.int .i64 (3 : Nat), .slice (some ⟨g, 0, none⟩) 8 cap]) (by simp [*, results, Try.results99, go_sem]) rfl ?_
    have ht : Tch [w.heap.size + 1] w3 ((w3.setCell ⟨w.heap.size + 1, 0, none⟩ (.int .i64 (3 : Nat))).setCell ⟨w.heap.size + 1, 1, none⟩ (.slice (some ⟨g, 0, none⟩) 8 cap)) := ((Tch.refl _ _).setCell (by simp) _).setCell (by simp) _
    exact ⟨g, cap, rfl, ⟨g, cap, by rw [hlen.out], by omega, by simpa using hg2, HO.out.tch ht (fun b hb c => by simp [Value.ownBlock] at hb c; omega)⟩, HB.out.trans (ht.below (fun b hb => by simp at hb; omega))⟩
  · simp only [Nat.reducePow] at *
    go_enter Try.func99, Try.ntmps99
    go_wp2_with fail
    obtain ⟨W2, hW2⟩ : ∃ W2, W2 = (w.alloc (.cells C 119)).alloc (.cells #[.int .i64 0, .slice none 0 0] 59) := ⟨_, rfl⟩
    have hbb : Below (w.heap.size + 1) (w.alloc (.cells C 119)) W2 := by rw [hW2]; exact (Below.refl _ _).alloc (by simp) _
    have hb0 : Below w.heap.size w W2 := by rw [hW2]; (repeat' (first | (with_reducible exact Below.refl _ _) | (with_reducible assumption) | (with_reducible refine Below.alloc ?_ ?_ _) | (with_reducible refine Below.drew ?_) | (with_reducible refine below_drewN ?_ _) | (with_reducible refine Below.setCell ?_ ?_ _) | (with_reducible refine Below.trans ?_ (Below.mono (by with_reducible assumption) ?_)) | (with_reducible exact Below.size (by with_reducible assumption)) | go_size))
    rw [← hW2]
    have z2 : W2.heap.size = w.heap.size + 1 + 1 := by rw [hW2]; simp
    have y0 : W2.cell? ⟨w.heap.size + 1, 0, none⟩ = some (.int .i64 0) := by rw [hW2]; simp [go_sem]
    have y1 : W2.cell? ⟨w.heap.size + 1, 1, none⟩ = some (.slice none 0 0) := by rw [hW2]; simp [go_sem]
    have y2 : ∀ o, W2.frozen? ⟨w.heap.size + 1, o, none⟩ = false := fun o => by rw [hW2]; simp [go_sem]
    clear hW2
    refine (clone_any _ X _ (HA2.out _ hbb) hne.out (by rw [hl.out]; decide)).mono ?_
    rintro e w3 ⟨u, rfl, hf3, hb3⟩
    obtain ⟨g, cap, rfl, g1, g2, g3⟩ := hf3
    rw [hl.out] at g3 ⊢
    have x0 := (hb3.cell (p := ⟨w.heap.size + 1, 0, none⟩) (by show w.heap.size + 1 < _; omega)).trans y0
    have x1 := (hb3.cell (p := ⟨w.heap.size + 1, 1, none⟩) (by show w.heap.size + 1 < _; omega)).trans y1
    have x2 := fun o => (hb3.frozen (p := ⟨w.heap.size + 1, o, none⟩) (by show w.heap.size + 1 < _; omega)).trans (y2 o)
    have hgw : w.heap.size + 1 < g := by omega
    have HO := Lib.hid g3
    have HB := Lib.hid (hb0.trans (hb3.mono hb0.size))
    have hz3 := hb3.size
    have hg2 : g < w3.heap.size := g2
    clear g1 g2 g3 hb3 y0 y1 y2 hbb hb0 HA2 hl
    go_wp2_with fail
    refine bodyPost_ret (v := .agg #[.int .i64 (4 : Nat), .slice (some ⟨g, 0, none⟩) 16 cap]) (by simp [*, results, Try.results99, go_sem]) rfl ?_
    have ht : Tch [w.heap.size + 1] w3 ((w3.setCell ⟨w.heap.size + 1, 0, none⟩ (.int .i64 (4 : Nat))).setCell ⟨w.heap.size + 1, 1, none⟩ (.slice (some ⟨g, 0, none⟩) 16 cap)) := ((Tch.refl _ _).setCell (by simp) _).setCell (by simp) _
    exact ⟨g, cap, rfl, ⟨g, cap, by rw [hlen.out], by omega, by simpa using hg2, HO.out.tch ht (fun b hb c => by simp [Value.ownBlock] at hb c; omega)⟩, HB.out.trans (ht.below (fun b hb => by simp at hb; omega))⟩
  · simp only [Nat.reducePow] at *
    go_enter Try.func99, Try.ntmps99
    go_wp2_with fail
    obtain ⟨W2, hW2⟩ : ∃ W2, W2 = (w.alloc (.cells C 119)).alloc (.cells #[.int .i64 0, .slice none 0 0] 59) := ⟨_, rfl⟩
    have hbb : Below (w.heap.size + 1) (w.alloc (.cells C 119)) W2 := by rw [hW2]; exact (Below.refl _ _).alloc (by simp) _
    have hb0 : Below w.heap.size w W2 := by rw [hW2]; (repeat' (first | (with_reducible exact Below.refl _ _) | (with_reducible assumption) | (with_reducible refine Below.alloc ?_ ?_ _) | (with_reducible refine Below.drew ?_) | (with_reducible refine below_drewN ?_ _) | (with_reducible refine Below.setCell ?_ ?_ _) | (with_reducible refine Below.trans ?_ (Below.mono (by with_reducible assumption) ?_)) | (with_reducible exact Below.size (by with_reducible assumption)) | go_size))
    rw [← hW2]
    have z2 : W2.heap.size = w.heap.size + 1 + 1 := by rw [hW2]; simp
    have y0 : W2.cell? ⟨w.heap.size + 1, 0, none⟩ = some (.int .i64 0) := by rw [hW2]; simp [go_sem]
    have y1 : W2.cell? ⟨w.heap.size + 1, 1, none⟩ = some (.slice none 0 0) := by rw [hW2]; simp [go_sem]
    have y2 : ∀ o, W2.frozen? ⟨w.heap.size + 1, o, none⟩ = false := fun o => by rw [hW2]; simp [go_sem]
    clear hW2
    refine (clone_any _ X _ (HA2.out _ hbb) hne.out (by rw [hl.out]; decide)).mono ?_
    rintro e w3 ⟨u, rfl, hf3, hb3⟩
    obtain ⟨g, cap, rfl, g1, g2, g3⟩ := hf3
    rw [hl.out] at g3 ⊢
    have x0 := (hb3.cell (p := ⟨w.heap.size + 1, 0, none⟩) (by show w.heap.size + 1 < _; omega)).trans y0
    have x1 := (hb3.cell (p := ⟨w.heap.size + 1, 1, none⟩) (by show w.heap.size + 1 < _; omega)).trans y1
    have x2 := fun o => (hb3.frozen (p := ⟨w.heap.size + 1, o, none⟩) (by show w.heap.size + 1 < _; omega)).trans (y2 o)
    have hgw : w.heap.size + 1 < g := by omega
    have HO := Lib.hid g3
    have HB := Lib.hid (hb0.trans (hb3.mono hb0.size))
    have hz3 := hb3.size
    have hg2 : g < w3.heap.size := g2
    clear g1 g2 g3 hb3 y0 y1 y2 hbb hb0 HA2 hl
    go_wp2_with fail
    refine bodyPost_ret (v := .agg #[.int .i64 (5 : Nat), .slice (some ⟨g, 0, none⟩) 32 cap]) (by simp [*, results, Try.results99, go_sem]) rfl ?_
    have ht : Tch [w.heap.size + 1] w3 ((w3.setCell ⟨w.heap.size + 1, 0, none⟩ (.int .i64 (5 : Nat))).setCell ⟨w.heap.size + 1, 1, none⟩ (.slice (some ⟨g, 0, none⟩) 32 cap)) := ((Tch.refl _ _).setCell (by simp) _).setCell (by simp) _
    exact ⟨g, cap, rfl, ⟨g, cap, by rw [hlen.out], by omega, by simpa using hg2, HO.out.tch ht (fun b hb c => by simp [Value.ownBlock] at hb c; omega)⟩, HB.out.trans (ht.below (fun b hb => by simp at hb; omega))⟩

theorem cell_alloc3 (w : World) (cs : Array Value) (t : TypeId) (A B : Obj) (o : Nat) : (((w.alloc (.cells cs t)).alloc A).alloc B).cell? ⟨w.heap.size, o, none⟩ = cs[o]? := by
  rw [World.cell?_alloc_lt _ _ ⟨w.heap.size, o, none⟩ (by simp; omega), World.cell?_alloc_lt _ _ ⟨w.heap.size, o, none⟩ (by simp), World.cell?_alloc_new]
def inS (n : Nat) (x : Int) : Prop := 0 ≤ x ∧ x < (2 : Int) ^ n
theorem isCB_len {n : Nat} {O : List Int} (h : isCB n O = true) : O.length = 2 ^ n ∧ (O.length : Int) = 2 ^ n := by
  obtain ⟨_, h3, _⟩ := of_decide_eq_true h
  rw [Int.toNat_natCast] at h3
  have : ((2 ^ n : Nat) : Int) = (2 : Int) ^ n := by rw [Int.natCast_pow]; rfl
  omega

end Go.Proofs.Ytoglmkjmnknbbaa.PW
