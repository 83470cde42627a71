/-
  NewDesk: the new desk, by the program and by the model.
-/
import Derived.Test.YtgncaploccbfnaaLKD
namespace Go.Proofs.Ytgncaploccbfnaa.PW
open Go.RowKit Go.Proofs.Ytgncaploccbfnaa
open Go.Proofs.Ytgncaploccbfnaa.PM

def ndM : List (List Int) := [[2, 1], [1, 2]]
def ndQ : List Int := [-5, -6]
def ndOut : List (List Int) × List Int := (ndM, ndQ)
/-- What a function leaves that returns a desk of the empty set. -/
def OutNd (w : World) (o : List (List Int) × List Int) (e : Ending) (w' : World) : Prop :=
  ∃ a c b d, e = .returned (.agg #[.slice a o.1.length c, .slice b o.2.length d, .int .i64 0]) ∧ RngPx w.heap.size w'.heap.size w' (.slice a o.1.length c) (.slice b o.2.length d) o.1 o.2 ∧ Below w.heap.size w w'
theorem OutNd.out {w w' : World} {o : List (List Int) × List Int} {e : Ending} (h : OutNd w o e w') :
    ∃ a c b d, e = .returned (.agg #[.slice a o.1.length c, .slice b o.2.length d, .int .i64 0]) ∧ RngPx w.heap.size w'.heap.size w' (.slice a o.1.length c) (.slice b o.2.length d) o.1 o.2 ∧ Below w.heap.size w w' := h
theorem fine_nd : FinePx ndOut.1 ndOut.2 := by
  refine ⟨fun i hi x hx => ?_, fun x hx => ?_, by decide⟩
  · have : i = 0 ∨ i = 1 := by have : ndOut.1.length = 2 := rfl; omega
    rcases this with rfl | rfl
    · simp [ndOut, ndM] at hx
      unfold I64
      omega
    · simp [ndOut, ndM] at hx
      unfold I64
      omega
  · simp [ndOut, ndQ] at hx
    unfold I64
    omega
theorem nd_rng {lo : Nat} {w : World} {h : Nat} (hl : lo ≤ h) (e0 : IntBlk w h [2, 1]) (e1 : IntBlk w (h + 1) [1, 2])
    (e2 : w.rowIs (h + 1 + 1) 23 2 (fun i => .slice (some ⟨h + i, 0, none⟩) 2 2)) (e3 : IntBlk w (h + 1 + 1 + 1) [-5, -6]) :
    RngPx lo w.heap.size w (.slice (some ⟨h + 1 + 1, 0, none⟩) 2 2) (.slice (some ⟨h + 1 + 1 + 1, 0, none⟩) 2 2) ndM ndQ := by
  have l0 := e0.lt
  have l1 := e1.lt
  have l2 := e2.lt
  have l3 := e3.lt
  refine ⟨[.slice (some ⟨h, 0, none⟩) 2 2, .slice (some ⟨h + 1, 0, none⟩) 2 2], ⟨rfl, ?_, fun i hi => ?_, fun i j b hi hj h1 h2 => ?_, fun i b hi h1 h2 => ?_⟩, e3.own (by decide), fun b hb' => ?_, fun b hb' => ?_, fun i b hi hb' => ?_, fun b hb' => ⟨fun c => ?_, fun i hi c => ?_⟩⟩
  · obtain ⟨c, hb, hn, hc⟩ := e2
    refine ⟨by rfl, .inr ⟨h + 1 + 1, 2, c, rfl, Nat.zero_le _, hb, Nat.le_refl _, by decide, by simpa using hn, ?_⟩⟩
    rw [Nat.mul_one, List.take_of_length_le (by simp [hn, ndM])]
    apply List.ext_getElem?
    intro i
    by_cases hi : i < 2
    · have := hc i hi
      rw [Array.getElem?_toList, this]
      obtain rfl | rfl : i = 0 ∨ i = 1 := by omega
      · rfl
      · rfl
    · rw [List.getElem?_eq_none (by simp [hn]; omega), List.getElem?_eq_none (by simp; omega)]
  · have hi : i < 2 := hi
    obtain rfl | rfl : i = 0 ∨ i = 1 := by omega
    · exact e0.own (by decide)
    · exact e1.own (by decide)
  · have hi : i < 2 := hi
    have hj : j < 2 := hj
    obtain rfl | rfl : i = 0 ∨ i = 1 := by omega
    · obtain rfl | rfl : j = 0 ∨ j = 1 := by omega
      · rfl
      · simp [Value.ownBlock] at h1 h2; omega
    · obtain rfl | rfl : j = 0 ∨ j = 1 := by omega
      · simp [Value.ownBlock] at h1 h2; omega
      · rfl
  · have hi : i < 2 := hi
    obtain rfl | rfl : i = 0 ∨ i = 1 := by omega
    · simp [Value.ownBlock] at h1 h2; omega
    · simp [Value.ownBlock] at h1 h2; omega
  · simp [Value.ownBlock] at hb'; omega
  · simp [Value.ownBlock] at hb'; omega
  · have hi : i < 2 := hi
    obtain rfl | rfl : i = 0 ∨ i = 1 := by omega
    · simp [Value.ownBlock] at hb'; omega
    · simp [Value.ownBlock] at hb'; omega
  · simp [Value.ownBlock] at hb' c; omega
  · have hi : i < 2 := hi
    obtain rfl | rfl : i = 0 ∨ i = 1 := by omega
    · simp [Value.ownBlock] at hb' c; omega
    · simp [Value.ownBlock] at hb' c; omega
theorem two_blk {w : World} {b : Nat} {x y : Int} (h : w.heap[b]? = some (.cells #[.int .i64 x, .int .i64 y] 2 (0, 0))) : IntBlk w b [x, y] := by
  refine ⟨_, h, rfl, fun i hi => ?_⟩
  have hi : i < 2 := hi
  obtain rfl | rfl : i = 0 ∨ i = 1 := by omega
  · rfl
  · rfl
theorem two_rows {w : World} {b h : Nat} (hh : w.heap[b]? = some (.cells #[.slice (some ⟨h, 0, none⟩) 2 2, .slice (some ⟨h + 1, 0, none⟩) 2 2] 23 (0, 0))) : w.rowIs b 23 2 (fun i => .slice (some ⟨h + i, 0, none⟩) 2 2) := by
  refine ⟨_, hh, rfl, fun i hi => ?_⟩
  obtain rfl | rfl : i = 0 ∨ i = 1 := by omega
  · rfl
  · rfl
theorem alloc_at {w : World} {b : Nat} {o : Obj} (h : b = w.heap.size) : (w.alloc o).heap[b]? = some o := by subst h; exact heap_alloc_new w o
theorem alloc_old {w : World} {b : Nat} {o x : Obj} (h : w.heap[b]? = some x) : (w.alloc o).heap[b]? = some x := by
  have hl : b < w.heap.size := by
    rcases Nat.lt_or_ge b w.heap.size with hlt | hge
    · exact hlt
    · rw [Array.getElem?_eq_none hge] at h; cases h
  exact (heap_alloc_old w o hl).trans h
theorem nd_world (W : World) : RngPx W.heap.size ((((W.alloc (.cells #[.int .i64 2, .int .i64 1] 2)).alloc (.cells #[.int .i64 1, .int .i64 2] 2)).alloc (.cells #[.slice (some ⟨W.heap.size, 0, none⟩) 2 2, .slice (some ⟨W.heap.size + 1, 0, none⟩) 2 2] 23)).alloc (.cells #[.int .i64 (-5), .int .i64 (-6)] 2)).heap.size
    ((((W.alloc (.cells #[.int .i64 2, .int .i64 1] 2)).alloc (.cells #[.int .i64 1, .int .i64 2] 2)).alloc (.cells #[.slice (some ⟨W.heap.size, 0, none⟩) 2 2, .slice (some ⟨W.heap.size + 1, 0, none⟩) 2 2] 23)).alloc (.cells #[.int .i64 (-5), .int .i64 (-6)] 2))
    (.slice (some ⟨W.heap.size + 1 + 1, 0, none⟩) 2 2) (.slice (some ⟨W.heap.size + 1 + 1 + 1, 0, none⟩) 2 2) ndM ndQ :=
  nd_rng (Nat.le_refl _) (two_blk (alloc_old (alloc_old (alloc_old (alloc_at rfl))))) (two_blk (alloc_old (alloc_old (alloc_at (by simp))))) (two_rows (alloc_old (alloc_at (by simp)))) (two_blk (alloc_at (by simp)))
set_option maxRecDepth 100000 in
theorem specl11New_any (w : World) : Calls Try.prog 117 #[] w (OutNd w ndOut) := by
  have HN := Lib.hid (fun (W : World) => nd_world W)
  go_enter Try.func117, Try.ntmps117
  go_wp2_with fail
  refine bodyPost_ret (v := .agg #[.slice (some ⟨w.heap.size + 1 + 1 + 1, 0, none⟩) 2 2, .slice (some ⟨w.heap.size + 1 + 1 + 1 + 1, 0, none⟩) 2 2, .int .i64 0]) (by simp [*, results, Try.results117, go_sem]) rfl ?_
  have h := HN.out (w.alloc (.cells #[.slice (some ⟨w.heap.size + 1 + 1 + 1, 0, none⟩) 2 2, .slice (some ⟨w.heap.size + 1 + 1 + 1 + 1, 0, none⟩) 2 2, .int .i64 0] 69))
  have e : (w.alloc (.cells #[.slice (some ⟨w.heap.size + 1 + 1 + 1, 0, none⟩) 2 2, .slice (some ⟨w.heap.size + 1 + 1 + 1 + 1, 0, none⟩) 2 2, .int .i64 0] 69)).heap.size = w.heap.size + 1 := by simp
  rw [e] at h
  exact ⟨_, _, _, _, rfl, h.lower (by simp) (by simp), by (repeat' (first | (with_reducible exact Below.refl _ _) | (with_reducible assumption) | (with_reducible refine Below.alloc ?_ ?_ _) | (with_reducible refine Below.drew ?_) | (with_reducible refine below_drewN ?_ _) | (with_reducible refine Below.setCell ?_ ?_ _) | (with_reducible refine Below.trans ?_ (Below.mono (by with_reducible assumption) ?_)) | (with_reducible exact Below.size (by with_reducible assumption)) | go_size))⟩
set_option maxRecDepth 100000 in
theorem specNewDesk_any (w : World) : Calls Try.prog 53 #[] w (OutNd w ndOut) := by
  have HN := Lib.hid (fun (W : World) => specl11New_any W)
  go_enter Try.func53, Try.ntmps53
  go_wp2_with fail
  refine (HN.out _).mono ?_; rintro e w2 ⟨a, c, b, d, rfl, hr, hb2⟩
  have r0 : w2.cell? ⟨w.heap.size, 0, none⟩ = some (.slice none 0 0) := (hb2.cell (p := ⟨w.heap.size, 0, none⟩) (by simp)).trans (by simp [go_sem])
  have r1 : w2.cell? ⟨w.heap.size, 1, none⟩ = some (.slice none 0 0) := (hb2.cell (p := ⟨w.heap.size, 1, none⟩) (by simp)).trans (by simp [go_sem])
  have r2 : w2.cell? ⟨w.heap.size, 2, none⟩ = some (.int .i64 0) := (hb2.cell (p := ⟨w.heap.size, 2, none⟩) (by simp)).trans (by simp [go_sem])
  have r3 : ∀ o, w2.frozen? ⟨w.heap.size, o, none⟩ = false := fun o => (hb2.frozen (p := ⟨w.heap.size, o, none⟩) (by simp)).trans (by simp [go_sem])
  have r30 := r3 0
  have r31 := r3 1
  have r32 := r3 2
  have hz := hb2.size
  simp at hz
  have HR := Lib.hid hr
  have HB := Lib.hid hb2
  obtain ⟨n, hn⟩ : ∃ n, n = ndOut.1.length := ⟨_, rfl⟩
  obtain ⟨k, hk⟩ : ∃ k, k = ndOut.2.length := ⟨_, rfl⟩
  rw [← hn, ← hk] at HR ⊢
  have HN := Lib.hid hn
  have HK := Lib.hid hk
  clear r3 hr hb2 hn hk
  dsimp only
  go_wp2_with fail
  refine bodyPost_ret (v := .agg #[.slice a n c, .slice b k d, .int .i64 0]) (by simp [*, results, Try.results53, go_sem]) rfl ?_
  have hBt := (((Bet.of_below (lo := w.heap.size) (hi := w.heap.size + 1) (Below.refl _ _) : Bet w.heap.size (w.heap.size + 1) w2 w2).setC (p := ⟨w.heap.size, 0, none⟩) (Nat.le_refl _) (by show w.heap.size < _; omega) (.slice a n c)).setC (p := ⟨w.heap.size, 1, none⟩) (Nat.le_refl _) (by show w.heap.size < _; omega) (.slice b k d)).setC (p := ⟨w.heap.size, 2, none⟩) (Nat.le_refl _) (by show w.heap.size < _; omega) (.int .i64 0)
  have hr := HR.out.bet hBt (.inr (by simp))
  have hb2 : Below w.heap.size w w2 := by have := HB.out; (repeat' (first | (with_reducible exact Below.refl _ _) | (with_reducible assumption) | (with_reducible refine Below.alloc ?_ ?_ _) | (with_reducible refine Below.drew ?_) | (with_reducible refine below_drewN ?_ _) | (with_reducible refine Below.setCell ?_ ?_ _) | (with_reducible refine Below.trans ?_ (Below.mono (by with_reducible assumption) ?_)) | (with_reducible exact Below.size (by with_reducible assumption)) | go_size))
  have hnn := HN.out
  have hkk := HK.out
  subst hnn hkk
  exact ⟨_, _, _, _, rfl, hr.lower (by simp) (by simp), hb2.trans (hBt.below (by omega))⟩
set_option maxRecDepth 100000 in
theorem freshDesk_any (a : Option Addr) (n c : Nat) (b : Option Addr) (k d : Nat) (w : World) : Calls Try.prog 118 #[.agg #[.slice a n c, .slice b k d]] w fun e w' => e = .returned (.agg #[.slice a n c, .slice b k d, .int .i64 0]) ∧ Below w.heap.size w w' := by
  go_enter Try.func118, Try.ntmps118
  go_wp2_with fail
  refine bodyPost_ret (v := .agg #[.slice a n c, .slice b k d, .int .i64 0]) (by simp [*, results, Try.results118, go_sem]) rfl ?_
  exact ⟨rfl, by (repeat' (first | (with_reducible exact Below.refl _ _) | (with_reducible assumption) | (with_reducible refine Below.alloc ?_ ?_ _) | (with_reducible refine Below.drew ?_) | (with_reducible refine below_drewN ?_ _) | (with_reducible refine Below.setCell ?_ ?_ _) | (with_reducible refine Below.trans ?_ (Below.mono (by with_reducible assumption) ?_)) | (with_reducible exact Below.size (by with_reducible assumption)) | go_size))⟩
set_option maxRecDepth 100000 in
theorem implNewDesk_any (w : World) : Calls Try.prog 54 #[] w (OutNd w ndOut) := by
  have HN := Lib.hid (fun (W : World) => nd_world W)
  go_enter Try.func54, Try.ntmps54
  go_wp2_with fail
  refine (freshDesk_any _ _ _ _ _ _ _).mono ?_; rintro e w2 ⟨rfl, hb2⟩
  have h := HN.out (w.alloc (.cells #[.slice none 0 0, .slice none 0 0, .int .i64 0] 69))
  have e : (w.alloc (.cells #[.slice none 0 0, .slice none 0 0, .int .i64 0] 69)).heap.size = w.heap.size + 1 := by simp
  rw [e] at h
  have HR := Lib.hid (h.below hb2 (Nat.le_refl _))
  have r0 : w2.cell? ⟨w.heap.size, 0, none⟩ = some (.slice none 0 0) := (hb2.cell (p := ⟨w.heap.size, 0, none⟩) (by simp <;> omega)).trans (by simp [go_sem])
  have r1 : w2.cell? ⟨w.heap.size, 1, none⟩ = some (.slice none 0 0) := (hb2.cell (p := ⟨w.heap.size, 1, none⟩) (by simp <;> omega)).trans (by simp [go_sem])
  have r2 : w2.cell? ⟨w.heap.size, 2, none⟩ = some (.int .i64 0) := (hb2.cell (p := ⟨w.heap.size, 2, none⟩) (by simp <;> omega)).trans (by simp [go_sem])
  have r3 : ∀ o, w2.frozen? ⟨w.heap.size, o, none⟩ = false := fun o => (hb2.frozen (p := ⟨w.heap.size, o, none⟩) (by simp <;> omega)).trans (by simp [go_sem])
  have r30 := r3 0
  have r31 := r3 1
  have r32 := r3 2
  have hz := hb2.size
  simp at hz
  have HB := Lib.hid hb2
  clear r3 h hb2 e
  go_wp2_with fail
  refine bodyPost_ret (v := .agg #[.slice (some ⟨w.heap.size + 1 + 1 + 1, 0, none⟩) 2 2, .slice (some ⟨w.heap.size + 1 + 1 + 1 + 1, 0, none⟩) 2 2, .int .i64 0]) (by simp [*, results, Try.results54, go_sem]) rfl ?_
  have hBt := (((Bet.of_below (lo := w.heap.size) (hi := w.heap.size + 1) (Below.refl _ _) : Bet w.heap.size (w.heap.size + 1) w2 w2).setC (p := ⟨w.heap.size, 0, none⟩) (Nat.le_refl _) (by show w.heap.size < _; omega) (.slice (some ⟨w.heap.size + 1 + 1 + 1, 0, none⟩) 2 2)).setC (p := ⟨w.heap.size, 1, none⟩) (Nat.le_refl _) (by show w.heap.size < _; omega) (.slice (some ⟨w.heap.size + 1 + 1 + 1 + 1, 0, none⟩) 2 2)).setC (p := ⟨w.heap.size, 2, none⟩) (Nat.le_refl _) (by show w.heap.size < _; omega) (.int .i64 0)
  have hr := HR.out.bet hBt (.inr (by simp))
  have hb2 : Below w.heap.size w w2 := by have := HB.out; (repeat' (first | (with_reducible exact Below.refl _ _) | (with_reducible assumption) | (with_reducible refine Below.alloc ?_ ?_ _) | (with_reducible refine Below.drew ?_) | (with_reducible refine below_drewN ?_ _) | (with_reducible refine Below.setCell ?_ ?_ _) | (with_reducible refine Below.trans ?_ (Below.mono (by with_reducible assumption) ?_)) | (with_reducible exact Below.size (by with_reducible assumption)) | go_size))
  exact ⟨_, _, _, _, rfl, hr.lower (by simp) (by simpa using hz), hb2.trans (hBt.below (by omega))⟩
end Go.Proofs.Ytgncaploccbfnaa.PW
