/-
  Walks: orientations of cubes of the laws: sizes, copies, comparisons, marks.
-/
import Derived.Test.YtoglmkjmnknbbaaPAnsR
namespace Go.Proofs.Ytoglmkjmnknbbaa.PW
open Go.RowKit Go.Proofs.Ytoglmkjmnknbbaa
open Go.Proofs.Ytoglmkjmnknbbaa.PM

theorem Ints.len63 {w : World} {v : Value} {O : List Int} (h : Ints w v O) : O.length ≤ 9223372036854775807 := by
  obtain ⟨a, cap, _, h1, h2, _⟩ := h
  have := maxLen_le (Nat.le_trans h1 h2)
  omega
theorem szI_neg {n : Nat} {L : Int} (_hL : 0 ≤ L) (h : szI n L < 0) : szI n L = -1 := by
  unfold szI at *; split at h <;> simp_all <;> omega
theorem szI_fits {n : Nat} {L : Int} (h : ¬ szI n L < 0) : (n : Int) ≤ L ∧ szI n L ≤ L := by
  unfold szI at *; split at h <;> simp_all <;> omega
theorem szI_cases (n : Nat) (left : Int) (_h0 : 0 ≤ left) : szI n left = -1 ∨ (0 ≤ szI n left ∧ (n : Int) ≤ left) := by
  unfold szI
  split
  · right; omega
  · left; rfl
theorem szCube_any (D : Int) (v : Value) (O : List Int) (left : Int) (w : World) (hv : Ints w v O) (h0 : 0 ≤ left) (h1 : left ≤ 1048576) :
    Calls Try.prog 43 #[.agg #[.int .i64 D, v], .int .i64 left] w fun e w' => e = .returned (.int .i64 (szI O.length left)) ∧ Below w.heap.size w w' := by
  have hl := Ints.len63 hv
  obtain ⟨a1, c1, rfl, _⟩ := hv
  rcases szI_cases O.length left h0 with h | ⟨h, _⟩
  · rw [h]
    have H := Lib.hid h
    clear h
    go_enter Try.func43, Try.ntmps43
    go_wp2_with fail
    refine (szInt64S_any _ _ _ _ _ hl h0 h1).mono ?_; rw [H.out]; rintro e w1 ⟨rfl, rfl⟩
    go_wp2_with fail
    go_ret
    exact ⟨rfl, by (repeat' (first | (with_reducible exact Below.refl _ _) | (with_reducible assumption) | (with_reducible refine Below.alloc ?_ ?_ _) | (with_reducible refine Below.drew ?_) | (with_reducible refine below_drewN ?_ _) | (with_reducible refine Below.setCell ?_ ?_ _) | (with_reducible refine Below.trans ?_ (Below.mono (by with_reducible assumption) ?_)) | (with_reducible exact Below.size (by with_reducible assumption)) | go_size))⟩
  · have HSZ := Lib.hid (fun w' => szInt64S_any a1 O.length c1 left w' hl h0 h1)
    generalize szI O.length left = L at *
    go_enter Try.func43, Try.ntmps43
    go_wp2_with fail
    refine (HSZ.out _).mono ?_; rintro e w1 ⟨rfl, rfl⟩
    go_wp2_with fail
    go_ret
    exact ⟨rfl, by (repeat' (first | (with_reducible exact Below.refl _ _) | (with_reducible assumption) | (with_reducible refine Below.alloc ?_ ?_ _) | (with_reducible refine Below.drew ?_) | (with_reducible refine below_drewN ?_ _) | (with_reducible refine Below.setCell ?_ ?_ _) | (with_reducible refine Below.trans ?_ (Below.mono (by with_reducible assumption) ?_)) | (with_reducible exact Below.size (by with_reducible assumption)) | go_size))⟩
theorem toInts_own (v : Value) (L : List Int) (w : World) (h : Ints w v L) (hn : L.length ≤ 1048576) :
    Calls Try.prog 70 #[v] w fun e w' => e = .returned (.slice (some ⟨w.heap.size, 0, none⟩) L.length L.length) ∧ OwnI w' (.slice (some ⟨w.heap.size, 0, none⟩) L.length L.length) L ∧ Below w.heap.size w w' ∧ w'.heap.size = w.heap.size + 1 := by
  refine (toInt64S_any v L w h hn).mono ?_
  rintro e w' ⟨rfl, hc⟩
  refine ⟨rfl, IntBlk.own (hc.row.congr (fun i hi => by simp [part, hi])) (by unfold maxLen; omega), hc.below, hc.size⟩
theorem toCube_out (D : Int) (v : Value) (O : List Int) (w : World) (hv : Ints w v O) (hn : O.length ≤ 1048576) :
    Calls Try.prog 45 #[.agg #[.int .i64 D, v]] w fun e w' => ∃ g, e = .returned (.agg #[.int .i64 D, .slice (some ⟨g, 0, none⟩) O.length O.length]) ∧ OwnI w' (.slice (some ⟨g, 0, none⟩) O.length O.length) O ∧ (w.heap.size ≤ g ∧ g < w'.heap.size) ∧ Below w.heap.size w w' := by
  have g1 := fun (w' : World) (h : Below w.heap.size w w') => hv.below h
  obtain ⟨a1, c1, rfl, _⟩ := hv
  go_enter Try.func45, Try.ntmps45
  go_wp2_with fail
  refine (toInts_own _ O _ (g1 _ (by (repeat' (first | (with_reducible exact Below.refl _ _) | (with_reducible assumption) | (with_reducible refine Below.alloc ?_ ?_ _) | (with_reducible refine Below.drew ?_) | (with_reducible refine below_drewN ?_ _) | (with_reducible refine Below.setCell ?_ ?_ _) | (with_reducible refine Below.trans ?_ (Below.mono (by with_reducible assumption) ?_)) | (with_reducible exact Below.size (by with_reducible assumption)) | go_size)))) hn).mono ?_; rintro e w1 ⟨rfl, ho, hb, hz⟩
  obtain ⟨W3, hW3⟩ : ∃ W3, W3 = ((w.alloc (.cells #[.int .i64 D, .slice a1 O.length c1] 56)).alloc (.cells #[.int .i64 0, .slice none 0 0] 59)).alloc (.cells #[.int .i64 D, .slice none 0 0] 59) := ⟨_, rfl⟩
  have hbb : Below w.heap.size w W3 := by rw [hW3]; (repeat' (first | (with_reducible exact Below.refl _ _) | (with_reducible assumption) | (with_reducible refine Below.alloc ?_ ?_ _) | (with_reducible refine Below.drew ?_) | (with_reducible refine below_drewN ?_ _) | (with_reducible refine Below.setCell ?_ ?_ _) | (with_reducible refine Below.trans ?_ (Below.mono (by with_reducible assumption) ?_)) | (with_reducible exact Below.size (by with_reducible assumption)) | go_size))
  rw [← hW3] at ho hb hz ⊢
  have z3 : W3.heap.size = w.heap.size + 1 + 1 + 1 := by rw [hW3]; simp
  have y0 : W3.cell? ⟨w.heap.size + 1, 0, none⟩ = some (.int .i64 0) := by rw [hW3]; simp [go_sem]
  have y1 : W3.cell? ⟨w.heap.size + 1, 1, none⟩ = some (.slice none 0 0) := by rw [hW3]; simp [go_sem]
  have y2 : ∀ o, W3.frozen? ⟨w.heap.size + 1, o, none⟩ = false := fun o => by rw [hW3]; simp [go_sem]
  have t0 : W3.cell? ⟨w.heap.size + 1 + 1, 0, none⟩ = some (.int .i64 D) := by rw [hW3]; simp [go_sem]
  have t1 : W3.cell? ⟨w.heap.size + 1 + 1, 1, none⟩ = some (.slice none 0 0) := by rw [hW3]; simp [go_sem]
  have t2 : ∀ o, W3.frozen? ⟨w.heap.size + 1 + 1, o, none⟩ = false := fun o => by rw [hW3]; simp [go_sem]
  have r0 := (hb.cell (p := ⟨w.heap.size + 1, 0, none⟩) (by show w.heap.size + 1 < _; omega)).trans y0
  have r1 := (hb.cell (p := ⟨w.heap.size + 1, 1, none⟩) (by show w.heap.size + 1 < _; omega)).trans y1
  have r2 := fun o => (hb.frozen (p := ⟨w.heap.size + 1, o, none⟩) (by show w.heap.size + 1 < _; omega)).trans (y2 o)
  have s0 := (hb.cell (p := ⟨w.heap.size + 1 + 1, 0, none⟩) (by show w.heap.size + 1 + 1 < _; omega)).trans t0
  have s1 := (hb.cell (p := ⟨w.heap.size + 1 + 1, 1, none⟩) (by show w.heap.size + 1 + 1 < _; omega)).trans t1
  have s2 := fun o => (hb.frozen (p := ⟨w.heap.size + 1 + 1, o, none⟩) (by show w.heap.size + 1 + 1 < _; omega)).trans (t2 o)
  obtain ⟨g, hg⟩ : ∃ g, g = W3.heap.size := ⟨_, rfl⟩
  rw [← hg] at ho hz ⊢
  have HO := Lib.hid ho
  have HBB := Lib.hid (hbb.trans (hb.mono hbb.size))
  have hgz : w.heap.size + 1 + 1 < g := by omega
  clear hW3 ho hb hbb y0 y1 y2 t0 t1 t2 hg z3
  go_wp2_with fail
  refine bodyPost_ret (v := .agg #[.int .i64 D, .slice (some ⟨g, 0, none⟩) O.length O.length]) (by simp [*, results, Try.results45, go_sem]) rfl ?_
  have ht : Tch [w.heap.size + 1, w.heap.size + 1 + 1] w1 (((w1.setCell ⟨w.heap.size + 1 + 1, 1, none⟩ (.slice (some ⟨g, 0, none⟩) O.length O.length)).setCell ⟨w.heap.size + 1, 0, none⟩ (.int .i64 D)).setCell ⟨w.heap.size + 1, 1, none⟩ (.slice (some ⟨g, 0, none⟩) O.length O.length)) := (((Tch.refl _ _).setCell (by simp) _).setCell (by simp) _).setCell (by simp) _
  exact ⟨g, rfl, HO.out.tch ht (fun b hb c => by simp [Value.ownBlock] at hb c; omega), ⟨by omega, by simp; omega⟩, HBB.out.trans (ht.below (fun b hb => by simp at hb; omega))⟩
theorem eqCube_same (D : Int) (v u : Value) (O : List Int) (w : World) (hv : Ints w v O) (hu : Ints w u O) :
    Calls Try.prog 47 #[.agg #[.int .i64 D, v], .agg #[.int .i64 D, u]] w fun e w' => e = .returned (.bool true) ∧ Below w.heap.size w w' := by
  have g1 := fun (w' : World) (h : Below w.heap.size w w') => hv.below h
  have g2 := fun (w' : World) (h : Below w.heap.size w w') => hu.below h
  obtain ⟨a1, c1, rfl, _⟩ := hv
  obtain ⟨a2, c2, rfl, _⟩ := hu
  go_enter Try.func47, Try.ntmps47
  go_wp2_with fail
  refine (eqInt64S_same _ _ O _ (g1 _ (by (repeat' (first | (with_reducible exact Below.refl _ _) | (with_reducible assumption) | (with_reducible refine Below.alloc ?_ ?_ _) | (with_reducible refine Below.drew ?_) | (with_reducible refine below_drewN ?_ _) | (with_reducible refine Below.setCell ?_ ?_ _) | (with_reducible refine Below.trans ?_ (Below.mono (by with_reducible assumption) ?_)) | (with_reducible exact Below.size (by with_reducible assumption)) | go_size)))) (g2 _ (by (repeat' (first | (with_reducible exact Below.refl _ _) | (with_reducible assumption) | (with_reducible refine Below.alloc ?_ ?_ _) | (with_reducible refine Below.drew ?_) | (with_reducible refine below_drewN ?_ _) | (with_reducible refine Below.setCell ?_ ?_ _) | (with_reducible refine Below.trans ?_ (Below.mono (by with_reducible assumption) ?_)) | (with_reducible exact Below.size (by with_reducible assumption)) | go_size))))).mono ?_; rintro e w1 ⟨rfl, hb1⟩; obtain ⟨hc_hb1, hf_hb1⟩ := bcell hb1; obtain ⟨hcA_hb1, hfA_hb1⟩ := bcellG (W0 := w) hb1 (by (repeat' (first | (with_reducible exact Below.refl _ _) | (with_reducible assumption) | (with_reducible refine Below.alloc ?_ ?_ _) | (with_reducible refine Below.drew ?_) | (with_reducible refine below_drewN ?_ _) | (with_reducible refine Below.setCell ?_ ?_ _) | (with_reducible refine Below.trans ?_ (Below.mono (by with_reducible assumption) ?_)) | (with_reducible exact Below.size (by with_reducible assumption)) | go_size))); have hz_hb1 := hb1.size; (try simp at hz_hb1); (try simp only [Nat.add_one_le_iff] at hz_hb1); have hz0_hb1 : w.heap.size < w1.heap.size := (by omega); have hz1_hb1 : w.heap.size + 1 < w1.heap.size := (by omega)
  go_wp2_with fail
  go_ret
  exact ⟨rfl, by (repeat' (first | (with_reducible exact Below.refl _ _) | (with_reducible assumption) | (with_reducible refine Below.alloc ?_ ?_ _) | (with_reducible refine Below.drew ?_) | (with_reducible refine below_drewN ?_ _) | (with_reducible refine Below.setCell ?_ ?_ _) | (with_reducible refine Below.trans ?_ (Below.mono (by with_reducible assumption) ?_)) | (with_reducible exact Below.size (by with_reducible assumption)) | go_size))⟩
theorem markCube_any (D : Int) (v : Value) (O : List Int) (k : Int) (w : World) (hv : OwnI w v O) (hlt : ∀ b, v.ownBlock = some b → b < w.heap.size) (h0 : 0 ≤ k) (h1 : k + O.length ≤ 4611686018427387904) :
    Calls Try.prog 50 #[.agg #[.int .i64 D, v], .int .i64 k] w fun e w' => e = .returned (.int .i64 (k + O.length)) ∧ OwnI w' v (marks k O.length) ∧ ∃ w1, Below w.heap.size w w1 ∧ Tch (blks v) w1 w' := by
  obtain ⟨a1, c1, rfl⟩ := OwnI.shape hv
  have hA : Below w.heap.size w (w.alloc (.cells #[.int .i64 D, .slice a1 O.length c1] 59)) := (Below.refl _ _).alloc (Nat.le_refl _) _
  have HM := Lib.hid (markInt64S_any _ O k _ (hv.below hA hlt) h0 h1)
  go_enter Try.func50, Try.ntmps50
  go_wp2_with fail
  refine HM.out.mono ?_; rintro e w1 ⟨rfl, ho, ht⟩
  go_wp2_with fail
  go_ret
  exact ⟨rfl, ho, _, hA, ht⟩
theorem markCube_ans (lo hi : Nat) (D : Int) (v : Value) (O : List Int) (k : Int) (w : World) (h : RngI lo hi w v O) (hhi : hi ≤ w.heap.size) (h0 : 0 ≤ k) (h1 : k + O.length ≤ 4611686018427387904) :
    Calls Try.prog 50 #[.agg #[.int .i64 D, v], .int .i64 k] w fun e w' => e = .returned (.int .i64 (k + O.length)) ∧ RngI lo hi w' v (marks k O.length) ∧ Bet lo hi w w' := by
  refine (markCube_any D v O k w h.own (fun b hb => by have := (h.at_ b hb).2; omega) h0 h1).mono ?_
  rintro e w' ⟨rfl, ho, w1, hb, ht⟩
  have e1 : (marks k O.length).length = O.length := marks_length _ _
  exact ⟨rfl, ⟨ho, h.at_⟩, (Bet.of_below hb).trans (Bet.of_tch ht (fun b hb' => h.at_ b (by simpa [blks] using hb')))⟩
theorem heldCube_any (D : Int) (v : Value) (n : Nat) (k : Int) (w : World) (hv : Ints w v (marks k n)) (h0 : 0 ≤ k) (h1 : k + n ≤ 4611686018427387904) :
    Calls Try.prog 51 #[.agg #[.int .i64 D, v], .int .i64 k] w fun e w' => e = .returned (.int .i64 (k + n)) ∧ Below w.heap.size w w' := by
  have g1 := fun (w' : World) (h : Below w.heap.size w w') => hv.below h
  obtain ⟨a1, c1, rfl, _⟩ := hv
  go_enter Try.func51, Try.ntmps51
  go_wp2_with fail
  refine (heldInt64S_any _ n k _ (g1 _ (by (repeat' (first | (with_reducible exact Below.refl _ _) | (with_reducible assumption) | (with_reducible refine Below.alloc ?_ ?_ _) | (with_reducible refine Below.drew ?_) | (with_reducible refine below_drewN ?_ _) | (with_reducible refine Below.setCell ?_ ?_ _) | (with_reducible refine Below.trans ?_ (Below.mono (by with_reducible assumption) ?_)) | (with_reducible exact Below.size (by with_reducible assumption)) | go_size)))) h0 h1).mono ?_; rintro e w1 ⟨rfl, rfl⟩
  have hk : 0 ≤ k + (n : Int) := by omega
  go_wp2_with fail
  go_ret
  exact ⟨rfl, by (repeat' (first | (with_reducible exact Below.refl _ _) | (with_reducible assumption) | (with_reducible refine Below.alloc ?_ ?_ _) | (with_reducible refine Below.drew ?_) | (with_reducible refine below_drewN ?_ _) | (with_reducible refine Below.setCell ?_ ?_ _) | (with_reducible refine Below.trans ?_ (Below.mono (by with_reducible assumption) ?_)) | (with_reducible exact Below.size (by with_reducible assumption)) | go_size))⟩
end Go.Proofs.Ytoglmkjmnknbbaa.PW
