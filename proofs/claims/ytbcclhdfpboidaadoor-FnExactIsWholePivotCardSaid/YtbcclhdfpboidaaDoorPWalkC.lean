/-
  Walks: problems of the laws (sizes, copies, comparisons), and what is a matrix and a problem in the model and in the program.
-/
import Derived.Test.YtbcclhdfpboidaaDoorPWalkB
import Derived.Test.YtbcclhdfpboidaaDoorPMath
namespace Go.Proofs.YtbcclhdfpboidaaDoor.PW
open Go.RowKit Go.Proofs.YtbcclhdfpboidaaDoor
open Go.Proofs.YtbcclhdfpboidaaDoor.PM

theorem eqProblem_same (m q m2 q2 : Value) (M : List (List Int)) (Q : List Int) (w : World) (h1 : PM.Rows w m M) (h2 : Ints w q Q) (h3 : PM.Rows w m2 M) (h4 : Ints w q2 Q) :
    Calls Tryd.prog 16 #[.agg #[m, q], .agg #[m2, q2]] w fun e w' => e = .returned (.bool true) ∧ Below w.heap.size w w' := by
  have g1 := fun (w' : World) (h : Below w.heap.size w w') => h1.below h
  have g2 := fun (w' : World) (h : Below w.heap.size w w') => h2.below h
  have g3 := fun (w' : World) (h : Below w.heap.size w w') => h3.below h
  have g4 := fun (w' : World) (h : Below w.heap.size w w') => h4.below h
  obtain ⟨a1, c1, rfl, _⟩ := h1
  obtain ⟨a2, c2, rfl, _⟩ := h2
  obtain ⟨a3, c3, rfl, _⟩ := h3
  obtain ⟨a4, c4, rfl, _⟩ := h4
  go_enter Tryd.func16, Tryd.ntmps16
  go_wp2_with fail
  refine (eqInt64SS_same _ _ M _ (g1 _ (by (repeat' (first | (with_reducible exact Below.refl _ _) | (with_reducible assumption) | (with_reducible refine Below.alloc ?_ ?_ _) | (with_reducible refine Below.drew ?_) | (with_reducible refine below_drewN ?_ _) | (with_reducible refine Below.setCell ?_ ?_ _) | (with_reducible refine Below.trans ?_ (Below.mono (by with_reducible assumption) ?_)) | (with_reducible exact Below.size (by with_reducible assumption)) | go_size)))) (g3 _ (by (repeat' (first | (with_reducible exact Below.refl _ _) | (with_reducible assumption) | (with_reducible refine Below.alloc ?_ ?_ _) | (with_reducible refine Below.drew ?_) | (with_reducible refine below_drewN ?_ _) | (with_reducible refine Below.setCell ?_ ?_ _) | (with_reducible refine Below.trans ?_ (Below.mono (by with_reducible assumption) ?_)) | (with_reducible exact Below.size (by with_reducible assumption)) | go_size))))).mono ?_; rintro e w1 ⟨rfl, hb1⟩; obtain ⟨hc_hb1, hf_hb1⟩ := bcell hb1; obtain ⟨hcA_hb1, hfA_hb1⟩ := bcellG (W0 := w) hb1 (by (repeat' (first | (with_reducible exact Below.refl _ _) | (with_reducible assumption) | (with_reducible refine Below.alloc ?_ ?_ _) | (with_reducible refine Below.drew ?_) | (with_reducible refine below_drewN ?_ _) | (with_reducible refine Below.setCell ?_ ?_ _) | (with_reducible refine Below.trans ?_ (Below.mono (by with_reducible assumption) ?_)) | (with_reducible exact Below.size (by with_reducible assumption)) | go_size))); have hz_hb1 := hb1.size; (try simp at hz_hb1); (try simp only [Nat.add_one_le_iff] at hz_hb1); have hz0_hb1 : w.heap.size < w1.heap.size := (by omega); have hz1_hb1 : w.heap.size + 1 < w1.heap.size := (by omega)
  go_wp2_with fail
  refine (eqInt64S_same _ _ Q _ (g2 _ (by (repeat' (first | (with_reducible exact Below.refl _ _) | (with_reducible assumption) | (with_reducible refine Below.alloc ?_ ?_ _) | (with_reducible refine Below.drew ?_) | (with_reducible refine below_drewN ?_ _) | (with_reducible refine Below.setCell ?_ ?_ _) | (with_reducible refine Below.trans ?_ (Below.mono (by with_reducible assumption) ?_)) | (with_reducible exact Below.size (by with_reducible assumption)) | go_size)))) (g4 _ (by (repeat' (first | (with_reducible exact Below.refl _ _) | (with_reducible assumption) | (with_reducible refine Below.alloc ?_ ?_ _) | (with_reducible refine Below.drew ?_) | (with_reducible refine below_drewN ?_ _) | (with_reducible refine Below.setCell ?_ ?_ _) | (with_reducible refine Below.trans ?_ (Below.mono (by with_reducible assumption) ?_)) | (with_reducible exact Below.size (by with_reducible assumption)) | go_size))))).mono ?_; rintro e w2 ⟨rfl, hb2⟩; obtain ⟨hc_hb2, hf_hb2⟩ := bcell hb2; obtain ⟨hcA_hb2, hfA_hb2⟩ := bcellG (W0 := w1) hb2 (by (repeat' (first | (with_reducible exact Below.refl _ _) | (with_reducible assumption) | (with_reducible refine Below.alloc ?_ ?_ _) | (with_reducible refine Below.drew ?_) | (with_reducible refine below_drewN ?_ _) | (with_reducible refine Below.setCell ?_ ?_ _) | (with_reducible refine Below.trans ?_ (Below.mono (by with_reducible assumption) ?_)) | (with_reducible exact Below.size (by with_reducible assumption)) | go_size))); have hz_hb2 := hb2.size; (try simp at hz_hb2); (try simp only [Nat.add_one_le_iff] at hz_hb2); have hz0_hb2 : w.heap.size < w2.heap.size := (by omega); have hz1_hb2 : w.heap.size + 1 < w2.heap.size := (by omega)
  go_wp2_with fail
  go_ret
  refine ⟨rfl, ?_⟩
  (repeat' (first | (with_reducible exact Below.refl _ _) | (with_reducible assumption) | (with_reducible refine Below.alloc ?_ ?_ _) | (with_reducible refine Below.drew ?_) | (with_reducible refine below_drewN ?_ _) | (with_reducible refine Below.setCell ?_ ?_ _) | (with_reducible refine Below.trans ?_ (Below.mono (by with_reducible assumption) ?_)) | (with_reducible exact Below.size (by with_reducible assumption)) | go_size))

theorem rowIs_thru {w1 w2 : World} {b n : Nat} {t : TypeId} {f : Nat → Value} {p : Addr} {u : Value} (h : w1.rowIs b t n f) (hp : b ≠ p.block) (hb : Below (w1.setCell p u).heap.size (w1.setCell p u) w2) : w2.rowIs b t n f :=
  (h.setOther hp u).of_block (hb.block _ (h.setOther hp u).lt)

/-- A copy of a problem: all in new memory. -/
def CopyP (w : World) (M : List (List Int)) (Q : List Int) (e : Ending) (w' : World) : Prop :=
  ∃ g h : Nat, e = .returned (.agg #[.slice (some ⟨g, 0, none⟩) M.length M.length, .slice (some ⟨h, 0, none⟩) Q.length Q.length]) ∧ w.heap.size ≤ g ∧ h = g + 1 + M.length ∧
    w'.rowIs g 23 M.length (partR g M M.length) ∧ (∀ j, j < M.length → IntBlk w' (g + 1 + j) (M.getD j [])) ∧ IntBlk w' h Q ∧ Below w.heap.size w w'

theorem toProblem_any (m q : Value) (M : List (List Int)) (Q : List Int) (w : World) (h1 : PM.Rows w m M) (h2 : Ints w q Q) (hn : tot M ≤ 1048576) (hn2 : Q.length ≤ 1048576) :
    Calls Tryd.prog 13 #[.agg #[m, q]] w (CopyP w M Q) := by
  have g1 := fun (w' : World) (h : Below w.heap.size w w') => h1.below h
  have g2 := fun (w' : World) (h : Below w.heap.size w w') => h2.below h
  obtain ⟨a1, c1, rfl, _⟩ := h1
  obtain ⟨a2, c2, rfl, _⟩ := h2
  have HN := Lib.hid hn
  clear hn
  go_enter Tryd.func13, Tryd.ntmps13
  go_wp2_with fail
  refine (toInt64SS_any _ M _ (g1 _ (by (repeat' (first | (with_reducible exact Below.refl _ _) | (with_reducible assumption) | (with_reducible refine Below.alloc ?_ ?_ _) | (with_reducible refine Below.drew ?_) | (with_reducible refine below_drewN ?_ _) | (with_reducible refine Below.setCell ?_ ?_ _) | (with_reducible refine Below.trans ?_ (Below.mono (by with_reducible assumption) ?_)) | (with_reducible exact Below.size (by with_reducible assumption)) | go_size)))) HN.out).mono ?_; rintro e w1 ⟨rfl, hc1⟩; have hb1 := hc1.below; obtain ⟨hc_hb1, hf_hb1⟩ := bcell hb1; obtain ⟨hcA_hb1, hfA_hb1⟩ := bcellG (W0 := w) hb1 (by (repeat' (first | (with_reducible exact Below.refl _ _) | (with_reducible assumption) | (with_reducible refine Below.alloc ?_ ?_ _) | (with_reducible refine Below.drew ?_) | (with_reducible refine below_drewN ?_ _) | (with_reducible refine Below.setCell ?_ ?_ _) | (with_reducible refine Below.trans ?_ (Below.mono (by with_reducible assumption) ?_)) | (with_reducible exact Below.size (by with_reducible assumption)) | go_size))); have hz_hb1 := hb1.size; (try simp at hz_hb1); (try simp only [Nat.add_one_le_iff] at hz_hb1); have hz0_hb1 : w.heap.size < w1.heap.size := (by omega); have hz1_hb1 : w.heap.size + 1 < w1.heap.size := (by omega); have hz2_hb1 : w.heap.size + 1 + 1 < w1.heap.size := (by omega)
  go_wp2_with fail
  have hs1 := hc1.size
  simp only [World.size_alloc] at hs1
  have HS1 := Lib.hid hs1
  have HC1 := Lib.hid hc1
  clear hs1 hc1
  refine (toInt64S_any _ Q _ (g2 _ (by (repeat' (first | (with_reducible exact Below.refl _ _) | (with_reducible assumption) | (with_reducible refine Below.alloc ?_ ?_ _) | (with_reducible refine Below.drew ?_) | (with_reducible refine below_drewN ?_ _) | (with_reducible refine Below.setCell ?_ ?_ _) | (with_reducible refine Below.trans ?_ (Below.mono (by with_reducible assumption) ?_)) | (with_reducible exact Below.size (by with_reducible assumption)) | go_size)))) hn2).mono ?_; rintro e w2 ⟨rfl, hc2⟩; have hb2 := hc2.below; obtain ⟨hc_hb2, hf_hb2⟩ := bcell hb2; have hz_hb2 := hb2.size; (try simp at hz_hb2); (try simp only [Nat.add_one_le_iff] at hz_hb2)
  have hz0_hb2 : w.heap.size < w2.heap.size := by omega
  have hz1_hb2 : w.heap.size + 1 < w2.heap.size := by omega
  have hz2_hb2 : w.heap.size + 1 + 1 < w2.heap.size := by omega
  have HC2 := Lib.hid hc2
  clear hc2
  go_wp2_with fail
  refine bodyPost_ret (v := .agg #[.slice (some ⟨w.heap.size + 1 + 1 + 1, 0, none⟩) M.length M.length, .slice (some ⟨w1.heap.size, 0, none⟩) Q.length Q.length]) (by simp [*, results, Tryd.results13, go_sem]) rfl ?_
  have hs1 := HS1.out
  have ht := HC1.out.top
  have hr := HC1.out.rows
  have hq := copied_end HC2.out
  simp only [World.size_alloc] at ht hr
  simp only [World.size_setCell] at hq
  refine ⟨_, _, rfl, by omega, hs1, ?_, fun j hj => ?_, ?_, ?_⟩
  · refine World.rowIs.setOther (World.rowIs.setOther (World.rowIs.setOther (rowIs_thru ht ?_ hb2) ?_ _) ?_ _) ?_ _ <;> (show _ ≠ _; simp; try omega)
  · refine World.rowIs.setOther (World.rowIs.setOther (World.rowIs.setOther (rowIs_thru (hr j hj) ?_ hb2) ?_ _) ?_ _) ?_ _ <;> (show _ ≠ _; simp; try omega)
  · refine World.rowIs.setOther (World.rowIs.setOther (World.rowIs.setOther hq ?_ _) ?_ _) ?_ _ <;> (show _ ≠ _; simp; omega)
  · have h1 : Below w.heap.size w w1 := by (repeat' (first | (with_reducible exact Below.refl _ _) | (with_reducible assumption) | (with_reducible refine Below.alloc ?_ ?_ _) | (with_reducible refine Below.drew ?_) | (with_reducible refine below_drewN ?_ _) | (with_reducible refine Below.setCell ?_ ?_ _) | (with_reducible refine Below.trans ?_ (Below.mono (by with_reducible assumption) ?_)) | (with_reducible exact Below.size (by with_reducible assumption)) | go_size))
    have h2 : Below w.heap.size w w2 := (h1.setCell (by simp; omega) _).trans (hb2.mono (by simp; omega))
    exact ((h2.setCell (by simp; omega) _).setCell (by simp) _).setCell (by simp) _

/-- What a copy gives to a reader. -/
theorem rows_of_copy {w : World} {g : Nat} {M : List (List Int)} (ht : w.rowIs g 23 M.length (partR g M M.length)) (hr : ∀ j, j < M.length → IntBlk w (g + 1 + j) (M.getD j []))
    (hI : ∀ j, j < M.length → ∀ x ∈ M.getD j [], I64 x) (hn : tot M ≤ 1048576) : PM.Rows w (.slice (some ⟨g, 0, none⟩) M.length M.length) M := by
  have hl : M.length ≤ maxLen := by unfold tot at hn; unfold maxLen; omega
  refine ⟨_, _, rfl, Nat.le_refl _, hl, .inr ⟨g, 0, rfl, ht.lt, fun i hi => ?_⟩⟩
  refine ⟨_, by rw [Nat.zero_add]; exact ht.cell hi, ?_⟩
  simp only [partR]
  rw [if_pos hi]
  refine (hr i hi).ints (hI i hi) ?_
  have h1 := pre_succ M i hi
  have h2 := pre_le M (i + 1)
  unfold tot at hn
  unfold maxLen
  omega

theorem szProblem_any (m q : Value) (M : List (List Int)) (Q : List Int) (w : World) (h1 : PM.Rows w m M) (h2 : Ints w q Q) :
    Calls Tryd.prog 11 #[.agg #[m, q], .int .i64 1048576] w fun e w' => e = .returned (.int .i64 (szP M Q 1048576)) ∧ Below w.heap.size w w' := by
  have g1 := fun (w' : World) (h : Below w.heap.size w w') => h1.below h
  obtain ⟨a1, c1, rfl, _⟩ := h1
  obtain ⟨a2, c2, rfl, hl2, hm2, _⟩ := h2
  have hm := maxLen_le (Nat.le_trans hl2 hm2)
  clear hl2 hm2
  by_cases hA : (tot M : Int) ≤ 1048576
  · have e1 : szR M 1048576 = 1048576 - tot M := by unfold szR; rw [if_pos hA]
    have E1 := Lib.hid e1
    clear e1
    by_cases hB : (tot M : Int) + Q.length ≤ 1048576
    · have e2 : szI Q.length (1048576 - tot M) = 1048576 - tot M - Q.length := by unfold szI; rw [if_pos (by omega)]
      have e3 : szP M Q 1048576 = 1048576 - tot M - Q.length := by unfold szP; rw [if_pos hB]
      rw [e3]
      have E2 := Lib.hid e2
      clear e2 e3
      go_enter Tryd.func11, Tryd.ntmps11
      go_wp2_with fail
      refine (szInt64SS_any _ M _ _ (g1 _ (by (repeat' (first | (with_reducible exact Below.refl _ _) | (with_reducible assumption) | (with_reducible refine Below.alloc ?_ ?_ _) | (with_reducible refine Below.drew ?_) | (with_reducible refine below_drewN ?_ _) | (with_reducible refine Below.setCell ?_ ?_ _) | (with_reducible refine Below.trans ?_ (Below.mono (by with_reducible assumption) ?_)) | (with_reducible exact Below.size (by with_reducible assumption)) | go_size)))) (by omega) (by omega)).mono ?_; rw [E1.out]; rintro e w1 ⟨rfl, rfl⟩
      go_wp2_with fail
      refine (szInt64S_any _ _ _ _ _ hm (by omega) (by omega)).mono ?_; rw [E2.out]; rintro e w1 ⟨rfl, rfl⟩
      go_wp2_with fail
      go_ret
      exact ⟨rfl, by (repeat' (first | (with_reducible exact Below.refl _ _) | (with_reducible assumption) | (with_reducible refine Below.alloc ?_ ?_ _) | (with_reducible refine Below.drew ?_) | (with_reducible refine below_drewN ?_ _) | (with_reducible refine Below.setCell ?_ ?_ _) | (with_reducible refine Below.trans ?_ (Below.mono (by with_reducible assumption) ?_)) | (with_reducible exact Below.size (by with_reducible assumption)) | go_size))⟩
    · have e2 : szI Q.length (1048576 - tot M) = -1 := by unfold szI; rw [if_neg (by omega)]
      have e3 : szP M Q 1048576 = -1 := by unfold szP; rw [if_neg hB]
      rw [e3]
      have E2 := Lib.hid e2
      clear e2 e3
      go_enter Tryd.func11, Tryd.ntmps11
      go_wp2_with fail
      refine (szInt64SS_any _ M _ _ (g1 _ (by (repeat' (first | (with_reducible exact Below.refl _ _) | (with_reducible assumption) | (with_reducible refine Below.alloc ?_ ?_ _) | (with_reducible refine Below.drew ?_) | (with_reducible refine below_drewN ?_ _) | (with_reducible refine Below.setCell ?_ ?_ _) | (with_reducible refine Below.trans ?_ (Below.mono (by with_reducible assumption) ?_)) | (with_reducible exact Below.size (by with_reducible assumption)) | go_size)))) (by omega) (by omega)).mono ?_; rw [E1.out]; rintro e w1 ⟨rfl, rfl⟩
      go_wp2_with fail
      refine (szInt64S_any _ _ _ _ _ hm (by omega) (by omega)).mono ?_; rw [E2.out]; rintro e w1 ⟨rfl, rfl⟩
      go_wp2_with fail
      go_ret
      exact ⟨rfl, by (repeat' (first | (with_reducible exact Below.refl _ _) | (with_reducible assumption) | (with_reducible refine Below.alloc ?_ ?_ _) | (with_reducible refine Below.drew ?_) | (with_reducible refine below_drewN ?_ _) | (with_reducible refine Below.setCell ?_ ?_ _) | (with_reducible refine Below.trans ?_ (Below.mono (by with_reducible assumption) ?_)) | (with_reducible exact Below.size (by with_reducible assumption)) | go_size))⟩
  · have e1 : szR M 1048576 = -1 := by unfold szR; rw [if_neg hA]
    have e3 : szP M Q 1048576 = -1 := by unfold szP; rw [if_neg (by omega)]
    rw [e3]
    have E1 := Lib.hid e1
    clear e1 e3
    go_enter Tryd.func11, Tryd.ntmps11
    go_wp2_with fail
    refine (szInt64SS_any _ M _ _ (g1 _ (by (repeat' (first | (with_reducible exact Below.refl _ _) | (with_reducible assumption) | (with_reducible refine Below.alloc ?_ ?_ _) | (with_reducible refine Below.drew ?_) | (with_reducible refine below_drewN ?_ _) | (with_reducible refine Below.setCell ?_ ?_ _) | (with_reducible refine Below.trans ?_ (Below.mono (by with_reducible assumption) ?_)) | (with_reducible exact Below.size (by with_reducible assumption)) | go_size)))) (by omega) (by omega)).mono ?_; rw [E1.out]; rintro e w1 ⟨rfl, rfl⟩
    go_wp2_with fail
    go_ret
    exact ⟨rfl, by (repeat' (first | (with_reducible exact Below.refl _ _) | (with_reducible assumption) | (with_reducible refine Below.alloc ?_ ?_ _) | (with_reducible refine Below.drew ?_) | (with_reducible refine below_drewN ?_ _) | (with_reducible refine Below.setCell ?_ ?_ _) | (with_reducible refine Below.trans ?_ (Below.mono (by with_reducible assumption) ?_)) | (with_reducible exact Below.size (by with_reducible assumption)) | go_size))⟩
end Go.Proofs.YtbcclhdfpboidaaDoor.PW
