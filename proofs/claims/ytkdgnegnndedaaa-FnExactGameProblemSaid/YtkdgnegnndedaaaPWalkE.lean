/-
  Walks: problems of the laws (sizes, copies, comparisons), and what is a matrix and a problem in the model and in the program.
  Walks: what is a matrix and a problem, in the model and in the program.
  Walks: what is a problem, in the model and in the program.
-/
import Derived.Test.YtkdgnegnndedaaaPWalkB
import Derived.Test.YtkdgnegnndedaaaPMath
namespace Go.Proofs.Ytkdgnegnndedaaa.PW
open Go.RowKit Go.Proofs.Ytkdgnegnndedaaa
open Go.Proofs.Ytkdgnegnndedaaa.PM

theorem eqProblem_same (m q m2 q2 : Value) (M : List (List Int)) (Q : List Int) (w : World) (h1 : PM.Rows w m M) (h2 : Ints w q Q) (h3 : PM.Rows w m2 M) (h4 : Ints w q2 Q) :
    Calls Try.prog 19 #[.agg #[m, q], .agg #[m2, q2]] w fun e w' => e = .returned (.bool true) ∧ Below w.heap.size w w' := by
  have g1 := fun (w' : World) (h : Below w.heap.size w w') => h1.below h
  have g2 := fun (w' : World) (h : Below w.heap.size w w') => h2.below h
  have g3 := fun (w' : World) (h : Below w.heap.size w w') => h3.below h
  have g4 := fun (w' : World) (h : Below w.heap.size w w') => h4.below h
  obtain ⟨a1, c1, rfl, _⟩ := h1
  obtain ⟨a2, c2, rfl, _⟩ := h2
  obtain ⟨a3, c3, rfl, _⟩ := h3
  obtain ⟨a4, c4, rfl, _⟩ := h4
  go_enter Try.func19, Try.ntmps19
  go_wp2_with fail
  refine (eqInt64SS_same _ _ M _ (g1 _ (by (repeat' (first | (with_reducible exact Below.refl _ _) | (with_reducible assumption) | (with_reducible refine Below.alloc ?_ ?_ _) | (with_reducible refine Below.drew ?_) | (with_reducible refine below_drewN ?_ _) | (with_reducible refine Below.setCell ?_ ?_ _) | (with_reducible refine Below.trans ?_ (Below.mono (by with_reducible assumption) ?_)) | (with_reducible exact Below.size (by with_reducible assumption)) | go_size)))) (g3 _ (by (repeat' (first | (with_reducible exact Below.refl _ _) | (with_reducible assumption) | (with_reducible refine Below.alloc ?_ ?_ _) | (with_reducible refine Below.drew ?_) | (with_reducible refine below_drewN ?_ _) | (with_reducible refine Below.setCell ?_ ?_ _) | (with_reducible refine Below.trans ?_ (Below.mono (by with_reducible assumption) ?_)) | (with_reducible exact Below.size (by with_reducible assumption)) | go_size))))).mono ?_; rintro e w1 ⟨rfl, hb1⟩; obtain ⟨hc_hb1, hf_hb1⟩ := bcell hb1; obtain ⟨hcA_hb1, hfA_hb1⟩ := bcellG (W0 := w) hb1 (by (repeat' (first | (with_reducible exact Below.refl _ _) | (with_reducible assumption) | (with_reducible refine Below.alloc ?_ ?_ _) | (with_reducible refine Below.drew ?_) | (with_reducible refine below_drewN ?_ _) | (with_reducible refine Below.setCell ?_ ?_ _) | (with_reducible refine Below.trans ?_ (Below.mono (by with_reducible assumption) ?_)) | (with_reducible exact Below.size (by with_reducible assumption)) | go_size))); have hz_hb1 := hb1.size; (try simp at hz_hb1); (try simp only [Nat.add_one_le_iff] at hz_hb1); have hz0_hb1 : w.heap.size < w1.heap.size := (by omega); have hz1_hb1 : w.heap.size + 1 < w1.heap.size := (by omega)
  go_wp2_with fail
  refine (eqInt64S_same _ _ Q _ (g2 _ (by (repeat' (first | (with_reducible exact Below.refl _ _) | (with_reducible assumption) | (with_reducible refine Below.alloc ?_ ?_ _) | (with_reducible refine Below.drew ?_) | (with_reducible refine below_drewN ?_ _) | (with_reducible refine Below.setCell ?_ ?_ _) | (with_reducible refine Below.trans ?_ (Below.mono (by with_reducible assumption) ?_)) | (with_reducible exact Below.size (by with_reducible assumption)) | go_size)))) (g4 _ (by (repeat' (first | (with_reducible exact Below.refl _ _) | (with_reducible assumption) | (with_reducible refine Below.alloc ?_ ?_ _) | (with_reducible refine Below.drew ?_) | (with_reducible refine below_drewN ?_ _) | (with_reducible refine Below.setCell ?_ ?_ _) | (with_reducible refine Below.trans ?_ (Below.mono (by with_reducible assumption) ?_)) | (with_reducible exact Below.size (by with_reducible assumption)) | go_size))))).mono ?_; rintro e w2 ⟨rfl, hb2⟩; obtain ⟨hc_hb2, hf_hb2⟩ := bcell hb2; obtain ⟨hcA_hb2, hfA_hb2⟩ := bcellG (W0 := w1) hb2 (by (repeat' (first | (with_reducible exact Below.refl _ _) | (with_reducible assumption) | (with_reducible refine Below.alloc ?_ ?_ _) | (with_reducible refine Below.drew ?_) | (with_reducible refine below_drewN ?_ _) | (with_reducible refine Below.setCell ?_ ?_ _) | (with_reducible refine Below.trans ?_ (Below.mono (by with_reducible assumption) ?_)) | (with_reducible exact Below.size (by with_reducible assumption)) | go_size))); have hz_hb2 := hb2.size; (try simp at hz_hb2); (try simp only [Nat.add_one_le_iff] at hz_hb2); have hz0_hb2 : w.heap.size < w2.heap.size := (by omega); have hz1_hb2 : w.heap.size + 1 < w2.heap.size := (by omega)
  go_wp2_with fail
  go_ret
  refine ⟨rfl, ?_⟩
  (repeat' (first | (with_reducible exact Below.refl _ _) | (with_reducible assumption) | (with_reducible refine Below.alloc ?_ ?_ _) | (with_reducible refine Below.drew ?_) | (with_reducible refine below_drewN ?_ _) | (with_reducible refine Below.setCell ?_ ?_ _) | (with_reducible refine Below.trans ?_ (Below.mono (by with_reducible assumption) ?_)) | (with_reducible exact Below.size (by with_reducible assumption)) | go_size))

theorem rowIs_thru {w1 w2 : World} {b n : Nat} {t : TypeId} {f : Nat → Value} {p : Addr} {u : Value} (h : w1.rowIs b t n f) (hp : b ≠ p.block) (hb : Below (w1.setCell p u).heap.size (w1.setCell p u) w2) : w2.rowIs b t n f :=
  (h.setOther hp u).of_block (hb.block _ (h.setOther hp u).lt)

/-- A copy of a problem: all in new memory. -/
def CopyP (w : World) (M : List (List Int)) (Q : List Int) (e : Ending) (w' : World) : Prop :=
  ∃ g h : Nat, e = .returned (.agg #[.slice (some ⟨g, 0, none⟩) M.length M.length, .slice (some ⟨h, 0, none⟩) Q.length Q.length]) ∧ w.heap.size ≤ g ∧ h = g + 1 + M.length ∧
    w'.rowIs g 23 M.length (partR g M M.length) ∧ (∀ j, j < M.length → IntBlk w' (g + 1 + j) (M.getD j [])) ∧ IntBlk w' h Q ∧ Below w.heap.size w w'

theorem toProblem_any (m q : Value) (M : List (List Int)) (Q : List Int) (w : World) (h1 : PM.Rows w m M) (h2 : Ints w q Q) (hn : tot M ≤ 1048576) (hn2 : Q.length ≤ 1048576) :
    Calls Try.prog 17 #[.agg #[m, q]] w (CopyP w M Q) := by
  have g1 := fun (w' : World) (h : Below w.heap.size w w') => h1.below h
  have g2 := fun (w' : World) (h : Below w.heap.size w w') => h2.below h
  obtain ⟨a1, c1, rfl, _⟩ := h1
  obtain ⟨a2, c2, rfl, _⟩ := h2
  have HN := Lib.hid hn
  clear hn
  go_enter Try.func17, Try.ntmps17
  go_wp2_with fail
  refine (toInt64SS_any _ M _ (g1 _ (by (repeat' (first | (with_reducible exact Below.refl _ _) | (with_reducible assumption) | (with_reducible refine Below.alloc ?_ ?_ _) | (with_reducible refine Below.drew ?_) | (with_reducible refine below_drewN ?_ _) | (with_reducible refine Below.setCell ?_ ?_ _) | (with_reducible refine Below.trans ?_ (Below.mono (by with_reducible assumption) ?_)) | (with_reducible exact Below.size (by with_reducible assumption)) | go_size)))) HN.out).mono ?_; rintro e w1 ⟨rfl, hc1⟩; have hb1 := hc1.below; obtain ⟨hc_hb1, hf_hb1⟩ := bcell hb1; obtain ⟨hcA_hb1, hfA_hb1⟩ := bcellG (W0 := w) hb1 (by (repeat' (first | (with_reducible exact Below.refl _ _) | (with_reducible assumption) | (with_reducible refine Below.alloc ?_ ?_ _) | (with_reducible refine Below.drew ?_) | (with_reducible refine below_drewN ?_ _) | (with_reducible refine Below.setCell ?_ ?_ _) | (with_reducible refine Below.trans ?_ (Below.mono (by with_reducible assumption) ?_)) | (with_reducible exact Below.size (by with_reducible assumption)) | go_size))); have hz_hb1 := hb1.size; (try simp at hz_hb1); (try simp only [Nat.add_one_le_iff] at hz_hb1); have hz0_hb1 : w.heap.size < w1.heap.size := (by omega); have hz1_hb1 : w.heap.size + 1 < w1.heap.size := (by omega); have hz2_hb1 : w.heap.size + 1 + 1 < w1.heap.size := (by omega)
  go_wp2_with fail
  have hs1 := hc1.size
  simp only [World.size_alloc] at hs1
  have HS1 := Lib.hid hs1
  have HC1 := Lib.hid hc1
  clear hs1 hc1
  refine (toInt64S_any _ Q _ (g2 _ (by (repeat' (first | (with_reducible exact Below.refl _ _) | (with_reducible assumption) | (with_reducible refine Below.alloc ?_ ?_ _) | (with_reducible refine Below.drew ?_) | (with_reducible refine below_drewN ?_ _) | (with_reducible refine Below.setCell ?_ ?_ _) | (with_reducible refine Below.trans ?_ (Below.mono (by with_reducible assumption) ?_)) | (with_reducible exact Below.size (by with_reducible assumption)) | go_size)))) hn2).mono ?_; rintro e w2 ⟨rfl, hc2⟩; have hb2 := hc2.below; obtain ⟨hc_hb2, hf_hb2⟩ := bcell hb2; have hz_hb2 := hb2.size; (try simp at hz_hb2); (try simp only [Nat.add_one_le_iff] at hz_hb2)
  have hz0_hb2 : w.heap.size < w2.heap.size := by omega
  have hz1_hb2 : w.heap.size + 1 < w2.heap.size := by omega
  have hz2_hb2 : w.heap.size + 1 + 1 < w2.heap.size := by omega
  have HC2 := Lib.hid hc2
  clear hc2
  go_wp2_with fail
  refine bodyPost_ret (v := .agg #[.slice (some ⟨w.heap.size + 1 + 1 + 1, 0, none⟩) M.length M.length, .slice (some ⟨w1.heap.size, 0, none⟩) Q.length Q.length]) (by simp [*, results, Try.results17, go_sem]) rfl ?_
  have hs1 := HS1.out
  have ht := HC1.out.top
  have hr := HC1.out.rows
  have hq := copied_end HC2.out
  simp only [World.size_alloc] at ht hr
  simp only [World.size_setCell] at hq
  refine ⟨_, _, rfl, by omega, hs1, ?_, fun j hj => ?_, ?_, ?_⟩
  · refine World.rowIs.setOther (World.rowIs.setOther (World.rowIs.setOther (rowIs_thru ht ?_ hb2) ?_ _) ?_ _) ?_ _ <;> (show _ ≠ _; simp; try omega)
  · refine World.rowIs.setOther (World.rowIs.setOther (World.rowIs.setOther (rowIs_thru (hr j hj) ?_ hb2) ?_ _) ?_ _) ?_ _ <;> (show _ ≠ _; simp; try omega)
  · refine World.rowIs.setOther (World.rowIs.setOther (World.rowIs.setOther hq ?_ _) ?_ _) ?_ _ <;> (show _ ≠ _; simp; omega)
  · have h1 : Below w.heap.size w w1 := by (repeat' (first | (with_reducible exact Below.refl _ _) | (with_reducible assumption) | (with_reducible refine Below.alloc ?_ ?_ _) | (with_reducible refine Below.drew ?_) | (with_reducible refine below_drewN ?_ _) | (with_reducible refine Below.setCell ?_ ?_ _) | (with_reducible refine Below.trans ?_ (Below.mono (by with_reducible assumption) ?_)) | (with_reducible exact Below.size (by with_reducible assumption)) | go_size))
    have h2 : Below w.heap.size w w2 := (h1.setCell (by simp; omega) _).trans (hb2.mono (by simp; omega))
    exact ((h2.setCell (by simp; omega) _).setCell (by simp) _).setCell (by simp) _

/-- What a copy gives to a reader. -/
theorem rows_of_copy {w : World} {g : Nat} {M : List (List Int)} (ht : w.rowIs g 23 M.length (partR g M M.length)) (hr : ∀ j, j < M.length → IntBlk w (g + 1 + j) (M.getD j []))
    (hI : ∀ j, j < M.length → ∀ x ∈ M.getD j [], I64 x) (hn : tot M ≤ 1048576) : PM.Rows w (.slice (some ⟨g, 0, none⟩) M.length M.length) M := by
  have hl : M.length ≤ maxLen := by unfold tot at hn; unfold maxLen; omega
  refine ⟨_, _, rfl, Nat.le_refl _, hl, .inr ⟨g, 0, rfl, ht.lt, fun i hi => ?_⟩⟩
  refine ⟨_, by rw [Nat.zero_add]; exact ht.cell hi, ?_⟩
  simp only [partR]
  rw [if_pos hi]
  refine (hr i hi).ints (hI i hi) ?_
  have h1 := pre_succ M i hi
  have h2 := pre_le M (i + 1)
  unfold tot at hn
  unfold maxLen
  omega

theorem szProblem_any (m q : Value) (M : List (List Int)) (Q : List Int) (w : World) (h1 : PM.Rows w m M) (h2 : Ints w q Q) :
    Calls Try.prog 15 #[.agg #[m, q], .int .i64 1048576] w fun e w' => e = .returned (.int .i64 (szP M Q 1048576)) ∧ Below w.heap.size w w' := by
  have g1 := fun (w' : World) (h : Below w.heap.size w w') => h1.below h
  obtain ⟨a1, c1, rfl, _⟩ := h1
  obtain ⟨a2, c2, rfl, hl2, hm2, _⟩ := h2
  have hm := maxLen_le (Nat.le_trans hl2 hm2)
  clear hl2 hm2
  by_cases hA : (tot M : Int) ≤ 1048576
  · have e1 : szR M 1048576 = 1048576 - tot M := by unfold szR; rw [if_pos hA]
    have E1 := Lib.hid e1
    clear e1
    by_cases hB : (tot M : Int) + Q.length ≤ 1048576
    · have e2 : szI Q.length (1048576 - tot M) = 1048576 - tot M - Q.length := by unfold szI; rw [if_pos (by omega)]
      have e3 : szP M Q 1048576 = 1048576 - tot M - Q.length := by unfold szP; rw [if_pos hB]
      rw [e3]
      have E2 := Lib.hid e2
      clear e2 e3
      go_enter Try.func15, Try.ntmps15
      go_wp2_with fail
      refine (szInt64SS_any _ M _ _ (g1 _ (by (repeat' (first | (with_reducible exact Below.refl _ _) | (with_reducible assumption) | (with_reducible refine Below.alloc ?_ ?_ _) | (with_reducible refine Below.drew ?_) | (with_reducible refine below_drewN ?_ _) | (with_reducible refine Below.setCell ?_ ?_ _) | (with_reducible refine Below.trans ?_ (Below.mono (by with_reducible assumption) ?_)) | (with_reducible exact Below.size (by with_reducible assumption)) | go_size)))) (by omega) (by omega)).mono ?_; rw [E1.out]; rintro e w1 ⟨rfl, rfl⟩
      go_wp2_with fail
      refine (szInt64S_any _ _ _ _ _ hm (by omega) (by omega)).mono ?_; rw [E2.out]; rintro e w1 ⟨rfl, rfl⟩
      go_wp2_with fail
      go_ret
      exact ⟨rfl, by (repeat' (first | (with_reducible exact Below.refl _ _) | (with_reducible assumption) | (with_reducible refine Below.alloc ?_ ?_ _) | (with_reducible refine Below.drew ?_) | (with_reducible refine below_drewN ?_ _) | (with_reducible refine Below.setCell ?_ ?_ _) | (with_reducible refine Below.trans ?_ (Below.mono (by with_reducible assumption) ?_)) | (with_reducible exact Below.size (by with_reducible assumption)) | go_size))⟩
    · have e2 : szI Q.length (1048576 - tot M) = -1 := by unfold szI; rw [if_neg (by omega)]
      have e3 : szP M Q 1048576 = -1 := by unfold szP; rw [if_neg hB]
      rw [e3]
      have E2 := Lib.hid e2
      clear e2 e3
      go_enter Try.func15, Try.ntmps15
      go_wp2_with fail
      refine (szInt64SS_any _ M _ _ (g1 _ (by (repeat' (first | (with_reducible exact Below.refl _ _) | (with_reducible assumption) | (with_reducible refine Below.alloc ?_ ?_ _) | (with_reducible refine Below.drew ?_) | (with_reducible refine below_drewN ?_ _) | (with_reducible refine Below.setCell ?_ ?_ _) | (with_reducible refine Below.trans ?_ (Below.mono (by with_reducible assumption) ?_)) | (with_reducible exact Below.size (by with_reducible assumption)) | go_size)))) (by omega) (by omega)).mono ?_; rw [E1.out]; rintro e w1 ⟨rfl, rfl⟩
      go_wp2_with fail
      refine (szInt64S_any _ _ _ _ _ hm (by omega) (by omega)).mono ?_; rw [E2.out]; rintro e w1 ⟨rfl, rfl⟩
      go_wp2_with fail
      go_ret
      exact ⟨rfl, by (repeat' (first | (with_reducible exact Below.refl _ _) | (with_reducible assumption) | (with_reducible refine Below.alloc ?_ ?_ _) | (with_reducible refine Below.drew ?_) | (with_reducible refine below_drewN ?_ _) | (with_reducible refine Below.setCell ?_ ?_ _) | (with_reducible refine Below.trans ?_ (Below.mono (by with_reducible assumption) ?_)) | (with_reducible exact Below.size (by with_reducible assumption)) | go_size))⟩
  · have e1 : szR M 1048576 = -1 := by unfold szR; rw [if_neg hA]
    have e3 : szP M Q 1048576 = -1 := by unfold szP; rw [if_neg (by omega)]
    rw [e3]
    have E1 := Lib.hid e1
    clear e1 e3
    go_enter Try.func15, Try.ntmps15
    go_wp2_with fail
    refine (szInt64SS_any _ M _ _ (g1 _ (by (repeat' (first | (with_reducible exact Below.refl _ _) | (with_reducible assumption) | (with_reducible refine Below.alloc ?_ ?_ _) | (with_reducible refine Below.drew ?_) | (with_reducible refine below_drewN ?_ _) | (with_reducible refine Below.setCell ?_ ?_ _) | (with_reducible refine Below.trans ?_ (Below.mono (by with_reducible assumption) ?_)) | (with_reducible exact Below.size (by with_reducible assumption)) | go_size)))) (by omega) (by omega)).mono ?_; rw [E1.out]; rintro e w1 ⟨rfl, rfl⟩
    go_wp2_with fail
    go_ret
    exact ⟨rfl, by (repeat' (first | (with_reducible exact Below.refl _ _) | (with_reducible assumption) | (with_reducible refine Below.alloc ?_ ?_ _) | (with_reducible refine Below.drew ?_) | (with_reducible refine below_drewN ?_ _) | (with_reducible refine Below.setCell ?_ ?_ _) | (with_reducible refine Below.trans ?_ (Below.mono (by with_reducible assumption) ?_)) | (with_reducible exact Below.size (by with_reducible assumption)) | go_size))⟩
end Go.Proofs.Ytkdgnegnndedaaa.PW
namespace Go.Proofs.Ytkdgnegnndedaaa.PW
open Go.RowKit Go.Proofs.Ytkdgnegnndedaaa
open Go.Proofs.Ytkdgnegnndedaaa.PM

theorem l01In_is (n lo hi : Int) (b : Bool) (w : World) (h : decide (lo ≤ n ∧ n ≤ hi) = b) :
    Calls Try.prog 66 #[.int .i64 n, .int .i64 lo, .int .i64 hi] w fun e w' => e = .returned (.bool b) ∧ w = w' := by
  subst h
  go_enter Try.func66, Try.ntmps66
  go_wp2
  all_goals (go_ret; exact ⟨ret_bool (by simp; try omega), rfl⟩)

theorem isWithin_is (x l : Int) (b : Bool) (w : World) (h0 : 0 ≤ l) (h1 : l ≤ 1000000000000) (h : decide (-l ≤ x ∧ x ≤ l) = b) :
    Calls Try.prog 136 #[.int .i64 x, .int .i64 l] w fun e w' => e = .returned (.bool b) ∧ w = w' := by
  subst h
  go_enter Try.func136, Try.ntmps136
  go_wp2
  all_goals (go_ret; exact ⟨ret_bool (by simp; try omega), rfl⟩)

theorem areWithin_any (v : Value) (xs : List Int) (l : Int) (w : World) (hv : Ints w v xs) (h0 : 0 ≤ l) (h1 : l ≤ 1000000000000) :
    Calls Try.prog 112 #[v, .int .i64 l] w fun e w' => e = .returned (.bool (wit l xs)) ∧ w = w' := by
  obtain ⟨a, cap, rfl, hc, hm0, _, hx⟩ := hv
  have hm := maxLen_le (Nat.le_trans hc hm0)
  clear hm0 hc
  rcases hx with rfl | ⟨b, off, rfl, hlt, hcell⟩
  · show Calls _ _ #[.slice a 0 cap, .int .i64 l] _ _
    go_enter Try.func112, Try.ntmps112
    go_wp2
    go_rounds 1
    all_goals go_ret
    all_goals exact ⟨rfl, rfl⟩
  have HC := Lib.hid hcell
  clear hcell
  have HI := Lib.hid (wit_iff l xs)
  go_enter Try.func112, Try.ntmps112
  go_wp2
  go_loop [6, 9] (fun _ i => ∃ k : Nat, k ≤ xs.length ∧ i = .int .i64 k ∧ Hid (∀ j, j < k → -l ≤ xs.getD j 0 ∧ xs.getD j 0 ≤ l)) (fun _ i => xs.length - (intOf i).toNat)
  case atStart => exact ⟨0, Nat.zero_le _, rfl, fun j hj => absurd hj (Nat.not_lt_zero _)⟩
  case round =>
    obtain ⟨k, hk, rfl, hrng⟩ := hrel
    by_cases hlt3 : k < xs.length
    · have h1 := HC.out k hlt3
      by_cases hin : -l ≤ xs.getD k 0 ∧ xs.getD k 0 ≤ l
      · have hnext : Hid (∀ j, j < k + 1 → -l ≤ xs.getD j 0 ∧ xs.getD j 0 ≤ l) := fun j hj => by
          by_cases e : j = k
          · subst e; exact hin
          · exact hrng.out j (by omega)
        have hd : Hid (decide (-l ≤ xs.getD k 0 ∧ xs.getD k 0 ≤ l) = true) := decide_eq_true hin
        clear hin
        generalize xs.getD k 0 = x at *
        go_wp2_with (go_at_call 136; refine (isWithin_is _ _ _ _ (by omega) (by omega) hd.out).mono ?_; rintro e w' ⟨rfl, rfl⟩)
        go_round
        case rel => exact ⟨k + 1, by omega, by go_num, hnext⟩
        case measure => simp [intOf]; omega
      · have hno : Hid (wit l xs = false) := wit_no hlt3 hin
        have hd : Hid (decide (-l ≤ xs.getD k 0 ∧ xs.getD k 0 ≤ l) = false) := decide_eq_false hin
        clear hin
        generalize xs.getD k 0 = x at *
        go_wp2_with (go_at_call 136; refine (isWithin_is _ _ _ _ (by omega) (by omega) hd.out).mono ?_; rintro e w' ⟨rfl, rfl⟩)
        go_ret
        exact ⟨by rw [hno.out]; rfl, rfl⟩
    · obtain rfl : k = xs.length := by omega
      have hyes : Hid (wit l xs = true) := HI.out.2 hrng.out
      go_wp2
      go_ret
      exact ⟨by rw [hyes.out]; rfl, rfl⟩

theorem l01Matrix_any (v : Value) (M : List (List Int)) (w : World) (hv : PM.Rows w v M) :
    Calls Try.prog 109 #[v] w fun e w' => e = .returned (.bool (matB M)) ∧ w = w' := by
  obtain ⟨a, cap, rfl, hc, hm0, hx⟩ := hv
  have hm := maxLen_le (Nat.le_trans hc hm0)
  clear hm0 hc
  by_cases hs : 1 ≤ M.length ∧ M.length ≤ 5
  case neg =>
    rw [matB_size hs]
    clear hx
    by_cases hs1 : M.length < 1
    · obtain hs0 : M.length = 0 := by omega
      rw [hs0]
      clear hs hs1 hs0 hm
      go_enter Try.func109, Try.ntmps109
      go_wp2
      go_ret
      exact ⟨rfl, rfl⟩
    · have hs5 : 5 < M.length := by omega
      clear hs
      generalize M.length = n at *
      go_enter Try.func109, Try.ntmps109
      go_wp2
      go_ret
      exact ⟨rfl, rfl⟩
  obtain ⟨hs1, hs5⟩ := hs
  rcases hx with rfl | ⟨b, off, rfl, hlt, hcell⟩
  · simp at hs1
  have HC := Lib.hid hcell
  clear hcell
  have HI := Lib.hid (matB_iff M)
  obtain ⟨n, hn⟩ : ∃ n, n = M.length := ⟨_, rfl⟩
  rw [← hn] at hs1 hs5 hm ⊢
  have HN := Lib.hid hn
  clear hn
  go_enter Try.func109, Try.ntmps109
  go_wp2
  go_loop [4, 5] (fun i _ => ∃ k : Nat, k ≤ n ∧ i = .int .i64 k ∧ Hid (∀ j, j < k → (M.getD j []).length = n ∧ wit 20 (M.getD j []) = true)) (fun i _ => n - (intOf i).toNat)
  case atStart => exact ⟨0, Nat.zero_le _, rfl, fun j hj => absurd hj (Nat.not_lt_zero _)⟩
  case round =>
    obtain ⟨k, hk, rfl, hrows⟩ := hrel
    by_cases hlt3 : k < n
    · obtain ⟨u, hu, ra, rc, rfl, hrl, hrm, _, hrx⟩ := HC.out k (by rw [← HN.out]; exact hlt3)
      have hrm' := maxLen_le (Nat.le_trans hrl hrm)
      clear hrl hrm
      have hkM : k < M.length := by rw [← HN.out]; exact hlt3
      have HK := Lib.hid hkM
      clear hkM
      by_cases hlen : (M.getD k []).length = n
      · have hrow := Lib.hid (wit_iff 20 (M.getD k []))
        have hstep : Hid (wit 20 (M.getD k []) = true → ∀ j, j < k + 1 → (M.getD j []).length = n ∧ wit 20 (M.getD j []) = true) := fun hw j hj => by
          by_cases e : j = k
          · subst e; exact ⟨hlen, hw⟩
          · exact hrows.out j (by omega)
        have hbad : Hid (wit 20 (M.getD k []) = false → matB M = false) := fun hw => matB_no HK.out (by rw [hw]; simp)
        clear hrows
        generalize M.getD k [] = r at *
        rcases hrx with rfl | ⟨b2, off2, rfl, hlt2, hcell2⟩
        · simp at hlen; omega
        rw [hlen] at hu hrm'
        have HL := Lib.hid hlen
        have HC2 := Lib.hid hcell2
        clear hlen hcell2
        go_wp2
        go_loop [5] (fun i => ∃ c : Nat, c ≤ n ∧ i = .int .i64 c ∧ Hid (∀ j, j < c → -20 ≤ r.getD j 0 ∧ r.getD j 0 ≤ 20)) (fun i => n - (intOf i).toNat)
        case atStart => exact ⟨0, Nat.zero_le _, rfl, fun j hj => absurd hj (Nat.not_lt_zero _)⟩
        case round =>
          obtain ⟨c, hc, rfl, hrng⟩ := hrel
          by_cases hlt4 : c < n
          · have hcr : c < r.length := by rw [HL.out]; exact hlt4
            have h1 := HC2.out c hcr
            by_cases hin : -20 ≤ r.getD c 0 ∧ r.getD c 0 ≤ 20
            · have hnext : Hid (∀ j, j < c + 1 → -20 ≤ r.getD j 0 ∧ r.getD j 0 ≤ 20) := fun j hj => by
                by_cases e : j = c
                · subst e; exact hin
                · exact hrng.out j (by omega)
              have hd : Hid (decide (-20 ≤ r.getD c 0 ∧ r.getD c 0 ≤ 20) = true) := decide_eq_true hin
              clear hin hcr
              generalize r.getD c 0 = x at *
              go_wp2_with (go_at_call 66; refine (l01In_is _ _ _ _ _ hd.out).mono ?_; rintro e w' ⟨rfl, rfl⟩)
              go_round
              case rel => exact ⟨c + 1, by omega, by go_num, hnext⟩
              case measure => simp [intOf]; omega
            · have hno : Hid (matB M = false) := hbad.out (wit_no hcr hin)
              have hd : Hid (decide (-20 ≤ r.getD c 0 ∧ r.getD c 0 ≤ 20) = false) := decide_eq_false hin
              clear hin hcr
              generalize r.getD c 0 = x at *
              go_wp2_with (go_at_call 66; refine (l01In_is _ _ _ _ _ hd.out).mono ?_; rintro e w' ⟨rfl, rfl⟩)
              go_ret
              exact ⟨by rw [hno.out]; rfl, rfl⟩
          · obtain rfl : c = n := by omega
            have hnext := hstep.out (hrow.out.2 (by rw [HL.out]; exact hrng.out))
            have HX := Lib.hid hnext
            clear hnext
            go_wp2
            go_round
            case rel => exact ⟨k + 1, by omega, by go_num, HX⟩
            case measure => simp [intOf]; omega
      · have hno : Hid (matB M = false) := matB_no HK.out (fun c => hlen (by rw [c.1, HN.out]))
        generalize (M.getD k []).length = l at *
        have hne : ((l : Int) != (n : Int)) = true := by simp; omega
        go_wp2
        go_ret
        exact ⟨by rw [hno.out]; rfl, rfl⟩
    · obtain rfl : k = n := by omega
      have hyes : Hid (matB M = true) := HI.out.2 ⟨⟨by rw [← HN.out]; exact hs1, by rw [← HN.out]; exact hs5⟩, by rw [← HN.out]; exact hrows.out⟩
      go_wp2
      go_ret
      exact ⟨by rw [hyes.out]; rfl, rfl⟩
end Go.Proofs.Ytkdgnegnndedaaa.PW
namespace Go.Proofs.Ytkdgnegnndedaaa.PW
open Go.RowKit Go.Proofs.Ytkdgnegnndedaaa
open Go.Proofs.Ytkdgnegnndedaaa.PM

theorem l01Is_any (m q : Value) (M : List (List Int)) (Q : List Int) (w : World) (h1 : PM.Rows w m M) (h2 : Ints w q Q) :
    Calls Try.prog 65 #[.agg #[m, q]] w fun e w' => e = .returned (.bool (isPB M Q)) ∧ Below w.heap.size w w' := by
  have g1 := fun (w' : World) (h : Below w.heap.size w w') => h1.below h
  obtain ⟨a1, c1, rfl, hl1, hm1, _⟩ := h1
  obtain ⟨a2, c2, rfl, hl2, hm2, _, hx⟩ := h2
  have hm := maxLen_le (Nat.le_trans hl2 hm2)
  have hm' := maxLen_le (Nat.le_trans hl1 hm1)
  clear hl1 hm1 hl2 hm2
  by_cases hM : matB M = true
  case neg =>
    have hM' : matB M = false := by simpa using hM
    rw [isPB_mat hM']
    have HM := Lib.hid hM'
    clear hM hM' hx
    go_enter Try.func65, Try.ntmps65
    go_wp2_with fail
    refine (l01Matrix_any _ M _ (g1 _ (by (repeat' (first | (with_reducible exact Below.refl _ _) | (with_reducible assumption) | (with_reducible refine Below.alloc ?_ ?_ _) | (with_reducible refine Below.drew ?_) | (with_reducible refine below_drewN ?_ _) | (with_reducible refine Below.setCell ?_ ?_ _) | (with_reducible refine Below.trans ?_ (Below.mono (by with_reducible assumption) ?_)) | (with_reducible exact Below.size (by with_reducible assumption)) | go_size))))).mono ?_; rw [HM.out]; rintro e w1 ⟨rfl, rfl⟩
    go_wp2_with fail
    go_ret
    exact ⟨rfl, by (repeat' (first | (with_reducible exact Below.refl _ _) | (with_reducible assumption) | (with_reducible refine Below.alloc ?_ ?_ _) | (with_reducible refine Below.drew ?_) | (with_reducible refine below_drewN ?_ _) | (with_reducible refine Below.setCell ?_ ?_ _) | (with_reducible refine Below.trans ?_ (Below.mono (by with_reducible assumption) ?_)) | (with_reducible exact Below.size (by with_reducible assumption)) | go_size))⟩
  have HM := Lib.hid hM
  clear hM
  by_cases hl : Q.length = M.length
  case neg =>
    rw [isPB_no (fun c => hl c.2.1)]
    clear hx
    have hne : ((Q.length : Int) != (M.length : Int)) = true := by simp; omega
    generalize M.length = n at *
    generalize Q.length = k at *
    clear hl
    go_enter Try.func65, Try.ntmps65
    go_wp2_with fail
    refine (l01Matrix_any _ M _ (g1 _ (by (repeat' (first | (with_reducible exact Below.refl _ _) | (with_reducible assumption) | (with_reducible refine Below.alloc ?_ ?_ _) | (with_reducible refine Below.drew ?_) | (with_reducible refine below_drewN ?_ _) | (with_reducible refine Below.setCell ?_ ?_ _) | (with_reducible refine Below.trans ?_ (Below.mono (by with_reducible assumption) ?_)) | (with_reducible exact Below.size (by with_reducible assumption)) | go_size))))).mono ?_; rw [HM.out]; rintro e w1 ⟨rfl, rfl⟩
    go_wp2_with fail
    go_ret
    exact ⟨rfl, by (repeat' (first | (with_reducible exact Below.refl _ _) | (with_reducible assumption) | (with_reducible refine Below.alloc ?_ ?_ _) | (with_reducible refine Below.drew ?_) | (with_reducible refine below_drewN ?_ _) | (with_reducible refine Below.setCell ?_ ?_ _) | (with_reducible refine Below.trans ?_ (Below.mono (by with_reducible assumption) ?_)) | (with_reducible exact Below.size (by with_reducible assumption)) | go_size))⟩
  have hQ0 : 1 ≤ Q.length := by rw [hl]; exact ((matB_iff M).1 HM.out).1.1
  have HI := Lib.hid (wit_iff 100 Q)
  have HP := Lib.hid (isPB_iff M Q)
  have HL := Lib.hid hl
  rcases hx with rfl | ⟨b2, off2, rfl, hlt2, hcell2⟩
  · simp at hQ0
  rw [← hl] at g1 ⊢
  have HC2 := Lib.hid hcell2
  clear hcell2 hl hm'
  go_enter Try.func65, Try.ntmps65
  go_wp2_with fail
  refine (l01Matrix_any _ M _ (by rw [← HL.out] at *; exact g1 _ (by (repeat' (first | (with_reducible exact Below.refl _ _) | (with_reducible assumption) | (with_reducible refine Below.alloc ?_ ?_ _) | (with_reducible refine Below.drew ?_) | (with_reducible refine below_drewN ?_ _) | (with_reducible refine Below.setCell ?_ ?_ _) | (with_reducible refine Below.trans ?_ (Below.mono (by with_reducible assumption) ?_)) | (with_reducible exact Below.size (by with_reducible assumption)) | go_size))))).mono ?_; rw [HM.out]; rintro e w1 ⟨rfl, rfl⟩
  go_wp2_with fail
  go_loop [3] (fun i => ∃ k : Nat, k ≤ Q.length ∧ i = .int .i64 k ∧ Hid (∀ j, j < k → -100 ≤ Q.getD j 0 ∧ Q.getD j 0 ≤ 100)) (fun i => Q.length - (intOf i).toNat)
  case atStart => exact ⟨0, Nat.zero_le _, rfl, fun j hj => absurd hj (Nat.not_lt_zero _)⟩
  case round =>
    obtain ⟨k, hk, rfl, hrng⟩ := hrel
    by_cases hlt3 : k < Q.length
    · have h1 := HC2.out k hlt3
      by_cases hin : -100 ≤ Q.getD k 0 ∧ Q.getD k 0 ≤ 100
      · have hnext : Hid (∀ j, j < k + 1 → -100 ≤ Q.getD j 0 ∧ Q.getD j 0 ≤ 100) := fun j hj => by
          by_cases e : j = k
          · subst e; exact hin
          · exact hrng.out j (by omega)
        have hd : Hid (decide (-100 ≤ Q.getD k 0 ∧ Q.getD k 0 ≤ 100) = true) := decide_eq_true hin
        clear hin
        generalize Q.getD k 0 = x at *
        go_wp2_with (go_at_call 66; refine (l01In_is _ _ _ _ _ hd.out).mono ?_; rintro e w' ⟨rfl, rfl⟩)
        go_round
        case rel => exact ⟨k + 1, by omega, by go_num, hnext⟩
        case measure => simp [intOf]; omega
      · have hno : Hid (isPB M Q = false) := isPB_no (fun c => by rw [wit_no hlt3 hin] at c; exact absurd c.2.2 (by simp))
        have hd : Hid (decide (-100 ≤ Q.getD k 0 ∧ Q.getD k 0 ≤ 100) = false) := decide_eq_false hin
        clear hin
        generalize Q.getD k 0 = x at *
        go_wp2_with (go_at_call 66; refine (l01In_is _ _ _ _ _ hd.out).mono ?_; rintro e w' ⟨rfl, rfl⟩)
        go_ret
        exact ⟨by rw [hno.out]; rfl, by (repeat' (first | (with_reducible exact Below.refl _ _) | (with_reducible assumption) | (with_reducible refine Below.alloc ?_ ?_ _) | (with_reducible refine Below.drew ?_) | (with_reducible refine below_drewN ?_ _) | (with_reducible refine Below.setCell ?_ ?_ _) | (with_reducible refine Below.trans ?_ (Below.mono (by with_reducible assumption) ?_)) | (with_reducible exact Below.size (by with_reducible assumption)) | go_size))⟩
    · obtain rfl : k = Q.length := by omega
      have hyes : Hid (isPB M Q = true) := HP.out.2 ⟨HM.out, HL.out, HI.out.2 hrng.out⟩
      go_wp2
      go_ret
      exact ⟨by rw [hyes.out]; rfl, by (repeat' (first | (with_reducible exact Below.refl _ _) | (with_reducible assumption) | (with_reducible refine Below.alloc ?_ ?_ _) | (with_reducible refine Below.drew ?_) | (with_reducible refine below_drewN ?_ _) | (with_reducible refine Below.setCell ?_ ?_ _) | (with_reducible refine Below.trans ?_ (Below.mono (by with_reducible assumption) ?_)) | (with_reducible exact Below.size (by with_reducible assumption)) | go_size))⟩

theorem isSquareWithin_any (v : Value) (M : List (List Int)) (w : World) (hv : PM.Rows w v M) :
    Calls Try.prog 111 #[v, .int .i64 20] w fun e w' => e = .returned (.bool (matB M)) ∧ w = w' := by
  obtain ⟨a, cap, rfl, hc, hm0, hx⟩ := hv
  have hm := maxLen_le (Nat.le_trans hc hm0)
  clear hm0 hc
  by_cases hs : 1 ≤ M.length ∧ M.length ≤ 5
  case neg =>
    rw [matB_size hs]
    clear hx
    by_cases hs1 : M.length < 1
    · obtain hs0 : M.length = 0 := by omega
      rw [hs0]
      clear hs hs1 hs0 hm
      go_enter Try.func111, Try.ntmps111
      go_wp2_with fail
      go_ret
      exact ⟨rfl, rfl⟩
    · have hs5 : 5 < M.length := by omega
      clear hs
      generalize M.length = n at *
      go_enter Try.func111, Try.ntmps111
      go_wp2_with fail
      go_ret
      exact ⟨rfl, rfl⟩
  obtain ⟨hs1, hs5⟩ := hs
  rcases hx with rfl | ⟨b, off, rfl, hlt, hcell⟩
  · simp at hs1
  have HC := Lib.hid hcell
  clear hcell
  have HI := Lib.hid (matB_iff M)
  obtain ⟨n, hn⟩ : ∃ n, n = M.length := ⟨_, rfl⟩
  rw [← hn] at hs1 hs5 hm ⊢
  have HN := Lib.hid hn
  clear hn
  go_enter Try.func111, Try.ntmps111
  go_wp2_with fail
  go_loop [7, 18] (fun _ i => ∃ k : Nat, k ≤ n ∧ i = .int .i64 k ∧ Hid (∀ j, j < k → (M.getD j []).length = n ∧ wit 20 (M.getD j []) = true)) (fun _ i => n - (intOf i).toNat)
  case atStart => exact ⟨0, Nat.zero_le _, rfl, fun j hj => absurd hj (Nat.not_lt_zero _)⟩
  case round =>
    obtain ⟨k, hk, rfl, hrows⟩ := hrel
    by_cases hlt3 : k < n
    · obtain ⟨u, hu, hU⟩ := HC.out k (by rw [← HN.out]; exact hlt3)
      have hkM : k < M.length := by rw [← HN.out]; exact hlt3
      have gU := fun (w' : World) (h : Below w.heap.size w w') => hU.below h
      obtain ⟨ra, rc, rfl, hrl, hrm, _, _⟩ := hU
      have hrm' := maxLen_le (Nat.le_trans hrl hrm)
      clear hrl hrm
      by_cases hlen : (M.getD k []).length = n
      · by_cases hw : wit 20 (M.getD k []) = true
        · have hnext : Hid (∀ j, j < k + 1 → (M.getD j []).length = n ∧ wit 20 (M.getD j []) = true) := fun j hj => by
            by_cases e : j = k
            · subst e; exact ⟨hlen, hw⟩
            · exact hrows.out j (by omega)
          have HW := Lib.hid hw
          clear hw hrows hkM
          generalize M.getD k [] = r at *
          rw [hlen] at hu hrm' gU
          clear hlen
          go_wp2_with (go_at_call 112; refine (areWithin_any _ r _ _ (gU _ (by (repeat' (first | (with_reducible exact Below.refl _ _) | (with_reducible assumption) | (with_reducible refine Below.alloc ?_ ?_ _) | (with_reducible refine Below.drew ?_) | (with_reducible refine below_drewN ?_ _) | (with_reducible refine Below.setCell ?_ ?_ _) | (with_reducible refine Below.trans ?_ (Below.mono (by with_reducible assumption) ?_)) | (with_reducible exact Below.size (by with_reducible assumption)) | go_size)))) (by omega) (by omega)).mono ?_; rw [HW.out]; rintro e w' ⟨rfl, rfl⟩)
          go_round
          case rel => exact ⟨k + 1, by omega, by go_num, hnext⟩
          case measure => simp [intOf]; omega
        · have hw' : wit 20 (M.getD k []) = false := by simpa using hw
          have hno : Hid (matB M = false) := matB_no hkM (fun c => hw c.2)
          have HW := Lib.hid hw'
          clear hw hw' hrows hkM
          generalize M.getD k [] = r at *
          rw [hlen] at hu hrm' gU
          clear hlen
          go_wp2_with (go_at_call 112; refine (areWithin_any _ r _ _ (gU _ (by (repeat' (first | (with_reducible exact Below.refl _ _) | (with_reducible assumption) | (with_reducible refine Below.alloc ?_ ?_ _) | (with_reducible refine Below.drew ?_) | (with_reducible refine below_drewN ?_ _) | (with_reducible refine Below.setCell ?_ ?_ _) | (with_reducible refine Below.trans ?_ (Below.mono (by with_reducible assumption) ?_)) | (with_reducible exact Below.size (by with_reducible assumption)) | go_size)))) (by omega) (by omega)).mono ?_; rw [HW.out]; rintro e w' ⟨rfl, rfl⟩)
          go_ret
          exact ⟨by rw [hno.out]; rfl, rfl⟩
      · have hno : Hid (matB M = false) := matB_no hkM (fun c => hlen (by rw [c.1, HN.out]))
        clear gU hrows hkM
        generalize (M.getD k []).length = l at *
        have hne : ((l : Int) != (n : Int)) = true := by simp; omega
        clear hlen
        go_wp2
        go_ret
        exact ⟨by rw [hno.out]; rfl, rfl⟩
    · obtain rfl : k = n := by omega
      have hyes : Hid (matB M = true) := HI.out.2 ⟨⟨by rw [← HN.out]; exact hs1, by rw [← HN.out]; exact hs5⟩, by rw [← HN.out]; exact hrows.out⟩
      go_wp2
      go_ret
      exact ⟨by rw [hyes.out]; rfl, rfl⟩

theorem implIsProblem_any (m q : Value) (M : List (List Int)) (Q : List Int) (w : World) (h1 : PM.Rows w m M) (h2 : Ints w q Q) :
    Calls Try.prog 70 #[.agg #[m, q]] w fun e w' => e = .returned (.bool (isPB M Q)) ∧ Below w.heap.size w w' := by
  have g1 := fun (w' : World) (h : Below w.heap.size w w') => h1.below h
  have g2 := fun (w' : World) (h : Below w.heap.size w w') => h2.below h
  obtain ⟨a1, c1, rfl, hl1, hm1, _⟩ := h1
  obtain ⟨a2, c2, rfl, hl2, hm2, _⟩ := h2
  have hm := maxLen_le (Nat.le_trans hl2 hm2)
  have hm' := maxLen_le (Nat.le_trans hl1 hm1)
  clear hl1 hm1 hl2 hm2
  by_cases hM : matB M = true
  case neg =>
    have hM' : matB M = false := by simpa using hM
    rw [isPB_mat hM']
    have HM := Lib.hid hM'
    clear hM hM'
    go_enter Try.func70, Try.ntmps70
    go_wp2_with fail
    refine (isSquareWithin_any _ M _ (g1 _ (by (repeat' (first | (with_reducible exact Below.refl _ _) | (with_reducible assumption) | (with_reducible refine Below.alloc ?_ ?_ _) | (with_reducible refine Below.drew ?_) | (with_reducible refine below_drewN ?_ _) | (with_reducible refine Below.setCell ?_ ?_ _) | (with_reducible refine Below.trans ?_ (Below.mono (by with_reducible assumption) ?_)) | (with_reducible exact Below.size (by with_reducible assumption)) | go_size))))).mono ?_; rw [HM.out]; rintro e w1 ⟨rfl, rfl⟩
    go_wp2_with fail
    go_ret
    exact ⟨rfl, by (repeat' (first | (with_reducible exact Below.refl _ _) | (with_reducible assumption) | (with_reducible refine Below.alloc ?_ ?_ _) | (with_reducible refine Below.drew ?_) | (with_reducible refine below_drewN ?_ _) | (with_reducible refine Below.setCell ?_ ?_ _) | (with_reducible refine Below.trans ?_ (Below.mono (by with_reducible assumption) ?_)) | (with_reducible exact Below.size (by with_reducible assumption)) | go_size))⟩
  have HM := Lib.hid hM
  clear hM
  by_cases hl : Q.length = M.length
  case neg =>
    rw [isPB_no (fun c => hl c.2.1)]
    have hne : ((Q.length : Int) == (M.length : Int)) = false := by simp; omega
    clear hl
    go_enter Try.func70, Try.ntmps70
    go_wp2_with fail
    refine (isSquareWithin_any _ M _ (g1 _ (by (repeat' (first | (with_reducible exact Below.refl _ _) | (with_reducible assumption) | (with_reducible refine Below.alloc ?_ ?_ _) | (with_reducible refine Below.drew ?_) | (with_reducible refine below_drewN ?_ _) | (with_reducible refine Below.setCell ?_ ?_ _) | (with_reducible refine Below.trans ?_ (Below.mono (by with_reducible assumption) ?_)) | (with_reducible exact Below.size (by with_reducible assumption)) | go_size))))).mono ?_; rw [HM.out]; rintro e w1 ⟨rfl, rfl⟩
    go_wp2_with fail
    go_ret
    exact ⟨rfl, by (repeat' (first | (with_reducible exact Below.refl _ _) | (with_reducible assumption) | (with_reducible refine Below.alloc ?_ ?_ _) | (with_reducible refine Below.drew ?_) | (with_reducible refine below_drewN ?_ _) | (with_reducible refine Below.setCell ?_ ?_ _) | (with_reducible refine Below.trans ?_ (Below.mono (by with_reducible assumption) ?_)) | (with_reducible exact Below.size (by with_reducible assumption)) | go_size))⟩
  have hans : isPB M Q = wit 100 Q := by
    cases hQ : wit 100 Q
    · exact isPB_no (fun c => by rw [hQ] at c; exact absurd c.2.2 (by simp))
    · exact (isPB_iff M Q).2 ⟨HM.out, hl, hQ⟩
  rw [hans]
  have HL := Lib.hid hl
  clear hans hm'
  rw [← hl] at g1 ⊢
  clear hl
  go_enter Try.func70, Try.ntmps70
  go_wp2_with fail
  refine (isSquareWithin_any _ M _ (by rw [← HL.out] at *; exact g1 _ (by (repeat' (first | (with_reducible exact Below.refl _ _) | (with_reducible assumption) | (with_reducible refine Below.alloc ?_ ?_ _) | (with_reducible refine Below.drew ?_) | (with_reducible refine below_drewN ?_ _) | (with_reducible refine Below.setCell ?_ ?_ _) | (with_reducible refine Below.trans ?_ (Below.mono (by with_reducible assumption) ?_)) | (with_reducible exact Below.size (by with_reducible assumption)) | go_size))))).mono ?_; rw [HM.out]; rintro e w1 ⟨rfl, rfl⟩
  go_wp2_with fail
  refine (areWithin_any _ Q _ _ (g2 _ (by (repeat' (first | (with_reducible exact Below.refl _ _) | (with_reducible assumption) | (with_reducible refine Below.alloc ?_ ?_ _) | (with_reducible refine Below.drew ?_) | (with_reducible refine below_drewN ?_ _) | (with_reducible refine Below.setCell ?_ ?_ _) | (with_reducible refine Below.trans ?_ (Below.mono (by with_reducible assumption) ?_)) | (with_reducible exact Below.size (by with_reducible assumption)) | go_size)))) (by omega) (by omega)).mono ?_; rintro e w1 ⟨rfl, rfl⟩
  go_wp2_with fail
  go_ret
  exact ⟨rfl, by (repeat' (first | (with_reducible exact Below.refl _ _) | (with_reducible assumption) | (with_reducible refine Below.alloc ?_ ?_ _) | (with_reducible refine Below.drew ?_) | (with_reducible refine below_drewN ?_ _) | (with_reducible refine Below.setCell ?_ ?_ _) | (with_reducible refine Below.trans ?_ (Below.mono (by with_reducible assumption) ?_)) | (with_reducible exact Below.size (by with_reducible assumption)) | go_size))⟩
end Go.Proofs.Ytkdgnegnndedaaa.PW
