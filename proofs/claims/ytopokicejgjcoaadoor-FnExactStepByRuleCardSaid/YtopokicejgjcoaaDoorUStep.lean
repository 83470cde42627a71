/-
  The exact law of StepByRule: both sides' answers.
-/
import Derived.Test.YtopokicejgjcoaaDoorUCode
namespace Go.Proofs.YtopokicejgjcoaaDoor.PW
open Go.RowKit Go.Proofs.YtopokicejgjcoaaDoor
open Go.Proofs.YtopokicejgjcoaaDoor.PM Go.Proofs.YtopokicejgjcoaaDoor.PX

def stepOut (M : List (List Int)) (Q : List Int) (s r : Int) : Int × Int :=
  if ruleCode M Q s r ≠ 0 then (0, ruleCode M Q s r) else if dt M.length (colS M s) = 0 then (0, 5) else if nonneg (ptL M Q s) = true then (0, 4) else (stpS M Q r s, 0)
theorem stepOut_err {M : List (List Int)} {Q : List Int} {s r c : Int} (h : ruleCode M Q s r = c) (hc : c ≠ 0) : stepOut M Q s r = (0, c) := by unfold stepOut; rw [if_pos (by omega), h]
theorem stepOut_zero {M : List (List Int)} {Q : List Int} {s r : Int} (h : ruleCode M Q s r = 0) (hd : dt M.length (colS M s) = 0) : stepOut M Q s r = (0, 5) := by unfold stepOut; rw [if_neg (by omega), if_pos hd]
theorem stepOut_end {M : List (List Int)} {Q : List Int} {s r : Int} (h : ruleCode M Q s r = 0) (hd : dt M.length (colS M s) ≠ 0) (hn : nonneg (ptL M Q s) = true) : stepOut M Q s r = (0, 4) := by unfold stepOut; rw [if_neg (by omega), if_neg hd, if_pos hn]
theorem stepOut_ok {M : List (List Int)} {Q : List Int} {s r : Int} (h : ruleCode M Q s r = 0) (hd : dt M.length (colS M s) ≠ 0) (hn : nonneg (ptL M Q s) = false) : stepOut M Q s r = (stpS M Q r s, 0) := by unfold stepOut; rw [if_neg (by omega), if_neg hd, if_neg (by rw [hn]; exact Bool.noConfusion)]

theorem ptL_isF {M : List (List Int)} {Q : List Int} {s : Int} (hp : isPB M Q = true) (hD : dt M.length (colS M s) ≠ 0) (j : Nat) (hj : j < M.length) : FM.isF ((ptL M Q s).getD j (0, 0)).1 ((ptL M Q s).getD j (0, 0)).2 = true := by
  have e : (ptL M Q s).getD j (0, 0) = ptF M Q s j := by unfold ptL; simp [hj]
  rw [e]
  exact pt_isF hp hD j
/-- The program's point of a basic set, and of another one. -/
theorem implPoint_at (m q : Value) (M : List (List Int)) (Q : List Int) (s : Int) (w : World) (h1 : PM.Rows w m M) (h2 : Ints w q Q) (h : setCode M Q s = 0) (hp : isPB M Q = true) (hD : dt M.length (colS M s) ≠ 0) :
    Calls Tryd.prog 80 #[.agg #[m, q], .int .i64 s] w fun e w' => ∃ g c, e = .returned (.tuple #[.slice (some ⟨g, 0, none⟩) M.length c, .int .i64 0]) ∧ g < w'.heap.size ∧ OwnF w' (.slice (some ⟨g, 0, none⟩) M.length c) (ptL M Q s) ∧ Below w.heap.size w w' := by
  have f1 := (isPB_facts hp).1
  have hl := ptL_length M Q s
  refine (implPointOf_any m q M Q s w h1 h2).mono ?_
  rw [ptOut_ok h hD]
  rintro e w1 ho
  obtain ⟨a3, c3, rfl, hr, hb1⟩ := ho.out
  dsimp only at hr ⊢
  have hown := hr.own
  rw [hl] at hown ⊢
  obtain ⟨g, hg, hgl⟩ : ∃ g, a3 = some ⟨g, 0, none⟩ ∧ g < w1.heap.size := by
    rcases hown.cases with ⟨hv, hn⟩ | ⟨g, cap, hv, hlt⟩
    · rw [hn] at hl; simp at hl; omega
    · simp at hv; exact ⟨g, hv.1, hlt⟩
  subst hg
  exact ⟨g, c3, rfl, hgl, hown, hb1⟩
theorem implPoint_zero (m q : Value) (M : List (List Int)) (Q : List Int) (s : Int) (w : World) (h1 : PM.Rows w m M) (h2 : Ints w q Q) (h : setCode M Q s = 0) (hD : dt M.length (colS M s) = 0) :
    Calls Tryd.prog 80 #[.agg #[m, q], .int .i64 s] w fun e w' => ∃ a c, e = .returned (.tuple #[.slice a 0 c, .int .i64 5]) ∧ Below w.heap.size w w' := by
  refine (implPointOf_any m q M Q s w h1 h2).mono ?_
  rw [ptOut_zero h hD]
  rintro e w1 ho
  obtain ⟨a3, c3, rfl, hr, hb1⟩ := ho.out
  exact ⟨a3, c3, rfl, hb1⟩

set_option maxHeartbeats 1000000 in
theorem implStepByRule_any (m q : Value) (M : List (List Int)) (Q : List Int) (s r : Int) (w : World) (hT : Tab8 w) (h1 : PM.Rows w m M) (h2 : Ints w q Q) :
    Calls Tryd.prog 29 #[.agg #[m, q], .int .i64 s, .int .i64 r] w (OutN w (stepOut M Q s r)) := by
  have g1 := fun (w' : World) (h : Below w.heap.size w w') => h1.below h
  have g2 := fun (w' : World) (h : Below w.heap.size w w') => h2.below h
  have gt := fun (w' : World) (h : Below w.heap.size w w') => hT.below h
  clear hT
  obtain ⟨a1, c1, rfl, _⟩ := h1
  obtain ⟨a2, c2, rfl, _⟩ := h2
  rcases ruleCode_cases M Q s r with h | h | ⟨h, hs, hp, hs0, hs1, hr0, hr1⟩
  case' inr.inr =>
    have HC := Lib.hid h
    have f1 := (isPB_facts hp).1
    have f2 := (isPB_facts hp).2.1
    by_cases hD : dt M.length (colS M s) = 0
    · rw [stepOut_zero h hD]
      have HPZ := Lib.hid (fun (w' : World) (hb : Below w.heap.size w w') => implPoint_zero _ _ M Q s w' (g1 _ hb) (g2 _ hb) hs hD)
      clear h hp hs0 hs1 hs hD
      go_enter Tryd.func29, Tryd.ntmps29
      go_wp2_with fail
      refine (checkRule_any _ _ M Q s r _ (g1 _ (by (repeat' (first | (with_reducible exact Below.refl _ _) | (with_reducible assumption) | (with_reducible refine Below.alloc ?_ ?_ _) | (with_reducible refine Below.drew ?_) | (with_reducible refine below_drewN ?_ _) | (with_reducible refine Below.setCell ?_ ?_ _) | (with_reducible refine Below.trans ?_ (Below.mono (by with_reducible assumption) ?_)) | (with_reducible exact Below.size (by with_reducible assumption)) | go_size)))) (g2 _ (by (repeat' (first | (with_reducible exact Below.refl _ _) | (with_reducible assumption) | (with_reducible refine Below.alloc ?_ ?_ _) | (with_reducible refine Below.drew ?_) | (with_reducible refine below_drewN ?_ _) | (with_reducible refine Below.setCell ?_ ?_ _) | (with_reducible refine Below.trans ?_ (Below.mono (by with_reducible assumption) ?_)) | (with_reducible exact Below.size (by with_reducible assumption)) | go_size))))).mono ?_; rw [HC.out]; rintro e w1 ⟨rfl, hb1⟩; obtain ⟨hc_hb1, hf_hb1⟩ := bcell hb1; obtain ⟨hcA_hb1, hfA_hb1⟩ := bcellG (W0 := w) hb1 (by (repeat' (first | (with_reducible exact Below.refl _ _) | (with_reducible assumption) | (with_reducible refine Below.alloc ?_ ?_ _) | (with_reducible refine Below.drew ?_) | (with_reducible refine below_drewN ?_ _) | (with_reducible refine Below.setCell ?_ ?_ _) | (with_reducible refine Below.trans ?_ (Below.mono (by with_reducible assumption) ?_)) | (with_reducible exact Below.size (by with_reducible assumption)) | go_size))); have hz_hb1 := hb1.size; (try simp at hz_hb1); (try simp only [Nat.add_one_le_iff] at hz_hb1); have hz0_hb1 : w.heap.size < w1.heap.size := (by omega)
      have hw1 : Below w.heap.size w w1 := by (repeat' (first | (with_reducible exact Below.refl _ _) | (with_reducible assumption) | (with_reducible refine Below.alloc ?_ ?_ _) | (with_reducible refine Below.drew ?_) | (with_reducible refine below_drewN ?_ _) | (with_reducible refine Below.setCell ?_ ?_ _) | (with_reducible refine Below.trans ?_ (Below.mono (by with_reducible assumption) ?_)) | (with_reducible exact Below.size (by with_reducible assumption)) | go_size))
      go_wp2_with fail
      refine (HPZ.out _ hw1).mono ?_; rintro e w2 ⟨a3, c3, rfl, hb2⟩
      go_wp2_with fail
      go_ret2
      exact ⟨rfl, hw1.trans (hb2.mono hw1.size)⟩
    have HPK := Lib.hid (fun (w' : World) (hb : Below w.heap.size w w') => implPoint_at _ _ M Q s w' (g1 _ hb) (g2 _ hb) hs hp hD)
    have HLL := Lib.hid (ptL_length M Q s)
    have HLE : Hid ((ptL M Q s).length ≤ 1048576) := Lib.hid (by rw [HLL.out]; omega)
    cases hn : nonneg (ptL M Q s)
    case' true =>
      rw [stepOut_end h hD hn]
      have HN := Lib.hid hn
      clear h hp hs0 hs1 hs hD hn
      go_enter Tryd.func29, Tryd.ntmps29
      go_wp2_with fail
      refine (checkRule_any _ _ M Q s r _ (g1 _ (by (repeat' (first | (with_reducible exact Below.refl _ _) | (with_reducible assumption) | (with_reducible refine Below.alloc ?_ ?_ _) | (with_reducible refine Below.drew ?_) | (with_reducible refine below_drewN ?_ _) | (with_reducible refine Below.setCell ?_ ?_ _) | (with_reducible refine Below.trans ?_ (Below.mono (by with_reducible assumption) ?_)) | (with_reducible exact Below.size (by with_reducible assumption)) | go_size)))) (g2 _ (by (repeat' (first | (with_reducible exact Below.refl _ _) | (with_reducible assumption) | (with_reducible refine Below.alloc ?_ ?_ _) | (with_reducible refine Below.drew ?_) | (with_reducible refine below_drewN ?_ _) | (with_reducible refine Below.setCell ?_ ?_ _) | (with_reducible refine Below.trans ?_ (Below.mono (by with_reducible assumption) ?_)) | (with_reducible exact Below.size (by with_reducible assumption)) | go_size))))).mono ?_; rw [HC.out]; rintro e w1 ⟨rfl, hb1⟩; obtain ⟨hc_hb1, hf_hb1⟩ := bcell hb1; obtain ⟨hcA_hb1, hfA_hb1⟩ := bcellG (W0 := w) hb1 (by (repeat' (first | (with_reducible exact Below.refl _ _) | (with_reducible assumption) | (with_reducible refine Below.alloc ?_ ?_ _) | (with_reducible refine Below.drew ?_) | (with_reducible refine below_drewN ?_ _) | (with_reducible refine Below.setCell ?_ ?_ _) | (with_reducible refine Below.trans ?_ (Below.mono (by with_reducible assumption) ?_)) | (with_reducible exact Below.size (by with_reducible assumption)) | go_size))); have hz_hb1 := hb1.size; (try simp at hz_hb1); (try simp only [Nat.add_one_le_iff] at hz_hb1); have hz0_hb1 : w.heap.size < w1.heap.size := (by omega)
      have hw1 : Below w.heap.size w w1 := by (repeat' (first | (with_reducible exact Below.refl _ _) | (with_reducible assumption) | (with_reducible refine Below.alloc ?_ ?_ _) | (with_reducible refine Below.drew ?_) | (with_reducible refine below_drewN ?_ _) | (with_reducible refine Below.setCell ?_ ?_ _) | (with_reducible refine Below.trans ?_ (Below.mono (by with_reducible assumption) ?_)) | (with_reducible exact Below.size (by with_reducible assumption)) | go_size))
      go_wp2_with fail
      refine (HPK.out _ hw1).mono ?_; rintro e w2 ⟨g, c, rfl, hgl, ho, hb2⟩
      have HO := Lib.hid ho
      clear ho
      go_wp2_with fail
      refine (areNonnegative_any _ _ _ HO.out HLE.out).mono ?_; rw [HN.out]; rintro e w3 ⟨rfl, hb3⟩
      go_wp2_with fail
      go_ret2
      exact ⟨rfl, hw1.trans ((hb2.trans (hb3.mono hb2.size)).mono hw1.size)⟩
    case' false =>
      rw [stepOut_ok h hD hn]
      have HN := Lib.hid hn
      have hneg : negM (ptL M Q s) M.length ≠ 0 := fun e => by rw [negM_nonneg.1 e] at hn; cases hn
      have HR := Lib.hid (fun (g c : Nat) (w' : World) (hT : Tab8 w') (hv : OwnF w' (.slice (some ⟨g, 0, none⟩) M.length c) (ptL M Q s)) (hg : g < w'.heap.size) => rule_any r g c M.length (ptL M Q s) w' hT hv HLL.out.symm hg f1 f2 (fun j hj => ptL_isF hp hD j hj) hneg)
      obtain ⟨X, hX⟩ : ∃ X : Nat, X = exM r (ptL M Q s) M.length := ⟨_, rfl⟩
      have HST := Lib.hid (show stpS M Q r s = bits BinOp.xor IntKind.i64 s X by unfold stpS; rw [hX])
      rw [HST.out]
      rw [← hX] at HR
      clear h hp hs0 hs1 hs hD hn hneg hX HST
      obtain rfl | rfl | rfl | rfl : r = 0 ∨ r = 1 ∨ r = 2 ∨ r = 3 := by omega
      all_goals
        go_enter Tryd.func29, Tryd.ntmps29
        go_wp2_with fail
        refine (checkRule_any _ _ M Q s _ _ (g1 _ (by (repeat' (first | (with_reducible exact Below.refl _ _) | (with_reducible assumption) | (with_reducible refine Below.alloc ?_ ?_ _) | (with_reducible refine Below.drew ?_) | (with_reducible refine below_drewN ?_ _) | (with_reducible refine Below.setCell ?_ ?_ _) | (with_reducible refine Below.trans ?_ (Below.mono (by with_reducible assumption) ?_)) | (with_reducible exact Below.size (by with_reducible assumption)) | go_size)))) (g2 _ (by (repeat' (first | (with_reducible exact Below.refl _ _) | (with_reducible assumption) | (with_reducible refine Below.alloc ?_ ?_ _) | (with_reducible refine Below.drew ?_) | (with_reducible refine below_drewN ?_ _) | (with_reducible refine Below.setCell ?_ ?_ _) | (with_reducible refine Below.trans ?_ (Below.mono (by with_reducible assumption) ?_)) | (with_reducible exact Below.size (by with_reducible assumption)) | go_size))))).mono ?_; rw [HC.out]; rintro e w1 ⟨rfl, hb1⟩; obtain ⟨hc_hb1, hf_hb1⟩ := bcell hb1; obtain ⟨hcA_hb1, hfA_hb1⟩ := bcellG (W0 := w) hb1 (by (repeat' (first | (with_reducible exact Below.refl _ _) | (with_reducible assumption) | (with_reducible refine Below.alloc ?_ ?_ _) | (with_reducible refine Below.drew ?_) | (with_reducible refine below_drewN ?_ _) | (with_reducible refine Below.setCell ?_ ?_ _) | (with_reducible refine Below.trans ?_ (Below.mono (by with_reducible assumption) ?_)) | (with_reducible exact Below.size (by with_reducible assumption)) | go_size))); have hz_hb1 := hb1.size; (try simp at hz_hb1); (try simp only [Nat.add_one_le_iff] at hz_hb1); have hz0_hb1 : w.heap.size < w1.heap.size := (by omega)
        have hw1 : Below w.heap.size w w1 := by (repeat' (first | (with_reducible exact Below.refl _ _) | (with_reducible assumption) | (with_reducible refine Below.alloc ?_ ?_ _) | (with_reducible refine Below.drew ?_) | (with_reducible refine below_drewN ?_ _) | (with_reducible refine Below.setCell ?_ ?_ _) | (with_reducible refine Below.trans ?_ (Below.mono (by with_reducible assumption) ?_)) | (with_reducible exact Below.size (by with_reducible assumption)) | go_size))
        go_wp2_with fail
        refine (HPK.out _ hw1).mono ?_; rintro e w2 ⟨g, c, rfl, hgl, ho, hb2⟩
        have HO := Lib.hid ho
        clear ho
        go_wp2_with fail
        refine (areNonnegative_any _ _ _ HO.out HLE.out).mono ?_; rw [HN.out]; rintro e w3 ⟨rfl, hb3⟩
        go_wp2_with fail
        refine (stepRules_any _).mono ?_; rintro e w4 ⟨rfl, hf4, hb4⟩
        have hw4 : Below w.heap.size w w4 := hw1.trans ((hb2.trans ((hb3.trans (hb4.mono hb3.size)).mono hb2.size)).mono hw1.size)
        have hb24 : Below w2.heap.size w2 w4 := hb3.trans (hb4.mono hb3.size)
        have k0 := hf4 0 (by decide)
        have k1 := hf4 1 (by decide)
        have k2 := hf4 2 (by decide)
        have k3 := hf4 3 (by decide)
        have HR4 := Lib.hid (HR.out g c w4 (gt _ hw4) (HO.out.below hb24 hgl) (Nat.lt_of_lt_of_le hgl hb24.size))
        simp only [ruleF] at k0 k1 k2 k3
        simp at k0 k1 k2 k3
        clear hf4 hb3 hb4 HO
        go_wp2_with fail
        refine HR4.out.mono ?_; rintro e w5 ⟨rfl, hb5⟩
        go_wp2_with fail
        go_ret2
        exact ⟨rfl, hw4.trans (hb5.mono hw4.size)⟩
  all_goals
    rw [stepOut_err h (by decide)]
    have HC := Lib.hid h
    clear h
    go_enter Tryd.func29, Tryd.ntmps29
    go_wp2_with fail
    refine (checkRule_any _ _ M Q s r _ (g1 _ (by (repeat' (first | (with_reducible exact Below.refl _ _) | (with_reducible assumption) | (with_reducible refine Below.alloc ?_ ?_ _) | (with_reducible refine Below.drew ?_) | (with_reducible refine below_drewN ?_ _) | (with_reducible refine Below.setCell ?_ ?_ _) | (with_reducible refine Below.trans ?_ (Below.mono (by with_reducible assumption) ?_)) | (with_reducible exact Below.size (by with_reducible assumption)) | go_size)))) (g2 _ (by (repeat' (first | (with_reducible exact Below.refl _ _) | (with_reducible assumption) | (with_reducible refine Below.alloc ?_ ?_ _) | (with_reducible refine Below.drew ?_) | (with_reducible refine below_drewN ?_ _) | (with_reducible refine Below.setCell ?_ ?_ _) | (with_reducible refine Below.trans ?_ (Below.mono (by with_reducible assumption) ?_)) | (with_reducible exact Below.size (by with_reducible assumption)) | go_size))))).mono ?_; rw [HC.out]; rintro e w1 ⟨rfl, hb1⟩; obtain ⟨hc_hb1, hf_hb1⟩ := bcell hb1; obtain ⟨hcA_hb1, hfA_hb1⟩ := bcellG (W0 := w) hb1 (by (repeat' (first | (with_reducible exact Below.refl _ _) | (with_reducible assumption) | (with_reducible refine Below.alloc ?_ ?_ _) | (with_reducible refine Below.drew ?_) | (with_reducible refine below_drewN ?_ _) | (with_reducible refine Below.setCell ?_ ?_ _) | (with_reducible refine Below.trans ?_ (Below.mono (by with_reducible assumption) ?_)) | (with_reducible exact Below.size (by with_reducible assumption)) | go_size))); have hz_hb1 := hb1.size; (try simp at hz_hb1); (try simp only [Nat.add_one_le_iff] at hz_hb1); have hz0_hb1 : w.heap.size < w1.heap.size := (by omega)
    go_wp2_with fail
    go_ret2
    exact ⟨rfl, by (repeat' (first | (with_reducible exact Below.refl _ _) | (with_reducible assumption) | (with_reducible refine Below.alloc ?_ ?_ _) | (with_reducible refine Below.drew ?_) | (with_reducible refine below_drewN ?_ _) | (with_reducible refine Below.setCell ?_ ?_ _) | (with_reducible refine Below.trans ?_ (Below.mono (by with_reducible assumption) ?_)) | (with_reducible exact Below.size (by with_reducible assumption)) | go_size))⟩
end Go.Proofs.YtopokicejgjcoaaDoor.PW
