/-
  Walks: the code of a problem, a set and a rule, in the program and in the model; the rules of the program.
-/
import Derived.Test.YtopokicejgjcoaaDoorUCmp
namespace Go.Proofs.YtopokicejgjcoaaDoor.PW
open Go.RowKit Go.Proofs.YtopokicejgjcoaaDoor
open Go.Proofs.YtopokicejgjcoaaDoor.PM Go.Proofs.YtopokicejgjcoaaDoor.PX

theorem ruleCode_set {M : List (List Int)} {Q : List Int} {s r c : Int} (h : setCode M Q s = c) (hc : c ≠ 0) : ruleCode M Q s r = c := by unfold ruleCode; rw [if_pos (by omega), h]
theorem ruleCode_bad {M : List (List Int)} {Q : List Int} {s r : Int} (h : setCode M Q s = 0) (hr : r < 0 ∨ 3 < r) : ruleCode M Q s r = 2 := by unfold ruleCode; rw [if_neg (by omega), if_pos hr]
theorem ruleCode_ok {M : List (List Int)} {Q : List Int} {s r : Int} (h : setCode M Q s = 0) (hr : ¬ (r < 0 ∨ 3 < r)) : ruleCode M Q s r = 0 := by unfold ruleCode; rw [if_neg (by omega), if_neg hr]
theorem ruleCode_cases (M : List (List Int)) (Q : List Int) (s r : Int) : ruleCode M Q s r = 1 ∨ ruleCode M Q s r = 2 ∨ (ruleCode M Q s r = 0 ∧ setCode M Q s = 0 ∧ isPB M Q = true ∧ 0 ≤ s ∧ s < 2 ^ M.length ∧ 0 ≤ r ∧ r ≤ 3) := by
  rcases setCode_cases M Q s with h | h | ⟨h, hp, h0, h1⟩
  · exact .inl (ruleCode_set h (by decide))
  · exact .inr (.inl (ruleCode_set h (by decide)))
  · by_cases hr : r < 0 ∨ 3 < r
    · exact .inr (.inl (ruleCode_bad h hr))
    · exact .inr (.inr ⟨ruleCode_ok h hr, h, hp, h0, h1, by omega, by omega⟩)

theorem l08Code_any (m q : Value) (M : List (List Int)) (Q : List Int) (s r : Int) (w : World) (h1 : PM.Rows w m M) (h2 : Ints w q Q) :
    Calls Tryd.prog 77 #[.agg #[m, q], .int .i64 s, .int .i64 r] w fun e w' => e = .returned (.int .i64 (ruleCode M Q s r)) ∧ Below w.heap.size w w' := by
  have g1 := fun (w' : World) (h : Below w.heap.size w w') => h1.below h
  have g2 := fun (w' : World) (h : Below w.heap.size w w') => h2.below h
  obtain ⟨a1, c1, rfl, _⟩ := h1
  obtain ⟨a2, c2, rfl, _⟩ := h2
  cases hp : isPB M Q
  · have HP := Lib.hid hp
    rw [ruleCode_set (setCode_err1 (s := s) hp) (by decide)]
    clear hp
    go_enter Tryd.func77, Tryd.ntmps77
    go_wp2_with fail
    refine (l01Is_any _ _ M Q _ (g1 _ (by (repeat' (first | (with_reducible exact Below.refl _ _) | (with_reducible assumption) | (with_reducible refine Below.alloc ?_ ?_ _) | (with_reducible refine Below.drew ?_) | (with_reducible refine below_drewN ?_ _) | (with_reducible refine Below.setCell ?_ ?_ _) | (with_reducible refine Below.trans ?_ (Below.mono (by with_reducible assumption) ?_)) | (with_reducible exact Below.size (by with_reducible assumption)) | go_size)))) (g2 _ (by (repeat' (first | (with_reducible exact Below.refl _ _) | (with_reducible assumption) | (with_reducible refine Below.alloc ?_ ?_ _) | (with_reducible refine Below.drew ?_) | (with_reducible refine below_drewN ?_ _) | (with_reducible refine Below.setCell ?_ ?_ _) | (with_reducible refine Below.trans ?_ (Below.mono (by with_reducible assumption) ?_)) | (with_reducible exact Below.size (by with_reducible assumption)) | go_size))))).mono ?_; rw [HP.out]; rintro e w1 ⟨rfl, hb1⟩; obtain ⟨hc_hb1, hf_hb1⟩ := bcell hb1; obtain ⟨hcA_hb1, hfA_hb1⟩ := bcellG (W0 := w) hb1 (by (repeat' (first | (with_reducible exact Below.refl _ _) | (with_reducible assumption) | (with_reducible refine Below.alloc ?_ ?_ _) | (with_reducible refine Below.drew ?_) | (with_reducible refine below_drewN ?_ _) | (with_reducible refine Below.setCell ?_ ?_ _) | (with_reducible refine Below.trans ?_ (Below.mono (by with_reducible assumption) ?_)) | (with_reducible exact Below.size (by with_reducible assumption)) | go_size))); have hz_hb1 := hb1.size; (try simp at hz_hb1); (try simp only [Nat.add_one_le_iff] at hz_hb1); have hz0_hb1 : w.heap.size < w1.heap.size := (by omega)
    go_wp2_with fail
    go_ret
    exact ⟨rfl, by (repeat' (first | (with_reducible exact Below.refl _ _) | (with_reducible assumption) | (with_reducible refine Below.alloc ?_ ?_ _) | (with_reducible refine Below.drew ?_) | (with_reducible refine below_drewN ?_ _) | (with_reducible refine Below.setCell ?_ ?_ _) | (with_reducible refine Below.trans ?_ (Below.mono (by with_reducible assumption) ?_)) | (with_reducible exact Below.size (by with_reducible assumption)) | go_size))⟩
  obtain ⟨f1, f2, f3, _, _⟩ := isPB_facts hp
  have HP := Lib.hid hp
  have hwr : wrap64 (wrap64 ((2 : Int) ^ M.length) - 1) = 2 ^ M.length - 1 := by
    have := pow_le_32 f2
    have h0 := Nat.two_pow_pos M.length
    have e : (((2 : Nat) ^ M.length : Nat) : Int) = 2 ^ M.length := by norm_cast
    rw [← e]
    unfold wrap64
    omega
  by_cases hs : 0 ≤ s ∧ s < (2 : Int) ^ M.length
  case neg =>
    rw [ruleCode_set (setCode_err2 hp (show s < 0 ∨ (2 : Int) ^ M.length ≤ s by omega)) (by decide)]
    have HI := Lib.hid (show decide (0 ≤ s ∧ s ≤ (2 : Int) ^ M.length - 1) = false from decide_eq_false (by omega))
    rw [f3] at g2 ⊢
    clear hp hs f1 f3
    generalize M.length = n at *
    go_enter Tryd.func77, Tryd.ntmps77
    go_wp2_with fail
    refine (l01Is_any _ _ M Q _ (g1 _ (by (repeat' (first | (with_reducible exact Below.refl _ _) | (with_reducible assumption) | (with_reducible refine Below.alloc ?_ ?_ _) | (with_reducible refine Below.drew ?_) | (with_reducible refine below_drewN ?_ _) | (with_reducible refine Below.setCell ?_ ?_ _) | (with_reducible refine Below.trans ?_ (Below.mono (by with_reducible assumption) ?_)) | (with_reducible exact Below.size (by with_reducible assumption)) | go_size)))) (g2 _ (by (repeat' (first | (with_reducible exact Below.refl _ _) | (with_reducible assumption) | (with_reducible refine Below.alloc ?_ ?_ _) | (with_reducible refine Below.drew ?_) | (with_reducible refine below_drewN ?_ _) | (with_reducible refine Below.setCell ?_ ?_ _) | (with_reducible refine Below.trans ?_ (Below.mono (by with_reducible assumption) ?_)) | (with_reducible exact Below.size (by with_reducible assumption)) | go_size))))).mono ?_; rw [HP.out]; rintro e w1 ⟨rfl, hb1⟩; obtain ⟨hc_hb1, hf_hb1⟩ := bcell hb1; obtain ⟨hcA_hb1, hfA_hb1⟩ := bcellG (W0 := w) hb1 (by (repeat' (first | (with_reducible exact Below.refl _ _) | (with_reducible assumption) | (with_reducible refine Below.alloc ?_ ?_ _) | (with_reducible refine Below.drew ?_) | (with_reducible refine below_drewN ?_ _) | (with_reducible refine Below.setCell ?_ ?_ _) | (with_reducible refine Below.trans ?_ (Below.mono (by with_reducible assumption) ?_)) | (with_reducible exact Below.size (by with_reducible assumption)) | go_size))); have hz_hb1 := hb1.size; (try simp at hz_hb1); (try simp only [Nat.add_one_le_iff] at hz_hb1); have hz0_hb1 : w.heap.size < w1.heap.size := (by omega)
    go_wp2_with fail
    refine (l01In_is s 0 _ false _ HI.out).mono ?_; rintro e w2 ⟨rfl, rfl⟩
    go_wp2_with fail
    go_ret
    exact ⟨rfl, by (repeat' (first | (with_reducible exact Below.refl _ _) | (with_reducible assumption) | (with_reducible refine Below.alloc ?_ ?_ _) | (with_reducible refine Below.drew ?_) | (with_reducible refine below_drewN ?_ _) | (with_reducible refine Below.setCell ?_ ?_ _) | (with_reducible refine Below.trans ?_ (Below.mono (by with_reducible assumption) ?_)) | (with_reducible exact Below.size (by with_reducible assumption)) | go_size))⟩
  have hc : setCode M Q s = 0 := setCode_ok hp (by omega)
  have HI := Lib.hid (show decide (0 ≤ s ∧ s ≤ (2 : Int) ^ M.length - 1) = true from decide_eq_true (by omega))
  by_cases hr : r < 0 ∨ 3 < r
  · rw [ruleCode_bad hc hr]
    have HR := Lib.hid (show decide (0 ≤ r ∧ r ≤ 3) = false from decide_eq_false (by omega))
    rw [f3] at g2 ⊢
    clear hp hs f1 f3 hc hr
    generalize M.length = n at *
    go_enter Tryd.func77, Tryd.ntmps77
    go_wp2_with fail
    refine (l01Is_any _ _ M Q _ (g1 _ (by (repeat' (first | (with_reducible exact Below.refl _ _) | (with_reducible assumption) | (with_reducible refine Below.alloc ?_ ?_ _) | (with_reducible refine Below.drew ?_) | (with_reducible refine below_drewN ?_ _) | (with_reducible refine Below.setCell ?_ ?_ _) | (with_reducible refine Below.trans ?_ (Below.mono (by with_reducible assumption) ?_)) | (with_reducible exact Below.size (by with_reducible assumption)) | go_size)))) (g2 _ (by (repeat' (first | (with_reducible exact Below.refl _ _) | (with_reducible assumption) | (with_reducible refine Below.alloc ?_ ?_ _) | (with_reducible refine Below.drew ?_) | (with_reducible refine below_drewN ?_ _) | (with_reducible refine Below.setCell ?_ ?_ _) | (with_reducible refine Below.trans ?_ (Below.mono (by with_reducible assumption) ?_)) | (with_reducible exact Below.size (by with_reducible assumption)) | go_size))))).mono ?_; rw [HP.out]; rintro e w1 ⟨rfl, hb1⟩; obtain ⟨hc_hb1, hf_hb1⟩ := bcell hb1; obtain ⟨hcA_hb1, hfA_hb1⟩ := bcellG (W0 := w) hb1 (by (repeat' (first | (with_reducible exact Below.refl _ _) | (with_reducible assumption) | (with_reducible refine Below.alloc ?_ ?_ _) | (with_reducible refine Below.drew ?_) | (with_reducible refine below_drewN ?_ _) | (with_reducible refine Below.setCell ?_ ?_ _) | (with_reducible refine Below.trans ?_ (Below.mono (by with_reducible assumption) ?_)) | (with_reducible exact Below.size (by with_reducible assumption)) | go_size))); have hz_hb1 := hb1.size; (try simp at hz_hb1); (try simp only [Nat.add_one_le_iff] at hz_hb1); have hz0_hb1 : w.heap.size < w1.heap.size := (by omega)
    go_wp2_with fail
    refine (l01In_is s 0 _ true _ HI.out).mono ?_; rintro e w2 ⟨rfl, rfl⟩
    go_wp2_with fail
    refine (l01In_is r 0 3 false _ HR.out).mono ?_; rintro e w2 ⟨rfl, rfl⟩
    go_wp2_with fail
    go_ret
    exact ⟨rfl, by (repeat' (first | (with_reducible exact Below.refl _ _) | (with_reducible assumption) | (with_reducible refine Below.alloc ?_ ?_ _) | (with_reducible refine Below.drew ?_) | (with_reducible refine below_drewN ?_ _) | (with_reducible refine Below.setCell ?_ ?_ _) | (with_reducible refine Below.trans ?_ (Below.mono (by with_reducible assumption) ?_)) | (with_reducible exact Below.size (by with_reducible assumption)) | go_size))⟩
  · rw [ruleCode_ok hc hr]
    have HR := Lib.hid (show decide (0 ≤ r ∧ r ≤ 3) = true from decide_eq_true (by omega))
    rw [f3] at g2 ⊢
    clear hp hs f1 f3 hc hr
    generalize M.length = n at *
    go_enter Tryd.func77, Tryd.ntmps77
    go_wp2_with fail
    refine (l01Is_any _ _ M Q _ (g1 _ (by (repeat' (first | (with_reducible exact Below.refl _ _) | (with_reducible assumption) | (with_reducible refine Below.alloc ?_ ?_ _) | (with_reducible refine Below.drew ?_) | (with_reducible refine below_drewN ?_ _) | (with_reducible refine Below.setCell ?_ ?_ _) | (with_reducible refine Below.trans ?_ (Below.mono (by with_reducible assumption) ?_)) | (with_reducible exact Below.size (by with_reducible assumption)) | go_size)))) (g2 _ (by (repeat' (first | (with_reducible exact Below.refl _ _) | (with_reducible assumption) | (with_reducible refine Below.alloc ?_ ?_ _) | (with_reducible refine Below.drew ?_) | (with_reducible refine below_drewN ?_ _) | (with_reducible refine Below.setCell ?_ ?_ _) | (with_reducible refine Below.trans ?_ (Below.mono (by with_reducible assumption) ?_)) | (with_reducible exact Below.size (by with_reducible assumption)) | go_size))))).mono ?_; rw [HP.out]; rintro e w1 ⟨rfl, hb1⟩; obtain ⟨hc_hb1, hf_hb1⟩ := bcell hb1; obtain ⟨hcA_hb1, hfA_hb1⟩ := bcellG (W0 := w) hb1 (by (repeat' (first | (with_reducible exact Below.refl _ _) | (with_reducible assumption) | (with_reducible refine Below.alloc ?_ ?_ _) | (with_reducible refine Below.drew ?_) | (with_reducible refine below_drewN ?_ _) | (with_reducible refine Below.setCell ?_ ?_ _) | (with_reducible refine Below.trans ?_ (Below.mono (by with_reducible assumption) ?_)) | (with_reducible exact Below.size (by with_reducible assumption)) | go_size))); have hz_hb1 := hb1.size; (try simp at hz_hb1); (try simp only [Nat.add_one_le_iff] at hz_hb1); have hz0_hb1 : w.heap.size < w1.heap.size := (by omega)
    go_wp2_with fail
    refine (l01In_is s 0 _ true _ HI.out).mono ?_; rintro e w2 ⟨rfl, rfl⟩
    go_wp2_with fail
    refine (l01In_is r 0 3 true _ HR.out).mono ?_; rintro e w2 ⟨rfl, rfl⟩
    go_wp2_with fail
    go_ret
    exact ⟨rfl, by (repeat' (first | (with_reducible exact Below.refl _ _) | (with_reducible assumption) | (with_reducible refine Below.alloc ?_ ?_ _) | (with_reducible refine Below.drew ?_) | (with_reducible refine below_drewN ?_ _) | (with_reducible refine Below.setCell ?_ ?_ _) | (with_reducible refine Below.trans ?_ (Below.mono (by with_reducible assumption) ?_)) | (with_reducible exact Below.size (by with_reducible assumption)) | go_size))⟩

/-- The rules of the program, as a function's number. -/
def ruleF (r : Int) : FuncId := if r = 0 then 114 else if r = 1 then 115 else if r = 2 then 116 else 117
theorem stepRules_any (w : World) : Calls Tryd.prog 82 #[] w fun e w' => e = .returned (.slice (some ⟨w.heap.size, 0, none⟩) 4 4) ∧ (∀ r : Nat, r < 4 → w'.cell? ⟨w.heap.size, r, none⟩ = some (.func (.func (ruleF r)) #[] #[])) ∧ Below w.heap.size w w' := by
  go_enter Tryd.func82, Tryd.ntmps82
  go_wp2
  go_ret
  refine ⟨rfl, ?_, ?_⟩
  · intro r hr
    obtain rfl | rfl | rfl | rfl : r = 0 ∨ r = 1 ∨ r = 2 ∨ r = 3 := by omega
    all_goals simp [ruleF]
  · (repeat' (first | (with_reducible exact Below.refl _ _) | (with_reducible assumption) | (with_reducible refine Below.alloc ?_ ?_ _) | (with_reducible refine Below.drew ?_) | (with_reducible refine below_drewN ?_ _) | (with_reducible refine Below.setCell ?_ ?_ _) | (with_reducible refine Below.trans ?_ (Below.mono (by with_reducible assumption) ?_)) | (with_reducible exact Below.size (by with_reducible assumption)) | go_size))
theorem checkRule_any (m q : Value) (M : List (List Int)) (Q : List Int) (s r : Int) (w : World) (h1 : PM.Rows w m M) (h2 : Ints w q Q) :
    Calls Tryd.prog 79 #[.agg #[m, q], .int .i64 s, .int .i64 r] w fun e w' => e = .returned (.int .i64 (ruleCode M Q s r)) ∧ Below w.heap.size w w' := by
  have g1 := fun (w' : World) (h : Below w.heap.size w w') => h1.below h
  have g2 := fun (w' : World) (h : Below w.heap.size w w') => h2.below h
  obtain ⟨a1, c1, rfl, _⟩ := h1
  obtain ⟨a2, c2, rfl, _⟩ := h2
  obtain ⟨c, hc⟩ : ∃ c, c = setCode M Q s := ⟨_, rfl⟩
  have HC := Lib.hid hc
  by_cases hcz : c ≠ 0
  · rw [ruleCode_set hc.symm hcz]
    clear hc
    go_enter Tryd.func79, Tryd.ntmps79
    go_wp2_with fail
    refine (checkSet_any _ _ M Q s _ (g1 _ (by (repeat' (first | (with_reducible exact Below.refl _ _) | (with_reducible assumption) | (with_reducible refine Below.alloc ?_ ?_ _) | (with_reducible refine Below.drew ?_) | (with_reducible refine below_drewN ?_ _) | (with_reducible refine Below.setCell ?_ ?_ _) | (with_reducible refine Below.trans ?_ (Below.mono (by with_reducible assumption) ?_)) | (with_reducible exact Below.size (by with_reducible assumption)) | go_size)))) (g2 _ (by (repeat' (first | (with_reducible exact Below.refl _ _) | (with_reducible assumption) | (with_reducible refine Below.alloc ?_ ?_ _) | (with_reducible refine Below.drew ?_) | (with_reducible refine below_drewN ?_ _) | (with_reducible refine Below.setCell ?_ ?_ _) | (with_reducible refine Below.trans ?_ (Below.mono (by with_reducible assumption) ?_)) | (with_reducible exact Below.size (by with_reducible assumption)) | go_size))))).mono ?_; rw [← HC.out]; rintro e w1 ⟨rfl, hb1⟩; obtain ⟨hc_hb1, hf_hb1⟩ := bcell hb1; obtain ⟨hcA_hb1, hfA_hb1⟩ := bcellG (W0 := w) hb1 (by (repeat' (first | (with_reducible exact Below.refl _ _) | (with_reducible assumption) | (with_reducible refine Below.alloc ?_ ?_ _) | (with_reducible refine Below.drew ?_) | (with_reducible refine below_drewN ?_ _) | (with_reducible refine Below.setCell ?_ ?_ _) | (with_reducible refine Below.trans ?_ (Below.mono (by with_reducible assumption) ?_)) | (with_reducible exact Below.size (by with_reducible assumption)) | go_size))); have hz_hb1 := hb1.size; (try simp at hz_hb1); (try simp only [Nat.add_one_le_iff] at hz_hb1); have hz0_hb1 : w.heap.size < w1.heap.size := (by omega)
    go_wp2_with fail
    go_ret
    exact ⟨rfl, by (repeat' (first | (with_reducible exact Below.refl _ _) | (with_reducible assumption) | (with_reducible refine Below.alloc ?_ ?_ _) | (with_reducible refine Below.drew ?_) | (with_reducible refine below_drewN ?_ _) | (with_reducible refine Below.setCell ?_ ?_ _) | (with_reducible refine Below.trans ?_ (Below.mono (by with_reducible assumption) ?_)) | (with_reducible exact Below.size (by with_reducible assumption)) | go_size))⟩
  have hc0 : setCode M Q s = 0 := by omega
  have HC0 := Lib.hid hc0
  clear HC hc hcz
  by_cases hr : r < 0
  · rw [ruleCode_bad hc0 (.inl hr)]
    clear hc0
    go_enter Tryd.func79, Tryd.ntmps79
    go_wp2_with fail
    refine (checkSet_any _ _ M Q s _ (g1 _ (by (repeat' (first | (with_reducible exact Below.refl _ _) | (with_reducible assumption) | (with_reducible refine Below.alloc ?_ ?_ _) | (with_reducible refine Below.drew ?_) | (with_reducible refine below_drewN ?_ _) | (with_reducible refine Below.setCell ?_ ?_ _) | (with_reducible refine Below.trans ?_ (Below.mono (by with_reducible assumption) ?_)) | (with_reducible exact Below.size (by with_reducible assumption)) | go_size)))) (g2 _ (by (repeat' (first | (with_reducible exact Below.refl _ _) | (with_reducible assumption) | (with_reducible refine Below.alloc ?_ ?_ _) | (with_reducible refine Below.drew ?_) | (with_reducible refine below_drewN ?_ _) | (with_reducible refine Below.setCell ?_ ?_ _) | (with_reducible refine Below.trans ?_ (Below.mono (by with_reducible assumption) ?_)) | (with_reducible exact Below.size (by with_reducible assumption)) | go_size))))).mono ?_; rw [HC0.out]; rintro e w1 ⟨rfl, hb1⟩; obtain ⟨hc_hb1, hf_hb1⟩ := bcell hb1; obtain ⟨hcA_hb1, hfA_hb1⟩ := bcellG (W0 := w) hb1 (by (repeat' (first | (with_reducible exact Below.refl _ _) | (with_reducible assumption) | (with_reducible refine Below.alloc ?_ ?_ _) | (with_reducible refine Below.drew ?_) | (with_reducible refine below_drewN ?_ _) | (with_reducible refine Below.setCell ?_ ?_ _) | (with_reducible refine Below.trans ?_ (Below.mono (by with_reducible assumption) ?_)) | (with_reducible exact Below.size (by with_reducible assumption)) | go_size))); have hz_hb1 := hb1.size; (try simp at hz_hb1); (try simp only [Nat.add_one_le_iff] at hz_hb1); have hz0_hb1 : w.heap.size < w1.heap.size := (by omega)
    go_wp2_with fail
    go_ret
    exact ⟨rfl, by (repeat' (first | (with_reducible exact Below.refl _ _) | (with_reducible assumption) | (with_reducible refine Below.alloc ?_ ?_ _) | (with_reducible refine Below.drew ?_) | (with_reducible refine below_drewN ?_ _) | (with_reducible refine Below.setCell ?_ ?_ _) | (with_reducible refine Below.trans ?_ (Below.mono (by with_reducible assumption) ?_)) | (with_reducible exact Below.size (by with_reducible assumption)) | go_size))⟩
  by_cases hr3 : 3 < r
  · rw [ruleCode_bad hc0 (.inr hr3)]
    have hr4 : (4 : Int) ≤ r := by omega
    clear hc0 hr3
    go_enter Tryd.func79, Tryd.ntmps79
    go_wp2_with fail
    refine (checkSet_any _ _ M Q s _ (g1 _ (by (repeat' (first | (with_reducible exact Below.refl _ _) | (with_reducible assumption) | (with_reducible refine Below.alloc ?_ ?_ _) | (with_reducible refine Below.drew ?_) | (with_reducible refine below_drewN ?_ _) | (with_reducible refine Below.setCell ?_ ?_ _) | (with_reducible refine Below.trans ?_ (Below.mono (by with_reducible assumption) ?_)) | (with_reducible exact Below.size (by with_reducible assumption)) | go_size)))) (g2 _ (by (repeat' (first | (with_reducible exact Below.refl _ _) | (with_reducible assumption) | (with_reducible refine Below.alloc ?_ ?_ _) | (with_reducible refine Below.drew ?_) | (with_reducible refine below_drewN ?_ _) | (with_reducible refine Below.setCell ?_ ?_ _) | (with_reducible refine Below.trans ?_ (Below.mono (by with_reducible assumption) ?_)) | (with_reducible exact Below.size (by with_reducible assumption)) | go_size))))).mono ?_; rw [HC0.out]; rintro e w1 ⟨rfl, hb1⟩; obtain ⟨hc_hb1, hf_hb1⟩ := bcell hb1; obtain ⟨hcA_hb1, hfA_hb1⟩ := bcellG (W0 := w) hb1 (by (repeat' (first | (with_reducible exact Below.refl _ _) | (with_reducible assumption) | (with_reducible refine Below.alloc ?_ ?_ _) | (with_reducible refine Below.drew ?_) | (with_reducible refine below_drewN ?_ _) | (with_reducible refine Below.setCell ?_ ?_ _) | (with_reducible refine Below.trans ?_ (Below.mono (by with_reducible assumption) ?_)) | (with_reducible exact Below.size (by with_reducible assumption)) | go_size))); have hz_hb1 := hb1.size; (try simp at hz_hb1); (try simp only [Nat.add_one_le_iff] at hz_hb1); have hz0_hb1 : w.heap.size < w1.heap.size := (by omega)
    go_wp2_with fail
    refine (stepRules_any _).mono ?_; rintro e w2 ⟨rfl, _, hb2⟩
    go_wp2_with fail
    go_ret
    exact ⟨rfl, by (repeat' (first | (with_reducible exact Below.refl _ _) | (with_reducible assumption) | (with_reducible refine Below.alloc ?_ ?_ _) | (with_reducible refine Below.drew ?_) | (with_reducible refine below_drewN ?_ _) | (with_reducible refine Below.setCell ?_ ?_ _) | (with_reducible refine Below.trans ?_ (Below.mono (by with_reducible assumption) ?_)) | (with_reducible exact Below.size (by with_reducible assumption)) | go_size))⟩
  · rw [ruleCode_ok hc0 (by omega)]
    have hr4 : ¬ (4 : Int) ≤ r := by omega
    clear hc0 hr3
    go_enter Tryd.func79, Tryd.ntmps79
    go_wp2_with fail
    refine (checkSet_any _ _ M Q s _ (g1 _ (by (repeat' (first | (with_reducible exact Below.refl _ _) | (with_reducible assumption) | (with_reducible refine Below.alloc ?_ ?_ _) | (with_reducible refine Below.drew ?_) | (with_reducible refine below_drewN ?_ _) | (with_reducible refine Below.setCell ?_ ?_ _) | (with_reducible refine Below.trans ?_ (Below.mono (by with_reducible assumption) ?_)) | (with_reducible exact Below.size (by with_reducible assumption)) | go_size)))) (g2 _ (by (repeat' (first | (with_reducible exact Below.refl _ _) | (with_reducible assumption) | (with_reducible refine Below.alloc ?_ ?_ _) | (with_reducible refine Below.drew ?_) | (with_reducible refine below_drewN ?_ _) | (with_reducible refine Below.setCell ?_ ?_ _) | (with_reducible refine Below.trans ?_ (Below.mono (by with_reducible assumption) ?_)) | (with_reducible exact Below.size (by with_reducible assumption)) | go_size))))).mono ?_; rw [HC0.out]; rintro e w1 ⟨rfl, hb1⟩; obtain ⟨hc_hb1, hf_hb1⟩ := bcell hb1; obtain ⟨hcA_hb1, hfA_hb1⟩ := bcellG (W0 := w) hb1 (by (repeat' (first | (with_reducible exact Below.refl _ _) | (with_reducible assumption) | (with_reducible refine Below.alloc ?_ ?_ _) | (with_reducible refine Below.drew ?_) | (with_reducible refine below_drewN ?_ _) | (with_reducible refine Below.setCell ?_ ?_ _) | (with_reducible refine Below.trans ?_ (Below.mono (by with_reducible assumption) ?_)) | (with_reducible exact Below.size (by with_reducible assumption)) | go_size))); have hz_hb1 := hb1.size; (try simp at hz_hb1); (try simp only [Nat.add_one_le_iff] at hz_hb1); have hz0_hb1 : w.heap.size < w1.heap.size := (by omega)
    go_wp2_with fail
    refine (stepRules_any _).mono ?_; rintro e w2 ⟨rfl, _, hb2⟩
    go_wp2_with fail
    go_ret
    exact ⟨rfl, by (repeat' (first | (with_reducible exact Below.refl _ _) | (with_reducible assumption) | (with_reducible refine Below.alloc ?_ ?_ _) | (with_reducible refine Below.drew ?_) | (with_reducible refine below_drewN ?_ _) | (with_reducible refine Below.setCell ?_ ?_ _) | (with_reducible refine Below.trans ?_ (Below.mono (by with_reducible assumption) ?_)) | (with_reducible exact Below.size (by with_reducible assumption)) | go_size))⟩

/-- A rule at a point: the set that it exchanges. -/
theorem rule_any (r : Int) (g cap n : Nat) (xs : List (Int × Int)) (w : World) (hT : Tab8 w) (hv : OwnF w (.slice (some ⟨g, 0, none⟩) n cap) xs) (hn : n = xs.length) (hg : g < w.heap.size) (h1 : 1 ≤ n) (hm : n ≤ 5) (hF : ∀ j, j < n → FM.isF (xs.getD j (0, 0)).1 (xs.getD j (0, 0)).2 = true) (h0 : negM xs n ≠ 0) :
    Calls Tryd.prog (ruleF r) #[.slice (some ⟨g, 0, none⟩) n cap] w fun e w' => e = .returned (.int .i64 (exM r xs n : Nat)) ∧ Below w.heap.size w w' := by
  have HA := Lib.hid (allBelow_any g cap n xs w hv hn hg hm)
  have hlt := negM_lt xs n
  have hp := pow_le_32 hm
  have hx : negM xs n < 32 := by omega
  by_cases r0 : r = 0
  · rw [show ruleF r = 114 by unfold ruleF; rw [if_pos r0], show exM r xs n = 2 ^ loB (negM xs n) by unfold exM; rw [if_pos r0]]
    have HC := Lib.hid (fun w (h : Tab8 w) => changed0_any (negM xs n) h0 hx w h)
    have HT := Lib.hid hT
    clear hT hv hn hF h0 hlt hp hx
    generalize negM xs n = x at *
    go_enter Tryd.func114, Tryd.ntmps114
    go_wp2_with fail
    refine HA.out.mono ?_; rintro e w1 ⟨rfl, hb1⟩
    go_wp2_with fail
    refine (HC.out _ (HT.out.below hb1)).mono ?_; rintro e w2 ⟨rfl, rfl⟩
    go_wp2_with fail
    go_ret
    exact ⟨rfl, hb1⟩
  by_cases r1 : r = 1
  · rw [show ruleF r = 115 by unfold ruleF; rw [if_neg r0, if_pos r1], show exM r xs n = 2 ^ hiB (negM xs n) by unfold exM; rw [if_neg r0, if_pos r1]]
    have HC := Lib.hid (fun w => changed1_any (negM xs n) h0 hx w)
    clear hT hv hn hF h0 hlt hp hx
    generalize negM xs n = x at *
    go_enter Tryd.func115, Tryd.ntmps115
    go_wp2_with fail
    refine HA.out.mono ?_; rintro e w1 ⟨rfl, hb1⟩
    go_wp2_with fail
    refine (HC.out _).mono ?_; rintro e w2 ⟨rfl, rfl⟩
    go_wp2_with fail
    go_ret
    exact ⟨rfl, hb1⟩
  by_cases r2 : r = 2
  · rw [show ruleF r = 116 by unfold ruleF; rw [if_neg r0, if_neg r1, if_pos r2], show exM r xs n = 2 ^ lsI xs n by unfold exM; rw [if_neg r0, if_neg r1, if_pos r2]]
    have hl := lsI_lt xs n h1
    have hpos : ∀ j, j < n → 0 < (xs.getD j (0, 0)).2 := fun j hj => by have := FM.isF_yes (hF j hj); omega
    have hmin := (lsI_min n hpos).2
    have HM := Lib.hid (minFunc_any g cap n xs w hv hn hg h1 hm hF)
    have HX := Lib.hid (fun w' (hb : Below w.heap.size w w') => indexP_any g cap n (lsI xs n) xs (xs.getD (lsI xs n) (0, 0)).1 (xs.getD (lsI xs n) (0, 0)).2 w' (hv.below hb hg) hn (Nat.lt_of_lt_of_le hg hb.size) hm hl rfl (fun j hj e => by
      have := hmin j hj
      rw [e] at this
      unfold lessF at this
      simp at this))
    clear hT hv hn hF h0 hlt hp hx hpos hmin HA
    generalize (xs.getD (lsI xs n) (0, 0)).1 = a at *
    generalize (xs.getD (lsI xs n) (0, 0)).2 = b at *
    generalize lsI xs n = l at *
    obtain rfl | rfl | rfl | rfl | rfl : l = 0 ∨ l = 1 ∨ l = 2 ∨ l = 3 ∨ l = 4 := by omega
    all_goals
      go_enter Tryd.func116, Tryd.ntmps116
      go_wp2_with fail
      refine HM.out.mono ?_; rintro e w1 ⟨rfl, hb1⟩
      go_wp2_with fail
      refine (HX.out _ hb1).mono ?_; rintro e w2 ⟨rfl, hb2⟩
      go_wp2_with fail
      go_ret
      exact ⟨rfl, hb1.trans (hb2.mono hb1.size)⟩
  rw [show ruleF r = 117 by unfold ruleF; rw [if_neg r0, if_neg r1, if_neg r2], show exM r xs n = negM xs n by unfold exM; rw [if_neg r0, if_neg r1, if_neg r2]]
  exact HA.out
end Go.Proofs.YtopokicejgjcoaaDoor.PW
