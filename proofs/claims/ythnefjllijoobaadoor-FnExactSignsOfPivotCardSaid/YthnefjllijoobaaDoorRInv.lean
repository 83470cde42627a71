/-
  Walks: the inverse of a matrix, in the model and in the program; the exact law of InverseOf.
-/
import Derived.Test.YthnefjllijoobaaDoorRWhoA
import Derived.Test.YthnefjllijoobaaDoorRLawV
import Derived.Test.YthnefjllijoobaaDoorPRoundB
namespace Go.Proofs.YthnefjllijoobaaDoor.PW
open Go.RowKit Go.Proofs.YthnefjllijoobaaDoor
open Go.Proofs.YthnefjllijoobaaDoor.PM Go.Proofs.YthnefjllijoobaaDoor.PX

/-- What a function leaves that returns rows, a number and a code. -/
def OutRN (w : World) (o : List (List Int) × Int × Int) (e : Ending) (w' : World) : Prop :=
  ∃ a c us, e = .returned (.tuple #[.slice a o.1.length c, .int .i64 o.2.1, .int .i64 o.2.2]) ∧ OwnRs w.heap.size w' (.slice a o.1.length c) o.1 us ∧ Below w.heap.size w w'
theorem outRN_none {w w' : World} {c : Int} (hb : Below w.heap.size w w') : OutRN w ([], 0, c) (.returned (.tuple #[.slice none 0 0, .int .i64 0, .int .i64 c])) w' := ⟨none, 0, [], rfl, ownRs_nil _ _, hb⟩
def ivOut (M : List (List Int)) (Q : List Int) : List (List Int) × Int × Int := ((pvOut M Q (2 ^ M.length - 1)).R, (pvOut M Q (2 ^ M.length - 1)).d, (pvOut M Q (2 ^ M.length - 1)).c)
theorem whole_in {M : List (List Int)} {Q : List Int} (hp : isPB M Q = true) : 0 ≤ (2 : Int) ^ M.length - 1 ∧ (2 : Int) ^ M.length - 1 < 2 ^ M.length ∧ setCode M Q (2 ^ M.length - 1) = 0 := by
  have h : (0 : Int) < 2 ^ M.length := Int.pow_pos (by decide)
  exact ⟨by omega, by omega, setCode_ok hp (by omega)⟩
theorem ivOut_e1 {M : List (List Int)} {Q : List Int} (hp : isPB M Q = false) : ivOut M Q = ([], 0, 1) := by
  unfold ivOut
  rw [pvOut_e1 (setCode_err1 (s := 2 ^ M.length - 1) hp) (by decide)]
theorem ivOut_e2 {M : List (List Int)} {Q : List Int} (hp : isPB M Q = true) (hm : dt M.length (colS M (2 ^ M.length - 1)) = 0) : ivOut M Q = ([], 0, 5) := by
  unfold ivOut
  rw [pvOut_e2 (whole_in hp).2.2 hm]
theorem ivOut_ok {M : List (List Int)} {Q : List Int} (hp : isPB M Q = true) (hm : dt M.length (colS M (2 ^ M.length - 1)) ≠ 0) : ivOut M Q = (tab M.length (pvR M (2 ^ M.length - 1)), pvD M (2 ^ M.length - 1), 0) := by
  unfold ivOut
  rw [pvOut_ok (whole_in hp).2.2 hm]

set_option maxHeartbeats 4000000 in
theorem specInverseOf_any (m q : Value) (M : List (List Int)) (Q : List Int) (w : World) (h1 : PM.Rows w m M) (h2 : Ints w q Q) :
    Calls Tryd.prog 32 #[.agg #[m, q]] w (OutRN w (ivOut M Q)) := by
  have g1 := fun (w' : World) (h : Below w.heap.size w w') => h1.below h
  have g2 := fun (w' : World) (h : Below w.heap.size w w') => h2.below h
  obtain ⟨a1, c1, rfl, _⟩ := h1
  obtain ⟨a2, c2, rfl, _⟩ := h2
  cases hp : isPB M Q
  · rw [ivOut_e1 hp]
    have HP := Lib.hid hp
    clear hp
    go_enter Tryd.func32, Tryd.ntmps32
    go_wp2_with fail
    refine (l01Is_any _ _ M Q _ (g1 _ (by (repeat' (first | (with_reducible exact Below.refl _ _) | (with_reducible assumption) | (with_reducible refine Below.alloc ?_ ?_ _) | (with_reducible refine Below.drew ?_) | (with_reducible refine below_drewN ?_ _) | (with_reducible refine Below.setCell ?_ ?_ _) | (with_reducible refine Below.trans ?_ (Below.mono (by with_reducible assumption) ?_)) | (with_reducible exact Below.size (by with_reducible assumption)) | go_size)))) (g2 _ (by (repeat' (first | (with_reducible exact Below.refl _ _) | (with_reducible assumption) | (with_reducible refine Below.alloc ?_ ?_ _) | (with_reducible refine Below.drew ?_) | (with_reducible refine below_drewN ?_ _) | (with_reducible refine Below.setCell ?_ ?_ _) | (with_reducible refine Below.trans ?_ (Below.mono (by with_reducible assumption) ?_)) | (with_reducible exact Below.size (by with_reducible assumption)) | go_size))))).mono ?_; rw [HP.out]; rintro e w1 ⟨rfl, hb1⟩; obtain ⟨hc_hb1, hf_hb1⟩ := bcell hb1; obtain ⟨hcA_hb1, hfA_hb1⟩ := bcellG (W0 := w) hb1 (by (repeat' (first | (with_reducible exact Below.refl _ _) | (with_reducible assumption) | (with_reducible refine Below.alloc ?_ ?_ _) | (with_reducible refine Below.drew ?_) | (with_reducible refine below_drewN ?_ _) | (with_reducible refine Below.setCell ?_ ?_ _) | (with_reducible refine Below.trans ?_ (Below.mono (by with_reducible assumption) ?_)) | (with_reducible exact Below.size (by with_reducible assumption)) | go_size))); have hz_hb1 := hb1.size; (try simp at hz_hb1); (try simp only [Nat.add_one_le_iff] at hz_hb1); have hz0_hb1 : w.heap.size < w1.heap.size := (by omega)
    go_wp2_with fail
    go_ret3
    exact outRN_none (by (repeat' (first | (with_reducible exact Below.refl _ _) | (with_reducible assumption) | (with_reducible refine Below.alloc ?_ ?_ _) | (with_reducible refine Below.drew ?_) | (with_reducible refine below_drewN ?_ _) | (with_reducible refine Below.setCell ?_ ?_ _) | (with_reducible refine Below.trans ?_ (Below.mono (by with_reducible assumption) ?_)) | (with_reducible exact Below.size (by with_reducible assumption)) | go_size)))
  have HIS := Lib.hid (fun w' h => (l01Is_any _ _ M Q w' (g1 w' h) (g2 w' h)))
  rw [hp] at HIS
  obtain ⟨f1, f2, f3, _, _⟩ := isPB_facts hp
  obtain ⟨hw0, hw1, _⟩ := whole_in hp
  by_cases hm : dt M.length (colS M (2 ^ M.length - 1)) = 0
  · rw [ivOut_e2 hp hm]
    have HDO : Hid (∀ s, s = 2 ^ M.length - 1 → ∀ w', Below w.heap.size w w' → Calls Tryd.prog 45 #[.agg #[.slice a1 M.length c1, .slice a2 Q.length c2], .int .i64 s] w' fun e w2 => e = .returned (.tuple #[.agg #[.int .i64 0, .slice none 0 0, .slice none 0 0], .bool false]) ∧ Below w'.heap.size w' w2) :=
      Lib.hid (fun s hs w' h => by subst hs; exact l04Pivot_zero _ _ M Q _ w' (g1 w' h) (g2 w' h) hp hm)
    clear hp hm hw0 hw1 g1 g2
    rw [f3] at HIS HDO ⊢
    obtain ⟨n, hn⟩ : ∃ n, n = M.length := ⟨_, rfl⟩
    rw [← hn] at HIS HDO f1 f2 ⊢
    clear hn f3
    obtain rfl | rfl | rfl | rfl | rfl : n = 1 ∨ n = 2 ∨ n = 3 ∨ n = 4 ∨ n = 5 := by omega
    all_goals
      go_enter Tryd.func32, Tryd.ntmps32
      go_wp2_with fail
      refine (HIS.out _ (by (repeat' (first | (with_reducible exact Below.refl _ _) | (with_reducible assumption) | (with_reducible refine Below.alloc ?_ ?_ _) | (with_reducible refine Below.drew ?_) | (with_reducible refine below_drewN ?_ _) | (with_reducible refine Below.setCell ?_ ?_ _) | (with_reducible refine Below.trans ?_ (Below.mono (by with_reducible assumption) ?_)) | (with_reducible exact Below.size (by with_reducible assumption)) | go_size)))).mono ?_; rintro e w1 ⟨rfl, hb1⟩; obtain ⟨hc_hb1, hf_hb1⟩ := bcell hb1; obtain ⟨hcA_hb1, hfA_hb1⟩ := bcellG (W0 := w) hb1 (by (repeat' (first | (with_reducible exact Below.refl _ _) | (with_reducible assumption) | (with_reducible refine Below.alloc ?_ ?_ _) | (with_reducible refine Below.drew ?_) | (with_reducible refine below_drewN ?_ _) | (with_reducible refine Below.setCell ?_ ?_ _) | (with_reducible refine Below.trans ?_ (Below.mono (by with_reducible assumption) ?_)) | (with_reducible exact Below.size (by with_reducible assumption)) | go_size))); have hz_hb1 := hb1.size; (try simp at hz_hb1); (try simp only [Nat.add_one_le_iff] at hz_hb1); have hz0_hb1 : w.heap.size < w1.heap.size := (by omega)
      go_wp2_with fail
      have hw1 : Below w.heap.size w w1 := by (repeat' (first | (with_reducible exact Below.refl _ _) | (with_reducible assumption) | (with_reducible refine Below.alloc ?_ ?_ _) | (with_reducible refine Below.drew ?_) | (with_reducible refine below_drewN ?_ _) | (with_reducible refine Below.setCell ?_ ?_ _) | (with_reducible refine Below.trans ?_ (Below.mono (by with_reducible assumption) ?_)) | (with_reducible exact Below.size (by with_reducible assumption)) | go_size))
      refine (HDO.out _ (by decide) _ hw1).mono ?_; rintro e w2 ⟨rfl, hb2⟩
      have hw2 : Below w.heap.size w w2 := hw1.trans (hb2.mono hw1.size)
      go_wp2_with fail
      go_ret3
      exact outRN_none (hw2.alloc hw2.size _)
  · rw [ivOut_ok hp hm]
    have HDO : Hid (∀ s, s = 2 ^ M.length - 1 → ∀ w', Below w.heap.size w w' → Calls Tryd.prog 45 #[.agg #[.slice a1 M.length c1, .slice a2 Q.length c2], .int .i64 s] w' fun e w2 => ∃ a c a' c' us, e = .returned (.tuple #[.agg #[.int .i64 (pvD M (2 ^ M.length - 1)), .slice a (tab M.length (pvR M (2 ^ M.length - 1))).length c, .slice a' ((List.range M.length).map (pvS M Q (2 ^ M.length - 1))).length c'], .bool true]) ∧
      PvM w'.heap.size w2 (.slice a (tab M.length (pvR M (2 ^ M.length - 1))).length c) (.slice a' ((List.range M.length).map (pvS M Q (2 ^ M.length - 1))).length c') (tab M.length (pvR M (2 ^ M.length - 1))) ((List.range M.length).map (pvS M Q (2 ^ M.length - 1))) us ∧ Below w'.heap.size w' w2) :=
      Lib.hid (fun s hs w' h => by subst hs; exact l04Pivot_ok _ _ M Q _ w' (g1 w' h) (g2 w' h) hp hw0 hw1 hm)
    clear hp hm hw0 hw1 g1 g2
    generalize pvD M (2 ^ M.length - 1) = D at *
    generalize tab M.length (pvR M (2 ^ M.length - 1)) = R at *
    generalize (List.range M.length).map (pvS M Q (2 ^ M.length - 1)) = S at *
    rw [f3] at HIS HDO ⊢
    obtain ⟨n, hn⟩ : ∃ n, n = M.length := ⟨_, rfl⟩
    rw [← hn] at HIS HDO f1 f2 ⊢
    clear hn f3
    obtain rfl | rfl | rfl | rfl | rfl : n = 1 ∨ n = 2 ∨ n = 3 ∨ n = 4 ∨ n = 5 := by omega
    all_goals
      go_enter Tryd.func32, Tryd.ntmps32
      go_wp2_with fail
      refine (HIS.out _ (by (repeat' (first | (with_reducible exact Below.refl _ _) | (with_reducible assumption) | (with_reducible refine Below.alloc ?_ ?_ _) | (with_reducible refine Below.drew ?_) | (with_reducible refine below_drewN ?_ _) | (with_reducible refine Below.setCell ?_ ?_ _) | (with_reducible refine Below.trans ?_ (Below.mono (by with_reducible assumption) ?_)) | (with_reducible exact Below.size (by with_reducible assumption)) | go_size)))).mono ?_; rintro e w1 ⟨rfl, hb1⟩; obtain ⟨hc_hb1, hf_hb1⟩ := bcell hb1; obtain ⟨hcA_hb1, hfA_hb1⟩ := bcellG (W0 := w) hb1 (by (repeat' (first | (with_reducible exact Below.refl _ _) | (with_reducible assumption) | (with_reducible refine Below.alloc ?_ ?_ _) | (with_reducible refine Below.drew ?_) | (with_reducible refine below_drewN ?_ _) | (with_reducible refine Below.setCell ?_ ?_ _) | (with_reducible refine Below.trans ?_ (Below.mono (by with_reducible assumption) ?_)) | (with_reducible exact Below.size (by with_reducible assumption)) | go_size))); have hz_hb1 := hb1.size; (try simp at hz_hb1); (try simp only [Nat.add_one_le_iff] at hz_hb1); have hz0_hb1 : w.heap.size < w1.heap.size := (by omega)
      have hw1 : Below w.heap.size w w1 := by (repeat' (first | (with_reducible exact Below.refl _ _) | (with_reducible assumption) | (with_reducible refine Below.alloc ?_ ?_ _) | (with_reducible refine Below.drew ?_) | (with_reducible refine below_drewN ?_ _) | (with_reducible refine Below.setCell ?_ ?_ _) | (with_reducible refine Below.trans ?_ (Below.mono (by with_reducible assumption) ?_)) | (with_reducible exact Below.size (by with_reducible assumption)) | go_size))
      go_wp2_with fail
      refine (HDO.out _ (by decide) _ (by (repeat' (first | (with_reducible exact Below.refl _ _) | (with_reducible assumption) | (with_reducible refine Below.alloc ?_ ?_ _) | (with_reducible refine Below.drew ?_) | (with_reducible refine below_drewN ?_ _) | (with_reducible refine Below.setCell ?_ ?_ _) | (with_reducible refine Below.trans ?_ (Below.mono (by with_reducible assumption) ?_)) | (with_reducible exact Below.size (by with_reducible assumption)) | go_size)))).mono ?_; rintro e w2 ⟨a, c, a', c', us, rfl, hM, hb2⟩
      have hw2 : Below w.heap.size w w2 := hw1.trans (hb2.mono hw1.size)
      have HM := Lib.hid (hM.mono hw1.size)
      clear hM
      go_wp2_with fail
      go_quiet (fail)
      go_wp2_with fail
      go_ret3
      refine ⟨a, c, us, rfl, (HM.out.below (w' := _) ?_).rows, ?_⟩
      · exact below_drewN ((Below.refl _ _).alloc (Nat.le_refl _) _) _
      · exact hw2.trans (below_drewN ((Below.refl _ _).alloc (Nat.le_refl _) _) _ |>.mono hw2.size)

theorem wholeSet_some (n : Nat) (hn : n ≤ maxLen) (w : World) : Calls Tryd.prog 64 #[.int .i64 n] w fun e w' => ∃ x, e = .returned (.int .i64 x) ∧ (n ≤ 5 → x = (2 : Int) ^ n - 1) ∧ w' = w := by
  by_cases h : n ≤ 5
  · refine (wholeSet_is n h w).mono ?_
    rintro e w' ⟨rfl, rfl⟩
    exact ⟨_, rfl, fun _ => rfl, rfl⟩
  · have hb : (n : Int) ≤ 9223372036854775807 := by unfold maxLen at hn; omega
    have h0 : 6 ≤ n := by omega
    clear h hn
    go_enter Tryd.func64, Tryd.ntmps64
    go_wp2
    all_goals (go_ret; exact ⟨_, rfl, fun h => by omega, rfl⟩)

/-- While the pivot is asked for: what has been laid. -/
structure IvR (W w' : World) (D : Int) (a a' : Option Addr) (k k' : Nat) (R : List (List Int)) (S : List Int) (us : List Value) (b5 b9 b10 : Bool) (g : Nat) : Prop where
  below : Below W.heap.size W w'
  pv : b5 = true → PvM W.heap.size w' (.slice a R.length k) (.slice a' S.length k') R S us
  box : b9 = true → W.heap.size ≤ g ∧ g < w'.heap.size ∧ w'.cell? ⟨g, 0, none⟩ = some (cond b10 (.int .i64 D) (.int .i64 0)) ∧ w'.cell? ⟨g, 1, none⟩ = some (cond b10 (.slice a R.length k) (.slice none 0 0)) ∧
    w'.cell? ⟨g, 2, none⟩ = some (cond b10 (.slice a' S.length k') (.slice none 0 0)) ∧ ∀ o, w'.frozen? ⟨g, o, none⟩ = false
  apart : b5 = true → b9 = true → (Value.slice a R.length k).ownBlock ≠ some g ∧ (Value.slice a' S.length k').ownBlock ≠ some g ∧ ∀ i, i < R.length → (us.getD i undef).ownBlock ≠ some g
theorem IvR.call {W w' w'' : World} {D : Int} {a a' b b' : Option Addr} {k k' l l' g : Nat} {R : List (List Int)} {S : List Int} {us vs : List Value} {b9 : Bool} (h : IvR W w' D a a' k k' R S us false b9 false g)
    (hM : PvM w'.heap.size w'' (.slice b R.length l) (.slice b' S.length l') R S vs) (hb : Below w'.heap.size w' w'') : IvR W w'' D b b' l l' R S vs true b9 false g := by
  refine ⟨h.below.trans (hb.mono h.below.size), fun _ => hM.mono h.below.size, fun e => ?_, fun _ e => ?_⟩
  · obtain ⟨q1, q2, q3, q4, q5, q6⟩ := h.box e
    exact ⟨q1, Nat.lt_of_lt_of_le q2 hb.size, (hb.cell (p := ⟨g, 0, none⟩) q2).trans q3, (hb.cell (p := ⟨g, 1, none⟩) q2).trans q4, (hb.cell (p := ⟨g, 2, none⟩) q2).trans q5, fun o => (hb.frozen (p := ⟨g, o, none⟩) q2).trans (q6 o)⟩
  · have q2 := (h.box e).2.1
    exact ⟨fun c => by have := (hM.rows.mb g c).1; omega, fun c => by have := (hM.qb g c).1; omega, fun i hi c => by have := (hM.rows.ub i g hi c).1; omega⟩
theorem IvR.box_ {W w' : World} {D : Int} {a a' : Option Addr} {k k' g : Nat} {R : List (List Int)} {S : List Int} {us : List Value} {b5 : Bool} (h : IvR W w' D a a' k k' R S us b5 false false g) :
    IvR W (w'.alloc (.cells #[.int .i64 0, .slice none 0 0, .slice none 0 0] 28)) D a a' k k' R S us b5 true false w'.heap.size := by
  have hal : Below w'.heap.size w' (w'.alloc (.cells #[.int .i64 0, .slice none 0 0, .slice none 0 0] 28)) := (Below.refl _ _).alloc (Nat.le_refl _) _
  refine ⟨h.below.trans (hal.mono h.below.size), fun e => (h.pv e).below hal, fun _ => ⟨h.below.size, by simp, by rw [World.cell?_alloc_new]; rfl, by rw [World.cell?_alloc_new]; rfl, by rw [World.cell?_alloc_new]; rfl, fun o => by simp⟩, fun e _ => ?_⟩
  have hM := h.pv e
  exact ⟨fun c => by have := (hM.rows.mb _ c).2; omega, fun c => by have := (hM.qb _ c).2; omega, fun i hi c => by have := (hM.rows.ub i _ hi c).2; omega⟩
theorem IvR.store_ {W w' : World} {D : Int} {a a' : Option Addr} {k k' g : Nat} {R : List (List Int)} {S : List Int} {us : List Value} (h : IvR W w' D a a' k k' R S us true true false g) :
    IvR W (((w'.setCell ⟨g, 0, none⟩ (.int .i64 D)).setCell ⟨g, 1, none⟩ (.slice a R.length k)).setCell ⟨g, 2, none⟩ (.slice a' S.length k')) D a a' k k' R S us true true true g := by
  obtain ⟨q1, q2, q3, q4, q5, q6⟩ := h.box rfl
  obtain ⟨p1, p2, p3⟩ := h.apart rfl rfl
  have ht : Tch [g] w' (((w'.setCell ⟨g, 0, none⟩ (.int .i64 D)).setCell ⟨g, 1, none⟩ (.slice a R.length k)).setCell ⟨g, 2, none⟩ (.slice a' S.length k')) := (((Tch.refl _ _).setCell (by simp) _).setCell (by simp) _).setCell (by simp) _
  simp only [cond_false] at q3 q4 q5
  refine ⟨h.below.trans (ht.below (fun b hb => by simp at hb; omega)), fun _ => (h.pv rfl).tch ht (fun b hb => by simp at hb; subst hb; exact ⟨p1, p2, p3⟩), fun _ => ⟨q1, by simpa using q2, ?_, ?_, ?_, fun o => by simpa using q6 o⟩, fun _ _ => ⟨p1, p2, p3⟩⟩
  · simp [q3, go_sem]
  · simp [q4, go_sem]
  · simp [q5, go_sem]

set_option maxRecDepth 100000 in
set_option maxHeartbeats 4000000 in
theorem implInverseOf_any (m q : Value) (M : List (List Int)) (Q : List Int) (w : World) (hG : Glob w) (h1 : PM.Rows w m M) (h2 : Ints w q Q) :
    Calls Tryd.prog 33 #[.agg #[m, q]] w (OutRN w (ivOut M Q)) := by
  have hmx : Tryd.prog.follows .mixedOrders = true := by kernel_rfl
  have hpv : ∀ x, (M.length ≤ 5 → x = (2 : Int) ^ M.length - 1) → ∀ w', Below w.heap.size w w' → Calls Tryd.prog 14 #[.agg #[m, q], .int .i64 x] w' (OutPv w' (pvOut M Q (2 ^ M.length - 1))) := fun x hx w' h => by
    by_cases hl : M.length ≤ 5
    · obtain rfl := hx hl
      exact implPivotOf_any m q M Q _ w' (hG.below h) (h1.below h) (h2.below h)
    · have hi := implPivotOf_any m q M Q x w' (hG.below h) (h1.below h) (h2.below h)
      have hp : isPB M Q = false := by
        cases hp : isPB M Q
        · rfl
        · exact absurd (isPB_facts hp).2.1 hl
      have e1 : pvOut M Q x = pvOut M Q (2 ^ M.length - 1) := by rw [pvOut_e1 (setCode_err1 (s := x) hp) (by decide), pvOut_e1 (setCode_err1 (s := 2 ^ M.length - 1) hp) (by decide)]
      rw [← e1]
      exact hi
  obtain ⟨a1, c1, rfl, hl1, hm1, _⟩ := h1
  obtain ⟨a2, c2, rfl, _⟩ := h2
  have hml : M.length ≤ maxLen := Nat.le_trans hl1 hm1
  unfold ivOut
  generalize pvOut M Q (2 ^ M.length - 1) = o at *
  obtain ⟨D, R, S, c⟩ := o
  have HPV := Lib.hid hpv
  clear hpv hl1 hm1 hG
  refine callsIn_wide.1 (?_ : CallsIn Fence.wide 8 _ _ _ _ _)
  refine callsIn_of_wp Tryd.func33 rfl trivial ?_ rfl
  simp only [Tryd.ntmps33, List.size_toArray, List.length_cons, List.length_nil, Nat.reduceAdd, Nat.reduceSub, Array.replicate_succ, Array.replicate_zero, List.push_toArray, List.append_toArray, List.nil_append, List.cons_append]
  gi_wp2_with fail
  obtain ⟨W, hW⟩ : ∃ W, (w.alloc (.cells #[.slice a1 M.length c1, .slice a2 Q.length c2] 31)) = W := ⟨_, rfl⟩
  have hB0 : Below w.heap.size w W := by rw [← hW]; (repeat' (first | (with_reducible exact Below.refl _ _) | (with_reducible assumption) | (with_reducible refine Below.alloc ?_ ?_ _) | (with_reducible refine Below.drew ?_) | (with_reducible refine below_drewN ?_ _) | (with_reducible refine Below.setCell ?_ ?_ _) | (with_reducible refine Below.trans ?_ (Below.mono (by with_reducible assumption) ?_)) | (with_reducible exact Below.size (by with_reducible assumption)) | go_size))
  have hsz : W.heap.size = w.heap.size + 1 := by rw [← hW]; simp
  have x0 : W.cell? ⟨w.heap.size, 0, none⟩ = some (.slice a1 M.length c1) := by rw [← hW]; simp
  have x1 : W.cell? ⟨w.heap.size, 1, none⟩ = some (.slice a2 Q.length c2) := by rw [← hW]; simp
  rw [hW]
  clear hW
  rename_i K0 hK0
  refine PR.wpIn_region_inv hmx (by kernel_rfl) (fun listed t w' =>
      ∃ (b0 b1 b2 b3 b4 b5 b6 b7 b8 b9 b10 b11 : Bool) (a : Option Addr) (a' : Option Addr) (k : Nat) (k' : Nat) (us : List Value) (g : Nat) (x : Int), ((b2 = true → b1 = true) ∧ (b3 = true → b2 = true) ∧ (b4 = true → b3 = true) ∧ (b5 = true → b0 = true ∧ b4 = true) ∧ (b6 = true → b5 = true) ∧ (b7 = true → b6 = true) ∧ (b8 = true → b6 = true) ∧ (b10 = true → b9 = true ∧ b7 = true) ∧ (b11 = true → b8 = true ∧ b10 = true)) ∧ listed = #[b0, b1, b2, b3, b4, b5, b6, b7, b8, b9, b10, b11] ∧
        t = { tmps := #[.agg #[.slice a1 M.length c1, .slice a2 Q.length c2], .pointer (some ⟨w.heap.size, 0, none⟩), .slice none 0 0, .int .i64 0, .int .i64 0, cond b9 (.pointer (some ⟨g, 0, none⟩)) undef, cond b11 (.int .i64 c) undef, cond b6 (.tuple #[.agg #[.int .i64 D, .slice a R.length k, .slice a' S.length k'], .int .i64 c]) undef, cond b0 (.agg #[.slice a1 M.length c1, .slice a2 Q.length c2]) undef, cond b1 (.pointer (some ⟨w.heap.size, 0, none⟩)) undef, cond b2 (.slice a1 M.length c1) undef, cond b3 (.int .i64 M.length) undef, cond b4 (.int .i64 x) undef, cond b5 (.tuple #[.agg #[.int .i64 D, .slice a R.length k, .slice a' S.length k'], .int .i64 c]) undef, cond b7 (.agg #[.int .i64 D, .slice a R.length k, .slice a' S.length k']) undef, cond b8 (.int .i64 c) undef, undef, undef, undef, undef, undef], defers := [] } ∧ (b4 = true → M.length ≤ 5 → x = (2 : Int) ^ M.length - 1) ∧ IvR W w' D a a' k k' R S us b5 b9 b10 g) ?_ ?_ ?_ ?_
  · rintro listed t w' ⟨b0, b1, b2, b3, b4, b5, b6, b7, b8, b9, b10, b11, a, a', k, k', us, g, x, _, rfl, _⟩
    rfl
  · rintro listed t w' ⟨b0, b1, b2, b3, b4, b5, b6, b7, b8, b9, b10, b11, a, a', k, k', us, g, x, _, rfl, rfl, hs0, hR⟩ hall
    have h0 := hall 0 (by simp)
    have h1 := hall 1 (by simp)
    have h2 := hall 2 (by simp)
    have h3 := hall 3 (by simp)
    have h4 := hall 4 (by simp)
    have h5 := hall 5 (by simp)
    have h6 := hall 6 (by simp)
    have h7 := hall 7 (by simp)
    have h8 := hall 8 (by simp)
    have h9 := hall 9 (by simp)
    have h10 := hall 10 (by simp)
    have h11 := hall 11 (by simp)
    simp at h0 h1 h2 h3 h4 h5 h6 h7 h8 h9 h10 h11
    subst h0 h1 h2 h3 h4 h5 h6 h7 h8 h9 h10 h11
    clear hall
    refine hK0 _ _ ?_
    simp only [cond_true]
    obtain ⟨q1, q2, q3, q4, q5, q6⟩ := hR.box rfl
    simp only [cond_true] at q3 q4 q5
    have HP := Lib.hid (hR.pv rfl)
    have HW' := Lib.hid (hB0.trans (hR.below.mono hB0.size))
    clear hR HPV hs0 x0 x1 hB0
    gi_wp2_with fail
    gi_region
    gi_wp2_with fail
    go_ret3
    exact ⟨a, k, us, rfl, ((HP.out.mono (by omega)).below (Below.refl _ _).drew).rows, HW'.out.drew⟩
  · exact ⟨false, false, false, false, false, false, false, false, false, false, false, false, none, none, 0, 0, [], 0, 0, by simp, rfl, rfl, by simp, ⟨(Below.refl _ _).drew, by simp, by simp, by simp⟩⟩
  · rintro listed t w' i oi ⟨b0, b1, b2, b3, b4, b5, b6, b7, b8, b9, b10, b11, a, a', k, k', us, g, x, ⟨e2, e3, e4, e5, e6, e7, e8, e10, e11⟩, rfl, rfl, hs0, hR⟩ ho hun hdep
    have hi : i < 12 := by simpa using (Array.getElem?_eq_some_iff.1 ho).1
    obtain rfl | rfl | rfl | rfl | rfl | rfl | rfl | rfl | rfl | rfl | rfl | rfl : i = 0 ∨ i = 1 ∨ i = 2 ∨ i = 3 ∨ i = 4 ∨ i = 5 ∨ i = 6 ∨ i = 7 ∨ i = 8 ∨ i = 9 ∨ i = 10 ∨ i = 11 := by omega
    · -- 0
      simp only [List.getElem?_toArray, List.getElem?_cons_zero, Option.some.injEq] at ho
      subst ho
      have hbi : b0 = false := by simpa using hun
      subst hbi
      obtain rfl : b5 = false := Bool.eq_false_iff.2 (fun h => Bool.noConfusion (e5 h).1)
      obtain rfl : b6 = false := Bool.eq_false_iff.2 (fun h => Bool.noConfusion (e6 h))
      obtain rfl : b7 = false := Bool.eq_false_iff.2 (fun h => Bool.noConfusion (e7 h))
      obtain rfl : b8 = false := Bool.eq_false_iff.2 (fun h => Bool.noConfusion (e8 h))
      obtain rfl : b10 = false := Bool.eq_false_iff.2 (fun h => Bool.noConfusion (e10 h).2)
      obtain rfl : b11 = false := Bool.eq_false_iff.2 (fun h => Bool.noConfusion (e11 h).1)
      refine wpOpIn_step rfl (fun K hK => ?_)
      clear hun hdep hi
      have k0 := (hR.below.cell (p := ⟨w.heap.size, 0, none⟩) (by show w.heap.size < _; omega)).trans x0
      have k1 := (hR.below.cell (p := ⟨w.heap.size, 1, none⟩) (by show w.heap.size < _; omega)).trans x1
      go_simp
      refine hK _ _ ⟨true, b1, b2, b3, b4, false, false, false, false, b9, false, false, a, a', k, k', us, g, x, ⟨e2, e3, e4, fun h => Bool.noConfusion h, fun h => Bool.noConfusion h, fun h => Bool.noConfusion h, fun h => Bool.noConfusion h, fun h => Bool.noConfusion h, fun h => Bool.noConfusion h⟩, rfl, rfl, hs0, hR⟩
    · -- 1
      simp only [List.getElem?_toArray, List.getElem?_cons_succ, List.getElem?_cons_zero, Option.some.injEq] at ho
      subst ho
      have hbi : b1 = false := by simpa using hun
      subst hbi
      obtain rfl : b2 = false := Bool.eq_false_iff.2 (fun h => Bool.noConfusion (e2 h))
      obtain rfl : b3 = false := Bool.eq_false_iff.2 (fun h => Bool.noConfusion (e3 h))
      obtain rfl : b4 = false := Bool.eq_false_iff.2 (fun h => Bool.noConfusion (e4 h))
      obtain rfl : b5 = false := Bool.eq_false_iff.2 (fun h => Bool.noConfusion (e5 h).2)
      obtain rfl : b6 = false := Bool.eq_false_iff.2 (fun h => Bool.noConfusion (e6 h))
      obtain rfl : b7 = false := Bool.eq_false_iff.2 (fun h => Bool.noConfusion (e7 h))
      obtain rfl : b8 = false := Bool.eq_false_iff.2 (fun h => Bool.noConfusion (e8 h))
      obtain rfl : b10 = false := Bool.eq_false_iff.2 (fun h => Bool.noConfusion (e10 h).2)
      obtain rfl : b11 = false := Bool.eq_false_iff.2 (fun h => Bool.noConfusion (e11 h).1)
      refine wpOpIn_step rfl (fun K hK => ?_)
      clear hun hdep hi
      go_simp
      refine hK _ _ ⟨b0, true, false, false, false, false, false, false, false, b9, false, false, a, a', k, k', us, g, x, ⟨fun h => Bool.noConfusion h, fun h => Bool.noConfusion h, fun h => Bool.noConfusion h, fun h => Bool.noConfusion h, fun h => Bool.noConfusion h, fun h => Bool.noConfusion h, fun h => Bool.noConfusion h, fun h => Bool.noConfusion h, fun h => Bool.noConfusion h⟩, rfl, rfl, hs0, hR⟩
    · -- 2
      simp only [List.getElem?_toArray, List.getElem?_cons_succ, List.getElem?_cons_zero, Option.some.injEq] at ho
      subst ho
      have hbi : b2 = false := by simpa using hun
      subst hbi
      have hd1 : b1 = true := by have := hdep ⟨1, .data⟩ (by simp) rfl; simpa using this
      subst hd1
      obtain rfl : b3 = false := Bool.eq_false_iff.2 (fun h => Bool.noConfusion (e3 h))
      obtain rfl : b4 = false := Bool.eq_false_iff.2 (fun h => Bool.noConfusion (e4 h))
      obtain rfl : b5 = false := Bool.eq_false_iff.2 (fun h => Bool.noConfusion (e5 h).2)
      obtain rfl : b6 = false := Bool.eq_false_iff.2 (fun h => Bool.noConfusion (e6 h))
      obtain rfl : b7 = false := Bool.eq_false_iff.2 (fun h => Bool.noConfusion (e7 h))
      obtain rfl : b8 = false := Bool.eq_false_iff.2 (fun h => Bool.noConfusion (e8 h))
      obtain rfl : b10 = false := Bool.eq_false_iff.2 (fun h => Bool.noConfusion (e10 h).2)
      obtain rfl : b11 = false := Bool.eq_false_iff.2 (fun h => Bool.noConfusion (e11 h).1)
      refine wpOpIn_step rfl (fun K hK => ?_)
      clear hun hdep hi
      have k0 := (hR.below.cell (p := ⟨w.heap.size, 0, none⟩) (by show w.heap.size < _; omega)).trans x0
      go_simp
      refine hK _ _ ⟨b0, true, true, false, false, false, false, false, false, b9, false, false, a, a', k, k', us, g, x, ⟨fun _ => rfl, fun h => Bool.noConfusion h, fun h => Bool.noConfusion h, fun h => Bool.noConfusion h, fun h => Bool.noConfusion h, fun h => Bool.noConfusion h, fun h => Bool.noConfusion h, fun h => Bool.noConfusion h, fun h => Bool.noConfusion h⟩, rfl, rfl, hs0, hR⟩
    · -- 3
      simp only [List.getElem?_toArray, List.getElem?_cons_succ, List.getElem?_cons_zero, Option.some.injEq] at ho
      subst ho
      have hbi : b3 = false := by simpa using hun
      subst hbi
      have hd2 : b2 = true := by have := hdep ⟨2, .data⟩ (by simp) rfl; simpa using this
      have hd1 : b1 = true := (e2 hd2)
      subst hd1 hd2
      obtain rfl : b4 = false := Bool.eq_false_iff.2 (fun h => Bool.noConfusion (e4 h))
      obtain rfl : b5 = false := Bool.eq_false_iff.2 (fun h => Bool.noConfusion (e5 h).2)
      obtain rfl : b6 = false := Bool.eq_false_iff.2 (fun h => Bool.noConfusion (e6 h))
      obtain rfl : b7 = false := Bool.eq_false_iff.2 (fun h => Bool.noConfusion (e7 h))
      obtain rfl : b8 = false := Bool.eq_false_iff.2 (fun h => Bool.noConfusion (e8 h))
      obtain rfl : b10 = false := Bool.eq_false_iff.2 (fun h => Bool.noConfusion (e10 h).2)
      obtain rfl : b11 = false := Bool.eq_false_iff.2 (fun h => Bool.noConfusion (e11 h).1)
      refine wpOpIn_step rfl (fun K hK => ?_)
      clear hun hdep hi
      go_simp
      refine hK _ _ ⟨b0, true, true, true, false, false, false, false, false, b9, false, false, a, a', k, k', us, g, x, ⟨fun _ => rfl, fun _ => rfl, fun h => Bool.noConfusion h, fun h => Bool.noConfusion h, fun h => Bool.noConfusion h, fun h => Bool.noConfusion h, fun h => Bool.noConfusion h, fun h => Bool.noConfusion h, fun h => Bool.noConfusion h⟩, rfl, rfl, hs0, hR⟩
    · -- 4
      simp only [List.getElem?_toArray, List.getElem?_cons_succ, List.getElem?_cons_zero, Option.some.injEq] at ho
      subst ho
      have hbi : b4 = false := by simpa using hun
      subst hbi
      have hd3 : b3 = true := by have := hdep ⟨3, .data⟩ (by simp) rfl; simpa using this
      have hd2 : b2 = true := (e3 hd3)
      have hd1 : b1 = true := (e2 hd2)
      subst hd1 hd2 hd3
      obtain rfl : b5 = false := Bool.eq_false_iff.2 (fun h => Bool.noConfusion (e5 h).2)
      obtain rfl : b6 = false := Bool.eq_false_iff.2 (fun h => Bool.noConfusion (e6 h))
      obtain rfl : b7 = false := Bool.eq_false_iff.2 (fun h => Bool.noConfusion (e7 h))
      obtain rfl : b8 = false := Bool.eq_false_iff.2 (fun h => Bool.noConfusion (e8 h))
      obtain rfl : b10 = false := Bool.eq_false_iff.2 (fun h => Bool.noConfusion (e10 h).2)
      obtain rfl : b11 = false := Bool.eq_false_iff.2 (fun h => Bool.noConfusion (e11 h).1)
      refine wpOpIn_step rfl (fun K hK => ?_)
      clear hun hdep hi
      go_simp
      refine ⟨trivial, (callsIn_wide.2 (wholeSet_some M.length hml w')).mono ?_⟩
      rintro e w'' ⟨y, rfl, hy, rfl⟩
      refine hK _ _ ⟨b0, true, true, true, true, false, false, false, false, b9, false, false, a, a', k, k', us, g, y, ⟨fun _ => rfl, fun _ => rfl, fun _ => rfl, fun h => Bool.noConfusion h, fun h => Bool.noConfusion h, fun h => Bool.noConfusion h, fun h => Bool.noConfusion h, fun h => Bool.noConfusion h, fun h => Bool.noConfusion h⟩, rfl, rfl, fun _ => hy, hR⟩
    · -- 5
      simp only [List.getElem?_toArray, List.getElem?_cons_succ, List.getElem?_cons_zero, Option.some.injEq] at ho
      subst ho
      have hbi : b5 = false := by simpa using hun
      subst hbi
      have hd0 : b0 = true := by have := hdep ⟨0, .data⟩ (by simp) rfl; simpa using this
      have hd4 : b4 = true := by have := hdep ⟨4, .data⟩ (by simp) rfl; simpa using this
      have hd3 : b3 = true := (e4 hd4)
      have hd2 : b2 = true := (e3 hd3)
      have hd1 : b1 = true := (e2 hd2)
      subst hd0 hd1 hd2 hd3 hd4
      obtain rfl : b6 = false := Bool.eq_false_iff.2 (fun h => Bool.noConfusion (e6 h))
      obtain rfl : b7 = false := Bool.eq_false_iff.2 (fun h => Bool.noConfusion (e7 h))
      obtain rfl : b8 = false := Bool.eq_false_iff.2 (fun h => Bool.noConfusion (e8 h))
      obtain rfl : b10 = false := Bool.eq_false_iff.2 (fun h => Bool.noConfusion (e10 h).2)
      obtain rfl : b11 = false := Bool.eq_false_iff.2 (fun h => Bool.noConfusion (e11 h).1)
      refine wpOpIn_step rfl (fun K hK => ?_)
      clear hun hdep hi
      go_simp
      refine ⟨trivial, (callsIn_wide.2 (HPV.out x (hs0 rfl) w' (hB0.trans (hR.below.mono hB0.size)))).mono ?_⟩
      rintro e w'' ⟨ya, yk, ya', yk', yus, rfl, hM, hb⟩
      refine hK _ _ ⟨true, true, true, true, true, true, false, false, false, b9, false, false, ya, ya', yk, yk', yus, g, x, ⟨fun _ => rfl, fun _ => rfl, fun _ => rfl, fun _ => ⟨rfl, rfl⟩, fun h => Bool.noConfusion h, fun h => Bool.noConfusion h, fun h => Bool.noConfusion h, fun h => Bool.noConfusion h, fun h => Bool.noConfusion h⟩, rfl, rfl, hs0, hR.call hM hb⟩
    · -- 6
      simp only [List.getElem?_toArray, List.getElem?_cons_succ, List.getElem?_cons_zero, Option.some.injEq] at ho
      subst ho
      have hbi : b6 = false := by simpa using hun
      subst hbi
      have hd5 : b5 = true := by have := hdep ⟨5, .data⟩ (by simp) rfl; simpa using this
      have hd4 : b4 = true := (e5 hd5).2
      have hd3 : b3 = true := (e4 hd4)
      have hd2 : b2 = true := (e3 hd3)
      have hd1 : b1 = true := (e2 hd2)
      have hd0 : b0 = true := (e5 hd5).1
      subst hd0 hd1 hd2 hd3 hd4 hd5
      obtain rfl : b7 = false := Bool.eq_false_iff.2 (fun h => Bool.noConfusion (e7 h))
      obtain rfl : b8 = false := Bool.eq_false_iff.2 (fun h => Bool.noConfusion (e8 h))
      obtain rfl : b10 = false := Bool.eq_false_iff.2 (fun h => Bool.noConfusion (e10 h).2)
      obtain rfl : b11 = false := Bool.eq_false_iff.2 (fun h => Bool.noConfusion (e11 h).1)
      refine wpOpIn_step rfl (fun K hK => ?_)
      clear hun hdep hi
      go_simp
      refine hK _ _ ⟨true, true, true, true, true, true, true, false, false, b9, false, false, a, a', k, k', us, g, x, ⟨fun _ => rfl, fun _ => rfl, fun _ => rfl, fun _ => ⟨rfl, rfl⟩, fun _ => rfl, fun h => Bool.noConfusion h, fun h => Bool.noConfusion h, fun h => Bool.noConfusion h, fun h => Bool.noConfusion h⟩, rfl, rfl, hs0, hR⟩
    · -- 7
      simp only [List.getElem?_toArray, List.getElem?_cons_succ, List.getElem?_cons_zero, Option.some.injEq] at ho
      subst ho
      have hbi : b7 = false := by simpa using hun
      subst hbi
      have hd6 : b6 = true := by have := hdep ⟨6, .data⟩ (by simp) rfl; simpa using this
      have hd5 : b5 = true := (e6 hd6)
      have hd4 : b4 = true := (e5 hd5).2
      have hd3 : b3 = true := (e4 hd4)
      have hd2 : b2 = true := (e3 hd3)
      have hd1 : b1 = true := (e2 hd2)
      have hd0 : b0 = true := (e5 hd5).1
      subst hd0 hd1 hd2 hd3 hd4 hd5 hd6
      obtain rfl : b10 = false := Bool.eq_false_iff.2 (fun h => Bool.noConfusion (e10 h).2)
      obtain rfl : b11 = false := Bool.eq_false_iff.2 (fun h => Bool.noConfusion (e11 h).2)
      refine wpOpIn_step rfl (fun K hK => ?_)
      clear hun hdep hi
      go_simp
      refine hK _ _ ⟨true, true, true, true, true, true, true, true, b8, b9, false, false, a, a', k, k', us, g, x, ⟨fun _ => rfl, fun _ => rfl, fun _ => rfl, fun _ => ⟨rfl, rfl⟩, fun _ => rfl, fun _ => rfl, e8, fun h => Bool.noConfusion h, fun h => Bool.noConfusion h⟩, rfl, rfl, hs0, hR⟩
    · -- 8
      simp only [List.getElem?_toArray, List.getElem?_cons_succ, List.getElem?_cons_zero, Option.some.injEq] at ho
      subst ho
      have hbi : b8 = false := by simpa using hun
      subst hbi
      have hd6 : b6 = true := by have := hdep ⟨6, .data⟩ (by simp) rfl; simpa using this
      have hd5 : b5 = true := (e6 hd6)
      have hd4 : b4 = true := (e5 hd5).2
      have hd3 : b3 = true := (e4 hd4)
      have hd2 : b2 = true := (e3 hd3)
      have hd1 : b1 = true := (e2 hd2)
      have hd0 : b0 = true := (e5 hd5).1
      subst hd0 hd1 hd2 hd3 hd4 hd5 hd6
      obtain rfl : b11 = false := Bool.eq_false_iff.2 (fun h => Bool.noConfusion (e11 h).1)
      refine wpOpIn_step rfl (fun K hK => ?_)
      clear hun hdep hi
      go_simp
      refine hK _ _ ⟨true, true, true, true, true, true, true, b7, true, b9, b10, false, a, a', k, k', us, g, x, ⟨fun _ => rfl, fun _ => rfl, fun _ => rfl, fun _ => ⟨rfl, rfl⟩, fun _ => rfl, e7, fun _ => rfl, e10, fun h => Bool.noConfusion h⟩, rfl, rfl, hs0, hR⟩
    · -- 9
      simp only [List.getElem?_toArray, List.getElem?_cons_succ, List.getElem?_cons_zero, Option.some.injEq] at ho
      subst ho
      have hbi : b9 = false := by simpa using hun
      subst hbi
      obtain rfl : b10 = false := Bool.eq_false_iff.2 (fun h => Bool.noConfusion (e10 h).1)
      obtain rfl : b11 = false := Bool.eq_false_iff.2 (fun h => Bool.noConfusion (e11 h).2)
      refine wpOpIn_step rfl (fun K hK => ?_)
      clear hun hdep hi
      go_simp
      refine hK _ _ ⟨b0, b1, b2, b3, b4, b5, b6, b7, b8, true, false, false, a, a', k, k', us, w'.heap.size, x, ⟨e2, e3, e4, e5, e6, e7, e8, fun h => Bool.noConfusion h, fun h => Bool.noConfusion h⟩, rfl, rfl, hs0, hR.box_⟩
    · -- 10
      simp only [List.getElem?_toArray, List.getElem?_cons_succ, List.getElem?_cons_zero, Option.some.injEq] at ho
      subst ho
      have hbi : b10 = false := by simpa using hun
      subst hbi
      have hd7 : b7 = true := by have := hdep ⟨7, .data⟩ (by simp) rfl; simpa using this
      have hd9 : b9 = true := by have := hdep ⟨9, .data⟩ (by simp) rfl; simpa using this
      have hd6 : b6 = true := (e7 hd7)
      have hd5 : b5 = true := (e6 hd6)
      have hd4 : b4 = true := (e5 hd5).2
      have hd3 : b3 = true := (e4 hd4)
      have hd2 : b2 = true := (e3 hd3)
      have hd1 : b1 = true := (e2 hd2)
      have hd0 : b0 = true := (e5 hd5).1
      subst hd0 hd1 hd2 hd3 hd4 hd5 hd6 hd7 hd9
      obtain rfl : b11 = false := Bool.eq_false_iff.2 (fun h => Bool.noConfusion (e11 h).2)
      refine wpOpIn_step rfl (fun K hK => ?_)
      clear hun hdep hi
      obtain ⟨q1, q2, q3, q4, q5, q6⟩ := hR.box rfl
      simp only [cond_false] at q3 q4 q5
      go_simp
      refine hK _ _ ⟨true, true, true, true, true, true, true, true, b8, true, true, false, a, a', k, k', us, g, x, ⟨fun _ => rfl, fun _ => rfl, fun _ => rfl, fun _ => ⟨rfl, rfl⟩, fun _ => rfl, fun _ => rfl, e8, fun _ => ⟨rfl, rfl⟩, fun h => Bool.noConfusion h⟩, rfl, rfl, hs0, hR.store_⟩
    · -- 11
      simp only [List.getElem?_toArray, List.getElem?_cons_succ, List.getElem?_cons_zero, Option.some.injEq] at ho
      subst ho
      have hbi : b11 = false := by simpa using hun
      subst hbi
      have hd8 : b8 = true := by have := hdep ⟨8, .data⟩ (by simp) rfl; simpa using this
      have hd10 : b10 = true := by have := hdep ⟨10, .chain⟩ (by simp) rfl; simpa using this
      have hd9 : b9 = true := (e10 hd10).1
      have hd7 : b7 = true := (e10 hd10).2
      have hd6 : b6 = true := (e7 hd7)
      have hd5 : b5 = true := (e6 hd6)
      have hd4 : b4 = true := (e5 hd5).2
      have hd3 : b3 = true := (e4 hd4)
      have hd2 : b2 = true := (e3 hd3)
      have hd1 : b1 = true := (e2 hd2)
      have hd0 : b0 = true := (e5 hd5).1
      subst hd0 hd1 hd2 hd3 hd4 hd5 hd6 hd7 hd8 hd9 hd10
      refine wpOpIn_step rfl (fun K hK => ?_)
      clear hun hdep hi
      go_simp
      refine hK _ _ ⟨true, true, true, true, true, true, true, true, true, true, true, true, a, a', k, k', us, g, x, ⟨fun _ => rfl, fun _ => rfl, fun _ => rfl, fun _ => ⟨rfl, rfl⟩, fun _ => rfl, fun _ => rfl, fun _ => rfl, fun _ => ⟨rfl, rfl⟩, fun _ => ⟨rfl, rfl⟩⟩, rfl, rfl, hs0, hR⟩

theorem fine_iv (M : List (List Int)) (Q : List Int) : FineR (ivOut M Q).1 := by
  have h := fine_pv M Q (2 ^ M.length - 1)
  exact ⟨h.m64, h.tot⟩
theorem OutRN.out {w w' : World} {o : List (List Int) × Int × Int} {e : Ending} (h : OutRN w o e w') :
    ∃ a c, e = .returned (.tuple #[.slice a o.1.length c, .int .i64 o.2.1, .int .i64 o.2.2]) ∧ RngR w.heap.size w'.heap.size w' (.slice a o.1.length c) o.1 ∧ Below w.heap.size w w' := by
  obtain ⟨a, c, us, rfl, ho, hb⟩ := h
  exact ⟨a, c, rfl, ⟨us, ho.rows, ho.mb, ho.ub⟩, hb⟩
set_option maxHeartbeats 4000000 in
theorem law_FnExactInverseOf (m q : Value) (M : List (List Int)) (Q : List Int) (w : World) (hG : Glob w) (h1 : PM.Rows w m M) (h2 : Ints w q Q) :
    Calls Tryd.prog 8 #[.agg #[m, q]] w fun e w' => e = .returned (.bool true) ∧ Below w.heap.size w w' := by
  have g1 := fun (w' : World) (h : Below w.heap.size w w') => h1.below h
  have gl := fun (w' : World) (h : Below w.heap.size w w') => hG.below h
  clear hG
  have g2 := fun (w' : World) (h : Below w.heap.size w w') => h2.below h
  have I1 := Lib.hid (rows_I64 h1)
  have I2 := Lib.hid (ints_I64 h2)
  obtain ⟨a1, c1, rfl, _⟩ := h1
  obtain ⟨a2, c2, rfl, _⟩ := h2
  by_cases hz : szP M Q 1048576 < 0
  · have e1 := szP_neg hz
    have E1 := Lib.hid e1
    clear hz e1
    go_enter Tryd.func8, Tryd.ntmps8
    go_wp2_with fail
    refine (szProblem_any _ _ M Q _ (g1 _ (by (repeat' (first | (with_reducible exact Below.refl _ _) | (with_reducible assumption) | (with_reducible refine Below.alloc ?_ ?_ _) | (with_reducible refine Below.drew ?_) | (with_reducible refine below_drewN ?_ _) | (with_reducible refine Below.setCell ?_ ?_ _) | (with_reducible refine Below.trans ?_ (Below.mono (by with_reducible assumption) ?_)) | (with_reducible exact Below.size (by with_reducible assumption)) | go_size)))) (g2 _ (by (repeat' (first | (with_reducible exact Below.refl _ _) | (with_reducible assumption) | (with_reducible refine Below.alloc ?_ ?_ _) | (with_reducible refine Below.drew ?_) | (with_reducible refine below_drewN ?_ _) | (with_reducible refine Below.setCell ?_ ?_ _) | (with_reducible refine Below.trans ?_ (Below.mono (by with_reducible assumption) ?_)) | (with_reducible exact Below.size (by with_reducible assumption)) | go_size))))).mono ?_; rw [E1.out]; rintro e w1 ⟨rfl, hb1⟩; obtain ⟨hc_hb1, hf_hb1⟩ := bcell hb1; obtain ⟨hcA_hb1, hfA_hb1⟩ := bcellG (W0 := w) hb1 (by (repeat' (first | (with_reducible exact Below.refl _ _) | (with_reducible assumption) | (with_reducible refine Below.alloc ?_ ?_ _) | (with_reducible refine Below.drew ?_) | (with_reducible refine below_drewN ?_ _) | (with_reducible refine Below.setCell ?_ ?_ _) | (with_reducible refine Below.trans ?_ (Below.mono (by with_reducible assumption) ?_)) | (with_reducible exact Below.size (by with_reducible assumption)) | go_size))); have hz_hb1 := hb1.size; (try simp at hz_hb1); (try simp only [Nat.add_one_le_iff] at hz_hb1); have hz0_hb1 : w.heap.size < w1.heap.size := (by omega)
    go_wp2_with fail
    go_ret
    refine ⟨rfl, ?_⟩
    (repeat' (first | (with_reducible exact Below.refl _ _) | (with_reducible assumption) | (with_reducible refine Below.alloc ?_ ?_ _) | (with_reducible refine Below.drew ?_) | (with_reducible refine below_drewN ?_ _) | (with_reducible refine Below.setCell ?_ ?_ _) | (with_reducible refine Below.trans ?_ (Below.mono (by with_reducible assumption) ?_)) | (with_reducible exact Below.size (by with_reducible assumption)) | go_size))
  obtain ⟨hn1, hn2⟩ := szP_fits hz
  have hle := szP_le M Q
  have HN1 := Lib.hid hn1
  have HN2 := Lib.hid hn2
  clear hn1 hn2
  have hspec := fun (m q : Value) (w : World) (h1 : PM.Rows w m M) (h2 : Ints w q Q) => specInverseOf_any m q M Q w h1 h2
  have himpl := fun (m q : Value) (w : World) (hg : Glob w) (h1 : PM.Rows w m M) (h2 : Ints w q Q) => implInverseOf_any m q M Q w hg h1 h2
  have hfine := fine_iv M Q
  generalize ivOut M Q = o at *
  obtain ⟨O, dn, code⟩ := o
  have HS := Lib.hid hspec
  have HI := Lib.hid himpl
  have HF : Hid (FineR O) := Lib.hid hfine
  clear hspec himpl hfine
  go_enter Tryd.func8, Tryd.ntmps8
  go_wp2_with fail
  refine (szProblem_any _ _ M Q _ (g1 _ (by (repeat' (first | (with_reducible exact Below.refl _ _) | (with_reducible assumption) | (with_reducible refine Below.alloc ?_ ?_ _) | (with_reducible refine Below.drew ?_) | (with_reducible refine below_drewN ?_ _) | (with_reducible refine Below.setCell ?_ ?_ _) | (with_reducible refine Below.trans ?_ (Below.mono (by with_reducible assumption) ?_)) | (with_reducible exact Below.size (by with_reducible assumption)) | go_size)))) (g2 _ (by (repeat' (first | (with_reducible exact Below.refl _ _) | (with_reducible assumption) | (with_reducible refine Below.alloc ?_ ?_ _) | (with_reducible refine Below.drew ?_) | (with_reducible refine below_drewN ?_ _) | (with_reducible refine Below.setCell ?_ ?_ _) | (with_reducible refine Below.trans ?_ (Below.mono (by with_reducible assumption) ?_)) | (with_reducible exact Below.size (by with_reducible assumption)) | go_size))))).mono ?_; rintro e w1 ⟨rfl, hb1⟩; obtain ⟨hc_hb1, hf_hb1⟩ := bcell hb1; obtain ⟨hcA_hb1, hfA_hb1⟩ := bcellG (W0 := w) hb1 (by (repeat' (first | (with_reducible exact Below.refl _ _) | (with_reducible assumption) | (with_reducible refine Below.alloc ?_ ?_ _) | (with_reducible refine Below.drew ?_) | (with_reducible refine below_drewN ?_ _) | (with_reducible refine Below.setCell ?_ ?_ _) | (with_reducible refine Below.trans ?_ (Below.mono (by with_reducible assumption) ?_)) | (with_reducible exact Below.size (by with_reducible assumption)) | go_size))); have hz_hb1 := hb1.size; (try simp at hz_hb1); (try simp only [Nat.add_one_le_iff] at hz_hb1); have hz0_hb1 : w.heap.size < w1.heap.size := (by omega)
  generalize szP M Q 1048576 = left at *
  have hw1 : Below w.heap.size w w1 := by (repeat' (first | (with_reducible exact Below.refl _ _) | (with_reducible assumption) | (with_reducible refine Below.alloc ?_ ?_ _) | (with_reducible refine Below.drew ?_) | (with_reducible refine below_drewN ?_ _) | (with_reducible refine Below.setCell ?_ ?_ _) | (with_reducible refine Below.trans ?_ (Below.mono (by with_reducible assumption) ?_)) | (with_reducible exact Below.size (by with_reducible assumption)) | go_size))
  go_wp2_with fail
  refine (toProblem_out _ _ M Q _ (g1 _ (by (repeat' (first | (with_reducible exact Below.refl _ _) | (with_reducible assumption) | (with_reducible refine Below.alloc ?_ ?_ _) | (with_reducible refine Below.drew ?_) | (with_reducible refine below_drewN ?_ _) | (with_reducible refine Below.setCell ?_ ?_ _) | (with_reducible refine Below.trans ?_ (Below.mono (by with_reducible assumption) ?_)) | (with_reducible exact Below.size (by with_reducible assumption)) | go_size)))) (g2 _ (by (repeat' (first | (with_reducible exact Below.refl _ _) | (with_reducible assumption) | (with_reducible refine Below.alloc ?_ ?_ _) | (with_reducible refine Below.drew ?_) | (with_reducible refine below_drewN ?_ _) | (with_reducible refine Below.setCell ?_ ?_ _) | (with_reducible refine Below.trans ?_ (Below.mono (by with_reducible assumption) ?_)) | (with_reducible exact Below.size (by with_reducible assumption)) | go_size)))) HN1.out HN2.out).mono ?_; rintro e w2 ⟨gA, gB, us2, rfl, hr2, hb2⟩; obtain ⟨hc_hb2, hf_hb2⟩ := bcell hb2; obtain ⟨hcA_hb2, hfA_hb2⟩ := bcellG (W0 := w1) hb2 (by (repeat' (first | (with_reducible exact Below.refl _ _) | (with_reducible assumption) | (with_reducible refine Below.alloc ?_ ?_ _) | (with_reducible refine Below.drew ?_) | (with_reducible refine below_drewN ?_ _) | (with_reducible refine Below.setCell ?_ ?_ _) | (with_reducible refine Below.trans ?_ (Below.mono (by with_reducible assumption) ?_)) | (with_reducible exact Below.size (by with_reducible assumption)) | go_size))); have hz_hb2 := hb2.size; (try simp at hz_hb2); (try simp only [Nat.add_one_le_iff] at hz_hb2); have hz0_hb2 : w.heap.size < w2.heap.size := (by omega)
  have R2 := Lib.hid (hr2.reads I1.out I2.out)
  clear hr2
  have hw2 : Below w.heap.size w w2 := hw1.trans (hb2.mono hw1.size)
  go_wp2_with fail
  refine (HS.out _ _ _ R2.out.1 R2.out.2).mono ?_; rintro e w3 ho3; obtain ⟨a3, c3, rfl, hr3, hb3⟩ := ho3.out; clear ho3; dsimp only at hr3; dsimp only; obtain ⟨hc_hb3, hf_hb3⟩ := bcell hb3; obtain ⟨hcA_hb3, hfA_hb3⟩ := bcellG (W0 := w2) hb3 (by (repeat' (first | (with_reducible exact Below.refl _ _) | (with_reducible assumption) | (with_reducible refine Below.alloc ?_ ?_ _) | (with_reducible refine Below.drew ?_) | (with_reducible refine below_drewN ?_ _) | (with_reducible refine Below.setCell ?_ ?_ _) | (with_reducible refine Below.trans ?_ (Below.mono (by with_reducible assumption) ?_)) | (with_reducible exact Below.size (by with_reducible assumption)) | go_size))); have hz_hb3 := hb3.size; (try simp at hz_hb3); (try simp only [Nat.add_one_le_iff] at hz_hb3); have hz0_hb3 : w.heap.size < w3.heap.size := (by omega)
  have HR3 := Lib.hid hr3
  clear hr3 R2
  have hw3 : Below w.heap.size w w3 := hw2.trans (hb3.mono hw2.size)
  go_wp2_with fail
  refine (toProblem_out _ _ M Q _ (g1 _ (by (repeat' (first | (with_reducible exact Below.refl _ _) | (with_reducible assumption) | (with_reducible refine Below.alloc ?_ ?_ _) | (with_reducible refine Below.drew ?_) | (with_reducible refine below_drewN ?_ _) | (with_reducible refine Below.setCell ?_ ?_ _) | (with_reducible refine Below.trans ?_ (Below.mono (by with_reducible assumption) ?_)) | (with_reducible exact Below.size (by with_reducible assumption)) | go_size)))) (g2 _ (by (repeat' (first | (with_reducible exact Below.refl _ _) | (with_reducible assumption) | (with_reducible refine Below.alloc ?_ ?_ _) | (with_reducible refine Below.drew ?_) | (with_reducible refine below_drewN ?_ _) | (with_reducible refine Below.setCell ?_ ?_ _) | (with_reducible refine Below.trans ?_ (Below.mono (by with_reducible assumption) ?_)) | (with_reducible exact Below.size (by with_reducible assumption)) | go_size)))) HN1.out HN2.out).mono ?_; rintro e w4 ⟨gC, gD, us4, rfl, hr4, hb4⟩; obtain ⟨hc_hb4, hf_hb4⟩ := bcell hb4; obtain ⟨hcA_hb4, hfA_hb4⟩ := bcellG (W0 := w3) hb4 (by (repeat' (first | (with_reducible exact Below.refl _ _) | (with_reducible assumption) | (with_reducible refine Below.alloc ?_ ?_ _) | (with_reducible refine Below.drew ?_) | (with_reducible refine below_drewN ?_ _) | (with_reducible refine Below.setCell ?_ ?_ _) | (with_reducible refine Below.trans ?_ (Below.mono (by with_reducible assumption) ?_)) | (with_reducible exact Below.size (by with_reducible assumption)) | go_size))); have hz_hb4 := hb4.size; (try simp at hz_hb4); (try simp only [Nat.add_one_le_iff] at hz_hb4); have hz0_hb4 : w.heap.size < w4.heap.size := (by omega)
  have HR4 := Lib.hid hr4
  clear hr4
  have hw4 : Below w.heap.size w w4 := hw3.trans (hb4.mono hw3.size)
  go_wp2_with fail
  have hr4a := HR4.out.below (w' := w4.alloc (.cells #[.slice (some ⟨gC, 0, none⟩) M.length M.length, .slice (some ⟨gD, 0, none⟩) Q.length Q.length] 31)) (B := w4.heap.size) ((Below.refl _ _).alloc (Nat.le_refl _) _) (Nat.le_refl _)
  have R4 := Lib.hid (hr4a.reads I1.out I2.out)
  clear hr4a
  refine (HI.out _ _ _ (gl _ (by (repeat' (first | (with_reducible exact Below.refl _ _) | (with_reducible assumption) | (with_reducible refine Below.alloc ?_ ?_ _) | (with_reducible refine Below.drew ?_) | (with_reducible refine below_drewN ?_ _) | (with_reducible refine Below.setCell ?_ ?_ _) | (with_reducible refine Below.trans ?_ (Below.mono (by with_reducible assumption) ?_)) | (with_reducible exact Below.size (by with_reducible assumption)) | go_size)))) R4.out.1 R4.out.2).mono ?_; rintro e w5 ho5; obtain ⟨a5, c5, rfl, hr5, hb5⟩ := ho5.out; clear ho5; dsimp only at hr5; dsimp only; obtain ⟨hc_hb5, hf_hb5⟩ := bcell hb5; obtain ⟨hcA_hb5, hfA_hb5⟩ := bcellG (W0 := w4) hb5 (by (repeat' (first | (with_reducible exact Below.refl _ _) | (with_reducible assumption) | (with_reducible refine Below.alloc ?_ ?_ _) | (with_reducible refine Below.drew ?_) | (with_reducible refine below_drewN ?_ _) | (with_reducible refine Below.setCell ?_ ?_ _) | (with_reducible refine Below.trans ?_ (Below.mono (by with_reducible assumption) ?_)) | (with_reducible exact Below.size (by with_reducible assumption)) | go_size))); have hz_hb5 := hb5.size; (try simp at hz_hb5); (try simp only [Nat.add_one_le_iff] at hz_hb5); have hz0_hb5 : w.heap.size < w5.heap.size := (by omega)
  have hz45 : w4.heap.size < w5.heap.size := by omega
  have HR5 := Lib.hid hr5
  clear hr5 R4
  have hw45 : Below w4.heap.size w4 w5 := ((Below.refl w4.heap.size w4).alloc (Nat.le_refl _) _).trans (hb5.mono (by simp))
  have x50 : w5.cell? ⟨w4.heap.size, 0, none⟩ = some (.slice (some ⟨gC, 0, none⟩) M.length M.length) := by rw [hc_hb5 _ _ (by simp)]; simp
  have x51 : w5.cell? ⟨w4.heap.size, 1, none⟩ = some (.slice (some ⟨gD, 0, none⟩) Q.length Q.length) := by rw [hc_hb5 _ _ (by simp)]; simp
  have hw13 : Below w1.heap.size w1 w3 := hb2.trans (hb3.mono hb2.size)
  have hw35 : Below w3.heap.size w3 w5 := hb4.trans (hw45.mono hb4.size)
  have hw15 : Below w1.heap.size w1 w5 := hw13.trans (hw35.mono hw13.size)
  have hw5 : Below w.heap.size w w5 := hw3.trans (hw35.mono hw3.size)
  have p10 : w1.cell? ⟨w.heap.size, 0, none⟩ = some (.slice a1 M.length c1) := by rw [hc_hb1 _ _ (by simp)]; simp
  have p11 : w1.cell? ⟨w.heap.size, 1, none⟩ = some (.slice a2 Q.length c2) := by rw [hc_hb1 _ _ (by simp)]; simp
  have hvq : Vq w5 w.heap.size w4.heap.size (.slice a1 M.length c1) (.slice a2 Q.length c2) (.slice (some ⟨gC, 0, none⟩) M.length M.length) (.slice (some ⟨gD, 0, none⟩) Q.length Q.length) :=
    ⟨(hw15.cell (p := ⟨w.heap.size, 0, none⟩) hz0_hb1).trans p10, (hw15.cell (p := ⟨w.heap.size, 1, none⟩) hz0_hb1).trans p11, x50, x51, by omega, hz45⟩
  have hA5 := HR3.out.below hw35 (Nat.le_refl _)
  have hX5 := HR4.out.below hw45 (Nat.le_refl _)
  have hG5 := HR5.out
  rw [show (w4.alloc (.cells #[.slice (some ⟨gC, 0, none⟩) M.length M.length, .slice (some ⟨gD, 0, none⟩) Q.length Q.length] 31)).heap.size = w4.heap.size + 1 by simp] at hG5
  have hPA : w.heap.size < w2.heap.size := by omega
  obtain ⟨P, hP⟩ : ∃ P, P = w.heap.size := ⟨_, rfl⟩
  obtain ⟨A0, hA0⟩ : ∃ A0, A0 = w2.heap.size := ⟨_, rfl⟩
  obtain ⟨A1, hA1⟩ : ∃ A1, A1 = w3.heap.size := ⟨_, rfl⟩
  obtain ⟨V, hV⟩ : ∃ V, V = w4.heap.size := ⟨_, rfl⟩
  have hAV : A0 ≤ A1 ∧ A1 ≤ V := by have := hb3.size; have := hb4.size; omega
  obtain ⟨hAV1, hAV2⟩ := hAV
  obtain ⟨G1, hG1⟩ : ∃ G1, G1 = w5.heap.size := ⟨_, rfl⟩
  have hGz : G1 ≤ w5.heap.size := by omega
  have hVG : V < G1 := by omega
  rw [← hP] at hvq hPA
  rw [← hA0] at hA5 hPA
  rw [← hA1] at hA5 hX5
  rw [← hV] at hX5 hG5 hvq hz45
  rw [← hG1] at hG5
  rw [← hP, ← hV]
  have hPw : P ≤ w.heap.size := by omega
  have hwP : w.heap.size ≤ P := by omega
  clear hP hA0 hA1 hV hG1 hw13 hw15 hw35 hw45 p10 p11 x50 x51 HR3 HR4 HR5 hw1 hw2 hw3 hw4 HS
  clear hc_hb1 hf_hb1 hcA_hb1 hfA_hb1 hz_hb1 hz0_hb1 hb1 hc_hb2 hf_hb2 hcA_hb2 hfA_hb2 hz_hb2 hz0_hb2 hb2 hc_hb3 hf_hb3 hcA_hb3 hfA_hb3 hz_hb3 hz0_hb3 hb3 hc_hb4 hf_hb4 hcA_hb4 hfA_hb4 hz_hb4 hz0_hb4 hb4 hc_hb5 hf_hb5 hcA_hb5 hfA_hb5 hz_hb5 hz0_hb5 hb5
  have HA5 := Lib.hid hA5
  have HX5 := Lib.hid hX5
  have HG5 := Lib.hid hG5
  have HV5 := Lib.hid hvq
  clear hA5 hX5 hG5 hvq
  go_wp2_with fail
  refine (eqR_ans HG5.out HA5.out HF.out).mono ?_; rintro e w6 ⟨rfl, hb6⟩
  have hw6 : Below w.heap.size w w6 := hw5.trans (hb6.mono hw5.size)
  have hz6 := hb6.size
  have HA := Lib.hid (HA5.out.below hb6 (by omega))
  have HX := Lib.hid (HX5.out.below hb6 (by omega))
  have HG := Lib.hid (HG5.out.below hb6 (by omega))
  have hv6 := HV5.out.next hb6
  have HV := Lib.hid hv6
  have hGz6 : G1 ≤ w6.heap.size := by omega
  have RX := Lib.hid (HX.out.reads I1.out I2.out)
  obtain ⟨k1, k2, k3, k4, l1, l2⟩ := hv6
  have r1 : ∀ w', Below w6.heap.size w6 w' → w'.cell? ⟨P, 0, none⟩ = some (.slice a1 M.length c1) := fun w' h => (h.cell (p := ⟨P, 0, none⟩) (by show P < _; omega)).trans k1
  have r2 : ∀ w', Below w6.heap.size w6 w' → w'.cell? ⟨P, 1, none⟩ = some (.slice a2 Q.length c2) := fun w' h => (h.cell (p := ⟨P, 1, none⟩) (by show P < _; omega)).trans k2
  have r3 : ∀ w', Below w6.heap.size w6 w' → w'.cell? ⟨V, 0, none⟩ = some (.slice (some ⟨gC, 0, none⟩) M.length M.length) := fun w' h => (h.cell (p := ⟨V, 0, none⟩) (by show V < _; omega)).trans k3
  have r4 : ∀ w', Below w6.heap.size w6 w' → w'.cell? ⟨V, 1, none⟩ = some (.slice (some ⟨gD, 0, none⟩) Q.length Q.length) := fun w' h => (h.cell (p := ⟨V, 1, none⟩) (by show V < _; omega)).trans k4
  clear HA5 HX5 HG5 HV5 hb6 hw5 hGz hz6 k1 k2 k3 k4 hz45
  go_wp2_with fail
  go_region_held3 (fun w' => Below w6.heap.size w6 w') ((repeat' (first | (with_reducible exact Below.refl _ _) | (with_reducible assumption) | (with_reducible refine Below.alloc ?_ ?_ _) | (with_reducible refine Below.drew ?_) | (with_reducible refine below_drewN ?_ _) | (with_reducible refine Below.setCell ?_ ?_ _) | (with_reducible refine Below.trans ?_ (Below.mono (by with_reducible assumption) ?_)) | (with_reducible exact Below.size (by with_reducible assumption)) | go_size)))
    (first | (go_at_call 13; refine (toProblem_out _ _ M Q _ (g1 _ (hw6.trans (Below.mono (by assumption) hw6.size))) (g2 _ (hw6.trans (Below.mono (by assumption) hw6.size))) HN1.out HN2.out).mono ?_; rintro e w8 ⟨gE, gF, us8, rfl, hr8, hb8⟩; have hS8 : Below w6.heap.size w6 w8 := (by (repeat' (first | (with_reducible exact Below.refl _ _) | (with_reducible assumption) | (with_reducible refine Below.alloc ?_ ?_ _) | (with_reducible refine Below.drew ?_) | (with_reducible refine below_drewN ?_ _) | (with_reducible refine Below.setCell ?_ ?_ _) | (with_reducible refine Below.trans ?_ (Below.mono (by with_reducible assumption) ?_)) | (with_reducible exact Below.size (by with_reducible assumption)) | go_size))); have R8 := Lib.hid (hr8.reads I1.out I2.out); clear hr8) | (go_at_call 16; refine (eqProblem_same _ _ _ _ M Q _ (RX.out.1.below hS8) (RX.out.2.below hS8) R8.out.1 R8.out.2).mono ?_; rintro e w9 ⟨rfl, hb9⟩; have hS9 : Below w6.heap.size w6 w9 := (by (repeat' (first | (with_reducible exact Below.refl _ _) | (with_reducible assumption) | (with_reducible refine Below.alloc ?_ ?_ _) | (with_reducible refine Below.drew ?_) | (with_reducible refine below_drewN ?_ _) | (with_reducible refine Below.setCell ?_ ?_ _) | (with_reducible refine Below.trans ?_ (Below.mono (by with_reducible assumption) ?_)) | (with_reducible exact Below.size (by with_reducible assumption)) | go_size)))))
  have x90 := r3 _ hS9
  have x91 := r4 _ hS9
  have hw9 : Below w.heap.size w w9 := hw6.trans (hS9.mono hw6.size)
  have hz9 := hS9.size
  have HX9 := Lib.hid (HX.out.below hS9 (by omega))
  have HG9 := Lib.hid (HG.out.below hS9 (by omega))
  have HA9 := Lib.hid (HA.out.below hS9 (by omega))
  have HV9 := Lib.hid (HV.out.next hS9)
  have hGz9 : G1 ≤ w9.heap.size := by omega
  have lP9 : P < w9.heap.size := by omega
  have lV9 : V < w9.heap.size := by omega
  clear HX HG HA HV RX R8 r1 r2 r3 r4 hS9 hb9 hS8 hb8 hw6 hGz6 hz9 l1 l2
  have hkb : (1 : Int) + tot M + Q.length ≤ 4611686018427387904 := by have := HN1.out; have := HN2.out; omega
  have hc10 := markProblem_any A1 V _ _ M Q us4 1 _ HX9.out (by omega) (by decide) hkb
  generalize pre M M.length = pM at hc10
  have hp0 : 0 ≤ (1 : Int) + pM + Q.length := by omega
  have HC10 := Lib.hid hc10
  clear hc10 hkb
  go_wp2_with fail
  refine HC10.out.mono ?_; rintro e w10 ⟨rfl, _, hbt10⟩
  have hsz10 := hbt10.size
  have v10 := HV9.out.bet hbt10 (.inl (by omega)) (.inr (by omega))
  have hw10 : Below w.heap.size w w10 := hw9.trans ((hbt10.below (by omega)).mono (by omega))
  have HG10 := Lib.hid (HG9.out.bet hbt10 (.inr (by omega)))
  have HA10 := Lib.hid (HA9.out.bet hbt10 (.inl (by omega)))
  have HV10 := Lib.hid v10
  have hGz10 : G1 ≤ w10.heap.size := by omega
  clear HC10 HX9 HV9 HG9 HA9 v10 hbt10 hw9 x90 x91 hGz9 hsz10 lP9 lV9
  go_wp2_with fail
  refine (eqR_ans HG10.out HA10.out HF.out).mono ?_; rintro e w11 ⟨rfl, hb11⟩
  have hsz11 := hb11.size
  have hw11 : Below w.heap.size w w11 := hw10.trans (hb11.mono hw10.size)
  have HG11 := Lib.hid (HG10.out.below hb11 (by omega))
  have HA11 := Lib.hid (HA10.out.below hb11 (by omega))
  have HV11 := Lib.hid (HV10.out.next hb11)
  have hGz11 : G1 ≤ w11.heap.size := by omega
  clear HG10 HA10 HV10 hb11 hw10 hGz10 hsz11
  have hsl := sizeR_le HF.out
  generalize hsg : sizeR O = sz at hsl
  have HSG := Lib.hid hsg
  clear hsg
  go_wp2_with fail
  refine (markR_ans HG11.out HF.out).mono ?_; rw [HSG.out]; rintro e w12 ⟨rfl, hm12, hbt12⟩
  have hsz12 := hbt12.size
  have hVz := HV11.out.lV
  have hPz := HV11.out.lP
  have hw12 : Below w.heap.size w w12 := hw11.trans ((hbt12.below (by omega)).mono (by omega))
  have HA12 := Lib.hid (HA11.out.bet hbt12 (.inl (by omega)))
  have HV12 := Lib.hid (HV11.out.bet hbt12 (.inl (by omega)) (.inl (by omega)))
  have HM12 := Lib.hid hm12
  have hGz12 : G1 ≤ w12.heap.size := by omega
  clear HG11 HA11 HV11 hm12 hbt12 hw11 hGz11 hsz12 hVz hPz
  go_wp2_with fail
  refine (heldR_ans HM12.out HF.out).mono ?_; rw [HSG.out]; rintro e w13 ⟨rfl, hb13⟩
  have hsz13 := hb13.size
  have hw13 : Below w.heap.size w w13 := hw12.trans (hb13.mono hw12.size)
  have HM13 := Lib.hid (HM12.out.below hb13 (by omega))
  have HA13 := Lib.hid (HA12.out.below hb13 (by omega))
  have v13 := HV12.out.next hb13
  have HV13 := Lib.hid v13
  obtain ⟨q1, q2, q3, q4, l1, l2⟩ := v13
  have hGz13 : G1 ≤ w13.heap.size := by omega
  clear HM12 HA12 HV12 hb13 hw12 hGz12 hsz13 q3 q4 l1 l2
  go_wp2_with fail
  refine (toProblem_out _ _ M Q _ (g1 _ hw13) (g2 _ hw13) HN1.out HN2.out).mono ?_; rintro e w14 ⟨gE, gF, us14, rfl, hr14, hb14⟩
  have hsz14 := hb14.size
  have hw14 : Below w.heap.size w w14 := hw13.trans (hb14.mono hw13.size)
  have R14 := Lib.hid (hr14.reads I1.out I2.out)
  have HM14 := Lib.hid (HM13.out.below hb14 (by omega))
  have HA14 := Lib.hid (HA13.out.below hb14 (by omega))
  have hGz14 : G1 ≤ w14.heap.size := by omega
  clear hr14 HV13 HM13 HA13 hb14 hw13 hGz13 hsz14 q1 q2
  go_wp2_with fail
  refine (HI.out _ _ _ (gl _ (by (repeat' (first | (with_reducible exact Below.refl _ _) | (with_reducible assumption) | (with_reducible refine Below.alloc ?_ ?_ _) | (with_reducible refine Below.drew ?_) | (with_reducible refine below_drewN ?_ _) | (with_reducible refine Below.setCell ?_ ?_ _) | (with_reducible refine Below.trans ?_ (Below.mono (by with_reducible assumption) ?_)) | (with_reducible exact Below.size (by with_reducible assumption)) | go_size)))) R14.out.1 R14.out.2).mono ?_; rintro e w15 ho15; obtain ⟨a15, c15, rfl, hr15, hb15⟩ := ho15.out; clear ho15; dsimp only at hr15; dsimp only
  have hsz15 := hb15.size
  have hw15 : Below w.heap.size w w15 := hw14.trans (hb15.mono hw14.size)
  have HM15 := Lib.hid (HM14.out.below hb15 (by omega))
  have HA15 := Lib.hid (HA14.out.below hb15 (by omega))
  have HH15 := Lib.hid hr15
  have hGz15 : G1 ≤ w15.heap.size := by omega
  clear hr15 HM14 HA14 hb15 hw14 hGz14 hsz15 R14
  go_wp2_with fail
  refine (eqR_ans HH15.out HA15.out HF.out).mono ?_; rintro e w16 ⟨rfl, hb16⟩
  have hw16 : Below w.heap.size w w16 := hw15.trans (hb16.mono hw15.size)
  have HM16 := Lib.hid (HM15.out.below hb16 (by omega))
  clear HM15 HA15 HH15 hb16 hw15
  go_wp2_with fail
  refine (heldR_ans HM16.out HF.out).mono ?_; rw [HSG.out]; rintro e w17 ⟨rfl, hb17⟩
  have hw17 : Below w.heap.size w w17 := hw16.trans (hb17.mono hw16.size)
  go_wp2_with fail
  go_ret
  exact ⟨rfl, hw17⟩
end Go.Proofs.YthnefjllijoobaaDoor.PW
