/-
  Walks: the rows of the columns of a set: both sides' answers.
-/
import Derived.Test.YtbcclhdfpboidaaDoorPColsS
namespace Go.Proofs.YtbcclhdfpboidaaDoor.PW
open Go.RowKit Go.Proofs.YtbcclhdfpboidaaDoor
open Go.Proofs.YtbcclhdfpboidaaDoor.PM

theorem tab_tot (n : Nat) (g : Nat → Nat → Int) (hn : n ≤ 5) : PM.tot (tab n g) ≤ 1048576 := by
  unfold PM.tot
  have h : ((tab n g).map List.length).sum = n * n := by
    unfold tab
    rw [List.map_map]
    have : (List.length ∘ fun i => (List.range n).map (g i)) = fun _ => n := by funext i; simp
    rw [this, List.map_const', List.sum_replicate_nat]
    simp
  rw [h, tab_length]
  have : n * n ≤ 5 * 5 := Nat.mul_le_mul hn hn
  omega
/-- Rows of the call's own, or none. -/
structure OwnRs (B : Nat) (w : World) (v : Value) (xss : List (List Int)) (us : List Value) : Prop where
  rows : OwnR w v xss us
  mb : ∀ b, v.ownBlock = some b → B ≤ b ∧ b < w.heap.size
  ub : ∀ i b, i < xss.length → (us.getD i undef).ownBlock = some b → B ≤ b ∧ b < w.heap.size
theorem FreshR.ownRs {B : Nat} {w : World} {v : Value} {xss : List (List Int)} {us : List Value} (h : FreshR B w v xss us) : OwnRs B w v xss us := by
  obtain ⟨g, cap, hv, h1, h2⟩ := h.top
  exact ⟨h.own, fun b hb => by rw [hv] at hb; simp [Value.ownBlock] at hb; omega, h.rows⟩
theorem ownRs_nil (B : Nat) (w : World) : OwnRs B w (.slice none 0 0) [] [] :=
  ⟨⟨rfl, World.ownsRow_nil _ _ _ _, fun i hi => absurd hi (Nat.not_lt_zero _), fun i j b hi => absurd hi (Nat.not_lt_zero _), fun i b hi => absurd hi (Nat.not_lt_zero _)⟩,
    fun b hb => by simp [Value.ownBlock] at hb, fun i b hi => absurd hi (Nat.not_lt_zero _)⟩
/-- What a function leaves that returns rows and a code. -/
def OutR (w : World) (o : List (List Int) × Int) (e : Ending) (w' : World) : Prop :=
  ∃ v us, e = .returned (.tuple #[v, .int .i64 o.2]) ∧ OwnRs w.heap.size w' v o.1 us ∧ Below w.heap.size w w'

def colsOut (M : List (List Int)) (Q : List Int) (s : Int) : List (List Int) × Int :=
  if setCode M Q s = 0 then (tab M.length (colS M s), 0) else ([], setCode M Q s)
theorem setCode_cases (M : List (List Int)) (Q : List Int) (s : Int) : setCode M Q s = 1 ∨ setCode M Q s = 2 ∨ (setCode M Q s = 0 ∧ isPB M Q = true ∧ 0 ≤ s ∧ s < 2 ^ M.length) := by
  unfold setCode
  cases h : isPB M Q
  · left; simp
  · right
    rw [if_neg (by simp)]
    by_cases h2 : s < 0 ∨ (2 : Int) ^ M.length ≤ s
    · left; rw [if_pos h2]
    · right; rw [if_neg h2]; exact ⟨rfl, rfl, by omega, by omega⟩
theorem colsOut_err {M : List (List Int)} {Q : List Int} {s c : Int} (h : setCode M Q s = c) (hc : c ≠ 0) : colsOut M Q s = ([], c) := by unfold colsOut; rw [if_neg (by omega), h]
theorem colsOut_ok {M : List (List Int)} {Q : List Int} {s : Int} (h : setCode M Q s = 0) : colsOut M Q s = (tab M.length (colS M s), 0) := by unfold colsOut; rw [if_pos h]
theorem ent_bd {M : List (List Int)} {Q : List Int} (h : isPB M Q = true) : ∀ j c, j < M.length → c < M.length → -20 ≤ ent M j c ∧ ent M j c ≤ 20 := fun j c hj hc => ((isPB_facts h).2.2.2.1 j hj).2 c hc

theorem implColumnsOf_err (m q : Value) (M : List (List Int)) (Q : List Int) (s c : Int) (w : World) (h1 : PM.Rows w m M) (h2 : Ints w q Q) (hc : setCode M Q s = c) (hcc : c = 1 ∨ c = 2) :
    Calls Tryd.prog 87 #[.agg #[m, q], .int .i64 s] w (OutR w ([], c)) := by
  have g1 := fun (w' : World) (h : Below w.heap.size w w') => h1.below h
  have g2 := fun (w' : World) (h : Below w.heap.size w w') => h2.below h
  obtain ⟨a1, c1, rfl, _⟩ := h1
  obtain ⟨a2, c2, rfl, _⟩ := h2
  have HC := Lib.hid hc
  clear hc
  rcases hcc with rfl | rfl
  all_goals
    go_enter Tryd.func87, Tryd.ntmps87
    go_wp2_with fail
    refine (checkSet_any _ _ M Q s _ (g1 _ (by (repeat' (first | (with_reducible exact Below.refl _ _) | (with_reducible assumption) | (with_reducible refine Below.alloc ?_ ?_ _) | (with_reducible refine Below.drew ?_) | (with_reducible refine below_drewN ?_ _) | (with_reducible refine Below.setCell ?_ ?_ _) | (with_reducible refine Below.trans ?_ (Below.mono (by with_reducible assumption) ?_)) | (with_reducible exact Below.size (by with_reducible assumption)) | go_size)))) (g2 _ (by (repeat' (first | (with_reducible exact Below.refl _ _) | (with_reducible assumption) | (with_reducible refine Below.alloc ?_ ?_ _) | (with_reducible refine Below.drew ?_) | (with_reducible refine below_drewN ?_ _) | (with_reducible refine Below.setCell ?_ ?_ _) | (with_reducible refine Below.trans ?_ (Below.mono (by with_reducible assumption) ?_)) | (with_reducible exact Below.size (by with_reducible assumption)) | go_size))))).mono ?_; rw [HC.out]; rintro e w1 ⟨rfl, hb1⟩; obtain ⟨hc_hb1, hf_hb1⟩ := bcell hb1; obtain ⟨hcA_hb1, hfA_hb1⟩ := bcellG (W0 := w) hb1 (by (repeat' (first | (with_reducible exact Below.refl _ _) | (with_reducible assumption) | (with_reducible refine Below.alloc ?_ ?_ _) | (with_reducible refine Below.drew ?_) | (with_reducible refine below_drewN ?_ _) | (with_reducible refine Below.setCell ?_ ?_ _) | (with_reducible refine Below.trans ?_ (Below.mono (by with_reducible assumption) ?_)) | (with_reducible exact Below.size (by with_reducible assumption)) | go_size))); have hz_hb1 := hb1.size; (try simp at hz_hb1); (try simp only [Nat.add_one_le_iff] at hz_hb1); have hz0_hb1 : w.heap.size < w1.heap.size := (by omega)
    go_wp2_with fail
    go_ret2
    exact ⟨_, [], rfl, ownRs_nil _ _, by (repeat' (first | (with_reducible exact Below.refl _ _) | (with_reducible assumption) | (with_reducible refine Below.alloc ?_ ?_ _) | (with_reducible refine Below.drew ?_) | (with_reducible refine below_drewN ?_ _) | (with_reducible refine Below.setCell ?_ ?_ _) | (with_reducible refine Below.trans ?_ (Below.mono (by with_reducible assumption) ?_)) | (with_reducible exact Below.size (by with_reducible assumption)) | go_size))⟩
theorem implColumnsOf_any (m q : Value) (M : List (List Int)) (Q : List Int) (s : Int) (w : World) (h1 : PM.Rows w m M) (h2 : Ints w q Q) :
    Calls Tryd.prog 87 #[.agg #[m, q], .int .i64 s] w (OutR w (colsOut M Q s)) := by
  rcases setCode_cases M Q s with h | h | ⟨h, hp, hs0, hs1⟩
  · rw [colsOut_err h (by omega)]; exact implColumnsOf_err m q M Q s 1 w h1 h2 h (.inl rfl)
  · rw [colsOut_err h (by omega)]; exact implColumnsOf_err m q M Q s 2 w h1 h2 h (.inr rfl)
  · rw [colsOut_ok h]
    obtain ⟨f1, f2, f3, f4, f5⟩ := isPB_facts hp
    have h1' := h1
    obtain ⟨a1, c1, rfl, _⟩ := h1
    refine (callsIn_wide.1 (columnsOf_ok a1 c1 q M Q s w h1' h2 h f1 f2 (fun j hj => (f4 j hj).1) (ent_bd hp) hs0 hs1)).mono ?_
    rintro e w' ⟨g, us, rfl, hf, hb⟩
    rw [colG_colS] at hf
    exact ⟨_, us, rfl, hf.ownRs, hb⟩
end Go.Proofs.YtbcclhdfpboidaaDoor.PW
