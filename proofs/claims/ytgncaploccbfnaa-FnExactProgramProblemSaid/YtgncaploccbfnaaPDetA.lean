/-
  The exact law of DeterminantOf: both sides' answers, and the law.
-/
import Derived.Test.YtgncaploccbfnaaPLapW
import Derived.Test.YtgncaploccbfnaaPAnsR
namespace Go.Proofs.Ytgncaploccbfnaa.PW
open Go.RowKit Go.Proofs.Ytgncaploccbfnaa
open Go.Proofs.Ytgncaploccbfnaa.PM Go.Proofs.Ytgncaploccbfnaa.PX

theorem ent_out {xss : List (List Int)} {n : Nat} (hl : xss.length = n) (hrl : ∀ i, i < n → (xss.getD i []).length = n) (i j : Nat) (h : ¬ (i < n ∧ j < n)) : ent xss i j = 0 := by
  unfold ent
  by_cases hi : i < n
  · have hj : ¬ j < n := fun c => h ⟨hi, c⟩
    rw [List.getD_eq_getElem?_getD, List.getElem?_eq_none (by rw [hrl i hi]; omega)]
    rfl
  · rw [List.getD_eq_getElem?_getD (l := xss), List.getElem?_eq_none (by omega)]
    rfl
theorem ent_bdAll {xss : List (List Int)} {n : Nat} {B : Nat → Int} (hl : xss.length = n) (hrl : ∀ i, i < n → (xss.getD i []).length = n) (h0 : ∀ j, 0 ≤ B j) (h : ∀ i j, i < n → j < n → Bd (B j) (ent xss i j)) (i j : Nat) : Bd (B j) (ent xss i j) := by
  by_cases c : i < n ∧ j < n
  · exact h i j c.1 c.2
  · rw [ent_out hl hrl i j c]
    have := h0 j
    unfold Bd
    omega
theorem tab_rl (n : Nat) (g : Nat → Nat → Int) : ∀ i, i < n → ((tab n g).getD i []).length = n := fun i hi => by rw [tab_row _ _ _ hi, row_length]
theorem u_pos (j0 j : Nat) : 0 ≤ 20 * u j0 j := by unfold u; split <;> omega
theorem u_ge (j0 j : Nat) : 20 ≤ 20 * u j0 j := by unfold u; split <;> omega
theorem colS_all {M : List (List Int)} {Q : List Int} (h : isPB M Q = true) (s : Int) (a b : Nat) : Bd 20 (colS M s a b) := by
  obtain ⟨_, _, _, f4, _⟩ := isPB_facts h
  have := ent_bdAll (B := fun _ => 20) rfl (fun i hi => (f4 i hi).1) (fun _ => by decide) (fun i j hi hj => by have := ent_bd h i j hi hj; unfold Bd; omega) a b
  unfold colS
  split
  · exact this.neg
  · unfold unitG Bd; split <;> omega

/-- What a function leaves that returns a number, or a bool, and a code. -/
def OutN (w : World) (o : Int × Int) (e : Ending) (w' : World) : Prop := e = .returned (.tuple #[.int .i64 o.1, .int .i64 o.2]) ∧ Below w.heap.size w w'
def OutB (w : World) (o : Bool × Int) (e : Ending) (w' : World) : Prop := e = .returned (.tuple #[.bool o.1, .int .i64 o.2]) ∧ Below w.heap.size w w'

def detOut (M : List (List Int)) (Q : List Int) (s : Int) : Int × Int := if setCode M Q s = 0 then (dt M.length (colS M s), 0) else (0, setCode M Q s)
theorem detOut_err {M : List (List Int)} {Q : List Int} {s c : Int} (h : setCode M Q s = c) (hc : c ≠ 0) : detOut M Q s = (0, c) := by unfold detOut; rw [if_neg (by omega), h]
theorem detOut_ok {M : List (List Int)} {Q : List Int} {s : Int} (h : setCode M Q s = 0) : detOut M Q s = (dt M.length (colS M s), 0) := by unfold detOut; rw [if_pos h]

/-- The determinant of rows that are told by a function. -/
theorem RngR.rows {lo hi : Nat} {w : World} {v : Value} {xss : List (List Int)} (h : RngR lo hi w v xss) (hx : ∀ i, i < xss.length → ∀ x ∈ xss.getD i [], I64 x) : PM.Rows w v xss := by
  obtain ⟨us, ho, _⟩ := h.own
  exact ho.rows' hx
theorem tab_I64 {n : Nat} {g : Nat → Nat → Int} {B : Int} (hB : B ≤ 9223372036854775807) (h : ∀ i j, i < n → j < n → Bd B (g i j)) : ∀ i, i < (tab n g).length → ∀ x ∈ (tab n g).getD i [], I64 x := by
  intro i hi x hx
  rw [tab_length] at hi
  rw [tab_row _ _ _ hi] at hx
  obtain ⟨j, hj, rfl⟩ := List.mem_map.1 hx
  have := h i j hi (by simpa using hj)
  unfold Bd at this
  unfold I64
  omega

end Go.Proofs.Ytgncaploccbfnaa.PW
