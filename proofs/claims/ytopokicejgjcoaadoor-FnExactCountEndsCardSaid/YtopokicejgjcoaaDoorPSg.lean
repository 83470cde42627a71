/-
  The exact law of SignsOfSet: both sides' answers, and the law.
  The exact law of SignsOfSet: both sides' answers, and the law.
  The exact law of SignsOfSet: the model's answer, and the law.
-/
import Derived.Test.YtopokicejgjcoaaDoorPPt
namespace Go.Proofs.YtopokicejgjcoaaDoor.PW
open Go.RowKit Go.Proofs.YtopokicejgjcoaaDoor
open Go.Proofs.YtopokicejgjcoaaDoor.PM Go.Proofs.YtopokicejgjcoaaDoor.PX

def sgn (x : Int) : Int := if x < 0 then -1 else if 0 < x then 1 else 0
def sgL (M : List (List Int)) (Q : List Int) (s : Int) : List Int := (List.range M.length).map fun j => sgn (ptF M Q s j).1
def sgOut (M : List (List Int)) (Q : List Int) (s : Int) : List Int × Int :=
  if setCode M Q s = 0 then (if dt M.length (colS M s) = 0 then ([], 5) else (sgL M Q s, 0)) else ([], setCode M Q s)
theorem sgOut_err {M : List (List Int)} {Q : List Int} {s c : Int} (h : setCode M Q s = c) (hc : c ≠ 0) : sgOut M Q s = ([], c) := by unfold sgOut; rw [if_neg (by omega), h]
theorem sgOut_zero {M : List (List Int)} {Q : List Int} {s : Int} (h : setCode M Q s = 0) (hd : dt M.length (colS M s) = 0) : sgOut M Q s = ([], 5) := by unfold sgOut; rw [if_pos h, if_pos hd]
theorem sgOut_ok {M : List (List Int)} {Q : List Int} {s : Int} (h : setCode M Q s = 0) (hd : dt M.length (colS M s) ≠ 0) : sgOut M Q s = (sgL M Q s, 0) := by unfold sgOut; rw [if_pos h, if_neg hd]
theorem fine_sg (M : List (List Int)) (Q : List Int) (s : Int) : FineI (sgOut M Q s).1 := by
  unfold sgOut
  split
  · rename_i h
    split
    · exact fineI_nil
    · rcases setCode_cases M Q s with h' | h' | ⟨_, hp, _, _⟩
      · omega
      · omega
      · have := (isPB_facts hp).2.1
        refine ⟨fun x hx => ?_, ?_⟩
        · obtain ⟨j, _, rfl⟩ := List.mem_map.1 hx
          unfold sgn I64
          split <;> (try split) <;> omega
        · show (sgL M Q s).length ≤ _
          unfold sgL
          rw [row_length]
          omega
  · exact fineI_nil
theorem outI_nil {w w' : World} {c : Int} (h : Below w.heap.size w w') : OutI w ([], c) (.returned (.tuple #[.slice none 0 0, .int .i64 c])) w' :=
  ⟨_, rfl, ⟨World.ownsRow_nil _ _ _ _, fun b hb => by simp [Value.ownBlock] at hb⟩, h⟩
theorem FreshI.rng {B : Nat} {w : World} {v : Value} {xs : List Int} (h : FreshI B w v xs) : RngI B w.heap.size w v xs := by
  obtain ⟨g, cap, rfl, hB, hlt, ho⟩ := h
  exact ⟨ho, fun b hb => by simp [Value.ownBlock] at hb; omega⟩
theorem ptOut_cases (M : List (List Int)) (Q : List Int) (s : Int) : (∃ c, (c = 1 ∨ c = 2 ∨ c = 5) ∧ ptOut M Q s = ([], c) ∧ sgOut M Q s = ([], c)) ∨ (setCode M Q s = 0 ∧ isPB M Q = true ∧ dt M.length (colS M s) ≠ 0) := by
  rcases setCode_cases M Q s with h | h | ⟨h, hp, _, _⟩
  · exact .inl ⟨1, .inl rfl, ptOut_err h (by omega), sgOut_err h (by omega)⟩
  · exact .inl ⟨2, .inr (.inl rfl), ptOut_err h (by omega), sgOut_err h (by omega)⟩
  · by_cases hD : dt M.length (colS M s) = 0
    · exact .inl ⟨5, .inr (.inr rfl), ptOut_zero h hD, sgOut_zero h hD⟩
    · exact .inr ⟨h, hp, hD⟩

theorem isNaN_any (x : Int) (w : World) : Calls Tryd.prog 153 #[.int .i64 x] w fun e w' => e = .returned (.bool false) ∧ w = w' := by
  go_enter Tryd.func153, Tryd.ntmps153
  go_wp2
  go_ret
  exact ⟨ret_bool (by simp), rfl⟩
theorem compare_any (x : Int) (w : World) : Calls Tryd.prog 152 #[.int .i64 x, .int .i64 0] w fun e w' => e = .returned (.int .i64 (sgn x)) ∧ w = w' := by
  unfold sgn
  by_cases h1 : x < 0
  · rw [if_pos h1]
    go_enter Tryd.func152, Tryd.ntmps152
    go_wp2_with (refine (isNaN_any _ _).mono ?_; rintro e w' ⟨rfl, rfl⟩)
    go_ret
    exact ⟨rfl, rfl⟩
  · rw [if_neg h1]
    by_cases h2 : 0 < x
    · rw [if_pos h2]
      go_enter Tryd.func152, Tryd.ntmps152
      go_wp2_with (refine (isNaN_any _ _).mono ?_; rintro e w' ⟨rfl, rfl⟩)
      go_ret
      exact ⟨rfl, rfl⟩
    · rw [if_neg h2]
      go_enter Tryd.func152, Tryd.ntmps152
      go_wp2_with (refine (isNaN_any _ _).mono ?_; rintro e w' ⟨rfl, rfl⟩)
      go_ret
      exact ⟨rfl, rfl⟩
end Go.Proofs.YtopokicejgjcoaaDoor.PW
namespace Go.Proofs.YtopokicejgjcoaaDoor.PW
open Go.RowKit Go.Proofs.YtopokicejgjcoaaDoor
open Go.Proofs.YtopokicejgjcoaaDoor.PM Go.Proofs.YtopokicejgjcoaaDoor.PX

end Go.Proofs.YtopokicejgjcoaaDoor.PW
namespace Go.Proofs.YtopokicejgjcoaaDoor.PW
open Go.RowKit Go.Proofs.YtopokicejgjcoaaDoor
open Go.Proofs.YtopokicejgjcoaaDoor.PM Go.Proofs.YtopokicejgjcoaaDoor.PX

end Go.Proofs.YtopokicejgjcoaaDoor.PW
