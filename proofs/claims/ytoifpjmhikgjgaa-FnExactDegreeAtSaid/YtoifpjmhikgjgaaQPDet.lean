/-
  Walks: the determinant of no row, and of a part of a matrix, in the program.
-/
import Derived.Test.YtoifpjmhikgjgaaQBy
import Derived.Test.YtoifpjmhikgjgaaPDetA
namespace Go.Proofs.Ytoifpjmhikgjgaa.PW
open Go.RowKit Go.Proofs.Ytoifpjmhikgjgaa
open Go.Proofs.Ytoifpjmhikgjgaa.PM Go.Proofs.Ytoifpjmhikgjgaa.PX

set_option maxHeartbeats 2000000 in
theorem copyRows_none (a : Option Addr) (c : Nat) (w : World) :
    Calls Try.prog 99 #[.slice a 0 c] w fun e w' => e = .returned (.slice (some ⟨w.heap.size, 0, none⟩) 0 0) ∧ w' = w.alloc (.cells #[] 23) := by
  have hmk : ∀ w, (Instr.makeSlice 22 (.int .i64 0) (.int .i64 0)).run Try.prog w = .ok (.slice (some ⟨w.heap.size, 0, none⟩) 0 0) (w.alloc (.cells #[] 23)) := fun _ => by kernel_rfl
  go_enter Try.func99, Try.ntmps99
  go_wp2_with fail
  go_rounds 1
  all_goals go_ret
  all_goals exact ⟨rfl, rfl⟩
set_option maxHeartbeats 2000000 in
theorem reduce_none (a : Option Addr) (c : Nat) (w : World) :
    Calls Try.prog 103 #[.slice a 0 c] w fun e w' => e = .returned (.tuple #[.int .i64 1, .int .i64 1]) ∧ w' = w := by
  go_enter Try.func103, Try.ntmps103
  go_wp2_with fail
  go_rounds 1
  all_goals go_wp2_with fail
  all_goals go_ret2
  all_goals exact ⟨rfl, rfl⟩
set_option maxHeartbeats 2000000 in
theorem det_zero (a : Option Addr) (c : Nat) (w : World) :
    Calls Try.prog 68 #[.slice a 0 c] w fun e w' => e = .returned (.int .i64 1) ∧ Below w.heap.size w w' := by
  have HC := Lib.hid (copyRows_none a c w)
  go_enter Try.func68, Try.ntmps68
  go_wp2_with (go_at_call 99; refine HC.out.mono ?_; rintro e w1 ⟨rfl, rfl⟩)
  go_wp2_with fail
  refine (reduce_none _ _ _).mono ?_; rintro e w2 ⟨rfl, rfl⟩
  go_wp2_with fail
  go_ret
  exact ⟨rfl, by (repeat' (first | (with_reducible exact Below.refl _ _) | (with_reducible assumption) | (with_reducible refine Below.alloc ?_ ?_ _) | (with_reducible refine Below.drew ?_) | (with_reducible refine below_drewN ?_ _) | (with_reducible refine Below.setCell ?_ ?_ _) | (with_reducible refine Below.trans ?_ (Below.mono (by with_reducible assumption) ?_)) | (with_reducible exact Below.size (by with_reducible assumption)) | go_size))⟩

theorem partDet (v : Value) (M : List (List Int)) (r c : Int) (w : World) (hv : PM.Rows w v (partL M r c)) (hn5 : M.length ≤ 5) (hma : ∀ a b, Bd 20 (ent M a b)) (hcnt : (memTo M.length r M.length).length = (memTo M.length c M.length).length) :
    Calls Try.prog 68 #[v] w fun e w' => e = .returned (.int .i64 (dt (memTo M.length r M.length).length (ent (partL M r c)))) ∧ Below w.heap.size w w' := by
  have hl := memTo_length M.length r M.length
  by_cases h0 : (memTo M.length r M.length).length = 0
  · obtain ⟨a, cap, rfl, _⟩ := hv
    rw [h0, partL_length, h0]
    exact det_zero a cap w
  · exact determinant_any v (partL M r c) _ 5 w hv (partL_length M r c) (partL_rl M r c hcnt) (by omega) (by omega) (fun i j => (partL_bd hma hcnt i j).mono (u_ge 5 j))
end Go.Proofs.Ytoifpjmhikgjgaa.PW
