/-
  Walks: slices.Grow of the nil slice, slices.Concat of two lists.
-/
import Derived.Test.YtgncaploccbfnaaPCol
import Derived.Test.YtgncaploccbfnaaPAnsR
import Derived.Lib.AppendZerosOnto
import Derived.Laws.Rows
import Derived.Laws.Tables
namespace Go.Proofs.Ytgncaploccbfnaa.PW
open Go.RowKit Go.Proofs.Ytgncaploccbfnaa
open Go.Proofs.Ytgncaploccbfnaa.PM

set_option maxRecDepth 100000 in
set_option maxHeartbeats 2000000 in
theorem growNil_any (n : Nat) (w : World) (h1 : 1 ≤ n) (h2 : n ≤ 1000) :
    Calls Try.prog 129 #[.slice none 0 0, .int .i64 n] w fun e w' =>
      ∃ G, e = .returned (.slice (some ⟨w.heap.size, 0, none⟩) 0 G) ∧ OwnI w' (.slice (some ⟨w.heap.size, 0, none⟩) 0 G) [] ∧ Below w.heap.size w w' ∧ w'.heap.size = w.heap.size + 1 := by
  obtain ⟨i0, hi, hz0, hz1, hz2⟩ := info_parts info_int
  have hG1 : n ≤ grownCap w n 0 2 := grownCap_ge w _ _ _
  have hG2 := grownCap_le_maxLen w n 0 2 (by unfold maxLen; omega)
  have hrz : ∀ ty, (Builtin.append_ #[23, 3] ty #[.slice none 0 0, .int .i64 n]).run Try.prog w =
      .ok (.slice (some ⟨w.heap.size, 0, none⟩) n (grownCap w n 0 2)) (w.drew.alloc (.cells (([] : List Value).toArray ++ Builtin.zeroCells (Value.int .i64 0).cells n ++ Builtin.zeroCells (Value.int .i64 0).cells (grownCap w n 0 2 - n)) 2)) := fun ty => by
    have h := Lib.run_append_grow_zeros w 23 3 ty 2 i0 (.int .i64 0) .i64 .i64 Try.underlying23 Try.underlying3 hi hz0 none 0 0 [] (run_firstCells_none w.drew i0.size 0 0 0) n (by omega) (by omega) (by omega) (by omega) (by rw [hz2]; omega)
      (by rw [Nat.zero_add]; exact growslice_fits (by omega) (by rw [hz2]; omega))
    simpa only [Nat.zero_add] using h
  obtain ⟨G, hG⟩ : ∃ G, G = grownCap w n 0 2 := ⟨_, rfl⟩
  rw [← hG] at hrz hG1 hG2
  have hG63 : G ≤ 9223372036854775807 := by unfold maxLen at hG2; omega
  have hn0 : ¬ ((n : Int) < 0) := by omega
  have hnp : (n : Int) > 0 := by omega
  have hw1 : wrap64 (n : Int) = n := by unfold wrap64; omega
  have HZ := Lib.hid (show (([] : List Value).toArray ++ Builtin.zeroCells (Value.int .i64 0).cells n ++ Builtin.zeroCells (Value.int .i64 0).cells (G - n)).size = G by
    have e1 : (Value.int .i64 0).cells.size = 1 := rfl
    simp [Builtin.zeroCells, e1]; omega)
  generalize (([] : List Value).toArray ++ Builtin.zeroCells (Value.int .i64 0).cells n ++ Builtin.zeroCells (Value.int .i64 0).cells (G - n)) = C at *
  have HG := Lib.hid hG2
  clear hG hG2 hi hz0 hz1 hz2
  go_enter Try.func129, Try.ntmps129
  go_wp2_with (at_builtin; refine Lib.wpList_append_run _ rfl _ _ _ _ rfl _ _ rfl rfl _ _ (hrz _) ?_)
  all_goals go_ret
  all_goals exact ⟨G, rfl, ⟨by simp, .inr ⟨w.heap.size, G, C, rfl, Nat.zero_le _, by show (w.alloc _).heap[w.heap.size]? = _; exact heap_alloc_new w _, Nat.zero_le _, HG.out, by rw [HZ.out]; simp, by simp⟩⟩, ((Below.refl _ _).drew).alloc (Nat.le_refl _) _, by simp⟩

end Go.Proofs.Ytgncaploccbfnaa.PW
