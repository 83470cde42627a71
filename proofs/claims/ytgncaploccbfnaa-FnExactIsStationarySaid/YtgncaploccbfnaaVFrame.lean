/-
  What the frame of a law of a list of fractions wants (FRAME kind fracs).
-/
import Derived.Test.YtgncaploccbfnaaPFrame
import Derived.Test.YtgncaploccbfnaaVNum
import Derived.Deep.SlicePairs
namespace Go.Proofs.Ytgncaploccbfnaa
open Go.ChangeShapes Go.WideShapes Go.ChangeAt Go.RowKit Go.Joins Go.Deep
open Go.Proofs.Ytgncaploccbfnaa.PM

theorem fracs_in {H : Type} {enc : TypeId × Value → H} {W : World} {held : Bool} {n : Nat} {c : Value} {y : DataW H × List MemPlace}
    (h : DataW.trod enc Try.prog W 0 (fun _ => true) held n 39 [c] = some y) : ∃ Q, PW.Frs W c Q := by
  rcases open_slice_pairs Try.underlying39 Try.underlying103 (by kernel_rfl) rfl rfl (by kernel_rfl) (by kernel_rfl) h with ⟨hcs, _⟩ | ⟨a, len, cap, m, k, V0, V1, D0, D1, P0, P1, hcs, _, hl, hm, hmm, _, hall⟩
  · simp only [List.cons.injEq, and_true] at hcs
    exact ⟨[], none, 0, hcs, Nat.le_refl _, Nat.zero_le _, by simp, .inl rfl⟩
  · simp only [List.cons.injEq, and_true] at hcs
    simp only [if_true] at hmm
    subst hmm
    have each : ∀ i, i < m → ∃ q : Int × Int, V0 i = .int .i64 q.1 ∧ V1 i = .int .i64 q.2 ∧ I64 q.1 ∧ I64 q.2 := fun i hi => by
      obtain ⟨_, _, t0, t1⟩ := hall i hi
      obtain ⟨x0, e0, _, w0⟩ := DataW.trod_int Try.underlying2 t0
      obtain ⟨x1, e1, _, w1⟩ := DataW.trod_int Try.underlying2 t1
      exact ⟨(x0, x1), by simpa using e0, by simpa using e1, bounds_i64 w0, bounds_i64 w1⟩
    obtain ⟨q, hq⟩ := choose_lt each
    refine ⟨(List.range len).map q, some a, m, by simpa using hcs, by simpa using hl, hm, fun x hx => ?_, ?_⟩
    · obtain ⟨i, hi, rfl⟩ := List.mem_map.1 hx
      have := hq i (by have := List.mem_range.1 hi; omega)
      exact ⟨this.2.2.1, this.2.2.2⟩
    · by_cases h0 : len = 0
      · left; rw [h0]; rfl
      · right
        have hc0 := (hall 0 (by omega)).1
        have ha := spot_none hc0
        refine ⟨a.block, a.off, by rw [← ha], ?_, fun i hi => ?_⟩
        · have := World.block_lt_of_cell? W _ hc0; simp only [Nat.zero_mul] at this; rw [add_zero] at this; exact this
        · have hi' : i < len := by simpa using hi
          obtain ⟨g0, g1, _, _⟩ := hall i (by omega)
          obtain ⟨f0, f1, _, _⟩ := hq i (by omega)
          rw [ha, add_none] at g0 g1
          rw [f0] at g0
          rw [f1] at g1
          rw [show ((List.range len).map q).getD i (0, 0) = q i by simp [hi']]
          exact ⟨g0, by rw [← Nat.add_assoc] at g1; exact g1⟩
end Go.Proofs.Ytgncaploccbfnaa
