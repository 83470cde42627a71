/-
  The pieces of the laws on functions that return a problem and a code.
-/
import Derived.Test.YtbcclhdfpboidaaDoorPWalkY
import Derived.Test.YtbcclhdfpboidaaDoorPLawA
namespace Go.Proofs.YtbcclhdfpboidaaDoor.PW
open Go.RowKit Go.Proofs.YtbcclhdfpboidaaDoor
open Go.Proofs.YtbcclhdfpboidaaDoor.PM

theorem Bet.mono {lo hi lo' hi' : Nat} {w w' : World} (h : Bet lo hi w w') (hl : lo' ≤ lo) (hh : hi ≤ hi') : Bet lo' hi' w w' := ⟨h.os, h.tape, h.output, h.size, fun k hk hr => h.block k hk (by omega)⟩

theorem toProblem_out (m q : Value) (M : List (List Int)) (Q : List Int) (w : World) (h1 : PM.Rows w m M) (h2 : Ints w q Q) (hn : tot M ≤ 1048576) (hn2 : Q.length ≤ 1048576) :
    Calls Tryd.prog 13 #[.agg #[m, q]] w fun e w' => ∃ g h us, e = .returned (.agg #[.slice (some ⟨g, 0, none⟩) M.length M.length, .slice (some ⟨h, 0, none⟩) Q.length Q.length]) ∧
      RngP w.heap.size w'.heap.size w' (.slice (some ⟨g, 0, none⟩) M.length M.length) (.slice (some ⟨h, 0, none⟩) Q.length Q.length) M Q us ∧ Below w.heap.size w w' := by
  refine (toProblem_any m q M Q w h1 h2 hn hn2).mono ?_
  rintro e w' ⟨g, h, rfl, hg, hh, ht, hr, hq, hb⟩
  have hml : M.length ≤ maxLen := by unfold tot at hn; unfold maxLen; omega
  have hrl : ∀ i, i < M.length → (M.getD i []).length ≤ maxLen := fun i hi => by
    have a1 := pre_succ M i hi
    have a2 := pre_le M (i + 1)
    unfold tot at hn
    unfold maxLen
    omega
  have hus : ∀ i, i < M.length → ((List.range M.length).map (partR g M M.length)).getD i undef = .slice (some ⟨g + 1 + i, 0, none⟩) (M.getD i []).length (M.getD i []).length := fun i hi => by
    have : partR g M M.length i = .slice (some ⟨g + 1 + i, 0, none⟩) (M.getD i []).length (M.getD i []).length := by unfold partR; rw [if_pos hi]
    rw [← this]
    simp [hi]
  have hltg := ht.lt
  have hltq := hq.lt
  refine ⟨g, h, (List.range M.length).map (partR g M M.length), rfl, ⟨⟨by simp, ?_, fun i hi => ?_, fun i j b hi hj h1 h2 => ?_, fun i b hi h1 h2 => ?_⟩, hq.own (by unfold maxLen; omega), fun b hb' => ?_, fun b hb' => ?_, fun i b hi hb' => ?_, fun b hb' => ⟨fun c => ?_, fun i hi c => ?_⟩⟩, hb⟩
  · obtain ⟨c, hb, hn, hc⟩ := ht
    refine ⟨by simp, .inr ⟨g, M.length, c, rfl, Nat.zero_le _, hb, Nat.le_refl _, hml, by simpa using hn, ?_⟩⟩
    rw [Nat.mul_one, List.take_of_length_le (by simp [hn])]
    apply List.ext_getElem?
    intro i
    by_cases hi : i < M.length
    · have := hc i hi
      rw [Array.getElem?_toList, this]
      simp [hi]
    · rw [List.getElem?_eq_none (by simp [hn]; omega), List.getElem?_eq_none (by simp; omega)]
  · rw [hus i hi]
    exact (hr i hi).own (hrl i hi)
  · rw [hus i hi] at h1
    rw [hus j hj] at h2
    simp [Value.ownBlock] at h1 h2
    omega
  · rw [hus i hi] at h2
    simp [Value.ownBlock] at h1 h2
    omega
  · simp [Value.ownBlock] at hb'
    omega
  · simp [Value.ownBlock] at hb'
    omega
  · rw [hus i hi] at hb'
    have := (hr i hi).lt
    simp [Value.ownBlock] at hb'
    omega
  · simp [Value.ownBlock] at hb' c
    omega
  · rw [hus i hi] at c
    simp [Value.ownBlock] at hb' c
    omega

theorem OutP.out {w w' : World} {o : List (List Int) × List Int × Int} {e : Ending} (h : OutP w o e w') :
    ∃ a c b d us, e = .returned (.tuple #[.agg #[.slice a o.1.length c, .slice b o.2.1.length d], .int .i64 o.2.2]) ∧ RngP w.heap.size w'.heap.size w' (.slice a o.1.length c) (.slice b o.2.1.length d) o.1 o.2.1 us ∧ Below w.heap.size w w' := by
  obtain ⟨m, q, us, rfl, ho, hb⟩ := h
  obtain ⟨a1, c1, rfl⟩ : ∃ a cap, m = .slice a o.1.length cap := by
    rcases ho.rows.top.2 with ⟨rfl, hn⟩ | ⟨g, cap, cur, rfl, _⟩
    · exact ⟨none, 0, by rw [hn]⟩
    · exact ⟨_, cap, rfl⟩
  obtain ⟨a2, c2, rfl⟩ := OwnI.shape ho.right
  exact ⟨a1, c1, a2, c2, us, rfl, ho.rng (Nat.le_refl _), hb⟩

/-- What stands of a result of such a function. -/
structure Fine (o : List (List Int) × List Int × Int) : Prop where
  m64 : ∀ j, j < o.1.length → ∀ x ∈ o.1.getD j [], I64 x
  q64 : ∀ x ∈ o.2.1, I64 x
  tot : tot o.1 ≤ 1048576
  len : o.2.1.length ≤ 1048576
theorem fine_nil (c : Int) : Fine ([], [], c) := ⟨fun j hj => absurd hj (Nat.not_lt_zero _), fun x hx => (List.not_mem_nil hx).elim, (show PM.tot [] ≤ 1048576 by unfold PM.tot; simp), (show ([] : List Int).length ≤ 1048576 by simp)⟩
theorem fine_of_isPB {M : List (List Int)} {Q : List Int} (c : Int) (h : isPB M Q = true) : Fine (M, Q, c) := by
  obtain ⟨f1, f2, f3, f4, f5⟩ := isPB_facts h
  refine ⟨fun j hj x hx => ?_, fun x hx => ?_, tot_small h, by show Q.length ≤ _; omega⟩
  · obtain ⟨i, hi, rfl⟩ := getD_of_mem hx
    have hb := (f4 j hj).2 i (by rw [← (f4 j hj).1]; exact hi)
    show -9223372036854775808 ≤ (M.getD j []).getD i 0 ∧ (M.getD j []).getD i 0 ≤ 9223372036854775807
    omega
  · obtain ⟨i, hi, rfl⟩ := getD_of_mem hx
    have hb := f5 i hi
    show -9223372036854775808 ≤ Q.getD i 0 ∧ Q.getD i 0 ≤ 9223372036854775807
    omega
theorem fine_scale (M : List (List Int)) (Q : List Int) (i k : Int) : Fine (scaleOut M Q i k) := by
  unfold scaleOut
  split
  · exact fine_nil _
  · split
    · exact fine_nil _
    · split
      · exact fine_nil _
      · rename_i h
        exact fine_of_isPB _ (by simpa using h)

/-- The law's variables: the argument, the model's answer, the program's answer. -/
structure Vs (W : World) (P V0 V2 : Nat) (p0 p1 a0 a1 g0 g1 : Value) : Prop where
  cp0 : W.cell? ⟨P, 0, none⟩ = some p0
  cp1 : W.cell? ⟨P, 1, none⟩ = some p1
  ca0 : W.cell? ⟨V0, 0, none⟩ = some a0
  ca1 : W.cell? ⟨V0, 1, none⟩ = some a1
  cg0 : W.cell? ⟨V2, 0, none⟩ = some g0
  cg1 : W.cell? ⟨V2, 1, none⟩ = some g1
  lP : P < W.heap.size
  lA : V0 < W.heap.size
  lG : V2 < W.heap.size
theorem Vs.bet {W w' : World} {P V0 V2 lo hi : Nat} {p0 p1 a0 a1 g0 g1 : Value} (h : Vs W P V0 V2 p0 p1 a0 a1 g0 g1) (ht : Bet lo hi W w') (hP : P < lo ∨ hi ≤ P) (hA : V0 < lo ∨ hi ≤ V0) (hG : V2 < lo ∨ hi ≤ V2) : Vs w' P V0 V2 p0 p1 a0 a1 g0 g1 := by
  obtain ⟨h1, h2, h3, h4, h5, h6, l1, l2, l3⟩ := h
  have hz := ht.size
  exact ⟨(ht.cell (p := ⟨P, 0, none⟩) l1 hP).trans h1, (ht.cell (p := ⟨P, 1, none⟩) l1 hP).trans h2, (ht.cell (p := ⟨V0, 0, none⟩) l2 hA).trans h3, (ht.cell (p := ⟨V0, 1, none⟩) l2 hA).trans h4, (ht.cell (p := ⟨V2, 0, none⟩) l3 hG).trans h5, (ht.cell (p := ⟨V2, 1, none⟩) l3 hG).trans h6, by omega, by omega, by omega⟩
theorem Vs.next {W w' : World} {P V0 V2 : Nat} {p0 p1 a0 a1 g0 g1 : Value} (h : Vs W P V0 V2 p0 p1 a0 a1 g0 g1) (ht : Below W.heap.size W w') : Vs w' P V0 V2 p0 p1 a0 a1 g0 g1 :=
  h.bet (lo := W.heap.size) (hi := W.heap.size) (.of_below ht) (.inl h.lP) (.inl h.lA) (.inl h.lG)
end Go.Proofs.YtbcclhdfpboidaaDoor.PW
