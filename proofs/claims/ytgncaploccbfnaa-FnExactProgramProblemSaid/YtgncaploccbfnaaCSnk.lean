/-
  Walks: the sinks of an orientation, in the model.
-/
import Derived.Test.YtgncaploccbfnaaCIs
namespace Go.Proofs.Ytgncaploccbfnaa.PW
open Go.RowKit Go.Proofs.Ytgncaploccbfnaa
open Go.Proofs.Ytgncaploccbfnaa.PM

def skTo (O : List Int) : Nat → List Int
  | 0 => []
  | k + 1 => if O.getD k 0 = 0 then skTo O k ++ [(k : Int)] else skTo O k
theorem skTo_yes {O : List Int} {k : Nat} (h : O.getD k 0 = 0) : skTo O (k + 1) = skTo O k ++ [(k : Int)] := by rw [skTo, if_pos h]
theorem skTo_no {O : List Int} {k : Nat} (h : ¬ O.getD k 0 = 0) : skTo O (k + 1) = skTo O k := by rw [skTo, if_neg h]
theorem skTo_len (O : List Int) : ∀ k, (skTo O k).length ≤ k
  | 0 => Nat.le_refl _
  | k + 1 => by
    have := skTo_len O k
    rw [skTo]
    split
    · rw [List.length_append]; simp; omega
    · omega
theorem skTo_in (O : List Int) : ∀ k, ∀ x ∈ skTo O k, 0 ≤ x ∧ x < (k : Int)
  | 0, x, h => (List.not_mem_nil h).elim
  | k + 1, x, h => by
    rw [skTo] at h
    split at h
    · rcases List.mem_append.1 h with h | h
      · have := skTo_in O k x h; omega
      · simp at h; omega
    · have := skTo_in O k x h; omega
def skOut (D : Int) (O : List Int) : List Int × Int := if isCB D O = true then (skTo O O.length, 0) else ([], 1)
theorem skOut_ok {D : Int} {O : List Int} (h : isCB D O = true) : skOut D O = (skTo O O.length, 0) := by unfold skOut; rw [if_pos h]
theorem skOut_no {D : Int} {O : List Int} (h : isCB D O = false) : skOut D O = ([], 1) := by unfold skOut; rw [if_neg (by simp [h])]
theorem isCB_facts {D : Int} {O : List Int} (h : isCB D O = true) : 1 ≤ D ∧ D ≤ 5 ∧ O.length ≤ 32 ∧ 1 ≤ O.length := by
  obtain ⟨⟨h1, h2⟩, h3, _⟩ := of_decide_eq_true h
  obtain ⟨n, rfl⟩ : ∃ n : Nat, D = (n : Int) := ⟨D.toNat, by omega⟩
  have hn : ((n : Int)).toNat = n := by omega
  rw [hn] at h3
  obtain rfl | rfl | rfl | rfl | rfl : n = 1 ∨ n = 2 ∨ n = 3 ∨ n = 4 ∨ n = 5 := by omega
  all_goals (simp at h3; omega)
theorem fine_sk (D : Int) (O : List Int) : FineI (skOut D O).1 := by
  cases h : isCB D O
  · rw [skOut_no h]; exact fineI_nil
  · rw [skOut_ok h]
    have h1 := (isCB_facts h).2.2.1
    have h2 := skTo_len O O.length
    exact ⟨fun x hx => by have := skTo_in O O.length x hx; show -9223372036854775808 ≤ _ ∧ _ ≤ 9223372036854775807; omega, by show (skTo O O.length).length ≤ _; omega⟩
theorem outI_err {w w' : World} {c : Int} (h : Below w.heap.size w w') : OutI w ([], c) (.returned (.tuple #[.slice none 0 0, .int .i64 c])) w' :=
  ⟨_, rfl, ⟨World.ownsRow_nil _ _ _ _, fun b hb => by simp [Value.ownBlock] at hb⟩, h⟩
theorem FreshI.rngC {B : Nat} {w : World} {v : Value} {xs : List Int} (h : FreshI B w v xs) : RngI B w.heap.size w v xs := by
  obtain ⟨g, cap, rfl, hB, hlt, ho⟩ := h
  exact ⟨ho, fun b hb => by simp [Value.ownBlock] at hb; omega⟩
theorem Ints.at_ {w : World} {v : Value} {O : List Int} (h : Ints w v O) (hn : 1 ≤ O.length) : ∃ b off c, v = .slice (some ⟨b, off, none⟩) O.length c ∧ b < w.heap.size ∧ ∀ k, k < O.length → w.cell? ⟨b, off + k, none⟩ = some (.int .i64 (O.getD k 0)) := by
  obtain ⟨a, cap, rfl, _, _, _, hx⟩ := h
  rcases hx with hx | ⟨b, off, rfl, hb, hc⟩
  · rw [hx] at hn; simp at hn
  · exact ⟨b, off, cap, rfl, hb, hc⟩

end Go.Proofs.Ytgncaploccbfnaa.PW
