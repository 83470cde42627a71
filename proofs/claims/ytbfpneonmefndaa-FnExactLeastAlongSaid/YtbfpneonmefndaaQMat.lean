/-
  Matrices and lists as arguments of the laws: sizes, copies in memory of the call's own, and what is a matrix on both sides.
-/
import Derived.Test.YtbfpneonmefndaaPDetA
import Derived.Test.YtbfpneonmefndaaPLawC
namespace Go.Proofs.Ytbfpneonmefndaa.PW
open Go.RowKit Go.Proofs.Ytbfpneonmefndaa
open Go.Proofs.Ytbfpneonmefndaa.PM Go.Proofs.Ytbfpneonmefndaa.PX

theorem szR_fits {M : List (List Int)} (h : ¬ szR M 1048576 < 0) : tot M ≤ 1048576 := by
  unfold szR at h
  split at h <;> omega
theorem szR_neg {M : List (List Int)} (h : szR M 1048576 < 0) : szR M 1048576 = -1 := by
  unfold szR at h ⊢
  split at h
  · omega
  · rename_i hc; rw [if_neg hc]
theorem szR_leM (M : List (List Int)) : szR M 1048576 ≤ 1048576 := by unfold szR; split <;> omega

theorem toRows_out (v : Value) (M : List (List Int)) (w : World) (hx : PM.Rows w v M) (hn : tot M ≤ 1048576) :
    Calls Try.prog 49 #[v] w fun e w' => ∃ g, e = .returned (.slice (some ⟨g, 0, none⟩) M.length M.length) ∧
      RngR w.heap.size w'.heap.size w' (.slice (some ⟨g, 0, none⟩) M.length M.length) M ∧ Below w.heap.size w w' := by
  refine (toInt64SS_any v M w hx hn).mono ?_
  rintro e w' ⟨rfl, hb, hz, ht, hr⟩
  have hml : M.length ≤ maxLen := by unfold tot at hn; unfold maxLen; omega
  have hrl : ∀ i, i < M.length → (M.getD i []).length ≤ maxLen := fun i hi => by
    have a1 := pre_succ M i hi
    have a2 := pre_le M (i + 1)
    unfold tot at hn
    unfold maxLen
    omega
  obtain ⟨g, hg⟩ : ∃ g, g = w.heap.size := ⟨_, rfl⟩
  rw [← hg] at ht hr hz ⊢
  have hus : ∀ i, i < M.length → ((List.range M.length).map (partR g M M.length)).getD i undef = .slice (some ⟨g + 1 + i, 0, none⟩) (M.getD i []).length (M.getD i []).length := fun i hi => by
    have : partR g M M.length i = .slice (some ⟨g + 1 + i, 0, none⟩) (M.getD i []).length (M.getD i []).length := by unfold partR; rw [if_pos hi]
    rw [← this]
    simp [hi]
  have hltg := ht.lt
  refine ⟨g, rfl, ⟨(List.range M.length).map (partR g M M.length), ⟨by simp, ?_, fun i hi => ?_, fun i j b hi hj h1 h2 => ?_, fun i b hi h1 h2 => ?_⟩, fun b hb' => ?_, fun i b hi hb' => ?_⟩, by rw [hg]; exact hb⟩
  · obtain ⟨c, hb, hn, hc⟩ := ht
    refine ⟨by simp, .inr ⟨g, M.length, c, rfl, Nat.zero_le _, hb, Nat.le_refl _, hml, by simpa using hn, ?_⟩⟩
    rw [Nat.mul_one, List.take_of_length_le (by simp [hn])]
    apply List.ext_getElem?
    intro i
    by_cases hi : i < M.length
    · have := hc i hi
      rw [Array.getElem?_toList, this]
      simp [hi]
    · rw [List.getElem?_eq_none (by simp [hn]; omega), List.getElem?_eq_none (by simp; omega)]
  · rw [hus i hi]
    exact (hr i hi).own (hrl i hi)
  · rw [hus i hi] at h1
    rw [hus j hj] at h2
    simp [Value.ownBlock] at h1 h2
    omega
  · rw [hus i hi] at h2
    simp [Value.ownBlock] at h1 h2
    omega
  · simp [Value.ownBlock] at hb'
    omega
  · rw [hus i hi] at hb'
    have := (hr i hi).lt
    simp [Value.ownBlock] at hb'
    omega
theorem toInts_out (v : Value) (xs : List Int) (w : World) (hx : Ints w v xs) (hn : xs.length ≤ 1048576) :
    Calls Try.prog 50 #[v] w fun e w' => ∃ g, e = .returned (.slice (some ⟨g, 0, none⟩) xs.length xs.length) ∧
      RngI w.heap.size w'.heap.size w' (.slice (some ⟨g, 0, none⟩) xs.length xs.length) xs ∧ Below w.heap.size w w' := by
  refine (toInt64S_any v xs w hx hn).mono ?_
  rintro e w' ⟨rfl, hc⟩
  have hq := copied_end hc
  have hlt := hq.lt
  exact ⟨_, rfl, ⟨hq.own (by unfold maxLen; omega), fun b hb => by simp [Value.ownBlock] at hb; omega⟩, hc.below⟩
theorem fineR_arg {M : List (List Int)} (h : ∀ j, j < M.length → ∀ x ∈ M.getD j [], I64 x) (hn : tot M ≤ 1048576) : FineR M := ⟨h, hn⟩

/-- What stands of a matrix. -/
theorem matB_facts {M : List (List Int)} (h : matB M = true) : 1 ≤ M.length ∧ M.length ≤ 5 ∧ (∀ j, j < M.length → (M.getD j []).length = M.length) ∧ ∀ j c, j < M.length → c < M.length → -20 ≤ ent M j c ∧ ent M j c ≤ 20 := by
  obtain ⟨⟨h1, h2⟩, h3⟩ := (matB_iff M).1 h
  exact ⟨h1, h2, fun j hj => (h3 j hj).1, fun j c hj hc => (wit_iff 20 _).1 (h3 j hj).2 c (by rw [(h3 j hj).1]; exact hc)⟩
theorem matB_all {M : List (List Int)} (h : matB M = true) (a b : Nat) : Bd 20 (ent M a b) := by
  obtain ⟨_, _, h3, h4⟩ := matB_facts h
  exact ent_bdAll (B := fun _ => 20) rfl h3 (fun _ => by decide) (fun i j hi hj => by have := h4 i j hi hj; unfold Bd; omega) a b
theorem implIsMatrix_any (m : Value) (M : List (List Int)) (w : World) (h1 : PM.Rows w m M) :
    Calls Try.prog 97 #[m] w fun e w' => e = .returned (.bool (matB M)) ∧ w = w' := by
  have G1 := Lib.hid h1
  obtain ⟨a1, c1, rfl, _⟩ := h1
  go_enter Try.func97, Try.ntmps97
  go_wp2_with fail
  refine (isSquareWithin_any _ M _ G1.out).mono ?_; rintro e w1 ⟨rfl, rfl⟩
  go_wp2_with fail
  go_ret
  exact ⟨rfl, rfl⟩

/-- Rows that are told of a matrix, and a code. -/
def matOut (g : List (List Int) → Nat → Nat → Int) (M : List (List Int)) : List (List Int) × Int := if matB M = true then (tab M.length (g M), 0) else ([], 1)
theorem matOut_ok {g : List (List Int) → Nat → Nat → Int} {M : List (List Int)} (h : matB M = true) : matOut g M = (tab M.length (g M), 0) := by unfold matOut; rw [if_pos h]
theorem matOut_err {g : List (List Int) → Nat → Nat → Int} {M : List (List Int)} (h : matB M = false) : matOut g M = ([], 1) := by unfold matOut; rw [if_neg (by simp [h])]
theorem matOut_fine (g : List (List Int) → Nat → Nat → Int) (hg : ∀ M, matB M = true → ∀ a b, a < M.length → b < M.length → I64 (g M a b)) (M : List (List Int)) : FineR (matOut g M).1 := by
  cases h : matB M
  · rw [matOut_err h]; exact fineR_nil
  · rw [matOut_ok h]; exact fineR_tab _ _ (matB_facts h).2.1 (hg M h)
end Go.Proofs.Ytbfpneonmefndaa.PW
