/-
  Matrices and lists as arguments of the laws: sizes, copies in memory of the call's own, and what is a matrix on both sides.
-/
import Derived.Test.YtillndnamechdaaPDetA
import Derived.Test.YtillndnamechdaaPLawC
namespace Go.Proofs.Ytillndnamechdaa.PW
open Go.RowKit Go.Proofs.Ytillndnamechdaa
open Go.Proofs.Ytillndnamechdaa.PM Go.Proofs.Ytillndnamechdaa.PX

theorem szR_fits {M : List (List Int)} (h : ¬ szR M 1048576 < 0) : tot M ≤ 1048576 := by
  unfold szR at h
  split at h <;> omega
theorem szR_neg {M : List (List Int)} (h : szR M 1048576 < 0) : szR M 1048576 = -1 := by
  unfold szR at h ⊢
  split at h
  · omega
  · rename_i hc; rw [if_neg hc]
theorem szR_le (M : List (List Int)) : szR M 1048576 ≤ 1048576 := by unfold szR; split <;> omega

theorem toRows_out (v : Value) (M : List (List Int)) (w : World) (hx : PM.Rows w v M) (hn : tot M ≤ 1048576) :
    Calls Try.prog 31 #[v] w fun e w' => ∃ g, e = .returned (.slice (some ⟨g, 0, none⟩) M.length M.length) ∧
      RngR w.heap.size w'.heap.size w' (.slice (some ⟨g, 0, none⟩) M.length M.length) M ∧ Below w.heap.size w w' := by
  refine (toInt64SS_any v M w hx hn).mono ?_
  rintro e w' ⟨rfl, hb, hz, ht, hr⟩
  have hml : M.length ≤ maxLen := by unfold tot at hn; unfold maxLen; omega
  have hrl : ∀ i, i < M.length → (M.getD i []).length ≤ maxLen := fun i hi => by
    have a1 := pre_succ M i hi
    have a2 := pre_le M (i + 1)
    unfold tot at hn
    unfold maxLen
    omega
  obtain ⟨g, hg⟩ : ∃ g, g = w.heap.size := ⟨_, rfl⟩
  rw [← hg] at ht hr hz ⊢
  have hus : ∀ i, i < M.length → ((List.range M.length).map (partR g M M.length)).getD i undef = .slice (some ⟨g + 1 + i, 0, none⟩) (M.getD i []).length (M.getD i []).length := fun i hi => by
    have : partR g M M.length i = .slice (some ⟨g + 1 + i, 0, none⟩) (M.getD i []).length (M.getD i []).length := by unfold partR; rw [if_pos hi]
    rw [← this]
    simp [hi]
  have hltg := ht.lt
  refine ⟨g, rfl, ⟨(List.range M.length).map (partR g M M.length), ⟨by simp, ?_, fun i hi => ?_, fun i j b hi hj h1 h2 => ?_, fun i b hi h1 h2 => ?_⟩, fun b hb' => ?_, fun i b hi hb' => ?_⟩, by rw [hg]; exact hb⟩
  · obtain ⟨c, hb, hn, hc⟩ := ht
    refine ⟨by simp, .inr ⟨g, M.length, c, rfl, Nat.zero_le _, hb, Nat.le_refl _, hml, by simpa using hn, ?_⟩⟩
    rw [Nat.mul_one, List.take_of_length_le (by simp [hn])]
    apply List.ext_getElem?
    intro i
    by_cases hi : i < M.length
    · have := hc i hi
      rw [Array.getElem?_toList, this]
      simp [hi]
    · rw [List.getElem?_eq_none (by simp [hn]; omega), List.getElem?_eq_none (by simp; omega)]
  · rw [hus i hi]
    exact (hr i hi).own (hrl i hi)
  · rw [hus i hi] at h1
    rw [hus j hj] at h2
    simp [Value.ownBlock] at h1 h2
    omega
  · rw [hus i hi] at h2
    simp [Value.ownBlock] at h1 h2
    omega
  · simp [Value.ownBlock] at hb'
    omega
  · rw [hus i hi] at hb'
    have := (hr i hi).lt
    simp [Value.ownBlock] at hb'
    omega
theorem toInts_out (v : Value) (xs : List Int) (w : World) (hx : Ints w v xs) (hn : xs.length ≤ 1048576) :
    Calls Try.prog 40 #[v] w fun e w' => ∃ g, e = .returned (.slice (some ⟨g, 0, none⟩) xs.length xs.length) ∧
      RngI w.heap.size w'.heap.size w' (.slice (some ⟨g, 0, none⟩) xs.length xs.length) xs ∧ Below w.heap.size w w' := by
  refine (toInt64S_any v xs w hx hn).mono ?_
  rintro e w' ⟨rfl, hc⟩
  have hq := copied_end hc
  have hlt := hq.lt
  exact ⟨_, rfl, ⟨hq.own (by unfold maxLen; omega), fun b hb => by simp [Value.ownBlock] at hb; omega⟩, hc.below⟩
theorem fineR_arg {M : List (List Int)} (h : ∀ j, j < M.length → ∀ x ∈ M.getD j [], I64 x) (hn : tot M ≤ 1048576) : FineR M := ⟨h, hn⟩

/-- What stands of a matrix. -/
theorem matB_facts {M : List (List Int)} (h : matB M = true) : 1 ≤ M.length ∧ M.length ≤ 5 ∧ (∀ j, j < M.length → (M.getD j []).length = M.length) ∧ ∀ j c, j < M.length → c < M.length → -20 ≤ ent M j c ∧ ent M j c ≤ 20 := by
  obtain ⟨⟨h1, h2⟩, h3⟩ := (matB_iff M).1 h
  exact ⟨h1, h2, fun j hj => (h3 j hj).1, fun j c hj hc => (wit_iff 20 _).1 (h3 j hj).2 c (by rw [(h3 j hj).1]; exact hc)⟩
theorem matB_all {M : List (List Int)} (h : matB M = true) (a b : Nat) : Bd 20 (ent M a b) := by
  obtain ⟨_, _, h3, h4⟩ := matB_facts h
  exact ent_bdAll (B := fun _ => 20) rfl h3 (fun _ => by decide) (fun i j hi hj => by have := h4 i j hi hj; unfold Bd; omega) a b
theorem specIsMatrix_any (m : Value) (M : List (List Int)) (w : World) (h1 : PM.Rows w m M) :
    Calls Try.prog 30 #[m] w fun e w' => e = .returned (.bool (matB M)) ∧ w = w' := by
  have G1 := Lib.hid h1
  obtain ⟨a1, c1, rfl, _⟩ := h1
  go_enter Try.func30, Try.ntmps30
  go_wp2_with fail
  refine (l01Matrix_any _ M _ G1.out).mono ?_; rintro e w1 ⟨rfl, rfl⟩
  go_wp2_with fail
  go_ret
  exact ⟨rfl, rfl⟩
theorem implIsMatrix_any (m : Value) (M : List (List Int)) (w : World) (h1 : PM.Rows w m M) :
    Calls Try.prog 32 #[m] w fun e w' => e = .returned (.bool (matB M)) ∧ w = w' := by
  have G1 := Lib.hid h1
  obtain ⟨a1, c1, rfl, _⟩ := h1
  go_enter Try.func32, Try.ntmps32
  go_wp2_with fail
  refine (isSquareWithin_any _ M _ G1.out).mono ?_; rintro e w1 ⟨rfl, rfl⟩
  go_wp2_with fail
  go_ret
  exact ⟨rfl, rfl⟩

/-- Rows that are told of a matrix, and a code. -/
def matOut (g : List (List Int) → Nat → Nat → Int) (M : List (List Int)) : List (List Int) × Int := if matB M = true then (tab M.length (g M), 0) else ([], 1)
theorem matOut_ok {g : List (List Int) → Nat → Nat → Int} {M : List (List Int)} (h : matB M = true) : matOut g M = (tab M.length (g M), 0) := by unfold matOut; rw [if_pos h]
theorem matOut_err {g : List (List Int) → Nat → Nat → Int} {M : List (List Int)} (h : matB M = false) : matOut g M = ([], 1) := by unfold matOut; rw [if_neg (by simp [h])]
theorem matOut_fine (g : List (List Int) → Nat → Nat → Int) (hg : ∀ M, matB M = true → ∀ a b, a < M.length → b < M.length → I64 (g M a b)) (M : List (List Int)) : FineR (matOut g M).1 := by
  cases h : matB M
  · rw [matOut_err h]; exact fineR_nil
  · rw [matOut_ok h]; exact fineR_tab _ _ (matB_facts h).2.1 (hg M h)
theorem law_FnExactIsMatrix (m : Value) (M : List (List Int)) (w : World) (h1 : PM.Rows w m M) :
    Calls Try.prog 6 #[m] w fun e w' => e = .returned (.bool true) ∧ Below w.heap.size w w' := by
  have g1 := fun (w' : World) (h : Below w.heap.size w w') => h1.below h
  have I1 := Lib.hid (rows_I64 h1)
  obtain ⟨a1, c1, rfl, _⟩ := h1
  by_cases hz : szR M 1048576 < 0
  · have e1 := szR_neg hz
    have E1 := Lib.hid e1
    clear hz e1
    go_enter Try.func6, Try.ntmps6
    go_wp2_with fail
    refine (szInt64SS_any _ M _ _ (g1 _ (by (repeat' (first | (with_reducible exact Below.refl _ _) | (with_reducible assumption) | (with_reducible refine Below.alloc ?_ ?_ _) | (with_reducible refine Below.drew ?_) | (with_reducible refine below_drewN ?_ _) | (with_reducible refine Below.setCell ?_ ?_ _) | (with_reducible refine Below.trans ?_ (Below.mono (by with_reducible assumption) ?_)) | (with_reducible exact Below.size (by with_reducible assumption)) | go_size)))) (by omega) (by omega)).mono ?_; rw [E1.out]; rintro e w1 ⟨rfl, rfl⟩
    go_wp2_with fail
    go_ret
    exact ⟨rfl, by (repeat' (first | (with_reducible exact Below.refl _ _) | (with_reducible assumption) | (with_reducible refine Below.alloc ?_ ?_ _) | (with_reducible refine Below.drew ?_) | (with_reducible refine below_drewN ?_ _) | (with_reducible refine Below.setCell ?_ ?_ _) | (with_reducible refine Below.trans ?_ (Below.mono (by with_reducible assumption) ?_)) | (with_reducible exact Below.size (by with_reducible assumption)) | go_size))⟩
  have HN1 := Lib.hid (szR_fits hz)
  have hle := szR_le M
  go_enter Try.func6, Try.ntmps6
  go_wp2_with fail
  refine (szInt64SS_any _ M _ _ (g1 _ (by (repeat' (first | (with_reducible exact Below.refl _ _) | (with_reducible assumption) | (with_reducible refine Below.alloc ?_ ?_ _) | (with_reducible refine Below.drew ?_) | (with_reducible refine below_drewN ?_ _) | (with_reducible refine Below.setCell ?_ ?_ _) | (with_reducible refine Below.trans ?_ (Below.mono (by with_reducible assumption) ?_)) | (with_reducible exact Below.size (by with_reducible assumption)) | go_size)))) (by omega) (by omega)).mono ?_; rintro e w1 ⟨rfl, rfl⟩
  generalize szR M 1048576 = left at *
  go_wp2_with fail
  refine (toRows_out _ M _ (g1 _ (by (repeat' (first | (with_reducible exact Below.refl _ _) | (with_reducible assumption) | (with_reducible refine Below.alloc ?_ ?_ _) | (with_reducible refine Below.drew ?_) | (with_reducible refine below_drewN ?_ _) | (with_reducible refine Below.setCell ?_ ?_ _) | (with_reducible refine Below.trans ?_ (Below.mono (by with_reducible assumption) ?_)) | (with_reducible exact Below.size (by with_reducible assumption)) | go_size)))) HN1.out).mono ?_; rintro e w2 ⟨gA, rfl, hr2, hb2⟩
  have R2 := Lib.hid (hr2.rows I1.out)
  clear hr2
  go_wp2_with fail
  refine (specIsMatrix_any _ M _ R2.out).mono ?_; rintro e w3 ⟨rfl, rfl⟩
  go_wp2_with fail
  refine (toRows_out _ M _ (g1 _ hb2) HN1.out).mono ?_; rintro e w4 ⟨gC, rfl, hr4, hb4⟩
  have R4 := Lib.hid (hr4.rows I1.out)
  have hw4 : Below w.heap.size w w4 := hb2.trans (hb4.mono hb2.size)
  clear hr4 R2
  go_wp2_with fail
  refine (implIsMatrix_any _ M _ R4.out).mono ?_; rintro e w5 ⟨rfl, rfl⟩
  generalize matB M = ans at *
  cases ans
  all_goals
    go_wp2_with fail
    refine (toRows_out _ M _ (g1 _ hw4) HN1.out).mono ?_; rintro e w6 ⟨gE, rfl, hr6, hb6⟩
    have R6 := Lib.hid (hr6.rows I1.out)
    clear hr6
    go_wp2_with fail
    refine (eqInt64SS_same _ _ M _ (R4.out.below hb6) R6.out).mono ?_; rintro e w7 ⟨rfl, hb7⟩
    go_wp2_with fail
    go_ret
    exact ⟨rfl, (hw4.trans (hb6.mono hw4.size)).trans (hb7.mono (hw4.trans (hb6.mono hw4.size)).size)⟩
end Go.Proofs.Ytillndnamechdaa.PW
