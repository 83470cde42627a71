/-
  Walks: a row of a problem scaled, in the program: the main case.
-/
import Derived.Test.YtopokicejgjcoaaDoorPWalkS
namespace Go.Proofs.YtopokicejgjcoaaDoor.PW
open Go.RowKit Go.Proofs.YtopokicejgjcoaaDoor
open Go.Proofs.YtopokicejgjcoaaDoor.PM

theorem own_touch {w w' : World} {B T n : Nat} {bs : List Nat} {v : Value} {xs : List Value} (h : w.ownsRow B T 1 v n xs) (ht : Tch bs w w') (hd : ∀ b, v.ownBlock = some b → b ∉ bs) : w'.ownsRow B T 1 v n xs := by
  refine ⟨h.1, ?_⟩
  rcases h.2 with h2 | ⟨g, cap, cur, hv, hb, hg, r⟩
  · exact .inl h2
  · exact .inr ⟨g, cap, cur, hv, hb, by rw [ht.block g (hd g (by rw [hv]; rfl))]; exact hg, r⟩
theorem scM_zero (M : List (List Int)) (i : Nat) (k : Int) : M.set i (scPart (M.getD i []) k 0) = M := by
  rw [scPart_zero]
  apply List.ext_getElem?
  intro j
  by_cases e : i = j
  · subst e
    by_cases h : i < M.length
    · rw [List.getElem?_set_self h]; simp [h]
    · rw [List.getElem?_eq_none (by simp; omega), List.getElem?_eq_none (by omega)]
  · rw [List.getElem?_set_ne e]
theorem scM_end (M : List (List Int)) (i : Nat) (k : Int) : M.set i (scPart (M.getD i []) k (M.getD i []).length) = scM M i k := by rw [scPart_all]; rfl

theorem getD_of_mem {xs : List Int} {x : Int} (h : x ∈ xs) : ∃ j, j < xs.length ∧ xs.getD j 0 = x := by
  obtain ⟨j, hj, e⟩ := List.mem_iff_getElem.1 h
  exact ⟨j, hj, by simp [hj, e]⟩
theorem sc_i64 {M : List (List Int)} {Q : List Int} {i : Nat} {k : Int} (h : isPB M Q = true) (hi : i < M.length) (hk1 : 1 ≤ k) (hk2 : k ≤ 100) :
    (∀ j, j < (scM M i k).length → ∀ x ∈ (scM M i k).getD j [], I64 x) ∧ ∀ x ∈ scQ Q i k, I64 x := by
  obtain ⟨f1, f2, f3, f4, f5⟩ := isPB_facts h
  refine ⟨fun j hj x hx => ?_, fun x hx => ?_⟩
  · have hj' : j < M.length := by simpa [scM] using hj
    obtain ⟨e1, e2⟩ := f4 j hj'
    by_cases e : j = i
    · subst e
      rw [scM, getD_set_eq _ _ _ hj'] at hx
      obtain ⟨y, hy, rfl⟩ := List.mem_map.1 hx
      obtain ⟨c, hc, rfl⟩ := getD_of_mem hy
      have hb := e2 c (by omega)
      have := mul_bd (a := (M.getD j []).getD c 0) (b := k) (A := 20) (B := 100) (by omega) (by omega) (by omega) (by omega)
      show -9223372036854775808 ≤ (M.getD j []).getD c 0 * k ∧ (M.getD j []).getD c 0 * k ≤ 9223372036854775807
      omega
    · have e3 : (scM M i k).getD j [] = M.getD j [] := by
        simp only [scM, List.getD_eq_getElem?_getD]
        rw [List.getElem?_set_ne (fun c => e c.symm)]
      rw [e3] at hx
      obtain ⟨c, hc, rfl⟩ := getD_of_mem hx
      have hb := e2 c (by omega)
      show -9223372036854775808 ≤ _ ∧ _ ≤ 9223372036854775807
      omega
  · obtain ⟨c, hc, rfl⟩ := getD_of_mem hx
    have hc' : c < Q.length := by simpa [scQ] using hc
    by_cases e : c = i
    · subst e
      have e3 : (scQ Q c k).getD c 0 = Q.getD c 0 * k := by simp [scQ, hc']
      rw [e3]
      have hb := f5 c hc'
      have := mul_bd (a := Q.getD c 0) (b := k) (A := 100) (B := 100) (by omega) (by omega) (by omega) (by omega)
      show -9223372036854775808 ≤ Q.getD c 0 * k ∧ Q.getD c 0 * k ≤ 9223372036854775807
      omega
    · have e3 : (scQ Q i k).getD c 0 = Q.getD c 0 := by
        simp only [scQ, List.getD_eq_getElem?_getD]
        rw [List.getElem?_set_ne (fun c => e c.symm)]
      rw [e3]
      have hb := f5 c hc'
      show -9223372036854775808 ≤ _ ∧ _ ≤ 9223372036854775807
      omega

end Go.Proofs.YtopokicejgjcoaaDoor.PW
