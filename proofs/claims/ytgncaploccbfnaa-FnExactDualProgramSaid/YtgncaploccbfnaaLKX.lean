/-
  What is left of a law's room behind an argument (lawx.py).
  Rows of numbers and lists of numbers, as the walks of the laws want them (lawx.py).
-/
import Derived.Test.YtgncaploccbfnaaPCore
import Derived.Test.YtgncaploccbfnaaPAnsR
namespace Go.Proofs.Ytgncaploccbfnaa.PW
open Go.RowKit Go.Proofs.Ytgncaploccbfnaa
open Go.Proofs.Ytgncaploccbfnaa.PM
theorem szx_neg {n : Nat} {L : Int} (h : szI n L < 0) : szI n L = -1 := by
  unfold szI at *; split at h <;> simp_all <;> omega
theorem szx_fits {n : Nat} {L : Int} (h : ¬ szI n L < 0) : (n : Int) ≤ L ∧ szI n L ≤ L := by
  unfold szI at *; split at h <;> simp_all <;> omega
end Go.Proofs.Ytgncaploccbfnaa.PW
namespace Go.Proofs.Ytgncaploccbfnaa.PW
open Go.RowKit Go.Proofs.Ytgncaploccbfnaa
open Go.Proofs.Ytgncaploccbfnaa.PM

theorem toR_x (v : Value) (M : List (List Int)) (w : World) (hx : PM.Rows w v M) (hn : tot M ≤ 1048576) :
    Calls Try.prog 67 #[v] w fun e w' => ∃ a c, e = .returned (.slice a M.length c) ∧
      RngR w.heap.size w'.heap.size w' (.slice a M.length c) M ∧ Below w.heap.size w w' := by
  refine (toInt64SS_any v M w hx hn).mono ?_
  rintro e w' ⟨rfl, hb, hz, ht, hr⟩
  have hml : M.length ≤ maxLen := by unfold tot at hn; unfold maxLen; omega
  have hrl : ∀ i, i < M.length → (M.getD i []).length ≤ maxLen := fun i hi => by
    have a1 := pre_succ M i hi
    have a2 := pre_le M (i + 1)
    unfold tot at hn
    unfold maxLen
    omega
  obtain ⟨g, hg⟩ : ∃ g, g = w.heap.size := ⟨_, rfl⟩
  rw [← hg] at ht hr hz ⊢
  have hus : ∀ i, i < M.length → ((List.range M.length).map (partR g M M.length)).getD i undef = .slice (some ⟨g + 1 + i, 0, none⟩) (M.getD i []).length (M.getD i []).length := fun i hi => by
    have : partR g M M.length i = .slice (some ⟨g + 1 + i, 0, none⟩) (M.getD i []).length (M.getD i []).length := by unfold partR; rw [if_pos hi]
    rw [← this]
    simp [hi]
  have hltg := ht.lt
  refine ⟨some ⟨g, 0, none⟩, M.length, rfl, ⟨(List.range M.length).map (partR g M M.length), ⟨by simp, ?_, fun i hi => ?_, fun i j b hi hj h1 h2 => ?_, fun i b hi h1 h2 => ?_⟩, fun b hb' => ?_, fun i b hi hb' => ?_⟩, by rw [hg]; exact hb⟩
  · obtain ⟨c, hb, hn, hc⟩ := ht
    refine ⟨by simp, .inr ⟨g, M.length, c, rfl, Nat.zero_le _, hb, Nat.le_refl _, hml, by simpa using hn, ?_⟩⟩
    rw [Nat.mul_one, List.take_of_length_le (by simp [hn])]
    apply List.ext_getElem?
    intro i
    by_cases hi : i < M.length
    · have := hc i hi
      rw [Array.getElem?_toList, this]
      simp [hi]
    · rw [List.getElem?_eq_none (by simp [hn]; omega), List.getElem?_eq_none (by simp; omega)]
  · rw [hus i hi]
    exact (hr i hi).own (hrl i hi)
  · rw [hus i hi] at h1
    rw [hus j hj] at h2
    simp [Value.ownBlock] at h1 h2
    omega
  · rw [hus i hi] at h2
    simp [Value.ownBlock] at h1 h2
    omega
  · simp [Value.ownBlock] at hb'
    omega
  · rw [hus i hi] at hb'
    have := (hr i hi).lt
    simp [Value.ownBlock] at hb'
    omega
theorem RngRx.reads {lo hi : Nat} {w : World} {v : Value} {M : List (List Int)} (h : RngR lo hi w v M) (hM : ∀ i, i < M.length → ∀ x ∈ M.getD i [], I64 x) : PM.Rows w v M := by
  obtain ⟨us, ho, _⟩ := h.own
  exact ho.rows' hM
theorem szI_x (v : Value) (L : List Int) (left : Int) (w : World) (h : Ints w v L) (h0 : 0 ≤ left) (h1 : left ≤ 1048576) :
    Calls Try.prog 63 #[v, .int .i64 left] w fun e w' => e = .returned (.int .i64 (szI L.length left)) ∧ Below w.heap.size w w' := by
  obtain ⟨a, c, rfl, hlc, hlm, _⟩ := h
  refine (szInt64S_any a L.length c left w (maxLen_le (Nat.le_trans hlc hlm)) h0 h1).mono ?_
  rintro e _ ⟨rfl, rfl⟩
  exact ⟨rfl, Below.refl _ _⟩
theorem toI_x (v : Value) (L : List Int) (w : World) (h : Ints w v L) (hn : L.length ≤ 1048576) :
    Calls Try.prog 68 #[v] w fun e w' => ∃ a c, e = .returned (.slice a L.length c) ∧ RngI w.heap.size w'.heap.size w' (.slice a L.length c) L ∧ Below w.heap.size w w' := by
  refine (toInt64S_any v L w h hn).mono ?_
  rintro e w' ⟨rfl, hc⟩
  have hlt := (copied_end hc).lt
  exact ⟨_, _, rfl, ⟨(copied_end hc).own (by unfold maxLen; omega), fun b hb => by simp [Value.ownBlock] at hb; omega⟩, hc.below⟩
theorem RngIx.reads {lo hi : Nat} {w : World} {v : Value} {L : List Int} (h : RngI lo hi w v L) (hI : ∀ x ∈ L, I64 x) : Ints w v L := h.own.ints hI
theorem eqI_x (v u : Value) (L : List Int) (w : World) {lo hi lo' hi' : Nat} (h : RngI lo hi w v L) (h' : RngI lo' hi' w u L) (hI : ∀ x ∈ L, I64 x) (_ : L.length ≤ 1048576) :
    Calls Try.prog 71 #[v, u] w fun e w' => e = .returned (.bool true) ∧ Below w.heap.size w w' := eqInt64S_same v u L w (h.own.ints hI) (h'.own.ints hI)
theorem markI_x {lo hi : Nat} {w : World} {v : Value} {L : List Int} (h : RngI lo hi w v L) (hn : L.length ≤ 1048576) (_ : hi ≤ w.heap.size) (k : Int) (h0 : 0 ≤ k) (h1 : k ≤ 4194304) :
    Calls Try.prog 72 #[v, .int .i64 k] w fun e w' => ∃ k', e = .returned (.int .i64 k') ∧ 0 ≤ k' ∧ k' ≤ k + 2097152 ∧ Bet lo hi w w' := by
  refine (markInt64S_any v L k w h.own h0 (by omega)).mono ?_
  rintro e w' ⟨rfl, _, ht⟩
  exact ⟨_, rfl, by omega, by omega, Bet.of_tch ht (fun b hb => h.at_ b (by simpa [blks] using hb))⟩
def FineIx (o : List Int) : Prop := FineI o
def sizeIx (o : List Int) : Nat := o.length
theorem sizeIx_le {o : List Int} (hf : FineIx o) : (sizeIx o : Int) ≤ 1048576 := by
  have h := FineI.len hf
  unfold sizeIx
  omega
theorem markI_k {lo hi : Nat} {w : World} {v : Value} {o : List Int} (h : RngI lo hi w v o) (hf : FineIx o) (_ : hi ≤ w.heap.size) (k : Int) (h0 : 0 ≤ k) (h1 : k ≤ 1048577) :
    Calls Try.prog 72 #[v, .int .i64 k] w fun e w' => e = .returned (.int .i64 (k + (sizeIx o : Int))) ∧ RngI lo hi w' v (marks k o.length) ∧ Bet lo hi w w' := by
  refine (markInt64S_any v o k w h.own h0 (by have := FineI.len hf; omega)).mono ?_
  rintro e w' ⟨rfl, ho', ht⟩
  exact ⟨rfl, ⟨ho', h.at_⟩, Bet.of_tch ht (fun b hb => h.at_ b (by simpa [blks] using hb))⟩
theorem heldI_k {lo hi : Nat} {w : World} {v : Value} {o : List Int} (k : Int) (h : RngI lo hi w v (marks k o.length)) (hf : FineIx o) (_ : hi ≤ w.heap.size) (h0 : 0 ≤ k) (h1 : k ≤ 1048577) :
    Calls Try.prog 73 #[v, .int .i64 k] w fun e w' => e = .returned (.int .i64 (k + (sizeIx o : Int))) ∧ Below w.heap.size w w' := by
  have := FineI.len hf
  refine (heldInt64S_any v o.length k w (h.own.ints (marks_i64 h0 (by omega))) h0 (by omega)).mono ?_
  rintro e w' ⟨rfl, rfl⟩
  exact ⟨rfl, Below.refl _ _⟩
end Go.Proofs.Ytgncaploccbfnaa.PW
