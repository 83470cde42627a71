/-
  Rows of the call's own, from a block on: kept while nothing of theirs is written, a row appended.
-/
import Derived.Test.YtgncaploccbfnaaPCol
namespace Go.Proofs.Ytgncaploccbfnaa.PW
open Go.RowKit Go.Proofs.Ytgncaploccbfnaa
open Go.Proofs.Ytgncaploccbfnaa.PM

theorem own_keep {W W' : World} {B T n : Nat} {v : Value} {xs : List Value} (h : W.ownsRow B T 1 v n xs) (hk : ∀ b, v.ownBlock = some b → W'.heap[b]? = W.heap[b]?) : W'.ownsRow B T 1 v n xs := by
  refine ⟨h.1, ?_⟩
  rcases h.2 with h2 | ⟨g, cap, cur, hv, hb, hg, r⟩
  · exact .inl h2
  · exact .inr ⟨g, cap, cur, hv, hb, (hk g (by rw [hv]; rfl)).trans hg, r⟩
theorem OwnRs.keep {W W' : World} {B : Nat} {v : Value} {xss : List (List Int)} {us : List Value} (h : OwnRs B W v xss us) (hz : W.heap.size ≤ W'.heap.size) (hk : ∀ q, B ≤ q → q < W.heap.size → W'.heap[q]? = W.heap[q]?) : OwnRs B W' v xss us := by
  obtain ⟨⟨h1, h2, h3, h4, h5⟩, hm, hu⟩ := h
  exact ⟨⟨h1, own_keep h2 (fun b hb => hk b (hm b hb).1 (hm b hb).2), fun i hi => own_keep (h3 i hi) (fun b hb => hk b (hu i b hi hb).1 (hu i b hi hb).2), h4, h5⟩, fun b hb => ⟨(hm b hb).1, Nat.lt_of_lt_of_le (hm b hb).2 hz⟩, fun i b hi hb => ⟨(hu i b hi hb).1, Nat.lt_of_lt_of_le (hu i b hi hb).2 hz⟩⟩
theorem OwnRs.mono {W : World} {B C : Nat} {v : Value} {xss : List (List Int)} {us : List Value} (h : OwnRs B W v xss us) (hC : C ≤ B) : OwnRs C W v xss us :=
  ⟨h.rows, fun b hb => ⟨Nat.le_trans hC (h.mb b hb).1, (h.mb b hb).2⟩, fun i b hi hb => ⟨Nat.le_trans hC (h.ub i b hi hb).1, (h.ub i b hi hb).2⟩⟩
theorem own_based {W : World} {B T n : Nat} {v : Value} {xs : List Value} (h : W.ownsRow 0 T 1 v n xs) (hb : ∀ b, v.ownBlock = some b → B ≤ b) : W.ownsRow B T 1 v n xs := by
  refine ⟨h.1, ?_⟩
  rcases h.2 with h2 | ⟨g, cap, cur, hv, _, r⟩
  · exact .inl h2
  · exact .inr ⟨g, cap, cur, hv, hb g (by rw [hv]; rfl), r⟩
/-- A block of one kind of cells is none of another kind. -/
theorem own_apart {W : World} {B C T T' n n' : Nat} {v v' : Value} {xs xs' : List Value} {b : Nat} (h : W.ownsRow B T 1 v n xs) (h' : W.ownsRow C T' 1 v' n' xs') (hT : T ≠ T') (hb : v.ownBlock = some b) : v'.ownBlock ≠ some b := by
  intro hb'
  rcases h.2 with ⟨hv, _⟩ | ⟨g, cap, cur, hv, _, hg, _⟩
  · rw [hv] at hb; simp [Value.ownBlock] at hb
  rcases h'.2 with ⟨hv', _⟩ | ⟨g', cap', cur', hv', _, hg', _⟩
  · rw [hv'] at hb'; simp [Value.ownBlock] at hb'
  rw [hv] at hb
  rw [hv'] at hb'
  simp [Value.ownBlock] at hb hb'
  subst hb hb'
  rw [hg] at hg'
  simp only [Option.some.injEq, Obj.cells.injEq] at hg'
  exact hT hg'.2.1

/-- A row is appended. -/
theorem OwnRs.push {B : Nat} {W0 W3 W4 : World} {v v' u : Value} {xss : List (List Int)} {xs : List Int} {us : List Value} (h : OwnRs B W0 v xss us) (hB : B ≤ W0.heap.size) (hb : Below W0.heap.size W0 W3)
    (hu : OwnI W3 u xs) (hub : ∀ b, u.ownBlock = some b → W0.heap.size ≤ b ∧ b < W3.heap.size) (hown : W4.ownsRow B 23 1 v' (xss.length + 1) (us ++ [u])) (hgrow : W3.grownBy W4 v.ownBlock) : OwnRs B W4 v' (xss ++ [xs]) (us ++ [u]) := by
  obtain ⟨⟨hl, htop, hrw, hap, hov⟩, hm, hr⟩ := h
  have hlk : (xss ++ [xs]).length = xss.length + 1 := by simp
  have hz3 := hb.size
  have hz4 := hgrow.size
  have htop3 : W3.ownsRow 0 23 1 v xss.length us := own_keep htop (fun b hb' => hb.block b (hm b hb').2)
  have hrow4 : ∀ i, i < xss.length → OwnI W4 (us.getD i undef) (xss.getD i []) := fun i hi => by
    have h3 : OwnI W3 (us.getD i undef) (xss.getD i []) := own_keep (hrw i hi) (fun b hb' => hb.block b (hr i b hi hb').2)
    exact ownI_kept' h3 hgrow (fun b hb' c => own_apart htop3 h3 (by decide) c hb')
  have hu4 : OwnI W4 u xs := ownI_kept' hu hgrow (fun b hb' c => own_apart htop3 hu (by decide) c hb')
  have hrb : ∀ i b, i < xss.length + 1 → ((us ++ [u]).getD i undef).ownBlock = some b → (i < xss.length ∧ (us.getD i undef).ownBlock = some b) ∨ (i = xss.length ∧ u.ownBlock = some b) := fun i b hi hbk => by
    by_cases e : i = xss.length
    · rw [e, ← hl, getD_append_eq] at hbk
      exact .inr ⟨e, hbk⟩
    · rw [getD_append_lt _ _ _ _ (by omega)] at hbk
      exact .inl ⟨by omega, hbk⟩
  have hall : ∀ i, i < xss.length + 1 → OwnI W4 ((us ++ [u]).getD i undef) ((xss ++ [xs]).getD i []) := fun i hi => by
    by_cases e : i = xss.length
    · have e2 : (us ++ [u]).getD i undef = u := by rw [e, ← hl, getD_append_eq]
      rw [e2, e, getD_append_eq]
      exact hu4
    · rw [getD_append_lt _ _ _ _ (by omega), getD_append_lt _ _ _ _ (by omega)]
      exact hrow4 i (by omega)
  refine ⟨⟨by rw [hlk]; simp [hl], by rw [hlk]; exact own_base' hown, fun i hi => hall i (by omega), fun i j b hi hj h1 h2 => ?_, fun i b hi h1 => ?_⟩, fun b hb' => ?_, fun i b hi h1 => ?_⟩
  · rw [hlk] at hi hj
    rcases hrb i b hi h1 with ⟨x1, x2⟩ | ⟨x1, x2⟩ <;> rcases hrb j b hj h2 with ⟨y1, y2⟩ | ⟨y1, y2⟩
    · exact hap i j b x1 y1 x2 y2
    · have := (hr i b x1 x2).2; have := (hub b y2).1; omega
    · have := (hr j b y1 y2).2; have := (hub b x2).1; omega
    · omega
  · exact own_apart hown (hall i (by omega)) (by decide) h1
  · rcases hown.2 with ⟨hv, _⟩ | ⟨g, cap, cur, hv, hg1, hg2, _⟩
    · rw [hv] at hb'; simp [Value.ownBlock] at hb'
    · rw [hv] at hb'
      simp [Value.ownBlock] at hb'
      subst hb'
      exact ⟨hg1, (Array.getElem?_eq_some_iff.1 hg2).1⟩
  · rw [hlk] at hi
    rcases hrb i b hi h1 with ⟨x1, x2⟩ | ⟨x1, x2⟩
    · have := hr i b x1 x2; omega
    · have := hub b x2; omega
end Go.Proofs.Ytgncaploccbfnaa.PW
