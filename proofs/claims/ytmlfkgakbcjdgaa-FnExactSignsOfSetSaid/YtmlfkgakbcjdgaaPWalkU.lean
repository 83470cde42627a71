/-
  Walks: a problem copied, in the model: rows appended one after the other.
-/
import Derived.Test.YtmlfkgakbcjdgaaPWalkT
import Derived.Deep.AppendLies
import Derived.Deep.RegionHeldLaw
namespace Go.Proofs.Ytmlfkgakbcjdgaa.PW
open Go.RowKit Go.Proofs.Ytmlfkgakbcjdgaa
open Go.Proofs.Ytmlfkgakbcjdgaa.PM

theorem ownI_kept {w w' : World} {row : Option Nat} {v : Value} {xs : List Int} (h : OwnI w v xs) (hg : w.grownBy w' row) (hne : ∀ b, v.ownBlock = some b → row ≠ some b) : OwnI w' v xs := by
  refine World.ownsRow.kept h hg ?_
  cases hb : v.ownBlock with
  | none => exact .inl rfl
  | some b => exact .inr (fun c => hne b hb c.symm)
theorem FreshI.kept {w w' : World} {B : Nat} {row : Option Nat} {v : Value} {xs : List Int} (h : FreshI B w v xs) (hg : w.grownBy w' row) (hne : ∀ b, v.ownBlock = some b → row ≠ some b) : FreshI B w' v xs := by
  obtain ⟨g, cap, hv, hB, hlt, ho⟩ := h
  exact ⟨g, cap, hv, hB, Nat.lt_of_lt_of_le hlt hg.size, ownI_kept ho hg hne⟩
theorem FreshI.touch {w w' : World} {B : Nat} {bs : List Nat} {v : Value} {xs : List Int} (h : FreshI B w v xs) (ht : Tch bs w w') (hd : ∀ b, v.ownBlock = some b → b ∉ bs) : FreshI B w' v xs := by
  obtain ⟨g, cap, hv, hB, hlt, ho⟩ := h
  exact ⟨g, cap, hv, hB, by rw [ht.size]; exact hlt, ho.tch ht hd⟩
theorem take_getD (xss : List (List Int)) (k i : Nat) (h : i < k) : (xss.take k).getD i [] = xss.getD i [] := by simp [h]
theorem own_base {w : World} {B T n : Nat} {v : Value} {xs : List Value} (h : w.ownsRow B T 1 v n xs) : w.ownsRow 0 T 1 v n xs := by
  refine ⟨h.1, ?_⟩
  rcases h.2 with h2 | ⟨g, cap, cur, hv, hb, r⟩
  · exact .inl h2
  · exact .inr ⟨g, cap, cur, hv, Nat.zero_le _, r⟩
/-- While the model copies a problem: the first k rows lie behind the variable at N. -/
structure CpO (w wr : World) (B N k : Nat) (v q : Value) (xss : List (List Int)) (Q : List Int) (us : List Value) : Prop where
  fresh : FreshP B wr v q (xss.take k) Q us
  c0 : wr.cell? ⟨N, 0, none⟩ = some v
  c1 : wr.cell? ⟨N, 1, none⟩ = some q
  nf : ∀ o, wr.frozen? ⟨N, o, none⟩ = false
  lt : N < wr.heap.size
  vN : v.ownBlock ≠ some N
  qN : q.ownBlock ≠ some N
  uN : ∀ i, i < k → (us.getD i undef).ownBlock ≠ some N
  below : Below B w wr

theorem CpO.step {w wr w3 w4 : World} {B C N k g cap : Nat} {v q u : Value} {xss : List (List Int)} {Q : List Int} {us : List Value} (h : CpO w wr B N k v q xss Q us) (hk : k < xss.length) (hN : B ≤ N)
    (hu : FreshI wr.heap.size w3 u (xss.getD k [])) (hb : Below wr.heap.size wr w3)
    (hown : w4.ownsRow C 23 1 (.slice (some ⟨g, 0, none⟩) (k + 1) cap) (k + 1) (us ++ [u])) (hgrow : w3.grownBy w4 v.ownBlock) (hat : v.ownBlock = some g ∨ g = w3.heap.size) (hlt : g < w4.heap.size) :
    CpO w (w4.setCell ⟨N, 0, none⟩ (.slice (some ⟨g, 0, none⟩) (k + 1) cap)) B N (k + 1) (.slice (some ⟨g, 0, none⟩) (k + 1) cap) q xss Q (us ++ [u]) := by
  obtain ⟨⟨⟨⟨hl, _, hrw, hap, hov⟩, ⟨gv, cv, hv, hv1, hv2⟩, hub⟩, hq, hqa⟩, hc0, hc1, hnf, hltN, hvN, hqN, huN, hbel⟩ := h
  have hlk : (xss.take k).length = k := by simp; omega
  have hlk1 : (xss.take (k + 1)).length = k + 1 := by simp; omega
  rw [hlk] at hl hrw hap hov hub hqa
  have hvb : v.ownBlock = some gv := by rw [hv]; rfl
  have hz3 := hb.size
  have hz4 := hgrow.size
  have hq0 := hq
  obtain ⟨gq, cq, hqv, hq1, hq2, hqo⟩ := hq
  have hqb : q.ownBlock = some gq := by rw [hqv]; rfl
  have hu0 := hu
  obtain ⟨gu, cu, huv, hu1, hu2, huo⟩ := hu
  have hubk : u.ownBlock = some gu := by rw [huv]; rfl
  have hgv : gv ≠ N := fun c => hvN (by rw [hvb, c])
  have hgq : gq ≠ N := fun c => hqN (by rw [hqb, c])
  have hqv' : gq ≠ gv := fun c => (hqa gq hqb).1 (by rw [hvb, c])
  have hgc : g = gv ∨ g = w3.heap.size := by
    rcases hat with h1 | h1
    · rw [hvb] at h1; simp at h1; exact .inl h1.symm
    · exact .inr h1
  have hgN : g ≠ N := by rcases hgc with c | c <;> omega
  have hrb : ∀ i b, i < k + 1 → ((us ++ [u]).getD i undef).ownBlock = some b → (i < k ∧ (us.getD i undef).ownBlock = some b) ∨ (i = k ∧ b = gu) := fun i b hi hbk => by
    by_cases e : i = k
    · rw [e, ← hl, getD_snoc_eq, hubk] at hbk
      exact .inr ⟨e, by simp at hbk; exact hbk.symm⟩
    · rw [getD_snoc_lt _ _ _ (by omega)] at hbk
      exact .inl ⟨by omega, hbk⟩
  have ht : Tch [N] w4 (w4.setCell ⟨N, 0, none⟩ (.slice (some ⟨g, 0, none⟩) (k + 1) cap)) := (Tch.refl _ _).setCell (by simp) _
  have hcell : ∀ o, o ≠ 0 → (w4.setCell ⟨N, 0, none⟩ (.slice (some ⟨g, 0, none⟩) (k + 1) cap)).cell? ⟨N, o, none⟩ = wr.cell? ⟨N, o, none⟩ := fun o ho => by
    refine (World.cell?_setCell_other w4 _ _ _ (fun c => ho (by simp at c))).trans ?_
    exact (hgrow.cell_far ⟨N, o, none⟩ (by show N < _; omega) (by rw [hvb]; simp; omega)).trans (hb.cell (p := ⟨N, o, none⟩) hltN)
  refine ⟨⟨⟨⟨by rw [hlk1]; simp [hl], by rw [hlk1]; exact own_touch (own_base hown) ht (fun b hb' => by simp [Value.ownBlock] at hb'; simp; omega), fun i hi => ?_, fun i j b hi hj h1 h2 => ?_, fun i b hi h1 h2 => ?_⟩, ⟨g, cap, by rw [hlk1], by omega, by simpa using hlt⟩, fun i b hi h1 => ?_⟩,
    (hq0.below hb |>.kept hgrow (fun b hb' => by rw [hqb] at hb'; rw [hvb]; simp at hb' ⊢; omega)).touch ht (fun b hb' => by rw [hqb] at hb'; simp at hb' ⊢; omega), fun b hb' => ⟨fun c => ?_, fun i hi c => ?_⟩⟩, ?_, ?_, fun o => ?_, by simp; omega, fun c => by simp [Value.ownBlock] at c; omega, by rw [hqb]; simp; omega, fun i hi c => ?_, ?_⟩
  · rw [hlk1] at hi
    rw [take_getD _ _ _ hi]
    by_cases e : i = k
    · have e2 : (us ++ [u]).getD i undef = u := by rw [e, ← hl, getD_snoc_eq]
      rw [e2, e]
      exact (ownI_kept huo hgrow (fun b hb' => by rw [hubk] at hb'; rw [hvb]; simp at hb' ⊢; omega)).tch ht (fun b hb' => by rw [hubk] at hb'; simp at hb' ⊢; omega)
    · rw [getD_snoc_lt _ _ _ (by omega)]
      have := hrw i (by omega)
      rw [take_getD _ _ _ (by omega)] at this
      refine (ownI_kept (this.below hb (fun b hb' => (hub i b (by omega) hb').2)) hgrow (fun b hb' c => hov i b (by omega) c hb')).tch ht (fun b hb' c => ?_)
      simp at c; subst c; exact huN i (by omega) hb'
  · rw [hlk1] at hi hj
    rcases hrb i b hi h1 with ⟨x1, x2⟩ | ⟨x1, x2⟩ <;> rcases hrb j b hj h2 with ⟨y1, y2⟩ | ⟨y1, y2⟩
    · exact hap i j b x1 y1 x2 y2
    · have := (hub i b x1 x2).2; omega
    · have := (hub j b y1 y2).2; omega
    · omega
  · rw [hlk1] at hi
    simp [Value.ownBlock] at h1
    subst h1
    rcases hrb i _ hi h2 with ⟨x1, x2⟩ | ⟨x1, x2⟩
    · rcases hgc with c | c
      · exact hov i g x1 (by rw [hvb, c]) x2
      · have := (hub i g x1 x2).2; omega
    · omega
  · rw [hlk1] at hi
    rcases hrb i _ hi h1 with ⟨x1, x2⟩ | ⟨x1, x2⟩
    · have := hub i b x1 x2; simp; omega
    · simp; omega
  · rw [hqb] at hb'
    simp [Value.ownBlock] at hb' c
    omega
  · rw [hlk1] at hi
    rw [hqb] at hb'
    simp at hb'
    subst hb'
    rcases hrb i _ hi c with ⟨x1, x2⟩ | ⟨x1, x2⟩
    · exact (hqa _ hqb).2 i x1 x2
    · omega
  · exact World.cell?_setCell_same w4 _ _ ((hgrow.cell_far ⟨N, 0, none⟩ (by show N < _; omega) (by rw [hvb]; simp; omega)).trans ((hb.cell (p := ⟨N, 0, none⟩) hltN).trans hc0))
  · rw [hcell 1 (by omega)]; exact hc1
  · show (w4.setCell _ _).frozen? _ = false
    rw [World.frozen?_setCell]
    exact (hgrow.frozen_far ⟨N, o, none⟩ (by show N < _; omega) (by rw [hvb]; simp; omega)).trans ((hb.frozen (p := ⟨N, o, none⟩) hltN).trans (hnf o))
  · rcases hrb i _ hi c with ⟨x1, x2⟩ | ⟨x1, x2⟩
    · exact huN i x1 x2
    · omega
  · exact ((hbel.trans (hb.mono (by omega))).grown hgrow (by omega) (fun b hb' => by rw [hvb] at hb'; simp at hb'; omega)).setCell (by simpa using hN) _
end Go.Proofs.Ytmlfkgakbcjdgaa.PW
