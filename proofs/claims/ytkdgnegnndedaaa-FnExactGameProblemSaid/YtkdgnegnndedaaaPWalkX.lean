/-
  Walks: a problem copied, in the model: rows appended one after the other.
  Walks: a problem copied, in the model.
  Walks: a row of a problem scaled, in the model.
-/
import Derived.Test.YtkdgnegnndedaaaPWalkT
import Derived.Deep.AppendLies
import Derived.Deep.RegionHeldLaw
import Derived.Deep.RegionLaw
namespace Go.Proofs.Ytkdgnegnndedaaa.PW
open Go.RowKit Go.Proofs.Ytkdgnegnndedaaa
open Go.Proofs.Ytkdgnegnndedaaa.PM

theorem ownI_kept {w w' : World} {row : Option Nat} {v : Value} {xs : List Int} (h : OwnI w v xs) (hg : w.grownBy w' row) (hne : ∀ b, v.ownBlock = some b → row ≠ some b) : OwnI w' v xs := by
  refine World.ownsRow.kept h hg ?_
  cases hb : v.ownBlock with
  | none => exact .inl rfl
  | some b => exact .inr (fun c => hne b hb c.symm)
theorem FreshI.kept {w w' : World} {B : Nat} {row : Option Nat} {v : Value} {xs : List Int} (h : FreshI B w v xs) (hg : w.grownBy w' row) (hne : ∀ b, v.ownBlock = some b → row ≠ some b) : FreshI B w' v xs := by
  obtain ⟨g, cap, hv, hB, hlt, ho⟩ := h
  exact ⟨g, cap, hv, hB, Nat.lt_of_lt_of_le hlt hg.size, ownI_kept ho hg hne⟩
theorem FreshI.touch {w w' : World} {B : Nat} {bs : List Nat} {v : Value} {xs : List Int} (h : FreshI B w v xs) (ht : Tch bs w w') (hd : ∀ b, v.ownBlock = some b → b ∉ bs) : FreshI B w' v xs := by
  obtain ⟨g, cap, hv, hB, hlt, ho⟩ := h
  exact ⟨g, cap, hv, hB, by rw [ht.size]; exact hlt, ho.tch ht hd⟩
theorem take_getD (xss : List (List Int)) (k i : Nat) (h : i < k) : (xss.take k).getD i [] = xss.getD i [] := by simp [h]
theorem own_base {w : World} {B T n : Nat} {v : Value} {xs : List Value} (h : w.ownsRow B T 1 v n xs) : w.ownsRow 0 T 1 v n xs := by
  refine ⟨h.1, ?_⟩
  rcases h.2 with h2 | ⟨g, cap, cur, hv, hb, r⟩
  · exact .inl h2
  · exact .inr ⟨g, cap, cur, hv, Nat.zero_le _, r⟩
/-- While the model copies a problem: the first k rows lie behind the variable at N. -/
structure CpO (w wr : World) (B N k : Nat) (v q : Value) (xss : List (List Int)) (Q : List Int) (us : List Value) : Prop where
  fresh : FreshP B wr v q (xss.take k) Q us
  c0 : wr.cell? ⟨N, 0, none⟩ = some v
  c1 : wr.cell? ⟨N, 1, none⟩ = some q
  nf : ∀ o, wr.frozen? ⟨N, o, none⟩ = false
  lt : N < wr.heap.size
  vN : v.ownBlock ≠ some N
  qN : q.ownBlock ≠ some N
  uN : ∀ i, i < k → (us.getD i undef).ownBlock ≠ some N
  below : Below B w wr

theorem CpO.step {w wr w3 w4 : World} {B C N k g cap : Nat} {v q u : Value} {xss : List (List Int)} {Q : List Int} {us : List Value} (h : CpO w wr B N k v q xss Q us) (hk : k < xss.length) (hN : B ≤ N)
    (hu : FreshI wr.heap.size w3 u (xss.getD k [])) (hb : Below wr.heap.size wr w3)
    (hown : w4.ownsRow C 23 1 (.slice (some ⟨g, 0, none⟩) (k + 1) cap) (k + 1) (us ++ [u])) (hgrow : w3.grownBy w4 v.ownBlock) (hat : v.ownBlock = some g ∨ g = w3.heap.size) (hlt : g < w4.heap.size) :
    CpO w (w4.setCell ⟨N, 0, none⟩ (.slice (some ⟨g, 0, none⟩) (k + 1) cap)) B N (k + 1) (.slice (some ⟨g, 0, none⟩) (k + 1) cap) q xss Q (us ++ [u]) := by
  obtain ⟨⟨⟨⟨hl, _, hrw, hap, hov⟩, ⟨gv, cv, hv, hv1, hv2⟩, hub⟩, hq, hqa⟩, hc0, hc1, hnf, hltN, hvN, hqN, huN, hbel⟩ := h
  have hlk : (xss.take k).length = k := by simp; omega
  have hlk1 : (xss.take (k + 1)).length = k + 1 := by simp; omega
  rw [hlk] at hl hrw hap hov hub hqa
  have hvb : v.ownBlock = some gv := by rw [hv]; rfl
  have hz3 := hb.size
  have hz4 := hgrow.size
  have hq0 := hq
  obtain ⟨gq, cq, hqv, hq1, hq2, hqo⟩ := hq
  have hqb : q.ownBlock = some gq := by rw [hqv]; rfl
  have hu0 := hu
  obtain ⟨gu, cu, huv, hu1, hu2, huo⟩ := hu
  have hubk : u.ownBlock = some gu := by rw [huv]; rfl
  have hgv : gv ≠ N := fun c => hvN (by rw [hvb, c])
  have hgq : gq ≠ N := fun c => hqN (by rw [hqb, c])
  have hqv' : gq ≠ gv := fun c => (hqa gq hqb).1 (by rw [hvb, c])
  have hgc : g = gv ∨ g = w3.heap.size := by
    rcases hat with h1 | h1
    · rw [hvb] at h1; simp at h1; exact .inl h1.symm
    · exact .inr h1
  have hgN : g ≠ N := by rcases hgc with c | c <;> omega
  have hrb : ∀ i b, i < k + 1 → ((us ++ [u]).getD i undef).ownBlock = some b → (i < k ∧ (us.getD i undef).ownBlock = some b) ∨ (i = k ∧ b = gu) := fun i b hi hbk => by
    by_cases e : i = k
    · rw [e, ← hl, getD_snoc_eq, hubk] at hbk
      exact .inr ⟨e, by simp at hbk; exact hbk.symm⟩
    · rw [getD_snoc_lt _ _ _ (by omega)] at hbk
      exact .inl ⟨by omega, hbk⟩
  have ht : Tch [N] w4 (w4.setCell ⟨N, 0, none⟩ (.slice (some ⟨g, 0, none⟩) (k + 1) cap)) := (Tch.refl _ _).setCell (by simp) _
  have hcell : ∀ o, o ≠ 0 → (w4.setCell ⟨N, 0, none⟩ (.slice (some ⟨g, 0, none⟩) (k + 1) cap)).cell? ⟨N, o, none⟩ = wr.cell? ⟨N, o, none⟩ := fun o ho => by
    refine (World.cell?_setCell_other w4 _ _ _ (fun c => ho (by simp at c))).trans ?_
    exact (hgrow.cell_far ⟨N, o, none⟩ (by show N < _; omega) (by rw [hvb]; simp; omega)).trans (hb.cell (p := ⟨N, o, none⟩) hltN)
  refine ⟨⟨⟨⟨by rw [hlk1]; simp [hl], by rw [hlk1]; exact own_touch (own_base hown) ht (fun b hb' => by simp [Value.ownBlock] at hb'; simp; omega), fun i hi => ?_, fun i j b hi hj h1 h2 => ?_, fun i b hi h1 h2 => ?_⟩, ⟨g, cap, by rw [hlk1], by omega, by simpa using hlt⟩, fun i b hi h1 => ?_⟩,
    (hq0.below hb |>.kept hgrow (fun b hb' => by rw [hqb] at hb'; rw [hvb]; simp at hb' ⊢; omega)).touch ht (fun b hb' => by rw [hqb] at hb'; simp at hb' ⊢; omega), fun b hb' => ⟨fun c => ?_, fun i hi c => ?_⟩⟩, ?_, ?_, fun o => ?_, by simp; omega, fun c => by simp [Value.ownBlock] at c; omega, by rw [hqb]; simp; omega, fun i hi c => ?_, ?_⟩
  · rw [hlk1] at hi
    rw [take_getD _ _ _ hi]
    by_cases e : i = k
    · have e2 : (us ++ [u]).getD i undef = u := by rw [e, ← hl, getD_snoc_eq]
      rw [e2, e]
      exact (ownI_kept huo hgrow (fun b hb' => by rw [hubk] at hb'; rw [hvb]; simp at hb' ⊢; omega)).tch ht (fun b hb' => by rw [hubk] at hb'; simp at hb' ⊢; omega)
    · rw [getD_snoc_lt _ _ _ (by omega)]
      have := hrw i (by omega)
      rw [take_getD _ _ _ (by omega)] at this
      refine (ownI_kept (this.below hb (fun b hb' => (hub i b (by omega) hb').2)) hgrow (fun b hb' c => hov i b (by omega) c hb')).tch ht (fun b hb' c => ?_)
      simp at c; subst c; exact huN i (by omega) hb'
  · rw [hlk1] at hi hj
    rcases hrb i b hi h1 with ⟨x1, x2⟩ | ⟨x1, x2⟩ <;> rcases hrb j b hj h2 with ⟨y1, y2⟩ | ⟨y1, y2⟩
    · exact hap i j b x1 y1 x2 y2
    · have := (hub i b x1 x2).2; omega
    · have := (hub j b y1 y2).2; omega
    · omega
  · rw [hlk1] at hi
    simp [Value.ownBlock] at h1
    subst h1
    rcases hrb i _ hi h2 with ⟨x1, x2⟩ | ⟨x1, x2⟩
    · rcases hgc with c | c
      · exact hov i g x1 (by rw [hvb, c]) x2
      · have := (hub i g x1 x2).2; omega
    · omega
  · rw [hlk1] at hi
    rcases hrb i _ hi h1 with ⟨x1, x2⟩ | ⟨x1, x2⟩
    · have := hub i b x1 x2; simp; omega
    · simp; omega
  · rw [hqb] at hb'
    simp [Value.ownBlock] at hb' c
    omega
  · rw [hlk1] at hi
    rw [hqb] at hb'
    simp at hb'
    subst hb'
    rcases hrb i _ hi c with ⟨x1, x2⟩ | ⟨x1, x2⟩
    · exact (hqa _ hqb).2 i x1 x2
    · omega
  · exact World.cell?_setCell_same w4 _ _ ((hgrow.cell_far ⟨N, 0, none⟩ (by show N < _; omega) (by rw [hvb]; simp; omega)).trans ((hb.cell (p := ⟨N, 0, none⟩) hltN).trans hc0))
  · rw [hcell 1 (by omega)]; exact hc1
  · show (w4.setCell _ _).frozen? _ = false
    rw [World.frozen?_setCell]
    exact (hgrow.frozen_far ⟨N, o, none⟩ (by show N < _; omega) (by rw [hvb]; simp; omega)).trans ((hb.frozen (p := ⟨N, o, none⟩) hltN).trans (hnf o))
  · rcases hrb i _ hi c with ⟨x1, x2⟩ | ⟨x1, x2⟩
    · exact huN i x1 x2
    · omega
  · exact ((hbel.trans (hb.mono (by omega))).grown hgrow (by omega) (fun b hb' => by rw [hvb] at hb'; simp at hb'; omega)).setCell (by simpa using hN) _
end Go.Proofs.Ytkdgnegnndedaaa.PW
namespace Go.Proofs.Ytkdgnegnndedaaa.PW
open Go.RowKit Go.Proofs.Ytkdgnegnndedaaa
open Go.Proofs.Ytkdgnegnndedaaa.PM

theorem CpO.start {W0 w1 : World} {gq cq : Nat} {Q : List Int} (xss : List (List Int)) (hb : Below (W0.alloc (.cells #[] 23)).heap.size (W0.alloc (.cells #[] 23)) w1) (hq1 : (W0.alloc (.cells #[] 23)).heap.size ≤ gq) (hq2 : gq < w1.heap.size)
    (ho : OwnI w1 (.slice (some ⟨gq, 0, none⟩) Q.length cq) Q) :
    CpO W0 (w1.alloc (.cells #[.slice (some ⟨W0.heap.size, 0, none⟩) 0 0, .slice (some ⟨gq, 0, none⟩) Q.length cq] 27)) W0.heap.size w1.heap.size 0 (.slice (some ⟨W0.heap.size, 0, none⟩) 0 0) (.slice (some ⟨gq, 0, none⟩) Q.length cq) xss Q [] := by
  have hz := hb.size
  have ez : (W0.alloc (.cells #[] 23)).heap.size = W0.heap.size + 1 := by simp
  rw [ez] at hz hq1
  have hA : Below w1.heap.size w1 (w1.alloc (.cells #[.slice (some ⟨W0.heap.size, 0, none⟩) 0 0, .slice (some ⟨gq, 0, none⟩) Q.length cq] 27)) := (Below.refl _ _).alloc (Nat.le_refl _) _
  refine ⟨⟨⟨⟨rfl, ?_, fun i hi => absurd hi (by simp), fun i j b hi => absurd hi (by simp), fun i b hi => absurd hi (by simp)⟩, ⟨W0.heap.size, 0, rfl, Nat.le_refl _, by simp; omega⟩, fun i b hi => absurd hi (by simp)⟩, ⟨gq, cq, rfl, by omega, by simp; omega, ho.below hA (fun b hb' => by simp [Value.ownBlock] at hb'; omega)⟩,
    fun b hb' => ⟨fun c => by simp [Value.ownBlock] at hb' c; omega, fun i hi => absurd hi (by simp)⟩⟩, by simp, by simp, fun o => by simp, by simp, fun c => by simp [Value.ownBlock] at c; omega, fun c => by simp [Value.ownBlock] at c; omega, fun i hi => absurd hi (by simp), ?_⟩
  · have h0 : (W0.alloc (.cells #[] 23)).ownsRow 0 23 1 (.slice (some ⟨W0.heap.size, 0, none⟩) 0 0) 0 [] := World.ownsRow_made W0 #[] 0 (Nat.zero_le _) (Nat.zero_le _) rfl
    have h1 := h0.kept (w' := w1) (row := none) ⟨hb.os, hb.tape, hb.output, hb.size, fun k hk _ => hb.block k hk⟩ (.inr (by simp [Value.ownBlock]))
    exact h1.alloc _
  · exact (((Below.refl W0.heap.size W0).alloc (Nat.le_refl _) _).trans (hb.mono (by simp))).alloc (by omega) _

theorem CpO.far {W0 wr W w3 : World} {B N k : Nat} {v q : Value} {xss : List (List Int)} {Q : List Int} {us : List Value} (h : CpO W0 wr B N k v q xss Q us) (hN : B ≤ N) (hb : Below wr.heap.size wr W) (hg : W.grownBy w3 v.ownBlock) :
    Below B W0 w3 ∧ w3.cell? ⟨N, 0, none⟩ = some v ∧ w3.frozen? ⟨N, 0, none⟩ = false := by
  have hlt := h.lt
  have hz := hb.size
  refine ⟨(h.below.trans (hb.mono (by omega))).grown hg (by omega) (fun b hb' => ?_), ?_, ?_⟩
  · obtain ⟨gv, cv, hv, h1, _⟩ := h.fresh.rows.top
    rw [hv] at hb'
    simp [Value.ownBlock] at hb'
    omega
  · exact (hg.cell_far ⟨N, 0, none⟩ (by show N < _; omega) (fun c => h.vN c.symm)).trans ((hb.cell (p := ⟨N, 0, none⟩) hlt).trans h.c0)
  · exact (hg.frozen_far ⟨N, 0, none⟩ (by show N < _; omega) (fun c => h.vN c.symm)).trans ((hb.frozen (p := ⟨N, 0, none⟩) hlt).trans (h.nf 0))
theorem CpO.ownAt {W0 wr W : World} {B N k : Nat} {v q : Value} {xss : List (List Int)} {Q : List Int} {us : List Value} (h : CpO W0 wr B N k v q xss Q us) (hk : k ≤ xss.length) (hb : Below wr.heap.size wr W) : W.ownsRow 0 23 1 v k us := by
  have h1 := h.fresh.rows.own.top
  rw [show (xss.take k).length = k by simp; omega] at h1
  obtain ⟨gv, cv, hv, _, hlt⟩ := h.fresh.rows.top
  exact h1.kept (row := none) ⟨hb.os, hb.tape, hb.output, hb.size, fun i hi _ => hb.block i hi⟩ (.inr (by rw [hv]; simp [Value.ownBlock]))

set_option maxHeartbeats 1000000 in
theorem l01Copy_any (m q : Value) (M : List (List Int)) (Q : List Int) (w : World) (h1 : PM.Rows w m M) (h2 : Ints w q Q) (h0 : M ≠ []) (hne : ∀ i, i < M.length → M.getD i [] ≠ []) (hq0 : Q ≠ []) (hn : tot M ≤ 1048576) (hn2 : Q.length ≤ 1048576) :
    Calls Try.prog 67 #[.agg #[m, q]] w (GivesP w M Q) := by
  have g1 := fun (w' : World) (h : Below w.heap.size w w') => h1.below h
  have g2 := fun (w' : World) (h : Below w.heap.size w w') => h2.below h
  obtain ⟨a1, c1, rfl, _, _, hx1⟩ := h1
  obtain ⟨a2, c2, rfl, _⟩ := h2
  rcases hx1 with hx1 | ⟨b, off, rfl, hblt, hcell⟩
  · exact absurd hx1 h0
  have HC := Lib.hid hcell
  have HN := Lib.hid hn
  have HE := Lib.hid hne
  have HQ := Lib.hid hq0
  have HN2 := Lib.hid hn2
  have hml : M.length ≤ 1048576 := by unfold tot at hn; omega
  have HML := Lib.hid hml
  obtain ⟨i0, hi, hzz0, hzz1, hzz2⟩ := info_parts info_ints
  obtain ⟨W0, hW0⟩ : ∃ W0, W0 = ((w.alloc (.cells #[.slice (some ⟨b, off, none⟩) M.length c1, .slice a2 Q.length c2] 27)).alloc (.cells #[.slice none 0 0, .slice none 0 0] 27)) := ⟨_, rfl⟩
  have hz0 : w.heap.size + 1 + 1 = W0.heap.size := by rw [hW0]; simp
  have hb0 : Below w.heap.size w W0 := by rw [hW0]; (repeat' (first | (with_reducible exact Below.refl _ _) | (with_reducible assumption) | (with_reducible refine Below.alloc ?_ ?_ _) | (with_reducible refine Below.drew ?_) | (with_reducible refine below_drewN ?_ _) | (with_reducible refine Below.setCell ?_ ?_ _) | (with_reducible refine Below.trans ?_ (Below.mono (by with_reducible assumption) ?_)) | (with_reducible exact Below.size (by with_reducible assumption)) | go_size))
  have r1 : ∀ w', Below W0.heap.size W0 w' → w'.cell? ⟨w.heap.size, 0, none⟩ = some (.slice (some ⟨b, off, none⟩) M.length c1) := fun w' h => (h.cell (p := ⟨w.heap.size, 0, none⟩) (by show w.heap.size < _; omega)).trans (by rw [hW0]; simp)
  have r2 : ∀ w', Below W0.heap.size W0 w' → w'.cell? ⟨w.heap.size, 1, none⟩ = some (.slice a2 Q.length c2) := fun w' h => (h.cell (p := ⟨w.heap.size, 1, none⟩) (by show w.heap.size < _; omega)).trans (by rw [hW0]; simp)
  have r3 : ∀ w', Below W0.heap.size W0 w' → w'.cell? ⟨w.heap.size + 1, 0, none⟩ = some (.slice none 0 0) := fun w' h => (h.cell (p := ⟨w.heap.size + 1, 0, none⟩) (by show w.heap.size + 1 < _; omega)).trans (by rw [hW0]; simp)
  have r4 : ∀ w', Below W0.heap.size W0 w' → w'.cell? ⟨w.heap.size + 1, 1, none⟩ = some (.slice none 0 0) := fun w' h => (h.cell (p := ⟨w.heap.size + 1, 1, none⟩) (by show w.heap.size + 1 < _; omega)).trans (by rw [hW0]; simp)
  have r5 : ∀ w' o, Below W0.heap.size W0 w' → w'.frozen? ⟨w.heap.size + 1, o, none⟩ = false := fun w' o h => (h.frozen (p := ⟨w.heap.size + 1, o, none⟩) (by show w.heap.size + 1 < _; omega)).trans (by rw [hW0]; simp)
  have hz1 : w.heap.size + 1 < W0.heap.size := by omega
  have hz2 : w.heap.size < W0.heap.size := by omega
  have HW := Lib.hid hW0
  have HZ := Lib.hid hz0
  clear hcell hn hne h0 hq0 hn2 hml hW0 hz0
  go_enter Try.func67, Try.ntmps67
  go_wp2_with fail
  rw [← HW.out, HZ.out]
  refine (l01Own_any _ Q _ (g2 _ (by (repeat' (first | (with_reducible exact Below.refl _ _) | (with_reducible assumption) | (with_reducible refine Below.alloc ?_ ?_ _) | (with_reducible refine Below.drew ?_) | (with_reducible refine below_drewN ?_ _) | (with_reducible refine Below.setCell ?_ ?_ _) | (with_reducible refine Below.trans ?_ (Below.mono (by with_reducible assumption) ?_)) | (with_reducible exact Below.size (by with_reducible assumption)) | go_size)))) HQ.out HN2.out).mono ?_; rintro e w1 ⟨q1, rfl, ⟨gq, cq, rfl, hgq1, hgq2, hgo⟩, hb1⟩
  have hS0 := CpO.start M hb1 hgq1 hgq2 hgo
  have hN : W0.heap.size ≤ w1.heap.size := by have := hb1.size; simp at this; omega
  have HS0 := Lib.hid hS0
  clear hS0 hgo hgq1 hgq2 hb1
  go_wp2_with fail
  go_loopw [4] (fun i wr => ∃ (k : Nat) (v : Value) (us : List Value), k ≤ M.length ∧ i = .int .i64 k ∧ CpO W0 wr W0.heap.size w1.heap.size k v (.slice (some ⟨gq, 0, none⟩) Q.length cq) M Q us) (fun i _ => M.length - (intOf i).toNat)
  case atStart => exact ⟨0, _, [], Nat.zero_le _, rfl, HS0.out⟩
  case round =>
    obtain ⟨k, v, us, hk, rfl, hcp⟩ := hrel
    have hbr := hcp.below
    by_cases hlt2 : k < M.length
    · obtain ⟨u0, hu0, hI0⟩ := HC.out k hlt2
      have gI := fun (w' : World) (h : Below w.heap.size w w') => hI0.below h
      have r6 : ∀ w', Below W0.heap.size W0 w' → w'.cell? ⟨b, off + k, none⟩ = some u0 := fun w' h => ((hb0.trans (h.mono hb0.size)).cell (p := ⟨b, off + k, none⟩) hblt).trans hu0
      have r7 : ∀ w', Below wr.heap.size wr w' → w'.cell? ⟨w1.heap.size, 0, none⟩ = some v := fun w' h => (h.cell (p := ⟨w1.heap.size, 0, none⟩) hcp.lt).trans hcp.c0
      have hvc := hcp.c0
      have hvl := hcp.lt
      have hnek := HE.out k hlt2
      have hrl : (M.getD k []).length ≤ 1048576 := by
        have h1 := pre_succ M k hlt2
        have h2 := pre_le M (k + 1)
        have h3 := HN.out
        unfold tot at h3
        omega
      have HCP := Lib.hid hcp
      clear hcp hu0
      have hst := fun (u : Value) (w3 w4 : World) (g cap : Nat) hu hb (hown : w4.ownsRow 0 23 1 (.slice (some ⟨g, 0, none⟩) (k + 1) cap) (k + 1) (us ++ [u])) hgrow hat hlt => HCP.out.step (u := u) (w3 := w3) (w4 := w4) (g := g) (cap := cap) hlt2 hN hu hb hown hgrow hat hlt
      have HST := Lib.hid hst
      have HNE := Lib.hid hnek
      have HRL := Lib.hid hrl
      clear hst hnek hrl
      generalize M.getD k [] = r at *
      obtain ⟨ra, rc, rfl, _⟩ := id hI0
      clear hI0
      go_wp2_with fail
      have r1w := r1 _ hbr
      have r6w := r6 _ hbr
      clear r1 r6
      go_region_law (first | (go_simp; go_at_call 110; refine (l01Own_any _ r _ (gI _ (by (repeat' (first | (with_reducible exact Below.refl _ _) | (with_reducible assumption) | (with_reducible refine Below.alloc ?_ ?_ _) | (with_reducible refine Below.drew ?_) | (with_reducible refine below_drewN ?_ _) | (with_reducible refine Below.setCell ?_ ?_ _) | (with_reducible refine Below.trans ?_ (Below.mono (by with_reducible assumption) ?_)) | (with_reducible exact Below.size (by with_reducible assumption)) | go_size)))) HNE.out HRL.out).mono ?_; rintro e w2 ⟨u2, rfl, hfu, hb2⟩; have hk2 : Below wr.heap.size wr w2 := (by (repeat' (first | (with_reducible exact Below.refl _ _) | (with_reducible assumption) | (with_reducible refine Below.alloc ?_ ?_ _) | (with_reducible refine Below.drew ?_) | (with_reducible refine below_drewN ?_ _) | (with_reducible refine Below.setCell ?_ ?_ _) | (with_reducible refine Below.trans ?_ (Below.mono (by with_reducible assumption) ?_)) | (with_reducible exact Below.size (by with_reducible assumption)) | go_size))); have hS2 : Below W0.heap.size W0 w2 := (by (repeat' (first | (with_reducible exact Below.refl _ _) | (with_reducible assumption) | (with_reducible refine Below.alloc ?_ ?_ _) | (with_reducible refine Below.drew ?_) | (with_reducible refine below_drewN ?_ _) | (with_reducible refine Below.setCell ?_ ?_ _) | (with_reducible refine Below.trans ?_ (Below.mono (by with_reducible assumption) ?_)) | (with_reducible exact Below.size (by with_reducible assumption)) | go_size))); have hvl2 : w1.heap.size < w2.heap.size := (Nat.lt_of_lt_of_le hvl hk2.size); have hfu' := hfu; obtain ⟨g2, cap2, rfl, hg21, hg22, hgo2⟩ := hfu'; clear hg21 hg22 hgo2) | (refine step_append_lies _ rfl _ _ 22 rfl 0 23 i0 (.slice none 0 0) 1 24 Try.underlying22 hi hzz0 hzz1 hzz2 rfl (by decide) v k us rfl (HCP.out.ownAt hk (by (repeat' (first | (with_reducible exact Below.refl _ _) | (with_reducible assumption) | (with_reducible refine Below.alloc ?_ ?_ _) | (with_reducible refine Below.drew ?_) | (with_reducible refine below_drewN ?_ _) | (with_reducible refine Below.setCell ?_ ?_ _) | (with_reducible refine Below.trans ?_ (Below.mono (by with_reducible assumption) ?_)) | (with_reducible exact Below.size (by with_reducible assumption)) | go_size)))) _ 1 _ [.slice (some ⟨g2, 0, none⟩) r.length cap2] rfl rfl (cell_one_new _ _ _) (by simp [Value.oneCell']) (by decide) (by have := HML.out; unfold maxLen; omega) (by have := HML.out; omega) (Nat.zero_le _) _ rfl ?_; intro g cap w3 hown hgrow hat hlt; obtain ⟨hs3, hcN, hfN⟩ := HCP.out.far hN (by (repeat' (first | (with_reducible exact Below.refl _ _) | (with_reducible assumption) | (with_reducible refine Below.alloc ?_ ?_ _) | (with_reducible refine Below.drew ?_) | (with_reducible refine below_drewN ?_ _) | (with_reducible refine Below.setCell ?_ ?_ _) | (with_reducible refine Below.trans ?_ (Below.mono (by with_reducible assumption) ?_)) | (with_reducible exact Below.size (by with_reducible assumption)) | go_size))) hgrow; have hst := HST.out _ _ _ _ _ (hfu.below (by (repeat' (first | (with_reducible exact Below.refl _ _) | (with_reducible assumption) | (with_reducible refine Below.alloc ?_ ?_ _) | (with_reducible refine Below.drew ?_) | (with_reducible refine below_drewN ?_ _) | (with_reducible refine Below.setCell ?_ ?_ _) | (with_reducible refine Below.trans ?_ (Below.mono (by with_reducible assumption) ?_)) | (with_reducible exact Below.size (by with_reducible assumption)) | go_size)))) (by (repeat' (first | (with_reducible exact Below.refl _ _) | (with_reducible assumption) | (with_reducible refine Below.alloc ?_ ?_ _) | (with_reducible refine Below.drew ?_) | (with_reducible refine below_drewN ?_ _) | (with_reducible refine Below.setCell ?_ ?_ _) | (with_reducible refine Below.trans ?_ (Below.mono (by with_reducible assumption) ?_)) | (with_reducible exact Below.size (by with_reducible assumption)) | go_size))) hown hgrow hat hlt; have HST3 := Lib.hid hst; clear hst hown hgrow hat hlt))
      all_goals
        have hml := HML.out
        go_wp2_with fail
        go_roundw
        case rel => exact ⟨k + 1, _, _, by omega, by go_num, HST3.out⟩
        case measure => simp [intOf]; omega
    · obtain rfl : k = M.length := by omega
      have hr3 := r3 _ hbr
      have hr4 := r4 _ hbr
      have hr5 := fun o => r5 _ o hbr
      have hcN0 := hcp.c0
      have hcN1 := hcp.c1
      have hvl := hcp.lt
      have r1w := r1 _ hbr
      have hs1 : w.heap.size + 1 < wr.heap.size := by omega
      have hs0 : w.heap.size < wr.heap.size := by omega
      have hfr := hcp.fresh
      rw [List.take_length] at hfr
      obtain ⟨gv, cv, rfl, hgv⟩ := hfr.rows.top
      have HF := Lib.hid hfr
      clear hcp hfr r1 r2 r3 r4 r5
      go_wp2_with fail
      refine bodyPost_ret (v := .agg #[.slice (some ⟨gv, 0, none⟩) M.length cv, .slice (some ⟨gq, 0, none⟩) Q.length cq]) (by simp [*, results, Try.results67, go_sem]) rfl ?_
      have hbb : Below w.heap.size w wr := hb0.trans (hbr.mono hb0.size)
      have hfr := (HF.out.tch (bs := [w.heap.size + 1]) (((Tch.refl _ wr).setCell (p := ⟨w.heap.size + 1, 0, none⟩) (by simp) (.slice (some ⟨gv, 0, none⟩) M.length cv)).setCell (p := ⟨w.heap.size + 1, 1, none⟩) (by simp) (.slice (some ⟨gq, 0, none⟩) Q.length cq)) (fun b hb => by simp at hb; omega)).mono (C := w.heap.size) (by omega)
      exact ⟨_, _, us, rfl, hfr, (hbb.setCell (by simp) _).setCell (by simp) _⟩
end Go.Proofs.Ytkdgnegnndedaaa.PW
namespace Go.Proofs.Ytkdgnegnndedaaa.PW
open Go.RowKit Go.Proofs.Ytkdgnegnndedaaa
open Go.Proofs.Ytkdgnegnndedaaa.PM

theorem sscale_err1 (m q : Value) (M : List (List Int)) (Q : List Int) (i k : Int) (w : World) (h1 : PM.Rows w m M) (h2 : Ints w q Q) (hp' : isPB M Q = false) :
    Calls Try.prog 16 #[.agg #[m, q], .int .i64 i, .int .i64 k] w (OutP w ([], [], 1)) := by
  have g1 := fun (w' : World) (h : Below w.heap.size w w') => h1.below h
  have g2 := fun (w' : World) (h : Below w.heap.size w w') => h2.below h
  obtain ⟨a1, c1, rfl, _⟩ := h1
  obtain ⟨a2, c2, rfl, _⟩ := h2
  have HP := Lib.hid hp'
  clear hp'
  go_enter Try.func16, Try.ntmps16
  go_wp2_with fail
  refine (l01Is_any _ _ M Q _ (g1 _ (by (repeat' (first | (with_reducible exact Below.refl _ _) | (with_reducible assumption) | (with_reducible refine Below.alloc ?_ ?_ _) | (with_reducible refine Below.drew ?_) | (with_reducible refine below_drewN ?_ _) | (with_reducible refine Below.setCell ?_ ?_ _) | (with_reducible refine Below.trans ?_ (Below.mono (by with_reducible assumption) ?_)) | (with_reducible exact Below.size (by with_reducible assumption)) | go_size)))) (g2 _ (by (repeat' (first | (with_reducible exact Below.refl _ _) | (with_reducible assumption) | (with_reducible refine Below.alloc ?_ ?_ _) | (with_reducible refine Below.drew ?_) | (with_reducible refine below_drewN ?_ _) | (with_reducible refine Below.setCell ?_ ?_ _) | (with_reducible refine Below.trans ?_ (Below.mono (by with_reducible assumption) ?_)) | (with_reducible exact Below.size (by with_reducible assumption)) | go_size))))).mono ?_; rw [HP.out]; rintro e w1 ⟨rfl, hb1⟩; obtain ⟨hc_hb1, hf_hb1⟩ := bcell hb1; obtain ⟨hcA_hb1, hfA_hb1⟩ := bcellG (W0 := w) hb1 (by (repeat' (first | (with_reducible exact Below.refl _ _) | (with_reducible assumption) | (with_reducible refine Below.alloc ?_ ?_ _) | (with_reducible refine Below.drew ?_) | (with_reducible refine below_drewN ?_ _) | (with_reducible refine Below.setCell ?_ ?_ _) | (with_reducible refine Below.trans ?_ (Below.mono (by with_reducible assumption) ?_)) | (with_reducible exact Below.size (by with_reducible assumption)) | go_size))); have hz_hb1 := hb1.size; (try simp at hz_hb1); (try simp only [Nat.add_one_le_iff] at hz_hb1); have hz0_hb1 : w.heap.size < w1.heap.size := (by omega); have hz1_hb1 : w.heap.size + 1 < w1.heap.size := (by omega)
  go_wp2_with fail
  refine bodyPost_ret (v := .tuple #[.agg #[.slice none 0 0, .slice none 0 0], .int .i64 1]) (by simp [*, results, Try.results16, go_sem]) rfl ?_
  refine ⟨_, _, [], rfl, ownP_nil _ _, ?_⟩
  (repeat' (first | (with_reducible exact Below.refl _ _) | (with_reducible assumption) | (with_reducible refine Below.alloc ?_ ?_ _) | (with_reducible refine Below.drew ?_) | (with_reducible refine below_drewN ?_ _) | (with_reducible refine Below.setCell ?_ ?_ _) | (with_reducible refine Below.trans ?_ (Below.mono (by with_reducible assumption) ?_)) | (with_reducible exact Below.size (by with_reducible assumption)) | go_size))

theorem sscale_err2a (m q : Value) (M : List (List Int)) (Q : List Int) (i k : Int) (w : World) (h1 : PM.Rows w m M) (h2 : Ints w q Q) (hp : isPB M Q = true) (hn5 : Q.length ≤ 5)
    (hin : decide (0 ≤ i ∧ i ≤ (Q.length : Int) - 1) = false) :
    Calls Try.prog 16 #[.agg #[m, q], .int .i64 i, .int .i64 k] w (OutP w ([], [], 2)) := by
  have g1 := fun (w' : World) (h : Below w.heap.size w w') => h1.below h
  have g2 := fun (w' : World) (h : Below w.heap.size w w') => h2.below h
  obtain ⟨a1, c1, rfl, _⟩ := h1
  obtain ⟨a2, c2, rfl, _⟩ := h2
  have HP := Lib.hid hp
  have HI := Lib.hid hin
  clear hp hin
  go_enter Try.func16, Try.ntmps16
  go_wp2_with fail
  refine (l01Is_any _ _ M Q _ (g1 _ (by (repeat' (first | (with_reducible exact Below.refl _ _) | (with_reducible assumption) | (with_reducible refine Below.alloc ?_ ?_ _) | (with_reducible refine Below.drew ?_) | (with_reducible refine below_drewN ?_ _) | (with_reducible refine Below.setCell ?_ ?_ _) | (with_reducible refine Below.trans ?_ (Below.mono (by with_reducible assumption) ?_)) | (with_reducible exact Below.size (by with_reducible assumption)) | go_size)))) (g2 _ (by (repeat' (first | (with_reducible exact Below.refl _ _) | (with_reducible assumption) | (with_reducible refine Below.alloc ?_ ?_ _) | (with_reducible refine Below.drew ?_) | (with_reducible refine below_drewN ?_ _) | (with_reducible refine Below.setCell ?_ ?_ _) | (with_reducible refine Below.trans ?_ (Below.mono (by with_reducible assumption) ?_)) | (with_reducible exact Below.size (by with_reducible assumption)) | go_size))))).mono ?_; rw [HP.out]; rintro e w1 ⟨rfl, hb1⟩; obtain ⟨hc_hb1, hf_hb1⟩ := bcell hb1; obtain ⟨hcA_hb1, hfA_hb1⟩ := bcellG (W0 := w) hb1 (by (repeat' (first | (with_reducible exact Below.refl _ _) | (with_reducible assumption) | (with_reducible refine Below.alloc ?_ ?_ _) | (with_reducible refine Below.drew ?_) | (with_reducible refine below_drewN ?_ _) | (with_reducible refine Below.setCell ?_ ?_ _) | (with_reducible refine Below.trans ?_ (Below.mono (by with_reducible assumption) ?_)) | (with_reducible exact Below.size (by with_reducible assumption)) | go_size))); have hz_hb1 := hb1.size; (try simp at hz_hb1); (try simp only [Nat.add_one_le_iff] at hz_hb1); have hz0_hb1 : w.heap.size < w1.heap.size := (by omega); have hz1_hb1 : w.heap.size + 1 < w1.heap.size := (by omega)
  go_wp2_with fail
  refine (l01In_is i 0 ((Q.length : Int) - 1) false _ HI.out).mono ?_; rintro e w2 ⟨rfl, rfl⟩
  go_wp2_with fail
  refine bodyPost_ret (v := .tuple #[.agg #[.slice none 0 0, .slice none 0 0], .int .i64 2]) (by simp [*, results, Try.results16, go_sem]) rfl ?_
  refine ⟨_, _, [], rfl, ownP_nil _ _, ?_⟩
  (repeat' (first | (with_reducible exact Below.refl _ _) | (with_reducible assumption) | (with_reducible refine Below.alloc ?_ ?_ _) | (with_reducible refine Below.drew ?_) | (with_reducible refine below_drewN ?_ _) | (with_reducible refine Below.setCell ?_ ?_ _) | (with_reducible refine Below.trans ?_ (Below.mono (by with_reducible assumption) ?_)) | (with_reducible exact Below.size (by with_reducible assumption)) | go_size))
theorem sscale_err2b (m q : Value) (M : List (List Int)) (Q : List Int) (i k : Int) (w : World) (h1 : PM.Rows w m M) (h2 : Ints w q Q) (hp : isPB M Q = true) (hn5 : Q.length ≤ 5)
    (hin : decide (0 ≤ i ∧ i ≤ (Q.length : Int) - 1) = true) (hkn : decide (1 ≤ k ∧ k ≤ (100 : Int)) = false) :
    Calls Try.prog 16 #[.agg #[m, q], .int .i64 i, .int .i64 k] w (OutP w ([], [], 2)) := by
  have g1 := fun (w' : World) (h : Below w.heap.size w w') => h1.below h
  have g2 := fun (w' : World) (h : Below w.heap.size w w') => h2.below h
  obtain ⟨a1, c1, rfl, _⟩ := h1
  obtain ⟨a2, c2, rfl, _⟩ := h2
  have HP := Lib.hid hp
  have HI := Lib.hid hin
  have HK := Lib.hid hkn
  clear hp hin hkn
  go_enter Try.func16, Try.ntmps16
  go_wp2_with fail
  refine (l01Is_any _ _ M Q _ (g1 _ (by (repeat' (first | (with_reducible exact Below.refl _ _) | (with_reducible assumption) | (with_reducible refine Below.alloc ?_ ?_ _) | (with_reducible refine Below.drew ?_) | (with_reducible refine below_drewN ?_ _) | (with_reducible refine Below.setCell ?_ ?_ _) | (with_reducible refine Below.trans ?_ (Below.mono (by with_reducible assumption) ?_)) | (with_reducible exact Below.size (by with_reducible assumption)) | go_size)))) (g2 _ (by (repeat' (first | (with_reducible exact Below.refl _ _) | (with_reducible assumption) | (with_reducible refine Below.alloc ?_ ?_ _) | (with_reducible refine Below.drew ?_) | (with_reducible refine below_drewN ?_ _) | (with_reducible refine Below.setCell ?_ ?_ _) | (with_reducible refine Below.trans ?_ (Below.mono (by with_reducible assumption) ?_)) | (with_reducible exact Below.size (by with_reducible assumption)) | go_size))))).mono ?_; rw [HP.out]; rintro e w1 ⟨rfl, hb1⟩; obtain ⟨hc_hb1, hf_hb1⟩ := bcell hb1; obtain ⟨hcA_hb1, hfA_hb1⟩ := bcellG (W0 := w) hb1 (by (repeat' (first | (with_reducible exact Below.refl _ _) | (with_reducible assumption) | (with_reducible refine Below.alloc ?_ ?_ _) | (with_reducible refine Below.drew ?_) | (with_reducible refine below_drewN ?_ _) | (with_reducible refine Below.setCell ?_ ?_ _) | (with_reducible refine Below.trans ?_ (Below.mono (by with_reducible assumption) ?_)) | (with_reducible exact Below.size (by with_reducible assumption)) | go_size))); have hz_hb1 := hb1.size; (try simp at hz_hb1); (try simp only [Nat.add_one_le_iff] at hz_hb1); have hz0_hb1 : w.heap.size < w1.heap.size := (by omega); have hz1_hb1 : w.heap.size + 1 < w1.heap.size := (by omega)
  go_wp2_with fail
  refine (l01In_is i 0 ((Q.length : Int) - 1) true _ HI.out).mono ?_; rintro e w2 ⟨rfl, rfl⟩
  go_wp2_with fail
  refine (l01In_is k 1 100 false _ HK.out).mono ?_; rintro e w2 ⟨rfl, rfl⟩
  go_wp2_with fail
  refine bodyPost_ret (v := .tuple #[.agg #[.slice none 0 0, .slice none 0 0], .int .i64 2]) (by simp [*, results, Try.results16, go_sem]) rfl ?_
  refine ⟨_, _, [], rfl, ownP_nil _ _, ?_⟩
  (repeat' (first | (with_reducible exact Below.refl _ _) | (with_reducible assumption) | (with_reducible refine Below.alloc ?_ ?_ _) | (with_reducible refine Below.drew ?_) | (with_reducible refine below_drewN ?_ _) | (with_reducible refine Below.setCell ?_ ?_ _) | (with_reducible refine Below.trans ?_ (Below.mono (by with_reducible assumption) ?_)) | (with_reducible exact Below.size (by with_reducible assumption)) | go_size))

/-- l01Copy's answer with its slices written out. -/
theorem l01Copy_out (m q : Value) (M : List (List Int)) (Q : List Int) (w : World) (h1 : PM.Rows w m M) (h2 : Ints w q Q) (h0 : M ≠ []) (hne : ∀ i, i < M.length → M.getD i [] ≠ []) (hq0 : Q ≠ []) (hn : tot M ≤ 1048576) (hn2 : Q.length ≤ 1048576) :
    Calls Try.prog 67 #[.agg #[m, q]] w fun e w' => ∃ gm cm gq cq us, e = .returned (.agg #[.slice (some ⟨gm, 0, none⟩) M.length cm, .slice (some ⟨gq, 0, none⟩) Q.length cq]) ∧ w.heap.size ≤ gm ∧ gm < w'.heap.size ∧ w.heap.size ≤ gq ∧ gq < w'.heap.size ∧ gm ≠ gq ∧
      FreshP w.heap.size w' (.slice (some ⟨gm, 0, none⟩) M.length cm) (.slice (some ⟨gq, 0, none⟩) Q.length cq) M Q us ∧ Below w.heap.size w w' := by
  refine (l01Copy_any m q M Q w h1 h2 h0 hne hq0 hn hn2).mono ?_
  rintro e w' ⟨m', q', us, rfl, hfp, hb⟩
  obtain ⟨gm, cm, rfl, hm1, hm2⟩ := hfp.rows.top
  obtain ⟨gq, cq, rfl, hq1, hq2, _⟩ := hfp.right
  exact ⟨gm, cm, gq, cq, us, rfl, hm1, hm2, hq1, hq2, fun c => (hfp.apart gq rfl).1 (by rw [c]; rfl), hfp, hb⟩

theorem specScaleRow_any (m q : Value) (M : List (List Int)) (Q : List Int) (i k : Int) (w : World) (h1 : PM.Rows w m M) (h2 : Ints w q Q) :
    Calls Try.prog 16 #[.agg #[m, q], .int .i64 i, .int .i64 k] w (OutP w (scaleOut M Q i k)) := by
  by_cases hp : isPB M Q = true
  case neg =>
    have hp' : isPB M Q = false := by simpa using hp
    have e : scaleOut M Q i k = ([], [], 1) := by unfold scaleOut; rw [if_pos hp']
    rw [e]
    exact sscale_err1 m q M Q i k w h1 h2 hp'
  obtain ⟨f1, f2, f3, f4, f5⟩ := isPB_facts hp
  by_cases hrng : i < 0 ∨ (M.length : Int) ≤ i ∨ k < 1 ∨ 100 < k
  · have e : scaleOut M Q i k = ([], [], 2) := by unfold scaleOut; rw [if_neg (by simp [hp]), if_pos hrng]
    rw [e]
    by_cases hin : 0 ≤ i ∧ i ≤ (Q.length : Int) - 1
    · exact sscale_err2b m q M Q i k w h1 h2 hp (by omega) (decide_eq_true hin) (decide_eq_false (by omega))
    · exact sscale_err2a m q M Q i k w h1 h2 hp (by omega) (decide_eq_false hin)
  have g1 := fun (w' : World) (h : Below w.heap.size w w') => h1.below h
  have g2 := fun (w' : World) (h : Below w.heap.size w w') => h2.below h
  obtain ⟨a1, c1, rfl, _⟩ := h1
  obtain ⟨a2, c2, rfl, _⟩ := h2
  have hr1 : 0 ≤ i := by omega
  have hr2 : i < M.length := by omega
  have hk1 : 1 ≤ k := by omega
  have hk2 : k ≤ 100 := by omega
  obtain ⟨ι, rfl⟩ := Int.eq_ofNat_of_zero_le hr1
  have hι : ι < M.length := by omega
  have hin : decide (0 ≤ (ι : Int) ∧ (ι : Int) ≤ (Q.length : Int) - 1) = true := decide_eq_true (by omega)
  have hkn : decide (1 ≤ k ∧ k ≤ (100 : Int)) = true := decide_eq_true (by omega)
  have e0 : scaleOut M Q (ι : Int) k = if isPB (scM M ι k) (scQ Q ι k) = false then ([], [], 3) else (scM M ι k, scQ Q ι k, 0) := by
    unfold scaleOut; rw [if_neg (by simp [hp]), if_neg hrng, Int.toNat_natCast]
  rw [e0]
  clear e0 hrng
  generalize hoe : (if isPB (scM M ι k) (scQ Q ι k) = false then (([], [], 3) : List (List Int) × List Int × Int) else (scM M ι k, scQ Q ι k, 0)) = o
  have HO := Lib.hid hoe
  clear hoe
  have htot := tot_small hp
  have hP := Lib.hid hp
  have H4 := Lib.hid f4
  have H3 := Lib.hid f3
  have HT := Lib.hid htot
  have HI := Lib.hid hin
  have HK := Lib.hid hkn
  have hqm : -10000 ≤ k * Q.getD ι 0 ∧ k * Q.getD ι 0 ≤ 10000 := by
    have hb := f5 ι (by omega)
    have := mul_bd (a := Q.getD ι 0) (b := k) (A := 100) (B := 100) (by omega) (by omega) (by omega) (by omega)
    rw [Int.mul_comm]
    omega
  have hne1 : M ≠ [] := by intro c; rw [c] at f1; simp at f1
  have hne2 : Q ≠ [] := by intro c; rw [c] at f3; simp at f3; omega
  have hne3 : ∀ j, j < M.length → M.getD j [] ≠ [] := fun j hj c => by have := (f4 j hj).1; rw [c] at this; simp at this; omega
  have hql : Q.length ≤ 1048576 := by omega
  have hq5 : Q.length ≤ 5 := by omega
  have HQL := Lib.hid hql
  have HQM := Lib.hid hqm
  have N1 := Lib.hid hne1
  have N2 := Lib.hid hne2
  have N3 := Lib.hid hne3
  clear hp f4 htot f5 hne1 hne2 hne3 hql hqm f3 hin hkn
  go_enter Try.func16, Try.ntmps16
  go_wp2_with fail
  refine (l01Is_any _ _ M Q _ (g1 _ (by (repeat' (first | (with_reducible exact Below.refl _ _) | (with_reducible assumption) | (with_reducible refine Below.alloc ?_ ?_ _) | (with_reducible refine Below.drew ?_) | (with_reducible refine below_drewN ?_ _) | (with_reducible refine Below.setCell ?_ ?_ _) | (with_reducible refine Below.trans ?_ (Below.mono (by with_reducible assumption) ?_)) | (with_reducible exact Below.size (by with_reducible assumption)) | go_size)))) (g2 _ (by (repeat' (first | (with_reducible exact Below.refl _ _) | (with_reducible assumption) | (with_reducible refine Below.alloc ?_ ?_ _) | (with_reducible refine Below.drew ?_) | (with_reducible refine below_drewN ?_ _) | (with_reducible refine Below.setCell ?_ ?_ _) | (with_reducible refine Below.trans ?_ (Below.mono (by with_reducible assumption) ?_)) | (with_reducible exact Below.size (by with_reducible assumption)) | go_size))))).mono ?_; rw [hP.out]; rintro e w1 ⟨rfl, hb1⟩; obtain ⟨hc_hb1, hf_hb1⟩ := bcell hb1; obtain ⟨hcA_hb1, hfA_hb1⟩ := bcellG (W0 := w) hb1 (by (repeat' (first | (with_reducible exact Below.refl _ _) | (with_reducible assumption) | (with_reducible refine Below.alloc ?_ ?_ _) | (with_reducible refine Below.drew ?_) | (with_reducible refine below_drewN ?_ _) | (with_reducible refine Below.setCell ?_ ?_ _) | (with_reducible refine Below.trans ?_ (Below.mono (by with_reducible assumption) ?_)) | (with_reducible exact Below.size (by with_reducible assumption)) | go_size))); have hz_hb1 := hb1.size; (try simp at hz_hb1); (try simp only [Nat.add_one_le_iff] at hz_hb1); have hz0_hb1 : w.heap.size < w1.heap.size := (by omega); have hz1_hb1 : w.heap.size + 1 < w1.heap.size := (by omega)
  have hw1 : Below w.heap.size w w1 := by (repeat' (first | (with_reducible exact Below.refl _ _) | (with_reducible assumption) | (with_reducible refine Below.alloc ?_ ?_ _) | (with_reducible refine Below.drew ?_) | (with_reducible refine below_drewN ?_ _) | (with_reducible refine Below.setCell ?_ ?_ _) | (with_reducible refine Below.trans ?_ (Below.mono (by with_reducible assumption) ?_)) | (with_reducible exact Below.size (by with_reducible assumption)) | go_size))
  go_wp2_with fail
  refine (l01In_is _ 0 ((Q.length : Int) - 1) true _ HI.out).mono ?_; rintro e w2 ⟨rfl, rfl⟩
  go_wp2_with fail
  refine (l01In_is k 1 100 true _ HK.out).mono ?_; rintro e w2 ⟨rfl, rfl⟩
  go_wp2_with fail
  refine (l01Copy_out _ _ M Q _ (g1 _ (by (repeat' (first | (with_reducible exact Below.refl _ _) | (with_reducible assumption) | (with_reducible refine Below.alloc ?_ ?_ _) | (with_reducible refine Below.drew ?_) | (with_reducible refine below_drewN ?_ _) | (with_reducible refine Below.setCell ?_ ?_ _) | (with_reducible refine Below.trans ?_ (Below.mono (by with_reducible assumption) ?_)) | (with_reducible exact Below.size (by with_reducible assumption)) | go_size)))) (g2 _ (by (repeat' (first | (with_reducible exact Below.refl _ _) | (with_reducible assumption) | (with_reducible refine Below.alloc ?_ ?_ _) | (with_reducible refine Below.drew ?_) | (with_reducible refine below_drewN ?_ _) | (with_reducible refine Below.setCell ?_ ?_ _) | (with_reducible refine Below.trans ?_ (Below.mono (by with_reducible assumption) ?_)) | (with_reducible exact Below.size (by with_reducible assumption)) | go_size)))) N1.out N3.out N2.out HT.out HQL.out).mono ?_
  rintro e w2 ⟨gm, cm, gq, cq, us, rfl, hgm1, hgm2, hgq1, hgq2, hgmq, hfp, hb2⟩
  obtain ⟨_, _, hqe, _, _, hoq⟩ := hfp.right
  obtain ⟨rfl, rfl⟩ : _ ∧ _ := by simpa using hqe
  have hoR := hfp.rows.own.rows ι hι
  obtain ⟨gr, cr, hur⟩ := own_nonempty hoR (N3.out ι hι)
  have hgr := hfp.rows.rows ι gr hι (by rw [hur]; rfl)
  have htop := top_cell hfp.rows.own hι
  rw [hur] at htop
  obtain ⟨hc_hb2, hf_hb2⟩ := bcell hb2; obtain ⟨hcA_hb2, hfA_hb2⟩ := bcellG (W0 := w1) hb2 (by (repeat' (first | (with_reducible exact Below.refl _ _) | (with_reducible assumption) | (with_reducible refine Below.alloc ?_ ?_ _) | (with_reducible refine Below.drew ?_) | (with_reducible refine below_drewN ?_ _) | (with_reducible refine Below.setCell ?_ ?_ _) | (with_reducible refine Below.trans ?_ (Below.mono (by with_reducible assumption) ?_)) | (with_reducible exact Below.size (by with_reducible assumption)) | go_size))); have hz_hb2 := hb2.size; (try simp at hz_hb2); (try simp only [Nat.add_one_le_iff] at hz_hb2)
  have hz0_2 : w.heap.size < w2.heap.size := by omega
  have hz1_2 : w.heap.size + 1 < w2.heap.size := by omega
  have hne_q : ¬ gq = w2.heap.size := by omega
  have hne_m : ¬ gm = w2.heap.size := by omega
  have hne_r : ¬ gr = w2.heap.size := by omega
  have hbt : Below w.heap.size w w2 := hw1.trans (hb2.mono hw1.size)
  have hr0 : w2.cell? ⟨w.heap.size + 1, 0, none⟩ = some (.slice none 0 0) := by rw [hc_hb2 _ _ hz1_hb1, hc_hb1 _ _ (by simp)]; simp
  have hr1 : w2.cell? ⟨w.heap.size + 1, 1, none⟩ = some (.slice none 0 0) := by rw [hc_hb2 _ _ hz1_hb1, hc_hb1 _ _ (by simp)]; simp
  have hrf : ∀ o, w2.frozen? ⟨w.heap.size + 1, o, none⟩ = false := fun o => by rw [hf_hb2 _ _ hz1_hb1, hf_hb1 _ _ (by simp)]; simp
  have hS0 : Sc w (w2.alloc (.cells #[.slice (some ⟨gm, 0, none⟩) M.length cm, .slice (some ⟨gq, 0, none⟩) Q.length cq] 27)) w1.heap.size w2.heap.size (.slice (some ⟨gm, 0, none⟩) M.length cm) (.slice (some ⟨gq, 0, none⟩) Q.length cq) (M.set ι (scPart (M.getD ι []) k 0)) Q us := by
    rw [scM_zero]
    exact Sc.start (w := w) hfp hr0 hr1 hrf hz1_2 hbt
  have HS0 := Lib.hid hS0
  have HU := Lib.hid hur
  clear hfp hoq hqe hoR hur hS0 hbt hr0 hr1 hrf
  obtain ⟨n, hn⟩ : ∃ n, n = (M.getD ι []).length := ⟨_, rfl⟩
  have hn5 : n ≤ 5 := by rw [hn, (H4.out ι hι).1]; omega
  rw [← hn] at htop
  have HNN := Lib.hid hn
  clear hn
  have hB : w.heap.size + 1 < gr := by omega
  have hBq : w.heap.size + 1 < gq := by omega
  go_wp2_with fail
  go_loopw [10] (fun i wr => ∃ (c : Nat), c ≤ n ∧ i = .int .i64 c ∧ Sc w wr w1.heap.size w2.heap.size (.slice (some ⟨gm, 0, none⟩) M.length cm) (.slice (some ⟨gq, 0, none⟩) Q.length cq) (M.set ι (scPart (M.getD ι []) k c)) Q us) (fun i _ => n - (intOf i).toNat)
  case atStart => exact ⟨0, Nat.zero_le _, rfl, HS0.out⟩
  case round =>
    obtain ⟨c, hc, rfl, hS⟩ := hrel
    by_cases hlt2 : c < n
    · have hlc : c < (M.getD ι []).length := by have := HNN.out; omega
      obtain ⟨hce, hfe⟩ := hS.cellRow hι hlc HU.out
      have hst := hS.step hι hlc HU.out hne_r hB
      rw [Int.mul_comm] at hst
      have hbd := (H4.out ι hι).2 c (by have := (H4.out ι hι).1; omega)
      have hym : -2000 ≤ k * (M.getD ι []).getD c 0 ∧ k * (M.getD ι []).getD c 0 ≤ 2000 := by
        have := mul_bd (a := (M.getD ι []).getD c 0) (b := k) (A := 20) (B := 100) (by omega) (by omega) (by omega) (by omega)
        rw [Int.mul_comm]
        omega
      have HST := Lib.hid hst
      clear hst hS hbd hlc
      generalize (M.getD ι []).getD c 0 = y at *
      go_wp2_with fail
      go_roundw
      case rel => exact ⟨c + 1, by omega, by go_num, HST.out⟩
      case measure => simp [intOf]; omega
    · obtain rfl : c = n := by omega
      have hM : M.set ι (scPart (M.getD ι []) k c) = scM M ι k := by rw [HNN.out]; exact scM_end M ι k
      rw [hM] at hS
      have hιq : ι < Q.length := by have := H3.out; omega
      have hoq := hS.fresh.right
      obtain ⟨_, _, hqe, _, _, hoq⟩ := hoq
      obtain ⟨rfl, rfl⟩ : _ ∧ _ := by simpa using hqe
      have hcq := own_cell hoq (j := ι) hιq
      have hfq := own_frozen hoq ι
      have hn1 := hS.c1
      have hn0 := hS.c0
      have hS2 := hS.setRight hne_q hBq ι (Q.getD ι 0 * k)
      rw [Int.mul_comm] at hS2
      have HS2 := Lib.hid hS2
      have hqm := HQM.out
      clear hS2 hS hoq hqe hM
      generalize hx : Q.getD ι 0 = x at *
      go_wp2_with fail
      go_region
      obtain ⟨W3, hW3⟩ : ∃ W3, W3 = wr.setCell ⟨gq, ι, none⟩ (.int .i64 (k * x)) := ⟨_, rfl⟩
      rw [← hW3] at HS2 ⊢
      clear hW3 hcq hfq hn0 hn1
      have hS := HS2.out
      obtain ⟨hi1, hi2⟩ := sc_i64 hP.out hι hk1 hk2
      have hQx : Q.set ι (k * x) = scQ Q ι k := by rw [← hx, Int.mul_comm]; rfl
      rw [hQx] at hS
      obtain ⟨hrd1, hrd2⟩ := hS.fresh.reads hi1 hi2
      have hn0 := hS.c0
      have hn1 := hS.c1
      have hr0 := hS.r0
      have hr1 := hS.r1
      have hrf := hS.rf
      have hzr1 := hS.lt
      have hzr0 : w.heap.size < W3.heap.size := by omega
      have hzN : w2.heap.size < W3.heap.size := World.block_lt_of_cell? W3 _ hn0
      have HS := Lib.hid hS
      have HR1 := Lib.hid hrd1
      have HR2 := Lib.hid hrd2
      clear hS hi1 hi2 hrd1 hrd2 hQx HS2
      cases hib : isPB (scM M ι k) (scQ Q ι k)
      case false =>
        have ho : o = ([], [], 3) := by rw [← HO.out, if_pos hib]
        subst ho
        have HIB := Lib.hid hib
        clear hib
        go_wp2_with fail
        refine (l01Is_any _ _ (scM M ι k) (scQ Q ι k) _ (HR1.out.below (by (repeat' (first | (with_reducible exact Below.refl _ _) | (with_reducible assumption) | (with_reducible refine Below.alloc ?_ ?_ _) | (with_reducible refine Below.drew ?_) | (with_reducible refine below_drewN ?_ _) | (with_reducible refine Below.setCell ?_ ?_ _) | (with_reducible refine Below.trans ?_ (Below.mono (by with_reducible assumption) ?_)) | (with_reducible exact Below.size (by with_reducible assumption)) | go_size)))) (HR2.out.below (by (repeat' (first | (with_reducible exact Below.refl _ _) | (with_reducible assumption) | (with_reducible refine Below.alloc ?_ ?_ _) | (with_reducible refine Below.drew ?_) | (with_reducible refine below_drewN ?_ _) | (with_reducible refine Below.setCell ?_ ?_ _) | (with_reducible refine Below.trans ?_ (Below.mono (by with_reducible assumption) ?_)) | (with_reducible exact Below.size (by with_reducible assumption)) | go_size))))).mono ?_; rw [HIB.out]; rintro e w4 ⟨rfl, hb4⟩
        have hb5 : Below W3.heap.size W3 w4 := by (repeat' (first | (with_reducible exact Below.refl _ _) | (with_reducible assumption) | (with_reducible refine Below.alloc ?_ ?_ _) | (with_reducible refine Below.drew ?_) | (with_reducible refine below_drewN ?_ _) | (with_reducible refine Below.setCell ?_ ?_ _) | (with_reducible refine Below.trans ?_ (Below.mono (by with_reducible assumption) ?_)) | (with_reducible exact Below.size (by with_reducible assumption)) | go_size))
        clear hb4
        obtain ⟨hc_hb5, hf_hb5⟩ := bcell hb5; obtain ⟨hcA_hb5, hfA_hb5⟩ := bcellG (W0 := W3) hb5 (by (repeat' (first | (with_reducible exact Below.refl _ _) | (with_reducible assumption) | (with_reducible refine Below.alloc ?_ ?_ _) | (with_reducible refine Below.drew ?_) | (with_reducible refine below_drewN ?_ _) | (with_reducible refine Below.setCell ?_ ?_ _) | (with_reducible refine Below.trans ?_ (Below.mono (by with_reducible assumption) ?_)) | (with_reducible exact Below.size (by with_reducible assumption)) | go_size))); have hz_hb5 := hb5.size; (try simp at hz_hb5); (try simp only [Nat.add_one_le_iff] at hz_hb5)
        go_wp2_with fail
        refine bodyPost_ret (v := .tuple #[.agg #[.slice none 0 0, .slice none 0 0], .int .i64 3]) (by simp [*, results, Try.results16, go_sem]) rfl ?_
        have hbb : Below w.heap.size w w4 := HS.out.below.trans (hb5.mono (by omega))
        exact ⟨_, _, [], rfl, ownP_nil _ _, (hbb.setCell (by simp) _).setCell (by simp) _⟩
      case true =>
        have ho : o = (scM M ι k, scQ Q ι k, 0) := by rw [← HO.out, if_neg (by rw [hib]; exact Bool.noConfusion)]
        subst ho
        have HIB := Lib.hid hib
        clear hib
        go_wp2_with fail
        refine (l01Is_any _ _ (scM M ι k) (scQ Q ι k) _ (HR1.out.below (by (repeat' (first | (with_reducible exact Below.refl _ _) | (with_reducible assumption) | (with_reducible refine Below.alloc ?_ ?_ _) | (with_reducible refine Below.drew ?_) | (with_reducible refine below_drewN ?_ _) | (with_reducible refine Below.setCell ?_ ?_ _) | (with_reducible refine Below.trans ?_ (Below.mono (by with_reducible assumption) ?_)) | (with_reducible exact Below.size (by with_reducible assumption)) | go_size)))) (HR2.out.below (by (repeat' (first | (with_reducible exact Below.refl _ _) | (with_reducible assumption) | (with_reducible refine Below.alloc ?_ ?_ _) | (with_reducible refine Below.drew ?_) | (with_reducible refine below_drewN ?_ _) | (with_reducible refine Below.setCell ?_ ?_ _) | (with_reducible refine Below.trans ?_ (Below.mono (by with_reducible assumption) ?_)) | (with_reducible exact Below.size (by with_reducible assumption)) | go_size))))).mono ?_; rw [HIB.out]; rintro e w4 ⟨rfl, hb4⟩
        have hb5 : Below W3.heap.size W3 w4 := by (repeat' (first | (with_reducible exact Below.refl _ _) | (with_reducible assumption) | (with_reducible refine Below.alloc ?_ ?_ _) | (with_reducible refine Below.drew ?_) | (with_reducible refine below_drewN ?_ _) | (with_reducible refine Below.setCell ?_ ?_ _) | (with_reducible refine Below.trans ?_ (Below.mono (by with_reducible assumption) ?_)) | (with_reducible exact Below.size (by with_reducible assumption)) | go_size))
        clear hb4
        obtain ⟨hc_hb5, hf_hb5⟩ := bcell hb5; obtain ⟨hcA_hb5, hfA_hb5⟩ := bcellG (W0 := W3) hb5 (by (repeat' (first | (with_reducible exact Below.refl _ _) | (with_reducible assumption) | (with_reducible refine Below.alloc ?_ ?_ _) | (with_reducible refine Below.drew ?_) | (with_reducible refine below_drewN ?_ _) | (with_reducible refine Below.setCell ?_ ?_ _) | (with_reducible refine Below.trans ?_ (Below.mono (by with_reducible assumption) ?_)) | (with_reducible exact Below.size (by with_reducible assumption)) | go_size))); have hz_hb5 := hb5.size; (try simp at hz_hb5); (try simp only [Nat.add_one_le_iff] at hz_hb5)
        go_wp2_with fail
        refine bodyPost_ret (v := .tuple #[.agg #[.slice (some ⟨gm, 0, none⟩) M.length cm, .slice (some ⟨gq, 0, none⟩) Q.length cq], .int .i64 0]) (by simp [*, results, Try.results16, go_sem]) rfl ?_
        have hbb : Below w.heap.size w w4 := HS.out.below.trans (hb5.mono (by omega))
        have hfr := ((HS.out.fresh.below hb5).tch (bs := [w.heap.size + 1]) (((Tch.refl _ w4).setCell (p := ⟨w.heap.size + 1, 0, none⟩) (by simp) (.slice (some ⟨gm, 0, none⟩) M.length cm)).setCell (p := ⟨w.heap.size + 1, 1, none⟩) (by simp) (.slice (some ⟨gq, 0, none⟩) Q.length cq)) (fun b hb => by simp at hb; omega)).mono (C := w.heap.size) (by omega)
        exact ⟨_, _, us, rfl, hfr.ownP, (hbb.setCell (by simp) _).setCell (by simp) _⟩
end Go.Proofs.Ytkdgnegnndedaaa.PW
