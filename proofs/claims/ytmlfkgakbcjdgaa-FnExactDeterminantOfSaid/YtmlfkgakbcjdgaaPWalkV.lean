/-
  Walks: a problem copied, in the model.
-/
import Derived.Test.YtmlfkgakbcjdgaaPWalkU
import Derived.Deep.RegionLaw
namespace Go.Proofs.Ytmlfkgakbcjdgaa.PW
open Go.RowKit Go.Proofs.Ytmlfkgakbcjdgaa
open Go.Proofs.Ytmlfkgakbcjdgaa.PM

theorem CpO.start {W0 w1 : World} {gq cq : Nat} {Q : List Int} (xss : List (List Int)) (hb : Below (W0.alloc (.cells #[] 23)).heap.size (W0.alloc (.cells #[] 23)) w1) (hq1 : (W0.alloc (.cells #[] 23)).heap.size ≤ gq) (hq2 : gq < w1.heap.size)
    (ho : OwnI w1 (.slice (some ⟨gq, 0, none⟩) Q.length cq) Q) :
    CpO W0 (w1.alloc (.cells #[.slice (some ⟨W0.heap.size, 0, none⟩) 0 0, .slice (some ⟨gq, 0, none⟩) Q.length cq] 27)) W0.heap.size w1.heap.size 0 (.slice (some ⟨W0.heap.size, 0, none⟩) 0 0) (.slice (some ⟨gq, 0, none⟩) Q.length cq) xss Q [] := by
  have hz := hb.size
  have ez : (W0.alloc (.cells #[] 23)).heap.size = W0.heap.size + 1 := by simp
  rw [ez] at hz hq1
  have hA : Below w1.heap.size w1 (w1.alloc (.cells #[.slice (some ⟨W0.heap.size, 0, none⟩) 0 0, .slice (some ⟨gq, 0, none⟩) Q.length cq] 27)) := (Below.refl _ _).alloc (Nat.le_refl _) _
  refine ⟨⟨⟨⟨rfl, ?_, fun i hi => absurd hi (by simp), fun i j b hi => absurd hi (by simp), fun i b hi => absurd hi (by simp)⟩, ⟨W0.heap.size, 0, rfl, Nat.le_refl _, by simp; omega⟩, fun i b hi => absurd hi (by simp)⟩, ⟨gq, cq, rfl, by omega, by simp; omega, ho.below hA (fun b hb' => by simp [Value.ownBlock] at hb'; omega)⟩,
    fun b hb' => ⟨fun c => by simp [Value.ownBlock] at hb' c; omega, fun i hi => absurd hi (by simp)⟩⟩, by simp, by simp, fun o => by simp, by simp, fun c => by simp [Value.ownBlock] at c; omega, fun c => by simp [Value.ownBlock] at c; omega, fun i hi => absurd hi (by simp), ?_⟩
  · have h0 : (W0.alloc (.cells #[] 23)).ownsRow 0 23 1 (.slice (some ⟨W0.heap.size, 0, none⟩) 0 0) 0 [] := World.ownsRow_made W0 #[] 0 (Nat.zero_le _) (Nat.zero_le _) rfl
    have h1 := h0.kept (w' := w1) (row := none) ⟨hb.os, hb.tape, hb.output, hb.size, fun k hk _ => hb.block k hk⟩ (.inr (by simp [Value.ownBlock]))
    exact h1.alloc _
  · exact (((Below.refl W0.heap.size W0).alloc (Nat.le_refl _) _).trans (hb.mono (by simp))).alloc (by omega) _

theorem CpO.far {W0 wr W w3 : World} {B N k : Nat} {v q : Value} {xss : List (List Int)} {Q : List Int} {us : List Value} (h : CpO W0 wr B N k v q xss Q us) (hN : B ≤ N) (hb : Below wr.heap.size wr W) (hg : W.grownBy w3 v.ownBlock) :
    Below B W0 w3 ∧ w3.cell? ⟨N, 0, none⟩ = some v ∧ w3.frozen? ⟨N, 0, none⟩ = false := by
  have hlt := h.lt
  have hz := hb.size
  refine ⟨(h.below.trans (hb.mono (by omega))).grown hg (by omega) (fun b hb' => ?_), ?_, ?_⟩
  · obtain ⟨gv, cv, hv, h1, _⟩ := h.fresh.rows.top
    rw [hv] at hb'
    simp [Value.ownBlock] at hb'
    omega
  · exact (hg.cell_far ⟨N, 0, none⟩ (by show N < _; omega) (fun c => h.vN c.symm)).trans ((hb.cell (p := ⟨N, 0, none⟩) hlt).trans h.c0)
  · exact (hg.frozen_far ⟨N, 0, none⟩ (by show N < _; omega) (fun c => h.vN c.symm)).trans ((hb.frozen (p := ⟨N, 0, none⟩) hlt).trans (h.nf 0))
theorem CpO.ownAt {W0 wr W : World} {B N k : Nat} {v q : Value} {xss : List (List Int)} {Q : List Int} {us : List Value} (h : CpO W0 wr B N k v q xss Q us) (hk : k ≤ xss.length) (hb : Below wr.heap.size wr W) : W.ownsRow 0 23 1 v k us := by
  have h1 := h.fresh.rows.own.top
  rw [show (xss.take k).length = k by simp; omega] at h1
  obtain ⟨gv, cv, hv, _, hlt⟩ := h.fresh.rows.top
  exact h1.kept (row := none) ⟨hb.os, hb.tape, hb.output, hb.size, fun i hi _ => hb.block i hi⟩ (.inr (by rw [hv]; simp [Value.ownBlock]))

set_option maxHeartbeats 1000000 in
theorem l01Copy_any (m q : Value) (M : List (List Int)) (Q : List Int) (w : World) (h1 : PM.Rows w m M) (h2 : Ints w q Q) (h0 : M ≠ []) (hne : ∀ i, i < M.length → M.getD i [] ≠ []) (hq0 : Q ≠ []) (hn : tot M ≤ 1048576) (hn2 : Q.length ≤ 1048576) :
    Calls Try.prog 58 #[.agg #[m, q]] w (GivesP w M Q) := by
  have g1 := fun (w' : World) (h : Below w.heap.size w w') => h1.below h
  have g2 := fun (w' : World) (h : Below w.heap.size w w') => h2.below h
  obtain ⟨a1, c1, rfl, _, _, hx1⟩ := h1
  obtain ⟨a2, c2, rfl, _⟩ := h2
  rcases hx1 with hx1 | ⟨b, off, rfl, hblt, hcell⟩
  · exact absurd hx1 h0
  have HC := Lib.hid hcell
  have HN := Lib.hid hn
  have HE := Lib.hid hne
  have HQ := Lib.hid hq0
  have HN2 := Lib.hid hn2
  have hml : M.length ≤ 1048576 := by unfold tot at hn; omega
  have HML := Lib.hid hml
  obtain ⟨i0, hi, hzz0, hzz1, hzz2⟩ := info_parts info_ints
  obtain ⟨W0, hW0⟩ : ∃ W0, W0 = ((w.alloc (.cells #[.slice (some ⟨b, off, none⟩) M.length c1, .slice a2 Q.length c2] 27)).alloc (.cells #[.slice none 0 0, .slice none 0 0] 27)) := ⟨_, rfl⟩
  have hz0 : w.heap.size + 1 + 1 = W0.heap.size := by rw [hW0]; simp
  have hb0 : Below w.heap.size w W0 := by rw [hW0]; (repeat' (first | (with_reducible exact Below.refl _ _) | (with_reducible assumption) | (with_reducible refine Below.alloc ?_ ?_ _) | (with_reducible refine Below.drew ?_) | (with_reducible refine below_drewN ?_ _) | (with_reducible refine Below.setCell ?_ ?_ _) | (with_reducible refine Below.trans ?_ (Below.mono (by with_reducible assumption) ?_)) | (with_reducible exact Below.size (by with_reducible assumption)) | go_size))
  have r1 : ∀ w', Below W0.heap.size W0 w' → w'.cell? ⟨w.heap.size, 0, none⟩ = some (.slice (some ⟨b, off, none⟩) M.length c1) := fun w' h => (h.cell (p := ⟨w.heap.size, 0, none⟩) (by show w.heap.size < _; omega)).trans (by rw [hW0]; simp)
  have r2 : ∀ w', Below W0.heap.size W0 w' → w'.cell? ⟨w.heap.size, 1, none⟩ = some (.slice a2 Q.length c2) := fun w' h => (h.cell (p := ⟨w.heap.size, 1, none⟩) (by show w.heap.size < _; omega)).trans (by rw [hW0]; simp)
  have r3 : ∀ w', Below W0.heap.size W0 w' → w'.cell? ⟨w.heap.size + 1, 0, none⟩ = some (.slice none 0 0) := fun w' h => (h.cell (p := ⟨w.heap.size + 1, 0, none⟩) (by show w.heap.size + 1 < _; omega)).trans (by rw [hW0]; simp)
  have r4 : ∀ w', Below W0.heap.size W0 w' → w'.cell? ⟨w.heap.size + 1, 1, none⟩ = some (.slice none 0 0) := fun w' h => (h.cell (p := ⟨w.heap.size + 1, 1, none⟩) (by show w.heap.size + 1 < _; omega)).trans (by rw [hW0]; simp)
  have r5 : ∀ w' o, Below W0.heap.size W0 w' → w'.frozen? ⟨w.heap.size + 1, o, none⟩ = false := fun w' o h => (h.frozen (p := ⟨w.heap.size + 1, o, none⟩) (by show w.heap.size + 1 < _; omega)).trans (by rw [hW0]; simp)
  have hz1 : w.heap.size + 1 < W0.heap.size := by omega
  have hz2 : w.heap.size < W0.heap.size := by omega
  have HW := Lib.hid hW0
  have HZ := Lib.hid hz0
  clear hcell hn hne h0 hq0 hn2 hml hW0 hz0
  go_enter Try.func58, Try.ntmps58
  go_wp2_with fail
  rw [← HW.out, HZ.out]
  refine (l01Own_any _ Q _ (g2 _ (by (repeat' (first | (with_reducible exact Below.refl _ _) | (with_reducible assumption) | (with_reducible refine Below.alloc ?_ ?_ _) | (with_reducible refine Below.drew ?_) | (with_reducible refine below_drewN ?_ _) | (with_reducible refine Below.setCell ?_ ?_ _) | (with_reducible refine Below.trans ?_ (Below.mono (by with_reducible assumption) ?_)) | (with_reducible exact Below.size (by with_reducible assumption)) | go_size)))) HQ.out HN2.out).mono ?_; rintro e w1 ⟨q1, rfl, ⟨gq, cq, rfl, hgq1, hgq2, hgo⟩, hb1⟩
  have hS0 := CpO.start M hb1 hgq1 hgq2 hgo
  have hN : W0.heap.size ≤ w1.heap.size := by have := hb1.size; simp at this; omega
  have HS0 := Lib.hid hS0
  clear hS0 hgo hgq1 hgq2 hb1
  go_wp2_with fail
  go_loopw [4] (fun i wr => ∃ (k : Nat) (v : Value) (us : List Value), k ≤ M.length ∧ i = .int .i64 k ∧ CpO W0 wr W0.heap.size w1.heap.size k v (.slice (some ⟨gq, 0, none⟩) Q.length cq) M Q us) (fun i _ => M.length - (intOf i).toNat)
  case atStart => exact ⟨0, _, [], Nat.zero_le _, rfl, HS0.out⟩
  case round =>
    obtain ⟨k, v, us, hk, rfl, hcp⟩ := hrel
    have hbr := hcp.below
    by_cases hlt2 : k < M.length
    · obtain ⟨u0, hu0, hI0⟩ := HC.out k hlt2
      have gI := fun (w' : World) (h : Below w.heap.size w w') => hI0.below h
      have r6 : ∀ w', Below W0.heap.size W0 w' → w'.cell? ⟨b, off + k, none⟩ = some u0 := fun w' h => ((hb0.trans (h.mono hb0.size)).cell (p := ⟨b, off + k, none⟩) hblt).trans hu0
      have r7 : ∀ w', Below wr.heap.size wr w' → w'.cell? ⟨w1.heap.size, 0, none⟩ = some v := fun w' h => (h.cell (p := ⟨w1.heap.size, 0, none⟩) hcp.lt).trans hcp.c0
      have hvc := hcp.c0
      have hvl := hcp.lt
      have hnek := HE.out k hlt2
      have hrl : (M.getD k []).length ≤ 1048576 := by
        have h1 := pre_succ M k hlt2
        have h2 := pre_le M (k + 1)
        have h3 := HN.out
        unfold tot at h3
        omega
      have HCP := Lib.hid hcp
      clear hcp hu0
      have hst := fun (u : Value) (w3 w4 : World) (g cap : Nat) hu hb (hown : w4.ownsRow 0 23 1 (.slice (some ⟨g, 0, none⟩) (k + 1) cap) (k + 1) (us ++ [u])) hgrow hat hlt => HCP.out.step (u := u) (w3 := w3) (w4 := w4) (g := g) (cap := cap) hlt2 hN hu hb hown hgrow hat hlt
      have HST := Lib.hid hst
      have HNE := Lib.hid hnek
      have HRL := Lib.hid hrl
      clear hst hnek hrl
      generalize M.getD k [] = r at *
      obtain ⟨ra, rc, rfl, _⟩ := id hI0
      clear hI0
      go_wp2_with fail
      have r1w := r1 _ hbr
      have r6w := r6 _ hbr
      clear r1 r6
      go_region_law (first | (go_simp; go_at_call 96; refine (l01Own_any _ r _ (gI _ (by (repeat' (first | (with_reducible exact Below.refl _ _) | (with_reducible assumption) | (with_reducible refine Below.alloc ?_ ?_ _) | (with_reducible refine Below.drew ?_) | (with_reducible refine below_drewN ?_ _) | (with_reducible refine Below.setCell ?_ ?_ _) | (with_reducible refine Below.trans ?_ (Below.mono (by with_reducible assumption) ?_)) | (with_reducible exact Below.size (by with_reducible assumption)) | go_size)))) HNE.out HRL.out).mono ?_; rintro e w2 ⟨u2, rfl, hfu, hb2⟩; have hk2 : Below wr.heap.size wr w2 := (by (repeat' (first | (with_reducible exact Below.refl _ _) | (with_reducible assumption) | (with_reducible refine Below.alloc ?_ ?_ _) | (with_reducible refine Below.drew ?_) | (with_reducible refine below_drewN ?_ _) | (with_reducible refine Below.setCell ?_ ?_ _) | (with_reducible refine Below.trans ?_ (Below.mono (by with_reducible assumption) ?_)) | (with_reducible exact Below.size (by with_reducible assumption)) | go_size))); have hS2 : Below W0.heap.size W0 w2 := (by (repeat' (first | (with_reducible exact Below.refl _ _) | (with_reducible assumption) | (with_reducible refine Below.alloc ?_ ?_ _) | (with_reducible refine Below.drew ?_) | (with_reducible refine below_drewN ?_ _) | (with_reducible refine Below.setCell ?_ ?_ _) | (with_reducible refine Below.trans ?_ (Below.mono (by with_reducible assumption) ?_)) | (with_reducible exact Below.size (by with_reducible assumption)) | go_size))); have hvl2 : w1.heap.size < w2.heap.size := (Nat.lt_of_lt_of_le hvl hk2.size); have hfu' := hfu; obtain ⟨g2, cap2, rfl, hg21, hg22, hgo2⟩ := hfu'; clear hg21 hg22 hgo2) | (refine step_append_lies _ rfl _ _ 22 rfl 0 23 i0 (.slice none 0 0) 1 24 Try.underlying22 hi hzz0 hzz1 hzz2 rfl (by decide) v k us rfl (HCP.out.ownAt hk (by (repeat' (first | (with_reducible exact Below.refl _ _) | (with_reducible assumption) | (with_reducible refine Below.alloc ?_ ?_ _) | (with_reducible refine Below.drew ?_) | (with_reducible refine below_drewN ?_ _) | (with_reducible refine Below.setCell ?_ ?_ _) | (with_reducible refine Below.trans ?_ (Below.mono (by with_reducible assumption) ?_)) | (with_reducible exact Below.size (by with_reducible assumption)) | go_size)))) _ 1 _ [.slice (some ⟨g2, 0, none⟩) r.length cap2] rfl rfl (cell_one_new _ _ _) (by simp [Value.oneCell']) (by decide) (by have := HML.out; unfold maxLen; omega) (by have := HML.out; omega) (Nat.zero_le _) _ rfl ?_; intro g cap w3 hown hgrow hat hlt; obtain ⟨hs3, hcN, hfN⟩ := HCP.out.far hN (by (repeat' (first | (with_reducible exact Below.refl _ _) | (with_reducible assumption) | (with_reducible refine Below.alloc ?_ ?_ _) | (with_reducible refine Below.drew ?_) | (with_reducible refine below_drewN ?_ _) | (with_reducible refine Below.setCell ?_ ?_ _) | (with_reducible refine Below.trans ?_ (Below.mono (by with_reducible assumption) ?_)) | (with_reducible exact Below.size (by with_reducible assumption)) | go_size))) hgrow; have hst := HST.out _ _ _ _ _ (hfu.below (by (repeat' (first | (with_reducible exact Below.refl _ _) | (with_reducible assumption) | (with_reducible refine Below.alloc ?_ ?_ _) | (with_reducible refine Below.drew ?_) | (with_reducible refine below_drewN ?_ _) | (with_reducible refine Below.setCell ?_ ?_ _) | (with_reducible refine Below.trans ?_ (Below.mono (by with_reducible assumption) ?_)) | (with_reducible exact Below.size (by with_reducible assumption)) | go_size)))) (by (repeat' (first | (with_reducible exact Below.refl _ _) | (with_reducible assumption) | (with_reducible refine Below.alloc ?_ ?_ _) | (with_reducible refine Below.drew ?_) | (with_reducible refine below_drewN ?_ _) | (with_reducible refine Below.setCell ?_ ?_ _) | (with_reducible refine Below.trans ?_ (Below.mono (by with_reducible assumption) ?_)) | (with_reducible exact Below.size (by with_reducible assumption)) | go_size))) hown hgrow hat hlt; have HST3 := Lib.hid hst; clear hst hown hgrow hat hlt))
      all_goals
        have hml := HML.out
        go_wp2_with fail
        go_roundw
        case rel => exact ⟨k + 1, _, _, by omega, by go_num, HST3.out⟩
        case measure => simp [intOf]; omega
    · obtain rfl : k = M.length := by omega
      have hr3 := r3 _ hbr
      have hr4 := r4 _ hbr
      have hr5 := fun o => r5 _ o hbr
      have hcN0 := hcp.c0
      have hcN1 := hcp.c1
      have hvl := hcp.lt
      have r1w := r1 _ hbr
      have hs1 : w.heap.size + 1 < wr.heap.size := by omega
      have hs0 : w.heap.size < wr.heap.size := by omega
      have hfr := hcp.fresh
      rw [List.take_length] at hfr
      obtain ⟨gv, cv, rfl, hgv⟩ := hfr.rows.top
      have HF := Lib.hid hfr
      clear hcp hfr r1 r2 r3 r4 r5
      go_wp2_with fail
      refine bodyPost_ret (v := .agg #[.slice (some ⟨gv, 0, none⟩) M.length cv, .slice (some ⟨gq, 0, none⟩) Q.length cq]) (by simp [*, results, Try.results58, go_sem]) rfl ?_
      have hbb : Below w.heap.size w wr := hb0.trans (hbr.mono hb0.size)
      have hfr := (HF.out.tch (bs := [w.heap.size + 1]) (((Tch.refl _ wr).setCell (p := ⟨w.heap.size + 1, 0, none⟩) (by simp) (.slice (some ⟨gv, 0, none⟩) M.length cv)).setCell (p := ⟨w.heap.size + 1, 1, none⟩) (by simp) (.slice (some ⟨gq, 0, none⟩) Q.length cq)) (fun b hb => by simp at hb; omega)).mono (C := w.heap.size) (by omega)
      exact ⟨_, _, us, rfl, hfr, (hbb.setCell (by simp) _).setCell (by simp) _⟩
end Go.Proofs.Ytmlfkgakbcjdgaa.PW
