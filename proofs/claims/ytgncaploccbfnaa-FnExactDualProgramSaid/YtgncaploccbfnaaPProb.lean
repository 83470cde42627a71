/-
  Walks: a row of a problem scaled, in the program: the main case.
  Walks: a problem copied, in the model: rows appended one after the other.
  Walks: a problem copied, in the model.
  Walks: a row of a problem scaled, in the model.
  Marks on a problem, and what a change between two block numbers leaves as it was.
  The exact law of IsProblem: whatever the problem given, the program answers as the model, and leaves it as it was.
  The pieces of the laws on functions that return a problem and a code.
-/
import Derived.Test.YtgncaploccbfnaaPHeld
import Derived.Deep.AppendLies
import Derived.Deep.RegionHeldLaw
import Derived.Deep.RegionLaw
import Derived.Test.YtgncaploccbfnaaPCore
namespace Go.Proofs.Ytgncaploccbfnaa.PW
open Go.RowKit Go.Proofs.Ytgncaploccbfnaa
open Go.Proofs.Ytgncaploccbfnaa.PM

theorem own_touch {w w' : World} {B T n : Nat} {bs : List Nat} {v : Value} {xs : List Value} (h : w.ownsRow B T 1 v n xs) (ht : Tch bs w w') (hd : ∀ b, v.ownBlock = some b → b ∉ bs) : w'.ownsRow B T 1 v n xs := by
  refine ⟨h.1, ?_⟩
  rcases h.2 with h2 | ⟨g, cap, cur, hv, hb, hg, r⟩
  · exact .inl h2
  · exact .inr ⟨g, cap, cur, hv, hb, by rw [ht.block g (hd g (by rw [hv]; rfl))]; exact hg, r⟩
theorem scM_zero (M : List (List Int)) (i : Nat) (k : Int) : M.set i (scPart (M.getD i []) k 0) = M := by
  rw [scPart_zero]
  apply List.ext_getElem?
  intro j
  by_cases e : i = j
  · subst e
    by_cases h : i < M.length
    · rw [List.getElem?_set_self h]; simp [h]
    · rw [List.getElem?_eq_none (by simp; omega), List.getElem?_eq_none (by omega)]
  · rw [List.getElem?_set_ne e]
theorem scM_end (M : List (List Int)) (i : Nat) (k : Int) : M.set i (scPart (M.getD i []) k (M.getD i []).length) = scM M i k := by rw [scPart_all]; rfl

theorem getD_of_mem {xs : List Int} {x : Int} (h : x ∈ xs) : ∃ j, j < xs.length ∧ xs.getD j 0 = x := by
  obtain ⟨j, hj, e⟩ := List.mem_iff_getElem.1 h
  exact ⟨j, hj, by simp [hj, e]⟩
theorem sc_i64 {M : List (List Int)} {Q : List Int} {i : Nat} {k : Int} (h : isPB M Q = true) (hi : i < M.length) (hk1 : 1 ≤ k) (hk2 : k ≤ 100) :
    (∀ j, j < (scM M i k).length → ∀ x ∈ (scM M i k).getD j [], I64 x) ∧ ∀ x ∈ scQ Q i k, I64 x := by
  obtain ⟨f1, f2, f3, f4, f5⟩ := isPB_facts h
  refine ⟨fun j hj x hx => ?_, fun x hx => ?_⟩
  · have hj' : j < M.length := by simpa [scM] using hj
    obtain ⟨e1, e2⟩ := f4 j hj'
    by_cases e : j = i
    · subst e
      rw [scM, getD_set_eq _ _ _ hj'] at hx
      obtain ⟨y, hy, rfl⟩ := List.mem_map.1 hx
      obtain ⟨c, hc, rfl⟩ := getD_of_mem hy
      have hb := e2 c (by omega)
      have := mul_bd (a := (M.getD j []).getD c 0) (b := k) (A := 20) (B := 100) (by omega) (by omega) (by omega) (by omega)
      show -9223372036854775808 ≤ (M.getD j []).getD c 0 * k ∧ (M.getD j []).getD c 0 * k ≤ 9223372036854775807
      omega
    · have e3 : (scM M i k).getD j [] = M.getD j [] := by
        simp only [scM, List.getD_eq_getElem?_getD]
        rw [List.getElem?_set_ne (fun c => e c.symm)]
      rw [e3] at hx
      obtain ⟨c, hc, rfl⟩ := getD_of_mem hx
      have hb := e2 c (by omega)
      show -9223372036854775808 ≤ _ ∧ _ ≤ 9223372036854775807
      omega
  · obtain ⟨c, hc, rfl⟩ := getD_of_mem hx
    have hc' : c < Q.length := by simpa [scQ] using hc
    by_cases e : c = i
    · subst e
      have e3 : (scQ Q c k).getD c 0 = Q.getD c 0 * k := by simp [scQ, hc']
      rw [e3]
      have hb := f5 c hc'
      have := mul_bd (a := Q.getD c 0) (b := k) (A := 100) (B := 100) (by omega) (by omega) (by omega) (by omega)
      show -9223372036854775808 ≤ Q.getD c 0 * k ∧ Q.getD c 0 * k ≤ 9223372036854775807
      omega
    · have e3 : (scQ Q i k).getD c 0 = Q.getD c 0 := by
        simp only [scQ, List.getD_eq_getElem?_getD]
        rw [List.getElem?_set_ne (fun c => e c.symm)]
      rw [e3]
      have hb := f5 c hc'
      show -9223372036854775808 ≤ _ ∧ _ ≤ 9223372036854775807
      omega

theorem implScaleRow_any (m q : Value) (M : List (List Int)) (Q : List Int) (i k : Int) (w : World) (h1 : PM.Rows w m M) (h2 : Ints w q Q) :
    Calls Try.prog 18 #[.agg #[m, q], .int .i64 i, .int .i64 k] w (OutP w (scaleOut M Q i k)) := by
  by_cases hp : isPB M Q = true
  case neg =>
    have hp' : isPB M Q = false := by simpa using hp
    have e : scaleOut M Q i k = ([], [], 1) := by unfold scaleOut; rw [if_pos hp']
    rw [e]
    exact scale_err1 m q M Q i k w h1 h2 hp'
  by_cases hrng : i < 0 ∨ (M.length : Int) ≤ i ∨ k < 1 ∨ 100 < k
  · have e : scaleOut M Q i k = ([], [], 2) := by unfold scaleOut; rw [if_neg (by simp [hp]), if_pos hrng]
    rw [e]
    exact scale_err2 m q M Q i k w h1 h2 hp hrng
  have g1 := fun (w' : World) (h : Below w.heap.size w w') => h1.below h
  have g2 := fun (w' : World) (h : Below w.heap.size w w') => h2.below h
  obtain ⟨a1, c1, rfl, _⟩ := h1
  obtain ⟨a2, c2, rfl, _⟩ := h2
  have hr1 : 0 ≤ i := by omega
  have hr2 : i < M.length := by omega
  have hk1 : 1 ≤ k := by omega
  have hk2 : k ≤ 100 := by omega
  obtain ⟨ι, rfl⟩ := Int.eq_ofNat_of_zero_le hr1
  have hι : ι < M.length := by omega
  have e0 : scaleOut M Q (ι : Int) k = if isPB (scM M ι k) (scQ Q ι k) = false then ([], [], 3) else (scM M ι k, scQ Q ι k, 0) := by
    unfold scaleOut; rw [if_neg (by simp [hp]), if_neg hrng, Int.toNat_natCast]
  rw [e0]
  clear e0 hrng
  generalize hoe : (if isPB (scM M ι k) (scQ Q ι k) = false then (([], [], 3) : List (List Int) × List Int × Int) else (scM M ι k, scQ Q ι k, 0)) = o
  have HO := Lib.hid hoe
  clear hoe
  obtain ⟨f1, f2, f3, f4, f5⟩ := isPB_facts hp
  have htot := tot_small hp
  have hP := Lib.hid hp
  have H4 := Lib.hid f4
  have H3 := Lib.hid f3
  have HT := Lib.hid htot
  have hqm : -10000 ≤ Q.getD ι 0 * k ∧ Q.getD ι 0 * k ≤ 10000 := by
    have hb := f5 ι (by omega)
    have := mul_bd (a := Q.getD ι 0) (b := k) (A := 100) (B := 100) (by omega) (by omega) (by omega) (by omega)
    omega
  have hne1 : M ≠ [] := by intro c; rw [c] at f1; simp at f1
  have hne2 : Q ≠ [] := by intro c; rw [c] at f3; simp at f3; omega
  have hne3 : ∀ j, j < M.length → M.getD j [] ≠ [] := fun j hj c => by have := (f4 j hj).1; rw [c] at this; simp at this; omega
  have hql : Q.length ≤ 1048576 := by omega
  have HQL := Lib.hid hql
  have HQM := Lib.hid hqm
  have N1 := Lib.hid hne1
  have N2 := Lib.hid hne2
  have N3 := Lib.hid hne3
  clear hp f4 htot f5 hne1 hne2 hne3 hql hqm f3
  go_enter Try.func18, Try.ntmps18
  go_wp2_with fail
  refine (implIsProblem_any _ _ M Q _ (g1 _ (by (repeat' (first | (with_reducible exact Below.refl _ _) | (with_reducible assumption) | (with_reducible refine Below.alloc ?_ ?_ _) | (with_reducible refine Below.drew ?_) | (with_reducible refine below_drewN ?_ _) | (with_reducible refine Below.setCell ?_ ?_ _) | (with_reducible refine Below.trans ?_ (Below.mono (by with_reducible assumption) ?_)) | (with_reducible exact Below.size (by with_reducible assumption)) | go_size)))) (g2 _ (by (repeat' (first | (with_reducible exact Below.refl _ _) | (with_reducible assumption) | (with_reducible refine Below.alloc ?_ ?_ _) | (with_reducible refine Below.drew ?_) | (with_reducible refine below_drewN ?_ _) | (with_reducible refine Below.setCell ?_ ?_ _) | (with_reducible refine Below.trans ?_ (Below.mono (by with_reducible assumption) ?_)) | (with_reducible exact Below.size (by with_reducible assumption)) | go_size))))).mono ?_; rw [hP.out]; rintro e w1 ⟨rfl, hb1⟩; obtain ⟨hc_hb1, hf_hb1⟩ := bcell hb1; obtain ⟨hcA_hb1, hfA_hb1⟩ := bcellG (W0 := w) hb1 (by (repeat' (first | (with_reducible exact Below.refl _ _) | (with_reducible assumption) | (with_reducible refine Below.alloc ?_ ?_ _) | (with_reducible refine Below.drew ?_) | (with_reducible refine below_drewN ?_ _) | (with_reducible refine Below.setCell ?_ ?_ _) | (with_reducible refine Below.trans ?_ (Below.mono (by with_reducible assumption) ?_)) | (with_reducible exact Below.size (by with_reducible assumption)) | go_size))); have hz_hb1 := hb1.size; (try simp at hz_hb1); (try simp only [Nat.add_one_le_iff] at hz_hb1); have hz0_hb1 : w.heap.size < w1.heap.size := (by omega); have hz1_hb1 : w.heap.size + 1 < w1.heap.size := (by omega)
  have hw1 : Below w.heap.size w w1 := by (repeat' (first | (with_reducible exact Below.refl _ _) | (with_reducible assumption) | (with_reducible refine Below.alloc ?_ ?_ _) | (with_reducible refine Below.drew ?_) | (with_reducible refine below_drewN ?_ _) | (with_reducible refine Below.setCell ?_ ?_ _) | (with_reducible refine Below.trans ?_ (Below.mono (by with_reducible assumption) ?_)) | (with_reducible exact Below.size (by with_reducible assumption)) | go_size))
  go_wp2_with fail
  refine (copyProblem_out _ _ M Q _ (g1 _ (by (repeat' (first | (with_reducible exact Below.refl _ _) | (with_reducible assumption) | (with_reducible refine Below.alloc ?_ ?_ _) | (with_reducible refine Below.drew ?_) | (with_reducible refine below_drewN ?_ _) | (with_reducible refine Below.setCell ?_ ?_ _) | (with_reducible refine Below.trans ?_ (Below.mono (by with_reducible assumption) ?_)) | (with_reducible exact Below.size (by with_reducible assumption)) | go_size)))) (g2 _ (by (repeat' (first | (with_reducible exact Below.refl _ _) | (with_reducible assumption) | (with_reducible refine Below.alloc ?_ ?_ _) | (with_reducible refine Below.drew ?_) | (with_reducible refine below_drewN ?_ _) | (with_reducible refine Below.setCell ?_ ?_ _) | (with_reducible refine Below.trans ?_ (Below.mono (by with_reducible assumption) ?_)) | (with_reducible exact Below.size (by with_reducible assumption)) | go_size)))) N1.out N3.out N2.out HT.out HQL.out).mono ?_
  rintro e w2 ⟨gm, cm, gq, cq, us, rfl, hgm1, hgm2, hgq1, hgq2, hgmq, hfp, hb2⟩
  obtain ⟨_, _, hqe, _, _, hoq⟩ := hfp.right
  obtain ⟨rfl, rfl⟩ : _ ∧ _ := by simpa using hqe
  have hcq := own_cell hoq (j := ι) (by have := H3.out; omega)
  have hfq := own_frozen hoq ι
  have hoR := hfp.rows.own.rows ι hι
  obtain ⟨gr, cr, hur⟩ := own_nonempty hoR (N3.out ι hι)
  have hgr := hfp.rows.rows ι gr hι (by rw [hur]; rfl)
  have htop := top_cell hfp.rows.own hι
  rw [hur] at htop
  obtain ⟨hc_hb2, hf_hb2⟩ := bcell hb2; obtain ⟨hcA_hb2, hfA_hb2⟩ := bcellG (W0 := w1) hb2 (by (repeat' (first | (with_reducible exact Below.refl _ _) | (with_reducible assumption) | (with_reducible refine Below.alloc ?_ ?_ _) | (with_reducible refine Below.drew ?_) | (with_reducible refine below_drewN ?_ _) | (with_reducible refine Below.setCell ?_ ?_ _) | (with_reducible refine Below.trans ?_ (Below.mono (by with_reducible assumption) ?_)) | (with_reducible exact Below.size (by with_reducible assumption)) | go_size))); have hz_hb2 := hb2.size; (try simp at hz_hb2); (try simp only [Nat.add_one_le_iff] at hz_hb2)
  have hz0_2 : w.heap.size < w2.heap.size := by omega
  have hz1_2 : w.heap.size + 1 < w2.heap.size := by omega
  have hne_q : ¬ gq = w2.heap.size := by omega
  have hne_m : ¬ gm = w2.heap.size := by omega
  have hne_r : ¬ gr = w2.heap.size := by omega
  have hne_mq : ¬ gm = gq := hgmq
  have hne_rq : ¬ gr = gq := fun c => (hfp.apart gq rfl).2 ι hι (by rw [hur, c]; rfl)
  have hbt : Below w.heap.size w w2 := hw1.trans (hb2.mono hw1.size)
  have hr0 : w2.cell? ⟨w.heap.size + 1, 0, none⟩ = some (.slice none 0 0) := by rw [hc_hb2 _ _ hz1_hb1, hc_hb1 _ _ (by simp)]; simp
  have hr1 : w2.cell? ⟨w.heap.size + 1, 1, none⟩ = some (.slice none 0 0) := by rw [hc_hb2 _ _ hz1_hb1, hc_hb1 _ _ (by simp)]; simp
  have hrf : ∀ o, w2.frozen? ⟨w.heap.size + 1, o, none⟩ = false := fun o => by rw [hf_hb2 _ _ hz1_hb1, hf_hb1 _ _ (by simp)]; simp
  have hS0 : Sc w ((w2.setCell ⟨gq, ι, none⟩ (.int .i64 (Q.getD ι 0 * k))).alloc (.cells #[.slice (some ⟨gm, 0, none⟩) M.length cm, .slice (some ⟨gq, 0, none⟩) Q.length cq] 27)) w1.heap.size w2.heap.size (.slice (some ⟨gm, 0, none⟩) M.length cm) (.slice (some ⟨gq, 0, none⟩) Q.length cq) (M.set ι (scPart (M.getD ι []) k 0)) (scQ Q ι k) us := by
    rw [scM_zero]
    have hne : ∀ o, (w2.setCell ⟨gq, ι, none⟩ (.int .i64 (Q.getD ι 0 * k))).cell? ⟨w.heap.size + 1, o, none⟩ = w2.cell? ⟨w.heap.size + 1, o, none⟩ := fun o => World.cell?_of_block (w := w2) (a := ⟨w.heap.size + 1, o, none⟩) (Below.heap_setCell _ _ _ _ (by show w.heap.size + 1 ≠ gq; omega))
    have hnf : ∀ o, (w2.setCell ⟨gq, ι, none⟩ (.int .i64 (Q.getD ι 0 * k))).frozen? ⟨w.heap.size + 1, o, none⟩ = w2.frozen? ⟨w.heap.size + 1, o, none⟩ := fun o => World.frozen?_of_block (w := w2) (a := ⟨w.heap.size + 1, o, none⟩) (Below.heap_setCell _ _ _ _ (by show w.heap.size + 1 ≠ gq; omega))
    have := Sc.start (w := w) (hfp.setRight ι (Q.getD ι 0 * k)) ((hne 0).trans hr0) ((hne 1).trans hr1) (fun o => (hnf o).trans (hrf o)) (by simpa using hz1_2) (hbt.setCell (by simp; omega) _)
    simpa [scQ] using this
  have HS0 := Lib.hid hS0
  have HU := Lib.hid hur
  clear hfp hoq hqe hoR hur hS0 hbt hr0 hr1 hrf
  have hqm := HQM.out
  generalize hx : Q.getD ι 0 = x at *
  obtain ⟨n, hn⟩ : ∃ n, n = (M.getD ι []).length := ⟨_, rfl⟩
  have hn5 : n ≤ 5 := by rw [hn, (H4.out ι hι).1]; omega
  rw [← hn] at htop
  have HNN := Lib.hid hn
  clear hn
  have hιq : ι < Q.length := by have := H3.out; omega
  have hB : w.heap.size + 1 < gr := by omega
  go_wp2_with fail
  go_loopw [9, 48] (fun _ i wr => ∃ (c : Nat), c ≤ n ∧ i = .int .i64 c ∧ Sc w wr w1.heap.size w2.heap.size (.slice (some ⟨gm, 0, none⟩) M.length cm) (.slice (some ⟨gq, 0, none⟩) Q.length cq) (M.set ι (scPart (M.getD ι []) k c)) (scQ Q ι k) us) (fun _ i _ => n - (intOf i).toNat)
  case atStart => exact ⟨0, Nat.zero_le _, rfl, HS0.out⟩
  case round =>
    obtain ⟨c, hc, rfl, hS⟩ := hrel
    by_cases hlt2 : c < n
    · have hlc : c < (M.getD ι []).length := by have := HNN.out; omega
      obtain ⟨hce, hfe⟩ := hS.cellRow hι hlc HU.out
      have hn0 := hS.c0
      have hlm : (M.set ι (scPart (M.getD ι []) k c)).length = M.length := by simp
      have htp : _ = some _ := (top_cell (hlm ▸ hS.fresh.rows.own) (j := ι) (by omega))
      rw [HU.out, ← HNN.out] at htp
      have hst := hS.step hι hlc HU.out hne_r hB
      have hbd := (H4.out ι hι).2 c (by have := (H4.out ι hι).1; omega)
      have hym : -2000 ≤ (M.getD ι []).getD c 0 * k ∧ (M.getD ι []).getD c 0 * k ≤ 2000 := by
        have := mul_bd (a := (M.getD ι []).getD c 0) (b := k) (A := 20) (B := 100) (by omega) (by omega) (by omega) (by omega)
        omega
      have HST := Lib.hid hst
      clear hst hS hbd hlc hlm
      generalize (M.getD ι []).getD c 0 = y at *
      go_wp2_with fail
      go_roundw
      case rel => exact ⟨c + 1, by omega, by go_num, HST.out⟩
      case measure => simp [intOf]; omega
    · obtain rfl : c = n := by omega
      have hM : M.set ι (scPart (M.getD ι []) k c) = scM M ι k := by rw [HNN.out]; exact scM_end M ι k
      rw [hM] at hS
      obtain ⟨hi1, hi2⟩ := sc_i64 hP.out hι hk1 hk2
      obtain ⟨hrd1, hrd2⟩ := hS.fresh.reads hi1 hi2
      have hn0 := hS.c0
      have hn1 := hS.c1
      have hr0 := hS.r0
      have hr1 := hS.r1
      have hrf := hS.rf
      have hzr1 := hS.lt
      have hzr0 : w.heap.size < wr.heap.size := by omega
      have hzN : w2.heap.size < wr.heap.size := World.block_lt_of_cell? wr _ hn0
      have HS := Lib.hid hS
      have HR1 := Lib.hid hrd1
      have HR2 := Lib.hid hrd2
      clear hS hi1 hi2 hrd1 hrd2 hM
      cases hib : isPB (scM M ι k) (scQ Q ι k)
      case false =>
        have ho : o = ([], [], 3) := by rw [← HO.out, if_pos hib]
        subst ho
        have HIB := Lib.hid hib
        clear hib
        go_wp2_with fail
        refine (implIsProblem_any _ _ (scM M ι k) (scQ Q ι k) _ HR1.out HR2.out).mono ?_; rw [HIB.out]; rintro e w4 ⟨rfl, hb4⟩; obtain ⟨hc_hb4, hf_hb4⟩ := bcell hb4; obtain ⟨hcA_hb4, hfA_hb4⟩ := bcellG (W0 := wr) hb4 (by (repeat' (first | (with_reducible exact Below.refl _ _) | (with_reducible assumption) | (with_reducible refine Below.alloc ?_ ?_ _) | (with_reducible refine Below.drew ?_) | (with_reducible refine below_drewN ?_ _) | (with_reducible refine Below.setCell ?_ ?_ _) | (with_reducible refine Below.trans ?_ (Below.mono (by with_reducible assumption) ?_)) | (with_reducible exact Below.size (by with_reducible assumption)) | go_size))); have hz_hb4 := hb4.size; (try simp at hz_hb4); (try simp only [Nat.add_one_le_iff] at hz_hb4)
        go_wp2_with fail
        refine bodyPost_ret (v := .tuple #[.agg #[.slice none 0 0, .slice none 0 0], .int .i64 3]) (by simp [*, results, Try.results18, go_sem]) rfl ?_
        have hbb : Below w.heap.size w w4 := HS.out.below.trans (hb4.mono (by omega))
        exact ⟨_, _, [], rfl, ownP_nil _ _, (hbb.setCell (by simp) _).setCell (by simp) _⟩
      case true =>
        have ho : o = (scM M ι k, scQ Q ι k, 0) := by rw [← HO.out, if_neg (by rw [hib]; exact Bool.noConfusion)]
        subst ho
        have HIB := Lib.hid hib
        clear hib
        go_wp2_with fail
        refine (implIsProblem_any _ _ (scM M ι k) (scQ Q ι k) _ HR1.out HR2.out).mono ?_; rw [HIB.out]; rintro e w4 ⟨rfl, hb4⟩; obtain ⟨hc_hb4, hf_hb4⟩ := bcell hb4; obtain ⟨hcA_hb4, hfA_hb4⟩ := bcellG (W0 := wr) hb4 (by (repeat' (first | (with_reducible exact Below.refl _ _) | (with_reducible assumption) | (with_reducible refine Below.alloc ?_ ?_ _) | (with_reducible refine Below.drew ?_) | (with_reducible refine below_drewN ?_ _) | (with_reducible refine Below.setCell ?_ ?_ _) | (with_reducible refine Below.trans ?_ (Below.mono (by with_reducible assumption) ?_)) | (with_reducible exact Below.size (by with_reducible assumption)) | go_size))); have hz_hb4 := hb4.size; (try simp at hz_hb4); (try simp only [Nat.add_one_le_iff] at hz_hb4)
        go_wp2_with fail
        refine bodyPost_ret (v := .tuple #[.agg #[.slice (some ⟨gm, 0, none⟩) M.length cm, .slice (some ⟨gq, 0, none⟩) Q.length cq], .int .i64 0]) (by simp [*, results, Try.results18, go_sem]) rfl ?_
        have hbb : Below w.heap.size w w4 := HS.out.below.trans (hb4.mono (by omega))
        have hfr := ((HS.out.fresh.below hb4).tch (bs := [w.heap.size + 1]) (((Tch.refl _ w4).setCell (p := ⟨w.heap.size + 1, 0, none⟩) (by simp) (.slice (some ⟨gm, 0, none⟩) M.length cm)).setCell (p := ⟨w.heap.size + 1, 1, none⟩) (by simp) (.slice (some ⟨gq, 0, none⟩) Q.length cq)) (fun b hb => by simp at hb; omega)).mono (C := w.heap.size) (by omega)
        exact ⟨_, _, us, rfl, hfr.ownP, (hbb.setCell (by simp) _).setCell (by simp) _⟩
end Go.Proofs.Ytgncaploccbfnaa.PW
namespace Go.Proofs.Ytgncaploccbfnaa.PW
open Go.RowKit Go.Proofs.Ytgncaploccbfnaa
open Go.Proofs.Ytgncaploccbfnaa.PM

theorem ownI_kept {w w' : World} {row : Option Nat} {v : Value} {xs : List Int} (h : OwnI w v xs) (hg : w.grownBy w' row) (hne : ∀ b, v.ownBlock = some b → row ≠ some b) : OwnI w' v xs := by
  refine World.ownsRow.kept h hg ?_
  cases hb : v.ownBlock with
  | none => exact .inl rfl
  | some b => exact .inr (fun c => hne b hb c.symm)
theorem FreshI.kept {w w' : World} {B : Nat} {row : Option Nat} {v : Value} {xs : List Int} (h : FreshI B w v xs) (hg : w.grownBy w' row) (hne : ∀ b, v.ownBlock = some b → row ≠ some b) : FreshI B w' v xs := by
  obtain ⟨g, cap, hv, hB, hlt, ho⟩ := h
  exact ⟨g, cap, hv, hB, Nat.lt_of_lt_of_le hlt hg.size, ownI_kept ho hg hne⟩
theorem FreshI.touch {w w' : World} {B : Nat} {bs : List Nat} {v : Value} {xs : List Int} (h : FreshI B w v xs) (ht : Tch bs w w') (hd : ∀ b, v.ownBlock = some b → b ∉ bs) : FreshI B w' v xs := by
  obtain ⟨g, cap, hv, hB, hlt, ho⟩ := h
  exact ⟨g, cap, hv, hB, by rw [ht.size]; exact hlt, ho.tch ht hd⟩
theorem take_getD (xss : List (List Int)) (k i : Nat) (h : i < k) : (xss.take k).getD i [] = xss.getD i [] := by simp [h]
theorem own_base {w : World} {B T n : Nat} {v : Value} {xs : List Value} (h : w.ownsRow B T 1 v n xs) : w.ownsRow 0 T 1 v n xs := by
  refine ⟨h.1, ?_⟩
  rcases h.2 with h2 | ⟨g, cap, cur, hv, hb, r⟩
  · exact .inl h2
  · exact .inr ⟨g, cap, cur, hv, Nat.zero_le _, r⟩
/-- While the model copies a problem: the first k rows lie behind the variable at N. -/
structure CpO (w wr : World) (B N k : Nat) (v q : Value) (xss : List (List Int)) (Q : List Int) (us : List Value) : Prop where
  fresh : FreshP B wr v q (xss.take k) Q us
  c0 : wr.cell? ⟨N, 0, none⟩ = some v
  c1 : wr.cell? ⟨N, 1, none⟩ = some q
  nf : ∀ o, wr.frozen? ⟨N, o, none⟩ = false
  lt : N < wr.heap.size
  vN : v.ownBlock ≠ some N
  qN : q.ownBlock ≠ some N
  uN : ∀ i, i < k → (us.getD i undef).ownBlock ≠ some N
  below : Below B w wr

theorem CpO.step {w wr w3 w4 : World} {B C N k g cap : Nat} {v q u : Value} {xss : List (List Int)} {Q : List Int} {us : List Value} (h : CpO w wr B N k v q xss Q us) (hk : k < xss.length) (hN : B ≤ N)
    (hu : FreshI wr.heap.size w3 u (xss.getD k [])) (hb : Below wr.heap.size wr w3)
    (hown : w4.ownsRow C 23 1 (.slice (some ⟨g, 0, none⟩) (k + 1) cap) (k + 1) (us ++ [u])) (hgrow : w3.grownBy w4 v.ownBlock) (hat : v.ownBlock = some g ∨ g = w3.heap.size) (hlt : g < w4.heap.size) :
    CpO w (w4.setCell ⟨N, 0, none⟩ (.slice (some ⟨g, 0, none⟩) (k + 1) cap)) B N (k + 1) (.slice (some ⟨g, 0, none⟩) (k + 1) cap) q xss Q (us ++ [u]) := by
  obtain ⟨⟨⟨⟨hl, _, hrw, hap, hov⟩, ⟨gv, cv, hv, hv1, hv2⟩, hub⟩, hq, hqa⟩, hc0, hc1, hnf, hltN, hvN, hqN, huN, hbel⟩ := h
  have hlk : (xss.take k).length = k := by simp; omega
  have hlk1 : (xss.take (k + 1)).length = k + 1 := by simp; omega
  rw [hlk] at hl hrw hap hov hub hqa
  have hvb : v.ownBlock = some gv := by rw [hv]; rfl
  have hz3 := hb.size
  have hz4 := hgrow.size
  have hq0 := hq
  obtain ⟨gq, cq, hqv, hq1, hq2, hqo⟩ := hq
  have hqb : q.ownBlock = some gq := by rw [hqv]; rfl
  have hu0 := hu
  obtain ⟨gu, cu, huv, hu1, hu2, huo⟩ := hu
  have hubk : u.ownBlock = some gu := by rw [huv]; rfl
  have hgv : gv ≠ N := fun c => hvN (by rw [hvb, c])
  have hgq : gq ≠ N := fun c => hqN (by rw [hqb, c])
  have hqv' : gq ≠ gv := fun c => (hqa gq hqb).1 (by rw [hvb, c])
  have hgc : g = gv ∨ g = w3.heap.size := by
    rcases hat with h1 | h1
    · rw [hvb] at h1; simp at h1; exact .inl h1.symm
    · exact .inr h1
  have hgN : g ≠ N := by rcases hgc with c | c <;> omega
  have hrb : ∀ i b, i < k + 1 → ((us ++ [u]).getD i undef).ownBlock = some b → (i < k ∧ (us.getD i undef).ownBlock = some b) ∨ (i = k ∧ b = gu) := fun i b hi hbk => by
    by_cases e : i = k
    · rw [e, ← hl, getD_snoc_eq, hubk] at hbk
      exact .inr ⟨e, by simp at hbk; exact hbk.symm⟩
    · rw [getD_snoc_lt _ _ _ (by omega)] at hbk
      exact .inl ⟨by omega, hbk⟩
  have ht : Tch [N] w4 (w4.setCell ⟨N, 0, none⟩ (.slice (some ⟨g, 0, none⟩) (k + 1) cap)) := (Tch.refl _ _).setCell (by simp) _
  have hcell : ∀ o, o ≠ 0 → (w4.setCell ⟨N, 0, none⟩ (.slice (some ⟨g, 0, none⟩) (k + 1) cap)).cell? ⟨N, o, none⟩ = wr.cell? ⟨N, o, none⟩ := fun o ho => by
    refine (World.cell?_setCell_other w4 _ _ _ (fun c => ho (by simp at c))).trans ?_
    exact (hgrow.cell_far ⟨N, o, none⟩ (by show N < _; omega) (by rw [hvb]; simp; omega)).trans (hb.cell (p := ⟨N, o, none⟩) hltN)
  refine ⟨⟨⟨⟨by rw [hlk1]; simp [hl], by rw [hlk1]; exact own_touch (own_base hown) ht (fun b hb' => by simp [Value.ownBlock] at hb'; simp; omega), fun i hi => ?_, fun i j b hi hj h1 h2 => ?_, fun i b hi h1 h2 => ?_⟩, ⟨g, cap, by rw [hlk1], by omega, by simpa using hlt⟩, fun i b hi h1 => ?_⟩,
    (hq0.below hb |>.kept hgrow (fun b hb' => by rw [hqb] at hb'; rw [hvb]; simp at hb' ⊢; omega)).touch ht (fun b hb' => by rw [hqb] at hb'; simp at hb' ⊢; omega), fun b hb' => ⟨fun c => ?_, fun i hi c => ?_⟩⟩, ?_, ?_, fun o => ?_, by simp; omega, fun c => by simp [Value.ownBlock] at c; omega, by rw [hqb]; simp; omega, fun i hi c => ?_, ?_⟩
  · rw [hlk1] at hi
    rw [take_getD _ _ _ hi]
    by_cases e : i = k
    · have e2 : (us ++ [u]).getD i undef = u := by rw [e, ← hl, getD_snoc_eq]
      rw [e2, e]
      exact (ownI_kept huo hgrow (fun b hb' => by rw [hubk] at hb'; rw [hvb]; simp at hb' ⊢; omega)).tch ht (fun b hb' => by rw [hubk] at hb'; simp at hb' ⊢; omega)
    · rw [getD_snoc_lt _ _ _ (by omega)]
      have := hrw i (by omega)
      rw [take_getD _ _ _ (by omega)] at this
      refine (ownI_kept (this.below hb (fun b hb' => (hub i b (by omega) hb').2)) hgrow (fun b hb' c => hov i b (by omega) c hb')).tch ht (fun b hb' c => ?_)
      simp at c; subst c; exact huN i (by omega) hb'
  · rw [hlk1] at hi hj
    rcases hrb i b hi h1 with ⟨x1, x2⟩ | ⟨x1, x2⟩ <;> rcases hrb j b hj h2 with ⟨y1, y2⟩ | ⟨y1, y2⟩
    · exact hap i j b x1 y1 x2 y2
    · have := (hub i b x1 x2).2; omega
    · have := (hub j b y1 y2).2; omega
    · omega
  · rw [hlk1] at hi
    simp [Value.ownBlock] at h1
    subst h1
    rcases hrb i _ hi h2 with ⟨x1, x2⟩ | ⟨x1, x2⟩
    · rcases hgc with c | c
      · exact hov i g x1 (by rw [hvb, c]) x2
      · have := (hub i g x1 x2).2; omega
    · omega
  · rw [hlk1] at hi
    rcases hrb i _ hi h1 with ⟨x1, x2⟩ | ⟨x1, x2⟩
    · have := hub i b x1 x2; simp; omega
    · simp; omega
  · rw [hqb] at hb'
    simp [Value.ownBlock] at hb' c
    omega
  · rw [hlk1] at hi
    rw [hqb] at hb'
    simp at hb'
    subst hb'
    rcases hrb i _ hi c with ⟨x1, x2⟩ | ⟨x1, x2⟩
    · exact (hqa _ hqb).2 i x1 x2
    · omega
  · exact World.cell?_setCell_same w4 _ _ ((hgrow.cell_far ⟨N, 0, none⟩ (by show N < _; omega) (by rw [hvb]; simp; omega)).trans ((hb.cell (p := ⟨N, 0, none⟩) hltN).trans hc0))
  · rw [hcell 1 (by omega)]; exact hc1
  · show (w4.setCell _ _).frozen? _ = false
    rw [World.frozen?_setCell]
    exact (hgrow.frozen_far ⟨N, o, none⟩ (by show N < _; omega) (by rw [hvb]; simp; omega)).trans ((hb.frozen (p := ⟨N, o, none⟩) hltN).trans (hnf o))
  · rcases hrb i _ hi c with ⟨x1, x2⟩ | ⟨x1, x2⟩
    · exact huN i x1 x2
    · omega
  · exact ((hbel.trans (hb.mono (by omega))).grown hgrow (by omega) (fun b hb' => by rw [hvb] at hb'; simp at hb'; omega)).setCell (by simpa using hN) _
end Go.Proofs.Ytgncaploccbfnaa.PW
namespace Go.Proofs.Ytgncaploccbfnaa.PW
open Go.RowKit Go.Proofs.Ytgncaploccbfnaa
open Go.Proofs.Ytgncaploccbfnaa.PM

theorem CpO.start {W0 w1 : World} {gq cq : Nat} {Q : List Int} (xss : List (List Int)) (hb : Below (W0.alloc (.cells #[] 23)).heap.size (W0.alloc (.cells #[] 23)) w1) (hq1 : (W0.alloc (.cells #[] 23)).heap.size ≤ gq) (hq2 : gq < w1.heap.size)
    (ho : OwnI w1 (.slice (some ⟨gq, 0, none⟩) Q.length cq) Q) :
    CpO W0 (w1.alloc (.cells #[.slice (some ⟨W0.heap.size, 0, none⟩) 0 0, .slice (some ⟨gq, 0, none⟩) Q.length cq] 27)) W0.heap.size w1.heap.size 0 (.slice (some ⟨W0.heap.size, 0, none⟩) 0 0) (.slice (some ⟨gq, 0, none⟩) Q.length cq) xss Q [] := by
  have hz := hb.size
  have ez : (W0.alloc (.cells #[] 23)).heap.size = W0.heap.size + 1 := by simp
  rw [ez] at hz hq1
  have hA : Below w1.heap.size w1 (w1.alloc (.cells #[.slice (some ⟨W0.heap.size, 0, none⟩) 0 0, .slice (some ⟨gq, 0, none⟩) Q.length cq] 27)) := (Below.refl _ _).alloc (Nat.le_refl _) _
  refine ⟨⟨⟨⟨rfl, ?_, fun i hi => absurd hi (by simp), fun i j b hi => absurd hi (by simp), fun i b hi => absurd hi (by simp)⟩, ⟨W0.heap.size, 0, rfl, Nat.le_refl _, by simp; omega⟩, fun i b hi => absurd hi (by simp)⟩, ⟨gq, cq, rfl, by omega, by simp; omega, ho.below hA (fun b hb' => by simp [Value.ownBlock] at hb'; omega)⟩,
    fun b hb' => ⟨fun c => by simp [Value.ownBlock] at hb' c; omega, fun i hi => absurd hi (by simp)⟩⟩, by simp, by simp, fun o => by simp, by simp, fun c => by simp [Value.ownBlock] at c; omega, fun c => by simp [Value.ownBlock] at c; omega, fun i hi => absurd hi (by simp), ?_⟩
  · have h0 : (W0.alloc (.cells #[] 23)).ownsRow 0 23 1 (.slice (some ⟨W0.heap.size, 0, none⟩) 0 0) 0 [] := World.ownsRow_made W0 #[] 0 (Nat.zero_le _) (Nat.zero_le _) rfl
    have h1 := h0.kept (w' := w1) (row := none) ⟨hb.os, hb.tape, hb.output, hb.size, fun k hk _ => hb.block k hk⟩ (.inr (by simp [Value.ownBlock]))
    exact h1.alloc _
  · exact (((Below.refl W0.heap.size W0).alloc (Nat.le_refl _) _).trans (hb.mono (by simp))).alloc (by omega) _

theorem CpO.far {W0 wr W w3 : World} {B N k : Nat} {v q : Value} {xss : List (List Int)} {Q : List Int} {us : List Value} (h : CpO W0 wr B N k v q xss Q us) (hN : B ≤ N) (hb : Below wr.heap.size wr W) (hg : W.grownBy w3 v.ownBlock) :
    Below B W0 w3 ∧ w3.cell? ⟨N, 0, none⟩ = some v ∧ w3.frozen? ⟨N, 0, none⟩ = false := by
  have hlt := h.lt
  have hz := hb.size
  refine ⟨(h.below.trans (hb.mono (by omega))).grown hg (by omega) (fun b hb' => ?_), ?_, ?_⟩
  · obtain ⟨gv, cv, hv, h1, _⟩ := h.fresh.rows.top
    rw [hv] at hb'
    simp [Value.ownBlock] at hb'
    omega
  · exact (hg.cell_far ⟨N, 0, none⟩ (by show N < _; omega) (fun c => h.vN c.symm)).trans ((hb.cell (p := ⟨N, 0, none⟩) hlt).trans h.c0)
  · exact (hg.frozen_far ⟨N, 0, none⟩ (by show N < _; omega) (fun c => h.vN c.symm)).trans ((hb.frozen (p := ⟨N, 0, none⟩) hlt).trans (h.nf 0))
theorem CpO.ownAt {W0 wr W : World} {B N k : Nat} {v q : Value} {xss : List (List Int)} {Q : List Int} {us : List Value} (h : CpO W0 wr B N k v q xss Q us) (hk : k ≤ xss.length) (hb : Below wr.heap.size wr W) : W.ownsRow 0 23 1 v k us := by
  have h1 := h.fresh.rows.own.top
  rw [show (xss.take k).length = k by simp; omega] at h1
  obtain ⟨gv, cv, hv, _, hlt⟩ := h.fresh.rows.top
  exact h1.kept (row := none) ⟨hb.os, hb.tape, hb.output, hb.size, fun i hi _ => hb.block i hi⟩ (.inr (by rw [hv]; simp [Value.ownBlock]))

set_option maxHeartbeats 1000000 in
theorem l01Copy_any (m q : Value) (M : List (List Int)) (Q : List Int) (w : World) (h1 : PM.Rows w m M) (h2 : Ints w q Q) (h0 : M ≠ []) (hne : ∀ i, i < M.length → M.getD i [] ≠ []) (hq0 : Q ≠ []) (hn : tot M ≤ 1048576) (hn2 : Q.length ≤ 1048576) :
    Calls Try.prog 66 #[.agg #[m, q]] w (GivesP w M Q) := by
  have g1 := fun (w' : World) (h : Below w.heap.size w w') => h1.below h
  have g2 := fun (w' : World) (h : Below w.heap.size w w') => h2.below h
  obtain ⟨a1, c1, rfl, _, _, hx1⟩ := h1
  obtain ⟨a2, c2, rfl, _⟩ := h2
  rcases hx1 with hx1 | ⟨b, off, rfl, hblt, hcell⟩
  · exact absurd hx1 h0
  have HC := Lib.hid hcell
  have HN := Lib.hid hn
  have HE := Lib.hid hne
  have HQ := Lib.hid hq0
  have HN2 := Lib.hid hn2
  have hml : M.length ≤ 1048576 := by unfold tot at hn; omega
  have HML := Lib.hid hml
  obtain ⟨i0, hi, hzz0, hzz1, hzz2⟩ := info_parts info_ints
  obtain ⟨W0, hW0⟩ : ∃ W0, W0 = ((w.alloc (.cells #[.slice (some ⟨b, off, none⟩) M.length c1, .slice a2 Q.length c2] 27)).alloc (.cells #[.slice none 0 0, .slice none 0 0] 27)) := ⟨_, rfl⟩
  have hz0 : w.heap.size + 1 + 1 = W0.heap.size := by rw [hW0]; simp
  have hb0 : Below w.heap.size w W0 := by rw [hW0]; (repeat' (first | (with_reducible exact Below.refl _ _) | (with_reducible assumption) | (with_reducible refine Below.alloc ?_ ?_ _) | (with_reducible refine Below.drew ?_) | (with_reducible refine below_drewN ?_ _) | (with_reducible refine Below.setCell ?_ ?_ _) | (with_reducible refine Below.trans ?_ (Below.mono (by with_reducible assumption) ?_)) | (with_reducible exact Below.size (by with_reducible assumption)) | go_size))
  have r1 : ∀ w', Below W0.heap.size W0 w' → w'.cell? ⟨w.heap.size, 0, none⟩ = some (.slice (some ⟨b, off, none⟩) M.length c1) := fun w' h => (h.cell (p := ⟨w.heap.size, 0, none⟩) (by show w.heap.size < _; omega)).trans (by rw [hW0]; simp)
  have r2 : ∀ w', Below W0.heap.size W0 w' → w'.cell? ⟨w.heap.size, 1, none⟩ = some (.slice a2 Q.length c2) := fun w' h => (h.cell (p := ⟨w.heap.size, 1, none⟩) (by show w.heap.size < _; omega)).trans (by rw [hW0]; simp)
  have r3 : ∀ w', Below W0.heap.size W0 w' → w'.cell? ⟨w.heap.size + 1, 0, none⟩ = some (.slice none 0 0) := fun w' h => (h.cell (p := ⟨w.heap.size + 1, 0, none⟩) (by show w.heap.size + 1 < _; omega)).trans (by rw [hW0]; simp)
  have r4 : ∀ w', Below W0.heap.size W0 w' → w'.cell? ⟨w.heap.size + 1, 1, none⟩ = some (.slice none 0 0) := fun w' h => (h.cell (p := ⟨w.heap.size + 1, 1, none⟩) (by show w.heap.size + 1 < _; omega)).trans (by rw [hW0]; simp)
  have r5 : ∀ w' o, Below W0.heap.size W0 w' → w'.frozen? ⟨w.heap.size + 1, o, none⟩ = false := fun w' o h => (h.frozen (p := ⟨w.heap.size + 1, o, none⟩) (by show w.heap.size + 1 < _; omega)).trans (by rw [hW0]; simp)
  have hz1 : w.heap.size + 1 < W0.heap.size := by omega
  have hz2 : w.heap.size < W0.heap.size := by omega
  have HW := Lib.hid hW0
  have HZ := Lib.hid hz0
  clear hcell hn hne h0 hq0 hn2 hml hW0 hz0
  go_enter Try.func66, Try.ntmps66
  go_wp2_with fail
  rw [← HW.out, HZ.out]
  refine (l01Own_any _ Q _ (g2 _ (by (repeat' (first | (with_reducible exact Below.refl _ _) | (with_reducible assumption) | (with_reducible refine Below.alloc ?_ ?_ _) | (with_reducible refine Below.drew ?_) | (with_reducible refine below_drewN ?_ _) | (with_reducible refine Below.setCell ?_ ?_ _) | (with_reducible refine Below.trans ?_ (Below.mono (by with_reducible assumption) ?_)) | (with_reducible exact Below.size (by with_reducible assumption)) | go_size)))) HQ.out HN2.out).mono ?_; rintro e w1 ⟨q1, rfl, ⟨gq, cq, rfl, hgq1, hgq2, hgo⟩, hb1⟩
  have hS0 := CpO.start M hb1 hgq1 hgq2 hgo
  have hN : W0.heap.size ≤ w1.heap.size := by have := hb1.size; simp at this; omega
  have HS0 := Lib.hid hS0
  clear hS0 hgo hgq1 hgq2 hb1
  go_wp2_with fail
  go_loopw [4] (fun i wr => ∃ (k : Nat) (v : Value) (us : List Value), k ≤ M.length ∧ i = .int .i64 k ∧ CpO W0 wr W0.heap.size w1.heap.size k v (.slice (some ⟨gq, 0, none⟩) Q.length cq) M Q us) (fun i _ => M.length - (intOf i).toNat)
  case atStart => exact ⟨0, _, [], Nat.zero_le _, rfl, HS0.out⟩
  case round =>
    obtain ⟨k, v, us, hk, rfl, hcp⟩ := hrel
    have hbr := hcp.below
    by_cases hlt2 : k < M.length
    · obtain ⟨u0, hu0, hI0⟩ := HC.out k hlt2
      have gI := fun (w' : World) (h : Below w.heap.size w w') => hI0.below h
      have r6 : ∀ w', Below W0.heap.size W0 w' → w'.cell? ⟨b, off + k, none⟩ = some u0 := fun w' h => ((hb0.trans (h.mono hb0.size)).cell (p := ⟨b, off + k, none⟩) hblt).trans hu0
      have r7 : ∀ w', Below wr.heap.size wr w' → w'.cell? ⟨w1.heap.size, 0, none⟩ = some v := fun w' h => (h.cell (p := ⟨w1.heap.size, 0, none⟩) hcp.lt).trans hcp.c0
      have hvc := hcp.c0
      have hvl := hcp.lt
      have hnek := HE.out k hlt2
      have hrl : (M.getD k []).length ≤ 1048576 := by
        have h1 := pre_succ M k hlt2
        have h2 := pre_le M (k + 1)
        have h3 := HN.out
        unfold tot at h3
        omega
      have HCP := Lib.hid hcp
      clear hcp hu0
      have hst := fun (u : Value) (w3 w4 : World) (g cap : Nat) hu hb (hown : w4.ownsRow 0 23 1 (.slice (some ⟨g, 0, none⟩) (k + 1) cap) (k + 1) (us ++ [u])) hgrow hat hlt => HCP.out.step (u := u) (w3 := w3) (w4 := w4) (g := g) (cap := cap) hlt2 hN hu hb hown hgrow hat hlt
      have HST := Lib.hid hst
      have HNE := Lib.hid hnek
      have HRL := Lib.hid hrl
      clear hst hnek hrl
      generalize M.getD k [] = r at *
      obtain ⟨ra, rc, rfl, _⟩ := id hI0
      clear hI0
      go_wp2_with fail
      have r1w := r1 _ hbr
      have r6w := r6 _ hbr
      clear r1 r6
      go_region_law (first | (go_simp; go_at_call 105; refine (l01Own_any _ r _ (gI _ (by (repeat' (first | (with_reducible exact Below.refl _ _) | (with_reducible assumption) | (with_reducible refine Below.alloc ?_ ?_ _) | (with_reducible refine Below.drew ?_) | (with_reducible refine below_drewN ?_ _) | (with_reducible refine Below.setCell ?_ ?_ _) | (with_reducible refine Below.trans ?_ (Below.mono (by with_reducible assumption) ?_)) | (with_reducible exact Below.size (by with_reducible assumption)) | go_size)))) HNE.out HRL.out).mono ?_; rintro e w2 ⟨u2, rfl, hfu, hb2⟩; have hk2 : Below wr.heap.size wr w2 := (by (repeat' (first | (with_reducible exact Below.refl _ _) | (with_reducible assumption) | (with_reducible refine Below.alloc ?_ ?_ _) | (with_reducible refine Below.drew ?_) | (with_reducible refine below_drewN ?_ _) | (with_reducible refine Below.setCell ?_ ?_ _) | (with_reducible refine Below.trans ?_ (Below.mono (by with_reducible assumption) ?_)) | (with_reducible exact Below.size (by with_reducible assumption)) | go_size))); have hS2 : Below W0.heap.size W0 w2 := (by (repeat' (first | (with_reducible exact Below.refl _ _) | (with_reducible assumption) | (with_reducible refine Below.alloc ?_ ?_ _) | (with_reducible refine Below.drew ?_) | (with_reducible refine below_drewN ?_ _) | (with_reducible refine Below.setCell ?_ ?_ _) | (with_reducible refine Below.trans ?_ (Below.mono (by with_reducible assumption) ?_)) | (with_reducible exact Below.size (by with_reducible assumption)) | go_size))); have hvl2 : w1.heap.size < w2.heap.size := (Nat.lt_of_lt_of_le hvl hk2.size); have hfu' := hfu; obtain ⟨g2, cap2, rfl, hg21, hg22, hgo2⟩ := hfu'; clear hg21 hg22 hgo2) | (refine step_append_lies _ rfl _ _ 22 rfl 0 23 i0 (.slice none 0 0) 1 24 Try.underlying22 hi hzz0 hzz1 hzz2 rfl (by decide) v k us rfl (HCP.out.ownAt hk (by (repeat' (first | (with_reducible exact Below.refl _ _) | (with_reducible assumption) | (with_reducible refine Below.alloc ?_ ?_ _) | (with_reducible refine Below.drew ?_) | (with_reducible refine below_drewN ?_ _) | (with_reducible refine Below.setCell ?_ ?_ _) | (with_reducible refine Below.trans ?_ (Below.mono (by with_reducible assumption) ?_)) | (with_reducible exact Below.size (by with_reducible assumption)) | go_size)))) _ 1 _ [.slice (some ⟨g2, 0, none⟩) r.length cap2] rfl rfl (cell_one_new _ _ _) (by simp [Value.oneCell']) (by decide) (by have := HML.out; unfold maxLen; omega) (by have := HML.out; omega) (Nat.zero_le _) _ rfl ?_; intro g cap w3 hown hgrow hat hlt; obtain ⟨hs3, hcN, hfN⟩ := HCP.out.far hN (by (repeat' (first | (with_reducible exact Below.refl _ _) | (with_reducible assumption) | (with_reducible refine Below.alloc ?_ ?_ _) | (with_reducible refine Below.drew ?_) | (with_reducible refine below_drewN ?_ _) | (with_reducible refine Below.setCell ?_ ?_ _) | (with_reducible refine Below.trans ?_ (Below.mono (by with_reducible assumption) ?_)) | (with_reducible exact Below.size (by with_reducible assumption)) | go_size))) hgrow; have hst := HST.out _ _ _ _ _ (hfu.below (by (repeat' (first | (with_reducible exact Below.refl _ _) | (with_reducible assumption) | (with_reducible refine Below.alloc ?_ ?_ _) | (with_reducible refine Below.drew ?_) | (with_reducible refine below_drewN ?_ _) | (with_reducible refine Below.setCell ?_ ?_ _) | (with_reducible refine Below.trans ?_ (Below.mono (by with_reducible assumption) ?_)) | (with_reducible exact Below.size (by with_reducible assumption)) | go_size)))) (by (repeat' (first | (with_reducible exact Below.refl _ _) | (with_reducible assumption) | (with_reducible refine Below.alloc ?_ ?_ _) | (with_reducible refine Below.drew ?_) | (with_reducible refine below_drewN ?_ _) | (with_reducible refine Below.setCell ?_ ?_ _) | (with_reducible refine Below.trans ?_ (Below.mono (by with_reducible assumption) ?_)) | (with_reducible exact Below.size (by with_reducible assumption)) | go_size))) hown hgrow hat hlt; have HST3 := Lib.hid hst; clear hst hown hgrow hat hlt))
      all_goals
        have hml := HML.out
        go_wp2_with fail
        go_roundw
        case rel => exact ⟨k + 1, _, _, by omega, by go_num, HST3.out⟩
        case measure => simp [intOf]; omega
    · obtain rfl : k = M.length := by omega
      have hr3 := r3 _ hbr
      have hr4 := r4 _ hbr
      have hr5 := fun o => r5 _ o hbr
      have hcN0 := hcp.c0
      have hcN1 := hcp.c1
      have hvl := hcp.lt
      have r1w := r1 _ hbr
      have hs1 : w.heap.size + 1 < wr.heap.size := by omega
      have hs0 : w.heap.size < wr.heap.size := by omega
      have hfr := hcp.fresh
      rw [List.take_length] at hfr
      obtain ⟨gv, cv, rfl, hgv⟩ := hfr.rows.top
      have HF := Lib.hid hfr
      clear hcp hfr r1 r2 r3 r4 r5
      go_wp2_with fail
      refine bodyPost_ret (v := .agg #[.slice (some ⟨gv, 0, none⟩) M.length cv, .slice (some ⟨gq, 0, none⟩) Q.length cq]) (by simp [*, results, Try.results66, go_sem]) rfl ?_
      have hbb : Below w.heap.size w wr := hb0.trans (hbr.mono hb0.size)
      have hfr := (HF.out.tch (bs := [w.heap.size + 1]) (((Tch.refl _ wr).setCell (p := ⟨w.heap.size + 1, 0, none⟩) (by simp) (.slice (some ⟨gv, 0, none⟩) M.length cv)).setCell (p := ⟨w.heap.size + 1, 1, none⟩) (by simp) (.slice (some ⟨gq, 0, none⟩) Q.length cq)) (fun b hb => by simp at hb; omega)).mono (C := w.heap.size) (by omega)
      exact ⟨_, _, us, rfl, hfr, (hbb.setCell (by simp) _).setCell (by simp) _⟩
end Go.Proofs.Ytgncaploccbfnaa.PW
namespace Go.Proofs.Ytgncaploccbfnaa.PW
open Go.RowKit Go.Proofs.Ytgncaploccbfnaa
open Go.Proofs.Ytgncaploccbfnaa.PM

theorem sscale_err1 (m q : Value) (M : List (List Int)) (Q : List Int) (i k : Int) (w : World) (h1 : PM.Rows w m M) (h2 : Ints w q Q) (hp' : isPB M Q = false) :
    Calls Try.prog 16 #[.agg #[m, q], .int .i64 i, .int .i64 k] w (OutP w ([], [], 1)) := by
  have g1 := fun (w' : World) (h : Below w.heap.size w w') => h1.below h
  have g2 := fun (w' : World) (h : Below w.heap.size w w') => h2.below h
  obtain ⟨a1, c1, rfl, _⟩ := h1
  obtain ⟨a2, c2, rfl, _⟩ := h2
  have HP := Lib.hid hp'
  clear hp'
  go_enter Try.func16, Try.ntmps16
  go_wp2_with fail
  refine (l01Is_any _ _ M Q _ (g1 _ (by (repeat' (first | (with_reducible exact Below.refl _ _) | (with_reducible assumption) | (with_reducible refine Below.alloc ?_ ?_ _) | (with_reducible refine Below.drew ?_) | (with_reducible refine below_drewN ?_ _) | (with_reducible refine Below.setCell ?_ ?_ _) | (with_reducible refine Below.trans ?_ (Below.mono (by with_reducible assumption) ?_)) | (with_reducible exact Below.size (by with_reducible assumption)) | go_size)))) (g2 _ (by (repeat' (first | (with_reducible exact Below.refl _ _) | (with_reducible assumption) | (with_reducible refine Below.alloc ?_ ?_ _) | (with_reducible refine Below.drew ?_) | (with_reducible refine below_drewN ?_ _) | (with_reducible refine Below.setCell ?_ ?_ _) | (with_reducible refine Below.trans ?_ (Below.mono (by with_reducible assumption) ?_)) | (with_reducible exact Below.size (by with_reducible assumption)) | go_size))))).mono ?_; rw [HP.out]; rintro e w1 ⟨rfl, hb1⟩; obtain ⟨hc_hb1, hf_hb1⟩ := bcell hb1; obtain ⟨hcA_hb1, hfA_hb1⟩ := bcellG (W0 := w) hb1 (by (repeat' (first | (with_reducible exact Below.refl _ _) | (with_reducible assumption) | (with_reducible refine Below.alloc ?_ ?_ _) | (with_reducible refine Below.drew ?_) | (with_reducible refine below_drewN ?_ _) | (with_reducible refine Below.setCell ?_ ?_ _) | (with_reducible refine Below.trans ?_ (Below.mono (by with_reducible assumption) ?_)) | (with_reducible exact Below.size (by with_reducible assumption)) | go_size))); have hz_hb1 := hb1.size; (try simp at hz_hb1); (try simp only [Nat.add_one_le_iff] at hz_hb1); have hz0_hb1 : w.heap.size < w1.heap.size := (by omega); have hz1_hb1 : w.heap.size + 1 < w1.heap.size := (by omega)
  go_wp2_with fail
  refine bodyPost_ret (v := .tuple #[.agg #[.slice none 0 0, .slice none 0 0], .int .i64 1]) (by simp [*, results, Try.results16, go_sem]) rfl ?_
  refine ⟨_, _, [], rfl, ownP_nil _ _, ?_⟩
  (repeat' (first | (with_reducible exact Below.refl _ _) | (with_reducible assumption) | (with_reducible refine Below.alloc ?_ ?_ _) | (with_reducible refine Below.drew ?_) | (with_reducible refine below_drewN ?_ _) | (with_reducible refine Below.setCell ?_ ?_ _) | (with_reducible refine Below.trans ?_ (Below.mono (by with_reducible assumption) ?_)) | (with_reducible exact Below.size (by with_reducible assumption)) | go_size))

theorem sscale_err2a (m q : Value) (M : List (List Int)) (Q : List Int) (i k : Int) (w : World) (h1 : PM.Rows w m M) (h2 : Ints w q Q) (hp : isPB M Q = true) (hn5 : Q.length ≤ 5)
    (hin : decide (0 ≤ i ∧ i ≤ (Q.length : Int) - 1) = false) :
    Calls Try.prog 16 #[.agg #[m, q], .int .i64 i, .int .i64 k] w (OutP w ([], [], 2)) := by
  have g1 := fun (w' : World) (h : Below w.heap.size w w') => h1.below h
  have g2 := fun (w' : World) (h : Below w.heap.size w w') => h2.below h
  obtain ⟨a1, c1, rfl, _⟩ := h1
  obtain ⟨a2, c2, rfl, _⟩ := h2
  have HP := Lib.hid hp
  have HI := Lib.hid hin
  clear hp hin
  go_enter Try.func16, Try.ntmps16
  go_wp2_with fail
  refine (l01Is_any _ _ M Q _ (g1 _ (by (repeat' (first | (with_reducible exact Below.refl _ _) | (with_reducible assumption) | (with_reducible refine Below.alloc ?_ ?_ _) | (with_reducible refine Below.drew ?_) | (with_reducible refine below_drewN ?_ _) | (with_reducible refine Below.setCell ?_ ?_ _) | (with_reducible refine Below.trans ?_ (Below.mono (by with_reducible assumption) ?_)) | (with_reducible exact Below.size (by with_reducible assumption)) | go_size)))) (g2 _ (by (repeat' (first | (with_reducible exact Below.refl _ _) | (with_reducible assumption) | (with_reducible refine Below.alloc ?_ ?_ _) | (with_reducible refine Below.drew ?_) | (with_reducible refine below_drewN ?_ _) | (with_reducible refine Below.setCell ?_ ?_ _) | (with_reducible refine Below.trans ?_ (Below.mono (by with_reducible assumption) ?_)) | (with_reducible exact Below.size (by with_reducible assumption)) | go_size))))).mono ?_; rw [HP.out]; rintro e w1 ⟨rfl, hb1⟩; obtain ⟨hc_hb1, hf_hb1⟩ := bcell hb1; obtain ⟨hcA_hb1, hfA_hb1⟩ := bcellG (W0 := w) hb1 (by (repeat' (first | (with_reducible exact Below.refl _ _) | (with_reducible assumption) | (with_reducible refine Below.alloc ?_ ?_ _) | (with_reducible refine Below.drew ?_) | (with_reducible refine below_drewN ?_ _) | (with_reducible refine Below.setCell ?_ ?_ _) | (with_reducible refine Below.trans ?_ (Below.mono (by with_reducible assumption) ?_)) | (with_reducible exact Below.size (by with_reducible assumption)) | go_size))); have hz_hb1 := hb1.size; (try simp at hz_hb1); (try simp only [Nat.add_one_le_iff] at hz_hb1); have hz0_hb1 : w.heap.size < w1.heap.size := (by omega); have hz1_hb1 : w.heap.size + 1 < w1.heap.size := (by omega)
  go_wp2_with fail
  refine (l01In_is i 0 ((Q.length : Int) - 1) false _ HI.out).mono ?_; rintro e w2 ⟨rfl, rfl⟩
  go_wp2_with fail
  refine bodyPost_ret (v := .tuple #[.agg #[.slice none 0 0, .slice none 0 0], .int .i64 2]) (by simp [*, results, Try.results16, go_sem]) rfl ?_
  refine ⟨_, _, [], rfl, ownP_nil _ _, ?_⟩
  (repeat' (first | (with_reducible exact Below.refl _ _) | (with_reducible assumption) | (with_reducible refine Below.alloc ?_ ?_ _) | (with_reducible refine Below.drew ?_) | (with_reducible refine below_drewN ?_ _) | (with_reducible refine Below.setCell ?_ ?_ _) | (with_reducible refine Below.trans ?_ (Below.mono (by with_reducible assumption) ?_)) | (with_reducible exact Below.size (by with_reducible assumption)) | go_size))
theorem sscale_err2b (m q : Value) (M : List (List Int)) (Q : List Int) (i k : Int) (w : World) (h1 : PM.Rows w m M) (h2 : Ints w q Q) (hp : isPB M Q = true) (hn5 : Q.length ≤ 5)
    (hin : decide (0 ≤ i ∧ i ≤ (Q.length : Int) - 1) = true) (hkn : decide (1 ≤ k ∧ k ≤ (100 : Int)) = false) :
    Calls Try.prog 16 #[.agg #[m, q], .int .i64 i, .int .i64 k] w (OutP w ([], [], 2)) := by
  have g1 := fun (w' : World) (h : Below w.heap.size w w') => h1.below h
  have g2 := fun (w' : World) (h : Below w.heap.size w w') => h2.below h
  obtain ⟨a1, c1, rfl, _⟩ := h1
  obtain ⟨a2, c2, rfl, _⟩ := h2
  have HP := Lib.hid hp
  have HI := Lib.hid hin
  have HK := Lib.hid hkn
  clear hp hin hkn
  go_enter Try.func16, Try.ntmps16
  go_wp2_with fail
  refine (l01Is_any _ _ M Q _ (g1 _ (by (repeat' (first | (with_reducible exact Below.refl _ _) | (with_reducible assumption) | (with_reducible refine Below.alloc ?_ ?_ _) | (with_reducible refine Below.drew ?_) | (with_reducible refine below_drewN ?_ _) | (with_reducible refine Below.setCell ?_ ?_ _) | (with_reducible refine Below.trans ?_ (Below.mono (by with_reducible assumption) ?_)) | (with_reducible exact Below.size (by with_reducible assumption)) | go_size)))) (g2 _ (by (repeat' (first | (with_reducible exact Below.refl _ _) | (with_reducible assumption) | (with_reducible refine Below.alloc ?_ ?_ _) | (with_reducible refine Below.drew ?_) | (with_reducible refine below_drewN ?_ _) | (with_reducible refine Below.setCell ?_ ?_ _) | (with_reducible refine Below.trans ?_ (Below.mono (by with_reducible assumption) ?_)) | (with_reducible exact Below.size (by with_reducible assumption)) | go_size))))).mono ?_; rw [HP.out]; rintro e w1 ⟨rfl, hb1⟩; obtain ⟨hc_hb1, hf_hb1⟩ := bcell hb1; obtain ⟨hcA_hb1, hfA_hb1⟩ := bcellG (W0 := w) hb1 (by (repeat' (first | (with_reducible exact Below.refl _ _) | (with_reducible assumption) | (with_reducible refine Below.alloc ?_ ?_ _) | (with_reducible refine Below.drew ?_) | (with_reducible refine below_drewN ?_ _) | (with_reducible refine Below.setCell ?_ ?_ _) | (with_reducible refine Below.trans ?_ (Below.mono (by with_reducible assumption) ?_)) | (with_reducible exact Below.size (by with_reducible assumption)) | go_size))); have hz_hb1 := hb1.size; (try simp at hz_hb1); (try simp only [Nat.add_one_le_iff] at hz_hb1); have hz0_hb1 : w.heap.size < w1.heap.size := (by omega); have hz1_hb1 : w.heap.size + 1 < w1.heap.size := (by omega)
  go_wp2_with fail
  refine (l01In_is i 0 ((Q.length : Int) - 1) true _ HI.out).mono ?_; rintro e w2 ⟨rfl, rfl⟩
  go_wp2_with fail
  refine (l01In_is k 1 100 false _ HK.out).mono ?_; rintro e w2 ⟨rfl, rfl⟩
  go_wp2_with fail
  refine bodyPost_ret (v := .tuple #[.agg #[.slice none 0 0, .slice none 0 0], .int .i64 2]) (by simp [*, results, Try.results16, go_sem]) rfl ?_
  refine ⟨_, _, [], rfl, ownP_nil _ _, ?_⟩
  (repeat' (first | (with_reducible exact Below.refl _ _) | (with_reducible assumption) | (with_reducible refine Below.alloc ?_ ?_ _) | (with_reducible refine Below.drew ?_) | (with_reducible refine below_drewN ?_ _) | (with_reducible refine Below.setCell ?_ ?_ _) | (with_reducible refine Below.trans ?_ (Below.mono (by with_reducible assumption) ?_)) | (with_reducible exact Below.size (by with_reducible assumption)) | go_size))

/-- l01Copy's answer with its slices written out. -/
theorem l01Copy_out (m q : Value) (M : List (List Int)) (Q : List Int) (w : World) (h1 : PM.Rows w m M) (h2 : Ints w q Q) (h0 : M ≠ []) (hne : ∀ i, i < M.length → M.getD i [] ≠ []) (hq0 : Q ≠ []) (hn : tot M ≤ 1048576) (hn2 : Q.length ≤ 1048576) :
    Calls Try.prog 66 #[.agg #[m, q]] w fun e w' => ∃ gm cm gq cq us, e = .returned (.agg #[.slice (some ⟨gm, 0, none⟩) M.length cm, .slice (some ⟨gq, 0, none⟩) Q.length cq]) ∧ w.heap.size ≤ gm ∧ gm < w'.heap.size ∧ w.heap.size ≤ gq ∧ gq < w'.heap.size ∧ gm ≠ gq ∧
      FreshP w.heap.size w' (.slice (some ⟨gm, 0, none⟩) M.length cm) (.slice (some ⟨gq, 0, none⟩) Q.length cq) M Q us ∧ Below w.heap.size w w' := by
  refine (l01Copy_any m q M Q w h1 h2 h0 hne hq0 hn hn2).mono ?_
  rintro e w' ⟨m', q', us, rfl, hfp, hb⟩
  obtain ⟨gm, cm, rfl, hm1, hm2⟩ := hfp.rows.top
  obtain ⟨gq, cq, rfl, hq1, hq2, _⟩ := hfp.right
  exact ⟨gm, cm, gq, cq, us, rfl, hm1, hm2, hq1, hq2, fun c => (hfp.apart gq rfl).1 (by rw [c]; rfl), hfp, hb⟩

theorem specScaleRow_any (m q : Value) (M : List (List Int)) (Q : List Int) (i k : Int) (w : World) (h1 : PM.Rows w m M) (h2 : Ints w q Q) :
    Calls Try.prog 16 #[.agg #[m, q], .int .i64 i, .int .i64 k] w (OutP w (scaleOut M Q i k)) := by
  by_cases hp : isPB M Q = true
  case neg =>
    have hp' : isPB M Q = false := by simpa using hp
    have e : scaleOut M Q i k = ([], [], 1) := by unfold scaleOut; rw [if_pos hp']
    rw [e]
    exact sscale_err1 m q M Q i k w h1 h2 hp'
  obtain ⟨f1, f2, f3, f4, f5⟩ := isPB_facts hp
  by_cases hrng : i < 0 ∨ (M.length : Int) ≤ i ∨ k < 1 ∨ 100 < k
  · have e : scaleOut M Q i k = ([], [], 2) := by unfold scaleOut; rw [if_neg (by simp [hp]), if_pos hrng]
    rw [e]
    by_cases hin : 0 ≤ i ∧ i ≤ (Q.length : Int) - 1
    · exact sscale_err2b m q M Q i k w h1 h2 hp (by omega) (decide_eq_true hin) (decide_eq_false (by omega))
    · exact sscale_err2a m q M Q i k w h1 h2 hp (by omega) (decide_eq_false hin)
  have g1 := fun (w' : World) (h : Below w.heap.size w w') => h1.below h
  have g2 := fun (w' : World) (h : Below w.heap.size w w') => h2.below h
  obtain ⟨a1, c1, rfl, _⟩ := h1
  obtain ⟨a2, c2, rfl, _⟩ := h2
  have hr1 : 0 ≤ i := by omega
  have hr2 : i < M.length := by omega
  have hk1 : 1 ≤ k := by omega
  have hk2 : k ≤ 100 := by omega
  obtain ⟨ι, rfl⟩ := Int.eq_ofNat_of_zero_le hr1
  have hι : ι < M.length := by omega
  have hin : decide (0 ≤ (ι : Int) ∧ (ι : Int) ≤ (Q.length : Int) - 1) = true := decide_eq_true (by omega)
  have hkn : decide (1 ≤ k ∧ k ≤ (100 : Int)) = true := decide_eq_true (by omega)
  have e0 : scaleOut M Q (ι : Int) k = if isPB (scM M ι k) (scQ Q ι k) = false then ([], [], 3) else (scM M ι k, scQ Q ι k, 0) := by
    unfold scaleOut; rw [if_neg (by simp [hp]), if_neg hrng, Int.toNat_natCast]
  rw [e0]
  clear e0 hrng
  generalize hoe : (if isPB (scM M ι k) (scQ Q ι k) = false then (([], [], 3) : List (List Int) × List Int × Int) else (scM M ι k, scQ Q ι k, 0)) = o
  have HO := Lib.hid hoe
  clear hoe
  have htot := tot_small hp
  have hP := Lib.hid hp
  have H4 := Lib.hid f4
  have H3 := Lib.hid f3
  have HT := Lib.hid htot
  have HI := Lib.hid hin
  have HK := Lib.hid hkn
  have hqm : -10000 ≤ k * Q.getD ι 0 ∧ k * Q.getD ι 0 ≤ 10000 := by
    have hb := f5 ι (by omega)
    have := mul_bd (a := Q.getD ι 0) (b := k) (A := 100) (B := 100) (by omega) (by omega) (by omega) (by omega)
    rw [Int.mul_comm]
    omega
  have hne1 : M ≠ [] := by intro c; rw [c] at f1; simp at f1
  have hne2 : Q ≠ [] := by intro c; rw [c] at f3; simp at f3; omega
  have hne3 : ∀ j, j < M.length → M.getD j [] ≠ [] := fun j hj c => by have := (f4 j hj).1; rw [c] at this; simp at this; omega
  have hql : Q.length ≤ 1048576 := by omega
  have hq5 : Q.length ≤ 5 := by omega
  have HQL := Lib.hid hql
  have HQM := Lib.hid hqm
  have N1 := Lib.hid hne1
  have N2 := Lib.hid hne2
  have N3 := Lib.hid hne3
  clear hp f4 htot f5 hne1 hne2 hne3 hql hqm f3 hin hkn
  go_enter Try.func16, Try.ntmps16
  go_wp2_with fail
  refine (l01Is_any _ _ M Q _ (g1 _ (by (repeat' (first | (with_reducible exact Below.refl _ _) | (with_reducible assumption) | (with_reducible refine Below.alloc ?_ ?_ _) | (with_reducible refine Below.drew ?_) | (with_reducible refine below_drewN ?_ _) | (with_reducible refine Below.setCell ?_ ?_ _) | (with_reducible refine Below.trans ?_ (Below.mono (by with_reducible assumption) ?_)) | (with_reducible exact Below.size (by with_reducible assumption)) | go_size)))) (g2 _ (by (repeat' (first | (with_reducible exact Below.refl _ _) | (with_reducible assumption) | (with_reducible refine Below.alloc ?_ ?_ _) | (with_reducible refine Below.drew ?_) | (with_reducible refine below_drewN ?_ _) | (with_reducible refine Below.setCell ?_ ?_ _) | (with_reducible refine Below.trans ?_ (Below.mono (by with_reducible assumption) ?_)) | (with_reducible exact Below.size (by with_reducible assumption)) | go_size))))).mono ?_; rw [hP.out]; rintro e w1 ⟨rfl, hb1⟩; obtain ⟨hc_hb1, hf_hb1⟩ := bcell hb1; obtain ⟨hcA_hb1, hfA_hb1⟩ := bcellG (W0 := w) hb1 (by (repeat' (first | (with_reducible exact Below.refl _ _) | (with_reducible assumption) | (with_reducible refine Below.alloc ?_ ?_ _) | (with_reducible refine Below.drew ?_) | (with_reducible refine below_drewN ?_ _) | (with_reducible refine Below.setCell ?_ ?_ _) | (with_reducible refine Below.trans ?_ (Below.mono (by with_reducible assumption) ?_)) | (with_reducible exact Below.size (by with_reducible assumption)) | go_size))); have hz_hb1 := hb1.size; (try simp at hz_hb1); (try simp only [Nat.add_one_le_iff] at hz_hb1); have hz0_hb1 : w.heap.size < w1.heap.size := (by omega); have hz1_hb1 : w.heap.size + 1 < w1.heap.size := (by omega)
  have hw1 : Below w.heap.size w w1 := by (repeat' (first | (with_reducible exact Below.refl _ _) | (with_reducible assumption) | (with_reducible refine Below.alloc ?_ ?_ _) | (with_reducible refine Below.drew ?_) | (with_reducible refine below_drewN ?_ _) | (with_reducible refine Below.setCell ?_ ?_ _) | (with_reducible refine Below.trans ?_ (Below.mono (by with_reducible assumption) ?_)) | (with_reducible exact Below.size (by with_reducible assumption)) | go_size))
  go_wp2_with fail
  refine (l01In_is _ 0 ((Q.length : Int) - 1) true _ HI.out).mono ?_; rintro e w2 ⟨rfl, rfl⟩
  go_wp2_with fail
  refine (l01In_is k 1 100 true _ HK.out).mono ?_; rintro e w2 ⟨rfl, rfl⟩
  go_wp2_with fail
  refine (l01Copy_out _ _ M Q _ (g1 _ (by (repeat' (first | (with_reducible exact Below.refl _ _) | (with_reducible assumption) | (with_reducible refine Below.alloc ?_ ?_ _) | (with_reducible refine Below.drew ?_) | (with_reducible refine below_drewN ?_ _) | (with_reducible refine Below.setCell ?_ ?_ _) | (with_reducible refine Below.trans ?_ (Below.mono (by with_reducible assumption) ?_)) | (with_reducible exact Below.size (by with_reducible assumption)) | go_size)))) (g2 _ (by (repeat' (first | (with_reducible exact Below.refl _ _) | (with_reducible assumption) | (with_reducible refine Below.alloc ?_ ?_ _) | (with_reducible refine Below.drew ?_) | (with_reducible refine below_drewN ?_ _) | (with_reducible refine Below.setCell ?_ ?_ _) | (with_reducible refine Below.trans ?_ (Below.mono (by with_reducible assumption) ?_)) | (with_reducible exact Below.size (by with_reducible assumption)) | go_size)))) N1.out N3.out N2.out HT.out HQL.out).mono ?_
  rintro e w2 ⟨gm, cm, gq, cq, us, rfl, hgm1, hgm2, hgq1, hgq2, hgmq, hfp, hb2⟩
  obtain ⟨_, _, hqe, _, _, hoq⟩ := hfp.right
  obtain ⟨rfl, rfl⟩ : _ ∧ _ := by simpa using hqe
  have hoR := hfp.rows.own.rows ι hι
  obtain ⟨gr, cr, hur⟩ := own_nonempty hoR (N3.out ι hι)
  have hgr := hfp.rows.rows ι gr hι (by rw [hur]; rfl)
  have htop := top_cell hfp.rows.own hι
  rw [hur] at htop
  obtain ⟨hc_hb2, hf_hb2⟩ := bcell hb2; obtain ⟨hcA_hb2, hfA_hb2⟩ := bcellG (W0 := w1) hb2 (by (repeat' (first | (with_reducible exact Below.refl _ _) | (with_reducible assumption) | (with_reducible refine Below.alloc ?_ ?_ _) | (with_reducible refine Below.drew ?_) | (with_reducible refine below_drewN ?_ _) | (with_reducible refine Below.setCell ?_ ?_ _) | (with_reducible refine Below.trans ?_ (Below.mono (by with_reducible assumption) ?_)) | (with_reducible exact Below.size (by with_reducible assumption)) | go_size))); have hz_hb2 := hb2.size; (try simp at hz_hb2); (try simp only [Nat.add_one_le_iff] at hz_hb2)
  have hz0_2 : w.heap.size < w2.heap.size := by omega
  have hz1_2 : w.heap.size + 1 < w2.heap.size := by omega
  have hne_q : ¬ gq = w2.heap.size := by omega
  have hne_m : ¬ gm = w2.heap.size := by omega
  have hne_r : ¬ gr = w2.heap.size := by omega
  have hbt : Below w.heap.size w w2 := hw1.trans (hb2.mono hw1.size)
  have hr0 : w2.cell? ⟨w.heap.size + 1, 0, none⟩ = some (.slice none 0 0) := by rw [hc_hb2 _ _ hz1_hb1, hc_hb1 _ _ (by simp)]; simp
  have hr1 : w2.cell? ⟨w.heap.size + 1, 1, none⟩ = some (.slice none 0 0) := by rw [hc_hb2 _ _ hz1_hb1, hc_hb1 _ _ (by simp)]; simp
  have hrf : ∀ o, w2.frozen? ⟨w.heap.size + 1, o, none⟩ = false := fun o => by rw [hf_hb2 _ _ hz1_hb1, hf_hb1 _ _ (by simp)]; simp
  have hS0 : Sc w (w2.alloc (.cells #[.slice (some ⟨gm, 0, none⟩) M.length cm, .slice (some ⟨gq, 0, none⟩) Q.length cq] 27)) w1.heap.size w2.heap.size (.slice (some ⟨gm, 0, none⟩) M.length cm) (.slice (some ⟨gq, 0, none⟩) Q.length cq) (M.set ι (scPart (M.getD ι []) k 0)) Q us := by
    rw [scM_zero]
    exact Sc.start (w := w) hfp hr0 hr1 hrf hz1_2 hbt
  have HS0 := Lib.hid hS0
  have HU := Lib.hid hur
  clear hfp hoq hqe hoR hur hS0 hbt hr0 hr1 hrf
  obtain ⟨n, hn⟩ : ∃ n, n = (M.getD ι []).length := ⟨_, rfl⟩
  have hn5 : n ≤ 5 := by rw [hn, (H4.out ι hι).1]; omega
  rw [← hn] at htop
  have HNN := Lib.hid hn
  clear hn
  have hB : w.heap.size + 1 < gr := by omega
  have hBq : w.heap.size + 1 < gq := by omega
  go_wp2_with fail
  go_loopw [10] (fun i wr => ∃ (c : Nat), c ≤ n ∧ i = .int .i64 c ∧ Sc w wr w1.heap.size w2.heap.size (.slice (some ⟨gm, 0, none⟩) M.length cm) (.slice (some ⟨gq, 0, none⟩) Q.length cq) (M.set ι (scPart (M.getD ι []) k c)) Q us) (fun i _ => n - (intOf i).toNat)
  case atStart => exact ⟨0, Nat.zero_le _, rfl, HS0.out⟩
  case round =>
    obtain ⟨c, hc, rfl, hS⟩ := hrel
    by_cases hlt2 : c < n
    · have hlc : c < (M.getD ι []).length := by have := HNN.out; omega
      obtain ⟨hce, hfe⟩ := hS.cellRow hι hlc HU.out
      have hst := hS.step hι hlc HU.out hne_r hB
      rw [Int.mul_comm] at hst
      have hbd := (H4.out ι hι).2 c (by have := (H4.out ι hι).1; omega)
      have hym : -2000 ≤ k * (M.getD ι []).getD c 0 ∧ k * (M.getD ι []).getD c 0 ≤ 2000 := by
        have := mul_bd (a := (M.getD ι []).getD c 0) (b := k) (A := 20) (B := 100) (by omega) (by omega) (by omega) (by omega)
        rw [Int.mul_comm]
        omega
      have HST := Lib.hid hst
      clear hst hS hbd hlc
      generalize (M.getD ι []).getD c 0 = y at *
      go_wp2_with fail
      go_roundw
      case rel => exact ⟨c + 1, by omega, by go_num, HST.out⟩
      case measure => simp [intOf]; omega
    · obtain rfl : c = n := by omega
      have hM : M.set ι (scPart (M.getD ι []) k c) = scM M ι k := by rw [HNN.out]; exact scM_end M ι k
      rw [hM] at hS
      have hιq : ι < Q.length := by have := H3.out; omega
      have hoq := hS.fresh.right
      obtain ⟨_, _, hqe, _, _, hoq⟩ := hoq
      obtain ⟨rfl, rfl⟩ : _ ∧ _ := by simpa using hqe
      have hcq := own_cell hoq (j := ι) hιq
      have hfq := own_frozen hoq ι
      have hn1 := hS.c1
      have hn0 := hS.c0
      have hS2 := hS.setRight hne_q hBq ι (Q.getD ι 0 * k)
      rw [Int.mul_comm] at hS2
      have HS2 := Lib.hid hS2
      have hqm := HQM.out
      clear hS2 hS hoq hqe hM
      generalize hx : Q.getD ι 0 = x at *
      go_wp2_with fail
      go_region
      obtain ⟨W3, hW3⟩ : ∃ W3, W3 = wr.setCell ⟨gq, ι, none⟩ (.int .i64 (k * x)) := ⟨_, rfl⟩
      rw [← hW3] at HS2 ⊢
      clear hW3 hcq hfq hn0 hn1
      have hS := HS2.out
      obtain ⟨hi1, hi2⟩ := sc_i64 hP.out hι hk1 hk2
      have hQx : Q.set ι (k * x) = scQ Q ι k := by rw [← hx, Int.mul_comm]; rfl
      rw [hQx] at hS
      obtain ⟨hrd1, hrd2⟩ := hS.fresh.reads hi1 hi2
      have hn0 := hS.c0
      have hn1 := hS.c1
      have hr0 := hS.r0
      have hr1 := hS.r1
      have hrf := hS.rf
      have hzr1 := hS.lt
      have hzr0 : w.heap.size < W3.heap.size := by omega
      have hzN : w2.heap.size < W3.heap.size := World.block_lt_of_cell? W3 _ hn0
      have HS := Lib.hid hS
      have HR1 := Lib.hid hrd1
      have HR2 := Lib.hid hrd2
      clear hS hi1 hi2 hrd1 hrd2 hQx HS2
      cases hib : isPB (scM M ι k) (scQ Q ι k)
      case false =>
        have ho : o = ([], [], 3) := by rw [← HO.out, if_pos hib]
        subst ho
        have HIB := Lib.hid hib
        clear hib
        go_wp2_with fail
        refine (l01Is_any _ _ (scM M ι k) (scQ Q ι k) _ (HR1.out.below (by (repeat' (first | (with_reducible exact Below.refl _ _) | (with_reducible assumption) | (with_reducible refine Below.alloc ?_ ?_ _) | (with_reducible refine Below.drew ?_) | (with_reducible refine below_drewN ?_ _) | (with_reducible refine Below.setCell ?_ ?_ _) | (with_reducible refine Below.trans ?_ (Below.mono (by with_reducible assumption) ?_)) | (with_reducible exact Below.size (by with_reducible assumption)) | go_size)))) (HR2.out.below (by (repeat' (first | (with_reducible exact Below.refl _ _) | (with_reducible assumption) | (with_reducible refine Below.alloc ?_ ?_ _) | (with_reducible refine Below.drew ?_) | (with_reducible refine below_drewN ?_ _) | (with_reducible refine Below.setCell ?_ ?_ _) | (with_reducible refine Below.trans ?_ (Below.mono (by with_reducible assumption) ?_)) | (with_reducible exact Below.size (by with_reducible assumption)) | go_size))))).mono ?_; rw [HIB.out]; rintro e w4 ⟨rfl, hb4⟩
        have hb5 : Below W3.heap.size W3 w4 := by (repeat' (first | (with_reducible exact Below.refl _ _) | (with_reducible assumption) | (with_reducible refine Below.alloc ?_ ?_ _) | (with_reducible refine Below.drew ?_) | (with_reducible refine below_drewN ?_ _) | (with_reducible refine Below.setCell ?_ ?_ _) | (with_reducible refine Below.trans ?_ (Below.mono (by with_reducible assumption) ?_)) | (with_reducible exact Below.size (by with_reducible assumption)) | go_size))
        clear hb4
        obtain ⟨hc_hb5, hf_hb5⟩ := bcell hb5; obtain ⟨hcA_hb5, hfA_hb5⟩ := bcellG (W0 := W3) hb5 (by (repeat' (first | (with_reducible exact Below.refl _ _) | (with_reducible assumption) | (with_reducible refine Below.alloc ?_ ?_ _) | (with_reducible refine Below.drew ?_) | (with_reducible refine below_drewN ?_ _) | (with_reducible refine Below.setCell ?_ ?_ _) | (with_reducible refine Below.trans ?_ (Below.mono (by with_reducible assumption) ?_)) | (with_reducible exact Below.size (by with_reducible assumption)) | go_size))); have hz_hb5 := hb5.size; (try simp at hz_hb5); (try simp only [Nat.add_one_le_iff] at hz_hb5)
        go_wp2_with fail
        refine bodyPost_ret (v := .tuple #[.agg #[.slice none 0 0, .slice none 0 0], .int .i64 3]) (by simp [*, results, Try.results16, go_sem]) rfl ?_
        have hbb : Below w.heap.size w w4 := HS.out.below.trans (hb5.mono (by omega))
        exact ⟨_, _, [], rfl, ownP_nil _ _, (hbb.setCell (by simp) _).setCell (by simp) _⟩
      case true =>
        have ho : o = (scM M ι k, scQ Q ι k, 0) := by rw [← HO.out, if_neg (by rw [hib]; exact Bool.noConfusion)]
        subst ho
        have HIB := Lib.hid hib
        clear hib
        go_wp2_with fail
        refine (l01Is_any _ _ (scM M ι k) (scQ Q ι k) _ (HR1.out.below (by (repeat' (first | (with_reducible exact Below.refl _ _) | (with_reducible assumption) | (with_reducible refine Below.alloc ?_ ?_ _) | (with_reducible refine Below.drew ?_) | (with_reducible refine below_drewN ?_ _) | (with_reducible refine Below.setCell ?_ ?_ _) | (with_reducible refine Below.trans ?_ (Below.mono (by with_reducible assumption) ?_)) | (with_reducible exact Below.size (by with_reducible assumption)) | go_size)))) (HR2.out.below (by (repeat' (first | (with_reducible exact Below.refl _ _) | (with_reducible assumption) | (with_reducible refine Below.alloc ?_ ?_ _) | (with_reducible refine Below.drew ?_) | (with_reducible refine below_drewN ?_ _) | (with_reducible refine Below.setCell ?_ ?_ _) | (with_reducible refine Below.trans ?_ (Below.mono (by with_reducible assumption) ?_)) | (with_reducible exact Below.size (by with_reducible assumption)) | go_size))))).mono ?_; rw [HIB.out]; rintro e w4 ⟨rfl, hb4⟩
        have hb5 : Below W3.heap.size W3 w4 := by (repeat' (first | (with_reducible exact Below.refl _ _) | (with_reducible assumption) | (with_reducible refine Below.alloc ?_ ?_ _) | (with_reducible refine Below.drew ?_) | (with_reducible refine below_drewN ?_ _) | (with_reducible refine Below.setCell ?_ ?_ _) | (with_reducible refine Below.trans ?_ (Below.mono (by with_reducible assumption) ?_)) | (with_reducible exact Below.size (by with_reducible assumption)) | go_size))
        clear hb4
        obtain ⟨hc_hb5, hf_hb5⟩ := bcell hb5; obtain ⟨hcA_hb5, hfA_hb5⟩ := bcellG (W0 := W3) hb5 (by (repeat' (first | (with_reducible exact Below.refl _ _) | (with_reducible assumption) | (with_reducible refine Below.alloc ?_ ?_ _) | (with_reducible refine Below.drew ?_) | (with_reducible refine below_drewN ?_ _) | (with_reducible refine Below.setCell ?_ ?_ _) | (with_reducible refine Below.trans ?_ (Below.mono (by with_reducible assumption) ?_)) | (with_reducible exact Below.size (by with_reducible assumption)) | go_size))); have hz_hb5 := hb5.size; (try simp at hz_hb5); (try simp only [Nat.add_one_le_iff] at hz_hb5)
        go_wp2_with fail
        refine bodyPost_ret (v := .tuple #[.agg #[.slice (some ⟨gm, 0, none⟩) M.length cm, .slice (some ⟨gq, 0, none⟩) Q.length cq], .int .i64 0]) (by simp [*, results, Try.results16, go_sem]) rfl ?_
        have hbb : Below w.heap.size w w4 := HS.out.below.trans (hb5.mono (by omega))
        have hfr := ((HS.out.fresh.below hb5).tch (bs := [w.heap.size + 1]) (((Tch.refl _ w4).setCell (p := ⟨w.heap.size + 1, 0, none⟩) (by simp) (.slice (some ⟨gm, 0, none⟩) M.length cm)).setCell (p := ⟨w.heap.size + 1, 1, none⟩) (by simp) (.slice (some ⟨gq, 0, none⟩) Q.length cq)) (fun b hb => by simp at hb; omega)).mono (C := w.heap.size) (by omega)
        exact ⟨_, _, us, rfl, hfr.ownP, (hbb.setCell (by simp) _).setCell (by simp) _⟩
end Go.Proofs.Ytgncaploccbfnaa.PW
namespace Go.Proofs.Ytgncaploccbfnaa.PW
open Go.RowKit Go.Proofs.Ytgncaploccbfnaa
open Go.Proofs.Ytgncaploccbfnaa.PM

/-- Of the old blocks only those from lo on below hi may have changed. -/
structure Bet (lo hi : Nat) (w w' : World) : Prop where
  os : w'.os = w.os
  tape : w'.tape = w.tape
  output : w'.output = w.output
  size : w.heap.size ≤ w'.heap.size
  block : ∀ k, k < w.heap.size → (k < lo ∨ hi ≤ k) → w'.heap[k]? = w.heap[k]?

theorem Bet.below {lo hi : Nat} {w w' : World} (h : Bet lo hi w w') (hl : lo ≤ w.heap.size) : Below lo w w' := ⟨h.os, h.tape, h.output, h.size, fun k hk => h.block k (by omega) (.inl hk)⟩
theorem Bet.of_below {lo hi : Nat} {w w' : World} (h : Below w.heap.size w w') : Bet lo hi w w' := ⟨h.os, h.tape, h.output, h.size, fun k hk _ => h.block k hk⟩
theorem Bet.of_tch {lo hi : Nat} {bs : List Nat} {w w' : World} (h : Tch bs w w') (hb : ∀ b, b ∈ bs → lo ≤ b ∧ b < hi) : Bet lo hi w w' :=
  ⟨h.os, h.tape, h.output, Nat.le_of_eq h.size.symm, fun k _ hr => h.block k (fun c => by have := hb k c; omega)⟩
theorem Bet.trans {lo hi : Nat} {a b c : World} (h : Bet lo hi a b) (k : Bet lo hi b c) : Bet lo hi a c :=
  ⟨k.os.trans h.os, k.tape.trans h.tape, k.output.trans h.output, Nat.le_trans h.size k.size, fun i hi' hr => (k.block i (Nat.lt_of_lt_of_le hi' h.size) hr).trans (h.block i hi' hr)⟩
theorem Bet.cell {lo hi : Nat} {w w' : World} (h : Bet lo hi w w') {p : Addr} (hp : p.block < w.heap.size) (hr : p.block < lo ∨ hi ≤ p.block) : w'.cell? p = w.cell? p := World.cell?_of_block (w := w) (h.block p.block hp hr)
theorem Bet.frozen {lo hi : Nat} {w w' : World} (h : Bet lo hi w w') {p : Addr} (hp : p.block < w.heap.size) (hr : p.block < lo ∨ hi ≤ p.block) : w'.frozen? p = w.frozen? p := World.frozen?_of_block (w := w) (h.block p.block hp hr)

theorem row_bet {w w' : World} {B T n lo hi : Nat} {v : Value} {xs : List Value} (h : w.ownsRow B T 1 v n xs) (ht : Bet lo hi w w') (hd : ∀ b, v.ownBlock = some b → b < lo ∨ hi ≤ b) : w'.ownsRow B T 1 v n xs := by
  have hl := h.lt
  refine ⟨h.1, ?_⟩
  rcases h.2 with h2 | ⟨g, cap, cur, hv, hb, hg, r⟩
  · exact .inl h2
  · have e : v.ownBlock = some g := by rw [hv]; rfl
    exact .inr ⟨g, cap, cur, hv, hb, by rw [ht.block g (hl g e).2 (hd g e)]; exact hg, r⟩

/-- A problem in memory of its own, all in blocks from lo on below hi. -/
structure RngP (lo hi : Nat) (w : World) (m q : Value) (M : List (List Int)) (Q : List Int) (us : List Value) : Prop where
  rows : OwnR w m M us
  right : OwnI w q Q
  mb : ∀ b, m.ownBlock = some b → lo ≤ b ∧ b < hi
  qb : ∀ b, q.ownBlock = some b → lo ≤ b ∧ b < hi
  ub : ∀ i b, i < M.length → (us.getD i undef).ownBlock = some b → lo ≤ b ∧ b < hi
  apart : ∀ b, q.ownBlock = some b → m.ownBlock ≠ some b ∧ ∀ i, i < M.length → (us.getD i undef).ownBlock ≠ some b

theorem OwnP.rng {B hi : Nat} {w : World} {m q : Value} {M : List (List Int)} {Q : List Int} {us : List Value} (h : OwnP B w m q M Q us) (hh : w.heap.size ≤ hi) : RngP B hi w m q M Q us :=
  ⟨h.rows, h.right, fun b hb => ⟨(h.mb b hb).1, Nat.lt_of_lt_of_le (h.mb b hb).2 hh⟩, fun b hb => ⟨(h.qb b hb).1, Nat.lt_of_lt_of_le (h.qb b hb).2 hh⟩, fun i b hi hb => ⟨(h.ub i b hi hb).1, Nat.lt_of_lt_of_le (h.ub i b hi hb).2 hh⟩, h.apart⟩
theorem RngP.bet {lo hi lo' hi' : Nat} {w w' : World} {m q : Value} {M : List (List Int)} {Q : List Int} {us : List Value} (h : RngP lo hi w m q M Q us) (ht : Bet lo' hi' w w') (hd : hi ≤ lo' ∨ hi' ≤ lo) : RngP lo hi w' m q M Q us := by
  obtain ⟨⟨h1, h2, h3, h4, h5⟩, hr, hm, hq, hu, ha⟩ := h
  exact ⟨⟨h1, row_bet h2 ht (fun b hb => by have := hm b hb; omega), fun i hi => row_bet (h3 i hi) ht (fun b hb => by have := hu i b hi hb; omega), h4, h5⟩, row_bet hr ht (fun b hb => by have := hq b hb; omega), hm, hq, hu, ha⟩
theorem RngP.below {lo hi B : Nat} {w w' : World} {m q : Value} {M : List (List Int)} {Q : List Int} {us : List Value} (h : RngP lo hi w m q M Q us) (ht : Below B w w') (hd : hi ≤ B) : RngP lo hi w' m q M Q us :=
  h.bet (lo' := B) (hi' := w.heap.size + B) ⟨ht.os, ht.tape, ht.output, ht.size, fun k _ hr => by
    rcases hr with hr | hr
    · exact ht.block k hr
    · omega⟩ (.inl hd)
theorem RngP.reads {lo hi : Nat} {w : World} {m q : Value} {M : List (List Int)} {Q : List Int} {us : List Value} (h : RngP lo hi w m q M Q us) (hM : ∀ i, i < M.length → ∀ x ∈ M.getD i [], I64 x) (hQ : ∀ x ∈ Q, I64 x) : PM.Rows w m M ∧ Ints w q Q :=
  ⟨h.rows.rows' hM, h.right.ints hQ⟩

theorem marks_i64 {k : Int} {n : Nat} (h0 : 0 ≤ k) (h1 : k + n ≤ 4611686018427387904) : ∀ x ∈ marks k n, I64 x := by
  intro x hx
  simp only [marks, List.mem_map, List.mem_range] at hx
  obtain ⟨i, hi, rfl⟩ := hx
  show -9223372036854775808 ≤ _ ∧ _ ≤ 9223372036854775807
  omega
theorem marksR_i64 {k : Int} {M : List (List Int)} (h0 : 0 ≤ k) (h1 : k + tot M ≤ 4611686018427387904) : ∀ i, i < (marksR k M).length → ∀ x ∈ (marksR k M).getD i [], I64 x := by
  intro i hi
  rw [marksR_length] at hi
  rw [marksR_getD _ _ _ hi]
  refine marks_i64 (by omega) ?_
  have a1 := pre_succ M i hi
  have a2 := pre_le M (i + 1)
  unfold tot at h1
  omega

theorem markProblem_any (lo hi : Nat) (m q : Value) (M : List (List Int)) (Q : List Int) (us : List Value) (k : Int) (w : World) (h : RngP lo hi w m q M Q us) (hhi : hi ≤ w.heap.size) (h0 : 0 ≤ k) (h1 : k + tot M + Q.length ≤ 4611686018427387904) :
    Calls Try.prog 20 #[.agg #[m, q], .int .i64 k] w fun e w' => e = .returned (.int .i64 (k + pre M M.length + Q.length)) ∧ RngP lo hi w' m q (marksR k M) (marks (k + pre M M.length) Q.length) us ∧ Bet lo hi w w' := by
  obtain ⟨a1, c1, rfl⟩ : ∃ a cap, m = .slice a M.length cap := by
    rcases h.rows.top.2 with ⟨rfl, hn⟩ | ⟨g, cap, cur, rfl, _⟩
    · exact ⟨none, 0, by rw [hn]⟩
    · exact ⟨_, cap, rfl⟩
  obtain ⟨a2, c2, rfl⟩ := OwnI.shape h.right
  have hpt : (pre M M.length : Int) ≤ tot M := by
    have := pre_le M M.length
    unfold tot
    omega
  have hA : Bet lo hi w (w.alloc (.cells #[.slice a1 M.length c1, .slice a2 Q.length c2] 27)) := .of_below ((Below.refl _ _).alloc (Nat.le_refl _) _)
  have hA' : Below w.heap.size w (w.alloc (.cells #[.slice a1 M.length c1, .slice a2 Q.length c2] 27)) := (Below.refl _ _).alloc (Nat.le_refl _) _
  have hR := h.below hA' hhi
  have HR := Lib.hid hR
  have H := Lib.hid h
  have HP := Lib.hid hpt
  have HB := Lib.hid h1
  have hul : us.length = M.length := h.rows.len
  clear hR h hpt h1 hA'
  have c0 := markInt64SS_any _ M us k _ HR.out.rows h0 (by have := HB.out; omega)
  generalize pre M M.length = pM at *
  have C0 := Lib.hid c0
  clear c0
  go_enter Try.func20, Try.ntmps20
  go_wp2_with fail
  refine C0.out.mono ?_
  rintro e w1 ⟨rfl, hown, ht⟩
  have htb : ∀ b, b ∈ rblks us → lo ≤ b ∧ b < hi := fun b hb => by
    obtain ⟨i, hi', hb'⟩ := of_mem_rblks hb
    exact HR.out.ub i b (by omega) hb'
  have hc1 : ∀ o, w1.cell? ⟨w.heap.size, o, none⟩ = (w.alloc (.cells #[.slice a1 M.length c1, .slice a2 Q.length c2] 27)).cell? ⟨w.heap.size, o, none⟩ := fun o => (Bet.of_tch ht htb).cell (p := ⟨w.heap.size, o, none⟩) (by simp) (.inr hhi)
  have hq1 : OwnI w1 (.slice a2 Q.length c2) Q := HR.out.right.tch ht (fun b hb c => by
    obtain ⟨i, hi', hb'⟩ := of_mem_rblks c
    exact (HR.out.apart b hb).2 i (by omega) hb')
  have hbt := Bet.of_tch ht htb
  have HO := Lib.hid hown
  have HBT := Lib.hid hbt
  clear hown hbt ht htb
  have hpb : 0 ≤ k + (pM : Int) ∧ k + (pM : Int) ≤ 4611686018427387904 := by have := HB.out; have := HP.out; omega
  have HQ1 := Lib.hid hq1
  clear hq1
  go_wp2_with fail
  refine (markInt64S_any _ Q (k + pM) _ HQ1.out hpb.1 (by have := HB.out; have := HP.out; omega)).mono ?_
  rintro e w2 ⟨rfl, hown2, ht2⟩
  go_wp2_with fail
  go_ret
  have hqb : ∀ b, b ∈ blks (.slice a2 Q.length c2) → (Value.slice a2 Q.length c2).ownBlock = some b := fun b hb => by
    unfold blks at hb
    exact Option.mem_toList.1 hb
  have hbt2 : Bet lo hi w1 w2 := Bet.of_tch ht2 (fun b hb => HR.out.qb b (hqb b hb))
  have hO := HO.out
  obtain ⟨o1, o2, o3, o4, o5⟩ := hO
  have hml := marksR_length k M
  refine ⟨rfl, ⟨⟨o1, own_touch o2 ht2 (fun b hb c => (HR.out.apart b (hqb b c)).1 hb), fun i hi' => (o3 i hi').tch ht2 (fun b hb c => (HR.out.apart b (hqb b c)).2 i (by omega) hb), o4, o5⟩, ?_, HR.out.mb, HR.out.qb, fun i b hi' hb => HR.out.ub i b (by omega) hb, fun b hb => ⟨(HR.out.apart b hb).1, fun i hi' => (HR.out.apart b hb).2 i (by omega)⟩⟩, (hA.trans HBT.out).trans hbt2⟩
  have e : (marks (k + (pM : Int)) Q.length).length = Q.length := marks_length _ _
  unfold OwnI at hown2 ⊢
  rw [e] at hown2 ⊢
  exact hown2

theorem heldProblem_any (m q : Value) (M : List (List Int)) (n : Nat) (k : Int) (w : World) (h1 : PM.Rows w m (marksR k M)) (h2 : Ints w q (marks (k + pre M M.length) n)) (h0 : 0 ≤ k) (hb : k + tot M + n ≤ 4611686018427387904) :
    Calls Try.prog 21 #[.agg #[m, q], .int .i64 k] w fun e w' => e = .returned (.int .i64 (k + pre M M.length + n)) ∧ Below w.heap.size w w' := by
  have hpt : (pre M M.length : Int) ≤ tot M := by
    have := pre_le M M.length
    unfold tot
    omega
  have hA' : ∀ o, Below w.heap.size w (w.alloc o) := fun o => (Below.refl _ _).alloc (Nat.le_refl _) _
  have g1 := fun o => h1.below (hA' o)
  have g2 := fun o => h2.below (hA' o)
  obtain ⟨a1, c1, rfl, _⟩ := h1
  obtain ⟨a2, c2, rfl, _⟩ := h2
  have G1 := Lib.hid g1
  have G2 := Lib.hid g2
  have HP := Lib.hid hpt
  have HB := Lib.hid hb
  clear g1 g2 hpt hb hA'
  have c0 := fun o => heldInt64SS_any _ M k _ (G1.out o) h0 (by have := HB.out; omega)
  generalize pre M M.length = pM at *
  have C0 := Lib.hid c0
  clear c0
  go_enter Try.func21, Try.ntmps21
  go_wp2_with fail
  refine (C0.out _).mono ?_
  rintro e w1 ⟨rfl, rfl⟩
  have hpb : 0 ≤ k + (pM : Int) ∧ k + (pM : Int) ≤ 4611686018427387904 := by have := HB.out; have := HP.out; omega
  go_wp2_with fail
  refine (heldInt64S_any _ n (k + pM) _ (G2.out _) hpb.1 (by have := HB.out; have := HP.out; omega)).mono ?_
  rintro e w1 ⟨rfl, rfl⟩
  have hpb2 : 0 ≤ k + (pM : Int) + n ∧ k + (pM : Int) + n ≤ 4611686018427387904 := by have := HB.out; have := HP.out; omega
  go_wp2_with fail
  go_ret
  refine ⟨rfl, ?_⟩
  (repeat' (first | (with_reducible exact Below.refl _ _) | (with_reducible assumption) | (with_reducible refine Below.alloc ?_ ?_ _) | (with_reducible refine Below.drew ?_) | (with_reducible refine below_drewN ?_ _) | (with_reducible refine Below.setCell ?_ ?_ _) | (with_reducible refine Below.trans ?_ (Below.mono (by with_reducible assumption) ?_)) | (with_reducible exact Below.size (by with_reducible assumption)) | go_size))
end Go.Proofs.Ytgncaploccbfnaa.PW
namespace Go.Proofs.Ytgncaploccbfnaa.PW
open Go.RowKit Go.Proofs.Ytgncaploccbfnaa
open Go.Proofs.Ytgncaploccbfnaa.PM

theorem rows_I64 {w : World} {v : Value} {M : List (List Int)} (h : PM.Rows w v M) : ∀ j, j < M.length → ∀ x ∈ M.getD j [], I64 x := by
  intro j hj
  obtain ⟨a, cap, _, _, _, hx⟩ := h
  rcases hx with rfl | ⟨b, off, _, _, hc⟩
  · simp at hj
  · obtain ⟨u, _, ra, rc, _, _, _, hI, _⟩ := hc j hj
    exact hI
theorem ints_I64 {w : World} {v : Value} {Q : List Int} (h : Ints w v Q) : ∀ x ∈ Q, I64 x := by
  obtain ⟨a, cap, _, _, _, hI, _⟩ := h
  exact hI

theorem szP_fits {M : List (List Int)} {Q : List Int} (h : ¬ szP M Q 1048576 < 0) : tot M ≤ 1048576 ∧ Q.length ≤ 1048576 := by
  unfold szP at h
  split at h
  · omega
  · omega
theorem szP_neg {M : List (List Int)} {Q : List Int} (h : szP M Q 1048576 < 0) : szP M Q 1048576 = -1 := by
  unfold szP at h ⊢
  split at h
  · omega
  · rename_i hc; rw [if_neg hc]
theorem szP_le (M : List (List Int)) (Q : List Int) : szP M Q 1048576 ≤ 1048576 := by
  unfold szP; split <;> omega

end Go.Proofs.Ytgncaploccbfnaa.PW
namespace Go.Proofs.Ytgncaploccbfnaa.PW
open Go.RowKit Go.Proofs.Ytgncaploccbfnaa
open Go.Proofs.Ytgncaploccbfnaa.PM

theorem Bet.mono {lo hi lo' hi' : Nat} {w w' : World} (h : Bet lo hi w w') (hl : lo' ≤ lo) (hh : hi ≤ hi') : Bet lo' hi' w w' := ⟨h.os, h.tape, h.output, h.size, fun k hk hr => h.block k hk (by omega)⟩

theorem toProblem_out (m q : Value) (M : List (List Int)) (Q : List Int) (w : World) (h1 : PM.Rows w m M) (h2 : Ints w q Q) (hn : tot M ≤ 1048576) (hn2 : Q.length ≤ 1048576) :
    Calls Try.prog 17 #[.agg #[m, q]] w fun e w' => ∃ g h us, e = .returned (.agg #[.slice (some ⟨g, 0, none⟩) M.length M.length, .slice (some ⟨h, 0, none⟩) Q.length Q.length]) ∧
      RngP w.heap.size w'.heap.size w' (.slice (some ⟨g, 0, none⟩) M.length M.length) (.slice (some ⟨h, 0, none⟩) Q.length Q.length) M Q us ∧ Below w.heap.size w w' := by
  refine (toProblem_any m q M Q w h1 h2 hn hn2).mono ?_
  rintro e w' ⟨g, h, rfl, hg, hh, ht, hr, hq, hb⟩
  have hml : M.length ≤ maxLen := by unfold tot at hn; unfold maxLen; omega
  have hrl : ∀ i, i < M.length → (M.getD i []).length ≤ maxLen := fun i hi => by
    have a1 := pre_succ M i hi
    have a2 := pre_le M (i + 1)
    unfold tot at hn
    unfold maxLen
    omega
  have hus : ∀ i, i < M.length → ((List.range M.length).map (partR g M M.length)).getD i undef = .slice (some ⟨g + 1 + i, 0, none⟩) (M.getD i []).length (M.getD i []).length := fun i hi => by
    have : partR g M M.length i = .slice (some ⟨g + 1 + i, 0, none⟩) (M.getD i []).length (M.getD i []).length := by unfold partR; rw [if_pos hi]
    rw [← this]
    simp [hi]
  have hltg := ht.lt
  have hltq := hq.lt
  refine ⟨g, h, (List.range M.length).map (partR g M M.length), rfl, ⟨⟨by simp, ?_, fun i hi => ?_, fun i j b hi hj h1 h2 => ?_, fun i b hi h1 h2 => ?_⟩, hq.own (by unfold maxLen; omega), fun b hb' => ?_, fun b hb' => ?_, fun i b hi hb' => ?_, fun b hb' => ⟨fun c => ?_, fun i hi c => ?_⟩⟩, hb⟩
  · obtain ⟨c, hb, hn, hc⟩ := ht
    refine ⟨by simp, .inr ⟨g, M.length, c, rfl, Nat.zero_le _, hb, Nat.le_refl _, hml, by simpa using hn, ?_⟩⟩
    rw [Nat.mul_one, List.take_of_length_le (by simp [hn])]
    apply List.ext_getElem?
    intro i
    by_cases hi : i < M.length
    · have := hc i hi
      rw [Array.getElem?_toList, this]
      simp [hi]
    · rw [List.getElem?_eq_none (by simp [hn]; omega), List.getElem?_eq_none (by simp; omega)]
  · rw [hus i hi]
    exact (hr i hi).own (hrl i hi)
  · rw [hus i hi] at h1
    rw [hus j hj] at h2
    simp [Value.ownBlock] at h1 h2
    omega
  · rw [hus i hi] at h2
    simp [Value.ownBlock] at h1 h2
    omega
  · simp [Value.ownBlock] at hb'
    omega
  · simp [Value.ownBlock] at hb'
    omega
  · rw [hus i hi] at hb'
    have := (hr i hi).lt
    simp [Value.ownBlock] at hb'
    omega
  · simp [Value.ownBlock] at hb' c
    omega
  · rw [hus i hi] at c
    simp [Value.ownBlock] at hb' c
    omega

theorem OutP.out {w w' : World} {o : List (List Int) × List Int × Int} {e : Ending} (h : OutP w o e w') :
    ∃ a c b d us, e = .returned (.tuple #[.agg #[.slice a o.1.length c, .slice b o.2.1.length d], .int .i64 o.2.2]) ∧ RngP w.heap.size w'.heap.size w' (.slice a o.1.length c) (.slice b o.2.1.length d) o.1 o.2.1 us ∧ Below w.heap.size w w' := by
  obtain ⟨m, q, us, rfl, ho, hb⟩ := h
  obtain ⟨a1, c1, rfl⟩ : ∃ a cap, m = .slice a o.1.length cap := by
    rcases ho.rows.top.2 with ⟨rfl, hn⟩ | ⟨g, cap, cur, rfl, _⟩
    · exact ⟨none, 0, by rw [hn]⟩
    · exact ⟨_, cap, rfl⟩
  obtain ⟨a2, c2, rfl⟩ := OwnI.shape ho.right
  exact ⟨a1, c1, a2, c2, us, rfl, ho.rng (Nat.le_refl _), hb⟩

/-- What stands of a result of such a function. -/
structure Fine (o : List (List Int) × List Int × Int) : Prop where
  m64 : ∀ j, j < o.1.length → ∀ x ∈ o.1.getD j [], I64 x
  q64 : ∀ x ∈ o.2.1, I64 x
  tot : tot o.1 ≤ 1048576
  len : o.2.1.length ≤ 1048576
theorem fine_nil (c : Int) : Fine ([], [], c) := ⟨fun j hj => absurd hj (Nat.not_lt_zero _), fun x hx => (List.not_mem_nil hx).elim, (show PM.tot [] ≤ 1048576 by unfold PM.tot; simp), (show ([] : List Int).length ≤ 1048576 by simp)⟩
theorem fine_of_isPB {M : List (List Int)} {Q : List Int} (c : Int) (h : isPB M Q = true) : Fine (M, Q, c) := by
  obtain ⟨f1, f2, f3, f4, f5⟩ := isPB_facts h
  refine ⟨fun j hj x hx => ?_, fun x hx => ?_, tot_small h, by show Q.length ≤ _; omega⟩
  · obtain ⟨i, hi, rfl⟩ := getD_of_mem hx
    have hb := (f4 j hj).2 i (by rw [← (f4 j hj).1]; exact hi)
    show -9223372036854775808 ≤ (M.getD j []).getD i 0 ∧ (M.getD j []).getD i 0 ≤ 9223372036854775807
    omega
  · obtain ⟨i, hi, rfl⟩ := getD_of_mem hx
    have hb := f5 i hi
    show -9223372036854775808 ≤ Q.getD i 0 ∧ Q.getD i 0 ≤ 9223372036854775807
    omega
theorem fine_scale (M : List (List Int)) (Q : List Int) (i k : Int) : Fine (scaleOut M Q i k) := by
  unfold scaleOut
  split
  · exact fine_nil _
  · split
    · exact fine_nil _
    · split
      · exact fine_nil _
      · rename_i h
        exact fine_of_isPB _ (by simpa using h)

/-- The law's variables: the argument, the model's answer, the program's answer. -/
structure Vs (W : World) (P V0 V2 : Nat) (p0 p1 a0 a1 g0 g1 : Value) : Prop where
  cp0 : W.cell? ⟨P, 0, none⟩ = some p0
  cp1 : W.cell? ⟨P, 1, none⟩ = some p1
  ca0 : W.cell? ⟨V0, 0, none⟩ = some a0
  ca1 : W.cell? ⟨V0, 1, none⟩ = some a1
  cg0 : W.cell? ⟨V2, 0, none⟩ = some g0
  cg1 : W.cell? ⟨V2, 1, none⟩ = some g1
  lP : P < W.heap.size
  lA : V0 < W.heap.size
  lG : V2 < W.heap.size
theorem Vs.bet {W w' : World} {P V0 V2 lo hi : Nat} {p0 p1 a0 a1 g0 g1 : Value} (h : Vs W P V0 V2 p0 p1 a0 a1 g0 g1) (ht : Bet lo hi W w') (hP : P < lo ∨ hi ≤ P) (hA : V0 < lo ∨ hi ≤ V0) (hG : V2 < lo ∨ hi ≤ V2) : Vs w' P V0 V2 p0 p1 a0 a1 g0 g1 := by
  obtain ⟨h1, h2, h3, h4, h5, h6, l1, l2, l3⟩ := h
  have hz := ht.size
  exact ⟨(ht.cell (p := ⟨P, 0, none⟩) l1 hP).trans h1, (ht.cell (p := ⟨P, 1, none⟩) l1 hP).trans h2, (ht.cell (p := ⟨V0, 0, none⟩) l2 hA).trans h3, (ht.cell (p := ⟨V0, 1, none⟩) l2 hA).trans h4, (ht.cell (p := ⟨V2, 0, none⟩) l3 hG).trans h5, (ht.cell (p := ⟨V2, 1, none⟩) l3 hG).trans h6, by omega, by omega, by omega⟩
theorem Vs.next {W w' : World} {P V0 V2 : Nat} {p0 p1 a0 a1 g0 g1 : Value} (h : Vs W P V0 V2 p0 p1 a0 a1 g0 g1) (ht : Below W.heap.size W w') : Vs w' P V0 V2 p0 p1 a0 a1 g0 g1 :=
  h.bet (lo := W.heap.size) (hi := W.heap.size) (.of_below ht) (.inl h.lP) (.inl h.lA) (.inl h.lG)
end Go.Proofs.Ytgncaploccbfnaa.PW
