/-
  Walks: a row of a problem scaled, in the program: the main case.
-/
import Derived.Test.YtkdgnegnndedaaaPWalkS
namespace Go.Proofs.Ytkdgnegnndedaaa.PW
open Go.RowKit Go.Proofs.Ytkdgnegnndedaaa
open Go.Proofs.Ytkdgnegnndedaaa.PM

theorem own_touch {w w' : World} {B T n : Nat} {bs : List Nat} {v : Value} {xs : List Value} (h : w.ownsRow B T 1 v n xs) (ht : Tch bs w w') (hd : ∀ b, v.ownBlock = some b → b ∉ bs) : w'.ownsRow B T 1 v n xs := by
  refine ⟨h.1, ?_⟩
  rcases h.2 with h2 | ⟨g, cap, cur, hv, hb, hg, r⟩
  · exact .inl h2
  · exact .inr ⟨g, cap, cur, hv, hb, by rw [ht.block g (hd g (by rw [hv]; rfl))]; exact hg, r⟩
theorem scM_zero (M : List (List Int)) (i : Nat) (k : Int) : M.set i (scPart (M.getD i []) k 0) = M := by
  rw [scPart_zero]
  apply List.ext_getElem?
  intro j
  by_cases e : i = j
  · subst e
    by_cases h : i < M.length
    · rw [List.getElem?_set_self h]; simp [h]
    · rw [List.getElem?_eq_none (by simp; omega), List.getElem?_eq_none (by omega)]
  · rw [List.getElem?_set_ne e]
theorem scM_end (M : List (List Int)) (i : Nat) (k : Int) : M.set i (scPart (M.getD i []) k (M.getD i []).length) = scM M i k := by rw [scPart_all]; rfl

theorem getD_of_mem {xs : List Int} {x : Int} (h : x ∈ xs) : ∃ j, j < xs.length ∧ xs.getD j 0 = x := by
  obtain ⟨j, hj, e⟩ := List.mem_iff_getElem.1 h
  exact ⟨j, hj, by simp [hj, e]⟩
theorem sc_i64 {M : List (List Int)} {Q : List Int} {i : Nat} {k : Int} (h : isPB M Q = true) (hi : i < M.length) (hk1 : 1 ≤ k) (hk2 : k ≤ 100) :
    (∀ j, j < (scM M i k).length → ∀ x ∈ (scM M i k).getD j [], I64 x) ∧ ∀ x ∈ scQ Q i k, I64 x := by
  obtain ⟨f1, f2, f3, f4, f5⟩ := isPB_facts h
  refine ⟨fun j hj x hx => ?_, fun x hx => ?_⟩
  · have hj' : j < M.length := by simpa [scM] using hj
    obtain ⟨e1, e2⟩ := f4 j hj'
    by_cases e : j = i
    · subst e
      rw [scM, getD_set_eq _ _ _ hj'] at hx
      obtain ⟨y, hy, rfl⟩ := List.mem_map.1 hx
      obtain ⟨c, hc, rfl⟩ := getD_of_mem hy
      have hb := e2 c (by omega)
      have := mul_bd (a := (M.getD j []).getD c 0) (b := k) (A := 20) (B := 100) (by omega) (by omega) (by omega) (by omega)
      show -9223372036854775808 ≤ (M.getD j []).getD c 0 * k ∧ (M.getD j []).getD c 0 * k ≤ 9223372036854775807
      omega
    · have e3 : (scM M i k).getD j [] = M.getD j [] := by
        simp only [scM, List.getD_eq_getElem?_getD]
        rw [List.getElem?_set_ne (fun c => e c.symm)]
      rw [e3] at hx
      obtain ⟨c, hc, rfl⟩ := getD_of_mem hx
      have hb := e2 c (by omega)
      show -9223372036854775808 ≤ _ ∧ _ ≤ 9223372036854775807
      omega
  · obtain ⟨c, hc, rfl⟩ := getD_of_mem hx
    have hc' : c < Q.length := by simpa [scQ] using hc
    by_cases e : c = i
    · subst e
      have e3 : (scQ Q c k).getD c 0 = Q.getD c 0 * k := by simp [scQ, hc']
      rw [e3]
      have hb := f5 c hc'
      have := mul_bd (a := Q.getD c 0) (b := k) (A := 100) (B := 100) (by omega) (by omega) (by omega) (by omega)
      show -9223372036854775808 ≤ Q.getD c 0 * k ∧ Q.getD c 0 * k ≤ 9223372036854775807
      omega
    · have e3 : (scQ Q i k).getD c 0 = Q.getD c 0 := by
        simp only [scQ, List.getD_eq_getElem?_getD]
        rw [List.getElem?_set_ne (fun c => e c.symm)]
      rw [e3]
      have hb := f5 c hc'
      show -9223372036854775808 ≤ _ ∧ _ ≤ 9223372036854775807
      omega

theorem implScaleRow_any (m q : Value) (M : List (List Int)) (Q : List Int) (i k : Int) (w : World) (h1 : PM.Rows w m M) (h2 : Ints w q Q) :
    Calls Try.prog 18 #[.agg #[m, q], .int .i64 i, .int .i64 k] w (OutP w (scaleOut M Q i k)) := by
  by_cases hp : isPB M Q = true
  case neg =>
    have hp' : isPB M Q = false := by simpa using hp
    have e : scaleOut M Q i k = ([], [], 1) := by unfold scaleOut; rw [if_pos hp']
    rw [e]
    exact scale_err1 m q M Q i k w h1 h2 hp'
  by_cases hrng : i < 0 ∨ (M.length : Int) ≤ i ∨ k < 1 ∨ 100 < k
  · have e : scaleOut M Q i k = ([], [], 2) := by unfold scaleOut; rw [if_neg (by simp [hp]), if_pos hrng]
    rw [e]
    exact scale_err2 m q M Q i k w h1 h2 hp hrng
  have g1 := fun (w' : World) (h : Below w.heap.size w w') => h1.below h
  have g2 := fun (w' : World) (h : Below w.heap.size w w') => h2.below h
  obtain ⟨a1, c1, rfl, _⟩ := h1
  obtain ⟨a2, c2, rfl, _⟩ := h2
  have hr1 : 0 ≤ i := by omega
  have hr2 : i < M.length := by omega
  have hk1 : 1 ≤ k := by omega
  have hk2 : k ≤ 100 := by omega
  obtain ⟨ι, rfl⟩ := Int.eq_ofNat_of_zero_le hr1
  have hι : ι < M.length := by omega
  have e0 : scaleOut M Q (ι : Int) k = if isPB (scM M ι k) (scQ Q ι k) = false then ([], [], 3) else (scM M ι k, scQ Q ι k, 0) := by
    unfold scaleOut; rw [if_neg (by simp [hp]), if_neg hrng, Int.toNat_natCast]
  rw [e0]
  clear e0 hrng
  generalize hoe : (if isPB (scM M ι k) (scQ Q ι k) = false then (([], [], 3) : List (List Int) × List Int × Int) else (scM M ι k, scQ Q ι k, 0)) = o
  have HO := Lib.hid hoe
  clear hoe
  obtain ⟨f1, f2, f3, f4, f5⟩ := isPB_facts hp
  have htot := tot_small hp
  have hP := Lib.hid hp
  have H4 := Lib.hid f4
  have H3 := Lib.hid f3
  have HT := Lib.hid htot
  have hqm : -10000 ≤ Q.getD ι 0 * k ∧ Q.getD ι 0 * k ≤ 10000 := by
    have hb := f5 ι (by omega)
    have := mul_bd (a := Q.getD ι 0) (b := k) (A := 100) (B := 100) (by omega) (by omega) (by omega) (by omega)
    omega
  have hne1 : M ≠ [] := by intro c; rw [c] at f1; simp at f1
  have hne2 : Q ≠ [] := by intro c; rw [c] at f3; simp at f3; omega
  have hne3 : ∀ j, j < M.length → M.getD j [] ≠ [] := fun j hj c => by have := (f4 j hj).1; rw [c] at this; simp at this; omega
  have hql : Q.length ≤ 1048576 := by omega
  have HQL := Lib.hid hql
  have HQM := Lib.hid hqm
  have N1 := Lib.hid hne1
  have N2 := Lib.hid hne2
  have N3 := Lib.hid hne3
  clear hp f4 htot f5 hne1 hne2 hne3 hql hqm f3
  go_enter Try.func18, Try.ntmps18
  go_wp2_with fail
  refine (implIsProblem_any _ _ M Q _ (g1 _ (by (repeat' (first | (with_reducible exact Below.refl _ _) | (with_reducible assumption) | (with_reducible refine Below.alloc ?_ ?_ _) | (with_reducible refine Below.drew ?_) | (with_reducible refine below_drewN ?_ _) | (with_reducible refine Below.setCell ?_ ?_ _) | (with_reducible refine Below.trans ?_ (Below.mono (by with_reducible assumption) ?_)) | (with_reducible exact Below.size (by with_reducible assumption)) | go_size)))) (g2 _ (by (repeat' (first | (with_reducible exact Below.refl _ _) | (with_reducible assumption) | (with_reducible refine Below.alloc ?_ ?_ _) | (with_reducible refine Below.drew ?_) | (with_reducible refine below_drewN ?_ _) | (with_reducible refine Below.setCell ?_ ?_ _) | (with_reducible refine Below.trans ?_ (Below.mono (by with_reducible assumption) ?_)) | (with_reducible exact Below.size (by with_reducible assumption)) | go_size))))).mono ?_; rw [hP.out]; rintro e w1 ⟨rfl, hb1⟩; obtain ⟨hc_hb1, hf_hb1⟩ := bcell hb1; obtain ⟨hcA_hb1, hfA_hb1⟩ := bcellG (W0 := w) hb1 (by (repeat' (first | (with_reducible exact Below.refl _ _) | (with_reducible assumption) | (with_reducible refine Below.alloc ?_ ?_ _) | (with_reducible refine Below.drew ?_) | (with_reducible refine below_drewN ?_ _) | (with_reducible refine Below.setCell ?_ ?_ _) | (with_reducible refine Below.trans ?_ (Below.mono (by with_reducible assumption) ?_)) | (with_reducible exact Below.size (by with_reducible assumption)) | go_size))); have hz_hb1 := hb1.size; (try simp at hz_hb1); (try simp only [Nat.add_one_le_iff] at hz_hb1); have hz0_hb1 : w.heap.size < w1.heap.size := (by omega); have hz1_hb1 : w.heap.size + 1 < w1.heap.size := (by omega)
  have hw1 : Below w.heap.size w w1 := by (repeat' (first | (with_reducible exact Below.refl _ _) | (with_reducible assumption) | (with_reducible refine Below.alloc ?_ ?_ _) | (with_reducible refine Below.drew ?_) | (with_reducible refine below_drewN ?_ _) | (with_reducible refine Below.setCell ?_ ?_ _) | (with_reducible refine Below.trans ?_ (Below.mono (by with_reducible assumption) ?_)) | (with_reducible exact Below.size (by with_reducible assumption)) | go_size))
  go_wp2_with fail
  refine (copyProblem_out _ _ M Q _ (g1 _ (by (repeat' (first | (with_reducible exact Below.refl _ _) | (with_reducible assumption) | (with_reducible refine Below.alloc ?_ ?_ _) | (with_reducible refine Below.drew ?_) | (with_reducible refine below_drewN ?_ _) | (with_reducible refine Below.setCell ?_ ?_ _) | (with_reducible refine Below.trans ?_ (Below.mono (by with_reducible assumption) ?_)) | (with_reducible exact Below.size (by with_reducible assumption)) | go_size)))) (g2 _ (by (repeat' (first | (with_reducible exact Below.refl _ _) | (with_reducible assumption) | (with_reducible refine Below.alloc ?_ ?_ _) | (with_reducible refine Below.drew ?_) | (with_reducible refine below_drewN ?_ _) | (with_reducible refine Below.setCell ?_ ?_ _) | (with_reducible refine Below.trans ?_ (Below.mono (by with_reducible assumption) ?_)) | (with_reducible exact Below.size (by with_reducible assumption)) | go_size)))) N1.out N3.out N2.out HT.out HQL.out).mono ?_
  rintro e w2 ⟨gm, cm, gq, cq, us, rfl, hgm1, hgm2, hgq1, hgq2, hgmq, hfp, hb2⟩
  obtain ⟨_, _, hqe, _, _, hoq⟩ := hfp.right
  obtain ⟨rfl, rfl⟩ : _ ∧ _ := by simpa using hqe
  have hcq := own_cell hoq (j := ι) (by have := H3.out; omega)
  have hfq := own_frozen hoq ι
  have hoR := hfp.rows.own.rows ι hι
  obtain ⟨gr, cr, hur⟩ := own_nonempty hoR (N3.out ι hι)
  have hgr := hfp.rows.rows ι gr hι (by rw [hur]; rfl)
  have htop := top_cell hfp.rows.own hι
  rw [hur] at htop
  obtain ⟨hc_hb2, hf_hb2⟩ := bcell hb2; obtain ⟨hcA_hb2, hfA_hb2⟩ := bcellG (W0 := w1) hb2 (by (repeat' (first | (with_reducible exact Below.refl _ _) | (with_reducible assumption) | (with_reducible refine Below.alloc ?_ ?_ _) | (with_reducible refine Below.drew ?_) | (with_reducible refine below_drewN ?_ _) | (with_reducible refine Below.setCell ?_ ?_ _) | (with_reducible refine Below.trans ?_ (Below.mono (by with_reducible assumption) ?_)) | (with_reducible exact Below.size (by with_reducible assumption)) | go_size))); have hz_hb2 := hb2.size; (try simp at hz_hb2); (try simp only [Nat.add_one_le_iff] at hz_hb2)
  have hz0_2 : w.heap.size < w2.heap.size := by omega
  have hz1_2 : w.heap.size + 1 < w2.heap.size := by omega
  have hne_q : ¬ gq = w2.heap.size := by omega
  have hne_m : ¬ gm = w2.heap.size := by omega
  have hne_r : ¬ gr = w2.heap.size := by omega
  have hne_mq : ¬ gm = gq := hgmq
  have hne_rq : ¬ gr = gq := fun c => (hfp.apart gq rfl).2 ι hι (by rw [hur, c]; rfl)
  have hbt : Below w.heap.size w w2 := hw1.trans (hb2.mono hw1.size)
  have hr0 : w2.cell? ⟨w.heap.size + 1, 0, none⟩ = some (.slice none 0 0) := by rw [hc_hb2 _ _ hz1_hb1, hc_hb1 _ _ (by simp)]; simp
  have hr1 : w2.cell? ⟨w.heap.size + 1, 1, none⟩ = some (.slice none 0 0) := by rw [hc_hb2 _ _ hz1_hb1, hc_hb1 _ _ (by simp)]; simp
  have hrf : ∀ o, w2.frozen? ⟨w.heap.size + 1, o, none⟩ = false := fun o => by rw [hf_hb2 _ _ hz1_hb1, hf_hb1 _ _ (by simp)]; simp
  have hS0 : Sc w ((w2.setCell ⟨gq, ι, none⟩ (.int .i64 (Q.getD ι 0 * k))).alloc (.cells #[.slice (some ⟨gm, 0, none⟩) M.length cm, .slice (some ⟨gq, 0, none⟩) Q.length cq] 27)) w1.heap.size w2.heap.size (.slice (some ⟨gm, 0, none⟩) M.length cm) (.slice (some ⟨gq, 0, none⟩) Q.length cq) (M.set ι (scPart (M.getD ι []) k 0)) (scQ Q ι k) us := by
    rw [scM_zero]
    have hne : ∀ o, (w2.setCell ⟨gq, ι, none⟩ (.int .i64 (Q.getD ι 0 * k))).cell? ⟨w.heap.size + 1, o, none⟩ = w2.cell? ⟨w.heap.size + 1, o, none⟩ := fun o => World.cell?_of_block (w := w2) (a := ⟨w.heap.size + 1, o, none⟩) (Below.heap_setCell _ _ _ _ (by show w.heap.size + 1 ≠ gq; omega))
    have hnf : ∀ o, (w2.setCell ⟨gq, ι, none⟩ (.int .i64 (Q.getD ι 0 * k))).frozen? ⟨w.heap.size + 1, o, none⟩ = w2.frozen? ⟨w.heap.size + 1, o, none⟩ := fun o => World.frozen?_of_block (w := w2) (a := ⟨w.heap.size + 1, o, none⟩) (Below.heap_setCell _ _ _ _ (by show w.heap.size + 1 ≠ gq; omega))
    have := Sc.start (w := w) (hfp.setRight ι (Q.getD ι 0 * k)) ((hne 0).trans hr0) ((hne 1).trans hr1) (fun o => (hnf o).trans (hrf o)) (by simpa using hz1_2) (hbt.setCell (by simp; omega) _)
    simpa [scQ] using this
  have HS0 := Lib.hid hS0
  have HU := Lib.hid hur
  clear hfp hoq hqe hoR hur hS0 hbt hr0 hr1 hrf
  have hqm := HQM.out
  generalize hx : Q.getD ι 0 = x at *
  obtain ⟨n, hn⟩ : ∃ n, n = (M.getD ι []).length := ⟨_, rfl⟩
  have hn5 : n ≤ 5 := by rw [hn, (H4.out ι hι).1]; omega
  rw [← hn] at htop
  have HNN := Lib.hid hn
  clear hn
  have hιq : ι < Q.length := by have := H3.out; omega
  have hB : w.heap.size + 1 < gr := by omega
  go_wp2_with fail
  go_loopw [9, 48] (fun _ i wr => ∃ (c : Nat), c ≤ n ∧ i = .int .i64 c ∧ Sc w wr w1.heap.size w2.heap.size (.slice (some ⟨gm, 0, none⟩) M.length cm) (.slice (some ⟨gq, 0, none⟩) Q.length cq) (M.set ι (scPart (M.getD ι []) k c)) (scQ Q ι k) us) (fun _ i _ => n - (intOf i).toNat)
  case atStart => exact ⟨0, Nat.zero_le _, rfl, HS0.out⟩
  case round =>
    obtain ⟨c, hc, rfl, hS⟩ := hrel
    by_cases hlt2 : c < n
    · have hlc : c < (M.getD ι []).length := by have := HNN.out; omega
      obtain ⟨hce, hfe⟩ := hS.cellRow hι hlc HU.out
      have hn0 := hS.c0
      have hlm : (M.set ι (scPart (M.getD ι []) k c)).length = M.length := by simp
      have htp : _ = some _ := (top_cell (hlm ▸ hS.fresh.rows.own) (j := ι) (by omega))
      rw [HU.out, ← HNN.out] at htp
      have hst := hS.step hι hlc HU.out hne_r hB
      have hbd := (H4.out ι hι).2 c (by have := (H4.out ι hι).1; omega)
      have hym : -2000 ≤ (M.getD ι []).getD c 0 * k ∧ (M.getD ι []).getD c 0 * k ≤ 2000 := by
        have := mul_bd (a := (M.getD ι []).getD c 0) (b := k) (A := 20) (B := 100) (by omega) (by omega) (by omega) (by omega)
        omega
      have HST := Lib.hid hst
      clear hst hS hbd hlc hlm
      generalize (M.getD ι []).getD c 0 = y at *
      go_wp2_with fail
      go_roundw
      case rel => exact ⟨c + 1, by omega, by go_num, HST.out⟩
      case measure => simp [intOf]; omega
    · obtain rfl : c = n := by omega
      have hM : M.set ι (scPart (M.getD ι []) k c) = scM M ι k := by rw [HNN.out]; exact scM_end M ι k
      rw [hM] at hS
      obtain ⟨hi1, hi2⟩ := sc_i64 hP.out hι hk1 hk2
      obtain ⟨hrd1, hrd2⟩ := hS.fresh.reads hi1 hi2
      have hn0 := hS.c0
      have hn1 := hS.c1
      have hr0 := hS.r0
      have hr1 := hS.r1
      have hrf := hS.rf
      have hzr1 := hS.lt
      have hzr0 : w.heap.size < wr.heap.size := by omega
      have hzN : w2.heap.size < wr.heap.size := World.block_lt_of_cell? wr _ hn0
      have HS := Lib.hid hS
      have HR1 := Lib.hid hrd1
      have HR2 := Lib.hid hrd2
      clear hS hi1 hi2 hrd1 hrd2 hM
      cases hib : isPB (scM M ι k) (scQ Q ι k)
      case false =>
        have ho : o = ([], [], 3) := by rw [← HO.out, if_pos hib]
        subst ho
        have HIB := Lib.hid hib
        clear hib
        go_wp2_with fail
        refine (implIsProblem_any _ _ (scM M ι k) (scQ Q ι k) _ HR1.out HR2.out).mono ?_; rw [HIB.out]; rintro e w4 ⟨rfl, hb4⟩; obtain ⟨hc_hb4, hf_hb4⟩ := bcell hb4; obtain ⟨hcA_hb4, hfA_hb4⟩ := bcellG (W0 := wr) hb4 (by (repeat' (first | (with_reducible exact Below.refl _ _) | (with_reducible assumption) | (with_reducible refine Below.alloc ?_ ?_ _) | (with_reducible refine Below.drew ?_) | (with_reducible refine below_drewN ?_ _) | (with_reducible refine Below.setCell ?_ ?_ _) | (with_reducible refine Below.trans ?_ (Below.mono (by with_reducible assumption) ?_)) | (with_reducible exact Below.size (by with_reducible assumption)) | go_size))); have hz_hb4 := hb4.size; (try simp at hz_hb4); (try simp only [Nat.add_one_le_iff] at hz_hb4)
        go_wp2_with fail
        refine bodyPost_ret (v := .tuple #[.agg #[.slice none 0 0, .slice none 0 0], .int .i64 3]) (by simp [*, results, Try.results18, go_sem]) rfl ?_
        have hbb : Below w.heap.size w w4 := HS.out.below.trans (hb4.mono (by omega))
        exact ⟨_, _, [], rfl, ownP_nil _ _, (hbb.setCell (by simp) _).setCell (by simp) _⟩
      case true =>
        have ho : o = (scM M ι k, scQ Q ι k, 0) := by rw [← HO.out, if_neg (by rw [hib]; exact Bool.noConfusion)]
        subst ho
        have HIB := Lib.hid hib
        clear hib
        go_wp2_with fail
        refine (implIsProblem_any _ _ (scM M ι k) (scQ Q ι k) _ HR1.out HR2.out).mono ?_; rw [HIB.out]; rintro e w4 ⟨rfl, hb4⟩; obtain ⟨hc_hb4, hf_hb4⟩ := bcell hb4; obtain ⟨hcA_hb4, hfA_hb4⟩ := bcellG (W0 := wr) hb4 (by (repeat' (first | (with_reducible exact Below.refl _ _) | (with_reducible assumption) | (with_reducible refine Below.alloc ?_ ?_ _) | (with_reducible refine Below.drew ?_) | (with_reducible refine below_drewN ?_ _) | (with_reducible refine Below.setCell ?_ ?_ _) | (with_reducible refine Below.trans ?_ (Below.mono (by with_reducible assumption) ?_)) | (with_reducible exact Below.size (by with_reducible assumption)) | go_size))); have hz_hb4 := hb4.size; (try simp at hz_hb4); (try simp only [Nat.add_one_le_iff] at hz_hb4)
        go_wp2_with fail
        refine bodyPost_ret (v := .tuple #[.agg #[.slice (some ⟨gm, 0, none⟩) M.length cm, .slice (some ⟨gq, 0, none⟩) Q.length cq], .int .i64 0]) (by simp [*, results, Try.results18, go_sem]) rfl ?_
        have hbb : Below w.heap.size w w4 := HS.out.below.trans (hb4.mono (by omega))
        have hfr := ((HS.out.fresh.below hb4).tch (bs := [w.heap.size + 1]) (((Tch.refl _ w4).setCell (p := ⟨w.heap.size + 1, 0, none⟩) (by simp) (.slice (some ⟨gm, 0, none⟩) M.length cm)).setCell (p := ⟨w.heap.size + 1, 1, none⟩) (by simp) (.slice (some ⟨gq, 0, none⟩) Q.length cq)) (fun b hb => by simp at hb; omega)).mono (C := w.heap.size) (by omega)
        exact ⟨_, _, us, rfl, hfr.ownP, (hbb.setCell (by simp) _).setCell (by simp) _⟩
end Go.Proofs.Ytkdgnegnndedaaa.PW
