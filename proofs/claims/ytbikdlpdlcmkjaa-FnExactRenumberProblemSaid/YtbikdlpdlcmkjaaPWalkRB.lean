/-
  Walks: a problem renumbered, in the program: the main case.
-/
import Derived.Test.YtbikdlpdlcmkjaaPWalkR
namespace Go.Proofs.Ytbikdlpdlcmkjaa.PW
open Go.RowKit Go.Proofs.Ytbikdlpdlcmkjaa
open Go.Proofs.Ytbikdlpdlcmkjaa.PM

theorem Rn.right {w wr : World} {B N n : Nat} {m : Value} {M : List (List Int)} {Q : List Int} {us : List Value} {p0 p1 : Value} {g cap : Nat} (h : Rn w wr B N m (.slice (some ⟨g, 0, none⟩) n cap) M Q us p0 p1) (e : Q.length = n)
    (hN : g ≠ N) (hB : w.heap.size + 1 < g) (j : Nat) (x : Int) : Rn w (wr.setCell ⟨g, j, none⟩ (.int .i64 x)) B N m (.slice (some ⟨g, 0, none⟩) n cap) M (Q.set j x) us p0 p1 := by
  subst e; exact h.setRight hN hB j x
theorem Rn.rightCell {w wr : World} {B N n : Nat} {m : Value} {M : List (List Int)} {Q : List Int} {us : List Value} {p0 p1 : Value} {g cap : Nat} (h : Rn w wr B N m (.slice (some ⟨g, 0, none⟩) n cap) M Q us p0 p1) (e : Q.length = n) {j : Nat} (hj : j < n) :
    wr.cell? ⟨g, j, none⟩ = some (.int .i64 (Q.getD j 0)) ∧ wr.frozen? ⟨g, j, none⟩ = false := by
  subst e
  obtain ⟨g', cap', hv, _, _, ho⟩ := h.sc.fresh.right
  exact ⟨own_cell ho hj, own_frozen ho j⟩
theorem Rn.row {w wr : World} {B N n : Nat} {m q : Value} {M : List (List Int)} {Q : List Int} {us : List Value} {p0 p1 : Value} {g cap i : Nat} (h : Rn w wr B N m q M Q us p0 p1) (hi : i < M.length) (e : (M.getD i []).length = n)
    (hu : us.getD i undef = .slice (some ⟨g, 0, none⟩) n cap) (hN : g ≠ N) (hB : w.heap.size + 1 < g) (j : Nat) (x : Int) :
    Rn w (wr.setCell ⟨g, j, none⟩ (.int .i64 x)) B N m q (M.set i ((M.getD i []).set j x)) Q us p0 p1 := h.setRow hi (by rw [e]; exact hu) hN hB j x
theorem Rn.rowCell {w wr : World} {B N n : Nat} {m q : Value} {M : List (List Int)} {Q : List Int} {us : List Value} {p0 p1 : Value} {g cap i j : Nat} (h : Rn w wr B N m q M Q us p0 p1) (hi : i < M.length) (e : (M.getD i []).length = n)
    (hu : us.getD i undef = .slice (some ⟨g, 0, none⟩) n cap) (hj : j < n) : wr.cell? ⟨g, j, none⟩ = some (.int .i64 ((M.getD i []).getD j 0)) ∧ wr.frozen? ⟨g, j, none⟩ = false := by
  subst e
  have ho := h.sc.fresh.rows.own.rows i hi
  rw [hu] at ho
  exact ⟨own_cell ho hj, own_frozen ho j⟩
theorem Rn.topCell {w wr : World} {B N n gm cm : Nat} {q : Value} {M : List (List Int)} {Q : List Int} {us : List Value} {p0 p1 : Value} {i : Nat} (h : Rn w wr B N (.slice (some ⟨gm, 0, none⟩) n cm) q M Q us p0 p1) (e : M.length = n) (hi : i < n) : wr.cell? ⟨gm, i, none⟩ = some (us.getD i undef) := by
  subst e; exact top_cell h.sc.fresh.rows.own hi
theorem set_getD_self (M : List (List Int)) (i : Nat) : M.set i (M.getD i []) = M := by
  have := scM_zero M i 0
  rw [scPart_zero] at this
  exact this

set_option maxHeartbeats 2000000 in
theorem implRenumberProblem_any (m q l : Value) (M : List (List Int)) (Q L : List Int) (w : World) (h1 : PM.Rows w m M) (h2 : Ints w q Q) (h3 : Ints w l L) :
    Calls Try.prog 20 #[.agg #[m, q], l] w (OutP w (renOut M Q L)) := by
  by_cases hp : isPB M Q = true
  case neg =>
    have hp' : isPB M Q = false := by simpa using hp
    have e : renOut M Q L = ([], [], 1) := by unfold renOut; rw [if_pos hp']
    rw [e]
    exact ren_err1 m q l M Q L w h1 h2 h3 hp'
  obtain ⟨f1, f2, f3, f4, f5⟩ := isPB_facts hp
  by_cases hL : numB L M.length = true
  case neg =>
    have hL' : numB L M.length = false := by simpa using hL
    have e : renOut M Q L = ([], [], 2) := by unfold renOut; rw [if_neg (by simp [hp]), if_pos hL']
    rw [e]
    exact ren_err2 m q l M Q L w h1 h2 h3 hp (by omega) hL'
  have e0 : renOut M Q L = (renM M L M.length M.length, renRow Q L Q M.length, 0) := by unfold renOut; rw [if_neg (by simp [hp]), if_neg (by simp [hL])]
  rw [e0]
  clear e0
  obtain ⟨hll, hplc⟩ := numB_plc hL
  have hne1 : M ≠ [] := by intro c; rw [c] at f1; simp at f1
  have hne2 : Q ≠ [] := by intro c; rw [c] at f3; simp at f3; omega
  have hne3 : ∀ j, j < M.length → M.getD j [] ≠ [] := fun j hj c => by have := (f4 j hj).1; rw [c] at this; simp at this; omega
  have hne4 : L ≠ [] := by intro c; rw [c] at hll; simp at hll; omega
  have g1 := fun (w' : World) (h : Below w.heap.size w w') => h1.below h
  have g2 := fun (w' : World) (h : Below w.heap.size w w') => h2.below h
  have g3 := fun (w' : World) (h : Below w.heap.size w w') => h3.below h
  obtain ⟨a1, c1, rfl, _, _, hx1⟩ := h1
  obtain ⟨a2, c2, rfl, _, _, _, hx2⟩ := h2
  obtain ⟨a3, c3, rfl, _, _, _, hx3⟩ := h3
  rcases hx1 with hx1 | ⟨b1, o1, rfl, hlt1, hc1⟩
  · exact absurd hx1 hne1
  rcases hx2 with hx2 | ⟨b2, o2, rfl, hlt2, hc2⟩
  · exact absurd hx2 hne2
  rcases hx3 with hx3 | ⟨b3, o3, rfl, hlt3, hc3⟩
  · exact absurd hx3 hne4
  have C1 := Lib.hid hc1
  have C2 := Lib.hid hc2
  have C3 := Lib.hid hc3
  have htot := tot_small hp
  have hP := Lib.hid hp
  have HL := Lib.hid hL
  have H4 := Lib.hid f4
  have H3 := Lib.hid f3
  have HT := Lib.hid htot
  have HPL := Lib.hid hplc
  have HLL := Lib.hid hll
  have hql : Q.length ≤ 1048576 := by omega
  have hml : M.length ≤ 1048576 := by omega
  have hl5 : L.length ≤ 5 := by omega
  have HQL := Lib.hid hql
  have HML := Lib.hid hml
  have N1 := Lib.hid hne1
  have N2 := Lib.hid hne2
  have N3 := Lib.hid hne3
  clear hp f4 htot f5 hne1 hne2 hne3 hne4 hql hml f3 hL hll hplc hc1 hc2 hc3
  go_enter Try.func20, Try.ntmps20
  go_wp2_with fail
  refine (implIsProblem_any _ _ M Q _ (g1 _ (by (repeat' (first | (with_reducible exact Below.refl _ _) | (with_reducible assumption) | (with_reducible refine Below.alloc ?_ ?_ _) | (with_reducible refine Below.drew ?_) | (with_reducible refine below_drewN ?_ _) | (with_reducible refine Below.setCell ?_ ?_ _) | (with_reducible refine Below.trans ?_ (Below.mono (by with_reducible assumption) ?_)) | (with_reducible exact Below.size (by with_reducible assumption)) | go_size)))) (g2 _ (by (repeat' (first | (with_reducible exact Below.refl _ _) | (with_reducible assumption) | (with_reducible refine Below.alloc ?_ ?_ _) | (with_reducible refine Below.drew ?_) | (with_reducible refine below_drewN ?_ _) | (with_reducible refine Below.setCell ?_ ?_ _) | (with_reducible refine Below.trans ?_ (Below.mono (by with_reducible assumption) ?_)) | (with_reducible exact Below.size (by with_reducible assumption)) | go_size))))).mono ?_; rw [hP.out]; rintro e w1 ⟨rfl, hb1⟩; obtain ⟨hc_hb1, hf_hb1⟩ := bcell hb1; obtain ⟨hcA_hb1, hfA_hb1⟩ := bcellG (W0 := w) hb1 (by (repeat' (first | (with_reducible exact Below.refl _ _) | (with_reducible assumption) | (with_reducible refine Below.alloc ?_ ?_ _) | (with_reducible refine Below.drew ?_) | (with_reducible refine below_drewN ?_ _) | (with_reducible refine Below.setCell ?_ ?_ _) | (with_reducible refine Below.trans ?_ (Below.mono (by with_reducible assumption) ?_)) | (with_reducible exact Below.size (by with_reducible assumption)) | go_size))); have hz_hb1 := hb1.size; (try simp at hz_hb1); (try simp only [Nat.add_one_le_iff] at hz_hb1); have hz0_hb1 : w.heap.size < w1.heap.size := (by omega); have hz1_hb1 : w.heap.size + 1 < w1.heap.size := (by omega)
  have hw1 : Below w.heap.size w w1 := by (repeat' (first | (with_reducible exact Below.refl _ _) | (with_reducible assumption) | (with_reducible refine Below.alloc ?_ ?_ _) | (with_reducible refine Below.drew ?_) | (with_reducible refine below_drewN ?_ _) | (with_reducible refine Below.setCell ?_ ?_ _) | (with_reducible refine Below.trans ?_ (Below.mono (by with_reducible assumption) ?_)) | (with_reducible exact Below.size (by with_reducible assumption)) | go_size))
  go_wp2_with fail
  refine (isNumbering_any _ L M.length _ (g3 _ (by (repeat' (first | (with_reducible exact Below.refl _ _) | (with_reducible assumption) | (with_reducible refine Below.alloc ?_ ?_ _) | (with_reducible refine Below.drew ?_) | (with_reducible refine below_drewN ?_ _) | (with_reducible refine Below.setCell ?_ ?_ _) | (with_reducible refine Below.trans ?_ (Below.mono (by with_reducible assumption) ?_)) | (with_reducible exact Below.size (by with_reducible assumption)) | go_size)))) HML.out).mono ?_; rw [HL.out]; rintro e w2 ⟨rfl, rfl⟩
  go_wp2_with fail
  refine (copyProblem_out _ _ M Q _ (g1 _ (by (repeat' (first | (with_reducible exact Below.refl _ _) | (with_reducible assumption) | (with_reducible refine Below.alloc ?_ ?_ _) | (with_reducible refine Below.drew ?_) | (with_reducible refine below_drewN ?_ _) | (with_reducible refine Below.setCell ?_ ?_ _) | (with_reducible refine Below.trans ?_ (Below.mono (by with_reducible assumption) ?_)) | (with_reducible exact Below.size (by with_reducible assumption)) | go_size)))) (g2 _ (by (repeat' (first | (with_reducible exact Below.refl _ _) | (with_reducible assumption) | (with_reducible refine Below.alloc ?_ ?_ _) | (with_reducible refine Below.drew ?_) | (with_reducible refine below_drewN ?_ _) | (with_reducible refine Below.setCell ?_ ?_ _) | (with_reducible refine Below.trans ?_ (Below.mono (by with_reducible assumption) ?_)) | (with_reducible exact Below.size (by with_reducible assumption)) | go_size)))) N1.out N3.out N2.out HT.out HQL.out).mono ?_
  rintro e w2 ⟨gm, cm, gq, cq, us, rfl, hgm1, hgm2, hgq1, hgq2, hgmq, hfp, hb2⟩
  have hur : ∀ i, i < M.length → ∃ g cap, us.getD i undef = .slice (some ⟨g, 0, none⟩) M.length cap ∧ w1.heap.size ≤ g ∧ g < w2.heap.size := fun i hi => by
    obtain ⟨g, cap, hv⟩ := own_nonempty (hfp.rows.own.rows i hi) (N3.out i hi)
    have := hfp.rows.rows i g hi (by rw [hv]; rfl)
    rw [(H4.out i hi).1] at hv
    exact ⟨g, cap, hv, this.1, this.2⟩
  obtain ⟨hc_hb2, hf_hb2⟩ := bcell hb2; obtain ⟨hcA_hb2, hfA_hb2⟩ := bcellG (W0 := w1) hb2 (by (repeat' (first | (with_reducible exact Below.refl _ _) | (with_reducible assumption) | (with_reducible refine Below.alloc ?_ ?_ _) | (with_reducible refine Below.drew ?_) | (with_reducible refine below_drewN ?_ _) | (with_reducible refine Below.setCell ?_ ?_ _) | (with_reducible refine Below.trans ?_ (Below.mono (by with_reducible assumption) ?_)) | (with_reducible exact Below.size (by with_reducible assumption)) | go_size))); have hz_hb2 := hb2.size; (try simp at hz_hb2); (try simp only [Nat.add_one_le_iff] at hz_hb2)
  have hz0_2 : w.heap.size < w2.heap.size := by omega
  have hz1_2 : w.heap.size + 1 < w2.heap.size := by omega
  have hne_q : ¬ gq = w2.heap.size := by omega
  have hne_m : ¬ gm = w2.heap.size := by omega
  have hBq : w.heap.size + 1 < gq := by omega
  have hbt : Below w.heap.size w w2 := hw1.trans (hb2.mono hw1.size)
  have hr0 : w2.cell? ⟨w.heap.size + 1, 0, none⟩ = some (.slice none 0 0) := by rw [hc_hb2 _ _ hz1_hb1, hc_hb1 _ _ (by simp)]; simp
  have hr1 : w2.cell? ⟨w.heap.size + 1, 1, none⟩ = some (.slice none 0 0) := by rw [hc_hb2 _ _ hz1_hb1, hc_hb1 _ _ (by simp)]; simp
  have hp0 : w2.cell? ⟨w.heap.size, 0, none⟩ = some (.slice (some ⟨b1, o1, none⟩) M.length c1) := by rw [hc_hb2 _ _ hz0_hb1, hc_hb1 _ _ (by simp; omega)]; simp
  have hp1 : w2.cell? ⟨w.heap.size, 1, none⟩ = some (.slice (some ⟨b2, o2, none⟩) Q.length c2) := by rw [hc_hb2 _ _ hz0_hb1, hc_hb1 _ _ (by simp; omega)]; simp
  have hrf : ∀ o, w2.frozen? ⟨w.heap.size + 1, o, none⟩ = false := fun o => by rw [hf_hb2 _ _ hz1_hb1, hf_hb1 _ _ (by simp)]; simp
  have hS0 : Rn w (w2.alloc (.cells #[.slice (some ⟨gm, 0, none⟩) M.length cm, .slice (some ⟨gq, 0, none⟩) Q.length cq] 28)) w1.heap.size w2.heap.size (.slice (some ⟨gm, 0, none⟩) M.length cm) (.slice (some ⟨gq, 0, none⟩) Q.length cq) (renM M L M.length 0) (renRow Q L Q 0) us (.slice (some ⟨b1, o1, none⟩) M.length c1) (.slice (some ⟨b2, o2, none⟩) Q.length c2) :=
    ⟨Sc.start (w := w) hfp hr0 hr1 hrf hz1_2 hbt, (World.cell?_alloc_lt w2 _ ⟨_, 0, none⟩ hz0_2).trans hp0, (World.cell?_alloc_lt w2 _ ⟨_, 1, none⟩ hz0_2).trans hp1⟩
  have HS0 := Lib.hid hS0
  have HU := Lib.hid hur
  clear hfp hur hS0 hbt hr0 hr1 hrf hp0 hp1
  go_wp2_with fail
  go_loopw [26] (fun i wr => ∃ c : Nat, c ≤ L.length ∧ i = .int .i64 c ∧ Rn w wr w1.heap.size w2.heap.size (.slice (some ⟨gm, 0, none⟩) M.length cm) (.slice (some ⟨gq, 0, none⟩) Q.length cq) (renM M L M.length c) (renRow Q L Q c) us (.slice (some ⟨b1, o1, none⟩) M.length c1) (.slice (some ⟨b2, o2, none⟩) Q.length c2)) (fun i _ => L.length - (intOf i).toNat)
  case atStart => exact ⟨0, Nat.zero_le _, rfl, HS0.out⟩
  case round =>
    obtain ⟨c, hc, rfl, hR⟩ := hrel
    by_cases hlt : c < L.length
    · have hll := HLL.out
      have hq3 := H3.out
      obtain ⟨hpl, hpj⟩ := HPL.out c (by omega)
      have hLc := (hR.sc.below.cell (p := ⟨b3, o3 + c, none⟩) hlt3).trans (C3.out c hlt)
      rw [hpl] at hLc
      have hQc := (hR.sc.below.cell (p := ⟨b2, o2 + c, none⟩) hlt2).trans (C2.out c (by omega))
      have hn0 := hR.sc.c0
      have hn1 := hR.sc.c1
      have hP0 := hR.p0
      have hP1 := hR.p1
      obtain ⟨hrc, hrfz⟩ := hR.rightCell (j := plc L c) (renRow_length Q L Q c) (by omega)
      have hst := (hR.right (renRow_length Q L Q c) hne_q hBq (plc L c) (Q.getD c 0)).drew
      have hcq : c < Q.length := by omega
      have hjq : plc L c < Q.length := by omega
      have hM0 : (renM M L M.length c).set (plc L c) (renRow ((renM M L M.length c).getD (plc L c) []) L (M.getD c []) 0) = renM M L M.length c := set_getD_self _ _
      have hM1 : (renM M L M.length c).set (plc L c) (renRow ((renM M L M.length c).getD (plc L c) []) L (M.getD c []) L.length) = renM M L M.length (c + 1) := by rw [hll]; rfl
      have hQ1 : (renRow Q L Q c).set (plc L c) (Q.getD c 0) = renRow Q L Q (c + 1) := rfl
      have hlM := renM_length M L M.length c
      have hlR := (renM_all M L M.length c rfl (fun k hk => (HPL.out k hk).2) H4.out (by omega) (plc L c) (by omega)).1
      have hcM : c < M.length := by omega
      have hjM : plc L c < M.length := hpj
      obtain ⟨gr, cr, hur, hgr1, hgr2⟩ := HU.out (plc L c) hpj
      have hne_r : ¬ gr = w2.heap.size := by omega
      have hBr : w.heap.size + 1 < gr := by omega
      obtain ⟨u1, hu1, hI1⟩ := C1.out c hcM
      have hl1 := (H4.out c hcM).1
      rw [hQ1] at hst
      have HM0 := Lib.hid hM0
      have HM1 := Lib.hid hM1
      have HLM := Lib.hid hlM
      have HLR := Lib.hid hlR
      have HUR := Lib.hid hur
      have HU1 := Lib.hid hu1
      have HI1 := Lib.hid hI1
      have HL1 := Lib.hid hl1
      have HST := Lib.hid hst
      clear hst hR hll hq3 hpl hM0 hM1 hQ1 hlM hlR hur hu1 hI1 hl1
      generalize renM M L M.length c = Mc at *
      generalize hj : plc L c = j at *
      generalize hx : Q.getD c 0 = x at *
      generalize (renRow Q L Q c).getD j 0 = y at *
      go_wp2_with fail
      go_region
      obtain ⟨W3, hW3⟩ : ∃ W3, W3 = (wr.setCell ⟨gq, j, none⟩ (.int .i64 x)).drew := ⟨_, rfl⟩
      rw [← hW3] at HST ⊢
      clear hW3 hLc hQc hn0 hn1 hP0 hP1 hrc hrfz
      clear wr
      go_wp2_with fail
      go_loopw [42] (fun i wr => ∃ d : Nat, d ≤ L.length ∧ i = .int .i64 d ∧ Rn w wr w1.heap.size w2.heap.size (.slice (some ⟨gm, 0, none⟩) M.length cm) (.slice (some ⟨gq, 0, none⟩) Q.length cq) (Mc.set j (renRow (Mc.getD j []) L (M.getD c []) d)) (renRow Q L Q (c + 1)) us (.slice (some ⟨b1, o1, none⟩) M.length c1) (.slice (some ⟨b2, o2, none⟩) Q.length c2)) (fun i _ => L.length - (intOf i).toNat)
      case atStart => exact ⟨0, Nat.zero_le _, rfl, by rw [HM0.out]; exact HST.out⟩
      case round =>
        obtain ⟨d, hd, rfl, hR⟩ := hrel
        by_cases hltd : d < L.length
        · have hll := HLL.out
          obtain ⟨hpl, hpd⟩ := HPL.out d (by omega)
          have hLd := (hR.sc.below.cell (p := ⟨b3, o3 + d, none⟩) hlt3).trans (C3.out d hltd)
          rw [hpl] at hLd
          have hMc := (hR.sc.below.cell (p := ⟨b1, o1 + c, none⟩) hlt1).trans HU1.out
          obtain ⟨au, cu, rfl, _, _, _, hxu⟩ := HI1.out
          have hxu' : ∃ bu ou, au = some ⟨bu, ou, none⟩ ∧ bu < w.heap.size ∧ CellsAt w bu ou (M.getD c []) := by
            rcases hxu with hxu | h
            · exact absurd hxu (N3.out c hcM)
            · exact h
          obtain ⟨bu, ou, rfl, hltu, hcu⟩ := hxu'
          have hl1 := HL1.out
          have hMd := (hR.sc.below.cell (p := ⟨bu, ou + d, none⟩) hltu).trans (hcu d (by omega))
          have hn0 := hR.sc.c0
          have hP0 := hR.p0
          have hlMs : (Mc.set j (renRow (Mc.getD j []) L (M.getD c []) d)).length = M.length := by rw [List.length_set]; exact HLM.out
          have htp := hR.topCell hlMs hjM
          rw [HUR.out] at htp
          have hgd := getD_set_eq Mc j (renRow (Mc.getD j []) L (M.getD c []) d) (by have := HLM.out; omega)
          have hlRs : ((Mc.set j (renRow (Mc.getD j []) L (M.getD c []) d)).getD j []).length = M.length := by rw [hgd, renRow_length]; exact HLR.out
          obtain ⟨hrc, hrfz⟩ := hR.rowCell (j := plc L d) (by omega) hlRs HUR.out hpd
          have hst := (hR.row (by omega) hlRs HUR.out hne_r hBr (plc L d) ((M.getD c []).getD d 0)).drew
          rw [hgd, set_set] at hst
          have hdM : d < M.length := by omega
          have hst2 : (renRow (Mc.getD j []) L (M.getD c []) d).set (plc L d) ((M.getD c []).getD d 0) = renRow (Mc.getD j []) L (M.getD c []) (d + 1) := rfl
          rw [hst2] at hst
          have HST2 := Lib.hid hst
          rw [hl1] at hMc
          clear hst hst2 hR hll hpl hl1 hlMs hgd hlRs hxu hcu
          generalize plc L d = jd at *
          generalize (M.getD c []).getD d 0 = z at *
          generalize ((Mc.set j (renRow (Mc.getD j []) L (M.getD c []) d)).getD j []).getD jd 0 = y2 at *
          go_wp2_with fail
          go_region
          go_wp2_with fail
          go_roundw
          case rel => exact ⟨d + 1, by omega, by go_num, HST2.out⟩
          case measure => simp [intOf]; omega
        · obtain rfl : d = L.length := by omega
          rw [HM1.out] at hR
          have HR := Lib.hid hR
          clear hR
          go_wp2_with fail
          go_roundw
          case rel => exact ⟨c + 1, by omega, by go_num, HR.out⟩
          case measure => simp [intOf]; omega
    · obtain rfl : c = L.length := by omega
      rw [HLL.out] at hR
      have hn0 := hR.sc.c0
      have hn1 := hR.sc.c1
      have hr0 := hR.sc.r0
      have hr1 := hR.sc.r1
      have hrf := hR.sc.rf
      have hzr1 := hR.sc.lt
      have hzr0 : w.heap.size < wr.heap.size := by omega
      have HR := Lib.hid hR
      clear hR
      go_wp2_with fail
      refine bodyPost_ret (v := .tuple #[.agg #[.slice (some ⟨gm, 0, none⟩) M.length cm, .slice (some ⟨gq, 0, none⟩) Q.length cq], .int .i64 0]) (by simp [*, results, Try.results20, go_sem]) rfl ?_
      have hbb : Below w.heap.size w wr := HR.out.sc.below
      have hfr := ((HR.out.sc.fresh).tch (bs := [w.heap.size + 1]) (((Tch.refl _ wr).setCell (p := ⟨w.heap.size + 1, 0, none⟩) (by simp) (.slice (some ⟨gm, 0, none⟩) M.length cm)).setCell (p := ⟨w.heap.size + 1, 1, none⟩) (by simp) (.slice (some ⟨gq, 0, none⟩) Q.length cq)) (fun b hb => by simp at hb; omega)).mono (C := w.heap.size) (by omega)
      exact ⟨_, _, us, rfl, hfr.ownP, (hbb.setCell (by simp) _).setCell (by simp) _⟩
end Go.Proofs.Ytbikdlpdlcmkjaa.PW
