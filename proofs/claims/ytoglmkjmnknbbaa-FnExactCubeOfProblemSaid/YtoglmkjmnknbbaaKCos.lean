/-
  The orientation of a problem in the model.
-/
import Derived.Test.YtoglmkjmnknbbaaKCop
import Derived.Test.YtoglmkjmnknbbaaCSpc
namespace Go.Proofs.Ytoglmkjmnknbbaa.PW
open Go.RowKit Go.Proofs.Ytoglmkjmnknbbaa
open Go.Proofs.Ytoglmkjmnknbbaa.PM Go.Proofs.Ytoglmkjmnknbbaa.PX

theorem good_pt {M : List (List Int)} {Q : List Int} {k : Nat} (h : dt M.length (colS M k) ≠ 0) (ha : ∀ i, i < M.length → (ptF M Q k i).1 ≠ 0) : goodS M Q k = true := by
  unfold goodS
  rw [decide_eq_true h, List.all_eq_true.2 (fun i hi => decide_eq_true (ha i (by simpa using hi)))]
  rfl
theorem good_no {M : List (List Int)} {Q : List Int} {k i : Nat} (hi : i < M.length) (hz : (ptF M Q k i).1 = 0) : goodS M Q k = false := by
  unfold goodS
  rw [List.all_eq_false.2 ⟨i, by simp [hi], by simp [hz]⟩, Bool.and_false]
theorem cbO_start (w1 : World) (n : Nat) : CbO w1.heap.size w1 ((w1.alloc (.cells #[] 2)).alloc (.cells #[.int .i64 n, .slice (some ⟨w1.heap.size, 0, none⟩) 0 0] 59)) (w1.heap.size + 1) n w1.heap.size 0 0 [] := by
  have h := freshI_nil w1
  have hb : Below (w1.alloc (.cells #[] 2)).heap.size (w1.alloc (.cells #[] 2)) ((w1.alloc (.cells #[] 2)).alloc (.cells #[.int .i64 n, .slice (some ⟨w1.heap.size, 0, none⟩) 0 0] 59)) := (Below.refl _ _).alloc (Nat.le_refl _) _
  exact ⟨by simp, by simp, fun o => by simp, ⟨by omega, by simp⟩, h.below hb, by omega, ((Below.refl _ _).alloc (Nat.le_refl _) _).alloc (by simp) _⟩

set_option maxRecDepth 100000 in
set_option maxHeartbeats 8000000 in
theorem specCubeOfProblem_any (m q : Value) (M : List (List Int)) (Q : List Int) (w : World) (h1 : PM.Rows w m M) (h2 : Ints w q Q) :
    Calls Try.prog 48 #[.agg #[m, q]] w (OutC w (cpOut M Q)) := by
  have g1 := fun (w' : World) (h : Below w.heap.size w w') => h1.below h
  have g2 := fun (w' : World) (h : Below w.heap.size w w') => h2.below h
  have HIP := Lib.hid (fun (w' : World) (h : Below w.heap.size w w') => l01Is_any m q M Q w' (g1 _ h) (g2 _ h))
  cases hp : isPB M Q
  · obtain ⟨a1, c1, rfl, _⟩ := h1
    obtain ⟨a2, c2, rfl, _⟩ := h2
    rw [cpOut_no hp]
    rw [hp] at HIP
    clear hp
    go_enter Try.func48, Try.ntmps48
    go_wp2_with fail
    refine (HIP.out _ (by (repeat' (first | (with_reducible exact Below.refl _ _) | (with_reducible assumption) | (with_reducible refine Below.alloc ?_ ?_ _) | (with_reducible refine Below.drew ?_) | (with_reducible refine below_drewN ?_ _) | (with_reducible refine Below.setCell ?_ ?_ _) | (with_reducible refine Below.trans ?_ (Below.mono (by with_reducible assumption) ?_)) | (with_reducible exact Below.size (by with_reducible assumption)) | go_size)))).mono ?_; rintro e w1 ⟨rfl, hb1⟩; obtain ⟨hc_hb1, hf_hb1⟩ := bcell hb1; obtain ⟨hcA_hb1, hfA_hb1⟩ := bcellG (W0 := w) hb1 (by (repeat' (first | (with_reducible exact Below.refl _ _) | (with_reducible assumption) | (with_reducible refine Below.alloc ?_ ?_ _) | (with_reducible refine Below.drew ?_) | (with_reducible refine below_drewN ?_ _) | (with_reducible refine Below.setCell ?_ ?_ _) | (with_reducible refine Below.trans ?_ (Below.mono (by with_reducible assumption) ?_)) | (with_reducible exact Below.size (by with_reducible assumption)) | go_size))); have hz_hb1 := hb1.size; (try simp at hz_hb1); (try simp only [Nat.add_one_le_iff] at hz_hb1); have hz0_hb1 : w.heap.size < w1.heap.size := (by omega); have hz1_hb1 : w.heap.size + 1 < w1.heap.size := (by omega)
    have hw1 : Below w.heap.size w w1 := by (repeat' (first | (with_reducible exact Below.refl _ _) | (with_reducible assumption) | (with_reducible refine Below.alloc ?_ ?_ _) | (with_reducible refine Below.drew ?_) | (with_reducible refine below_drewN ?_ _) | (with_reducible refine Below.setCell ?_ ?_ _) | (with_reducible refine Below.trans ?_ (Below.mono (by with_reducible assumption) ?_)) | (with_reducible exact Below.size (by with_reducible assumption)) | go_size))
    go_wp2_with fail
    refine bodyPost_ret (v := .tuple #[.agg #[.int .i64 0, .slice none 0 0], .int .i64 1]) (by simp [*, results, Try.results48, go_sem]) rfl ?_
    exact outC_err ((hw1.setCell (by simp) _).setCell (by simp) _)
  obtain ⟨f1, f2, hql, _, _⟩ := isPB_facts hp
  rw [hp] at HIP
  have HBAD := Lib.hid (fun (k : Nat) (hk : k < 2 ^ M.length) hg => cpOut_bad (Q := Q) hp hk hg)
  have HNON := Lib.hid (fun hc => cpOut_none (M := M) (Q := Q) hp hc)
  have HOK := Lib.hid (fun hg hc => cpOut_ok (M := M) (Q := Q) hp hg hc)
  have HPZ := Lib.hid (fun (k : Nat) (w' : World) (hb : Below w.heap.size w w') hD => l01Point_zero m q M Q k w' (g1 _ hb) (g2 _ hb) hp hD)
  have HPO := Lib.hid (fun (k : Nat) (w' : World) (hb : Below w.heap.size w w') hD => l01Point_ok m q M Q k w' (g1 _ hb) (g2 _ hb) hp hD)
  obtain ⟨O, hO⟩ : ∃ O, O = cpOut M Q := ⟨_, rfl⟩
  rw [← hO] at HBAD HNON HOK ⊢
  have HPA := Lib.hid (fun (k i : Nat) (hi : i < M.length) => show (ptL M Q k).getD i (0, 0) = ptF M Q k i by unfold ptL; simp [hi])
  have HPL := Lib.hid (fun k : Nat => show (ptL M Q k).length = M.length by unfold ptL; simp)
  have HGN := Lib.hid (fun (k i : Nat) hi hz => good_no (M := M) (Q := Q) (k := k) (i := i) hi hz)
  have HGZ := Lib.hid (fun (k : Nat) h => good_zero (M := M) (Q := Q) (k := k) h)
  have HGP := Lib.hid (fun (k : Nat) h ha => good_pt (M := M) (Q := Q) (k := k) h ha)
  have hms : ∀ k, mskS M Q k = mskTo (negP M Q k) M.length := fun _ => rfl
  have HMS := Lib.hid hms
  have hmsb : ∀ k, 0 ≤ mskS M Q k ∧ mskS M Q k < 32 := fun k => by
    obtain ⟨h0, h1⟩ := mskTo_bd (negP M Q k) M.length
    have h5 : (2 : Nat) ^ M.length ≤ 2 ^ 5 := Nat.pow_le_pow_right (show 0 < 2 by omega) f2
    have h6 : (2 : Int) ^ M.length = ((2 ^ M.length : Nat) : Int) := by rw [Int.natCast_pow]; rfl
    rw [hms]
    omega
  have HMB := Lib.hid hmsb
  have hT32 : 2 ^ M.length ≤ 32 := Nat.pow_le_pow_right (show 0 < 2 by omega) f2
  have hwr : wrap64 ((2 : Int) ^ M.length) = ((2 ^ M.length : Nat) : Int) := by
    have h6 : (2 : Int) ^ M.length = ((2 ^ M.length : Nat) : Int) := by rw [Int.natCast_pow]; rfl
    rw [h6]
    generalize 2 ^ M.length = T at hT32 ⊢
    unfold wrap64
    omega
  have HMLT : Hid ((List.range (2 ^ M.length)).map (mskS M Q) = mskL M Q) := Lib.hid rfl
  obtain ⟨a1, c1, rfl, _⟩ := h1
  obtain ⟨a2, c2, rfl, _⟩ := h2
  rw [hql] at HIP HPZ HPO ⊢
  obtain ⟨n, hn⟩ : ∃ n, n = M.length := ⟨_, rfl⟩
  rw [← hn] at HMLT HMS HGP HGZ HGN HPL HPA HPO HPZ HOK HNON HBAD HIP hT32 hwr f1 f2 ⊢
  obtain ⟨T, hT⟩ : ∃ T, T = 2 ^ n := ⟨_, rfl⟩
  rw [← hT] at HMLT HOK HBAD hT32 hwr
  have HWR := Lib.hid hwr
  clear hp hql hO hT hwr hn hms hmsb g1 g2
  go_enter Try.func48, Try.ntmps48
  go_wp2_with fail
  refine (HIP.out _ (by (repeat' (first | (with_reducible exact Below.refl _ _) | (with_reducible assumption) | (with_reducible refine Below.alloc ?_ ?_ _) | (with_reducible refine Below.drew ?_) | (with_reducible refine below_drewN ?_ _) | (with_reducible refine Below.setCell ?_ ?_ _) | (with_reducible refine Below.trans ?_ (Below.mono (by with_reducible assumption) ?_)) | (with_reducible exact Below.size (by with_reducible assumption)) | go_size)))).mono ?_; rintro e w1 ⟨rfl, hb1⟩; obtain ⟨hc_hb1, hf_hb1⟩ := bcell hb1; obtain ⟨hcA_hb1, hfA_hb1⟩ := bcellG (W0 := w) hb1 (by (repeat' (first | (with_reducible exact Below.refl _ _) | (with_reducible assumption) | (with_reducible refine Below.alloc ?_ ?_ _) | (with_reducible refine Below.drew ?_) | (with_reducible refine below_drewN ?_ _) | (with_reducible refine Below.setCell ?_ ?_ _) | (with_reducible refine Below.trans ?_ (Below.mono (by with_reducible assumption) ?_)) | (with_reducible exact Below.size (by with_reducible assumption)) | go_size))); have hz_hb1 := hb1.size; (try simp at hz_hb1); (try simp only [Nat.add_one_le_iff] at hz_hb1); have hz0_hb1 : w.heap.size < w1.heap.size := (by omega); have hz1_hb1 : w.heap.size + 1 < w1.heap.size := (by omega)
  have hw1 : Below w.heap.size w w1 := by (repeat' (first | (with_reducible exact Below.refl _ _) | (with_reducible assumption) | (with_reducible refine Below.alloc ?_ ?_ _) | (with_reducible refine Below.drew ?_) | (with_reducible refine below_drewN ?_ _) | (with_reducible refine Below.setCell ?_ ?_ _) | (with_reducible refine Below.trans ?_ (Below.mono (by with_reducible assumption) ?_)) | (with_reducible exact Below.size (by with_reducible assumption)) | go_size))
  have x0 : w1.cell? ⟨w.heap.size, 0, none⟩ = some (.slice a1 n c1) := by rw [hc_hb1 _ _ (by go_size)]; simp
  have x1 : w1.cell? ⟨w.heap.size, 1, none⟩ = some (.slice a2 n c2) := by rw [hc_hb1 _ _ (by go_size)]; simp
  have r0 : w1.cell? ⟨w.heap.size + 1, 0, none⟩ = some (.int .i64 0) := by rw [hc_hb1 _ _ (by go_size)]; simp
  have r1 : w1.cell? ⟨w.heap.size + 1, 1, none⟩ = some (.slice none 0 0) := by rw [hc_hb1 _ _ (by go_size)]; simp
  have fz : ∀ o, w1.frozen? ⟨w.heap.size + 1, o, none⟩ = false := fun o => by rw [hf_hb1 _ _ (by go_size)]; simp
  have hz1 : w.heap.size + 1 < w1.heap.size := by have := hb1.size; simp at this; omega
  have HK := Lib.hid (fun wr (h : Below w1.heap.size w1 wr) => show wr.cell? ⟨w.heap.size, 0, none⟩ = some (.slice a1 n c1) ∧ wr.cell? ⟨w.heap.size, 1, none⟩ = some (.slice a2 n c2) ∧ wr.cell? ⟨w.heap.size + 1, 0, none⟩ = some (.int .i64 0) ∧ wr.cell? ⟨w.heap.size + 1, 1, none⟩ = some (.slice none 0 0) ∧ ∀ o, wr.frozen? ⟨w.heap.size + 1, o, none⟩ = false from
    ⟨(h.cell (p := ⟨w.heap.size, 0, none⟩) (by show w.heap.size < _; omega)).trans x0, (h.cell (p := ⟨w.heap.size, 1, none⟩) (by show w.heap.size < _; omega)).trans x1, (h.cell (p := ⟨w.heap.size + 1, 0, none⟩) hz1).trans r0, (h.cell (p := ⟨w.heap.size + 1, 1, none⟩) hz1).trans r1, fun o => (h.frozen (p := ⟨w.heap.size + 1, o, none⟩) hz1).trans (fz o)⟩)
  have HW1 := Lib.hid hw1
  clear hc_hb1 hf_hb1 hcA_hb1 hfA_hb1 hb1 hw1 r0 r1 fz hz_hb1
  go_wp2_with fail
  obtain ⟨W2, hW2⟩ : ∃ W2, W2 = (w1.alloc (.cells #[] 2)).alloc (.cells #[.int .i64 n, .slice (some ⟨w1.heap.size, 0, none⟩) 0 0] 59) := ⟨_, rfl⟩
  have hC0 : CbO w1.heap.size w1 W2 (w1.heap.size + 1) n w1.heap.size 0 0 [] := by rw [hW2]; exact cbO_start w1 n
  rw [← hW2]
  obtain ⟨P5, hP5⟩ : ∃ P5, P5 = w1.heap.size + 1 := ⟨_, rfl⟩
  rw [← hP5] at hC0 ⊢
  have HC0 := Lib.hid hC0
  have HP5 := Lib.hid hP5
  clear hW2 hC0 hP5 x0 x1
  go_loopw [6, 7, 8, 9, 10] (fun i _ _ _ _ wr => ∃ (k g cap : Nat), k ≤ T ∧ i = .int .i64 k ∧ Hid (∀ j, j < k → goodS M Q j = true) ∧ CbO w1.heap.size w1 wr P5 n g k cap ((List.range k).map (mskS M Q))) (fun i _ _ _ _ _ => T - (intOf i).toNat)
  case atStart => exact ⟨0, _, _, Nat.zero_le _, by go_num, fun j hj => absurd hj (Nat.not_lt_zero _), HC0.out⟩
  case round =>
    obtain ⟨k, g, cap, hk, rfl, hgd, hC⟩ := hrel
    obtain ⟨y0, y1, y2, y3, y4⟩ := HK.out wr hC.low
    have HC := Lib.hid hC
    have HBW := Lib.hid (HW1.out.trans (hC.low.mono HW1.out.size))
    have hzr : w.heap.size + 1 < wr.heap.size := Nat.lt_of_lt_of_le hz1 hC.low.size
    clear hC
    by_cases hlt : k < T
    · have hwr := HWR.out
      by_cases hD : dt n (colS M k) = 0
      · have HO := Lib.hid (HBAD.out k hlt (HGZ.out k hD))
        have HPT := Lib.hid (HPZ.out k wr HBW.out hD)
        clear hD hgd
        go_wp2_with fail
        refine HPT.out.mono ?_
        rintro e w2 ⟨rfl, hb2⟩
        obtain ⟨z0, z1, z2, z3, z4⟩ := HK.out w2 (HC.out.low.trans (hb2.mono HC.out.low.size))
        have HBX := Lib.hid (HBW.out.trans (hb2.mono HBW.out.size))
        clear hb2 y0 y1 y2 y3 y4 hwr
        go_wp2_with fail
        refine bodyPost_ret (v := .tuple #[.agg #[.int .i64 0, .slice none 0 0], .int .i64 5]) (by simp [*, results, Try.results48, go_sem]) rfl ?_
        rw [HO.out]
        exact outC_err ((HBX.out.setCell (by simp) _).setCell (by simp) _)
      · have HPT := Lib.hid (HPO.out k wr HBW.out hD)
        have HD := Lib.hid hD
        have HGD := hgd
        clear hD hgd
        go_wp2_with fail
        refine HPT.out.mono ?_
        rintro e w2 ⟨g3, c3, rfl, hf, hb2⟩
        have HO := Lib.hid hf.own
        have HB2 := Lib.hid hb2
        obtain ⟨z0, z1, z2, z3, z4⟩ := HK.out w2 (HC.out.low.trans (hb2.mono HC.out.low.size))
        have HBX := Lib.hid (HBW.out.trans (hb2.mono HBW.out.size))
        have hzr2 : w.heap.size + 1 < w2.heap.size := Nat.lt_of_lt_of_le hzr hb2.size
        clear hb2 hf y0 y1 y2 y3 y4 hwr
        go_wp2_with fail
        go_loop [9, 10] (fun o i => ∃ ii : Nat, ii ≤ n ∧ i = .int .i64 ii ∧ o = .int .i64 (mskTo (negP M Q k) ii) ∧ Hid (∀ j, j < ii → (ptF M Q k j).1 ≠ 0)) (fun _ i => n - (intOf i).toNat)
        case atStart => exact ⟨0, Nat.zero_le _, rfl, rfl, fun j hj => absurd hj (Nat.not_lt_zero _)⟩
        case round =>
          obtain ⟨ii, hii, rfl, rfl, hnz⟩ := hrel
          by_cases hlti : ii < n
          · have c0 := HO.out.cell0 (HPL.out k).symm hlti
            rw [HPA.out k ii hlti] at c0
            have hbad := fun hz => HBAD.out k hlt (HGN.out k ii hlti hz)
            have hnz2 : Hid ((ptF M Q k ii).1 ≠ 0 → ∀ j, j < ii + 1 → (ptF M Q k j).1 ≠ 0) := Lib.hid (fun h j hj => by
              by_cases e : j = ii
              · rw [e]; exact h
              · exact hnz.out j (by omega))
            have hor := mskTo_or (negP M Q k) (i := ii) (by omega)
            have hms1 : Hid ((ptF M Q k ii).1 < 0 → mskTo (negP M Q k) (ii + 1) = mskTo (negP M Q k) ii + 2 ^ ii) := Lib.hid (fun h => by rw [mskTo, if_pos (by unfold negP; exact decide_eq_true h)])
            have hms2 : Hid (¬ (ptF M Q k ii).1 < 0 → mskTo (negP M Q k) (ii + 1) = mskTo (negP M Q k) ii) := Lib.hid (fun h => by rw [mskTo, if_neg (by unfold negP; rw [decide_eq_false h]; exact Bool.noConfusion), Int.add_zero])
            have hmb := mskTo_bd (negP M Q k) ii
            have hpw : (2 : Int) ^ ii ≤ 16 := by
              have h4 : (2 : Nat) ^ ii ≤ 2 ^ 4 := Nat.pow_le_pow_right (show 0 < 2 by omega) (by omega)
              have h6 : (2 : Int) ^ ii = ((2 ^ ii : Nat) : Int) := by rw [Int.natCast_pow]; rfl
              omega
            have hpw0 : (0 : Int) < 2 ^ ii := Int.pow_pos (by decide)
            have HSH := Lib.hid (show wrap64 ((2 : Int) ^ ii) = 2 ^ ii by unfold wrap64; omega)
            have HBADI := Lib.hid hbad
            generalize (ptF M Q k ii).1 = x at *
            generalize (ptF M Q k ii).2 = y at *
            by_cases hx : x = 0
            · have HO5 := Lib.hid (HBADI.out hx)
              subst hx
              clear hbad hor hmb hpw hpw0 hnz
              go_wp2_with fail
              refine bodyPost_ret (v := .tuple #[.agg #[.int .i64 0, .slice none 0 0], .int .i64 5]) (by simp [*, results, Try.results48, go_sem]) rfl ?_
              rw [HO5.out]
              exact outC_err ((HBX.out.setCell (by simp) _).setCell (by simp) _)
            · have HN2 := Lib.hid (hnz2.out hx)
              by_cases hneg : x < 0
              · have HM1 := Lib.hid (hms1.out hneg)
                have HOR := Lib.hid hor
                generalize mskTo (negP M Q k) ii = X at *
                clear hbad hor hmb hpw hpw0 hnz
                go_wp2_with fail
                rw [HSH.out, HOR.out]
                go_round
                case rel => exact ⟨ii + 1, by omega, by go_num, by rw [HM1.out], HN2⟩
                case measure => simp [intOf]; omega
              · have HM2 := Lib.hid (hms2.out hneg)
                generalize mskTo (negP M Q k) ii = X at *
                clear hbad hor hmb hpw hpw0 hnz
                go_wp2_with fail
                go_round
                case rel => exact ⟨ii + 1, by omega, by go_num, by rw [HM2.out], HN2⟩
                case measure => simp [intOf]; omega
          · have ein : ii = n := by omega
            subst ein
            have HGK : Hid (∀ j, j < k + 1 → goodS M Q j = true) := Lib.hid (fun j hj => by
              by_cases e : j = k
              · rw [e]; exact HGP.out k HD.out hnz.out
              · exact HGD.out j (by omega))
            have hnext : ∀ (w3 w4 : World) (g2 cap2 : Nat), Below wr.heap.size wr w3 → w4.ownsRow 0 2 1 (.slice (some ⟨g2, 0, none⟩) (k + 1) cap2) (k + 1) (((List.range k).map (mskS M Q)).map (Value.int .i64) ++ [.int .i64 (mskS M Q k)]) → w3.grownBy w4 (Value.slice (some ⟨g, 0, none⟩) k cap).ownBlock →
                ((Value.slice (some ⟨g, 0, none⟩) k cap).ownBlock = some g2 ∨ g2 = w3.heap.size) → g2 < w4.heap.size → CbO w1.heap.size w1 (w4.setCell ⟨P5, 1, none⟩ (.slice (some ⟨g2, 0, none⟩) (k + 1) cap2)) P5 ii g2 (k + 1) cap2 ((List.range (k + 1)).map (mskS M Q)) := fun w3 w4 g2 cap2 h3 ho hg ha hl => by
              have := HC.out.next (by simp) h3 ho hg ha hl
              rw [List.range_succ, List.map_append]
              exact this
            have HNEXT := Lib.hid hnext
            have c1' := (HB2.out.cell (p := ⟨P5, 1, none⟩) HC.out.pb.2).trans HC.out.c1
            have how : w2.ownsRow 0 2 1 (.slice (some ⟨g, 0, none⟩) k cap) k (((List.range k).map (mskS M Q)).map (Value.int .i64)) := by
              have := (HC.out.own.below HB2.out).owns
              simpa using this
            have HOW := Lib.hid how
            have hbk : ∀ (w3 w4 : World), Below w2.heap.size w2 w3 → w3.grownBy w4 (Value.slice (some ⟨g, 0, none⟩) k cap).ownBlock → w4.cell? ⟨P5, 1, none⟩ = some (.slice (some ⟨g, 0, none⟩) k cap) ∧ ∀ o, w4.frozen? ⟨P5, o, none⟩ = false := fun w3 w4 h3 hg => by
              have hp := HC.out.pb.2
              have hblk := (hg.block P5 (by have := h3.size; have := HB2.out.size; omega) (fun e => HC.out.ne (by simpa [Value.ownBlock] using e.symm))).trans ((h3.block P5 (by have := HB2.out.size; omega)).trans (HB2.out.block P5 hp))
              exact ⟨(World.cell?_of_block (w := wr) (a := ⟨P5, 1, none⟩) hblk).trans HC.out.c1, fun o => (World.frozen?_of_block (w := wr) (a := ⟨P5, o, none⟩) hblk).trans (HC.out.fz o)⟩
            have HBK := Lib.hid hbk
            have hx : mskTo (negP M Q k) ii = mskS M Q k := (HMS.out k).symm
            rw [hx]
            obtain ⟨X, hX⟩ : ∃ X, X = mskS M Q k := ⟨_, rfl⟩
            rw [← hX] at HNEXT ⊢
            obtain ⟨j0, hj, hyy0, hyy1, hyy2⟩ := info_parts info_int
            clear hnext how hbk hx hnz hX
            go_wp2_with (at_builtin; refine wpList_append_lies _ rfl _ _ 23 rfl 0 2 j0 (.int .i64 0) 1 8 Try.underlying23 hj hyy0 hyy1 hyy2 rfl (by decide) (.slice (some ⟨g, 0, none⟩) k cap) k _ rfl ((HOW.out).alloc _) _ 1 _ [.int .i64 X] rfl rfl (cell_one_new _ _ _) (by simp [Value.oneCell']) (by decide) (by unfold maxLen; omega) (by omega) (Nat.zero_le _) _ rfl ?_; intro g5 cap5 w4 hown hgrow hat hgl; have hal : Below w2.heap.size w2 (w2.alloc (.cells #[.int .i64 X] 2)) := (Below.refl _ _).alloc (Nat.le_refl _) _; obtain ⟨k1, kf⟩ := HBK.out _ _ hal hgrow; have HNX := Lib.hid (HNEXT.out _ _ _ _ (HB2.out.trans (hal.mono HB2.out.size)) hown hgrow hat hgl); clear hown hgrow hat hgl hal)
            go_roundw
            case rel => exact ⟨k + 1, g5, cap5, by omega, by go_num, HGK, HNX.out⟩
            case measure => simp [intOf]; omega
    · obtain rfl : k = T := by omega
      have hwr := HWR.out
      have hO5 : OwnI wr (.slice (some ⟨g, 0, none⟩) k cap) (mskL M Q) := by
        have := HC.out.own.owns
        rw [HMLT.out] at this
        exact this
      have hmi : ∀ x ∈ mskL M Q, I64 x := by
        rw [← HMLT.out]
        intro x hx
        obtain ⟨j, _, rfl⟩ := List.mem_map.1 hx
        have := HMB.out j
        unfold I64
        omega
      have HIC := Lib.hid (l06Is_any (n : Int) (.slice (some ⟨g, 0, none⟩) k cap) (mskL M Q) wr (OwnI.ints hO5 hmi))
      have HO5 := Lib.hid hO5
      have HOKK := Lib.hid (HOK.out hgd.out)
      have HNN := HNON
      obtain ⟨ML, hML⟩ : ∃ ML, ML = mskL M Q := ⟨_, rfl⟩
      rw [← hML] at HIC HO5 HOKK HNN
      have e0 := HC.out.c0
      have e1 := HC.out.c1
      have hpb := HC.out.pb
      have hgb : w1.heap.size ≤ g ∧ g < wr.heap.size := by
        obtain ⟨g', cc', hv', h1', h2', _⟩ := HC.out.own
        simp at hv'
        omega
      clear hO5 hmi hML hgd y0 y1 y2 y3 y4
      go_wp2_with fail
      refine HIC.out.mono ?_
      rintro e w5 ⟨rfl, hb5⟩
      have HB5 := Lib.hid (HC.out.low.trans (hb5.mono HC.out.low.size))
      obtain ⟨z0, z1, z2, z3, z4⟩ := HK.out w5 HB5.out
      have HW5 := Lib.hid (HW1.out.trans (HB5.out.mono HW1.out.size))
      have d0 := (hb5.cell (p := ⟨P5, 0, none⟩) hpb.2).trans e0
      have d1 := (hb5.cell (p := ⟨P5, 1, none⟩) hpb.2).trans e1
      have HF5 := Lib.hid (HO5.out.below hb5 (fun b hb => by simp [Value.ownBlock] at hb; omega))
      have hg5 : g < w5.heap.size := Nat.lt_of_lt_of_le hgb.2 hb5.size
      clear hb5 e0 e1 hwr
      cases hcb : isCB n ML
      · have HO := Lib.hid (HNN.out hcb)
        clear hcb d0 d1
        go_wp2_with fail
        refine bodyPost_ret (v := .tuple #[.agg #[.int .i64 0, .slice none 0 0], .int .i64 5]) (by simp [*, results, Try.results48, go_sem]) rfl ?_
        rw [HO.out]
        exact outC_err ((HW5.out.setCell (by simp) _).setCell (by simp) _)
      · have HO := Lib.hid (HOKK.out hcb)
        have hp1' : w.heap.size + 1 < P5 := by omega
        have hne : P5 ≠ w.heap.size + 1 := by omega
        have hg1 : w.heap.size + 1 < g := by omega
        clear hcb
        go_wp2_with fail
        refine bodyPost_ret (v := .tuple #[.agg #[.int .i64 n, .slice (some ⟨g, 0, none⟩) k cap], .int .i64 0]) (by simp [*, results, Try.results48, go_sem]) rfl ?_
        rw [HO.out]
        have ht : Tch [w.heap.size + 1] w5 ((w5.setCell ⟨w.heap.size + 1, 0, none⟩ (.int .i64 n)).setCell ⟨w.heap.size + 1, 1, none⟩ (.slice (some ⟨g, 0, none⟩) k cap)) := ((Tch.refl _ _).setCell (by simp) _).setCell (by simp) _
        exact ⟨_, rfl, ⟨HF5.out.tch ht (fun b hb c => by simp [Value.ownBlock] at hb c; omega), fun b hb => by simp [Value.ownBlock] at hb; subst hb; exact ⟨by omega, by simpa using hg5⟩⟩, (HW5.out.setCell (by simp) _).setCell (by simp) _⟩
end Go.Proofs.Ytoglmkjmnknbbaa.PW
