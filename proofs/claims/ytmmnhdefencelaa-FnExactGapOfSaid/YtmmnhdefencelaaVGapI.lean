/-
  Walks: GapOf in the program.
-/
import Derived.Test.YtmmnhdefencelaaVGapS
namespace Go.Proofs.Ytmmnhdefencelaa.PW
open Go.RowKit Go.Proofs.Ytmmnhdefencelaa
open Go.Proofs.Ytmmnhdefencelaa.PM Go.Proofs.Ytmmnhdefencelaa.PX

set_option maxRecDepth 100000 in
set_option maxHeartbeats 8000000 in
theorem implGapOf_any (m q z : Value) (M : List (List Int)) (Q : List Int) (Z : List (Int × Int)) (w : World) (h1 : PM.Rows w m M) (h2 : Ints w q Q) (h3 : Frs w z Z) :
    Calls Try.prog 39 #[.agg #[m, q], z] w fun e w' => e = .returned (.tuple #[.agg #[.int .i64 (gapOut M Q Z).1.1, .int .i64 (gapOut M Q Z).1.2], .int .i64 (gapOut M Q Z).2]) ∧ Below w.heap.size w w' := by
  have HCK := Lib.hid (fun (w' : World) (h : Below w.heap.size w w') => checkFracs_any m q z M Q Z w' (h1.below h) (h2.below h) (h3.below h))
  have H3 := Lib.hid h3
  have H1 := Lib.hid h1
  have H2 := Lib.hid h2
  obtain ⟨a1, c1, rfl, _⟩ := h1
  obtain ⟨a2, c2, rfl, _⟩ := h2
  obtain ⟨W0, hW0⟩ : ∃ W0, W0 = (w.alloc (.cells #[.slice a1 M.length c1, .slice a2 Q.length c2] 27)).alloc (.cells #[.int .i64 0, .int .i64 0] 51) := ⟨_, rfl⟩
  have hg0 : Gb w W0 (.slice a1 M.length c1) (.slice a2 Q.length c2) := by rw [hW0]; exact gb_new _ _ _ _ _
  have HG0 := Lib.hid hg0
  have HW0 := Lib.hid hW0
  clear hg0 hW0
  rcases fc_cases M Q Z with hc | ⟨hc, hp, hf, hl⟩
  · rw [gapOut_err (by omega)]
    generalize fcCode M Q Z = C at *
    have hC0 : ¬ C = 0 := by omega
    have hCb : (C != 0) = true := by simp; omega
    obtain ⟨a3, c3, rfl, _⟩ := h3
    clear hc
    go_enter Try.func39, Try.ntmps39
    go_wp2_with fail
    rw [← HW0.out]
    refine (HCK.out _ HG0.out.b).mono ?_; rintro e w1 ⟨rfl, hb1⟩
    obtain ⟨hw1, k0, k1, k2, k3, f0, f1, hz1⟩ := HG0.out.next hb1
    clear hb1
    go_wp2_with fail
    refine bodyPost_ret (v := .tuple #[.agg #[.int .i64 0, .int .i64 0], .int .i64 C]) (by simp [*, results, Try.results39, go_sem]) rfl ?_
    refine ⟨rfl, ?_⟩
    (repeat' (first | (with_reducible exact Below.refl _ _) | (with_reducible assumption) | (with_reducible refine Below.alloc ?_ ?_ _) | (with_reducible refine Below.drew ?_) | (with_reducible refine below_drewN ?_ _) | (with_reducible refine Below.setCell ?_ ?_ _) | (with_reducible refine Below.trans ?_ (Below.mono (by with_reducible assumption) ?_)) | (with_reducible exact Below.size (by with_reducible assumption)) | go_size))
  rw [hc] at HCK
  have h5 := (isPB_facts hp).2.1
  have h51 := (isPB_facts hp).1
  have hfr := frsB_fracs hf
  have HI6 := Lib.hid h3.i64
  have HCN := Lib.hid (fun (w' : World) (h : Below w.heap.size w w') => commonNums_any z Z w' (h3.below h) hfr (by omega) (by omega))
  obtain ⟨zb, zo, zc, rfl, _, hZc⟩ := h3.at_ (by omega)
  rw [hl] at hZc HCN HCK H3 ⊢
  have HZ := Lib.hid hZc
  have HNONE := Lib.hid (fun h => gapOut_none (M := M) (Q := Q) (Z := Z) hc h)
  have HSOME := Lib.hid (fun d h => gapOut_some (M := M) (Q := Q) (Z := Z) (d := d) hc h)
  have HBAD := Lib.hid (fun i (hi : i < M.length) h => gapD_bad (Z := Z) (i := i) (by omega) h)
  have HNI := Lib.hid (numsIn_iff Z)
  have HOK := Lib.hid (fun d => gapD_ok (Z := Z) (d := d))
  have HFR := Lib.hid hfr
  have HCS := Lib.hid (fun d h => comV_some (d := d) hfr h)
  have HNM := Lib.hid (fun d (hn : numsIn Z = true) hd => gap_nums (Q := Q) (d := d) hp hfr hl hn hd)
  have HL := Lib.hid hl
  have HP := Lib.hid hp
  generalize gapOut M Q Z = OUT at *
  clear hc hf hfr hl hp hZc
  go_enter Try.func39, Try.ntmps39
  go_wp2_with fail
  rw [← HW0.out]
  refine (HCK.out _ HG0.out.b).mono ?_; rintro e w1 ⟨rfl, hb1⟩
  have HG1 := Lib.hid (HG0.out.next hb1)
  clear HCK hb1 HW0 HG0
  go_wp2_with fail
  go_loopw [8, 24] (fun _ i wr => ∃ k : Nat, k ≤ M.length ∧ i = .int .i64 k ∧ Hid (∀ i, i < k → -1000 ≤ (Z.getD i (0, 0)).1 ∧ (Z.getD i (0, 0)).1 ≤ 1000) ∧ Below w1.heap.size w1 wr) (fun _ i _ => M.length - (intOf i).toNat)
  case atStart => exact ⟨0, Nat.zero_le _, rfl, fun i hi => absurd hi (Nat.not_lt_zero _), Below.refl _ _⟩
  case round =>
    obtain ⟨k, hk, rfl, hgood, hB⟩ := hrel
    have HG := Lib.hid (HG1.out.next hB)
    have HB := Lib.hid hB
    clear hB
    by_cases hlt : k < M.length
    · obtain ⟨t0, t1⟩ := HZ.out wr HG.out.b k (by have := HL.out; omega)
      have HBD := Lib.hid (HBAD.out k hlt)
      obtain ⟨x, hx⟩ : ∃ x, x = (Z.getD k (0, 0)).1 := ⟨_, rfl⟩
      obtain ⟨y, hy⟩ : ∃ y, y = (Z.getD k (0, 0)).2 := ⟨_, rfl⟩
      rw [← hx] at t0 HBD
      rw [← hy] at t1
      have HX := Lib.hid hx
      clear hx hy
      by_cases hin : -1000 ≤ x ∧ x ≤ 1000
      · have HL1 := Lib.hid (show decide ((-1000 : Int) ≤ x ∧ x ≤ 1000) = true from decide_eq_true hin)
        have hnx : Hid (∀ i, i < k + 1 → -1000 ≤ (Z.getD i (0, 0)).1 ∧ (Z.getD i (0, 0)).1 ≤ 1000) := fun i hi => by
          by_cases e : i = k
          · subst e; rw [← HX.out]; exact hin
          · exact hgood.out i (by omega)
        clear hin
        have hzz := HB.out.size
        have HBA := Lib.hid (HB.out.alloc hzz (.cells #[.int .i64 x, .int .i64 y] 51))
        clear HBD hzz
        go_wp2_with fail
        refine (FW.isWithin_any x 1000 _ (by decide) (by decide)).mono ?_; rw [show decide (-(1000 : Int) ≤ x ∧ x ≤ 1000) = true from HL1.out]; rintro e w2 ⟨rfl, rfl⟩
        go_wp2_with fail
        go_roundw
        case rel => exact ⟨k + 1, by omega, by go_num, hnx, HBA.out⟩
        case measure => simp [intOf]; omega
      · have HL1 := Lib.hid (show decide ((-1000 : Int) ≤ x ∧ x ≤ 1000) = false from decide_eq_false hin)
        have HO := Lib.hid (HNONE.out (HBD.out hin))
        obtain ⟨hw1, k0, k1, k2, k3, f0, f1, hz1⟩ := HG.out
        have hz2 : w.heap.size < wr.heap.size := by omega
        have hz3 : w.heap.size + 1 ≠ wr.heap.size := by omega
        clear HBD hin
        go_wp2_with fail
        refine (FW.isWithin_any x 1000 _ (by decide) (by decide)).mono ?_; rw [show decide (-(1000 : Int) ≤ x ∧ x ≤ 1000) = false from HL1.out]; rintro e w2 ⟨rfl, rfl⟩
        go_wp2_with fail
        refine bodyPost_ret (v := .tuple #[.agg #[.int .i64 0, .int .i64 0], .int .i64 2]) (by simp [*, results, Try.results39, go_sem]) rfl ?_
        rw [HO.out]
        refine ⟨rfl, ?_⟩
        (repeat' (first | (with_reducible exact Below.refl _ _) | (with_reducible assumption) | (with_reducible refine Below.alloc ?_ ?_ _) | (with_reducible refine Below.drew ?_) | (with_reducible refine below_drewN ?_ _) | (with_reducible refine Below.setCell ?_ ?_ _) | (with_reducible refine Below.trans ?_ (Below.mono (by with_reducible assumption) ?_)) | (with_reducible exact Below.size (by with_reducible assumption)) | go_size))
    · obtain rfl : k = M.length := by omega
      have hni : numsIn Z = true := HNI.out.2 (fun i hi => hgood.out i (by have := HL.out; omega))
      have HNIN := Lib.hid hni
      clear hni hgood
      go_wp2_with fail
      refine (HCN.out _ HG.out.b).mono ?_
      intro e w2 hco
      unfold ComI at hco
      cases hcm : comOut Z with
      | none =>
        rw [hcm] at hco
        obtain ⟨rfl, hb2⟩ := hco
        have HO := Lib.hid (HNONE.out (gapD_com hcm))
        obtain ⟨hw2, k0, k1, k2, k3, f0, f1, hz1⟩ := HG.out.next hb2
        clear hcm hb2
        go_wp2_with fail
        refine bodyPost_ret (v := .tuple #[.agg #[.int .i64 0, .int .i64 0], .int .i64 2]) (by simp [*, results, Try.results39, go_sem]) rfl ?_
        rw [HO.out]
        refine ⟨rfl, ?_⟩
        (repeat' (first | (with_reducible exact Below.refl _ _) | (with_reducible assumption) | (with_reducible refine Below.alloc ?_ ?_ _) | (with_reducible refine Below.drew ?_) | (with_reducible refine below_drewN ?_ _) | (with_reducible refine Below.setCell ?_ ?_ _) | (with_reducible refine Below.trans ?_ (Below.mono (by with_reducible assumption) ?_)) | (with_reducible exact Below.size (by with_reducible assumption)) | go_size))
      | some d =>
        rw [hcm] at hco
        obtain ⟨B, rfl, hmap, hBw, hb2⟩ := hco
        have HG2 := Lib.hid (HG.out.next hb2)
        obtain ⟨_, hd, hnb⟩ := HCS.out d hcm
        by_cases hdm : 1000 < d
        · have HO := Lib.hid (HNONE.out (gapD_far hcm hdm))
          obtain ⟨hw2, k0, k1, k2, k3, f0, f1, hz1⟩ := HG2.out
          clear hcm hb2 hmap hnb hd
          go_wp2_with fail
          refine bodyPost_ret (v := .tuple #[.agg #[.int .i64 0, .int .i64 0], .int .i64 2]) (by simp [*, results, Try.results39, go_sem]) rfl ?_
          rw [HO.out]
          refine ⟨rfl, ?_⟩
          (repeat' (first | (with_reducible exact Below.refl _ _) | (with_reducible assumption) | (with_reducible refine Below.alloc ?_ ?_ _) | (with_reducible refine Below.drew ?_) | (with_reducible refine below_drewN ?_ _) | (with_reducible refine Below.setCell ?_ ?_ _) | (with_reducible refine Below.trans ?_ (Below.mono (by with_reducible assumption) ?_)) | (with_reducible exact Below.size (by with_reducible assumption)) | go_size))
        have HO := Lib.hid (HSOME.out d (HOK.out d HNIN.out hcm (by omega)))
        have hd2 : 1 ≤ d ∧ d ≤ 1000 := by omega
        have HRM := Lib.hid (remainderNums_any _ _ _ B M Q Z (numI d) d w2 (H1.out.below HG2.out.b) (H2.out.below HG2.out.b) (H3.out.below HG2.out.b) HP.out HL.out (looks_map hmap HI6.out) ⟨by omega, by omega⟩ hnb)
        obtain ⟨nL, nR, nS⟩ := HNM.out d HNIN.out hd2
        have hlen := remL_length M Q (Z.map (numI d)) d
        unfold gapS at HO
        generalize remL M Q (Z.map (numI d)) d = R at *
        have HGE := Lib.hid (fun i (hi : i < M.length) => show (Z.map (numI d)).getD i 0 = numI d (Z.getD i (0, 0)) by
          have h : i < Z.length := by have := HL.out; omega
          simp [h])
        have HLK := Lib.hid (looks_map hmap HI6.out)
        have HMB := Lib.hid hBw
        have HNL := Lib.hid nL
        have HNR := Lib.hid nR
        have HNS := Lib.hid nS
        have HLEN := Lib.hid hlen
        obtain ⟨D, hD⟩ : ∃ D, D = d * d := ⟨_, rfl⟩
        have hDb := sq_bd hd2
        rw [← hD] at hDb HO
        have hwD : wrap64 D = D := IntWalk.wrap64_in _ (by omega)
        have hwD' : IntKind.i64.wrap D = D := IntWalk.i64_in _ (by omega)
        have HDB := Lib.hid hDb
        have hD' := hD.symm
        clear hcm hb2 hmap hBw hnb hd hd2 nL nR nS hlen hDb hD
        obtain ⟨hw2, k0, k1, k2, k3, f0, f1, hz1⟩ := HG2.out
        go_wp2_with fail
        refine HRM.out.mono ?_
        rintro e w3 ⟨g, rfl, hR, hb3⟩
        have HG3 := Lib.hid (HG2.out.next hb3)
        obtain ⟨_, _, hvv, _, hz5, hoo⟩ := id hR
        have hg3 : g < w3.heap.size := by simp at hvv; omega
        have hce : ∀ j, j < M.length → w3.cell? ⟨g, j, none⟩ = some (.int .i64 (R.getD j 0)) := fun j hj => by
          rw [own_cellN hoo HLEN.out.symm hj]
        have HCE := Lib.hid hce
        have HLK3 := Lib.hid (HLK.out.below hb3)
        clear hR hb3 hvv hz5 hoo hce hw2 k0 k1 k2 k3 f0 f1 hz1 HLK
        go_wp2_with fail
        go_loopw [12, 13, 14, 53] (fun s _ _ i wr => ∃ (k : Nat) (S : Int), k ≤ M.length ∧ i = .int .i64 k ∧ s = .int .i64 S ∧ Hid (S = dotTo R (Z.map (numI d)) k) ∧ Below w3.heap.size w3 wr) (fun _ _ _ i _ => M.length - (intOf i).toNat)
        case atStart => exact ⟨0, 0, Nat.zero_le _, rfl, rfl, rfl, Below.refl _ _⟩
        case round =>
          obtain ⟨t, S, ht, rfl, rfl, hS, hBi⟩ := hrel
          have HGi := Lib.hid (HG3.out.next hBi)
          by_cases hltt : t < M.length
          · have t1 := (hBi.cell (p := ⟨g, t, none⟩) hg3).trans (HCE.out t hltt)
            obtain ⟨z0, z1⟩ := HZ.out wr HGi.out.b t (by have := HL.out; omega)
            have hmem := getD_mem2 (xs := Z) (i := t) (by have := HL.out; omega)
            have hlk := HLK3.out wr hBi _ hmem
            have hlk2 := HLK3.out wr.drew hBi.drew _ hmem
            have hbd1 := HNS.out (t + 1) (by omega)
            have hl1 := HNL.out t hltt
            have hr1 := HNR.out t hltt
            have hstep : dotTo R (Z.map (numI d)) (t + 1) = dotTo R (Z.map (numI d)) t + (Z.map (numI d)).getD t 0 * R.getD t 0 := rfl
            rw [← hS.out] at hstep
            rw [HGE.out t hltt] at hstep hl1
            obtain ⟨X, hX⟩ : ∃ X, X = Z.getD t (0, 0) := ⟨_, rfl⟩
            rw [← hX] at z0 z1 hlk hlk2 hl1 hstep
            obtain ⟨x, y⟩ := X
            simp only at z0 z1 hlk hlk2
            obtain ⟨nx, hnx⟩ : ∃ nx, nx = R.getD t 0 := ⟨_, rfl⟩
            rw [← hnx] at t1 hr1 hstep
            obtain ⟨a, ha⟩ : ∃ a, a = numI d (x, y) := ⟨_, rfl⟩
            rw [← ha] at hlk hlk2 hl1 hstep
            have hpr := PM.mul_bd (A := 1000000) (B := 110000000) hl1.1 hl1.2 hr1.1 hr1.2
            obtain ⟨p, hp⟩ : ∃ p, p = a * nx := ⟨_, rfl⟩
            rw [← hp] at hpr hstep
            obtain ⟨f1', hf1⟩ : ∃ f1', f1' = dotTo R (Z.map (numI d)) (t + 1) := ⟨_, rfl⟩
            rw [← hf1] at hbd1 hstep
            have hw2 : wrap64 p = p := IntWalk.wrap64_in _ (by omega)
            have hw3 : wrap64 f1' = f1' := IntWalk.wrap64_in _ (by omega)
            have hw2' : IntKind.i64.wrap p = p := IntWalk.i64_in _ (by omega)
            have hw3' : IntKind.i64.wrap f1' = f1' := IntWalk.i64_in _ (by omega)
            have hp' := hp.symm
            have hstep' := hstep.symm
            have HF1' := Lib.hid hf1
            have HBd := Lib.hid (fun n => below_drewN hBi n)
            clear hbd1 hpr hstep hp hf1 ha hnx hl1 hr1 hBi hS hwD hwD' hD' hX hmem
            go_wp2_with fail
            go_roundw
            case rel => exact ⟨t + 1, f1', by omega, by go_num, (by first | rfl | simp only [hw2, hstep', hw3]), HF1', (by first | exact HBd.out _ | exact HBd.out 0)⟩
            case measure => simp [intOf]; omega
          · obtain rfl : t = M.length := by omega
            have hSb := HNS.out M.length (Nat.le_refl _)
            rw [← hS.out] at HO hSb
            have HFK := Lib.hid (fun w' => FW.limitedFrac_any S D w' (by omega) (by omega) (by have := HDB.out; omega) (by have := HDB.out; omega) (by have := HDB.out; omega))
            generalize FM.toldN S D = tN at *
            generalize FM.toldD S D = tD at *
            generalize FM.toldC S D = tC at *
            clear hSb
            obtain ⟨hw2, k0, k1, k2, k3, f0, f1, hz1⟩ := HGi.out
            clear hBi hS
            go_wp2_with fail
            refine (HFK.out _).mono ?_
            rintro e w5 ⟨rfl, hb5⟩
            obtain ⟨hw5, m0, m1, m2, m3, n0, n1, hz5⟩ := HGi.out.next hb5
            clear hw2 k0 k1 k2 k3 f0 f1 hz1
            go_wp2_with fail
            refine bodyPost_ret (v := .tuple #[.agg #[.int .i64 tN, .int .i64 tD], .int .i64 tC]) (by simp [*, results, Try.results39, go_sem]) rfl ?_
            rw [HO.out]
            refine ⟨rfl, ?_⟩
            (repeat' (first | (with_reducible exact Below.refl _ _) | (with_reducible assumption) | (with_reducible refine Below.alloc ?_ ?_ _) | (with_reducible refine Below.drew ?_) | (with_reducible refine below_drewN ?_ _) | (with_reducible refine Below.setCell ?_ ?_ _) | (with_reducible refine Below.trans ?_ (Below.mono (by with_reducible assumption) ?_)) | (with_reducible exact Below.size (by with_reducible assumption)) | go_size))
end Go.Proofs.Ytmmnhdefencelaa.PW
