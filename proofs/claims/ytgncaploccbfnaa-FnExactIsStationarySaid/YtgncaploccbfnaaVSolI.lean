/-
  Walks: IsSolution in the program.
-/
import Derived.Test.YtgncaploccbfnaaVSol
namespace Go.Proofs.Ytgncaploccbfnaa.PW
open Go.RowKit Go.Proofs.Ytgncaploccbfnaa
open Go.Proofs.Ytgncaploccbfnaa.PM Go.Proofs.Ytgncaploccbfnaa.PX

/-- A numerator has its fraction's sign. -/
theorem num_sign {xs : List (Int × Int)} {d : Int} (hf : fracs xs) (h : comD 1 xs = some d) (hd : 1 ≤ d) {x : Int × Int} (hx : x ∈ xs) : (x.1 < 0 ∧ numI d x < 0) ∨ (x.1 = 0 ∧ numI d x = 0) ∨ (0 < x.1 ∧ 0 < numI d x) := by
  obtain ⟨_, hdv⟩ := comV_dvd xs 1 d ⟨by decide, by decide⟩ hf h
  obtain ⟨q, hq⟩ := hdv x hx
  have h2 := FM.isF_yes (hf x hx)
  have hq0 : d.tdiv x.2 = q := by
    have h := Int.mul_tdiv_cancel_left q (show x.2 ≠ 0 by omega)
    rwa [← hq] at h
  have hq1 : 0 < q := by
    rcases Int.lt_or_le 0 q with h | h
    · exact h
    · have : x.2 * q ≤ 0 := Int.mul_nonpos_of_nonneg_of_nonpos (by omega) h
      omega
  unfold numI
  rw [hq0]
  rcases Int.lt_trichotomy x.1 0 with h | h | h
  · exact .inl ⟨h, Int.mul_neg_of_neg_of_pos h hq1⟩
  · exact .inr (.inl ⟨h, by rw [h]; simp⟩)
  · exact .inr (.inr ⟨h, Int.mul_pos h hq1⟩)

set_option maxRecDepth 100000 in
set_option maxHeartbeats 16000000 in
theorem implIsSolution_any (m q z : Value) (M : List (List Int)) (Q : List Int) (Z : List (Int × Int)) (w : World) (h1 : PM.Rows w m M) (h2 : Ints w q Q) (h3 : Frs w z Z) :
    Calls Try.prog 35 #[.agg #[m, q], z] w fun e w' => e = .returned (.tuple #[.bool (isoOut M Q Z).1, .int .i64 (isoOut M Q Z).2]) ∧ Below w.heap.size w w' := by
  have HCK := Lib.hid (fun (w' : World) (h : Below w.heap.size w w') => checkFracs_any m q z M Q Z w' (h1.below h) (h2.below h) (h3.below h))
  have H3 := Lib.hid h3
  have H1 := Lib.hid h1
  have H2 := Lib.hid h2
  obtain ⟨a1, c1, rfl, _⟩ := h1
  obtain ⟨a2, c2, rfl, _⟩ := h2
  rcases fc_cases M Q Z with hc | ⟨hc, hp, hf, hl⟩
  · rw [isoOut_err (by omega)]
    generalize fcCode M Q Z = C at *
    have hC0 : ¬ C = 0 := by omega
    have hCb : (C != 0) = true := by simp; omega
    obtain ⟨a3, c3, rfl, _⟩ := h3
    clear hc
    go_enter Try.func35, Try.ntmps35
    go_wp2_with fail
    refine (HCK.out _ (by (repeat' (first | (with_reducible exact Below.refl _ _) | (with_reducible assumption) | (with_reducible refine Below.alloc ?_ ?_ _) | (with_reducible refine Below.drew ?_) | (with_reducible refine below_drewN ?_ _) | (with_reducible refine Below.setCell ?_ ?_ _) | (with_reducible refine Below.trans ?_ (Below.mono (by with_reducible assumption) ?_)) | (with_reducible exact Below.size (by with_reducible assumption)) | go_size)))).mono ?_; rintro e w1 ⟨rfl, hb1⟩
    have hw1 : Below w.heap.size w w1 := by (repeat' (first | (with_reducible exact Below.refl _ _) | (with_reducible assumption) | (with_reducible refine Below.alloc ?_ ?_ _) | (with_reducible refine Below.drew ?_) | (with_reducible refine below_drewN ?_ _) | (with_reducible refine Below.setCell ?_ ?_ _) | (with_reducible refine Below.trans ?_ (Below.mono (by with_reducible assumption) ?_)) | (with_reducible exact Below.size (by with_reducible assumption)) | go_size))
    go_wp2_with fail
    go_ret2
    exact ⟨rfl, hw1⟩
  rw [hc] at HCK
  have h5 := (isPB_facts hp).2.1
  have h51 := (isPB_facts hp).1
  have hfr := frsB_fracs hf
  have HI6 := Lib.hid h3.i64
  have HSG := Lib.hid (fun d (h : comD 1 Z = some d) (hd : 1 ≤ d) i (hi : i < Z.length) => num_sign hfr h hd (getD_mem2 hi))
  have HCN := Lib.hid (fun (w' : World) (h : Below w.heap.size w w') => commonNums_any z Z w' (h3.below h) hfr (by omega) (by omega))
  obtain ⟨zb, zo, zc, rfl, hzb, hZc⟩ := h3.at_ (by omega)
  have HZ := Lib.hid hZc
  have HZB := Lib.hid hzb
  clear hZc hzb
  have HNONE := Lib.hid (fun h => isoOut_none (M := M) (Q := Q) hc h)
  have HSOME := Lib.hid (fun d h => isoOut_some (M := M) (Q := Q) (d := d) hc h)
  have HCS := Lib.hid (fun d h => comV_some (d := d) hfr h)
  generalize isoOut M Q Z = OUT at *
  have HL := Lib.hid hl
  have HP := Lib.hid hp
  clear hc hf hfr hl hp
  obtain ⟨W0, hW0⟩ : ∃ W0, W0 = w.alloc (.cells #[.slice a1 M.length c1, .slice a2 Q.length c2] 27) := ⟨_, rfl⟩
  have hb0 : Below w.heap.size w W0 := by rw [hW0]; exact (Below.refl _ _).alloc (Nat.le_refl _) _
  have hz0 : w.heap.size < W0.heap.size := by rw [hW0]; simp
  have x0 : W0.cell? ⟨w.heap.size, 0, none⟩ = some (.slice a1 M.length c1) := by rw [hW0]; simp
  have x1 : W0.cell? ⟨w.heap.size, 1, none⟩ = some (.slice a2 Q.length c2) := by rw [hW0]; simp
  have HW0 := Lib.hid hW0
  have hle0 := hb0.size
  clear hW0
  go_enter Try.func35, Try.ntmps35
  go_wp2_with fail
  rw [← HW0.out]
  refine (HCK.out _ hb0).mono ?_; rintro e w1 ⟨rfl, hb1⟩
  have hw1 : Below w.heap.size w w1 := hb0.trans (hb1.mono hle0)
  have y0 := (hb1.cell (p := ⟨w.heap.size, 0, none⟩) hz0).trans x0
  have y1 := (hb1.cell (p := ⟨w.heap.size, 1, none⟩) hz0).trans x1
  have hz1 : w.heap.size < w1.heap.size := by have := hb1.size; omega
  clear HCK hb0 hb1 x0 x1 HW0 hz0 hle0
  go_wp2_with fail
  refine (HCN.out _ hw1).mono ?_
  intro e w2 hco
  unfold ComI at hco
  cases hcm : comOut Z with
  | none =>
    rw [hcm] at hco
    obtain ⟨rfl, hb2⟩ := hco
    have hw2 : Below w.heap.size w w2 := hw1.trans (hb2.mono hw1.size)
    have HO := Lib.hid (HNONE.out hcm)
    clear hcm hb2 y0 y1
    go_wp2_with fail
    go_ret2
    rw [HO.out]
    exact ⟨rfl, hw2⟩
  | some d =>
    rw [hcm] at hco
    obtain ⟨B, rfl, hmap, hBw, hb2⟩ := hco
    obtain ⟨hcd, hd, hnb⟩ := HCS.out d hcm
    have HSD := Lib.hid (HSG.out d hcd hd.1)
    have hw2 : Below w.heap.size w w2 := hw1.trans (hb2.mono hw1.size)
    have z0 := (hb2.cell (p := ⟨w.heap.size, 0, none⟩) hz1).trans y0
    have z1 := (hb2.cell (p := ⟨w.heap.size, 1, none⟩) hz1).trans y1
    have hl := HL.out
    have hp := HP.out
    have HRM := Lib.hid (remainderNums_any _ _ _ B M Q Z (numI d) d w2 (H1.out.below hw2) (H2.out.below hw2) (H3.out.below hw2) hp hl (looks_map hmap HI6.out) ⟨by omega, hd.2⟩ hnb)
    have HO := Lib.hid (HSOME.out d hcm)
    have hlen := remL_length M Q (Z.map (numI d)) d
    generalize remL M Q (Z.map (numI d)) d = R at *
    have HLEN := Lib.hid hlen
    have hiff := solvK_iff R (Z.map (numI d)) M.length
    have hno := fun i (hi : i < M.length) => solvK_no (R := R) (L := Z.map (numI d)) hi
    obtain ⟨b, hb⟩ : ∃ b, b = solvK R (Z.map (numI d)) M.length := ⟨_, rfl⟩
    rw [← hb] at hiff hno HO
    have HIF := Lib.hid hiff
    have HNO := Lib.hid hno
    have HW2 := Lib.hid hw2
    have hge : ∀ i, i < M.length → (Z.map (numI d)).getD i 0 = numI d (Z.getD i (0, 0)) := fun i hi => by
      have : i < Z.length := by omega
      simp [this]
    have HGE := Lib.hid hge
    have HSD' := Lib.hid (fun i (hi : i < M.length) => HSD.out i (by omega))
    rw [hl] at HRM ⊢
    clear hl hp hcm hb2 y0 y1 hmap hnb hlen hd hw2 hw1 hiff hno hb hge HSD HSG hcd
    go_wp2_with fail
    refine HRM.out.mono ?_
    rintro e w3 ⟨g, rfl, hR, hb3⟩
    have HW3 := Lib.hid (HW2.out.trans (hb3.mono HW2.out.size))
    obtain ⟨_, _, hvv, _, hz5, hoo⟩ := id hR
    have hg3 : g < w3.heap.size := by simp at hvv; omega
    have hce : ∀ j, j < M.length → w3.cell? ⟨g, j, none⟩ = some (.int .i64 (R.getD j 0)) := fun j hj => by
      rw [own_cellN hoo HLEN.out.symm hj]
    have HCE := Lib.hid hce
    clear hR hb3 z0 z1 hvv hz5 hoo hce hz1
    go_wp2_with fail
    go_loopw [10, 11, 32] (fun _ _ i wr => ∃ k : Nat, k ≤ M.length ∧ i = .int .i64 k ∧ Hid (∀ i, i < k → (0 ≤ R.getD i 0 ∧ 0 ≤ (Z.map (numI d)).getD i 0 ∧ ¬ (R.getD i 0 ≠ 0 ∧ (Z.map (numI d)).getD i 0 ≠ 0))) ∧ Below w3.heap.size w3 wr) (fun _ _ i _ => M.length - (intOf i).toNat)
    case atStart => exact ⟨0, Nat.zero_le _, rfl, fun i hi => absurd hi (Nat.not_lt_zero _), Below.refl _ _⟩
    case round =>
      obtain ⟨k, hk, rfl, hgood, hB⟩ := hrel
      by_cases hlt : k < M.length
      · have t1 := (hB.cell (p := ⟨g, k, none⟩) hg3).trans (HCE.out k hlt)
        obtain ⟨t2, t3⟩ := HZ.out wr (HW3.out.trans (hB.mono HW3.out.size)) k (by have := HL.out; omega)
        have hn := HNO.out k hlt
        have hsg := HSD'.out k hlt
        rw [← HGE.out k hlt] at hsg
        obtain ⟨y, hy⟩ : ∃ y, y = (Z.map (numI d)).getD k 0 := ⟨_, rfl⟩
        obtain ⟨x, hx⟩ : ∃ x, x = R.getD k 0 := ⟨_, rfl⟩
        rw [← hx] at t1 hn
        rw [← hy] at hn hsg
        generalize (Z.getD k (0, 0)).1 = a at *
        generalize (Z.getD k (0, 0)).2 = c at *
        have HX := Lib.hid hx
        have HY := Lib.hid hy
        have HN := Lib.hid hn
        have HB := Lib.hid hB
        have HSY := Lib.hid hsg
        clear hx hy hn hB hsg
        have hnx : (0 ≤ x ∧ 0 ≤ y ∧ ¬ (x ≠ 0 ∧ y ≠ 0)) → Hid (∀ i, i < k + 1 → (0 ≤ R.getD i 0 ∧ 0 ≤ (Z.map (numI d)).getD i 0 ∧ ¬ (R.getD i 0 ≠ 0 ∧ (Z.map (numI d)).getD i 0 ≠ 0))) := fun h i hi => by
          by_cases e : i = k
          · subst e; rw [← HX.out, ← HY.out]; exact h
          · exact hgood.out i (by omega)
        have HNX := Lib.hid hnx
        clear hnx
        by_cases hx0 : a < 0
        · have hbf : Hid (b = false) := HN.out (by have := HSY.out; omega)
          go_wp2_with fail
          go_ret2
          rw [HO.out]
          exact ⟨by rw [hbf.out]; rfl, HW3.out.trans (HB.out.mono HW3.out.size)⟩
        by_cases hy0 : x < 0
        · have hbf : Hid (b = false) := HN.out (by omega)
          go_wp2_with fail
          go_ret2
          rw [HO.out]
          exact ⟨by rw [hbf.out]; rfl, HW3.out.trans (HB.out.mono HW3.out.size)⟩
        by_cases hx1 : a = 0
        · have HK := Lib.hid (HNX.out ⟨by omega, by have := HSY.out; omega, by have := HSY.out; omega⟩)
          clear HNX HN HX HSY hx0
          subst hx1
          go_wp2_with fail
          go_roundw
          case rel => exact ⟨k + 1, by omega, by go_num, HK.out, HB.out⟩
          case measure => simp [intOf]; omega
        have hxb : (a != 0) = true := by simp; omega
        by_cases hy1 : x = 0
        · have HK := Lib.hid (HNX.out ⟨by omega, by have := HSY.out; omega, by omega⟩)
          clear HNX HN HX HSY hy0
          subst hy1
          go_wp2_with fail
          go_roundw
          case rel => exact ⟨k + 1, by omega, by go_num, HK.out, HB.out⟩
          case measure => simp [intOf]; omega
        · have hyb : (x != 0) = true := by simp; omega
          have hbf : Hid (b = false) := HN.out (by have := HSY.out; omega)
          go_wp2_with fail
          go_ret2
          rw [HO.out]
          exact ⟨by rw [hbf.out]; rfl, HW3.out.trans (HB.out.mono HW3.out.size)⟩
      · obtain rfl : k = M.length := by omega
        have hbt : Hid (b = true) := HIF.out.2 hgood.out
        go_wp2_with fail
        go_ret2
        rw [HO.out]
        exact ⟨by rw [hbt.out]; rfl, HW3.out.trans (hB.mono HW3.out.size)⟩
end Go.Proofs.Ytgncaploccbfnaa.PW
