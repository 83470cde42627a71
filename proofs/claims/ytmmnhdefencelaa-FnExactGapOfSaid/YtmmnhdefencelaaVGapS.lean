/-
  Walks: GapOf in the model.
-/
import Derived.Test.YtmmnhdefencelaaVGap
namespace Go.Proofs.Ytmmnhdefencelaa.PW
open Go.RowKit Go.Proofs.Ytmmnhdefencelaa
open Go.Proofs.Ytmmnhdefencelaa.PM Go.Proofs.Ytmmnhdefencelaa.PX

/-- A problem's box, and behind it the box of a fraction that is told. -/
structure Gb (w wr : World) (p0 p1 : Value) : Prop where
  b : Below w.heap.size w wr
  k0 : wr.cell? ⟨w.heap.size, 0, none⟩ = some p0
  k1 : wr.cell? ⟨w.heap.size, 1, none⟩ = some p1
  k2 : wr.cell? ⟨w.heap.size + 1, 0, none⟩ = some (.int .i64 0)
  k3 : wr.cell? ⟨w.heap.size + 1, 1, none⟩ = some (.int .i64 0)
  f0 : wr.frozen? ⟨w.heap.size + 1, 0, none⟩ = false
  f1 : wr.frozen? ⟨w.heap.size + 1, 1, none⟩ = false
  z : w.heap.size + 1 < wr.heap.size
theorem Gb.next {w wr wq : World} {p0 p1 : Value} (h : Gb w wr p0 p1) (hb : Below wr.heap.size wr wq) : Gb w wq p0 p1 :=
  have hz := h.z
  ⟨h.b.trans (hb.mono h.b.size), (hb.cell (p := ⟨w.heap.size, 0, none⟩) (by show w.heap.size < _; omega)).trans h.k0, (hb.cell (p := ⟨w.heap.size, 1, none⟩) (by show w.heap.size < _; omega)).trans h.k1,
    (hb.cell (p := ⟨w.heap.size + 1, 0, none⟩) hz).trans h.k2, (hb.cell (p := ⟨w.heap.size + 1, 1, none⟩) hz).trans h.k3,
    (hb.frozen (p := ⟨w.heap.size + 1, 0, none⟩) hz).trans h.f0, (hb.frozen (p := ⟨w.heap.size + 1, 1, none⟩) hz).trans h.f1, Nat.lt_of_lt_of_le hz hb.size⟩
theorem gb_new (w : World) (p0 p1 : Value) (T S : TypeId) : Gb w ((w.alloc (.cells #[p0, p1] T)).alloc (.cells #[.int .i64 0, .int .i64 0] S)) p0 p1 := by
  refine ⟨((Below.refl _ _).alloc (Nat.le_refl _) _).alloc (by simp) _, by simp, by simp, by simp, by simp, by simp, by simp, by simp⟩

theorem l02Told_one (g c : Nat) (x y : Int) (w : World) (h0 : w.cell? ⟨g, 0, none⟩ = some (.int .i64 x)) (h1 : w.cell? ⟨g, 1, none⟩ = some (.int .i64 y)) (hy : y ≤ 1000000000) :
    Calls Try.prog 86 #[.slice (some ⟨g, 0, none⟩) 1 c] w fun e w' => ∃ v, e = .returned (.tuple #[v, .int .i64 (if -1000000000 ≤ x ∧ x ≤ 1000000000 then 0 else 3)]) ∧ w = w' := by
  by_cases hx : -1000000000 ≤ x ∧ x ≤ 1000000000
  · have HL := Lib.hid (show decide ((-1000000000 : Int) ≤ x ∧ x ≤ 1000000000) = true from decide_eq_true hx)
    rw [if_pos hx]
    clear hx
    go_enter Try.func86, Try.ntmps86
    go_wp2_with fail
    go_loop [4] (fun i => ∃ k : Nat, k ≤ 1 ∧ i = .int .i64 k) (fun i => 1 - (intOf i).toNat)
    case atStart => exact ⟨0, Nat.zero_le _, rfl⟩
    case round =>
      obtain ⟨k, hk, rfl⟩ := hrel
      obtain rfl | rfl : k = 0 ∨ k = 1 := by omega
      · go_wp2_with fail
        refine (l01In_is x (-1000000000) 1000000000 true _ HL.out).mono ?_; rintro e w2 ⟨rfl, rfl⟩
        go_wp2_with fail
        go_round
        case rel => exact ⟨1, by omega, by go_num⟩
        case measure => simp [intOf]
      · go_wp2_with fail
        go_ret2
        exact ⟨⟨_, rfl⟩, rfl⟩
  · have HL := Lib.hid (show decide ((-1000000000 : Int) ≤ x ∧ x ≤ 1000000000) = false from decide_eq_false hx)
    rw [if_neg hx]
    clear hx
    go_enter Try.func86, Try.ntmps86
    go_wp2_with fail
    go_loop [4] (fun i => ∃ k : Nat, k = 0 ∧ i = .int .i64 k) (fun i => 1 - (intOf i).toNat)
    case atStart => exact ⟨0, rfl, rfl⟩
    case round =>
      obtain ⟨k, rfl, rfl⟩ := hrel
      go_wp2_with fail
      refine (l01In_is x (-1000000000) 1000000000 false _ HL.out).mono ?_; rintro e w2 ⟨rfl, rfl⟩
      go_wp2_with fail
      go_ret2
      exact ⟨_, rfl, rfl⟩

set_option maxRecDepth 100000 in
set_option maxHeartbeats 8000000 in
theorem specGapOf_any (m q z : Value) (M : List (List Int)) (Q : List Int) (Z : List (Int × Int)) (w : World) (h1 : PM.Rows w m M) (h2 : Ints w q Q) (h3 : Frs w z Z) :
    Calls Try.prog 38 #[.agg #[m, q], z] w fun e w' => e = .returned (.tuple #[.agg #[.int .i64 (gapOut M Q Z).1.1, .int .i64 (gapOut M Q Z).1.2], .int .i64 (gapOut M Q Z).2]) ∧ Below w.heap.size w w' := by
  have HCK := Lib.hid (fun (w' : World) (h : Below w.heap.size w w') => l01Fracs_any m q z M Q Z w' (h1.below h) (h2.below h) (h3.below h))
  have H3 := Lib.hid h3
  have H1 := Lib.hid h1
  have H2 := Lib.hid h2
  obtain ⟨a1, c1, rfl, _⟩ := h1
  obtain ⟨a2, c2, rfl, _⟩ := h2
  obtain ⟨W0, hW0⟩ : ∃ W0, W0 = (w.alloc (.cells #[.slice a1 M.length c1, .slice a2 Q.length c2] 27)).alloc (.cells #[.int .i64 0, .int .i64 0] 51) := ⟨_, rfl⟩
  have hg0 : Gb w W0 (.slice a1 M.length c1) (.slice a2 Q.length c2) := by rw [hW0]; exact gb_new _ _ _ _ _
  have HG0 := Lib.hid hg0
  have HW0 := Lib.hid hW0
  clear hg0 hW0
  rcases fc_cases M Q Z with hc | ⟨hc, hp, hf, hl⟩
  · rw [gapOut_err (by omega)]
    generalize fcCode M Q Z = C at *
    have hC0 : ¬ C = 0 := by omega
    have hCb : (C != 0) = true := by simp; omega
    obtain ⟨a3, c3, rfl, _⟩ := h3
    clear hc
    go_enter Try.func38, Try.ntmps38
    go_wp2_with fail
    rw [← HW0.out]
    refine (HCK.out _ HG0.out.b).mono ?_; rintro e w1 ⟨rfl, hb1⟩
    obtain ⟨hw1, k0, k1, k2, k3, f0, f1, hz1⟩ := HG0.out.next hb1
    clear hb1
    go_wp2_with fail
    refine bodyPost_ret (v := .tuple #[.agg #[.int .i64 0, .int .i64 0], .int .i64 C]) (by simp [*, results, Try.results38, go_sem]) rfl ?_
    refine ⟨rfl, ?_⟩
    (repeat' (first | (with_reducible exact Below.refl _ _) | (with_reducible assumption) | (with_reducible refine Below.alloc ?_ ?_ _) | (with_reducible refine Below.drew ?_) | (with_reducible refine below_drewN ?_ _) | (with_reducible refine Below.setCell ?_ ?_ _) | (with_reducible refine Below.trans ?_ (Below.mono (by with_reducible assumption) ?_)) | (with_reducible exact Below.size (by with_reducible assumption)) | go_size))
  rw [hc] at HCK
  have h5 := (isPB_facts hp).2.1
  have h51 := (isPB_facts hp).1
  have hfr := frsB_fracs hf
  have HCN := Lib.hid (fun (w' : World) (h : Below w.heap.size w w') => l01Common_any z Z w' (h3.below h) hfr (by omega) (by omega))
  obtain ⟨zb, zo, zc, rfl, _, hZc⟩ := h3.at_ (by omega)
  rw [hl] at hZc HCN HCK H3 ⊢
  have HZ := Lib.hid hZc
  have HNONE := Lib.hid (fun h => gapOut_none (M := M) (Q := Q) (Z := Z) hc h)
  have HSOME := Lib.hid (fun d h => gapOut_some (M := M) (Q := Q) (Z := Z) (d := d) hc h)
  have HBAD := Lib.hid (fun i (hi : i < M.length) h => gapD_bad (Z := Z) (i := i) (by omega) h)
  have HDEN := Lib.hid (fun i (hi : i < M.length) h => gapD_den hfr (i := i) (by omega) h)
  have HNI := Lib.hid (numsIn_iff Z)
  have HOK := Lib.hid (fun d => gapD_ok (Z := Z) (d := d))
  have HFR := Lib.hid hfr
  have HCS := Lib.hid (fun d h => comV_some (d := d) hfr h)
  have HNM := Lib.hid (fun d (hn : numsIn Z = true) hd => gap_nums (Q := Q) (d := d) hp hfr hl hn hd)
  have HL := Lib.hid hl
  have HP := Lib.hid hp
  generalize gapOut M Q Z = OUT at *
  clear hc hf hfr hl hp hZc
  obtain ⟨j0, hj, hyy0, hyy1, hyy2⟩ := info_parts info_frac
  go_enter Try.func38, Try.ntmps38
  go_wp2_with fail
  rw [← HW0.out]
  refine (HCK.out _ HG0.out.b).mono ?_; rintro e w1 ⟨rfl, hb1⟩
  have HG1 := Lib.hid (HG0.out.next hb1)
  clear HCK hb1 HW0 HG0
  go_wp2_with fail
  go_loopw [7] (fun i wr => ∃ k : Nat, k ≤ M.length ∧ i = .int .i64 k ∧ Hid (∀ i, i < k → -1000 ≤ (Z.getD i (0, 0)).1 ∧ (Z.getD i (0, 0)).1 ≤ 1000) ∧ Below w1.heap.size w1 wr) (fun i _ => M.length - (intOf i).toNat)
  case atStart => exact ⟨0, Nat.zero_le _, rfl, fun i hi => absurd hi (Nat.not_lt_zero _), Below.refl _ _⟩
  case round =>
    obtain ⟨k, hk, rfl, hgood, hB⟩ := hrel
    have HG := Lib.hid (HG1.out.next hB)
    have HB := Lib.hid hB
    clear hB
    by_cases hlt : k < M.length
    · obtain ⟨t0, t1⟩ := HZ.out wr HG.out.b k (by have := HL.out; omega)
      have HBD := Lib.hid (HBAD.out k hlt)
      have HDN := Lib.hid (HDEN.out k hlt)
      obtain ⟨x, hx⟩ : ∃ x, x = (Z.getD k (0, 0)).1 := ⟨_, rfl⟩
      obtain ⟨y, hy⟩ : ∃ y, y = (Z.getD k (0, 0)).2 := ⟨_, rfl⟩
      rw [← hx] at t0 HBD
      rw [← hy] at t1 HDN
      have HX := Lib.hid hx
      clear hx hy
      by_cases hin : -1000 ≤ x ∧ x ≤ 1000
      · have HL1 := Lib.hid (show decide ((-1000 : Int) ≤ x ∧ x ≤ 1000) = true from decide_eq_true hin)
        have hnx : Hid (∀ i, i < k + 1 → -1000 ≤ (Z.getD i (0, 0)).1 ∧ (Z.getD i (0, 0)).1 ≤ 1000) := fun i hi => by
          by_cases e : i = k
          · subst e; rw [← HX.out]; exact hin
          · exact hgood.out i (by omega)
        clear hin
        by_cases hy : 1000 < y
        · have HO := Lib.hid (HNONE.out (HDN.out hy))
          obtain ⟨hw1, k0, k1, k2, k3, f0, f1, hz1⟩ := HG.out
          clear HBD HDN
          go_wp2_with fail
          refine (l01In_is x (-1000) 1000 true _ HL1.out).mono ?_; rintro e w2 ⟨rfl, rfl⟩
          go_wp2_with fail
          refine bodyPost_ret (v := .tuple #[.agg #[.int .i64 0, .int .i64 0], .int .i64 2]) (by simp [*, results, Try.results38, go_sem]) rfl ?_
          rw [HO.out]
          refine ⟨rfl, ?_⟩
          (repeat' (first | (with_reducible exact Below.refl _ _) | (with_reducible assumption) | (with_reducible refine Below.alloc ?_ ?_ _) | (with_reducible refine Below.drew ?_) | (with_reducible refine below_drewN ?_ _) | (with_reducible refine Below.setCell ?_ ?_ _) | (with_reducible refine Below.trans ?_ (Below.mono (by with_reducible assumption) ?_)) | (with_reducible exact Below.size (by with_reducible assumption)) | go_size))
        · clear HBD HDN
          go_wp2_with fail
          refine (l01In_is x (-1000) 1000 true _ HL1.out).mono ?_; rintro e w2 ⟨rfl, rfl⟩
          go_wp2_with fail
          go_roundw
          case rel => exact ⟨k + 1, by omega, by go_num, hnx, HB.out⟩
          case measure => simp [intOf]; omega
      · have HL1 := Lib.hid (show decide ((-1000 : Int) ≤ x ∧ x ≤ 1000) = false from decide_eq_false hin)
        have HO := Lib.hid (HNONE.out (HBD.out hin))
        obtain ⟨hw1, k0, k1, k2, k3, f0, f1, hz1⟩ := HG.out
        clear HBD HDN hin
        go_wp2_with fail
        refine (l01In_is x (-1000) 1000 false _ HL1.out).mono ?_; rintro e w2 ⟨rfl, rfl⟩
        go_wp2_with fail
        refine bodyPost_ret (v := .tuple #[.agg #[.int .i64 0, .int .i64 0], .int .i64 2]) (by simp [*, results, Try.results38, go_sem]) rfl ?_
        rw [HO.out]
        refine ⟨rfl, ?_⟩
        (repeat' (first | (with_reducible exact Below.refl _ _) | (with_reducible assumption) | (with_reducible refine Below.alloc ?_ ?_ _) | (with_reducible refine Below.drew ?_) | (with_reducible refine below_drewN ?_ _) | (with_reducible refine Below.setCell ?_ ?_ _) | (with_reducible refine Below.trans ?_ (Below.mono (by with_reducible assumption) ?_)) | (with_reducible exact Below.size (by with_reducible assumption)) | go_size))
    · obtain rfl : k = M.length := by omega
      have hni : numsIn Z = true := HNI.out.2 (fun i hi => hgood.out i (by have := HL.out; omega))
      have HNIN := Lib.hid hni
      clear hni hgood
      go_wp2_with fail
      refine (HCN.out _ HG.out.b).mono ?_
      intro e w2 hco
      unfold ComS at hco
      cases hcm : comOut Z with
      | none =>
        rw [hcm] at hco
        obtain ⟨rfl, hb2⟩ := hco
        have HO := Lib.hid (HNONE.out (gapD_com hcm))
        obtain ⟨hw2, k0, k1, k2, k3, f0, f1, hz1⟩ := HG.out.next hb2
        clear hcm hb2
        go_wp2_with fail
        refine bodyPost_ret (v := .tuple #[.agg #[.int .i64 0, .int .i64 0], .int .i64 2]) (by simp [*, results, Try.results38, go_sem]) rfl ?_
        rw [HO.out]
        refine ⟨rfl, ?_⟩
        (repeat' (first | (with_reducible exact Below.refl _ _) | (with_reducible assumption) | (with_reducible refine Below.alloc ?_ ?_ _) | (with_reducible refine Below.drew ?_) | (with_reducible refine below_drewN ?_ _) | (with_reducible refine Below.setCell ?_ ?_ _) | (with_reducible refine Below.trans ?_ (Below.mono (by with_reducible assumption) ?_)) | (with_reducible exact Below.size (by with_reducible assumption)) | go_size))
      | some d =>
        rw [hcm] at hco
        obtain ⟨g4, c4, rfl, hf4, hb2⟩ := hco
        have HG2 := Lib.hid (HG.out.next hb2)
        obtain ⟨_, hd, hnb⟩ := HCS.out d hcm
        rw [HL.out] at hf4
        rw [HL.out]
        by_cases hdm : 1000 < d
        · have HO := Lib.hid (HNONE.out (gapD_far hcm hdm))
          obtain ⟨hw2, k0, k1, k2, k3, f0, f1, hz1⟩ := HG2.out
          clear hcm hb2 hf4 hnb hd
          go_wp2_with fail
          refine bodyPost_ret (v := .tuple #[.agg #[.int .i64 0, .int .i64 0], .int .i64 2]) (by simp [*, results, Try.results38, go_sem]) rfl ?_
          rw [HO.out]
          refine ⟨rfl, ?_⟩
          (repeat' (first | (with_reducible exact Below.refl _ _) | (with_reducible assumption) | (with_reducible refine Below.alloc ?_ ?_ _) | (with_reducible refine Below.drew ?_) | (with_reducible refine below_drewN ?_ _) | (with_reducible refine Below.setCell ?_ ?_ _) | (with_reducible refine Below.trans ?_ (Below.mono (by with_reducible assumption) ?_)) | (with_reducible exact Below.size (by with_reducible assumption)) | go_size))
        have HO := Lib.hid (HSOME.out d (HOK.out d HNIN.out hcm (by omega)))
        have hd2 : 1 ≤ d ∧ d ≤ 1000 := by omega
        have HRM := Lib.hid (l01Remainder_any _ _ _ M Q (Z.map (numI d)) d w2 (H1.out.below HG2.out.b) (H2.out.below HG2.out.b) (freshI_ints2 hf4 (nums_i64 hnb)) HP.out (by simpa using HL.out) ⟨by omega, by omega⟩ (fun t ht => nums_bd hnb t (by have := HL.out; omega)))
        obtain ⟨nL, nR, nS⟩ := HNM.out d HNIN.out hd2
        have hlen := remL_length M Q (Z.map (numI d)) d
        unfold gapS at HO
        generalize remL M Q (Z.map (numI d)) d = R at *
        obtain ⟨_, _, hvL, _, hzL, hoL⟩ := id hf4
        have hgL : g4 < w2.heap.size := by simp at hvL; omega
        have hlL : (Z.map (numI d)).length = M.length := by simpa using HL.out
        have hcL : ∀ j, j < M.length → w2.cell? ⟨g4, j, none⟩ = some (.int .i64 ((Z.map (numI d)).getD j 0)) := fun j hj => by
          rw [own_cellN hoL hlL.symm hj]
        generalize Z.map (numI d) = L at *
        have HCL := Lib.hid hcL
        have HNL := Lib.hid nL
        have HNR := Lib.hid nR
        have HNS := Lib.hid nS
        have HLEN := Lib.hid hlen
        obtain ⟨D, hD⟩ : ∃ D, D = d * d := ⟨_, rfl⟩
        have hDb := sq_bd hd2
        rw [← hD] at hDb HO
        have hwD : wrap64 D = D := IntWalk.wrap64_in _ (by omega)
        have hwD' : IntKind.i64.wrap D = D := IntWalk.i64_in _ (by omega)
        have HDB := Lib.hid hDb
        have hD' := hD.symm
        clear hcm hb2 hf4 hnb hd hd2 nL nR nS hlen hvL hzL hoL hlL hcL hDb hD
        obtain ⟨hw2, k0, k1, k2, k3, f0, f1, hz1⟩ := HG2.out
        go_wp2_with fail
        refine HRM.out.mono ?_
        rintro e w3 ⟨g, c, rfl, hR, hb3⟩
        have HG3 := Lib.hid (HG2.out.next hb3)
        obtain ⟨_, _, hvv, _, hz5, hoo⟩ := id hR
        have hg3 : g < w3.heap.size := by simp at hvv; omega
        have hce : ∀ j, j < M.length → w3.cell? ⟨g, j, none⟩ = some (.int .i64 (R.getD j 0)) := fun j hj => by
          rw [own_cellN hoo HLEN.out.symm hj]
        have HCE := Lib.hid hce
        have HB3 := Lib.hid hb3
        clear hR hb3 hvv hz5 hoo hce hw2 k0 k1 k2 k3 f0 f1 hz1
        go_wp2_with fail
        go_loopw [12, 13] (fun s i wr => ∃ (k : Nat) (S : Int), k ≤ M.length ∧ i = .int .i64 k ∧ s = .int .i64 S ∧ Hid (S = dotTo R L k) ∧ Below w3.heap.size w3 wr) (fun _ i _ => M.length - (intOf i).toNat)
        case atStart => exact ⟨0, 0, Nat.zero_le _, rfl, rfl, rfl, Below.refl _ _⟩
        case round =>
          obtain ⟨t, S, ht, rfl, rfl, hS, hBi⟩ := hrel
          have HGi := Lib.hid (HG3.out.next hBi)
          by_cases hltt : t < M.length
          · have t1 := (hBi.cell (p := ⟨g, t, none⟩) hg3).trans (HCE.out t hltt)
            have t2 := ((HB3.out.trans (hBi.mono HB3.out.size)).cell (p := ⟨g4, t, none⟩) hgL).trans (HCL.out t hltt)
            have hbd1 := HNS.out (t + 1) (by omega)
            have hl1 := HNL.out t hltt
            have hr1 := HNR.out t hltt
            have hstep : dotTo R L (t + 1) = dotTo R L t + L.getD t 0 * R.getD t 0 := rfl
            rw [← hS.out] at hstep
            obtain ⟨nx, hnx⟩ : ∃ nx, nx = R.getD t 0 := ⟨_, rfl⟩
            rw [← hnx] at t1 hr1 hstep
            obtain ⟨a, ha⟩ : ∃ a, a = L.getD t 0 := ⟨_, rfl⟩
            rw [← ha] at t2 hl1 hstep
            have hpr := PM.mul_bd (A := 1000000) (B := 110000000) hl1.1 hl1.2 hr1.1 hr1.2
            obtain ⟨p, hp⟩ : ∃ p, p = a * nx := ⟨_, rfl⟩
            rw [← hp] at hpr hstep
            obtain ⟨f1', hf1⟩ : ∃ f1', f1' = dotTo R L (t + 1) := ⟨_, rfl⟩
            rw [← hf1] at hbd1 hstep
            have hw2 : wrap64 p = p := IntWalk.wrap64_in _ (by omega)
            have hw3 : wrap64 f1' = f1' := IntWalk.wrap64_in _ (by omega)
            have hw2' : IntKind.i64.wrap p = p := IntWalk.i64_in _ (by omega)
            have hw3' : IntKind.i64.wrap f1' = f1' := IntWalk.i64_in _ (by omega)
            have hp' := hp.symm
            have hstep' := hstep.symm
            have HF1' := Lib.hid hf1
            have HBd := Lib.hid (fun n => below_drewN hBi n)
            clear hbd1 hpr hstep hp hf1 ha hnx hl1 hr1 hBi hS hwD hwD' hD'
            go_wp2_with fail
            go_quiet (fail)
            go_wp2_with fail
            go_roundw
            case rel => exact ⟨t + 1, f1', by omega, by go_num, (by first | rfl | simp only [hw2, hstep', hw3]), HF1', HBd.out _⟩
            case measure => simp [intOf]; omega
          · obtain rfl : t = M.length := by omega
            have hSb := HNS.out M.length (Nat.le_refl _)
            rw [← hS.out] at HO hSb
            have HFK := Lib.hid (fun w' => FW.l01Frac_any S D w' (by omega) (by omega) (by have := HDB.out; omega) (by have := HDB.out; omega) (by have := HDB.out; omega))
            have HIF := Lib.hid (gap_isF (S := S) HDB.out)
            have hy9 : FM.redD S D ≤ 1000000000 := by have := FM.redD_bd S D; have := HDB.out; omega
            have HTY := Lib.hid (fun h => told_yes (n := S) (d := D) h)
            have HTN := Lib.hid (fun h => told_no (n := S) (d := D) h)
            obtain ⟨tN, htN⟩ : ∃ tN, tN = FM.toldN S D := ⟨_, rfl⟩
            obtain ⟨tD, htD⟩ : ∃ tD, tD = FM.toldD S D := ⟨_, rfl⟩
            obtain ⟨tC, htC⟩ : ∃ tC, tC = FM.toldC S D := ⟨_, rfl⟩
            rw [← htN, ← htD, ← htC] at HO
            rw [← htN, ← htD, ← htC] at HTY HTN
            have HY9 := Lib.hid hy9
            clear hSb htN htD htC hy9
            generalize FM.isF (FM.redN S D) (FM.redD S D) = OKF at *
            generalize FM.redN S D = x at *
            generalize FM.redD S D = y at *
            obtain ⟨hw2, k0, k1, k2, k3, f0, f1, hz1⟩ := HGi.out
            clear hBi hS
            go_wp2_with fail
            refine (HFK.out _).mono ?_
            rintro e w5 ⟨rfl, hb5⟩
            have HG5 := Lib.hid (HGi.out.next hb5)
            clear hw2 k0 k1 k2 k3 f0 f1 hz1
            cases hok : OKF
            · obtain ⟨e1, e2, e3⟩ := HTN.out hok
              rw [e1, e2, e3] at HO
              clear e1 e2 e3
              have hno : ¬ (-1000000000 ≤ x ∧ x ≤ 1000000000) := fun h => by have := HIF.out.2 h; rw [hok] at this; cases this
              have HTL := Lib.hid (fun w' g c h0 h1 => l02Told_one g c x y w' h0 h1 HY9.out)
              rw [if_neg hno] at HTL
              clear hno hok HTY HTN HIF
              obtain ⟨hw5, m0, m1, m2, m3, n0, n1, hz5⟩ := HG5.out
              have hz6 : w.heap.size < w5.heap.size := by omega
              have hz7 : w.heap.size + 1 ≠ w5.heap.size := by omega
              have hz8 : w.heap.size ≠ w5.heap.size := by omega
              go_wp2_with fail
              refine (HTL.out _ _ _ (by simp) (by simp)).mono ?_
              rintro e w6 ⟨v6, rfl, rfl⟩
              go_wp2_with fail
              refine bodyPost_ret (v := .tuple #[.agg #[.int .i64 0, .int .i64 0], .int .i64 3]) (by simp [*, results, Try.results38, go_sem]) rfl ?_
              rw [HO.out]
              refine ⟨rfl, ?_⟩
              (repeat' (first | (with_reducible exact Below.refl _ _) | (with_reducible assumption) | (with_reducible refine Below.alloc ?_ ?_ _) | (with_reducible refine Below.drew ?_) | (with_reducible refine below_drewN ?_ _) | (with_reducible refine Below.setCell ?_ ?_ _) | (with_reducible refine Below.trans ?_ (Below.mono (by with_reducible assumption) ?_)) | (with_reducible exact Below.size (by with_reducible assumption)) | go_size))
            · obtain ⟨e1, e2, e3⟩ := HTY.out hok
              rw [e1, e2, e3] at HO
              clear e1 e2 e3
              have hno : -1000000000 ≤ x ∧ x ≤ 1000000000 := HIF.out.1 hok
              have HTL := Lib.hid (fun w' g c h0 h1 => l02Told_one g c x y w' h0 h1 HY9.out)
              rw [if_pos hno] at HTL
              clear hno hok HTY HTN HIF
              obtain ⟨hw5, m0, m1, m2, m3, n0, n1, hz5⟩ := HG5.out
              have hz6 : w.heap.size < w5.heap.size := by omega
              have hz7 : w.heap.size + 1 ≠ w5.heap.size := by omega
              have hz8 : w.heap.size ≠ w5.heap.size := by omega
              go_wp2_with fail
              refine (HTL.out _ _ _ (by simp) (by simp)).mono ?_
              rintro e w6 ⟨v6, rfl, rfl⟩
              go_wp2_with fail
              refine bodyPost_ret (v := .tuple #[.agg #[.int .i64 x, .int .i64 y], .int .i64 0]) (by simp [*, results, Try.results38, go_sem]) rfl ?_
              rw [HO.out]
              refine ⟨rfl, ?_⟩
              (repeat' (first | (with_reducible exact Below.refl _ _) | (with_reducible assumption) | (with_reducible refine Below.alloc ?_ ?_ _) | (with_reducible refine Below.drew ?_) | (with_reducible refine below_drewN ?_ _) | (with_reducible refine Below.setCell ?_ ?_ _) | (with_reducible refine Below.trans ?_ (Below.mono (by with_reducible assumption) ?_)) | (with_reducible exact Below.size (by with_reducible assumption)) | go_size))
end Go.Proofs.Ytmmnhdefencelaa.PW
