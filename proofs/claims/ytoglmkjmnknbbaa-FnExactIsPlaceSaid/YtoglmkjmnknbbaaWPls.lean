/-
  IsPlace in the model; the exact law of IsPlace.
-/
import Derived.Test.YtoglmkjmnknbbaaWPla
import Derived.Test.YtoglmkjmnknbbaaVRemD
namespace Go.Proofs.Ytoglmkjmnknbbaa.PW
open Go.RowKit Go.Proofs.Ytoglmkjmnknbbaa
open Go.Proofs.Ytoglmkjmnknbbaa.PM Go.Proofs.Ytoglmkjmnknbbaa.PX

theorem num_sgn2 {xs : List (Int × Int)} {d : Int} (hf : fracs xs) (h : comD 1 xs = some d) (hd : 1 ≤ d) {x : Int × Int} (hx : x ∈ xs) : (x.1 < 0 ∧ numI d x < 0) ∨ (x.1 = 0 ∧ numI d x = 0) ∨ (0 < x.1 ∧ 0 < numI d x) := by
  obtain ⟨_, hdv⟩ := comV_dvd xs 1 d ⟨by decide, by decide⟩ hf h
  obtain ⟨q, hq⟩ := hdv x hx
  have h2 := FM.isF_yes (hf x hx)
  have hq0 : d.tdiv x.2 = q := by
    have h := Int.mul_tdiv_cancel_left q (show x.2 ≠ 0 by omega)
    rwa [← hq] at h
  have hq1 : 0 < q := by
    rcases Int.lt_or_le 0 q with h | h
    · exact h
    · have : x.2 * q ≤ 0 := Int.mul_nonpos_of_nonneg_of_nonpos (by omega) h
      omega
  unfold numI
  rw [hq0]
  rcases Int.lt_trichotomy x.1 0 with h | h | h
  · exact .inl ⟨h, Int.mul_neg_of_neg_of_pos h hq1⟩
  · exact .inr (.inl ⟨h, by rw [h]; simp⟩)
  · exact .inr (.inr ⟨h, Int.mul_pos h hq1⟩)
theorem nonn_no {X : List (Int × Int)} {d : Int} (hf : fracs X) (h : comOut X = some d) {k : Nat} (hk : k < X.length) (hl : (X.map (numI d)).getD k 0 < 0) : nonnZ X = false := by
  obtain ⟨h1, h2, _⟩ := comV_some hf h
  refine nonnZ_no hk ?_
  have := num_sgn2 hf h1 h2.1 (getD_mem2 hk)
  have e : (X.map (numI d)).getD k 0 = numI d (X.getD k (0, 0)) := by simp [hk]
  rw [e] at hl
  omega
theorem nonn_yes {X : List (Int × Int)} {d : Int} (hf : fracs X) (h : comOut X = some d) (hl : ∀ k, k < X.length → 0 ≤ (X.map (numI d)).getD k 0) : nonnZ X = true := by
  obtain ⟨h1, h2, _⟩ := comV_some hf h
  refine (nonnZ_iff X).2 (fun k hk => ?_)
  have := num_sgn2 hf h1 h2.1 (getD_mem2 hk)
  have e : (X.map (numI d)).getD k 0 = numI d (X.getD k (0, 0)) := by simp [hk]
  have hl := hl k hk
  rw [e] at hl
  omega
theorem met_no {A : List (List Int)} {B L : List Int} {d : Int} {n m j : Nat} (hj : j < m) (h : metJ A B L d n j = false) : (List.range m).all (metJ A B L d n) = false := by
  rw [List.all_eq_false]
  exact ⟨j, by simp [hj], by simp [h]⟩
theorem met_yes {A : List (List Int)} {B L : List Int} {d : Int} {n m : Nat} (h : ∀ j, j < m → metJ A B L d n j = true) : (List.range m).all (metJ A B L d n) = true := by
  rw [List.all_eq_true]
  intro j hj
  exact h j (by simpa using hj)

set_option maxRecDepth 100000 in
set_option maxHeartbeats 8000000 in
theorem specIsPlace_any (d c a b x : Value) (D : List (List Int)) (C : List Int) (A : List (List Int)) (B : List Int) (X : List (Int × Int)) (w : World) (h1 : PM.Rows w d D) (h2 : Ints w c C) (h3 : PM.Rows w a A) (h4 : Ints w b B) (h5 : Frs w x X) (hs : szWn D C A B ≤ 1048576) :
    Calls Try.prog 62 #[.agg #[d, c, a, b], x] w fun e w' => e = .returned (.tuple #[.bool (ipOut D C A B X).1, .int .i64 (ipOut D C A B X).2]) ∧ Below w.heap.size w w' := by
  have HFR := Lib.hid (fun (y : Value) (w' : World) (h : Below w.heap.size w w') (h6 : Frs w' y []) => l09Fracs_any d c a b x y D C A B X [] 0 w' (h1.below h) (h2.below h) (h3.below h) (h4.below h) (h5.below h) h6 hs)
  have HCO := Lib.hid (fun (hf : fracs X) (hn1 : 1 ≤ X.length) (hn : X.length ≤ 1000) (w' : World) (h : Below w.heap.size w w') => l01Common_any x X w' (h5.below h) hf hn1 hn)
  have HZ := Lib.hid (wf_zero (D := D) (C := C) (A := A) (B := B) (X := X) (Y := []) (m := 0))
  have HE := Lib.hid (ipOut_err (D := D) (C := C) (A := A) (B := B) (X := X))
  have HN := Lib.hid (ipOut_none (D := D) (C := C) (A := A) (B := B) (X := X))
  have HSO := Lib.hid (fun d => ipOut_some (D := D) (C := C) (A := A) (B := B) (X := X) (d := d))
  generalize ipOut D C A B X = OUT at *
  generalize wfCode D C A B X [] 0 = CODE at *
  have H3 := Lib.hid h3
  have H4 := Lib.hid h4
  obtain ⟨x1, y1, rfl, _⟩ := h1
  obtain ⟨x2, y2, rfl, _⟩ := h2
  obtain ⟨x3, y3, rfl, _⟩ := h3
  obtain ⟨x4, y4, rfl, _⟩ := h4
  obtain ⟨x5, y5, rfl, _⟩ := h5
  clear hs
  obtain ⟨W0, hW0⟩ : ∃ W0, W0 = (w.alloc (.cells #[.slice x1 D.length y1, .slice x2 C.length y2, .slice x3 A.length y3, .slice x4 B.length y4] 71)).alloc (.cells #[] 97) := ⟨_, rfl⟩
  have hb0 : Below w.heap.size w W0 := by rw [hW0]; exact ((Below.refl _ _).alloc (Nat.le_refl _) _).alloc (by simp) _
  have hz0 : w.heap.size < W0.heap.size := by rw [hW0]; simp; omega
  have k2 : W0.cell? ⟨w.heap.size, 2, none⟩ = some (.slice x3 A.length y3) := by rw [hW0]; simp [go_sem]
  have k3 : W0.cell? ⟨w.heap.size, 3, none⟩ = some (.slice x4 B.length y4) := by rw [hW0]; simp [go_sem]
  have HW0 := Lib.hid hW0
  have hfn : ∀ (W : World) (g c : Nat), c ≤ maxLen → Frs W (.slice (some ⟨g, 0, none⟩) 0 c) [] := fun W g c h => ⟨_, c, rfl, Nat.zero_le _, h, by simp, .inl rfl⟩
  have HFN := Lib.hid hfn
  have HK2 := Lib.hid k2
  have HK3 := Lib.hid k3
  clear hW0 hfn k2 k3
  go_enter Try.func62, Try.ntmps62
  go_wp2_with fail
  rw [← HW0.out]
  refine (HFR.out _ _ hb0 (HFN.out _ _ _ (by unfold maxLen; omega))).mono ?_; rintro e w1 ⟨rfl, hb1⟩
  have hw1 : Below w.heap.size w w1 := hb0.trans (hb1.mono hb0.size)
  have HW1 := Lib.hid hw1
  have j2 := (hb1.cell (p := ⟨w.heap.size, 2, none⟩) hz0).trans HK2.out
  have j3 := (hb1.cell (p := ⟨w.heap.size, 3, none⟩) hz0).trans HK3.out
  have HJ2 := Lib.hid j2
  have HJ3 := Lib.hid j3
  have hz1 : w.heap.size < w1.heap.size := Nat.lt_of_lt_of_le hz0 hb1.size
  clear hb1 hw1 hb0 HW0 HFR j2 j3 hz0
  by_cases hc : CODE = 0
  case neg =>
    have hcb : (CODE != 0) = true := by simp; omega
    have HO := Lib.hid (HE.out hc)
    clear hc
    go_wp2_with fail
    go_ret2
    rw [HO.out]
    exact ⟨rfl, HW1.out⟩
  have hcb : (CODE != 0) = false := by simp [hc]
  obtain ⟨hw, ⟨hfx, -⟩, hl, -⟩ := HZ.out hc
  have hfr := frsB_fracs hfx
  obtain ⟨⟨hca, hdl, hbl⟩, -, -, hrA, -, hwB⟩ := (isWB_iff D C A B).1 hw
  have hp := isPB_of hw
  have hcl := (isPB_facts hp).2.1
  have hcl1 := (isPB_facts hp).1
  have hql := (isPB_facts hp).2.2.1
  have hXl : 1 ≤ X.length ∧ X.length ≤ 5 := by omega
  have hAr : ∀ i, i < A.length → (A.getD i []).length = X.length := fun i hi => by rw [((rowsB_iff _ _).1 hrA i hi).1]; omega
  have HCO2 := Lib.hid (fun w' h => HCO.out hfr hXl.1 (by omega) w' h)
  have HBD := Lib.hid (fun d (h : comOut X = some d) => (comV_some hfr h).2)
  have HNN := Lib.hid (fun d (h : comOut X = some d) k hk hl => nonn_no hfr h (k := k) hk hl)
  have HNY := Lib.hid (fun d (h : comOut X = some d) hl => nonn_yes hfr h hl)
  have HC := Lib.hid hc
  obtain ⟨a3, c3, U, hv3, hU1, hU2⟩ := rows_U H3.out hAr
  obtain ⟨a4, c4, hv4, hB4⟩ := ints_hd H4.out
  have hBb : ∀ k, k < A.length → -100 ≤ B.getD k 0 ∧ B.getD k 0 ≤ 100 := fun k hk => (wit_iff 100 B).1 hwB k (by omega)
  have hAb : ∀ k, k < A.length → ∀ i, i < X.length → -20 ≤ (A.getD k []).getD i 0 ∧ (A.getD k []).getD i 0 ≤ 20 := fun k hk i hi => (wit_iff 20 (A.getD k [])).1 ((rowsB_iff _ _).1 hrA k hk).2 i (by rw [hAr k hk]; exact hi)
  -- what is read of the rows and of the numbers beside them
  have HRA := Lib.hid (fun (j : Nat) (hj : j < A.length) => show ∃ ba oa bj oj cj, a3 = some ⟨ba, oa, none⟩ ∧ ∀ wr : World, Below w.heap.size w wr → wr.cell? ⟨ba, oa + j, none⟩ = some (.slice (some ⟨bj, oj, none⟩) X.length cj) ∧ ∀ i, i < X.length → wr.cell? ⟨bj, oj + i, none⟩ = some (.int .i64 ((A.getD j []).getD i 0)) by
    rcases hU1 with hz | ⟨ba, oa, e1, e2, e3⟩
    · omega
    obtain ⟨hI, a', c', hu⟩ := hU2 j hj
    obtain ⟨av, cv, hv, _, _, _, hxx⟩ := hI
    rcases hxx with hxx | ⟨bj, oj, hav, hlt, hcj⟩
    · have := hAr j hj; rw [hxx] at this; simp at this; omega
    refine ⟨ba, oa, bj, oj, c', e1, fun wr h => ⟨?_, fun i hi => (h.cell (p := ⟨bj, oj + i, none⟩) hlt).trans (hcj i (by rw [hAr j hj]; exact hi))⟩⟩
    have e4 := (h.cell (p := ⟨ba, oa + j, none⟩) e2).trans (e3 j hj)
    rw [hu] at e4 hv
    simp at hv
    rw [hv.1, hav] at e4
    exact e4)
  have HRB := Lib.hid (fun (j : Nat) (hj : j < A.length) => show ∃ ba oa, a4 = some ⟨ba, oa, none⟩ ∧ ∀ wr : World, Below w.heap.size w wr → wr.cell? ⟨ba, oa + j, none⟩ = some (.int .i64 (B.getD j 0)) by
    rcases hB4 with hz | ⟨ba, oa, e1, e2, e3⟩
    · omega
    exact ⟨ba, oa, e1, fun wr h => (h.cell (p := ⟨ba, oa + j, none⟩) e2).trans (e3 j (by omega))⟩)
  have HAB := Lib.hid hAb
  have HBB := Lib.hid hBb
  have HX := Lib.hid hXl
  rw [hv3] at HJ2
  rw [hv4, hbl] at HJ3
  obtain ⟨m, hm⟩ : ∃ m, m = A.length := ⟨_, rfl⟩
  obtain ⟨n, hn⟩ : ∃ n, n = X.length := ⟨_, rfl⟩
  rw [← hm] at HRA HRB HAB HBB HJ2 HJ3
  have hm5 : m ≤ 5 := by omega
  have hn1 : 1 ≤ n := by omega
  have hn5 : n ≤ 5 := by omega
  have HM := Lib.hid hm
  have HNX := Lib.hid hn
  clear hc hw hfx hl hfr hca hdl hbl hrA hwB hp hcl hcl1 hql hXl hAr hv3 hU1 hU2 hv4 hB4 hBb hAb hm hn HCO HZ H3 H4 HE
  go_wp2_with fail
  refine (HCO2.out _ HW1.out).mono ?_
  intro e w2 hco
  unfold ComS at hco
  cases hcm : comOut X with
  | none =>
    rw [hcm] at hco
    obtain ⟨rfl, hb2⟩ := hco
    have HW2 := Lib.hid (HW1.out.trans (hb2.mono HW1.out.size))
    have HO := Lib.hid (HN.out HC.out hcm)
    clear hcm hb2
    go_wp2_with fail
    go_ret2
    rw [HO.out]
    exact ⟨rfl, HW2.out⟩
  | some dd =>
    rw [hcm] at hco
    obtain ⟨g4, c4', rfl, hf4, hb2⟩ := hco
    have HW2 := Lib.hid (HW1.out.trans (hb2.mono HW1.out.size))
    obtain ⟨hdd, hnb⟩ := HBD.out dd hcm
    have hso := HSO.out dd HC.out hcm
    have hnn := HNN.out dd hcm
    have hny := HNY.out dd hcm
    have hnl : (X.map (numI dd)).length = X.length := by simp
    obtain ⟨_, _, hvv, _, hz5, hoo⟩ := id hf4
    have hg4 : g4 < w2.heap.size := by simp at hvv; omega
    have hce : ∀ j, j < X.length → w2.cell? ⟨g4, j, none⟩ = some (.int .i64 ((X.map (numI dd)).getD j 0)) := fun j hj => by
      rw [own_cellN hoo hnl.symm hj]
    have hLb : ∀ j, j < X.length → -1000000000000 ≤ (X.map (numI dd)).getD j 0 ∧ (X.map (numI dd)).getD j 0 ≤ 1000000000000 := fun j hj => by
      have := hnb (X.getD j (0, 0)) (getD_mem2 hj)
      have e : (X.map (numI dd)).getD j 0 = numI dd (X.getD j (0, 0)) := by simp [hj]
      rw [e]
      exact this
    obtain ⟨L, hL⟩ : ∃ L, L = X.map (numI dd) := ⟨_, rfl⟩
    rw [← hL] at hso hnn hny hce hLb
    rw [← HNX.out] at hso hnn hny hce hLb ⊢
    rw [← HM.out] at hso
    have j2 := (hb2.cell (p := ⟨w.heap.size, 2, none⟩) hz1).trans HJ2.out
    have j3 := (hb2.cell (p := ⟨w.heap.size, 3, none⟩) hz1).trans HJ3.out
    have hz2 : w.heap.size < w2.heap.size := Nat.lt_of_lt_of_le hz1 hb2.size
    have HCE := Lib.hid hce
    have HLB := Lib.hid hLb
    have HNO := Lib.hid (fun k hk hl => show OUT = (false, 0) by rw [hso, hnn k hk hl]; rfl)
    have HYES := Lib.hid (fun hl => show OUT = ((List.range m).all (metJ A B L dd n), 0) by rw [hso, hny hl]; rfl)
    have J2 := Lib.hid j2
    have J3 := Lib.hid j3
    have hdd1 := hdd.1
    have hdd2 := hdd.2
    clear hL hcm hb2 hf4 hnb hdd hvv hz5 hoo hce hnl hso hnn hny hLb HBD HNN HNY HSO HN HCO2 j2 j3
    go_wp2_with fail
    go_loop [10] (fun i => ∃ k : Nat, k ≤ n ∧ i = .int .i64 k ∧ Hid (∀ j, j < k → 0 ≤ L.getD j 0)) (fun i => n - (intOf i).toNat)
    case atStart => exact ⟨0, Nat.zero_le _, rfl, fun j hj => absurd hj (Nat.not_lt_zero _)⟩
    case round =>
      obtain ⟨k, hk, rfl, hgood⟩ := hrel
      by_cases hlt : k < n
      · have t0 := HCE.out k hlt
        have hno : Hid (L.getD k 0 < 0 → OUT = (false, 0)) := fun h => HNO.out k hlt h
        have hnx : Hid (0 ≤ L.getD k 0 → ∀ j, j < k + 1 → 0 ≤ L.getD j 0) := fun h j hj => by
          by_cases e : j = k
          · subst e; exact h
          · exact hgood.out j (by omega)
        generalize L.getD k 0 = y at *
        by_cases hy : y < 0
        · have HO := Lib.hid (hno.out hy)
          clear hnx hno hgood
          go_wp2_with fail
          go_ret2
          rw [HO.out]
          exact ⟨rfl, HW2.out⟩
        · have HX2 := Lib.hid (hnx.out (by omega))
          clear hnx hno hgood
          go_wp2_with fail
          go_round
          case rel => exact ⟨k + 1, by omega, by go_num, HX2⟩
          case measure => simp [intOf]; omega
      · obtain rfl : k = n := by omega
        have HY := Lib.hid (HYES.out hgood.out)
        clear hgood
        go_wp2_with fail
        go_loopw [11, 12, 13] (fun j _ _ wr => ∃ jj : Nat, jj ≤ m ∧ j = .int .i64 jj ∧ Hid (∀ q, q < jj → metJ A B L dd k q = true) ∧ Below w2.heap.size w2 wr) (fun j _ _ _ => m - (intOf j).toNat)
        case atStart => exact ⟨0, Nat.zero_le _, rfl, fun j hj => absurd hj (Nat.not_lt_zero _), Below.refl _ _⟩
        case round =>
          obtain ⟨jj, hjj, rfl, hmet, hB⟩ := hrel
          have HB := Lib.hid hB
          have p3 := (hB.cell (p := ⟨w.heap.size, 3, none⟩) hz2).trans J3.out
          clear hB
          by_cases hlj : jj < m
          · obtain ⟨ba, oa, bj, oj, cj, ha3, hra⟩ := HRA.out jj hlj
            obtain ⟨bb, ob, ha4, hrb⟩ := HRB.out jj hlj
            have hbd := proTo_bd (a := A.getD jj []) (b := L) (n := k) (P := 20000000000000) (fun i hi => by
              have x := HAB.out jj hlj i (by rw [← HNX.out]; exact hi)
              have y := HLB.out i hi
              exact PM.mul_bd (A := 20) (B := 1000000000000) x.1 x.2 y.1 y.2)
            have hbb := HBB.out jj hlj
            have habj := fun i (hi : i < k) => HAB.out jj hlj i (by rw [← HNX.out]; exact hi)
            rw [← HNX.out] at hra
            have HRAJ := Lib.hid hra
            have HRBJ := Lib.hid hrb
            have HPB := Lib.hid hbd
            have HABJ := Lib.hid habj
            have HMET := Lib.hid hmet.out
            have HJ2' : Hid (w2.cell? ⟨w.heap.size, 2, none⟩ = some (.slice (some ⟨ba, oa, none⟩) m c3)) := Lib.hid (by rw [← ha3]; exact J2.out)
            have HJ3' : Hid (w2.cell? ⟨w.heap.size, 3, none⟩ = some (.slice (some ⟨bb, ob, none⟩) m c4)) := Lib.hid (by rw [← ha4]; exact J3.out)
            have hmt : metJ A B L dd k jj = decide (B.getD jj 0 * dd ≤ proTo (A.getD jj []) L k) := rfl
            have HMT := Lib.hid hmt
            obtain ⟨bz, hbz⟩ : ∃ bz, bz = B.getD jj 0 := ⟨_, rfl⟩
            rw [← hbz] at hbb HMT HRBJ
            have hx0 : (0 : Int) ≤ (jj : Int) := by omega
            have hx1 : (jj : Int) < (m : Int) := by omega
            clear hra hrb hbd habj ha3 ha4 hmet hmt hbz
            go_wp2_with fail
            go_loopw [12, 13] (fun s t wr' => ∃ kk : Nat, kk ≤ k ∧ t = .int .i64 kk ∧ s = .int .i64 (proTo (A.getD jj []) L kk) ∧ Below w2.heap.size w2 wr') (fun _ t _ => k - (intOf t).toNat)
            case atStart => exact ⟨0, Nat.zero_le _, rfl, rfl, HB.out⟩
            case round =>
              obtain ⟨kk, hkk, rfl, rfl, hB'⟩ := hrel
              have hbw := HW2.out.trans (hB'.mono HW2.out.size)
              have HB' := Lib.hid hB'
              by_cases hlk : kk < k
              · have q2 := (hB'.cell (p := ⟨w.heap.size, 2, none⟩) hz2).trans HJ2'.out
                obtain ⟨e1, e2⟩ := HRAJ.out _ hbw
                have e3 := e2 kk hlk
                have e4 := (hB'.cell (p := ⟨g4, kk, none⟩) hg4).trans (HCE.out kk hlk)
                have hp1 := HPB.out kk hkk
                have hp2 := HPB.out (kk + 1) hlk
                have x := HABJ.out kk hlk
                have y := HLB.out kk hlk
                have hm2 := PM.mul_bd (A := 20) (B := 1000000000000) x.1 x.2 y.1 y.2
                have he : Hid (proTo (A.getD jj []) L (kk + 1) = proTo (A.getD jj []) L kk + (A.getD jj []).getD kk 0 * L.getD kk 0) := rfl
                rw [he.out] at hp2
                have hy0 : (0 : Int) ≤ (kk : Int) := by omega
                have hy1 : (kk : Int) < (k : Int) := by omega
                clear hB' hbw e2
                generalize proTo (A.getD jj []) L kk = s at *
                generalize (A.getD jj []).getD kk 0 = u at *
                generalize L.getD kk 0 = v at *
                generalize hq : u * v = q at *
                have hs9 : -9000000000000000000 ≤ s + q ∧ s + q ≤ 9000000000000000000 := by omega
                have HQW := Lib.hid (show wrap64 (s + wrap64 q) = s + q by unfold wrap64; omega)
                clear hp1 hp2 hm2
                go_wp2_with fail
                go_quiet (fail)
                go_wp2_with fail
                go_roundw
                case rel => exact ⟨kk + 1, by omega, by go_num, by rw [he.out, HQW.out], below_drewN HB'.out _⟩
                case measure => simp [intOf]; omega
              · obtain rfl : kk = k := by omega
                have q3 := (hB'.cell (p := ⟨w.heap.size, 3, none⟩) hz2).trans HJ3'.out
                have e4 := HRBJ.out _ hbw
                have HBW := Lib.hid hbw
                have hpb := HPB.out kk (Nat.le_refl _)
                have hbz := PM.mul_bd (A := 100) (B := 1000000000) hbb.1 hbb.2 (show -1000000000 ≤ dd by omega) hdd2
                obtain ⟨S, hS⟩ : ∃ S, S = proTo (A.getD jj []) L kk := ⟨_, rfl⟩
                rw [← hS] at HMT hpb ⊢
                obtain ⟨q, hq⟩ : ∃ q, q = bz * dd := ⟨_, rfl⟩
                rw [← hq] at HMT hbz
                have hqw : wrap64 (bz * dd) = q := by rw [← hq]; unfold wrap64; omega
                clear hS hq hB' hbw
                by_cases hlq : S < q
                · have HO := Lib.hid (show OUT = (false, 0) by rw [HY.out, met_no hlj (by rw [HMT.out]; exact decide_eq_false (by omega))])
                  clear hpb hbz
                  go_wp2_with fail
                  go_ret2
                  rw [HO.out]
                  exact ⟨rfl, HBW.out⟩
                · have HT : Hid (∀ p, p < jj + 1 → metJ A B L dd kk p = true) := Lib.hid (fun p hp => by
                    by_cases e : p = jj
                    · rw [e, HMT.out]; exact decide_eq_true (by omega)
                    · exact HMET.out p (by omega))
                  clear hpb hbz
                  go_wp2_with fail
                  go_roundw
                  case rel => exact ⟨jj + 1, by omega, by go_num, HT, HB'.out⟩
                  case measure => simp [intOf]; omega
          · obtain rfl : jj = m := by omega
            have HO := Lib.hid (show OUT = (true, 0) by rw [HY.out, met_yes hmet.out])
            have HBF := Lib.hid (HW2.out.trans (HB.out.mono HW2.out.size))
            clear hmet
            go_wp2_with fail
            go_ret2
            rw [HO.out]
            exact ⟨rfl, HBF.out⟩
end Go.Proofs.Ytoglmkjmnknbbaa.PW
