/-
  IsStationary: what it answers; the model's side.
-/
import Derived.Test.YtgncaploccbfnaaWPps
import Derived.Test.YtgncaploccbfnaaWCaf
import Derived.Test.YtgncaploccbfnaaWSml
import Derived.Test.YtgncaploccbfnaaVSol
namespace Go.Proofs.Ytgncaploccbfnaa.PW
open Go.RowKit Go.Proofs.Ytgncaploccbfnaa
open Go.Proofs.Ytgncaploccbfnaa.PM

def stOut (D : List (List Int)) (C : List Int) (A : List (List Int)) (B : List Int) (X Y : List (Int × Int)) : Bool × Int :=
  if wfCode D C A B X Y B.length = 0 then isoOut (tab (C.length + B.length) (ppG D A C.length)) (ppQ C B) (X ++ Y) else (false, wfCode D C A B X Y B.length)
theorem ppQ_length (C B : List Int) : (ppQ C B).length = C.length + B.length := by unfold ppQ; rw [List.length_append, List.length_map]
theorem pp_isPB {D : List (List Int)} {C : List Int} {A : List (List Int)} {B : List Int} (h : isWB D C A B = true) : isPB (tab (C.length + B.length) (ppG D A C.length)) (ppQ C B) = true := by
  have h := (isWB_is D C A B).1 h
  have h1 := h.n1
  have h5 := h.n5
  refine (isPB_iff _ _).2 ⟨(matB_iff _).2 ⟨by rw [tab_length]; omega, fun j hj => ?_⟩, by rw [tab_length, ppQ_length], (wit_iff _ _).2 fun j hj => ?_⟩
  · rw [tab_length] at hj
    rw [tab_row _ _ _ hj, tab_length]
    refine ⟨by simp, (wit_iff _ _).2 fun k hk => ?_⟩
    have hk : k < C.length + B.length := by simpa using hk
    have := ppG_bd h hj hk
    simpa [hk] using this
  · rw [ppQ_length] at hj
    unfold ppQ
    by_cases hc : j < C.length
    · rw [List.getD_eq_getElem?_getD, List.getElem?_append_left hc, ← List.getD_eq_getElem?_getD]
      exact h.c j hc
    · rw [List.getD_eq_getElem?_getD, List.getElem?_append_right (by omega)]
      have hb := h.b (j - C.length) (by omega)
      rw [List.getElem?_map, List.getElem?_eq_getElem (by omega)]
      rw [List.getD_eq_getElem?_getD, List.getElem?_eq_getElem (by omega)] at hb
      simp at hb ⊢
      omega
theorem frsB_append {X Y : List (Int × Int)} (h1 : frsB X = true) (h2 : frsB Y = true) : frsB (X ++ Y) = true := by
  unfold frsB at *
  rw [List.all_append, h1, h2]; rfl
theorem st_code {D : List (List Int)} {C : List Int} {A : List (List Int)} {B : List Int} {X Y : List (Int × Int)} (h : wfCode D C A B X Y B.length = 0) :
    fcCode (tab (C.length + B.length) (ppG D A C.length)) (ppQ C B) (X ++ Y) = 0 := by
  obtain ⟨hw, ⟨hx, hy⟩, hl, hm⟩ := wf_zero h
  unfold fcCode
  rw [if_pos (pp_isPB hw), if_pos (frsB_append hx hy), if_pos (by rw [List.length_append, tab_length, hl, hm])]
theorem st_no {D : List (List Int)} {C : List Int} {A : List (List Int)} {B : List Int} {X Y : List (Int × Int)} (h : ¬ wfCode D C A B X Y B.length = 0) : stOut D C A B X Y = (false, wfCode D C A B X Y B.length) := by unfold stOut; rw [if_neg h]
theorem st_ok {D : List (List Int)} {C : List Int} {A : List (List Int)} {B : List Int} {X Y : List (Int × Int)} (h : wfCode D C A B X Y B.length = 0) : stOut D C A B X Y = isoOut (tab (C.length + B.length) (ppG D A C.length)) (ppQ C B) (X ++ Y) := by unfold stOut; rw [if_pos h]
theorem freshF_frs {B n g cap : Nat} {w : World} {xs : List (Int × Int)} (h : FreshF B w (.slice (some ⟨g, 0, none⟩) n cap) xs) (hn : n = xs.length) (hI : ∀ x ∈ xs, I64 x.1 ∧ I64 x.2) : Frs w (.slice (some ⟨g, 0, none⟩) n cap) xs := by
  subst hn
  obtain ⟨g', cap', hv, h1, h2, ho⟩ := h
  simp only [Value.slice.injEq, Option.some.injEq, Addr.mk.injEq, and_true, true_and] at hv
  obtain ⟨rfl, rfl⟩ := hv
  rcases ho.2 with ⟨hz, _⟩ | ⟨g2, cap2, cur, hz, _, hh, hle, hm, _, _⟩
  · cases hz
  simp only [Value.slice.injEq, Option.some.injEq, Addr.mk.injEq, and_true, true_and] at hz
  obtain ⟨rfl, rfl⟩ := hz
  refine ⟨_, cap, rfl, hle, hm, hI, ?_⟩
  by_cases h0 : xs = []
  · exact .inl h0
  · refine .inr ⟨g, 0, rfl, h2, fun i hi => ⟨?_, ?_⟩⟩
    · rw [Nat.zero_add]; exact OwnF.cell0 ho rfl hi
    · rw [Nat.zero_add]; exact OwnF.cell1 ho rfl hi
theorem frs_i64 {w : World} {v : Value} {xs : List (Int × Int)} (h : Frs w v xs) : ∀ x ∈ xs, I64 x.1 ∧ I64 x.2 := by
  obtain ⟨_, _, _, _, _, h, _⟩ := h
  exact h
theorem pp_reads {B : Nat} {w : World} {m q : Value} {us : List Value} {D : List (List Int)} {C : List Int} {A : List (List Int)} {Bs : List Int} (hw : isWB D C A Bs = true) (h : OwnP B w m q (tab (C.length + Bs.length) (ppG D A C.length)) (ppQ C Bs) us) :
    PM.Rows w m (tab (C.length + Bs.length) (ppG D A C.length)) ∧ Ints w q (ppQ C Bs) := by
  have hf := fine_pp D C A Bs
  rw [ppOut_ok hw] at hf
  exact (h.rng (Nat.le_refl _)).reads hf.m64 hf.q64

set_option maxRecDepth 100000 in
set_option maxHeartbeats 8000000 in
theorem specIsStationary_any (d c a b x y : Value) (D : List (List Int)) (C : List Int) (A : List (List Int)) (B : List Int) (X Y : List (Int × Int)) (w : World) (h1 : PM.Rows w d D) (h2 : Ints w c C) (h3 : PM.Rows w a A) (h4 : Ints w b B) (h5 : Frs w x X) (h6 : Frs w y Y) (hs : szWn D C A B ≤ 1048576) :
    Calls Try.prog 44 #[.agg #[d, c, a, b], x, y] w fun e w' => e = .returned (.tuple #[.bool (stOut D C A B X Y).1, .int .i64 (stOut D C A B X Y).2]) ∧ Below w.heap.size w w' := by
  have HFR := Lib.hid (fun (w' : World) (h : Below w.heap.size w w') => l09Fracs_any d c a b x y D C A B X Y B.length w' (h1.below h) (h2.below h) (h3.below h) (h4.below h) (h5.below h) (h6.below h) hs)
  have HPP := Lib.hid (fun (hc : isWB D C A B = true) (w' : World) (h : Below w.heap.size w w') => l09Problem_any d c a b D C A B w' (h1.below h) (h2.below h) (h3.below h) (h4.below h) hc)
  have H5 := Lib.hid h5
  have H6 := Lib.hid h6
  obtain ⟨x1, y1, rfl, _⟩ := h1
  obtain ⟨x2, y2, rfl, _⟩ := h2
  obtain ⟨x3, y3, rfl, _⟩ := h3
  obtain ⟨x4, y4, rfl, _⟩ := h4
  obtain ⟨x5, y5, rfl, _⟩ := h5
  obtain ⟨x6, y6, rfl, _⟩ := h6
  clear hs
  obtain ⟨W0, hW0⟩ : ∃ W0, W0 = w.alloc (.cells #[.slice x1 D.length y1, .slice x2 C.length y2, .slice x3 A.length y3, .slice x4 B.length y4] 54) := ⟨_, rfl⟩
  have hb0 : Below w.heap.size w W0 := by rw [hW0]; exact (Below.refl _ _).alloc (Nat.le_refl _) _
  have hz0 : w.heap.size < W0.heap.size := by rw [hW0]; simp
  have k0 : W0.cell? ⟨w.heap.size, 0, none⟩ = some (.slice x1 D.length y1) := by rw [hW0]; simp
  have k1 : W0.cell? ⟨w.heap.size, 1, none⟩ = some (.slice x2 C.length y2) := by rw [hW0]; simp
  have k2 : W0.cell? ⟨w.heap.size, 2, none⟩ = some (.slice x3 A.length y3) := by rw [hW0]; simp
  have k3 : W0.cell? ⟨w.heap.size, 3, none⟩ = some (.slice x4 B.length y4) := by rw [hW0]; simp
  have HW0 := Lib.hid hW0
  clear hW0
  by_cases hc : wfCode D C A B X Y B.length = 0
  case neg =>
    rw [st_no hc]
    generalize wfCode D C A B X Y B.length = K at *
    have hcb : (K != 0) = true := by simp; omega
    clear hc HPP
    go_enter Try.func44, Try.ntmps44
    go_wp2_with fail
    rw [← HW0.out]
    refine (HFR.out _ hb0).mono ?_; rintro e w1 ⟨rfl, hb1⟩
    have hw1 : Below w.heap.size w w1 := hb0.trans (hb1.mono hb0.size)
    go_wp2_with fail
    go_ret2
    exact ⟨rfl, hw1⟩
  rw [st_ok hc]
  have hfc := st_code hc
  obtain ⟨hw, ⟨hfx, hfy⟩, hxl, hyl⟩ := wf_zero hc
  rw [hc] at HFR
  have hW := (isWB_is D C A B).1 hw
  have hn1 := hW.n1
  have hn5 := hW.n5
  have hfr := frsB_fracs (frsB_append hfx hfy)
  have HNONE := Lib.hid (fun h => isoOut_none hfc h)
  have HSOME := Lib.hid (fun d h => isoOut_some (d := d) hfc h)
  have HCS := Lib.hid (fun d h => comV_some (d := d) hfr h)
  have HNB := Lib.hid (fun d (h : ∀ x ∈ X ++ Y, -1000000000000 ≤ numI d x ∧ numI d x ≤ 1000000000000) => nums_bd h)
  have HNI := Lib.hid (fun d (h : ∀ x ∈ X ++ Y, -1000000000000 ≤ numI d x ∧ numI d x ≤ 1000000000000) => nums_i64 h)
  have HI := Lib.hid (fun z (hz : z ∈ X ++ Y) => (List.mem_append.1 hz).elim (frs_i64 H5.out z) (frs_i64 H6.out z))
  have HZL : Hid ((X ++ Y).length = C.length + B.length) := by show _ = _; rw [List.length_append, hxl, hyl]
  have HCN := Lib.hid (fun (v : Value) (w' : World) (h : Frs w' v (X ++ Y)) => l01Common_any v (X ++ Y) w' h hfr (by have := HZL.out; omega) (by have := HZL.out; omega))
  have HRD := Lib.hid (fun (Bq : Nat) (w' : World) (m q : Value) us => pp_reads (B := Bq) (w := w') (m := m) (q := q) (us := us) hw)
  have HSV := Lib.hid (fun (m q l : Value) (L : List Int) (d : Int) (w' : World) h1 h2 h3 => l01Solves_any m q l (tab (C.length + B.length) (ppG D A C.length)) (ppQ C B) L d w' h1 h2 h3 (pp_isPB hw))
  have HPP := Lib.hid (HPP.out hw)
  have hxn := Lib.hid hxl
  have hyn := Lib.hid hyl
  rw [tab_length] at HSOME HSV
  clear hc hfc hfx hfy hxl hyl hW hfr
  generalize isoOut (tab (C.length + B.length) (ppG D A C.length)) (ppQ C B) (X ++ Y) = OUT at *
  generalize tab (C.length + B.length) (ppG D A C.length) = T at *
  generalize ppQ C B = QQ at *
  clear hw
  go_enter Try.func44, Try.ntmps44
  go_wp2_with fail
  rw [← HW0.out]
  refine (HFR.out _ hb0).mono ?_; rintro e w1 ⟨rfl, hb1⟩
  have hw1 : Below w.heap.size w w1 := hb0.trans (hb1.mono hb0.size)
  have hz1 : w.heap.size < w1.heap.size := by have := hb1.size; omega
  have k0 := (hb1.cell (p := ⟨w.heap.size, 0, none⟩) hz0).trans k0
  have k1 := (hb1.cell (p := ⟨w.heap.size, 1, none⟩) hz0).trans k1
  have k2 := (hb1.cell (p := ⟨w.heap.size, 2, none⟩) hz0).trans k2
  have k3 := (hb1.cell (p := ⟨w.heap.size, 3, none⟩) hz0).trans k3
  clear hb1 hb0 hz0 HW0 HFR
  have hwa : Below w.heap.size w (w1.alloc (.cells #[] 98)) := hw1.alloc hw1.size _
  obtain ⟨ga, ca, w3, hr1, hF1, hB1⟩ := run_append_frs (w1.alloc (.cells #[] 98)) 41 (n := 0) (freshF_nil w1) rfl (H5.out.below hwa) (by rw [hxn.out]; simp; omega) (by simp)
  rw [Nat.zero_add, List.nil_append] at hF1
  rw [Nat.zero_add] at hr1
  have hB13 : Below w1.heap.size w1 w3 := ((Below.refl _ _).alloc (Nat.le_refl _) _).trans hB1
  have hw3 : Below w.heap.size w w3 := hw1.trans (hB13.mono hw1.size)
  obtain ⟨gb, cb, w4, hr2, hF2, hB2⟩ := run_append_frs w3 41 hF1 rfl (H6.out.below hw3) (by rw [hxn.out, hyn.out]; omega) hB13.size
  have hB14 := hB13.trans hB2
  have hw4 : Below w.heap.size w w4 := hw1.trans (hB14.mono hw1.size)
  have hz4 : w.heap.size < w4.heap.size := by have := hB14.size; omega
  have k0 := (hB14.cell (p := ⟨w.heap.size, 0, none⟩) hz1).trans k0
  have k1 := (hB14.cell (p := ⟨w.heap.size, 1, none⟩) hz1).trans k1
  have k2 := (hB14.cell (p := ⟨w.heap.size, 2, none⟩) hz1).trans k2
  have k3 := (hB14.cell (p := ⟨w.heap.size, 3, none⟩) hz1).trans k3
  have HFS := Lib.hid (freshF_frs hF2 (by rw [List.length_append]) HI.out)
  have HW4 := Lib.hid hw4
  clear hF1 hB1 hB13 hw3 hF2 hB2 hB14 hw1 hwa hz1
  go_wp2_with (first | (at_builtin; refine Lib.wpList_append_run_sl _ rfl _ _ 41 rfl _ _ rfl rfl hr1 ?_) | (at_builtin; refine Lib.wpList_append_run_sl _ rfl _ _ 41 rfl _ _ rfl rfl hr2 ?_))
  clear hr1 hr2
  refine (HCN.out _ _ HFS.out).mono ?_
  intro e w5 hco
  unfold ComS at hco
  cases hcm : comOut (X ++ Y) with
  | none =>
    rw [hcm] at hco
    obtain ⟨rfl, hb5⟩ := hco
    have hw5 : Below w.heap.size w w5 := HW4.out.trans (hb5.mono HW4.out.size)
    have HO := Lib.hid (HNONE.out hcm)
    clear hcm hb5 k0 k1 k2 k3
    go_wp2_with fail
    go_ret2
    rw [HO.out]
    exact ⟨rfl, hw5⟩
  | some dd =>
    rw [hcm] at hco
    obtain ⟨g4, c4, rfl, hf4, hb5⟩ := hco
    obtain ⟨_, hd, hnb⟩ := HCS.out dd hcm
    have hw5 : Below w.heap.size w w5 := HW4.out.trans (hb5.mono HW4.out.size)
    have k0 := (hb5.cell (p := ⟨w.heap.size, 0, none⟩) hz4).trans k0
    have k1 := (hb5.cell (p := ⟨w.heap.size, 1, none⟩) hz4).trans k1
    have k2 := (hb5.cell (p := ⟨w.heap.size, 2, none⟩) hz4).trans k2
    have k3 := (hb5.cell (p := ⟨w.heap.size, 3, none⟩) hz4).trans k3
    have HO := Lib.hid (HSOME.out dd hcm)
    have HLI := Lib.hid (freshI_ints2 hf4 (HNI.out dd hnb))
    have HLB := Lib.hid (fun t ht => HNB.out dd hnb t ht)
    have HLL : Hid (((X ++ Y).map (numI dd)).length = C.length + B.length) := by show _ = _; rw [List.length_map]; exact HZL.out
    have HD := Lib.hid (show 0 ≤ dd ∧ dd ≤ 1000000000 by omega)
    have HW5 := Lib.hid hw5
    have hz5 : w.heap.size < w5.heap.size := by have := hb5.size; omega
    obtain ⟨L, hL⟩ : ∃ L, L = (X ++ Y).map (numI dd) := ⟨_, rfl⟩
    obtain ⟨l0, hl0⟩ : ∃ l0, l0 = (X ++ Y).length := ⟨_, rfl⟩
    rw [← hL] at HO HLI HLL HLB
    rw [← hl0] at HLI HLB HZL ⊢
    clear hcm hb5 hf4 hnb hd hL hl0 hw5 HSOME HCS HNONE HCN HNB HNI HFS
    go_wp2_with fail
    refine (HPP.out _ HW5.out).mono ?_; rintro e w6 ⟨av, cv, aq, cq, us, rfl, ho, hb6⟩
    obtain ⟨hr1, hr2⟩ := HRD.out _ _ _ _ _ ho
    have hw6 : Below w.heap.size w w6 := HW5.out.trans (hb6.mono HW5.out.size)
    have hb56 : Below w5.heap.size w5 w6 := hb6
    have HW6 := Lib.hid hw6
    have HS6 := Lib.hid (HSV.out _ _ _ L dd w6 hr1 hr2 (HLI.out.below hb56) HLL.out HD.out (fun t ht => HLB.out t (by rw [HZL.out]; exact ht)))
    clear ho hb6 hr1 hr2 hw6 hb56 k0 k1 k2 k3
    go_wp2_with fail
    refine HS6.out.mono ?_; rintro e w7 ⟨rfl, hb7⟩
    have hw7 : Below w.heap.size w w7 := HW6.out.trans (hb7.mono HW6.out.size)
    go_wp2_with fail
    go_ret2
    rw [HO.out]
    exact ⟨rfl, hw7⟩
end Go.Proofs.Ytgncaploccbfnaa.PW
