/-
  IsPlace: the answer; in the program.
-/
import Derived.Test.YtoglmkjmnknbbaaWMet
import Derived.Test.YtoglmkjmnknbbaaWSml
import Derived.Test.YtoglmkjmnknbbaaVNon
namespace Go.Proofs.Ytoglmkjmnknbbaa.PW
open Go.RowKit Go.Proofs.Ytoglmkjmnknbbaa
open Go.Proofs.Ytoglmkjmnknbbaa.PM Go.Proofs.Ytoglmkjmnknbbaa.PX

def ipOut (D : List (List Int)) (C : List Int) (A : List (List Int)) (B : List Int) (X : List (Int × Int)) : Bool × Int :=
  if wfCode D C A B X [] 0 ≠ 0 then (false, wfCode D C A B X [] 0) else match comOut X with
  | none => (false, 3)
  | some d => (nonnZ X && (List.range A.length).all (metJ A B (X.map (numI d)) d X.length), 0)
theorem ipOut_err {D : List (List Int)} {C : List Int} {A : List (List Int)} {B : List Int} {X : List (Int × Int)} (h : wfCode D C A B X [] 0 ≠ 0) : ipOut D C A B X = (false, wfCode D C A B X [] 0) := by unfold ipOut; rw [if_pos h]
theorem ipOut_none {D : List (List Int)} {C : List Int} {A : List (List Int)} {B : List Int} {X : List (Int × Int)} (h : wfCode D C A B X [] 0 = 0) (h2 : comOut X = none) : ipOut D C A B X = (false, 3) := by unfold ipOut; rw [if_neg (by omega), h2]
theorem ipOut_some {D : List (List Int)} {C : List Int} {A : List (List Int)} {B : List Int} {X : List (Int × Int)} {d : Int} (h : wfCode D C A B X [] 0 = 0) (h2 : comOut X = some d) :
    ipOut D C A B X = (nonnZ X && (List.range A.length).all (metJ A B (X.map (numI d)) d X.length), 0) := by unfold ipOut; rw [if_neg (by omega), h2]
theorem smD_com {X : List (Int × Int)} (hf : fracs X) : smD X 1000000000000 1000000000 = comOut X := by
  cases h : comOut X with
  | none => exact smD_none h
  | some d =>
    obtain ⟨_, hd, hb⟩ := comV_some hf h
    refine smD_some h hd.2 ((wit_iff _ _).2 (fun t ht => ?_))
    have ht' : t < X.length := by simpa using ht
    have := hb (X.getD t (0, 0)) (getD_mem2 ht')
    simpa [ht'] using this

/-- The rows of a table, each one as a value. -/
theorem rows_U {w : World} {v : Value} {A : List (List Int)} {n : Nat} (h : PM.Rows w v A) (hl : ∀ i, i < A.length → (A.getD i []).length = n) :
    ∃ (a : Option Addr) (c : Nat) (U : Nat → Value), v = .slice a A.length c ∧ (A.length = 0 ∨ ∃ b off, a = some ⟨b, off, none⟩ ∧ b < w.heap.size ∧ ∀ i, i < A.length → w.cell? ⟨b, off + i, none⟩ = some (U i)) ∧
      ∀ i, i < A.length → Ints w (U i) (A.getD i []) ∧ ∃ a c, U i = .slice a n c := by
  obtain ⟨a, c, rfl, _, _, hx⟩ := h
  rcases hx with rfl | ⟨b, off, rfl, hb, hc⟩
  · exact ⟨a, c, fun _ => undef, rfl, .inl rfl, fun i hi => absurd hi (Nat.not_lt_zero _)⟩
  · obtain ⟨U, hU⟩ : ∃ U : Nat → Value, ∀ i, i < A.length → w.cell? ⟨b, off + i, none⟩ = some (U i) ∧ Ints w (U i) (A.getD i []) := by
      classical
      refine ⟨fun i => if h : i < A.length then (hc i h).choose else undef, fun i hi => ?_⟩
      have := (hc i hi).choose_spec
      simpa [hi] using this
    refine ⟨some ⟨b, off, none⟩, c, U, rfl, .inr ⟨b, off, rfl, hb, fun i hi => (hU i hi).1⟩, fun i hi => ⟨(hU i hi).2, ?_⟩⟩
    obtain ⟨a', c', hv, _⟩ := (hU i hi).2
    exact ⟨a', c', by rw [hv, hl i hi]⟩
theorem ints_hd {w : World} {v : Value} {B : List Int} (h : Ints w v B) : ∃ (a : Option Addr) (c : Nat), v = .slice a B.length c ∧ (B.length = 0 ∨ ∃ b off, a = some ⟨b, off, none⟩ ∧ b < w.heap.size ∧ ∀ i, i < B.length → w.cell? ⟨b, off + i, none⟩ = some (.int .i64 (B.getD i 0))) := by
  obtain ⟨a, c, rfl, _, _, _, hx⟩ := h
  rcases hx with rfl | ⟨b, off, rfl, hb, hc⟩
  · exact ⟨a, c, rfl, .inl rfl⟩
  · exact ⟨_, c, rfl, .inr ⟨b, off, rfl, hb, hc⟩⟩

set_option maxRecDepth 100000 in
set_option maxHeartbeats 8000000 in
theorem implIsPlace_any (d c a b x : Value) (D : List (List Int)) (C : List Int) (A : List (List Int)) (B : List Int) (X : List (Int × Int)) (w : World) (h1 : PM.Rows w d D) (h2 : Ints w c C) (h3 : PM.Rows w a A) (h4 : Ints w b B) (h5 : Frs w x X) (hs : szWn D C A B ≤ 1048576) :
    Calls Try.prog 63 #[.agg #[d, c, a, b], x] w fun e w' => e = .returned (.tuple #[.bool (ipOut D C A B X).1, .int .i64 (ipOut D C A B X).2]) ∧ Below w.heap.size w w' := by
  have HNT := Lib.hid (fun (w' : World) (h : Below w.heap.size w w') => numsAt_any d c a b x D C A B X 1000000000000 1000000000 w' (h1.below h) (h2.below h) (h3.below h) (h4.below h) (h5.below h) hs (by decide) (by decide))
  have HZ := Lib.hid (wf_zero (D := D) (C := C) (A := A) (B := B) (X := X) (Y := []) (m := 0))
  have HE := Lib.hid (ipOut_err (D := D) (C := C) (A := A) (B := B) (X := X))
  have HN := Lib.hid (ipOut_none (D := D) (C := C) (A := A) (B := B) (X := X))
  have HSO := Lib.hid (fun d => ipOut_some (D := D) (C := C) (A := A) (B := B) (X := X) (d := d))
  have HAN := Lib.hid (fun (hn1 : 1 ≤ X.length) (hm : X.length ≤ 1048576) (w' : World) (h : Below w.heap.size w w') => areNonneg_frs x X w' (h5.below h) hn1 hm)
  generalize ipOut D C A B X = OUT at *
  generalize wfCode D C A B X [] 0 = CODE at *
  have H3 := Lib.hid h3
  have H4 := Lib.hid h4
  obtain ⟨x1, y1, rfl, _⟩ := h1
  obtain ⟨x2, y2, rfl, _⟩ := h2
  obtain ⟨x3, y3, rfl, _⟩ := h3
  obtain ⟨x4, y4, rfl, _⟩ := h4
  obtain ⟨x5, y5, rfl, _⟩ := h5
  obtain ⟨W0, hW0⟩ : ∃ W0, W0 = w.alloc (.cells #[.slice x1 D.length y1, .slice x2 C.length y2, .slice x3 A.length y3, .slice x4 B.length y4] 71) := ⟨_, rfl⟩
  have hb0 : Below w.heap.size w W0 := by rw [hW0]; exact (Below.refl _ _).alloc (Nat.le_refl _) _
  have hz0 : w.heap.size < W0.heap.size := by rw [hW0]; simp
  have k0 : W0.cell? ⟨w.heap.size, 0, none⟩ = some (.slice x1 D.length y1) := by rw [hW0]; simp
  have k1 : W0.cell? ⟨w.heap.size, 1, none⟩ = some (.slice x2 C.length y2) := by rw [hW0]; simp
  have k2 : W0.cell? ⟨w.heap.size, 2, none⟩ = some (.slice x3 A.length y3) := by rw [hW0]; simp
  have k3 : W0.cell? ⟨w.heap.size, 3, none⟩ = some (.slice x4 B.length y4) := by rw [hW0]; simp
  have HW0 := Lib.hid hW0
  have HB0 := Lib.hid hb0
  clear hW0 hs hb0
  go_enter Try.func63, Try.ntmps63
  go_wp2_with fail
  rw [← HW0.out]
  refine (HNT.out _ HB0.out).mono ?_
  rintro e w1 (⟨hc, rfl, hb1⟩ | ⟨hc, hsm, rfl, hb1⟩ | ⟨hc, dd, g, cc, hsm, rfl, hF, hb1⟩)
  · have hcb : (CODE != 0) = true := by simp; omega
    have HO := Lib.hid (HE.out hc)
    have HB1 := Lib.hid (HB0.out.trans (hb1.mono HB0.out.size))
    clear hb1 hc
    go_wp2_with fail
    go_ret2
    rw [HO.out]
    exact ⟨rfl, HB1.out⟩
  · obtain ⟨hw, ⟨hfx, _⟩, hl, _⟩ := HZ.out hc
    rw [smD_com (frsB_fracs hfx)] at hsm
    have HO := Lib.hid (HN.out hc hsm)
    have HB1 := Lib.hid (HB0.out.trans (hb1.mono HB0.out.size))
    clear hb1 hc hsm hw hfx hl
    go_wp2_with fail
    go_ret2
    rw [HO.out]
    exact ⟨rfl, HB1.out⟩
  obtain ⟨hw, ⟨hfx, _⟩, hl, _⟩ := HZ.out hc
  have hfr := frsB_fracs hfx
  have hsm2 := hsm
  rw [smD_com hfr] at hsm2
  obtain ⟨_, ⟨hd1, hd2, _⟩, hnb, hn7⟩ := smD_facts hfr hsm
  obtain ⟨⟨hca, hdl, hbl⟩, _, _, hrA, _, hwB⟩ := (isWB_iff D C A B).1 hw
  have hp := isPB_of hw
  obtain ⟨f1, f2, f3, f4, f5⟩ := isPB_facts hp
  have hO := HSO.out dd hc hsm2
  have hXl : 1 ≤ X.length ∧ X.length ≤ 5 := by omega
  have hAr : ∀ i, i < A.length → (A.getD i []).length = X.length := fun i hi => by rw [((rowsB_iff _ _).1 hrA i hi).1]; omega
  obtain ⟨L, hL⟩ : ∃ L, L = X.map (numI dd) := ⟨_, rfl⟩
  have hLI : ∀ x ∈ L, I64 x := by rw [hL]; exact nums_i64 hnb
  have hLl : L.length = X.length := by rw [hL]; simp
  rw [← hL] at hF hO hn7
  obtain ⟨a3, c3, U, hv3, hU1, hU2⟩ := rows_U H3.out hAr
  obtain ⟨a4, c4, hv4, hB4⟩ := ints_hd H4.out
  have hBd : ∀ k, k < A.length → -1000000000000000 ≤ B.getD k 0 * dd ∧ B.getD k 0 * dd ≤ 1000000000000000 := fun k hk => by
    have h := (wit_iff 100 B).1 hwB k (by omega)
    have := PM.mul_bd (A := 100) (B := 1000000000) h.1 h.2 (show -1000000000 ≤ dd by omega) (by omega)
    omega
  have hAd : ∀ k, k < A.length → ∀ i, i < X.length → -1000000000000000 ≤ (A.getD k []).getD i 0 * L.getD i 0 ∧ (A.getD k []).getD i 0 * L.getD i 0 ≤ 1000000000000000 := fun k hk i hi => by
    have h := (wit_iff 20 (A.getD k [])).1 ((rowsB_iff _ _).1 hrA k hk).2 i (by rw [hAr k hk]; exact hi)
    have h2 := hn7 i hi
    have := PM.mul_bd (A := 20) (B := 1000000000000) h.1 h.2 h2.1 h2.2
    omega
  have HDM := Lib.hid (fun (w' : World) (h : Below w.heap.size w w') => demandsOf_in (.slice x1 D.length y1) (.slice x2 C.length y2) a3 a4 c3 c4 A.length U B none w' (fun i hi => by obtain ⟨a, c, hu⟩ := (hU2 i hi).2; exact ⟨a, _, c, hu⟩) (by omega)
    (by rcases hU1 with hz | ⟨b, off, h1, h2, h3⟩
        · exact .inl hz
        · exact .inr ⟨b, off, h1, Nat.lt_of_lt_of_le h2 h.size, fun i hi => (h.cell (p := ⟨b, off + i, none⟩) h2).trans (h3 i hi)⟩)
    (by rcases hB4 with hz | ⟨b, off, h1, h2, h3⟩
        · exact .inl (by omega)
        · exact .inr ⟨b, off, h1, Nat.lt_of_lt_of_le h2 h.size, fun i hi => (h.cell (p := ⟨b, off + i, none⟩) h2).trans (h3 i (by omega))⟩))
  have HAM := Lib.hid (fun (ad : Option Addr) (lv : Value) (w' : World) (h : Below w.heap.size w w') (hd : DemS U B w' (List.range A.length) (.pointer ad) (.pointer none)) (hl : Ints w' lv L) =>
    areMetBy_any ad lv A B L dd X.length A.length U (List.range A.length) w' hd (fun k hk => by simpa using hk) (fun k hk => by obtain ⟨a, c, hu⟩ := (hU2 k hk).2; exact ⟨a, c, hu⟩)
      (fun k hk => ⟨(hU2 k hk).1.below h, hAr k hk⟩) hl hLl hXl.1 hXl.2 hAd hBd)
  have HPT := Lib.hid (fun (w' : World) (ks : List Nat) (v : Value) (h : DemS U B w' ks v (.pointer none)) => h.ptr ⟨_, rfl⟩)
  have HAX := Lib.hid (HAN.out hXl.1 (by omega))
  have HG1 := Lib.hid (HB0.out.trans (hb1.mono HB0.out.size))
  have HF := Lib.hid hF
  have HLI := Lib.hid hLI
  obtain ⟨MB, hMB⟩ : ∃ MB, MB = (List.range A.length).all (metJ A B L dd X.length) := ⟨_, rfl⟩
  rw [← hMB] at hO HAM
  have HO := Lib.hid hO
  have j0 := (hb1.cell (p := ⟨w.heap.size, 0, none⟩) hz0).trans k0
  have j1 := (hb1.cell (p := ⟨w.heap.size, 1, none⟩) hz0).trans k1
  have j2 := (hb1.cell (p := ⟨w.heap.size, 2, none⟩) hz0).trans k2
  have j3 := (hb1.cell (p := ⟨w.heap.size, 3, none⟩) hz0).trans k3
  have hz1 : w.heap.size < w1.heap.size := Nat.lt_of_lt_of_le hz0 hb1.size
  rw [hv3] at j2
  rw [hv4, hbl] at j3
  have hgw : g < w1.heap.size := by obtain ⟨g', c', hv', _, hlt', _⟩ := hF; simp at hv'; omega
  clear k0 k1 k2 k3 hz0 hc hsm hsm2 hw hfx hl hfr hd1 hd2 hnb hn7 hca hdl hbl hrA hwB hp f1 f2 f3 f4 f5 hO hXl hAr hL hLI hLl hF hv3 hU1 hU2 hv4 hB4 hBd hAd hMB hb1 HZ HE HN HSO HAN HNT HW0
  cases hnn : nonnZ X
  · rw [hnn] at HAX HO
    clear hnn
    go_wp2_with fail
    refine (HAX.out _ HG1.out).mono ?_
    rintro e w2 ⟨rfl, hb2⟩
    have HG2 := Lib.hid (HG1.out.trans (hb2.mono HG1.out.size))
    clear hb2
    go_wp2_with fail
    go_ret2
    rw [HO.out]
    exact ⟨rfl, HG2.out⟩
  · rw [hnn] at HAX HO
    clear hnn
    go_wp2_with fail
    refine (HAX.out _ HG1.out).mono ?_
    rintro e w2 ⟨rfl, hb2⟩
    have HG2 := Lib.hid (HG1.out.trans (hb2.mono HG1.out.size))
    have l0 := (hb2.cell (p := ⟨w.heap.size, 0, none⟩) hz1).trans j0
    have l1 := (hb2.cell (p := ⟨w.heap.size, 1, none⟩) hz1).trans j1
    have l2 := (hb2.cell (p := ⟨w.heap.size, 2, none⟩) hz1).trans j2
    have l3 := (hb2.cell (p := ⟨w.heap.size, 3, none⟩) hz1).trans j3
    have HF2 := Lib.hid (HF.out.below hb2)
    clear hb2 j0 j1 j2 j3
    go_wp2_with fail
    refine (callsIn_wide.1 (HDM.out _ HG2.out)).mono ?_
    rintro e w3 ⟨v, rfl, hd, hb3⟩
    obtain ⟨ad, rfl⟩ := HPT.out _ _ _ hd
    have hg3 := HG2.out.trans (hb3.mono HG2.out.size)
    have HAM3 := Lib.hid (HAM.out ad _ w3 hg3 hd (freshI_ints2 (HF2.out.below hb3) HLI.out))
    have HG3 := Lib.hid hg3
    clear hb3 hd hg3 l0 l1 l2 l3
    go_wp2_with fail
    refine HAM3.out.mono ?_
    rintro e w4 ⟨rfl, hb4⟩
    have HG4 := Lib.hid (HG3.out.trans (hb4.mono HG3.out.size))
    clear hb4
    go_wp2_with fail
    go_ret2
    rw [HO.out]
    exact ⟨rfl, HG4.out⟩
end Go.Proofs.Ytoglmkjmnknbbaa.PW
