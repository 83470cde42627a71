/-
  Walks: RemainderOf in the program.
-/
import Derived.Test.YtmmnhdefencelaaVRemD
namespace Go.Proofs.Ytmmnhdefencelaa.PW
open Go.RowKit Go.Proofs.Ytmmnhdefencelaa
open Go.Proofs.Ytmmnhdefencelaa.PM Go.Proofs.Ytmmnhdefencelaa.PX

set_option maxRecDepth 100000 in
set_option maxHeartbeats 16000000 in
theorem implRemainderOf_any (m q z : Value) (M : List (List Int)) (Q : List Int) (Z : List (Int × Int)) (w : World) (h1 : PM.Rows w m M) (h2 : Ints w q Q) (h3 : Frs w z Z) :
    Calls Try.prog 30 #[.agg #[m, q], z] w (OutF w (remOut M Q Z)) := by
  have HCK := Lib.hid (fun (w' : World) (h : Below w.heap.size w w') => checkFracs_any m q z M Q Z w' (h1.below h) (h2.below h) (h3.below h))
  have H3 := Lib.hid h3
  have H1 := Lib.hid h1
  have H2 := Lib.hid h2
  obtain ⟨a1, c1, rfl, _⟩ := h1
  obtain ⟨a2, c2, rfl, _⟩ := h2
  rcases fc_cases M Q Z with hc | ⟨hc, hp, hf, hl⟩
  · rw [remOut_err (by omega)]
    generalize fcCode M Q Z = C at *
    have hC0 : ¬ C = 0 := by omega
    have hCb : (C != 0) = true := by simp; omega
    obtain ⟨a3, c3, rfl, _⟩ := h3
    clear hc
    go_enter Try.func30, Try.ntmps30
    go_wp2_with fail
    refine (HCK.out _ (by (repeat' (first | (with_reducible exact Below.refl _ _) | (with_reducible assumption) | (with_reducible refine Below.alloc ?_ ?_ _) | (with_reducible refine Below.drew ?_) | (with_reducible refine below_drewN ?_ _) | (with_reducible refine Below.setCell ?_ ?_ _) | (with_reducible refine Below.trans ?_ (Below.mono (by with_reducible assumption) ?_)) | (with_reducible exact Below.size (by with_reducible assumption)) | go_size)))).mono ?_; rintro e w1 ⟨rfl, hb1⟩
    have hw1 : Below w.heap.size w w1 := by (repeat' (first | (with_reducible exact Below.refl _ _) | (with_reducible assumption) | (with_reducible refine Below.alloc ?_ ?_ _) | (with_reducible refine Below.drew ?_) | (with_reducible refine below_drewN ?_ _) | (with_reducible refine Below.setCell ?_ ?_ _) | (with_reducible refine Below.trans ?_ (Below.mono (by with_reducible assumption) ?_)) | (with_reducible exact Below.size (by with_reducible assumption)) | go_size))
    go_wp2_with fail
    go_ret2
    exact outF_nil hw1
  rw [hc] at HCK
  have h5 := (isPB_facts hp).2.1
  have h51 := (isPB_facts hp).1
  have hfr := frsB_fracs hf
  have HI6 := Lib.hid h3.i64
  have HCN := Lib.hid (fun (w' : World) (h : Below w.heap.size w w') => commonNums_any z Z w' (h3.below h) hfr (by omega) (by omega))
  obtain ⟨a3, c3, rfl, _⟩ := h3
  have HNONE := Lib.hid (fun h => remOut_none (M := M) (Q := Q) hc h)
  have HSOME := Lib.hid (fun d h => remOut_some (M := M) (Q := Q) (d := d) hc h)
  have HCS := Lib.hid (fun d h => comV_some (d := d) hfr h)
  generalize remOut M Q Z = OUT at *
  have HL := Lib.hid hl
  have HP := Lib.hid hp
  clear hc hf hfr hl hp
  obtain ⟨W0, hW0⟩ : ∃ W0, W0 = w.alloc (.cells #[.slice a1 M.length c1, .slice a2 Q.length c2] 27) := ⟨_, rfl⟩
  have hb0 : Below w.heap.size w W0 := by rw [hW0]; exact (Below.refl _ _).alloc (Nat.le_refl _) _
  have hz0 : w.heap.size < W0.heap.size := by rw [hW0]; simp
  have x0 : W0.cell? ⟨w.heap.size, 0, none⟩ = some (.slice a1 M.length c1) := by rw [hW0]; simp
  have x1 : W0.cell? ⟨w.heap.size, 1, none⟩ = some (.slice a2 Q.length c2) := by rw [hW0]; simp
  have HW0 := Lib.hid hW0
  have hle0 := hb0.size
  clear hW0
  go_enter Try.func30, Try.ntmps30
  go_wp2_with fail
  rw [← HW0.out]
  refine (HCK.out _ hb0).mono ?_; rintro e w1 ⟨rfl, hb1⟩
  have hw1 : Below w.heap.size w w1 := hb0.trans (hb1.mono hle0)
  have y0 := (hb1.cell (p := ⟨w.heap.size, 0, none⟩) hz0).trans x0
  have y1 := (hb1.cell (p := ⟨w.heap.size, 1, none⟩) hz0).trans x1
  have hz1 : w.heap.size < w1.heap.size := by have := hb1.size; omega
  clear HCK hb0 hb1 x0 x1 HW0 hz0 hle0
  go_wp2_with fail
  refine (HCN.out _ hw1).mono ?_
  intro e w2 hco
  unfold ComI at hco
  cases hcm : comOut Z with
  | none =>
    rw [hcm] at hco
    obtain ⟨rfl, hb2⟩ := hco
    have hw2 : Below w.heap.size w w2 := hw1.trans (hb2.mono hw1.size)
    have HO := Lib.hid (HNONE.out hcm)
    clear hcm hb2 y0 y1
    go_wp2_with fail
    go_ret2
    rw [HO.out]
    exact outF_nil hw2
  | some d =>
    rw [hcm] at hco
    obtain ⟨B, rfl, hmap, hBw, hb2⟩ := hco
    obtain ⟨_, hd, hnb⟩ := HCS.out d hcm
    have hw2 : Below w.heap.size w w2 := hw1.trans (hb2.mono hw1.size)
    have z0 := (hb2.cell (p := ⟨w.heap.size, 0, none⟩) hz1).trans y0
    have z1 := (hb2.cell (p := ⟨w.heap.size, 1, none⟩) hz1).trans y1
    have hl := HL.out
    have hp := HP.out
    have HRM := Lib.hid (remainderNums_any _ _ _ B M Q Z (numI d) d w2 (H1.out.below hw2) (H2.out.below hw2) (H3.out.below hw2) hp hl (looks_map hmap HI6.out) ⟨by omega, hd.2⟩ hnb)
    have HO := Lib.hid (HSOME.out d hcm)
    have hrb := rem_bd (L := Z.map (numI d)) hp ⟨by omega, hd.2⟩ (fun t ht => nums_bd hnb t (by omega))
    have hlen := remL_length M Q (Z.map (numI d)) d
    generalize remL M Q (Z.map (numI d)) d = R at *
    have HRB := Lib.hid hrb
    have HLEN := Lib.hid hlen
    have HD := Lib.hid hd
    have HW2 := Lib.hid hw2
    clear hl hp hcm hb2 y0 y1 hmap hnb hrb hlen hd hw2 hw1
    go_wp2_with fail
    refine HRM.out.mono ?_
    rintro e w3 ⟨g, rfl, hR, hb3⟩
    have HW3 := Lib.hid (HW2.out.trans (hb3.mono HW2.out.size))
    have hlf := limitedFracs_all (.slice (some ⟨g, 0, none⟩) M.length M.length) R d w3 (freshI_ints2 hR (fun x hx => by
      obtain ⟨j, hj, rfl⟩ := List.mem_iff_getElem.1 hx
      have := HRB.out j hj
      rw [show R.getD j 0 = R[j] by simp [hj]] at this
      unfold I64; omega)) (by rw [HLEN.out]; exact h51) (by rw [HLEN.out]; exact h5) (by have := HD.out; omega) (fun j hj => by have := HRB.out j hj; omega) (by have := HD.out; omega)
    rw [HLEN.out] at hlf
    have HLF := Lib.hid hlf
    clear hlf hR hb3 z0 z1
    go_wp2_with fail
    refine HLF.out.mono ?_
    rintro e w4 (⟨hno, rfl, hb4⟩ | ⟨hyes, g2, c4, rfl, hF, hb4⟩)
    · have HW4 := Lib.hid (HW3.out.trans (hb4.mono HW3.out.size))
      clear hb4
      go_wp2_with fail
      go_ret2
      rw [HO.out, limOut_no hno]
      exact outF_nil HW4.out
    · have HW4 := Lib.hid (HW3.out.trans (hb4.mono HW3.out.size))
      have HF := Lib.hid (hF.mono HW3.out.size)
      clear hb4 hF
      go_wp2_with fail
      go_ret2
      rw [HO.out, limOut_ok hyes]
      exact ⟨_, rfl, HF.out.rng, HW4.out⟩
end Go.Proofs.Ytmmnhdefencelaa.PW
