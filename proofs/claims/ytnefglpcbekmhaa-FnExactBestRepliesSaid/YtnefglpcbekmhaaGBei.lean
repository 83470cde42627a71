/-
  Walks: BestReplies in the program (written by gbei.py).
-/
import Derived.Test.YtnefglpcbekmhaaGBes
namespace Go.Proofs.Ytnefglpcbekmhaa.PW
open Go.RowKit Go.Proofs.Ytnefglpcbekmhaa
open Go.Proofs.Ytnefglpcbekmhaa.PM

theorem bestReplies_n (iv sv : Value) (P : List Int) (n : Nat) (w : World) (hPl : P.length = n) (hn1 : 1 ≤ n) (hn5 : n ≤ 5) (hP : ∀ j, j < P.length → 0 ≤ P.getD j 0) (hPI : ∀ x ∈ P, I64 x)
    (hpay : Calls Try.prog 94 #[iv, sv] w fun e w' => ∃ g, e = .returned (.slice (some ⟨g, 0, none⟩) n n) ∧ FreshI w.heap.size w' (.slice (some ⟨g, 0, none⟩) n n) P ∧ Below w.heap.size w w') :
    Calls Try.prog 88 #[iv, sv] w fun e w' => ∃ v, e = .returned v ∧ OrI w.heap.size w' v (repL P) ∧ Below w.heap.size w w' := by
  subst hPl
  exact bestReplies_any iv sv P w hn1 hn5 hP hPI hpay

set_option maxRecDepth 100000 in
theorem playersOf_any (a1 a2 : Option Addr) (n1 c1 n2 c2 : Nat) (w : World) :
    Calls Try.prog 86 #[.agg #[.slice a1 n1 c1, .slice a2 n2 c2]] w fun e w' => e = .returned (.agg #[.iface 150 (.slice a1 n1 c1), .iface 151 (.slice a2 n2 c2)]) ∧ Below w.heap.size w w' := by
  go_enter Try.func86, Try.ntmps86
  go_wp2_with fail
  refine bodyPost_ret (v := .agg #[.iface 150 (.slice a1 n1 c1), .iface 151 (.slice a2 n2 c2)]) (by simp [*, results, Try.results86, go_sem]) rfl ?_
  refine ⟨rfl, ?_⟩
  (repeat' (first | (with_reducible exact Below.refl _ _) | (with_reducible assumption) | (with_reducible refine Below.alloc ?_ ?_ _) | (with_reducible refine Below.drew ?_) | (with_reducible refine below_drewN ?_ _) | (with_reducible refine Below.setCell ?_ ?_ _) | (with_reducible refine Below.trans ?_ (Below.mono (by with_reducible assumption) ?_)) | (with_reducible exact Below.size (by with_reducible assumption)) | go_size))

set_option maxRecDepth 100000 in
set_option maxHeartbeats 8000000 in
theorem implBestReplies_any (m q l : Value) (A B : List (List Int)) (Z : List (Int × Int)) (p : Int) (w : World) (h1 : PM.Rows w m A) (h2 : PM.Rows w q B) (h3 : Frs w l Z) (hs : tot A ≤ 1048576) :
    Calls Try.prog 38 #[.agg #[m, q], .int .i64 p, l] w (OutI w (beOut A B p Z)) := by
  have HIS := Lib.hid (fun (w' : World) (h : Below w.heap.size w w') => implIsGame_any m q A B w' (h1.below h) (h2.below h) hs)
  clear hs
  cases hc : isGB A B
  · rw [beOut_no hc]
    rw [hc] at HIS
    obtain ⟨a1, c1, rfl, _⟩ := h1
    obtain ⟨a2, c2, rfl, _⟩ := h2
    obtain ⟨a3, c3, rfl, _⟩ := h3
    clear hc
    go_enter Try.func38, Try.ntmps38
    go_wp2_with fail
    refine (HIS.out _ (by (repeat' (first | (with_reducible exact Below.refl _ _) | (with_reducible assumption) | (with_reducible refine Below.alloc ?_ ?_ _) | (with_reducible refine Below.drew ?_) | (with_reducible refine below_drewN ?_ _) | (with_reducible refine Below.setCell ?_ ?_ _) | (with_reducible refine Below.trans ?_ (Below.mono (by with_reducible assumption) ?_)) | (with_reducible exact Below.size (by with_reducible assumption)) | go_size)))).mono ?_; rintro e w1 ⟨rfl, hb1⟩
    have hw1 : Below w.heap.size w w1 := by (repeat' (first | (with_reducible exact Below.refl _ _) | (with_reducible assumption) | (with_reducible refine Below.alloc ?_ ?_ _) | (with_reducible refine Below.drew ?_) | (with_reducible refine below_drewN ?_ _) | (with_reducible refine Below.setCell ?_ ?_ _) | (with_reducible refine Below.trans ?_ (Below.mono (by with_reducible assumption) ?_)) | (with_reducible exact Below.size (by with_reducible assumption)) | go_size))
    go_wp2_with fail
    go_ret2
    exact outI_nilG hw1
  rw [hc] at HIS
  by_cases hp01 : p = 0 ∨ p = 1
  case neg =>
    rw [beOut_far hc (by omega) (by omega)]
    have hq0 : (p != 0) = true := by simp; omega
    have hq1 : (p != 1) = true := by simp; omega
    obtain ⟨a1, c1, rfl, _⟩ := h1
    obtain ⟨a2, c2, rfl, _⟩ := h2
    obtain ⟨a3, c3, rfl, _⟩ := h3
    clear hc hp01
    go_enter Try.func38, Try.ntmps38
    go_wp2_with fail
    refine (HIS.out _ (by (repeat' (first | (with_reducible exact Below.refl _ _) | (with_reducible assumption) | (with_reducible refine Below.alloc ?_ ?_ _) | (with_reducible refine Below.drew ?_) | (with_reducible refine below_drewN ?_ _) | (with_reducible refine Below.setCell ?_ ?_ _) | (with_reducible refine Below.trans ?_ (Below.mono (by with_reducible assumption) ?_)) | (with_reducible exact Below.size (by with_reducible assumption)) | go_size)))).mono ?_; rintro e w1 ⟨rfl, hb1⟩
    have hw1 : Below w.heap.size w w1 := by (repeat' (first | (with_reducible exact Below.refl _ _) | (with_reducible assumption) | (with_reducible refine Below.alloc ?_ ?_ _) | (with_reducible refine Below.drew ?_) | (with_reducible refine below_drewN ?_ _) | (with_reducible refine Below.setCell ?_ ?_ _) | (with_reducible refine Below.trans ?_ (Below.mono (by with_reducible assumption) ?_)) | (with_reducible exact Below.size (by with_reducible assumption)) | go_size))
    go_wp2_with fail
    go_ret2
    exact outI_nilG hw1
  have hg := (isGB_iff A B).1 hc
  obtain ⟨k1, l1, n5, bk, al, bl, ae, be⟩ := hg
  have H1 := Lib.hid h1
  have H2 := Lib.hid h2
  obtain ⟨b, off, c, rfl, hA⟩ := tab_at h1 k1 l1 al
  obtain ⟨qb, qo, qc, rfl, hB⟩ := tab_at h2 (by omega) l1 (fun i hi => bl i (by omega))
  have H3 := Lib.hid h3
  obtain ⟨a3, c3, rfl, _⟩ := h3
  have hTA : TabAt w b off A A.length (gcols A) := hA
  have hTB : TabAt w qb qo B A.length (gcols A) := fun wr hw i hi => hB wr hw i (by omega)
  have HTA := Lib.hid hTA
  have HTB := Lib.hid hTB
  rw [bk] at H2 HIS ⊢
  have HAE := Lib.hid ae
  have HBE := Lib.hid be
  have HAL := Lib.hid (al 0 (by omega))
  have HBL := Lib.hid (bl 0 (by omega))
  have HBK := Lib.hid bk
  have hk5 : A.length ≤ 5 := by omega
  have hl5 : gcols A ≤ 5 := by omega
  obtain ⟨W0, hW0⟩ : ∃ W0, W0 = w.alloc (.cells #[.slice (some ⟨b, off, none⟩) A.length c, .slice (some ⟨qb, qo, none⟩) A.length qc] 43) := ⟨_, rfl⟩
  have hb0 : Below w.heap.size w W0 := by rw [hW0]; exact (Below.refl _ _).alloc (Nat.le_refl _) _
  have hz0 : w.heap.size < W0.heap.size := by rw [hW0]; simp
  have x0 : W0.cell? ⟨w.heap.size, 0, none⟩ = some (.slice (some ⟨b, off, none⟩) A.length c) := by rw [hW0]; simp
  have x1 : W0.cell? ⟨w.heap.size, 1, none⟩ = some (.slice (some ⟨qb, qo, none⟩) A.length qc) := by rw [hW0]; simp
  have HW0 := Lib.hid hW0
  have HB0 := Lib.hid hb0
  have HK := Lib.hid (fun wr (h : Below W0.heap.size W0 wr) => show wr.cell? ⟨w.heap.size, 0, none⟩ = some (.slice (some ⟨b, off, none⟩) A.length c) ∧ wr.cell? ⟨w.heap.size, 1, none⟩ = some (.slice (some ⟨qb, qo, none⟩) A.length qc) from
    ⟨(h.cell (p := ⟨w.heap.size, 0, none⟩) hz0).trans x0, (h.cell (p := ⟨w.heap.size, 1, none⟩) hz0).trans x1⟩)
  have HC := Lib.hid hc
  clear hW0 hb0 x0 x1 hA hB hTA hTB bk al bl ae be hc hz0 n5 h1 h2
  rcases hp01 with rfl | rfl
  · have HNONE := Lib.hid (beOut_0n (Z := Z) HC.out)
    have HSOME := Lib.hid (fun L d => beOut_0s (Z := Z) (L := L) (d := d) HC.out)
    have HSH := Lib.hid (fun (w' : World) (h : Below w.heap.size w w') => sharesOf_any _ Z (gcols A) w' (H3.out.below h) (by omega) (by omega))
    generalize beOut A B 0 Z = OUT at *
    go_enter Try.func38, Try.ntmps38
    go_wp2_with fail
    rw [← HW0.out]
    refine (HIS.out _ HB0.out).mono ?_; rintro e w1 ⟨rfl, hb1⟩
    obtain ⟨e0, e1⟩ := HK.out w1 hb1
    have HW1 := Lib.hid (HB0.out.trans (hb1.mono HB0.out.size))
    clear hb1 HIS HW0
    go_wp2_with fail
    refine (playersOf_any _ _ _ _ _ _ w1).mono ?_
    rintro e w2 ⟨rfl, hb2⟩
    have HW2 := Lib.hid (HW1.out.trans (hb2.mono HW1.out.size))
    clear hb2 e0 e1
    go_wp2_with fail
    obtain ⟨W3, hW3⟩ : ∃ W3, W3 = w2.alloc (.cells #[.iface 150 (.slice (some ⟨b, off, none⟩) A.length c), .iface 151 (.slice (some ⟨qb, qo, none⟩) A.length qc)] 104) := ⟨_, rfl⟩
    have hw3 : Below w.heap.size w W3 := by rw [hW3]; exact HW2.out.alloc HW2.out.size _
    have z0 : W3.cell? ⟨w2.heap.size, 0, none⟩ = some (.iface 150 (.slice (some ⟨b, off, none⟩) A.length c)) := by rw [hW3]; simp
    have z1 : W3.cell? ⟨w2.heap.size, 1, none⟩ = some (.iface 151 (.slice (some ⟨qb, qo, none⟩) A.length qc)) := by rw [hW3]; simp
    have hz3 : w2.heap.size < W3.heap.size := by rw [hW3]; simp
    have HW3 := Lib.hid hw3
    have HZ0 := Lib.hid (fun wr (h : Below W3.heap.size W3 wr) => show wr.cell? ⟨w2.heap.size, 0, none⟩ = some (.iface 150 (.slice (some ⟨b, off, none⟩) A.length c)) ∧ wr.cell? ⟨w2.heap.size, 1, none⟩ = some (.iface 151 (.slice (some ⟨qb, qo, none⟩) A.length qc)) from
      ⟨(h.cell (p := ⟨w2.heap.size, 0, none⟩) hz3).trans z0, (h.cell (p := ⟨w2.heap.size, 1, none⟩) hz3).trans z1⟩)
    rw [← hW3]
    clear hW3 z0 z1 hw3
    refine (choices_col _ B (gcols A) _ (H2.out.below HW3.out) (by have := HBK.out; omega) HBL.out).mono ?_
    rintro e w4 ⟨rfl, rfl⟩
    go_wp2_with fail
    refine (HSH.out _ HW3.out).mono ?_
    rintro e w5 (⟨hno, u, rfl, hb5⟩ | ⟨L, d, hso, g, rfl, hF, hb5⟩)
    · have HO := Lib.hid (HNONE.out hno)
      have hw5 : Below w.heap.size w w5 := HW3.out.trans (hb5.mono HW3.out.size)
      clear hno hb5
      go_wp2_with fail
      go_ret2
      rw [HO.out]
      exact outI_nilG hw5
    · obtain ⟨f1, f2, f3, f4⟩ := mix_facts hso
      have HO := Lib.hid (HSOME.out L d hso)
      have HW5 := Lib.hid (HW3.out.trans (hb5.mono HW3.out.size))
      obtain ⟨g0, g1⟩ := HZ0.out w5 hb5
      have hpl : (payL (fun o t => gE A o t) L A.length (gcols A)).length = A.length := by simp [payL]
      have hpay := payoffsAgainst_row b off c A.length (gcols A) (fun o t => gE A o t) _ L w5 (fun w' h => choices_row _ A w' (H1.out.below (HW5.out.trans (h.mono HW5.out.size)))) (fun w' h o t ho ht => gets_row b off c A.length (gcols A) A o t w' (HTA.out.next (HW5.out.trans (h.mono HW5.out.size))) ho ht hk5 hl5) (freshI_ints hF f3) f1 k1 hk5 l1 hl5 (fun o t ho ht => HAE.out o t ho ht) f2
      have hpos : ∀ j, j < (payL (fun o t => gE A o t) L A.length (gcols A)).length → 0 ≤ (payL (fun o t => gE A o t) L A.length (gcols A)).getD j 0 ∧ (payL (fun o t => gE A o t) L A.length (gcols A)).getD j 0 ≤ 100000000000 := fun j hj => by
        rw [hpl] at hj
        have := payTo_bd (G := fun o t => gE A o t) (S := L) (o := j) (m := (gcols A)) (fun t ht => HAE.out j t hj ht) f2 (gcols A) (Nat.le_refl _)
        rw [show (payL (fun o t => gE A o t) L A.length (gcols A)).getD j 0 = payTo (fun o t => gE A o t) L j (gcols A) by simp [payL, hj]]
        omega
      generalize payL (fun o t => gE A o t) L A.length (gcols A) = P at *
      have HRP := Lib.hid (bestReplies_n _ _ P _ w5 hpl (by omega) (by omega) (fun j hj => (hpos j hj).1) (fun x hx => by
        obtain ⟨i, hi, rfl⟩ := List.mem_iff_getElem.1 hx
        have := hpos i hi
        rw [show P.getD i 0 = P[i] by simp [hi]] at this
        unfold I64
        omega) hpay)
      clear hso f1 f2 f3 f4 hF hb5 hpay hpos hpl
      go_wp2_with fail
      refine HRP.out.mono ?_
      rintro e w6 ⟨v, rfl, hF6, hb6⟩
      have HW6 := Lib.hid (HW5.out.trans (hb6.mono HW5.out.size))
      have HF6 := Lib.hid (hF6.mono HW5.out.size)
      clear hF6 hb6
      go_wp2_with fail
      go_ret2
      rw [HO.out]
      exact ⟨_, rfl, HF6.out.rng, HW6.out⟩
  · have HNONE := Lib.hid (beOut_1n (Z := Z) HC.out)
    have HSOME := Lib.hid (fun L d => beOut_1s (Z := Z) (L := L) (d := d) HC.out)
    have HSH := Lib.hid (fun (w' : World) (h : Below w.heap.size w w') => sharesOf_any _ Z A.length w' (H3.out.below h) (by omega) (by omega))
    generalize beOut A B 1 Z = OUT at *
    go_enter Try.func38, Try.ntmps38
    go_wp2_with fail
    rw [← HW0.out]
    refine (HIS.out _ HB0.out).mono ?_; rintro e w1 ⟨rfl, hb1⟩
    obtain ⟨e0, e1⟩ := HK.out w1 hb1
    have HW1 := Lib.hid (HB0.out.trans (hb1.mono HB0.out.size))
    clear hb1 HIS HW0
    go_wp2_with fail
    refine (playersOf_any _ _ _ _ _ _ w1).mono ?_
    rintro e w2 ⟨rfl, hb2⟩
    have HW2 := Lib.hid (HW1.out.trans (hb2.mono HW1.out.size))
    clear hb2 e0 e1
    go_wp2_with fail
    obtain ⟨W3, hW3⟩ : ∃ W3, W3 = w2.alloc (.cells #[.iface 150 (.slice (some ⟨b, off, none⟩) A.length c), .iface 151 (.slice (some ⟨qb, qo, none⟩) A.length qc)] 104) := ⟨_, rfl⟩
    have hw3 : Below w.heap.size w W3 := by rw [hW3]; exact HW2.out.alloc HW2.out.size _
    have z0 : W3.cell? ⟨w2.heap.size, 0, none⟩ = some (.iface 150 (.slice (some ⟨b, off, none⟩) A.length c)) := by rw [hW3]; simp
    have z1 : W3.cell? ⟨w2.heap.size, 1, none⟩ = some (.iface 151 (.slice (some ⟨qb, qo, none⟩) A.length qc)) := by rw [hW3]; simp
    have hz3 : w2.heap.size < W3.heap.size := by rw [hW3]; simp
    have HW3 := Lib.hid hw3
    have HZ0 := Lib.hid (fun wr (h : Below W3.heap.size W3 wr) => show wr.cell? ⟨w2.heap.size, 0, none⟩ = some (.iface 150 (.slice (some ⟨b, off, none⟩) A.length c)) ∧ wr.cell? ⟨w2.heap.size, 1, none⟩ = some (.iface 151 (.slice (some ⟨qb, qo, none⟩) A.length qc)) from
      ⟨(h.cell (p := ⟨w2.heap.size, 0, none⟩) hz3).trans z0, (h.cell (p := ⟨w2.heap.size, 1, none⟩) hz3).trans z1⟩)
    rw [← hW3]
    clear hW3 z0 z1 hw3
    refine (choices_row _ A _ (H1.out.below HW3.out)).mono ?_
    rintro e w4 ⟨rfl, rfl⟩
    go_wp2_with fail
    refine (HSH.out _ HW3.out).mono ?_
    rintro e w5 (⟨hno, u, rfl, hb5⟩ | ⟨L, d, hso, g, rfl, hF, hb5⟩)
    · have HO := Lib.hid (HNONE.out hno)
      have hw5 : Below w.heap.size w w5 := HW3.out.trans (hb5.mono HW3.out.size)
      clear hno hb5
      go_wp2_with fail
      go_ret2
      rw [HO.out]
      exact outI_nilG hw5
    · obtain ⟨f1, f2, f3, f4⟩ := mix_facts hso
      have HO := Lib.hid (HSOME.out L d hso)
      have HW5 := Lib.hid (HW3.out.trans (hb5.mono HW3.out.size))
      obtain ⟨g0, g1⟩ := HZ0.out w5 hb5
      have hpl : (payL (fun o t => gE B t o) L (gcols A) A.length).length = (gcols A) := by simp [payL]
      have hpay := payoffsAgainst_col qb qo qc (gcols A) A.length (fun o t => gE B t o) _ L w5 (fun w' h => choices_col _ B (gcols A) w' (H2.out.below (HW5.out.trans (h.mono HW5.out.size))) (by have := HBK.out; omega) HBL.out) (fun w' h o t ho ht => gets_col qb qo qc A.length (gcols A) B t o w' (HTB.out.next (HW5.out.trans (h.mono HW5.out.size))) ht ho hk5 hl5) (freshI_ints hF f3) f1 l1 hl5 k1 hk5 (fun o t ho ht => HBE.out t o ht ho) f2
      have hpos : ∀ j, j < (payL (fun o t => gE B t o) L (gcols A) A.length).length → 0 ≤ (payL (fun o t => gE B t o) L (gcols A) A.length).getD j 0 ∧ (payL (fun o t => gE B t o) L (gcols A) A.length).getD j 0 ≤ 100000000000 := fun j hj => by
        rw [hpl] at hj
        have := payTo_bd (G := fun o t => gE B t o) (S := L) (o := j) (m := A.length) (fun t ht => HBE.out t j ht hj) f2 A.length (Nat.le_refl _)
        rw [show (payL (fun o t => gE B t o) L (gcols A) A.length).getD j 0 = payTo (fun o t => gE B t o) L j A.length by simp [payL, hj]]
        omega
      generalize payL (fun o t => gE B t o) L (gcols A) A.length = P at *
      have HRP := Lib.hid (bestReplies_n _ _ P _ w5 hpl (by omega) (by omega) (fun j hj => (hpos j hj).1) (fun x hx => by
        obtain ⟨i, hi, rfl⟩ := List.mem_iff_getElem.1 hx
        have := hpos i hi
        rw [show P.getD i 0 = P[i] by simp [hi]] at this
        unfold I64
        omega) hpay)
      clear hso f1 f2 f3 f4 hF hb5 hpay hpos hpl
      go_wp2_with fail
      refine HRP.out.mono ?_
      rintro e w6 ⟨v, rfl, hF6, hb6⟩
      have HW6 := Lib.hid (HW5.out.trans (hb6.mono HW5.out.size))
      have HF6 := Lib.hid (hF6.mono HW5.out.size)
      clear hF6 hb6
      go_wp2_with fail
      go_ret2
      rw [HO.out]
      exact ⟨_, rfl, HF6.out.rng, HW6.out⟩
end Go.Proofs.Ytnefglpcbekmhaa.PW
