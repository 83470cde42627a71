/-
  Walks: both players' best replies at a mix, and IsEquilibrium in the program.
-/
import Derived.Test.YtimcokealhnfhaaGIeq
import Derived.Test.YtimcokealhnfhaaGEqS
namespace Go.Proofs.Ytimcokealhnfhaa.PW
open Go.RowKit Go.Proofs.Ytimcokealhnfhaa
open Go.Proofs.Ytimcokealhnfhaa.PM

set_option maxHeartbeats 2000000 in
theorem best_row (b off c k l : Nat) (A : List (List Int)) (sv : Value) (L : List Int) (w : World) (hA : PM.Rows w (.slice (some ⟨b, off, none⟩) k c) A) (hk : A.length = k) (hT : TabAt w b off A k l) (ae : ∀ i j, i < k → j < l → 1 ≤ gE A i j ∧ gE A i j ≤ 20)
    (hs : Ints w sv L) (hll : L.length = l) (k1 : 1 ≤ k) (l1 : 1 ≤ l) (hk5 : k ≤ 5) (hl5 : l ≤ 5) (f2 : ∀ t, t < l → 0 ≤ L.getD t 0 ∧ L.getD t 0 ≤ 1000000000) :
    Calls Try.prog 88 #[.iface 151 (.slice (some ⟨b, off, none⟩) k c), sv] w fun e w2 => ∃ v, e = .returned v ∧ OrI w.heap.size w2 v (repL (payL (fun o t => gE A o t) L k l)) ∧ Below w.heap.size w w2 := by
  have hpl : (payL (fun o t => gE A o t) L k l).length = k := by simp [payL]
  have hpay := payoffsAgainst_row b off c k l (fun o t => gE A o t) sv L w (fun w' h => by have := choices_row _ A w' (hA.below h); rw [hk] at this; exact this) (fun w' h o t ho ht => gets_row b off c k l A o t w' (hT.next h) ho ht hk5 hl5) hs hll k1 hk5 l1 hl5 (fun o t ho ht => ae o t ho ht) f2
  have hpos : ∀ j, j < (payL (fun o t => gE A o t) L k l).length → 0 ≤ (payL (fun o t => gE A o t) L k l).getD j 0 ∧ (payL (fun o t => gE A o t) L k l).getD j 0 ≤ 100000000000 := fun j hj => by
    rw [hpl] at hj
    have := payTo_bd (G := fun o t => gE A o t) (S := L) (o := j) (m := l) (fun t ht => ae j t hj ht) f2 l (Nat.le_refl _)
    rw [show (payL (fun o t => gE A o t) L k l).getD j 0 = payTo (fun o t => gE A o t) L j l by simp [payL, hj]]
    omega
  generalize payL (fun o t => gE A o t) L k l = P at *
  exact bestReplies_n _ _ P _ w hpl k1 hk5 (fun j hj => (hpos j hj).1) (fun x hx => by
    obtain ⟨i, hi, rfl⟩ := List.mem_iff_getElem.1 hx
    have := hpos i hi
    rw [show P.getD i 0 = P[i] by simp [hi]] at this
    unfold I64
    omega) hpay
set_option maxHeartbeats 2000000 in
theorem best_col (b off c k l : Nat) (B : List (List Int)) (sv : Value) (L : List Int) (w : World) (hB : PM.Rows w (.slice (some ⟨b, off, none⟩) k c) B) (hk : B.length = k) (h0 : (B.getD 0 []).length = l) (hT : TabAt w b off B k l) (be : ∀ i j, i < k → j < l → 1 ≤ gE B i j ∧ gE B i j ≤ 20)
    (hs : Ints w sv L) (hll : L.length = k) (k1 : 1 ≤ k) (l1 : 1 ≤ l) (hk5 : k ≤ 5) (hl5 : l ≤ 5) (f2 : ∀ t, t < k → 0 ≤ L.getD t 0 ∧ L.getD t 0 ≤ 1000000000) :
    Calls Try.prog 88 #[.iface 152 (.slice (some ⟨b, off, none⟩) k c), sv] w fun e w2 => ∃ v, e = .returned v ∧ OrI w.heap.size w2 v (repL (payL (fun o t => gE B t o) L l k)) ∧ Below w.heap.size w w2 := by
  have hpl : (payL (fun o t => gE B t o) L l k).length = l := by simp [payL]
  have hpay := payoffsAgainst_col b off c l k (fun o t => gE B t o) sv L w (fun w' h => choices_col _ B l w' (hB.below h) (by omega) h0) (fun w' h o t ho ht => gets_col b off c k l B t o w' (hT.next h) ht ho hk5 hl5) hs hll l1 hl5 k1 hk5 (fun o t ho ht => be t o ht ho) f2
  have hpos : ∀ j, j < (payL (fun o t => gE B t o) L l k).length → 0 ≤ (payL (fun o t => gE B t o) L l k).getD j 0 ∧ (payL (fun o t => gE B t o) L l k).getD j 0 ≤ 100000000000 := fun j hj => by
    rw [hpl] at hj
    have := payTo_bd (G := fun o t => gE B t o) (S := L) (o := j) (m := k) (fun t ht => be t j ht hj) f2 k (Nat.le_refl _)
    rw [show (payL (fun o t => gE B t o) L l k).getD j 0 = payTo (fun o t => gE B t o) L j k by simp [payL, hj]]
    omega
  generalize payL (fun o t => gE B t o) L l k = P at *
  exact bestReplies_n _ _ P _ w hpl l1 hl5 (fun j hj => (hpos j hj).1) (fun x hx => by
    obtain ⟨i, hi, rfl⟩ := List.mem_iff_getElem.1 hx
    have := hpos i hi
    rw [show P.getD i 0 = P[i] by simp [hi]] at this
    unfold I64
    omega) hpay
theorem both_chk {A B : List (List Int)} {X Y : List (Int × Int)} : bothCode A B X Y 1000000000 = chkCode A B X Y := by
  cases hc : isGB A B
  · rw [bothCode_no hc, chk_no hc]
  · cases hx : mixOut X A.length with
    | none => rw [chk_x hc hx, bothCode_ok hc (mixCode_n hx) rfl, if_pos (.inl rfl)]
    | some a =>
      obtain ⟨L, d⟩ := a
      have hd := (mix_facts hx).2.2.2
      cases hy : mixOut Y (gcols A) with
      | none => rw [chk_y hc hy, bothCode_ok hc rfl (mixCode_n hy), if_pos (.inr rfl)]
      | some b =>
        obtain ⟨L', d'⟩ := b
        have hd' := (mix_facts hy).2.2.2
        rw [chk_ok hc hx hy, bothCode_ok hc (mixCode_s hx hd) (mixCode_s hy hd')]
        rfl

set_option maxRecDepth 100000 in
set_option maxHeartbeats 4000000 in
theorem implIsEquilibrium_any (m q x y : Value) (A B : List (List Int)) (X Y : List (Int × Int)) (w : World) (h1 : PM.Rows w m A) (h2 : PM.Rows w q B) (h3 : Frs w x X) (h4 : Frs w y Y) (hs : tot A ≤ 1048576) :
    Calls Try.prog 55 #[.agg #[m, q], x, y] w fun e w' => e = .returned (.tuple #[.bool (ieOut A B X Y).1, .int .i64 (ieOut A B X Y).2]) ∧ Below w.heap.size w w' := by
  have HCM := Lib.hid (fun (w' : World) (h : Below w.heap.size w w') => checkMixes_any m q x y A B X Y w' (h1.below h) (h2.below h) (h3.below h) (h4.below h) hs)
  have H1 := Lib.hid h1
  have H2 := Lib.hid h2
  obtain ⟨a1, c1, rfl, _⟩ := h1
  obtain ⟨a2, c2, rfl, _⟩ := h2
  obtain ⟨a3, c3, rfl, _⟩ := h3
  obtain ⟨a4, c4, rfl, _⟩ := h4
  obtain ⟨W0, hW0⟩ : ∃ W0, W0 = w.alloc (.cells #[.slice a1 A.length c1, .slice a2 B.length c2] 43) := ⟨_, rfl⟩
  have hb0 : Below w.heap.size w W0 := by rw [hW0]; exact (Below.refl _ _).alloc (Nat.le_refl _) _
  have hz0 : w.heap.size < W0.heap.size := by rw [hW0]; simp
  have x0 : W0.cell? ⟨w.heap.size, 0, none⟩ = some (.slice a1 A.length c1) := by rw [hW0]; simp
  have x1 : W0.cell? ⟨w.heap.size, 1, none⟩ = some (.slice a2 B.length c2) := by rw [hW0]; simp
  have HW0 := Lib.hid hW0
  have HB0 := Lib.hid hb0
  clear hW0 hb0
  go_enter Try.func55, Try.ntmps55
  go_wp2_with fail
  rw [← HW0.out]
  refine (HCM.out _ HB0.out).mono ?_
  rintro e w1 (⟨hne, rfl, hb1⟩ | ⟨hgb, r0, r1, rfl, hT, hb1⟩)
  · have HO := Lib.hid (ieOut_err (A := A) (B := B) (X := X) (Y := Y) (by rw [both_chk]; exact hne))
    have HW1 := Lib.hid (HB0.out.trans (hb1.mono HB0.out.size))
    have HBC := Lib.hid (both_chk (A := A) (B := B) (X := X) (Y := Y))
    generalize chkCode A B X Y = BC at *
    have hCb : (BC != 0) = true := by simp; exact hne
    have hw1 := HW1.out
    clear x0 x1 hz0 hb1
    go_wp2_with fail
    go_ret2
    rw [HO.out, HBC.out]
    exact ⟨rfl, by (repeat' (first | (with_reducible exact Below.refl _ _) | (with_reducible assumption) | (with_reducible refine Below.alloc ?_ ?_ _) | (with_reducible refine Below.drew ?_) | (with_reducible refine below_drewN ?_ _) | (with_reducible refine Below.setCell ?_ ?_ _) | (with_reducible refine Below.trans ?_ (Below.mono (by with_reducible assumption) ?_)) | (with_reducible exact Below.size (by with_reducible assumption)) | go_size))⟩
  · obtain ⟨k1, l1, n5, bk, al, bl, ae, be⟩ := (isGB_iff A B).1 hgb
    obtain ⟨_, _, h3', h4'⟩ := hT
    obtain ⟨L0, d0, g0, hm0, rfl, hF0⟩ := h3' (by omega)
    obtain ⟨L1, d1, g1, hm1, rfl, hF1, _⟩ := h4' (by omega)
    obtain ⟨p1, p2, p3, _⟩ := mix_facts hm0
    obtain ⟨q1, q2, q3, _⟩ := mix_facts hm1
    have HO := Lib.hid (ieOut_ok (A := A) (B := B) (X := X) (Y := Y) (by rw [both_chk]; exact chk_ok hgb hm0 hm1) hm0 hm1)
    have hk5 : A.length ≤ 5 := by omega
    have hl5 : gcols A ≤ 5 := by omega
    obtain ⟨b, off, c, hva, hA⟩ := tab_at H1.out k1 l1 al
    obtain ⟨qb, qo, qc, hvb, hB⟩ := tab_at H2.out (by omega) l1 (fun i hi => bl i (by omega))
    simp only [Value.slice.injEq, true_and] at hva hvb
    obtain ⟨rfl, rfl⟩ := hva
    obtain ⟨rfl, rfl⟩ := hvb
    have hTA : TabAt w b off A A.length (gcols A) := hA
    have hTB : TabAt w qb qo B A.length (gcols A) := fun wr hw i hi => hB wr hw i (by omega)
    rw [bk] at H2 x1 HW0
    obtain ⟨W2, hW2⟩ : ∃ W2, W2 = w1.alloc (.cells #[.slice (some ⟨g0, 0, none⟩) A.length A.length, .slice (some ⟨g1, 0, none⟩) (gcols A) (gcols A)] 117) := ⟨_, rfl⟩
    have hb12 : Below w1.heap.size w1 W2 := by rw [hW2]; exact (Below.refl _ _).alloc (Nat.le_refl _) _
    have hzz : w.heap.size < w1.heap.size := Nat.lt_of_lt_of_le hz0 hb1.size
    have y0 : W2.cell? ⟨w1.heap.size, 0, none⟩ = some (.slice (some ⟨g0, 0, none⟩) A.length A.length) := by rw [hW2]; simp
    have y1 : W2.cell? ⟨w1.heap.size, 1, none⟩ = some (.slice (some ⟨g1, 0, none⟩) (gcols A) (gcols A)) := by rw [hW2]; simp
    have hz2 : w1.heap.size < W2.heap.size := by rw [hW2]; simp
    have hw2 : Below w.heap.size w W2 := HB0.out.trans ((hb1.trans (hb12.mono hb1.size)).mono HB0.out.size)
    have z0 := ((hb1.trans (hb12.mono hb1.size)).cell (p := ⟨w.heap.size, 0, none⟩) hz0).trans x0
    have z1 := ((hb1.trans (hb12.mono hb1.size)).cell (p := ⟨w.heap.size, 1, none⟩) hz0).trans x1
    have i0 := (freshI_ints hF0 p3).below hb12
    have i1 := (freshI_ints hF1 q3).below hb12
    have HQ := Lib.hid (fun wr (h : Below W2.heap.size W2 wr) => show wr.cell? ⟨w1.heap.size, 0, none⟩ = some (.slice (some ⟨g0, 0, none⟩) A.length A.length) ∧ wr.cell? ⟨w1.heap.size, 1, none⟩ = some (.slice (some ⟨g1, 0, none⟩) (gcols A) (gcols A)) from
      ⟨(h.cell (p := ⟨w1.heap.size, 0, none⟩) hz2).trans y0, (h.cell (p := ⟨w1.heap.size, 1, none⟩) hz2).trans y1⟩)
    have HEQ := Lib.hid (fun (w' : World) (h : Below W2.heap.size W2 w') =>
      have hw' := hw2.trans (h.mono hw2.size)
      isEq_core (.iface 151 (.slice (some ⟨b, off, none⟩) A.length c1)) (.iface 152 (.slice (some ⟨qb, qo, none⟩) A.length c2)) g0 0 A.length g1 0 (gcols A) A.length (gcols A) L0 L1
        (repL (payL (fun o t => gE A o t) L1 A.length (gcols A))) (repL (payL (fun o t => gE B t o) L0 (gcols A) A.length)) w' p1 q1 (i0.below h) (i1.below h) k1 l1 hk5 hl5 p2 q2 (repL_I64 _ (by simp [payL]; omega)) (repL_I64 _ (by simp [payL]; omega))
        (fun w2 h2 => best_row b off c1 A.length (gcols A) A _ L1 w2 (H1.out.below (hw'.trans (h2.mono hw'.size))) rfl (hTA.next (hw'.trans (h2.mono hw'.size))) ae ((i1.below h).below h2) q1 k1 l1 hk5 hl5 q2)
        (fun w2 h2 => best_col qb qo c2 A.length (gcols A) B _ L0 w2 (H2.out.below (hw'.trans (h2.mono hw'.size))) bk (bl 0 (by omega)) (hTB.next (hw'.trans (h2.mono hw'.size))) be ((i0.below h).below h2) p1 k1 l1 hk5 hl5 p2))
    have HW2 := Lib.hid hW2
    have HWW := Lib.hid hw2
    have hie : ieB A B L0 L1 = (holdsB L0 (repL (payL (fun o t => gE A o t) L1 A.length (gcols A))) && holdsB L1 (repL (payL (fun o t => gE B t o) L0 (gcols A) A.length))) := rfl
    have HIE := Lib.hid hie
    clear hie hA hB hTA hTB hF0 hF1 i0 i1 h3' h4' x0 x1 hb1 hb12 hW2 al bl ae be hw2
    go_wp2_with fail
    rw [← HW2.out]
    go_region_with (first | (go_at_call 86; refine (playersOf_any _ _ _ _ _ _ _).mono ?_; rintro e w5 ⟨rfl, hb5⟩; have hk5 : Below W2.heap.size W2 w5 := (by (repeat' (first | (with_reducible exact Below.refl _ _) | (with_reducible assumption) | (with_reducible refine Below.alloc ?_ ?_ _) | (with_reducible refine Below.drew ?_) | (with_reducible refine below_drewN ?_ _) | (with_reducible refine Below.setCell ?_ ?_ _) | (with_reducible refine Below.trans ?_ (Below.mono (by with_reducible assumption) ?_)) | (with_reducible exact Below.size (by with_reducible assumption)) | go_size))); obtain ⟨q0, q1⟩ := HQ.out _ hk5) | (go_at_call 98; refine (HEQ.out _ (by (repeat' (first | (with_reducible exact Below.refl _ _) | (with_reducible assumption) | (with_reducible refine Below.alloc ?_ ?_ _) | (with_reducible refine Below.drew ?_) | (with_reducible refine below_drewN ?_ _) | (with_reducible refine Below.setCell ?_ ?_ _) | (with_reducible refine Below.trans ?_ (Below.mono (by with_reducible assumption) ?_)) | (with_reducible exact Below.size (by with_reducible assumption)) | go_size)))).mono ?_; rintro e w6 ⟨rfl, hb6⟩))
    all_goals
      have hbf : Below W2.heap.size W2 w6 := by (repeat' (first | (with_reducible exact Below.refl _ _) | (with_reducible assumption) | (with_reducible refine Below.alloc ?_ ?_ _) | (with_reducible refine Below.drew ?_) | (with_reducible refine below_drewN ?_ _) | (with_reducible refine Below.setCell ?_ ?_ _) | (with_reducible refine Below.trans ?_ (Below.mono (by with_reducible assumption) ?_)) | (with_reducible exact Below.size (by with_reducible assumption)) | go_size))
      go_wp2_with fail
      go_ret2
      rw [HO.out, HIE.out]
      exact ⟨rfl, HWW.out.trans (hbf.mono HWW.out.size)⟩
end Go.Proofs.Ytimcokealhnfhaa.PW
