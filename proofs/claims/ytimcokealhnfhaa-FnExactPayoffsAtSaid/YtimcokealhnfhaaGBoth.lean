/-
  Walks: two mixes of a game, in the model (written by gboth.py).
-/
import Derived.Test.YtimcokealhnfhaaGBesX
namespace Go.Proofs.Ytimcokealhnfhaa.PW
open Go.RowKit Go.Proofs.Ytimcokealhnfhaa
open Go.Proofs.Ytimcokealhnfhaa.PM

/-- The code of a mix whose denominator may be at most most. -/
def mixCode (X : List (Int × Int)) (n : Nat) (most : Int) : Int := match mixOut X n with
  | none => 2
  | some x => if most < x.2 then 3 else 0
theorem mixCode_n {X : List (Int × Int)} {n : Nat} {most : Int} (h : mixOut X n = none) : mixCode X n most = 2 := by unfold mixCode; rw [h]
theorem mixCode_f {X : List (Int × Int)} {n : Nat} {most d : Int} {L : List Int} (h : mixOut X n = some (L, d)) (hd : most < d) : mixCode X n most = 3 := by unfold mixCode; rw [h]; simp only; rw [if_pos hd]
theorem mixCode_s {X : List (Int × Int)} {n : Nat} {most d : Int} {L : List Int} (h : mixOut X n = some (L, d)) (hd : d ≤ most) : mixCode X n most = 0 := by unfold mixCode; rw [h]; simp only; rw [if_neg (by omega)]
/-- The code of two mixes. -/
def bothCode (A B : List (List Int)) (X Y : List (Int × Int)) (most : Int) : Int :=
  if isGB A B = true then (if mixCode X A.length most = 2 ∨ mixCode Y (gcols A) most = 2 then 2 else if mixCode X A.length most ≠ 0 ∨ mixCode Y (gcols A) most ≠ 0 then 3 else 0) else 1
theorem bothCode_no {A B : List (List Int)} {X Y : List (Int × Int)} {most : Int} (h : isGB A B = false) : bothCode A B X Y most = 1 := by unfold bothCode; rw [if_neg (by simp [h])]
theorem bothCode_ok {A B : List (List Int)} {X Y : List (Int × Int)} {most a b : Int} (h : isGB A B = true) (h1 : mixCode X A.length most = a) (h2 : mixCode Y (gcols A) most = b) :
    bothCode A B X Y most = if a = 2 ∨ b = 2 then 2 else if a ≠ 0 ∨ b ≠ 0 then 3 else 0 := by unfold bothCode; rw [if_pos h, h1, h2]

set_option maxRecDepth 100000 in
set_option maxHeartbeats 8000000 in
theorem l07Both_any (m q x y : Value) (A B : List (List Int)) (X Y : List (Int × Int)) (most : Int) (w : World) (h1 : PM.Rows w m A) (h2 : PM.Rows w q B) (h3 : Frs w x X) (h4 : Frs w y Y) (hm0 : 0 ≤ most) (hm1 : most ≤ 1000000000) :
    Calls Try.prog 89 #[.agg #[m, q], x, y, .int .i64 most] w fun e w' => (bothCode A B X Y most ≠ 0 ∧ e = .returned (.tuple #[.slice none 0 0, .slice none 0 0, .int .i64 0, .int .i64 0, .int .i64 (bothCode A B X Y most)]) ∧ Below w.heap.size w w') ∨
      (bothCode A B X Y most = 0 ∧ ∃ L1 d1 L2 d2 g1 c1 g2 c2, mixOut X A.length = some (L1, d1) ∧ mixOut Y (gcols A) = some (L2, d2) ∧ d1 ≤ most ∧ d2 ≤ most ∧
        e = .returned (.tuple #[.slice (some ⟨g1, 0, none⟩) A.length c1, .slice (some ⟨g2, 0, none⟩) (gcols A) c2, .int .i64 d1, .int .i64 d2, .int .i64 0]) ∧
        FreshI w.heap.size w' (.slice (some ⟨g1, 0, none⟩) A.length c1) L1 ∧ FreshI w.heap.size w' (.slice (some ⟨g2, 0, none⟩) (gcols A) c2) L2 ∧ Below w.heap.size w w') := by
  have HIS := Lib.hid (fun (w' : World) (h : Below w.heap.size w w') => l07Is_any m q A B w' (h1.below h) (h2.below h))
  have H3 := Lib.hid h3
  have H4 := Lib.hid h4
  obtain ⟨a3, c3, rfl, _⟩ := h3
  obtain ⟨a4, c4, rfl, _⟩ := h4
  cases hc : isGB A B
  · rw [bothCode_no hc]
    rw [hc] at HIS
    obtain ⟨a1, c1, rfl, _⟩ := h1
    obtain ⟨a2, c2, rfl, _⟩ := h2
    clear hc
    go_enter Try.func89, Try.ntmps89
    go_wp2_with fail
    refine (HIS.out _ (by (repeat' (first | (with_reducible exact Below.refl _ _) | (with_reducible assumption) | (with_reducible refine Below.alloc ?_ ?_ _) | (with_reducible refine Below.drew ?_) | (with_reducible refine below_drewN ?_ _) | (with_reducible refine Below.setCell ?_ ?_ _) | (with_reducible refine Below.trans ?_ (Below.mono (by with_reducible assumption) ?_)) | (with_reducible exact Below.size (by with_reducible assumption)) | go_size)))).mono ?_; rintro e w1 ⟨rfl, hb1⟩
    have hw1 : Below w.heap.size w w1 := by (repeat' (first | (with_reducible exact Below.refl _ _) | (with_reducible assumption) | (with_reducible refine Below.alloc ?_ ?_ _) | (with_reducible refine Below.drew ?_) | (with_reducible refine below_drewN ?_ _) | (with_reducible refine Below.setCell ?_ ?_ _) | (with_reducible refine Below.trans ?_ (Below.mono (by with_reducible assumption) ?_)) | (with_reducible exact Below.size (by with_reducible assumption)) | go_size))
    go_wp2_with fail
    refine bodyPost_ret (v := .tuple #[.slice none 0 0, .slice none 0 0, .int .i64 0, .int .i64 0, .int .i64 1]) (by simp [*, results, Try.results89, go_sem]) rfl ?_
    exact .inl ⟨by decide, rfl, hw1⟩
  rw [hc] at HIS
  obtain ⟨k1, l1, n5, bk, al, bl, _, _⟩ := (isGB_iff A B).1 hc
  obtain ⟨b, off, c, rfl, hA⟩ := tab_at h1 k1 l1 al
  obtain ⟨a2, c2, rfl, _⟩ := h2
  have HA := Lib.hid (fun wr hw => hA wr hw 0 (by omega))
  have HMX := Lib.hid (fun (w' : World) (h : Below w.heap.size w w') => l07Mix_any _ X A.length most w' (H3.out.below h) (by omega) (by omega) hm0 hm1)
  have HMY := Lib.hid (fun (w' : World) (h : Below w.heap.size w w') => l07Mix_any _ Y (gcols A) most w' (H4.out.below h) (by omega) (by omega) hm0 hm1)
  have HBC := Lib.hid (fun a b => bothCode_ok (X := X) (Y := Y) (most := most) (a := a) (b := b) hc)
  have HXN := Lib.hid (mixCode_n (X := X) (n := A.length) (most := most))
  have HYN := Lib.hid (mixCode_n (X := Y) (n := gcols A) (most := most))
  have HXF := Lib.hid (fun L d => mixCode_f (X := X) (n := A.length) (most := most) (L := L) (d := d))
  have HYF := Lib.hid (fun L d => mixCode_f (X := Y) (n := gcols A) (most := most) (L := L) (d := d))
  have HXS := Lib.hid (fun L d => mixCode_s (X := X) (n := A.length) (most := most) (L := L) (d := d))
  have HYS := Lib.hid (fun L d => mixCode_s (X := Y) (n := gcols A) (most := most) (L := L) (d := d))
  generalize bothCode A B X Y most = BC at *
  obtain ⟨W0, hW0⟩ : ∃ W0, W0 = w.alloc (.cells #[.slice (some ⟨b, off, none⟩) A.length c, .slice a2 B.length c2] 43) := ⟨_, rfl⟩
  have hb0 : Below w.heap.size w W0 := by rw [hW0]; exact (Below.refl _ _).alloc (Nat.le_refl _) _
  have hz0 : w.heap.size < W0.heap.size := by rw [hW0]; simp
  have x0 : W0.cell? ⟨w.heap.size, 0, none⟩ = some (.slice (some ⟨b, off, none⟩) A.length c) := by rw [hW0]; simp
  have x1 : W0.cell? ⟨w.heap.size, 1, none⟩ = some (.slice a2 B.length c2) := by rw [hW0]; simp
  have HW0 := Lib.hid hW0
  have HB0 := Lib.hid hb0
  have HK := Lib.hid (fun wr (h : Below W0.heap.size W0 wr) => show wr.cell? ⟨w.heap.size, 0, none⟩ = some (.slice (some ⟨b, off, none⟩) A.length c) ∧ wr.cell? ⟨w.heap.size, 1, none⟩ = some (.slice a2 B.length c2) from
    ⟨(h.cell (p := ⟨w.heap.size, 0, none⟩) hz0).trans x0, (h.cell (p := ⟨w.heap.size, 1, none⟩) hz0).trans x1⟩)
  clear hW0 hb0 x0 x1 hA bk al bl hc hz0 h1 n5 l1 hm0 hm1
  go_enter Try.func89, Try.ntmps89
  go_wp2_with fail
  rw [← HW0.out]
  refine (HIS.out _ HB0.out).mono ?_; rintro e w1 ⟨rfl, hb1⟩
  obtain ⟨e0, e1⟩ := HK.out w1 hb1
  have HB1 := Lib.hid hb1
  have HW1 := Lib.hid (HB0.out.trans (hb1.mono HB0.out.size))
  clear hb1 HIS HW0
  go_wp2_with fail
  refine (HMX.out _ HW1.out).mono ?_
  clear e0 e1
  rintro e w2 (⟨hno, rfl, hb2⟩ | ⟨L1, d1, hso, ⟨hd, rfl⟩ | ⟨hd, g1, c1, rfl, hF⟩, hb2⟩)
  · have HCX := Lib.hid (HXN.out hno)
    clear hno
    have HB2 := Lib.hid (HB1.out.trans (hb2.mono HB1.out.size))
    have HW2 := Lib.hid (HW1.out.trans (hb2.mono HW1.out.size))
    clear hb2
    obtain ⟨e0, e1⟩ := HK.out w2 HB2.out
    obtain ⟨r9, ro9, rd9, t9, _⟩ := HA.out w2 HW2.out
    simp only [Nat.add_zero] at t9
    go_wp2_with fail
    refine (HMY.out _ HW2.out).mono ?_
    clear e0 e1 t9
    rintro e w3 (⟨hno', rfl, hb3⟩ | ⟨L2, d2, hso', ⟨hd', rfl⟩ | ⟨hd', g2, c2', rfl, hF'⟩, hb3⟩)
    · have HO := Lib.hid (HBC.out 2 2 HCX.out (HYN.out hno'))
      have HW3 := Lib.hid (HW2.out.trans (hb3.mono HW2.out.size))
      clear hno' hb3
      go_wp2_with fail
      refine bodyPost_ret (v := .tuple #[.slice none 0 0, .slice none 0 0, .int .i64 0, .int .i64 0, .int .i64 2]) (by simp [*, results, Try.results89, go_sem]) rfl ?_
      have ho : BC = 2 := HO.out
      rw [ho]
      exact .inl ⟨by decide, rfl, HW3.out⟩
    · have HO := Lib.hid (HBC.out 2 3 HCX.out (HYF.out L2 d2 hso' hd'))
      have HW3 := Lib.hid (HW2.out.trans (hb3.mono HW2.out.size))
      clear hso' hd' hb3
      go_wp2_with fail
      refine bodyPost_ret (v := .tuple #[.slice none 0 0, .slice none 0 0, .int .i64 0, .int .i64 0, .int .i64 2]) (by simp [*, results, Try.results89, go_sem]) rfl ?_
      have ho : BC = 2 := HO.out
      rw [ho]
      exact .inl ⟨by decide, rfl, HW3.out⟩
    · have HO := Lib.hid (HBC.out 2 0 HCX.out (HYS.out L2 d2 hso' hd'))
      have HW3 := Lib.hid (HW2.out.trans (hb3.mono HW2.out.size))
      clear hF' hso' hd' hb3
      go_wp2_with fail
      refine bodyPost_ret (v := .tuple #[.slice none 0 0, .slice none 0 0, .int .i64 0, .int .i64 0, .int .i64 2]) (by simp [*, results, Try.results89, go_sem]) rfl ?_
      have ho : BC = 2 := HO.out
      rw [ho]
      exact .inl ⟨by decide, rfl, HW3.out⟩
  · have HCX := Lib.hid (HXF.out L1 d1 hso hd)
    clear hso hd
    have HB2 := Lib.hid (HB1.out.trans (hb2.mono HB1.out.size))
    have HW2 := Lib.hid (HW1.out.trans (hb2.mono HW1.out.size))
    clear hb2
    obtain ⟨e0, e1⟩ := HK.out w2 HB2.out
    obtain ⟨r9, ro9, rd9, t9, _⟩ := HA.out w2 HW2.out
    simp only [Nat.add_zero] at t9
    go_wp2_with fail
    refine (HMY.out _ HW2.out).mono ?_
    clear e0 e1 t9
    rintro e w3 (⟨hno', rfl, hb3⟩ | ⟨L2, d2, hso', ⟨hd', rfl⟩ | ⟨hd', g2, c2', rfl, hF'⟩, hb3⟩)
    · have HO := Lib.hid (HBC.out 3 2 HCX.out (HYN.out hno'))
      have HW3 := Lib.hid (HW2.out.trans (hb3.mono HW2.out.size))
      clear hno' hb3
      go_wp2_with fail
      refine bodyPost_ret (v := .tuple #[.slice none 0 0, .slice none 0 0, .int .i64 0, .int .i64 0, .int .i64 2]) (by simp [*, results, Try.results89, go_sem]) rfl ?_
      have ho : BC = 2 := HO.out
      rw [ho]
      exact .inl ⟨by decide, rfl, HW3.out⟩
    · have HO := Lib.hid (HBC.out 3 3 HCX.out (HYF.out L2 d2 hso' hd'))
      have HW3 := Lib.hid (HW2.out.trans (hb3.mono HW2.out.size))
      clear hso' hd' hb3
      go_wp2_with fail
      refine bodyPost_ret (v := .tuple #[.slice none 0 0, .slice none 0 0, .int .i64 0, .int .i64 0, .int .i64 3]) (by simp [*, results, Try.results89, go_sem]) rfl ?_
      have ho : BC = 3 := HO.out
      rw [ho]
      exact .inl ⟨by decide, rfl, HW3.out⟩
    · have HO := Lib.hid (HBC.out 3 0 HCX.out (HYS.out L2 d2 hso' hd'))
      have HW3 := Lib.hid (HW2.out.trans (hb3.mono HW2.out.size))
      clear hF' hso' hd' hb3
      go_wp2_with fail
      refine bodyPost_ret (v := .tuple #[.slice none 0 0, .slice none 0 0, .int .i64 0, .int .i64 0, .int .i64 3]) (by simp [*, results, Try.results89, go_sem]) rfl ?_
      have ho : BC = 3 := HO.out
      rw [ho]
      exact .inl ⟨by decide, rfl, HW3.out⟩
  · have HCX := Lib.hid (HXS.out L1 d1 hso hd)
    have HF1 := Lib.hid (hF.mono HW1.out.size)
    have HSO := Lib.hid hso
    have HD1 := Lib.hid hd
    clear hF hso hd
    have HB2 := Lib.hid (HB1.out.trans (hb2.mono HB1.out.size))
    have HW2 := Lib.hid (HW1.out.trans (hb2.mono HW1.out.size))
    clear hb2
    obtain ⟨e0, e1⟩ := HK.out w2 HB2.out
    obtain ⟨r9, ro9, rd9, t9, _⟩ := HA.out w2 HW2.out
    simp only [Nat.add_zero] at t9
    go_wp2_with fail
    refine (HMY.out _ HW2.out).mono ?_
    clear e0 e1 t9
    rintro e w3 (⟨hno', rfl, hb3⟩ | ⟨L2, d2, hso', ⟨hd', rfl⟩ | ⟨hd', g2, c2', rfl, hF'⟩, hb3⟩)
    · have HO := Lib.hid (HBC.out 0 2 HCX.out (HYN.out hno'))
      have HW3 := Lib.hid (HW2.out.trans (hb3.mono HW2.out.size))
      clear hno' hb3
      go_wp2_with fail
      refine bodyPost_ret (v := .tuple #[.slice none 0 0, .slice none 0 0, .int .i64 0, .int .i64 0, .int .i64 2]) (by simp [*, results, Try.results89, go_sem]) rfl ?_
      have ho : BC = 2 := HO.out
      rw [ho]
      exact .inl ⟨by decide, rfl, HW3.out⟩
    · have HO := Lib.hid (HBC.out 0 3 HCX.out (HYF.out L2 d2 hso' hd'))
      have HW3 := Lib.hid (HW2.out.trans (hb3.mono HW2.out.size))
      clear hso' hd' hb3
      go_wp2_with fail
      refine bodyPost_ret (v := .tuple #[.slice none 0 0, .slice none 0 0, .int .i64 0, .int .i64 0, .int .i64 3]) (by simp [*, results, Try.results89, go_sem]) rfl ?_
      have ho : BC = 3 := HO.out
      rw [ho]
      exact .inl ⟨by decide, rfl, HW3.out⟩
    · have HO := Lib.hid (HBC.out 0 0 HCX.out (HYS.out L2 d2 hso' hd'))
      have HW3 := Lib.hid (HW2.out.trans (hb3.mono HW2.out.size))
      have HF1b := Lib.hid (HF1.out.below hb3)
      have HF2 := Lib.hid (hF'.mono HW2.out.size)
      have HSO' := Lib.hid hso'
      have HD2 := Lib.hid hd'
      clear hF' hso' hd' hb3
      go_wp2_with fail
      refine bodyPost_ret (v := .tuple #[.slice (some ⟨g1, 0, none⟩) A.length c1, .slice (some ⟨g2, 0, none⟩) (gcols A) c2', .int .i64 d1, .int .i64 d2, .int .i64 0]) (by simp [*, results, Try.results89, go_sem]) rfl ?_
      have ho : BC = 0 := HO.out
      rw [ho]
      exact .inr ⟨rfl, L1, d1, L2, d2, g1, c1, g2, c2', HSO.out, HSO'.out, HD1.out, HD2.out, rfl, HF1b.out, HF2.out, HW3.out⟩
end Go.Proofs.Ytimcokealhnfhaa.PW
