/-
  Walks: IsEquilibrium in the model.
-/
import Derived.Test.YtimcokealhnfhaaGBoth
import Derived.Test.YtimcokealhnfhaaGHold
namespace Go.Proofs.Ytimcokealhnfhaa.PW
open Go.RowKit Go.Proofs.Ytimcokealhnfhaa
open Go.Proofs.Ytimcokealhnfhaa.PM

def ieB (A B : List (List Int)) (L1 L2 : List Int) : Bool := holdsB L1 (repL (payL (fun o t => gE A o t) L2 A.length (gcols A))) && holdsB L2 (repL (payL (fun o t => gE B t o) L1 (gcols A) A.length))
def ieOut (A B : List (List Int)) (X Y : List (Int × Int)) : Bool × Int :=
  if bothCode A B X Y 1000000000 = 0 then (match mixOut X A.length with
    | none => (false, 0)
    | some a => match mixOut Y (gcols A) with
      | none => (false, 0)
      | some b => (ieB A B a.1 b.1, 0)) else (false, bothCode A B X Y 1000000000)
theorem ieOut_err {A B : List (List Int)} {X Y : List (Int × Int)} (h : bothCode A B X Y 1000000000 ≠ 0) : ieOut A B X Y = (false, bothCode A B X Y 1000000000) := by unfold ieOut; rw [if_neg h]
theorem ieOut_ok {A B : List (List Int)} {X Y : List (Int × Int)} {L1 L2 : List Int} {d1 d2 : Int} (h : bothCode A B X Y 1000000000 = 0) (h1 : mixOut X A.length = some (L1, d1)) (h2 : mixOut Y (gcols A) = some (L2, d2)) : ieOut A B X Y = (ieB A B L1 L2, 0) := by
  unfold ieOut; rw [if_pos h, h1, h2]
theorem both_gb {A B : List (List Int)} {X Y : List (Int × Int)} {most : Int} (h : bothCode A B X Y most = 0) : isGB A B = true := by
  cases e : isGB A B
  · rw [bothCode_no e] at h; cases h
  · rfl
theorem repL_I64 (P : List Int) (h : P.length ≤ 5) : ∀ x ∈ repL P, I64 x := fun x hx => by
  have := repTo_in P _ _ x hx
  unfold I64; omega

set_option maxRecDepth 100000 in
set_option maxHeartbeats 8000000 in
theorem specIsEquilibrium_any (m q x y : Value) (A B : List (List Int)) (X Y : List (Int × Int)) (w : World) (h1 : PM.Rows w m A) (h2 : PM.Rows w q B) (h3 : Frs w x X) (h4 : Frs w y Y) :
    Calls Try.prog 54 #[.agg #[m, q], x, y] w fun e w' => e = .returned (.tuple #[.bool (ieOut A B X Y).1, .int .i64 (ieOut A B X Y).2]) ∧ Below w.heap.size w w' := by
  have HBO := Lib.hid (fun (w' : World) (h : Below w.heap.size w w') => l07Both_any m q x y A B X Y 1000000000 w' (h1.below h) (h2.below h) (h3.below h) (h4.below h) (by decide) (by decide))
  have H1 := Lib.hid h1
  have H2 := Lib.hid h2
  have HE := Lib.hid (ieOut_err (A := A) (B := B) (X := X) (Y := Y))
  have HOK := Lib.hid (fun L1 L2 d1 d2 => ieOut_ok (A := A) (B := B) (X := X) (Y := Y) (L1 := L1) (L2 := L2) (d1 := d1) (d2 := d2))
  have HGB := Lib.hid (both_gb (A := A) (B := B) (X := X) (Y := Y) (most := 1000000000))
  generalize ieOut A B X Y = OUT at *
  generalize bothCode A B X Y 1000000000 = BC at *
  obtain ⟨a1, c1, rfl, _⟩ := h1
  obtain ⟨a2, c2, rfl, _⟩ := h2
  obtain ⟨a3, c3, rfl, _⟩ := h3
  obtain ⟨a4, c4, rfl, _⟩ := h4
  obtain ⟨W0, hW0⟩ : ∃ W0, W0 = w.alloc (.cells #[.slice a1 A.length c1, .slice a2 B.length c2] 43) := ⟨_, rfl⟩
  have hb0 : Below w.heap.size w W0 := by rw [hW0]; exact (Below.refl _ _).alloc (Nat.le_refl _) _
  have hz0 : w.heap.size < W0.heap.size := by rw [hW0]; simp
  have x0 : W0.cell? ⟨w.heap.size, 0, none⟩ = some (.slice a1 A.length c1) := by rw [hW0]; simp
  have x1 : W0.cell? ⟨w.heap.size, 1, none⟩ = some (.slice a2 B.length c2) := by rw [hW0]; simp
  have HW0 := Lib.hid hW0
  have HB0 := Lib.hid hb0
  have HK := Lib.hid (fun wr (h : Below W0.heap.size W0 wr) => show wr.cell? ⟨w.heap.size, 0, none⟩ = some (.slice a1 A.length c1) ∧ wr.cell? ⟨w.heap.size, 1, none⟩ = some (.slice a2 B.length c2) from
    ⟨(h.cell (p := ⟨w.heap.size, 0, none⟩) hz0).trans x0, (h.cell (p := ⟨w.heap.size, 1, none⟩) hz0).trans x1⟩)
  clear hW0 hb0 x0 x1 hz0
  go_enter Try.func54, Try.ntmps54
  go_wp2_with fail
  rw [← HW0.out]
  refine (HBO.out _ HB0.out).mono ?_
  rintro e w1 (⟨hne, rfl, hb1⟩ | ⟨heq, L1, d1, L2, d2, g1, c1', g2, c2', hm1, hm2, _, _, rfl, hF1, hF2, hb1⟩)
  · have HO := Lib.hid (HE.out hne)
    have hCb : (BC != 0) = true := by simp; exact hne
    have hw1 : Below w.heap.size w w1 := HB0.out.trans (hb1.mono HB0.out.size)
    clear hne hb1
    go_wp2_with fail
    go_ret2
    rw [HO.out]
    exact ⟨rfl, hw1⟩
  · have HO := Lib.hid (HOK.out L1 L2 d1 d2 heq hm1 hm2)
    unfold ieB at HO
    have hg := (isGB_iff A B).1 (HGB.out heq)
    have HG := Lib.hid hg
    obtain ⟨p1, p2, p3, _⟩ := mix_facts hm1
    obtain ⟨q1, q2, q3, _⟩ := mix_facts hm2
    have hp1 : (payL (fun o t => gE A o t) L2 A.length (gcols A)).length ≤ 5 := by have := hg.n5; simp [payL]; omega
    have hp2 : (payL (fun o t => gE B t o) L1 (gcols A) A.length).length ≤ 5 := by have := hg.n5; simp [payL]; omega
    have HW1 := Lib.hid (HB0.out.trans (hb1.mono HB0.out.size))
    have HB1 := Lib.hid hb1
    have HI1 := Lib.hid (freshI_ints hF1 p3)
    have HI2 := Lib.hid (freshI_ints hF2 q3)
    have HR0 := Lib.hid (l07Replies_0 _ _ _ A B L2 w1 (H1.out.below HW1.out) (H2.out.below HW1.out) HI2.out hg q1 q2)
    have HR1 := Lib.hid (fun w' (h : Below w1.heap.size w1 w') => l07Replies_1 _ _ _ A B L1 w' (H1.out.below (HW1.out.trans (h.mono HW1.out.size))) (H2.out.below (HW1.out.trans (h.mono HW1.out.size))) (HI1.out.below h) hg p1 p2)
    have HRI0 := Lib.hid (repL_I64 _ hp1)
    have HRI1 := Lib.hid (repL_I64 _ hp2)
    have HH1 := Lib.hid (fun u R w' (h : Below w1.heap.size w1 w') (hR : Ints w' u R) => l07Holds_any _ u L1 R w' (HI1.out.below h) (by have := hg.k1; omega) hR)
    have HH2 := Lib.hid (fun u R w' (h : Below w1.heap.size w1 w') (hR : Ints w' u R) => l07Holds_any _ u L2 R w' (HI2.out.below h) (by have := hg.l1; omega) hR)
    generalize repL (payL (fun o t => gE A o t) L2 A.length (gcols A)) = R0 at *
    generalize repL (payL (fun o t => gE B t o) L1 (gcols A) A.length) = R1 at *
    subst heq
    obtain ⟨e0, e1⟩ := HK.out w1 HB1.out
    clear hm1 hm2 hg p1 p2 p3 q1 q2 q3 hp1 hp2 hF1 hF2 hb1
    go_wp2_with fail
    refine HR0.out.mono ?_
    rintro e w2 ⟨v2, rfl, hR2, hb2⟩
    have HB2 := Lib.hid hb2
    have HV2 := Lib.hid (freshI_ints hR2 HRI0.out)
    clear hR2 hb2 e0 e1
    go_wp2_with fail
    refine (HH1.out _ R0 w2 HB2.out HV2.out).mono ?_
    rintro e w3 ⟨rfl, rfl⟩
    obtain ⟨e0, e1⟩ := HK.out w2 (HB1.out.trans (HB2.out.mono HB1.out.size))
    cases hh : holdsB L1 R0
    · have HHH := Lib.hid hh
      clear hh
      go_wp2_with fail
      go_ret2
      rw [HO.out, HHH.out]
      exact ⟨rfl, HW1.out.trans (HB2.out.mono HW1.out.size)⟩
    · have HHH := Lib.hid hh
      clear hh
      go_wp2_with fail
      refine (HR1.out w2 HB2.out).mono ?_
      rintro e w4 ⟨v4, rfl, hR4, hb4⟩
      have HB4 := Lib.hid (HB2.out.trans (hb4.mono HB2.out.size))
      have HV4 := Lib.hid (freshI_ints hR4 HRI1.out)
      clear hR4 hb4 e0 e1
      go_wp2_with fail
      refine (HH2.out _ R1 w4 HB4.out HV4.out).mono ?_
      rintro e w5 ⟨rfl, rfl⟩
      go_wp2_with fail
      go_ret2
      rw [HO.out, HHH.out]
      exact ⟨rfl, HW1.out.trans (HB4.out.mono HW1.out.size)⟩
end Go.Proofs.Ytimcokealhnfhaa.PW
