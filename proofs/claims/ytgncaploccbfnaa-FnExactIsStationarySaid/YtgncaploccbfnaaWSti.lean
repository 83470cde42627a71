/-
  IsStationary: the program's side.
-/
import Derived.Test.YtgncaploccbfnaaWSto
import Derived.Test.YtgncaploccbfnaaWPpx
import Derived.Test.YtgncaploccbfnaaVSolI
namespace Go.Proofs.Ytgncaploccbfnaa.PW
open Go.RowKit Go.Proofs.Ytgncaploccbfnaa
open Go.Proofs.Ytgncaploccbfnaa.PM
attribute [local go_sem] Oper.semAt_some

/-- What has been laid while the last region is walked: the list of two lists, the joined list. -/
structure StR (W w' : World) (hb g cq n m : Nat) (v5 v6 : Value) (Z : List (Int × Int)) (b3 b4 : Bool) : Prop where
  low : Below W.heap.size W w'
  box : b3 = true → hb < w'.heap.size ∧ w'.cell? ⟨hb, 0, none⟩ = some v5 ∧ w'.cell? ⟨hb, 1, none⟩ = some v6
  cat : b4 = true → FreshF W.heap.size w' (.slice (some ⟨g, 0, none⟩) (n + m) cq) Z
theorem StR.box_ {W w' : World} {hb g cq n m : Nat} {v5 v6 : Value} {Z : List (Int × Int)} (h : StR W w' hb g cq n m v5 v6 Z false false) : StR W (w'.alloc (.cells #[v5, v6] 41)) w'.heap.size g cq n m v5 v6 Z true false :=
  ⟨h.low.alloc h.low.size _, fun _ => ⟨by simp, by simp, by simp⟩, fun e => Bool.noConfusion e⟩
theorem StR.cat_ {W w' w'' : World} {hb g cq n m : Nat} {v5 v6 : Value} {Z : List (Int × Int)} (h : StR W w' hb g cq n m v5 v6 Z true false) {g2 c2 : Nat} (hf : FreshF w'.heap.size w'' (.slice (some ⟨g2, 0, none⟩) (n + m) c2) Z) (hbl : Below w'.heap.size w' w'') : StR W w'' hb g2 c2 n m v5 v6 Z true true := by
  obtain ⟨h1, h2, h3⟩ := h.box rfl
  exact ⟨h.low.trans (hbl.mono h.low.size), fun _ => ⟨Nat.lt_of_lt_of_le h1 hbl.size, (hbl.cell (p := ⟨hb, 0, none⟩) h1).trans h2, (hbl.cell (p := ⟨hb, 1, none⟩) h1).trans h3⟩, fun _ => hf.mono h.low.size⟩
theorem StR.sol_ {W w' w'' : World} {hb g cq n m : Nat} {v5 v6 : Value} {Z : List (Int × Int)} (h : StR W w' hb g cq n m v5 v6 Z true true) (hbl : Below w'.heap.size w' w'') : StR W w'' hb g cq n m v5 v6 Z true true := by
  obtain ⟨h1, h2, h3⟩ := h.box rfl
  exact ⟨h.low.trans (hbl.mono h.low.size), fun _ => ⟨Nat.lt_of_lt_of_le h1 hbl.size, (hbl.cell (p := ⟨hb, 0, none⟩) h1).trans h2, (hbl.cell (p := ⟨hb, 1, none⟩) h1).trans h3⟩, fun _ => (h.cat rfl).below hbl⟩

set_option maxRecDepth 100000 in
set_option maxHeartbeats 8000000 in
theorem implIsStationary_any (d c a b x y : Value) (D : List (List Int)) (C : List Int) (A : List (List Int)) (B : List Int) (X Y : List (Int × Int)) (w : World) (h1 : PM.Rows w d D) (h2 : Ints w c C) (h3 : PM.Rows w a A) (h4 : Ints w b B) (h5 : Frs w x X) (h6 : Frs w y Y) (hs : szWn D C A B ≤ 1048576) :
    Calls Try.prog 45 #[.agg #[d, c, a, b], x, y] w fun e w' => e = .returned (.tuple #[.bool (stOut D C A B X Y).1, .int .i64 (stOut D C A B X Y).2]) ∧ Below w.heap.size w w' := by
  have hmx : Try.prog.follows .mixedOrders = true := by kernel_rfl
  have HPP := Lib.hid (fun (w' : World) (h : Below w.heap.size w w') => implProgramProblem_any d c a b D C A B w' (h1.below h) (h2.below h) (h3.below h) (h4.below h) hs)
  have HF1 := Lib.hid (fun (w' : World) (h : Below w.heap.size w w') => areFracs_any x X w' (h5.below h))
  have HF2 := Lib.hid (fun (w' : World) (h : Below w.heap.size w w') => areFracs_any y Y w' (h6.below h))
  have H5 := Lib.hid h5
  have H6 := Lib.hid h6
  have HL5 := Lib.hid (show X.length ≤ 9223372036854775807 by obtain ⟨_, _, _, h7, h8, _⟩ := h5; exact maxLen_le (Nat.le_trans h7 h8))
  have HL6 := Lib.hid (show Y.length ≤ 9223372036854775807 by obtain ⟨_, _, _, h7, h8, _⟩ := h6; exact maxLen_le (Nat.le_trans h7 h8))
  have HL2 := Lib.hid (wints_len h2)
  have HL4 := Lib.hid (wints_len h4)
  obtain ⟨x1, y1, rfl, _⟩ := h1
  obtain ⟨x2, y2, rfl, _⟩ := h2
  obtain ⟨x3, y3, rfl, _⟩ := h3
  obtain ⟨x4, y4, rfl, _⟩ := h4
  obtain ⟨x5, y5, rfl, _⟩ := h5
  obtain ⟨x6, y6, rfl, _⟩ := h6
  clear hs
  obtain ⟨W0, hW0⟩ : ∃ W0, W0 = w.alloc (.cells #[.slice x1 D.length y1, .slice x2 C.length y2, .slice x3 A.length y3, .slice x4 B.length y4] 54) := ⟨_, rfl⟩
  have hb0 : Below w.heap.size w W0 := by rw [hW0]; exact (Below.refl _ _).alloc (Nat.le_refl _) _
  have hz0 : w.heap.size < W0.heap.size := by rw [hW0]; simp
  have k0 : W0.cell? ⟨w.heap.size, 0, none⟩ = some (.slice x1 D.length y1) := by rw [hW0]; simp
  have k1 : W0.cell? ⟨w.heap.size, 1, none⟩ = some (.slice x2 C.length y2) := by rw [hW0]; simp
  have k2 : W0.cell? ⟨w.heap.size, 2, none⟩ = some (.slice x3 A.length y3) := by rw [hW0]; simp
  have k3 : W0.cell? ⟨w.heap.size, 3, none⟩ = some (.slice x4 B.length y4) := by rw [hW0]; simp
  have HW0 := Lib.hid hW0
  clear hW0
  cases hw : isWB D C A B
  · have hst : stOut D C A B X Y = (false, 1) := by
      have e := wf_no (X := X) (Y := Y) (m := B.length) hw
      rw [st_no (by rw [e]; decide), e]
    rw [hst]
    rw [ppOut_no hw] at HPP
    clear hw hst
    go_enter Try.func45, Try.ntmps45
    go_wp2_with fail
    rw [← HW0.out]
    refine (HPP.out _ hb0).mono ?_; rintro e w1 ho; obtain ⟨a1, c1, a2, c2, rfl, hr, hb1⟩ := ho.out; clear ho; dsimp only at hr; dsimp only
    have hw1 : Below w.heap.size w w1 := hb0.trans (hb1.mono hb0.size)
    clear hr
    go_wp2_with fail
    go_ret2
    exact ⟨rfl, by (repeat' (first | (with_reducible exact Below.refl _ _) | (with_reducible assumption) | (with_reducible refine Below.alloc ?_ ?_ _) | (with_reducible refine Below.drew ?_) | (with_reducible refine below_drewN ?_ _) | (with_reducible refine Below.setCell ?_ ?_ _) | (with_reducible refine Below.trans ?_ (Below.mono (by with_reducible assumption) ?_)) | (with_reducible exact Below.size (by with_reducible assumption)) | go_size))⟩
  rw [ppOut_ok hw] at HPP
  have hfn := fine_pp D C A B
  rw [ppOut_ok hw] at hfn
  have HFN := Lib.hid hfn
  obtain ⟨N, hN⟩ : ∃ N, N = C.length + B.length := ⟨_, rfl⟩
  have hTL : (tab (C.length + B.length) (ppG D A C.length)).length = N := by rw [hN]; exact tab_length _ _
  have hQL : (ppQ C B).length = N := by rw [hN]; exact ppQ_length C B
  have hW := (isWB_is D C A B).1 hw
  have hn1 := hW.n1
  have hn5 := hW.n5
  have HBAD := Lib.hid (fun h => wf_bad (X := X) (Y := Y) (m := B.length) hw h)
  have HLEN := Lib.hid (fun h hl => wf_len (X := X) (Y := Y) (m := B.length) hw h hl)
  have HOK := Lib.hid (fun h hl => wf_ok (X := X) (Y := Y) (m := B.length) hw h hl)
  have HNO := Lib.hid (fun h => st_no (D := D) (C := C) (A := A) (B := B) (X := X) (Y := Y) h)
  have HYES := Lib.hid (fun h => st_ok (D := D) (C := C) (A := A) (B := B) (X := X) (Y := Y) h)
  have HTL := Lib.hid hTL
  have HQL := Lib.hid hQL
  have HNN := Lib.hid hN
  clear hw hW hfn hTL hQL hN
  generalize wfCode D C A B X Y B.length = K at *
  generalize stOut D C A B X Y = OUT at *
  generalize tab (C.length + B.length) (ppG D A C.length) = T at *
  generalize ppQ C B = QQ at *
  cases hx : frsB X
  · have hO := HNO.out (by rw [HBAD.out (by rw [hx]; simp)]; decide)
    rw [HBAD.out (by rw [hx]; simp)] at hO
    subst hO
    rw [hx] at HF1
    clear hx HBAD HLEN HOK HNO HYES
    go_enter Try.func45, Try.ntmps45
    go_wp2_with fail
    rw [← HW0.out]
    refine (HPP.out _ hb0).mono ?_; rintro e w1 ho; obtain ⟨a1, c1, a2, c2, rfl, hr, hb1⟩ := ho.out; clear ho; dsimp only at hr; dsimp only; rw [HTL.out, HQL.out] at hr ⊢
    have hw1 : Below w.heap.size w w1 := hb0.trans (hb1.mono hb0.size)
    have hw1 : Below w.heap.size w (w1.alloc (.cells #[.slice a1 N c1, .slice a2 N c2] 27)) := hw1.alloc hw1.size _
    obtain ⟨W1, hW1⟩ : ∃ W1, W1 = w1.alloc (.cells #[.slice a1 N c1, .slice a2 N c2] 27) := ⟨_, rfl⟩
    rw [← hW1] at hw1
    have hbW : Below W0.heap.size W0 W1 := by rw [hW1]; exact hb1.alloc hb1.size _
    have k1 := (hbW.cell (p := ⟨w.heap.size, 1, none⟩) hz0).trans k1
    have k3 := (hbW.cell (p := ⟨w.heap.size, 3, none⟩) hz0).trans k3
    have hzW : w.heap.size < W1.heap.size := by have := hbW.size; omega
    clear hr hb1 hbW k0 k1 k2 k3
    go_wp2_with fail
    rw [← hW1]
    refine (HF1.out _ hw1).mono ?_; rintro e w2 ⟨rfl, hb2⟩
    have hw2 : Below w.heap.size w w2 := hw1.trans (hb2.mono hw1.size)
    go_wp2_with fail
    go_ret2
    exact ⟨rfl, hw2⟩
  cases hy : frsB Y
  · have hO := HNO.out (by rw [HBAD.out (by rw [hy]; simp)]; decide)
    rw [HBAD.out (by rw [hy]; simp)] at hO
    subst hO
    rw [hx] at HF1
    rw [hy] at HF2
    clear hx hy HBAD HLEN HOK HNO HYES
    go_enter Try.func45, Try.ntmps45
    go_wp2_with fail
    rw [← HW0.out]
    refine (HPP.out _ hb0).mono ?_; rintro e w1 ho; obtain ⟨a1, c1, a2, c2, rfl, hr, hb1⟩ := ho.out; clear ho; dsimp only at hr; dsimp only; rw [HTL.out, HQL.out] at hr ⊢
    have hw1 : Below w.heap.size w w1 := hb0.trans (hb1.mono hb0.size)
    have hw1 : Below w.heap.size w (w1.alloc (.cells #[.slice a1 N c1, .slice a2 N c2] 27)) := hw1.alloc hw1.size _
    obtain ⟨W1, hW1⟩ : ∃ W1, W1 = w1.alloc (.cells #[.slice a1 N c1, .slice a2 N c2] 27) := ⟨_, rfl⟩
    rw [← hW1] at hw1
    have hbW : Below W0.heap.size W0 W1 := by rw [hW1]; exact hb1.alloc hb1.size _
    have k1 := (hbW.cell (p := ⟨w.heap.size, 1, none⟩) hz0).trans k1
    have k3 := (hbW.cell (p := ⟨w.heap.size, 3, none⟩) hz0).trans k3
    have hzW : w.heap.size < W1.heap.size := by have := hbW.size; omega
    clear hr hb1 hbW k0 k1 k2 k3
    go_wp2_with fail
    rw [← hW1]
    refine (HF1.out _ hw1).mono ?_; rintro e w2 ⟨rfl, hb2⟩
    have hw2 : Below w.heap.size w w2 := hw1.trans (hb2.mono hw1.size)
    go_wp2_with fail
    refine (HF2.out _ hw2).mono ?_; rintro e w3 ⟨rfl, hb3⟩
    have hw3 : Below w.heap.size w w3 := hw2.trans (hb3.mono hw2.size)
    go_wp2_with fail
    go_ret2
    exact ⟨rfl, hw3⟩
  rw [hx] at HF1
  rw [hy] at HF2
  by_cases hl : X.length = C.length ∧ Y.length = B.length
  case neg =>
    have hO := HNO.out (by rw [HLEN.out ⟨hx, hy⟩ hl]; decide)
    rw [HLEN.out ⟨hx, hy⟩ hl] at hO
    subst hO
    clear hx hy HBAD HLEN HOK HNO HYES
    go_enter Try.func45, Try.ntmps45
    go_wp2_with fail
    rw [← HW0.out]
    refine (HPP.out _ hb0).mono ?_; rintro e w1 ho; obtain ⟨a1, c1, a2, c2, rfl, hr, hb1⟩ := ho.out; clear ho; dsimp only at hr; dsimp only; rw [HTL.out, HQL.out] at hr ⊢
    have hw1 : Below w.heap.size w w1 := hb0.trans (hb1.mono hb0.size)
    have hw1 : Below w.heap.size w (w1.alloc (.cells #[.slice a1 N c1, .slice a2 N c2] 27)) := hw1.alloc hw1.size _
    obtain ⟨W1, hW1⟩ : ∃ W1, W1 = w1.alloc (.cells #[.slice a1 N c1, .slice a2 N c2] 27) := ⟨_, rfl⟩
    rw [← hW1] at hw1
    have hbW : Below W0.heap.size W0 W1 := by rw [hW1]; exact hb1.alloc hb1.size _
    have k1 := (hbW.cell (p := ⟨w.heap.size, 1, none⟩) hz0).trans k1
    have k3 := (hbW.cell (p := ⟨w.heap.size, 3, none⟩) hz0).trans k3
    have hzW : w.heap.size < W1.heap.size := by have := hbW.size; omega
    clear hr hb1 k0 k2
    go_wp2_with fail
    rw [← hW1]
    refine (HF1.out _ hw1).mono ?_; rintro e w2 ⟨rfl, hb2⟩
    have hw2 : Below w.heap.size w w2 := hw1.trans (hb2.mono hw1.size)
    have k1 := (hb2.cell (p := ⟨w.heap.size, 1, none⟩) hzW).trans k1
    have k3 := (hb2.cell (p := ⟨w.heap.size, 3, none⟩) hzW).trans k3
    have hz2 : w.heap.size < w2.heap.size := by have := hb2.size; omega
    clear hbW hb2
    go_wp2_with fail
    refine (HF2.out _ hw2).mono ?_; rintro e w3 ⟨rfl, hb3⟩
    have hw3 : Below w.heap.size w w3 := hw2.trans (hb3.mono hw2.size)
    have k1 := (hb3.cell (p := ⟨w.heap.size, 1, none⟩) hz2).trans k1
    have k3 := (hb3.cell (p := ⟨w.heap.size, 3, none⟩) hz2).trans k3
    have l5 := HL5.out
    have l6 := HL6.out
    have l2 := HL2.out
    have l4 := HL4.out
    clear hb3
    by_cases hlx : X.length = C.length
    · have hly : ¬ Y.length = B.length := fun e => hl ⟨hlx, e⟩
      have q1 : ((X.length : Int) != (C.length : Int)) = false := by simp; omega
      have q2 : ((Y.length : Int) != (B.length : Int)) = true := by simp; omega
      clear hl
      go_wp2_with fail
      go_ret2
      exact ⟨rfl, hw3⟩
    · have q1 : ((X.length : Int) != (C.length : Int)) = true := by simp; omega
      clear hl
      go_wp2_with fail
      go_ret2
      exact ⟨rfl, hw3⟩
  have hO := HYES.out (HOK.out ⟨hx, hy⟩ hl)
  subst hO
  obtain ⟨hxl, hyl⟩ := hl
  have HSO := Lib.hid (fun (m q z : Value) (w' : World) h1 h2 h3 => implIsSolution_any m q z T QQ (X ++ Y) w' h1 h2 h3)
  have HI := Lib.hid (fun z (hz : z ∈ X ++ Y) => (List.mem_append.1 hz).elim (frs_i64 H5.out z) (frs_i64 H6.out z))
  have HXL := Lib.hid hxl
  have HYL := Lib.hid hyl
  have l5 := HL5.out
  have l6 := HL6.out
  have l2 := HL2.out
  have l4 := HL4.out
  have q1 : ((X.length : Int) != (C.length : Int)) = false := by simp; omega
  have q2 : ((Y.length : Int) != (B.length : Int)) = false := by simp; omega
  have HSZ := Lib.hid (show 1 ≤ X.length ∧ X.length ≤ 100 ∧ Y.length ≤ 100 by omega)
  have HZL : Hid ((X ++ Y).length = X.length + Y.length) := List.length_append
  generalize isoOut T QQ (X ++ Y) = OUT at *
  clear hx hy HBAD HLEN HOK HNO HYES hxl hyl
  go_enter Try.func45, Try.ntmps45
  go_wp2_with fail
  rw [← HW0.out]
  refine (HPP.out _ hb0).mono ?_; rintro e w1 ho; obtain ⟨a1, c1, a2, c2, rfl, hr, hb1⟩ := ho.out; clear ho; dsimp only at hr; dsimp only; rw [HTL.out, HQL.out] at hr ⊢
  have hw1 : Below w.heap.size w w1 := hb0.trans (hb1.mono hb0.size)
  have hw1 : Below w.heap.size w (w1.alloc (.cells #[.slice a1 N c1, .slice a2 N c2] 27)) := hw1.alloc hw1.size _
  obtain ⟨hrM, hrQ⟩ := RngPx.reads hr HFN.out.m64 HFN.out.q64
  obtain ⟨W1, hW1⟩ : ∃ W1, W1 = w1.alloc (.cells #[.slice a1 N c1, .slice a2 N c2] 27) := ⟨_, rfl⟩
  have hal : Below w1.heap.size w1 W1 := by rw [hW1]; exact (Below.refl _ _).alloc (Nat.le_refl _) _
  have p0 : W1.cell? ⟨w1.heap.size, 0, none⟩ = some (.slice a1 N c1) := by rw [hW1]; simp
  have p1 : W1.cell? ⟨w1.heap.size, 1, none⟩ = some (.slice a2 N c2) := by rw [hW1]; simp
  have hpz : w1.heap.size < W1.heap.size := by rw [hW1]; simp
  rw [← hW1] at hw1
  have hbW : Below W0.heap.size W0 W1 := hb1.trans (hal.mono hb1.size)
  have HRM := Lib.hid (hrM.below hal)
  have HRQ := Lib.hid (hrQ.below hal)
  have k1 := (hbW.cell (p := ⟨w.heap.size, 1, none⟩) hz0).trans k1
  have k3 := (hbW.cell (p := ⟨w.heap.size, 3, none⟩) hz0).trans k3
  have hzW : w.heap.size < W1.heap.size := by have := hbW.size; omega
  clear hr hb1 hbW hal hrM hrQ k0 k2
  go_wp2_with fail
  rw [← hW1]
  refine (HF1.out _ hw1).mono ?_; rintro e w2 ⟨rfl, hb2⟩
  have hw2 : Below w.heap.size w w2 := hw1.trans (hb2.mono hw1.size)
  have k1 := (hb2.cell (p := ⟨w.heap.size, 1, none⟩) hzW).trans k1
  have k3 := (hb2.cell (p := ⟨w.heap.size, 3, none⟩) hzW).trans k3
  have p0 := (hb2.cell (p := ⟨w1.heap.size, 0, none⟩) hpz).trans p0
  have p1 := (hb2.cell (p := ⟨w1.heap.size, 1, none⟩) hpz).trans p1
  have hz2 : w.heap.size < w2.heap.size := by have := hb2.size; omega
  have hp2 : w1.heap.size < w2.heap.size := by have := hb2.size; omega
  have HRM := Lib.hid (HRM.out.below hb2)
  have HRQ := Lib.hid (HRQ.out.below hb2)
  clear hb2
  go_wp2_with fail
  refine (HF2.out _ hw2).mono ?_; rintro e w3 ⟨rfl, hb3⟩
  have hw3 : Below w.heap.size w w3 := hw2.trans (hb3.mono hw2.size)
  have k1 := (hb3.cell (p := ⟨w.heap.size, 1, none⟩) hz2).trans k1
  have k3 := (hb3.cell (p := ⟨w.heap.size, 3, none⟩) hz2).trans k3
  have p0 := (hb3.cell (p := ⟨w1.heap.size, 0, none⟩) hp2).trans p0
  have p1 := (hb3.cell (p := ⟨w1.heap.size, 1, none⟩) hp2).trans p1
  have hp3 : w1.heap.size < w3.heap.size := by have := hb3.size; omega
  have HRM := Lib.hid (HRM.out.below hb3)
  have HRQ := Lib.hid (HRQ.out.below hb3)
  obtain ⟨Pb, hPb⟩ : ∃ Pb, Pb = w1.heap.size := ⟨_, rfl⟩
  rw [← hPb] at p0 p1 hp3
  have HPb := Lib.hid hPb
  clear hb3 hpz hp2 hw1 hw2 hPb
  go_wp2_with fail
  rw [← HPb.out]
  clear hW1
  obtain ⟨W, rfl⟩ : ∃ W, W = w3 := ⟨_, rfl⟩
  have HW3 := Lib.hid hw3
  clear k1 k3 hw3 q1 q2 hz2 hzW
  rename_i K0 hK0
  refine (wpIn_wide (n := 8)).1 ?_
  refine PR.wpIn_region_inv hmx (by kernel_rfl) (fun listed ac w' =>
      ∃ (b0 b1 b2 b3 b4 b5 b6 b7 b8 b9 : Bool) (hb : Nat) (g : Nat) (cq : Nat), ((b3 = true → b1 = true ∧ b2 = true) ∧ (b4 = true → b3 = true) ∧ (b5 = true → b0 = true ∧ b4 = true) ∧ (b6 = true → b5 = true) ∧ (b7 = true → b5 = true) ∧ (b8 = true → b6 = true) ∧ (b9 = true → b7 = true ∧ b8 = true)) ∧ listed = #[b0, b1, b2, b3, b4, b5, b6, b7, b8, b9] ∧
        ac = { tmps := #[.agg #[.slice x1 D.length y1, .slice x2 C.length y2, .slice x3 A.length y3, .slice x4 B.length y4], .slice x5 X.length y5, .slice x6 Y.length y6, .pointer (some ⟨w.heap.size, 0, none⟩), undef, undef, cond b8 (.bool OUT.1) (.bool false), cond b9 (.int .i64 OUT.2) (.int .i64 0), .pointer (some ⟨Pb, 0, none⟩), .int .i64 0, .tuple #[.agg #[.slice a1 N c1, .slice a2 N c2], .int .i64 0], .agg #[.slice x1 D.length y1, .slice x2 C.length y2, .slice x3 A.length y3, .slice x4 B.length y4], .tuple #[.agg #[.slice a1 N c1, .slice a2 N c2], .int .i64 0], .agg #[.slice a1 N c1, .slice a2 N c2], .int .i64 0, .int .i64 0, .bool false, .bool false, .slice x5 X.length y5, .bool true, .bool false, .bool false, .bool false, .slice x6 Y.length y6, .bool true, .bool false, .bool false, .slice x5 X.length y5, .int .i64 X.length, .pointer (some ⟨w.heap.size, 1, none⟩), .slice x2 C.length y2, .int .i64 C.length, .bool false, .bool false, .slice x6 Y.length y6, .int .i64 Y.length, .pointer (some ⟨w.heap.size, 3, none⟩), .slice x4 B.length y4, .int .i64 B.length, .bool false, .bool false, cond b0 (.agg #[.slice a1 N c1, .slice a2 N c2]) undef, cond b1 (.slice x5 X.length y5) undef, cond b2 (.slice x6 Y.length y6) undef, cond b3 (.slice (some ⟨hb, 0, none⟩) 2 2) undef, cond b4 (.slice (some ⟨g, 0, none⟩) (X.length + Y.length) cq) undef, cond b5 (.tuple #[.bool OUT.1, .int .i64 OUT.2]) undef, cond b6 (.bool OUT.1) undef, cond b7 (.int .i64 OUT.2) undef], defers := [] } ∧ StR W w' hb g cq X.length Y.length (.slice x5 X.length y5) (.slice x6 Y.length y6) (X ++ Y) b3 b4) ?_ ?_ ?_ ?_
  · rintro listed ac w' ⟨b0, b1, b2, b3, b4, b5, b6, b7, b8, b9, hb, g, cq, _, rfl, _⟩
    rfl
  · rintro listed ac w' ⟨b0, b1, b2, b3, b4, b5, b6, b7, b8, b9, hb, g, cq, _, rfl, rfl, hR⟩ hall
    have h0 := hall 0 (by simp)
    have h1 := hall 1 (by simp)
    have h2 := hall 2 (by simp)
    have h3 := hall 3 (by simp)
    have h4 := hall 4 (by simp)
    have h5 := hall 5 (by simp)
    have h6 := hall 6 (by simp)
    have h7 := hall 7 (by simp)
    have h8 := hall 8 (by simp)
    have h9 := hall 9 (by simp)
    simp at h0 h1 h2 h3 h4 h5 h6 h7 h8 h9
    subst h0 h1 h2 h3 h4 h5 h6 h7 h8 h9
    clear hall
    refine hK0 _ _ ?_
    simp only [cond_true]
    have HB := Lib.hid (HW3.out.trans (hR.low.mono HW3.out.size))
    clear hR p0 p1
    go_wp2_with fail
    go_ret2
    exact ⟨rfl, HB.out⟩
  · exact ⟨false, false, false, false, false, false, false, false, false, false, 0, 0, 0, by simp, rfl, rfl, ⟨(Below.refl _ _).drew, fun e => (by cases e), fun e => (by cases e)⟩⟩
  · rintro listed ac w' i oi ⟨b0, b1, b2, b3, b4, b5, b6, b7, b8, b9, hb, g, cq, ⟨e3, e4, e5, e6, e7, e8, e9⟩, rfl, rfl, hR⟩ ho hun hdep
    have hi : i < 10 := by simpa using (Array.getElem?_eq_some_iff.1 ho).1
    obtain rfl | rfl | rfl | rfl | rfl | rfl | rfl | rfl | rfl | rfl : i = 0 ∨ i = 1 ∨ i = 2 ∨ i = 3 ∨ i = 4 ∨ i = 5 ∨ i = 6 ∨ i = 7 ∨ i = 8 ∨ i = 9 := by omega
    · -- 0
      simp only [List.getElem?_toArray, List.getElem?_cons_zero, Option.some.injEq] at ho
      subst ho
      have hbi : b0 = false := by simpa using hun
      subst hbi
      obtain rfl : b5 = false := Bool.eq_false_iff.2 (fun h => Bool.noConfusion (e5 h).1)
      obtain rfl : b6 = false := Bool.eq_false_iff.2 (fun h => Bool.noConfusion (e6 h))
      obtain rfl : b7 = false := Bool.eq_false_iff.2 (fun h => Bool.noConfusion (e7 h))
      obtain rfl : b8 = false := Bool.eq_false_iff.2 (fun h => Bool.noConfusion (e8 h))
      obtain rfl : b9 = false := Bool.eq_false_iff.2 (fun h => Bool.noConfusion (e9 h).1)
      refine wpOpIn_step rfl (fun K hK => ?_)
      clear hun hdep hi
      have t0 := (hR.low.cell (p := ⟨Pb, 0, none⟩) hp3).trans p0
      have t1 := (hR.low.cell (p := ⟨Pb, 1, none⟩) hp3).trans p1
      go_simp
      refine hK _ _ ⟨true, b1, b2, b3, b4, false, false, false, false, false, hb, g, cq, ⟨e3, e4, fun h => Bool.noConfusion h, fun h => Bool.noConfusion h, fun h => Bool.noConfusion h, fun h => Bool.noConfusion h, fun h => Bool.noConfusion h⟩, rfl, rfl, hR⟩
    · -- 1
      simp only [List.getElem?_toArray, List.getElem?_cons_succ, List.getElem?_cons_zero, Option.some.injEq] at ho
      subst ho
      have hbi : b1 = false := by simpa using hun
      subst hbi
      obtain rfl : b3 = false := Bool.eq_false_iff.2 (fun h => Bool.noConfusion (e3 h).1)
      obtain rfl : b4 = false := Bool.eq_false_iff.2 (fun h => Bool.noConfusion (e4 h))
      obtain rfl : b5 = false := Bool.eq_false_iff.2 (fun h => Bool.noConfusion (e5 h).2)
      obtain rfl : b6 = false := Bool.eq_false_iff.2 (fun h => Bool.noConfusion (e6 h))
      obtain rfl : b7 = false := Bool.eq_false_iff.2 (fun h => Bool.noConfusion (e7 h))
      obtain rfl : b8 = false := Bool.eq_false_iff.2 (fun h => Bool.noConfusion (e8 h))
      obtain rfl : b9 = false := Bool.eq_false_iff.2 (fun h => Bool.noConfusion (e9 h).1)
      refine wpOpIn_step rfl (fun K hK => ?_)
      clear hun hdep hi
      go_simp
      refine hK _ _ ⟨b0, true, b2, false, false, false, false, false, false, false, hb, g, cq, ⟨fun h => Bool.noConfusion h, fun h => Bool.noConfusion h, fun h => Bool.noConfusion h, fun h => Bool.noConfusion h, fun h => Bool.noConfusion h, fun h => Bool.noConfusion h, fun h => Bool.noConfusion h⟩, rfl, rfl, hR⟩
    · -- 2
      simp only [List.getElem?_toArray, List.getElem?_cons_succ, List.getElem?_cons_zero, Option.some.injEq] at ho
      subst ho
      have hbi : b2 = false := by simpa using hun
      subst hbi
      obtain rfl : b3 = false := Bool.eq_false_iff.2 (fun h => Bool.noConfusion (e3 h).2)
      obtain rfl : b4 = false := Bool.eq_false_iff.2 (fun h => Bool.noConfusion (e4 h))
      obtain rfl : b5 = false := Bool.eq_false_iff.2 (fun h => Bool.noConfusion (e5 h).2)
      obtain rfl : b6 = false := Bool.eq_false_iff.2 (fun h => Bool.noConfusion (e6 h))
      obtain rfl : b7 = false := Bool.eq_false_iff.2 (fun h => Bool.noConfusion (e7 h))
      obtain rfl : b8 = false := Bool.eq_false_iff.2 (fun h => Bool.noConfusion (e8 h))
      obtain rfl : b9 = false := Bool.eq_false_iff.2 (fun h => Bool.noConfusion (e9 h).1)
      refine wpOpIn_step rfl (fun K hK => ?_)
      clear hun hdep hi
      go_simp
      refine hK _ _ ⟨b0, b1, true, false, false, false, false, false, false, false, hb, g, cq, ⟨fun h => Bool.noConfusion h, fun h => Bool.noConfusion h, fun h => Bool.noConfusion h, fun h => Bool.noConfusion h, fun h => Bool.noConfusion h, fun h => Bool.noConfusion h, fun h => Bool.noConfusion h⟩, rfl, rfl, hR⟩
    · -- 3
      simp only [List.getElem?_toArray, List.getElem?_cons_succ, List.getElem?_cons_zero, Option.some.injEq] at ho
      subst ho
      have hbi : b3 = false := by simpa using hun
      subst hbi
      have hd1 : b1 = true := by have := hdep ⟨1, .data⟩ (by simp) rfl; simpa using this
      have hd2 : b2 = true := by have := hdep ⟨2, .data⟩ (by simp) rfl; simpa using this
      subst hd1 hd2
      obtain rfl : b4 = false := Bool.eq_false_iff.2 (fun h => Bool.noConfusion (e4 h))
      obtain rfl : b5 = false := Bool.eq_false_iff.2 (fun h => Bool.noConfusion (e5 h).2)
      obtain rfl : b6 = false := Bool.eq_false_iff.2 (fun h => Bool.noConfusion (e6 h))
      obtain rfl : b7 = false := Bool.eq_false_iff.2 (fun h => Bool.noConfusion (e7 h))
      obtain rfl : b8 = false := Bool.eq_false_iff.2 (fun h => Bool.noConfusion (e8 h))
      obtain rfl : b9 = false := Bool.eq_false_iff.2 (fun h => Bool.noConfusion (e9 h).1)
      refine wpOpIn_step rfl (fun K hK => ?_)
      clear hun hdep hi
      go_simp
      refine hK _ _ ⟨b0, true, true, true, false, false, false, false, false, false, w'.heap.size, g, cq, ⟨fun _ => ⟨rfl, rfl⟩, fun h => Bool.noConfusion h, fun h => Bool.noConfusion h, fun h => Bool.noConfusion h, fun h => Bool.noConfusion h, fun h => Bool.noConfusion h, fun h => Bool.noConfusion h⟩, rfl, rfl, hR.box_⟩
    · -- 4
      simp only [List.getElem?_toArray, List.getElem?_cons_succ, List.getElem?_cons_zero, Option.some.injEq] at ho
      subst ho
      have hbi : b4 = false := by simpa using hun
      subst hbi
      have hd3 : b3 = true := by have := hdep ⟨3, .data⟩ (by simp) rfl; simpa using this
      have hd2 : b2 = true := (e3 hd3).2
      have hd1 : b1 = true := (e3 hd3).1
      subst hd1 hd2 hd3
      obtain rfl : b5 = false := Bool.eq_false_iff.2 (fun h => Bool.noConfusion (e5 h).2)
      obtain rfl : b6 = false := Bool.eq_false_iff.2 (fun h => Bool.noConfusion (e6 h))
      obtain rfl : b7 = false := Bool.eq_false_iff.2 (fun h => Bool.noConfusion (e7 h))
      obtain rfl : b8 = false := Bool.eq_false_iff.2 (fun h => Bool.noConfusion (e8 h))
      obtain rfl : b9 = false := Bool.eq_false_iff.2 (fun h => Bool.noConfusion (e9 h).1)
      refine wpOpIn_step rfl (fun K hK => ?_)
      clear hun hdep hi
      go_simp
      obtain ⟨z1, z2, z3⟩ := hR.box rfl
      have hww := HW3.out.trans (hR.low.mono HW3.out.size)
      refine ⟨trivial, (callsIn_wide.2 (concatF_any hb X.length Y.length y5 y6 x5 x6 X Y w' (H5.out.below hww) (H6.out.below hww) rfl rfl HSZ.out.1 HSZ.out.2.1 HSZ.out.2.2 z1 z2 z3)).mono ?_⟩
      rintro e w'' ⟨yg, yc, rfl, hF, hb'⟩
      refine hK _ _ ⟨b0, true, true, true, true, false, false, false, false, false, hb, yg, yc, ⟨fun _ => ⟨rfl, rfl⟩, fun _ => rfl, fun h => Bool.noConfusion h, fun h => Bool.noConfusion h, fun h => Bool.noConfusion h, fun h => Bool.noConfusion h, fun h => Bool.noConfusion h⟩, rfl, rfl, hR.cat_ hF hb'⟩
    · -- 5
      simp only [List.getElem?_toArray, List.getElem?_cons_succ, List.getElem?_cons_zero, Option.some.injEq] at ho
      subst ho
      have hbi : b5 = false := by simpa using hun
      subst hbi
      have hd0 : b0 = true := by have := hdep ⟨0, .data⟩ (by simp) rfl; simpa using this
      have hd4 : b4 = true := by have := hdep ⟨4, .data⟩ (by simp) rfl; simpa using this
      have hd3 : b3 = true := (e4 hd4)
      have hd2 : b2 = true := (e3 hd3).2
      have hd1 : b1 = true := (e3 hd3).1
      subst hd0 hd1 hd2 hd3 hd4
      obtain rfl : b6 = false := Bool.eq_false_iff.2 (fun h => Bool.noConfusion (e6 h))
      obtain rfl : b7 = false := Bool.eq_false_iff.2 (fun h => Bool.noConfusion (e7 h))
      obtain rfl : b8 = false := Bool.eq_false_iff.2 (fun h => Bool.noConfusion (e8 h))
      obtain rfl : b9 = false := Bool.eq_false_iff.2 (fun h => Bool.noConfusion (e9 h).1)
      refine wpOpIn_step rfl (fun K hK => ?_)
      clear hun hdep hi
      go_simp
      refine ⟨trivial, (callsIn_wide.2 (HSO.out _ _ _ w' (HRM.out.below hR.low) (HRQ.out.below hR.low) (freshF_frs (hR.cat rfl) HZL.out.symm HI.out))).mono ?_⟩
      rintro e w'' ⟨rfl, hb'⟩
      refine hK _ _ ⟨true, true, true, true, true, true, false, false, false, false, hb, g, cq, ⟨fun _ => ⟨rfl, rfl⟩, fun _ => rfl, fun _ => ⟨rfl, rfl⟩, fun h => Bool.noConfusion h, fun h => Bool.noConfusion h, fun h => Bool.noConfusion h, fun h => Bool.noConfusion h⟩, rfl, rfl, hR.sol_ hb'⟩
    · -- 6
      simp only [List.getElem?_toArray, List.getElem?_cons_succ, List.getElem?_cons_zero, Option.some.injEq] at ho
      subst ho
      have hbi : b6 = false := by simpa using hun
      subst hbi
      have hd5 : b5 = true := by have := hdep ⟨5, .data⟩ (by simp) rfl; simpa using this
      have hd4 : b4 = true := (e5 hd5).2
      have hd3 : b3 = true := (e4 hd4)
      have hd2 : b2 = true := (e3 hd3).2
      have hd1 : b1 = true := (e3 hd3).1
      have hd0 : b0 = true := (e5 hd5).1
      subst hd0 hd1 hd2 hd3 hd4 hd5
      obtain rfl : b8 = false := Bool.eq_false_iff.2 (fun h => Bool.noConfusion (e8 h))
      obtain rfl : b9 = false := Bool.eq_false_iff.2 (fun h => Bool.noConfusion (e9 h).2)
      refine wpOpIn_step rfl (fun K hK => ?_)
      clear hun hdep hi
      go_simp
      refine hK _ _ ⟨true, true, true, true, true, true, true, b7, false, false, hb, g, cq, ⟨fun _ => ⟨rfl, rfl⟩, fun _ => rfl, fun _ => ⟨rfl, rfl⟩, fun _ => rfl, e7, fun h => Bool.noConfusion h, fun h => Bool.noConfusion h⟩, rfl, rfl, hR⟩
    · -- 7
      simp only [List.getElem?_toArray, List.getElem?_cons_succ, List.getElem?_cons_zero, Option.some.injEq] at ho
      subst ho
      have hbi : b7 = false := by simpa using hun
      subst hbi
      have hd5 : b5 = true := by have := hdep ⟨5, .data⟩ (by simp) rfl; simpa using this
      have hd4 : b4 = true := (e5 hd5).2
      have hd3 : b3 = true := (e4 hd4)
      have hd2 : b2 = true := (e3 hd3).2
      have hd1 : b1 = true := (e3 hd3).1
      have hd0 : b0 = true := (e5 hd5).1
      subst hd0 hd1 hd2 hd3 hd4 hd5
      obtain rfl : b9 = false := Bool.eq_false_iff.2 (fun h => Bool.noConfusion (e9 h).1)
      refine wpOpIn_step rfl (fun K hK => ?_)
      clear hun hdep hi
      go_simp
      refine hK _ _ ⟨true, true, true, true, true, true, b6, true, b8, false, hb, g, cq, ⟨fun _ => ⟨rfl, rfl⟩, fun _ => rfl, fun _ => ⟨rfl, rfl⟩, e6, fun _ => rfl, e8, fun h => Bool.noConfusion h⟩, rfl, rfl, hR⟩
    · -- 8
      simp only [List.getElem?_toArray, List.getElem?_cons_succ, List.getElem?_cons_zero, Option.some.injEq] at ho
      subst ho
      have hbi : b8 = false := by simpa using hun
      subst hbi
      have hd6 : b6 = true := by have := hdep ⟨6, .data⟩ (by simp) rfl; simpa using this
      have hd5 : b5 = true := (e6 hd6)
      have hd4 : b4 = true := (e5 hd5).2
      have hd3 : b3 = true := (e4 hd4)
      have hd2 : b2 = true := (e3 hd3).2
      have hd1 : b1 = true := (e3 hd3).1
      have hd0 : b0 = true := (e5 hd5).1
      subst hd0 hd1 hd2 hd3 hd4 hd5 hd6
      obtain rfl : b9 = false := Bool.eq_false_iff.2 (fun h => Bool.noConfusion (e9 h).2)
      refine wpOpIn_step rfl (fun K hK => ?_)
      clear hun hdep hi
      go_simp
      refine hK _ _ ⟨true, true, true, true, true, true, true, b7, true, false, hb, g, cq, ⟨fun _ => ⟨rfl, rfl⟩, fun _ => rfl, fun _ => ⟨rfl, rfl⟩, fun _ => rfl, e7, fun _ => rfl, fun h => Bool.noConfusion h⟩, rfl, rfl, hR⟩
    · -- 9
      simp only [List.getElem?_toArray, List.getElem?_cons_succ, List.getElem?_cons_zero, Option.some.injEq] at ho
      subst ho
      have hbi : b9 = false := by simpa using hun
      subst hbi
      have hd7 : b7 = true := by have := hdep ⟨7, .data⟩ (by simp) rfl; simpa using this
      have hd8 : b8 = true := by have := hdep ⟨8, .chain⟩ (by simp) rfl; simpa using this
      have hd6 : b6 = true := (e8 hd8)
      have hd5 : b5 = true := (e6 hd6)
      have hd4 : b4 = true := (e5 hd5).2
      have hd3 : b3 = true := (e4 hd4)
      have hd2 : b2 = true := (e3 hd3).2
      have hd1 : b1 = true := (e3 hd3).1
      have hd0 : b0 = true := (e5 hd5).1
      subst hd0 hd1 hd2 hd3 hd4 hd5 hd6 hd7 hd8
      refine wpOpIn_step rfl (fun K hK => ?_)
      clear hun hdep hi
      go_simp
      refine hK _ _ ⟨true, true, true, true, true, true, true, true, true, true, hb, g, cq, ⟨fun _ => ⟨rfl, rfl⟩, fun _ => rfl, fun _ => ⟨rfl, rfl⟩, fun _ => rfl, fun _ => rfl, fun _ => rfl, fun _ => ⟨rfl, rfl⟩⟩, rfl, rfl, hR⟩
end Go.Proofs.Ytgncaploccbfnaa.PW
