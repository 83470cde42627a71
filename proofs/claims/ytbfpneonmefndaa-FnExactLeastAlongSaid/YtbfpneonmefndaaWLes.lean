/-
  Walks: LeastAlong in the model.
-/
import Derived.Test.YtbfpneonmefndaaWLe0
namespace Go.Proofs.Ytbfpneonmefndaa.PW
open Go.RowKit Go.Proofs.Ytbfpneonmefndaa
open Go.Proofs.Ytbfpneonmefndaa.PM Go.Proofs.Ytbfpneonmefndaa.PX

set_option maxRecDepth 100000 in
set_option maxHeartbeats 16000000 in
theorem specLeastAlong_any (d c a b x u : Value) (D : List (List Int)) (C : List Int) (A : List (List Int)) (B X U : List Int) (w : World) (h1 : PM.Rows w d D) (h2 : Ints w c C) (h3 : PM.Rows w a A) (h4 : Ints w b B) (h5 : Ints w x X) (h6 : Ints w u U) (hs : szWn D C A B ≤ 1048576) :
    Calls Try.prog 53 #[.agg #[d, c, a, b], x, u] w fun e w' => e = .returned (.tuple #[.agg #[.int .i64 (laOut D C A B X U).1.1, .int .i64 (laOut D C A B X U).1.2], .agg #[.int .i64 (laOut D C A B X U).2.1.1, .int .i64 (laOut D C A B X U).2.1.2], .int .i64 (laOut D C A B X U).2.2]) ∧ Below w.heap.size w w' := by
  have HIS := Lib.hid (fun (w' : World) (h : Below w.heap.size w w') => l09Is_any d c a b D C A B w' (h1.below h) (h2.below h) (h3.below h) (h4.below h) hs)
  have HNO := Lib.hid (laOut_no (D := D) (C := C) (A := A) (B := B) (X := X) (U := U))
  have HBAD := Lib.hid (laOut_bad (D := D) (C := C) (A := A) (B := B) (X := X) (U := U))
  have HOK := Lib.hid (laOut_ok (D := D) (C := C) (A := A) (B := B) (X := X) (U := U))
  have HWX := Lib.hid (wit_iff 100 X)
  have HWU := Lib.hid (wit_iff 100 U)
  generalize laOut D C A B X U = OUT at *
  have H1 := Lib.hid h1
  have H2 := Lib.hid h2
  have H5 := Lib.hid h5
  have H6 := Lib.hid h6
  obtain ⟨x1, y1, rfl, _⟩ := h1
  obtain ⟨x2, y2, rfl, _⟩ := h2
  obtain ⟨x3, y3, rfl, _⟩ := h3
  obtain ⟨x4, y4, rfl, _⟩ := h4
  obtain ⟨x5, y5, rfl, _⟩ := h5
  obtain ⟨x6, y6, rfl, _⟩ := h6
  obtain ⟨W0, hW0⟩ : ∃ W0, W0 = ((w.alloc (.cells #[.slice x1 D.length y1, .slice x2 C.length y2, .slice x3 A.length y3, .slice x4 B.length y4] 54)).alloc (.cells #[.int .i64 0, .int .i64 0] 62)).alloc (.cells #[.int .i64 0, .int .i64 0] 62) := ⟨_, rfl⟩
  have HG0 : Hid (Wl w W0 (.slice x1 D.length y1) (.slice x2 C.length y2) (.slice x3 A.length y3) (.slice x4 B.length y4)) := by rw [hW0]; exact wl_new _ _ _ _ _
  have HW0 := Lib.hid hW0
  have k0 := HG0.out.k0
  have k1 := HG0.out.k1
  have k2 := HG0.out.k2
  have k3 := HG0.out.k3
  clear hW0 hs
  go_enter Try.func53, Try.ntmps53
  go_wp2_with fail
  rw [← HW0.out]
  refine (HIS.out _ HG0.out.b).mono ?_
  rintro e w1 ⟨rfl, hb1⟩
  cases hw : isWB D C A B
  · have HO := Lib.hid (HNO.out hw)
    obtain ⟨hw1, k0, k1, k2, k3, r0, r1, r2, r3, f0, f1, f2, f3, hz1⟩ := HG0.out.next hb1
    clear hb1 hw
    go_wp2_with fail
    refine bodyPost_ret (v := .tuple #[.agg #[.int .i64 0, .int .i64 0], .agg #[.int .i64 0, .int .i64 0], .int .i64 1]) (by simp [*, results, Try.results53, go_sem]) rfl ?_
    rw [HO.out]
    refine ⟨rfl, ?_⟩
    (repeat' (first | (with_reducible exact Below.refl _ _) | (with_reducible assumption) | (with_reducible refine Below.alloc ?_ ?_ _) | (with_reducible refine Below.drew ?_) | (with_reducible refine below_drewN ?_ _) | (with_reducible refine Below.setCell ?_ ?_ _) | (with_reducible refine Below.trans ?_ (Below.mono (by with_reducible assumption) ?_)) | (with_reducible exact Below.size (by with_reducible assumption)) | go_size))
  have hG1 := HG0.out.next hb1
  have HG1 := Lib.hid hG1
  by_cases hlen : X.length = C.length ∧ U.length = C.length
  rotate_left
  · have HO := Lib.hid (HBAD.out hw (fun h => hlen h.1))
    obtain ⟨hw1, k0, k1, k2, k3, r0, r1, r2, r3, f0, f1, f2, f3, hz1⟩ := hG1
    by_cases hx : X.length = C.length
    · have hu : ¬ U.length = C.length := fun h => hlen ⟨hx, h⟩
      have hxb : ((X.length : Int) != (C.length : Int)) = false := by simp; omega
      have hub : ((U.length : Int) != (C.length : Int)) = true := by simp; omega
      clear hb1 hw hlen hx hu HG1
      go_wp2_with fail
      refine bodyPost_ret (v := .tuple #[.agg #[.int .i64 0, .int .i64 0], .agg #[.int .i64 0, .int .i64 0], .int .i64 2]) (by simp [*, results, Try.results53, go_sem]) rfl ?_
      rw [HO.out]
      refine ⟨rfl, ?_⟩
      (repeat' (first | (with_reducible exact Below.refl _ _) | (with_reducible assumption) | (with_reducible refine Below.alloc ?_ ?_ _) | (with_reducible refine Below.drew ?_) | (with_reducible refine below_drewN ?_ _) | (with_reducible refine Below.setCell ?_ ?_ _) | (with_reducible refine Below.trans ?_ (Below.mono (by with_reducible assumption) ?_)) | (with_reducible exact Below.size (by with_reducible assumption)) | go_size))
    · have hxb : ((X.length : Int) != (C.length : Int)) = true := by simp; omega
      clear hb1 hw hlen hx HG1
      go_wp2_with fail
      refine bodyPost_ret (v := .tuple #[.agg #[.int .i64 0, .int .i64 0], .agg #[.int .i64 0, .int .i64 0], .int .i64 2]) (by simp [*, results, Try.results53, go_sem]) rfl ?_
      rw [HO.out]
      refine ⟨rfl, ?_⟩
      (repeat' (first | (with_reducible exact Below.refl _ _) | (with_reducible assumption) | (with_reducible refine Below.alloc ?_ ?_ _) | (with_reducible refine Below.drew ?_) | (with_reducible refine below_drewN ?_ _) | (with_reducible refine Below.setCell ?_ ?_ _) | (with_reducible refine Below.trans ?_ (Below.mono (by with_reducible assumption) ?_)) | (with_reducible exact Below.size (by with_reducible assumption)) | go_size))
  obtain ⟨hxc, huc⟩ := hlen
  have hp := isPB_of hw
  obtain ⟨f1, f2, f3, f4, f5⟩ := isPB_facts hp
  obtain ⟨n, hn⟩ : ∃ n, n = C.length := ⟨_, rfl⟩
  have hcn : C.length = n := hn.symm
  have hdn : D.length = n := by omega
  have hxn : X.length = n := by omega
  have hun : U.length = n := by omega
  have HBD2 := Lib.hid (fun (h : ¬ (wit 100 X = true ∧ wit 100 U = true)) => HBAD.out hw (fun hh => h hh.2))
  have HOK2 := Lib.hid (HOK.out hw hxc huc)
  rw [hcn] at HOK2
  obtain ⟨bd, od, cd, hdv, hM⟩ := mat_at (H1.out) f1 (fun i hi => (f4 i hi).1)
  obtain ⟨bc, oc, cc2, hcv, hblc, hC⟩ := list_at (H2.out) (by omega)
  obtain ⟨bx, ox, cx, hxv, hblx, hX⟩ := list_at (H5.out) (by omega)
  obtain ⟨bu, ou, cu, huv, hblu, hU⟩ := list_at (H6.out) (by omega)
  rw [hdn] at hdv hM
  rw [hcn] at hcv
  rw [hxn] at hxv hX
  rw [hun] at huv hU
  simp only [Value.slice.injEq, true_and] at hxv
  simp only [Value.slice.injEq, true_and] at huv
  obtain ⟨rfl, rfl⟩ := hxv
  obtain ⟨rfl, rfl⟩ := huv
  have hw1 := hG1.b
  have HHM := Lib.hid (fun (wr : World) (h : Below w1.heap.size w1 wr) (i : Nat) (hi : i < n) => show ∃ r o dx, wr.cell? ⟨bd, od + i, none⟩ = some (.slice (some ⟨r, o, none⟩) n dx) ∧ ∀ j, j < n → wr.cell? ⟨r, o + j, none⟩ = some (.int .i64 (wE D i j)) from by
    obtain ⟨r, o, dx, hx⟩ := hM i hi
    exact ⟨r, o, dx, hx wr (hw1.trans (h.mono hw1.size))⟩)
  have HHC := Lib.hid (fun wr (h : Below w1.heap.size w1 wr) i (hi : i < n) => hC wr (hw1.trans (h.mono hw1.size)) i (by omega))
  have HHX := Lib.hid (fun wr (h : Below w1.heap.size w1 wr) i (hi : i < n) => hX wr (hw1.trans (h.mono hw1.size)) i (by omega))
  have HHU := Lib.hid (fun wr (h : Below w1.heap.size w1 wr) i (hi : i < n) => hU wr (hw1.trans (h.mono hw1.size)) i (by omega))
  have hG1' : Wl w w1 (.slice (some ⟨bd, od, none⟩) n cd) (.slice (some ⟨bc, oc, none⟩) n cc2) (.slice x3 A.length y3) (.slice x4 B.length y4) := by
    have q1 : Value.slice x1 D.length y1 = .slice (some ⟨bd, od, none⟩) n cd := by rw [hdn]; exact hdv
    have q2 : Value.slice x2 C.length y2 = .slice (some ⟨bc, oc, none⟩) n cc2 := by rw [hcn]; exact hcv
    rw [← q1, ← q2]
    exact hG1
  have HG1 := Lib.hid hG1'
  have HCB := Lib.hid (fun i (hi : i < n) => show -100 ≤ C.getD i 0 ∧ C.getD i 0 ≤ 100 from f5 i (by omega))
  have HDB := Lib.hid (fun i t (hi : i < n) (ht : t < n) => show -20 ≤ wE D i t ∧ wE D i t ≤ 20 from (f4 i (by omega)).2 t (by omega))
  have hn5 : n ≤ 5 := by omega
  have HXN := Lib.hid hxn
  have HUN := Lib.hid hun
  obtain ⟨-, k0, k1, k2, k3, -, -, -, -, -, -, -, -, -⟩ := hG1'
  rw [hxn, hun]
  have hxb : ((n : Int) != (n : Int)) = false := by simp
  clear hxc huc hp f1 f2 f3 f4 f5 hn hcn hdn hxn hun hdv hM hcv hblc hC hblx hX hblu hU hG1 hw HIS HNO HBAD HOK HW0 HG0 H1 H2 H5 H6 hw1 hb1
  go_wp2_with fail
  go_loopw [9] (fun c wr => ∃ k : Nat, k ≤ n ∧ c = .int .i64 k ∧ Below w1.heap.size w1 wr ∧ Hid (∀ t, t < k → (-100 ≤ X.getD t 0 ∧ X.getD t 0 ≤ 100) ∧ -100 ≤ U.getD t 0 ∧ U.getD t 0 ≤ 100)) (fun c _ => n - (intOf c).toNat)
  case atStart => exact ⟨0, Nat.zero_le _, rfl, Below.refl _ _, Lib.hid (fun t ht => absurd ht (Nat.not_lt_zero t))⟩
  case round =>
    obtain ⟨k, hk, rfl, hB, hall⟩ := hrel
    by_cases hlt : k < n
    · have c1 := HHX.out wr hB k hlt
      have c2 := HHU.out wr hB k hlt
      have HIN := Lib.hid (fun v w' => FW.l01In_any v (-100) 100 w')
      have hj5 : k < 5 := by omega
      by_cases hx : -100 ≤ X.getD k 0 ∧ X.getD k 0 ≤ 100
      · have hxd : decide (-100 ≤ X.getD k 0 ∧ X.getD k 0 ≤ 100) = true := decide_eq_true hx
        by_cases hu : -100 ≤ U.getD k 0 ∧ U.getD k 0 ≤ 100
        · have hud : decide (-100 ≤ U.getD k 0 ∧ U.getD k 0 ≤ 100) = true := decide_eq_true hu
          have HN := Lib.hid (show ∀ t, t < k + 1 → (-100 ≤ X.getD t 0 ∧ X.getD t 0 ≤ 100) ∧ -100 ≤ U.getD t 0 ∧ U.getD t 0 ≤ 100 from fun t ht => by
            by_cases e : t = k
            · rw [e]; exact ⟨hx, hu⟩
            · exact hall.out t (by omega))
          have HB := Lib.hid hB
          clear hx hu hall hB
          generalize X.getD k 0 = xk at *
          generalize U.getD k 0 = uk at *
          go_wp2_with fail
          refine (HIN.out _ _).mono ?_; rintro e w5 ⟨rfl, rfl⟩
          go_wp2_with fail
          refine (HIN.out _ _).mono ?_; rintro e w5 ⟨rfl, rfl⟩
          go_wp2_with fail
          go_roundw
          case rel => exact ⟨k + 1, by omega, by go_num, HB.out, HN⟩
          case measure => simp [intOf]; omega
        · have hud : decide (-100 ≤ U.getD k 0 ∧ U.getD k 0 ≤ 100) = false := decide_eq_false hu
          have HO := Lib.hid (HBD2.out (fun h => hu ((HWU.out.1 h.2) k (by have := HUN.out; omega))))
          obtain ⟨hw5, k0, k1, k2, k3, r0, r1, r2, r3, f0, f1, f2, f3, hz5⟩ := HG1.out.next hB
          clear hall hB hx hu
          generalize X.getD k 0 = xk at *
          generalize U.getD k 0 = uk at *
          go_wp2_with fail
          refine (HIN.out _ _).mono ?_; rintro e w5 ⟨rfl, rfl⟩
          go_wp2_with fail
          refine (HIN.out _ _).mono ?_; rintro e w6 ⟨rfl, rfl⟩
          go_wp2_with fail
          refine bodyPost_ret (v := .tuple #[.agg #[.int .i64 0, .int .i64 0], .agg #[.int .i64 0, .int .i64 0], .int .i64 2]) (by simp [*, results, Try.results53, go_sem]) rfl ?_
          rw [HO.out]
          refine ⟨rfl, ?_⟩
          (repeat' (first | (with_reducible exact Below.refl _ _) | (with_reducible assumption) | (with_reducible refine Below.alloc ?_ ?_ _) | (with_reducible refine Below.drew ?_) | (with_reducible refine below_drewN ?_ _) | (with_reducible refine Below.setCell ?_ ?_ _) | (with_reducible refine Below.trans ?_ (Below.mono (by with_reducible assumption) ?_)) | (with_reducible exact Below.size (by with_reducible assumption)) | go_size))
      · have hxd : decide (-100 ≤ X.getD k 0 ∧ X.getD k 0 ≤ 100) = false := decide_eq_false hx
        have HO := Lib.hid (HBD2.out (fun h => hx ((HWX.out.1 h.1) k (by have := HXN.out; omega))))
        obtain ⟨hw5, k0, k1, k2, k3, r0, r1, r2, r3, f0, f1, f2, f3, hz5⟩ := HG1.out.next hB
        clear hall hB hx
        generalize X.getD k 0 = xk at *
        generalize U.getD k 0 = uk at *
        go_wp2_with fail
        refine (HIN.out _ _).mono ?_; rintro e w5 ⟨rfl, rfl⟩
        go_wp2_with fail
        refine bodyPost_ret (v := .tuple #[.agg #[.int .i64 0, .int .i64 0], .agg #[.int .i64 0, .int .i64 0], .int .i64 2]) (by simp [*, results, Try.results53, go_sem]) rfl ?_
        rw [HO.out]
        refine ⟨rfl, ?_⟩
        (repeat' (first | (with_reducible exact Below.refl _ _) | (with_reducible assumption) | (with_reducible refine Below.alloc ?_ ?_ _) | (with_reducible refine Below.drew ?_) | (with_reducible refine below_drewN ?_ _) | (with_reducible refine Below.setCell ?_ ?_ _) | (with_reducible refine Below.trans ?_ (Below.mono (by with_reducible assumption) ?_)) | (with_reducible exact Below.size (by with_reducible assumption)) | go_size))
    · obtain rfl : k = n := by omega
      have hwx : wit 100 X = true := HWX.out.2 (fun j hj => (hall.out j (by have := HXN.out; omega)).1)
      have hwu : wit 100 U = true := HWU.out.2 (fun j hj => (hall.out j (by have := HUN.out; omega)).2)
      have HO := Lib.hid (HOK2.out hwx hwu)
      have hef : ∀ i, i < k → (-200 ≤ 2 * C.getD i 0 ∧ 2 * C.getD i 0 ≤ 200) ∧ -20000 ≤ 2 * C.getD i 0 * X.getD i 0 ∧ 2 * C.getD i 0 * X.getD i 0 ≤ 20000 := fun i hi => by
        have x := HCB.out i hi
        have y := (hall.out i hi).1
        have z : -200 ≤ 2 * C.getD i 0 ∧ 2 * C.getD i 0 ≤ 200 := by omega
        exact ⟨z, PM.mul_bd (A := 200) (B := 100) z.1 z.2 y.1 y.2⟩
      have heg : ∀ i, i < k → -10000 ≤ C.getD i 0 * U.getD i 0 ∧ C.getD i 0 * U.getD i 0 ≤ 10000 := fun i hi => by
        have x := HCB.out i hi
        have y := (hall.out i hi).2
        exact PM.mul_bd (A := 100) (B := 100) x.1 x.2 y.1 y.2
      have HBF := Lib.hid (laB_of (e := fun i => 2 * C.getD i 0 * X.getD i 0) (D := D) (a := X) (b := X) (n := k) hn5 (fun t ht => (hall.out t ht).1) (fun t ht => (hall.out t ht).1) HDB.out (fun i hi => (hef i hi).2))
      have HBGG := Lib.hid (laB_of (e := fun i => C.getD i 0 * U.getD i 0) (D := D) (a := U) (b := X) (n := k) hn5 (fun t ht => (hall.out t ht).2) (fun t ht => (hall.out t ht).1) HDB.out (fun i hi => by have := heg i hi; omega))
      have HBH := Lib.hid (laB_of (e := fun _ => 0) (D := D) (a := U) (b := U) (n := k) hn5 (fun t ht => (hall.out t ht).2) (fun t ht => (hall.out t ht).2) HDB.out (fun i hi => by decide))
      have HEF := Lib.hid hef
      have HEG := Lib.hid heg
      obtain ⟨F, hF⟩ : ∃ F : Nat → Int, F = fun i => laS (fun i => 2 * C.getD i 0 * X.getD i 0) D X X k i := ⟨_, rfl⟩
      obtain ⟨G, hG⟩ : ∃ F : Nat → Int, F = fun i => laS (fun i => C.getD i 0 * U.getD i 0) D U X k i := ⟨_, rfl⟩
      obtain ⟨H, hH⟩ : ∃ F : Nat → Int, F = fun i => laS (fun _ => 0) D U U k i := ⟨_, rfl⟩
      obtain ⟨RF, hRF⟩ : ∃ R : Nat → Nat → Int, R = fun i t => laS (fun i => 2 * C.getD i 0 * X.getD i 0) D X X k i + 2 * C.getD i 0 * X.getD i 0 + laR D X X i t := ⟨_, rfl⟩
      obtain ⟨RG, hRG⟩ : ∃ R : Nat → Nat → Int, R = fun i t => laS (fun i => C.getD i 0 * U.getD i 0) D U X k i + C.getD i 0 * U.getD i 0 + laR D U X i t := ⟨_, rfl⟩
      obtain ⟨RH, hRH⟩ : ∃ R : Nat → Nat → Int, R = fun i t => laS (fun _ => 0) D U U k i + 0 + laR D U U i t := ⟨_, rfl⟩
      have HX0 : Hid (F 0 = 0 ∧ G 0 = 0 ∧ H 0 = 0) := by rw [hF, hG, hH]; exact Lib.hid ⟨rfl, rfl, rfl⟩
      have HR0 : Hid (∀ i, RF i 0 = F i + 2 * C.getD i 0 * X.getD i 0 ∧ RG i 0 = G i + C.getD i 0 * U.getD i 0 ∧ RH i 0 = H i) := Lib.hid (fun i => by rw [hF, hG, hH, hRF, hRG, hRH]; simp [laR])
      have HR1 : Hid (∀ i t, RF i (t + 1) = RF i t + X.getD i 0 * wE D i t * X.getD t 0 ∧ RG i (t + 1) = RG i t + U.getD i 0 * wE D i t * X.getD t 0 ∧ RH i (t + 1) = RH i t + U.getD i 0 * wE D i t * U.getD t 0) := Lib.hid (fun i t => by rw [hRF, hRG, hRH]; simp only [laR]; exact ⟨(Int.add_assoc _ _ _).symm, (Int.add_assoc _ _ _).symm, (Int.add_assoc _ _ _).symm⟩)
      have HRN : Hid (∀ i, RF i k = F (i + 1) ∧ RG i k = G (i + 1) ∧ RH i k = H (i + 1)) := Lib.hid (fun i => by rw [hF, hG, hH, hRF, hRG, hRH]; exact ⟨rfl, rfl, rfl⟩)
      have HAB : Hid (∀ i, i ≤ k → (-6000000 ≤ F i ∧ F i ≤ 6000000) ∧ (-6000000 ≤ G i ∧ G i ≤ 6000000) ∧ -6000000 ≤ H i ∧ H i ≤ 6000000) := Lib.hid (fun i hi => by rw [hF, hG, hH]; exact ⟨HBF.out.all i hi, HBGG.out.all i hi, HBH.out.all i hi⟩)
      have HRB : Hid (∀ i t, i < k → t ≤ k → (-8000000 ≤ RF i t ∧ RF i t ≤ 8000000) ∧ (-8000000 ≤ RG i t ∧ RG i t ≤ 8000000) ∧ -8000000 ≤ RH i t ∧ RH i t ≤ 8000000) := Lib.hid (fun i t hi ht => by
        rw [hRF, hRG, hRH]
        have a1 := HBF.out.all i (by omega)
        have a2 := HBGG.out.all i (by omega)
        have a3 := HBH.out.all i (by omega)
        have b1 := HBF.out.row i t hi ht
        have b2 := HBGG.out.row i t hi ht
        have b3 := HBH.out.row i t hi ht
        have c1 := (HEF.out i hi).2
        have c2 := HEG.out i hi
        dsimp only at a1 a2 a3 ⊢
        omega)
      have HO2 : Hid (OUT = laF (F k) (G k) (H k)) := by rw [hF, hG, hH]; exact HO
      have HB1 := Lib.hid hB
      clear hwx hwu HO hef heg hF hG hH hRF hRG hRH hall hB HOK2 HBD2 HWX HWU
      go_wp2_with fail
      go_loopw [10, 11, 12, 13, 14] (fun f g h i _ wr => ∃ m : Nat, m ≤ k ∧ i = .int .i64 m ∧ f = .int .i64 (F m) ∧ g = .int .i64 (G m) ∧ h = .int .i64 (H m) ∧ Below w1.heap.size w1 wr) (fun _ _ _ i _ _ => k - (intOf i).toNat)
      case atStart => exact ⟨0, Nat.zero_le _, rfl, by rw [HX0.out.1], by rw [HX0.out.2.1], by rw [HX0.out.2.2], HB1.out⟩
      case round =>
        obtain ⟨m, hm, rfl, rfl, rfl, rfl, hB⟩ := hrel
        obtain ⟨Wr, rfl⟩ : ∃ Wr, Wr = wr := ⟨_, rfl⟩
        by_cases hlt : m < k
        · have k1 := (HG1.out.next hB).k1
          have c1 := HHC.out Wr hB m hlt
          have c2 := HHX.out Wr hB m hlt
          have c3 := HHU.out Wr hB m hlt
          obtain ⟨b1, b2⟩ := HEF.out m hlt
          have b3 := HEG.out m hlt
          obtain ⟨a1, a2, a3⟩ := HAB.out m hm
          obtain ⟨r1, r2, r3⟩ := HR0.out m
          have HBD := Lib.hid (fun q => below_drewN hB q)
          have HR1' := Lib.hid r1
          have HR2' := Lib.hid r2
          have HR3' := Lib.hid r3
          clear hB r1 r2 r3
          generalize F m = fm at *
          generalize G m = gm at *
          generalize H m = hm' at *
          generalize C.getD m 0 = cm at *
          generalize hxm : X.getD m 0 = xm at *
          generalize hum : U.getD m 0 = um at *
          clear hxm hum
          have s1 : -9000000000000000000 ≤ fm + 2 * cm * xm ∧ fm + 2 * cm * xm ≤ 9000000000000000000 := by omega
          have s2 : -9000000000000000000 ≤ gm + cm * um ∧ gm + cm * um ≤ 9000000000000000000 := by omega
          clear a1 a2 a3
          go_wp2_with fail
          go_quiet (fail)
          go_wp2_with fail
          go_quiet (fail)
          go_wp2_with fail
          generalize hW2 : Wr.drewN _ = W2
          have hB2 : Below w1.heap.size w1 W2 := by rw [← hW2]; exact HBD.out _
          have HB2 := Lib.hid hB2
          clear hW2 hB2 k1 c1 c2 c3 b1 b2 b3 s1 s2 hxb k0 k2 k3
          go_loopw [10, 11, 12, 14] (fun f g h t wr => ∃ l : Nat, l ≤ k ∧ t = .int .i64 l ∧ f = .int .i64 (RF m l) ∧ g = .int .i64 (RG m l) ∧ h = .int .i64 (RH m l) ∧ Below w1.heap.size w1 wr) (fun _ _ _ t _ => k - (intOf t).toNat)
          case atStart => exact ⟨0, Nat.zero_le _, rfl, by rw [HR1'.out], by rw [HR2'.out], by rw [HR3'.out], by first | exact HB2.out | exact below_drewN HB2.out _⟩
          case round =>
            obtain ⟨l, hl, rfl, rfl, rfl, rfl, hBi⟩ := hrel
            by_cases hlt2 : l < k
            · have k0 := (HG1.out.next hBi).k0
              obtain ⟨r, o, dx, e1, e2a⟩ := HHM.out wr hBi m hlt
              have e2 := e2a l hlt2
              have e3 := HHX.out wr hBi m hlt
              have e4 := HHX.out wr hBi l hlt2
              have e5 := HHU.out wr hBi m hlt
              have e6 := HHU.out wr hBi l hlt2
              have p1 := HBF.out.p1 m l hlt hlt2
              have p2 := HBF.out.p2 m l hlt hlt2
              have p3 := HBGG.out.p1 m l hlt hlt2
              have p4 := HBGG.out.p2 m l hlt hlt2
              have p5 := HBH.out.p2 m l hlt hlt2
              obtain ⟨q1, q2, q3⟩ := HRB.out m l hlt hl
              obtain ⟨t1, t2, t3⟩ := HR1.out m l
              have T1 := Lib.hid t1
              have T2 := Lib.hid t2
              have T3 := Lib.hid t3
              have HBD3 := Lib.hid (fun q => below_drewN hBi q)
              clear t1 t2 t3 e2a hBi
              generalize RF m l = fm at *
              generalize RG m l = gm at *
              generalize RH m l = hm' at *
              generalize wE D m l = dv at *
              generalize X.getD m 0 = xm at *
              generalize X.getD l 0 = xl at *
              generalize U.getD m 0 = um at *
              generalize U.getD l 0 = ul at *
              have s1 : -9000000000000000000 ≤ fm + xm * dv * xl ∧ fm + xm * dv * xl ≤ 9000000000000000000 := by omega
              have s2 : -9000000000000000000 ≤ gm + um * dv * xl ∧ gm + um * dv * xl ≤ 9000000000000000000 := by omega
              have s3 : -9000000000000000000 ≤ hm' + um * dv * ul ∧ hm' + um * dv * ul ≤ 9000000000000000000 := by omega
              clear q1 q2 q3
              go_wp2_with fail
              go_quiet (fail)
              go_wp2_with fail
              go_quiet (fail)
              go_wp2_with fail
              go_quiet (fail)
              go_wp2_with fail
              go_roundw
              case rel => exact ⟨l + 1, by omega, by go_num, by rw [T1.out], by rw [T2.out], by rw [T3.out], HBD3.out _⟩
              case measure => simp [intOf]; omega
            · obtain rfl : l = k := by omega
              have HB3 := Lib.hid hBi
              clear hBi
              go_wp2_with fail
              go_roundw
              case rel => exact ⟨m + 1, by omega, by go_num, by rw [(HRN.out m).1], by rw [(HRN.out m).2.1], by rw [(HRN.out m).2.2], HB3.out⟩
              case measure => simp [intOf]; omega
        · obtain rfl : m = k := by omega
          have HGW := Lib.hid (HG1.out.next hB)
          obtain ⟨a1, a2, a3⟩ := HAB.out m (Nat.le_refl _)
          have HLW := Lib.hid (@laF_low (F m) (G m) (H m))
          have HTD := Lib.hid (laF_told (F m) (G m) (H m))
          generalize laF (F m) (G m) (H m) = LF at *
          generalize F m = fm at *
          generalize G m = gm at *
          generalize H m = hm' at *
          clear hB hxb k0 k1 k2 k3
          by_cases hh : hm' ≤ 0
          · have he := Lib.hid (HLW.out hh)
            obtain ⟨hw5, k0, k1, k2, k3, r0, r1, r2, r3, f0, f1, f2, f3, hz5⟩ := HGW.out
            clear a1 a2 a3 HTD HLW
            go_wp2_with fail
            refine bodyPost_ret (v := .tuple #[.agg #[.int .i64 0, .int .i64 0], .agg #[.int .i64 0, .int .i64 0], .int .i64 5]) (by simp [*, results, Try.results53, go_sem]) rfl ?_
            rw [HO2.out, he.out]
            refine ⟨rfl, ?_⟩
            (repeat' (first | (with_reducible exact Below.refl _ _) | (with_reducible assumption) | (with_reducible refine Below.alloc ?_ ?_ _) | (with_reducible refine Below.drew ?_) | (with_reducible refine below_drewN ?_ _) | (with_reducible refine Below.setCell ?_ ?_ _) | (with_reducible refine Below.trans ?_ (Below.mono (by with_reducible assumption) ?_)) | (with_reducible exact Below.size (by with_reducible assumption)) | go_size))
          · have hh' : 0 < hm' := by omega
            have HTD := Lib.hid (HTD.out hh')
            have b1 := PM.mul_bd (a := fm) (b := hm') (A := 6000000) (B := 6000000) a1.1 a1.2 a3.1 a3.2
            have b2 := PM.mul_bd (a := gm) (b := gm) (A := 6000000) (B := 6000000) a2.1 a2.2 a2.1 a2.2
            have HFP := Lib.hid (fun w' => FW.l01Frac_any (-gm) hm' w' (by omega) (by omega) (by omega) (by omega) (by omega))
            have HFQ := Lib.hid (fun w' => FW.l01Frac_any (fm * hm' - gm * gm) (2 * hm') w' (by omega) (by omega) (by omega) (by omega) (by omega))
            have HTP := Lib.hid (wtold_lim (-gm) hm')
            have HTQ := Lib.hid (wtold_lim (fm * hm' - gm * gm) (2 * hm'))
            generalize FM.toldN (-gm) hm' = pN at *
            generalize FM.toldD (-gm) hm' = pD at *
            generalize FM.toldC (-gm) hm' = pC at *
            generalize FM.toldN (fm * hm' - gm * gm) (2 * hm') = qN at *
            generalize FM.toldD (fm * hm' - gm * gm) (2 * hm') = qD at *
            generalize FM.toldC (fm * hm' - gm * gm) (2 * hm') = qC at *
            have s1 : -9000000000000000000 ≤ fm * hm' - gm * gm ∧ fm * hm' - gm * gm ≤ 9000000000000000000 := by omega
            clear HLW hh
            go_wp2_with fail
            refine (HFP.out _).mono ?_
            rintro e w5 ⟨rfl, hb5⟩
            go_wp2_with fail
            refine (HTP.out _).mono ?_
            rintro e w6 ⟨rfl, hb6⟩
            have HG6 := Lib.hid (HGW.out.next (hb5.trans (hb6.mono hb5.size)))
            clear hb5 hb6
            have h6 := HG6.out.z
            go_wp2_with fail
            obtain ⟨w7, hw7⟩ : ∃ w7, w7 = w6.alloc (.cells #[.int .i64 pN, .int .i64 pD] 62) := ⟨_, rfl⟩
            have hB7 : Below w6.heap.size w6 w7 := by rw [hw7]; exact (Below.refl _ _).alloc (Nat.le_refl _) _
            have hi : w7.cell? ⟨w6.heap.size, 0, none⟩ = some (.int .i64 pN) ∧ w7.cell? ⟨w6.heap.size, 1, none⟩ = some (.int .i64 pD) ∧ w7.heap.size = w6.heap.size + 1 := by rw [hw7]; simp [go_sem]
            have HI := Lib.hid (show _ ∧ w.heap.size + 1 + 1 < w6.heap.size from ⟨hi, h6⟩)
            have HG7 := Lib.hid (HG6.out.next hB7)
            rw [← hw7]
            clear hw7 hi hB7 HG6 h6
            refine (HFQ.out _).mono ?_
            rintro e w8 ⟨rfl, hb8⟩
            go_wp2_with fail
            refine (HTQ.out _).mono ?_
            rintro e w9 ⟨rfl, hb9⟩
            obtain ⟨⟨i0, i1, i2⟩, i3⟩ := HI.out
            have hb79 := hb8.trans (hb9.mono hb8.size)
            have HI9 : Hid (w9.cell? ⟨w6.heap.size, 0, none⟩ = some (.int .i64 pN) ∧ w9.cell? ⟨w6.heap.size, 1, none⟩ = some (.int .i64 pD) ∧ w6.heap.size < w9.heap.size ∧ w.heap.size + 1 + 1 < w6.heap.size) := by
              have := hb79.size
              have hz : w6.heap.size < w7.heap.size := by omega
              exact Lib.hid ⟨(hb79.cell (p := ⟨w6.heap.size, 0, none⟩) hz).trans i0, (hb79.cell (p := ⟨w6.heap.size, 1, none⟩) hz).trans i1, by omega, i3⟩
            have HG9 := Lib.hid (HG7.out.next hb79)
            clear i0 i1 i2 i3 hb79 hb8 hb9 HI HG7 a1 a2 a3 b1 b2 s1
            obtain ⟨hw9, k0, k1, k2, k3, r0, r1, r2, r3, f0, f1, f2, f3, hz9⟩ := HG9.out
            obtain ⟨i0, i1, hz8, hz7⟩ := HI9.out
            have hn1 : w.heap.size + 1 ≠ w9.heap.size := by omega
            have hn2 : w.heap.size + 1 + 1 ≠ w9.heap.size := by omega
            have hn3 : w6.heap.size ≠ w9.heap.size := by omega
            have hn4 : w.heap.size + 1 < w9.heap.size := by omega
            have hn5' : w.heap.size < w9.heap.size := by omega
            by_cases hp : pC = 0 ∧ qC = 0
            · obtain ⟨rfl, rfl⟩ := hp
              have he := Lib.hid (HTD.out.1 ⟨rfl, rfl⟩)
              clear HTD
              go_wp2_with fail
              go_region
              go_wp2_with fail
              refine bodyPost_ret (v := .tuple #[.agg #[.int .i64 pN, .int .i64 pD], .agg #[.int .i64 qN, .int .i64 qD], .int .i64 0]) (by simp [*, results, Try.results53, go_sem]) rfl ?_
              rw [HO2.out, he.out]
              refine ⟨rfl, ?_⟩
              (repeat' (first | (with_reducible exact Below.refl _ _) | (with_reducible assumption) | (with_reducible refine Below.alloc ?_ ?_ _) | (with_reducible refine Below.drew ?_) | (with_reducible refine below_drewN ?_ _) | (with_reducible refine Below.setCell ?_ ?_ _) | (with_reducible refine Below.trans ?_ (Below.mono (by with_reducible assumption) ?_)) | (with_reducible exact Below.size (by with_reducible assumption)) | go_size))
            · have he := Lib.hid (HTD.out.2 hp)
              have HP := Lib.hid hp
              clear HTD hp
              by_cases hp : pC = 0
              · subst hp
                have hCb : (qC != 0) = true := by
                  simp; intro h; exact HP.out ⟨rfl, h⟩
                go_wp2_with fail
                refine bodyPost_ret (v := .tuple #[.agg #[.int .i64 0, .int .i64 0], .agg #[.int .i64 0, .int .i64 0], .int .i64 3]) (by simp [*, results, Try.results53, go_sem]) rfl ?_
                rw [HO2.out, he.out]
                refine ⟨rfl, ?_⟩
                (repeat' (first | (with_reducible exact Below.refl _ _) | (with_reducible assumption) | (with_reducible refine Below.alloc ?_ ?_ _) | (with_reducible refine Below.drew ?_) | (with_reducible refine below_drewN ?_ _) | (with_reducible refine Below.setCell ?_ ?_ _) | (with_reducible refine Below.trans ?_ (Below.mono (by with_reducible assumption) ?_)) | (with_reducible exact Below.size (by with_reducible assumption)) | go_size))
              · have hCb : (pC != 0) = true := by
                  simp; exact hp
                clear hp
                go_wp2_with fail
                refine bodyPost_ret (v := .tuple #[.agg #[.int .i64 0, .int .i64 0], .agg #[.int .i64 0, .int .i64 0], .int .i64 3]) (by simp [*, results, Try.results53, go_sem]) rfl ?_
                rw [HO2.out, he.out]
                refine ⟨rfl, ?_⟩
                (repeat' (first | (with_reducible exact Below.refl _ _) | (with_reducible assumption) | (with_reducible refine Below.alloc ?_ ?_ _) | (with_reducible refine Below.drew ?_) | (with_reducible refine below_drewN ?_ _) | (with_reducible refine Below.setCell ?_ ?_ _) | (with_reducible refine Below.trans ?_ (Below.mono (by with_reducible assumption) ?_)) | (with_reducible exact Below.size (by with_reducible assumption)) | go_size))
end Go.Proofs.Ytbfpneonmefndaa.PW
