/-
  Walks: LeastAlong in the program.
-/
import Derived.Test.YtbfpneonmefndaaWLe0
import Derived.Test.YtbfpneonmefndaaWLea
import Derived.Test.YtbfpneonmefndaaQForm
namespace Go.Proofs.Ytbfpneonmefndaa.PW
open Go.RowKit Go.Proofs.Ytbfpneonmefndaa
open Go.Proofs.Ytbfpneonmefndaa.PM Go.Proofs.Ytbfpneonmefndaa.PX

set_option maxHeartbeats 1000000 in
theorem isRayList_any (v0 v2 v3 c l : Value) (C L : List Int) (w : World) (h2 : Ints w c C) (h5 : Ints w l L) :
    Calls Try.prog 98 #[.agg #[v0, c, v2, v3], l] w fun e w' => e = .returned (.bool (decide (L.length = C.length) && wit 100 L)) ∧ Below w.heap.size w w' := by
  have HA := Lib.hid (fun (w' : World) (h : Below w.heap.size w w') => areWithin_any l L 100 w' (h5.below h) (by decide) (by decide))
  obtain ⟨x2, y2, rfl, hl1, hm1, _⟩ := h2
  obtain ⟨x5, y5, rfl, hl2, hm2, _⟩ := h5
  have hm := maxLen_le (Nat.le_trans hl2 hm2)
  have hm' := maxLen_le (Nat.le_trans hl1 hm1)
  clear hl1 hm1 hl2 hm2
  by_cases hl : L.length = C.length
  · have hne : ((L.length : Int) == (C.length : Int)) = true := by simp; omega
    have hd : decide (L.length = C.length) = true := decide_eq_true hl
    rw [hd]
    generalize wit 100 L = W at *
    generalize L.length = n1 at *
    generalize C.length = n2 at *
    clear hl hd
    go_enter Try.func98, Try.ntmps98
    go_wp2_with fail
    refine (HA.out _ (by (repeat' (first | (with_reducible exact Below.refl _ _) | (with_reducible assumption) | (with_reducible refine Below.alloc ?_ ?_ _) | (with_reducible refine Below.drew ?_) | (with_reducible refine below_drewN ?_ _) | (with_reducible refine Below.setCell ?_ ?_ _) | (with_reducible refine Below.trans ?_ (Below.mono (by with_reducible assumption) ?_)) | (with_reducible exact Below.size (by with_reducible assumption)) | go_size)))).mono ?_
    rintro e w1 ⟨rfl, rfl⟩
    go_wp2_with fail
    go_ret
    exact ⟨rfl, by (repeat' (first | (with_reducible exact Below.refl _ _) | (with_reducible assumption) | (with_reducible refine Below.alloc ?_ ?_ _) | (with_reducible refine Below.drew ?_) | (with_reducible refine below_drewN ?_ _) | (with_reducible refine Below.setCell ?_ ?_ _) | (with_reducible refine Below.trans ?_ (Below.mono (by with_reducible assumption) ?_)) | (with_reducible exact Below.size (by with_reducible assumption)) | go_size))⟩
  · have hne : ((L.length : Int) == (C.length : Int)) = false := by simp; omega
    have hd : decide (L.length = C.length) = false := decide_eq_false hl
    rw [hd]
    generalize wit 100 L = W at *
    generalize L.length = n1 at *
    generalize C.length = n2 at *
    clear hl hd
    go_enter Try.func98, Try.ntmps98
    go_wp2_with fail
    go_ret
    exact ⟨rfl, by (repeat' (first | (with_reducible exact Below.refl _ _) | (with_reducible assumption) | (with_reducible refine Below.alloc ?_ ?_ _) | (with_reducible refine Below.drew ?_) | (with_reducible refine below_drewN ?_ _) | (with_reducible refine Below.setCell ?_ ?_ _) | (with_reducible refine Below.trans ?_ (Below.mono (by with_reducible assumption) ?_)) | (with_reducible exact Below.size (by with_reducible assumption)) | go_size))⟩

theorem fsum_laS (D : List (List Int)) (U : List Int) (n : Nat) : ∀ i, fsum D U n i = laS (fun _ => 0) D U U n i := by
  have hr : ∀ i k, frow D U i k = laR D U U i k := fun i k => by
    induction k with
    | zero => rfl
    | succ k ih => simp only [frow, laR]; rw [ih]; rfl
  intro i
  induction i with
  | zero => rfl
  | succ i ih => simp only [fsum, laS]; rw [ih, hr]; omega
theorem wit_up {L : List Int} {a b : Int} (h : wit a L = true) (hab : a ≤ b) : wit b L = true := by
  rw [wit_iff] at h ⊢
  intro j hj
  have := h j hj
  omega

theorem remL_small {D : List (List Int)} {C X : List Int} {n : Nat} (hD : D.length = n) (hn5 : n ≤ 5) (hC : ∀ t, t < n → -100 ≤ C.getD t 0 ∧ C.getD t 0 ≤ 100) (hX : ∀ t, t < n → -100 ≤ X.getD t 0 ∧ X.getD t 0 ≤ 100)
    (hDb : ∀ i t, i < n → t < n → -20 ≤ wE D i t ∧ wE D i t ≤ 20) : ∀ i, i < n → -11000 ≤ (remL D C X 1).getD i 0 ∧ (remL D C X 1).getD i 0 ≤ 11000 := by
  intro i hi
  have hr : (remL D C X 1).getD i 0 = 1 * C.getD i 0 + proTo (D.getD i []) X n := by
    rw [← remTo_pro D C X 1 i n]
    simp [remL, hD, show i < n from hi]
  have hp := proTo_bd (a := D.getD i []) (b := X) (n := n) (P := 2000) (fun k hk => by
    have x := hDb i k hi hk
    have y := hX k hk
    exact PM.mul_bd (A := 20) (B := 100) x.1 x.2 y.1 y.2) n (Nat.le_refl _)
  have hc := hC i hi
  rw [hr]
  omega
theorem remL_len (D : List (List Int)) (C X : List Int) (d : Int) : (remL D C X d).length = D.length := by simp [remL]
theorem two_ints (w : World) (p q : Int) (hp : I64 p) (hq : I64 q) : Ints (w.alloc (.cells #[.int .i64 p, .int .i64 q] 2)) (.slice (some ⟨w.heap.size, 0, none⟩) 2 2) [p, q] :=
  ⟨_, _, rfl, by simp, by unfold maxLen; decide, fun x hx => by simp at hx; rcases hx with rfl | rfl <;> assumption, .inr ⟨w.heap.size, 0, rfl, by simp, fun k hk => by
    simp at hk
    obtain rfl | rfl : k = 0 ∨ k = 1 := by omega
    all_goals simp⟩⟩

set_option maxRecDepth 100000 in
set_option maxHeartbeats 8000000 in
theorem implLeastAlong_any (d c a b x u : Value) (D : List (List Int)) (C : List Int) (A : List (List Int)) (B X U : List Int) (w : World) (h1 : PM.Rows w d D) (h2 : Ints w c C) (h3 : PM.Rows w a A) (h4 : Ints w b B) (h5 : Ints w x X) (h6 : Ints w u U) (hs : szWn D C A B ≤ 1048576) :
    Calls Try.prog 54 #[.agg #[d, c, a, b], x, u] w fun e w' => e = .returned (.tuple #[.agg #[.int .i64 (laOut D C A B X U).1.1, .int .i64 (laOut D C A B X U).1.2], .agg #[.int .i64 (laOut D C A B X U).2.1.1, .int .i64 (laOut D C A B X U).2.1.2], .int .i64 (laOut D C A B X U).2.2]) ∧ Below w.heap.size w w' := by
  have HIS := Lib.hid (fun (w' : World) (h : Below w.heap.size w w') => implIsProgram_any d c a b D C A B w' (h1.below h) (h2.below h) (h3.below h) (h4.below h) hs)
  have HR1 := Lib.hid (fun (w' : World) (h : Below w.heap.size w w') => isRayList_any d a b c x C X w' (h2.below h) (h5.below h))
  have HR2 := Lib.hid (fun (w' : World) (h : Below w.heap.size w w') => isRayList_any d a b c u C U w' (h2.below h) (h6.below h))
  have HFA := Lib.hid (fun (w' : World) (h : Below w.heap.size w w') => implFormAt_any d u D U w' (h1.below h) (h6.below h))
  have HSN := Lib.hid (fun (w' : World) (h : Below w.heap.size w w') hw hL hb => slopeNums_any d c a b x D C A B X 1 w' (h1.below h) (h2.below h) (h3.below h) (h4.below h) (h5.below h) hw hL (by decide) hb)
  have HPO := Lib.hid (fun (w' : World) (h : Below w.heap.size w w') (v : Value) (n : Nat) hv ha hbl hn1 hn hb => productOf_any u v U (remL D C X 1) n w' (h6.below h) hv ha hbl hn1 hn hb)
  have HNO := Lib.hid (laOut_no (D := D) (C := C) (A := A) (B := B) (X := X) (U := U))
  have HBAD := Lib.hid (laOut_bad (D := D) (C := C) (A := A) (B := B) (X := X) (U := U))
  have HOK := Lib.hid (laOut_ok (D := D) (C := C) (A := A) (B := B) (X := X) (U := U))
  generalize laOut D C A B X U = OUT at *
  have H1 := Lib.hid h1
  have H2 := Lib.hid h2
  have H5 := Lib.hid h5
  obtain ⟨x1, y1, rfl, _⟩ := h1
  obtain ⟨x2, y2, rfl, _⟩ := h2
  obtain ⟨x3, y3, rfl, _⟩ := h3
  obtain ⟨x4, y4, rfl, _⟩ := h4
  obtain ⟨x5, y5, rfl, _⟩ := h5
  obtain ⟨x6, y6, rfl, _⟩ := h6
  obtain ⟨W0, hW0⟩ : ∃ W0, W0 = ((w.alloc (.cells #[.slice x1 D.length y1, .slice x2 C.length y2, .slice x3 A.length y3, .slice x4 B.length y4] 54)).alloc (.cells #[.int .i64 0, .int .i64 0] 62)).alloc (.cells #[.int .i64 0, .int .i64 0] 62) := ⟨_, rfl⟩
  have HG0 : Hid (Wl w W0 (.slice x1 D.length y1) (.slice x2 C.length y2) (.slice x3 A.length y3) (.slice x4 B.length y4)) := by rw [hW0]; exact wl_new _ _ _ _ _
  have HW0 := Lib.hid hW0
  have k0 := HG0.out.k0
  have k1 := HG0.out.k1
  have k2 := HG0.out.k2
  have k3 := HG0.out.k3
  clear hW0 hs
  cases hw : isWB D C A B
  · have HO := Lib.hid (HNO.out hw)
    rw [hw] at HIS
    clear hw
    go_enter Try.func54, Try.ntmps54
    go_wp2_with fail
    rw [← HW0.out]
    refine (HIS.out _ HG0.out.b).mono ?_
    rintro e w1 ⟨rfl, hb1⟩
    obtain ⟨hw1, k0, k1, k2, k3, r0, r1, r2, r3, f0, f1, f2, f3, hz1⟩ := HG0.out.next hb1
    clear hb1
    go_wp2_with fail
    refine bodyPost_ret (v := .tuple #[.agg #[.int .i64 0, .int .i64 0], .agg #[.int .i64 0, .int .i64 0], .int .i64 1]) (by simp [*, results, Try.results54, go_sem]) rfl ?_
    rw [HO.out]
    refine ⟨rfl, ?_⟩
    (repeat' (first | (with_reducible exact Below.refl _ _) | (with_reducible assumption) | (with_reducible refine Below.alloc ?_ ?_ _) | (with_reducible refine Below.drew ?_) | (with_reducible refine below_drewN ?_ _) | (with_reducible refine Below.setCell ?_ ?_ _) | (with_reducible refine Below.trans ?_ (Below.mono (by with_reducible assumption) ?_)) | (with_reducible exact Below.size (by with_reducible assumption)) | go_size))
  rw [hw] at HIS
  have HW := Lib.hid hw
  cases hx : (decide (X.length = C.length) && wit 100 X)
  · have HO := Lib.hid (HBAD.out hw (fun c => by rw [decide_eq_true c.1.1, c.2.1] at hx; exact Bool.noConfusion hx))
    rw [hx] at HR1
    clear hw hx
    go_enter Try.func54, Try.ntmps54
    go_wp2_with fail
    rw [← HW0.out]
    refine (HIS.out _ HG0.out.b).mono ?_
    rintro e w1 ⟨rfl, hb1⟩
    have HG1 := Lib.hid (HG0.out.next hb1)
    obtain ⟨hw1, k0, k1, k2, k3, r0, r1, r2, r3, f0, f1, f2, f3, hz1⟩ := HG1.out
    clear hb1
    go_wp2_with fail
    refine (HR1.out _ HG1.out.b).mono ?_
    rintro e w2 ⟨rfl, hb2⟩
    obtain ⟨hw2, k0, k1, k2, k3, r0, r1, r2, r3, f0, f1, f2, f3, hz2⟩ := HG1.out.next hb2
    clear hb2
    go_wp2_with fail
    refine bodyPost_ret (v := .tuple #[.agg #[.int .i64 0, .int .i64 0], .agg #[.int .i64 0, .int .i64 0], .int .i64 2]) (by simp [*, results, Try.results54, go_sem]) rfl ?_
    rw [HO.out]
    refine ⟨rfl, ?_⟩
    (repeat' (first | (with_reducible exact Below.refl _ _) | (with_reducible assumption) | (with_reducible refine Below.alloc ?_ ?_ _) | (with_reducible refine Below.drew ?_) | (with_reducible refine below_drewN ?_ _) | (with_reducible refine Below.setCell ?_ ?_ _) | (with_reducible refine Below.trans ?_ (Below.mono (by with_reducible assumption) ?_)) | (with_reducible exact Below.size (by with_reducible assumption)) | go_size))
  rw [hx] at HR1
  rw [Bool.and_eq_true, decide_eq_true_eq] at hx
  cases hu : (decide (U.length = C.length) && wit 100 U)
  · have HO := Lib.hid (HBAD.out hw (fun c => by rw [decide_eq_true c.1.2, c.2.2] at hu; exact Bool.noConfusion hu))
    rw [hu] at HR2
    clear hw hx hu
    go_enter Try.func54, Try.ntmps54
    go_wp2_with fail
    rw [← HW0.out]
    refine (HIS.out _ HG0.out.b).mono ?_
    rintro e w1 ⟨rfl, hb1⟩
    have HG1 := Lib.hid (HG0.out.next hb1)
    obtain ⟨hw1, k0, k1, k2, k3, r0, r1, r2, r3, f0, f1, f2, f3, hz1⟩ := HG1.out
    clear hb1
    go_wp2_with fail
    refine (HR1.out _ HG1.out.b).mono ?_
    rintro e w2 ⟨rfl, hb2⟩
    have HG2 := Lib.hid (HG1.out.next hb2)
    clear hw1 k0 k1 k2 k3 r0 r1 r2 r3 f0 f1 f2 f3 hz1 hb2
    obtain ⟨hw2, k0, k1, k2, k3, r0, r1, r2, r3, f0, f1, f2, f3, hz2⟩ := HG2.out
    go_wp2_with fail
    refine (HR2.out _ HG2.out.b).mono ?_
    rintro e w3 ⟨rfl, hb3⟩
    clear hw2 k0 k1 k2 k3 r0 r1 r2 r3 f0 f1 f2 f3
    obtain ⟨hw3, k0, k1, k2, k3, r0, r1, r2, r3, f0, f1, f2, f3, hz3⟩ := HG2.out.next hb3
    clear hb3
    go_wp2_with fail
    refine bodyPost_ret (v := .tuple #[.agg #[.int .i64 0, .int .i64 0], .agg #[.int .i64 0, .int .i64 0], .int .i64 2]) (by simp [*, results, Try.results54, go_sem]) rfl ?_
    rw [HO.out]
    refine ⟨rfl, ?_⟩
    (repeat' (first | (with_reducible exact Below.refl _ _) | (with_reducible assumption) | (with_reducible refine Below.alloc ?_ ?_ _) | (with_reducible refine Below.drew ?_) | (with_reducible refine below_drewN ?_ _) | (with_reducible refine Below.setCell ?_ ?_ _) | (with_reducible refine Below.trans ?_ (Below.mono (by with_reducible assumption) ?_)) | (with_reducible exact Below.size (by with_reducible assumption)) | go_size))
  rw [hu] at HR2
  rw [Bool.and_eq_true, decide_eq_true_eq] at hu
  have hO := HOK.out hw hx.1 hu.1 hx.2 hu.2
  obtain ⟨⟨hca, hdl, -⟩, hmB, -, -, hwc, -⟩ := (isWB_iff D C A B).1 hw
  have hp := isPB_of hw
  obtain ⟨p1, p2, p3, p4, p5⟩ := isPB_facts hp
  have hXb : ∀ t, t < C.length → -100 ≤ X.getD t 0 ∧ X.getD t 0 ≤ 100 := fun t ht => (wit_iff 100 X).1 hx.2 t (by omega)
  have hUb : ∀ t, t < C.length → -100 ≤ U.getD t 0 ∧ U.getD t 0 ≤ 100 := fun t ht => (wit_iff 100 U).1 hu.2 t (by omega)
  have hCb : ∀ t, t < C.length → -100 ≤ C.getD t 0 ∧ C.getD t 0 ≤ 100 := fun t ht => (wit_iff 100 C).1 hwc t ht
  have hDb : ∀ i t, i < C.length → t < C.length → -20 ≤ wE D i t ∧ wE D i t ≤ 20 := fun i t hi ht => (p4 i (by omega)).2 t (by omega)
  have hf := la_f_end D C X C.length
  have hg := la_g D C U X C.length hdl C.length (Nat.le_refl _)
  have hh := fsum_laS D U C.length C.length
  have bf := (laB_of (e := fun i => 2 * C.getD i 0 * X.getD i 0) (D := D) (a := X) (b := X) (n := C.length) (by omega) hXb hXb hDb (fun i hi => by
    have y := hCb i hi
    have z := hXb i hi
    have m := PM.mul_bd (A := 100) (B := 100) y.1 y.2 z.1 z.2
    have e : 2 * C.getD i 0 * X.getD i 0 = 2 * (C.getD i 0 * X.getD i 0) := Int.mul_assoc _ _ _
    show -20000 ≤ 2 * C.getD i 0 * X.getD i 0 ∧ 2 * C.getD i 0 * X.getD i 0 ≤ 20000
    omega)).all _ (Nat.le_refl _)
  have bg := (laB_of (e := fun i => C.getD i 0 * U.getD i 0) (D := D) (a := U) (b := X) (n := C.length) (by omega) hUb hXb hDb (fun i hi => by
    have y := hCb i hi
    have z := hUb i hi
    have m := PM.mul_bd (A := 100) (B := 100) y.1 y.2 z.1 z.2
    show -20000 ≤ C.getD i 0 * U.getD i 0 ∧ C.getD i 0 * U.getD i 0 ≤ 20000
    omega)).all _ (Nat.le_refl _)
  have bh := (laB_of (e := fun _ => 0) (D := D) (a := U) (b := U) (n := C.length) (by omega) hUb hUb hDb (fun i hi => by constructor <;> omega)).all _ (Nat.le_refl _)
  have hfo : formOut D U = (fsum D U D.length D.length, 0) := formOut_ok hmB ⟨by omega, wit_up hu.2 (by decide)⟩
  rw [hdl, hh] at hfo
  obtain ⟨f, hfd⟩ : ∃ f, f = laS (fun i => 2 * C.getD i 0 * X.getD i 0) D X X C.length C.length := ⟨_, rfl⟩
  obtain ⟨g, hgd⟩ : ∃ g, g = laS (fun i => C.getD i 0 * U.getD i 0) D U X C.length C.length := ⟨_, rfl⟩
  obtain ⟨h, hhd⟩ : ∃ h, h = laS (fun _ => 0) D U U C.length C.length := ⟨_, rfl⟩
  rw [← hfd] at hO hf bf
  rw [← hgd] at hO hg bg
  rw [← hhd] at hO bh hfo
  have hrs := remL_small (D := D) (C := C) (X := X) hdl (by omega) hCb hXb hDb
  have hri : ∀ x ∈ remL D C X 1, I64 x := fun x hx => by
    obtain ⟨j, hj, rfl⟩ := List.getElem_of_mem hx
    have hj' : j < C.length := by rw [remL_len, hdl] at hj; exact hj
    have := hrs j hj'
    simp [hj] at this
    unfold I64
    omega
  have htb := tvB_of (D := D) (C := C) (L := X) (d := 1) (n := C.length) hp hdl (by decide) (fun t ht => by have := hXb t ht; omega)
  obtain ⟨bd, od, cd, hdv, -⟩ := rows_ints H1.out hdl (by omega) (fun i hi => by rw [(p4 i (by omega)).1]; omega)
  have HTV := Lib.hid (fun (Bp : Nat) (w' : World) (hb : Below w.heap.size w w') (p0 : w'.cell? ⟨Bp, 0, none⟩ = some (.slice (some ⟨bd, od, none⟩) C.length cd)) (p1 : w'.cell? ⟨Bp, 1, none⟩ = some (.slice x2 C.length y2)) => tv_any Bp bd od cd (.slice x2 C.length y2) (.slice x5 X.length y5) D C X 1 C.length w' p0 p1 (by rw [← hdv]; exact H1.out.below hb) (H2.out.below hb) (H5.out.below hb) hdl (fun i hi => by rw [(p4 i (by omega)).1]; omega) rfl hx.1 (by omega) (by omega) (by decide) htb)
  rw [← hf] at HTV
  have HSNX := Lib.hid (fun (w' : World) (hb : Below w.heap.size w w') => HSN.out w' hb hw hx.1 (fun t ht => by have := hXb t ht; omega))
  have HPOX := Lib.hid (fun (w' : World) (hb : Below w.heap.size w w') (v : Value) hv => HPO.out w' hb v C.length hv hu.1 (by rw [remL_len, hdl]) (by omega) (by omega) (fun i hi => by
    have y := hUb i hi
    have z := hrs i hi
    have m := PM.mul_bd (A := 100) (B := 11000) y.1 y.2 z.1 z.2
    omega))
  rw [← hg] at HPOX
  have HRI := Lib.hid hri
  rw [hfo] at HFA
  have hm1 := PM.mul_bd (A := 6000000) (B := 6000000) bf.1 bf.2 bh.1 bh.2
  have hm2 := PM.mul_bd (A := 6000000) (B := 6000000) bg.1 bg.2 bg.1 bg.2
  rw [hdv] at HG0 HW0 HFA HIS HR1 HR2 HSNX k0 ⊢
  have HOL := Lib.hid hO
  have HLIM := Lib.hid (fun hh => laF_lim f g h hh)
  clear hw hx hu hO hca hdl hmB hwc hp p1 p2 p3 p4 p5 hXb hUb hCb hDb hf hg hh hfo hfd hgd hhd hrs hri htb hdv HSN HPO HNO HBAD HOK
  go_enter Try.func54, Try.ntmps54
  go_wp2_with fail
  rw [← HW0.out]
  refine (HIS.out _ HG0.out.b).mono ?_
  rintro e w1 ⟨rfl, hb1⟩
  have HG1 := Lib.hid (HG0.out.next hb1)
  obtain ⟨hw1, k0, k1, k2, k3, r0, r1, r2, r3, f0, f1, f2, f3, hz1⟩ := HG1.out
  clear hb1
  go_wp2_with fail
  refine (HR1.out _ HG1.out.b).mono ?_
  rintro e w2 ⟨rfl, hb2⟩
  have HG2 := Lib.hid (HG1.out.next hb2)
  clear hw1 k0 k1 k2 k3 r0 r1 r2 r3 f0 f1 f2 f3 hz1 hb2
  obtain ⟨hw2, k0, k1, k2, k3, r0, r1, r2, r3, f0, f1, f2, f3, hz2⟩ := HG2.out
  go_wp2_with fail
  refine (HR2.out _ HG2.out.b).mono ?_
  rintro e w3 ⟨rfl, hb3⟩
  have HG3 := Lib.hid (HG2.out.next hb3)
  clear hw2 k0 k1 k2 k3 r0 r1 r2 r3 f0 f1 f2 f3 hz2 hb3
  obtain ⟨hw3, k0, k1, k2, k3, r0, r1, r2, r3, f0, f1, f2, f3, hz3⟩ := HG3.out
  go_wp2_with fail
  refine (HFA.out _ HG3.out.b).mono ?_
  rintro e w4 ⟨rfl, hb4⟩
  have HG4 := Lib.hid (HG3.out.next hb4)
  clear hw3 k0 k1 k2 k3 r0 r1 r2 r3 f0 f1 f2 f3 hz3 hb4
  obtain ⟨hw4, k0, k1, k2, k3, r0, r1, r2, r3, f0, f1, f2, f3, hz4⟩ := HG4.out
  by_cases hpos : h ≤ 0
  · have HO : Hid (OUT = ((0, 0), (0, 0), 5)) := Lib.hid (by rw [HOL.out]; unfold laF; rw [if_pos hpos])
    clear hw4
    go_wp2_with fail
    refine bodyPost_ret (v := .tuple #[.agg #[.int .i64 0, .int .i64 0], .agg #[.int .i64 0, .int .i64 0], .int .i64 5]) (by simp [*, results, Try.results54, go_sem]) rfl ?_
    rw [HO.out]
    have hw4 := HG4.out.b
    refine ⟨rfl, ?_⟩
    (repeat' (first | (with_reducible exact Below.refl _ _) | (with_reducible assumption) | (with_reducible refine Below.alloc ?_ ?_ _) | (with_reducible refine Below.drew ?_) | (with_reducible refine below_drewN ?_ _) | (with_reducible refine Below.setCell ?_ ?_ _) | (with_reducible refine Below.trans ?_ (Below.mono (by with_reducible assumption) ?_)) | (with_reducible exact Below.size (by with_reducible assumption)) | go_size))
  obtain ⟨hl0, hl1⟩ := HLIM.out (by omega)
  have HL0 := Lib.hid hl0
  have HL1 := Lib.hid hl1
  clear hl0 hl1
  go_wp2_with fail
  refine (HSNX.out _ HG4.out.b).mono ?_
  rintro e w5 ⟨gs, rfl, hF, hb5⟩
  have HPV := Lib.hid (HPOX.out w5 (HG4.out.next hb5).b _ (freshI_ints2 hF HRI.out))
  have HG5 := Lib.hid (HG4.out.next hb5)
  clear hw4 k0 k1 k2 k3 r0 r1 r2 r3 f0 f1 f2 f3 hz4 hb5 hF
  obtain ⟨hw5, k0, k1, k2, k3, r0, r1, r2, r3, f0, f1, f2, f3, hz5⟩ := HG5.out
  go_wp2_with fail
  refine HPV.out.mono ?_
  rintro e w6 ⟨rfl, hb6⟩
  have HG6 := Lib.hid (HG5.out.next hb6)
  clear hw5 k0 k1 k2 k3 r0 r1 r2 r3 f0 f1 f2 f3 hz5 hb6
  obtain ⟨hw6, k0, k1, k2, k3, r0, r1, r2, r3, f0, f1, f2, f3, hz6⟩ := HG6.out
  go_wp2_with fail
  refine (twiceValueOf_any _ _ _ _ _).mono ?_
  rintro e w7 ⟨rfl, hw7e⟩
  have hb7 : Below w6.heap.size w6 w7 := by rw [hw7e]; exact (Below.refl _ _).alloc (Nat.le_refl _) _
  have q0 : w7.cell? ⟨w6.heap.size, 0, none⟩ = some (.slice (some ⟨bd, od, none⟩) C.length cd) := by rw [hw7e]; simp
  have q1 : w7.cell? ⟨w6.heap.size, 1, none⟩ = some (.slice x2 C.length y2) := by rw [hw7e]; simp
  have HT7 := Lib.hid (HTV.out w6.heap.size w7 (HG6.out.next hb7).b q0 q1)
  have HG7 := Lib.hid (HG6.out.next hb7)
  clear hw6 k0 k1 k2 k3 r0 r1 r2 r3 f0 f1 f2 f3 hz6 hb7 hw7e q0 q1
  go_wp2_with fail
  refine HT7.out.mono ?_
  rintro e w8 ⟨rfl, hb8⟩
  have HG8 := Lib.hid (HG7.out.next hb8)
  clear hb8
  have hm3 : -36000000000000 ≤ f * h ∧ f * h ≤ 36000000000000 := by omega
  have hm4 : -36000000000000 ≤ g * g ∧ g * g ≤ 36000000000000 := by omega
  have hlf := limitedFracs_all (.slice (some ⟨w8.heap.size, 0, none⟩) 2 2) [-2 * g, f * h - g * g] (2 * h) (w8.alloc (.cells #[.int .i64 (-2 * g), .int .i64 (f * h - g * g)] 2)) (two_ints w8 _ _ (by unfold I64; omega) (by unfold I64; omega)) (by simp) (by simp) (by omega)
    (fun j hj => by
      have hj2 : j < 2 := hj
      obtain rfl | rfl : j = 0 ∨ j = 1 := by omega
      · show _ ≤ -2 * g ∧ -2 * g ≤ _
        omega
      · show _ ≤ f * h - g * g ∧ f * h - g * g ≤ _
        omega) (by omega)
  have HLF := Lib.hid hlf
  have HGA := Lib.hid (HG8.out.next ((Below.refl w8.heap.size w8).alloc (Nat.le_refl _) (.cells #[.int .i64 (-2 * g), .int .i64 (f * h - g * g)] 2)))
  clear hlf
  go_wp2_with fail
  refine HLF.out.mono ?_
  rintro e w9 (⟨hok, rfl, hb9⟩ | ⟨hok, g9, c9, rfl, hF9, hb9⟩)
  · have HO : Hid (OUT = ((0, 0), (0, 0), 3)) := Lib.hid (by rw [HOL.out]; exact HL0.out hok)
    have HG9 := Lib.hid (HGA.out.next hb9)
    clear hb9 hok
    obtain ⟨hw9, k0, k1, k2, k3, r0, r1, r2, r3, f0, f1, f2, f3, hz9⟩ := HG9.out
    clear hw9
    go_wp2_with fail
    refine bodyPost_ret (v := .tuple #[.agg #[.int .i64 0, .int .i64 0], .agg #[.int .i64 0, .int .i64 0], .int .i64 3]) (by simp [*, results, Try.results54, go_sem]) rfl ?_
    rw [HO.out]
    have hw9 := HG9.out.b
    refine ⟨rfl, ?_⟩
    (repeat' (first | (with_reducible exact Below.refl _ _) | (with_reducible assumption) | (with_reducible refine Below.alloc ?_ ?_ _) | (with_reducible refine Below.drew ?_) | (with_reducible refine below_drewN ?_ _) | (with_reducible refine Below.setCell ?_ ?_ _) | (with_reducible refine Below.trans ?_ (Below.mono (by with_reducible assumption) ?_)) | (with_reducible exact Below.size (by with_reducible assumption)) | go_size))
  · have hfo := hF9.own
    have c0 : w9.cell? ⟨g9, 0, none⟩ = some (.int .i64 (limF (2 * h) (-2 * g)).1) := by simpa using hfo.cell0 (i := 0) rfl (by simp)
    have c1 : w9.cell? ⟨g9, 1, none⟩ = some (.int .i64 (limF (2 * h) (-2 * g)).2) := by simpa using hfo.cell1 (i := 0) rfl (by simp)
    have c2 : w9.cell? ⟨g9, 2, none⟩ = some (.int .i64 (limF (2 * h) (f * h - g * g)).1) := by simpa using hfo.cell0 (i := 1) rfl (by simp)
    have c3 : w9.cell? ⟨g9, 3, none⟩ = some (.int .i64 (limF (2 * h) (f * h - g * g)).2) := by simpa using hfo.cell1 (i := 1) rfl (by simp)
    have HO : Hid (OUT = (limF (2 * h) (-2 * g), limF (2 * h) (f * h - g * g), 0)) := Lib.hid (by rw [HOL.out]; exact HL1.out hok)
    have HG9 := Lib.hid (HGA.out.next hb9)
    have hg9 : w.heap.size + 1 + 1 < g9 := by
      obtain ⟨g', cc', hv', hB', _⟩ := hF9
      simp at hv'
      have := HGA.out.z
      omega
    clear hb9 hok hfo hF9
    obtain ⟨P, hP⟩ : ∃ P, P = limF (2 * h) (-2 * g) := ⟨_, rfl⟩
    obtain ⟨P', hP'⟩ : ∃ P, P = limF (2 * h) (f * h - g * g) := ⟨_, rfl⟩
    rw [← hP] at c0 c1 HO
    rw [← hP'] at c2 c3 HO
    obtain ⟨pN, pD⟩ := P
    obtain ⟨qN, qD⟩ := P'
    dsimp only at c0 c1 c2 c3
    have hgn1 : g9 ≠ w.heap.size + 1 := by omega
    have hgn2 : g9 ≠ w.heap.size + 1 + 1 := by omega
    have hgb1 : ¬ g9 = w.heap.size + 1 := by omega
    clear hP hP' HLF HL0 HL1 HLIM HOL
    obtain ⟨hw9, k0, k1, k2, k3, r0, r1, r2, r3, f0, f1, f2, f3, hz9⟩ := HG9.out
    clear hw9
    go_wp2_with fail
    go_region
    go_wp2_with fail
    refine bodyPost_ret (v := .tuple #[.agg #[.int .i64 pN, .int .i64 pD], .agg #[.int .i64 qN, .int .i64 qD], .int .i64 0]) (by simp [*, results, Try.results54, go_sem]) rfl ?_
    rw [HO.out]
    have hw9 := HG9.out.b
    refine ⟨rfl, ?_⟩
    (repeat' (first | (with_reducible exact Below.refl _ _) | (with_reducible assumption) | (with_reducible refine Below.alloc ?_ ?_ _) | (with_reducible refine Below.drew ?_) | (with_reducible refine below_drewN ?_ _) | (with_reducible refine Below.setCell ?_ ?_ _) | (with_reducible refine Below.trans ?_ (Below.mono (by with_reducible assumption) ?_)) | (with_reducible exact Below.size (by with_reducible assumption)) | go_size))
end Go.Proofs.Ytbfpneonmefndaa.PW
