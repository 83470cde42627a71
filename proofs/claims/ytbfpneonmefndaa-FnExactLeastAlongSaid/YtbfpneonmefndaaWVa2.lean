/-
  Walks: ValueAt in the program.
-/
import Derived.Test.YtbfpneonmefndaaWVal
namespace Go.Proofs.Ytbfpneonmefndaa.PW
open Go.RowKit Go.Proofs.Ytbfpneonmefndaa
open Go.Proofs.Ytbfpneonmefndaa.PM Go.Proofs.Ytbfpneonmefndaa.PX

def vaOut (D : List (List Int)) (C : List Int) (A : List (List Int)) (B : List Int) (X : List (Int × Int)) : (Int × Int) × Int :=
  if wfCode D C A B X [] 0 = 0 then (match smD X 10000000 10000 with
    | none => ((0, 0), 3)
    | some d => ((FM.toldN (tvE D C (X.map (numI d)) d X.length) (2 * d * d), FM.toldD (tvE D C (X.map (numI d)) d X.length) (2 * d * d)), FM.toldC (tvE D C (X.map (numI d)) d X.length) (2 * d * d))) else ((0, 0), wfCode D C A B X [] 0)
theorem vaOut_err {D : List (List Int)} {C : List Int} {A : List (List Int)} {B : List Int} {X : List (Int × Int)} (h : wfCode D C A B X [] 0 ≠ 0) : vaOut D C A B X = ((0, 0), wfCode D C A B X [] 0) := by unfold vaOut; rw [if_neg h]
theorem vaOut_none {D : List (List Int)} {C : List Int} {A : List (List Int)} {B : List Int} {X : List (Int × Int)} (h : wfCode D C A B X [] 0 = 0) (h2 : smD X 10000000 10000 = none) : vaOut D C A B X = ((0, 0), 3) := by unfold vaOut; rw [if_pos h, h2]
theorem vaOut_some {D : List (List Int)} {C : List Int} {A : List (List Int)} {B : List Int} {X : List (Int × Int)} {d : Int} (h : wfCode D C A B X [] 0 = 0) (h2 : smD X 10000000 10000 = some d) : vaOut D C A B X = ((FM.toldN (tvE D C (X.map (numI d)) d X.length) (2 * d * d), FM.toldD (tvE D C (X.map (numI d)) d X.length) (2 * d * d)), FM.toldC (tvE D C (X.map (numI d)) d X.length) (2 * d * d)) := by unfold vaOut; rw [if_pos h, h2]

/-- The box of a program, and the box of a fraction that is told. -/
structure Wf (w W : World) (v0 v1 v2 v3 : Value) : Prop where
  b : Below w.heap.size w W
  k0 : W.cell? ⟨w.heap.size, 0, none⟩ = some v0
  k1 : W.cell? ⟨w.heap.size, 1, none⟩ = some v1
  k2 : W.cell? ⟨w.heap.size, 2, none⟩ = some v2
  k3 : W.cell? ⟨w.heap.size, 3, none⟩ = some v3
  r0 : W.cell? ⟨w.heap.size + 1, 0, none⟩ = some (.int .i64 0)
  r1 : W.cell? ⟨w.heap.size + 1, 1, none⟩ = some (.int .i64 0)
  f0 : W.frozen? ⟨w.heap.size + 1, 0, none⟩ = false
  f1 : W.frozen? ⟨w.heap.size + 1, 1, none⟩ = false
  z : w.heap.size + 1 < W.heap.size
theorem Wf.next {w W W' : World} {v0 v1 v2 v3 : Value} (h : Wf w W v0 v1 v2 v3) (hb : Below W.heap.size W W') : Wf w W' v0 v1 v2 v3 := by
  obtain ⟨b, k0, k1, k2, k3, r0, r1, f0, f1, z⟩ := h
  have z0 : w.heap.size < W.heap.size := by omega
  exact ⟨b.trans (hb.mono b.size), (hb.cell (p := ⟨w.heap.size, 0, none⟩) z0).trans k0, (hb.cell (p := ⟨w.heap.size, 1, none⟩) z0).trans k1, (hb.cell (p := ⟨w.heap.size, 2, none⟩) z0).trans k2, (hb.cell (p := ⟨w.heap.size, 3, none⟩) z0).trans k3,
    (hb.cell (p := ⟨w.heap.size + 1, 0, none⟩) z).trans r0, (hb.cell (p := ⟨w.heap.size + 1, 1, none⟩) z).trans r1, (hb.frozen (p := ⟨w.heap.size + 1, 0, none⟩) z).trans f0, (hb.frozen (p := ⟨w.heap.size + 1, 1, none⟩) z).trans f1, Nat.lt_of_lt_of_le z hb.size⟩
theorem wf_new (w : World) (v0 v1 v2 v3 : Value) : Wf w ((w.alloc (.cells #[v0, v1, v2, v3] 54)).alloc (.cells #[.int .i64 0, .int .i64 0] 62)) v0 v1 v2 v3 := by
  refine ⟨((Below.refl _ _).alloc (Nat.le_refl _) _).alloc (by simp) _, ?_, ?_, ?_, ?_, ?_, ?_, ?_, ?_, ?_⟩ <;> simp [go_sem]

theorem twiceValueOf_any (v0 v1 v2 v3 : Value) (w : World) :
    Calls Try.prog 95 #[.agg #[v0, v1, v2, v3]] w fun e w' => e = .returned (.func (.func 127) #[] #[.pointer (some ⟨w.heap.size, 0, none⟩)]) ∧ w' = w.alloc (.cells #[v0, v1, v2, v3] 54) := by
  go_enter Try.func95, Try.ntmps95
  go_wp2_with fail
  go_ret
  exact ⟨rfl, rfl⟩

set_option maxRecDepth 100000 in
set_option maxHeartbeats 8000000 in
theorem implValueAt_any (d c a b x : Value) (D : List (List Int)) (C : List Int) (A : List (List Int)) (B : List Int) (X : List (Int × Int)) (w : World) (h1 : PM.Rows w d D) (h2 : Ints w c C) (h3 : PM.Rows w a A) (h4 : Ints w b B) (h5 : Frs w x X) (hs : szWn D C A B ≤ 1048576) :
    Calls Try.prog 45 #[.agg #[d, c, a, b], x] w fun e w' => e = .returned (.tuple #[.agg #[.int .i64 (vaOut D C A B X).1.1, .int .i64 (vaOut D C A B X).1.2], .int .i64 (vaOut D C A B X).2]) ∧ Below w.heap.size w w' := by
  have HNT := Lib.hid (fun (w' : World) (h : Below w.heap.size w w') => numsAt_any d c a b x D C A B X 10000000 10000 w' (h1.below h) (h2.below h) (h3.below h) (h4.below h) (h5.below h) hs (by decide) (by decide))
  have HZ := Lib.hid (wf_zero (D := D) (C := C) (A := A) (B := B) (X := X) (Y := []) (m := 0))
  have HE := Lib.hid (vaOut_err (D := D) (C := C) (A := A) (B := B) (X := X))
  have HN := Lib.hid (vaOut_none (D := D) (C := C) (A := A) (B := B) (X := X))
  have HSO := Lib.hid (fun d => vaOut_some (D := D) (C := C) (A := A) (B := B) (X := X) (d := d))
  generalize vaOut D C A B X = OUT at *
  generalize wfCode D C A B X [] 0 = CODE at *
  have H1 := Lib.hid h1
  have H2 := Lib.hid h2
  obtain ⟨x1, y1, rfl, _⟩ := h1
  obtain ⟨x2, y2, rfl, _⟩ := h2
  obtain ⟨x3, y3, rfl, _⟩ := h3
  obtain ⟨x4, y4, rfl, _⟩ := h4
  obtain ⟨x5, y5, rfl, _⟩ := h5
  obtain ⟨W0, hW0⟩ : ∃ W0, W0 = (w.alloc (.cells #[.slice x1 D.length y1, .slice x2 C.length y2, .slice x3 A.length y3, .slice x4 B.length y4] 54)).alloc (.cells #[.int .i64 0, .int .i64 0] 62) := ⟨_, rfl⟩
  have HG0 : Hid (Wf w W0 (.slice x1 D.length y1) (.slice x2 C.length y2) (.slice x3 A.length y3) (.slice x4 B.length y4)) := by rw [hW0]; exact wf_new _ _ _ _ _
  have HW0 := Lib.hid hW0
  obtain ⟨_, k0, k1, k2, k3, _, _, _, _, _⟩ := HG0.out
  clear hW0 hs
  go_enter Try.func45, Try.ntmps45
  go_wp2_with fail
  rw [← HW0.out]
  refine (HNT.out _ HG0.out.b).mono ?_
  rintro e w1 (⟨hc, rfl, hb1⟩ | ⟨hc, hsm, rfl, hb1⟩ | ⟨hc, dd, g, cc, hsm, rfl, hF, hb1⟩)
  · have hcb : (CODE != 0) = true := by simp; omega
    have HO := Lib.hid (HE.out hc)
    obtain ⟨hw1, k0, k1, k2, k3, r0, r1, f0, f1, hz1⟩ := HG0.out.next hb1
    clear hb1 hc
    go_wp2_with fail
    refine bodyPost_ret (v := .tuple #[.agg #[.int .i64 0, .int .i64 0], .int .i64 CODE]) (by simp [*, results, Try.results45, go_sem]) rfl ?_
    rw [HO.out]
    refine ⟨rfl, ?_⟩
    (repeat' (first | (with_reducible exact Below.refl _ _) | (with_reducible assumption) | (with_reducible refine Below.alloc ?_ ?_ _) | (with_reducible refine Below.drew ?_) | (with_reducible refine below_drewN ?_ _) | (with_reducible refine Below.setCell ?_ ?_ _) | (with_reducible refine Below.trans ?_ (Below.mono (by with_reducible assumption) ?_)) | (with_reducible exact Below.size (by with_reducible assumption)) | go_size))
  · have HO := Lib.hid (HN.out hc hsm)
    obtain ⟨hw1, k0, k1, k2, k3, r0, r1, f0, f1, hz1⟩ := HG0.out.next hb1
    clear hb1 hc hsm
    go_wp2_with fail
    refine bodyPost_ret (v := .tuple #[.agg #[.int .i64 0, .int .i64 0], .int .i64 3]) (by simp [*, results, Try.results45, go_sem]) rfl ?_
    rw [HO.out]
    refine ⟨rfl, ?_⟩
    (repeat' (first | (with_reducible exact Below.refl _ _) | (with_reducible assumption) | (with_reducible refine Below.alloc ?_ ?_ _) | (with_reducible refine Below.drew ?_) | (with_reducible refine below_drewN ?_ _) | (with_reducible refine Below.setCell ?_ ?_ _) | (with_reducible refine Below.trans ?_ (Below.mono (by with_reducible assumption) ?_)) | (with_reducible exact Below.size (by with_reducible assumption)) | go_size))
  obtain ⟨hw, ⟨hfx, _⟩, hl, _⟩ := HZ.out hc
  obtain ⟨_, ⟨hd1, hd2, hd3⟩, hnb, hn7⟩ := smD_facts (frsB_fracs hfx) hsm
  have hp := isPB_of hw
  obtain ⟨f1, f2, f3, f4, f5⟩ := isPB_facts hp
  have HO := Lib.hid (HSO.out dd hc hsm)
  have htb := tvB_of (L := X.map (numI dd)) hp (by omega : D.length = X.length) ⟨by omega, hd3⟩ hn7
  have hII := freshI_ints2 hF (nums_i64 hnb)
  have hdd : 1 ≤ dd * dd ∧ dd * dd ≤ 100000000 := by
    have h := Int.mul_le_mul hd3 hd3 (by omega) (by decide)
    have h' := Int.mul_le_mul hd1 hd1 (by decide) (by omega)
    omega
  have h2d : 2 * dd * dd = 2 * (dd * dd) := Int.mul_assoc 2 dd dd
  have hG1 := HG0.out.next hb1
  obtain ⟨bd, od, cd, hdv, _⟩ := rows_ints (H1.out) (by omega : D.length = X.length) (by omega) (fun i hi => by rw [(f4 i (by omega)).1]; omega)
  have HTV := Lib.hid (fun (Bp : Nat) (w' : World) (h : Below w1.heap.size w1 w') (p0 : w'.cell? ⟨Bp, 0, none⟩ = some (.slice (some ⟨bd, od, none⟩) X.length cd)) (p1 : w'.cell? ⟨Bp, 1, none⟩ = some (.slice x2 C.length y2)) => tv_any Bp bd od cd (.slice x2 C.length y2) (.slice (some ⟨g, 0, none⟩) X.length cc) D C (X.map (numI dd)) dd X.length w' p0 p1 (by rw [← hdv]; exact H1.out.below (hG1.b.trans (h.mono hG1.b.size))) (H2.out.below (hG1.b.trans (h.mono hG1.b.size))) (hII.below h) (by omega) (fun i hi => by rw [(f4 i (by omega)).1]; omega) (by omega) (by simp) (by omega) (by omega) ⟨by omega, hd3⟩ htb)
  have htvb : -60000000000000000 ≤ tvE D C (X.map (numI dd)) dd X.length ∧ tvE D C (X.map (numI dd)) dd X.length ≤ 60000000000000000 := by
    have := htb.dp
    have := htb.fr
    unfold tvE
    omega
  generalize tvE D C (X.map (numI dd)) dd X.length = TV at *
  have HLF := Lib.hid (fun w' => FW.limitedFrac_any TV (2 * dd * dd) w' (by omega) (by omega) (by omega) (by omega) (by omega))
  have HG1 := Lib.hid hG1
  obtain ⟨_, k0, k1, k2, k3, _, _, _, _, hz1⟩ := hG1
  rw [hdv] at k0
  have hdd2 : -9223372036854775808 ≤ 2 * dd ∧ 2 * dd ≤ 9223372036854775807 := by omega
  generalize hq : 2 * dd * dd = q at *
  have hqb : 1 ≤ q ∧ q ≤ 1000000000 := by omega
  clear hc hsm hw hfx hl hd1 hd2 hnb hn7 hp f1 f2 f3 f4 f5 htb hII hdd h2d hF hb1 HZ HE HN HSO HNT HW0 htvb
  go_wp2_with fail
  refine (twiceValueOf_any _ _ _ _ _).mono ?_
  rintro e w2 ⟨rfl, hw2e⟩
  have hb2 : Below w1.heap.size w1 w2 := by rw [hw2e]; exact (Below.refl _ _).alloc (Nat.le_refl _) _
  have p0 : w2.cell? ⟨w1.heap.size, 0, none⟩ = some (.slice (some ⟨bd, od, none⟩) X.length cd) := by rw [hw2e]; simp
  have p1 : w2.cell? ⟨w1.heap.size, 1, none⟩ = some (.slice x2 C.length y2) := by rw [hw2e]; simp
  have HT2 := Lib.hid (HTV.out w1.heap.size w2 hb2 p0 p1)
  have HG2 := Lib.hid (HG1.out.next hb2)
  clear hw2e hb2 p0 p1 HTV k0 k1 k2 k3 hz1
  go_wp2_with fail
  refine HT2.out.mono ?_
  rintro e w3 ⟨rfl, hb3⟩
  have HG3 := Lib.hid (HG2.out.next hb3)
  clear hb3
  go_wp2_with fail
  refine (HLF.out _).mono ?_
  rintro e w4 ⟨rfl, hb4⟩
  obtain ⟨hw4, k0, k1, k2, k3, r0, r1, f0, f1, hz4⟩ := HG3.out.next hb4
  generalize FM.toldN TV q = tN at *
  generalize FM.toldD TV q = tD at *
  generalize FM.toldC TV q = tC at *
  clear hb4 hq
  go_wp2_with fail
  refine bodyPost_ret (v := .tuple #[.agg #[.int .i64 tN, .int .i64 tD], .int .i64 tC]) (by simp [*, results, Try.results45, go_sem]) rfl ?_
  rw [HO.out]
  refine ⟨rfl, ?_⟩
  (repeat' (first | (with_reducible exact Below.refl _ _) | (with_reducible assumption) | (with_reducible refine Below.alloc ?_ ?_ _) | (with_reducible refine Below.drew ?_) | (with_reducible refine below_drewN ?_ _) | (with_reducible refine Below.setCell ?_ ?_ _) | (with_reducible refine Below.trans ?_ (Below.mono (by with_reducible assumption) ?_)) | (with_reducible exact Below.size (by with_reducible assumption)) | go_size))
end Go.Proofs.Ytbfpneonmefndaa.PW
