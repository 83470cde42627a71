/-
  Walks: the program's point of a set: a list of fractions over one denominator.
-/
import Derived.Test.YtgncaploccbfnaaPFrT
import Derived.Test.YtgncaploccbfnaaPFrF
namespace Go.Proofs.Ytgncaploccbfnaa.PW
open Go.RowKit Go.Proofs.Ytgncaploccbfnaa
open Go.Proofs.Ytgncaploccbfnaa.PM Go.Proofs.Ytgncaploccbfnaa.PX

def fillF (n k : Nat) (F : Nat → Int × Int) : List (Int × Int) := (List.range n).map fun j => if j < k then F j else (0, 0)
theorem fillF_length (n k : Nat) (F : Nat → Int × Int) : (fillF n k F).length = n := by simp [fillF]
theorem fillF_zero (n : Nat) (F : Nat → Int × Int) : fillF n 0 F = List.replicate n (0, 0) := by
  unfold fillF
  apply List.ext_getElem (by simp)
  intro i h1 h2
  simp
theorem fillF_all (n : Nat) (F : Nat → Int × Int) : fillF n n F = (List.range n).map F := by
  unfold fillF
  refine List.map_congr_left (fun j hj => ?_)
  rw [if_pos (by simpa using hj)]
theorem fillF_set (n k : Nat) (F : Nat → Int × Int) : (fillF n k F).set k ((F k).1, (F k).2) = fillF n (k + 1) F := by
  apply List.ext_getElem (by simp [fillF])
  intro j h1 h2
  simp only [List.getElem_set, fillF, List.getElem_map, List.getElem_range]
  by_cases e : k = j
  · subst e; rw [if_pos rfl, if_pos (by omega)]
  · rw [if_neg e]
    by_cases e2 : j < k
    · rw [if_pos e2, if_pos (by omega)]
    · rw [if_neg e2, if_neg (by omega)]
theorem limitedFrac_ok (n d : Int) (w : World) (hd : d ≠ 0) (h1 : Bd 1000000000 n) (h2 : Bd 1000000000 d) :
    Calls Try.prog 128 #[.int .i64 n, .int .i64 d] w fun e w' => e = .returned (.tuple #[.agg #[.int .i64 (FM.redN n d), .int .i64 (FM.redD n d)], .int .i64 0]) ∧ Below w.heap.size w w' := by
  have h := told_ok hd h1 h2
  unfold Bd at h1 h2
  have := FW.limitedFrac_any n d w (by omega) (by omega) (by omega) (by omega) hd
  rw [h.1, h.2.1, h.2.2] at this
  exact this

set_option maxRecDepth 100000 in
set_option maxHeartbeats 1000000 in
theorem limitedFracs_any (v : Value) (n : Nat) (f : Nat → Int) (d : Int) (w : World) (hv : Ints w v ((List.range n).map f)) (hn1 : 1 ≤ n) (hn5 : n ≤ 5) (hd : d ≠ 0) (hb : ∀ j, j < n → Bd 1000000000 (f j)) (hbd : Bd 1000000000 d) :
    Calls Try.prog 87 #[v, .int .i64 d] w fun e w' => ∃ g c, e = .returned (.tuple #[.slice (some ⟨g, 0, none⟩) n c, .int .i64 0]) ∧ FreshF w.heap.size w' (.slice (some ⟨g, 0, none⟩) n c) ((List.range n).map fun j => (FM.redN (f j) d, FM.redD (f j) d)) ∧ Below w.heap.size w w' := by
  obtain ⟨b, off, c, rfl, hblt, hce⟩ := ints_at hv (row_length _ _) hn1
  have hfr := fun (j : Nat) (hj : j < n) (w' : World) => limitedFrac_ok (f j) d w' hd (hb j hj) hbd
  have hmk := make_frac n hn5 hn1
  have hmd := freshF_made w n hn5
  obtain ⟨F, hF⟩ : ∃ F : Nat → Int × Int, F = fun j => (FM.redN (f j) d, FM.redD (f j) d) := ⟨_, rfl⟩
  have hF0 : ∀ j, (F j).1 = FM.redN (f j) d := fun j => by rw [hF]
  have hF1 : ∀ j, (F j).2 = FM.redD (f j) d := fun j => by rw [hF]
  rw [← hF]
  rw [← fillF_zero n F] at hmd hmk
  have HFR := Lib.hid hfr
  have HCE := Lib.hid hce
  generalize (fcs (fillF n 0 F)).toArray = arr at *
  have HMD := Lib.hid hmd
  have HF0 := Lib.hid hF0
  have HF1 := Lib.hid hF1
  clear hv hce hfr hmd hb hbd hF hF0 hF1 hd
  go_enter Try.func87, Try.ntmps87
  go_wp2_with fail
  go_loopw [7, 8, 9, 10, 16] (fun _ _ _ _ i wr => ∃ k : Nat, k ≤ n ∧ i = .int .i64 k ∧ FreshF w.heap.size wr (.slice (some ⟨w.heap.size, 0, none⟩) n n) (fillF n k F) ∧ Below w.heap.size w wr) (fun _ _ _ _ i _ => n - (intOf i).toNat)
  case atStart => exact ⟨0, Nat.zero_le _, rfl, HMD.out, (Below.refl _ _).alloc (Nat.le_refl _) _⟩
  case round =>
    obtain ⟨k, hk, rfl, hR, hB⟩ := hrel
    by_cases hlt : k < n
    · have t1 := (hB.cell (p := ⟨b, off + k, none⟩) hblt).trans (HCE.out k (by rw [row_length]; exact hlt))
      rw [show ((List.range n).map f).getD k 0 = f k by simp [hlt]] at t1
      have HR := Lib.hid hR
      have HB := Lib.hid hB
      have HFK := Lib.hid (HFR.out k hlt)
      have hzz := hB.size
      have hzl : w.heap.size < wr.heap.size := by obtain ⟨g, c, hv, _, h2, _⟩ := hR; simp at hv; omega
      clear hR hB
      go_wp2_with fail
      refine (HFK.out _).mono ?_
      rintro e w2 ⟨rfl, hb2⟩
      rw [← HF0.out k, ← HF1.out k]
      have hR2 := HR.out.below hb2
      have hl := fillF_length n k F
      have c0 := hR2.own.cell0 hl.symm hlt
      have c1 := hR2.own.cell1 hl.symm hlt
      have f0 := fun i => hR2.own.frozen hl.symm i
      have hz2 := hb2.size
      have hzl2 : w.heap.size < w2.heap.size := by omega
      have hzn2 : w.heap.size ≠ w2.heap.size := by omega
      have hst := (hR2.below ((Below.refl w2.heap.size w2).alloc (Nat.le_refl _) (.cells #[.int .i64 (F k).1, .int .i64 (F k).2] 98))).set hlt (F k).1 (F k).2
      rw [fillF_set] at hst
      have hbl := ((HB.out.trans (hb2.mono hzz)).alloc (by omega) (.cells #[.int .i64 (F k).1, .int .i64 (F k).2] 98)).setCell (p := ⟨w.heap.size, k * 2, none⟩) (Nat.le_refl _) (.int .i64 (F k).1) |>.setCell (p := ⟨w.heap.size, k * 2 + 1, none⟩) (Nat.le_refl _) (.int .i64 (F k).2)
      rw [World.setCell_alloc_past _ _ _ _ hzl2, World.setCell_alloc_past _ _ _ _ (by simpa using hzl2)] at hst hbl
      have HST := Lib.hid hst
      have HBL := Lib.hid hbl
      clear hst hbl hl hR2 hb2
      generalize (F k).1 = x at *
      generalize (F k).2 = y at *
      go_wp2_with fail
      go_roundw
      case rel => exact ⟨k + 1, by omega, by go_num, HST.out, HBL.out⟩
      case measure => simp [intOf]; omega
    · obtain rfl : k = n := by omega
      rw [fillF_all] at hR
      have HR := Lib.hid hR
      clear hR
      go_wp2_with fail
      go_ret2
      exact ⟨_, _, rfl, HR.out, hB⟩
end Go.Proofs.Ytgncaploccbfnaa.PW
