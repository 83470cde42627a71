/-
  Walks: orientations without cycles and longest walks, in the program.
-/
import Derived.Test.YtlccdnpicfmeaaaCLop
import Derived.Test.YtlccdnpicfmeaaaPRoundB
namespace Go.Proofs.Ytlccdnpicfmeaaa.PW
open Go.RowKit Go.Proofs.Ytlccdnpicfmeaaa Go.Proofs.Ytlccdnpicfmeaaa.SW
open Go.Proofs.Ytlccdnpicfmeaaa.PM

def apOut (D : Int) (O : List Int) : Bool × Int := if isCB D O = true then (acyB D.toNat (fO O), 0) else (false, 1)
theorem apOut_ok {n : Nat} {O : List Int} (h : isCB n O = true) : apOut n O = (acyB n (fO O), 0) := by unfold apOut; rw [if_pos h]; rfl
theorem apOut_no {D : Int} {O : List Int} (h : isCB D O = false) : apOut D O = (false, 1) := by unfold apOut; rw [if_neg (by simp [h])]
def lpOut (D : Int) (O : List Int) : Int × Int := if isCB D O = true then (if acyB D.toNat (fO O) = true then ((lpN D.toNat (fO O) : Int), 0) else (0, 5)) else (0, 1)
theorem lpOut_ok {n : Nat} {O : List Int} (h : isCB n O = true) (ha : acyB n (fO O) = true) : lpOut n O = (lpP n (fO O), 0) := by
  unfold lpOut lpP
  rw [if_pos h, Int.toNat_natCast, if_pos ha, if_pos ha]
theorem lpOut_cy {n : Nat} {O : List Int} (h : isCB n O = true) (ha : acyB n (fO O) = false) : lpOut n O = (0, 5) := by
  unfold lpOut
  rw [if_pos h, Int.toNat_natCast, if_neg (by simp [ha])]
theorem lpOut_no {D : Int} {O : List Int} (h : isCB D O = false) : lpOut D O = (0, 1) := by unfold lpOut; rw [if_neg (by simp [h])]

set_option maxRecDepth 100000 in
set_option maxHeartbeats 4000000 in
theorem implIsAcyclicCube_any (D : Int) (q : Value) (O : List Int) (w : World) (hq : Ints w q O) :
    Calls Try.prog 40 #[.agg #[.int .i64 D, q]] w (OutCB w (apOut D O)) := by
  have HIS := Lib.hid (fun w' h => implIsCube_any D q O w' (hq.below h))
  have hmx : Try.prog.follows .mixedOrders = true := by kernel_rfl
  cases hc : isCB D O
  · rw [hc] at HIS
    rw [apOut_no hc]
    obtain ⟨a, cap, rfl, _⟩ := hq
    clear hc
    go_enter Try.func40, Try.ntmps40
    go_wp2_with fail
    refine (HIS.out _ (by (repeat' (first | (with_reducible exact Below.refl _ _) | (with_reducible assumption) | (with_reducible refine Below.alloc ?_ ?_ _) | (with_reducible refine Below.drew ?_) | (with_reducible refine below_drewN ?_ _) | (with_reducible refine Below.setCell ?_ ?_ _) | (with_reducible refine Below.trans ?_ (Below.mono (by with_reducible assumption) ?_)) | (with_reducible exact Below.size (by with_reducible assumption)) | go_size)))).mono ?_; rintro e w1 ⟨rfl, hb1⟩
    have hw1 : Below w.heap.size w w1 := by (repeat' (first | (with_reducible exact Below.refl _ _) | (with_reducible assumption) | (with_reducible refine Below.alloc ?_ ?_ _) | (with_reducible refine Below.drew ?_) | (with_reducible refine below_drewN ?_ _) | (with_reducible refine Below.setCell ?_ ?_ _) | (with_reducible refine Below.trans ?_ (Below.mono (by with_reducible assumption) ?_)) | (with_reducible exact Below.size (by with_reducible assumption)) | go_size))
    go_wp2_with fail
    go_ret2
    exact ⟨rfl, hw1⟩
  · rw [hc] at HIS
    obtain ⟨hd1, hd5, hl5, hl1⟩ := isCB_facts hc
    obtain ⟨n, rfl⟩ : ∃ n : Nat, D = (n : Int) := ⟨D.toNat, by omega⟩
    rw [apOut_ok hc]
    obtain ⟨b, off, cap, rfl, hb, hcell⟩ := Ints.at_ hq hl1
    have HHU := Lib.hid (fun w' => longestPath_any O n w' hc (by omega) (by omega))
    have HOM := Lib.hid (fun w' (h : Below w.heap.size w w') => outmapOf_any n b off O.length cap O w' ⟨rfl, hl1, hl5, by have := h.size; omega, fun k hk => (h.cell (p := ⟨b, off + k, none⟩) hb).trans (hcell k hk)⟩)
    obtain ⟨F, hF⟩ : ∃ F : Nat → Int, F = fun j => O.getD j 0 := ⟨_, rfl⟩
    rw [← hF] at HHU HOM
    generalize acyB n (fO O) = A at *
    generalize lpP n (fO O) = LP at *
    clear hc hq hcell hF
    go_enter Try.func40, Try.ntmps40
    go_wp2_with fail
    refine (HIS.out _ (by (repeat' (first | (with_reducible exact Below.refl _ _) | (with_reducible assumption) | (with_reducible refine Below.alloc ?_ ?_ _) | (with_reducible refine Below.drew ?_) | (with_reducible refine below_drewN ?_ _) | (with_reducible refine Below.setCell ?_ ?_ _) | (with_reducible refine Below.trans ?_ (Below.mono (by with_reducible assumption) ?_)) | (with_reducible exact Below.size (by with_reducible assumption)) | go_size)))).mono ?_; rintro e w1 ⟨rfl, hb1⟩
    have hw1 : Below w.heap.size w w1 := by (repeat' (first | (with_reducible exact Below.refl _ _) | (with_reducible assumption) | (with_reducible refine Below.alloc ?_ ?_ _) | (with_reducible refine Below.drew ?_) | (with_reducible refine below_drewN ?_ _) | (with_reducible refine Below.setCell ?_ ?_ _) | (with_reducible refine Below.trans ?_ (Below.mono (by with_reducible assumption) ?_)) | (with_reducible exact Below.size (by with_reducible assumption)) | go_size))
    have x0 : w1.cell? ⟨w.heap.size, 0, none⟩ = some (.int .i64 n) := (hb1.cell (p := ⟨w.heap.size, 0, none⟩) (by simp)).trans (by simp)
    have x1 : w1.cell? ⟨w.heap.size, 1, none⟩ = some (.slice (some ⟨b, off, none⟩) O.length cap) := (hb1.cell (p := ⟨w.heap.size, 1, none⟩) (by simp)).trans (by simp)
    have hl : w.heap.size < w1.heap.size := by have := hb1.size; simp at this; omega
    clear hb1 HIS
    go_wp2_with fail
    rename_i K0 hK0
    refine (wpIn_wide (n := 8)).1 ?_
    refine PR.wpIn_region_inv hmx (by kernel_rfl) (fun listed ac w' =>
        ∃ (b0 b1 b2 b3 b4 b5 b6 b7 b8 b9 : Bool), ((b1 = true → b0 = true) ∧ (b3 = true → b2 = true) ∧ (b4 = true → b1 = true ∧ b3 = true) ∧ (b5 = true → b4 = true) ∧ (b6 = true → b5 = true) ∧ (b7 = true → b5 = true) ∧ (b8 = true → b6 = true) ∧ (b9 = true → b7 = true)) ∧ listed = #[b0, b1, b2, b3, b4, b5, b6, b7, b8, b9] ∧
          ac = { tmps := #[.agg #[.int .i64 n, .slice (some ⟨b, off, none⟩) O.length cap], .pointer (some ⟨w.heap.size, 0, none⟩), .bool false, .int .i64 0, cond b8 (.int .i64 LP) undef, cond b9 (.bool A) undef, .agg #[.int .i64 n, .slice (some ⟨b, off, none⟩) O.length cap], .bool true, .bool false, cond b5 (.tuple #[.int .i64 LP, .bool A]) undef, cond b0 (.agg #[.int .i64 n, .slice (some ⟨b, off, none⟩) O.length cap]) undef, cond b1 (arrV F) undef, cond b2 (.pointer (some ⟨w.heap.size, 0, none⟩)) undef, cond b3 (.int .i64 n) undef, cond b4 (.tuple #[.int .i64 LP, .bool A]) undef, cond b6 (.int .i64 LP) undef, cond b7 (.bool A) undef, undef], defers := [] } ∧ Below w1.heap.size w1 w') ?_ ?_ ?_ ?_
    · rintro listed ac w' ⟨b0, b1, b2, b3, b4, b5, b6, b7, b8, b9, _, rfl, _⟩
      rfl
    · rintro listed ac w' ⟨b0, b1, b2, b3, b4, b5, b6, b7, b8, b9, _, rfl, rfl, hR⟩ hall
      have h0 := hall 0 (by simp)
      have h1 := hall 1 (by simp)
      have h2 := hall 2 (by simp)
      have h3 := hall 3 (by simp)
      have h4 := hall 4 (by simp)
      have h5 := hall 5 (by simp)
      have h6 := hall 6 (by simp)
      have h7 := hall 7 (by simp)
      have h8 := hall 8 (by simp)
      have h9 := hall 9 (by simp)
      simp at h0 h1 h2 h3 h4 h5 h6 h7 h8 h9
      subst h0 h1 h2 h3 h4 h5 h6 h7 h8 h9
      clear hall
      refine hK0 _ _ ?_
      simp only [cond_true]
      have HB := Lib.hid (hw1.trans (hR.mono hw1.size))
      clear hR x0 x1
      go_wp2_with fail
      go_ret2
      exact ⟨rfl, HB.out⟩
    · exact ⟨false, false, false, false, false, false, false, false, false, false, by simp, rfl, rfl, (Below.refl _ _).drew⟩
    · rintro listed ac w' i oi ⟨b0, b1, b2, b3, b4, b5, b6, b7, b8, b9, ⟨e1, e3, e4, e5, e6, e7, e8, e9⟩, rfl, rfl, hR⟩ ho hun hdep
      have hi : i < 10 := by simpa using (Array.getElem?_eq_some_iff.1 ho).1
      obtain rfl | rfl | rfl | rfl | rfl | rfl | rfl | rfl | rfl | rfl : i = 0 ∨ i = 1 ∨ i = 2 ∨ i = 3 ∨ i = 4 ∨ i = 5 ∨ i = 6 ∨ i = 7 ∨ i = 8 ∨ i = 9 := by omega
      · -- 0
        simp only [List.getElem?_toArray, List.getElem?_cons_zero, Option.some.injEq] at ho
        subst ho
        have hbi : b0 = false := by simpa using hun
        subst hbi
        obtain rfl : b1 = false := Bool.eq_false_iff.2 (fun h => Bool.noConfusion (e1 h))
        obtain rfl : b4 = false := Bool.eq_false_iff.2 (fun h => Bool.noConfusion (e4 h).1)
        obtain rfl : b5 = false := Bool.eq_false_iff.2 (fun h => Bool.noConfusion (e5 h))
        obtain rfl : b6 = false := Bool.eq_false_iff.2 (fun h => Bool.noConfusion (e6 h))
        obtain rfl : b7 = false := Bool.eq_false_iff.2 (fun h => Bool.noConfusion (e7 h))
        obtain rfl : b8 = false := Bool.eq_false_iff.2 (fun h => Bool.noConfusion (e8 h))
        obtain rfl : b9 = false := Bool.eq_false_iff.2 (fun h => Bool.noConfusion (e9 h))
        refine wpOpIn_step rfl (fun K hK => ?_)
        clear hun hdep hi
        have k0 := (hR.cell (p := ⟨w.heap.size, 0, none⟩) hl).trans x0
        have k1 := (hR.cell (p := ⟨w.heap.size, 1, none⟩) hl).trans x1
        go_simp
        refine hK _ _ ⟨true, false, b2, b3, false, false, false, false, false, false, ⟨fun h => Bool.noConfusion h, e3, fun h => Bool.noConfusion h, fun h => Bool.noConfusion h, fun h => Bool.noConfusion h, fun h => Bool.noConfusion h, fun h => Bool.noConfusion h, fun h => Bool.noConfusion h⟩, rfl, rfl, hR⟩
      · -- 1
        simp only [List.getElem?_toArray, List.getElem?_cons_succ, List.getElem?_cons_zero, Option.some.injEq] at ho
        subst ho
        have hbi : b1 = false := by simpa using hun
        subst hbi
        have hd0 : b0 = true := by have := hdep ⟨0, .data⟩ (by simp) rfl; simpa using this
        subst hd0
        obtain rfl : b4 = false := Bool.eq_false_iff.2 (fun h => Bool.noConfusion (e4 h).1)
        obtain rfl : b5 = false := Bool.eq_false_iff.2 (fun h => Bool.noConfusion (e5 h))
        obtain rfl : b6 = false := Bool.eq_false_iff.2 (fun h => Bool.noConfusion (e6 h))
        obtain rfl : b7 = false := Bool.eq_false_iff.2 (fun h => Bool.noConfusion (e7 h))
        obtain rfl : b8 = false := Bool.eq_false_iff.2 (fun h => Bool.noConfusion (e8 h))
        obtain rfl : b9 = false := Bool.eq_false_iff.2 (fun h => Bool.noConfusion (e9 h))
        refine wpOpIn_step rfl (fun K hK => ?_)
        clear hun hdep hi
        go_simp
        refine ⟨trivial, (callsIn_wide.2 (HOM.out w' (hw1.trans (hR.mono hw1.size)))).mono ?_⟩
        rintro e w'' ⟨rfl, hb⟩
        refine hK _ _ ⟨true, true, b2, b3, false, false, false, false, false, false, ⟨fun _ => rfl, e3, fun h => Bool.noConfusion h, fun h => Bool.noConfusion h, fun h => Bool.noConfusion h, fun h => Bool.noConfusion h, fun h => Bool.noConfusion h, fun h => Bool.noConfusion h⟩, rfl, rfl, hR.trans (hb.mono hR.size)⟩
      · -- 2
        simp only [List.getElem?_toArray, List.getElem?_cons_succ, List.getElem?_cons_zero, Option.some.injEq] at ho
        subst ho
        have hbi : b2 = false := by simpa using hun
        subst hbi
        obtain rfl : b3 = false := Bool.eq_false_iff.2 (fun h => Bool.noConfusion (e3 h))
        obtain rfl : b4 = false := Bool.eq_false_iff.2 (fun h => Bool.noConfusion (e4 h).2)
        obtain rfl : b5 = false := Bool.eq_false_iff.2 (fun h => Bool.noConfusion (e5 h))
        obtain rfl : b6 = false := Bool.eq_false_iff.2 (fun h => Bool.noConfusion (e6 h))
        obtain rfl : b7 = false := Bool.eq_false_iff.2 (fun h => Bool.noConfusion (e7 h))
        obtain rfl : b8 = false := Bool.eq_false_iff.2 (fun h => Bool.noConfusion (e8 h))
        obtain rfl : b9 = false := Bool.eq_false_iff.2 (fun h => Bool.noConfusion (e9 h))
        refine wpOpIn_step rfl (fun K hK => ?_)
        clear hun hdep hi
        go_simp
        refine hK _ _ ⟨b0, b1, true, false, false, false, false, false, false, false, ⟨e1, fun h => Bool.noConfusion h, fun h => Bool.noConfusion h, fun h => Bool.noConfusion h, fun h => Bool.noConfusion h, fun h => Bool.noConfusion h, fun h => Bool.noConfusion h, fun h => Bool.noConfusion h⟩, rfl, rfl, hR⟩
      · -- 3
        simp only [List.getElem?_toArray, List.getElem?_cons_succ, List.getElem?_cons_zero, Option.some.injEq] at ho
        subst ho
        have hbi : b3 = false := by simpa using hun
        subst hbi
        have hd2 : b2 = true := by have := hdep ⟨2, .data⟩ (by simp) rfl; simpa using this
        subst hd2
        obtain rfl : b4 = false := Bool.eq_false_iff.2 (fun h => Bool.noConfusion (e4 h).2)
        obtain rfl : b5 = false := Bool.eq_false_iff.2 (fun h => Bool.noConfusion (e5 h))
        obtain rfl : b6 = false := Bool.eq_false_iff.2 (fun h => Bool.noConfusion (e6 h))
        obtain rfl : b7 = false := Bool.eq_false_iff.2 (fun h => Bool.noConfusion (e7 h))
        obtain rfl : b8 = false := Bool.eq_false_iff.2 (fun h => Bool.noConfusion (e8 h))
        obtain rfl : b9 = false := Bool.eq_false_iff.2 (fun h => Bool.noConfusion (e9 h))
        refine wpOpIn_step rfl (fun K hK => ?_)
        clear hun hdep hi
        have k0 := (hR.cell (p := ⟨w.heap.size, 0, none⟩) hl).trans x0
        go_simp
        refine hK _ _ ⟨b0, b1, true, true, false, false, false, false, false, false, ⟨e1, fun _ => rfl, fun h => Bool.noConfusion h, fun h => Bool.noConfusion h, fun h => Bool.noConfusion h, fun h => Bool.noConfusion h, fun h => Bool.noConfusion h, fun h => Bool.noConfusion h⟩, rfl, rfl, hR⟩
      · -- 4
        simp only [List.getElem?_toArray, List.getElem?_cons_succ, List.getElem?_cons_zero, Option.some.injEq] at ho
        subst ho
        have hbi : b4 = false := by simpa using hun
        subst hbi
        have hd1 : b1 = true := by have := hdep ⟨1, .data⟩ (by simp) rfl; simpa using this
        have hd3 : b3 = true := by have := hdep ⟨3, .data⟩ (by simp) rfl; simpa using this
        have hd2 : b2 = true := (e3 hd3)
        have hd0 : b0 = true := (e1 hd1)
        subst hd0 hd1 hd2 hd3
        obtain rfl : b5 = false := Bool.eq_false_iff.2 (fun h => Bool.noConfusion (e5 h))
        obtain rfl : b6 = false := Bool.eq_false_iff.2 (fun h => Bool.noConfusion (e6 h))
        obtain rfl : b7 = false := Bool.eq_false_iff.2 (fun h => Bool.noConfusion (e7 h))
        obtain rfl : b8 = false := Bool.eq_false_iff.2 (fun h => Bool.noConfusion (e8 h))
        obtain rfl : b9 = false := Bool.eq_false_iff.2 (fun h => Bool.noConfusion (e9 h))
        refine wpOpIn_step rfl (fun K hK => ?_)
        clear hun hdep hi
        go_simp
        refine ⟨trivial, (callsIn_wide.2 (HHU.out w')).mono ?_⟩
        rintro e w'' ⟨rfl, hb⟩
        refine hK _ _ ⟨true, true, true, true, true, false, false, false, false, false, ⟨fun _ => rfl, fun _ => rfl, fun _ => ⟨rfl, rfl⟩, fun h => Bool.noConfusion h, fun h => Bool.noConfusion h, fun h => Bool.noConfusion h, fun h => Bool.noConfusion h, fun h => Bool.noConfusion h⟩, rfl, rfl, hR.trans (hb.mono hR.size)⟩
      · -- 5
        simp only [List.getElem?_toArray, List.getElem?_cons_succ, List.getElem?_cons_zero, Option.some.injEq] at ho
        subst ho
        have hbi : b5 = false := by simpa using hun
        subst hbi
        have hd4 : b4 = true := by have := hdep ⟨4, .data⟩ (by simp) rfl; simpa using this
        have hd3 : b3 = true := (e4 hd4).2
        have hd2 : b2 = true := (e3 hd3)
        have hd1 : b1 = true := (e4 hd4).1
        have hd0 : b0 = true := (e1 hd1)
        subst hd0 hd1 hd2 hd3 hd4
        obtain rfl : b6 = false := Bool.eq_false_iff.2 (fun h => Bool.noConfusion (e6 h))
        obtain rfl : b7 = false := Bool.eq_false_iff.2 (fun h => Bool.noConfusion (e7 h))
        obtain rfl : b8 = false := Bool.eq_false_iff.2 (fun h => Bool.noConfusion (e8 h))
        obtain rfl : b9 = false := Bool.eq_false_iff.2 (fun h => Bool.noConfusion (e9 h))
        refine wpOpIn_step rfl (fun K hK => ?_)
        clear hun hdep hi
        go_simp
        refine hK _ _ ⟨true, true, true, true, true, true, false, false, false, false, ⟨fun _ => rfl, fun _ => rfl, fun _ => ⟨rfl, rfl⟩, fun _ => rfl, fun h => Bool.noConfusion h, fun h => Bool.noConfusion h, fun h => Bool.noConfusion h, fun h => Bool.noConfusion h⟩, rfl, rfl, hR⟩
      · -- 6
        simp only [List.getElem?_toArray, List.getElem?_cons_succ, List.getElem?_cons_zero, Option.some.injEq] at ho
        subst ho
        have hbi : b6 = false := by simpa using hun
        subst hbi
        have hd5 : b5 = true := by have := hdep ⟨5, .data⟩ (by simp) rfl; simpa using this
        have hd4 : b4 = true := (e5 hd5)
        have hd3 : b3 = true := (e4 hd4).2
        have hd2 : b2 = true := (e3 hd3)
        have hd1 : b1 = true := (e4 hd4).1
        have hd0 : b0 = true := (e1 hd1)
        subst hd0 hd1 hd2 hd3 hd4 hd5
        obtain rfl : b8 = false := Bool.eq_false_iff.2 (fun h => Bool.noConfusion (e8 h))
        refine wpOpIn_step rfl (fun K hK => ?_)
        clear hun hdep hi
        go_simp
        refine hK _ _ ⟨true, true, true, true, true, true, true, b7, false, b9, ⟨fun _ => rfl, fun _ => rfl, fun _ => ⟨rfl, rfl⟩, fun _ => rfl, fun _ => rfl, e7, fun h => Bool.noConfusion h, e9⟩, rfl, rfl, hR⟩
      · -- 7
        simp only [List.getElem?_toArray, List.getElem?_cons_succ, List.getElem?_cons_zero, Option.some.injEq] at ho
        subst ho
        have hbi : b7 = false := by simpa using hun
        subst hbi
        have hd5 : b5 = true := by have := hdep ⟨5, .data⟩ (by simp) rfl; simpa using this
        have hd4 : b4 = true := (e5 hd5)
        have hd3 : b3 = true := (e4 hd4).2
        have hd2 : b2 = true := (e3 hd3)
        have hd1 : b1 = true := (e4 hd4).1
        have hd0 : b0 = true := (e1 hd1)
        subst hd0 hd1 hd2 hd3 hd4 hd5
        obtain rfl : b9 = false := Bool.eq_false_iff.2 (fun h => Bool.noConfusion (e9 h))
        refine wpOpIn_step rfl (fun K hK => ?_)
        clear hun hdep hi
        go_simp
        refine hK _ _ ⟨true, true, true, true, true, true, b6, true, b8, false, ⟨fun _ => rfl, fun _ => rfl, fun _ => ⟨rfl, rfl⟩, fun _ => rfl, e6, fun _ => rfl, e8, fun h => Bool.noConfusion h⟩, rfl, rfl, hR⟩
      · -- 8
        simp only [List.getElem?_toArray, List.getElem?_cons_succ, List.getElem?_cons_zero, Option.some.injEq] at ho
        subst ho
        have hbi : b8 = false := by simpa using hun
        subst hbi
        have hd6 : b6 = true := by have := hdep ⟨6, .data⟩ (by simp) rfl; simpa using this
        have hd5 : b5 = true := (e6 hd6)
        have hd4 : b4 = true := (e5 hd5)
        have hd3 : b3 = true := (e4 hd4).2
        have hd2 : b2 = true := (e3 hd3)
        have hd1 : b1 = true := (e4 hd4).1
        have hd0 : b0 = true := (e1 hd1)
        subst hd0 hd1 hd2 hd3 hd4 hd5 hd6
        refine wpOpIn_step rfl (fun K hK => ?_)
        clear hun hdep hi
        go_simp
        refine hK _ _ ⟨true, true, true, true, true, true, true, b7, true, b9, ⟨fun _ => rfl, fun _ => rfl, fun _ => ⟨rfl, rfl⟩, fun _ => rfl, fun _ => rfl, e7, fun _ => rfl, e9⟩, rfl, rfl, hR⟩
      · -- 9
        simp only [List.getElem?_toArray, List.getElem?_cons_succ, List.getElem?_cons_zero, Option.some.injEq] at ho
        subst ho
        have hbi : b9 = false := by simpa using hun
        subst hbi
        have hd7 : b7 = true := by have := hdep ⟨7, .data⟩ (by simp) rfl; simpa using this
        have hd5 : b5 = true := (e7 hd7)
        have hd4 : b4 = true := (e5 hd5)
        have hd3 : b3 = true := (e4 hd4).2
        have hd2 : b2 = true := (e3 hd3)
        have hd1 : b1 = true := (e4 hd4).1
        have hd0 : b0 = true := (e1 hd1)
        subst hd0 hd1 hd2 hd3 hd4 hd5 hd7
        refine wpOpIn_step rfl (fun K hK => ?_)
        clear hun hdep hi
        go_simp
        refine hK _ _ ⟨true, true, true, true, true, true, b6, true, b8, true, ⟨fun _ => rfl, fun _ => rfl, fun _ => ⟨rfl, rfl⟩, fun _ => rfl, e6, fun _ => rfl, e8, fun _ => rfl⟩, rfl, rfl, hR⟩
set_option maxRecDepth 100000 in
set_option maxHeartbeats 4000000 in
theorem implLongestPath_any (D : Int) (q : Value) (O : List Int) (w : World) (hq : Ints w q O) :
    Calls Try.prog 42 #[.agg #[.int .i64 D, q]] w (OutCN w (lpOut D O)) := by
  have HIS := Lib.hid (fun w' h => implIsCube_any D q O w' (hq.below h))
  have hmx : Try.prog.follows .mixedOrders = true := by kernel_rfl
  cases hc : isCB D O
  · rw [hc] at HIS
    rw [lpOut_no hc]
    obtain ⟨a, cap, rfl, _⟩ := hq
    clear hc
    go_enter Try.func42, Try.ntmps42
    go_wp2_with fail
    refine (HIS.out _ (by (repeat' (first | (with_reducible exact Below.refl _ _) | (with_reducible assumption) | (with_reducible refine Below.alloc ?_ ?_ _) | (with_reducible refine Below.drew ?_) | (with_reducible refine below_drewN ?_ _) | (with_reducible refine Below.setCell ?_ ?_ _) | (with_reducible refine Below.trans ?_ (Below.mono (by with_reducible assumption) ?_)) | (with_reducible exact Below.size (by with_reducible assumption)) | go_size)))).mono ?_; rintro e w1 ⟨rfl, hb1⟩
    have hw1 : Below w.heap.size w w1 := by (repeat' (first | (with_reducible exact Below.refl _ _) | (with_reducible assumption) | (with_reducible refine Below.alloc ?_ ?_ _) | (with_reducible refine Below.drew ?_) | (with_reducible refine below_drewN ?_ _) | (with_reducible refine Below.setCell ?_ ?_ _) | (with_reducible refine Below.trans ?_ (Below.mono (by with_reducible assumption) ?_)) | (with_reducible exact Below.size (by with_reducible assumption)) | go_size))
    go_wp2_with fail
    go_ret2
    exact ⟨rfl, hw1⟩
  · rw [hc] at HIS
    obtain ⟨hd1, hd5, hl5, hl1⟩ := isCB_facts hc
    obtain ⟨n, rfl⟩ : ∃ n : Nat, D = (n : Int) := ⟨D.toNat, by omega⟩
    obtain ⟨b, off, cap, rfl, hb, hcell⟩ := Ints.at_ hq hl1
    have HHU := Lib.hid (fun w' => longestPath_any O n w' hc (by omega) (by omega))
    have HOM := Lib.hid (fun w' (h : Below w.heap.size w w') => outmapOf_any n b off O.length cap O w' ⟨rfl, hl1, hl5, by have := h.size; omega, fun k hk => (h.cell (p := ⟨b, off + k, none⟩) hb).trans (hcell k hk)⟩)
    have HO1 := Lib.hid (fun h => lpOut_ok hc h)
    have HO2 := Lib.hid (fun h => lpOut_cy hc h)
    obtain ⟨F, hF⟩ : ∃ F : Nat → Int, F = fun j => O.getD j 0 := ⟨_, rfl⟩
    rw [← hF] at HHU HOM
    generalize lpOut n O = R at *
    generalize acyB n (fO O) = A at *
    generalize lpP n (fO O) = LP at *
    clear hc hq hcell hF
    go_enter Try.func42, Try.ntmps42
    go_wp2_with fail
    refine (HIS.out _ (by (repeat' (first | (with_reducible exact Below.refl _ _) | (with_reducible assumption) | (with_reducible refine Below.alloc ?_ ?_ _) | (with_reducible refine Below.drew ?_) | (with_reducible refine below_drewN ?_ _) | (with_reducible refine Below.setCell ?_ ?_ _) | (with_reducible refine Below.trans ?_ (Below.mono (by with_reducible assumption) ?_)) | (with_reducible exact Below.size (by with_reducible assumption)) | go_size)))).mono ?_; rintro e w1 ⟨rfl, hb1⟩
    have hw1 : Below w.heap.size w w1 := by (repeat' (first | (with_reducible exact Below.refl _ _) | (with_reducible assumption) | (with_reducible refine Below.alloc ?_ ?_ _) | (with_reducible refine Below.drew ?_) | (with_reducible refine below_drewN ?_ _) | (with_reducible refine Below.setCell ?_ ?_ _) | (with_reducible refine Below.trans ?_ (Below.mono (by with_reducible assumption) ?_)) | (with_reducible exact Below.size (by with_reducible assumption)) | go_size))
    have x0 : w1.cell? ⟨w.heap.size, 0, none⟩ = some (.int .i64 n) := (hb1.cell (p := ⟨w.heap.size, 0, none⟩) (by simp)).trans (by simp)
    have x1 : w1.cell? ⟨w.heap.size, 1, none⟩ = some (.slice (some ⟨b, off, none⟩) O.length cap) := (hb1.cell (p := ⟨w.heap.size, 1, none⟩) (by simp)).trans (by simp)
    have hl : w.heap.size < w1.heap.size := by have := hb1.size; simp at this; omega
    clear hb1 HIS
    go_wp2_with fail
    rename_i K0 hK0
    refine (wpIn_wide (n := 8)).1 ?_
    refine PR.wpIn_region_inv hmx (by kernel_rfl) (fun listed ac w' =>
        ∃ (b0 b1 b2 b3 b4 b5 b6 b7 b8 b9 : Bool), ((b1 = true → b0 = true) ∧ (b3 = true → b2 = true) ∧ (b4 = true → b1 = true ∧ b3 = true) ∧ (b5 = true → b4 = true) ∧ (b6 = true → b5 = true) ∧ (b7 = true → b5 = true) ∧ (b8 = true → b6 = true) ∧ (b9 = true → b7 = true)) ∧ listed = #[b0, b1, b2, b3, b4, b5, b6, b7, b8, b9] ∧
          ac = { tmps := #[.agg #[.int .i64 n, .slice (some ⟨b, off, none⟩) O.length cap], .pointer (some ⟨w.heap.size, 0, none⟩), .int .i64 0, .int .i64 0, cond b8 (.int .i64 LP) undef, cond b9 (.bool A) undef, .agg #[.int .i64 n, .slice (some ⟨b, off, none⟩) O.length cap], .bool true, .bool false, cond b5 (.tuple #[.int .i64 LP, .bool A]) undef, cond b0 (.agg #[.int .i64 n, .slice (some ⟨b, off, none⟩) O.length cap]) undef, cond b1 (arrV F) undef, cond b2 (.pointer (some ⟨w.heap.size, 0, none⟩)) undef, cond b3 (.int .i64 n) undef, cond b4 (.tuple #[.int .i64 LP, .bool A]) undef, cond b6 (.int .i64 LP) undef, cond b7 (.bool A) undef, undef, undef, undef], defers := [] } ∧ Below w1.heap.size w1 w') ?_ ?_ ?_ ?_
    · rintro listed ac w' ⟨b0, b1, b2, b3, b4, b5, b6, b7, b8, b9, _, rfl, _⟩
      rfl
    · rintro listed ac w' ⟨b0, b1, b2, b3, b4, b5, b6, b7, b8, b9, _, rfl, rfl, hR⟩ hall
      have h0 := hall 0 (by simp)
      have h1 := hall 1 (by simp)
      have h2 := hall 2 (by simp)
      have h3 := hall 3 (by simp)
      have h4 := hall 4 (by simp)
      have h5 := hall 5 (by simp)
      have h6 := hall 6 (by simp)
      have h7 := hall 7 (by simp)
      have h8 := hall 8 (by simp)
      have h9 := hall 9 (by simp)
      simp at h0 h1 h2 h3 h4 h5 h6 h7 h8 h9
      subst h0 h1 h2 h3 h4 h5 h6 h7 h8 h9
      clear hall
      refine hK0 _ _ ?_
      simp only [cond_true]
      have HB := Lib.hid (hw1.trans (hR.mono hw1.size))
      clear hR x0 x1
      cases A
      · have HR := Lib.hid (HO2.out rfl)
        go_wp2_with fail
        go_ret2
        exact ⟨by rw [HR.out]; rfl, HB.out⟩
      · have HR := Lib.hid (HO1.out rfl)
        go_wp2_with fail
        go_ret2
        exact ⟨by rw [HR.out]; rfl, HB.out⟩
    · exact ⟨false, false, false, false, false, false, false, false, false, false, by simp, rfl, rfl, (Below.refl _ _).drew⟩
    · rintro listed ac w' i oi ⟨b0, b1, b2, b3, b4, b5, b6, b7, b8, b9, ⟨e1, e3, e4, e5, e6, e7, e8, e9⟩, rfl, rfl, hR⟩ ho hun hdep
      have hi : i < 10 := by simpa using (Array.getElem?_eq_some_iff.1 ho).1
      obtain rfl | rfl | rfl | rfl | rfl | rfl | rfl | rfl | rfl | rfl : i = 0 ∨ i = 1 ∨ i = 2 ∨ i = 3 ∨ i = 4 ∨ i = 5 ∨ i = 6 ∨ i = 7 ∨ i = 8 ∨ i = 9 := by omega
      · -- 0
        simp only [List.getElem?_toArray, List.getElem?_cons_zero, Option.some.injEq] at ho
        subst ho
        have hbi : b0 = false := by simpa using hun
        subst hbi
        obtain rfl : b1 = false := Bool.eq_false_iff.2 (fun h => Bool.noConfusion (e1 h))
        obtain rfl : b4 = false := Bool.eq_false_iff.2 (fun h => Bool.noConfusion (e4 h).1)
        obtain rfl : b5 = false := Bool.eq_false_iff.2 (fun h => Bool.noConfusion (e5 h))
        obtain rfl : b6 = false := Bool.eq_false_iff.2 (fun h => Bool.noConfusion (e6 h))
        obtain rfl : b7 = false := Bool.eq_false_iff.2 (fun h => Bool.noConfusion (e7 h))
        obtain rfl : b8 = false := Bool.eq_false_iff.2 (fun h => Bool.noConfusion (e8 h))
        obtain rfl : b9 = false := Bool.eq_false_iff.2 (fun h => Bool.noConfusion (e9 h))
        refine wpOpIn_step rfl (fun K hK => ?_)
        clear hun hdep hi
        have k0 := (hR.cell (p := ⟨w.heap.size, 0, none⟩) hl).trans x0
        have k1 := (hR.cell (p := ⟨w.heap.size, 1, none⟩) hl).trans x1
        go_simp
        refine hK _ _ ⟨true, false, b2, b3, false, false, false, false, false, false, ⟨fun h => Bool.noConfusion h, e3, fun h => Bool.noConfusion h, fun h => Bool.noConfusion h, fun h => Bool.noConfusion h, fun h => Bool.noConfusion h, fun h => Bool.noConfusion h, fun h => Bool.noConfusion h⟩, rfl, rfl, hR⟩
      · -- 1
        simp only [List.getElem?_toArray, List.getElem?_cons_succ, List.getElem?_cons_zero, Option.some.injEq] at ho
        subst ho
        have hbi : b1 = false := by simpa using hun
        subst hbi
        have hd0 : b0 = true := by have := hdep ⟨0, .data⟩ (by simp) rfl; simpa using this
        subst hd0
        obtain rfl : b4 = false := Bool.eq_false_iff.2 (fun h => Bool.noConfusion (e4 h).1)
        obtain rfl : b5 = false := Bool.eq_false_iff.2 (fun h => Bool.noConfusion (e5 h))
        obtain rfl : b6 = false := Bool.eq_false_iff.2 (fun h => Bool.noConfusion (e6 h))
        obtain rfl : b7 = false := Bool.eq_false_iff.2 (fun h => Bool.noConfusion (e7 h))
        obtain rfl : b8 = false := Bool.eq_false_iff.2 (fun h => Bool.noConfusion (e8 h))
        obtain rfl : b9 = false := Bool.eq_false_iff.2 (fun h => Bool.noConfusion (e9 h))
        refine wpOpIn_step rfl (fun K hK => ?_)
        clear hun hdep hi
        go_simp
        refine ⟨trivial, (callsIn_wide.2 (HOM.out w' (hw1.trans (hR.mono hw1.size)))).mono ?_⟩
        rintro e w'' ⟨rfl, hb⟩
        refine hK _ _ ⟨true, true, b2, b3, false, false, false, false, false, false, ⟨fun _ => rfl, e3, fun h => Bool.noConfusion h, fun h => Bool.noConfusion h, fun h => Bool.noConfusion h, fun h => Bool.noConfusion h, fun h => Bool.noConfusion h, fun h => Bool.noConfusion h⟩, rfl, rfl, hR.trans (hb.mono hR.size)⟩
      · -- 2
        simp only [List.getElem?_toArray, List.getElem?_cons_succ, List.getElem?_cons_zero, Option.some.injEq] at ho
        subst ho
        have hbi : b2 = false := by simpa using hun
        subst hbi
        obtain rfl : b3 = false := Bool.eq_false_iff.2 (fun h => Bool.noConfusion (e3 h))
        obtain rfl : b4 = false := Bool.eq_false_iff.2 (fun h => Bool.noConfusion (e4 h).2)
        obtain rfl : b5 = false := Bool.eq_false_iff.2 (fun h => Bool.noConfusion (e5 h))
        obtain rfl : b6 = false := Bool.eq_false_iff.2 (fun h => Bool.noConfusion (e6 h))
        obtain rfl : b7 = false := Bool.eq_false_iff.2 (fun h => Bool.noConfusion (e7 h))
        obtain rfl : b8 = false := Bool.eq_false_iff.2 (fun h => Bool.noConfusion (e8 h))
        obtain rfl : b9 = false := Bool.eq_false_iff.2 (fun h => Bool.noConfusion (e9 h))
        refine wpOpIn_step rfl (fun K hK => ?_)
        clear hun hdep hi
        go_simp
        refine hK _ _ ⟨b0, b1, true, false, false, false, false, false, false, false, ⟨e1, fun h => Bool.noConfusion h, fun h => Bool.noConfusion h, fun h => Bool.noConfusion h, fun h => Bool.noConfusion h, fun h => Bool.noConfusion h, fun h => Bool.noConfusion h, fun h => Bool.noConfusion h⟩, rfl, rfl, hR⟩
      · -- 3
        simp only [List.getElem?_toArray, List.getElem?_cons_succ, List.getElem?_cons_zero, Option.some.injEq] at ho
        subst ho
        have hbi : b3 = false := by simpa using hun
        subst hbi
        have hd2 : b2 = true := by have := hdep ⟨2, .data⟩ (by simp) rfl; simpa using this
        subst hd2
        obtain rfl : b4 = false := Bool.eq_false_iff.2 (fun h => Bool.noConfusion (e4 h).2)
        obtain rfl : b5 = false := Bool.eq_false_iff.2 (fun h => Bool.noConfusion (e5 h))
        obtain rfl : b6 = false := Bool.eq_false_iff.2 (fun h => Bool.noConfusion (e6 h))
        obtain rfl : b7 = false := Bool.eq_false_iff.2 (fun h => Bool.noConfusion (e7 h))
        obtain rfl : b8 = false := Bool.eq_false_iff.2 (fun h => Bool.noConfusion (e8 h))
        obtain rfl : b9 = false := Bool.eq_false_iff.2 (fun h => Bool.noConfusion (e9 h))
        refine wpOpIn_step rfl (fun K hK => ?_)
        clear hun hdep hi
        have k0 := (hR.cell (p := ⟨w.heap.size, 0, none⟩) hl).trans x0
        go_simp
        refine hK _ _ ⟨b0, b1, true, true, false, false, false, false, false, false, ⟨e1, fun _ => rfl, fun h => Bool.noConfusion h, fun h => Bool.noConfusion h, fun h => Bool.noConfusion h, fun h => Bool.noConfusion h, fun h => Bool.noConfusion h, fun h => Bool.noConfusion h⟩, rfl, rfl, hR⟩
      · -- 4
        simp only [List.getElem?_toArray, List.getElem?_cons_succ, List.getElem?_cons_zero, Option.some.injEq] at ho
        subst ho
        have hbi : b4 = false := by simpa using hun
        subst hbi
        have hd1 : b1 = true := by have := hdep ⟨1, .data⟩ (by simp) rfl; simpa using this
        have hd3 : b3 = true := by have := hdep ⟨3, .data⟩ (by simp) rfl; simpa using this
        have hd2 : b2 = true := (e3 hd3)
        have hd0 : b0 = true := (e1 hd1)
        subst hd0 hd1 hd2 hd3
        obtain rfl : b5 = false := Bool.eq_false_iff.2 (fun h => Bool.noConfusion (e5 h))
        obtain rfl : b6 = false := Bool.eq_false_iff.2 (fun h => Bool.noConfusion (e6 h))
        obtain rfl : b7 = false := Bool.eq_false_iff.2 (fun h => Bool.noConfusion (e7 h))
        obtain rfl : b8 = false := Bool.eq_false_iff.2 (fun h => Bool.noConfusion (e8 h))
        obtain rfl : b9 = false := Bool.eq_false_iff.2 (fun h => Bool.noConfusion (e9 h))
        refine wpOpIn_step rfl (fun K hK => ?_)
        clear hun hdep hi
        go_simp
        refine ⟨trivial, (callsIn_wide.2 (HHU.out w')).mono ?_⟩
        rintro e w'' ⟨rfl, hb⟩
        refine hK _ _ ⟨true, true, true, true, true, false, false, false, false, false, ⟨fun _ => rfl, fun _ => rfl, fun _ => ⟨rfl, rfl⟩, fun h => Bool.noConfusion h, fun h => Bool.noConfusion h, fun h => Bool.noConfusion h, fun h => Bool.noConfusion h, fun h => Bool.noConfusion h⟩, rfl, rfl, hR.trans (hb.mono hR.size)⟩
      · -- 5
        simp only [List.getElem?_toArray, List.getElem?_cons_succ, List.getElem?_cons_zero, Option.some.injEq] at ho
        subst ho
        have hbi : b5 = false := by simpa using hun
        subst hbi
        have hd4 : b4 = true := by have := hdep ⟨4, .data⟩ (by simp) rfl; simpa using this
        have hd3 : b3 = true := (e4 hd4).2
        have hd2 : b2 = true := (e3 hd3)
        have hd1 : b1 = true := (e4 hd4).1
        have hd0 : b0 = true := (e1 hd1)
        subst hd0 hd1 hd2 hd3 hd4
        obtain rfl : b6 = false := Bool.eq_false_iff.2 (fun h => Bool.noConfusion (e6 h))
        obtain rfl : b7 = false := Bool.eq_false_iff.2 (fun h => Bool.noConfusion (e7 h))
        obtain rfl : b8 = false := Bool.eq_false_iff.2 (fun h => Bool.noConfusion (e8 h))
        obtain rfl : b9 = false := Bool.eq_false_iff.2 (fun h => Bool.noConfusion (e9 h))
        refine wpOpIn_step rfl (fun K hK => ?_)
        clear hun hdep hi
        go_simp
        refine hK _ _ ⟨true, true, true, true, true, true, false, false, false, false, ⟨fun _ => rfl, fun _ => rfl, fun _ => ⟨rfl, rfl⟩, fun _ => rfl, fun h => Bool.noConfusion h, fun h => Bool.noConfusion h, fun h => Bool.noConfusion h, fun h => Bool.noConfusion h⟩, rfl, rfl, hR⟩
      · -- 6
        simp only [List.getElem?_toArray, List.getElem?_cons_succ, List.getElem?_cons_zero, Option.some.injEq] at ho
        subst ho
        have hbi : b6 = false := by simpa using hun
        subst hbi
        have hd5 : b5 = true := by have := hdep ⟨5, .data⟩ (by simp) rfl; simpa using this
        have hd4 : b4 = true := (e5 hd5)
        have hd3 : b3 = true := (e4 hd4).2
        have hd2 : b2 = true := (e3 hd3)
        have hd1 : b1 = true := (e4 hd4).1
        have hd0 : b0 = true := (e1 hd1)
        subst hd0 hd1 hd2 hd3 hd4 hd5
        obtain rfl : b8 = false := Bool.eq_false_iff.2 (fun h => Bool.noConfusion (e8 h))
        refine wpOpIn_step rfl (fun K hK => ?_)
        clear hun hdep hi
        go_simp
        refine hK _ _ ⟨true, true, true, true, true, true, true, b7, false, b9, ⟨fun _ => rfl, fun _ => rfl, fun _ => ⟨rfl, rfl⟩, fun _ => rfl, fun _ => rfl, e7, fun h => Bool.noConfusion h, e9⟩, rfl, rfl, hR⟩
      · -- 7
        simp only [List.getElem?_toArray, List.getElem?_cons_succ, List.getElem?_cons_zero, Option.some.injEq] at ho
        subst ho
        have hbi : b7 = false := by simpa using hun
        subst hbi
        have hd5 : b5 = true := by have := hdep ⟨5, .data⟩ (by simp) rfl; simpa using this
        have hd4 : b4 = true := (e5 hd5)
        have hd3 : b3 = true := (e4 hd4).2
        have hd2 : b2 = true := (e3 hd3)
        have hd1 : b1 = true := (e4 hd4).1
        have hd0 : b0 = true := (e1 hd1)
        subst hd0 hd1 hd2 hd3 hd4 hd5
        obtain rfl : b9 = false := Bool.eq_false_iff.2 (fun h => Bool.noConfusion (e9 h))
        refine wpOpIn_step rfl (fun K hK => ?_)
        clear hun hdep hi
        go_simp
        refine hK _ _ ⟨true, true, true, true, true, true, b6, true, b8, false, ⟨fun _ => rfl, fun _ => rfl, fun _ => ⟨rfl, rfl⟩, fun _ => rfl, e6, fun _ => rfl, e8, fun h => Bool.noConfusion h⟩, rfl, rfl, hR⟩
      · -- 8
        simp only [List.getElem?_toArray, List.getElem?_cons_succ, List.getElem?_cons_zero, Option.some.injEq] at ho
        subst ho
        have hbi : b8 = false := by simpa using hun
        subst hbi
        have hd6 : b6 = true := by have := hdep ⟨6, .data⟩ (by simp) rfl; simpa using this
        have hd5 : b5 = true := (e6 hd6)
        have hd4 : b4 = true := (e5 hd5)
        have hd3 : b3 = true := (e4 hd4).2
        have hd2 : b2 = true := (e3 hd3)
        have hd1 : b1 = true := (e4 hd4).1
        have hd0 : b0 = true := (e1 hd1)
        subst hd0 hd1 hd2 hd3 hd4 hd5 hd6
        refine wpOpIn_step rfl (fun K hK => ?_)
        clear hun hdep hi
        go_simp
        refine hK _ _ ⟨true, true, true, true, true, true, true, b7, true, b9, ⟨fun _ => rfl, fun _ => rfl, fun _ => ⟨rfl, rfl⟩, fun _ => rfl, fun _ => rfl, e7, fun _ => rfl, e9⟩, rfl, rfl, hR⟩
      · -- 9
        simp only [List.getElem?_toArray, List.getElem?_cons_succ, List.getElem?_cons_zero, Option.some.injEq] at ho
        subst ho
        have hbi : b9 = false := by simpa using hun
        subst hbi
        have hd7 : b7 = true := by have := hdep ⟨7, .data⟩ (by simp) rfl; simpa using this
        have hd5 : b5 = true := (e7 hd7)
        have hd4 : b4 = true := (e5 hd5)
        have hd3 : b3 = true := (e4 hd4).2
        have hd2 : b2 = true := (e3 hd3)
        have hd1 : b1 = true := (e4 hd4).1
        have hd0 : b0 = true := (e1 hd1)
        subst hd0 hd1 hd2 hd3 hd4 hd5 hd7
        refine wpOpIn_step rfl (fun K hK => ?_)
        clear hun hdep hi
        go_simp
        refine hK _ _ ⟨true, true, true, true, true, true, b6, true, b8, true, ⟨fun _ => rfl, fun _ => rfl, fun _ => ⟨rfl, rfl⟩, fun _ => rfl, e6, fun _ => rfl, e8, fun _ => rfl⟩, rfl, rfl, hR⟩
end Go.Proofs.Ytlccdnpicfmeaaa.PW
