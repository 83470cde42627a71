/-
  Walks: orientations without cycles and longest walks, in the model.
-/
import Derived.Test.YtlccdnpicfmeaaaCHei
namespace Go.Proofs.Ytlccdnpicfmeaaa.PW
open Go.RowKit Go.Proofs.Ytlccdnpicfmeaaa Go.Proofs.Ytlccdnpicfmeaaa.SW
open Go.Proofs.Ytlccdnpicfmeaaa.PM

set_option maxRecDepth 100000 in
set_option maxHeartbeats 4000000 in
theorem specIsAcyclicCube_any (D : Int) (q : Value) (O : List Int) (w : World) (hq : Ints w q O) :
    Calls Try.prog 39 #[.agg #[.int .i64 D, q]] w (OutCB w (apOut D O)) := by
  have HIS := Lib.hid (fun w' h => l06Is_any D q O w' (hq.below h))
  cases hc : isCB D O
  · rw [hc] at HIS
    rw [apOut_no hc]
    obtain ⟨a, cap, rfl, _⟩ := hq
    clear hc
    go_enter Try.func39, Try.ntmps39
    go_wp2_with fail
    refine (HIS.out _ (by (repeat' (first | (with_reducible exact Below.refl _ _) | (with_reducible assumption) | (with_reducible refine Below.alloc ?_ ?_ _) | (with_reducible refine Below.drew ?_) | (with_reducible refine below_drewN ?_ _) | (with_reducible refine Below.setCell ?_ ?_ _) | (with_reducible refine Below.trans ?_ (Below.mono (by with_reducible assumption) ?_)) | (with_reducible exact Below.size (by with_reducible assumption)) | go_size)))).mono ?_; rintro e w1 ⟨rfl, hb1⟩
    have hw1 : Below w.heap.size w w1 := by (repeat' (first | (with_reducible exact Below.refl _ _) | (with_reducible assumption) | (with_reducible refine Below.alloc ?_ ?_ _) | (with_reducible refine Below.drew ?_) | (with_reducible refine below_drewN ?_ _) | (with_reducible refine Below.setCell ?_ ?_ _) | (with_reducible refine Below.trans ?_ (Below.mono (by with_reducible assumption) ?_)) | (with_reducible exact Below.size (by with_reducible assumption)) | go_size))
    go_wp2_with fail
    go_ret2
    exact ⟨rfl, hw1⟩
  · rw [hc] at HIS
    obtain ⟨hd1, hd5, hl5, hl1⟩ := isCB_facts hc
    obtain ⟨n, rfl⟩ : ∃ n : Nat, D = (n : Int) := ⟨D.toNat, by omega⟩
    rw [apOut_ok hc]
    obtain ⟨b, off, cap, rfl, hb, hcell⟩ := Ints.at_ hq hl1
    have HHT := Lib.hid (fun w' (h : Below w.heap.size w w') => l06Heights_any O n b off cap w' hc (by omega) (by omega) (by have := h.size; omega) (fun k hk => (h.cell (p := ⟨b, off + k, none⟩) hb).trans (hcell k hk)))
    generalize acyB n (fO O) = A at *
    clear hc hq hcell
    go_enter Try.func39, Try.ntmps39
    go_wp2_with fail
    refine (HIS.out _ (by (repeat' (first | (with_reducible exact Below.refl _ _) | (with_reducible assumption) | (with_reducible refine Below.alloc ?_ ?_ _) | (with_reducible refine Below.drew ?_) | (with_reducible refine below_drewN ?_ _) | (with_reducible refine Below.setCell ?_ ?_ _) | (with_reducible refine Below.trans ?_ (Below.mono (by with_reducible assumption) ?_)) | (with_reducible exact Below.size (by with_reducible assumption)) | go_size)))).mono ?_; rintro e w1 ⟨rfl, hb1⟩
    have hw1 : Below w.heap.size w w1 := by (repeat' (first | (with_reducible exact Below.refl _ _) | (with_reducible assumption) | (with_reducible refine Below.alloc ?_ ?_ _) | (with_reducible refine Below.drew ?_) | (with_reducible refine below_drewN ?_ _) | (with_reducible refine Below.setCell ?_ ?_ _) | (with_reducible refine Below.trans ?_ (Below.mono (by with_reducible assumption) ?_)) | (with_reducible exact Below.size (by with_reducible assumption)) | go_size))
    have x0 : w1.cell? ⟨w.heap.size, 0, none⟩ = some (.int .i64 n) := (hb1.cell (p := ⟨w.heap.size, 0, none⟩) (by simp)).trans (by simp)
    have x1 : w1.cell? ⟨w.heap.size, 1, none⟩ = some (.slice (some ⟨b, off, none⟩) O.length cap) := (hb1.cell (p := ⟨w.heap.size, 1, none⟩) (by simp)).trans (by simp)
    clear hb1 HIS
    go_wp2_with fail
    refine (HHT.out _ hw1).mono ?_; rintro e w2 ⟨go, h, rfl, _, _, _, _, hb2⟩
    have HB := Lib.hid (hw1.trans (hb2.mono hw1.size))
    clear hb2
    go_wp2_with fail
    go_ret2
    exact ⟨rfl, HB.out⟩
set_option maxRecDepth 100000 in
set_option maxHeartbeats 4000000 in
theorem specLongestPath_any (D : Int) (q : Value) (O : List Int) (w : World) (hq : Ints w q O) :
    Calls Try.prog 41 #[.agg #[.int .i64 D, q]] w (OutCN w (lpOut D O)) := by
  have HIS := Lib.hid (fun w' h => l06Is_any D q O w' (hq.below h))
  cases hc : isCB D O
  · rw [hc] at HIS
    rw [lpOut_no hc]
    obtain ⟨a, cap, rfl, _⟩ := hq
    clear hc
    go_enter Try.func41, Try.ntmps41
    go_wp2_with fail
    refine (HIS.out _ (by (repeat' (first | (with_reducible exact Below.refl _ _) | (with_reducible assumption) | (with_reducible refine Below.alloc ?_ ?_ _) | (with_reducible refine Below.drew ?_) | (with_reducible refine below_drewN ?_ _) | (with_reducible refine Below.setCell ?_ ?_ _) | (with_reducible refine Below.trans ?_ (Below.mono (by with_reducible assumption) ?_)) | (with_reducible exact Below.size (by with_reducible assumption)) | go_size)))).mono ?_; rintro e w1 ⟨rfl, hb1⟩
    have hw1 : Below w.heap.size w w1 := by (repeat' (first | (with_reducible exact Below.refl _ _) | (with_reducible assumption) | (with_reducible refine Below.alloc ?_ ?_ _) | (with_reducible refine Below.drew ?_) | (with_reducible refine below_drewN ?_ _) | (with_reducible refine Below.setCell ?_ ?_ _) | (with_reducible refine Below.trans ?_ (Below.mono (by with_reducible assumption) ?_)) | (with_reducible exact Below.size (by with_reducible assumption)) | go_size))
    go_wp2_with fail
    go_ret2
    exact ⟨rfl, hw1⟩
  · rw [hc] at HIS
    obtain ⟨hd1, hd5, hl5, hl1⟩ := isCB_facts hc
    obtain ⟨n, rfl⟩ : ∃ n : Nat, D = (n : Int) := ⟨D.toNat, by omega⟩
    obtain ⟨b, off, cap, rfl, hb, hcell⟩ := Ints.at_ hq hl1
    have HHT := Lib.hid (fun w' (h : Below w.heap.size w w') => l06Heights_any O n b off cap w' hc (by omega) (by omega) (by have := h.size; omega) (fun k hk => (h.cell (p := ⟨b, off + k, none⟩) hb).trans (hcell k hk)))
    have HO1 := Lib.hid (fun h => (lpOut_ok hc h).trans (show (lpP n (fO O), (0 : Int)) = ((lpN n (fO O) : Int), 0) by unfold lpP; rw [if_pos h]))
    have HO2 := Lib.hid (fun h => lpOut_cy hc h)
    generalize lpOut n O = R at *
    generalize acyB n (fO O) = A at *
    generalize lpN n (fO O) = LN at *
    obtain ⟨T, hT⟩ : ∃ T, O.length = T := ⟨_, rfl⟩
    rw [hT] at HHT HIS hl5 ⊢
    clear hc hq hcell hl1 hT
    go_enter Try.func41, Try.ntmps41
    go_wp2_with fail
    refine (HIS.out _ (by (repeat' (first | (with_reducible exact Below.refl _ _) | (with_reducible assumption) | (with_reducible refine Below.alloc ?_ ?_ _) | (with_reducible refine Below.drew ?_) | (with_reducible refine below_drewN ?_ _) | (with_reducible refine Below.setCell ?_ ?_ _) | (with_reducible refine Below.trans ?_ (Below.mono (by with_reducible assumption) ?_)) | (with_reducible exact Below.size (by with_reducible assumption)) | go_size)))).mono ?_; rintro e w1 ⟨rfl, hb1⟩
    have hw1 : Below w.heap.size w w1 := by (repeat' (first | (with_reducible exact Below.refl _ _) | (with_reducible assumption) | (with_reducible refine Below.alloc ?_ ?_ _) | (with_reducible refine Below.drew ?_) | (with_reducible refine below_drewN ?_ _) | (with_reducible refine Below.setCell ?_ ?_ _) | (with_reducible refine Below.trans ?_ (Below.mono (by with_reducible assumption) ?_)) | (with_reducible exact Below.size (by with_reducible assumption)) | go_size))
    have x0 : w1.cell? ⟨w.heap.size, 0, none⟩ = some (.int .i64 n) := (hb1.cell (p := ⟨w.heap.size, 0, none⟩) (by simp)).trans (by simp)
    have x1 : w1.cell? ⟨w.heap.size, 1, none⟩ = some (.slice (some ⟨b, off, none⟩) T cap) := (hb1.cell (p := ⟨w.heap.size, 1, none⟩) (by simp)).trans (by simp)
    clear hb1 HIS
    go_wp2_with fail
    refine (HHT.out _ hw1).mono ?_; rintro e w2 ⟨go, h, rfl, hcl, hgz, hbd, hlp, hb2⟩
    have HB := Lib.hid (hw1.trans (hb2.mono hw1.size))
    have HCL := Lib.hid hcl
    have HBD := Lib.hid hbd
    have HLP := Lib.hid hlp
    clear hb2 hcl hbd hlp
    cases A
    · have HR := Lib.hid (HO2.out rfl)
      go_wp2_with fail
      go_ret2
      exact ⟨by rw [HR.out]; rfl, HB.out⟩
    · have HR := Lib.hid (HO1.out rfl)
      have HLE := Lib.hid (HLP.out rfl)
      go_wp2_with fail
      go_loopw [6, 7] (fun m i wr => ∃ k : Nat, k ≤ T ∧ i = .int .i64 k ∧ m = .int .i64 (SW.hgt h k : Nat) ∧ wr = w2) (fun _ i _ => T - (intOf i).toNat)
      case atStart => exact ⟨0, Nat.zero_le _, by go_num, rfl, rfl⟩
      case round =>
        obtain ⟨k, hk, rfl, rfl, hww⟩ := hrel
        have hww' := hww.symm
        clear hww
        subst hww'
        by_cases hlt : k < T
        · have t1 := HCL.out k hlt
          have hst : Hid (SW.hgt h (k + 1) = max (SW.hgt h k) (h k)) := rfl
          generalize SW.hgt h k = s at *
          generalize h k = q at *
          by_cases hgt : (s : Int) > (q : Int)
          · have hh2 : Hid (max s q = s) := by show _ = _; omega
            go_wp2_with fail
            go_roundw
            case rel => exact ⟨k + 1, by omega, by go_num, by rw [hst.out, hh2.out], trivial⟩
            case measure => simp [intOf]; omega
          · have hh2 : Hid (max s q = q) := by show _ = _; omega
            go_wp2_with fail
            go_roundw
            case rel => exact ⟨k + 1, by omega, by go_num, by
                        rw [hst.out, hh2.out]
                        split
                        · rfl
                        · rw [show s = q by omega], trivial⟩
            case measure => simp [intOf]; omega
        · obtain rfl : k = T := by omega
          rw [← HLE.out]
          go_wp2_with fail
          go_ret2
          exact ⟨by rw [HR.out]; rfl, HB.out⟩
end Go.Proofs.Ytlccdnpicfmeaaa.PW
