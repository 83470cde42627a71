/-
  Walks: the code of a problem with fractions, and the remainder in whole numbers, on both sides.
-/
import Derived.Test.YtgncaploccbfnaaVNum
import Derived.Test.YtgncaploccbfnaaPAnsR
import Derived.BigQuiet
namespace Go.Proofs.Ytgncaploccbfnaa.PW
open Go.RowKit Go.Proofs.Ytgncaploccbfnaa
open Go.Proofs.Ytgncaploccbfnaa.PM

def frsB (Z : List (Int × Int)) : Bool := Z.all fun x => FM.isF x.1 x.2
def fcCode (M : List (List Int)) (Q : List Int) (Z : List (Int × Int)) : Int := if isPB M Q = true then (if frsB Z = true then (if Z.length = M.length then 0 else 2) else 1) else 1
theorem frsB_iff (Z : List (Int × Int)) : frsB Z = true ↔ ∀ i, i < Z.length → FM.isF (Z.getD i (0, 0)).1 (Z.getD i (0, 0)).2 = true := by
  unfold frsB
  rw [List.all_eq_true]
  constructor
  · intro h i hi; exact h _ (getD_mem2 hi)
  · intro h x hx
    obtain ⟨j, hj, rfl⟩ := List.mem_iff_getElem.1 hx
    have := h j hj
    rwa [show Z.getD j (0, 0) = Z[j] by simp [hj]] at this
theorem frsB_fracs {Z : List (Int × Int)} (h : frsB Z = true) : fracs Z := fun x hx => List.all_eq_true.1 h x hx
theorem fc_cases (M : List (List Int)) (Q : List Int) (Z : List (Int × Int)) : (fcCode M Q Z = 1 ∨ fcCode M Q Z = 2) ∨ (fcCode M Q Z = 0 ∧ isPB M Q = true ∧ frsB Z = true ∧ Z.length = M.length) := by
  unfold fcCode
  split
  · split
    · split
      · exact .inr ⟨rfl, by assumption, by assumption, by assumption⟩
      · exact .inl (.inr rfl)
    · exact .inl (.inl rfl)
  · exact .inl (.inl rfl)
theorem frs_shape {w : World} {v : Value} {Z : List (Int × Int)} (h : Frs w v Z) : ∃ a c, v = .slice a Z.length c ∧ Z.length ≤ 9223372036854775807 ∧ ∀ i, i < Z.length → ∃ b off, a = some ⟨b, off, none⟩ ∧ ∀ wr, Below w.heap.size w wr → wr.cell? ⟨b, off + i * 2, none⟩ = some (.int .i64 (Z.getD i (0, 0)).1) ∧ wr.cell? ⟨b, off + i * 2 + 1, none⟩ = some (.int .i64 (Z.getD i (0, 0)).2) := by
  obtain ⟨a, c, rfl, h1, h2, h4, hx⟩ := h
  refine ⟨a, c, rfl, maxLen_le (Nat.le_trans h1 h2), fun i hi => ?_⟩
  rcases hx with hx | ⟨b, off, rfl, hb, hc⟩
  · rw [hx] at hi; simp at hi
  · exact ⟨b, off, rfl, fun wr hw => ⟨(hw.cell (p := ⟨b, off + i * 2, none⟩) hb).trans (hc i hi).1, (hw.cell (p := ⟨b, off + i * 2 + 1, none⟩) hb).trans (hc i hi).2⟩⟩

set_option maxRecDepth 100000 in
set_option maxHeartbeats 2000000 in
theorem areFracs_any (z : Value) (Z : List (Int × Int)) (w : World) (h3 : Frs w z Z) :
    Calls Try.prog 102 #[z] w fun e w' => e = .returned (.bool (frsB Z)) ∧ Below w.heap.size w w' := by
  have HFI := Lib.hid (frsB_iff Z)
  generalize frsB Z = CODE at *
  obtain ⟨a3, c3, rfl, hzl, hcell⟩ := frs_shape h3
  have HC := Lib.hid hcell
  clear h3 hcell
  go_enter Try.func102, Try.ntmps102
  go_wp2_with fail
  go_loopw [4, 7] (fun _ i wr => ∃ k : Nat, k ≤ Z.length ∧ i = .int .i64 k ∧ Hid (∀ i, i < k → FM.isF (Z.getD i (0, 0)).1 (Z.getD i (0, 0)).2 = true) ∧ Below w.heap.size w wr) (fun _ i _ => Z.length - (intOf i).toNat)
  case atStart => exact ⟨0, Nat.zero_le _, rfl, fun i hi => absurd hi (Nat.not_lt_zero _), Below.refl _ _⟩
  case round =>
    obtain ⟨k, hk, rfl, hgood, hB⟩ := hrel
    have hzr := hB.size
    by_cases hlt : k < Z.length
    · obtain ⟨b, off, rfl, hc⟩ := HC.out k hlt
      obtain ⟨t0, t1⟩ := hc wr hB
      have hbad : Hid (FM.isF (Z.getD k (0, 0)).1 (Z.getD k (0, 0)).2 = false → CODE = false) := fun h => by
        show CODE = false
        rw [Bool.eq_false_iff]
        intro c
        have := HFI.out.1 c k hlt
        rw [h] at this
        cases this
      have hnx : Hid (FM.isF (Z.getD k (0, 0)).1 (Z.getD k (0, 0)).2 = true → ∀ i, i < k + 1 → FM.isF (Z.getD i (0, 0)).1 (Z.getD i (0, 0)).2 = true) := fun h i hi => by
        by_cases e : i = k
        · subst e; exact h
        · exact hgood.out i (by omega)
      generalize (Z.getD k (0, 0)).1 = x at *
      generalize (Z.getD k (0, 0)).2 = y at *
      have HBd := Lib.hid (hB.alloc hzr (.cells #[.int .i64 x, .int .i64 y] 98))
      clear hB hc
      cases hf : FM.isF x y
      · have HO := Lib.hid (hbad.out hf)
        have HF := Lib.hid hf
        clear hf hbad hnx
        go_wp2_with fail
        refine (FW.implIsFrac_is _ _ _ _ HF.out).mono ?_; rintro e w2 ⟨rfl, hb2⟩
        have HB2 := Lib.hid (HBd.out.trans (hb2.mono (by simp; omega)))
        clear hb2
        go_wp2_with fail
        go_ret
        exact ⟨by rw [HO.out]; rfl, HB2.out⟩
      · have HX := Lib.hid (hnx.out hf)
        have HF := Lib.hid hf
        clear hf hbad hnx
        go_wp2_with fail
        refine (FW.implIsFrac_is _ _ _ _ HF.out).mono ?_; rintro e w2 ⟨rfl, hb2⟩
        have HB2 := Lib.hid (HBd.out.trans (hb2.mono (by simp; omega)))
        clear hb2
        go_wp2_with fail
        go_roundw
        case rel => exact ⟨k + 1, by omega, by go_num, HX, HB2.out⟩
        case measure => simp [intOf]; omega
    · obtain rfl : k = Z.length := by omega
      have HO : Hid (CODE = true) := HFI.out.2 hgood.out
      have HB := Lib.hid hB
      clear hB hgood
      go_wp2_with fail
      go_ret
      exact ⟨by rw [HO.out]; rfl, HB.out⟩

set_option maxRecDepth 100000 in
set_option maxHeartbeats 2000000 in
theorem checkFracs_any (m q z : Value) (M : List (List Int)) (Q : List Int) (Z : List (Int × Int)) (w : World) (h1 : PM.Rows w m M) (h2 : Ints w q Q) (h3 : Frs w z Z) :
    Calls Try.prog 85 #[.agg #[m, q], z] w fun e w' => e = .returned (.int .i64 (fcCode M Q Z)) ∧ Below w.heap.size w w' := by
  have HIS := Lib.hid (fun (w' : World) (h : Below w.heap.size w w') => implIsProblem_any m q M Q w' (h1.below h) (h2.below h))
  have HAF := Lib.hid (fun (w' : World) (h : Below w.heap.size w w') => areFracs_any z Z w' (h3.below h))
  cases hp : isPB M Q
  · rw [hp] at HIS
    rw [show fcCode M Q Z = 1 by unfold fcCode; rw [if_neg (by simp [hp])]]
    obtain ⟨a1, c1, rfl, _⟩ := h1
    obtain ⟨a2, c2, rfl, _⟩ := h2
    clear hp h3
    go_enter Try.func85, Try.ntmps85
    go_wp2_with fail
    refine (HIS.out _ (by (repeat' (first | (with_reducible exact Below.refl _ _) | (with_reducible assumption) | (with_reducible refine Below.alloc ?_ ?_ _) | (with_reducible refine Below.drew ?_) | (with_reducible refine below_drewN ?_ _) | (with_reducible refine Below.setCell ?_ ?_ _) | (with_reducible refine Below.trans ?_ (Below.mono (by with_reducible assumption) ?_)) | (with_reducible exact Below.size (by with_reducible assumption)) | go_size)))).mono ?_; rintro e w1 ⟨rfl, hb1⟩
    have hw1 : Below w.heap.size w w1 := by (repeat' (first | (with_reducible exact Below.refl _ _) | (with_reducible assumption) | (with_reducible refine Below.alloc ?_ ?_ _) | (with_reducible refine Below.drew ?_) | (with_reducible refine below_drewN ?_ _) | (with_reducible refine Below.setCell ?_ ?_ _) | (with_reducible refine Below.trans ?_ (Below.mono (by with_reducible assumption) ?_)) | (with_reducible exact Below.size (by with_reducible assumption)) | go_size))
    go_wp2_with fail
    go_ret
    exact ⟨rfl, hw1⟩
  rw [hp] at HIS
  have hcode : fcCode M Q Z = if frsB Z = true then (if Z.length = M.length then 0 else 2) else 1 := by unfold fcCode; rw [if_pos hp]
  rw [hcode]
  have hml := (isPB_facts hp).2.1
  obtain ⟨a1, c1, rfl, _⟩ := h1
  obtain ⟨a2, c2, rfl, _⟩ := h2
  obtain ⟨a3, c3, rfl, hzl, _⟩ := frs_shape h3
  clear hcode hp h3
  cases hf : frsB Z
  · rw [hf] at HAF
    rw [if_neg (by simp)]
    clear hf
    go_enter Try.func85, Try.ntmps85
    go_wp2_with fail
    refine (HIS.out _ (by (repeat' (first | (with_reducible exact Below.refl _ _) | (with_reducible assumption) | (with_reducible refine Below.alloc ?_ ?_ _) | (with_reducible refine Below.drew ?_) | (with_reducible refine below_drewN ?_ _) | (with_reducible refine Below.setCell ?_ ?_ _) | (with_reducible refine Below.trans ?_ (Below.mono (by with_reducible assumption) ?_)) | (with_reducible exact Below.size (by with_reducible assumption)) | go_size)))).mono ?_; rintro e w1 ⟨rfl, hb1⟩
    have hw1 : Below w.heap.size w w1 := by (repeat' (first | (with_reducible exact Below.refl _ _) | (with_reducible assumption) | (with_reducible refine Below.alloc ?_ ?_ _) | (with_reducible refine Below.drew ?_) | (with_reducible refine below_drewN ?_ _) | (with_reducible refine Below.setCell ?_ ?_ _) | (with_reducible refine Below.trans ?_ (Below.mono (by with_reducible assumption) ?_)) | (with_reducible exact Below.size (by with_reducible assumption)) | go_size))
    go_wp2_with fail
    refine (HAF.out _ hw1).mono ?_; rintro e w2 ⟨rfl, hb2⟩
    have hw2 : Below w.heap.size w w2 := hw1.trans (hb2.mono hw1.size)
    go_wp2_with fail
    go_ret
    exact ⟨rfl, hw2⟩
  rw [hf] at HAF
  rw [if_pos rfl]
  have HC2 := Lib.hid (show Z.length ≠ M.length → (if Z.length = M.length then (0 : Int) else 2) = 2 from fun h => if_neg h)
  have HC3 := Lib.hid (show Z.length = M.length → (if Z.length = M.length then (0 : Int) else 2) = 0 from fun h => if_pos h)
  generalize (if Z.length = M.length then (0 : Int) else 2) = CODE at *
  clear hf
  go_enter Try.func85, Try.ntmps85
  go_wp2_with fail
  refine (HIS.out _ (by (repeat' (first | (with_reducible exact Below.refl _ _) | (with_reducible assumption) | (with_reducible refine Below.alloc ?_ ?_ _) | (with_reducible refine Below.drew ?_) | (with_reducible refine below_drewN ?_ _) | (with_reducible refine Below.setCell ?_ ?_ _) | (with_reducible refine Below.trans ?_ (Below.mono (by with_reducible assumption) ?_)) | (with_reducible exact Below.size (by with_reducible assumption)) | go_size)))).mono ?_; rintro e w1 ⟨rfl, hb1⟩
  have hw1 : Below w.heap.size w w1 := by (repeat' (first | (with_reducible exact Below.refl _ _) | (with_reducible assumption) | (with_reducible refine Below.alloc ?_ ?_ _) | (with_reducible refine Below.drew ?_) | (with_reducible refine below_drewN ?_ _) | (with_reducible refine Below.setCell ?_ ?_ _) | (with_reducible refine Below.trans ?_ (Below.mono (by with_reducible assumption) ?_)) | (with_reducible exact Below.size (by with_reducible assumption)) | go_size))
  have x0 : w1.cell? ⟨w.heap.size, 0, none⟩ = some (.slice a1 M.length c1) := (hb1.cell (p := ⟨w.heap.size, 0, none⟩) (by simp)).trans (by simp)
  have hz1 : w.heap.size < w1.heap.size := by have := hb1.size; simp at this; omega
  go_wp2_with fail
  refine (HAF.out _ hw1).mono ?_; rintro e w2 ⟨rfl, hb2⟩
  have hw2 : Below w.heap.size w w2 := hw1.trans (hb2.mono hw1.size)
  have t0 := (hb2.cell (p := ⟨w.heap.size, 0, none⟩) hz1).trans x0
  clear x0 hb1 hb2 hw1 HIS HAF
  by_cases hl : Z.length = M.length
  · have hlb : ((Z.length : Int) != (M.length : Int)) = false := by simp [hl]
    have HO := Lib.hid (HC3.out hl)
    clear hl
    go_wp2_with fail
    go_ret
    exact ⟨by rw [HO.out]; rfl, hw2⟩
  · have hlb : ((Z.length : Int) != (M.length : Int)) = true := by simp; omega
    have HO := Lib.hid (HC2.out hl)
    clear hl
    go_wp2_with fail
    go_ret
    exact ⟨by rw [HO.out]; rfl, hw2⟩

set_option maxRecDepth 100000 in
set_option maxHeartbeats 2000000 in
theorem l01Fracs_any (m q z : Value) (M : List (List Int)) (Q : List Int) (Z : List (Int × Int)) (w : World) (h1 : PM.Rows w m M) (h2 : Ints w q Q) (h3 : Frs w z Z) :
    Calls Try.prog 79 #[.agg #[m, q], z] w fun e w' => e = .returned (.int .i64 (fcCode M Q Z)) ∧ Below w.heap.size w w' := by
  have HIS := Lib.hid (fun (w' : World) (h : Below w.heap.size w w') => l01Is_any m q M Q w' (h1.below h) (h2.below h))
  cases hp : isPB M Q
  · rw [hp] at HIS
    rw [show fcCode M Q Z = 1 by unfold fcCode; rw [if_neg (by simp [hp])]]
    obtain ⟨a1, c1, rfl, _⟩ := h1
    obtain ⟨a2, c2, rfl, _⟩ := h2
    clear hp h3
    go_enter Try.func79, Try.ntmps79
    go_wp2_with fail
    refine (HIS.out _ (by (repeat' (first | (with_reducible exact Below.refl _ _) | (with_reducible assumption) | (with_reducible refine Below.alloc ?_ ?_ _) | (with_reducible refine Below.drew ?_) | (with_reducible refine below_drewN ?_ _) | (with_reducible refine Below.setCell ?_ ?_ _) | (with_reducible refine Below.trans ?_ (Below.mono (by with_reducible assumption) ?_)) | (with_reducible exact Below.size (by with_reducible assumption)) | go_size)))).mono ?_; rintro e w1 ⟨rfl, hb1⟩
    have hw1 : Below w.heap.size w w1 := by (repeat' (first | (with_reducible exact Below.refl _ _) | (with_reducible assumption) | (with_reducible refine Below.alloc ?_ ?_ _) | (with_reducible refine Below.drew ?_) | (with_reducible refine below_drewN ?_ _) | (with_reducible refine Below.setCell ?_ ?_ _) | (with_reducible refine Below.trans ?_ (Below.mono (by with_reducible assumption) ?_)) | (with_reducible exact Below.size (by with_reducible assumption)) | go_size))
    go_wp2_with fail
    go_ret
    exact ⟨rfl, hw1⟩
  rw [hp] at HIS
  have hcode : fcCode M Q Z = if frsB Z = true then (if Z.length = M.length then 0 else 2) else 1 := by unfold fcCode; rw [if_pos hp]
  have HFI := Lib.hid (frsB_iff Z)
  have HC1 := Lib.hid (show frsB Z = false → fcCode M Q Z = 1 from fun h => by rw [hcode, if_neg (by simp [h])])
  have HC2 := Lib.hid (show frsB Z = true → Z.length ≠ M.length → fcCode M Q Z = 2 from fun h h' => by rw [hcode, if_pos h, if_neg h'])
  have HC3 := Lib.hid (show frsB Z = true → Z.length = M.length → fcCode M Q Z = 0 from fun h h' => by rw [hcode, if_pos h, if_pos h'])
  generalize fcCode M Q Z = CODE at *
  have hml := (isPB_facts hp).2.1
  have hql := (isPB_facts hp).2.2.1
  obtain ⟨a1, c1, rfl, _⟩ := h1
  obtain ⟨a2, c2, rfl, _⟩ := h2
  rw [hql] at HIS ⊢
  obtain ⟨a3, c3, rfl, hzl, hcell⟩ := frs_shape h3
  have HC := Lib.hid hcell
  clear hcode hp h3 hcell hql
  go_enter Try.func79, Try.ntmps79
  go_wp2_with fail
  refine (HIS.out _ (by (repeat' (first | (with_reducible exact Below.refl _ _) | (with_reducible assumption) | (with_reducible refine Below.alloc ?_ ?_ _) | (with_reducible refine Below.drew ?_) | (with_reducible refine below_drewN ?_ _) | (with_reducible refine Below.setCell ?_ ?_ _) | (with_reducible refine Below.trans ?_ (Below.mono (by with_reducible assumption) ?_)) | (with_reducible exact Below.size (by with_reducible assumption)) | go_size)))).mono ?_; rintro e w1 ⟨rfl, hb1⟩
  have hw1 : Below w.heap.size w w1 := by (repeat' (first | (with_reducible exact Below.refl _ _) | (with_reducible assumption) | (with_reducible refine Below.alloc ?_ ?_ _) | (with_reducible refine Below.drew ?_) | (with_reducible refine below_drewN ?_ _) | (with_reducible refine Below.setCell ?_ ?_ _) | (with_reducible refine Below.trans ?_ (Below.mono (by with_reducible assumption) ?_)) | (with_reducible exact Below.size (by with_reducible assumption)) | go_size))
  have x0 : w1.cell? ⟨w.heap.size, 1, none⟩ = some (.slice a2 M.length c2) := (hb1.cell (p := ⟨w.heap.size, 1, none⟩) (by simp)).trans (by simp)
  have hz1 : w.heap.size < w1.heap.size := by have := hb1.size; simp at this; omega
  have HW1 := Lib.hid hw1
  clear hb1 hw1 HIS
  go_wp2_with fail
  go_loopw [5] (fun i wr => ∃ k : Nat, k ≤ Z.length ∧ i = .int .i64 k ∧ Hid (∀ i, i < k → FM.isF (Z.getD i (0, 0)).1 (Z.getD i (0, 0)).2 = true) ∧ Below w1.heap.size w1 wr) (fun i _ => Z.length - (intOf i).toNat)
  case atStart => exact ⟨0, Nat.zero_le _, rfl, fun i hi => absurd hi (Nat.not_lt_zero _), Below.refl _ _⟩
  case round =>
    obtain ⟨k, hk, rfl, hgood, hB⟩ := hrel
    have hzr := hB.size
    by_cases hlt : k < Z.length
    · obtain ⟨b, off, rfl, hc⟩ := HC.out k hlt
      obtain ⟨t0, t1⟩ := hc wr (HW1.out.trans (hB.mono HW1.out.size))
      have hbad : Hid (FM.isF (Z.getD k (0, 0)).1 (Z.getD k (0, 0)).2 = false → CODE = 1) := fun h => HC1.out (by
        rw [Bool.eq_false_iff]
        intro c
        have := HFI.out.1 c k hlt
        rw [h] at this
        cases this)
      have hnx : Hid (FM.isF (Z.getD k (0, 0)).1 (Z.getD k (0, 0)).2 = true → ∀ i, i < k + 1 → FM.isF (Z.getD i (0, 0)).1 (Z.getD i (0, 0)).2 = true) := fun h i hi => by
        by_cases e : i = k
        · subst e; exact h
        · exact hgood.out i (by omega)
      generalize (Z.getD k (0, 0)).1 = x at *
      generalize (Z.getD k (0, 0)).2 = y at *
      have HBd := Lib.hid hB
      clear hB hc x0
      cases hf : FM.isF x y
      · have HO := Lib.hid (hbad.out hf)
        have HF := Lib.hid hf
        clear hf hbad hnx
        go_wp2_with fail
        refine (FW.specIsFrac_is _ _ _ _ HF.out).mono ?_; rintro e w2 ⟨rfl, hb2⟩
        have HB2 := Lib.hid (HBd.out.trans (hb2.mono hzr))
        clear hb2
        go_wp2_with fail
        go_ret
        exact ⟨by rw [HO.out]; rfl, HW1.out.trans (HB2.out.mono HW1.out.size)⟩
      · have HX := Lib.hid (hnx.out hf)
        have HF := Lib.hid hf
        clear hf hbad hnx
        go_wp2_with fail
        refine (FW.specIsFrac_is _ _ _ _ HF.out).mono ?_; rintro e w2 ⟨rfl, hb2⟩
        have HB2 := Lib.hid (HBd.out.trans (hb2.mono hzr))
        clear hb2
        go_wp2_with fail
        go_roundw
        case rel => exact ⟨k + 1, by omega, by go_num, HX, HB2.out⟩
        case measure => simp [intOf]; omega
    · obtain rfl : k = Z.length := by omega
      have hok := HFI.out.2 hgood.out
      have t0 := (hB.cell (p := ⟨w.heap.size, 1, none⟩) hz1).trans x0
      have HB := Lib.hid (HW1.out.trans (hB.mono HW1.out.size))
      by_cases hl : Z.length = M.length
      · have HO := Lib.hid (HC3.out hok hl)
        have hlb : ((Z.length : Int) != (M.length : Int)) = false := by simp [hl]
        clear hB hgood hok hl x0
        go_wp2_with fail
        go_ret
        exact ⟨by rw [HO.out]; rfl, HB.out⟩
      · have HO := Lib.hid (HC2.out hok hl)
        have hlb : ((Z.length : Int) != (M.length : Int)) = true := by simp; omega
        clear hB hgood hok hl x0
        go_wp2_with fail
        go_ret
        exact ⟨by rw [HO.out]; rfl, HB.out⟩
end Go.Proofs.Ytgncaploccbfnaa.PW
