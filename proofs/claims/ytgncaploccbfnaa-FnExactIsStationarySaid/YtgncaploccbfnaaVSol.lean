/-
  Walks: IsSolution in the model.
-/
import Derived.Test.YtgncaploccbfnaaVRemD
import Derived.Test.YtgncaploccbfnaaVNum
namespace Go.Proofs.Ytgncaploccbfnaa.PW
open Go.RowKit Go.Proofs.Ytgncaploccbfnaa
open Go.Proofs.Ytgncaploccbfnaa.PM Go.Proofs.Ytgncaploccbfnaa.PX

/-- No number of the list nor of its remainder is negative, and one of the two is 0 everywhere. -/
def solvK (R L : List Int) (k : Nat) : Bool := (List.range k).all fun i => decide (0 ≤ R.getD i 0 ∧ 0 ≤ L.getD i 0 ∧ ¬ (R.getD i 0 ≠ 0 ∧ L.getD i 0 ≠ 0))
theorem solvK_iff (R L : List Int) (n : Nat) : solvK R L n = true ↔ ∀ i, i < n → (0 ≤ R.getD i 0 ∧ 0 ≤ L.getD i 0 ∧ ¬ (R.getD i 0 ≠ 0 ∧ L.getD i 0 ≠ 0)) := by
  unfold solvK
  rw [List.all_eq_true]
  constructor
  · intro h i hi; exact of_decide_eq_true (h i (List.mem_range.2 hi))
  · intro h i hi; exact decide_eq_true (h i (List.mem_range.1 hi))
theorem solvK_no {R L : List Int} {n i : Nat} (hi : i < n) (h : ¬ (0 ≤ R.getD i 0 ∧ 0 ≤ L.getD i 0 ∧ ¬ (R.getD i 0 ≠ 0 ∧ L.getD i 0 ≠ 0))) : solvK R L n = false := by
  rw [Bool.eq_false_iff]
  intro e
  exact h ((solvK_iff R L n).1 e i hi)
def isoOut (M : List (List Int)) (Q : List Int) (Z : List (Int × Int)) : Bool × Int :=
  if fcCode M Q Z = 0 then (match comOut Z with
    | none => (false, 3)
    | some d => (solvK (remL M Q (Z.map (numI d)) d) (Z.map (numI d)) M.length, 0)) else (false, fcCode M Q Z)
theorem isoOut_err {M : List (List Int)} {Q : List Int} {Z : List (Int × Int)} (h : fcCode M Q Z ≠ 0) : isoOut M Q Z = (false, fcCode M Q Z) := by unfold isoOut; rw [if_neg h]
theorem isoOut_none {M : List (List Int)} {Q : List Int} {Z : List (Int × Int)} (h : fcCode M Q Z = 0) (h2 : comOut Z = none) : isoOut M Q Z = (false, 3) := by unfold isoOut; rw [if_pos h, h2]
theorem isoOut_some {M : List (List Int)} {Q : List Int} {Z : List (Int × Int)} {d : Int} (h : fcCode M Q Z = 0) (h2 : comOut Z = some d) : isoOut M Q Z = (solvK (remL M Q (Z.map (numI d)) d) (Z.map (numI d)) M.length, 0) := by unfold isoOut; rw [if_pos h, h2]

set_option maxRecDepth 100000 in
set_option maxHeartbeats 4000000 in
theorem l01Solves_any (m q l : Value) (M : List (List Int)) (Q L : List Int) (d : Int) (w : World) (h1 : PM.Rows w m M) (h2 : Ints w q Q) (h3 : Ints w l L) (hp : isPB M Q = true) (hll : L.length = M.length) (hd : 0 ≤ d ∧ d ≤ 1000000000) (hL : ∀ t, t < M.length → -1000000000000 ≤ L.getD t 0 ∧ L.getD t 0 ≤ 1000000000000) :
    Calls Try.prog 90 #[.agg #[m, q], l, .int .i64 d] w fun e w' => e = .returned (.bool (solvK (remL M Q L d) L M.length)) ∧ Below w.heap.size w w' := by
  have HRM := Lib.hid (fun w' (h : Below w.heap.size w w') => l01Remainder_any m q l M Q L d w' (h1.below h) (h2.below h) (h3.below h) hp hll hd hL)
  obtain ⟨f1, f2, f3, f4, f5⟩ := isPB_facts hp
  obtain ⟨a1, c1, rfl, _⟩ := h1
  obtain ⟨a2, c2, rfl, _⟩ := h2
  obtain ⟨lb, lo, lc, rfl, hlb, hLc⟩ := list_at h3 (by omega)
  have HLC := Lib.hid (fun wr hw i (hi : i < M.length) => hLc wr hw i (by omega))
  have hlen := remL_length M Q L d
  generalize remL M Q L d = R at *
  have HLEN := Lib.hid hlen
  have HIF := Lib.hid (solvK_iff R L M.length)
  have HNO := Lib.hid (fun i (hi : i < M.length) => solvK_no (R := R) (L := L) hi)
  obtain ⟨b, hb⟩ : ∃ b, b = solvK R L M.length := ⟨_, rfl⟩
  rw [← hb] at HIF ⊢
  rw [← hb] at HNO
  rw [hll] at HRM ⊢
  clear h3 hp hll hd hL f3 f4 f5 hLc hlen hb
  have hb0 : Below w.heap.size w (w.alloc (.cells #[.slice a1 M.length c1, .slice a2 Q.length c2] 27)) := (Below.refl _ _).alloc (Nat.le_refl _) _
  have HB0 := Lib.hid hb0
  clear hb0
  go_enter Try.func90, Try.ntmps90
  go_wp2_with fail
  refine (HRM.out _ HB0.out).mono ?_
  rintro e w3 ⟨g, c, rfl, hR, hb3⟩
  have HW3 := Lib.hid (HB0.out.trans (hb3.mono HB0.out.size))
  obtain ⟨_, _, hvv, _, hz5, hoo⟩ := id hR
  have hg3 : g < w3.heap.size := by simp at hvv; omega
  have hce : ∀ j, j < M.length → w3.cell? ⟨g, j, none⟩ = some (.int .i64 (R.getD j 0)) := fun j hj => by
    rw [own_cellN hoo HLEN.out.symm hj]
  have HCE := Lib.hid hce
  clear hR hb3 hvv hz5 hoo hce
  go_wp2_with fail
  go_loopw [8] (fun i wr => ∃ k : Nat, k ≤ M.length ∧ i = .int .i64 k ∧ Hid (∀ i, i < k → (0 ≤ R.getD i 0 ∧ 0 ≤ L.getD i 0 ∧ ¬ (R.getD i 0 ≠ 0 ∧ L.getD i 0 ≠ 0))) ∧ Below w3.heap.size w3 wr) (fun i _ => M.length - (intOf i).toNat)
  case atStart => exact ⟨0, Nat.zero_le _, rfl, fun i hi => absurd hi (Nat.not_lt_zero _), Below.refl _ _⟩
  case round =>
    obtain ⟨k, hk, rfl, hgood, hB⟩ := hrel
    by_cases hlt : k < M.length
    · have t1 := (hB.cell (p := ⟨g, k, none⟩) hg3).trans (HCE.out k hlt)
      have t2 := HLC.out wr (HW3.out.trans (hB.mono HW3.out.size)) k hlt
      have hn := HNO.out k hlt
      obtain ⟨x, hx⟩ : ∃ x, x = R.getD k 0 := ⟨_, rfl⟩
      obtain ⟨y, hy⟩ : ∃ y, y = L.getD k 0 := ⟨_, rfl⟩
      rw [← hx] at t1 hn
      rw [← hy] at t2 hn
      have HX := Lib.hid hx
      have HY := Lib.hid hy
      have HN := Lib.hid hn
      have HB := Lib.hid hB
      clear hx hy hn hB
      have hnx : (0 ≤ x ∧ 0 ≤ y ∧ ¬ (x ≠ 0 ∧ y ≠ 0)) → Hid (∀ i, i < k + 1 → (0 ≤ R.getD i 0 ∧ 0 ≤ L.getD i 0 ∧ ¬ (R.getD i 0 ≠ 0 ∧ L.getD i 0 ≠ 0))) := fun h i hi => by
        by_cases e : i = k
        · subst e; rw [← HX.out, ← HY.out]; exact h
        · exact hgood.out i (by omega)
      have HNX := Lib.hid hnx
      clear hnx
      by_cases hx0 : x < 0
      · have hbf : Hid (b = false) := HN.out (by omega)
        go_wp2_with fail
        go_ret
        exact ⟨ret_bool hbf.out.symm, HW3.out.trans (HB.out.mono HW3.out.size)⟩
      by_cases hy0 : y < 0
      · have hbf : Hid (b = false) := HN.out (by omega)
        go_wp2_with fail
        go_ret
        exact ⟨ret_bool hbf.out.symm, HW3.out.trans (HB.out.mono HW3.out.size)⟩
      by_cases hx1 : x = 0
      · have HK := Lib.hid (HNX.out ⟨by omega, by omega, by omega⟩)
        clear HNX HN HX hx0
        subst hx1
        go_wp2_with fail
        go_roundw
        case rel => exact ⟨k + 1, by omega, by go_num, HK.out, HB.out⟩
        case measure => simp [intOf]; omega
      have hxb : (x != 0) = true := by simp; omega
      by_cases hy1 : y = 0
      · have HK := Lib.hid (HNX.out ⟨by omega, by omega, by omega⟩)
        clear HNX HN HY hy0
        subst hy1
        go_wp2_with fail
        go_roundw
        case rel => exact ⟨k + 1, by omega, by go_num, HK.out, HB.out⟩
        case measure => simp [intOf]; omega
      · have hyb : (y != 0) = true := by simp; omega
        have hbf : Hid (b = false) := HN.out (by omega)
        go_wp2_with fail
        go_ret
        exact ⟨ret_bool hbf.out.symm, HW3.out.trans (HB.out.mono HW3.out.size)⟩
    · obtain rfl : k = M.length := by omega
      have hbt : Hid (b = true) := HIF.out.2 hgood.out
      go_wp2_with fail
      go_ret
      exact ⟨ret_bool hbt.out.symm, HW3.out.trans (hB.mono HW3.out.size)⟩
set_option maxRecDepth 100000 in
set_option maxHeartbeats 16000000 in
theorem specIsSolution_any (m q z : Value) (M : List (List Int)) (Q : List Int) (Z : List (Int × Int)) (w : World) (h1 : PM.Rows w m M) (h2 : Ints w q Q) (h3 : Frs w z Z) :
    Calls Try.prog 34 #[.agg #[m, q], z] w fun e w' => e = .returned (.tuple #[.bool (isoOut M Q Z).1, .int .i64 (isoOut M Q Z).2]) ∧ Below w.heap.size w w' := by
  have HCK := Lib.hid (fun (w' : World) (h : Below w.heap.size w w') => l01Fracs_any m q z M Q Z w' (h1.below h) (h2.below h) (h3.below h))
  have H3 := Lib.hid h3
  have H1 := Lib.hid h1
  have H2 := Lib.hid h2
  obtain ⟨a1, c1, rfl, _⟩ := h1
  obtain ⟨a2, c2, rfl, _⟩ := h2
  rcases fc_cases M Q Z with hc | ⟨hc, hp, hf, hl⟩
  · rw [isoOut_err (by omega)]
    generalize fcCode M Q Z = C at *
    have hC0 : ¬ C = 0 := by omega
    have hCb : (C != 0) = true := by simp; omega
    obtain ⟨a3, c3, rfl, _⟩ := h3
    clear hc
    go_enter Try.func34, Try.ntmps34
    go_wp2_with fail
    refine (HCK.out _ (by (repeat' (first | (with_reducible exact Below.refl _ _) | (with_reducible assumption) | (with_reducible refine Below.alloc ?_ ?_ _) | (with_reducible refine Below.drew ?_) | (with_reducible refine below_drewN ?_ _) | (with_reducible refine Below.setCell ?_ ?_ _) | (with_reducible refine Below.trans ?_ (Below.mono (by with_reducible assumption) ?_)) | (with_reducible exact Below.size (by with_reducible assumption)) | go_size)))).mono ?_; rintro e w1 ⟨rfl, hb1⟩
    have hw1 : Below w.heap.size w w1 := by (repeat' (first | (with_reducible exact Below.refl _ _) | (with_reducible assumption) | (with_reducible refine Below.alloc ?_ ?_ _) | (with_reducible refine Below.drew ?_) | (with_reducible refine below_drewN ?_ _) | (with_reducible refine Below.setCell ?_ ?_ _) | (with_reducible refine Below.trans ?_ (Below.mono (by with_reducible assumption) ?_)) | (with_reducible exact Below.size (by with_reducible assumption)) | go_size))
    go_wp2_with fail
    go_ret2
    exact ⟨rfl, hw1⟩
  rw [hc] at HCK
  have h5 := (isPB_facts hp).2.1
  have h51 := (isPB_facts hp).1
  have hfr := frsB_fracs hf
  have HCN := Lib.hid (fun (w' : World) (h : Below w.heap.size w w') => l01Common_any z Z w' (h3.below h) hfr (by omega) (by omega))
  obtain ⟨a3, c3, rfl, _⟩ := h3
  have HNONE := Lib.hid (fun h => isoOut_none (M := M) (Q := Q) hc h)
  have HSOME := Lib.hid (fun d h => isoOut_some (M := M) (Q := Q) (d := d) hc h)
  have HCS := Lib.hid (fun d h => comV_some (d := d) hfr h)
  generalize isoOut M Q Z = OUT at *
  have HL := Lib.hid hl
  have HP := Lib.hid hp
  clear hc hf hfr hl hp
  obtain ⟨W0, hW0⟩ : ∃ W0, W0 = w.alloc (.cells #[.slice a1 M.length c1, .slice a2 Q.length c2] 27) := ⟨_, rfl⟩
  have hb0 : Below w.heap.size w W0 := by rw [hW0]; exact (Below.refl _ _).alloc (Nat.le_refl _) _
  have hz0 : w.heap.size < W0.heap.size := by rw [hW0]; simp
  have x0 : W0.cell? ⟨w.heap.size, 0, none⟩ = some (.slice a1 M.length c1) := by rw [hW0]; simp
  have x1 : W0.cell? ⟨w.heap.size, 1, none⟩ = some (.slice a2 Q.length c2) := by rw [hW0]; simp
  have HW0 := Lib.hid hW0
  have hle0 := hb0.size
  clear hW0
  go_enter Try.func34, Try.ntmps34
  go_wp2_with fail
  rw [← HW0.out]
  refine (HCK.out _ hb0).mono ?_; rintro e w1 ⟨rfl, hb1⟩
  have hw1 : Below w.heap.size w w1 := hb0.trans (hb1.mono hle0)
  have y0 := (hb1.cell (p := ⟨w.heap.size, 0, none⟩) hz0).trans x0
  have y1 := (hb1.cell (p := ⟨w.heap.size, 1, none⟩) hz0).trans x1
  have hz1 : w.heap.size < w1.heap.size := by have := hb1.size; omega
  clear HCK hb0 hb1 x0 x1 HW0 hz0 hle0
  go_wp2_with fail
  refine (HCN.out _ hw1).mono ?_
  intro e w2 hco
  unfold ComS at hco
  cases hcm : comOut Z with
  | none =>
    rw [hcm] at hco
    obtain ⟨rfl, hb2⟩ := hco
    have hw2 : Below w.heap.size w w2 := hw1.trans (hb2.mono hw1.size)
    have HO := Lib.hid (HNONE.out hcm)
    clear hcm hb2 y0 y1
    go_wp2_with fail
    go_ret2
    rw [HO.out]
    exact ⟨rfl, hw2⟩
  | some d =>
    rw [hcm] at hco
    obtain ⟨g4, c4, rfl, hf4, hb2⟩ := hco
    obtain ⟨_, hd, hnb⟩ := HCS.out d hcm
    have hw2 : Below w.heap.size w w2 := hw1.trans (hb2.mono hw1.size)
    have z0 := (hb2.cell (p := ⟨w.heap.size, 0, none⟩) hz1).trans y0
    have z1 := (hb2.cell (p := ⟨w.heap.size, 1, none⟩) hz1).trans y1
    have hl := HL.out
    have hp := HP.out
    have HSV := Lib.hid (l01Solves_any _ _ _ M Q (Z.map (numI d)) d w2 (H1.out.below hw2) (H2.out.below hw2) (freshI_ints2 hf4 (nums_i64 hnb)) hp (by simp; omega) ⟨by omega, hd.2⟩ (fun t ht => nums_bd hnb t (by omega)))
    have HO := Lib.hid (HSOME.out d hcm)
    generalize solvK (remL M Q (Z.map (numI d)) d) (Z.map (numI d)) M.length = b at *
    have HW2 := Lib.hid hw2
    clear hl hp hcm hb2 y0 y1 hf4 hnb hw2 hw1 hd
    go_wp2_with fail
    refine HSV.out.mono ?_
    rintro e w3 ⟨rfl, hb3⟩
    have HW3 := Lib.hid (HW2.out.trans (hb3.mono HW2.out.size))
    clear hb3
    go_wp2_with fail
    go_ret2
    rw [HO.out]
    exact ⟨rfl, HW3.out⟩
end Go.Proofs.Ytgncaploccbfnaa.PW
