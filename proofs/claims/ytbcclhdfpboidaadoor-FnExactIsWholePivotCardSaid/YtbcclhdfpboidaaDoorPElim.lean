/-
  Walks: one column eliminated without fractions, below and above, in the program.
-/
import Derived.Test.YtbcclhdfpboidaaDoorPTb
import Derived.StillTailTactics
namespace Go.Proofs.YtbcclhdfpboidaaDoor.PW
open Go.RowKit Go.Proofs.YtbcclhdfpboidaaDoor
open Go.Proofs.YtbcclhdfpboidaaDoor.PM Go.Proofs.YtbcclhdfpboidaaDoor.PX

/-- While the column c is eliminated: the rows ahead of i are done, and the numbers ahead of k in the row i. -/
def elim (a f : Nat → Nat → Int) (c i k x y : Nat) : Int := if (x ≠ c ∧ c < y) ∧ (x < i ∨ (x = i ∧ y < k)) then J a (c + 1) x y else f x y
theorem elim_old {a f : Nat → Nat → Int} {c i k x y : Nat} (h : ¬ ((x ≠ c ∧ c < y) ∧ (x < i ∨ (x = i ∧ y < k)))) : elim a f c i k x y = f x y := by unfold elim; rw [if_neg h]
theorem elim_step (a f : Nat → Nat → Int) (c i k : Nat) (hc : i ≠ c) (hk : c < k) (x y : Nat) : upd (elim a f c i k) i k (J a (c + 1) i k) x y = elim a f c i (k + 1) x y := by
  unfold upd elim
  by_cases e : x = i ∧ y = k
  · obtain ⟨rfl, rfl⟩ := e
    rw [if_pos ⟨rfl, rfl⟩, if_pos ⟨⟨hc, hk⟩, .inr ⟨rfl, by omega⟩⟩]
  · rw [if_neg e]
    by_cases e2 : (x ≠ c ∧ c < y) ∧ (x < i ∨ (x = i ∧ y < k))
    · rw [if_pos e2, if_pos ⟨e2.1, by omega⟩]
    · rw [if_neg e2, if_neg (fun h => e2 ⟨h.1, by omega⟩)]
theorem elim_row (a f : Nat → Nat → Int) (m c i x y : Nat) (hy : y < m) : elim a f c i m x y = elim a f c (i + 1) (c + 1) x y := by
  unfold elim
  by_cases e : (x ≠ c ∧ c < y) ∧ (x < i ∨ (x = i ∧ y < m))
  · rw [if_pos e, if_pos ⟨e.1, by omega⟩]
  · rw [if_neg e, if_neg (fun h => e ⟨h.1, by omega⟩)]
theorem elim_skip (a f : Nat → Nat → Int) (c x y : Nat) : elim a f c c (c + 1) x y = elim a f c (c + 1) (c + 1) x y := by
  unfold elim
  by_cases e : (x ≠ c ∧ c < y) ∧ (x < c ∨ (x = c ∧ y < c + 1))
  · rw [if_pos e, if_pos ⟨e.1, by omega⟩]
  · rw [if_neg e, if_neg (fun h => e ⟨h.1, by omega⟩)]
theorem elim_zero (a f : Nat → Nat → Int) (c x y : Nat) : elim a f c 0 (c + 1) x y = f x y := by
  unfold elim; rw [if_neg (by omega)]
theorem elim_end {a f : Nat → Nat → Int} {n m c : Nat} (hc : c < n) (hn : n ≤ 5) (hf : ∀ x y, x < n → c ≤ y → y < m → f x y = J a c x y) (x y : Nat) (hx : x < n) (hy : c + 1 ≤ y) (hym : y < m) : elim a f c n (c + 1) x y = J a (c + 1) x y := by
  unfold elim
  by_cases e : x = c
  · subst e
    rw [if_neg (by omega), hf x y hx (by omega) hym, J_piv, J_row a x y (by omega)]
  · rw [if_pos ⟨⟨e, by omega⟩, .inl hx⟩]

theorem quo_fact {A B C D L R : Int} (h : A * B - C * D = L * R) (hL : L ≠ 0) : (A * B - C * D).tdiv L = R := by rw [h, Int.mul_tdiv_cancel_left _ hL]

set_option maxRecDepth 100000 in
set_option maxHeartbeats 2000000 in
theorem eliminate_any (B g cap n m c : Nat) (a f : Nat → Nat → Int) (j0 : Nat) (G O C : Nat → Nat) (w : World) (hT : Tb B w g n m G O C f) (hn : n ≤ 5) (hnm : n ≤ m) (hm : m ≤ 11) (hc : c < n)
    (hf : ∀ x y, x < n → c ≤ y → y < m → f x y = J a c x y) (hL : lastT a c ≠ 0) (hLb : Bd 1920000000 (lastT a c)) (hb : ∀ i j, Bd (20 * u j0 j) (a i j)) :
    Calls Tryd.prog 91 #[.slice (some ⟨g, 0, none⟩) n cap, .int .i64 c, .int .i64 (lastT a c)] w fun e w' => (∃ v, e = .returned v) ∧ Tb B w' g n m G O C (elim a f c n (c + 1)) ∧ Tch (gblks n G) w w' := by
  have hmx : Tryd.prog.follows .mixedOrders = true := by kernel_rfl
  have HF := Lib.hid hf
  have HB := Lib.hid hb
  have HJ := Lib.hid (fun i k h1 h2 => J_step a n c i k hn h1 hc h2)
  obtain ⟨L, hLe⟩ : ∃ L, L = lastT a c := ⟨_, rfl⟩
  rw [← hLe] at hL hLb ⊢
  have HLE := Lib.hid hLe
  obtain ⟨hLb1, hLb2⟩ := hLb
  clear hf hb hLe
  have HF0 := Lib.hid hT
  clear hT
  go_enter Tryd.func91, Tryd.ntmps91
  go_wp2
  go_loopw [6, 7, 8, 11] (fun _ _ _ i wr => ∃ k : Nat, k ≤ n ∧ i = .int .i64 k ∧ Tb B wr g n m G O C (elim a f c k (c + 1)) ∧ Tch (gblks n G) w wr) (fun _ _ _ i _ => n - (intOf i).toNat)
  case atStart => exact ⟨0, Nat.zero_le _, by go_num, HF0.out.congr (fun x y _ _ => (elim_zero a f c x y).symm), Tch.refl _ _⟩
  case round =>
    obtain ⟨i, hi, rfl, hR, hBl⟩ := hrel
    by_cases hlt : i < n
    · have HR := Lib.hid hR
      have HBl := Lib.hid hBl
      have ti := (hR.top i hlt).1
      clear hR hBl
      by_cases hic : i = c
      · subst hic
        have HR2 := Lib.hid (HR.out.congr (fun x y _ _ => elim_skip a f i x y))
        go_wp2
        go_roundw
        case rel => exact ⟨i + 1, by omega, by go_num, HR2.out, HBl.out⟩
        case measure => simp [intOf]; omega
      · have hci : ¬ (c : Int) = i := by omega
        have hic2 : ¬ (i : Int) = c := by omega
        have hff : ((i : Int) == (c : Int)) = false := by simpa using hic2
        go_wp2
        try simp only [hff]
        go_loopw [8] (fun j wr => ∃ k : Nat, c + 1 ≤ k ∧ k ≤ m ∧ j = .int .i64 k ∧ Tb B wr g n m G O C (elim a f c i k) ∧ Tch (gblks n G) w wr) (fun j _ => m - (intOf j).toNat)
        case atStart => exact ⟨c + 1, Nat.le_refl _, by omega, by go_num, HR.out, HBl.out⟩
        case round =>
          obtain ⟨k, hk1, hk2, rfl, hR2, hBl2⟩ := hrel
          by_cases hltk : k < m
          · have hcm : c < m := by omega
            have t2 := (hR2.top c hc).1
            obtain ⟨e1, z1⟩ := hR2.cell i k hlt hltk
            have e2 := (hR2.cell c c hc hcm).1
            have e3 := (hR2.cell i c hlt hcm).1
            have e4 := (hR2.cell c k hc hltk).1
            rw [elim_old (by omega), HF.out i k hlt (by omega) hltk] at e1
            rw [elim_old (by omega), HF.out c c hc (by omega) hcm, J_piv] at e2
            rw [elim_old (by omega), HF.out i c hlt (by omega) hcm] at e3
            rw [elim_old (by omega), HF.out c k hc (by omega) hltk, J_piv] at e4
            have hst := ((hR2.set hlt hltk (J a (c + 1) i k)).congr (fun x y _ _ => elim_step a f c i k hic (by omega) x y)).below (Below.refl _ _).drew
            have HST := Lib.hid hst
            have hbl : Tch (gblks n G) w (wr.setCell ⟨G i, O i + k, none⟩ (.int .i64 (J a (c + 1) i k))).drew := (hBl2.setCell (p := ⟨G i, O i + k, none⟩) (mem_gblks hlt) _).drew
            have HBL := Lib.hid hbl
            have b1 := J_bd HB.out n c i k hn (by omega) hlt (by omega)
            have b2 := J_bd HB.out n c c c hn (by omega) hc (by omega)
            have b3 := J_bd HB.out n c i c hn (by omega) hlt (by omega)
            have b4 := J_bd HB.out n c c k hn (by omega) hc (by omega)
            have b5 := J_bd HB.out n (c + 1) i k hn (by omega) hlt (by omega)
            rw [J_piv] at b2 b4
            have p1 := b1.mul b2
            have p2 := b3.mul b4
            have hq := HJ.out i k hlt hic
            rw [← HLE.out] at hq
            have hq2 := quo_fact hq hL
            clear b1 b2 b3 b4 hq hst hbl hR2 hBl2
            unfold Bd at p1 p2 b5
            obtain ⟨p11, p12⟩ := p1
            obtain ⟨p21, p22⟩ := p2
            obtain ⟨b51, b52⟩ := b5
            simp only [Int.reduceMul, Int.reduceNeg] at p11 p12 p21 p22
            generalize J a (c + 1) i k = R at *
            generalize J a c i k = X1 at *
            generalize T a c c c = X2 at *
            generalize J a c i c = X3 at *
            generalize T a c c k = X4 at *
            go_wp2
            go_still_tail 30, hmx
            go_wp2
            go_roundw
            case rel => exact ⟨k + 1, by omega, by omega, by go_num, HST.out, HBL.out⟩
            case measure => simp [intOf]; omega
          · obtain rfl : k = m := by omega
            have HR2 := Lib.hid (hR2.congr (fun x y _ hy => elim_row a f k c i x y hy))
            have HBL := Lib.hid hBl2
            clear hR2 hBl2
            go_wp2
            go_roundw
            case rel => exact ⟨i + 1, by omega, by go_num, HR2.out, HBL.out⟩
            case measure => simp [intOf]; omega
    · obtain rfl : i = n := by omega
      have HR2 := Lib.hid hR
      have HBL := Lib.hid hBl
      clear hR hBl
      go_wp2
      go_end0
      exact ⟨⟨_, rfl⟩, HR2.out, HBL.out⟩
end Go.Proofs.YtbcclhdfpboidaaDoor.PW
