/-
  Walks: one column eliminated without fractions, in all rows but one, in the program.
-/
import Derived.Test.YtoglmkjmnknbbaaPTb
import Derived.StillTailTactics
namespace Go.Proofs.Ytoglmkjmnknbbaa.PW
open Go.RowKit Go.Proofs.Ytoglmkjmnknbbaa
open Go.Proofs.Ytoglmkjmnknbbaa.PM Go.Proofs.Ytoglmkjmnknbbaa.PX

/-- While a column is eliminated: the rows ahead of i are done but for the row r, and the numbers ahead of k in the row i. -/
def elim (h f : Nat → Nat → Int) (r i k x y : Nat) : Int := if x ≠ r ∧ (x < i ∨ (x = i ∧ y < k)) then h x y else f x y
theorem elim_old {h f : Nat → Nat → Int} {r i k x y : Nat} (e : ¬ (x ≠ r ∧ (x < i ∨ (x = i ∧ y < k)))) : elim h f r i k x y = f x y := by unfold elim; rw [if_neg e]
theorem elim_step (h f : Nat → Nat → Int) (r i k : Nat) (hr : i ≠ r) (x y : Nat) : upd (elim h f r i k) i k (h i k) x y = elim h f r i (k + 1) x y := by
  unfold upd elim
  by_cases e : x = i ∧ y = k
  · obtain ⟨rfl, rfl⟩ := e
    rw [if_pos ⟨rfl, rfl⟩, if_pos ⟨hr, .inr ⟨rfl, by omega⟩⟩]
  · rw [if_neg e]
    by_cases e2 : x ≠ r ∧ (x < i ∨ (x = i ∧ y < k))
    · rw [if_pos e2, if_pos ⟨e2.1, by omega⟩]
    · rw [if_neg e2, if_neg (fun h => e2 ⟨h.1, by omega⟩)]
theorem elim_row (h f : Nat → Nat → Int) (m r i x y : Nat) (hy : y < m) : elim h f r i m x y = elim h f r (i + 1) 0 x y := by
  unfold elim
  by_cases e : x ≠ r ∧ (x < i ∨ (x = i ∧ y < m))
  · rw [if_pos e, if_pos ⟨e.1, by omega⟩]
  · rw [if_neg e, if_neg (fun h => e ⟨h.1, by omega⟩)]
theorem elim_skip (h f : Nat → Nat → Int) (r x y : Nat) : elim h f r r 0 x y = elim h f r (r + 1) 0 x y := by
  unfold elim
  by_cases e : x ≠ r ∧ (x < r ∨ (x = r ∧ y < 0))
  · rw [if_pos e, if_pos ⟨e.1, by omega⟩]
  · rw [if_neg e, if_neg (fun h => e ⟨h.1, by omega⟩)]
theorem elim_zero (h f : Nat → Nat → Int) (r x y : Nat) : elim h f r 0 0 x y = f x y := by
  unfold elim; rw [if_neg (by omega)]
theorem elim_end (h f : Nat → Nat → Int) (n r x y : Nat) (hx : x < n) : elim h f r n 0 x y = if x = r then f x y else h x y := by
  unfold elim
  by_cases e : x = r
  · rw [if_neg (by omega), if_pos e]
  · rw [if_pos ⟨e, .inl hx⟩, if_neg e]

theorem quo_fact {A B C D L R : Int} (h : A * B - C * D = L * R) (hL : L ≠ 0) : (A * B - C * D).tdiv L = R := by rw [h, Int.mul_tdiv_cancel_left _ hL]

set_option maxRecDepth 100000 in
set_option maxHeartbeats 2000000 in
theorem eliminate_any (B g cap n m r c : Nat) (f h : Nat → Nat → Int) (L : Int) (G O C : Nat → Nat) (w : World) (hT : Tb B w g n m G O C f) (hn : n ≤ 5) (hm : m ≤ 12) (hr : r < n) (hc : c < m)
    (hL : L ≠ 0) (hLb : Bd 1920000000 L) (hfb : ∀ x y, x < n → y < m → Bd 1920000000 (f x y)) (hhb : ∀ x y, x < n → x ≠ r → y < m → Bd 1920000000 (h x y))
    (hq : ∀ x y, x < n → x ≠ r → y < m → f x y * f r c - f x c * f r y = L * h x y) :
    Calls Try.prog 141 #[.slice (some ⟨g, 0, none⟩) n cap, .int .i64 r, .int .i64 c, .int .i64 L] w fun e w' => (∃ v, e = .returned v) ∧ Tb B w' g n m G O C (elim h f r n 0) ∧ Tch (gblks n G) w w' := by
  have hmx : Try.prog.follows .mixedOrders = true := by kernel_rfl
  have HFB := Lib.hid hfb
  have HHB := Lib.hid hhb
  have HQ := Lib.hid hq
  obtain ⟨hLb1, hLb2⟩ := hLb
  clear hfb hhb hq
  have HF0 := Lib.hid hT
  clear hT
  go_enter Try.func141, Try.ntmps141
  go_wp2
  go_loopw [8, 9, 10, 11, 14] (fun _ _ _ _ i wr => ∃ k : Nat, k ≤ n ∧ i = .int .i64 k ∧ Tb B wr g n m G O C (elim h f r k 0) ∧ Tch (gblks n G) w wr) (fun _ _ _ _ i _ => n - (intOf i).toNat)
  case atStart => exact ⟨0, Nat.zero_le _, by go_num, HF0.out.congr (fun x y _ _ => (elim_zero h f r x y).symm), Tch.refl _ _⟩
  case round =>
    obtain ⟨i, hi, rfl, hR, hBl⟩ := hrel
    by_cases hlt : i < n
    · have HR := Lib.hid hR
      have HBl := Lib.hid hBl
      have ti := (hR.top i hlt).1
      clear hR hBl
      by_cases hic : i = r
      · subst hic
        have HR2 := Lib.hid (HR.out.congr (fun x y _ _ => elim_skip h f i x y))
        go_wp2
        go_roundw
        case rel => exact ⟨i + 1, by omega, by go_num, HR2.out, HBl.out⟩
        case measure => simp [intOf]; omega
      · have hci : ¬ (r : Int) = i := by omega
        have hic2 : ¬ (i : Int) = r := by omega
        have hff : ((i : Int) == (r : Int)) = false := by simpa using hic2
        obtain ⟨e5, _⟩ := HR.out.cell i c hlt hc
        rw [elim_old (by omega)] at e5
        go_wp2
        try simp only [hff]
        go_loopw [11, 28] (fun _ j wr => ∃ k : Nat, k ≤ m ∧ j = .int .i64 k ∧ Tb B wr g n m G O C (elim h f r i k) ∧ Tch (gblks n G) w wr) (fun _ j _ => m - (intOf j).toNat)
        case atStart => exact ⟨0, by omega, by go_num, HR.out, HBl.out⟩
        case round =>
          obtain ⟨k, hk2, rfl, hR2, hBl2⟩ := hrel
          by_cases hltk : k < m
          · have t2 := (hR2.top r hr).1
            obtain ⟨e1, z1⟩ := hR2.cell i k hlt hltk
            have e2 := (hR2.cell r c hr hc).1
            have e4 := (hR2.cell r k hr hltk).1
            rw [elim_old (by omega)] at e1
            rw [elim_old (by omega)] at e2
            rw [elim_old (by omega)] at e4
            have hst := ((hR2.set hlt hltk (h i k)).congr (fun x y _ _ => elim_step h f r i k hic x y)).below (Below.refl _ _).drew
            have HST := Lib.hid hst
            have hbl : Tch (gblks n G) w (wr.setCell ⟨G i, O i + k, none⟩ (.int .i64 (h i k))).drew := (hBl2.setCell (p := ⟨G i, O i + k, none⟩) (mem_gblks hlt) _).drew
            have HBL := Lib.hid hbl
            have b1 := HFB.out i k hlt hltk
            have b2 := HFB.out r c hr hc
            have b3 := HFB.out i c hlt hc
            have b4 := HFB.out r k hr hltk
            have b5 := HHB.out i k hlt hic hltk
            have p1 := b1.mul b2
            have p2 := b3.mul b4
            have hq := HQ.out i k hlt hic hltk
            have hq2 := quo_fact hq hL
            clear b1 b2 b3 b4 hq hst hbl hR2 hBl2
            unfold Bd at p1 p2 b5
            obtain ⟨p11, p12⟩ := p1
            obtain ⟨p21, p22⟩ := p2
            obtain ⟨b51, b52⟩ := b5
            simp only [Int.reduceMul, Int.reduceNeg] at p11 p12 p21 p22
            generalize h i k = R at *
            generalize f i k = X1 at *
            generalize f r c = X2 at *
            generalize f i c = X3 at *
            generalize f r k = X4 at *
            go_wp2
            go_still_tail 27, hmx
            go_wp2
            go_roundw
            case rel => exact ⟨k + 1, by omega, by go_num, HST.out, HBL.out⟩
            case measure => simp [intOf]; omega
          · obtain rfl : k = m := by omega
            have HR2 := Lib.hid (hR2.congr (fun x y _ hy => elim_row h f k r i x y hy))
            have HBL := Lib.hid hBl2
            clear hR2 hBl2
            go_wp2
            go_roundw
            case rel => exact ⟨i + 1, by omega, by go_num, HR2.out, HBL.out⟩
            case measure => simp [intOf]; omega
    · obtain rfl : i = n := by omega
      have HR2 := Lib.hid hR
      have HBL := Lib.hid hBl
      clear hR hBl
      go_wp2
      go_end0
      exact ⟨⟨_, rfl⟩, HR2.out, HBL.out⟩
end Go.Proofs.Ytoglmkjmnknbbaa.PW
