/-
  Walks: the determinant without fractions, in the program.
-/
import Derived.Test.YtoglmkjmnknbbaaPElim
namespace Go.Proofs.Ytoglmkjmnknbbaa.PW
open Go.RowKit Go.Proofs.Ytoglmkjmnknbbaa
open Go.Proofs.Ytoglmkjmnknbbaa.PM Go.Proofs.Ytoglmkjmnknbbaa.PX

/-- The first place from i on, among d, at which p holds, or -1. -/
def srch (p : Nat → Bool) : Nat → Nat → Int
  | _, 0 => -1
  | i, d + 1 => if p i = true then (i : Int) else srch p (i + 1) d
theorem srch_no {p : Nat → Bool} {i d : Nat} (h : p i = false) : srch p i (d + 1) = srch p (i + 1) d := by rw [srch, if_neg (by simp [h])]
theorem srch_yes {p : Nat → Bool} {i d : Nat} (h : p i = true) : srch p i (d + 1) = (i : Int) := by rw [srch, if_pos h]
theorem srch_cases (p : Nat → Bool) : ∀ (d i : Nat), (srch p i d = -1 ∧ ∀ j, i ≤ j → j < i + d → p j = false) ∨ ∃ j, i ≤ j ∧ j < i + d ∧ srch p i d = (j : Int) ∧ p j = true := by
  intro d
  induction d with
  | zero => intro i; exact .inl ⟨rfl, fun j h1 h2 => by omega⟩
  | succ d ih =>
    intro i
    cases h : p i
    · rw [srch_no h]
      rcases ih (i + 1) with ⟨h1, h2⟩ | ⟨j, h1, h2, h3, h4⟩
      · refine .inl ⟨h1, fun j hj1 hj2 => ?_⟩
        by_cases e : j = i
        · rw [e]; exact h
        · exact h2 j (by omega) (by omega)
      · exact .inr ⟨j, by omega, by omega, h3, h4⟩
    · exact .inr ⟨i, Nat.le_refl _, by omega, srch_yes h, h⟩
def nz (f : Nat → Nat → Int) (c j : Nat) : Bool := !(decide (f (c + j) c = 0))

theorem det1_yes (g o cap m c Bc : Nat) (x : Int) (w : World) (h1 : w.cell? ⟨Bc, 0, none⟩ = some (.int .i64 c)) (h2 : w.cell? ⟨g, o + c, none⟩ = some (.int .i64 x)) (hc : c < m) (hx : x ≠ 0) :
    Calls Try.prog 140 #[.slice (some ⟨g, o, none⟩) m cap, .pointer (some ⟨Bc, 0, none⟩)] w fun e w' => e = .returned (.bool true) ∧ w = w' := by
  go_enter Try.func140, Try.ntmps140
  go_wp2
  go_ret
  exact ⟨by simp [hx], rfl⟩
theorem det1_no (g o cap m c Bc : Nat) (w : World) (h1 : w.cell? ⟨Bc, 0, none⟩ = some (.int .i64 c)) (h2 : w.cell? ⟨g, o + c, none⟩ = some (.int .i64 0)) (hc : c < m) :
    Calls Try.prog 140 #[.slice (some ⟨g, o, none⟩) m cap, .pointer (some ⟨Bc, 0, none⟩)] w fun e w' => e = .returned (.bool false) ∧ w = w' := by
  go_enter Try.func140, Try.ntmps140
  go_wp2
  go_ret
  exact ⟨rfl, rfl⟩

theorem indexFunc_any (B g cap2 n m c d Bc : Nat) (f : Nat → Nat → Int) (G O C : Nat → Nat) (w : World) (hT : Tb B w g n m G O C f) (hc : c < n) (hn : n ≤ 5) (hnm : n ≤ m) (hd : c + d = n)
    (hBc : w.cell? ⟨Bc, 0, none⟩ = some (.int .i64 c)) :
    Calls Try.prog 139 #[.slice (some ⟨g, c, none⟩) d cap2, .func (.func 140) #[] #[.pointer (some ⟨Bc, 0, none⟩)]] w fun e w' => e = .returned (.int .i64 (srch (nz f c) 0 d)) ∧ w' = w := by
  have HT := Lib.hid hT
  have HM := Lib.hid hd
  have hm5 : d ≤ 5 := by omega
  have hcm : c < m := by omega
  clear hT hd
  go_enter Try.func139, Try.ntmps139
  go_wp2
  go_loop [5, 8] (fun _ i => ∃ k : Nat, k ≤ d ∧ i = .int .i64 k ∧ srch (nz f c) 0 d = srch (nz f c) k (d - k)) (fun _ i => d - (intOf i).toNat)
  case atStart => exact ⟨0, Nat.zero_le _, rfl, rfl⟩
  case round =>
    obtain ⟨k, hk, rfl, hs⟩ := hrel
    have HS := Lib.hid hs
    clear hs
    by_cases hlt : k < d
    · have hck : c + k < n := by have := HM.out; omega
      have t1 := (HT.out.top (c + k) hck).1
      have e1 := (HT.out.cell (c + k) c hck hcm).1
      obtain ⟨d', hd⟩ : ∃ d', d - k = d' + 1 := ⟨d - k - 1, by omega⟩
      by_cases hx : f (c + k) c = 0
      · have hnx := HS.out
        rw [hd, srch_no (show nz f c k = false by unfold nz; rw [hx]; rfl), show d' = d - (k + 1) by omega] at hnx
        have HN := Lib.hid hnx
        rw [hx] at e1
        clear hnx hd hx
        go_wp2_with (go_at_call 140; refine (det1_no _ _ _ m c _ _ (by assumption) e1 hcm).mono ?_; rintro e w' ⟨rfl, rfl⟩)
        go_round
        case rel => exact ⟨k + 1, by omega, by go_num, HN.out⟩
        case measure => simp [intOf]; omega
      · have hnx := HS.out
        rw [hd, srch_yes (show nz f c k = true by unfold nz; rw [decide_eq_false hx]; rfl)] at hnx
        have HN := Lib.hid hnx
        have HX := Lib.hid hx
        clear hnx hd hx
        generalize f (c + k) c = x at *
        go_wp2_with (go_at_call 140; refine (det1_yes _ _ _ m c _ _ _ (by assumption) e1 hcm HX.out).mono ?_; rintro e w' ⟨rfl, rfl⟩)
        go_ret
        exact ⟨ret_i64 HN.out.symm, rfl⟩
    · obtain rfl : k = d := by omega
      go_wp2
      go_ret
      refine ⟨ret_i64 ?_, rfl⟩
      rw [HS.out, Nat.sub_self]
      rfl
end Go.Proofs.Ytoglmkjmnknbbaa.PW
