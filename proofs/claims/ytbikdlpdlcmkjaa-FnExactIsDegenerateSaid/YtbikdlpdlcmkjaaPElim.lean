/-
  Walks: one column eliminated without fractions, in the program.
-/
import Derived.Test.YtbikdlpdlcmkjaaPColsA
import Derived.Test.YtbikdlpdlcmkjaaPDet
import Derived.StillTailTactics
namespace Go.Proofs.Ytbikdlpdlcmkjaa.PW
open Go.RowKit Go.Proofs.Ytbikdlpdlcmkjaa
open Go.Proofs.Ytbikdlpdlcmkjaa.PM Go.Proofs.Ytbikdlpdlcmkjaa.PX

theorem FreshR.shape {B n i : Nat} {w : World} {v : Value} {f : Nat → Nat → Int} {us : List Value} (h : FreshR B w v (tab n f) us) (hi : i < n) : ∃ g c, us.getD i undef = .slice (some ⟨g, 0, none⟩) n c := by
  have hro := h.own.rows i (by rw [tab_length]; exact hi)
  rw [tab_row _ _ _ hi] at hro
  obtain ⟨g, c, hu⟩ := own_nonempty hro (by intro c; have := congrArg List.length c; rw [row_length, List.length_nil] at this; omega)
  rw [row_length] at hu
  exact ⟨g, c, hu⟩
theorem FreshR.cellAt {B n i k g c : Nat} {w : World} {v : Value} {f : Nat → Nat → Int} {us : List Value} (h : FreshR B w v (tab n f) us) (hi : i < n) (hk : k < n) (hu : us.getD i undef = .slice (some ⟨g, 0, none⟩) n c) :
    w.cell? ⟨g, k, none⟩ = some (.int .i64 (f i k)) ∧ w.frozen? ⟨g, k, none⟩ = false := by
  have hro := h.own.rows i (by rw [tab_length]; exact hi)
  rw [tab_row _ _ _ hi, hu] at hro
  refine ⟨?_, own_frozenN hro (row_length _ _).symm k⟩
  rw [own_cellN hro (row_length _ _).symm hk, row_getD _ _ _ hk]
theorem FreshR.topAt {B n i g cap : Nat} {w : World} {f : Nat → Nat → Int} {us : List Value} (h : FreshR B w (.slice (some ⟨g, 0, none⟩) n cap) (tab n f) us) (hi : i < n) : w.cell? ⟨g, i, none⟩ = some (us.getD i undef) ∧ w.frozen? ⟨g, i, none⟩ = false := by
  have htp := h.own.top
  have hul := h.own.len
  rw [tab_length] at htp hul
  refine ⟨?_, World.ownsRow.frozenAt htp i⟩
  rw [World.ownsRow.cellAt htp i (by omega)]
  simp [hul, hi]
def upd (f : Nat → Nat → Int) (i k : Nat) (x : Int) (a b : Nat) : Int := if a = i ∧ b = k then x else f a b
theorem FreshR.setTab {B n i k g c : Nat} {w : World} {v : Value} {f : Nat → Nat → Int} {us : List Value} (h : FreshR B w v (tab n f) us) (hi : i < n) (hu : us.getD i undef = .slice (some ⟨g, 0, none⟩) n c) (x : Int) :
    FreshR B (w.setCell ⟨g, k, none⟩ (.int .i64 x)) v (tab n (upd f i k x)) us := by
  have h1 := h.setRow (i := i) (by rw [tab_length]; exact hi) hu k x
  rw [tab_set _ _ _ _ _ hi] at h1
  exact h1
theorem FreshR.drew {B : Nat} {w : World} {v : Value} {xss : List (List Int)} {us : List Value} (h : FreshR B w v xss us) : FreshR B w.drew v xss us := h.below (Below.refl _ _).drew
theorem FreshR.rowGe {B n i g c : Nat} {w : World} {v : Value} {f : Nat → Nat → Int} {us : List Value} (h : FreshR B w v (tab n f) us) (hi : i < n) (hu : us.getD i undef = .slice (some ⟨g, 0, none⟩) n c) : B ≤ g ∧ g < w.heap.size :=
  h.rows i g (by rw [tab_length]; exact hi) (by rw [hu]; rfl)

theorem _root_.Go.Proofs.Ytbikdlpdlcmkjaa.PM.Tch.drew {bs : List Nat} {w w' : World} (h : Tch bs w w') : Tch bs w w'.drew := ⟨h.os, h.tape, h.output, h.size, h.block⟩
/-- While the column c is eliminated: the rows ahead of i are done, and the numbers ahead of k in the row i. -/
def elim (a f : Nat → Nat → Int) (c i k x y : Nat) : Int := if (c < x ∧ c < y) ∧ (x < i ∨ (x = i ∧ y < k)) then T a (c + 1) x y else f x y
theorem elim_old {a f : Nat → Nat → Int} {c i k x y : Nat} (h : ¬ ((c < x ∧ c < y) ∧ (x < i ∨ (x = i ∧ y < k)))) : elim a f c i k x y = f x y := by unfold elim; rw [if_neg h]
theorem elim_step (a f : Nat → Nat → Int) (n c i k : Nat) (hc : c < i) (hk : c < k) : tab n (upd (elim a f c i k) i k (T a (c + 1) i k)) = tab n (elim a f c i (k + 1)) := tab_congr (fun x y _ _ => by
  unfold upd elim
  by_cases e : x = i ∧ y = k
  · obtain ⟨rfl, rfl⟩ := e
    rw [if_pos ⟨rfl, rfl⟩, if_pos ⟨⟨hc, hk⟩, .inr ⟨rfl, by omega⟩⟩]
  · rw [if_neg e]
    by_cases e2 : (c < x ∧ c < y) ∧ (x < i ∨ (x = i ∧ y < k))
    · rw [if_pos e2, if_pos ⟨e2.1, by omega⟩]
    · rw [if_neg e2, if_neg (fun h => e2 ⟨h.1, by omega⟩)])
theorem elim_row (a f : Nat → Nat → Int) (n c i : Nat) : tab n (elim a f c i n) = tab n (elim a f c (i + 1) (c + 1)) := tab_congr (fun x y _ hy => by
  unfold elim
  by_cases e : (c < x ∧ c < y) ∧ (x < i ∨ (x = i ∧ y < n))
  · rw [if_pos e, if_pos ⟨e.1, by omega⟩]
  · rw [if_neg e, if_neg (fun h => e ⟨h.1, by omega⟩)])
theorem elim_zero (a f : Nat → Nat → Int) (n c : Nat) : tab n (elim a f c (c + 1) (c + 1)) = tab n f := tab_congr (fun x y _ _ => by
  unfold elim; rw [if_neg (by omega)])

theorem capT_le3 {c : Nat} (h : c ≤ 3) : capT c ≤ 19200000 := by
  obtain rfl | rfl | rfl | rfl : c = 0 ∨ c = 1 ∨ c = 2 ∨ c = 3 := by omega
  all_goals decide
theorem capT_le {c : Nat} (h : c ≤ 4) : capT c ≤ 1920000000 := by
  obtain rfl | rfl | rfl | rfl | rfl : c = 0 ∨ c = 1 ∨ c = 2 ∨ c = 3 ∨ c = 4 := by omega
  all_goals decide
theorem quo_fact {A B C D L R : Int} (h : A * B - C * D = L * R) (hL : L ≠ 0) : (A * B - C * D).tdiv L = R := by rw [h, Int.mul_tdiv_cancel_left _ hL]

set_option maxRecDepth 100000 in
set_option maxHeartbeats 2000000 in
theorem eliminate_any (B g cap n c : Nat) (a f : Nat → Nat → Int) (j0 : Nat) (us : List Value) (w : World) (hF : FreshR B w (.slice (some ⟨g, 0, none⟩) n cap) (tab n f) us) (hn : n ≤ 5) (hc : c < n)
    (hf : ∀ x y, c ≤ x → x < n → c ≤ y → y < n → f x y = T a c x y) (hL : lastT a c ≠ 0) (hLb : Bd 1920000000 (lastT a c)) (hb : ∀ i j, Bd (20 * u j0 j) (a i j)) :
    Calls Try.prog 101 #[.slice (some ⟨g, 0, none⟩) n cap, .int .i64 c, .int .i64 (lastT a c)] w fun e w' => (∃ v, e = .returned v) ∧ FreshR B w' (.slice (some ⟨g, 0, none⟩) n cap) (tab n (elim a f c n (c + 1))) us ∧ Tch (rblks us) w w' := by
  have hmx : Try.prog.follows .mixedOrders = true := by kernel_rfl
  have HF := Lib.hid hf
  have HB := Lib.hid hb
  have hTL := T_step a c
  have HTL := Lib.hid hTL
  obtain ⟨L, hLe⟩ : ∃ L, L = lastT a c := ⟨_, rfl⟩
  rw [← hLe] at hL hLb ⊢
  have HLE := Lib.hid hLe
  obtain ⟨hLb1, hLb2⟩ := hLb
  clear hf hb hTL hLe
  have HF0 := Lib.hid hF
  clear hF
  go_enter Try.func101, Try.ntmps101
  go_wp2
  go_loopw [6, 7] (fun i _ wr => ∃ k : Nat, c + 1 ≤ k ∧ k ≤ n ∧ i = .int .i64 k ∧ FreshR B wr (.slice (some ⟨g, 0, none⟩) n cap) (tab n (elim a f c k (c + 1))) us ∧ Tch (rblks us) w wr) (fun i _ _ => n - (intOf i).toNat)
  case atStart => exact ⟨c + 1, Nat.le_refl _, hc, by go_num, by rw [elim_zero]; exact HF0.out, Tch.refl _ _⟩
  case round =>
    obtain ⟨i, hi1, hi2, rfl, hR, hBl⟩ := hrel
    by_cases hlt : i < n
    · have HR := Lib.hid hR
      have HBl := Lib.hid hBl
      clear hR hBl
      go_wp2
      go_loopw [7] (fun j wr => ∃ k : Nat, c + 1 ≤ k ∧ k ≤ n ∧ j = .int .i64 k ∧ FreshR B wr (.slice (some ⟨g, 0, none⟩) n cap) (tab n (elim a f c i k)) us ∧ Tch (rblks us) w wr) (fun j _ => n - (intOf j).toNat)
      case atStart => exact ⟨c + 1, Nat.le_refl _, hc, by go_num, HR.out, HBl.out⟩
      case round =>
        obtain ⟨k, hk1, hk2, rfl, hR2, hBl2⟩ := hrel
        by_cases hltk : k < n
        · obtain ⟨gi, ci, hui⟩ := hR2.shape hlt
          obtain ⟨gc, cc, huc⟩ := hR2.shape hc
          have t1 := (hR2.topAt hlt).1
          rw [hui] at t1
          have t2 := (hR2.topAt hc).1
          rw [huc] at t2
          obtain ⟨e1, z1⟩ := hR2.cellAt hlt hltk hui
          have e2 := (hR2.cellAt hc hc huc).1
          have e3 := (hR2.cellAt hlt hc hui).1
          have e4 := (hR2.cellAt hc hltk huc).1
          rw [elim_old (by omega), HF.out i k (by omega) hlt (by omega) hltk] at e1
          rw [elim_old (by omega), HF.out c c (by omega) hc (by omega) hc] at e2
          rw [elim_old (by omega), HF.out i c (by omega) hlt (by omega) hc] at e3
          rw [elim_old (by omega), HF.out c k (by omega) hc (by omega) hltk] at e4
          have hst := (hR2.setTab (k := k) hlt hui (T a (c + 1) i k)).drew
          rw [elim_step _ _ _ _ _ _ (by omega) (by omega)] at hst
          have HST := Lib.hid hst
          have hbl : Tch (rblks us) w (wr.setCell ⟨gi, k, none⟩ (.int .i64 (T a (c + 1) i k))).drew := (hBl2.setCell (p := ⟨gi, k, none⟩) (mem_rblks (i := i) (by rw [hR2.own.len, tab_length]; exact hlt) (by rw [hui]; rfl)) _).drew
          have HBL := Lib.hid hbl
          have hc3 : c ≤ 3 := by omega
          have hcap := capT_le3 hc3
          have b1 := (T_bd HB.out c i k (by omega) (by omega)).mono hcap
          have b2 := (T_bd HB.out c c c (by omega) (by omega)).mono hcap
          have b3 := (T_bd HB.out c i c (by omega) (by omega)).mono hcap
          have b4 := (T_bd HB.out c c k (by omega) (by omega)).mono hcap
          have b5 : Bd 1920000000 (T a (c + 1) i k) := (T_bd HB.out (c + 1) i k (by omega) (by omega)).mono (capT_le (by omega))
          have p1 := b1.mul b2
          have p2 := b3.mul b4
          have hq := HTL.out i k (by omega)
          rw [← HLE.out] at hq
          have hq2 := quo_fact hq hL
          clear b1 b2 b3 b4 hq hst hbl hR2 hBl2 hui huc hcap
          unfold Bd at p1 p2 b5
          obtain ⟨p11, p12⟩ := p1
          obtain ⟨p21, p22⟩ := p2
          obtain ⟨b51, b52⟩ := b5
          simp only [Int.reduceMul, Int.reduceNeg] at p11 p12 p21 p22
          generalize T a (c + 1) i k = R at *
          generalize T a c i k = X1 at *
          generalize T a c c c = X2 at *
          generalize T a c i c = X3 at *
          generalize T a c c k = X4 at *
          go_wp2
          go_still_tail 39, hmx
          go_wp2
          go_roundw
          case rel => exact ⟨k + 1, by omega, by omega, by go_num, HST.out, HBL.out⟩
          case measure => simp [intOf]; omega
        · obtain rfl : k = n := by omega
          rw [elim_row] at hR2
          have HR2 := Lib.hid hR2
          have HBL := Lib.hid hBl2
          clear hR2 hBl2
          go_wp2
          go_roundw
          case rel => exact ⟨i + 1, by omega, by omega, by go_num, HR2.out, HBL.out⟩
          case measure => simp [intOf]; omega
    · obtain rfl : i = n := by omega
      have HR2 := Lib.hid hR
      have HBL := Lib.hid hBl
      clear hR hBl
      go_wp2
      go_end0
      exact ⟨⟨_, rfl⟩, HR2.out, HBL.out⟩
end Go.Proofs.Ytbikdlpdlcmkjaa.PW
