/-
  Walks: the elimination without fractions, in the program: the main loop; the determinant.
-/
import Derived.Test.YtgncaploccbfnaaPDetW
namespace Go.Proofs.Ytgncaploccbfnaa.PW
open Go.RowKit Go.Proofs.Ytgncaploccbfnaa
open Go.Proofs.Ytgncaploccbfnaa.PM Go.Proofs.Ytgncaploccbfnaa.PX

theorem lastT_sw (a : Nat → Nat → Int) (c r : Nat) (hcr : c < r) (hc : c ≤ 4) : lastT (rowsSw c r a) c = lastT a c := by
  cases c with
  | zero => rfl
  | succ c =>
    show T (rowsSw (c + 1) r a) c c c = T a c c c
    rw [T_sw a (c + 1) r c c c (by omega) hcr hc]
    have : sw (c + 1) r c = c := by unfold sw; rw [if_neg (by omega), if_neg (by omega)]
    rw [this]
theorem lastT_bd {a : Nat → Nat → Int} {j0 c : Nat} (h : ∀ i j, Bd (20 * u j0 j) (a i j)) (hc : c ≤ 5) : Bd 1920000000 (lastT a c) := by
  cases c with
  | zero => show Bd _ (1 : Int); unfold Bd; omega
  | succ c =>
    refine (T_bd h c c c (Nat.le_refl _) (by omega)).mono ?_
    obtain rfl | rfl | rfl | rfl | rfl : c = 0 ∨ c = 1 ∨ c = 2 ∨ c = 3 ∨ c = 4 := by omega
    all_goals decide

/-- What stands at x, y when c columns are eliminated: those columns are those of the one, multiplied by the last number of the diagonal. -/
def JJ (a : Nat → Nat → Int) (c x y : Nat) : Int := if y < c then (if x = y then lastT a c else 0) else J a c x y
theorem JJ_ge (a : Nat → Nat → Int) (c x y : Nat) (h : c ≤ y) : JJ a c x y = J a c x y := by unfold JJ; rw [if_neg (by omega)]
theorem JJ_lt (a : Nat → Nat → Int) (c x y : Nat) (h : y < c) : JJ a c x y = if x = y then lastT a c else 0 := by unfold JJ; rw [if_pos h]
theorem JJ_zero (a : Nat → Nat → Int) (x y : Nat) : JJ a 0 x y = a x y := by rw [JJ_ge a 0 x y (Nat.zero_le _), J_zero]
theorem JJ_cc (a : Nat → Nat → Int) (c : Nat) : JJ a c c c = lastT a (c + 1) := by rw [JJ_ge a c c c (Nat.le_refl _), J_piv]; rfl
theorem JJ_step (a : Nat → Nat → Int) (n c x y : Nat) (hn : n ≤ 5) (hxn : x < n) (hc : c < n) (hx : x ≠ c) : JJ a c x y * JJ a c c c - JJ a c x c * JJ a c c y = lastT a c * JJ a (c + 1) x y := by
  by_cases h : y < c
  · rw [JJ_cc, JJ_lt a c x y h, JJ_lt a c c y h, JJ_lt a (c + 1) x y (by omega), if_neg (show ¬ c = y by omega)]
    by_cases e : x = y
    · rw [if_pos e, if_pos e]; simp
    · rw [if_neg e, if_neg e]; simp
  · by_cases e : y = c
    · subst e
      rw [JJ_lt a (y + 1) x y (by omega), if_neg hx]
      simp
    · rw [JJ_ge a c x y (by omega), JJ_ge a c c c (Nat.le_refl _), JJ_ge a c x c (Nat.le_refl _), JJ_ge a c c y (by omega), JJ_ge a (c + 1) x y (by omega), J_piv, J_piv]
      exact J_step a n c x y hn hxn hc hx
theorem JJ_row (a : Nat → Nat → Int) (c y : Nat) (hc : c ≤ 4) : JJ a c c y = JJ a (c + 1) c y := by
  by_cases h : y < c
  · rw [JJ_lt a c c y h, JJ_lt a (c + 1) c y (by omega), if_neg (show ¬ c = y by omega), if_neg (show ¬ c = y by omega)]
  · by_cases e : y = c
    · subst e
      rw [JJ_cc, JJ_lt a (y + 1) y y (by omega), if_pos rfl]
    · rw [JJ_ge a c c y (by omega), JJ_ge a (c + 1) c y (by omega), J_piv, J_row a c y hc]
theorem JJ_bd {a : Nat → Nat → Int} {j0 : Nat} (h : ∀ i j, Bd (20 * u j0 j) (a i j)) (n c x y : Nat) (hn : n ≤ 5) (hx : x < n) (hc : c ≤ n) : Bd 1920000000 (JJ a c x y) := by
  unfold JJ
  split
  · split
    · exact lastT_bd h (by omega)
    · unfold Bd; omega
  · exact J_bd h n c x y hn (by omega) hx hc
theorem JJ_sw (a : Nat → Nat → Int) (c r x y : Nat) (hcr : c < r) (hc : c ≤ 4) : JJ (rowsSw c r a) c x y = JJ a c (sw c r x) y := by
  by_cases h : y < c
  · rw [JJ_lt _ c x y h, JJ_lt a c (sw c r x) y h, lastT_sw a c r hcr hc]
    have e : (x = y) ↔ (sw c r x = y) := by
      unfold sw
      split <;> (try split) <;> omega
    by_cases e2 : x = y
    · rw [if_pos e2, if_pos (e.1 e2)]
    · rw [if_neg e2, if_neg (fun c => e2 (e.2 c))]
  · rw [JJ_ge _ c x y (by omega), JJ_ge a c _ y (by omega), J_sw a c r x y hcr hc]

/-- While a table is reduced: c columns are eliminated, in rows that have been exchanged. -/
structure Dt (B : Nat) (w wr : World) (g n m c : Nat) (a0 a f : Nat → Nat → Int) (j0 : Nat) (G O C : Nat → Nat) (s : Int) : Prop where
  tb : Tb B wr g n m G O C f
  gw : g < w.heap.size
  low : Below B w wr
  at_ : ∀ x y, x < n → y < m → f x y = JJ a c x y
  bd : ∀ i j, Bd (20 * u j0 j) (a i j)
  last : lastT a c ≠ 0
  sign : s = 1 ∨ s = -1
  same : ∀ σ : Nat → Nat, s * dt n (fun x y => a x (σ y)) = dt n (fun x y => a0 x (σ y))
  old : ∀ i, i < n → G i < w.heap.size
theorem Dt.lo {B : Nat} {w wr : World} {g n m c j0 : Nat} {a0 a f : Nat → Nat → Int} {G O C : Nat → Nat} {s : Int} (h : Dt B w wr g n m c a0 a f j0 G O C s) : B ≤ w.heap.size := Nat.le_trans h.tb.lo (Nat.le_of_lt h.gw)
theorem Dt.below {B : Nat} {w wr w2 : World} {g n m c j0 : Nat} {a0 a f : Nat → Nat → Int} {G O C : Nat → Nat} {s : Int} (h : Dt B w wr g n m c a0 a f j0 G O C s) (hb : Below wr.heap.size wr w2) : Dt B w w2 g n m c a0 a f j0 G O C s :=
  ⟨h.tb.below hb, h.gw, h.low.trans (hb.mono (Nat.le_trans h.lo h.low.size)), h.at_, h.bd, h.last, h.sign, h.same, h.old⟩
theorem Dt.swap {B : Nat} {w wr : World} {g n m c r j0 : Nat} {a0 a f : Nat → Nat → Int} {G O C : Nat → Nat} {s : Int} (h : Dt B w wr g n m c a0 a f j0 G O C s) (hc : c < r) (hr : r < n) (hn : n ≤ 5) :
    Dt B w ((wr.setCell ⟨g, r, none⟩ (.slice (some ⟨G c, O c, none⟩) m (C c))).setCell ⟨g, c, none⟩ (.slice (some ⟨G r, O r, none⟩) m (C r))) g n m c a0 (rowsSw c r a) (rowsSw c r f) j0 (fun i => G (sw c r i)) (fun i => O (sw c r i)) (fun i => C (sw c r i)) (-s) := by
  refine ⟨h.tb.swap (by omega) hr hc, h.gw, (h.low.setCell h.tb.lo _).setCell h.tb.lo _, fun x y hx hym => ?_, fun i j => h.bd _ _, ?_, by have := h.sign; omega, fun σ => ?_, fun i hi => h.old _ (sw_lt (by omega) hr hi)⟩
  · rw [JJ_sw a c r x y hc (by omega)]
    exact h.at_ _ _ (sw_lt (by omega) hr hx) hym
  · rw [lastT_sw a c r hc (by omega)]; exact h.last
  · have e := dt_sw (fun x y => a x (σ y)) n c r hc hr hn
    have e2 : (fun x y => rowsSw c r a x (σ y)) = rowsSw c r (fun x y => a x (σ y)) := rfl
    rw [e2, e, ← h.same σ, Int.neg_mul_neg]
theorem Dt.dtn {B : Nat} {w wr : World} {g n m c j0 : Nat} {a0 a f : Nat → Nat → Int} {G O C : Nat → Nat} {s : Int} (h : Dt B w wr g n m c a0 a f j0 G O C s) : s * dt n a = dt n a0 := h.same id
theorem Dt.zero {B : Nat} {w wr : World} {g n m c j0 : Nat} {a0 a f : Nat → Nat → Int} {G O C : Nat → Nat} {s : Int} (h : Dt B w wr g n m c a0 a f j0 G O C s) (hc : c < n) (hn : n ≤ 5) (hnm : n ≤ m) (hz : ∀ j, j < n - c → nz f c j = false) : dt n a0 = 0 := by
  have h0 : dt n a = 0 := dt_zero a n c hc hn h.last (fun i hi hin => by
    have := hz (i - c) (by omega)
    unfold nz at this
    rw [show c + (i - c) = i by omega] at this
    have h1 : f i c = 0 := by simpa using this
    have h2 := h.at_ i c hin (by omega)
    rw [h1, JJ_ge a c i c (Nat.le_refl _)] at h2
    unfold J at h2
    rw [if_neg (by omega)] at h2
    exact h2.symm)
  rw [← h.dtn, h0]
  simp
theorem Dt.next {B : Nat} {w wr w2 : World} {g n m c j0 : Nat} {a0 a f : Nat → Nat → Int} {G O C : Nat → Nat} {s : Int} (h : Dt B w wr g n m c a0 a f j0 G O C s) (hc : c < n) (hn : n ≤ 5) (hnm : n ≤ m) (hnz : f c c ≠ 0)
    (hT : Tb B w2 g n m G O C (elim (JJ a (c + 1)) f c n 0)) (hb : Below B wr w2) : Dt B w w2 g n m (c + 1) a0 a (elim (JJ a (c + 1)) f c n 0) j0 G O C s :=
  ⟨hT, h.gw, h.low.trans hb, fun x y hx hym => by
    rw [elim_end _ _ n c x y hx]
    by_cases e : x = c
    · subst e
      rw [if_pos rfl, h.at_ x y hx hym, JJ_row a x y (by omega)]
    · rw [if_neg e], h.bd, by
    show T a c c c ≠ 0
    rw [show T a c c c = JJ a c c c from (JJ_cc a c).symm, ← h.at_ c c hc (by omega)]
    exact hnz, h.sign, h.same, h.old⟩
theorem Dt.cc {B : Nat} {w wr : World} {g n m c j0 : Nat} {a0 a f : Nat → Nat → Int} {G O C : Nat → Nat} {s : Int} (h : Dt B w wr g n m c a0 a f j0 G O C s) (hc : c < n) (hnm : n ≤ m) : f c c = lastT a (c + 1) := by
  rw [h.at_ c c hc (by omega), JJ_cc]
theorem sq_one {s : Int} (h : s = 1 ∨ s = -1) (x : Int) : s * (s * x) = x := by rcases h with rfl | rfl <;> simp

/-- What the reduction leaves. -/
def RedOut (B g n m : Nat) (a0 : Nat → Nat → Int) (w : World) (e : Ending) (w' : World) : Prop :=
  ∃ s : Int, e = .returned (.tuple #[.int .i64 (s * dt n a0), .int .i64 s]) ∧ (s = 1 ∨ s = -1) ∧ Below B w w' ∧
    (dt n a0 ≠ 0 → ∃ (G O C : Nat → Nat) (f : Nat → Nat → Int), Tb B w' g n m G O C f ∧ ∀ i k, i < n → n ≤ k → k < m → f i k = s * dt n (fun x y => a0 x (rp i k y)))

end Go.Proofs.Ytgncaploccbfnaa.PW
