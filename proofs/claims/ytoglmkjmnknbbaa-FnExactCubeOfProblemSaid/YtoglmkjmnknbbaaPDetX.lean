/-
  Walks: the elimination without fractions, in the program: the main loop; the determinant.
-/
import Derived.Test.YtoglmkjmnknbbaaPDetW
namespace Go.Proofs.Ytoglmkjmnknbbaa.PW
open Go.RowKit Go.Proofs.Ytoglmkjmnknbbaa
open Go.Proofs.Ytoglmkjmnknbbaa.PM Go.Proofs.Ytoglmkjmnknbbaa.PX

theorem lastT_sw (a : Nat → Nat → Int) (c r : Nat) (hcr : c < r) (hc : c ≤ 4) : lastT (rowsSw c r a) c = lastT a c := by
  cases c with
  | zero => rfl
  | succ c =>
    show T (rowsSw (c + 1) r a) c c c = T a c c c
    rw [T_sw a (c + 1) r c c c (by omega) hcr hc]
    have : sw (c + 1) r c = c := by unfold sw; rw [if_neg (by omega), if_neg (by omega)]
    rw [this]
theorem lastT_bd {a : Nat → Nat → Int} {j0 c : Nat} (h : ∀ i j, Bd (20 * u j0 j) (a i j)) (hc : c ≤ 5) : Bd 1920000000 (lastT a c) := by
  cases c with
  | zero => show Bd _ (1 : Int); unfold Bd; omega
  | succ c =>
    refine (T_bd h c c c (Nat.le_refl _) (by omega)).mono ?_
    obtain rfl | rfl | rfl | rfl | rfl : c = 0 ∨ c = 1 ∨ c = 2 ∨ c = 3 ∨ c = 4 := by omega
    all_goals decide

/-- What stands at x, y when c columns are eliminated: those columns are those of the one, multiplied by the last number of the diagonal. -/
def JJ (a : Nat → Nat → Int) (c x y : Nat) : Int := if y < c then (if x = y then lastT a c else 0) else J a c x y
theorem JJ_ge (a : Nat → Nat → Int) (c x y : Nat) (h : c ≤ y) : JJ a c x y = J a c x y := by unfold JJ; rw [if_neg (by omega)]
theorem JJ_lt (a : Nat → Nat → Int) (c x y : Nat) (h : y < c) : JJ a c x y = if x = y then lastT a c else 0 := by unfold JJ; rw [if_pos h]
theorem JJ_zero (a : Nat → Nat → Int) (x y : Nat) : JJ a 0 x y = a x y := by rw [JJ_ge a 0 x y (Nat.zero_le _), J_zero]
theorem JJ_cc (a : Nat → Nat → Int) (c : Nat) : JJ a c c c = lastT a (c + 1) := by rw [JJ_ge a c c c (Nat.le_refl _), J_piv]; rfl
theorem JJ_step (a : Nat → Nat → Int) (n c x y : Nat) (hn : n ≤ 5) (hxn : x < n) (hc : c < n) (hx : x ≠ c) : JJ a c x y * JJ a c c c - JJ a c x c * JJ a c c y = lastT a c * JJ a (c + 1) x y := by
  by_cases h : y < c
  · rw [JJ_cc, JJ_lt a c x y h, JJ_lt a c c y h, JJ_lt a (c + 1) x y (by omega), if_neg (show ¬ c = y by omega)]
    by_cases e : x = y
    · rw [if_pos e, if_pos e]; simp
    · rw [if_neg e, if_neg e]; simp
  · by_cases e : y = c
    · subst e
      rw [JJ_lt a (y + 1) x y (by omega), if_neg hx]
      simp
    · rw [JJ_ge a c x y (by omega), JJ_ge a c c c (Nat.le_refl _), JJ_ge a c x c (Nat.le_refl _), JJ_ge a c c y (by omega), JJ_ge a (c + 1) x y (by omega), J_piv, J_piv]
      exact J_step a n c x y hn hxn hc hx
theorem JJ_row (a : Nat → Nat → Int) (c y : Nat) (hc : c ≤ 4) : JJ a c c y = JJ a (c + 1) c y := by
  by_cases h : y < c
  · rw [JJ_lt a c c y h, JJ_lt a (c + 1) c y (by omega), if_neg (show ¬ c = y by omega), if_neg (show ¬ c = y by omega)]
  · by_cases e : y = c
    · subst e
      rw [JJ_cc, JJ_lt a (y + 1) y y (by omega), if_pos rfl]
    · rw [JJ_ge a c c y (by omega), JJ_ge a (c + 1) c y (by omega), J_piv, J_row a c y hc]
theorem JJ_bd {a : Nat → Nat → Int} {j0 : Nat} (h : ∀ i j, Bd (20 * u j0 j) (a i j)) (n c x y : Nat) (hn : n ≤ 5) (hx : x < n) (hc : c ≤ n) : Bd 1920000000 (JJ a c x y) := by
  unfold JJ
  split
  · split
    · exact lastT_bd h (by omega)
    · unfold Bd; omega
  · exact J_bd h n c x y hn (by omega) hx hc
theorem JJ_sw (a : Nat → Nat → Int) (c r x y : Nat) (hcr : c < r) (hc : c ≤ 4) : JJ (rowsSw c r a) c x y = JJ a c (sw c r x) y := by
  by_cases h : y < c
  · rw [JJ_lt _ c x y h, JJ_lt a c (sw c r x) y h, lastT_sw a c r hcr hc]
    have e : (x = y) ↔ (sw c r x = y) := by
      unfold sw
      split <;> (try split) <;> omega
    by_cases e2 : x = y
    · rw [if_pos e2, if_pos (e.1 e2)]
    · rw [if_neg e2, if_neg (fun c => e2 (e.2 c))]
  · rw [JJ_ge _ c x y (by omega), JJ_ge a c _ y (by omega), J_sw a c r x y hcr hc]

/-- While a table is reduced: c columns are eliminated, in rows that have been exchanged. -/
structure Dt (B : Nat) (w wr : World) (g n m c : Nat) (a0 a f : Nat → Nat → Int) (j0 : Nat) (G O C : Nat → Nat) (s : Int) : Prop where
  tb : Tb B wr g n m G O C f
  gw : g < w.heap.size
  low : Below B w wr
  at_ : ∀ x y, x < n → y < m → f x y = JJ a c x y
  bd : ∀ i j, Bd (20 * u j0 j) (a i j)
  last : lastT a c ≠ 0
  sign : s = 1 ∨ s = -1
  same : ∀ σ : Nat → Nat, s * dt n (fun x y => a x (σ y)) = dt n (fun x y => a0 x (σ y))
  old : ∀ i, i < n → G i < w.heap.size
theorem Dt.lo {B : Nat} {w wr : World} {g n m c j0 : Nat} {a0 a f : Nat → Nat → Int} {G O C : Nat → Nat} {s : Int} (h : Dt B w wr g n m c a0 a f j0 G O C s) : B ≤ w.heap.size := Nat.le_trans h.tb.lo (Nat.le_of_lt h.gw)
theorem Dt.below {B : Nat} {w wr w2 : World} {g n m c j0 : Nat} {a0 a f : Nat → Nat → Int} {G O C : Nat → Nat} {s : Int} (h : Dt B w wr g n m c a0 a f j0 G O C s) (hb : Below wr.heap.size wr w2) : Dt B w w2 g n m c a0 a f j0 G O C s :=
  ⟨h.tb.below hb, h.gw, h.low.trans (hb.mono (Nat.le_trans h.lo h.low.size)), h.at_, h.bd, h.last, h.sign, h.same, h.old⟩
theorem Dt.swap {B : Nat} {w wr : World} {g n m c r j0 : Nat} {a0 a f : Nat → Nat → Int} {G O C : Nat → Nat} {s : Int} (h : Dt B w wr g n m c a0 a f j0 G O C s) (hc : c < r) (hr : r < n) (hn : n ≤ 5) :
    Dt B w ((wr.setCell ⟨g, r, none⟩ (.slice (some ⟨G c, O c, none⟩) m (C c))).setCell ⟨g, c, none⟩ (.slice (some ⟨G r, O r, none⟩) m (C r))) g n m c a0 (rowsSw c r a) (rowsSw c r f) j0 (fun i => G (sw c r i)) (fun i => O (sw c r i)) (fun i => C (sw c r i)) (-s) := by
  refine ⟨h.tb.swap (by omega) hr hc, h.gw, (h.low.setCell h.tb.lo _).setCell h.tb.lo _, fun x y hx hym => ?_, fun i j => h.bd _ _, ?_, by have := h.sign; omega, fun σ => ?_, fun i hi => h.old _ (sw_lt (by omega) hr hi)⟩
  · rw [JJ_sw a c r x y hc (by omega)]
    exact h.at_ _ _ (sw_lt (by omega) hr hx) hym
  · rw [lastT_sw a c r hc (by omega)]; exact h.last
  · have e := dt_sw (fun x y => a x (σ y)) n c r hc hr hn
    have e2 : (fun x y => rowsSw c r a x (σ y)) = rowsSw c r (fun x y => a x (σ y)) := rfl
    rw [e2, e, ← h.same σ, Int.neg_mul_neg]
theorem Dt.dtn {B : Nat} {w wr : World} {g n m c j0 : Nat} {a0 a f : Nat → Nat → Int} {G O C : Nat → Nat} {s : Int} (h : Dt B w wr g n m c a0 a f j0 G O C s) : s * dt n a = dt n a0 := h.same id
theorem Dt.zero {B : Nat} {w wr : World} {g n m c j0 : Nat} {a0 a f : Nat → Nat → Int} {G O C : Nat → Nat} {s : Int} (h : Dt B w wr g n m c a0 a f j0 G O C s) (hc : c < n) (hn : n ≤ 5) (hnm : n ≤ m) (hz : ∀ j, j < n - c → nz f c j = false) : dt n a0 = 0 := by
  have h0 : dt n a = 0 := dt_zero a n c hc hn h.last (fun i hi hin => by
    have := hz (i - c) (by omega)
    unfold nz at this
    rw [show c + (i - c) = i by omega] at this
    have h1 : f i c = 0 := by simpa using this
    have h2 := h.at_ i c hin (by omega)
    rw [h1, JJ_ge a c i c (Nat.le_refl _)] at h2
    unfold J at h2
    rw [if_neg (by omega)] at h2
    exact h2.symm)
  rw [← h.dtn, h0]
  simp
theorem Dt.next {B : Nat} {w wr w2 : World} {g n m c j0 : Nat} {a0 a f : Nat → Nat → Int} {G O C : Nat → Nat} {s : Int} (h : Dt B w wr g n m c a0 a f j0 G O C s) (hc : c < n) (hn : n ≤ 5) (hnm : n ≤ m) (hnz : f c c ≠ 0)
    (hT : Tb B w2 g n m G O C (elim (JJ a (c + 1)) f c n 0)) (hb : Below B wr w2) : Dt B w w2 g n m (c + 1) a0 a (elim (JJ a (c + 1)) f c n 0) j0 G O C s :=
  ⟨hT, h.gw, h.low.trans hb, fun x y hx hym => by
    rw [elim_end _ _ n c x y hx]
    by_cases e : x = c
    · subst e
      rw [if_pos rfl, h.at_ x y hx hym, JJ_row a x y (by omega)]
    · rw [if_neg e], h.bd, by
    show T a c c c ≠ 0
    rw [show T a c c c = JJ a c c c from (JJ_cc a c).symm, ← h.at_ c c hc (by omega)]
    exact hnz, h.sign, h.same, h.old⟩
theorem Dt.cc {B : Nat} {w wr : World} {g n m c j0 : Nat} {a0 a f : Nat → Nat → Int} {G O C : Nat → Nat} {s : Int} (h : Dt B w wr g n m c a0 a f j0 G O C s) (hc : c < n) (hnm : n ≤ m) : f c c = lastT a (c + 1) := by
  rw [h.at_ c c hc (by omega), JJ_cc]
theorem Dt.elim {B : Nat} {w wr : World} {g n m c cap j0 : Nat} {a0 a f : Nat → Nat → Int} {G O C : Nat → Nat} {s : Int} (h : Dt B w wr g n m c a0 a f j0 G O C s) (hc : c < n) (hn : n ≤ 5) (hnm : n ≤ m) (hm : m ≤ 12) :
    Calls Try.prog 141 #[.slice (some ⟨g, 0, none⟩) n cap, .int .i64 c, .int .i64 c, .int .i64 (lastT a c)] wr fun e w' => (∃ v, e = .returned v) ∧ Tb B w' g n m G O C (elim (JJ a (c + 1)) f c n 0) ∧ Tch (gblks n G) wr w' :=
  eliminate_any B g cap n m c c f (JJ a (c + 1)) (lastT a c) G O C wr h.tb hn hm hc (by omega) h.last (lastT_bd h.bd (by omega))
    (fun x y hx hy => by rw [h.at_ x y hx hy]; exact JJ_bd h.bd n c x y hn hx (by omega)) (fun x y hx _ _ => JJ_bd h.bd n (c + 1) x y hn hx (by omega))
    (fun x y hx hxc hy => by rw [h.at_ x y hx hy, h.at_ c c hc (by omega), h.at_ x c hx (by omega), h.at_ c y hc hy]; exact JJ_step a n c x y hn hx hc hxc)
theorem sq_one {s : Int} (h : s = 1 ∨ s = -1) (x : Int) : s * (s * x) = x := by rcases h with rfl | rfl <;> simp

/-- What the reduction leaves. -/
def RedOut (B g n m : Nat) (a0 : Nat → Nat → Int) (w : World) (e : Ending) (w' : World) : Prop :=
  ∃ s : Int, e = .returned (.tuple #[.int .i64 (s * dt n a0), .int .i64 s]) ∧ (s = 1 ∨ s = -1) ∧ Below B w w' ∧
    (dt n a0 ≠ 0 → ∃ (G O C : Nat → Nat) (f : Nat → Nat → Int), Tb B w' g n m G O C f ∧ ∀ i k, i < n → n ≤ k → k < m → f i k = s * dt n (fun x y => a0 x (rp i k y)))

set_option maxRecDepth 100000 in
set_option maxHeartbeats 2000000 in
theorem reduce_any (B g cap n m j0 : Nat) (a0 : Nat → Nat → Int) (G0 O0 C0 : Nat → Nat) (w : World) (hT : Tb B w g n m G0 O0 C0 a0) (hn1 : 1 ≤ n) (hn5 : n ≤ 5) (hnm : n ≤ m) (hm : m ≤ 11) (hncap : n ≤ cap) (hb : ∀ i j, Bd (20 * u j0 j) (a0 i j)) :
    Calls Try.prog 128 #[.slice (some ⟨g, 0, none⟩) n cap] w (RedOut B g n m a0 w) := by
  have hmx : Try.prog.follows .mixedOrders = true := by kernel_rfl
  have hD0 : Dt B w w g n m 0 a0 a0 a0 j0 G0 O0 C0 1 := ⟨hT, hT.hi, Below.refl _ _, fun x y _ _ => (JJ_zero a0 x y).symm, hb, (show (1 : Int) ≠ 0 by decide), .inl rfl, fun σ => Int.one_mul _, hT.ghi⟩
  have hBw : B ≤ w.heap.size := hD0.lo
  have hgw : g < w.heap.size := hT.hi
  have HD0 := Lib.hid hD0
  clear hT hD0 hb
  go_enter Try.func128, Try.ntmps128
  go_wp2
  go_loopw [4, 5, 6, 7, 10] (fun ls sg _ _ i wr => ∃ (c : Nat) (a f : Nat → Nat → Int) (G O C : Nat → Nat) (s : Int), c ≤ n ∧ i = .int .i64 c ∧ sg = .int .i64 s ∧ ls = .int .i64 (lastT a c) ∧ Dt B w wr g n m c a0 a f j0 G O C s) (fun _ _ _ _ i _ => n - (intOf i).toNat)
  case atStart => exact ⟨0, a0, a0, G0, O0, C0, 1, Nat.zero_le _, rfl, rfl, rfl, HD0.out⟩
  case round =>
    obtain ⟨c, a, f, G, O, C, s, hc, rfl, rfl, rfl, hD⟩ := hrel
    by_cases hlt : c < n
    · have hne : ¬ n = c := by omega
      have hnec : ¬ cap = c := by omega
      have hcm : c < m := by omega
      have hidx := fun (cap2 : Nat) (w' : World) (h : Below wr.heap.size wr w') (Bc : Nat) (hB) => indexFunc_any B g cap2 n m c (n - c) Bc f G O C w' (hD.below h).tb hlt hn5 hnm (by omega) hB
      have HD := Lib.hid hD
      have hgr : g < wr.heap.size := hD.tb.hi
      clear hD
      rcases srch_cases (nz f c) (n - c) 0 with ⟨hs1, hs2⟩ | ⟨j, hj1, hj2, hs1, hs2⟩
      · have hz := HD.out.zero hlt hn5 hnm (fun j hj => hs2 j (Nat.zero_le _) (by omega))
        rw [hs1] at hidx
        have HI := Lib.hid hidx
        have HZ := Lib.hid hz
        have hlow := HD.out.low
        have HSG := Lib.hid HD.out.sign
        clear hidx hz hs1 hs2
        go_wp2
        go_quiet ((go_at_call 139; exact Calls.quiet_of_same (HI.out _ _ (by (repeat' (first | (with_reducible exact Below.refl _ _) | (with_reducible assumption) | (with_reducible refine Below.alloc ?_ ?_ _) | (with_reducible refine Below.drew ?_) | (with_reducible refine below_drewN ?_ _) | (with_reducible refine Below.setCell ?_ ?_ _) | (with_reducible refine Below.trans ?_ (Below.mono (by with_reducible assumption) ?_)) | (with_reducible exact Below.size (by with_reducible assumption)) | go_size))) _ (by simp))))
        go_wp2
        go_ret2
        refine ⟨s, ?_, HSG.out, hlow.trans (Below.mono (by (repeat' (first | (with_reducible exact Below.refl _ _) | (with_reducible assumption) | (with_reducible refine Below.alloc ?_ ?_ _) | (with_reducible refine Below.drew ?_) | (with_reducible refine below_drewN ?_ _) | (with_reducible refine Below.setCell ?_ ?_ _) | (with_reducible refine Below.trans ?_ (Below.mono (by with_reducible assumption) ?_)) | (with_reducible exact Below.size (by with_reducible assumption)) | go_size))) (Nat.le_trans hBw hlow.size)), fun h => absurd HZ.out h⟩
        rw [HZ.out, Int.mul_zero]
        rfl
      · rw [hs1] at hidx
        have HI := Lib.hid hidx
        have HS2 := Lib.hid hs2
        clear hidx hs1 hs2
        have hj5 : c + j < n := by omega
        have HNZ0 := Lib.hid (show f (c + j) c ≠ 0 by have := HS2.out; unfold nz at this; simpa using this)
        clear hj1 hj2
        by_cases hj0 : j = 0
        · subst hj0
          have HNZ : Hid (f c c ≠ 0) := Lib.hid (by have := HNZ0.out; simpa using this)
          go_wp2
          go_quiet ((go_at_call 139; exact Calls.quiet_of_same (HI.out _ _ (by (repeat' (first | (with_reducible exact Below.refl _ _) | (with_reducible assumption) | (with_reducible refine Below.alloc ?_ ?_ _) | (with_reducible refine Below.drew ?_) | (with_reducible refine below_drewN ?_ _) | (with_reducible refine Below.setCell ?_ ?_ _) | (with_reducible refine Below.trans ?_ (Below.mono (by with_reducible assumption) ?_)) | (with_reducible exact Below.size (by with_reducible assumption)) | go_size))) _ (by simp))))
          obtain ⟨W2, hW2⟩ : ∃ W2, W2 = (wr.alloc (.cells #[.int .i64 c] 3)).drewN nq := ⟨_, rfl⟩
          have hbW : Below wr.heap.size wr W2 := by rw [hW2]; (repeat' (first | (with_reducible exact Below.refl _ _) | (with_reducible assumption) | (with_reducible refine Below.alloc ?_ ?_ _) | (with_reducible refine Below.drew ?_) | (with_reducible refine below_drewN ?_ _) | (with_reducible refine Below.setCell ?_ ?_ _) | (with_reducible refine Below.trans ?_ (Below.mono (by with_reducible assumption) ?_)) | (with_reducible exact Below.size (by with_reducible assumption)) | go_size))
          have hbx : W2.cell? ⟨wr.heap.size, 0, none⟩ = some (.int .i64 c) := by rw [hW2]; simp
          rw [← hW2]
          clear hW2 HI HS2
          have hD2 := HD.out.below hbW
          have hgh := HD.out.tb.ghi
          have HD2 := Lib.hid hD2
          have HE := Lib.hid (hD2.elim (cap := cap) hlt hn5 hnm (by omega))
          have HGH := Lib.hid hgh
          clear hD2 hgh
          go_wp2_with fail
          refine HE.out.mono ?_
          rintro e w4 ⟨⟨ve, rfl⟩, hF4, hT4⟩
          have hB4 : Below B W2 w4 := hT4.below (fun b hb => by obtain ⟨i, hi, rfl⟩ := of_mem_gblks hb; exact HD2.out.tb.glo i hi)
          have hD4 := HD2.out.next hlt hn5 hnm HNZ.out hF4 hB4
          have hbx4 : w4.cell? ⟨wr.heap.size, 0, none⟩ = some (.int .i64 c) := (World.cell?_of_block (w := W2) (a := ⟨wr.heap.size, 0, none⟩) (hT4.block _ (fun hb => by obtain ⟨i, hi, e⟩ := of_mem_gblks hb; exact absurd (Nat.lt_of_le_of_lt (Nat.le_of_eq e.symm) (HGH.out i hi)) (Nat.lt_irrefl _)))).trans hbx
          have ht4 := (hD4.tb.top c hlt).1
          have he4 := (hD4.tb.cell c c hlt hcm).1
          rw [show elim (JJ a (c + 1)) f c n 0 c c = lastT a (c + 1) from (elim_old (by omega)).trans (HD2.out.cc hlt hnm)] at he4
          have HD4 := Lib.hid hD4
          clear hD4 hF4 hT4 hB4
          generalize hLn : lastT a (c + 1) = L' at *
          have HLN := Lib.hid hLn
          clear hLn
          go_wp2_with fail
          go_quiet (fail)
          go_wp2_with fail
          go_roundw
          case rel => exact ⟨c + 1, _, _, _, _, _, _, by omega, by go_num, rfl, by rw [HLN.out], HD4.out.below (by (repeat' (first | (with_reducible exact Below.refl _ _) | (with_reducible assumption) | (with_reducible refine Below.alloc ?_ ?_ _) | (with_reducible refine Below.drew ?_) | (with_reducible refine below_drewN ?_ _) | (with_reducible refine Below.setCell ?_ ?_ _) | (with_reducible refine Below.trans ?_ (Below.mono (by with_reducible assumption) ?_)) | (with_reducible exact Below.size (by with_reducible assumption)) | go_size)))⟩
          case measure => simp [intOf]; omega
        · go_wp2
          go_quiet ((go_at_call 139; exact Calls.quiet_of_same (HI.out _ _ (by (repeat' (first | (with_reducible exact Below.refl _ _) | (with_reducible assumption) | (with_reducible refine Below.alloc ?_ ?_ _) | (with_reducible refine Below.drew ?_) | (with_reducible refine below_drewN ?_ _) | (with_reducible refine Below.setCell ?_ ?_ _) | (with_reducible refine Below.trans ?_ (Below.mono (by with_reducible assumption) ?_)) | (with_reducible exact Below.size (by with_reducible assumption)) | go_size))) _ (by simp))))
          obtain ⟨W1, hW1⟩ : ∃ W1, W1 = (wr.alloc (.cells #[.int .i64 c] 3)).drewN nq := ⟨_, rfl⟩
          have hbW : Below wr.heap.size wr W1 := by rw [hW1]; (repeat' (first | (with_reducible exact Below.refl _ _) | (with_reducible assumption) | (with_reducible refine Below.alloc ?_ ?_ _) | (with_reducible refine Below.drew ?_) | (with_reducible refine below_drewN ?_ _) | (with_reducible refine Below.setCell ?_ ?_ _) | (with_reducible refine Below.trans ?_ (Below.mono (by with_reducible assumption) ?_)) | (with_reducible exact Below.size (by with_reducible assumption)) | go_size))
          have hbx1 : W1.cell? ⟨wr.heap.size, 0, none⟩ = some (.int .i64 c) := by rw [hW1]; simp
          rw [← hW1]
          clear hW1 HI HS2
          have hD1 := HD.out.below hbW
          obtain ⟨t1, z1⟩ := hD1.tb.top (c + j) hj5
          obtain ⟨t2, z2⟩ := hD1.tb.top c hlt
          have HSW := Lib.hid (hD1.swap (r := c + j) (by omega) hj5 hn5)
          have HNZ : Hid (rowsSw c (c + j) f c c ≠ 0) := Lib.hid (by have := HNZ0.out; unfold rowsSw sw; rw [if_pos rfl]; exact this)
          have HGH := Lib.hid HD.out.tb.ghi
          clear hD1
          go_wp2_with fail
          have hn1' : ¬ c + j = c := by omega
          have hn2' : ¬ c = c + j := by omega
          have hsg1 : -1 ≤ s ∧ s ≤ 1 := by rcases HD.out.sign with h | h <;> omega
          obtain ⟨hsg1, hsg2⟩ := hsg1
          have hbx2 : (((W1.setCell ⟨g, c + j, none⟩ (.slice (some ⟨G c, O c, none⟩) m (C c))).setCell ⟨g, c, none⟩ (.slice (some ⟨G (c + j), O (c + j), none⟩) m (C (c + j)))).drew).cell? ⟨wr.heap.size, 0, none⟩ = some (.int .i64 c) :=
            (World.cell?_of_block (w := W1) (a := ⟨wr.heap.size, 0, none⟩) ((Below.heap_setCell _ _ _ _ (by show wr.heap.size ≠ g; omega)).trans (Below.heap_setCell _ _ _ _ (by show wr.heap.size ≠ g; omega)))).trans hbx1
          go_region
          obtain ⟨W2, hW2⟩ : ∃ W2, W2 = ((W1.setCell ⟨g, c + j, none⟩ (.slice (some ⟨G c, O c, none⟩) m (C c))).setCell ⟨g, c, none⟩ (.slice (some ⟨G (c + j), O (c + j), none⟩) m (C (c + j)))).drew := ⟨_, rfl⟩
          have hD2 := HSW.out.below (Below.refl _ _).drew
          rw [← hW2] at hD2 hbx2 ⊢
          have hbx := hbx2
          have hzW : W1.heap.size = W2.heap.size := by rw [hW2]; simp
          clear hW2 t1 t2 z1 z2 hbx1 hbx2
          have HD2 := Lib.hid hD2
          have he0 := hD2.elim (cap := cap) hlt hn5 hnm (by omega)
          rw [lastT_sw a c (c + j) (by omega) (by omega)] at he0
          have HE := Lib.hid he0
          clear he0 hD2
          go_wp2_with fail
          refine HE.out.mono ?_
          rintro e w4 ⟨⟨ve, rfl⟩, hF4, hT4⟩
          have hB4 : Below B W2 w4 := hT4.below (fun b hb => by obtain ⟨i, hi, rfl⟩ := of_mem_gblks hb; exact HD2.out.tb.glo i hi)
          have hD4 := HD2.out.next hlt hn5 hnm HNZ.out hF4 hB4
          have hbx4 : w4.cell? ⟨wr.heap.size, 0, none⟩ = some (.int .i64 c) := (World.cell?_of_block (w := W2) (a := ⟨wr.heap.size, 0, none⟩) (hT4.block _ (fun hb => by obtain ⟨i, hi, e⟩ := of_mem_gblks hb; exact absurd (Nat.lt_of_le_of_lt (Nat.le_of_eq e.symm) (HGH.out _ (sw_lt (c := c) (r := c + j) hlt hj5 hi))) (Nat.lt_irrefl _)))).trans hbx
          have ht4 := (hD4.tb.top c hlt).1
          have he4 := (hD4.tb.cell c c hlt hcm).1
          rw [show elim (JJ (rowsSw c (c + j) a) (c + 1)) (rowsSw c (c + j) f) c n 0 c c = lastT (rowsSw c (c + j) a) (c + 1) from (elim_old (by omega)).trans (HD2.out.cc hlt hnm)] at he4
          have HD4 := Lib.hid hD4
          clear hD4 hF4 hT4 hB4
          generalize hLn : lastT (rowsSw c (c + j) a) (c + 1) = L' at *
          have HLN := Lib.hid hLn
          clear hLn
          go_wp2_with fail
          go_quiet (fail)
          go_wp2_with fail
          go_roundw
          case rel => exact ⟨c + 1, _, _, _, _, _, _, by omega, by go_num, rfl, by rw [HLN.out], HD4.out.below (by (repeat' (first | (with_reducible exact Below.refl _ _) | (with_reducible assumption) | (with_reducible refine Below.alloc ?_ ?_ _) | (with_reducible refine Below.drew ?_) | (with_reducible refine below_drewN ?_ _) | (with_reducible refine Below.setCell ?_ ?_ _) | (with_reducible refine Below.trans ?_ (Below.mono (by with_reducible assumption) ?_)) | (with_reducible exact Below.size (by with_reducible assumption)) | go_size)))⟩
          case measure => simp [intOf]; omega
    · obtain rfl : c = n := by omega
      have hz : lastT a c = s * dt c a0 := by rw [← hD.dtn, sq_one hD.sign, ← dt_T a c hn1 hn5]
      have HZ := Lib.hid hz
      have HD := Lib.hid hD
      clear hz hD
      rw [HZ.out]
      go_wp2
      go_ret2
      refine ⟨s, rfl, HD.out.sign, HD.out.low, fun _ => ⟨G, O, C, f, HD.out.tb, fun i k hi hk hkm => ?_⟩⟩
      rw [HD.out.at_ i k hi hkm, JJ_ge a c i k hk, J_end a c i k hn1 hn5 hi, ← HD.out.same (rp i k), sq_one HD.out.sign]

set_option maxRecDepth 100000 in
set_option maxHeartbeats 2000000 in
theorem determinant_any (v : Value) (xss : List (List Int)) (n j0 : Nat) (w : World) (hv : PM.Rows w v xss) (hl : xss.length = n) (hrl : ∀ i, i < n → (xss.getD i []).length = n) (hn1 : 1 ≤ n) (hn5 : n ≤ 5) (hb : ∀ i j, Bd (20 * u j0 j) (ent xss i j)) :
    Calls Try.prog 92 #[v] w fun e w' => e = .returned (.int .i64 (dt n (ent xss))) ∧ Below w.heap.size w w' := by
  have htot : tot xss ≤ 1048576 := by rw [tab_ent hl hrl]; exact tab_tot n _ hn5
  have hne0 : xss ≠ [] := by intro c; rw [c] at hl; simp at hl; omega
  have hner : ∀ i, i < xss.length → xss.getD i [] ≠ [] := fun i hi c => by have := hrl i (by omega); rw [c] at this; simp at this; omega
  have HCP := Lib.hid (copyRows_any v xss w hv hne0 hner htot)
  have HT := Lib.hid (tab_ent hl hrl)
  have HB := Lib.hid hb
  obtain ⟨a1, c1, rfl, _⟩ := hv
  rw [hl] at HCP ⊢
  clear hl hrl hb htot hne0 hner
  generalize ent xss = a0 at *
  go_enter Try.func92, Try.ntmps92
  go_wp2_with (go_at_call 119; refine HCP.out.mono ?_; rintro e w1 ⟨us0, rfl, hf1, hb1⟩)
  rw [HT.out] at hf1
  obtain ⟨G, O, C, hT1⟩ := hf1.tb
  have HR := Lib.hid (reduce_any _ _ n n n j0 a0 G O C w1 hT1 hn1 hn5 (Nat.le_refl _) (by omega) (Nat.le_refl _) HB.out)
  have hbd := lastT_bd (a := a0) (c := n) HB.out hn5
  rw [← dt_T a0 n hn1 hn5] at hbd
  unfold Bd at hbd
  obtain ⟨hbd1, hbd2⟩ := hbd
  clear hf1 hT1
  go_wp2_with fail
  refine HR.out.mono ?_
  rintro e w2 ⟨s, rfl, hs, hb2, _⟩
  clear HR HCP
  generalize hDD : dt n a0 = D at *
  have HDD := Lib.hid hDD
  clear hDD
  rcases hs with rfl | rfl
  all_goals
    go_wp2
    go_ret
    refine ⟨?_, hb1.trans hb2⟩
    first | exact ret_i64 HDD.out.symm | exact ret_i64 (by simp [HDD.out])
end Go.Proofs.Ytoglmkjmnknbbaa.PW
