/-
  Walks: the determinant without fractions, in the program: the main loop.
-/
import Derived.Test.YtbikdlpdlcmkjaaPDetW
namespace Go.Proofs.Ytbikdlpdlcmkjaa.PW
open Go.RowKit Go.Proofs.Ytbikdlpdlcmkjaa
open Go.Proofs.Ytbikdlpdlcmkjaa.PM Go.Proofs.Ytbikdlpdlcmkjaa.PX

theorem tab_sw (n c r : Nat) (f : Nat → Nat → Int) (hc : c < n) (hr : r < n) : ((tab n f).set r ((tab n f).getD c [])).set c ((tab n f).getD r []) = tab n (rowsSw c r f) := by
  rw [tab_row _ _ _ hc, tab_row _ _ _ hr]
  apply List.ext_getElem
  · simp [tab]
  · intro i h1 h2
    rw [List.getElem_set]
    simp only [tab, List.getElem_map, List.getElem_range]
    by_cases e : c = i
    · subst e
      rw [if_pos rfl]
      apply List.map_congr_left
      intro b _
      unfold rowsSw sw
      rw [if_pos rfl]
    · rw [if_neg e, List.getElem_set]
      by_cases e2 : r = i
      · subst e2
        rw [if_pos rfl]
        apply List.map_congr_left
        intro b _
        unfold rowsSw sw
        rw [if_neg (fun c => e c.symm), if_pos rfl]
      · rw [if_neg e2]
        simp only [List.getElem_map, List.getElem_range]
        apply List.map_congr_left
        intro b _
        unfold rowsSw sw
        rw [if_neg (fun c => e c.symm), if_neg (fun c => e2 c.symm)]
theorem sw_ge {c r x : Nat} (hcr : c < r) (hx : c ≤ x) : c ≤ sw c r x := by unfold sw; split <;> (try split) <;> omega
theorem sw_lt {c r x n : Nat} (hc : c < n) (hr : r < n) (hx : x < n) : sw c r x < n := by unfold sw; split <;> (try split) <;> omega
theorem lastT_sw (a : Nat → Nat → Int) (c r : Nat) (hcr : c < r) (hc : c ≤ 4) : lastT (rowsSw c r a) c = lastT a c := by
  cases c with
  | zero => rfl
  | succ c =>
    show T (rowsSw (c + 1) r a) c c c = T a c c c
    rw [T_sw a (c + 1) r c c c (by omega) hcr hc]
    have : sw (c + 1) r c = c := by unfold sw; rw [if_neg (by omega), if_neg (by omega)]
    rw [this]

/-- While the determinant is reckoned: c columns are eliminated, in rows that have been exchanged. -/
structure Dt (w wr : World) (g cap n c : Nat) (a0 a f : Nat → Nat → Int) (j0 : Nat) (us : List Value) (s : Int) : Prop where
  rows : FreshR w.heap.size wr (.slice (some ⟨g, 0, none⟩) n cap) (tab n f) us
  low : Below w.heap.size w wr
  at_ : ∀ x y, c ≤ x → x < n → c ≤ y → y < n → f x y = T a c x y
  bd : ∀ i j, Bd (20 * u j0 j) (a i j)
  last : lastT a c ≠ 0
  sign : s = 1 ∨ s = -1
  same : s * dt n a = dt n a0
theorem Dt.below {w wr w2 : World} {g cap n c j0 : Nat} {a0 a f : Nat → Nat → Int} {us : List Value} {s : Int} (h : Dt w wr g cap n c a0 a f j0 us s) (hb : Below wr.heap.size wr w2) : Dt w w2 g cap n c a0 a f j0 us s :=
  ⟨h.rows.below hb, h.low.trans (hb.mono h.low.size), h.at_, h.bd, h.last, h.sign, h.same⟩
theorem Dt.swap {w wr : World} {g cap n c r j0 : Nat} {a0 a f : Nat → Nat → Int} {us : List Value} {s : Int} (h : Dt w wr g cap n c a0 a f j0 us s) (hc : c < r) (hr : r < n) (hn : n ≤ 5) :
    Dt w ((wr.setCell ⟨g, r, none⟩ (us.getD c undef)).setCell ⟨g, c, none⟩ (us.getD r undef)) g cap n c a0 (rowsSw c r a) (rowsSw c r f) j0 ((us.set r (us.getD c undef)).set c (us.getD r undef)) (-s) := by
  have h1 := h.rows.swap (r := r) (c := c) (by rw [tab_length]; exact hr) (by rw [tab_length]; omega) (by omega)
  rw [tab_sw n c r f (by omega) hr] at h1
  obtain ⟨gt, ct, hv, hg, _⟩ := h.rows.top
  simp only [Value.slice.injEq, Option.some.injEq, Addr.mk.injEq, and_true] at hv
  have hgB : w.heap.size ≤ g := by omega
  refine ⟨h1, (h.low.setCell hgB _).setCell hgB _, fun x y hx hxn hy hyn => ?_, fun i j => h.bd _ _, ?_, by have := h.sign; omega, ?_⟩
  · rw [T_sw a c r c x y (Nat.le_refl _) hc (by omega)]
    exact h.at_ _ _ (sw_ge hc hx) (sw_lt (by omega) hr hxn) hy hyn
  · rw [lastT_sw a c r hc (by omega)]; exact h.last
  · rw [dt_sw a n c r hc hr hn]
    have := h.same
    rw [← this, Int.neg_mul_neg]
theorem Dt.zero {w wr : World} {g cap n c j0 : Nat} {a0 a f : Nat → Nat → Int} {us : List Value} {s : Int} (h : Dt w wr g cap n c a0 a f j0 us s) (hc : c < n) (hn : n ≤ 5) (hz : ∀ j, j < n - c → nz f c j = false) : dt n a0 = 0 := by
  have h0 : dt n a = 0 := dt_zero a n c hc hn h.last (fun i hi hin => by
    have := hz (i - c) (by omega)
    unfold nz at this
    rw [show c + (i - c) = i by omega] at this
    have h1 : f i c = 0 := by simpa using this
    rw [← h.at_ i c hi hin (Nat.le_refl _) hc]
    exact h1)
  rw [← h.same, h0]
  simp
theorem Dt.next {w wr w2 : World} {g cap n c j0 : Nat} {a0 a f : Nat → Nat → Int} {us : List Value} {s : Int} (h : Dt w wr g cap n c a0 a f j0 us s) (hc : c < n) (hnz : f c c ≠ 0)
    (hF : FreshR w.heap.size w2 (.slice (some ⟨g, 0, none⟩) n cap) (tab n (elim a f c n (c + 1))) us) (hb : Below w.heap.size wr w2) : Dt w w2 g cap n (c + 1) a0 a (elim a f c n (c + 1)) j0 us s :=
  ⟨hF, h.low.trans hb, fun x y hx hxn hy _ => by unfold elim; rw [if_pos ⟨⟨by omega, by omega⟩, .inl hxn⟩], h.bd, by
    show T a c c c ≠ 0
    rw [← h.at_ c c (Nat.le_refl _) hc (Nat.le_refl _) hc]
    exact hnz, h.sign, h.same⟩
theorem Dt.cc {w wr : World} {g cap n c j0 : Nat} {a0 a f : Nat → Nat → Int} {us : List Value} {s : Int} (h : Dt w wr g cap n c a0 a f j0 us s) (hc : c < n) : f c c = lastT a (c + 1) := h.at_ c c (Nat.le_refl _) hc (Nat.le_refl _) hc
theorem lastT_bd {a : Nat → Nat → Int} {j0 c : Nat} (h : ∀ i j, Bd (20 * u j0 j) (a i j)) (hc : c ≤ 5) : Bd 1920000000 (lastT a c) := by
  cases c with
  | zero => show Bd _ (1 : Int); unfold Bd; omega
  | succ c => exact (T_bd h c c c (Nat.le_refl _) (by omega)).mono (capT_le (by omega))

set_option maxRecDepth 100000 in
set_option maxHeartbeats 2000000 in
theorem determinant_any (v : Value) (xss : List (List Int)) (n j0 : Nat) (w : World) (hv : PM.Rows w v xss) (hl : xss.length = n) (hrl : ∀ i, i < n → (xss.getD i []).length = n) (hn1 : 1 ≤ n) (hn5 : n ≤ 5) (hb : ∀ i j, Bd (20 * u j0 j) (ent xss i j)) :
    Calls Try.prog 65 #[v] w fun e w' => e = .returned (.int .i64 (dt n (ent xss))) ∧ Below w.heap.size w w' := by
  have hmx : Try.prog.follows .mixedOrders = true := by kernel_rfl
  have htot : tot xss ≤ 1048576 := by rw [tab_ent hl hrl]; exact tab_tot n _ hn5
  have hne0 : xss ≠ [] := by intro c; rw [c] at hl; simp at hl; omega
  have hner : ∀ i, i < xss.length → xss.getD i [] ≠ [] := fun i hi c => by have := hrl i (by omega); rw [c] at this; simp at this; omega
  have HCP := Lib.hid (copyRows_any v xss w hv hne0 hner htot)
  have HT := Lib.hid (tab_ent hl hrl)
  have HL := Lib.hid hl
  have HB := Lib.hid hb
  obtain ⟨a1, c1, rfl, _⟩ := hv
  rw [hl] at HCP ⊢
  clear hl hrl hb htot hne0 hner
  generalize ent xss = a0 at *
  go_enter Try.func65, Try.ntmps65
  go_wp2_with (go_at_call 90; refine HCP.out.mono ?_; rintro e w1 ⟨us0, rfl, hf1, hb1⟩)
  rw [HT.out] at hf1
  have hD0 : Dt w w1 w.heap.size n n 0 a0 a0 a0 j0 us0 1 := ⟨hf1, hb1, fun x y _ _ _ _ => rfl, HB.out, (show (1 : Int) ≠ 0 by decide), .inl rfl, by simp⟩
  have HD0 := Lib.hid hD0
  clear hf1 hb1 hD0
  go_wp2
  go_loopw [4, 5, 6, 7, 12] (fun sg ls _ _ i wr => ∃ (c : Nat) (a f : Nat → Nat → Int) (us : List Value) (s : Int), c ≤ n ∧ i = .int .i64 c ∧ sg = .int .i64 s ∧ ls = .int .i64 (lastT a c) ∧ Dt w wr w.heap.size n n c a0 a f j0 us s) (fun _ _ _ _ i _ => n - (intOf i).toNat)
  case atStart => exact ⟨0, a0, a0, us0, 1, Nat.zero_le _, rfl, rfl, rfl, HD0.out⟩
  case round =>
    obtain ⟨c, a, f, us, s, hc, rfl, rfl, rfl, hD⟩ := hrel
    by_cases hlt : c < n
    · have hne : ¬ n = c := by omega
      have hidx := fun (w' : World) (h : Below wr.heap.size wr w') (Bc : Nat) (hB) => indexFunc_any w.heap.size w.heap.size n (n - c) n c (n - c) Bc f us w' (hD.below h).rows hlt hn5 (by omega) hB
      have HD := Lib.hid hD
      clear hD
      rcases srch_cases (nz f c) (n - c) 0 with ⟨hs1, hs2⟩ | ⟨j, hj1, hj2, hs1, hs2⟩
      · have hz := HD.out.zero hlt hn5 (fun j hj => hs2 j (Nat.zero_le _) (by omega))
        rw [hs1] at hidx
        have HI := Lib.hid hidx
        have HZ := Lib.hid hz
        have hlow := HD.out.low
        clear hidx hz hs1 hs2
        go_wp2
        go_quiet ((go_at_call 99; exact Calls.quiet_of_same (HI.out _ (by (repeat' (first | (with_reducible exact Below.refl _ _) | (with_reducible assumption) | (with_reducible refine Below.alloc ?_ ?_ _) | (with_reducible refine Below.drew ?_) | (with_reducible refine below_drewN ?_ _) | (with_reducible refine Below.setCell ?_ ?_ _) | (with_reducible refine Below.trans ?_ (Below.mono (by with_reducible assumption) ?_)) | (with_reducible exact Below.size (by with_reducible assumption)) | go_size))) _ (by simp))))
        go_wp2
        go_ret
        refine ⟨ret_i64 HZ.out.symm, ?_⟩
        exact hlow.trans (Below.mono (by (repeat' (first | (with_reducible exact Below.refl _ _) | (with_reducible assumption) | (with_reducible refine Below.alloc ?_ ?_ _) | (with_reducible refine Below.drew ?_) | (with_reducible refine below_drewN ?_ _) | (with_reducible refine Below.setCell ?_ ?_ _) | (with_reducible refine Below.trans ?_ (Below.mono (by with_reducible assumption) ?_)) | (with_reducible exact Below.size (by with_reducible assumption)) | go_size))) hlow.size)
      · rw [hs1] at hidx
        have HI := Lib.hid hidx
        have HS2 := Lib.hid hs2
        clear hidx hs1 hs2
        have hj5 : c + j < n := by omega
        have HNZ0 := Lib.hid (show f (c + j) c ≠ 0 by have := HS2.out; unfold nz at this; simpa using this)
        have HRZ : Hid (∀ i b, i < n → (us.getD i undef).ownBlock = some b → w.heap.size ≤ b ∧ b < wr.heap.size) := Lib.hid (fun i b hi hb => HD.out.rows.rows i b (by rw [tab_length]; exact hi) hb)
        clear hj1 hj2
        by_cases hj0 : j = 0
        · subst hj0
          have HNZ : Hid (f c c ≠ 0) := Lib.hid (by have := HNZ0.out; simpa using this)
          go_wp2
          go_quiet ((go_at_call 99; exact Calls.quiet_of_same (HI.out _ (by (repeat' (first | (with_reducible exact Below.refl _ _) | (with_reducible assumption) | (with_reducible refine Below.alloc ?_ ?_ _) | (with_reducible refine Below.drew ?_) | (with_reducible refine below_drewN ?_ _) | (with_reducible refine Below.setCell ?_ ?_ _) | (with_reducible refine Below.trans ?_ (Below.mono (by with_reducible assumption) ?_)) | (with_reducible exact Below.size (by with_reducible assumption)) | go_size))) _ (by simp))))
          obtain ⟨W2, hW2⟩ : ∃ W2, W2 = (wr.alloc (.cells #[.int .i64 c] 3)).drewN nq := ⟨_, rfl⟩
          have hbW : Below wr.heap.size wr W2 := by rw [hW2]; (repeat' (first | (with_reducible exact Below.refl _ _) | (with_reducible assumption) | (with_reducible refine Below.alloc ?_ ?_ _) | (with_reducible refine Below.drew ?_) | (with_reducible refine below_drewN ?_ _) | (with_reducible refine Below.setCell ?_ ?_ _) | (with_reducible refine Below.trans ?_ (Below.mono (by with_reducible assumption) ?_)) | (with_reducible exact Below.size (by with_reducible assumption)) | go_size))
          have hbx : W2.cell? ⟨wr.heap.size, 0, none⟩ = some (.int .i64 c) := by rw [hW2]; simp
          rw [← hW2]
          clear hW2 HI HS2
          have hD2 := HD.out.below hbW
          have hbl := lastT_bd (c := c) hD2.bd (by omega)
          have hcc : f c c ≠ 0 := HNZ.out
          have HD2 := Lib.hid hD2
          have HE := Lib.hid (eliminate_any w.heap.size w.heap.size n n c a f j0 us W2 hD2.rows hn5 hlt hD2.at_ hD2.last hbl hD2.bd)
          have hrz : ∀ b, b ∈ rblks us → w.heap.size ≤ b ∧ b < wr.heap.size := fun b hb => by
            obtain ⟨i, hi, hb'⟩ := of_mem_rblks hb
            exact HRZ.out i b (by have := HD2.out.rows.own.len; rw [tab_length] at this; omega) hb'
          have HRB := Lib.hid hrz
          clear hbl hcc hrz hD2
          go_wp2_with fail
          refine HE.out.mono ?_
          rintro e w4 ⟨⟨ve, rfl⟩, hF4, hT4⟩
          have hB4 : Below w.heap.size W2 w4 := hT4.below (fun b hb => (HRB.out b hb).1)
          have hD4 := HD2.out.next hlt HNZ.out hF4 hB4
          have hbx4 : w4.cell? ⟨wr.heap.size, 0, none⟩ = some (.int .i64 c) := (World.cell?_of_block (w := W2) (a := ⟨wr.heap.size, 0, none⟩) (hT4.block _ (fun c' => absurd (HRB.out _ c').2 (Nat.lt_irrefl _)))).trans hbx
          obtain ⟨gc, cc, hu4⟩ := hD4.rows.shape hlt
          have ht4 := (hD4.rows.topAt hlt).1
          rw [hu4] at ht4
          have he4 := (hD4.rows.cellAt hlt hlt hu4).1
          rw [show elim a f c n (c + 1) c c = lastT a (c + 1) from (elim_old (by omega)).trans (HD2.out.cc hlt)] at he4
          have HD4 := Lib.hid hD4
          clear hD4 hF4 hT4 hB4 hu4
          generalize hLn : lastT a (c + 1) = L' at *
          have HLN := Lib.hid hLn
          clear hLn
          go_wp2_with fail
          go_quiet (fail)
          go_wp2_with fail
          go_roundw
          case rel => exact ⟨c + 1, _, _, _, _, by omega, by go_num, rfl, by rw [HLN.out], HD4.out.below (by (repeat' (first | (with_reducible exact Below.refl _ _) | (with_reducible assumption) | (with_reducible refine Below.alloc ?_ ?_ _) | (with_reducible refine Below.drew ?_) | (with_reducible refine below_drewN ?_ _) | (with_reducible refine Below.setCell ?_ ?_ _) | (with_reducible refine Below.trans ?_ (Below.mono (by with_reducible assumption) ?_)) | (with_reducible exact Below.size (by with_reducible assumption)) | go_size)))⟩
          case measure => simp [intOf]; omega
        · have htr := (HD.out.rows.topAt hj5).1
          obtain ⟨gr, cr, hur⟩ := HD.out.rows.shape hj5
          obtain ⟨gk, ck, huk⟩ := HD.out.rows.shape hlt
          have HUR := Lib.hid hur
          have HUK := Lib.hid huk
          clear hur huk htr
          go_wp2
          go_quiet ((go_at_call 99; exact Calls.quiet_of_same (HI.out _ (by (repeat' (first | (with_reducible exact Below.refl _ _) | (with_reducible assumption) | (with_reducible refine Below.alloc ?_ ?_ _) | (with_reducible refine Below.drew ?_) | (with_reducible refine below_drewN ?_ _) | (with_reducible refine Below.setCell ?_ ?_ _) | (with_reducible refine Below.trans ?_ (Below.mono (by with_reducible assumption) ?_)) | (with_reducible exact Below.size (by with_reducible assumption)) | go_size))) _ (by simp))))
          obtain ⟨W1, hW1⟩ : ∃ W1, W1 = (wr.alloc (.cells #[.int .i64 c] 3)).drewN nq := ⟨_, rfl⟩
          have hbW : Below wr.heap.size wr W1 := by rw [hW1]; (repeat' (first | (with_reducible exact Below.refl _ _) | (with_reducible assumption) | (with_reducible refine Below.alloc ?_ ?_ _) | (with_reducible refine Below.drew ?_) | (with_reducible refine below_drewN ?_ _) | (with_reducible refine Below.setCell ?_ ?_ _) | (with_reducible refine Below.trans ?_ (Below.mono (by with_reducible assumption) ?_)) | (with_reducible exact Below.size (by with_reducible assumption)) | go_size))
          have hbx1 : W1.cell? ⟨wr.heap.size, 0, none⟩ = some (.int .i64 c) := by rw [hW1]; simp
          rw [← hW1]
          clear hW1 HI HS2
          have hD1 := HD.out.below hbW
          obtain ⟨t1, z1⟩ := hD1.rows.topAt hj5
          obtain ⟨t2, z2⟩ := hD1.rows.topAt hlt
          rw [HUR.out] at t1
          rw [HUK.out] at t2
          have hgw : w.heap.size < wr.heap.size := by obtain ⟨g, cc, hv, _, h2⟩ := HD.out.rows.top; simp only [Value.slice.injEq, Option.some.injEq, Addr.mk.injEq] at hv; omega
          have hsw := hD1.swap (r := c + j) (by omega) hj5 hn5
          rw [HUR.out, HUK.out] at hsw
          have HSW := Lib.hid hsw
          have HNZ : Hid (rowsSw c (c + j) f c c ≠ 0) := Lib.hid (by have := HNZ0.out; unfold rowsSw sw; rw [if_pos rfl]; exact this)
          clear hsw hD1
          go_wp2_with fail
          have hn1' : ¬ c + j = c := by omega
          have hn2' : ¬ c = c + j := by omega
          have hsg1 : -1 ≤ s ∧ s ≤ 1 := by rcases HD.out.sign with h | h <;> omega
          obtain ⟨hsg1, hsg2⟩ := hsg1
          have hbx2 : (((W1.setCell ⟨w.heap.size, c + j, none⟩ (.slice (some ⟨gk, 0, none⟩) n ck)).setCell ⟨w.heap.size, c, none⟩ (.slice (some ⟨gr, 0, none⟩) n cr)).drew).cell? ⟨wr.heap.size, 0, none⟩ = some (.int .i64 c) :=
            (World.cell?_of_block (w := W1) (a := ⟨wr.heap.size, 0, none⟩) ((Below.heap_setCell _ _ _ _ (by show wr.heap.size ≠ w.heap.size; omega)).trans (Below.heap_setCell _ _ _ _ (by show wr.heap.size ≠ w.heap.size; omega)))).trans hbx1
          have HRZ2 : Hid (∀ i b, i < n → ((((us.set (c + j) (.slice (some ⟨gk, 0, none⟩) n ck)).set c (.slice (some ⟨gr, 0, none⟩) n cr))).getD i undef).ownBlock = some b → w.heap.size ≤ b ∧ b < wr.heap.size) := Lib.hid (fun i b hi hb => by
            have hul := HD.out.rows.own.len
            rw [tab_length] at hul
            by_cases e : i = c
            · subst e
              rw [getD_set_self _ _ _ _ (by simp; omega)] at hb
              exact HRZ.out (i + j) b hj5 (by rw [HUR.out]; exact hb)
            · rw [getD_set_ne _ _ _ e] at hb
              by_cases e2 : i = c + j
              · rw [e2, getD_set_self _ _ _ _ (by omega)] at hb
                exact HRZ.out c b hlt (by rw [HUK.out]; exact hb)
              · rw [getD_set_ne _ _ _ e2] at hb
                exact HRZ.out i b hi hb)
          go_region
          obtain ⟨W2, hW2⟩ : ∃ W2, W2 = ((W1.setCell ⟨w.heap.size, c + j, none⟩ (.slice (some ⟨gk, 0, none⟩) n ck)).setCell ⟨w.heap.size, c, none⟩ (.slice (some ⟨gr, 0, none⟩) n cr)).drew := ⟨_, rfl⟩
          have hD2 := HSW.out.below (Below.refl _ _).drew
          rw [← hW2] at hD2 hbx2 ⊢
          have hbx := hbx2
          have hzW : W1.heap.size = W2.heap.size := by rw [hW2]; simp
          clear hW2 t1 t2 z1 z2 hbx1 hbx2
          have hbl := lastT_bd (c := c) hD2.bd (by omega)
          have hcc : (rowsSw c (c + j) f) c c ≠ 0 := HNZ.out
          have HD2 := Lib.hid hD2
          have he0 := eliminate_any w.heap.size w.heap.size n n c (rowsSw c (c + j) a) (rowsSw c (c + j) f) j0 ((us.set (c + j) (.slice (some ⟨gk, 0, none⟩) n ck)).set c (.slice (some ⟨gr, 0, none⟩) n cr)) W2 hD2.rows hn5 hlt hD2.at_ hD2.last hbl hD2.bd
          rw [lastT_sw a c (c + j) (by omega) (by omega)] at he0
          have HE := Lib.hid he0
          clear he0
          have hrz : ∀ b, b ∈ rblks ((us.set (c + j) (.slice (some ⟨gk, 0, none⟩) n ck)).set c (.slice (some ⟨gr, 0, none⟩) n cr)) → w.heap.size ≤ b ∧ b < wr.heap.size := fun b hb => by
            obtain ⟨i, hi, hb'⟩ := of_mem_rblks hb
            exact HRZ2.out i b (by have := HD2.out.rows.own.len; rw [tab_length] at this; omega) hb'
          have HRB := Lib.hid hrz
          clear hbl hcc hrz hD2
          go_wp2_with fail
          refine HE.out.mono ?_
          rintro e w4 ⟨⟨ve, rfl⟩, hF4, hT4⟩
          have hB4 : Below w.heap.size W2 w4 := hT4.below (fun b hb => (HRB.out b hb).1)
          have hD4 := HD2.out.next hlt HNZ.out hF4 hB4
          have hbx4 : w4.cell? ⟨wr.heap.size, 0, none⟩ = some (.int .i64 c) := (World.cell?_of_block (w := W2) (a := ⟨wr.heap.size, 0, none⟩) (hT4.block _ (fun c' => absurd (HRB.out _ c').2 (Nat.lt_irrefl _)))).trans hbx
          obtain ⟨gc, cc, hu4⟩ := hD4.rows.shape hlt
          have ht4 := (hD4.rows.topAt hlt).1
          rw [hu4] at ht4
          have he4 := (hD4.rows.cellAt hlt hlt hu4).1
          rw [show elim (rowsSw c (c + j) a) (rowsSw c (c + j) f) c n (c + 1) c c = lastT (rowsSw c (c + j) a) (c + 1) from (elim_old (by omega)).trans (HD2.out.cc hlt)] at he4
          have HD4 := Lib.hid hD4
          clear hD4 hF4 hT4 hB4 hu4
          generalize hLn : lastT (rowsSw c (c + j) a) (c + 1) = L' at *
          have HLN := Lib.hid hLn
          clear hLn
          go_wp2_with fail
          go_quiet (fail)
          go_wp2_with fail
          go_roundw
          case rel => exact ⟨c + 1, _, _, _, _, by omega, by go_num, rfl, by rw [HLN.out], HD4.out.below (by (repeat' (first | (with_reducible exact Below.refl _ _) | (with_reducible assumption) | (with_reducible refine Below.alloc ?_ ?_ _) | (with_reducible refine Below.drew ?_) | (with_reducible refine below_drewN ?_ _) | (with_reducible refine Below.setCell ?_ ?_ _) | (with_reducible refine Below.trans ?_ (Below.mono (by with_reducible assumption) ?_)) | (with_reducible exact Below.size (by with_reducible assumption)) | go_size)))⟩
          case measure => simp [intOf]; omega
    · obtain rfl : c = n := by omega
      have hz : s * lastT a c = dt c a0 := by rw [← dt_T a c hn1 hn5]; exact hD.same
      have hbd := lastT_bd (c := c) hD.bd hn5
      unfold Bd at hbd
      obtain ⟨hbd1, hbd2⟩ := hbd
      have hlow := hD.low
      have hsg := hD.sign
      have HZ := Lib.hid hz
      clear hz hD
      generalize lastT a c = L at *
      rcases hsg with rfl | rfl
      all_goals
        go_wp2
        go_ret
        exact ⟨ret_i64 (by rw [← HZ.out]; simp), hlow⟩
end Go.Proofs.Ytbikdlpdlcmkjaa.PW
