/-
  Walks: the equations of a set in a table, in the program.
-/
import Derived.Test.YthnefjllijoobaaDoorRTab
import Derived.Test.YthnefjllijoobaaDoorPPtB
import Derived.Laws.IdiomCopy
namespace Go.Proofs.YthnefjllijoobaaDoor.PW
open Go.RowKit Go.Proofs.YthnefjllijoobaaDoor
open Go.Proofs.YthnefjllijoobaaDoor.PM Go.Proofs.YthnefjllijoobaaDoor.PX

theorem isPB_q {M : List (List Int)} {Q : List Int} (hp : isPB M Q = true) (j : Nat) : Bd 100 (Q.getD j 0) := by
  obtain ⟨_, _, _, _, f5⟩ := isPB_facts hp
  by_cases h : j < Q.length
  · have := f5 j h; unfold Bd; omega
  · rw [List.getD_eq_getElem?_getD, List.getElem?_eq_none (by omega)]; unfold Bd; simp
/-- What a set lacks. -/
def cmplI (n : Nat) (s : Int) : Int := bits BinOp.andNot IntKind.i64 ((2 : Int) ^ n - 1) s
theorem cmpl_dec : ∀ (n : Fin 6) (x : Fin 32), (x.val : Int) < 2 ^ n.val → (0 ≤ cmplI n.val (x.val : Int) ∧ cmplI n.val (x.val : Int) < 2 ^ n.val) ∧ ∀ k : Fin 5, k.val < n.val → bit (cmplI n.val (x.val : Int)) k.val = !(bit (x.val : Int) k.val) := by decide +kernel
theorem pow_le_32 {n : Nat} (hn : n ≤ 5) : (2 : Int) ^ n ≤ 32 := by
  obtain rfl | rfl | rfl | rfl | rfl | rfl : n = 0 ∨ n = 1 ∨ n = 2 ∨ n = 3 ∨ n = 4 ∨ n = 5 := by omega
  all_goals decide
theorem cmpl_in {n : Nat} {s : Int} (hn : n ≤ 5) (h0 : 0 ≤ s) (h1 : s < 2 ^ n) : 0 ≤ cmplI n s ∧ cmplI n s < 2 ^ n := by
  have hp := pow_le_32 hn
  obtain ⟨a, rfl⟩ := Int.eq_ofNat_of_zero_le h0
  exact (cmpl_dec ⟨n, by omega⟩ ⟨a, by omega⟩ h1).1
theorem cmpl_bit {n k : Nat} {s : Int} (hn : n ≤ 5) (h0 : 0 ≤ s) (h1 : s < 2 ^ n) (hk : k < n) : bit (cmplI n s) k = !(bit s k) := by
  have hp := pow_le_32 hn
  obtain ⟨a, rfl⟩ := Int.eq_ofNat_of_zero_le h0
  exact (cmpl_dec ⟨n, by omega⟩ ⟨a, by omega⟩ h1).2 ⟨k, by omega⟩ hk

/-- The factors of the k-th outer number. -/
def outG (M : List (List Int)) (s : Int) (i k : Nat) : Int := if bit s k = true then (if k = i then -1 else 0) else ent M i k
theorem outG_cols {M : List (List Int)} {s : Int} (hn : M.length ≤ 5) (h0 : 0 ≤ s) (h1 : s < 2 ^ M.length) (i : Nat) {k : Nat} (hk : k < M.length) : - colS M (cmplI M.length s) i k = outG M s i k := by
  unfold colS outG
  rw [cmpl_bit hn h0 h1 hk]
  cases bit s k
  · simp
  · simp [unitG]; split <;> rfl
/-- The table of the equations. -/
def eqF (M : List (List Int)) (Q : List Int) (s : Int) (i k : Nat) : Int :=
  if k < M.length then colS M s i k else if k < 2 * M.length then outG M s i (k - M.length) else if k = 2 * M.length then Q.getD i 0 else 0
/-- While it is filled: the first i rows, and of the row i the numbers that P tells. -/
def eqK (M : List (List Int)) (Q : List Int) (s : Int) (i : Nat) (P : Nat → Bool) (a b : Nat) : Int := if a < i ∨ (a = i ∧ P b = true) then eqF M Q s a b else 0
/-- Numbers from the head of a row on are stored. -/
theorem Tb.copy {B g n m i : Nat} {w : World} {G O C : Nat → Nat} {f : Nat → Nat → Int} (h : Tb B w g n m G O C f) (hi : i < n) (xs : List Int) (hx : xs.length ≤ m) :
    Tb B (w.setCells (G i) (O i) (xs.map (Value.int .i64))) g n m G O C (fun a b => if a = i ∧ b < xs.length then xs.getD b 0 else f a b) := by
  have hsz : ∀ (vs : List Value) (b o : Nat) (w : World), (w.setCells b o vs).heap.size = w.heap.size := fun vs => by
    induction vs with
    | nil => intro b o w; rfl
    | cons v r ih => intro b o w; rw [World.setCells, ih]; simp
  refine ⟨h.lo, by rw [hsz]; exact h.hi, h.glo, fun j hj => by rw [hsz]; exact h.ghi j hj, h.over, fun j hj => ⟨?_, by rw [World.frozen?_setCells]; exact (h.top j hj).2⟩, fun j l hj hl => ⟨?_, by rw [World.frozen?_setCells]; exact (h.cell j l hj hl).2⟩, h.apart, h.cap⟩
  · rw [World.cell?_setCells_out _ _ _ _ _ (fun e _ => absurd e (fun e => h.over i hi e.symm))]
    exact (h.top j hj).1
  · by_cases e : j = i ∧ l < xs.length
    · obtain ⟨rfl, e2⟩ := e
      rw [if_pos ⟨rfl, e2⟩, World.cell?_setCells_in _ _ _ _ (fun q hq => by rw [(h.cell j q hj (by simp at hq; omega)).1]; rfl) l (by simpa using e2)]
      simp [e2]
    · rw [if_neg e, World.cell?_setCells_out _ _ _ _ _ (fun e1 _ => by
        simp only [List.length_map]
        by_cases c : O j + l < O i ∨ O i + xs.length ≤ O j + l
        · exact c
        · exfalso
          have := h.apart i j (O j + l - O i) l hi hj (by omega) hl e1.symm (by omega)
          exact e ⟨this.1.symm, by omega⟩)]
      exact (h.cell j l hj hl).1

theorem wholeSet_is (n : Nat) (hn : n ≤ 5) (w : World) : Calls Tryd.prog 64 #[.int .i64 n] w fun e w' => e = .returned (.int .i64 ((2 : Int) ^ n - 1)) ∧ w = w' := by
  obtain rfl | rfl | rfl | rfl | rfl | rfl : n = 0 ∨ n = 1 ∨ n = 2 ∨ n = 3 ∨ n = 4 ∨ n = 5 := by omega
  all_goals
    go_enter Tryd.func64, Tryd.ntmps64
    go_wp2
    all_goals (go_ret; exact ⟨rfl, rfl⟩)
theorem add_at (b o j : Nat) : (⟨b, o, none⟩ : Addr).add j = ⟨b, o + j, none⟩ := by unfold Addr.add; split <;> simp_all

/-- The filled part grows. -/
theorem eqK_start (M : List (List Int)) (Q : List Int) (s : Int) (a b : Nat) : (0 : Int) = eqK M Q s 0 (fun _ => false) a b := by unfold eqK; rw [if_neg (by simp)]
theorem eqK_copy {M : List (List Int)} {Q : List Int} {s : Int} {i : Nat} (xs : List Int) (hx : xs = (List.range M.length).map (colS M s i)) (a b : Nat) :
    (if a = i ∧ b < xs.length then xs.getD b 0 else eqK M Q s i (fun _ => false) a b) = eqK M Q s i (fun b => decide (b < M.length)) a b := by
  subst hx
  unfold eqK
  by_cases e : a = i
  · subst e
    by_cases e2 : b < M.length
    · rw [if_pos ⟨rfl, by simpa using e2⟩, if_pos (.inr ⟨rfl, by simpa using e2⟩)]
      unfold eqF
      rw [if_pos e2, row_getD _ _ _ e2]
    · rw [if_neg (fun h => e2 (by simpa using h.2)), if_neg (by simp), if_neg (by simp [e2])]
  · rw [if_neg (fun h => e h.1)]
    by_cases e3 : a < i
    · rw [if_pos (.inl e3), if_pos (.inl e3)]
    · rw [if_neg (by simp [e3]), if_neg (fun h => by rcases h with h | h; exact e3 h; exact e h.1)]
theorem eqK_out {M : List (List Int)} {Q : List Int} {s : Int} {i k : Nat} (hk : k < M.length) (a b : Nat) :
    upd (eqK M Q s i (fun b => decide (b < M.length + k))) i (M.length + k) (outG M s i k) a b = eqK M Q s i (fun b => decide (b < M.length + (k + 1))) a b := by
  unfold upd eqK
  by_cases e : a = i ∧ b = M.length + k
  · obtain ⟨rfl, rfl⟩ := e
    rw [if_pos ⟨rfl, rfl⟩, if_pos (.inr ⟨rfl, by simp⟩)]
    unfold eqF
    rw [if_neg (by omega), if_pos (by omega), Nat.add_sub_cancel_left]
  · rw [if_neg e]
    by_cases e2 : a < i ∨ (a = i ∧ decide (b < M.length + k) = true)
    · rw [if_pos e2, if_pos (by rcases e2 with h | h; exact .inl h; exact .inr ⟨h.1, by have := h.2; simp at this ⊢; omega⟩)]
    · rw [if_neg e2, if_neg (fun h => by
        rcases h with h | h
        · exact e2 (.inl h)
        · have h2 := h.2
          simp at h2
          by_cases c : b < M.length + k
          · exact e2 (.inr ⟨h.1, by simpa using c⟩)
          · exact e ⟨h.1, by omega⟩)]
theorem eqK_side {M : List (List Int)} {Q : List Int} {s : Int} {i : Nat} (a b : Nat) (hb : b < 2 * M.length + 1) :
    upd (eqK M Q s i (fun b => decide (b < M.length + M.length))) i (2 * M.length) (Q.getD i 0) a b = eqK M Q s (i + 1) (fun _ => false) a b := by
  unfold upd eqK
  by_cases e : a = i ∧ b = 2 * M.length
  · obtain ⟨rfl, rfl⟩ := e
    rw [if_pos ⟨rfl, rfl⟩, if_pos (.inl (by omega))]
    unfold eqF
    rw [if_neg (by omega), if_neg (by omega), if_pos rfl]
  · rw [if_neg e]
    by_cases c : a < i ∨ (a = i ∧ decide (b < M.length + M.length) = true)
    · rw [if_pos c, if_pos (by rcases c with h | h <;> exact .inl (by omega))]
    · rw [if_neg c, if_neg (fun h => by
        rcases h with h | h
        · by_cases c2 : a < i
          · exact c (.inl c2)
          · have ha : a = i := by omega
            by_cases c3 : b < M.length + M.length
            · exact c (.inr ⟨ha, by simpa using c3⟩)
            · exact e ⟨ha, by omega⟩
        · have := h.2; simp at this)]
theorem eqK_end {M : List (List Int)} {Q : List Int} {s : Int} {a : Nat} (b : Nat) (ha : a < M.length) : eqK M Q s M.length (fun _ => false) a b = eqF M Q s a b := by unfold eqK; rw [if_pos (.inl ha)]

set_option maxRecDepth 100000 in
set_option maxHeartbeats 8000000 in
theorem equationsOf_any (m q : Value) (M : List (List Int)) (Q : List Int) (s : Int) (w : World) (h1 : PM.Rows w m M) (h2 : Ints w q Q) (hp : isPB M Q = true) (hs0 : 0 ≤ s) (hs1 : s < 2 ^ M.length) :
    Calls Tryd.prog 74 #[.agg #[m, q], .int .i64 s] w fun e w' => ∃ g G O C, e = .returned (.slice (some ⟨g, 0, none⟩) M.length M.length) ∧ Tb w.heap.size w' g M.length (2 * M.length + 1) G O C (eqF M Q s) ∧ Below w.heap.size w w' := by
  have g1 := fun (w' : World) (h : Below w.heap.size w w') => h1.below h
  have g2 := fun (w' : World) (h : Below w.heap.size w w') => h2.below h
  obtain ⟨f1, f2, f3, f4, f5⟩ := isPB_facts hp
  obtain ⟨bq, oq, cq, hqv, hbq, hcq⟩ := ints_at h2 f3 f1
  have hcmp := cmpl_in f2 hs0 hs1
  have HC1 := Lib.hid (colsOut_ok (setCode_ok (Q := Q) (s := s) hp (show ¬ (s < 0 ∨ (2 : Int) ^ M.length ≤ s) by omega)))
  have HC2 := Lib.hid (colsOut_ok (setCode_ok (Q := Q) (s := cmplI M.length s) hp (show ¬ (cmplI M.length s < 0 ∨ (2 : Int) ^ M.length ≤ cmplI M.length s) by omega)))
  have HTL := Lib.hid (fun s => tab_length M.length (colS M s))
  have HA := Lib.hid (fun s => colS_all hp s)
  have HOG := Lib.hid (fun (i k : Nat) (hk : k < M.length) => outG_cols f2 hs0 hs1 i hk)
  have HB5 := Lib.hid (fun i => isPB_q hp i)
  subst hqv
  obtain ⟨a1, c1, rfl, _⟩ := h1
  have hcq' := fun k (hk : k < M.length) => hcq k (by rw [f3]; exact hk)
  clear hp hs0 hs1 hcmp f3 f4 f5 h2 hcq
  go_enter Tryd.func74, Tryd.ntmps74
  go_wp2_with fail
  obtain ⟨W0, hW0⟩ : ∃ W0, W0 = w.alloc (.cells #[.slice a1 M.length c1, .slice (some ⟨bq, oq, none⟩) M.length cq] 31) := ⟨_, rfl⟩
  have hb0 : Below w.heap.size w W0 := by rw [hW0]; exact (Below.refl _ _).alloc (Nat.le_refl _) _
  have hz0 : W0.heap.size = w.heap.size + 1 := by rw [hW0]; simp
  have k1 : ∀ w', Below W0.heap.size W0 w' → w'.cell? ⟨w.heap.size, 0, none⟩ = some (.slice a1 M.length c1) := fun w' h => (h.cell (p := ⟨w.heap.size, 0, none⟩) (by show w.heap.size < _; omega)).trans (by rw [hW0]; simp)
  have k2 : ∀ w', Below W0.heap.size W0 w' → w'.cell? ⟨w.heap.size, 1, none⟩ = some (.slice (some ⟨bq, oq, none⟩) M.length cq) := fun w' h => (h.cell (p := ⟨w.heap.size, 1, none⟩) (by show w.heap.size < _; omega)).trans (by rw [hW0]; simp)
  have k3 : ∀ w', Below W0.heap.size W0 w' → Below w.heap.size w w' := fun w' h => hb0.trans (h.mono hb0.size)
  have hcl := fun (s : Int) (w' : World) (h : Below W0.heap.size W0 w') => implColumnsOf_any (.slice a1 M.length c1) (.slice (some ⟨bq, oq, none⟩) M.length cq) M Q s w' (g1 w' (k3 w' h)) (g2 w' (k3 w' h))
  have HCL := Lib.hid hcl
  rw [← hW0]
  have HW0 := Lib.hid hW0
  clear hW0 hcl
  refine (HCL.out s _ (Below.refl _ _)).mono ?_; rw [HC1.out]; rintro e w1 ho; obtain ⟨a3, c3, rfl, hr3, hb1⟩ := ho.out; dsimp only at hr3; dsimp only; rw [HTL.out] at hr3 ⊢; clear ho
  have hR3 := hr3.rows (tab_I64 (B := 20) (by decide) (fun i j _ _ => HA.out s i j))
  have HR3 := Lib.hid hR3
  have k11 : ∀ w', Below w1.heap.size w1 w' → w'.cell? ⟨w.heap.size, 0, none⟩ = some (.slice a1 M.length c1) := fun w' h => k1 w' (hb1.trans (h.mono hb1.size))
  have k21 : ∀ w', Below w1.heap.size w1 w' → w'.cell? ⟨w.heap.size, 1, none⟩ = some (.slice (some ⟨bq, oq, none⟩) M.length cq) := fun w' h => k2 w' (hb1.trans (h.mono hb1.size))
  clear hr3 hR3
  go_wp2_with fail
  go_region_held3 (fun w' => Below w1.heap.size w1 w') ((repeat' (first | (with_reducible exact Below.refl _ _) | (with_reducible assumption) | (with_reducible refine Below.alloc ?_ ?_ _) | (with_reducible refine Below.drew ?_) | (with_reducible refine below_drewN ?_ _) | (with_reducible refine Below.setCell ?_ ?_ _) | (with_reducible refine Below.trans ?_ (Below.mono (by with_reducible assumption) ?_)) | (with_reducible exact Below.size (by with_reducible assumption)) | go_size)))
    (first
      | (go_at_call 64; refine (wholeSet_is M.length f2 _).mono ?_; rintro e w2 ⟨rfl, rfl⟩)
      | (go_at_call 87; refine (HCL.out (cmplI M.length s) _ (hb1.trans (Below.mono (by (repeat' (first | (with_reducible exact Below.refl _ _) | (with_reducible assumption) | (with_reducible refine Below.alloc ?_ ?_ _) | (with_reducible refine Below.drew ?_) | (with_reducible refine below_drewN ?_ _) | (with_reducible refine Below.setCell ?_ ?_ _) | (with_reducible refine Below.trans ?_ (Below.mono (by with_reducible assumption) ?_)) | (with_reducible exact Below.size (by with_reducible assumption)) | go_size))) hb1.size))).mono ?_; rw [HC2.out]; rintro e w2 ho; obtain ⟨a4, c4, rfl, hr4, hb2⟩ := ho.out; dsimp only at hr4; dsimp only; rw [HTL.out] at hr4 ⊢; have HR4 := Lib.hid (hr4.rows (tab_I64 (B := 20) (by decide) (fun i j _ _ => HA.out (cmplI M.length s) i j))); clear ho hr4; have hS2 : Below w1.heap.size w1 w2 := (by (repeat' (first | (with_reducible exact Below.refl _ _) | (with_reducible assumption) | (with_reducible refine Below.alloc ?_ ?_ _) | (with_reducible refine Below.drew ?_) | (with_reducible refine below_drewN ?_ _) | (with_reducible refine Below.setCell ?_ ?_ _) | (with_reducible refine Below.trans ?_ (Below.mono (by with_reducible assumption) ?_)) | (with_reducible exact Below.size (by with_reducible assumption)) | go_size)))))
  have hw2 : Below w.heap.size w w2 := k3 _ (hb1.trans (hS2.mono hb1.size))
  have hR3 := HR3.out.below hS2
  obtain ⟨b3, o3, d3, e3, hb3, hC3⟩ := rows_at hR3 f1
  obtain ⟨b4, o4, d4, e4, hb4, hC4⟩ := rows_at HR4.out f1
  simp only [Value.slice.injEq] at e3 e4
  obtain ⟨rfl, _, rfl⟩ := e3
  obtain ⟨rfl, _, rfl⟩ := e4
  have k12 := k1 w2 (hb1.trans (hS2.mono hb1.size))
  have k22 := k2 w2 (hb1.trans (hS2.mono hb1.size))
  have hx0 := World.block_lt_of_cell? w2 _ k22
  have hbq2 : bq < w2.heap.size := Nat.lt_of_lt_of_le hbq hw2.size
  have HCQ := Lib.hid (fun k hk => (hw2.cell (p := ⟨bq, oq + k, none⟩) hbq).trans (hcq' k hk))
  have HC3 := Lib.hid hC3
  have HC4 := Lib.hid hC4
  clear hR3 hC3 hC4 k11 k21 k1 k2 HCL HR3 HR4 hcq'
  go_wp2_with fail
  refine (newTable_any M.length (2 * M.length + 1) f1 f2 rfl w2).mono ?_
  rintro e w4 ⟨rfl, hT, hbT⟩
  have HT := Lib.hid hT
  have HBT := Lib.hid hbT
  generalize hG : (fun _ : Nat => w2.heap.size) = G at *
  generalize hO : (fun i : Nat => i * (2 * M.length + 1)) = O at *
  generalize hC : (fun _ : Nat => 2 * M.length + 1) = C at *
  clear hG hO hC hT hbT
  go_wp2_with fail
  go_loopw [11, 12, 13, 14, 40] (fun _ _ _ _ i wr => ∃ k : Nat, k ≤ M.length ∧ i = .int .i64 k ∧ Tb w2.heap.size wr (w2.heap.size + 1) M.length (2 * M.length + 1) G O C (eqK M Q s k (fun _ => false)) ∧ Below w2.heap.size w2 wr) (fun _ _ _ _ i _ => M.length - (intOf i).toNat)
  case atStart => exact ⟨0, Nat.zero_le _, by go_num, HT.out.congr (fun a b _ _ => eqK_start M Q s a b), HBT.out⟩
  case round =>
    obtain ⟨i, hi, rfl, hT, hB⟩ := hrel
    by_cases hlt : i < M.length
    · have t0 := (hT.top i hlt).1
      obtain ⟨b3i, o3i, c3i, t3, _, hb3i, hc3⟩ := HC3.out i hlt
      obtain ⟨b4i, o4i, c4i, t4, _, hb4i, hc4⟩ := HC4.out i hlt
      have t3' := (hB.cell (p := ⟨b3, o3 + i, none⟩) hb3).trans t3
      have t4' := (hB.cell (p := ⟨b4, o4 + i, none⟩) hb4).trans t4
      have hcp := fun ty => run_copy_cells (P := Tryd.prog) wr 23 23 ty 2 (G i) (O i) (2 * M.length + 1) (C i) ⟨b3i, o3i, none⟩ M.length c3i (((List.range M.length).map (colS M s i)).map (Value.int .i64)) Tryd.underlying23 (by kernel_rfl) (by show _ = min M.length (2 * M.length + 1); rw [Nat.min_eq_left (by omega)]; simp) (fun j v hv => by
          rw [add_at]
          have hj : j < M.length := by
            rcases Nat.lt_or_ge j M.length with h | h
            · exact h
            · rw [List.getElem?_eq_none (by simpa using h)] at hv; cases hv
          rw [(hB.cell (p := ⟨b3i, o3i + j, none⟩) hb3i).trans (hc3 j (by simpa using hj))]
          simp [hj] at hv ⊢
          exact hv) (fun j hj => by simp at hj; rw [(hT.cell i j hlt (by omega)).1]; rfl) (fun j hj => by simp at hj; exact (hT.cell i j hlt (by omega)).2) (fun v hv => by
          obtain ⟨x, _, rfl⟩ := List.mem_map.1 hv; rfl)
      rw [show ((((List.range M.length).map (colS M s i)).map (Value.int .i64)).length) = M.length by simp] at hcp
      have hT2 := (hT.copy hlt ((List.range M.length).map (colS M s i)) (by simp; omega)).congr (fun a b _ _ => eqK_copy _ rfl a b)
      have hB2 : Below w2.heap.size w2 (wr.setCells (G i) (O i) (((List.range M.length).map (colS M s i)).map (Value.int .i64))) := by
        have : ∀ (vs : List Value) (o : Nat) (w' : World), Below w2.heap.size w2 w' → Below w2.heap.size w2 (w'.setCells (G i) o vs) := fun vs => by
          induction vs with
          | nil => intro o w' h; exact h
          | cons v r ih => intro o w' h; exact ih _ _ (h.setCell (hT.glo i hlt) _)
        exact this _ _ _ hB
      obtain ⟨W5, hW5⟩ : ∃ W5, wr.setCells (G i) (O i) (((List.range M.length).map (colS M s i)).map (Value.int .i64)) = W5 := ⟨_, rfl⟩
      rw [hW5] at hcp hT2 hB2
      have HT2 := Lib.hid hT2
      have HB2 := Lib.hid hB2
      have HC4I := Lib.hid hc4
      have t4'' := (hB2.cell (p := ⟨b4, o4 + i, none⟩) hb4).trans t4
      clear t3 t4 hc3 hc4 hT hW5 hT2
      go_wp2_with fail
      clear hB hB2 t3' t4' hcp
      have HT2' := Lib.hid (HT2.out.congr (f' := eqK M Q s i (fun b => decide (b < M.length + 0))) (fun a b _ _ => rfl))
      clear HT2
      go_loopw [13, 14, 56] (fun _ _ j wr => ∃ k : Nat, k ≤ M.length ∧ j = .int .i64 k ∧ Tb w2.heap.size wr (w2.heap.size + 1) M.length (2 * M.length + 1) G O C (eqK M Q s i (fun b => decide (b < M.length + k))) ∧ Below w2.heap.size w2 wr) (fun _ _ j _ => M.length - (intOf j).toNat)
      case atStart => exact ⟨0, Nat.zero_le _, by go_num, HT2'.out, HB2.out⟩
      case round =>
        obtain ⟨k, hk, rfl, hT3, hB3⟩ := hrel
        by_cases hltk : k < M.length
        · have hcc := (hB3.cell (p := ⟨b4i, o4i + k, none⟩) hb4i).trans (HC4I.out k (by simpa using hltk))
          have hce : ((List.range M.length).map (colS M (cmplI M.length s) i)).getD k 0 = colS M (cmplI M.length s) i k := row_getD _ _ _ hltk
          rw [hce] at hcc
          obtain ⟨c6, z6⟩ := hT3.cell i (M.length + k) hlt (by omega)
          have hst := (hT3.set hlt (show M.length + k < 2 * M.length + 1 by omega) (- colS M (cmplI M.length s) i k)).congr (f' := eqK M Q s i (fun b => decide (b < M.length + (k + 1)))) (fun a b _ _ => by rw [HOG.out i k hltk]; exact eqK_out hltk a b)
          have HST := Lib.hid hst
          have HB3 := Lib.hid (hB3.setCell (hT3.glo i hlt) (p := ⟨G i, O i + (M.length + k), none⟩) (.int .i64 (- colS M (cmplI M.length s) i k)))
          have hbd := HA.out (cmplI M.length s) i k
          unfold Bd at hbd
          obtain ⟨hbd1, hbd2⟩ := hbd
          clear hst hT3 hB3 hce
          generalize colS M (cmplI M.length s) i k = X at *
          go_wp2_with fail
          go_roundw
          case rel => exact ⟨k + 1, by omega, by go_num, HST.out, HB3.out⟩
          case measure => simp [intOf]; omega
        · obtain rfl : k = M.length := by omega
          have hk12 := (hB3.cell (p := ⟨w.heap.size, 1, none⟩) hx0).trans k22
          have hqc := (hB3.cell (p := ⟨bq, oq + i, none⟩) hbq2).trans (HCQ.out i (by omega))
          obtain ⟨c7, z7⟩ := hT3.cell i (2 * M.length) hlt (by omega)
          have hst := (hT3.set hlt (show 2 * M.length < 2 * M.length + 1 by omega) (Q.getD i 0)).congr (f' := eqK M Q s (i + 1) (fun _ => false)) (fun a b _ hb => eqK_side a b hb)
          have HST := Lib.hid hst
          have HB3 := Lib.hid (hB3.setCell (hT3.glo i hlt) (p := ⟨G i, O i + 2 * M.length, none⟩) (.int .i64 (Q.getD i 0)))
          clear hst hT3 hB3
          generalize Q.getD i 0 = X at *
          go_wp2_with fail
          go_roundw
          case rel => exact ⟨i + 1, by omega, by go_num, HST.out, HB3.out⟩
          case measure => simp [intOf]; omega
    · obtain rfl : i = M.length := by omega
      have HTE := Lib.hid (hT.congr (fun a b ha _ => eqK_end b ha))
      have HBE := Lib.hid (hw2.trans (hB.mono hw2.size))
      have HW2 := Lib.hid hw2
      clear hT hB
      go_wp2_with fail
      go_ret
      exact ⟨_, G, O, C, rfl, ⟨Nat.le_trans HW2.out.size HTE.out.lo, HTE.out.hi, fun i hi => Nat.le_trans HW2.out.size (HTE.out.glo i hi), HTE.out.ghi, HTE.out.over, HTE.out.top, HTE.out.cell, HTE.out.apart, HTE.out.cap⟩, HBE.out⟩
end Go.Proofs.YthnefjllijoobaaDoor.PW
