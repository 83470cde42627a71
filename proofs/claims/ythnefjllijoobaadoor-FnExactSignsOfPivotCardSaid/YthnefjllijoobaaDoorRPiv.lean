/-
  Walks: the pivot of a set, in the program.
-/
import Derived.Test.YthnefjllijoobaaDoorRPv
import Derived.Test.YthnefjllijoobaaDoorRQuo
import Derived.Test.YthnefjllijoobaaDoorREq
import Derived.Test.YthnefjllijoobaaDoorPGlob
namespace Go.Proofs.YthnefjllijoobaaDoor.PW
open Go.RowKit Go.Proofs.YthnefjllijoobaaDoor
open Go.Proofs.YthnefjllijoobaaDoor.PM Go.Proofs.YthnefjllijoobaaDoor.PX

def sgD (D : Int) : Int := if D < 0 then -1 else 1
def outL (M : List (List Int)) (s : Int) (k : Nat) : List Int := (List.range M.length).map fun i => outG M s i k
def pvR (M : List (List Int)) (s : Int) (i k : Nat) : Int := sgD (dt M.length (colS M s)) * dt M.length (setCol (colS M s) i (outL M s k))
def pvS (M : List (List Int)) (Q : List Int) (s : Int) (i : Nat) : Int := sgD (dt M.length (colS M s)) * dt M.length (setCol (colS M s) i Q)
def pvD (M : List (List Int)) (s : Int) : Int := sgD (dt M.length (colS M s)) * dt M.length (colS M s)
theorem eqF_dt (M : List (List Int)) (Q : List Int) (s : Int) : dt M.length (eqF M Q s) = dt M.length (colS M s) := dt_congr _ _ _ (fun i j _ hj => by unfold eqF; rw [if_pos hj])
theorem eqF_row (M : List (List Int)) (Q : List Int) (s : Int) (i k : Nat) (hk : k < M.length) : dt M.length (fun x y => eqF M Q s x (rp i (M.length + k) y)) = dt M.length (setCol (colS M s) i (outL M s k)) := dt_congr _ _ _ (fun x y hx hy => by
  unfold rp setCol
  by_cases e : y = i
  · rw [if_pos e, if_pos e]
    unfold eqF outL
    rw [if_neg (by omega), if_pos (by omega), Nat.add_sub_cancel_left, row_getD _ _ _ hx]
  · rw [if_neg e, if_neg e]
    unfold eqF
    rw [if_pos hy])
theorem eqF_side (M : List (List Int)) (Q : List Int) (s : Int) (i : Nat) : dt M.length (fun x y => eqF M Q s x (rp i (2 * M.length) y)) = dt M.length (setCol (colS M s) i Q) := dt_congr _ _ _ (fun x y hx hy => by
  unfold rp setCol
  by_cases e : y = i
  · rw [if_pos e, if_pos e]
    unfold eqF
    rw [if_neg (by omega), if_neg (by omega), if_pos rfl]
  · rw [if_neg e, if_neg e]
    unfold eqF
    rw [if_pos hy])
theorem outG_bd {M : List (List Int)} {Q : List Int} (hp : isPB M Q = true) (s : Int) (i k : Nat) : Bd 20 (outG M s i k) := by
  obtain ⟨_, _, _, f4, _⟩ := isPB_facts hp
  have := ent_bdAll (B := fun _ => 20) rfl (fun i hi => (f4 i hi).1) (fun _ => by decide) (fun i j hi hj => by have := ent_bd hp i j hi hj; unfold Bd; omega) i k
  unfold outG
  split
  · unfold Bd; split <;> omega
  · exact this
theorem eqF_bd {M : List (List Int)} {Q : List Int} (hp : isPB M Q = true) (s : Int) (i j : Nat) : Bd (20 * u (2 * M.length) j) (eqF M Q s i j) := by
  unfold eqF
  by_cases h1 : j < M.length
  · rw [if_pos h1]; exact (colS_all hp s i j).mono (u_ge _ _)
  rw [if_neg h1]
  by_cases h2 : j < 2 * M.length
  · rw [if_pos h2]; exact (outG_bd hp s i _).mono (u_ge _ _)
  rw [if_neg h2]
  by_cases h3 : j = 2 * M.length
  · rw [if_pos h3, h3]; refine (isPB_q hp i).mono ?_; unfold u; rw [if_pos rfl]; decide
  · rw [if_neg h3]; have := u_pos (2 * M.length) j; unfold Bd; omega
/-- The window of a row behind the columns. -/
def rowW (n : Nat) (f : Nat → Nat → Int) (i : Nat) : List Int := (List.range (n + 1)).map fun k => f i (n + k)
theorem rowW_length (n : Nat) (f : Nat → Nat → Int) (i : Nat) : (rowW n f i).length = n + 1 := by simp [rowW]
theorem Tb.window {B g n m : Nat} {w : World} {G O C : Nat → Nat} {f : Nat → Nat → Int} (h : Tb B w g n m G O C f) (hm : m = 2 * n + 1) {i : Nat} (hi : i < n) :
    Lst w (.slice (some ⟨G i, O i + n, none⟩) (n + 1) (C i - n)) (rowW n f i) := by
  refine ⟨_, _, by rw [rowW_length], .inr ⟨_, _, rfl, h.ghi i hi, fun k hk => ?_⟩⟩
  have hk' : k < n + 1 := by rw [rowW_length] at hk; exact hk
  rw [show O i + n + k = O i + (n + k) by omega, (h.cell i (n + k) hi (by omega)).1]
  simp [rowW, hk']
/-- What the division leaves. -/
def rowP (M : List (List Int)) (Q : List Int) (s : Int) (i : Nat) : List Int := (List.range (M.length + 1)).map fun k => if k < M.length then pvR M s i k else pvS M Q s i
theorem sgD_cases (D : Int) : (D < 0 ∧ sgD D = -1) ∨ (0 ≤ D ∧ sgD D = 1) := by
  unfold sgD
  by_cases h : D < 0
  · exact .inl ⟨h, by rw [if_pos h]⟩
  · exact .inr ⟨by omega, by rw [if_neg h]⟩
theorem den_abs {D X s' : Int} (hs : s' = 1 ∨ s' = -1) (hX : X = s' * D) (hD : D ≠ 0) : (0 < X ∧ ¬ -X > X ∧ X = sgD D * D ∧ s' * sgD D = 1) ∨ (X < 0 ∧ -X > X ∧ -X = sgD D * D ∧ s' * sgD D = -1) := by
  rcases hs with rfl | rfl <;> rcases sgD_cases D with ⟨h1, h2⟩ | ⟨h1, h2⟩ <;> rw [h2] <;> omega
theorem tdiv_one (x : Int) : x.tdiv 1 = x := Int.tdiv_one x
theorem tdiv_neg_one (x : Int) : x.tdiv (-1) = -x := by rw [Int.tdiv_neg, Int.tdiv_one]
theorem row_div {M : List (List Int)} {Q : List Int} {s s' E : Int} {f : Nat → Nat → Int} {i : Nat} (hs : s' = 1 ∨ s' = -1) (hE : s' * sgD (dt M.length (colS M s)) = E)
    (hf : ∀ k, M.length ≤ k → k < 2 * M.length + 1 → f i k = s' * dt M.length (fun x y => eqF M Q s x (rp i k y))) : (rowW M.length f i).map (fun x => x.tdiv E) = rowP M Q s i := by
  have hE1 : E = 1 ∨ E = -1 := by rcases hs with rfl | rfl <;> rcases sgD_cases (dt M.length (colS M s)) with ⟨_, h2⟩ | ⟨_, h2⟩ <;> rw [h2] at hE <;> omega
  have hdiv : ∀ x, (s' * x).tdiv E = sgD (dt M.length (colS M s)) * x := fun x => by
    rcases hE1 with rfl | rfl
    · rw [tdiv_one]; rcases hs with rfl | rfl <;> rcases sgD_cases (dt M.length (colS M s)) with ⟨_, h2⟩ | ⟨_, h2⟩ <;> rw [h2] at hE ⊢ <;> omega
    · rw [tdiv_neg_one]; rcases hs with rfl | rfl <;> rcases sgD_cases (dt M.length (colS M s)) with ⟨_, h2⟩ | ⟨_, h2⟩ <;> rw [h2] at hE ⊢ <;> omega
  unfold rowW rowP
  rw [List.map_map]
  apply List.map_congr_left
  intro k hk
  have hk' : k < M.length + 1 := by simpa using hk
  show (f i (M.length + k)).tdiv E = _
  rw [hf _ (by omega) (by omega), hdiv]
  by_cases e : k < M.length
  · rw [if_pos e, eqF_row M Q s i k e]; rfl
  · rw [if_neg e, show M.length + k = 2 * M.length by omega, eqF_side]; rfl
theorem rowP_length (M : List (List Int)) (Q : List Int) (s : Int) (i : Nat) : (rowP M Q s i).length = M.length + 1 := by simp [rowP]
theorem rowP_take (M : List (List Int)) (Q : List Int) (s : Int) (i : Nat) : (rowP M Q s i).take M.length = (List.range M.length).map (pvR M s i) := by
  apply List.ext_getElem
  · simp [rowP]
  · intro k h1 h2
    have hk : k < M.length := by simpa using h2
    simp [rowP, hk]
theorem rowP_last (M : List (List Int)) (Q : List Int) (s : Int) (i : Nat) : (rowP M Q s i).getD M.length 0 = pvS M Q s i := by simp [rowP]
/-- Bounds of the numbers of a pivot. -/
theorem sgD_bd (D : Int) {x : Int} (h : Bd 1920000000 x) : Bd 1920000000 (sgD D * x) := by
  rcases sgD_cases D with ⟨_, e⟩ | ⟨_, e⟩ <;> rw [e] <;> unfold Bd at * <;> omega
theorem setCol_bdu {M : List (List Int)} {Q : List Int} (hp : isPB M Q = true) (s : Int) (k : Nat) (L : List Int) (hL : ∀ j, Bd 100 (L.getD j 0)) (i j : Nat) : Bd (20 * u k j) (setCol (colS M s) k L i j) := by
  unfold setCol
  by_cases e : j = k
  · rw [if_pos e, e]; refine (hL i).mono ?_; unfold u; rw [if_pos rfl]; decide
  · rw [if_neg e]; exact (colS_all hp s i j).mono (u_ge _ _)
theorem outL_bd {M : List (List Int)} {Q : List Int} (hp : isPB M Q = true) (s : Int) (k j : Nat) : Bd 100 ((outL M s k).getD j 0) := by
  unfold outL
  by_cases h : j < M.length
  · rw [row_getD _ _ _ h]; exact (outG_bd hp s j k).mono (by decide)
  · rw [List.getD_eq_getElem?_getD, List.getElem?_eq_none (by simp; omega)]; unfold Bd; simp
theorem pv_dtR {M : List (List Int)} {Q : List Int} (hp : isPB M Q = true) (s : Int) (i k : Nat) : Bd 1920000000 (dt M.length (setCol (colS M s) i (outL M s k))) := by
  obtain ⟨f1, f2, _⟩ := isPB_facts hp
  rw [dt_T _ _ f1 f2]
  exact lastT_bd (j0 := i) (setCol_bdu hp s i _ (outL_bd hp s k)) f2
theorem pv_dtS {M : List (List Int)} {Q : List Int} (hp : isPB M Q = true) (s : Int) (i : Nat) : Bd 1920000000 (dt M.length (setCol (colS M s) i Q)) := by
  obtain ⟨f1, f2, _⟩ := isPB_facts hp
  rw [dt_T _ _ f1 f2]
  exact lastT_bd (j0 := i) (setCol_bdu hp s i _ (isPB_q hp)) f2
theorem pvR_bd {M : List (List Int)} {Q : List Int} (hp : isPB M Q = true) (s : Int) (i k : Nat) : Bd 1920000000 (pvR M s i k) := sgD_bd _ (pv_dtR hp s i k)
theorem pvS_bd {M : List (List Int)} {Q : List Int} (hp : isPB M Q = true) (s : Int) (i : Nat) : Bd 1920000000 (pvS M Q s i) := sgD_bd _ (pv_dtS hp s i)
theorem rowP_I64 {M : List (List Int)} {Q : List Int} (hp : isPB M Q = true) (s : Int) (i : Nat) : ∀ x ∈ rowP M Q s i, I64 x := by
  intro x hx
  obtain ⟨k, _, rfl⟩ := List.mem_map.1 hx
  have h : Bd 1920000000 (if k < M.length then pvR M s i k else pvS M Q s i) := by split; exact pvR_bd hp s i k; exact pvS_bd hp s i
  unfold Bd at h
  unfold I64
  omega
theorem win_bd {M : List (List Int)} {Q : List Int} (hp : isPB M Q = true) (s : Int) (i k : Nat) (hk : M.length ≤ k) (hk2 : k < 2 * M.length + 1) : Bd 1920000000 (dt M.length (fun x y => eqF M Q s x (rp i k y))) := by
  by_cases e : k = 2 * M.length
  · rw [e, eqF_side]; exact pv_dtS hp s i
  · rw [show k = M.length + (k - M.length) by omega, eqF_row M Q s i _ (by omega)]; exact pv_dtR hp s i _
/-- The first numbers of a list of the call's own. -/
theorem own_take {w : World} {g cap n : Nat} {xs : List Int} (h : OwnI w (.slice (some ⟨g, 0, none⟩) xs.length cap) xs) (hn : n ≤ xs.length) (hx : ∀ x ∈ xs, I64 x) : Ints w (.slice (some ⟨g, 0, none⟩) n cap) (xs.take n) := by
  have hl : (xs.take n).length = n := by simp; omega
  rcases h.2 with ⟨c, _⟩ | ⟨g2, cap2, cur, hv, _, hg, hnc, hcm, _⟩
  · cases c
  simp only [Value.slice.injEq, Option.some.injEq, Addr.mk.injEq, and_true, true_and] at hv
  obtain ⟨rfl, rfl⟩ := hv
  refine ⟨_, _, by rw [hl], by rw [hl]; omega, hcm, fun x hx' => hx x (List.mem_of_mem_take hx'), .inr ⟨g, 0, rfl, ?_, fun k hk => ?_⟩⟩
  · rcases Nat.lt_or_ge g w.heap.size with h' | h'
    · exact h'
    · rw [Array.getElem?_eq_none h'] at hg; cases hg
  · have hk' : k < n := by omega
    rw [Nat.zero_add, World.ownsRow.cellAt h k (by omega)]
    have hkx : k < xs.length := by omega
    simp [hkx, hk']
theorem PvO.ownV {wr W : World} {N : Nat} {d : Int} {v q : Value} {R : List (List Int)} {S : List Int} {us : List Value} {n : Nat} (h : PvO wr N d v q R S us) (hb : Below wr.heap.size wr W) (hn : R.length = n) : W.ownsRow 0 23 1 v n us := by
  subst hn
  exact (h.below hb).rows.rows.top
theorem PvO.ownQ {wr W : World} {N : Nat} {d : Int} {v q : Value} {R : List (List Int)} {S : List Int} {us : List Value} {n : Nat} (h : PvO wr N d v q R S us) (hb : Below wr.heap.size wr W) (hn : S.length = n) : W.ownsRow 0 2 1 q n (S.map (Value.int .i64)) := by
  subst hn
  exact (h.below hb).side
/-- A cell of a list that is newer than the pivot's lists, behind an append to them and a store to the variable. -/
theorem PvO.keepNew {wr W3 W4 : World} {N g j : Nat} {x y : Value} {o : Nat} {row : Option Nat} (hgrow : W3.grownBy W4 row) (hr : ∀ b, row = some b → b < wr.heap.size) (hg : wr.heap.size ≤ g) (hlt : N < wr.heap.size) (hc : W3.cell? ⟨g, j, none⟩ = some x) :
    (W4.setCell ⟨N, o, none⟩ y).cell? ⟨g, j, none⟩ = some x := by
  rw [World.cell?_setCell_far _ _ _ _ (show N ≠ g by omega)]
  have hg3 : g < W3.heap.size := World.block_lt_of_cell? W3 _ hc
  exact (World.cell?_of_block (w := W3) (a := ⟨g, j, none⟩) (hgrow.block g hg3 (fun c => by have := hr g c.symm; omega))).trans hc
end Go.Proofs.YthnefjllijoobaaDoor.PW
