/-
  Walks: rows with another column, in the program.
-/
import Derived.Test.YtoglmkjmnknbbaaPDetA
namespace Go.Proofs.Ytoglmkjmnknbbaa.PW
open Go.RowKit Go.Proofs.Ytoglmkjmnknbbaa
open Go.Proofs.Ytoglmkjmnknbbaa.PM Go.Proofs.Ytoglmkjmnknbbaa.PX

/-- Rows with another column. -/
def setCol (g : Nat → Nat → Int) (i : Nat) (Q : List Int) (a b : Nat) : Int := if b = i then Q.getD a 0 else g a b
def setColK (g : Nat → Nat → Int) (i : Nat) (Q : List Int) (k a b : Nat) : Int := if b = i ∧ a < k then Q.getD a 0 else g a b
theorem setColK_zero (n : Nat) (g : Nat → Nat → Int) (i : Nat) (Q : List Int) : tab n (setColK g i Q 0) = tab n g := tab_congr (fun a b _ _ => by unfold setColK; rw [if_neg (by omega)])
theorem setColK_all (n : Nat) (g : Nat → Nat → Int) (i : Nat) (Q : List Int) : tab n (setColK g i Q n) = tab n (setCol g i Q) := tab_congr (fun a b ha _ => by
  unfold setColK setCol
  by_cases e : b = i
  · rw [if_pos ⟨e, ha⟩, if_pos e]
  · rw [if_neg (fun c => e c.1), if_neg e])
theorem setColK_step (n : Nat) (g : Nat → Nat → Int) (i : Nat) (Q : List Int) (k : Nat) : tab n (upd (setColK g i Q k) k i (Q.getD k 0)) = tab n (setColK g i Q (k + 1)) := tab_congr (fun a b _ _ => by
  unfold upd setColK
  by_cases e : a = k ∧ b = i
  · rw [if_pos e, if_pos ⟨e.2, by omega⟩, e.1]
  · rw [if_neg e]
    by_cases e2 : b = i ∧ a < k
    · rw [if_pos e2, if_pos ⟨e2.1, by omega⟩]
    · rw [if_neg e2, if_neg (fun c => by omega)])

set_option maxRecDepth 100000 in
set_option maxHeartbeats 1000000 in
theorem withColumn_any (v q : Value) (n i : Nat) (g : Nat → Nat → Int) (Q : List Int) (w : World) (hv : PM.Rows w v (tab n g)) (hq : Ints w q Q) (hQ : Q.length = n) (hi : i < n) (hn5 : n ≤ 5) :
    Calls Try.prog 93 #[v, .int .i64 i, q] w fun e w' => ∃ us, e = .returned (.slice (some ⟨w.heap.size, 0, none⟩) n n) ∧ FreshR w.heap.size w' (.slice (some ⟨w.heap.size, 0, none⟩) n n) (tab n (setCol g i Q)) us ∧ Below w.heap.size w w' := by
  have hmx : Try.prog.follows .mixedOrders = true := by kernel_rfl
  have hne0 : tab n g ≠ [] := by intro c; have := congrArg List.length c; rw [tab_length, List.length_nil] at this; omega
  have hner : ∀ j, j < (tab n g).length → (tab n g).getD j [] ≠ [] := fun j hj c => by
    rw [tab_length] at hj
    have := tab_rl n g j hj; rw [c] at this; simp at this; omega
  have hcp := copyRows_any v (tab n g) w hv hne0 hner (tab_tot n g hn5)
  rw [tab_length] at hcp
  have HCP := Lib.hid hcp
  obtain ⟨a1, c1, rfl, _⟩ := hv
  rw [tab_length] at HCP ⊢
  obtain ⟨a2, c2, rfl, _, _, _, hx⟩ := hq
  obtain ⟨b, off, rfl, hblt, hce⟩ : ∃ b off, a2 = some ⟨b, off, none⟩ ∧ b < w.heap.size ∧ CellsAt w b off Q := by
    rcases hx with hx | hx
    · rw [hx] at hQ; simp at hQ; omega
    · exact hx
  rw [hQ]
  have HCE := Lib.hid hce
  have HQ := Lib.hid hQ
  have hn1 : 1 ≤ n := by omega
  clear hcp hne0 hner hx hce hQ
  go_enter Try.func93, Try.ntmps93
  go_wp2_with (go_at_call 119; refine HCP.out.mono ?_; rintro e w1 ⟨us, rfl, hf1, hb1⟩)
  have HF1 := Lib.hid hf1
  clear hf1
  go_loopw [8, 13] (fun _ j wr => ∃ k : Nat, k ≤ n ∧ j = .int .i64 k ∧ FreshR w.heap.size wr (.slice (some ⟨w.heap.size, 0, none⟩) n n) (tab n (setColK g i Q k)) us ∧ Below w.heap.size w wr) (fun _ j _ => n - (intOf j).toNat)
  case atStart => exact ⟨0, Nat.zero_le _, rfl, by rw [setColK_zero]; exact HF1.out, hb1⟩
  case round =>
    obtain ⟨k, hk, rfl, hR, hB⟩ := hrel
    by_cases hlt : k < n
    · obtain ⟨gk, ck, hu⟩ := hR.shape hlt
      have t1 := (hR.topAt hlt).1
      rw [hu] at t1
      obtain ⟨e1, z1⟩ := hR.cellAt hlt hi hu
      have e2 := (hB.cell (p := ⟨b, off + k, none⟩) hblt).trans (HCE.out k (by have := HQ.out; omega))
      have hst := (hR.setTab (k := i) hlt hu (Q.getD k 0)).drew
      rw [setColK_step] at hst
      have hbl : Below w.heap.size w (wr.setCell ⟨gk, i, none⟩ (.int .i64 (Q.getD k 0))).drew := (hB.setCell (hR.rowGe hlt hu).1 _).drew
      have HST := Lib.hid hst
      have HBL := Lib.hid hbl
      clear hst hbl hR hB hu
      generalize Q.getD k 0 = x at *
      generalize setColK g i Q k k i = y at *
      go_wp2
      go_still_tail 10, hmx
      go_wp2
      go_roundw
      case rel => exact ⟨k + 1, by omega, by go_num, HST.out, HBL.out⟩
      case measure => simp [intOf]; omega
    · obtain rfl : k = n := by omega
      rw [setColK_all] at hR
      have HR := Lib.hid hR
      clear hR
      go_wp2
      go_ret
      exact ⟨us, rfl, HR.out, hB⟩
end Go.Proofs.Ytoglmkjmnknbbaa.PW
