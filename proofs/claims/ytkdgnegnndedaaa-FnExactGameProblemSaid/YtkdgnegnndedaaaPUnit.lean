/-
  Walks: the unit rows, in the program.
-/
import Derived.Test.YtkdgnegnndedaaaPRowsA
namespace Go.Proofs.Ytkdgnegnndedaaa.PW
open Go.RowKit Go.Proofs.Ytkdgnegnndedaaa
open Go.Proofs.Ytkdgnegnndedaaa.PM

/-- Rows told by a function. -/
def tab (n : Nat) (g : Nat → Nat → Int) : List (List Int) := (List.range n).map fun i => (List.range n).map (g i)
theorem tab_length (n : Nat) (g : Nat → Nat → Int) : (tab n g).length = n := by simp [tab]
theorem tab_row (n : Nat) (g : Nat → Nat → Int) (i : Nat) (h : i < n) : (tab n g).getD i [] = (List.range n).map (g i) := by simp [tab, h]
theorem row_length (n : Nat) (f : Nat → Int) : ((List.range n).map f).length = n := by simp
theorem row_getD (n : Nat) (f : Nat → Int) (j : Nat) (h : j < n) : ((List.range n).map f).getD j 0 = f j := by simp [h]
theorem row_set (n : Nat) (f : Nat → Int) (j : Nat) (x : Int) : ((List.range n).map f).set j x = (List.range n).map fun k => if k = j then x else f k := by
  apply List.ext_getElem
  · simp
  · intro k h1 h2
    rw [List.getElem_set]
    simp
    by_cases e : j = k
    · subst e; simp
    · rw [if_neg e, if_neg (fun c => e c.symm)]
theorem tab_set (n : Nat) (g : Nat → Nat → Int) (i j : Nat) (x : Int) (hi : i < n) : (tab n g).set i (((tab n g).getD i []).set j x) = tab n fun a b => if a = i ∧ b = j then x else g a b := by
  rw [tab_row _ _ _ hi, row_set]
  apply List.ext_getElem
  · simp [tab]
  · intro k h1 h2
    rw [List.getElem_set]
    simp only [tab, List.getElem_map, List.getElem_range]
    by_cases e : i = k
    · subst e
      rw [if_pos rfl]
      apply List.map_congr_left
      intro b _
      by_cases e2 : b = j <;> simp [e2]
    · rw [if_neg e]
      apply List.map_congr_left
      intro b _
      rw [if_neg (fun c => e c.1.symm)]
/-- The number at i, k of rows. -/
def ent (xss : List (List Int)) (i k : Nat) : Int := (xss.getD i []).getD k 0
theorem ent_tab (n : Nat) (g : Nat → Nat → Int) (i k : Nat) (hi : i < n) (hk : k < n) : ent (tab n g) i k = g i k := by unfold ent; rw [tab_row _ _ _ hi, row_getD _ _ _ hk]
theorem tab_ent {n : Nat} {xss : List (List Int)} (h1 : xss.length = n) (h2 : ∀ i, i < n → (xss.getD i []).length = n) : xss = tab n (ent xss) := by
  apply List.ext_getElem
  · simp [tab, h1]
  · intro i hi hi2
    have hl := h2 i (by omega)
    simp only [tab, List.getElem_map, List.getElem_range]
    have e : xss.getD i [] = xss[i] := by simp [hi]
    rw [e] at hl
    apply List.ext_getElem
    · simp [hl]
    · intro k hk hk2
      simp [ent, hi, hk]

def unitG (i j : Nat) : Int := if j = i then 1 else 0
/-- The first k unit rows. -/
def unitTo (n k : Nat) : List (List Int) := (List.range n).map fun i => if i < k then (List.range n).map (unitG i) else []
theorem unitTo_zero (n : Nat) : unitTo n 0 = List.replicate n [] := by
  apply List.ext_getElem
  · simp [unitTo]
  · intro i h1 h2
    simp [unitTo, List.getElem_replicate]
theorem unitTo_all (n : Nat) : unitTo n n = tab n unitG := by
  unfold unitTo tab
  apply List.map_congr_left
  intro i hi
  rw [if_pos (by simpa using hi)]
theorem unitTo_length (n k : Nat) : (unitTo n k).length = n := by simp [unitTo]
theorem unitTo_step (n k : Nat) (h : k < n) : ((unitTo n k).set k (List.replicate n 0)).set k ((((unitTo n k).set k (List.replicate n 0)).getD k []).set k 1) = unitTo n (k + 1) := by
  rw [getD_set_self _ _ _ _ (by rw [unitTo_length]; exact h), List.set_set]
  have e : List.replicate n (0 : Int) = (List.range n).map fun _ => 0 := by
    apply List.ext_getElem
    · simp
    · intro i h1 h2; simp [List.getElem_replicate]
  rw [e, row_set]
  apply List.ext_getElem
  · simp [unitTo]
  · intro i h1 h2
    rw [List.getElem_set]
    simp only [unitTo, List.getElem_map, List.getElem_range]
    by_cases e : k = i
    · subst e
      rw [if_pos rfl, if_pos (by omega)]
      rfl
    · rw [if_neg e]
      by_cases hlt : i < k
      · rw [if_pos hlt, if_pos (by omega)]
      · rw [if_neg hlt, if_neg (by omega)]
/-- A new row of noughts. -/
theorem zeros_fresh (w : World) (n : Nat) (hn : n ≤ maxLen) : FreshI w.heap.size (w.alloc (.cells (madeCells #[.int .i64 0] n) 2)) (.slice (some ⟨w.heap.size, 0, none⟩) n n) (List.replicate n 0) := by
  have hb : IntBlk (w.alloc (.cells (madeCells #[.int .i64 0] n) 2)) w.heap.size (List.replicate n 0) := by
    have := World.rowIs_made w (.int .i64 0) n 2
    unfold IntBlk
    rw [List.length_replicate]
    exact this.congr (fun i hi => by simp [hi])
  have ho := hb.own (by simpa using hn)
  rw [List.length_replicate] at ho
  refine ⟨w.heap.size, n, by simp, Nat.le_refl _, by simp, ho⟩

/-- The unit rows, while they are built. -/
structure Un (w wr : World) (n k : Nat) (us : List Value) : Prop where
  rows : FreshR w.heap.size wr (.slice (some ⟨w.heap.size, 0, none⟩) n n) (unitTo n k) us
  below : Below w.heap.size w wr
theorem un_start (w : World) (n : Nat) (hn : n ≤ maxLen) : Un w (w.alloc (.cells (madeCells #[.slice none 0 0] n) 23)) n 0 (List.replicate n (.slice none 0 0)) := by
  refine ⟨?_, (Below.refl _ _).alloc (Nat.le_refl _) _⟩
  rw [unitTo_zero]
  exact freshR_made w n hn
theorem un_step {w wr : World} {n k : Nat} {us : List Value} (h : Un w wr n k us) (hk : k < n) (hn : n ≤ maxLen) :
    Un w (((wr.alloc (.cells (madeCells #[.int .i64 0] n) 2)).setCell ⟨w.heap.size, k, none⟩ (.slice (some ⟨wr.heap.size, 0, none⟩) n n)).setCell ⟨wr.heap.size, k, none⟩ (.int .i64 1)) n (k + 1) (us.set k (.slice (some ⟨wr.heap.size, 0, none⟩) n n)) := by
  obtain ⟨hr, hb⟩ := h
  have hl := hr.own.len
  rw [unitTo_length] at hl
  have hlt : w.heap.size < wr.heap.size := by obtain ⟨g, c, hv, _, h2⟩ := hr.top; simp at hv; omega
  have hA : Below wr.heap.size wr (wr.alloc (.cells (madeCells #[.int .i64 0] n) 2)) := (Below.refl _ _).alloc (Nat.le_refl _) _
  have h1 := (hr.below hA).putRow (i := k) (u := .slice (some ⟨wr.heap.size, 0, none⟩) n n) (xs := List.replicate n 0) (by rw [unitTo_length]; exact hk) ((zeros_fresh wr n hn).mono hb.size)
    (fun b hb' => by
      simp [Value.ownBlock] at hb'
      subst hb'
      refine ⟨by omega, fun j hj _ c => ?_⟩
      have := (hr.rows j _ hj c).2
      omega)
  have h2 := h1.setRow (i := k) (g := wr.heap.size) (cap := n) (n := n) (by simp [unitTo_length]; exact hk) (getD_set_self _ _ _ _ (by omega)) k 1
  rw [unitTo_step n k hk] at h2
  exact ⟨h2, ((hb.alloc hb.size _).setCell (Nat.le_refl _) _).setCell (by simp; omega) _⟩

theorem made_at (z : Value) (n k : Nat) (h : k < n) (w : World) (t : TypeId) : (madeCells #[z] n)[k]? = some z := by
  obtain ⟨c, hb, hn, hc⟩ := World.rowIs_made w z n t
  have e : (w.alloc (.cells (madeCells #[z] n) t)).heap[w.heap.size]? = some (.cells (madeCells #[z] n) t) := heap_alloc_new w _
  rw [e] at hb
  simp only [Option.some.injEq, Obj.cells.injEq] at hb
  rw [hb.1]
  exact hc k h
theorem un_step' {w wr : World} {n k : Nat} {us : List Value} (h : Un w wr n k us) (hk : k < n) (hn : n ≤ maxLen) :
    Un w ((wr.setCell ⟨w.heap.size, k, none⟩ (.slice (some ⟨wr.heap.size, 0, none⟩) n n)).alloc (.cells ((madeCells #[.int .i64 0] n).setIfInBounds k (.int .i64 1)) 2)) n (k + 1) (us.set k (.slice (some ⟨wr.heap.size, 0, none⟩) n n)) := by
  have hlt : w.heap.size < wr.heap.size := by obtain ⟨g, c, hv, _, h2⟩ := h.rows.top; simp at hv; omega
  have := un_step h hk hn
  rw [World.setCell_alloc_past _ _ _ _ hlt, World.setCell_alloc_at _ _ _ _ _ (by simp)] at this
  exact this

theorem unitRows_any (n : Nat) (hn1 : 1 ≤ n) (hn5 : n ≤ 5) (w : World) :
    Calls Try.prog 75 #[.int .i64 n] w fun e w' => ∃ us, e = .returned (.slice (some ⟨w.heap.size, 0, none⟩) n n) ∧ FreshR w.heap.size w' (.slice (some ⟨w.heap.size, 0, none⟩) n n) (tab n unitG) us ∧ Below w.heap.size w w' := by
  have hmk := run_make_row' (P := Try.prog) 22 23 (.slice none 0 0) 24 Try.underlying22 info_ints rfl .i64 .i64 n (by omega) (by omega)
  have hmk2 := run_make_row' (P := Try.prog) 23 2 (.int .i64 0) 8 Try.underlying23 info_int rfl .i64 .i64 n (by omega) (by omega)
  go_enter Try.func75, Try.ntmps75
  go_wp2
  go_loopw [4, 9] (fun _ i wr => ∃ (k : Nat) (us : List Value), k ≤ n ∧ i = .int .i64 k ∧ Un w wr n k us) (fun _ i _ => n - (intOf i).toNat)
  case atStart => exact ⟨0, _, Nat.zero_le _, rfl, un_start w n (by unfold maxLen; omega)⟩
  case round =>
    obtain ⟨k, us, hk, rfl, hU⟩ := hrel
    by_cases hlt2 : k < n
    · have hst := un_step' hU hlt2 (by unfold maxLen; omega)
      have hmd := made_at (.int .i64 0) n k hlt2 w 2
      have hl : (unitTo n k).length = n := unitTo_length n k
      have htp := hU.rows.own.top
      have hul := hU.rows.own.len
      rw [hl] at htp hul
      have hcl : wr.cell? ⟨w.heap.size, k, none⟩ = some (us.getD k undef) := by
        rw [World.ownsRow.cellAt htp k (by omega)]
        simp [hul, hlt2]
      have hfz : wr.frozen? ⟨w.heap.size, k, none⟩ = false := World.ownsRow.frozenAt htp k
      have hz : w.heap.size < wr.heap.size := World.block_lt_of_cell? wr _ hcl
      have HST := Lib.hid hst
      clear hst hU htp hl hul
      generalize us.getD k undef = pv at *
      go_wp2_with fail
      go_roundw
      case rel => exact ⟨k + 1, _, by omega, by go_num, HST.out⟩
      case measure => simp [intOf]; omega
    · obtain rfl : k = n := by omega
      have hend := hU.rows
      rw [unitTo_all] at hend
      have HEND := Lib.hid hend
      clear hend
      go_wp2
      go_ret
      exact ⟨us, rfl, HEND.out, hU.below⟩
end Go.Proofs.Ytkdgnegnndedaaa.PW
