/-
  Walks: rows of numbers, each told by a function value, in the program.
-/
import Derived.Test.YtgncaploccbfnaaPTb
import Derived.Deep.RegionWith
namespace Go.Proofs.Ytgncaploccbfnaa.PW
open Go.RowKit Go.Proofs.Ytgncaploccbfnaa
open Go.Proofs.Ytgncaploccbfnaa.PM Go.Proofs.Ytgncaploccbfnaa.PX

/-- The first i rows are told, and the first k numbers of the row i. -/
def sqTo (n : Nat) (g : Nat → Nat → Int) (i k : Nat) : List (List Int) := (List.range n).map fun a => if a < i then (List.range n).map (g a) else if a = i then (List.range n).map (fun b => if b < k then g a b else 0) else []
def outTo (n : Nat) (g : Nat → Nat → Int) (i : Nat) : List (List Int) := (List.range n).map fun a => if a < i then (List.range n).map (g a) else []
theorem outTo_zero (n : Nat) (g : Nat → Nat → Int) : outTo n g 0 = List.replicate n [] := by
  apply List.ext_getElem
  · simp [outTo]
  · intro i h1 h2
    simp [outTo, List.getElem_replicate]
theorem outTo_all (n : Nat) (g : Nat → Nat → Int) : outTo n g n = tab n g := by
  unfold outTo tab
  apply List.map_congr_left
  intro i hi
  rw [if_pos (by simpa using hi)]
theorem outTo_length (n : Nat) (g : Nat → Nat → Int) (i : Nat) : (outTo n g i).length = n := by simp [outTo]
theorem sqTo_length (n : Nat) (g : Nat → Nat → Int) (i k : Nat) : (sqTo n g i k).length = n := by simp [sqTo]
theorem sqTo_row (n : Nat) (g : Nat → Nat → Int) (i k : Nat) (h : i < n) : (sqTo n g i k).getD i [] = (List.range n).map (fun b => if b < k then g i b else 0) := by simp [sqTo, h]
theorem sqTo_start (n : Nat) (g : Nat → Nat → Int) (i : Nat) : (outTo n g i).set i (List.replicate n 0) = sqTo n g i 0 := by
  apply List.ext_getElem
  · simp [outTo, sqTo]
  · intro j h1 h2
    rw [List.getElem_set]
    simp only [outTo, sqTo, List.getElem_map, List.getElem_range]
    by_cases e : i = j
    · subst e
      rw [if_pos rfl, if_neg (by omega), if_pos rfl]
      apply List.ext_getElem
      · simp
      · intro k h3 h4; simp [List.getElem_replicate]
    · rw [if_neg e]
      by_cases hl : j < i
      · rw [if_pos hl, if_pos hl]
      · rw [if_neg hl, if_neg hl, if_neg (fun c => e c.symm)]
theorem sqTo_step (n : Nat) (g : Nat → Nat → Int) (i k : Nat) (h : i < n) : (sqTo n g i k).set i (((sqTo n g i k).getD i []).set k (g i k)) = sqTo n g i (k + 1) := by
  rw [sqTo_row _ _ _ _ h, row_set]
  apply List.ext_getElem
  · simp [sqTo]
  · intro j h1 h2
    rw [List.getElem_set]
    simp only [sqTo, List.getElem_map, List.getElem_range]
    by_cases e : i = j
    · subst e
      rw [if_pos rfl, if_neg (by omega), if_pos rfl]
      apply List.map_congr_left
      intro b _
      by_cases e2 : b = k
      · subst e2; rw [if_pos rfl, if_pos (by omega)]
      · rw [if_neg e2]
        by_cases e3 : b < k
        · rw [if_pos e3, if_pos (by omega)]
        · rw [if_neg e3, if_neg (by omega)]
    · rw [if_neg e]
      by_cases hl : j < i
      · rw [if_pos hl, if_pos hl]
      · rw [if_neg hl, if_neg hl, if_neg (fun c => e c.symm), if_neg (fun c => e c.symm)]
theorem sqTo_all (n : Nat) (g : Nat → Nat → Int) (i : Nat) : sqTo n g i n = outTo n g (i + 1) := by
  unfold sqTo outTo
  apply List.map_congr_left
  intro a _
  by_cases hl : a < i
  · rw [if_pos hl, if_pos (by omega)]
  · rw [if_neg hl]
    by_cases e : a = i
    · subst e
      rw [if_pos rfl, if_pos (by omega)]
      apply List.map_congr_left
      intro b hb
      rw [if_pos (by simpa using hb)]
    · rw [if_neg e, if_neg (by omega)]

/-- What a function value gives that tells the number at i, k. -/
def TellsAt (G Bc n : Nat) (g : Nat → Nat → Int) (w : World) : Prop :=
  ∀ (w' : World) (i k : Nat), Below w.heap.size w w' → i < n → k < n → Calls Try.prog G #[.int .i64 i, .int .i64 k, .pointer (some ⟨Bc, 0, none⟩)] w' fun e w'' => e = .returned (.int .i64 (g i k)) ∧ Below w'.heap.size w' w''

structure Sq (w wr : World) (n : Nat) (xss : List (List Int)) (us : List Value) : Prop where
  rows : FreshR w.heap.size wr (.slice (some ⟨w.heap.size, 0, none⟩) n n) xss us
  below : Below w.heap.size w wr
theorem Sq.next {w wr w2 : World} {n : Nat} {xss : List (List Int)} {us : List Value} (h : Sq w wr n xss us) (hb : Below wr.heap.size wr w2) : Sq w w2 n xss us := ⟨h.rows.below hb, h.below.trans (hb.mono h.below.size)⟩
theorem Sq.row {w wr : World} {n i : Nat} {g : Nat → Nat → Int} {us : List Value} (h : Sq w wr n (outTo n g i) us) (hi : i < n) (hn : n ≤ maxLen) :
    Sq w ((wr.alloc (.cells (madeCells #[.int .i64 0] n) 2)).setCell ⟨w.heap.size, i, none⟩ (.slice (some ⟨wr.heap.size, 0, none⟩) n n)) n (sqTo n g i 0) (us.set i (.slice (some ⟨wr.heap.size, 0, none⟩) n n)) := by
  obtain ⟨hr, hb⟩ := h
  have hA : Below wr.heap.size wr (wr.alloc (.cells (madeCells #[.int .i64 0] n) 2)) := (Below.refl _ _).alloc (Nat.le_refl _) _
  have h1 := (hr.below hA).putRow (i := i) (u := .slice (some ⟨wr.heap.size, 0, none⟩) n n) (xs := List.replicate n 0) (by rw [outTo_length]; exact hi) ((zeros_fresh wr n hn).mono hb.size)
    (fun b hb' => by
      simp [Value.ownBlock] at hb'
      subst hb'
      obtain ⟨g', c', hv, _, h2⟩ := hr.top
      simp only [Value.slice.injEq, Option.some.injEq, Addr.mk.injEq] at hv
      refine ⟨by omega, fun j hj _ c => ?_⟩
      have := (hr.rows j _ hj c).2
      omega)
  rw [sqTo_start] at h1
  exact ⟨h1, (hb.alloc hb.size _).setCell (Nat.le_refl _) _⟩
theorem Sq.num {w wr : World} {n i k gr cr : Nat} {g : Nat → Nat → Int} {us : List Value} (h : Sq w wr n (sqTo n g i k) us) (hi : i < n) (hu : us.getD i undef = .slice (some ⟨gr, 0, none⟩) n cr) :
    Sq w (wr.setCell ⟨gr, k, none⟩ (.int .i64 (g i k))) n (sqTo n g i (k + 1)) us := by
  obtain ⟨hr, hb⟩ := h
  have h1 := hr.setRow (i := i) (by rw [sqTo_length]; exact hi) hu k (g i k)
  rw [sqTo_step _ _ _ _ hi] at h1
  have := hr.rows i gr (by rw [sqTo_length]; exact hi) (by rw [hu]; rfl)
  exact ⟨h1, hb.setCell this.1 _⟩
theorem Sq.topAt {w wr : World} {n i : Nat} {xss : List (List Int)} {us : List Value} (h : Sq w wr n xss us) (hl : xss.length = n) (hi : i < n) :
    wr.cell? ⟨w.heap.size, i, none⟩ = some (us.getD i undef) ∧ wr.frozen? ⟨w.heap.size, i, none⟩ = false := by
  have htp := h.rows.own.top
  have hul := h.rows.own.len
  rw [hl] at htp hul
  refine ⟨?_, World.ownsRow.frozenAt htp i⟩
  rw [World.ownsRow.cellAt htp i (by omega)]
  simp [hul, hi]
theorem Sq.numAt {w wr : World} {n i k gr cr : Nat} {g : Nat → Nat → Int} {us : List Value} (h : Sq w wr n (sqTo n g i k) us) (hi : i < n) (hk : k < n) (hu : us.getD i undef = .slice (some ⟨gr, 0, none⟩) n cr) :
    (∃ x, wr.cell? ⟨gr, k, none⟩ = some (.int .i64 x)) ∧ wr.frozen? ⟨gr, k, none⟩ = false ∧ gr < wr.heap.size := by
  have hro := h.rows.own.rows i (by rw [sqTo_length]; exact hi)
  rw [sqTo_row _ _ _ _ hi, hu] at hro
  exact ⟨⟨_, own_cellN hro (row_length _ _).symm hk⟩, own_frozenN hro (row_length _ _).symm k, (h.rows.rows i gr (by rw [sqTo_length]; exact hi) (by rw [hu]; rfl)).2⟩
end Go.Proofs.Ytgncaploccbfnaa.PW
