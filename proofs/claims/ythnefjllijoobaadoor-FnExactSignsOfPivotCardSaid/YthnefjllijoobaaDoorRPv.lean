/-
  A pivot in memory while it is built: a number, rows and a list behind a variable; a row, a number appended.
-/
import Derived.Test.YthnefjllijoobaaDoorQOwn
import Derived.Test.YthnefjllijoobaaDoorPPtB
import Derived.Deep.AppendLies
import Derived.Deep.RegionHeldLaw
namespace Go.Proofs.YthnefjllijoobaaDoor.PW
open Go.RowKit Go.Proofs.YthnefjllijoobaaDoor
open Go.Proofs.YthnefjllijoobaaDoor.PM Go.Proofs.YthnefjllijoobaaDoor.PX

theorem OwnRs.keepB {W W' : World} {B : Nat} {v : Value} {xss : List (List Int)} {us : List Value} (h : OwnRs B W v xss us) (hz : W.heap.size ≤ W'.heap.size) (hv : ∀ b, v.ownBlock = some b → W'.heap[b]? = W.heap[b]?)
    (hu : ∀ i b, i < xss.length → (us.getD i undef).ownBlock = some b → W'.heap[b]? = W.heap[b]?) : OwnRs B W' v xss us := by
  obtain ⟨⟨h1, h2, h3, h4, h5⟩, hm, hr⟩ := h
  exact ⟨⟨h1, own_keep h2 hv, fun i hi => own_keep (h3 i hi) (fun b hb => hu i b hi hb), h4, h5⟩, fun b hb => ⟨(hm b hb).1, Nat.lt_of_lt_of_le (hm b hb).2 hz⟩, fun i b hi hb => ⟨(hr i b hi hb).1, Nat.lt_of_lt_of_le (hr i b hi hb).2 hz⟩⟩
/-- A pivot behind the variable at N. -/
structure PvO (wr : World) (N : Nat) (d : Int) (v q : Value) (R : List (List Int)) (S : List Int) (us : List Value) : Prop where
  rows : OwnRs (N + 1) wr v R us
  side : OwnI wr q S
  qb : ∀ b, q.ownBlock = some b → N + 1 ≤ b ∧ b < wr.heap.size
  qu : ∀ i b, i < R.length → (us.getD i undef).ownBlock = some b → q.ownBlock ≠ some b
  c0 : wr.cell? ⟨N, 0, none⟩ = some (.int .i64 d)
  c1 : wr.cell? ⟨N, 1, none⟩ = some v
  c2 : wr.cell? ⟨N, 2, none⟩ = some q
  nf : ∀ o, wr.frozen? ⟨N, o, none⟩ = false
  lt : N < wr.heap.size
theorem PvO.below {wr w2 : World} {N : Nat} {d : Int} {v q : Value} {R : List (List Int)} {S : List Int} {us : List Value} (h : PvO wr N d v q R S us) (hb : Below wr.heap.size wr w2) : PvO w2 N d v q R S us :=
  ⟨h.rows.keepB hb.size (fun b hb' => hb.block b (h.rows.mb b hb').2) (fun i b hi hb' => hb.block b (h.rows.ub i b hi hb').2), own_keep h.side (fun b hb' => hb.block b (h.qb b hb').2),
    fun b hb' => ⟨(h.qb b hb').1, Nat.lt_of_lt_of_le (h.qb b hb').2 hb.size⟩, h.qu, (hb.cell (p := ⟨N, 0, none⟩) h.lt).trans h.c0, (hb.cell (p := ⟨N, 1, none⟩) h.lt).trans h.c1, (hb.cell (p := ⟨N, 2, none⟩) h.lt).trans h.c2,
    fun o => (hb.frozen (p := ⟨N, o, none⟩) h.lt).trans (h.nf o), Nat.lt_of_lt_of_le h.lt hb.size⟩
/-- The variable's cells behind an append. -/
theorem PvO.far {wr W3 W4 : World} {N : Nat} {d : Int} {v q : Value} {R : List (List Int)} {S : List Int} {us : List Value} {row : Option Nat} (h : PvO wr N d v q R S us) (hb : Below wr.heap.size wr W3) (hgrow : W3.grownBy W4 row) (hr : ∀ b, row = some b → N + 1 ≤ b) :
    N < W4.heap.size ∧ (∀ o, W4.cell? ⟨N, o, none⟩ = wr.cell? ⟨N, o, none⟩) ∧ ∀ o, W4.frozen? ⟨N, o, none⟩ = false := by
  have hz3 := hb.size
  have hz4 := hgrow.size
  have hlt := h.lt
  have hN : W4.heap[N]? = wr.heap[N]? := (hgrow.block N (by omega) (fun c => by have := hr N c.symm; omega)).trans (hb.block N hlt)
  refine ⟨by omega, fun o => ?_, fun o => ?_⟩
  · exact World.cell?_of_block (w := wr) (a := ⟨N, o, none⟩) hN
  · exact (World.frozen?_of_block (w := wr) (a := ⟨N, o, none⟩) hN).trans (h.nf o)
theorem PvO.row {wr W3 W4 : World} {N C g cap : Nat} {d : Int} {v q u : Value} {R : List (List Int)} {S xs : List Int} {us : List Value} (h : PvO wr N d v q R S us) (hb : Below wr.heap.size wr W3) (hu : OwnI W3 u xs)
    (hub : ∀ b, u.ownBlock = some b → wr.heap.size ≤ b ∧ b < W3.heap.size) (hown : W4.ownsRow C 23 1 (.slice (some ⟨g, 0, none⟩) (R.length + 1) cap) (R.length + 1) (us ++ [u])) (hgrow : W3.grownBy W4 v.ownBlock) (hat : v.ownBlock = some g ∨ g = W3.heap.size) :
    PvO (W4.setCell ⟨N, 1, none⟩ (.slice (some ⟨g, 0, none⟩) (R.length + 1) cap)) N d (.slice (some ⟨g, 0, none⟩) (R.length + 1) cap) q (R ++ [xs]) S (us ++ [u]) := by
  have hz3 := hb.size
  have hz4 := hgrow.size
  have hlt := h.lt
  obtain ⟨f1, f2, f3⟩ := h.far hb hgrow (fun b hb' => (h.rows.mb b hb').1)
  have hg : N + 1 ≤ g := by
    rcases hat with c | c
    · exact (h.rows.mb g c).1
    · omega
  have hr4 := h.rows.push (by omega) hb hu hub (own_based (own_base' hown) (fun b hb' => by simp [Value.ownBlock] at hb'; omega)) hgrow
  have ht : ∀ b, b ≠ N → (W4.setCell ⟨N, 1, none⟩ (.slice (some ⟨g, 0, none⟩) (R.length + 1) cap)).heap[b]? = W4.heap[b]? := fun b hb' => Below.heap_setCell _ _ _ _ hb'
  have hq4 : OwnI W4 q S := own_keep h.side (fun b hb' => (hgrow.block b (by have := (h.qb b hb').2; omega) (fun c => own_apart h.rows.rows.top h.side (by decide) c.symm hb')).trans (hb.block b (h.qb b hb').2))
  refine ⟨hr4.keepB (by simp) (fun b hb' => ht b (by have := (hr4.mb b hb').1; omega)) (fun i b hi hb' => ht b (by have := (hr4.ub i b hi hb').1; omega)), own_keep hq4 (fun b hb' => ht b (by have := (h.qb b hb').1; omega)),
    fun b hb' => ⟨(h.qb b hb').1, by have := (h.qb b hb').2; simp; omega⟩, fun i b hi hb' => ?_, ?_, ?_, ?_, fun o => by simpa using f3 o, by simpa using f1⟩
  · have hlen : us.length = R.length := h.rows.rows.len
    by_cases e : i = R.length
    · rw [e, ← hlen, getD_append_eq] at hb'
      intro c
      have := (hub b hb').1
      have := (h.qb b c).2
      omega
    · have hi' : i < R.length := by simp at hi; omega
      rw [getD_append_lt _ _ _ _ (by omega)] at hb'
      exact h.qu i b hi' hb'
  · rw [World.cell?_setCell_other _ _ _ _ (by simp), f2]; exact h.c0
  · exact World.cell?_setCell_same _ _ _ ((f2 1).trans h.c1)
  · rw [World.cell?_setCell_other _ _ _ _ (by simp), f2]; exact h.c2
theorem PvO.num {wr W3 W4 : World} {N C g cap : Nat} {d x : Int} {v q : Value} {R : List (List Int)} {S : List Int} {us : List Value} (h : PvO wr N d v q R S us) (hb : Below wr.heap.size wr W3)
    (hown : W4.ownsRow C 2 1 (.slice (some ⟨g, 0, none⟩) (S.length + 1) cap) (S.length + 1) (S.map (Value.int .i64) ++ [.int .i64 x])) (hgrow : W3.grownBy W4 q.ownBlock) (hat : q.ownBlock = some g ∨ g = W3.heap.size) (hgl : g < W4.heap.size) :
    PvO (W4.setCell ⟨N, 2, none⟩ (.slice (some ⟨g, 0, none⟩) (S.length + 1) cap)) N d v (.slice (some ⟨g, 0, none⟩) (S.length + 1) cap) R (S ++ [x]) us := by
  have hz3 := hb.size
  have hz4 := hgrow.size
  have hlt := h.lt
  obtain ⟨f1, f2, f3⟩ := h.far hb hgrow (fun b hb' => (h.qb b hb').1)
  have hg : N + 1 ≤ g := by
    rcases hat with c | c
    · exact (h.qb g c).1
    · omega
  have ht : ∀ b, b ≠ N → (W4.setCell ⟨N, 2, none⟩ (.slice (some ⟨g, 0, none⟩) (S.length + 1) cap)).heap[b]? = W4.heap[b]? := fun b hb' => Below.heap_setCell _ _ _ _ hb'
  have hr4 : OwnRs (N + 1) W4 v R us := h.rows.keepB (by omega) (fun b hb' => (hgrow.block b (by have := (h.rows.mb b hb').2; omega) (fun c => own_apart h.side h.rows.rows.top (by decide) c.symm hb')).trans (hb.block b (h.rows.mb b hb').2))
    (fun i b hi hb' => (hgrow.block b (by have := (h.rows.ub i b hi hb').2; omega) (fun c => h.qu i b hi hb' c.symm)).trans (hb.block b (h.rows.ub i b hi hb').2))
  have hq4 : OwnI W4 (.slice (some ⟨g, 0, none⟩) (S.length + 1) cap) (S ++ [x]) := by
    unfold OwnI
    rw [List.length_append, List.map_append]
    exact own_base' hown
  refine ⟨hr4.keepB (by simp) (fun b hb' => ht b (by have := (hr4.mb b hb').1; omega)) (fun i b hi hb' => ht b (by have := (hr4.ub i b hi hb').1; omega)), own_keep hq4 (fun b hb' => ht b (by simp [Value.ownBlock] at hb'; omega)),
    fun b hb' => by simp [Value.ownBlock] at hb'; simp; omega, fun i b hi hb' c => ?_, ?_, ?_, ?_, fun o => by simpa using f3 o, by simpa using f1⟩
  · simp [Value.ownBlock] at c
    subst c
    rcases hat with e | e
    · exact h.qu i g hi hb' e
    · have := (h.rows.ub i g hi hb').2; omega
  · rw [World.cell?_setCell_other _ _ _ _ (by simp), f2]; exact h.c0
  · rw [World.cell?_setCell_other _ _ _ _ (by simp), f2]; exact h.c1
  · exact World.cell?_setCell_same _ _ _ ((f2 2).trans h.c2)
theorem PvO.start (w : World) (d : Int) : PvO (w.alloc (.cells #[.int .i64 d, .slice none 0 0, .slice none 0 0] 28)) w.heap.size d (.slice none 0 0) (.slice none 0 0) [] [] [] :=
  ⟨ownRs_nil _ _, World.ownsRow_nil _ _ _ _, fun b hb => by simp [Value.ownBlock] at hb, fun i b hi => absurd hi (Nat.not_lt_zero i), by simp, by simp, by simp, fun o => by simp, by simp⟩

/-- What a function leaves that returns a pivot. -/
def OutV (w : World) (d : Int) (R : List (List Int)) (S : List Int) (e : Ending) (w' : World) : Prop :=
  ∃ v q us, e = .returned (.agg #[.int .i64 d, v, q]) ∧ OwnRs w.heap.size w' v R us ∧ OwnI w' q S ∧ (∀ b, q.ownBlock = some b → w.heap.size ≤ b ∧ b < w'.heap.size) ∧
    (∀ i b, i < R.length → (us.getD i undef).ownBlock = some b → q.ownBlock ≠ some b) ∧ Below w.heap.size w w'
end Go.Proofs.YthnefjllijoobaaDoor.PW
