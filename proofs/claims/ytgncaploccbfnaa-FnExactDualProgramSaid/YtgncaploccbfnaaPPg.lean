/-
  A problem in memory while it is built behind a variable: a row, a number appended. (The same names as in RPv, RPgG: never both in one chain.)
-/
import Derived.Test.YtgncaploccbfnaaQOwn
import Derived.Test.YtgncaploccbfnaaPJor
import Derived.Test.YtgncaploccbfnaaPRoundB
import Derived.Deep.AppendLies
import Derived.Deep.RegionHeldLaw
namespace Go.Proofs.Ytgncaploccbfnaa.PW
open Go.RowKit Go.Proofs.Ytgncaploccbfnaa
open Go.Proofs.Ytgncaploccbfnaa.PM Go.Proofs.Ytgncaploccbfnaa.PX

theorem OwnRs.keepB {W W' : World} {B : Nat} {v : Value} {xss : List (List Int)} {us : List Value} (h : OwnRs B W v xss us) (hz : W.heap.size ≤ W'.heap.size) (hv : ∀ b, v.ownBlock = some b → W'.heap[b]? = W.heap[b]?)
    (hu : ∀ i b, i < xss.length → (us.getD i undef).ownBlock = some b → W'.heap[b]? = W.heap[b]?) : OwnRs B W' v xss us := by
  obtain ⟨⟨h1, h2, h3, h4, h5⟩, hm, hr⟩ := h
  exact ⟨⟨h1, own_keep h2 hv, fun i hi => own_keep (h3 i hi) (fun b hb => hu i b hi hb), h4, h5⟩, fun b hb => ⟨(hm b hb).1, Nat.lt_of_lt_of_le (hm b hb).2 hz⟩, fun i b hi hb => ⟨(hr i b hi hb).1, Nat.lt_of_lt_of_le (hr i b hi hb).2 hz⟩⟩
/-- A problem behind the variable at N. -/
structure PgG (B : Nat) (wr : World) (N : Nat) (v q : Value) (R : List (List Int)) (S : List Int) (us : List Value) : Prop where
  rows : OwnRs B wr v R us
  side : OwnI wr q S
  qb : ∀ b, q.ownBlock = some b → B ≤ b ∧ b < wr.heap.size
  qu : ∀ i b, i < R.length → (us.getD i undef).ownBlock = some b → q.ownBlock ≠ some b
  c1 : wr.cell? ⟨N, 0, none⟩ = some v
  c2 : wr.cell? ⟨N, 1, none⟩ = some q
  nf : ∀ o, wr.frozen? ⟨N, o, none⟩ = false
  lt : N < wr.heap.size
  vN : v.ownBlock ≠ some N
  qN : q.ownBlock ≠ some N
  uN : ∀ i, i < R.length → (us.getD i undef).ownBlock ≠ some N
  BN : B ≤ N
theorem PgG.below {wr w2 : World} {B N : Nat} {v q : Value} {R : List (List Int)} {S : List Int} {us : List Value} (h : PgG B wr N v q R S us) (hb : Below wr.heap.size wr w2) : PgG B w2 N v q R S us :=
  ⟨h.rows.keepB hb.size (fun b hb' => hb.block b (h.rows.mb b hb').2) (fun i b hi hb' => hb.block b (h.rows.ub i b hi hb').2), own_keep h.side (fun b hb' => hb.block b (h.qb b hb').2),
    fun b hb' => ⟨(h.qb b hb').1, Nat.lt_of_lt_of_le (h.qb b hb').2 hb.size⟩, h.qu, (hb.cell (p := ⟨N, 0, none⟩) h.lt).trans h.c1, (hb.cell (p := ⟨N, 1, none⟩) h.lt).trans h.c2,
    fun o => (hb.frozen (p := ⟨N, o, none⟩) h.lt).trans (h.nf o), Nat.lt_of_lt_of_le h.lt hb.size, h.vN, h.qN, h.uN, h.BN⟩
/-- The variable's cells behind an append. -/
theorem PgG.far {wr W3 W4 : World} {B N : Nat} {v q : Value} {R : List (List Int)} {S : List Int} {us : List Value} {row : Option Nat} (h : PgG B wr N v q R S us) (hb : Below wr.heap.size wr W3) (hgrow : W3.grownBy W4 row) (hr : row ≠ some N) :
    N < W4.heap.size ∧ (∀ o, W4.cell? ⟨N, o, none⟩ = wr.cell? ⟨N, o, none⟩) ∧ ∀ o, W4.frozen? ⟨N, o, none⟩ = false := by
  have hz3 := hb.size
  have hz4 := hgrow.size
  have hlt := h.lt
  have hN : W4.heap[N]? = wr.heap[N]? := (hgrow.block N (by omega) (fun c => hr c.symm)).trans (hb.block N hlt)
  refine ⟨by omega, fun o => ?_, fun o => ?_⟩
  · exact World.cell?_of_block (w := wr) (a := ⟨N, o, none⟩) hN
  · exact (World.frozen?_of_block (w := wr) (a := ⟨N, o, none⟩) hN).trans (h.nf o)
theorem PgG.row {wr W3 W4 : World} {B N C g cap : Nat} {v q u : Value} {R : List (List Int)} {S xs : List Int} {us : List Value} (h : PgG B wr N v q R S us) (hb : Below wr.heap.size wr W3) (hu : OwnI W3 u xs)
    (hub : ∀ b, u.ownBlock = some b → wr.heap.size ≤ b ∧ b < W3.heap.size) (hown : W4.ownsRow C 23 1 (.slice (some ⟨g, 0, none⟩) (R.length + 1) cap) (R.length + 1) (us ++ [u])) (hgrow : W3.grownBy W4 v.ownBlock) (hat : v.ownBlock = some g ∨ g = W3.heap.size) :
    PgG B (W4.setCell ⟨N, 0, none⟩ (.slice (some ⟨g, 0, none⟩) (R.length + 1) cap)) N (.slice (some ⟨g, 0, none⟩) (R.length + 1) cap) q (R ++ [xs]) S (us ++ [u]) := by
  have hz3 := hb.size
  have hz4 := hgrow.size
  have hlt := h.lt
  obtain ⟨f1, f2, f3⟩ := h.far hb hgrow h.vN
  have hBN := h.BN
  have hg : B ≤ g ∧ g ≠ N := by
    rcases hat with c | c
    · exact ⟨(h.rows.mb g c).1, fun e => h.vN (by rw [← e]; exact c)⟩
    · exact ⟨by omega, by omega⟩
  have hr4 := h.rows.push (by omega) hb hu hub (own_based (own_base' hown) (fun b hb' => by simp [Value.ownBlock] at hb'; omega)) hgrow
  have ht : ∀ b, b ≠ N → (W4.setCell ⟨N, 0, none⟩ (.slice (some ⟨g, 0, none⟩) (R.length + 1) cap)).heap[b]? = W4.heap[b]? := fun b hb' => Below.heap_setCell _ _ _ _ hb'
  have hq4 : OwnI W4 q S := own_keep h.side (fun b hb' => (hgrow.block b (by have := (h.qb b hb').2; omega) (fun c => own_apart h.rows.rows.top h.side (by decide) c.symm hb')).trans (hb.block b (h.qb b hb').2))
  have hN5 : ∀ i, i < (R ++ [xs]).length → ((us ++ [u]).getD i undef).ownBlock ≠ some N := fun i hi c => by
    have hlen : us.length = R.length := h.rows.rows.len
    by_cases e : i = R.length
    · rw [e, ← hlen, getD_append_eq] at c
      have := (hub N c).1
      omega
    · have hi' : i < R.length := by simp at hi; omega
      rw [getD_append_lt _ _ _ _ (by omega)] at c
      exact h.uN i hi' c
  refine ⟨hr4.keepB (by simp) (fun b hb' => ht b (by simp [Value.ownBlock] at hb'; omega)) (fun i b hi hb' => ht b (fun c => hN5 i hi (by rw [← c]; exact hb'))), own_keep hq4 (fun b hb' => ht b (fun c => h.qN (by rw [← c]; exact hb'))),
    fun b hb' => ⟨(h.qb b hb').1, by have := (h.qb b hb').2; simp; omega⟩, fun i b hi hb' => ?_, ?_, ?_, fun o => by simpa using f3 o, by simpa using f1, fun c => hg.2 (by simpa [Value.ownBlock] using c), h.qN, hN5, hBN⟩
  · have hlen : us.length = R.length := h.rows.rows.len
    by_cases e : i = R.length
    · rw [e, ← hlen, getD_append_eq] at hb'
      intro c
      have := (hub b hb').1
      have := (h.qb b c).2
      omega
    · have hi' : i < R.length := by simp at hi; omega
      rw [getD_append_lt _ _ _ _ (by omega)] at hb'
      exact h.qu i b hi' hb'
  · exact World.cell?_setCell_same _ _ _ ((f2 0).trans h.c1)
  · rw [World.cell?_setCell_other _ _ _ _ (by simp), f2]; exact h.c2
theorem PgG.num {wr W3 W4 : World} {B N C g cap : Nat} {x : Int} {v q : Value} {R : List (List Int)} {S : List Int} {us : List Value} (h : PgG B wr N v q R S us) (hb : Below wr.heap.size wr W3)
    (hown : W4.ownsRow C 2 1 (.slice (some ⟨g, 0, none⟩) (S.length + 1) cap) (S.length + 1) (S.map (Value.int .i64) ++ [.int .i64 x])) (hgrow : W3.grownBy W4 q.ownBlock) (hat : q.ownBlock = some g ∨ g = W3.heap.size) (hgl : g < W4.heap.size) :
    PgG B (W4.setCell ⟨N, 1, none⟩ (.slice (some ⟨g, 0, none⟩) (S.length + 1) cap)) N v (.slice (some ⟨g, 0, none⟩) (S.length + 1) cap) R (S ++ [x]) us := by
  have hz3 := hb.size
  have hz4 := hgrow.size
  have hlt := h.lt
  obtain ⟨f1, f2, f3⟩ := h.far hb hgrow h.qN
  have hBN := h.BN
  have hg : B ≤ g ∧ g ≠ N := by
    rcases hat with c | c
    · exact ⟨(h.qb g c).1, fun e => h.qN (by rw [← e]; exact c)⟩
    · exact ⟨by omega, by omega⟩
  have ht : ∀ b, b ≠ N → (W4.setCell ⟨N, 1, none⟩ (.slice (some ⟨g, 0, none⟩) (S.length + 1) cap)).heap[b]? = W4.heap[b]? := fun b hb' => Below.heap_setCell _ _ _ _ hb'
  have hr4 : OwnRs B W4 v R us := h.rows.keepB (by omega) (fun b hb' => (hgrow.block b (by have := (h.rows.mb b hb').2; omega) (fun c => own_apart h.side h.rows.rows.top (by decide) c.symm hb')).trans (hb.block b (h.rows.mb b hb').2))
    (fun i b hi hb' => (hgrow.block b (by have := (h.rows.ub i b hi hb').2; omega) (fun c => h.qu i b hi hb' c.symm)).trans (hb.block b (h.rows.ub i b hi hb').2))
  have hq4 : OwnI W4 (.slice (some ⟨g, 0, none⟩) (S.length + 1) cap) (S ++ [x]) := by
    unfold OwnI
    rw [List.length_append, List.map_append]
    exact own_base' hown
  refine ⟨hr4.keepB (by simp) (fun b hb' => ht b (fun c => h.vN (by rw [← c]; exact hb'))) (fun i b hi hb' => ht b (fun c => h.uN i hi (by rw [← c]; exact hb'))), own_keep hq4 (fun b hb' => ht b (by simp [Value.ownBlock] at hb'; omega)),
    fun b hb' => by simp [Value.ownBlock] at hb'; simp; omega, fun i b hi hb' c => ?_, ?_, ?_, fun o => by simpa using f3 o, by simpa using f1, h.vN, fun c => hg.2 (by simpa [Value.ownBlock] using c), h.uN, hBN⟩
  · simp [Value.ownBlock] at c
    subst c
    rcases hat with e | e
    · exact h.qu i g hi hb' e
    · have := (h.rows.ub i g hi hb').2; omega
  · rw [World.cell?_setCell_other _ _ _ _ (by simp), f2]; exact h.c1
  · exact World.cell?_setCell_same _ _ _ ((f2 1).trans h.c2)
theorem PgG.ownV {B : Nat} {wr W : World} {N : Nat} {v q : Value} {R : List (List Int)} {S : List Int} {us : List Value} {n : Nat} (h : PgG B wr N v q R S us) (hb : Below wr.heap.size wr W) (hn : R.length = n) : W.ownsRow 0 23 1 v n us := by
  subst hn
  exact (h.below hb).rows.rows.top
theorem PgG.ownQ {B : Nat} {wr W : World} {N : Nat} {v q : Value} {R : List (List Int)} {S : List Int} {us : List Value} {n : Nat} (h : PgG B wr N v q R S us) (hb : Below wr.heap.size wr W) (hn : S.length = n) : W.ownsRow 0 2 1 q n (S.map (Value.int .i64)) := by
  subst hn
  exact (h.below hb).side
theorem PgG.rowF {wr W3 W4 : World} {B N C g cap k B0 : Nat} {v q u : Value} {R : List (List Int)} {S xs : List Int} {us : List Value} (h : PgG B wr N v q R S us) (hb : Below wr.heap.size wr W3) (hf : FreshI B0 W3 u xs) (hB0 : wr.heap.size ≤ B0) (hk : R.length = k)
    (hown : W4.ownsRow C 23 1 (.slice (some ⟨g, 0, none⟩) (k + 1) cap) (k + 1) (us ++ [u])) (hgrow : W3.grownBy W4 v.ownBlock) (hat : v.ownBlock = some g ∨ g = W3.heap.size) :
    PgG B (W4.setCell ⟨N, 0, none⟩ (.slice (some ⟨g, 0, none⟩) (k + 1) cap)) N (.slice (some ⟨g, 0, none⟩) (k + 1) cap) q (R ++ [xs]) S (us ++ [u]) := by
  subst hk
  obtain ⟨gu, cu, hu, h1, h2, ho⟩ := hf
  refine h.row hb ho (fun b hb' => ?_) hown hgrow hat
  rw [hu] at hb'
  simp [Value.ownBlock] at hb'
  omega
theorem PgG.numF {wr W3 W4 : World} {B N C g cap k : Nat} {x : Int} {v q : Value} {R : List (List Int)} {S : List Int} {us : List Value} (h : PgG B wr N v q R S us) (hb : Below wr.heap.size wr W3) (hk : S.length = k)
    (hown : W4.ownsRow C 2 1 (.slice (some ⟨g, 0, none⟩) (k + 1) cap) (k + 1) (S.map (Value.int .i64) ++ [.int .i64 x])) (hgrow : W3.grownBy W4 q.ownBlock) (hat : q.ownBlock = some g ∨ g = W3.heap.size) (hgl : g < W4.heap.size) :
    PgG B (W4.setCell ⟨N, 1, none⟩ (.slice (some ⟨g, 0, none⟩) (k + 1) cap)) N v (.slice (some ⟨g, 0, none⟩) (k + 1) cap) R (S ++ [x]) us := by
  subst hk
  exact h.num hb hown hgrow hat hgl
theorem news_one {w : World} {h : Nat} {x : Value} (hc : w.cell? ⟨h, 0, none⟩ = some x) : ∀ (j : Nat) (u : Value), [x][j]? = some u → w.cell? ((⟨h, 0, none⟩ : Addr).add j) = some u := by
  intro j u hu
  rcases j with _ | j
  · simp at hu
    subst hu
    simpa [Addr.add] using hc
  · simp at hu
theorem pgG_start (w : World) : PgG w.heap.size (((w.alloc (.cells #[] 23)).alloc (.cells #[] 2)).alloc (.cells #[.slice (some ⟨w.heap.size, 0, none⟩) 0 0, .slice (some ⟨w.heap.size + 1, 0, none⟩) 0 0] 27))
    (w.heap.size + 1 + 1) (.slice (some ⟨w.heap.size, 0, none⟩) 0 0) (.slice (some ⟨w.heap.size + 1, 0, none⟩) 0 0) [] [] [] := by
  have hR := (freshR_nil w).below (w' := ((w.alloc (.cells #[] 23)).alloc (.cells #[] 2)).alloc (.cells #[.slice (some ⟨w.heap.size, 0, none⟩) 0 0, .slice (some ⟨w.heap.size + 1, 0, none⟩) 0 0] 27)) (((Below.refl _ _).alloc (Nat.le_refl _) _).alloc (by simp) _)
  have hI := (freshI_nil (w.alloc (.cells #[] 23))).below (w' := ((w.alloc (.cells #[] 23)).alloc (.cells #[] 2)).alloc (.cells #[.slice (some ⟨w.heap.size, 0, none⟩) 0 0, .slice (some ⟨w.heap.size + 1, 0, none⟩) 0 0] 27)) ((Below.refl _ _).alloc (Nat.le_refl _) _)
  obtain ⟨_, _, _, _, _, ho⟩ := hI
  rw [show (w.alloc (.cells #[] 23)).heap.size = w.heap.size + 1 by simp] at ho
  refine ⟨hR.ownRs, ho, fun b hb => ?_, fun i b hi => absurd hi (Nat.not_lt_zero _), by simp [go_sem], by simp [go_sem], fun o => by simp [go_sem], by simp, ?_, ?_, fun i hi => absurd hi (Nat.not_lt_zero _), by omega⟩
  · simp [Value.ownBlock] at hb; simp; omega
  · simp [Value.ownBlock]; omega
  · simp [Value.ownBlock]
end Go.Proofs.Ytgncaploccbfnaa.PW
