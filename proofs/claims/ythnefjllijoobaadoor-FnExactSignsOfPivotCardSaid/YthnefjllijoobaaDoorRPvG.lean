/-
  A pivot in memory while the model builds it: a row, a number appended, a number stored into a row.
-/
import Derived.Test.YthnefjllijoobaaDoorRPv
namespace Go.Proofs.YthnefjllijoobaaDoor.PW
open Go.RowKit Go.Proofs.YthnefjllijoobaaDoor
open Go.Proofs.YthnefjllijoobaaDoor.PM Go.Proofs.YthnefjllijoobaaDoor.PX

/-- A pivot behind the variable at N. -/
structure PvG (B : Nat) (wr : World) (N : Nat) (d : Int) (v q : Value) (R : List (List Int)) (S : List Int) (us : List Value) : Prop where
  rows : OwnRs B wr v R us
  side : OwnI wr q S
  qb : ∀ b, q.ownBlock = some b → B ≤ b ∧ b < wr.heap.size
  qu : ∀ i b, i < R.length → (us.getD i undef).ownBlock = some b → q.ownBlock ≠ some b
  c0 : wr.cell? ⟨N, 0, none⟩ = some (.int .i64 d)
  c1 : wr.cell? ⟨N, 1, none⟩ = some v
  c2 : wr.cell? ⟨N, 2, none⟩ = some q
  nf : ∀ o, wr.frozen? ⟨N, o, none⟩ = false
  lt : N < wr.heap.size
  vN : v.ownBlock ≠ some N
  qN : q.ownBlock ≠ some N
  uN : ∀ i, i < R.length → (us.getD i undef).ownBlock ≠ some N
  BN : B ≤ N
theorem PvG.below {wr w2 : World} {B N : Nat} {d : Int} {v q : Value} {R : List (List Int)} {S : List Int} {us : List Value} (h : PvG B wr N d v q R S us) (hb : Below wr.heap.size wr w2) : PvG B w2 N d v q R S us :=
  ⟨h.rows.keepB hb.size (fun b hb' => hb.block b (h.rows.mb b hb').2) (fun i b hi hb' => hb.block b (h.rows.ub i b hi hb').2), own_keep h.side (fun b hb' => hb.block b (h.qb b hb').2),
    fun b hb' => ⟨(h.qb b hb').1, Nat.lt_of_lt_of_le (h.qb b hb').2 hb.size⟩, h.qu, (hb.cell (p := ⟨N, 0, none⟩) h.lt).trans h.c0, (hb.cell (p := ⟨N, 1, none⟩) h.lt).trans h.c1, (hb.cell (p := ⟨N, 2, none⟩) h.lt).trans h.c2,
    fun o => (hb.frozen (p := ⟨N, o, none⟩) h.lt).trans (h.nf o), Nat.lt_of_lt_of_le h.lt hb.size, h.vN, h.qN, h.uN, h.BN⟩
/-- The variable's cells behind an append. -/
theorem PvG.far {wr W3 W4 : World} {B N : Nat} {d : Int} {v q : Value} {R : List (List Int)} {S : List Int} {us : List Value} {row : Option Nat} (h : PvG B wr N d v q R S us) (hb : Below wr.heap.size wr W3) (hgrow : W3.grownBy W4 row) (hr : row ≠ some N) :
    N < W4.heap.size ∧ (∀ o, W4.cell? ⟨N, o, none⟩ = wr.cell? ⟨N, o, none⟩) ∧ ∀ o, W4.frozen? ⟨N, o, none⟩ = false := by
  have hz3 := hb.size
  have hz4 := hgrow.size
  have hlt := h.lt
  have hN : W4.heap[N]? = wr.heap[N]? := (hgrow.block N (by omega) (fun c => hr c.symm)).trans (hb.block N hlt)
  refine ⟨by omega, fun o => ?_, fun o => ?_⟩
  · exact World.cell?_of_block (w := wr) (a := ⟨N, o, none⟩) hN
  · exact (World.frozen?_of_block (w := wr) (a := ⟨N, o, none⟩) hN).trans (h.nf o)
theorem PvG.row {wr W3 W4 : World} {B N C g cap : Nat} {d : Int} {v q u : Value} {R : List (List Int)} {S xs : List Int} {us : List Value} (h : PvG B wr N d v q R S us) (hb : Below wr.heap.size wr W3) (hu : OwnI W3 u xs)
    (hub : ∀ b, u.ownBlock = some b → wr.heap.size ≤ b ∧ b < W3.heap.size) (hown : W4.ownsRow C 23 1 (.slice (some ⟨g, 0, none⟩) (R.length + 1) cap) (R.length + 1) (us ++ [u])) (hgrow : W3.grownBy W4 v.ownBlock) (hat : v.ownBlock = some g ∨ g = W3.heap.size) :
    PvG B (W4.setCell ⟨N, 1, none⟩ (.slice (some ⟨g, 0, none⟩) (R.length + 1) cap)) N d (.slice (some ⟨g, 0, none⟩) (R.length + 1) cap) q (R ++ [xs]) S (us ++ [u]) := by
  have hz3 := hb.size
  have hz4 := hgrow.size
  have hlt := h.lt
  obtain ⟨f1, f2, f3⟩ := h.far hb hgrow h.vN
  have hBN := h.BN
  have hg : B ≤ g ∧ g ≠ N := by
    rcases hat with c | c
    · exact ⟨(h.rows.mb g c).1, fun e => h.vN (by rw [← e]; exact c)⟩
    · exact ⟨by omega, by omega⟩
  have hr4 := h.rows.push (by omega) hb hu hub (own_based (own_base' hown) (fun b hb' => by simp [Value.ownBlock] at hb'; omega)) hgrow
  have ht : ∀ b, b ≠ N → (W4.setCell ⟨N, 1, none⟩ (.slice (some ⟨g, 0, none⟩) (R.length + 1) cap)).heap[b]? = W4.heap[b]? := fun b hb' => Below.heap_setCell _ _ _ _ hb'
  have hq4 : OwnI W4 q S := own_keep h.side (fun b hb' => (hgrow.block b (by have := (h.qb b hb').2; omega) (fun c => own_apart h.rows.rows.top h.side (by decide) c.symm hb')).trans (hb.block b (h.qb b hb').2))
  have hN5 : ∀ i, i < (R ++ [xs]).length → ((us ++ [u]).getD i undef).ownBlock ≠ some N := fun i hi c => by
    have hlen : us.length = R.length := h.rows.rows.len
    by_cases e : i = R.length
    · rw [e, ← hlen, getD_append_eq] at c
      have := (hub N c).1
      omega
    · have hi' : i < R.length := by simp at hi; omega
      rw [getD_append_lt _ _ _ _ (by omega)] at c
      exact h.uN i hi' c
  refine ⟨hr4.keepB (by simp) (fun b hb' => ht b (by simp [Value.ownBlock] at hb'; omega)) (fun i b hi hb' => ht b (fun c => hN5 i hi (by rw [← c]; exact hb'))), own_keep hq4 (fun b hb' => ht b (fun c => h.qN (by rw [← c]; exact hb'))),
    fun b hb' => ⟨(h.qb b hb').1, by have := (h.qb b hb').2; simp; omega⟩, fun i b hi hb' => ?_, ?_, ?_, ?_, fun o => by simpa using f3 o, by simpa using f1, fun c => hg.2 (by simpa [Value.ownBlock] using c), h.qN, hN5, hBN⟩
  · have hlen : us.length = R.length := h.rows.rows.len
    by_cases e : i = R.length
    · rw [e, ← hlen, getD_append_eq] at hb'
      intro c
      have := (hub b hb').1
      have := (h.qb b c).2
      omega
    · have hi' : i < R.length := by simp at hi; omega
      rw [getD_append_lt _ _ _ _ (by omega)] at hb'
      exact h.qu i b hi' hb'
  · rw [World.cell?_setCell_other _ _ _ _ (by simp), f2]; exact h.c0
  · exact World.cell?_setCell_same _ _ _ ((f2 1).trans h.c1)
  · rw [World.cell?_setCell_other _ _ _ _ (by simp), f2]; exact h.c2
theorem PvG.num {wr W3 W4 : World} {B N C g cap : Nat} {d x : Int} {v q : Value} {R : List (List Int)} {S : List Int} {us : List Value} (h : PvG B wr N d v q R S us) (hb : Below wr.heap.size wr W3)
    (hown : W4.ownsRow C 2 1 (.slice (some ⟨g, 0, none⟩) (S.length + 1) cap) (S.length + 1) (S.map (Value.int .i64) ++ [.int .i64 x])) (hgrow : W3.grownBy W4 q.ownBlock) (hat : q.ownBlock = some g ∨ g = W3.heap.size) (hgl : g < W4.heap.size) :
    PvG B (W4.setCell ⟨N, 2, none⟩ (.slice (some ⟨g, 0, none⟩) (S.length + 1) cap)) N d v (.slice (some ⟨g, 0, none⟩) (S.length + 1) cap) R (S ++ [x]) us := by
  have hz3 := hb.size
  have hz4 := hgrow.size
  have hlt := h.lt
  obtain ⟨f1, f2, f3⟩ := h.far hb hgrow h.qN
  have hBN := h.BN
  have hg : B ≤ g ∧ g ≠ N := by
    rcases hat with c | c
    · exact ⟨(h.qb g c).1, fun e => h.qN (by rw [← e]; exact c)⟩
    · exact ⟨by omega, by omega⟩
  have ht : ∀ b, b ≠ N → (W4.setCell ⟨N, 2, none⟩ (.slice (some ⟨g, 0, none⟩) (S.length + 1) cap)).heap[b]? = W4.heap[b]? := fun b hb' => Below.heap_setCell _ _ _ _ hb'
  have hr4 : OwnRs B W4 v R us := h.rows.keepB (by omega) (fun b hb' => (hgrow.block b (by have := (h.rows.mb b hb').2; omega) (fun c => own_apart h.side h.rows.rows.top (by decide) c.symm hb')).trans (hb.block b (h.rows.mb b hb').2))
    (fun i b hi hb' => (hgrow.block b (by have := (h.rows.ub i b hi hb').2; omega) (fun c => h.qu i b hi hb' c.symm)).trans (hb.block b (h.rows.ub i b hi hb').2))
  have hq4 : OwnI W4 (.slice (some ⟨g, 0, none⟩) (S.length + 1) cap) (S ++ [x]) := by
    unfold OwnI
    rw [List.length_append, List.map_append]
    exact own_base' hown
  refine ⟨hr4.keepB (by simp) (fun b hb' => ht b (fun c => h.vN (by rw [← c]; exact hb'))) (fun i b hi hb' => ht b (fun c => h.uN i hi (by rw [← c]; exact hb'))), own_keep hq4 (fun b hb' => ht b (by simp [Value.ownBlock] at hb'; omega)),
    fun b hb' => by simp [Value.ownBlock] at hb'; simp; omega, fun i b hi hb' c => ?_, ?_, ?_, ?_, fun o => by simpa using f3 o, by simpa using f1, h.vN, fun c => hg.2 (by simpa [Value.ownBlock] using c), h.uN, hBN⟩
  · simp [Value.ownBlock] at c
    subst c
    rcases hat with e | e
    · exact h.qu i g hi hb' e
    · have := (h.rows.ub i g hi hb').2; omega
  · rw [World.cell?_setCell_other _ _ _ _ (by simp), f2]; exact h.c0
  · rw [World.cell?_setCell_other _ _ _ _ (by simp), f2]; exact h.c1
  · exact World.cell?_setCell_same _ _ _ ((f2 2).trans h.c2)
/-- A number is stored into a row. -/
theorem PvG.ent {B : Nat} {wr : World} {N n i k gi ci : Nat} {d : Int} {v q : Value} {f : Nat → Nat → Int} {S : List Int} {us : List Value} (h : PvG B wr N d v q (tab n f) S us) (hi : i < n) (hu : us.getD i undef = .slice (some ⟨gi, 0, none⟩) n ci) (x : Int) :
    PvG B (wr.setCell ⟨gi, k, none⟩ (.int .i64 x)) N d v q (tab n (upd f i k x)) S us := by
  have hit : i < (tab n f).length := by rw [tab_length]; exact hi
  have hub : (us.getD i undef).ownBlock = some gi := by rw [hu]; rfl
  have hgN : gi ≠ N := fun c => h.uN i hit (by rw [hub, c])
  have ht : ∀ b, b ≠ gi → (wr.setCell ⟨gi, k, none⟩ (.int .i64 x)).heap[b]? = wr.heap[b]? := fun b hb' => Below.heap_setCell _ _ _ _ hb'
  obtain ⟨⟨h1, h2, h3, h4, h5⟩, hm, hr⟩ := h.rows
  have hri := h3 i hit
  rw [tab_row _ _ _ hi, hu] at hri
  have hl : n = ((List.range n).map (f i)).length := by simp
  have hset : OwnI (wr.setCell ⟨gi, k, none⟩ (.int .i64 x)) (.slice (some ⟨gi, 0, none⟩) n ci) (((List.range n).map (f i)).set k x) := by
    have := own_set (cap := ci) (g := gi) (xs := (List.range n).map (f i)) (by rw [← hl]; exact hri) k x
    rw [← hl] at this
    exact this
  refine ⟨⟨⟨by rw [tab_length] at h1 ⊢; exact h1, by rw [tab_length] at h2 ⊢; exact own_keep h2 (fun b hb' => ht b (fun c => h5 i b hit hb' (by rw [hub, c]))), fun j hj => ?_, fun a b c ha hb => h4 a b c (by rw [tab_length] at ha ⊢; exact ha) (by rw [tab_length] at hb ⊢; exact hb), fun a b ha => h5 a b (by rw [tab_length] at ha ⊢; exact ha)⟩,
      fun b hb' => ⟨(hm b hb').1, by simpa using (hm b hb').2⟩, fun j b hj hb' => ⟨(hr j b (by rw [tab_length] at hj ⊢; exact hj) hb').1, by simpa using (hr j b (by rw [tab_length] at hj ⊢; exact hj) hb').2⟩⟩,
    own_keep h.side (fun b hb' => ht b (fun c => h.qu i gi hit hub (by rw [← c]; exact hb'))), fun b hb' => ⟨(h.qb b hb').1, by simpa using (h.qb b hb').2⟩, fun j b hj => h.qu j b (by rw [tab_length] at hj ⊢; exact hj),
    by rw [World.cell?_setCell_far _ _ _ _ hgN]; exact h.c0, by rw [World.cell?_setCell_far _ _ _ _ hgN]; exact h.c1, by rw [World.cell?_setCell_far _ _ _ _ hgN]; exact h.c2, fun o => by simpa using h.nf o, by simpa using h.lt, h.vN, h.qN, fun j hj => h.uN j (by rw [tab_length] at hj ⊢; exact hj), h.BN⟩
  rw [tab_length] at hj
  by_cases e : j = i
  · subst e
    rw [hu, tab_row _ _ _ hj]
    have e2 : (List.range n).map (upd f j k x j) = ((List.range n).map (f j)).set k x := by
      rw [row_set]
      apply List.map_congr_left
      intro b _
      unfold upd
      by_cases eb : b = k
      · rw [if_pos ⟨rfl, eb⟩, if_pos eb]
      · rw [if_neg (fun c => eb c.2), if_neg eb]
    rw [e2]
    exact hset
  · have h3j := h3 j (by rw [tab_length]; exact hj)
    rw [tab_row _ _ _ hj] at h3j ⊢
    have e2 : (List.range n).map (upd f i k x j) = (List.range n).map (f j) := by
      apply List.map_congr_left
      intro b _
      unfold upd
      rw [if_neg (fun c => e c.1)]
    rw [e2]
    exact own_keep h3j (fun b hb' => ht b (fun c => e (h4 j i gi (by rw [tab_length]; exact hj) hit (by rw [← c]; exact hb') hub)))
theorem PvG.ownV {B : Nat} {wr W : World} {N : Nat} {d : Int} {v q : Value} {R : List (List Int)} {S : List Int} {us : List Value} {n : Nat} (h : PvG B wr N d v q R S us) (hb : Below wr.heap.size wr W) (hn : R.length = n) : W.ownsRow 0 23 1 v n us := by
  subst hn
  exact (h.below hb).rows.rows.top
theorem PvG.ownQ {B : Nat} {wr W : World} {N : Nat} {d : Int} {v q : Value} {R : List (List Int)} {S : List Int} {us : List Value} {n : Nat} (h : PvG B wr N d v q R S us) (hb : Below wr.heap.size wr W) (hn : S.length = n) : W.ownsRow 0 2 1 q n (S.map (Value.int .i64)) := by
  subst hn
  exact (h.below hb).side
theorem PvG.rowF {wr W3 W4 : World} {B N C g cap k B0 : Nat} {d : Int} {v q u : Value} {R : List (List Int)} {S xs : List Int} {us : List Value} (h : PvG B wr N d v q R S us) (hb : Below wr.heap.size wr W3) (hf : FreshI B0 W3 u xs) (hB0 : wr.heap.size ≤ B0) (hk : R.length = k)
    (hown : W4.ownsRow C 23 1 (.slice (some ⟨g, 0, none⟩) (k + 1) cap) (k + 1) (us ++ [u])) (hgrow : W3.grownBy W4 v.ownBlock) (hat : v.ownBlock = some g ∨ g = W3.heap.size) :
    PvG B (W4.setCell ⟨N, 1, none⟩ (.slice (some ⟨g, 0, none⟩) (k + 1) cap)) N d (.slice (some ⟨g, 0, none⟩) (k + 1) cap) q (R ++ [xs]) S (us ++ [u]) := by
  subst hk
  obtain ⟨gu, cu, hu, h1, h2, ho⟩ := hf
  refine h.row hb ho (fun b hb' => ?_) hown hgrow hat
  rw [hu] at hb'
  simp [Value.ownBlock] at hb'
  omega
theorem PvG.numF {wr W3 W4 : World} {B N C g cap k : Nat} {d x : Int} {v q : Value} {R : List (List Int)} {S : List Int} {us : List Value} (h : PvG B wr N d v q R S us) (hb : Below wr.heap.size wr W3) (hk : S.length = k)
    (hown : W4.ownsRow C 2 1 (.slice (some ⟨g, 0, none⟩) (k + 1) cap) (k + 1) (S.map (Value.int .i64) ++ [.int .i64 x])) (hgrow : W3.grownBy W4 q.ownBlock) (hat : q.ownBlock = some g ∨ g = W3.heap.size) (hgl : g < W4.heap.size) :
    PvG B (W4.setCell ⟨N, 2, none⟩ (.slice (some ⟨g, 0, none⟩) (k + 1) cap)) N d v (.slice (some ⟨g, 0, none⟩) (k + 1) cap) R (S ++ [x]) us := by
  subst hk
  exact h.num hb hown hgrow hat hgl
theorem pvG_low {wr W3 W4 w : World} {N B o : Nat} {row : Option Nat} {y : Value} (hB : Below B w wr) (hBN : B ≤ N) (hN : N < wr.heap.size) (hb : Below wr.heap.size wr W3) (hgrow : W3.grownBy W4 row) (hr : ∀ b, row = some b → B ≤ b) : Below B w (W4.setCell ⟨N, o, none⟩ y) :=
  ((hB.trans (hb.mono (by omega))).grown hgrow (by have := hb.size; omega) hr).setCell hBN _
/-- What lies in the memory of a pivot that is handed back. -/
structure PvM (lo : Nat) (w : World) (v q : Value) (R : List (List Int)) (S : List Int) (us : List Value) : Prop where
  rows : OwnRs lo w v R us
  side : OwnI w q S
  qb : ∀ b, q.ownBlock = some b → lo ≤ b ∧ b < w.heap.size
  qu : ∀ i b, i < R.length → (us.getD i undef).ownBlock = some b → q.ownBlock ≠ some b
theorem PvM.tch {lo : Nat} {bs : List Nat} {w w' : World} {v q : Value} {R : List (List Int)} {S : List Int} {us : List Value} (h : PvM lo w v q R S us) (ht : Tch bs w w') (hb : ∀ b, b ∈ bs → ¬ (v.ownBlock = some b) ∧ ¬ (q.ownBlock = some b) ∧ ∀ i, i < R.length → ¬ ((us.getD i undef).ownBlock = some b)) : PvM lo w' v q R S us :=
  ⟨h.rows.keepB (by rw [ht.size]; exact Nat.le_refl _) (fun b hb' => ht.block b (fun c => (hb b c).1 hb')) (fun i b hi hb' => ht.block b (fun c => (hb b c).2.2 i hi hb')), own_keep h.side (fun b hb' => ht.block b (fun c => (hb b c).2.1 hb')),
    fun b hb' => ⟨(h.qb b hb').1, by rw [ht.size]; exact (h.qb b hb').2⟩, h.qu⟩
theorem PvM.mono {lo lo' : Nat} {w : World} {v q : Value} {R : List (List Int)} {S : List Int} {us : List Value} (h : PvM lo w v q R S us) (hl : lo' ≤ lo) : PvM lo' w v q R S us :=
  ⟨⟨h.rows.rows, fun b hb => ⟨Nat.le_trans hl (h.rows.mb b hb).1, (h.rows.mb b hb).2⟩, fun i b hi hb => ⟨Nat.le_trans hl (h.rows.ub i b hi hb).1, (h.rows.ub i b hi hb).2⟩⟩, h.side, fun b hb => ⟨Nat.le_trans hl (h.qb b hb).1, (h.qb b hb).2⟩, h.qu⟩
/-- Blocks that are older than the pivot's may be written. -/
theorem PvM.old {lo : Nat} {bs : List Nat} {w w' : World} {v q : Value} {R : List (List Int)} {S : List Int} {us : List Value} (h : PvM lo w v q R S us) (ht : Tch bs w w') (hb : ∀ b, b ∈ bs → b < lo) : PvM lo w' v q R S us :=
  h.tch ht (fun b hb' => ⟨fun c => by have := (h.rows.mb b c).1; have := hb b hb'; omega, fun c => by have := (h.qb b c).1; have := hb b hb'; omega, fun i hi c => by have := (h.rows.ub i b hi c).1; have := hb b hb'; omega⟩)
theorem PvM.below {lo : Nat} {w w' : World} {v q : Value} {R : List (List Int)} {S : List Int} {us : List Value} (h : PvM lo w v q R S us) (hb : Below w.heap.size w w') : PvM lo w' v q R S us :=
  ⟨h.rows.keepB hb.size (fun b hb' => hb.block b (h.rows.mb b hb').2) (fun i b hi hb' => hb.block b (h.rows.ub i b hi hb').2), own_keep h.side (fun b hb' => hb.block b (h.qb b hb').2), fun b hb' => ⟨(h.qb b hb').1, Nat.lt_of_lt_of_le (h.qb b hb').2 hb.size⟩, h.qu⟩
theorem PvG.m {B : Nat} {wr : World} {N : Nat} {d : Int} {v q : Value} {R : List (List Int)} {S : List Int} {us : List Value} (h : PvG B wr N d v q R S us) : PvM B wr v q R S us := ⟨h.rows, h.side, h.qb, h.qu⟩
theorem OutV.m {w w' : World} {d : Int} {R : List (List Int)} {S : List Int} {e : Ending} (h : OutV w d R S e w') : ∃ a c a' c' us, e = .returned (.agg #[.int .i64 d, .slice a R.length c, .slice a' S.length c']) ∧ PvM w.heap.size w' (.slice a R.length c) (.slice a' S.length c') R S us ∧ Below w.heap.size w w' := by
  obtain ⟨v, q, us, rfl, h1, h2, h3, h4, h5⟩ := h
  obtain ⟨a, c, rfl⟩ : ∃ a c, v = .slice a R.length c := by
    rcases h1.rows.top.2 with ⟨rfl, hn⟩ | ⟨g, cap, cur, rfl, _⟩
    · exact ⟨none, 0, by rw [hn]⟩
    · exact ⟨_, cap, rfl⟩
  obtain ⟨a', c', rfl⟩ := OwnI.shape h2
  exact ⟨a, c, a', c', us, rfl, ⟨h1, h2, h3, h4⟩, h5⟩
end Go.Proofs.YthnefjllijoobaaDoor.PW
