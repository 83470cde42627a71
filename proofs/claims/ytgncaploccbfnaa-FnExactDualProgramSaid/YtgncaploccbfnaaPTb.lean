/-
  A table in memory: rows of m numbers wherever they lie, apart from each other; what a stored number and two exchanged rows leave.
-/
import Derived.Test.YtgncaploccbfnaaPCol
import Derived.Test.YtgncaploccbfnaaPJor
namespace Go.Proofs.Ytgncaploccbfnaa.PW
open Go.RowKit Go.Proofs.Ytgncaploccbfnaa
open Go.Proofs.Ytgncaploccbfnaa.PM Go.Proofs.Ytgncaploccbfnaa.PX

theorem FreshR.shape {B n i : Nat} {w : World} {v : Value} {f : Nat → Nat → Int} {us : List Value} (h : FreshR B w v (tab n f) us) (hi : i < n) : ∃ g c, us.getD i undef = .slice (some ⟨g, 0, none⟩) n c := by
  have hro := h.own.rows i (by rw [tab_length]; exact hi)
  rw [tab_row _ _ _ hi] at hro
  obtain ⟨g, c, hu⟩ := own_nonempty hro (by intro c; have := congrArg List.length c; rw [row_length, List.length_nil] at this; omega)
  rw [row_length] at hu
  exact ⟨g, c, hu⟩
theorem FreshR.cellAt {B n i k g c : Nat} {w : World} {v : Value} {f : Nat → Nat → Int} {us : List Value} (h : FreshR B w v (tab n f) us) (hi : i < n) (hk : k < n) (hu : us.getD i undef = .slice (some ⟨g, 0, none⟩) n c) :
    w.cell? ⟨g, k, none⟩ = some (.int .i64 (f i k)) ∧ w.frozen? ⟨g, k, none⟩ = false := by
  have hro := h.own.rows i (by rw [tab_length]; exact hi)
  rw [tab_row _ _ _ hi, hu] at hro
  refine ⟨?_, own_frozenN hro (row_length _ _).symm k⟩
  rw [own_cellN hro (row_length _ _).symm hk, row_getD _ _ _ hk]
theorem FreshR.topAt {B n i g cap : Nat} {w : World} {f : Nat → Nat → Int} {us : List Value} (h : FreshR B w (.slice (some ⟨g, 0, none⟩) n cap) (tab n f) us) (hi : i < n) : w.cell? ⟨g, i, none⟩ = some (us.getD i undef) ∧ w.frozen? ⟨g, i, none⟩ = false := by
  have htp := h.own.top
  have hul := h.own.len
  rw [tab_length] at htp hul
  refine ⟨?_, World.ownsRow.frozenAt htp i⟩
  rw [World.ownsRow.cellAt htp i (by omega)]
  simp [hul, hi]
theorem _root_.Go.Proofs.Ytgncaploccbfnaa.PM.Tch.drew {bs : List Nat} {w w' : World} (h : Tch bs w w') : Tch bs w w'.drew := ⟨h.os, h.tape, h.output, h.size, h.block⟩

/-- n rows of m numbers f; the row i lies at G i, O i. -/
structure Tb (B : Nat) (w : World) (g n m : Nat) (G O C : Nat → Nat) (f : Nat → Nat → Int) : Prop where
  lo : B ≤ g
  hi : g < w.heap.size
  glo : ∀ i, i < n → B ≤ G i
  ghi : ∀ i, i < n → G i < w.heap.size
  over : ∀ i, i < n → G i ≠ g
  top : ∀ i, i < n → w.cell? ⟨g, i, none⟩ = some (.slice (some ⟨G i, O i, none⟩) m (C i)) ∧ w.frozen? ⟨g, i, none⟩ = false
  cell : ∀ i k, i < n → k < m → w.cell? ⟨G i, O i + k, none⟩ = some (.int .i64 (f i k)) ∧ w.frozen? ⟨G i, O i + k, none⟩ = false
  apart : ∀ i j k l, i < n → j < n → k < m → l < m → G i = G j → O i + k = O j + l → i = j ∧ k = l
  cap : ∀ i, i < n → m ≤ C i
theorem Tb.congr {B g n m : Nat} {w : World} {G O C : Nat → Nat} {f f' : Nat → Nat → Int} (h : Tb B w g n m G O C f) (hf : ∀ i k, i < n → k < m → f i k = f' i k) : Tb B w g n m G O C f' :=
  ⟨h.lo, h.hi, h.glo, h.ghi, h.over, h.top, fun i k hi hk => by rw [← hf i k hi hk]; exact h.cell i k hi hk, h.apart, h.cap⟩
theorem Tb.below {B g n m : Nat} {w w' : World} {G O C : Nat → Nat} {f : Nat → Nat → Int} (h : Tb B w g n m G O C f) (hb : Below w.heap.size w w') : Tb B w' g n m G O C f :=
  ⟨h.lo, Nat.lt_of_lt_of_le h.hi hb.size, h.glo, fun i hi => Nat.lt_of_lt_of_le (h.ghi i hi) hb.size, h.over,
    fun i hi => ⟨(hb.cell (p := ⟨g, i, none⟩) h.hi).trans (h.top i hi).1, (hb.frozen (p := ⟨g, i, none⟩) h.hi).trans (h.top i hi).2⟩,
    fun i k hi hk => ⟨(hb.cell (p := ⟨G i, O i + k, none⟩) (h.ghi i hi)).trans (h.cell i k hi hk).1, (hb.frozen (p := ⟨G i, O i + k, none⟩) (h.ghi i hi)).trans (h.cell i k hi hk).2⟩, h.apart, h.cap⟩
def upd (f : Nat → Nat → Int) (i k : Nat) (x : Int) (a b : Nat) : Int := if a = i ∧ b = k then x else f a b
theorem FreshR.setTab {B n i k g c : Nat} {w : World} {v : Value} {f : Nat → Nat → Int} {us : List Value} (h : FreshR B w v (tab n f) us) (hi : i < n) (hu : us.getD i undef = .slice (some ⟨g, 0, none⟩) n c) (x : Int) :
    FreshR B (w.setCell ⟨g, k, none⟩ (.int .i64 x)) v (tab n (upd f i k x)) us := by
  have h1 := h.setRow (i := i) (by rw [tab_length]; exact hi) hu k x
  rw [tab_set _ _ _ _ _ hi] at h1
  exact h1
theorem FreshR.drew {B : Nat} {w : World} {v : Value} {xss : List (List Int)} {us : List Value} (h : FreshR B w v xss us) : FreshR B w.drew v xss us := h.below (Below.refl _ _).drew
theorem FreshR.rowGe {B n i g c : Nat} {w : World} {v : Value} {f : Nat → Nat → Int} {us : List Value} (h : FreshR B w v (tab n f) us) (hi : i < n) (hu : us.getD i undef = .slice (some ⟨g, 0, none⟩) n c) : B ≤ g ∧ g < w.heap.size :=
  h.rows i g (by rw [tab_length]; exact hi) (by rw [hu]; rfl)
theorem Tb.set {B g n m i k : Nat} {w : World} {G O C : Nat → Nat} {f : Nat → Nat → Int} (h : Tb B w g n m G O C f) (hi : i < n) (hk : k < m) (x : Int) :
    Tb B (w.setCell ⟨G i, O i + k, none⟩ (.int .i64 x)) g n m G O C (upd f i k x) := by
  refine ⟨h.lo, by simpa using h.hi, h.glo, fun j hj => by simpa using h.ghi j hj, h.over, fun j hj => ⟨?_, by simpa using (h.top j hj).2⟩, fun j l hj hl => ⟨?_, by simpa using (h.cell j l hj hl).2⟩, h.apart, h.cap⟩
  · rw [World.cell?_setCell_far _ _ _ _ (show G i ≠ g from h.over i hi)]
    exact (h.top j hj).1
  · unfold upd
    by_cases e : j = i ∧ l = k
    · obtain ⟨rfl, rfl⟩ := e
      rw [if_pos ⟨rfl, rfl⟩, World.cell?_setCell_same _ _ _ (h.cell j l hj hl).1]
    · rw [if_neg e, World.cell?_setCell_other _ _ _ _ (fun c => e (by
        simp only [Addr.mk.injEq, and_true] at c
        have := h.apart i j k l hi hj hk hl c.1 c.2
        exact ⟨this.1.symm, this.2.symm⟩))]
      exact (h.cell j l hj hl).1
theorem sw_ge {c r x : Nat} (hcr : c < r) (hx : c ≤ x) : c ≤ sw c r x := by unfold sw; split <;> (try split) <;> omega
theorem sw_lt {c r x n : Nat} (hc : c < n) (hr : r < n) (hx : x < n) : sw c r x < n := by unfold sw; split <;> (try split) <;> omega
theorem sw_inj {c r x y : Nat} (h : sw c r x = sw c r y) : x = y := by
  unfold sw at h
  repeat' split at h
  all_goals omega
theorem Tb.swap {B g n m c r : Nat} {w : World} {G O C : Nat → Nat} {f : Nat → Nat → Int} (h : Tb B w g n m G O C f) (hc : c < n) (hr : r < n) (hcr : c < r) :
    Tb B ((w.setCell ⟨g, r, none⟩ (.slice (some ⟨G c, O c, none⟩) m (C c))).setCell ⟨g, c, none⟩ (.slice (some ⟨G r, O r, none⟩) m (C r))) g n m (fun i => G (sw c r i)) (fun i => O (sw c r i)) (fun i => C (sw c r i)) (rowsSw c r f) := by
  have hs : ∀ i, i < n → sw c r i < n := fun i hi => sw_lt hc hr hi
  refine ⟨h.lo, by simpa using h.hi, fun i hi => h.glo _ (hs i hi), fun i hi => by simpa using h.ghi _ (hs i hi), fun i hi => h.over _ (hs i hi), fun i hi => ⟨?_, by simpa using (h.top i hi).2⟩, fun i k hi hk => ⟨?_, by simpa using (h.cell _ k (hs i hi) hk).2⟩,
    fun i j k l hi hj hk hl e1 e2 => ?_, fun i hi => h.cap _ (hs i hi)⟩
  · by_cases e : i = c
    · subst e
      have e2 : sw i r i = r := by unfold sw; rw [if_pos rfl]
      rw [e2, World.cell?_setCell_same _ _ _ (u := .slice (some ⟨G i, O i, none⟩) m (C i))]
      rw [World.cell?_setCell_other _ _ _ _ (fun c => by simp only [Addr.mk.injEq, and_true, true_and] at c; omega)]
      exact (h.top i hi).1
    · rw [World.cell?_setCell_other _ _ _ _ (fun d => e (by simp only [Addr.mk.injEq, and_true, true_and] at d; exact d.symm))]
      by_cases e3 : i = r
      · subst e3
        have e2 : sw c i i = c := by unfold sw; rw [if_neg e, if_pos rfl]
        rw [e2, World.cell?_setCell_same _ _ _ (h.top i hi).1]
      · have e2 : sw c r i = i := by unfold sw; rw [if_neg e, if_neg e3]
        rw [e2, World.cell?_setCell_other _ _ _ _ (fun d => e3 (by simp only [Addr.mk.injEq, and_true, true_and] at d; exact d.symm))]
        exact (h.top i hi).1
  · rw [World.cell?_setCell_far _ _ _ _ (show g ≠ G (sw c r i) from fun d => h.over _ (hs i hi) d.symm), World.cell?_setCell_far _ _ _ _ (show g ≠ G (sw c r i) from fun d => h.over _ (hs i hi) d.symm)]
    exact (h.cell _ k (hs i hi) hk).1
  · have := h.apart _ _ k l (hs i hi) (hs j hj) hk hl e1 e2
    exact ⟨sw_inj this.1, this.2⟩

/-- Rows in fresh memory are a table. -/
theorem FreshR.tb {B n g cap : Nat} {w : World} {f : Nat → Nat → Int} {us : List Value} (h : FreshR B w (.slice (some ⟨g, 0, none⟩) n cap) (tab n f) us) : ∃ G O C, Tb B w g n n G O C f := by
  have hsh : ∀ i, ∃ p : Nat × Nat, i < n → us.getD i undef = .slice (some ⟨p.1, 0, none⟩) n p.2 := fun i => by
    by_cases hi : i < n
    · obtain ⟨a, b, e⟩ := h.shape hi
      exact ⟨(a, b), fun _ => e⟩
    · exact ⟨(0, 0), fun c => absurd c hi⟩
  obtain ⟨P, hP⟩ : ∃ P : Nat → Nat × Nat, ∀ i, i < n → us.getD i undef = .slice (some ⟨(P i).1, 0, none⟩) n (P i).2 := ⟨fun i => Classical.choose (hsh i), fun i => Classical.choose_spec (hsh i)⟩
  obtain ⟨gt, ct, hv, hg, hlt⟩ := h.top
  simp only [Value.slice.injEq, Option.some.injEq, Addr.mk.injEq, and_true] at hv
  have hgg : g = gt := by omega
  have hrg : ∀ i, i < n → B ≤ (P i).1 ∧ (P i).1 < w.heap.size := fun i hi => h.rows i _ (by rw [tab_length]; exact hi) (by rw [hP i hi]; rfl)
  refine ⟨fun i => (P i).1, fun _ => 0, fun i => (P i).2, by omega, by omega, fun i hi => (hrg i hi).1, fun i hi => (hrg i hi).2, fun i hi c => ?_, fun i hi => ?_, fun i k hi hk => ?_, fun i j k l hi hj _ _ e1 e2 => ?_, fun i hi => ?_⟩
  · exact h.own.over i g (by rw [tab_length]; exact hi) rfl (by rw [hP i hi, ← c]; rfl)
  · have := h.topAt hi
    rw [hP i hi] at this
    exact this
  · have := h.cellAt hi hk (hP i hi)
    rw [Nat.zero_add]
    exact this
  · have hij := h.own.apart i j (P i).1 (by rw [tab_length]; exact hi) (by rw [tab_length]; exact hj) (by rw [hP i hi]; rfl) (by rw [hP j hj, e1]; rfl)
    exact ⟨hij, by omega⟩
  · have hro := h.own.rows i (by rw [tab_length]; exact hi)
    rw [tab_row _ _ _ hi, hP i hi] at hro
    rcases hro.2 with ⟨c, _⟩ | ⟨g2, cap2, cur, hv', _, _, hnc, _⟩
    · cases c
    · simp only [Value.slice.injEq] at hv'
      have := hv'.2.1
      have := hv'.2.2
      show n ≤ (P i).2
      omega
/-- The blocks of the rows. -/
def gblks (n : Nat) (G : Nat → Nat) : List Nat := (List.range n).map G
theorem mem_gblks {n i : Nat} {G : Nat → Nat} (h : i < n) : G i ∈ gblks n G := List.mem_map.2 ⟨i, by simpa using h, rfl⟩
theorem of_mem_gblks {n b : Nat} {G : Nat → Nat} (h : b ∈ gblks n G) : ∃ i, i < n ∧ G i = b := by
  obtain ⟨i, hi, e⟩ := List.mem_map.1 h
  exact ⟨i, by simpa using hi, e⟩
end Go.Proofs.Ytgncaploccbfnaa.PW
