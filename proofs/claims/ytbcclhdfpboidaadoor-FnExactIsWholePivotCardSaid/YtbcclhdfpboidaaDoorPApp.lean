/-
  Rows and numbers appended one after the other, to slices of the call's own.
-/
import Derived.Test.YtbcclhdfpboidaaDoorPCols
import Derived.Deep.AppendLies
import Derived.OwnWalk
namespace Go.Proofs.YtbcclhdfpboidaaDoor.PW
open Go.RowKit Go.Proofs.YtbcclhdfpboidaaDoor
open Go.Proofs.YtbcclhdfpboidaaDoor.PM

theorem ownI_kept' {w w' : World} {row : Option Nat} {v : Value} {xs : List Int} (h : OwnI w v xs) (hg : w.grownBy w' row) (hne : ∀ b, v.ownBlock = some b → row ≠ some b) : OwnI w' v xs := by
  refine World.ownsRow.kept h hg ?_
  cases hb : v.ownBlock with
  | none => exact .inl rfl
  | some b => exact .inr (fun c => hne b hb c.symm)
theorem own_base' {w : World} {B T n : Nat} {v : Value} {xs : List Value} (h : w.ownsRow B T 1 v n xs) : w.ownsRow 0 T 1 v n xs := by
  refine ⟨h.1, ?_⟩
  rcases h.2 with h2 | ⟨g, cap, cur, hv, hb, r⟩
  · exact .inl h2
  · exact .inr ⟨g, cap, cur, hv, Nat.zero_le _, r⟩
theorem getD_append_lt {α : Type} (l : List α) (x d : α) (j : Nat) (h : j < l.length) : (l ++ [x]).getD j d = l.getD j d := by simp [h, List.getElem?_append_left h]
theorem getD_append_eq {α : Type} (l : List α) (x d : α) : (l ++ [x]).getD l.length d = x := by simp

/-- A row is appended. -/
theorem FreshR.push {B C g cap : Nat} {wr w3 w4 : World} {v u : Value} {xss : List (List Int)} {xs : List Int} {us : List Value} (h : FreshR B wr v xss us) (_hB : B ≤ wr.heap.size)
    (hu : FreshI wr.heap.size w3 u xs) (hb : Below wr.heap.size wr w3)
    (hown : w4.ownsRow C 23 1 (.slice (some ⟨g, 0, none⟩) (xss.length + 1) cap) (xss.length + 1) (us ++ [u])) (hgrow : w3.grownBy w4 v.ownBlock) (hat : v.ownBlock = some g ∨ g = w3.heap.size) (hlt : g < w4.heap.size) :
    FreshR B w4 (.slice (some ⟨g, 0, none⟩) (xss.length + 1) cap) (xss ++ [xs]) (us ++ [u]) := by
  obtain ⟨⟨hl, _, hrw, hap, hov⟩, ⟨gv, cv, hv, hv1, hv2⟩, hub⟩ := h
  have hlk : (xss ++ [xs]).length = xss.length + 1 := by simp
  have hvb : v.ownBlock = some gv := by rw [hv]; rfl
  have hz3 := hb.size
  have hz4 := hgrow.size
  obtain ⟨gu, cu, huv, hu1, hu2, huo⟩ := hu
  have hubk : u.ownBlock = some gu := by rw [huv]; rfl
  have hgc : g = gv ∨ g = w3.heap.size := by
    rcases hat with h1 | h1
    · rw [hvb] at h1; simp at h1; exact .inl h1.symm
    · exact .inr h1
  have hrb : ∀ i b, i < xss.length + 1 → ((us ++ [u]).getD i undef).ownBlock = some b → (i < xss.length ∧ (us.getD i undef).ownBlock = some b) ∨ (i = xss.length ∧ b = gu) := fun i b hi hbk => by
    by_cases e : i = xss.length
    · rw [e, ← hl, getD_append_eq, hubk] at hbk
      exact .inr ⟨e, by simp at hbk; exact hbk.symm⟩
    · rw [getD_append_lt _ _ _ _ (by omega)] at hbk
      exact .inl ⟨by omega, hbk⟩
  refine ⟨⟨by rw [hlk]; simp [hl], by rw [hlk]; exact own_base' hown, fun i hi => ?_, fun i j b hi hj h1 h2 => ?_, fun i b hi h1 h2 => ?_⟩, ⟨g, cap, by rw [hlk], by omega, hlt⟩, fun i b hi h1 => ?_⟩
  · rw [hlk] at hi
    by_cases e : i = xss.length
    · have e2 : (us ++ [u]).getD i undef = u := by rw [e, ← hl, getD_append_eq]
      rw [e2, e, getD_append_eq]
      exact ownI_kept' huo hgrow (fun b hb' => by rw [hubk] at hb'; rw [hvb]; simp at hb' ⊢; omega)
    · rw [getD_append_lt _ _ _ _ (by omega), getD_append_lt _ _ _ _ (by omega)]
      exact ownI_kept' ((hrw i (by omega)).below hb (fun b hb' => (hub i b (by omega) hb').2)) hgrow (fun b hb' c => hov i b (by omega) c hb')
  · rw [hlk] at hi hj
    rcases hrb i b hi h1 with ⟨x1, x2⟩ | ⟨x1, x2⟩ <;> rcases hrb j b hj h2 with ⟨y1, y2⟩ | ⟨y1, y2⟩
    · exact hap i j b x1 y1 x2 y2
    · have := (hub i b x1 x2).2; omega
    · have := (hub j b y1 y2).2; omega
    · omega
  · rw [hlk] at hi
    simp [Value.ownBlock] at h1
    subst h1
    rcases hrb i _ hi h2 with ⟨x1, x2⟩ | ⟨x1, x2⟩
    · rcases hgc with c | c
      · exact hov i g x1 (by rw [hvb, c]) x2
      · have := (hub i g x1 x2).2; omega
    · omega
  · rw [hlk] at hi
    rcases hrb i _ hi h1 with ⟨x1, x2⟩ | ⟨x1, x2⟩
    · have := hub i b x1 x2; omega
    · omega
/-- An empty slice of rows, of the call's own. -/
theorem freshR_nil (w : World) : FreshR w.heap.size (w.alloc (.cells #[] 23)) (.slice (some ⟨w.heap.size, 0, none⟩) 0 0) [] [] :=
  ⟨⟨rfl, World.ownsRow_made w #[] 0 (Nat.zero_le _) (Nat.zero_le _) rfl, fun i hi => absurd hi (Nat.not_lt_zero _), fun i j b hi => absurd hi (Nat.not_lt_zero _), fun i b hi => absurd hi (Nat.not_lt_zero _)⟩,
    ⟨w.heap.size, 0, rfl, Nat.le_refl _, by simp⟩, fun i b hi => absurd hi (Nat.not_lt_zero _)⟩
theorem freshI_nil (w : World) : FreshI w.heap.size (w.alloc (.cells #[] 2)) (.slice (some ⟨w.heap.size, 0, none⟩) 0 0) [] :=
  ⟨w.heap.size, 0, rfl, Nat.le_refl _, by simp, World.ownsRow_made w #[] 0 (Nat.zero_le _) (Nat.zero_le _) rfl⟩

/-- A number is appended. -/
theorem FreshI.push {B C g cap n : Nat} {wr w4 : World} {v : Value} {xs : List Int} {x : Int} {t : TypeId} (h : FreshI B wr v xs) (hB : B ≤ wr.heap.size) (hn : n = xs.length)
    (hown : w4.ownsRow C 2 1 (.slice (some ⟨g, 0, none⟩) (n + 1) cap) (n + 1) (xs.map (Value.int .i64) ++ [.int .i64 x])) (hat : v.ownBlock = some g ∨ g = (wr.alloc (.cells #[.int .i64 x] t)).heap.size) (hlt : g < w4.heap.size) :
    FreshI B w4 (.slice (some ⟨g, 0, none⟩) (n + 1) cap) (xs ++ [x]) := by
  obtain ⟨gv, cv, hv, hv1, hv2, _⟩ := h
  subst hn
  refine ⟨g, cap, by simp, ?_, hlt, ?_⟩
  · rcases hat with h1 | h1
    · rw [hv] at h1; simp [Value.ownBlock] at h1; omega
    · rw [h1]; simp; omega
  · have := own_base' hown
    unfold OwnI
    simpa using this
theorem FreshI.grow {B : Nat} {W wr w4 : World} {v : Value} {xs : List Int} {o : Obj} (h : FreshI B wr v xs) (hb : Below B W wr) (hB : B ≤ wr.heap.size) (hgrow : (wr.alloc o).grownBy w4 v.ownBlock) : Below B W w4 := by
  obtain ⟨gv, cv, hv, hv1, hv2, _⟩ := h
  exact (hb.alloc hB o).grown hgrow (by simp; omega) (fun b hb' => by rw [hv] at hb'; simp [Value.ownBlock] at hb'; omega)
theorem FreshI.owns {B : Nat} {wr : World} {v : Value} {xs : List Int} (h : FreshI B wr v xs) : wr.ownsRow 0 2 1 v xs.length (xs.map (Value.int .i64)) := by
  obtain ⟨_, _, _, _, _, ho⟩ := h
  exact ho
end Go.Proofs.YtbcclhdfpboidaaDoor.PW
