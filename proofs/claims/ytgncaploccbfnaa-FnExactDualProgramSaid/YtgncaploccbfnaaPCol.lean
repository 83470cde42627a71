/-
  Rows of numbers in memory of the call's own: a row put in its place, a number stored, two rows exchanged, an empty frame of rows.
  Walks: the unit rows, in the program.
  Walks: the code of a problem and a set, in the program and in the model.
  Walks: the members of a set, one after the other, in the program.
  A region in a round of a range over a function: reads in whatever order, then the rest in the text's order. No program is named here.
  Walks: the rows of the columns of a set, in the program.
  Rows and numbers appended one after the other, to slices of the call's own.
  Walks: the rows of the columns of a set, in the model.
  Walks: the rows of the columns of a set: both sides' answers.
-/
import Derived.Test.YtgncaploccbfnaaPHeld
import Derived.RangeFuncNested
import Derived.RangeFuncBound
import Derived.RangeFuncCalls
import Derived.RangeFuncLeaves
import Derived.RangeFuncKeeps
import Derived.RangeFuncFrom
import Derived.Shelf.Abstract
import Derived.Shelf.RegionOpen
import Derived.OwnWalkIn
import Derived.TacticsInMore
import Derived.LoopNIn
import Derived.LoopIn
import Derived.Test.YtgncaploccbfnaaChecked
import Derived.WalkKit
import Derived.StillTailTactics
import Derived.OrdersIn
import Derived.TacticsIn
import Derived.Deep.AppendLies
import Derived.OwnWalk
namespace Go.Proofs.Ytgncaploccbfnaa.PW
open Go.RowKit Go.Proofs.Ytgncaploccbfnaa
open Go.Proofs.Ytgncaploccbfnaa.PM

theorem getD_set_self {α : Type} (l : List α) (i : Nat) (x d : α) (h : i < l.length) : (l.set i x).getD i d = x := by simp [h]
theorem getD_set_ne {α : Type} (l : List α) {i j : Nat} (x d : α) (h : j ≠ i) : (l.set i x).getD j d = l.getD j d := by
  simp only [List.getD_eq_getElem?_getD]
  rw [List.getElem?_set_ne (fun c => h c.symm)]
theorem own_any {w w' : World} {T n : Nat} {g cap : Nat} {xs : List Value} {bs : List Nat} (h : w.ownsRow 0 T 1 (.slice (some ⟨g, 0, none⟩) n cap) n xs) (ht : Tch bs w w') (hg : g ∉ bs) : w'.ownsRow 0 T 1 (.slice (some ⟨g, 0, none⟩) n cap) n xs := by
  refine ⟨h.1, ?_⟩
  rcases h.2 with h2 | ⟨g2, cap2, cur, hv, hb, hg2, r⟩
  · exact .inl h2
  · refine .inr ⟨g2, cap2, cur, hv, hb, ?_, r⟩
    simp only [Value.slice.injEq, Option.some.injEq, Addr.mk.injEq, and_true, true_and] at hv
    rw [ht.block g2 (by rw [← hv.1]; exact hg)]
    exact hg2

/-- A frame of n empty rows. -/
theorem freshR_made (w : World) (n : Nat) (hn : n ≤ maxLen) : FreshR w.heap.size (w.alloc (.cells (madeCells #[.slice none 0 0] n) 23)) (.slice (some ⟨w.heap.size, 0, none⟩) n n) (List.replicate n []) (List.replicate n (.slice none 0 0)) := by
  have hnil : ∀ i, i < n → (List.replicate n (Value.slice none 0 0)).getD i undef = .slice none 0 0 := fun i hi => by simp [hi]
  have hl : (List.replicate n ([] : List Int)).length = n := by simp
  refine ⟨⟨by simp, ?_, fun i hi => ?_, fun i j b hi hj h1 => ?_, fun i b hi _ => ?_⟩, ⟨w.heap.size, n, by rw [hl], Nat.le_refl _, by simp⟩, fun i b hi h1 => ?_⟩
  · rw [hl]
    obtain ⟨c, hb, hn', hc⟩ := World.rowIs_made w (.slice none 0 0) n 23
    refine ⟨by simp, .inr ⟨w.heap.size, n, c, rfl, Nat.zero_le _, hb, Nat.le_refl _, hn, by simpa using hn', ?_⟩⟩
    rw [Nat.mul_one, List.take_of_length_le (by simp [hn'])]
    apply List.ext_getElem?
    intro i
    by_cases hi : i < n
    · have := hc i hi
      rw [Array.getElem?_toList, this]
      simp [hi]
    · rw [List.getElem?_eq_none (by simp [hn']; omega), List.getElem?_eq_none (by simp; omega)]
  · rw [hl] at hi
    rw [hnil i hi]
    have : (List.replicate n ([] : List Int)).getD i [] = [] := by simp [hi]
    rw [this]
    exact World.ownsRow_nil _ _ _ _
  · rw [hl] at hi; rw [hnil i hi] at h1; simp [Value.ownBlock] at h1
  · rw [hl] at hi; rw [hnil i hi]; simp [Value.ownBlock]
  · rw [hl] at hi; rw [hnil i hi] at h1; simp [Value.ownBlock] at h1

/-- A row is put in its place. -/
theorem FreshR.putRow {B : Nat} {w : World} {g cap i n : Nat} {u : Value} {xs : List Int} {xss : List (List Int)} {us : List Value} (h : FreshR B w (.slice (some ⟨g, 0, none⟩) n cap) xss us) (hi : i < xss.length) (hu : FreshI B w u xs)
    (hne : ∀ b, u.ownBlock = some b → b ≠ g ∧ ∀ j, j < xss.length → j ≠ i → (us.getD j undef).ownBlock ≠ some b) :
    FreshR B (w.setCell ⟨g, i, none⟩ u) (.slice (some ⟨g, 0, none⟩) n cap) (xss.set i xs) (us.set i u) := by
  have ht : Tch [g] w (w.setCell ⟨g, i, none⟩ u) := (Tch.refl _ _).setCell (by simp) _
  obtain ⟨⟨h1, h2, h3, h4, h5⟩, ⟨gm, cm, hv, hB, hlt⟩, h6⟩ := h
  have hn : n = xss.length := by simp at hv; omega
  have hgm : gm = g := by simp at hv; omega
  subst hn hgm
  have hcm : cm = cap := by simp at hv; omega
  subst hcm
  have hlen : (xss.set i xs).length = xss.length := by simp
  have hui : i < us.length := by rw [h1]; exact hi
  refine ⟨⟨by rw [hlen]; simp [h1], ?_, fun k hk => ?_, fun a b c ha hb h1' h2' => ?_, fun k b hk hv' hb' => ?_⟩, ⟨gm, cm, by rw [hlen], hB, by simpa using hlt⟩, fun k b hk hb => ?_⟩
  · rw [hlen]; exact (World.ownsRow.stored h2 i u).1
  · rw [hlen] at hk
    by_cases e : k = i
    · subst e
      rw [getD_set_self _ _ _ _ hui, getD_set_self _ _ _ _ hi]
      obtain ⟨g2, cap2, hv2, hB2, hlt2, ho⟩ := hu
      exact ho.tch ht (fun b hb c => by simp at c; exact (hne b hb).1 c)
    · rw [getD_set_ne _ _ _ e, getD_set_ne _ _ _ e]
      exact (h3 k hk).tch ht (fun b hb c => by simp at c; subst c; exact h5 k b hk rfl hb)
  · rw [hlen] at ha hb
    by_cases e1 : a = i <;> by_cases e2 : b = i
    · omega
    · subst e1
      rw [getD_set_self _ _ _ _ hui] at h1'
      rw [getD_set_ne _ _ _ e2] at h2'
      exact absurd h2' ((hne c h1').2 b hb e2)
    · subst e2
      rw [getD_set_self _ _ _ _ hui] at h2'
      rw [getD_set_ne _ _ _ e1] at h1'
      exact absurd h1' ((hne c h2').2 a ha e1)
    · rw [getD_set_ne _ _ _ e1] at h1'
      rw [getD_set_ne _ _ _ e2] at h2'
      exact h4 a b c ha hb h1' h2'
  · rw [hlen] at hk
    by_cases e : k = i
    · subst e
      rw [getD_set_self _ _ _ _ hui] at hb'
      simp [Value.ownBlock] at hv'
      exact (hne b hb').1 hv'.symm
    · rw [getD_set_ne _ _ _ e] at hb'
      exact h5 k b hk hv' hb'
  · rw [hlen] at hk
    by_cases e : k = i
    · subst e
      rw [getD_set_self _ _ _ _ hui] at hb
      obtain ⟨g2, cap2, hv2, hB2, hlt2, ho⟩ := hu
      rw [hv2] at hb
      simp [Value.ownBlock] at hb
      simp
      omega
    · rw [getD_set_ne _ _ _ e] at hb
      have := h6 k b hk hb
      simpa using this

/-- A number is stored into a row. -/
theorem FreshR.setRow {B : Nat} {w : World} {v : Value} {g cap i n : Nat} {xss : List (List Int)} {us : List Value} (h : FreshR B w v xss us) (hi : i < xss.length)
    (hu : us.getD i undef = .slice (some ⟨g, 0, none⟩) n cap) (j : Nat) (x : Int) :
    FreshR B (w.setCell ⟨g, j, none⟩ (.int .i64 x)) v (xss.set i ((xss.getD i []).set j x)) us := by
  have ht : Tch [g] w (w.setCell ⟨g, j, none⟩ (.int .i64 x)) := (Tch.refl _ _).setCell (by simp) _
  have hub : (us.getD i undef).ownBlock = some g := by rw [hu]; rfl
  obtain ⟨⟨h1, h2, h3, h4, h5⟩, ⟨gm, cm, hv, hB, hlt⟩, h6⟩ := h
  have hlen : (xss.set i ((xss.getD i []).set j x)).length = xss.length := by simp
  have hgm : g ≠ gm := fun c => h5 i g hi (by rw [hv, c]; rfl) hub
  refine ⟨⟨by rw [hlen]; exact h1, ?_, fun k hk => ?_, fun a b c ha hb => h4 a b c (by rw [hlen] at ha; exact ha) (by rw [hlen] at hb; exact hb), fun k b hk => h5 k b (by rw [hlen] at hk; exact hk)⟩,
    ⟨gm, cm, by rw [hlen]; exact hv, hB, by simpa using hlt⟩, fun k b hk hb => ⟨(h6 k b (by rw [hlen] at hk; exact hk) hb).1, by simpa using (h6 k b (by rw [hlen] at hk; exact hk) hb).2⟩⟩
  · rw [hlen]
    subst hv
    exact own_any h2 ht (by simp; omega)
  · rw [hlen] at hk
    by_cases e : k = i
    · subst e
      have h3k := h3 k hk
      have hn : n = (xss.getD k []).length := by
        rw [hu] at h3k
        rcases h3k.2 with ⟨c, _⟩ | ⟨g2, cap2, cur, hv', _⟩
        · simp at c
        · simp only [Value.slice.injEq] at hv'; exact hv'.2.1
      rw [hn] at hu
      rw [hu] at h3k ⊢
      rw [getD_set_self _ _ _ _ hi]
      exact own_set h3k j x
    · rw [getD_set_ne _ _ _ e]
      exact (h3 k hk).tch ht (fun b hb c => by simp at c; subst c; exact e (h4 k i _ hk hi hb hub))

/-- Two rows exchange their places. -/
theorem FreshR.swap {B : Nat} {w : World} {g cap r c n : Nat} {xss : List (List Int)} {us : List Value} (h : FreshR B w (.slice (some ⟨g, 0, none⟩) n cap) xss us) (hr : r < xss.length) (hc : c < xss.length) (hrc : r ≠ c) :
    FreshR B ((w.setCell ⟨g, r, none⟩ (us.getD c undef)).setCell ⟨g, c, none⟩ (us.getD r undef)) (.slice (some ⟨g, 0, none⟩) n cap) ((xss.set r (xss.getD c [])).set c (xss.getD r [])) ((us.set r (us.getD c undef)).set c (us.getD r undef)) := by
  have ht : Tch [g] w ((w.setCell ⟨g, r, none⟩ (us.getD c undef)).setCell ⟨g, c, none⟩ (us.getD r undef)) := ((Tch.refl _ _).setCell (by simp) _).setCell (by simp) _
  obtain ⟨⟨h1, h2, h3, h4, h5⟩, ⟨gm, cm, hv, hB, hlt⟩, h6⟩ := h
  have hn : n = xss.length := by simp at hv; omega
  have hgm : gm = g := by simp at hv; omega
  subst hn hgm
  have hcm : cm = cap := by simp at hv; omega
  subst hcm
  have hlen : ((xss.set r (xss.getD c [])).set c (xss.getD r [])).length = xss.length := by simp
  -- the place from which a row comes
  obtain ⟨σ, hσ⟩ : ∃ σ : Nat → Nat, σ = fun k => if k = c then r else if k = r then c else k := ⟨_, rfl⟩
  have hσlt : ∀ k, k < xss.length → σ k < xss.length := fun k hk => by
    rw [hσ]; dsimp only
    split
    · exact hr
    · split
      · exact hc
      · exact hk
  have hσi : ∀ a b, σ a = σ b → a = b := fun a b hab => by
    rw [hσ] at hab; dsimp only at hab
    repeat' split at hab
    all_goals omega
  have hus : ∀ k, k < xss.length → ((us.set r (us.getD c undef)).set c (us.getD r undef)).getD k undef = us.getD (σ k) undef := fun k hk => by
    rw [hσ]; dsimp only
    by_cases e : k = c
    · subst e; rw [getD_set_self _ _ _ _ (by simp [h1]; omega), if_pos rfl]
    · rw [getD_set_ne _ _ _ e, if_neg e]
      by_cases e2 : k = r
      · subst e2; rw [getD_set_self _ _ _ _ (by rw [h1]; exact hr), if_pos rfl]
      · rw [getD_set_ne _ _ _ e2, if_neg e2]
  have hxs : ∀ k, k < xss.length → ((xss.set r (xss.getD c [])).set c (xss.getD r [])).getD k [] = xss.getD (σ k) [] := fun k hk => by
    rw [hσ]; dsimp only
    by_cases e : k = c
    · subst e; rw [getD_set_self _ _ _ _ (by simp; omega), if_pos rfl]
    · rw [getD_set_ne _ _ _ e, if_neg e]
      by_cases e2 : k = r
      · subst e2; rw [getD_set_self _ _ _ _ hr, if_pos rfl]
      · rw [getD_set_ne _ _ _ e2, if_neg e2]
  refine ⟨⟨by rw [hlen]; simp [h1], ?_, fun k hk => ?_, fun a b d ha hb h1' h2' => ?_, fun k b hk hv' hb' => ?_⟩, ⟨gm, cm, by rw [hlen], hB, by simpa using hlt⟩, fun k b hk hb => ?_⟩
  · rw [hlen]; exact (World.ownsRow.stored (World.ownsRow.stored h2 r _).1 c _).1
  · rw [hlen] at hk
    rw [hus k hk, hxs k hk]
    exact (h3 _ (hσlt k hk)).tch ht (fun b hb d => by simp at d; subst d; exact h5 _ b (hσlt k hk) rfl hb)
  · rw [hlen] at ha hb
    rw [hus a ha] at h1'
    rw [hus b hb] at h2'
    exact hσi _ _ (h4 _ _ d (hσlt a ha) (hσlt b hb) h1' h2')
  · rw [hlen] at hk
    rw [hus k hk] at hb'
    exact h5 _ b (hσlt k hk) hv' hb'
  · rw [hlen] at hk
    rw [hus k hk] at hb
    have := h6 _ b (hσlt k hk) hb
    simpa using this
end Go.Proofs.Ytgncaploccbfnaa.PW
namespace Go.Proofs.Ytgncaploccbfnaa.PW
open Go.RowKit Go.Proofs.Ytgncaploccbfnaa
open Go.Proofs.Ytgncaploccbfnaa.PM

/-- Rows told by a function. -/
def tab (n : Nat) (g : Nat → Nat → Int) : List (List Int) := (List.range n).map fun i => (List.range n).map (g i)
theorem tab_length (n : Nat) (g : Nat → Nat → Int) : (tab n g).length = n := by simp [tab]
theorem tab_row (n : Nat) (g : Nat → Nat → Int) (i : Nat) (h : i < n) : (tab n g).getD i [] = (List.range n).map (g i) := by simp [tab, h]
theorem row_length (n : Nat) (f : Nat → Int) : ((List.range n).map f).length = n := by simp
theorem row_getD (n : Nat) (f : Nat → Int) (j : Nat) (h : j < n) : ((List.range n).map f).getD j 0 = f j := by simp [h]
theorem row_set (n : Nat) (f : Nat → Int) (j : Nat) (x : Int) : ((List.range n).map f).set j x = (List.range n).map fun k => if k = j then x else f k := by
  apply List.ext_getElem
  · simp
  · intro k h1 h2
    rw [List.getElem_set]
    simp
    by_cases e : j = k
    · subst e; simp
    · rw [if_neg e, if_neg (fun c => e c.symm)]
theorem tab_set (n : Nat) (g : Nat → Nat → Int) (i j : Nat) (x : Int) (hi : i < n) : (tab n g).set i (((tab n g).getD i []).set j x) = tab n fun a b => if a = i ∧ b = j then x else g a b := by
  rw [tab_row _ _ _ hi, row_set]
  apply List.ext_getElem
  · simp [tab]
  · intro k h1 h2
    rw [List.getElem_set]
    simp only [tab, List.getElem_map, List.getElem_range]
    by_cases e : i = k
    · subst e
      rw [if_pos rfl]
      apply List.map_congr_left
      intro b _
      by_cases e2 : b = j <;> simp [e2]
    · rw [if_neg e]
      apply List.map_congr_left
      intro b _
      rw [if_neg (fun c => e c.1.symm)]
/-- The number at i, k of rows. -/
def ent (xss : List (List Int)) (i k : Nat) : Int := (xss.getD i []).getD k 0
theorem ent_tab (n : Nat) (g : Nat → Nat → Int) (i k : Nat) (hi : i < n) (hk : k < n) : ent (tab n g) i k = g i k := by unfold ent; rw [tab_row _ _ _ hi, row_getD _ _ _ hk]
theorem tab_ent {n : Nat} {xss : List (List Int)} (h1 : xss.length = n) (h2 : ∀ i, i < n → (xss.getD i []).length = n) : xss = tab n (ent xss) := by
  apply List.ext_getElem
  · simp [tab, h1]
  · intro i hi hi2
    have hl := h2 i (by omega)
    simp only [tab, List.getElem_map, List.getElem_range]
    have e : xss.getD i [] = xss[i] := by simp [hi]
    rw [e] at hl
    apply List.ext_getElem
    · simp [hl]
    · intro k hk hk2
      simp [ent, hi, hk]

def unitG (i j : Nat) : Int := if j = i then 1 else 0
/-- The first k unit rows. -/
def unitTo (n k : Nat) : List (List Int) := (List.range n).map fun i => if i < k then (List.range n).map (unitG i) else []
theorem unitTo_zero (n : Nat) : unitTo n 0 = List.replicate n [] := by
  apply List.ext_getElem
  · simp [unitTo]
  · intro i h1 h2
    simp [unitTo, List.getElem_replicate]
theorem unitTo_all (n : Nat) : unitTo n n = tab n unitG := by
  unfold unitTo tab
  apply List.map_congr_left
  intro i hi
  rw [if_pos (by simpa using hi)]
theorem unitTo_length (n k : Nat) : (unitTo n k).length = n := by simp [unitTo]
theorem unitTo_step (n k : Nat) (h : k < n) : ((unitTo n k).set k (List.replicate n 0)).set k ((((unitTo n k).set k (List.replicate n 0)).getD k []).set k 1) = unitTo n (k + 1) := by
  rw [getD_set_self _ _ _ _ (by rw [unitTo_length]; exact h), List.set_set]
  have e : List.replicate n (0 : Int) = (List.range n).map fun _ => 0 := by
    apply List.ext_getElem
    · simp
    · intro i h1 h2; simp [List.getElem_replicate]
  rw [e, row_set]
  apply List.ext_getElem
  · simp [unitTo]
  · intro i h1 h2
    rw [List.getElem_set]
    simp only [unitTo, List.getElem_map, List.getElem_range]
    by_cases e : k = i
    · subst e
      rw [if_pos rfl, if_pos (by omega)]
      rfl
    · rw [if_neg e]
      by_cases hlt : i < k
      · rw [if_pos hlt, if_pos (by omega)]
      · rw [if_neg hlt, if_neg (by omega)]
/-- A new row of noughts. -/
theorem zeros_fresh (w : World) (n : Nat) (hn : n ≤ maxLen) : FreshI w.heap.size (w.alloc (.cells (madeCells #[.int .i64 0] n) 2)) (.slice (some ⟨w.heap.size, 0, none⟩) n n) (List.replicate n 0) := by
  have hb : IntBlk (w.alloc (.cells (madeCells #[.int .i64 0] n) 2)) w.heap.size (List.replicate n 0) := by
    have := World.rowIs_made w (.int .i64 0) n 2
    unfold IntBlk
    rw [List.length_replicate]
    exact this.congr (fun i hi => by simp [hi])
  have ho := hb.own (by simpa using hn)
  rw [List.length_replicate] at ho
  refine ⟨w.heap.size, n, by simp, Nat.le_refl _, by simp, ho⟩

/-- The unit rows, while they are built. -/
structure Un (w wr : World) (n k : Nat) (us : List Value) : Prop where
  rows : FreshR w.heap.size wr (.slice (some ⟨w.heap.size, 0, none⟩) n n) (unitTo n k) us
  below : Below w.heap.size w wr
theorem un_start (w : World) (n : Nat) (hn : n ≤ maxLen) : Un w (w.alloc (.cells (madeCells #[.slice none 0 0] n) 23)) n 0 (List.replicate n (.slice none 0 0)) := by
  refine ⟨?_, (Below.refl _ _).alloc (Nat.le_refl _) _⟩
  rw [unitTo_zero]
  exact freshR_made w n hn
theorem un_step {w wr : World} {n k : Nat} {us : List Value} (h : Un w wr n k us) (hk : k < n) (hn : n ≤ maxLen) :
    Un w (((wr.alloc (.cells (madeCells #[.int .i64 0] n) 2)).setCell ⟨w.heap.size, k, none⟩ (.slice (some ⟨wr.heap.size, 0, none⟩) n n)).setCell ⟨wr.heap.size, k, none⟩ (.int .i64 1)) n (k + 1) (us.set k (.slice (some ⟨wr.heap.size, 0, none⟩) n n)) := by
  obtain ⟨hr, hb⟩ := h
  have hl := hr.own.len
  rw [unitTo_length] at hl
  have hlt : w.heap.size < wr.heap.size := by obtain ⟨g, c, hv, _, h2⟩ := hr.top; simp at hv; omega
  have hA : Below wr.heap.size wr (wr.alloc (.cells (madeCells #[.int .i64 0] n) 2)) := (Below.refl _ _).alloc (Nat.le_refl _) _
  have h1 := (hr.below hA).putRow (i := k) (u := .slice (some ⟨wr.heap.size, 0, none⟩) n n) (xs := List.replicate n 0) (by rw [unitTo_length]; exact hk) ((zeros_fresh wr n hn).mono hb.size)
    (fun b hb' => by
      simp [Value.ownBlock] at hb'
      subst hb'
      refine ⟨by omega, fun j hj _ c => ?_⟩
      have := (hr.rows j _ hj c).2
      omega)
  have h2 := h1.setRow (i := k) (g := wr.heap.size) (cap := n) (n := n) (by simp [unitTo_length]; exact hk) (getD_set_self _ _ _ _ (by omega)) k 1
  rw [unitTo_step n k hk] at h2
  exact ⟨h2, ((hb.alloc hb.size _).setCell (Nat.le_refl _) _).setCell (by simp; omega) _⟩

theorem made_at (z : Value) (n k : Nat) (h : k < n) (w : World) (t : TypeId) : (madeCells #[z] n)[k]? = some z := by
  obtain ⟨c, hb, hn, hc⟩ := World.rowIs_made w z n t
  have e : (w.alloc (.cells (madeCells #[z] n) t)).heap[w.heap.size]? = some (.cells (madeCells #[z] n) t) := heap_alloc_new w _
  rw [e] at hb
  simp only [Option.some.injEq, Obj.cells.injEq] at hb
  rw [hb.1]
  exact hc k h
theorem un_step' {w wr : World} {n k : Nat} {us : List Value} (h : Un w wr n k us) (hk : k < n) (hn : n ≤ maxLen) :
    Un w ((wr.setCell ⟨w.heap.size, k, none⟩ (.slice (some ⟨wr.heap.size, 0, none⟩) n n)).alloc (.cells ((madeCells #[.int .i64 0] n).setIfInBounds k (.int .i64 1)) 2)) n (k + 1) (us.set k (.slice (some ⟨wr.heap.size, 0, none⟩) n n)) := by
  have hlt : w.heap.size < wr.heap.size := by obtain ⟨g, c, hv, _, h2⟩ := h.rows.top; simp at hv; omega
  have := un_step h hk hn
  rw [World.setCell_alloc_past _ _ _ _ hlt, World.setCell_alloc_at _ _ _ _ _ (by simp)] at this
  exact this

theorem unitRows_any (n : Nat) (hn1 : 1 ≤ n) (hn5 : n ≤ 5) (w : World) :
    Calls Try.prog 77 #[.int .i64 n] w fun e w' => ∃ us, e = .returned (.slice (some ⟨w.heap.size, 0, none⟩) n n) ∧ FreshR w.heap.size w' (.slice (some ⟨w.heap.size, 0, none⟩) n n) (tab n unitG) us ∧ Below w.heap.size w w' := by
  have hmk := run_make_row' (P := Try.prog) 22 23 (.slice none 0 0) 24 Try.underlying22 info_ints rfl .i64 .i64 n (by omega) (by omega)
  have hmk2 := run_make_row' (P := Try.prog) 23 2 (.int .i64 0) 8 Try.underlying23 info_int rfl .i64 .i64 n (by omega) (by omega)
  go_enter Try.func77, Try.ntmps77
  go_wp2
  go_loopw [4, 9] (fun _ i wr => ∃ (k : Nat) (us : List Value), k ≤ n ∧ i = .int .i64 k ∧ Un w wr n k us) (fun _ i _ => n - (intOf i).toNat)
  case atStart => exact ⟨0, _, Nat.zero_le _, rfl, un_start w n (by unfold maxLen; omega)⟩
  case round =>
    obtain ⟨k, us, hk, rfl, hU⟩ := hrel
    by_cases hlt2 : k < n
    · have hst := un_step' hU hlt2 (by unfold maxLen; omega)
      have hmd := made_at (.int .i64 0) n k hlt2 w 2
      have hl : (unitTo n k).length = n := unitTo_length n k
      have htp := hU.rows.own.top
      have hul := hU.rows.own.len
      rw [hl] at htp hul
      have hcl : wr.cell? ⟨w.heap.size, k, none⟩ = some (us.getD k undef) := by
        rw [World.ownsRow.cellAt htp k (by omega)]
        simp [hul, hlt2]
      have hfz : wr.frozen? ⟨w.heap.size, k, none⟩ = false := World.ownsRow.frozenAt htp k
      have hz : w.heap.size < wr.heap.size := World.block_lt_of_cell? wr _ hcl
      have HST := Lib.hid hst
      clear hst hU htp hl hul
      generalize us.getD k undef = pv at *
      go_wp2_with fail
      go_roundw
      case rel => exact ⟨k + 1, _, by omega, by go_num, HST.out⟩
      case measure => simp [intOf]; omega
    · obtain rfl : k = n := by omega
      have hend := hU.rows
      rw [unitTo_all] at hend
      have HEND := Lib.hid hend
      clear hend
      go_wp2
      go_ret
      exact ⟨us, rfl, HEND.out, hU.below⟩
end Go.Proofs.Ytgncaploccbfnaa.PW
namespace Go.Proofs.Ytgncaploccbfnaa.PW
open Go.RowKit Go.Proofs.Ytgncaploccbfnaa
open Go.Proofs.Ytgncaploccbfnaa.PM

/-- The code of a problem and a set. -/
def setCode (M : List (List Int)) (Q : List Int) (s : Int) : Int :=
  if isPB M Q = false then 1 else if s < 0 ∨ (2 : Int) ^ M.length ≤ s then 2 else 0
theorem setCode_err1 {M : List (List Int)} {Q : List Int} {s : Int} (h : isPB M Q = false) : setCode M Q s = 1 := by unfold setCode; rw [if_pos h]
theorem setCode_err2 {M : List (List Int)} {Q : List Int} {s : Int} (h : isPB M Q = true) (h2 : s < 0 ∨ (2 : Int) ^ M.length ≤ s) : setCode M Q s = 2 := by unfold setCode; rw [if_neg (by simp [h]), if_pos h2]
theorem setCode_ok {M : List (List Int)} {Q : List Int} {s : Int} (h : isPB M Q = true) (h2 : ¬ (s < 0 ∨ (2 : Int) ^ M.length ≤ s)) : setCode M Q s = 0 := by unfold setCode; rw [if_neg (by simp [h]), if_neg h2]
theorem ret_i64 {a b : Int} (h : a = b) : Ending.returned (.int .i64 a) = .returned (.int .i64 b) := by rw [h]

theorem isSet_is (s : Int) (n : Nat) (b : Bool) (w : World) (hn : n ≤ 5) (h : decide (0 ≤ s ∧ s < (2 : Int) ^ n) = b) :
    Calls Try.prog 121 #[.int .i64 s, .int .i64 n] w fun e w' => e = .returned (.bool b) ∧ w = w' := by
  subst h
  obtain rfl | rfl | rfl | rfl | rfl | rfl : n = 0 ∨ n = 1 ∨ n = 2 ∨ n = 3 ∨ n = 4 ∨ n = 5 := by omega
  all_goals
    simp only [Int.reducePow]
    go_enter Try.func121, Try.ntmps121
    go_wp2
    all_goals (go_ret; exact ⟨ret_bool (by simp; try omega), rfl⟩)

theorem checkSet_any (m q : Value) (M : List (List Int)) (Q : List Int) (s : Int) (w : World) (h1 : PM.Rows w m M) (h2 : Ints w q Q) :
    Calls Try.prog 76 #[.agg #[m, q], .int .i64 s] w fun e w' => e = .returned (.int .i64 (setCode M Q s)) ∧ Below w.heap.size w w' := by
  have g1 := fun (w' : World) (h : Below w.heap.size w w') => h1.below h
  have g2 := fun (w' : World) (h : Below w.heap.size w w') => h2.below h
  obtain ⟨a1, c1, rfl, _⟩ := h1
  obtain ⟨a2, c2, rfl, _⟩ := h2
  cases hp : isPB M Q
  · have HP := Lib.hid hp
    have HC := Lib.hid (setCode_err1 (s := s) hp)
    clear hp
    go_enter Try.func76, Try.ntmps76
    go_wp2_with fail
    refine (implIsProblem_any _ _ M Q _ (g1 _ (by (repeat' (first | (with_reducible exact Below.refl _ _) | (with_reducible assumption) | (with_reducible refine Below.alloc ?_ ?_ _) | (with_reducible refine Below.drew ?_) | (with_reducible refine below_drewN ?_ _) | (with_reducible refine Below.setCell ?_ ?_ _) | (with_reducible refine Below.trans ?_ (Below.mono (by with_reducible assumption) ?_)) | (with_reducible exact Below.size (by with_reducible assumption)) | go_size)))) (g2 _ (by (repeat' (first | (with_reducible exact Below.refl _ _) | (with_reducible assumption) | (with_reducible refine Below.alloc ?_ ?_ _) | (with_reducible refine Below.drew ?_) | (with_reducible refine below_drewN ?_ _) | (with_reducible refine Below.setCell ?_ ?_ _) | (with_reducible refine Below.trans ?_ (Below.mono (by with_reducible assumption) ?_)) | (with_reducible exact Below.size (by with_reducible assumption)) | go_size))))).mono ?_; rw [HP.out]; rintro e w1 ⟨rfl, hb1⟩; obtain ⟨hc_hb1, hf_hb1⟩ := bcell hb1; obtain ⟨hcA_hb1, hfA_hb1⟩ := bcellG (W0 := w) hb1 (by (repeat' (first | (with_reducible exact Below.refl _ _) | (with_reducible assumption) | (with_reducible refine Below.alloc ?_ ?_ _) | (with_reducible refine Below.drew ?_) | (with_reducible refine below_drewN ?_ _) | (with_reducible refine Below.setCell ?_ ?_ _) | (with_reducible refine Below.trans ?_ (Below.mono (by with_reducible assumption) ?_)) | (with_reducible exact Below.size (by with_reducible assumption)) | go_size))); have hz_hb1 := hb1.size; (try simp at hz_hb1); (try simp only [Nat.add_one_le_iff] at hz_hb1); have hz0_hb1 : w.heap.size < w1.heap.size := (by omega)
    go_wp2_with fail
    go_ret
    exact ⟨ret_i64 HC.out.symm, by (repeat' (first | (with_reducible exact Below.refl _ _) | (with_reducible assumption) | (with_reducible refine Below.alloc ?_ ?_ _) | (with_reducible refine Below.drew ?_) | (with_reducible refine below_drewN ?_ _) | (with_reducible refine Below.setCell ?_ ?_ _) | (with_reducible refine Below.trans ?_ (Below.mono (by with_reducible assumption) ?_)) | (with_reducible exact Below.size (by with_reducible assumption)) | go_size))⟩
  obtain ⟨f1, f2, f3, _, _⟩ := isPB_facts hp
  by_cases e : 0 ≤ s ∧ s < (2 : Int) ^ M.length
  · have HC := Lib.hid (setCode_ok hp (show ¬ (s < 0 ∨ (2 : Int) ^ M.length ≤ s) by omega))
    have HS := Lib.hid (fun w => isSet_is s M.length true w f2 (decide_eq_true e))
    have HP := Lib.hid hp
    clear hp e f3
    go_enter Try.func76, Try.ntmps76
    go_wp2_with fail
    refine (implIsProblem_any _ _ M Q _ (g1 _ (by (repeat' (first | (with_reducible exact Below.refl _ _) | (with_reducible assumption) | (with_reducible refine Below.alloc ?_ ?_ _) | (with_reducible refine Below.drew ?_) | (with_reducible refine below_drewN ?_ _) | (with_reducible refine Below.setCell ?_ ?_ _) | (with_reducible refine Below.trans ?_ (Below.mono (by with_reducible assumption) ?_)) | (with_reducible exact Below.size (by with_reducible assumption)) | go_size)))) (g2 _ (by (repeat' (first | (with_reducible exact Below.refl _ _) | (with_reducible assumption) | (with_reducible refine Below.alloc ?_ ?_ _) | (with_reducible refine Below.drew ?_) | (with_reducible refine below_drewN ?_ _) | (with_reducible refine Below.setCell ?_ ?_ _) | (with_reducible refine Below.trans ?_ (Below.mono (by with_reducible assumption) ?_)) | (with_reducible exact Below.size (by with_reducible assumption)) | go_size))))).mono ?_; rw [HP.out]; rintro e w1 ⟨rfl, hb1⟩; obtain ⟨hc_hb1, hf_hb1⟩ := bcell hb1; obtain ⟨hcA_hb1, hfA_hb1⟩ := bcellG (W0 := w) hb1 (by (repeat' (first | (with_reducible exact Below.refl _ _) | (with_reducible assumption) | (with_reducible refine Below.alloc ?_ ?_ _) | (with_reducible refine Below.drew ?_) | (with_reducible refine below_drewN ?_ _) | (with_reducible refine Below.setCell ?_ ?_ _) | (with_reducible refine Below.trans ?_ (Below.mono (by with_reducible assumption) ?_)) | (with_reducible exact Below.size (by with_reducible assumption)) | go_size))); have hz_hb1 := hb1.size; (try simp at hz_hb1); (try simp only [Nat.add_one_le_iff] at hz_hb1); have hz0_hb1 : w.heap.size < w1.heap.size := (by omega)
    go_wp2_with fail
    refine (HS.out _).mono ?_; rintro e w2 ⟨rfl, rfl⟩
    go_wp2_with fail
    go_ret
    exact ⟨ret_i64 HC.out.symm, by (repeat' (first | (with_reducible exact Below.refl _ _) | (with_reducible assumption) | (with_reducible refine Below.alloc ?_ ?_ _) | (with_reducible refine Below.drew ?_) | (with_reducible refine below_drewN ?_ _) | (with_reducible refine Below.setCell ?_ ?_ _) | (with_reducible refine Below.trans ?_ (Below.mono (by with_reducible assumption) ?_)) | (with_reducible exact Below.size (by with_reducible assumption)) | go_size))⟩
  · have HC := Lib.hid (setCode_err2 hp (show (s < 0 ∨ (2 : Int) ^ M.length ≤ s) by omega))
    have HS := Lib.hid (fun w => isSet_is s M.length false w f2 (decide_eq_false e))
    have HP := Lib.hid hp
    clear hp e f3
    go_enter Try.func76, Try.ntmps76
    go_wp2_with fail
    refine (implIsProblem_any _ _ M Q _ (g1 _ (by (repeat' (first | (with_reducible exact Below.refl _ _) | (with_reducible assumption) | (with_reducible refine Below.alloc ?_ ?_ _) | (with_reducible refine Below.drew ?_) | (with_reducible refine below_drewN ?_ _) | (with_reducible refine Below.setCell ?_ ?_ _) | (with_reducible refine Below.trans ?_ (Below.mono (by with_reducible assumption) ?_)) | (with_reducible exact Below.size (by with_reducible assumption)) | go_size)))) (g2 _ (by (repeat' (first | (with_reducible exact Below.refl _ _) | (with_reducible assumption) | (with_reducible refine Below.alloc ?_ ?_ _) | (with_reducible refine Below.drew ?_) | (with_reducible refine below_drewN ?_ _) | (with_reducible refine Below.setCell ?_ ?_ _) | (with_reducible refine Below.trans ?_ (Below.mono (by with_reducible assumption) ?_)) | (with_reducible exact Below.size (by with_reducible assumption)) | go_size))))).mono ?_; rw [HP.out]; rintro e w1 ⟨rfl, hb1⟩; obtain ⟨hc_hb1, hf_hb1⟩ := bcell hb1; obtain ⟨hcA_hb1, hfA_hb1⟩ := bcellG (W0 := w) hb1 (by (repeat' (first | (with_reducible exact Below.refl _ _) | (with_reducible assumption) | (with_reducible refine Below.alloc ?_ ?_ _) | (with_reducible refine Below.drew ?_) | (with_reducible refine below_drewN ?_ _) | (with_reducible refine Below.setCell ?_ ?_ _) | (with_reducible refine Below.trans ?_ (Below.mono (by with_reducible assumption) ?_)) | (with_reducible exact Below.size (by with_reducible assumption)) | go_size))); have hz_hb1 := hb1.size; (try simp at hz_hb1); (try simp only [Nat.add_one_le_iff] at hz_hb1); have hz0_hb1 : w.heap.size < w1.heap.size := (by omega)
    go_wp2_with fail
    refine (HS.out _).mono ?_; rintro e w2 ⟨rfl, rfl⟩
    go_wp2_with fail
    go_ret
    exact ⟨ret_i64 HC.out.symm, by (repeat' (first | (with_reducible exact Below.refl _ _) | (with_reducible assumption) | (with_reducible refine Below.alloc ?_ ?_ _) | (with_reducible refine Below.drew ?_) | (with_reducible refine below_drewN ?_ _) | (with_reducible refine Below.setCell ?_ ?_ _) | (with_reducible refine Below.trans ?_ (Below.mono (by with_reducible assumption) ?_)) | (with_reducible exact Below.size (by with_reducible assumption)) | go_size))⟩
theorem l01Set_any (m q : Value) (M : List (List Int)) (Q : List Int) (s : Int) (w : World) (h1 : PM.Rows w m M) (h2 : Ints w q Q) :
    Calls Try.prog 74 #[.agg #[m, q], .int .i64 s] w fun e w' => e = .returned (.int .i64 (setCode M Q s)) ∧ Below w.heap.size w w' := by
  have g1 := fun (w' : World) (h : Below w.heap.size w w') => h1.below h
  have g2 := fun (w' : World) (h : Below w.heap.size w w') => h2.below h
  obtain ⟨a1, c1, rfl, _⟩ := h1
  obtain ⟨a2, c2, rfl, _⟩ := h2
  cases hp : isPB M Q
  · have HP := Lib.hid hp
    have HC := Lib.hid (setCode_err1 (s := s) hp)
    clear hp
    go_enter Try.func74, Try.ntmps74
    go_wp2_with fail
    refine (l01Is_any _ _ M Q _ (g1 _ (by (repeat' (first | (with_reducible exact Below.refl _ _) | (with_reducible assumption) | (with_reducible refine Below.alloc ?_ ?_ _) | (with_reducible refine Below.drew ?_) | (with_reducible refine below_drewN ?_ _) | (with_reducible refine Below.setCell ?_ ?_ _) | (with_reducible refine Below.trans ?_ (Below.mono (by with_reducible assumption) ?_)) | (with_reducible exact Below.size (by with_reducible assumption)) | go_size)))) (g2 _ (by (repeat' (first | (with_reducible exact Below.refl _ _) | (with_reducible assumption) | (with_reducible refine Below.alloc ?_ ?_ _) | (with_reducible refine Below.drew ?_) | (with_reducible refine below_drewN ?_ _) | (with_reducible refine Below.setCell ?_ ?_ _) | (with_reducible refine Below.trans ?_ (Below.mono (by with_reducible assumption) ?_)) | (with_reducible exact Below.size (by with_reducible assumption)) | go_size))))).mono ?_; rw [HP.out]; rintro e w1 ⟨rfl, hb1⟩; obtain ⟨hc_hb1, hf_hb1⟩ := bcell hb1; obtain ⟨hcA_hb1, hfA_hb1⟩ := bcellG (W0 := w) hb1 (by (repeat' (first | (with_reducible exact Below.refl _ _) | (with_reducible assumption) | (with_reducible refine Below.alloc ?_ ?_ _) | (with_reducible refine Below.drew ?_) | (with_reducible refine below_drewN ?_ _) | (with_reducible refine Below.setCell ?_ ?_ _) | (with_reducible refine Below.trans ?_ (Below.mono (by with_reducible assumption) ?_)) | (with_reducible exact Below.size (by with_reducible assumption)) | go_size))); have hz_hb1 := hb1.size; (try simp at hz_hb1); (try simp only [Nat.add_one_le_iff] at hz_hb1); have hz0_hb1 : w.heap.size < w1.heap.size := (by omega)
    go_wp2_with fail
    go_ret
    exact ⟨ret_i64 HC.out.symm, by (repeat' (first | (with_reducible exact Below.refl _ _) | (with_reducible assumption) | (with_reducible refine Below.alloc ?_ ?_ _) | (with_reducible refine Below.drew ?_) | (with_reducible refine below_drewN ?_ _) | (with_reducible refine Below.setCell ?_ ?_ _) | (with_reducible refine Below.trans ?_ (Below.mono (by with_reducible assumption) ?_)) | (with_reducible exact Below.size (by with_reducible assumption)) | go_size))⟩
  obtain ⟨f1, f2, f3, _, _⟩ := isPB_facts hp
  obtain ⟨c, hc⟩ : ∃ c, c = setCode M Q s := ⟨_, rfl⟩
  have hcase : ((s < 0 ∨ (2 : Int) ^ M.length ≤ s) ∧ c = 2) ∨ (0 ≤ s ∧ s < (2 : Int) ^ M.length ∧ c = 0) := by
    by_cases e : s < 0 ∨ (2 : Int) ^ M.length ≤ s
    · have := setCode_err2 hp e; omega
    · have := setCode_ok hp e; omega
  rw [← hc]
  have HP := Lib.hid hp
  clear hp hc
  obtain ⟨n, hn⟩ : ∃ n, n = M.length := ⟨_, rfl⟩
  rw [← hn] at f3
  rw [← hn] at hcase f1 f2 g1 ⊢
  rw [f3] at g2 ⊢
  clear hn f3
  obtain rfl | rfl | rfl | rfl | rfl : n = 1 ∨ n = 2 ∨ n = 3 ∨ n = 4 ∨ n = 5 := by omega
  · simp only [Int.reducePow] at hcase
    rcases hcase with ⟨h1, rfl⟩ | ⟨h1, h2, rfl⟩
    · have HI := Lib.hid (show decide (0 ≤ s ∧ s ≤ 1) = false from decide_eq_false (by omega))
      clear h1
      go_enter Try.func74, Try.ntmps74
      go_wp2_with fail
      refine (l01Is_any _ _ M Q _ (g1 _ (by (repeat' (first | (with_reducible exact Below.refl _ _) | (with_reducible assumption) | (with_reducible refine Below.alloc ?_ ?_ _) | (with_reducible refine Below.drew ?_) | (with_reducible refine below_drewN ?_ _) | (with_reducible refine Below.setCell ?_ ?_ _) | (with_reducible refine Below.trans ?_ (Below.mono (by with_reducible assumption) ?_)) | (with_reducible exact Below.size (by with_reducible assumption)) | go_size)))) (g2 _ (by (repeat' (first | (with_reducible exact Below.refl _ _) | (with_reducible assumption) | (with_reducible refine Below.alloc ?_ ?_ _) | (with_reducible refine Below.drew ?_) | (with_reducible refine below_drewN ?_ _) | (with_reducible refine Below.setCell ?_ ?_ _) | (with_reducible refine Below.trans ?_ (Below.mono (by with_reducible assumption) ?_)) | (with_reducible exact Below.size (by with_reducible assumption)) | go_size))))).mono ?_; rw [HP.out]; rintro e w1 ⟨rfl, hb1⟩; obtain ⟨hc_hb1, hf_hb1⟩ := bcell hb1; obtain ⟨hcA_hb1, hfA_hb1⟩ := bcellG (W0 := w) hb1 (by (repeat' (first | (with_reducible exact Below.refl _ _) | (with_reducible assumption) | (with_reducible refine Below.alloc ?_ ?_ _) | (with_reducible refine Below.drew ?_) | (with_reducible refine below_drewN ?_ _) | (with_reducible refine Below.setCell ?_ ?_ _) | (with_reducible refine Below.trans ?_ (Below.mono (by with_reducible assumption) ?_)) | (with_reducible exact Below.size (by with_reducible assumption)) | go_size))); have hz_hb1 := hb1.size; (try simp at hz_hb1); (try simp only [Nat.add_one_le_iff] at hz_hb1); have hz0_hb1 : w.heap.size < w1.heap.size := (by omega)
      go_wp2_with fail
      refine (l01In_is s 0 1 false _ HI.out).mono ?_; rintro e w2 ⟨rfl, rfl⟩
      go_wp2_with fail
      go_ret
      exact ⟨rfl, by (repeat' (first | (with_reducible exact Below.refl _ _) | (with_reducible assumption) | (with_reducible refine Below.alloc ?_ ?_ _) | (with_reducible refine Below.drew ?_) | (with_reducible refine below_drewN ?_ _) | (with_reducible refine Below.setCell ?_ ?_ _) | (with_reducible refine Below.trans ?_ (Below.mono (by with_reducible assumption) ?_)) | (with_reducible exact Below.size (by with_reducible assumption)) | go_size))⟩
    · have HI := Lib.hid (show decide (0 ≤ s ∧ s ≤ 1) = true from decide_eq_true (by omega))
      clear h1 h2
      go_enter Try.func74, Try.ntmps74
      go_wp2_with fail
      refine (l01Is_any _ _ M Q _ (g1 _ (by (repeat' (first | (with_reducible exact Below.refl _ _) | (with_reducible assumption) | (with_reducible refine Below.alloc ?_ ?_ _) | (with_reducible refine Below.drew ?_) | (with_reducible refine below_drewN ?_ _) | (with_reducible refine Below.setCell ?_ ?_ _) | (with_reducible refine Below.trans ?_ (Below.mono (by with_reducible assumption) ?_)) | (with_reducible exact Below.size (by with_reducible assumption)) | go_size)))) (g2 _ (by (repeat' (first | (with_reducible exact Below.refl _ _) | (with_reducible assumption) | (with_reducible refine Below.alloc ?_ ?_ _) | (with_reducible refine Below.drew ?_) | (with_reducible refine below_drewN ?_ _) | (with_reducible refine Below.setCell ?_ ?_ _) | (with_reducible refine Below.trans ?_ (Below.mono (by with_reducible assumption) ?_)) | (with_reducible exact Below.size (by with_reducible assumption)) | go_size))))).mono ?_; rw [HP.out]; rintro e w1 ⟨rfl, hb1⟩; obtain ⟨hc_hb1, hf_hb1⟩ := bcell hb1; obtain ⟨hcA_hb1, hfA_hb1⟩ := bcellG (W0 := w) hb1 (by (repeat' (first | (with_reducible exact Below.refl _ _) | (with_reducible assumption) | (with_reducible refine Below.alloc ?_ ?_ _) | (with_reducible refine Below.drew ?_) | (with_reducible refine below_drewN ?_ _) | (with_reducible refine Below.setCell ?_ ?_ _) | (with_reducible refine Below.trans ?_ (Below.mono (by with_reducible assumption) ?_)) | (with_reducible exact Below.size (by with_reducible assumption)) | go_size))); have hz_hb1 := hb1.size; (try simp at hz_hb1); (try simp only [Nat.add_one_le_iff] at hz_hb1); have hz0_hb1 : w.heap.size < w1.heap.size := (by omega)
      go_wp2_with fail
      refine (l01In_is s 0 1 true _ HI.out).mono ?_; rintro e w2 ⟨rfl, rfl⟩
      go_wp2_with fail
      go_ret
      exact ⟨rfl, by (repeat' (first | (with_reducible exact Below.refl _ _) | (with_reducible assumption) | (with_reducible refine Below.alloc ?_ ?_ _) | (with_reducible refine Below.drew ?_) | (with_reducible refine below_drewN ?_ _) | (with_reducible refine Below.setCell ?_ ?_ _) | (with_reducible refine Below.trans ?_ (Below.mono (by with_reducible assumption) ?_)) | (with_reducible exact Below.size (by with_reducible assumption)) | go_size))⟩
  · simp only [Int.reducePow] at hcase
    rcases hcase with ⟨h1, rfl⟩ | ⟨h1, h2, rfl⟩
    · have HI := Lib.hid (show decide (0 ≤ s ∧ s ≤ 3) = false from decide_eq_false (by omega))
      clear h1
      go_enter Try.func74, Try.ntmps74
      go_wp2_with fail
      refine (l01Is_any _ _ M Q _ (g1 _ (by (repeat' (first | (with_reducible exact Below.refl _ _) | (with_reducible assumption) | (with_reducible refine Below.alloc ?_ ?_ _) | (with_reducible refine Below.drew ?_) | (with_reducible refine below_drewN ?_ _) | (with_reducible refine Below.setCell ?_ ?_ _) | (with_reducible refine Below.trans ?_ (Below.mono (by with_reducible assumption) ?_)) | (with_reducible exact Below.size (by with_reducible assumption)) | go_size)))) (g2 _ (by (repeat' (first | (with_reducible exact Below.refl _ _) | (with_reducible assumption) | (with_reducible refine Below.alloc ?_ ?_ _) | (with_reducible refine Below.drew ?_) | (with_reducible refine below_drewN ?_ _) | (with_reducible refine Below.setCell ?_ ?_ _) | (with_reducible refine Below.trans ?_ (Below.mono (by with_reducible assumption) ?_)) | (with_reducible exact Below.size (by with_reducible assumption)) | go_size))))).mono ?_; rw [HP.out]; rintro e w1 ⟨rfl, hb1⟩; obtain ⟨hc_hb1, hf_hb1⟩ := bcell hb1; obtain ⟨hcA_hb1, hfA_hb1⟩ := bcellG (W0 := w) hb1 (by (repeat' (first | (with_reducible exact Below.refl _ _) | (with_reducible assumption) | (with_reducible refine Below.alloc ?_ ?_ _) | (with_reducible refine Below.drew ?_) | (with_reducible refine below_drewN ?_ _) | (with_reducible refine Below.setCell ?_ ?_ _) | (with_reducible refine Below.trans ?_ (Below.mono (by with_reducible assumption) ?_)) | (with_reducible exact Below.size (by with_reducible assumption)) | go_size))); have hz_hb1 := hb1.size; (try simp at hz_hb1); (try simp only [Nat.add_one_le_iff] at hz_hb1); have hz0_hb1 : w.heap.size < w1.heap.size := (by omega)
      go_wp2_with fail
      refine (l01In_is s 0 3 false _ HI.out).mono ?_; rintro e w2 ⟨rfl, rfl⟩
      go_wp2_with fail
      go_ret
      exact ⟨rfl, by (repeat' (first | (with_reducible exact Below.refl _ _) | (with_reducible assumption) | (with_reducible refine Below.alloc ?_ ?_ _) | (with_reducible refine Below.drew ?_) | (with_reducible refine below_drewN ?_ _) | (with_reducible refine Below.setCell ?_ ?_ _) | (with_reducible refine Below.trans ?_ (Below.mono (by with_reducible assumption) ?_)) | (with_reducible exact Below.size (by with_reducible assumption)) | go_size))⟩
    · have HI := Lib.hid (show decide (0 ≤ s ∧ s ≤ 3) = true from decide_eq_true (by omega))
      clear h1 h2
      go_enter Try.func74, Try.ntmps74
      go_wp2_with fail
      refine (l01Is_any _ _ M Q _ (g1 _ (by (repeat' (first | (with_reducible exact Below.refl _ _) | (with_reducible assumption) | (with_reducible refine Below.alloc ?_ ?_ _) | (with_reducible refine Below.drew ?_) | (with_reducible refine below_drewN ?_ _) | (with_reducible refine Below.setCell ?_ ?_ _) | (with_reducible refine Below.trans ?_ (Below.mono (by with_reducible assumption) ?_)) | (with_reducible exact Below.size (by with_reducible assumption)) | go_size)))) (g2 _ (by (repeat' (first | (with_reducible exact Below.refl _ _) | (with_reducible assumption) | (with_reducible refine Below.alloc ?_ ?_ _) | (with_reducible refine Below.drew ?_) | (with_reducible refine below_drewN ?_ _) | (with_reducible refine Below.setCell ?_ ?_ _) | (with_reducible refine Below.trans ?_ (Below.mono (by with_reducible assumption) ?_)) | (with_reducible exact Below.size (by with_reducible assumption)) | go_size))))).mono ?_; rw [HP.out]; rintro e w1 ⟨rfl, hb1⟩; obtain ⟨hc_hb1, hf_hb1⟩ := bcell hb1; obtain ⟨hcA_hb1, hfA_hb1⟩ := bcellG (W0 := w) hb1 (by (repeat' (first | (with_reducible exact Below.refl _ _) | (with_reducible assumption) | (with_reducible refine Below.alloc ?_ ?_ _) | (with_reducible refine Below.drew ?_) | (with_reducible refine below_drewN ?_ _) | (with_reducible refine Below.setCell ?_ ?_ _) | (with_reducible refine Below.trans ?_ (Below.mono (by with_reducible assumption) ?_)) | (with_reducible exact Below.size (by with_reducible assumption)) | go_size))); have hz_hb1 := hb1.size; (try simp at hz_hb1); (try simp only [Nat.add_one_le_iff] at hz_hb1); have hz0_hb1 : w.heap.size < w1.heap.size := (by omega)
      go_wp2_with fail
      refine (l01In_is s 0 3 true _ HI.out).mono ?_; rintro e w2 ⟨rfl, rfl⟩
      go_wp2_with fail
      go_ret
      exact ⟨rfl, by (repeat' (first | (with_reducible exact Below.refl _ _) | (with_reducible assumption) | (with_reducible refine Below.alloc ?_ ?_ _) | (with_reducible refine Below.drew ?_) | (with_reducible refine below_drewN ?_ _) | (with_reducible refine Below.setCell ?_ ?_ _) | (with_reducible refine Below.trans ?_ (Below.mono (by with_reducible assumption) ?_)) | (with_reducible exact Below.size (by with_reducible assumption)) | go_size))⟩
  · simp only [Int.reducePow] at hcase
    rcases hcase with ⟨h1, rfl⟩ | ⟨h1, h2, rfl⟩
    · have HI := Lib.hid (show decide (0 ≤ s ∧ s ≤ 7) = false from decide_eq_false (by omega))
      clear h1
      go_enter Try.func74, Try.ntmps74
      go_wp2_with fail
      refine (l01Is_any _ _ M Q _ (g1 _ (by (repeat' (first | (with_reducible exact Below.refl _ _) | (with_reducible assumption) | (with_reducible refine Below.alloc ?_ ?_ _) | (with_reducible refine Below.drew ?_) | (with_reducible refine below_drewN ?_ _) | (with_reducible refine Below.setCell ?_ ?_ _) | (with_reducible refine Below.trans ?_ (Below.mono (by with_reducible assumption) ?_)) | (with_reducible exact Below.size (by with_reducible assumption)) | go_size)))) (g2 _ (by (repeat' (first | (with_reducible exact Below.refl _ _) | (with_reducible assumption) | (with_reducible refine Below.alloc ?_ ?_ _) | (with_reducible refine Below.drew ?_) | (with_reducible refine below_drewN ?_ _) | (with_reducible refine Below.setCell ?_ ?_ _) | (with_reducible refine Below.trans ?_ (Below.mono (by with_reducible assumption) ?_)) | (with_reducible exact Below.size (by with_reducible assumption)) | go_size))))).mono ?_; rw [HP.out]; rintro e w1 ⟨rfl, hb1⟩; obtain ⟨hc_hb1, hf_hb1⟩ := bcell hb1; obtain ⟨hcA_hb1, hfA_hb1⟩ := bcellG (W0 := w) hb1 (by (repeat' (first | (with_reducible exact Below.refl _ _) | (with_reducible assumption) | (with_reducible refine Below.alloc ?_ ?_ _) | (with_reducible refine Below.drew ?_) | (with_reducible refine below_drewN ?_ _) | (with_reducible refine Below.setCell ?_ ?_ _) | (with_reducible refine Below.trans ?_ (Below.mono (by with_reducible assumption) ?_)) | (with_reducible exact Below.size (by with_reducible assumption)) | go_size))); have hz_hb1 := hb1.size; (try simp at hz_hb1); (try simp only [Nat.add_one_le_iff] at hz_hb1); have hz0_hb1 : w.heap.size < w1.heap.size := (by omega)
      go_wp2_with fail
      refine (l01In_is s 0 7 false _ HI.out).mono ?_; rintro e w2 ⟨rfl, rfl⟩
      go_wp2_with fail
      go_ret
      exact ⟨rfl, by (repeat' (first | (with_reducible exact Below.refl _ _) | (with_reducible assumption) | (with_reducible refine Below.alloc ?_ ?_ _) | (with_reducible refine Below.drew ?_) | (with_reducible refine below_drewN ?_ _) | (with_reducible refine Below.setCell ?_ ?_ _) | (with_reducible refine Below.trans ?_ (Below.mono (by with_reducible assumption) ?_)) | (with_reducible exact Below.size (by with_reducible assumption)) | go_size))⟩
    · have HI := Lib.hid (show decide (0 ≤ s ∧ s ≤ 7) = true from decide_eq_true (by omega))
      clear h1 h2
      go_enter Try.func74, Try.ntmps74
      go_wp2_with fail
      refine (l01Is_any _ _ M Q _ (g1 _ (by (repeat' (first | (with_reducible exact Below.refl _ _) | (with_reducible assumption) | (with_reducible refine Below.alloc ?_ ?_ _) | (with_reducible refine Below.drew ?_) | (with_reducible refine below_drewN ?_ _) | (with_reducible refine Below.setCell ?_ ?_ _) | (with_reducible refine Below.trans ?_ (Below.mono (by with_reducible assumption) ?_)) | (with_reducible exact Below.size (by with_reducible assumption)) | go_size)))) (g2 _ (by (repeat' (first | (with_reducible exact Below.refl _ _) | (with_reducible assumption) | (with_reducible refine Below.alloc ?_ ?_ _) | (with_reducible refine Below.drew ?_) | (with_reducible refine below_drewN ?_ _) | (with_reducible refine Below.setCell ?_ ?_ _) | (with_reducible refine Below.trans ?_ (Below.mono (by with_reducible assumption) ?_)) | (with_reducible exact Below.size (by with_reducible assumption)) | go_size))))).mono ?_; rw [HP.out]; rintro e w1 ⟨rfl, hb1⟩; obtain ⟨hc_hb1, hf_hb1⟩ := bcell hb1; obtain ⟨hcA_hb1, hfA_hb1⟩ := bcellG (W0 := w) hb1 (by (repeat' (first | (with_reducible exact Below.refl _ _) | (with_reducible assumption) | (with_reducible refine Below.alloc ?_ ?_ _) | (with_reducible refine Below.drew ?_) | (with_reducible refine below_drewN ?_ _) | (with_reducible refine Below.setCell ?_ ?_ _) | (with_reducible refine Below.trans ?_ (Below.mono (by with_reducible assumption) ?_)) | (with_reducible exact Below.size (by with_reducible assumption)) | go_size))); have hz_hb1 := hb1.size; (try simp at hz_hb1); (try simp only [Nat.add_one_le_iff] at hz_hb1); have hz0_hb1 : w.heap.size < w1.heap.size := (by omega)
      go_wp2_with fail
      refine (l01In_is s 0 7 true _ HI.out).mono ?_; rintro e w2 ⟨rfl, rfl⟩
      go_wp2_with fail
      go_ret
      exact ⟨rfl, by (repeat' (first | (with_reducible exact Below.refl _ _) | (with_reducible assumption) | (with_reducible refine Below.alloc ?_ ?_ _) | (with_reducible refine Below.drew ?_) | (with_reducible refine below_drewN ?_ _) | (with_reducible refine Below.setCell ?_ ?_ _) | (with_reducible refine Below.trans ?_ (Below.mono (by with_reducible assumption) ?_)) | (with_reducible exact Below.size (by with_reducible assumption)) | go_size))⟩
  · simp only [Int.reducePow] at hcase
    rcases hcase with ⟨h1, rfl⟩ | ⟨h1, h2, rfl⟩
    · have HI := Lib.hid (show decide (0 ≤ s ∧ s ≤ 15) = false from decide_eq_false (by omega))
      clear h1
      go_enter Try.func74, Try.ntmps74
      go_wp2_with fail
      refine (l01Is_any _ _ M Q _ (g1 _ (by (repeat' (first | (with_reducible exact Below.refl _ _) | (with_reducible assumption) | (with_reducible refine Below.alloc ?_ ?_ _) | (with_reducible refine Below.drew ?_) | (with_reducible refine below_drewN ?_ _) | (with_reducible refine Below.setCell ?_ ?_ _) | (with_reducible refine Below.trans ?_ (Below.mono (by with_reducible assumption) ?_)) | (with_reducible exact Below.size (by with_reducible assumption)) | go_size)))) (g2 _ (by (repeat' (first | (with_reducible exact Below.refl _ _) | (with_reducible assumption) | (with_reducible refine Below.alloc ?_ ?_ _) | (with_reducible refine Below.drew ?_) | (with_reducible refine below_drewN ?_ _) | (with_reducible refine Below.setCell ?_ ?_ _) | (with_reducible refine Below.trans ?_ (Below.mono (by with_reducible assumption) ?_)) | (with_reducible exact Below.size (by with_reducible assumption)) | go_size))))).mono ?_; rw [HP.out]; rintro e w1 ⟨rfl, hb1⟩; obtain ⟨hc_hb1, hf_hb1⟩ := bcell hb1; obtain ⟨hcA_hb1, hfA_hb1⟩ := bcellG (W0 := w) hb1 (by (repeat' (first | (with_reducible exact Below.refl _ _) | (with_reducible assumption) | (with_reducible refine Below.alloc ?_ ?_ _) | (with_reducible refine Below.drew ?_) | (with_reducible refine below_drewN ?_ _) | (with_reducible refine Below.setCell ?_ ?_ _) | (with_reducible refine Below.trans ?_ (Below.mono (by with_reducible assumption) ?_)) | (with_reducible exact Below.size (by with_reducible assumption)) | go_size))); have hz_hb1 := hb1.size; (try simp at hz_hb1); (try simp only [Nat.add_one_le_iff] at hz_hb1); have hz0_hb1 : w.heap.size < w1.heap.size := (by omega)
      go_wp2_with fail
      refine (l01In_is s 0 15 false _ HI.out).mono ?_; rintro e w2 ⟨rfl, rfl⟩
      go_wp2_with fail
      go_ret
      exact ⟨rfl, by (repeat' (first | (with_reducible exact Below.refl _ _) | (with_reducible assumption) | (with_reducible refine Below.alloc ?_ ?_ _) | (with_reducible refine Below.drew ?_) | (with_reducible refine below_drewN ?_ _) | (with_reducible refine Below.setCell ?_ ?_ _) | (with_reducible refine Below.trans ?_ (Below.mono (by with_reducible assumption) ?_)) | (with_reducible exact Below.size (by with_reducible assumption)) | go_size))⟩
    · have HI := Lib.hid (show decide (0 ≤ s ∧ s ≤ 15) = true from decide_eq_true (by omega))
      clear h1 h2
      go_enter Try.func74, Try.ntmps74
      go_wp2_with fail
      refine (l01Is_any _ _ M Q _ (g1 _ (by (repeat' (first | (with_reducible exact Below.refl _ _) | (with_reducible assumption) | (with_reducible refine Below.alloc ?_ ?_ _) | (with_reducible refine Below.drew ?_) | (with_reducible refine below_drewN ?_ _) | (with_reducible refine Below.setCell ?_ ?_ _) | (with_reducible refine Below.trans ?_ (Below.mono (by with_reducible assumption) ?_)) | (with_reducible exact Below.size (by with_reducible assumption)) | go_size)))) (g2 _ (by (repeat' (first | (with_reducible exact Below.refl _ _) | (with_reducible assumption) | (with_reducible refine Below.alloc ?_ ?_ _) | (with_reducible refine Below.drew ?_) | (with_reducible refine below_drewN ?_ _) | (with_reducible refine Below.setCell ?_ ?_ _) | (with_reducible refine Below.trans ?_ (Below.mono (by with_reducible assumption) ?_)) | (with_reducible exact Below.size (by with_reducible assumption)) | go_size))))).mono ?_; rw [HP.out]; rintro e w1 ⟨rfl, hb1⟩; obtain ⟨hc_hb1, hf_hb1⟩ := bcell hb1; obtain ⟨hcA_hb1, hfA_hb1⟩ := bcellG (W0 := w) hb1 (by (repeat' (first | (with_reducible exact Below.refl _ _) | (with_reducible assumption) | (with_reducible refine Below.alloc ?_ ?_ _) | (with_reducible refine Below.drew ?_) | (with_reducible refine below_drewN ?_ _) | (with_reducible refine Below.setCell ?_ ?_ _) | (with_reducible refine Below.trans ?_ (Below.mono (by with_reducible assumption) ?_)) | (with_reducible exact Below.size (by with_reducible assumption)) | go_size))); have hz_hb1 := hb1.size; (try simp at hz_hb1); (try simp only [Nat.add_one_le_iff] at hz_hb1); have hz0_hb1 : w.heap.size < w1.heap.size := (by omega)
      go_wp2_with fail
      refine (l01In_is s 0 15 true _ HI.out).mono ?_; rintro e w2 ⟨rfl, rfl⟩
      go_wp2_with fail
      go_ret
      exact ⟨rfl, by (repeat' (first | (with_reducible exact Below.refl _ _) | (with_reducible assumption) | (with_reducible refine Below.alloc ?_ ?_ _) | (with_reducible refine Below.drew ?_) | (with_reducible refine below_drewN ?_ _) | (with_reducible refine Below.setCell ?_ ?_ _) | (with_reducible refine Below.trans ?_ (Below.mono (by with_reducible assumption) ?_)) | (with_reducible exact Below.size (by with_reducible assumption)) | go_size))⟩
  · simp only [Int.reducePow] at hcase
    rcases hcase with ⟨h1, rfl⟩ | ⟨h1, h2, rfl⟩
    · have HI := Lib.hid (show decide (0 ≤ s ∧ s ≤ 31) = false from decide_eq_false (by omega))
      clear h1
      go_enter Try.func74, Try.ntmps74
      go_wp2_with fail
      refine (l01Is_any _ _ M Q _ (g1 _ (by (repeat' (first | (with_reducible exact Below.refl _ _) | (with_reducible assumption) | (with_reducible refine Below.alloc ?_ ?_ _) | (with_reducible refine Below.drew ?_) | (with_reducible refine below_drewN ?_ _) | (with_reducible refine Below.setCell ?_ ?_ _) | (with_reducible refine Below.trans ?_ (Below.mono (by with_reducible assumption) ?_)) | (with_reducible exact Below.size (by with_reducible assumption)) | go_size)))) (g2 _ (by (repeat' (first | (with_reducible exact Below.refl _ _) | (with_reducible assumption) | (with_reducible refine Below.alloc ?_ ?_ _) | (with_reducible refine Below.drew ?_) | (with_reducible refine below_drewN ?_ _) | (with_reducible refine Below.setCell ?_ ?_ _) | (with_reducible refine Below.trans ?_ (Below.mono (by with_reducible assumption) ?_)) | (with_reducible exact Below.size (by with_reducible assumption)) | go_size))))).mono ?_; rw [HP.out]; rintro e w1 ⟨rfl, hb1⟩; obtain ⟨hc_hb1, hf_hb1⟩ := bcell hb1; obtain ⟨hcA_hb1, hfA_hb1⟩ := bcellG (W0 := w) hb1 (by (repeat' (first | (with_reducible exact Below.refl _ _) | (with_reducible assumption) | (with_reducible refine Below.alloc ?_ ?_ _) | (with_reducible refine Below.drew ?_) | (with_reducible refine below_drewN ?_ _) | (with_reducible refine Below.setCell ?_ ?_ _) | (with_reducible refine Below.trans ?_ (Below.mono (by with_reducible assumption) ?_)) | (with_reducible exact Below.size (by with_reducible assumption)) | go_size))); have hz_hb1 := hb1.size; (try simp at hz_hb1); (try simp only [Nat.add_one_le_iff] at hz_hb1); have hz0_hb1 : w.heap.size < w1.heap.size := (by omega)
      go_wp2_with fail
      refine (l01In_is s 0 31 false _ HI.out).mono ?_; rintro e w2 ⟨rfl, rfl⟩
      go_wp2_with fail
      go_ret
      exact ⟨rfl, by (repeat' (first | (with_reducible exact Below.refl _ _) | (with_reducible assumption) | (with_reducible refine Below.alloc ?_ ?_ _) | (with_reducible refine Below.drew ?_) | (with_reducible refine below_drewN ?_ _) | (with_reducible refine Below.setCell ?_ ?_ _) | (with_reducible refine Below.trans ?_ (Below.mono (by with_reducible assumption) ?_)) | (with_reducible exact Below.size (by with_reducible assumption)) | go_size))⟩
    · have HI := Lib.hid (show decide (0 ≤ s ∧ s ≤ 31) = true from decide_eq_true (by omega))
      clear h1 h2
      go_enter Try.func74, Try.ntmps74
      go_wp2_with fail
      refine (l01Is_any _ _ M Q _ (g1 _ (by (repeat' (first | (with_reducible exact Below.refl _ _) | (with_reducible assumption) | (with_reducible refine Below.alloc ?_ ?_ _) | (with_reducible refine Below.drew ?_) | (with_reducible refine below_drewN ?_ _) | (with_reducible refine Below.setCell ?_ ?_ _) | (with_reducible refine Below.trans ?_ (Below.mono (by with_reducible assumption) ?_)) | (with_reducible exact Below.size (by with_reducible assumption)) | go_size)))) (g2 _ (by (repeat' (first | (with_reducible exact Below.refl _ _) | (with_reducible assumption) | (with_reducible refine Below.alloc ?_ ?_ _) | (with_reducible refine Below.drew ?_) | (with_reducible refine below_drewN ?_ _) | (with_reducible refine Below.setCell ?_ ?_ _) | (with_reducible refine Below.trans ?_ (Below.mono (by with_reducible assumption) ?_)) | (with_reducible exact Below.size (by with_reducible assumption)) | go_size))))).mono ?_; rw [HP.out]; rintro e w1 ⟨rfl, hb1⟩; obtain ⟨hc_hb1, hf_hb1⟩ := bcell hb1; obtain ⟨hcA_hb1, hfA_hb1⟩ := bcellG (W0 := w) hb1 (by (repeat' (first | (with_reducible exact Below.refl _ _) | (with_reducible assumption) | (with_reducible refine Below.alloc ?_ ?_ _) | (with_reducible refine Below.drew ?_) | (with_reducible refine below_drewN ?_ _) | (with_reducible refine Below.setCell ?_ ?_ _) | (with_reducible refine Below.trans ?_ (Below.mono (by with_reducible assumption) ?_)) | (with_reducible exact Below.size (by with_reducible assumption)) | go_size))); have hz_hb1 := hb1.size; (try simp at hz_hb1); (try simp only [Nat.add_one_le_iff] at hz_hb1); have hz0_hb1 : w.heap.size < w1.heap.size := (by omega)
      go_wp2_with fail
      refine (l01In_is s 0 31 true _ HI.out).mono ?_; rintro e w2 ⟨rfl, rfl⟩
      go_wp2_with fail
      go_ret
      exact ⟨rfl, by (repeat' (first | (with_reducible exact Below.refl _ _) | (with_reducible assumption) | (with_reducible refine Below.alloc ?_ ?_ _) | (with_reducible refine Below.drew ?_) | (with_reducible refine below_drewN ?_ _) | (with_reducible refine Below.setCell ?_ ?_ _) | (with_reducible refine Below.trans ?_ (Below.mono (by with_reducible assumption) ?_)) | (with_reducible exact Below.size (by with_reducible assumption)) | go_size))⟩
theorem l02Code_any (m q : Value) (M : List (List Int)) (Q : List Int) (s : Int) (w : World) (h1 : PM.Rows w m M) (h2 : Ints w q Q) :
    Calls Try.prog 119 #[.agg #[m, q], .int .i64 s] w fun e w' => e = .returned (.int .i64 (setCode M Q s)) ∧ Below w.heap.size w w' := by
  have g1 := fun (w' : World) (h : Below w.heap.size w w') => h1.below h
  have g2 := fun (w' : World) (h : Below w.heap.size w w') => h2.below h
  obtain ⟨a1, c1, rfl, _⟩ := h1
  obtain ⟨a2, c2, rfl, _⟩ := h2
  cases hp : isPB M Q
  · have HP := Lib.hid hp
    have HC := Lib.hid (setCode_err1 (s := s) hp)
    clear hp
    go_enter Try.func119, Try.ntmps119
    go_wp2_with fail
    refine (l01Is_any _ _ M Q _ (g1 _ (by (repeat' (first | (with_reducible exact Below.refl _ _) | (with_reducible assumption) | (with_reducible refine Below.alloc ?_ ?_ _) | (with_reducible refine Below.drew ?_) | (with_reducible refine below_drewN ?_ _) | (with_reducible refine Below.setCell ?_ ?_ _) | (with_reducible refine Below.trans ?_ (Below.mono (by with_reducible assumption) ?_)) | (with_reducible exact Below.size (by with_reducible assumption)) | go_size)))) (g2 _ (by (repeat' (first | (with_reducible exact Below.refl _ _) | (with_reducible assumption) | (with_reducible refine Below.alloc ?_ ?_ _) | (with_reducible refine Below.drew ?_) | (with_reducible refine below_drewN ?_ _) | (with_reducible refine Below.setCell ?_ ?_ _) | (with_reducible refine Below.trans ?_ (Below.mono (by with_reducible assumption) ?_)) | (with_reducible exact Below.size (by with_reducible assumption)) | go_size))))).mono ?_; rw [HP.out]; rintro e w1 ⟨rfl, hb1⟩; obtain ⟨hc_hb1, hf_hb1⟩ := bcell hb1; obtain ⟨hcA_hb1, hfA_hb1⟩ := bcellG (W0 := w) hb1 (by (repeat' (first | (with_reducible exact Below.refl _ _) | (with_reducible assumption) | (with_reducible refine Below.alloc ?_ ?_ _) | (with_reducible refine Below.drew ?_) | (with_reducible refine below_drewN ?_ _) | (with_reducible refine Below.setCell ?_ ?_ _) | (with_reducible refine Below.trans ?_ (Below.mono (by with_reducible assumption) ?_)) | (with_reducible exact Below.size (by with_reducible assumption)) | go_size))); have hz_hb1 := hb1.size; (try simp at hz_hb1); (try simp only [Nat.add_one_le_iff] at hz_hb1); have hz0_hb1 : w.heap.size < w1.heap.size := (by omega)
    go_wp2_with fail
    go_ret
    exact ⟨ret_i64 HC.out.symm, by (repeat' (first | (with_reducible exact Below.refl _ _) | (with_reducible assumption) | (with_reducible refine Below.alloc ?_ ?_ _) | (with_reducible refine Below.drew ?_) | (with_reducible refine below_drewN ?_ _) | (with_reducible refine Below.setCell ?_ ?_ _) | (with_reducible refine Below.trans ?_ (Below.mono (by with_reducible assumption) ?_)) | (with_reducible exact Below.size (by with_reducible assumption)) | go_size))⟩
  obtain ⟨f1, f2, f3, _, _⟩ := isPB_facts hp
  obtain ⟨c, hc⟩ : ∃ c, c = setCode M Q s := ⟨_, rfl⟩
  have hcase : ((s < 0 ∨ (2 : Int) ^ M.length ≤ s) ∧ c = 2) ∨ (0 ≤ s ∧ s < (2 : Int) ^ M.length ∧ c = 0) := by
    by_cases e : s < 0 ∨ (2 : Int) ^ M.length ≤ s
    · have := setCode_err2 hp e; omega
    · have := setCode_ok hp e; omega
  rw [← hc]
  have HP := Lib.hid hp
  clear hp hc
  obtain ⟨n, hn⟩ : ∃ n, n = M.length := ⟨_, rfl⟩
  rw [← hn] at f3
  rw [← hn] at hcase f1 f2 g1 ⊢
  rw [f3] at g2 ⊢
  clear hn f3
  obtain rfl | rfl | rfl | rfl | rfl : n = 1 ∨ n = 2 ∨ n = 3 ∨ n = 4 ∨ n = 5 := by omega
  · simp only [Int.reducePow] at hcase
    rcases hcase with ⟨h1, rfl⟩ | ⟨h1, h2, rfl⟩
    · have HI := Lib.hid (show decide (0 ≤ s ∧ s ≤ 1) = false from decide_eq_false (by omega))
      clear h1
      go_enter Try.func119, Try.ntmps119
      go_wp2_with fail
      refine (l01Is_any _ _ M Q _ (g1 _ (by (repeat' (first | (with_reducible exact Below.refl _ _) | (with_reducible assumption) | (with_reducible refine Below.alloc ?_ ?_ _) | (with_reducible refine Below.drew ?_) | (with_reducible refine below_drewN ?_ _) | (with_reducible refine Below.setCell ?_ ?_ _) | (with_reducible refine Below.trans ?_ (Below.mono (by with_reducible assumption) ?_)) | (with_reducible exact Below.size (by with_reducible assumption)) | go_size)))) (g2 _ (by (repeat' (first | (with_reducible exact Below.refl _ _) | (with_reducible assumption) | (with_reducible refine Below.alloc ?_ ?_ _) | (with_reducible refine Below.drew ?_) | (with_reducible refine below_drewN ?_ _) | (with_reducible refine Below.setCell ?_ ?_ _) | (with_reducible refine Below.trans ?_ (Below.mono (by with_reducible assumption) ?_)) | (with_reducible exact Below.size (by with_reducible assumption)) | go_size))))).mono ?_; rw [HP.out]; rintro e w1 ⟨rfl, hb1⟩; obtain ⟨hc_hb1, hf_hb1⟩ := bcell hb1; obtain ⟨hcA_hb1, hfA_hb1⟩ := bcellG (W0 := w) hb1 (by (repeat' (first | (with_reducible exact Below.refl _ _) | (with_reducible assumption) | (with_reducible refine Below.alloc ?_ ?_ _) | (with_reducible refine Below.drew ?_) | (with_reducible refine below_drewN ?_ _) | (with_reducible refine Below.setCell ?_ ?_ _) | (with_reducible refine Below.trans ?_ (Below.mono (by with_reducible assumption) ?_)) | (with_reducible exact Below.size (by with_reducible assumption)) | go_size))); have hz_hb1 := hb1.size; (try simp at hz_hb1); (try simp only [Nat.add_one_le_iff] at hz_hb1); have hz0_hb1 : w.heap.size < w1.heap.size := (by omega)
      go_wp2_with fail
      refine (l01In_is s 0 1 false _ HI.out).mono ?_; rintro e w2 ⟨rfl, rfl⟩
      go_wp2_with fail
      go_ret
      exact ⟨rfl, by (repeat' (first | (with_reducible exact Below.refl _ _) | (with_reducible assumption) | (with_reducible refine Below.alloc ?_ ?_ _) | (with_reducible refine Below.drew ?_) | (with_reducible refine below_drewN ?_ _) | (with_reducible refine Below.setCell ?_ ?_ _) | (with_reducible refine Below.trans ?_ (Below.mono (by with_reducible assumption) ?_)) | (with_reducible exact Below.size (by with_reducible assumption)) | go_size))⟩
    · have HI := Lib.hid (show decide (0 ≤ s ∧ s ≤ 1) = true from decide_eq_true (by omega))
      clear h1 h2
      go_enter Try.func119, Try.ntmps119
      go_wp2_with fail
      refine (l01Is_any _ _ M Q _ (g1 _ (by (repeat' (first | (with_reducible exact Below.refl _ _) | (with_reducible assumption) | (with_reducible refine Below.alloc ?_ ?_ _) | (with_reducible refine Below.drew ?_) | (with_reducible refine below_drewN ?_ _) | (with_reducible refine Below.setCell ?_ ?_ _) | (with_reducible refine Below.trans ?_ (Below.mono (by with_reducible assumption) ?_)) | (with_reducible exact Below.size (by with_reducible assumption)) | go_size)))) (g2 _ (by (repeat' (first | (with_reducible exact Below.refl _ _) | (with_reducible assumption) | (with_reducible refine Below.alloc ?_ ?_ _) | (with_reducible refine Below.drew ?_) | (with_reducible refine below_drewN ?_ _) | (with_reducible refine Below.setCell ?_ ?_ _) | (with_reducible refine Below.trans ?_ (Below.mono (by with_reducible assumption) ?_)) | (with_reducible exact Below.size (by with_reducible assumption)) | go_size))))).mono ?_; rw [HP.out]; rintro e w1 ⟨rfl, hb1⟩; obtain ⟨hc_hb1, hf_hb1⟩ := bcell hb1; obtain ⟨hcA_hb1, hfA_hb1⟩ := bcellG (W0 := w) hb1 (by (repeat' (first | (with_reducible exact Below.refl _ _) | (with_reducible assumption) | (with_reducible refine Below.alloc ?_ ?_ _) | (with_reducible refine Below.drew ?_) | (with_reducible refine below_drewN ?_ _) | (with_reducible refine Below.setCell ?_ ?_ _) | (with_reducible refine Below.trans ?_ (Below.mono (by with_reducible assumption) ?_)) | (with_reducible exact Below.size (by with_reducible assumption)) | go_size))); have hz_hb1 := hb1.size; (try simp at hz_hb1); (try simp only [Nat.add_one_le_iff] at hz_hb1); have hz0_hb1 : w.heap.size < w1.heap.size := (by omega)
      go_wp2_with fail
      refine (l01In_is s 0 1 true _ HI.out).mono ?_; rintro e w2 ⟨rfl, rfl⟩
      go_wp2_with fail
      go_ret
      exact ⟨rfl, by (repeat' (first | (with_reducible exact Below.refl _ _) | (with_reducible assumption) | (with_reducible refine Below.alloc ?_ ?_ _) | (with_reducible refine Below.drew ?_) | (with_reducible refine below_drewN ?_ _) | (with_reducible refine Below.setCell ?_ ?_ _) | (with_reducible refine Below.trans ?_ (Below.mono (by with_reducible assumption) ?_)) | (with_reducible exact Below.size (by with_reducible assumption)) | go_size))⟩
  · simp only [Int.reducePow] at hcase
    rcases hcase with ⟨h1, rfl⟩ | ⟨h1, h2, rfl⟩
    · have HI := Lib.hid (show decide (0 ≤ s ∧ s ≤ 3) = false from decide_eq_false (by omega))
      clear h1
      go_enter Try.func119, Try.ntmps119
      go_wp2_with fail
      refine (l01Is_any _ _ M Q _ (g1 _ (by (repeat' (first | (with_reducible exact Below.refl _ _) | (with_reducible assumption) | (with_reducible refine Below.alloc ?_ ?_ _) | (with_reducible refine Below.drew ?_) | (with_reducible refine below_drewN ?_ _) | (with_reducible refine Below.setCell ?_ ?_ _) | (with_reducible refine Below.trans ?_ (Below.mono (by with_reducible assumption) ?_)) | (with_reducible exact Below.size (by with_reducible assumption)) | go_size)))) (g2 _ (by (repeat' (first | (with_reducible exact Below.refl _ _) | (with_reducible assumption) | (with_reducible refine Below.alloc ?_ ?_ _) | (with_reducible refine Below.drew ?_) | (with_reducible refine below_drewN ?_ _) | (with_reducible refine Below.setCell ?_ ?_ _) | (with_reducible refine Below.trans ?_ (Below.mono (by with_reducible assumption) ?_)) | (with_reducible exact Below.size (by with_reducible assumption)) | go_size))))).mono ?_; rw [HP.out]; rintro e w1 ⟨rfl, hb1⟩; obtain ⟨hc_hb1, hf_hb1⟩ := bcell hb1; obtain ⟨hcA_hb1, hfA_hb1⟩ := bcellG (W0 := w) hb1 (by (repeat' (first | (with_reducible exact Below.refl _ _) | (with_reducible assumption) | (with_reducible refine Below.alloc ?_ ?_ _) | (with_reducible refine Below.drew ?_) | (with_reducible refine below_drewN ?_ _) | (with_reducible refine Below.setCell ?_ ?_ _) | (with_reducible refine Below.trans ?_ (Below.mono (by with_reducible assumption) ?_)) | (with_reducible exact Below.size (by with_reducible assumption)) | go_size))); have hz_hb1 := hb1.size; (try simp at hz_hb1); (try simp only [Nat.add_one_le_iff] at hz_hb1); have hz0_hb1 : w.heap.size < w1.heap.size := (by omega)
      go_wp2_with fail
      refine (l01In_is s 0 3 false _ HI.out).mono ?_; rintro e w2 ⟨rfl, rfl⟩
      go_wp2_with fail
      go_ret
      exact ⟨rfl, by (repeat' (first | (with_reducible exact Below.refl _ _) | (with_reducible assumption) | (with_reducible refine Below.alloc ?_ ?_ _) | (with_reducible refine Below.drew ?_) | (with_reducible refine below_drewN ?_ _) | (with_reducible refine Below.setCell ?_ ?_ _) | (with_reducible refine Below.trans ?_ (Below.mono (by with_reducible assumption) ?_)) | (with_reducible exact Below.size (by with_reducible assumption)) | go_size))⟩
    · have HI := Lib.hid (show decide (0 ≤ s ∧ s ≤ 3) = true from decide_eq_true (by omega))
      clear h1 h2
      go_enter Try.func119, Try.ntmps119
      go_wp2_with fail
      refine (l01Is_any _ _ M Q _ (g1 _ (by (repeat' (first | (with_reducible exact Below.refl _ _) | (with_reducible assumption) | (with_reducible refine Below.alloc ?_ ?_ _) | (with_reducible refine Below.drew ?_) | (with_reducible refine below_drewN ?_ _) | (with_reducible refine Below.setCell ?_ ?_ _) | (with_reducible refine Below.trans ?_ (Below.mono (by with_reducible assumption) ?_)) | (with_reducible exact Below.size (by with_reducible assumption)) | go_size)))) (g2 _ (by (repeat' (first | (with_reducible exact Below.refl _ _) | (with_reducible assumption) | (with_reducible refine Below.alloc ?_ ?_ _) | (with_reducible refine Below.drew ?_) | (with_reducible refine below_drewN ?_ _) | (with_reducible refine Below.setCell ?_ ?_ _) | (with_reducible refine Below.trans ?_ (Below.mono (by with_reducible assumption) ?_)) | (with_reducible exact Below.size (by with_reducible assumption)) | go_size))))).mono ?_; rw [HP.out]; rintro e w1 ⟨rfl, hb1⟩; obtain ⟨hc_hb1, hf_hb1⟩ := bcell hb1; obtain ⟨hcA_hb1, hfA_hb1⟩ := bcellG (W0 := w) hb1 (by (repeat' (first | (with_reducible exact Below.refl _ _) | (with_reducible assumption) | (with_reducible refine Below.alloc ?_ ?_ _) | (with_reducible refine Below.drew ?_) | (with_reducible refine below_drewN ?_ _) | (with_reducible refine Below.setCell ?_ ?_ _) | (with_reducible refine Below.trans ?_ (Below.mono (by with_reducible assumption) ?_)) | (with_reducible exact Below.size (by with_reducible assumption)) | go_size))); have hz_hb1 := hb1.size; (try simp at hz_hb1); (try simp only [Nat.add_one_le_iff] at hz_hb1); have hz0_hb1 : w.heap.size < w1.heap.size := (by omega)
      go_wp2_with fail
      refine (l01In_is s 0 3 true _ HI.out).mono ?_; rintro e w2 ⟨rfl, rfl⟩
      go_wp2_with fail
      go_ret
      exact ⟨rfl, by (repeat' (first | (with_reducible exact Below.refl _ _) | (with_reducible assumption) | (with_reducible refine Below.alloc ?_ ?_ _) | (with_reducible refine Below.drew ?_) | (with_reducible refine below_drewN ?_ _) | (with_reducible refine Below.setCell ?_ ?_ _) | (with_reducible refine Below.trans ?_ (Below.mono (by with_reducible assumption) ?_)) | (with_reducible exact Below.size (by with_reducible assumption)) | go_size))⟩
  · simp only [Int.reducePow] at hcase
    rcases hcase with ⟨h1, rfl⟩ | ⟨h1, h2, rfl⟩
    · have HI := Lib.hid (show decide (0 ≤ s ∧ s ≤ 7) = false from decide_eq_false (by omega))
      clear h1
      go_enter Try.func119, Try.ntmps119
      go_wp2_with fail
      refine (l01Is_any _ _ M Q _ (g1 _ (by (repeat' (first | (with_reducible exact Below.refl _ _) | (with_reducible assumption) | (with_reducible refine Below.alloc ?_ ?_ _) | (with_reducible refine Below.drew ?_) | (with_reducible refine below_drewN ?_ _) | (with_reducible refine Below.setCell ?_ ?_ _) | (with_reducible refine Below.trans ?_ (Below.mono (by with_reducible assumption) ?_)) | (with_reducible exact Below.size (by with_reducible assumption)) | go_size)))) (g2 _ (by (repeat' (first | (with_reducible exact Below.refl _ _) | (with_reducible assumption) | (with_reducible refine Below.alloc ?_ ?_ _) | (with_reducible refine Below.drew ?_) | (with_reducible refine below_drewN ?_ _) | (with_reducible refine Below.setCell ?_ ?_ _) | (with_reducible refine Below.trans ?_ (Below.mono (by with_reducible assumption) ?_)) | (with_reducible exact Below.size (by with_reducible assumption)) | go_size))))).mono ?_; rw [HP.out]; rintro e w1 ⟨rfl, hb1⟩; obtain ⟨hc_hb1, hf_hb1⟩ := bcell hb1; obtain ⟨hcA_hb1, hfA_hb1⟩ := bcellG (W0 := w) hb1 (by (repeat' (first | (with_reducible exact Below.refl _ _) | (with_reducible assumption) | (with_reducible refine Below.alloc ?_ ?_ _) | (with_reducible refine Below.drew ?_) | (with_reducible refine below_drewN ?_ _) | (with_reducible refine Below.setCell ?_ ?_ _) | (with_reducible refine Below.trans ?_ (Below.mono (by with_reducible assumption) ?_)) | (with_reducible exact Below.size (by with_reducible assumption)) | go_size))); have hz_hb1 := hb1.size; (try simp at hz_hb1); (try simp only [Nat.add_one_le_iff] at hz_hb1); have hz0_hb1 : w.heap.size < w1.heap.size := (by omega)
      go_wp2_with fail
      refine (l01In_is s 0 7 false _ HI.out).mono ?_; rintro e w2 ⟨rfl, rfl⟩
      go_wp2_with fail
      go_ret
      exact ⟨rfl, by (repeat' (first | (with_reducible exact Below.refl _ _) | (with_reducible assumption) | (with_reducible refine Below.alloc ?_ ?_ _) | (with_reducible refine Below.drew ?_) | (with_reducible refine below_drewN ?_ _) | (with_reducible refine Below.setCell ?_ ?_ _) | (with_reducible refine Below.trans ?_ (Below.mono (by with_reducible assumption) ?_)) | (with_reducible exact Below.size (by with_reducible assumption)) | go_size))⟩
    · have HI := Lib.hid (show decide (0 ≤ s ∧ s ≤ 7) = true from decide_eq_true (by omega))
      clear h1 h2
      go_enter Try.func119, Try.ntmps119
      go_wp2_with fail
      refine (l01Is_any _ _ M Q _ (g1 _ (by (repeat' (first | (with_reducible exact Below.refl _ _) | (with_reducible assumption) | (with_reducible refine Below.alloc ?_ ?_ _) | (with_reducible refine Below.drew ?_) | (with_reducible refine below_drewN ?_ _) | (with_reducible refine Below.setCell ?_ ?_ _) | (with_reducible refine Below.trans ?_ (Below.mono (by with_reducible assumption) ?_)) | (with_reducible exact Below.size (by with_reducible assumption)) | go_size)))) (g2 _ (by (repeat' (first | (with_reducible exact Below.refl _ _) | (with_reducible assumption) | (with_reducible refine Below.alloc ?_ ?_ _) | (with_reducible refine Below.drew ?_) | (with_reducible refine below_drewN ?_ _) | (with_reducible refine Below.setCell ?_ ?_ _) | (with_reducible refine Below.trans ?_ (Below.mono (by with_reducible assumption) ?_)) | (with_reducible exact Below.size (by with_reducible assumption)) | go_size))))).mono ?_; rw [HP.out]; rintro e w1 ⟨rfl, hb1⟩; obtain ⟨hc_hb1, hf_hb1⟩ := bcell hb1; obtain ⟨hcA_hb1, hfA_hb1⟩ := bcellG (W0 := w) hb1 (by (repeat' (first | (with_reducible exact Below.refl _ _) | (with_reducible assumption) | (with_reducible refine Below.alloc ?_ ?_ _) | (with_reducible refine Below.drew ?_) | (with_reducible refine below_drewN ?_ _) | (with_reducible refine Below.setCell ?_ ?_ _) | (with_reducible refine Below.trans ?_ (Below.mono (by with_reducible assumption) ?_)) | (with_reducible exact Below.size (by with_reducible assumption)) | go_size))); have hz_hb1 := hb1.size; (try simp at hz_hb1); (try simp only [Nat.add_one_le_iff] at hz_hb1); have hz0_hb1 : w.heap.size < w1.heap.size := (by omega)
      go_wp2_with fail
      refine (l01In_is s 0 7 true _ HI.out).mono ?_; rintro e w2 ⟨rfl, rfl⟩
      go_wp2_with fail
      go_ret
      exact ⟨rfl, by (repeat' (first | (with_reducible exact Below.refl _ _) | (with_reducible assumption) | (with_reducible refine Below.alloc ?_ ?_ _) | (with_reducible refine Below.drew ?_) | (with_reducible refine below_drewN ?_ _) | (with_reducible refine Below.setCell ?_ ?_ _) | (with_reducible refine Below.trans ?_ (Below.mono (by with_reducible assumption) ?_)) | (with_reducible exact Below.size (by with_reducible assumption)) | go_size))⟩
  · simp only [Int.reducePow] at hcase
    rcases hcase with ⟨h1, rfl⟩ | ⟨h1, h2, rfl⟩
    · have HI := Lib.hid (show decide (0 ≤ s ∧ s ≤ 15) = false from decide_eq_false (by omega))
      clear h1
      go_enter Try.func119, Try.ntmps119
      go_wp2_with fail
      refine (l01Is_any _ _ M Q _ (g1 _ (by (repeat' (first | (with_reducible exact Below.refl _ _) | (with_reducible assumption) | (with_reducible refine Below.alloc ?_ ?_ _) | (with_reducible refine Below.drew ?_) | (with_reducible refine below_drewN ?_ _) | (with_reducible refine Below.setCell ?_ ?_ _) | (with_reducible refine Below.trans ?_ (Below.mono (by with_reducible assumption) ?_)) | (with_reducible exact Below.size (by with_reducible assumption)) | go_size)))) (g2 _ (by (repeat' (first | (with_reducible exact Below.refl _ _) | (with_reducible assumption) | (with_reducible refine Below.alloc ?_ ?_ _) | (with_reducible refine Below.drew ?_) | (with_reducible refine below_drewN ?_ _) | (with_reducible refine Below.setCell ?_ ?_ _) | (with_reducible refine Below.trans ?_ (Below.mono (by with_reducible assumption) ?_)) | (with_reducible exact Below.size (by with_reducible assumption)) | go_size))))).mono ?_; rw [HP.out]; rintro e w1 ⟨rfl, hb1⟩; obtain ⟨hc_hb1, hf_hb1⟩ := bcell hb1; obtain ⟨hcA_hb1, hfA_hb1⟩ := bcellG (W0 := w) hb1 (by (repeat' (first | (with_reducible exact Below.refl _ _) | (with_reducible assumption) | (with_reducible refine Below.alloc ?_ ?_ _) | (with_reducible refine Below.drew ?_) | (with_reducible refine below_drewN ?_ _) | (with_reducible refine Below.setCell ?_ ?_ _) | (with_reducible refine Below.trans ?_ (Below.mono (by with_reducible assumption) ?_)) | (with_reducible exact Below.size (by with_reducible assumption)) | go_size))); have hz_hb1 := hb1.size; (try simp at hz_hb1); (try simp only [Nat.add_one_le_iff] at hz_hb1); have hz0_hb1 : w.heap.size < w1.heap.size := (by omega)
      go_wp2_with fail
      refine (l01In_is s 0 15 false _ HI.out).mono ?_; rintro e w2 ⟨rfl, rfl⟩
      go_wp2_with fail
      go_ret
      exact ⟨rfl, by (repeat' (first | (with_reducible exact Below.refl _ _) | (with_reducible assumption) | (with_reducible refine Below.alloc ?_ ?_ _) | (with_reducible refine Below.drew ?_) | (with_reducible refine below_drewN ?_ _) | (with_reducible refine Below.setCell ?_ ?_ _) | (with_reducible refine Below.trans ?_ (Below.mono (by with_reducible assumption) ?_)) | (with_reducible exact Below.size (by with_reducible assumption)) | go_size))⟩
    · have HI := Lib.hid (show decide (0 ≤ s ∧ s ≤ 15) = true from decide_eq_true (by omega))
      clear h1 h2
      go_enter Try.func119, Try.ntmps119
      go_wp2_with fail
      refine (l01Is_any _ _ M Q _ (g1 _ (by (repeat' (first | (with_reducible exact Below.refl _ _) | (with_reducible assumption) | (with_reducible refine Below.alloc ?_ ?_ _) | (with_reducible refine Below.drew ?_) | (with_reducible refine below_drewN ?_ _) | (with_reducible refine Below.setCell ?_ ?_ _) | (with_reducible refine Below.trans ?_ (Below.mono (by with_reducible assumption) ?_)) | (with_reducible exact Below.size (by with_reducible assumption)) | go_size)))) (g2 _ (by (repeat' (first | (with_reducible exact Below.refl _ _) | (with_reducible assumption) | (with_reducible refine Below.alloc ?_ ?_ _) | (with_reducible refine Below.drew ?_) | (with_reducible refine below_drewN ?_ _) | (with_reducible refine Below.setCell ?_ ?_ _) | (with_reducible refine Below.trans ?_ (Below.mono (by with_reducible assumption) ?_)) | (with_reducible exact Below.size (by with_reducible assumption)) | go_size))))).mono ?_; rw [HP.out]; rintro e w1 ⟨rfl, hb1⟩; obtain ⟨hc_hb1, hf_hb1⟩ := bcell hb1; obtain ⟨hcA_hb1, hfA_hb1⟩ := bcellG (W0 := w) hb1 (by (repeat' (first | (with_reducible exact Below.refl _ _) | (with_reducible assumption) | (with_reducible refine Below.alloc ?_ ?_ _) | (with_reducible refine Below.drew ?_) | (with_reducible refine below_drewN ?_ _) | (with_reducible refine Below.setCell ?_ ?_ _) | (with_reducible refine Below.trans ?_ (Below.mono (by with_reducible assumption) ?_)) | (with_reducible exact Below.size (by with_reducible assumption)) | go_size))); have hz_hb1 := hb1.size; (try simp at hz_hb1); (try simp only [Nat.add_one_le_iff] at hz_hb1); have hz0_hb1 : w.heap.size < w1.heap.size := (by omega)
      go_wp2_with fail
      refine (l01In_is s 0 15 true _ HI.out).mono ?_; rintro e w2 ⟨rfl, rfl⟩
      go_wp2_with fail
      go_ret
      exact ⟨rfl, by (repeat' (first | (with_reducible exact Below.refl _ _) | (with_reducible assumption) | (with_reducible refine Below.alloc ?_ ?_ _) | (with_reducible refine Below.drew ?_) | (with_reducible refine below_drewN ?_ _) | (with_reducible refine Below.setCell ?_ ?_ _) | (with_reducible refine Below.trans ?_ (Below.mono (by with_reducible assumption) ?_)) | (with_reducible exact Below.size (by with_reducible assumption)) | go_size))⟩
  · simp only [Int.reducePow] at hcase
    rcases hcase with ⟨h1, rfl⟩ | ⟨h1, h2, rfl⟩
    · have HI := Lib.hid (show decide (0 ≤ s ∧ s ≤ 31) = false from decide_eq_false (by omega))
      clear h1
      go_enter Try.func119, Try.ntmps119
      go_wp2_with fail
      refine (l01Is_any _ _ M Q _ (g1 _ (by (repeat' (first | (with_reducible exact Below.refl _ _) | (with_reducible assumption) | (with_reducible refine Below.alloc ?_ ?_ _) | (with_reducible refine Below.drew ?_) | (with_reducible refine below_drewN ?_ _) | (with_reducible refine Below.setCell ?_ ?_ _) | (with_reducible refine Below.trans ?_ (Below.mono (by with_reducible assumption) ?_)) | (with_reducible exact Below.size (by with_reducible assumption)) | go_size)))) (g2 _ (by (repeat' (first | (with_reducible exact Below.refl _ _) | (with_reducible assumption) | (with_reducible refine Below.alloc ?_ ?_ _) | (with_reducible refine Below.drew ?_) | (with_reducible refine below_drewN ?_ _) | (with_reducible refine Below.setCell ?_ ?_ _) | (with_reducible refine Below.trans ?_ (Below.mono (by with_reducible assumption) ?_)) | (with_reducible exact Below.size (by with_reducible assumption)) | go_size))))).mono ?_; rw [HP.out]; rintro e w1 ⟨rfl, hb1⟩; obtain ⟨hc_hb1, hf_hb1⟩ := bcell hb1; obtain ⟨hcA_hb1, hfA_hb1⟩ := bcellG (W0 := w) hb1 (by (repeat' (first | (with_reducible exact Below.refl _ _) | (with_reducible assumption) | (with_reducible refine Below.alloc ?_ ?_ _) | (with_reducible refine Below.drew ?_) | (with_reducible refine below_drewN ?_ _) | (with_reducible refine Below.setCell ?_ ?_ _) | (with_reducible refine Below.trans ?_ (Below.mono (by with_reducible assumption) ?_)) | (with_reducible exact Below.size (by with_reducible assumption)) | go_size))); have hz_hb1 := hb1.size; (try simp at hz_hb1); (try simp only [Nat.add_one_le_iff] at hz_hb1); have hz0_hb1 : w.heap.size < w1.heap.size := (by omega)
      go_wp2_with fail
      refine (l01In_is s 0 31 false _ HI.out).mono ?_; rintro e w2 ⟨rfl, rfl⟩
      go_wp2_with fail
      go_ret
      exact ⟨rfl, by (repeat' (first | (with_reducible exact Below.refl _ _) | (with_reducible assumption) | (with_reducible refine Below.alloc ?_ ?_ _) | (with_reducible refine Below.drew ?_) | (with_reducible refine below_drewN ?_ _) | (with_reducible refine Below.setCell ?_ ?_ _) | (with_reducible refine Below.trans ?_ (Below.mono (by with_reducible assumption) ?_)) | (with_reducible exact Below.size (by with_reducible assumption)) | go_size))⟩
    · have HI := Lib.hid (show decide (0 ≤ s ∧ s ≤ 31) = true from decide_eq_true (by omega))
      clear h1 h2
      go_enter Try.func119, Try.ntmps119
      go_wp2_with fail
      refine (l01Is_any _ _ M Q _ (g1 _ (by (repeat' (first | (with_reducible exact Below.refl _ _) | (with_reducible assumption) | (with_reducible refine Below.alloc ?_ ?_ _) | (with_reducible refine Below.drew ?_) | (with_reducible refine below_drewN ?_ _) | (with_reducible refine Below.setCell ?_ ?_ _) | (with_reducible refine Below.trans ?_ (Below.mono (by with_reducible assumption) ?_)) | (with_reducible exact Below.size (by with_reducible assumption)) | go_size)))) (g2 _ (by (repeat' (first | (with_reducible exact Below.refl _ _) | (with_reducible assumption) | (with_reducible refine Below.alloc ?_ ?_ _) | (with_reducible refine Below.drew ?_) | (with_reducible refine below_drewN ?_ _) | (with_reducible refine Below.setCell ?_ ?_ _) | (with_reducible refine Below.trans ?_ (Below.mono (by with_reducible assumption) ?_)) | (with_reducible exact Below.size (by with_reducible assumption)) | go_size))))).mono ?_; rw [HP.out]; rintro e w1 ⟨rfl, hb1⟩; obtain ⟨hc_hb1, hf_hb1⟩ := bcell hb1; obtain ⟨hcA_hb1, hfA_hb1⟩ := bcellG (W0 := w) hb1 (by (repeat' (first | (with_reducible exact Below.refl _ _) | (with_reducible assumption) | (with_reducible refine Below.alloc ?_ ?_ _) | (with_reducible refine Below.drew ?_) | (with_reducible refine below_drewN ?_ _) | (with_reducible refine Below.setCell ?_ ?_ _) | (with_reducible refine Below.trans ?_ (Below.mono (by with_reducible assumption) ?_)) | (with_reducible exact Below.size (by with_reducible assumption)) | go_size))); have hz_hb1 := hb1.size; (try simp at hz_hb1); (try simp only [Nat.add_one_le_iff] at hz_hb1); have hz0_hb1 : w.heap.size < w1.heap.size := (by omega)
      go_wp2_with fail
      refine (l01In_is s 0 31 true _ HI.out).mono ?_; rintro e w2 ⟨rfl, rfl⟩
      go_wp2_with fail
      go_ret
      exact ⟨rfl, by (repeat' (first | (with_reducible exact Below.refl _ _) | (with_reducible assumption) | (with_reducible refine Below.alloc ?_ ?_ _) | (with_reducible refine Below.drew ?_) | (with_reducible refine below_drewN ?_ _) | (with_reducible refine Below.setCell ?_ ?_ _) | (with_reducible refine Below.trans ?_ (Below.mono (by with_reducible assumption) ?_)) | (with_reducible exact Below.size (by with_reducible assumption)) | go_size))⟩
end Go.Proofs.Ytgncaploccbfnaa.PW
namespace Go.Proofs.Ytgncaploccbfnaa.PW
open Go.RowKit Go.Shelf Go.Proofs.Ytgncaploccbfnaa
open Go.Proofs.Ytgncaploccbfnaa.PM
attribute [local go_sem] Oper.semAt_some

/-- Does a set have i? -/
def bit (s : Int) (i : Nat) : Bool := decide (bits BinOp.and IntKind.i64 (s / 2 ^ i) 1 = 1)
theorem bits_zero : bits BinOp.and IntKind.i64 0 1 = 0 := by decide +kernel
theorem div_high {s : Int} {k n : Nat} (h0 : 0 ≤ s) (h : s / 2 ^ k ≤ 0) (hk : k ≤ n) : s / 2 ^ n = 0 := by
  have hp : ∀ j : Nat, (0 : Int) < 2 ^ j := fun j => Int.pow_pos (by decide)
  have h1 : s < 2 ^ k := by
    by_cases c : s < 2 ^ k
    · exact c
    · have := Int.le_ediv_of_mul_le (hp k) (a := 1) (b := s) (by omega)
      omega
  have h2 : (2 : Int) ^ k ≤ 2 ^ n := by
    obtain ⟨d, rfl⟩ := Nat.exists_eq_add_of_le hk
    rw [Int.pow_add]
    have := Int.mul_le_mul_of_nonneg_left (show (1 : Int) ≤ 2 ^ d by have := hp d; omega) (Int.le_of_lt (hp k))
    omega
  exact Int.ediv_eq_zero_of_lt h0 (by omega)
theorem bit_high {s : Int} {k n : Nat} (h0 : 0 ≤ s) (h : s / 2 ^ k ≤ 0) (hk : k ≤ n) : bit s n = false := by
  unfold bit
  rw [div_high h0 h hk, bits_zero]
  rfl
theorem div_small {s : Int} {n : Nat} (h0 : 0 ≤ s) (h : s < 2 ^ n) : s / 2 ^ n ≤ 0 := by rw [Int.ediv_eq_zero_of_lt h0 h]; exact Int.le_refl _
/-- The members below k. -/
def memTo (n : Nat) (s : Int) : Nat → List (Fin n)
  | 0 => []
  | k + 1 => memTo n s k ++ (if h : k < n then (if bit s k then [⟨k, h⟩] else []) else [])
theorem memTo_yes {n : Nat} {s : Int} {k : Nat} (h : k < n) (hb : bit s k = true) : memTo n s (k + 1) = memTo n s k ++ [⟨k, h⟩] := by
  rw [memTo, dif_pos h, if_pos hb]
theorem memTo_no {n : Nat} {s : Int} {k : Nat} (hb : bit s k = false) : memTo n s (k + 1) = memTo n s k := by
  rw [memTo]
  by_cases h : k < n
  · rw [dif_pos h, if_neg (by simp [hb]), List.append_nil]
  · rw [dif_neg h, List.append_nil]
theorem memTo_length (n : Nat) (s : Int) (k : Nat) : (memTo n s k).length ≤ k := by
  induction k with
  | zero => simp [memTo]
  | succ k ih =>
    rw [memTo]
    split
    · split <;> simp <;> omega
    · simp; omega
theorem memTo_prefix (n : Nat) (s : Int) (k d : Nat) : memTo n s k <+: memTo n s (k + d) := by
  induction d with
  | zero => exact List.prefix_refl _
  | succ d ih => exact ih.trans ⟨_, rfl⟩

theorem memTo_high {n : Nat} {s : Int} {k : Nat} (h0 : 0 ≤ s) (h : s / 2 ^ k ≤ 0) (d : Nat) : memTo n s (k + d) = memTo n s k := by
  induction d with
  | zero => rfl
  | succ d ih => rw [Nat.add_succ, memTo_no (bit_high h0 h (by omega)), ih]
/-- A block is as it was. -/
def KB (b : Nat) (W W' : World) : Prop := W'.heap[b]? = W.heap[b]?
theorem KB.refl (b : Nat) (W : World) : KB b W W := rfl
theorem KB.trans {b : Nat} {A B C : World} (h : KB b A B) (k : KB b B C) : KB b A C := Eq.trans k h
theorem KB.cell {b : Nat} {W W' : World} (h : KB b W W') (o : Nat) : W'.cell? ⟨b, o, none⟩ = W.cell? ⟨b, o, none⟩ := World.cell?_of_block (w := W) (a := ⟨b, o, none⟩) h
theorem KB.put {b : Nat} {w : World} (hb : b < w.heap.size) (W : World) (l : Nat) (o o' : Obj) (h : w.heap.size ≤ l) (_ : W.heap[l]? = some o) (_ : o.isCells = false) (_ : o.isWalk = false) : KB b W (W.putObj l o') := by
  show (W.heap.setIfInBounds l o')[b]? = W.heap[b]?
  rw [Array.getElem?_setIfInBounds_ne (by omega)]

theorem membersOf_in (s : Int) (w : World) :
    CallsIn Fence.wide 7 Try.prog 78 #[.int .i64 s] w fun e w' => e = .returned (.func (.func 122) #[] #[.pointer (some ⟨w.heap.size, 0, none⟩)]) ∧ w' = w.alloc (.cells #[.int .i64 s] 2) := by
  refine callsIn_of_wp Try.func78 rfl trivial ?_ rfl
  simp only [Try.ntmps78, List.size_toArray, List.length_cons, List.length_nil, Nat.reduceAdd, Nat.reduceSub, Array.replicate_succ, Array.replicate_zero, List.push_toArray, List.append_toArray, List.nil_append, List.cons_append]
  gi_wp2
  go_ret
  exact ⟨rfl, rfl⟩

set_option maxRecDepth 100000 in
set_option maxHeartbeats 1000000 in
theorem members1_in (n : Nat) (hn5 : n ≤ 5) (s : Int) (h0s : 0 ≤ s) (hsn : s < 2 ^ n) (l Bs N : Nat) (J Jx : List (Fin n) → World → Prop) (hN : n ≤ N)
    (hY : ∀ pre x W, J pre W → pre.length < N → YieldAt Fence.wide 6 Try.prog l #[.int .i64 ((x : Fin n).val : Int)] W fun e W' =>
      (e = .returned (.bool true) ∧ J (pre ++ [x]) W' ∧ KB Bs W W') ∨ (e = .returned (.bool false) ∧ Jx (pre ++ [x]) W'))
    (W : World) (hcell : W.cell? ⟨Bs, 0, none⟩ = some (.int .i64 s)) (h0 : J [] W) :
    CallsIn Fence.wide 7 Try.prog 122 #[.func (.yield l) #[] #[], .pointer (some ⟨Bs, 0, none⟩)] W fun e W' => (∃ v, e = .returned v) ∧
      ((∃ ys, ys = memTo n s n ∧ J ys W') ∨ (∃ pre, pre <+: memTo n s n ∧ Jx pre W')) := by
  refine callsIn_of_wp Try.func122 rfl trivial ?_ rfl
  simp only [Try.ntmps122, List.size_toArray, List.length_cons, List.length_nil, Nat.reduceAdd, Nat.reduceSub, Array.replicate_succ, Array.replicate_zero, List.push_toArray, List.append_toArray, List.nil_append, List.cons_append]
  gi_wp2
  gi_loopw [3] (fun i wr => ∃ k : Nat, k ≤ n ∧ i = .int .i64 k ∧ J (memTo n s k) wr ∧ KB Bs W wr)
    (fun i _ => n - (intOf i).toNat)
  case atStart => exact ⟨0, Nat.zero_le _, rfl, h0, KB.refl _ _⟩
  case round =>
    obtain ⟨k, hk, rfl, hJs, hnx⟩ := hrel
    have hcx : wr.cell? ⟨Bs, 0, none⟩ = some (.int .i64 s) := (hnx.cell 0).trans hcell
    have hlen := memTo_length n s k
    by_cases hpos : 0 < s / 2 ^ k
    · have hkn : k < n := by
        rcases Nat.lt_or_ge k n with c | c
        · exact c
        · have := div_high h0s (div_small h0s hsn) c; omega
      by_cases hb : bits BinOp.and IntKind.i64 (s / 2 ^ k) 1 = 1
      · obtain ⟨fn, tmps, assign, body, hy, hR⟩ := hY _ ⟨k, hkn⟩ wr hJs (by omega)
        have hst : Hid (memTo n s (k + 1) = memTo n s k ++ [⟨k, hkn⟩]) := memTo_yes hkn (by unfold bit; exact decide_eq_true hb)
        dsimp only at hy
        gi_wp2
        refine hR.mono ?_
        rintro e W3 (⟨rfl, hJ3, hk3⟩ | ⟨rfl, hJx3⟩)
        · gi_wp2
          go_roundw
          case rel => exact ⟨k + 1, by omega, by go_num, by rw [hst.out]; exact hJ3, hnx.trans hk3⟩
          case measure => simp [intOf]; omega
        · gi_wp2
          refine bodyPost_ret (results_none rfl _ _ _) rfl ?_
          refine ⟨⟨_, rfl⟩, .inr ⟨_, ?_, hJx3⟩⟩
          rw [← hst.out]
          have := memTo_prefix n s (k + 1) (n - (k + 1))
          rwa [show k + 1 + (n - (k + 1)) = n by omega] at this
      · have hst : Hid (memTo n s (k + 1) = memTo n s k) := memTo_no (by unfold bit; exact decide_eq_false hb)
        gi_wp2
        refine ⟨fun _ h => (by cases h), ?_⟩
        gi_wp2
        go_roundw
        case rel => exact ⟨k + 1, by omega, by go_num, by rw [hst.out]; exact hJs, hnx⟩
        case measure => simp [intOf]; omega
    · have hst : Hid (memTo n s n = memTo n s k) := by
        have := memTo_high (n := n) (k := k) h0s (by omega) (n - k)
        rwa [show k + (n - k) = n by omega] at this
      have hneg : s / 2 ^ k ≤ 0 := by omega
      clear hpos
      gi_wp2
      go_end0
      exact ⟨⟨_, rfl⟩, .inl ⟨_, rfl, by rw [hst.out]; exact hJs⟩⟩

theorem members_stops (n : Nat) (hn5 : n ≤ 5) (s : Int) (h0s : 0 ≤ s) (hsn : s < 2 ^ n) (Bs : Nat) (w : World) (hBs : Bs < w.heap.size) (hc : w.cell? ⟨Bs, 0, none⟩ = some (.int .i64 s)) :
    SeqStopsK Fence.wide 7 Try.prog 122 #[.pointer (some ⟨Bs, 0, none⟩)] (fun x : Fin n => #[Value.int .i64 (x.val : Int)]) (KB Bs) (fun ys => ys = memTo n s n) (fun pre => pre <+: memTo n s n) n w := fun l J Jx W hW _ _ hY h0 => by
  have hc' := (hW.cell (p := ⟨Bs, 0, none⟩) hBs).trans hc
  exact members1_in n hn5 s h0s hsn l Bs n J Jx (Nat.le_refl _) hY W hc' h0
end Go.Proofs.Ytgncaploccbfnaa.PW
namespace Go.Proofs.Ytgncaploccbfnaa.PR
open Go

variable {P : Program} {ops : Array Oper} {md : Region.Mode} {w : World}

def isDefer : Op → Bool
  | .defer _ => true
  | _ => false
def noDefer (ops : Array Oper) : Bool := ops.all fun o => !isDefer o.op
theorem noDefer_spec (h : noDefer ops = true) {i : Nat} {o : Oper} (ho : ops[i]? = some o) : ∀ c, o.op ≠ .defer c := by
  intro c hc
  have h1 := (Array.all_eq_true.1 h) i (by rcases Nat.lt_or_ge i ops.size with h' | h'; exact h'; rw [Array.getElem?_eq_none h'] at ho; cases ho)
  have h2 : i < ops.size := by rcases Nat.lt_or_ge i ops.size with h' | h'; exact h'; rw [Array.getElem?_eq_none h'] at ho; cases ho
  rw [Array.getElem?_eq_getElem h2] at ho
  simp only [Option.some.injEq] at ho
  rw [ho, hc] at h1
  simp [isDefer] at h1

theorem opIn_of_still {r n : Nat} {o : Oper} {a : Act} {K : Act → Prop} {K' : Act → World → Prop} {Q : Exit → Act → World → Prop} (hd : ∀ c, o.op ≠ .defer c) (h : ∀ a, K a → K' a w) (hh : o.still P a w K) :
    o.wpIn (Fence.wide.inRound r) n P a w K' Q := by
  refine ⟨fun _ _ => trivial, ?_⟩
  show o.uponIn _ n P a K' Q ((o.semAt (some r) a.eval).run P w)
  rw [Oper.semAt_some r _ _ hd]
  unfold Oper.still at hh
  generalize (execOp a.eval o).run P w = res at *
  cases res with
  | ok x w' =>
    cases x with
    | value v => obtain ⟨rfl, hK⟩ := hh; exact h _ hK
    | skip => obtain ⟨rfl, hK⟩ := hh; exact h _ hK
    | enter f args =>
      obtain ⟨rfl, v, hc, hK⟩ := hh
      refine ⟨(fun c => (by cases c)), (CallsIn.inRound r (callsIn_wide.2 hc)).mono ?_⟩
      rintro e w'' ⟨rfl, rfl⟩
      exact h _ hK
    | _ => exact hh.elim
  | halt x w' => exact hh.elim

theorem wpOpIn_of_stOp {r n i : Nat} {a : Act} {K : Act → Prop} {K' : Act → World → Prop} {Q : Exit → Act → World → Prop} (hnd : noDefer ops = true) (h : ∀ a, K a → K' a w) (hh : stOp P ops w i K a) :
    wpOpIn (Fence.wide.inRound r) n P ops Q i K' a w := by
  unfold stOp at hh
  unfold wpOpIn
  split
  · rename_i ho; simp only [ho] at hh; exact h _ hh
  · rename_i o ho
    simp only [ho] at hh
    split
    · rename_i hw; simp only [hw, if_true] at hh; exact opIn_of_still (noDefer_spec hnd ho) h hh
    · rename_i hw; simp only [hw] at hh; exact ⟨fun _ _ => trivial, h _ hh⟩

theorem wpAnyIn_of_head {r m n g : Nat} {L : Array Bool → Act → Prop} {Q : Exit → Act → World → Prop} (hnd : noDefer ops = true) (hL : ∀ listed a, L listed a → wpAnyIn (Fence.wide.inRound r) m P md ops Q g listed a w) :
    ∀ (f : Nat) (listed : Array Bool) (a : Act), wpAnyL P md ops w n L f listed a → wpAnyIn (Fence.wide.inRound r) m P md ops Q (f + g) listed a w
  | 0, listed, a, h => by rw [Nat.zero_add]; exact hL _ _ h
  | f + 1, listed, a, h => by
    rw [show f + 1 + g = (f + g) + 1 by omega]
    exact ⟨fun h0 => absurd h0 h.1, fun i hi => wpOpIn_of_stOp hnd (fun a' h' => wpAnyIn_of_head hnd hL f _ a' h') (h.2 i hi).2⟩

theorem wpAnyIn_of_seq {F : Fence} {n : Nat} {Q : Exit → Act → World → Prop} : ∀ (l : List Oper) (k : Nat) (listed : Array Bool) (a : Act) (w : World), (∀ j, l[j]? = ops[k + j]?) →
    Region.seqB md ops l.length k listed = true → wpListIn F n P ops Q l a w → wpAnyIn F n P md ops Q l.length listed a w
  | [], _, _, _, _, _, hB, h => ⟨by simpa [Region.seqB] using hB, h⟩
  | o :: l, k, listed, a, w, hl, hB, h => by
    have h0 : ops[k]? = some o := by simpa using (hl 0).symm
    simp only [List.length_cons, Region.seqB, Bool.and_eq_true, decide_eq_true_eq] at hB
    refine ⟨fun h1 => (by rw [hB.1] at h1; cases h1), fun i hi => ?_⟩
    rw [hB.1] at hi
    have hik : i = k := by simpa using hi
    subst hik
    have hw : wpOpIn F n P ops Q i (wpListIn F n P ops Q l) a w := by unfold wpOpIn; simp only [h0]; exact h
    exact wpOpIn_mono (fun a' w' h' => wpAnyIn_of_seq l (i + 1) _ a' w' (fun j => by have := hl (j + 1); simpa [Nat.add_assoc, Nat.add_comm 1 j] using this) hB.2 h') hw

theorem wpIn_region_still_tail {id r m : Nat} {Q : Exit → Act → World → Prop} {a : Act} {w : World} {l : List Oper} (n : Nat) (hm : P.follows .mixedOrders = true) (hB : Region.lexTailB .any l.toArray n = true) (hnd : noDefer l.toArray = true)
    (h : wpStill P l.toArray w.drew (fun a' => wpListIn (Fence.wide.inRound r) m P l.toArray Q (l.drop n) a' w.drew) (l.take n) a) : (Code.region id l.toArray true).wpIn (Fence.wide.inRound r) m P Q a w := by
  simp only [Region.lexTailB, Bool.and_eq_true, decide_eq_true_eq] at hB
  obtain ⟨⟨⟨⟨hsel, hn⟩, hs⟩, hc⟩, hlex⟩ := hB
  have hn' : n < l.length := by simpa using hn
  have htl : (l.take n).length = n := by simp; omega
  have hdl : (l.drop n).length = l.toArray.size - n := by simp
  have inv0 : HeadInv .any l.toArray n (Array.replicate l.toArray.size false) :=
    ⟨by simp, fun j oj _ hl => (by rw [getD_replicate_false] at hl; cases hl), fun t _ ht => getD_in (by simpa using ht) (getD_replicate_false _ _)⟩
  have H := wpAnyL_lex (md := .any) (g := l.toArray.size - n) hsel hs hc hn (l.take n) 0 _ a (fun j hj => by
    have hj' : j < n := by rw [htl] at hj; exact hj
    simp [hj']) (by simpa using htl) inv0 (by rw [htl]; exact hlex) h
  refine wpIn_region_any hm ?_
  have := wpAnyIn_of_head (r := r) (m := m) (Q := Q) (g := l.toArray.size - n) hnd (fun listed a' hL => by
    have := wpAnyIn_of_seq (F := Fence.wide.inRound r) (n := m) (md := .any) (Q := Q) (l.drop n) n listed a' w.drew (fun j => by simp [List.getElem?_drop]) (by rw [hdl]; exact hL.1) hL.2
    rwa [hdl] at this) _ _ _ H
  rw [htl, show n + (l.toArray.size - n) = l.toArray.size by omega] at this
  exact this
end Go.Proofs.Ytgncaploccbfnaa.PR
namespace Go.Proofs.Ytgncaploccbfnaa.PW
open Go.RowKit Go.Shelf Go.Proofs.Ytgncaploccbfnaa
open Go.Proofs.Ytgncaploccbfnaa.PM
attribute [local go_sem] Oper.semAt_some

/-- Whatever is cells lies as it lay. -/
structure KC (W W' : World) : Prop where
  size : W.heap.size ≤ W'.heap.size
  same : ∀ (b : Nat) (c : Array Value) (t : TypeId) (f : Nat × Nat), W.heap[b]? = some (Obj.cells c t f) → W'.heap[b]? = some (Obj.cells c t f)
theorem KC.of {W W' : World} {row : Option Nat} (hg : W.grownBy W' row) (hr : ∀ r, row = some r → ∃ o : Obj, W.heap[r]? = some o ∧ o.isCells = false) : KC W W' := by
  refine ⟨hg.size, fun b c t f h => ?_⟩
  have hlt : b < W.heap.size := (Array.getElem?_eq_some_iff.1 h).1
  refine (hg.block b hlt (fun e => ?_)).trans h
  obtain ⟨o, ho, hc⟩ := hr b e.symm
  rw [h] at ho
  cases ho
  cases hc
theorem KC.own {W W' : World} (h : KC W W') {B T n : Nat} {v : Value} {xs : List Value} (ho : W.ownsRow B T 1 v n xs) : W'.ownsRow B T 1 v n xs := by
  refine ⟨ho.1, ?_⟩
  rcases ho.2 with h2 | ⟨g, cap, cur, hv, hb, hg, r⟩
  · exact .inl h2
  · exact .inr ⟨g, cap, cur, hv, hb, h.same _ _ _ _ hg, r⟩
theorem KC.fresh {W W' : World} (h : KC W W') {B : Nat} {v : Value} {xss : List (List Int)} {us : List Value} (hf : FreshR B W v xss us) : FreshR B W' v xss us := by
  obtain ⟨⟨h1, h2, h3, h4, h5⟩, ⟨g, cap, hv, hB, hlt⟩, h6⟩ := hf
  exact ⟨⟨h1, h.own h2, fun i hi => h.own (h3 i hi), h4, h5⟩, ⟨g, cap, hv, hB, Nat.lt_of_lt_of_le hlt h.size⟩, fun i b hi hb => ⟨(h6 i b hi hb).1, Nat.lt_of_lt_of_le (h6 i b hi hb).2 h.size⟩⟩

/-- The columns of those that have come. -/
def colG (M : List (List Int)) (pre : List Nat) (a b : Nat) : Int := if b ∈ pre then - ent M a b else unitG a b
def colK (M : List (List Int)) (pre : List Nat) (i k : Nat) (a b : Nat) : Int := if b = i ∧ a < k then - ent M a b else colG M pre a b

/-- While the columns are written. -/
structure Cl (w W : World) (Br g n : Nat) (m q : Value) (f : Nat → Nat → Int) (us : List Value) : Prop where
  rows : FreshR (w.heap.size + 1) W (.slice (some ⟨g, 0, none⟩) n n) (tab n f) us
  box : Boxed W Br 22 (.slice (some ⟨g, 0, none⟩) n n)
  pb : W.heap[w.heap.size]? = some (.cells #[m, q] 27 (0, 0))
  below : Below w.heap.size w W
theorem Cl.kc {w W W' : World} {Br g n : Nat} {m q : Value} {f : Nat → Nat → Int} {us : List Value} (h : Cl w W Br g n m q f us) (k : KC W W') (hb : Below w.heap.size w W') : Cl w W' Br g n m q f us :=
  ⟨k.fresh h.rows, k.same _ _ _ _ h.box, k.same _ _ _ _ h.pb, hb⟩
theorem Cl.own {w : World} {Br g n B : Nat} {m q : Value} {us : List Value} {β : Type} (F : β → Nat → Nat → Int) (hB : w.heap.size ≤ B) : OwnFrom B (fun (s : β) W => Cl w W Br g n m q (F s) us) := by
  intro s W W' row h hg hr
  refine h.kc (KC.of hg (fun r e => (hr r e).2)) (ownFrom_below (β := Unit) (Nat.le_refl _) hB () W W' row h.below hg hr)

theorem own_cellN {w : World} {g cap n : Nat} {xs : List Int} (h : OwnI w (.slice (some ⟨g, 0, none⟩) n cap) xs) (hn : n = xs.length) {j : Nat} (hj : j < n) : w.cell? ⟨g, j, none⟩ = some (.int .i64 (xs.getD j 0)) := by
  subst hn
  exact own_cell h hj
theorem own_frozenN {w : World} {g cap n : Nat} {xs : List Int} (h : OwnI w (.slice (some ⟨g, 0, none⟩) n cap) xs) (hn : n = xs.length) (j : Nat) : w.frozen? ⟨g, j, none⟩ = false := by
  subst hn
  exact own_frozen h j
theorem tab_congr {n : Nat} {f g : Nat → Nat → Int} (h : ∀ a b, a < n → b < n → f a b = g a b) : tab n f = tab n g := by
  unfold tab
  apply List.map_congr_left
  intro a ha
  apply List.map_congr_left
  intro b hb
  exact h a b (by simpa using ha) (by simpa using hb)
/-- The k-th number of the column i is written. -/
def stepK (M : List (List Int)) (f : Nat → Nat → Int) (i k : Nat) (a b : Nat) : Int := if b = i ∧ a < k then - ent M a b else f a b
theorem stepK_zero (M : List (List Int)) (n : Nat) (f : Nat → Nat → Int) (i : Nat) : tab n (stepK M f i 0) = tab n f := tab_congr (fun a b _ _ => by unfold stepK; rw [if_neg (by omega)])
theorem stepK_all (M : List (List Int)) (n : Nat) (pre : List Nat) (i : Nat) : tab n (stepK M (colG M pre) i n) = tab n (colG M (pre ++ [i])) := tab_congr (fun a b ha _ => by
  unfold stepK colG
  by_cases e : b = i
  · rw [if_pos ⟨e, ha⟩, if_pos (by simp [e])]
  · rw [if_neg (fun c => e c.1)]
    by_cases e2 : b ∈ pre
    · rw [if_pos e2, if_pos (by simp [e2])]
    · rw [if_neg e2, if_neg (by simp [e, e2])])
theorem Cl.setRow {w W : World} {Br g n gr cr i k : Nat} {m q : Value} {M : List (List Int)} {f : Nat → Nat → Int} {us : List Value} (h : Cl w W Br g n m q (stepK M f i k) us) (hk : k < n) (hu : us.getD k undef = .slice (some ⟨gr, 0, none⟩) n cr) :
    Cl w (W.setCell ⟨gr, i, none⟩ (.int .i64 (- ent M k i))) Br g n m q (stepK M f i (k + 1)) us := by
  have hl : (tab n (stepK M f i k)).length = n := tab_length _ _
  have hgr := (h.rows.rows k gr (by omega) (by rw [hu]; rfl)).1
  have hro := h.rows.own.rows k (by omega)
  rw [hu] at hro
  have hne : some Br ≠ some gr := Boxed.not_row h.box (by decide) hro
  have h1 := h.rows.setRow (i := k) (by omega) hu i (- ent M k i)
  rw [tab_set _ _ _ _ _ hk] at h1
  refine ⟨?_, ?_, ?_, h.below.setCell (by simp; omega) _⟩
  · have e : tab n (fun a b => if a = k ∧ b = i then - ent M k i else stepK M f i k a b) = tab n (stepK M f i (k + 1)) := tab_congr (fun a b _ _ => by
      unfold stepK
      by_cases e1 : a = k ∧ b = i
      · rw [if_pos e1, if_pos ⟨e1.2, by omega⟩, e1.1, e1.2]
      · rw [if_neg e1]
        by_cases e2 : b = i ∧ a < k
        · rw [if_pos e2, if_pos ⟨e2.1, by omega⟩]
        · rw [if_neg e2, if_neg (fun c => by omega)])
    rw [e] at h1
    exact h1
  · exact (Below.heap_setCell _ _ _ _ (fun c => hne (by rw [c]))).trans h.box
  · exact (Below.heap_setCell _ _ _ _ (by show w.heap.size ≠ gr; omega)).trans h.pb
theorem Cl.drew {w W : World} {Br g n : Nat} {m q : Value} {f : Nat → Nat → Int} {us : List Value} (h : Cl w W Br g n m q f us) : Cl w W.drew Br g n m q f us :=
  ⟨h.rows.below (Below.refl _ _).drew, h.box, h.pb, h.below.drew⟩

set_option maxRecDepth 100000 in
set_option maxHeartbeats 1000000 in
theorem columnsOf_ok (a1 : Option Addr) (cM : Nat) (q : Value) (M : List (List Int)) (Q : List Int) (s : Int) (w : World) (h1 : PM.Rows w (.slice a1 M.length cM) M) (h2 : Ints w q Q) (hc : setCode M Q s = 0) (hn1 : 1 ≤ M.length) (hn5 : M.length ≤ 5) (hrl : ∀ j, j < M.length → (M.getD j []).length = M.length) (hme : ∀ j c, j < M.length → c < M.length → -20 ≤ ent M j c ∧ ent M j c ≤ 20) (hs0 : 0 ≤ s) (hs1 : s < 2 ^ M.length) :
    CallsIn Fence.wide 8 Try.prog 23 #[.agg #[.slice a1 M.length cM, q], .int .i64 s] w fun e w' => ∃ g us, e = .returned (.tuple #[.slice (some ⟨g, 0, none⟩) M.length M.length, .int .i64 0]) ∧
      FreshR w.heap.size w' (.slice (some ⟨g, 0, none⟩) M.length M.length) (tab M.length (colG M ((memTo M.length s M.length).map Fin.val))) us ∧ Below w.heap.size w w' := by
  have g1 := fun (w' : World) (h : Below w.heap.size w w') => h1.below h
  have g2 := fun (w' : World) (h : Below w.heap.size w w') => h2.below h
  obtain ⟨a2, c2, rfl, _⟩ := h2
  have HC := Lib.hid hc
  have HRL := Lib.hid hrl
  have hmx : Try.prog.follows .mixedOrders = true := by kernel_rfl
  have HME := Lib.hid hme
  clear hc hrl hme
  refine callsIn_of_wp_marks Try.func23 rfl trivial ?_ rfl
  simp only [Try.ntmps23, List.size_toArray, List.length_cons, List.length_nil, Nat.reduceAdd, Nat.reduceSub, Array.replicate_succ, Array.replicate_zero, List.push_toArray, List.append_toArray, List.nil_append, List.cons_append]
  gi_wp2_with fail
  refine ⟨trivial, ?_⟩
  gi_at_call 76
  refine (callsIn_wide.2 (checkSet_any _ _ M Q s _ (g1 _ (by (repeat' (first | (with_reducible exact Below.refl _ _) | (with_reducible assumption) | (with_reducible refine Below.alloc ?_ ?_ _) | (with_reducible refine Below.drew ?_) | (with_reducible refine below_drewN ?_ _) | (with_reducible refine Below.setCell ?_ ?_ _) | (with_reducible refine Below.trans ?_ (Below.mono (by with_reducible assumption) ?_)) | (with_reducible exact Below.size (by with_reducible assumption)) | go_size)))) (g2 _ (by (repeat' (first | (with_reducible exact Below.refl _ _) | (with_reducible assumption) | (with_reducible refine Below.alloc ?_ ?_ _) | (with_reducible refine Below.drew ?_) | (with_reducible refine below_drewN ?_ _) | (with_reducible refine Below.setCell ?_ ?_ _) | (with_reducible refine Below.trans ?_ (Below.mono (by with_reducible assumption) ?_)) | (with_reducible exact Below.size (by with_reducible assumption)) | go_size)))))).mono ?_
  rw [HC.out]; rintro e w1 ⟨rfl, hb1⟩; obtain ⟨hc_hb1, hf_hb1⟩ := bcell hb1; obtain ⟨hcA_hb1, hfA_hb1⟩ := bcellG (W0 := w) hb1 (by (repeat' (first | (with_reducible exact Below.refl _ _) | (with_reducible assumption) | (with_reducible refine Below.alloc ?_ ?_ _) | (with_reducible refine Below.drew ?_) | (with_reducible refine below_drewN ?_ _) | (with_reducible refine Below.setCell ?_ ?_ _) | (with_reducible refine Below.trans ?_ (Below.mono (by with_reducible assumption) ?_)) | (with_reducible exact Below.size (by with_reducible assumption)) | go_size))); have hz_hb1 := hb1.size; (try simp at hz_hb1); (try simp only [Nat.add_one_le_iff] at hz_hb1); have hz0_hb1 : w.heap.size < w1.heap.size := (by omega)
  have hw1 : Below w.heap.size w w1 := by (repeat' (first | (with_reducible exact Below.refl _ _) | (with_reducible assumption) | (with_reducible refine Below.alloc ?_ ?_ _) | (with_reducible refine Below.drew ?_) | (with_reducible refine below_drewN ?_ _) | (with_reducible refine Below.setCell ?_ ?_ _) | (with_reducible refine Below.trans ?_ (Below.mono (by with_reducible assumption) ?_)) | (with_reducible exact Below.size (by with_reducible assumption)) | go_size))
  have p1 : w1.heap[w.heap.size]? = some (.cells #[.slice a1 M.length cM, .slice a2 Q.length c2] 27 (0, 0)) := (hb1.block _ (by simp)).trans (heap_alloc_new w _)
  gi_wp2_with fail
  refine ⟨trivial, ?_⟩
  gi_at_call 77
  refine (callsIn_wide.2 (unitRows_any M.length hn1 hn5 _)).mono ?_
  rintro e w2 ⟨us, rfl, hf2, hb2⟩; obtain ⟨hc_hb2, hf_hb2⟩ := bcell hb2; obtain ⟨hcA_hb2, hfA_hb2⟩ := bcellG (W0 := w1) hb2 (by (repeat' (first | (with_reducible exact Below.refl _ _) | (with_reducible assumption) | (with_reducible refine Below.alloc ?_ ?_ _) | (with_reducible refine Below.drew ?_) | (with_reducible refine below_drewN ?_ _) | (with_reducible refine Below.setCell ?_ ?_ _) | (with_reducible refine Below.trans ?_ (Below.mono (by with_reducible assumption) ?_)) | (with_reducible exact Below.size (by with_reducible assumption)) | go_size))); have hz_hb2 := hb2.size; (try simp at hz_hb2); (try simp only [Nat.add_one_le_iff] at hz_hb2); have hz0_hb2 : w.heap.size < w2.heap.size := (by omega)
  have hw2 : Below w.heap.size w w2 := hw1.trans (hb2.mono hw1.size)
  have p2 := (hb2.block _ hz0_hb1).trans p1
  have HF2 := Lib.hid (hf2.mono (C := w.heap.size + 1) (by omega))
  have P2 := Lib.hid p2
  clear hf2 p1 p2
  gi_wp2_with fail
  refine ⟨trivial, ?_⟩
  gi_at_call 78
  refine (membersOf_in s _).mono ?_
  rintro e w3 ⟨rfl, rfl⟩
  gi_wp2_with fail
  have hz12 : w1.heap.size < w2.heap.size := by obtain ⟨g, c, hv, _, h2⟩ := HF2.out.top; simp only [Value.slice.injEq, Option.some.injEq, Addr.mk.injEq] at hv; omega
  have hn : M.length ≤ 5 := hn5
  obtain ⟨W0, hW0⟩ : ∃ W0, W0 = ((w2.alloc (.cells #[.slice (some ⟨w1.heap.size, 0, none⟩) M.length M.length] 22)).alloc (.cells #[.int .i64 s] 2)) := ⟨_, rfl⟩
  have hB0 : Below w2.heap.size w2 W0 := by rw [hW0]; (repeat' (first | (with_reducible exact Below.refl _ _) | (with_reducible assumption) | (with_reducible refine Below.alloc ?_ ?_ _) | (with_reducible refine Below.drew ?_) | (with_reducible refine below_drewN ?_ _) | (with_reducible refine Below.setCell ?_ ?_ _) | (with_reducible refine Below.trans ?_ (Below.mono (by with_reducible assumption) ?_)) | (with_reducible exact Below.size (by with_reducible assumption)) | go_size))
  have hC0 : Cl w W0 w2.heap.size w1.heap.size M.length (.slice a1 M.length cM) (.slice a2 Q.length c2) (colG M []) us := by
    refine ⟨HF2.out.below hB0, ?_, (hB0.block w.heap.size (by omega)).trans P2.out, hw2.trans (hB0.mono hw2.size)⟩
    rw [hW0]
    exact (Boxed.new w2 _ _).alloc _
  have hs : W0.cell? ⟨w2.heap.size + 1, 0, none⟩ = some (.int .i64 s) := by rw [hW0]; simp
  have hz0 : w2.heap.size + 2 = W0.heap.size := by rw [hW0]; simp
  rw [← hW0]
  clear hW0
  refine wpIn_rangeFunc_ownF (α := Fin M.length) rfl (by omega) (gf := 122) (lb := #[.pointer (some ⟨w2.heap.size + 1, 0, none⟩)]) rfl trivial (enters_of Try.func122 (by kernel_rfl) rfl)
    (members_stops M.length hn5 s hs0 hs1 (w2.heap.size + 1) W0 (by omega) hs) (fun h k => KB.trans h k) (KB.put (by omega)) (Below.refl _ _) (fun _ => rfl)
    (fun (pre : List (Fin M.length)) W => Cl w W w2.heap.size w1.heap.size M.length (.slice a1 M.length cM) (.slice a2 Q.length c2) (colG M (pre.map Fin.val)) us)
    (fun _ _ _ => False)
    (Cl.own (fun (pre : List (Fin M.length)) => colG M (pre.map Fin.val)) (by omega))
    (fun _ _ _ _ _ h _ _ => h)
    hC0 ?a1 ?assign ?body ?done ?stop
  case assign =>
    intro l x W K hK
    gi_wp2
    exact hK
  case body =>
    rintro l pre x W hCl hlt
    obtain ⟨i, hi⟩ := x
    have c1 := hCl.box.cell
    obtain ⟨f, hf⟩ : ∃ f, f = colG M (pre.map Fin.val) := ⟨_, rfl⟩
    rw [← hf] at hCl
    have HCL := Lib.hid hCl
    have HF := Lib.hid hf
    clear hCl hf
    gi_wp2
    gi_loopw [9, 25] (fun _ j wr => ∃ k : Nat, k ≤ M.length ∧ j = .int .i64 k ∧ Cl w wr w2.heap.size w1.heap.size M.length (.slice a1 M.length cM) (.slice a2 Q.length c2) (stepK M f i k) us ∧ KeepsOthers W wr ∧ KB (w2.heap.size + 1) W wr)
      (fun _ j _ => M.length - (intOf j).toNat)
    case atStart => exact ⟨0, Nat.zero_le _, rfl, ⟨by rw [stepK_zero]; exact HCL.out.rows, HCL.out.box, HCL.out.pb, HCL.out.below⟩, KeepsOthers.refl _, KB.refl _ _⟩
    case round =>
      obtain ⟨k, hk, rfl, hR, hKO, hKB⟩ := hrel
      by_cases hlt2 : k < M.length
      · have c1 := hR.box.cell
        have c2 : wr.cell? ⟨w.heap.size, 0, none⟩ = some (.slice a1 M.length cM) := by simp [World.cell?, hR.pb]
        obtain ⟨_, _, hsh, _, _, hx⟩ := g1 wr hR.below
        simp only [Value.slice.injEq] at hsh
        obtain ⟨rfl, _, rfl⟩ := hsh
        obtain ⟨b, off, rfl, hblt, hcell⟩ : ∃ b off, a1 = some ⟨b, off, none⟩ ∧ b < wr.heap.size ∧ ∀ i, i < M.length → ∃ u, wr.cell? ⟨b, off + i, none⟩ = some u ∧ Ints wr u (M.getD i []) := by
          rcases hx with hx | hx
          · rw [hx] at hn1; simp at hn1
          · exact hx
        obtain ⟨u, c3, hI⟩ := hcell k hlt2
        have hrk := HRL.out k hlt2
        obtain ⟨ak, ck, rfl, _, _, _, hxk⟩ := hI
        obtain ⟨bk, ok, rfl, _, hck⟩ : ∃ b off, ak = some ⟨b, off, none⟩ ∧ b < wr.heap.size ∧ CellsAt wr b off (M.getD k []) := by
          rcases hxk with hx | hx
          · rw [hx] at hrk; simp at hrk; omega
          · exact hx
        have c5 := hck i (by omega)
        rw [hrk] at c3
        have hent : (M.getD k []).getD i 0 = ent M k i := rfl
        rw [hent] at c5
        have hl : (tab M.length (stepK M f i k)).length = M.length := tab_length _ _
        have htp := hR.rows.own.top
        have hul := hR.rows.own.len
        have hro := hR.rows.own.rows k (by omega)
        rw [tab_row _ _ _ hlt2] at hro
        obtain ⟨gr, cr, hur⟩ := own_nonempty hro (by intro c; have := congrArg List.length c; rw [row_length, List.length_nil] at this; omega)
        rw [row_length] at hur
        rw [hur] at hro
        have c6 : wr.cell? ⟨gr, i, none⟩ = some (.int .i64 (stepK M f i k k i)) := by
          rw [own_cellN hro (row_length _ _).symm hi, row_getD _ _ _ hi]
        have c7 : wr.frozen? ⟨gr, i, none⟩ = false := own_frozenN hro (row_length _ _).symm i
        have c8 : wr.cell? ⟨w1.heap.size, k, none⟩ = some (.slice (some ⟨gr, 0, none⟩) M.length cr) := by
          rw [hl] at htp hul
          rw [World.ownsRow.cellAt htp k (by omega), ← hur]
          simp [hul, hlt2]
        have hgrz := (HF2.out.rows k gr (by rw [tab_length]; exact hlt2) (by rw [hur]; rfl)).2
        have hst := (hR.setRow (i := i) hlt2 hur).drew
        have hko := (hKO.trans (KeepsOthers.setCell wr ⟨gr, i, none⟩ (.int .i64 (- ent M k i)))).trans (KeepsOthers.drew _)
        have hkb : KB (w2.heap.size + 1) W (wr.setCell ⟨gr, i, none⟩ (.int .i64 (- ent M k i))).drew := (Below.heap_setCell wr ⟨gr, i, none⟩ _ _ (by show w2.heap.size + 1 ≠ gr; omega)).trans hKB
        have HST := Lib.hid hst
        have HKO := Lib.hid hko
        have HKB := Lib.hid hkb
        obtain ⟨hbd1, hbd2⟩ := HME.out k i hlt2 hi
        clear hst hko hkb hKO hKB hR htp hul hro hck hcell hrk hl hxk hx hent hur
        generalize stepK M f i k k i = y at *
        generalize ent M k i = z at *
        gi_wp2
        refine PR.wpIn_region_still_tail 15 hmx (by kernel_rfl) (by kernel_rfl) ?_
        simp only [List.take_succ_cons, List.take_zero, List.drop_succ_cons, List.drop_zero]
        repeat still_step
        refine wpStill_nil ?_
        gi_wp2
        exact ⟨⟨k + 1, by omega, by go_num, HST.out, HKO.out, HKB.out⟩, by simp [intOf]; omega⟩
      · obtain rfl : k = M.length := by omega
        have hend : Cl w wr w2.heap.size w1.heap.size M.length (.slice a1 M.length cM) (.slice a2 Q.length c2) (colG M ((pre ++ [(⟨i, hi⟩ : Fin M.length)]).map Fin.val)) us := by
          refine ⟨?_, hR.box, hR.pb, hR.below⟩
          have h1 := hR.rows
          rw [HF.out, stepK_all] at h1
          simpa using h1
        have HEND := Lib.hid hend
        have HKO := Lib.hid hKO
        have HKB := Lib.hid hKB
        clear hend hKO hKB hR
        gi_wp2
        exact ⟨HKO.out, HKB.out, HEND.out⟩
  case done =>
    rintro D xs W hD rfl hCl hK
    have c1 := hCl.box.cell
    have HCL := Lib.hid hCl
    clear hCl
    gi_wp2
    refine ⟨by simp, .inl ⟨_, _, rfl, run_takeDeferred hK, ?_⟩⟩
    refine ⟨.tuple #[.slice (some ⟨w1.heap.size, 0, none⟩) M.length M.length, .int .i64 0], by simp [results, Try.results23, go_sem], ?_⟩
    have hkc : KC W (W.putObj D (.deferred none)) := KC.of (grownBy_putObj' W D (.deferred none)) (fun r e => by cases e; exact ⟨_, hK, rfl⟩)
    have hbw : Below w.heap.size W (W.putObj D (.deferred none)) := belowK_b (w := w) (Nat.le_refl _) W D _ _ (by omega) hK rfl rfl
    exact ⟨_, us, rfl, (hkc.fresh HCL.out.rows).mono (by omega), HCL.out.below.trans hbw⟩
  case stop =>
    rintro D c pre W _ _ h _
    exact h.elim
end Go.Proofs.Ytgncaploccbfnaa.PW
namespace Go.Proofs.Ytgncaploccbfnaa.PW
open Go.RowKit Go.Proofs.Ytgncaploccbfnaa
open Go.Proofs.Ytgncaploccbfnaa.PM

theorem ownI_kept' {w w' : World} {row : Option Nat} {v : Value} {xs : List Int} (h : OwnI w v xs) (hg : w.grownBy w' row) (hne : ∀ b, v.ownBlock = some b → row ≠ some b) : OwnI w' v xs := by
  refine World.ownsRow.kept h hg ?_
  cases hb : v.ownBlock with
  | none => exact .inl rfl
  | some b => exact .inr (fun c => hne b hb c.symm)
theorem own_base' {w : World} {B T n : Nat} {v : Value} {xs : List Value} (h : w.ownsRow B T 1 v n xs) : w.ownsRow 0 T 1 v n xs := by
  refine ⟨h.1, ?_⟩
  rcases h.2 with h2 | ⟨g, cap, cur, hv, hb, r⟩
  · exact .inl h2
  · exact .inr ⟨g, cap, cur, hv, Nat.zero_le _, r⟩
theorem getD_append_lt {α : Type} (l : List α) (x d : α) (j : Nat) (h : j < l.length) : (l ++ [x]).getD j d = l.getD j d := by simp [h, List.getElem?_append_left h]
theorem getD_append_eq {α : Type} (l : List α) (x d : α) : (l ++ [x]).getD l.length d = x := by simp

/-- A row is appended. -/
theorem FreshR.push {B C g cap : Nat} {wr w3 w4 : World} {v u : Value} {xss : List (List Int)} {xs : List Int} {us : List Value} (h : FreshR B wr v xss us) (_hB : B ≤ wr.heap.size)
    (hu : FreshI wr.heap.size w3 u xs) (hb : Below wr.heap.size wr w3)
    (hown : w4.ownsRow C 23 1 (.slice (some ⟨g, 0, none⟩) (xss.length + 1) cap) (xss.length + 1) (us ++ [u])) (hgrow : w3.grownBy w4 v.ownBlock) (hat : v.ownBlock = some g ∨ g = w3.heap.size) (hlt : g < w4.heap.size) :
    FreshR B w4 (.slice (some ⟨g, 0, none⟩) (xss.length + 1) cap) (xss ++ [xs]) (us ++ [u]) := by
  obtain ⟨⟨hl, _, hrw, hap, hov⟩, ⟨gv, cv, hv, hv1, hv2⟩, hub⟩ := h
  have hlk : (xss ++ [xs]).length = xss.length + 1 := by simp
  have hvb : v.ownBlock = some gv := by rw [hv]; rfl
  have hz3 := hb.size
  have hz4 := hgrow.size
  obtain ⟨gu, cu, huv, hu1, hu2, huo⟩ := hu
  have hubk : u.ownBlock = some gu := by rw [huv]; rfl
  have hgc : g = gv ∨ g = w3.heap.size := by
    rcases hat with h1 | h1
    · rw [hvb] at h1; simp at h1; exact .inl h1.symm
    · exact .inr h1
  have hrb : ∀ i b, i < xss.length + 1 → ((us ++ [u]).getD i undef).ownBlock = some b → (i < xss.length ∧ (us.getD i undef).ownBlock = some b) ∨ (i = xss.length ∧ b = gu) := fun i b hi hbk => by
    by_cases e : i = xss.length
    · rw [e, ← hl, getD_append_eq, hubk] at hbk
      exact .inr ⟨e, by simp at hbk; exact hbk.symm⟩
    · rw [getD_append_lt _ _ _ _ (by omega)] at hbk
      exact .inl ⟨by omega, hbk⟩
  refine ⟨⟨by rw [hlk]; simp [hl], by rw [hlk]; exact own_base' hown, fun i hi => ?_, fun i j b hi hj h1 h2 => ?_, fun i b hi h1 h2 => ?_⟩, ⟨g, cap, by rw [hlk], by omega, hlt⟩, fun i b hi h1 => ?_⟩
  · rw [hlk] at hi
    by_cases e : i = xss.length
    · have e2 : (us ++ [u]).getD i undef = u := by rw [e, ← hl, getD_append_eq]
      rw [e2, e, getD_append_eq]
      exact ownI_kept' huo hgrow (fun b hb' => by rw [hubk] at hb'; rw [hvb]; simp at hb' ⊢; omega)
    · rw [getD_append_lt _ _ _ _ (by omega), getD_append_lt _ _ _ _ (by omega)]
      exact ownI_kept' ((hrw i (by omega)).below hb (fun b hb' => (hub i b (by omega) hb').2)) hgrow (fun b hb' c => hov i b (by omega) c hb')
  · rw [hlk] at hi hj
    rcases hrb i b hi h1 with ⟨x1, x2⟩ | ⟨x1, x2⟩ <;> rcases hrb j b hj h2 with ⟨y1, y2⟩ | ⟨y1, y2⟩
    · exact hap i j b x1 y1 x2 y2
    · have := (hub i b x1 x2).2; omega
    · have := (hub j b y1 y2).2; omega
    · omega
  · rw [hlk] at hi
    simp [Value.ownBlock] at h1
    subst h1
    rcases hrb i _ hi h2 with ⟨x1, x2⟩ | ⟨x1, x2⟩
    · rcases hgc with c | c
      · exact hov i g x1 (by rw [hvb, c]) x2
      · have := (hub i g x1 x2).2; omega
    · omega
  · rw [hlk] at hi
    rcases hrb i _ hi h1 with ⟨x1, x2⟩ | ⟨x1, x2⟩
    · have := hub i b x1 x2; omega
    · omega
/-- An empty slice of rows, of the call's own. -/
theorem freshR_nil (w : World) : FreshR w.heap.size (w.alloc (.cells #[] 23)) (.slice (some ⟨w.heap.size, 0, none⟩) 0 0) [] [] :=
  ⟨⟨rfl, World.ownsRow_made w #[] 0 (Nat.zero_le _) (Nat.zero_le _) rfl, fun i hi => absurd hi (Nat.not_lt_zero _), fun i j b hi => absurd hi (Nat.not_lt_zero _), fun i b hi => absurd hi (Nat.not_lt_zero _)⟩,
    ⟨w.heap.size, 0, rfl, Nat.le_refl _, by simp⟩, fun i b hi => absurd hi (Nat.not_lt_zero _)⟩
theorem freshI_nil (w : World) : FreshI w.heap.size (w.alloc (.cells #[] 2)) (.slice (some ⟨w.heap.size, 0, none⟩) 0 0) [] :=
  ⟨w.heap.size, 0, rfl, Nat.le_refl _, by simp, World.ownsRow_made w #[] 0 (Nat.zero_le _) (Nat.zero_le _) rfl⟩

/-- A number is appended. -/
theorem FreshI.push {B C g cap n : Nat} {wr w4 : World} {v : Value} {xs : List Int} {x : Int} {t : TypeId} (h : FreshI B wr v xs) (hB : B ≤ wr.heap.size) (hn : n = xs.length)
    (hown : w4.ownsRow C 2 1 (.slice (some ⟨g, 0, none⟩) (n + 1) cap) (n + 1) (xs.map (Value.int .i64) ++ [.int .i64 x])) (hat : v.ownBlock = some g ∨ g = (wr.alloc (.cells #[.int .i64 x] t)).heap.size) (hlt : g < w4.heap.size) :
    FreshI B w4 (.slice (some ⟨g, 0, none⟩) (n + 1) cap) (xs ++ [x]) := by
  obtain ⟨gv, cv, hv, hv1, hv2, _⟩ := h
  subst hn
  refine ⟨g, cap, by simp, ?_, hlt, ?_⟩
  · rcases hat with h1 | h1
    · rw [hv] at h1; simp [Value.ownBlock] at h1; omega
    · rw [h1]; simp; omega
  · have := own_base' hown
    unfold OwnI
    simpa using this
theorem FreshI.grow {B : Nat} {W wr w4 : World} {v : Value} {xs : List Int} {o : Obj} (h : FreshI B wr v xs) (hb : Below B W wr) (hB : B ≤ wr.heap.size) (hgrow : (wr.alloc o).grownBy w4 v.ownBlock) : Below B W w4 := by
  obtain ⟨gv, cv, hv, hv1, hv2, _⟩ := h
  exact (hb.alloc hB o).grown hgrow (by simp; omega) (fun b hb' => by rw [hv] at hb'; simp [Value.ownBlock] at hb'; omega)
theorem FreshI.owns {B : Nat} {wr : World} {v : Value} {xs : List Int} (h : FreshI B wr v xs) : wr.ownsRow 0 2 1 v xs.length (xs.map (Value.int .i64)) := by
  obtain ⟨_, _, _, _, _, ho⟩ := h
  exact ho
end Go.Proofs.Ytgncaploccbfnaa.PW
namespace Go.Proofs.Ytgncaploccbfnaa.PW
open Go.RowKit Go.Proofs.Ytgncaploccbfnaa
open Go.Proofs.Ytgncaploccbfnaa.PM

/-- The columns of a set. -/
def colS (M : List (List Int)) (s : Int) (a b : Nat) : Int := if bit s b = true then - ent M a b else unitG a b
theorem mem_memTo (n : Nat) (s : Int) (b : Nat) : ∀ k, k ≤ n → (b ∈ (memTo n s k).map Fin.val ↔ b < k ∧ bit s b = true) := by
  intro k
  induction k with
  | zero => intro _; simp [memTo]
  | succ k ih =>
    intro hk
    have h := ih (by omega)
    cases hbk : bit s k
    · rw [memTo_no hbk, h]
      constructor
      · rintro ⟨h1, h2⟩; exact ⟨by omega, h2⟩
      · rintro ⟨h1, h2⟩
        refine ⟨?_, h2⟩
        rcases Nat.lt_or_ge b k with c | c
        · exact c
        · obtain rfl : b = k := by omega
          rw [hbk] at h2; cases h2
    · rw [memTo_yes (show k < n by omega) hbk, List.map_append, List.mem_append, h]
      simp
      constructor
      · rintro (⟨h1, h2⟩ | h1)
        · exact ⟨by omega, h2⟩
        · subst h1; exact ⟨by omega, hbk⟩
      · rintro ⟨h1, h2⟩
        by_cases e : b = k
        · exact .inr e
        · exact .inl ⟨by omega, h2⟩
theorem colG_colS (M : List (List Int)) (n : Nat) (s : Int) : tab n (colG M ((memTo n s n).map Fin.val)) = tab n (colS M s) := tab_congr (fun a b _ hb => by
  unfold colG colS
  have := mem_memTo n s b n (Nat.le_refl _)
  by_cases e : bit s b = true
  · rw [if_pos e, if_pos (this.2 ⟨hb, e⟩)]
  · rw [if_neg e, if_neg (fun c => e (this.1 c).2)])

theorem tab_snoc (n i : Nat) (g : Nat → Nat → Int) : ((List.range (i + 1)).map fun a => (List.range n).map (g a)) = ((List.range i).map fun a => (List.range n).map (g a)) ++ [(List.range n).map (g i)] := by simp [List.range_succ]
theorem rows_snoc (j : Nat) (f : Nat → Int) : (List.range (j + 1)).map f = (List.range j).map f ++ [f j] := by simp [List.range_succ]

set_option maxRecDepth 100000 in
set_option maxHeartbeats 1000000 in
theorem l01Columns_any (m : Value) (M : List (List Int)) (s : Int) (w : World) (h1 : PM.Rows w m M) (hn1 : 1 ≤ M.length) (hn5 : M.length ≤ 5) (hrl : ∀ j, j < M.length → (M.getD j []).length = M.length)
    (hme : ∀ j c, j < M.length → c < M.length → -20 ≤ ent M j c ∧ ent M j c ≤ 20) :
    Calls Try.prog 75 #[m, .int .i64 s] w fun e w' => ∃ g cap us, e = .returned (.slice (some ⟨g, 0, none⟩) M.length cap) ∧ FreshR w.heap.size w' (.slice (some ⟨g, 0, none⟩) M.length cap) (tab M.length (colS M s)) us ∧ Below w.heap.size w w' := by
  have g1 := fun (w' : World) (h : Below w.heap.size w w') => h1.below h
  obtain ⟨a1, cM, rfl, _, _, hx⟩ := h1
  obtain ⟨b, off, rfl, hblt, hcell⟩ : ∃ b off, a1 = some ⟨b, off, none⟩ ∧ b < w.heap.size ∧ ∀ i, i < M.length → ∃ u, w.cell? ⟨b, off + i, none⟩ = some u ∧ Ints w u (M.getD i []) := by
    rcases hx with hx | hx
    · rw [hx] at hn1; simp at hn1
    · exact hx
  have HRL := Lib.hid hrl
  have HME := Lib.hid hme
  have HCE := Lib.hid hcell
  obtain ⟨i0, hi, hzz0, hzz1, hzz2⟩ := info_parts info_ints
  obtain ⟨j0, hj, hyy0, hyy1, hyy2⟩ := info_parts info_int
  clear hrl hme hcell hx
  have hF0 := freshR_nil w
  have hB0 : Below w.heap.size w (w.alloc (.cells #[] 23)) := (Below.refl _ _).alloc (Nat.le_refl _) _
  have HF0 := Lib.hid hF0
  clear hF0
  go_enter Try.func75, Try.ntmps75
  go_wp2_with fail
  go_loopw [5, 6, 7, 8] (fun v i _ _ wr => ∃ (k : Nat) (us : List Value), k ≤ M.length ∧ i = .int .i64 k ∧ FreshR w.heap.size wr v ((List.range k).map fun a => (List.range M.length).map (colS M s a)) us ∧ Below w.heap.size w wr) (fun _ i _ _ _ => M.length - (intOf i).toNat)
  case atStart => exact ⟨0, [], Nat.zero_le _, rfl, HF0.out, hB0⟩
  case round =>
    obtain ⟨k, us, hk, rfl, hF, hB⟩ := hrel
    by_cases hlt : k < M.length
    · have HF := Lib.hid hF
      clear hF
      obtain ⟨W1, rfl⟩ : ∃ W1, W1 = wr := ⟨_, rfl⟩
      have HB := Lib.hid hB
      have hzr := hB.size
      clear hB
      go_wp2_with fail
      go_loopw [7, 8] (fun v c wi => ∃ (j : Nat), j ≤ M.length ∧ c = .int .i64 j ∧ FreshI W1.heap.size wi v ((List.range j).map (colS M s k)) ∧ Below W1.heap.size W1 wi) (fun _ c _ => M.length - (intOf c).toNat)
      case atStart => exact ⟨0, Nat.zero_le _, rfl, freshI_nil W1, (Below.refl _ _).alloc (Nat.le_refl _) _⟩
      case round =>
        obtain ⟨j, hjj, rfl, hI, hBI⟩ := hrel
        have hzi := hBI.size
        by_cases hltj : j < M.length
        · obtain ⟨u, c3, hIr⟩ := HCE.out k hlt
          have c3' := ((HB.out.trans (hBI.mono hzr)).cell (p := ⟨b, off + k, none⟩) hblt).trans c3
          have hrk := HRL.out k hlt
          obtain ⟨ak, ck, rfl, _, _, _, hxk⟩ := hIr
          obtain ⟨bk, ok, rfl, hbk, hck⟩ : ∃ b off, ak = some ⟨b, off, none⟩ ∧ b < w.heap.size ∧ CellsAt w b off (M.getD k []) := by
            rcases hxk with hx | hx
            · rw [hx] at hrk; simp at hrk; omega
            · exact hx
          have c5 := ((HB.out.trans (hBI.mono hzr)).cell (p := ⟨bk, ok + j, none⟩) hbk).trans (hck j (by omega))
          rw [hrk] at c3'
          have hent : (M.getD k []).getD j 0 = ent M k j := rfl
          rw [hent] at c5
          obtain ⟨hbd1, hbd2⟩ := HME.out k j hlt hltj
          have how := hI.owns
          rw [row_length] at how
          have HOW := Lib.hid how
          have HI := Lib.hid hI
          have HBI := Lib.hid hBI
          clear how hI hBI hck hrk c3 hxk hent
          by_cases hb : bits BinOp.and IntKind.i64 (s / 2 ^ j) 1 = 1
          · have HX := Lib.hid (show colS M s k j = - ent M k j from by unfold colS bit; rw [if_pos (decide_eq_true hb)])
            go_wp2_with (at_builtin; refine wpList_append_lies _ rfl _ _ 23 rfl 0 2 j0 (.int .i64 0) 1 8 Try.underlying23 hj hyy0 hyy1 hyy2 rfl (by decide) u7 j _ rfl ((HOW.out).alloc _) _ 1 _ [.int .i64 (- ent M k j)] rfl rfl (cell_one_new _ _ _) (by simp [Value.oneCell']) (by decide) (by unfold maxLen; omega) (by omega) (Nat.zero_le _) _ rfl ?_; intro g cap w3 hown hgrow hat hgl)
            have hpu := HI.out.push (by omega) (by simp) hown hat hgl
            have hgr := HI.out.grow HBI.out (by have := HBI.out.size; omega) hgrow
            rw [← HX.out, ← rows_snoc] at hpu
            have HPU := Lib.hid hpu
            have HGR := Lib.hid hgr
            clear hpu hgr hown hgrow hat hgl
            go_wp2_with fail
            go_roundw
            case rel => exact ⟨j + 1, by omega, by go_num, HPU.out, HGR.out⟩
            case measure => simp [intOf]; omega
          · by_cases e : k = j
            · subst e
              have HX := Lib.hid (show colS M s k k = 1 from by unfold colS bit; rw [if_neg (by rw [decide_eq_false hb]; exact Bool.noConfusion)]; unfold unitG; rw [if_pos rfl])
              go_wp2_with (at_builtin; refine wpList_append_lies _ rfl _ _ 23 rfl 0 2 j0 (.int .i64 0) 1 8 Try.underlying23 hj hyy0 hyy1 hyy2 rfl (by decide) u7 k _ rfl ((HOW.out).alloc _) _ 1 _ [.int .i64 (1)] rfl rfl (cell_one_new _ _ _) (by simp [Value.oneCell']) (by decide) (by unfold maxLen; omega) (by omega) (Nat.zero_le _) _ rfl ?_; intro g cap w3 hown hgrow hat hgl)
              have hpu := HI.out.push (by omega) (by simp) hown hat hgl
              have hgr := HI.out.grow HBI.out (by have := HBI.out.size; omega) hgrow
              rw [← HX.out, ← rows_snoc] at hpu
              have HPU := Lib.hid hpu
              have HGR := Lib.hid hgr
              clear hpu hgr hown hgrow hat hgl
              go_wp2_with fail
              go_roundw
              case rel => exact ⟨k + 1, by omega, by go_num, HPU.out, HGR.out⟩
              case measure => simp [intOf]; omega
            · have HX := Lib.hid (show colS M s k j = 0 from by unfold colS bit; rw [if_neg (by rw [decide_eq_false hb]; exact Bool.noConfusion)]; unfold unitG; rw [if_neg (fun c => e c.symm)])
              go_wp2_with (at_builtin; refine wpList_append_lies _ rfl _ _ 23 rfl 0 2 j0 (.int .i64 0) 1 8 Try.underlying23 hj hyy0 hyy1 hyy2 rfl (by decide) u7 j _ rfl ((HOW.out).alloc _) _ 1 _ [.int .i64 (0)] rfl rfl (cell_one_new _ _ _) (by simp [Value.oneCell']) (by decide) (by unfold maxLen; omega) (by omega) (Nat.zero_le _) _ rfl ?_; intro g cap w3 hown hgrow hat hgl)
              have hpu := HI.out.push (by omega) (by simp) hown hat hgl
              have hgr := HI.out.grow HBI.out (by have := HBI.out.size; omega) hgrow
              rw [← HX.out, ← rows_snoc] at hpu
              have HPU := Lib.hid hpu
              have HGR := Lib.hid hgr
              clear hpu hgr hown hgrow hat hgl
              go_wp2_with fail
              go_roundw
              case rel => exact ⟨j + 1, by omega, by go_num, HPU.out, HGR.out⟩
              case measure => simp [intOf]; omega
        · obtain rfl : j = M.length := by omega
          obtain ⟨gu, cu, hgu, hgu1, hgu2, hguo⟩ := id hI
          rw [row_length] at hgu
          subst hgu
          have hI' : FreshI W1.heap.size wr (.slice (some ⟨gu, 0, none⟩) M.length cu) ((List.range M.length).map (colS M s k)) := hI
          have hFw := HF.out.below hBI
          have how : wr.ownsRow 0 23 1 u5 k us := by
            have := hFw.own.top
            rwa [show ((List.range k).map fun a => (List.range M.length).map (colS M s a)).length = k by simp] at this
          have HOW := Lib.hid how
          have HI := Lib.hid hI'
          have HBI := Lib.hid hBI
          clear hI hBI how hFw hguo hgu1 hgu2
          go_wp2_with (at_builtin; refine wpList_append_lies _ rfl _ _ 22 rfl 0 23 i0 (.slice none 0 0) 1 24 Try.underlying22 hi hzz0 hzz1 hzz2 rfl (by decide) u5 k us rfl ((HOW.out).alloc _) _ 1 _ [.slice (some ⟨gu, 0, none⟩) M.length cu] rfl rfl (cell_one_new _ _ _) (by simp [Value.oneCell']) (by decide) (by unfold maxLen; omega) (by omega) (Nat.zero_le _) _ rfl ?_; intro g cap w3 hown hgrow hat hgl)
          have hall : Below wr.heap.size wr (wr.alloc (.cells #[.slice (some ⟨gu, 0, none⟩) M.length cu] 23)) := (Below.refl _ _).alloc (Nat.le_refl _) _
          have hpu := HF.out.push hzr ((HI.out).below hall) (HBI.out.trans (hall.mono hzi)) (by simpa using hown) hgrow hat hgl
          have hgr : Below w.heap.size w w3 := by
            obtain ⟨gv, cv, hv, hv1, hv2⟩ := HF.out.top
            exact ((HB.out.trans (HBI.out.mono hzr)).alloc (by omega) _).grown hgrow (by simp; omega) (fun b hb' => by rw [hv] at hb'; simp [Value.ownBlock] at hb'; omega)
          rw [← tab_snoc, show ((List.range k).map fun a => (List.range M.length).map (colS M s a)).length + 1 = k + 1 by simp] at hpu
          have HPU := Lib.hid hpu
          have HGR := Lib.hid hgr
          clear hpu hgr hown hgrow hat hgl hall
          go_wp2_with fail
          go_roundw
          case rel => exact ⟨k + 1, _, by omega, by go_num, HPU.out, HGR.out⟩
          case measure => simp [intOf]; omega
    · obtain rfl : k = M.length := by omega
      obtain ⟨gv, cv, hv, hv1, hv2⟩ := id hF.top
      rw [show ((List.range M.length).map fun a => (List.range M.length).map (colS M s a)).length = M.length by simp] at hv
      subst hv
      have HF := Lib.hid hF
      have HB := Lib.hid hB
      clear hF hB
      go_wp2_with fail
      go_ret
      exact ⟨_, _, us, rfl, HF.out, HB.out⟩
end Go.Proofs.Ytgncaploccbfnaa.PW
namespace Go.Proofs.Ytgncaploccbfnaa.PW
open Go.RowKit Go.Proofs.Ytgncaploccbfnaa
open Go.Proofs.Ytgncaploccbfnaa.PM

theorem tab_tot (n : Nat) (g : Nat → Nat → Int) (hn : n ≤ 5) : PM.tot (tab n g) ≤ 1048576 := by
  unfold PM.tot
  have h : ((tab n g).map List.length).sum = n * n := by
    unfold tab
    rw [List.map_map]
    have : (List.length ∘ fun i => (List.range n).map (g i)) = fun _ => n := by funext i; simp
    rw [this, List.map_const', List.sum_replicate_nat]
    simp
  rw [h, tab_length]
  have : n * n ≤ 5 * 5 := Nat.mul_le_mul hn hn
  omega
/-- Rows of the call's own, or none. -/
structure OwnRs (B : Nat) (w : World) (v : Value) (xss : List (List Int)) (us : List Value) : Prop where
  rows : OwnR w v xss us
  mb : ∀ b, v.ownBlock = some b → B ≤ b ∧ b < w.heap.size
  ub : ∀ i b, i < xss.length → (us.getD i undef).ownBlock = some b → B ≤ b ∧ b < w.heap.size
theorem FreshR.ownRs {B : Nat} {w : World} {v : Value} {xss : List (List Int)} {us : List Value} (h : FreshR B w v xss us) : OwnRs B w v xss us := by
  obtain ⟨g, cap, hv, h1, h2⟩ := h.top
  exact ⟨h.own, fun b hb => by rw [hv] at hb; simp [Value.ownBlock] at hb; omega, h.rows⟩
theorem ownRs_nil (B : Nat) (w : World) : OwnRs B w (.slice none 0 0) [] [] :=
  ⟨⟨rfl, World.ownsRow_nil _ _ _ _, fun i hi => absurd hi (Nat.not_lt_zero _), fun i j b hi => absurd hi (Nat.not_lt_zero _), fun i b hi => absurd hi (Nat.not_lt_zero _)⟩,
    fun b hb => by simp [Value.ownBlock] at hb, fun i b hi => absurd hi (Nat.not_lt_zero _)⟩
/-- What a function leaves that returns rows and a code. -/
def OutR (w : World) (o : List (List Int) × Int) (e : Ending) (w' : World) : Prop :=
  ∃ v us, e = .returned (.tuple #[v, .int .i64 o.2]) ∧ OwnRs w.heap.size w' v o.1 us ∧ Below w.heap.size w w'

def colsOut (M : List (List Int)) (Q : List Int) (s : Int) : List (List Int) × Int :=
  if setCode M Q s = 0 then (tab M.length (colS M s), 0) else ([], setCode M Q s)
theorem setCode_cases (M : List (List Int)) (Q : List Int) (s : Int) : setCode M Q s = 1 ∨ setCode M Q s = 2 ∨ (setCode M Q s = 0 ∧ isPB M Q = true ∧ 0 ≤ s ∧ s < 2 ^ M.length) := by
  unfold setCode
  cases h : isPB M Q
  · left; simp
  · right
    rw [if_neg (by simp)]
    by_cases h2 : s < 0 ∨ (2 : Int) ^ M.length ≤ s
    · left; rw [if_pos h2]
    · right; rw [if_neg h2]; exact ⟨rfl, rfl, by omega, by omega⟩
theorem colsOut_err {M : List (List Int)} {Q : List Int} {s c : Int} (h : setCode M Q s = c) (hc : c ≠ 0) : colsOut M Q s = ([], c) := by unfold colsOut; rw [if_neg (by omega), h]
theorem colsOut_ok {M : List (List Int)} {Q : List Int} {s : Int} (h : setCode M Q s = 0) : colsOut M Q s = (tab M.length (colS M s), 0) := by unfold colsOut; rw [if_pos h]
theorem ent_bd {M : List (List Int)} {Q : List Int} (h : isPB M Q = true) : ∀ j c, j < M.length → c < M.length → -20 ≤ ent M j c ∧ ent M j c ≤ 20 := fun j c hj hc => ((isPB_facts h).2.2.2.1 j hj).2 c hc

theorem implColumnsOf_err (m q : Value) (M : List (List Int)) (Q : List Int) (s c : Int) (w : World) (h1 : PM.Rows w m M) (h2 : Ints w q Q) (hc : setCode M Q s = c) (hcc : c = 1 ∨ c = 2) :
    Calls Try.prog 23 #[.agg #[m, q], .int .i64 s] w (OutR w ([], c)) := by
  have g1 := fun (w' : World) (h : Below w.heap.size w w') => h1.below h
  have g2 := fun (w' : World) (h : Below w.heap.size w w') => h2.below h
  obtain ⟨a1, c1, rfl, _⟩ := h1
  obtain ⟨a2, c2, rfl, _⟩ := h2
  have HC := Lib.hid hc
  clear hc
  rcases hcc with rfl | rfl
  all_goals
    go_enter Try.func23, Try.ntmps23
    go_wp2_with fail
    refine (checkSet_any _ _ M Q s _ (g1 _ (by (repeat' (first | (with_reducible exact Below.refl _ _) | (with_reducible assumption) | (with_reducible refine Below.alloc ?_ ?_ _) | (with_reducible refine Below.drew ?_) | (with_reducible refine below_drewN ?_ _) | (with_reducible refine Below.setCell ?_ ?_ _) | (with_reducible refine Below.trans ?_ (Below.mono (by with_reducible assumption) ?_)) | (with_reducible exact Below.size (by with_reducible assumption)) | go_size)))) (g2 _ (by (repeat' (first | (with_reducible exact Below.refl _ _) | (with_reducible assumption) | (with_reducible refine Below.alloc ?_ ?_ _) | (with_reducible refine Below.drew ?_) | (with_reducible refine below_drewN ?_ _) | (with_reducible refine Below.setCell ?_ ?_ _) | (with_reducible refine Below.trans ?_ (Below.mono (by with_reducible assumption) ?_)) | (with_reducible exact Below.size (by with_reducible assumption)) | go_size))))).mono ?_; rw [HC.out]; rintro e w1 ⟨rfl, hb1⟩; obtain ⟨hc_hb1, hf_hb1⟩ := bcell hb1; obtain ⟨hcA_hb1, hfA_hb1⟩ := bcellG (W0 := w) hb1 (by (repeat' (first | (with_reducible exact Below.refl _ _) | (with_reducible assumption) | (with_reducible refine Below.alloc ?_ ?_ _) | (with_reducible refine Below.drew ?_) | (with_reducible refine below_drewN ?_ _) | (with_reducible refine Below.setCell ?_ ?_ _) | (with_reducible refine Below.trans ?_ (Below.mono (by with_reducible assumption) ?_)) | (with_reducible exact Below.size (by with_reducible assumption)) | go_size))); have hz_hb1 := hb1.size; (try simp at hz_hb1); (try simp only [Nat.add_one_le_iff] at hz_hb1); have hz0_hb1 : w.heap.size < w1.heap.size := (by omega)
    go_wp2_with fail
    go_ret2
    exact ⟨_, [], rfl, ownRs_nil _ _, by (repeat' (first | (with_reducible exact Below.refl _ _) | (with_reducible assumption) | (with_reducible refine Below.alloc ?_ ?_ _) | (with_reducible refine Below.drew ?_) | (with_reducible refine below_drewN ?_ _) | (with_reducible refine Below.setCell ?_ ?_ _) | (with_reducible refine Below.trans ?_ (Below.mono (by with_reducible assumption) ?_)) | (with_reducible exact Below.size (by with_reducible assumption)) | go_size))⟩
theorem implColumnsOf_any (m q : Value) (M : List (List Int)) (Q : List Int) (s : Int) (w : World) (h1 : PM.Rows w m M) (h2 : Ints w q Q) :
    Calls Try.prog 23 #[.agg #[m, q], .int .i64 s] w (OutR w (colsOut M Q s)) := by
  rcases setCode_cases M Q s with h | h | ⟨h, hp, hs0, hs1⟩
  · rw [colsOut_err h (by omega)]; exact implColumnsOf_err m q M Q s 1 w h1 h2 h (.inl rfl)
  · rw [colsOut_err h (by omega)]; exact implColumnsOf_err m q M Q s 2 w h1 h2 h (.inr rfl)
  · rw [colsOut_ok h]
    obtain ⟨f1, f2, f3, f4, f5⟩ := isPB_facts hp
    have h1' := h1
    obtain ⟨a1, c1, rfl, _⟩ := h1
    refine (callsIn_wide.1 (columnsOf_ok a1 c1 q M Q s w h1' h2 h f1 f2 (fun j hj => (f4 j hj).1) (ent_bd hp) hs0 hs1)).mono ?_
    rintro e w' ⟨g, us, rfl, hf, hb⟩
    rw [colG_colS] at hf
    exact ⟨_, us, rfl, hf.ownRs, hb⟩
set_option maxRecDepth 100000 in
theorem specColumnsOf_any (m q : Value) (M : List (List Int)) (Q : List Int) (s : Int) (w : World) (h1 : PM.Rows w m M) (h2 : Ints w q Q) :
    Calls Try.prog 22 #[.agg #[m, q], .int .i64 s] w (OutR w (colsOut M Q s)) := by
  have g1 := fun (w' : World) (h : Below w.heap.size w w') => h1.below h
  have g2 := fun (w' : World) (h : Below w.heap.size w w') => h2.below h
  obtain ⟨a1, c1, rfl, _⟩ := h1
  obtain ⟨a2, c2, rfl, _⟩ := h2
  rcases setCode_cases M Q s with h | h | ⟨h, hp, hs0, hs1⟩
  case' inr.inr =>
    rw [colsOut_ok h]
    have HC := Lib.hid h
    obtain ⟨f1, f2, f3, f4, f5⟩ := isPB_facts hp
    have H4 := Lib.hid f4
    have HE := Lib.hid (ent_bd hp)
    clear h hp hs0 hs1 f3 f4 f5
    go_enter Try.func22, Try.ntmps22
    go_wp2_with fail
    refine (l01Set_any _ _ M Q s _ (g1 _ (by (repeat' (first | (with_reducible exact Below.refl _ _) | (with_reducible assumption) | (with_reducible refine Below.alloc ?_ ?_ _) | (with_reducible refine Below.drew ?_) | (with_reducible refine below_drewN ?_ _) | (with_reducible refine Below.setCell ?_ ?_ _) | (with_reducible refine Below.trans ?_ (Below.mono (by with_reducible assumption) ?_)) | (with_reducible exact Below.size (by with_reducible assumption)) | go_size)))) (g2 _ (by (repeat' (first | (with_reducible exact Below.refl _ _) | (with_reducible assumption) | (with_reducible refine Below.alloc ?_ ?_ _) | (with_reducible refine Below.drew ?_) | (with_reducible refine below_drewN ?_ _) | (with_reducible refine Below.setCell ?_ ?_ _) | (with_reducible refine Below.trans ?_ (Below.mono (by with_reducible assumption) ?_)) | (with_reducible exact Below.size (by with_reducible assumption)) | go_size))))).mono ?_; rw [HC.out]; rintro e w1 ⟨rfl, hb1⟩; obtain ⟨hc_hb1, hf_hb1⟩ := bcell hb1; obtain ⟨hcA_hb1, hfA_hb1⟩ := bcellG (W0 := w) hb1 (by (repeat' (first | (with_reducible exact Below.refl _ _) | (with_reducible assumption) | (with_reducible refine Below.alloc ?_ ?_ _) | (with_reducible refine Below.drew ?_) | (with_reducible refine below_drewN ?_ _) | (with_reducible refine Below.setCell ?_ ?_ _) | (with_reducible refine Below.trans ?_ (Below.mono (by with_reducible assumption) ?_)) | (with_reducible exact Below.size (by with_reducible assumption)) | go_size))); have hz_hb1 := hb1.size; (try simp at hz_hb1); (try simp only [Nat.add_one_le_iff] at hz_hb1); have hz0_hb1 : w.heap.size < w1.heap.size := (by omega)
    have hw1 : Below w.heap.size w w1 := by (repeat' (first | (with_reducible exact Below.refl _ _) | (with_reducible assumption) | (with_reducible refine Below.alloc ?_ ?_ _) | (with_reducible refine Below.drew ?_) | (with_reducible refine below_drewN ?_ _) | (with_reducible refine Below.setCell ?_ ?_ _) | (with_reducible refine Below.trans ?_ (Below.mono (by with_reducible assumption) ?_)) | (with_reducible exact Below.size (by with_reducible assumption)) | go_size))
    go_wp2_with fail
    refine (l01Columns_any _ M s _ (g1 _ hw1) f1 f2 (fun j hj => (H4.out j hj).1) HE.out).mono ?_; rintro e w2 ⟨g, cap, us, rfl, hf, hb2⟩
    have HF := Lib.hid hf
    clear hf
    go_wp2_with fail
    go_ret2
    exact ⟨_, us, rfl, (HF.out.mono hw1.size).ownRs, hw1.trans (hb2.mono hw1.size)⟩
  all_goals
    rw [colsOut_err h (by omega)]
    have HC := Lib.hid h
    clear h
    go_enter Try.func22, Try.ntmps22
    go_wp2_with fail
    refine (l01Set_any _ _ M Q s _ (g1 _ (by (repeat' (first | (with_reducible exact Below.refl _ _) | (with_reducible assumption) | (with_reducible refine Below.alloc ?_ ?_ _) | (with_reducible refine Below.drew ?_) | (with_reducible refine below_drewN ?_ _) | (with_reducible refine Below.setCell ?_ ?_ _) | (with_reducible refine Below.trans ?_ (Below.mono (by with_reducible assumption) ?_)) | (with_reducible exact Below.size (by with_reducible assumption)) | go_size)))) (g2 _ (by (repeat' (first | (with_reducible exact Below.refl _ _) | (with_reducible assumption) | (with_reducible refine Below.alloc ?_ ?_ _) | (with_reducible refine Below.drew ?_) | (with_reducible refine below_drewN ?_ _) | (with_reducible refine Below.setCell ?_ ?_ _) | (with_reducible refine Below.trans ?_ (Below.mono (by with_reducible assumption) ?_)) | (with_reducible exact Below.size (by with_reducible assumption)) | go_size))))).mono ?_; rw [HC.out]; rintro e w1 ⟨rfl, hb1⟩; obtain ⟨hc_hb1, hf_hb1⟩ := bcell hb1; obtain ⟨hcA_hb1, hfA_hb1⟩ := bcellG (W0 := w) hb1 (by (repeat' (first | (with_reducible exact Below.refl _ _) | (with_reducible assumption) | (with_reducible refine Below.alloc ?_ ?_ _) | (with_reducible refine Below.drew ?_) | (with_reducible refine below_drewN ?_ _) | (with_reducible refine Below.setCell ?_ ?_ _) | (with_reducible refine Below.trans ?_ (Below.mono (by with_reducible assumption) ?_)) | (with_reducible exact Below.size (by with_reducible assumption)) | go_size))); have hz_hb1 := hb1.size; (try simp at hz_hb1); (try simp only [Nat.add_one_le_iff] at hz_hb1); have hz0_hb1 : w.heap.size < w1.heap.size := (by omega)
    go_wp2_with fail
    go_ret2
    exact ⟨_, [], rfl, ownRs_nil _ _, by (repeat' (first | (with_reducible exact Below.refl _ _) | (with_reducible assumption) | (with_reducible refine Below.alloc ?_ ?_ _) | (with_reducible refine Below.drew ?_) | (with_reducible refine below_drewN ?_ _) | (with_reducible refine Below.setCell ?_ ?_ _) | (with_reducible refine Below.trans ?_ (Below.mono (by with_reducible assumption) ?_)) | (with_reducible exact Below.size (by with_reducible assumption)) | go_size))⟩
end Go.Proofs.Ytgncaploccbfnaa.PW
