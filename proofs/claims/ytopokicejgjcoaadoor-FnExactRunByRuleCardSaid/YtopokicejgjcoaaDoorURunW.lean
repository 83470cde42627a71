/-
  Walks: a run by a rule, in the program.
-/
import Derived.Test.YtopokicejgjcoaaDoorUStep
import Derived.Test.YtopokicejgjcoaaDoorPWalkQ
import Derived.Test.YtopokicejgjcoaaDoorPSolF
import Derived.ScopeJumps
import Derived.WalkMore
namespace Go.Proofs.YtopokicejgjcoaaDoor.PW
open Go.RowKit Go.Proofs.YtopokicejgjcoaaDoor
open Go.Proofs.YtopokicejgjcoaaDoor.PM Go.Proofs.YtopokicejgjcoaaDoor.PX

/-- A scope whose run jumps back to a label: from the label on, once for all passes. -/
theorem wp_scope_top {P : Program} {pre R : Code} {Q : Exit → Act → World → Prop} {a : Act} {w : World} (l : Nat) (J : Act → World → Prop) (μ : Act → World → Nat) (hpre : findLabel pre l = none)
    (start : pre.wp P (Exit.then J (fun _ _ _ => False)) a w)
    (pass : ∀ a w, J a w → R.wp P (Exit.jump l (fun a' w' => J a' w' ∧ μ a' w' < μ a w) Q) a w) :
    (Code.scope (pre.seq ((Code.label l).seq R))).wp P Q a w := by
  refine wp_scope_jumps l J μ (rest := Code.skip.seq R) (by simp [findLabel, hpre]) ?_ ?_
  · refine wp_seq (Code.wp_mono ?_ start)
    intro e a w q
    cases e with
    | normal =>
      refine wp_seq (wp_label ?_)
      refine Code.wp_mono ?_ (pass a w q)
      intro e a w q
      cases e with
      | goto l' => exact ⟨q.1, q.2.1⟩
      | normal => exact q
      | exit id => exact q
      | ret => exact q
      | panic ch => exact q
      | outgrown => exact q
    | exit id => exact q.elim
    | goto l' => exact q.elim
    | ret => exact q.elim
    | panic ch => exact q.elim
    | outgrown => exact q.elim
  · intro a w h
    exact wp_seq (wp_skip (pass a w h))

theorem implPoint_lo (m q : Value) (M : List (List Int)) (Q : List Int) (s : Int) (w : World) (h1 : PM.Rows w m M) (h2 : Ints w q Q) (h : setCode M Q s = 0) (hp : isPB M Q = true) (hD : dt M.length (colS M s) ≠ 0) :
    Calls Tryd.prog 80 #[.agg #[m, q], .int .i64 s] w fun e w' => ∃ g c, e = .returned (.tuple #[.slice (some ⟨g, 0, none⟩) M.length c, .int .i64 0]) ∧ g < w'.heap.size ∧ w.heap.size ≤ g ∧ OwnF w' (.slice (some ⟨g, 0, none⟩) M.length c) (ptL M Q s) ∧ Below w.heap.size w w' := by
  have f1 := (isPB_facts hp).1
  have hl := ptL_length M Q s
  refine (implPointOf_any m q M Q s w h1 h2).mono ?_
  rw [ptOut_ok h hD]
  rintro e w1 ho
  obtain ⟨a3, c3, rfl, hr, hb1⟩ := ho.out
  dsimp only at hr ⊢
  have hown := hr.own
  have hat := hr.at_
  rw [hl] at hown hat ⊢
  obtain ⟨g, hg, hgl⟩ : ∃ g, a3 = some ⟨g, 0, none⟩ ∧ g < w1.heap.size := by
    rcases hown.cases with ⟨hv, hn⟩ | ⟨g, cap, hv, hlt⟩
    · rw [hn] at hl; simp at hl; omega
    · simp at hv; exact ⟨g, hv.1, hlt⟩
  subst hg
  exact ⟨g, c3, rfl, hgl, (hat g (by simp [Value.ownBlock])).1, hown, hb1⟩
theorem urow_any {w w' : World} {v : Value} {xs : List Int} (h : OwnI w v xs) (ht : ∀ b, v.ownBlock = some b → w'.heap[b]? = w.heap[b]?) : OwnI w' v xs := by
  refine ⟨h.1, ?_⟩
  rcases h.2 with h2 | ⟨g, cap, cur, hv, hb, hg, r⟩
  · exact .inl h2
  · exact .inr ⟨g, cap, cur, hv, hb, by rw [ht g (by rw [hv]; rfl)]; exact hg, r⟩
theorem urng_nil (lo hi : Nat) (w : World) : RngI lo hi w (.slice none 0 0) [] := ⟨World.ownsRow_nil _ _ _ _, fun b hb => by simp [Value.ownBlock] at hb⟩
theorem urng_push {B C g cap n : Nat} {wr w4 : World} {v : Value} {xs : List Int} {x : Int} {t : TypeId} (h : RngI B wr.heap.size wr v xs) (hB : B ≤ wr.heap.size) (hn : n = xs.length)
    (hown : w4.ownsRow C 2 1 (.slice (some ⟨g, 0, none⟩) (n + 1) cap) (n + 1) (xs.map (Value.int .i64) ++ [.int .i64 x])) (hat : v.ownBlock = some g ∨ g = (wr.alloc (.cells #[.int .i64 x] t)).heap.size) (hlt : g < w4.heap.size) :
    RngI B w4.heap.size w4 (.slice (some ⟨g, 0, none⟩) (n + 1) cap) (xs ++ [x]) := by
  subst hn
  refine ⟨?_, fun b hb => ?_⟩
  · have := own_base' hown
    unfold OwnI
    simpa using this
  · simp [Value.ownBlock] at hb
    subst hb
    rcases hat with h1 | h1
    · have := h.at_ _ h1; omega
    · rw [h1] at hlt ⊢; simp at hlt ⊢; omega
theorem urng_wide {B hi hi' : Nat} {w : World} {v : Value} {xs : List Int} (h : RngI B hi w v xs) (hh : hi ≤ hi') : RngI B hi' w v xs := ⟨h.own, fun b hb => by have := h.at_ b hb; omega⟩
theorem urng_low {B B' hi : Nat} {w : World} {v : Value} {xs : List Int} (h : RngI B hi w v xs) (hh : B' ≤ B) : RngI B' hi w v xs := ⟨h.own, fun b hb => by have := h.at_ b hb; omega⟩

theorem urng_set {lo hi b o : Nat} {w : World} {v u : Value} {xs : List Int} (h : RngI lo hi w v xs) (hb : b < lo) : RngI lo hi (w.setCell ⟨b, o, none⟩ u) v xs :=
  ⟨urow_any h.own (fun c hc => Below.heap_setCell _ _ _ _ (by have := h.at_ c hc; show c ≠ b; omega)), h.at_⟩
theorem urngF_set {lo hi b o : Nat} {w : World} {v u : Value} {xs : List (Int × Int)} (h : RngF lo hi w v xs) (hb : b < lo) : RngF lo hi (w.setCell ⟨b, o, none⟩ u) v xs :=
  ⟨ownF_any h.own (fun c hc => Below.heap_setCell _ _ _ _ (by have := h.at_ c hc; show c ≠ b; omega)), h.at_⟩
/-- What lies in memory while a run goes on: the problem's box, the place of the result, the run, its list of sets. -/
structure RunW (w wr : World) (m q v : Value) (S : List Int) (e : Int) (z : Value) : Prop where
  below : Below w.heap.size w wr
  b0 : wr.cell? ⟨w.heap.size, 0, none⟩ = some m
  b1 : wr.cell? ⟨w.heap.size, 1, none⟩ = some q
  r0 : wr.cell? ⟨w.heap.size + 1, 0, none⟩ = some (.slice none 0 0)
  r1 : wr.cell? ⟨w.heap.size + 1, 1, none⟩ = some (.int .i64 0)
  r2 : wr.cell? ⟨w.heap.size + 1, 2, none⟩ = some (.slice none 0 0)
  v0 : wr.cell? ⟨w.heap.size + 1 + 1, 0, none⟩ = some v
  v1 : wr.cell? ⟨w.heap.size + 1 + 1, 1, none⟩ = some (.int .i64 e)
  v2 : wr.cell? ⟨w.heap.size + 1 + 1, 2, none⟩ = some z
  fr : ∀ o, wr.frozen? ⟨w.heap.size + 1, o, none⟩ = false
  fv : ∀ o, wr.frozen? ⟨w.heap.size + 1 + 1, o, none⟩ = false
  own : RngI (w.heap.size + 1 + 1 + 1) wr.heap.size wr v S
theorem RunW.big {w wr : World} {m q v z : Value} {S : List Int} {e : Int} (h : RunW w wr m q v S e z) : w.heap.size + 1 + 1 < wr.heap.size := World.block_lt_of_cell? wr _ h.v0
theorem RunW.keep {w wr w' : World} {m q v z : Value} {S : List Int} {e : Int} (h : RunW w wr m q v S e z) (hb : Below wr.heap.size wr w') : RunW w w' m q v S e z := by
  have hz := h.big
  obtain ⟨hc, hf⟩ := FW.bcell hb
  exact ⟨h.below.trans (hb.mono h.below.size), (hc _ _ (by omega)).trans h.b0, (hc _ _ (by omega)).trans h.b1, (hc _ _ (by omega)).trans h.r0, (hc _ _ (by omega)).trans h.r1, (hc _ _ (by omega)).trans h.r2, (hc _ _ (by omega)).trans h.v0, (hc _ _ (by omega)).trans h.v1, (hc _ _ (by omega)).trans h.v2,
    fun o => (hf _ _ (by omega)).trans (h.fr o), fun o => (hf _ _ (by omega)).trans (h.fv o), urng_wide (h.own.below hb (Nat.le_refl _)) hb.size⟩
/-- A set is appended. -/
theorem RunW.push {w wr w4 : World} {m q v z : Value} {S : List Int} {e x : Int} {C g cap n : Nat} {t : TypeId} (h : RunW w wr m q v S e z) (hn : n = S.length)
    (hown : w4.ownsRow C 2 1 (.slice (some ⟨g, 0, none⟩) (n + 1) cap) (n + 1) (S.map (Value.int .i64) ++ [.int .i64 x])) (hgrow : (wr.alloc (.cells #[.int .i64 x] t)).grownBy w4 v.ownBlock)
    (hat : v.ownBlock = some g ∨ g = (wr.alloc (.cells #[.int .i64 x] t)).heap.size) (hlt : g < w4.heap.size) :
    (w4.cell? ⟨w.heap.size + 1 + 1, 0, none⟩ = some v ∧ w4.frozen? ⟨w.heap.size + 1 + 1, 0, none⟩ = false ∧ w4.cell? ⟨w.heap.size, 0, none⟩ = some m ∧ w4.cell? ⟨w.heap.size, 1, none⟩ = some q) ∧ RunW w (w4.setCell ⟨w.heap.size + 1 + 1, 0, none⟩ (.slice (some ⟨g, 0, none⟩) (n + 1) cap)) m q (.slice (some ⟨g, 0, none⟩) (n + 1) cap) (S ++ [x]) e z := by
  have hz := h.big
  have hb : Below (w.heap.size + 1 + 1 + 1) wr w4 := ((Below.refl _ _).alloc (by omega) _).grown hgrow (by simp; omega) (fun b hb' => (h.own.at_ b hb').1)
  have hr := urng_push h.own (by omega) hn hown hat hlt
  have hg1 : w.heap.size + 1 + 1 + 1 ≤ g := (hr.at_ g (by simp [Value.ownBlock])).1
  obtain ⟨hc, hf⟩ : (∀ b o, b < w.heap.size + 1 + 1 + 1 → w4.cell? ⟨b, o, none⟩ = wr.cell? ⟨b, o, none⟩) ∧ (∀ b o, b < w.heap.size + 1 + 1 + 1 → w4.frozen? ⟨b, o, none⟩ = wr.frozen? ⟨b, o, none⟩) :=
    ⟨fun b o hb' => hb.cell (p := ⟨b, o, none⟩) hb', fun b o hb' => hb.frozen (p := ⟨b, o, none⟩) hb'⟩
  have e0 := (hc (w.heap.size + 1 + 1) 0 (by omega)).trans h.v0
  have e1 := (hc (w.heap.size + 1 + 1) 1 (by omega)).trans h.v1
  have e2 := (hc (w.heap.size + 1 + 1) 2 (by omega)).trans h.v2
  have e3 := fun o => (hf (w.heap.size + 1 + 1) o (by omega)).trans (h.fv o)
  have k0 := (hc w.heap.size 0 (by omega)).trans h.b0
  have k1 := (hc w.heap.size 1 (by omega)).trans h.b1
  have k2 := (hc (w.heap.size + 1) 0 (by omega)).trans h.r0
  have k3 := (hc (w.heap.size + 1) 1 (by omega)).trans h.r1
  have k4 := (hc (w.heap.size + 1) 2 (by omega)).trans h.r2
  have k5 := fun o => (hf (w.heap.size + 1) o (by omega)).trans (h.fr o)
  refine ⟨⟨e0, e3 0, k0, k1⟩, ⟨((h.below.trans (hb.mono (by omega)))).setCell (by simp; omega) _, ?_, ?_, ?_, ?_, ?_, ?_, ?_, ?_, ?_, ?_, ?_⟩⟩
  · simp [k0, go_sem]
  · simp [k1, go_sem]
  · simp [k2, go_sem]
  · simp [k3, go_sem]
  · simp [k4, go_sem]
  · simp [e0, go_sem]
  · simp [e1, go_sem]
  · simp [e2, go_sem]
  · intro o; simp [k5, go_sem]
  · intro o; simp [e3, go_sem]
  · refine ⟨?_, fun b hb' => by have := hr.at_ b hb'; simpa using this⟩
    exact urow_any hr.own (fun b hb' => Below.heap_setCell _ _ _ _ (by simp [Value.ownBlock] at hb'; show b ≠ w.heap.size + 1 + 1; omega))
theorem RunW.ended {w wr : World} {m q v z : Value} {S : List Int} {e : Int} (h : RunW w wr m q v S e z) (e' : Int) : RunW w (wr.setCell ⟨w.heap.size + 1 + 1, 1, none⟩ (.int .i64 e')) m q v S e' z := by
  have h0 := h.b0; have h1 := h.b1; have h2 := h.r0; have h3 := h.r1; have h4 := h.r2; have h5 := h.v0; have h6 := h.v1; have h7 := h.v2; have h8 := h.fr; have h9 := h.fv
  refine ⟨h.below.setCell (by simp; omega) _, ?_, ?_, ?_, ?_, ?_, ?_, ?_, ?_, ?_, ?_, ?_⟩
  · simp [h0, go_sem]
  · simp [h1, go_sem]
  · simp [h2, go_sem]
  · simp [h3, go_sem]
  · simp [h4, go_sem]
  · simp [h5, go_sem]
  · simp [h6, go_sem]
  · simp [h7, go_sem]
  · intro o; simp [h8, go_sem]
  · intro o; simp [h9, go_sem]
  · refine ⟨?_, fun b hb' => by have := h.own.at_ b hb'; simpa using this⟩
    exact urow_any h.own.own (fun b hb' => Below.heap_setCell _ _ _ _ (by have := h.own.at_ b hb'; show b ≠ w.heap.size + 1 + 1; omega))
theorem RunW.solved {w wr : World} {m q v z : Value} {S : List Int} {e : Int} (h : RunW w wr m q v S e z) (z' : Value) : RunW w (wr.setCell ⟨w.heap.size + 1 + 1, 2, none⟩ z') m q v S e z' := by
  have h0 := h.b0; have h1 := h.b1; have h2 := h.r0; have h3 := h.r1; have h4 := h.r2; have h5 := h.v0; have h6 := h.v1; have h7 := h.v2; have h8 := h.fr; have h9 := h.fv
  refine ⟨h.below.setCell (by simp; omega) _, ?_, ?_, ?_, ?_, ?_, ?_, ?_, ?_, ?_, ?_, ?_⟩
  · simp [h0, go_sem]
  · simp [h1, go_sem]
  · simp [h2, go_sem]
  · simp [h3, go_sem]
  · simp [h4, go_sem]
  · simp [h5, go_sem]
  · simp [h6, go_sem]
  · simp [h7, go_sem]
  · intro o; simp [h8, go_sem]
  · intro o; simp [h9, go_sem]
  · refine ⟨?_, fun b hb' => by have := h.own.at_ b hb'; simpa using this⟩
    exact urow_any h.own.own (fun b hb' => Below.heap_setCell _ _ _ _ (by have := h.own.at_ b hb'; show b ≠ w.heap.size + 1 + 1; omega))
theorem RunW.fin {w wr : World} {m q v z : Value} {S : List Int} {e : Int} (h : RunW w wr m q v S e z) (x y u : Value) :
    RngI w.heap.size (((wr.setCell ⟨w.heap.size + 1, 0, none⟩ x).setCell ⟨w.heap.size + 1, 1, none⟩ y).setCell ⟨w.heap.size + 1, 2, none⟩ u).heap.size (((wr.setCell ⟨w.heap.size + 1, 0, none⟩ x).setCell ⟨w.heap.size + 1, 1, none⟩ y).setCell ⟨w.heap.size + 1, 2, none⟩ u) v S ∧
    Below w.heap.size w (((wr.setCell ⟨w.heap.size + 1, 0, none⟩ x).setCell ⟨w.heap.size + 1, 1, none⟩ y).setCell ⟨w.heap.size + 1, 2, none⟩ u) := by
  refine ⟨?_, ((h.below.setCell (by simp) _).setCell (by simp) _).setCell (by simp) _⟩
  have h1 := urng_set (b := w.heap.size + 1) (o := 0) (u := x) h.own (by omega)
  have h2 := urng_set (b := w.heap.size + 1) (o := 1) (u := y) h1 (by omega)
  have h3 := urng_set (b := w.heap.size + 1) (o := 2) (u := u) h2 (by omega)
  exact ⟨h3.own, fun b hb => by have := h3.at_ b hb; simp; omega⟩
theorem RunW.finF {w wr : World} {v : Value} {xs : List (Int × Int)} (h : RngF (w.heap.size + 1 + 1 + 1) wr.heap.size wr v xs) (x y u : Value) :
    RngF w.heap.size (((wr.setCell ⟨w.heap.size + 1, 0, none⟩ x).setCell ⟨w.heap.size + 1, 1, none⟩ y).setCell ⟨w.heap.size + 1, 2, none⟩ u).heap.size (((wr.setCell ⟨w.heap.size + 1, 0, none⟩ x).setCell ⟨w.heap.size + 1, 1, none⟩ y).setCell ⟨w.heap.size + 1, 2, none⟩ u) v xs := by
  have h1 := urngF_set (b := w.heap.size + 1) (o := 0) (u := x) h (by omega)
  have h2 := urngF_set (b := w.heap.size + 1) (o := 1) (u := y) h1 (by omega)
  have h3 := urngF_set (b := w.heap.size + 1) (o := 2) (u := u) h2 (by omega)
  exact ⟨h3.own, fun b hb => by have := h3.at_ b hb; simp; omega⟩
end Go.Proofs.YtopokicejgjcoaaDoor.PW
