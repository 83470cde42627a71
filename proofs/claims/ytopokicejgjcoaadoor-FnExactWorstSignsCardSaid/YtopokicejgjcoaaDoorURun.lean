/-
  Walks: a run by a rule, in the program.
  Walks: a run by a rule, in the program: the machine.
-/
import Derived.Test.YtopokicejgjcoaaDoorUStep
import Derived.Test.YtopokicejgjcoaaDoorPWalkQ
import Derived.Test.YtopokicejgjcoaaDoorPSolF
import Derived.ScopeJumps
import Derived.WalkMore
namespace Go.Proofs.YtopokicejgjcoaaDoor.PW
open Go.RowKit Go.Proofs.YtopokicejgjcoaaDoor
open Go.Proofs.YtopokicejgjcoaaDoor.PM Go.Proofs.YtopokicejgjcoaaDoor.PX

/-- A scope whose run jumps back to a label: from the label on, once for all passes. -/
theorem wp_scope_top {P : Program} {pre R : Code} {Q : Exit → Act → World → Prop} {a : Act} {w : World} (l : Nat) (J : Act → World → Prop) (μ : Act → World → Nat) (hpre : findLabel pre l = none)
    (start : pre.wp P (Exit.then J (fun _ _ _ => False)) a w)
    (pass : ∀ a w, J a w → R.wp P (Exit.jump l (fun a' w' => J a' w' ∧ μ a' w' < μ a w) Q) a w) :
    (Code.scope (pre.seq ((Code.label l).seq R))).wp P Q a w := by
  refine wp_scope_jumps l J μ (rest := Code.skip.seq R) (by simp [findLabel, hpre]) ?_ ?_
  · refine wp_seq (Code.wp_mono ?_ start)
    intro e a w q
    cases e with
    | normal =>
      refine wp_seq (wp_label ?_)
      refine Code.wp_mono ?_ (pass a w q)
      intro e a w q
      cases e with
      | goto l' => exact ⟨q.1, q.2.1⟩
      | normal => exact q
      | exit id => exact q
      | ret => exact q
      | panic ch => exact q
      | outgrown => exact q
    | exit id => exact q.elim
    | goto l' => exact q.elim
    | ret => exact q.elim
    | panic ch => exact q.elim
    | outgrown => exact q.elim
  · intro a w h
    exact wp_seq (wp_skip (pass a w h))

theorem implPoint_lo (m q : Value) (M : List (List Int)) (Q : List Int) (s : Int) (w : World) (h1 : PM.Rows w m M) (h2 : Ints w q Q) (h : setCode M Q s = 0) (hp : isPB M Q = true) (hD : dt M.length (colS M s) ≠ 0) :
    Calls Tryd.prog 80 #[.agg #[m, q], .int .i64 s] w fun e w' => ∃ g c, e = .returned (.tuple #[.slice (some ⟨g, 0, none⟩) M.length c, .int .i64 0]) ∧ g < w'.heap.size ∧ w.heap.size ≤ g ∧ OwnF w' (.slice (some ⟨g, 0, none⟩) M.length c) (ptL M Q s) ∧ Below w.heap.size w w' := by
  have f1 := (isPB_facts hp).1
  have hl := ptL_length M Q s
  refine (implPointOf_any m q M Q s w h1 h2).mono ?_
  rw [ptOut_ok h hD]
  rintro e w1 ho
  obtain ⟨a3, c3, rfl, hr, hb1⟩ := ho.out
  dsimp only at hr ⊢
  have hown := hr.own
  have hat := hr.at_
  rw [hl] at hown hat ⊢
  obtain ⟨g, hg, hgl⟩ : ∃ g, a3 = some ⟨g, 0, none⟩ ∧ g < w1.heap.size := by
    rcases hown.cases with ⟨hv, hn⟩ | ⟨g, cap, hv, hlt⟩
    · rw [hn] at hl; simp at hl; omega
    · simp at hv; exact ⟨g, hv.1, hlt⟩
  subst hg
  exact ⟨g, c3, rfl, hgl, (hat g (by simp [Value.ownBlock])).1, hown, hb1⟩
theorem urow_any {w w' : World} {v : Value} {xs : List Int} (h : OwnI w v xs) (ht : ∀ b, v.ownBlock = some b → w'.heap[b]? = w.heap[b]?) : OwnI w' v xs := by
  refine ⟨h.1, ?_⟩
  rcases h.2 with h2 | ⟨g, cap, cur, hv, hb, hg, r⟩
  · exact .inl h2
  · exact .inr ⟨g, cap, cur, hv, hb, by rw [ht g (by rw [hv]; rfl)]; exact hg, r⟩
theorem urng_nil (lo hi : Nat) (w : World) : RngI lo hi w (.slice none 0 0) [] := ⟨World.ownsRow_nil _ _ _ _, fun b hb => by simp [Value.ownBlock] at hb⟩
theorem urng_push {B C g cap n : Nat} {wr w4 : World} {v : Value} {xs : List Int} {x : Int} {t : TypeId} (h : RngI B wr.heap.size wr v xs) (hB : B ≤ wr.heap.size) (hn : n = xs.length)
    (hown : w4.ownsRow C 2 1 (.slice (some ⟨g, 0, none⟩) (n + 1) cap) (n + 1) (xs.map (Value.int .i64) ++ [.int .i64 x])) (hat : v.ownBlock = some g ∨ g = (wr.alloc (.cells #[.int .i64 x] t)).heap.size) (hlt : g < w4.heap.size) :
    RngI B w4.heap.size w4 (.slice (some ⟨g, 0, none⟩) (n + 1) cap) (xs ++ [x]) := by
  subst hn
  refine ⟨?_, fun b hb => ?_⟩
  · have := own_base' hown
    unfold OwnI
    simpa using this
  · simp [Value.ownBlock] at hb
    subst hb
    rcases hat with h1 | h1
    · have := h.at_ _ h1; omega
    · rw [h1] at hlt ⊢; simp at hlt ⊢; omega
theorem urng_wide {B hi hi' : Nat} {w : World} {v : Value} {xs : List Int} (h : RngI B hi w v xs) (hh : hi ≤ hi') : RngI B hi' w v xs := ⟨h.own, fun b hb => by have := h.at_ b hb; omega⟩
theorem urng_low {B B' hi : Nat} {w : World} {v : Value} {xs : List Int} (h : RngI B hi w v xs) (hh : B' ≤ B) : RngI B' hi w v xs := ⟨h.own, fun b hb => by have := h.at_ b hb; omega⟩

theorem urng_set {lo hi b o : Nat} {w : World} {v u : Value} {xs : List Int} (h : RngI lo hi w v xs) (hb : b < lo) : RngI lo hi (w.setCell ⟨b, o, none⟩ u) v xs :=
  ⟨urow_any h.own (fun c hc => Below.heap_setCell _ _ _ _ (by have := h.at_ c hc; show c ≠ b; omega)), h.at_⟩
theorem urngF_set {lo hi b o : Nat} {w : World} {v u : Value} {xs : List (Int × Int)} (h : RngF lo hi w v xs) (hb : b < lo) : RngF lo hi (w.setCell ⟨b, o, none⟩ u) v xs :=
  ⟨ownF_any h.own (fun c hc => Below.heap_setCell _ _ _ _ (by have := h.at_ c hc; show c ≠ b; omega)), h.at_⟩
/-- What lies in memory while a run goes on: the problem's box, the place of the result, the run, its list of sets. -/
structure RunW (w wr : World) (m q v : Value) (S : List Int) (e : Int) (z : Value) : Prop where
  below : Below w.heap.size w wr
  b0 : wr.cell? ⟨w.heap.size, 0, none⟩ = some m
  b1 : wr.cell? ⟨w.heap.size, 1, none⟩ = some q
  r0 : wr.cell? ⟨w.heap.size + 1, 0, none⟩ = some (.slice none 0 0)
  r1 : wr.cell? ⟨w.heap.size + 1, 1, none⟩ = some (.int .i64 0)
  r2 : wr.cell? ⟨w.heap.size + 1, 2, none⟩ = some (.slice none 0 0)
  v0 : wr.cell? ⟨w.heap.size + 1 + 1, 0, none⟩ = some v
  v1 : wr.cell? ⟨w.heap.size + 1 + 1, 1, none⟩ = some (.int .i64 e)
  v2 : wr.cell? ⟨w.heap.size + 1 + 1, 2, none⟩ = some z
  fr : ∀ o, wr.frozen? ⟨w.heap.size + 1, o, none⟩ = false
  fv : ∀ o, wr.frozen? ⟨w.heap.size + 1 + 1, o, none⟩ = false
  own : RngI (w.heap.size + 1 + 1 + 1) wr.heap.size wr v S
theorem RunW.big {w wr : World} {m q v z : Value} {S : List Int} {e : Int} (h : RunW w wr m q v S e z) : w.heap.size + 1 + 1 < wr.heap.size := World.block_lt_of_cell? wr _ h.v0
theorem RunW.keep {w wr w' : World} {m q v z : Value} {S : List Int} {e : Int} (h : RunW w wr m q v S e z) (hb : Below wr.heap.size wr w') : RunW w w' m q v S e z := by
  have hz := h.big
  obtain ⟨hc, hf⟩ := FW.bcell hb
  exact ⟨h.below.trans (hb.mono h.below.size), (hc _ _ (by omega)).trans h.b0, (hc _ _ (by omega)).trans h.b1, (hc _ _ (by omega)).trans h.r0, (hc _ _ (by omega)).trans h.r1, (hc _ _ (by omega)).trans h.r2, (hc _ _ (by omega)).trans h.v0, (hc _ _ (by omega)).trans h.v1, (hc _ _ (by omega)).trans h.v2,
    fun o => (hf _ _ (by omega)).trans (h.fr o), fun o => (hf _ _ (by omega)).trans (h.fv o), urng_wide (h.own.below hb (Nat.le_refl _)) hb.size⟩
/-- A set is appended. -/
theorem RunW.push {w wr w4 : World} {m q v z : Value} {S : List Int} {e x : Int} {C g cap n : Nat} {t : TypeId} (h : RunW w wr m q v S e z) (hn : n = S.length)
    (hown : w4.ownsRow C 2 1 (.slice (some ⟨g, 0, none⟩) (n + 1) cap) (n + 1) (S.map (Value.int .i64) ++ [.int .i64 x])) (hgrow : (wr.alloc (.cells #[.int .i64 x] t)).grownBy w4 v.ownBlock)
    (hat : v.ownBlock = some g ∨ g = (wr.alloc (.cells #[.int .i64 x] t)).heap.size) (hlt : g < w4.heap.size) :
    (w4.cell? ⟨w.heap.size + 1 + 1, 0, none⟩ = some v ∧ w4.frozen? ⟨w.heap.size + 1 + 1, 0, none⟩ = false ∧ w4.cell? ⟨w.heap.size, 0, none⟩ = some m ∧ w4.cell? ⟨w.heap.size, 1, none⟩ = some q) ∧ RunW w (w4.setCell ⟨w.heap.size + 1 + 1, 0, none⟩ (.slice (some ⟨g, 0, none⟩) (n + 1) cap)) m q (.slice (some ⟨g, 0, none⟩) (n + 1) cap) (S ++ [x]) e z := by
  have hz := h.big
  have hb : Below (w.heap.size + 1 + 1 + 1) wr w4 := ((Below.refl _ _).alloc (by omega) _).grown hgrow (by simp; omega) (fun b hb' => (h.own.at_ b hb').1)
  have hr := urng_push h.own (by omega) hn hown hat hlt
  have hg1 : w.heap.size + 1 + 1 + 1 ≤ g := (hr.at_ g (by simp [Value.ownBlock])).1
  obtain ⟨hc, hf⟩ : (∀ b o, b < w.heap.size + 1 + 1 + 1 → w4.cell? ⟨b, o, none⟩ = wr.cell? ⟨b, o, none⟩) ∧ (∀ b o, b < w.heap.size + 1 + 1 + 1 → w4.frozen? ⟨b, o, none⟩ = wr.frozen? ⟨b, o, none⟩) :=
    ⟨fun b o hb' => hb.cell (p := ⟨b, o, none⟩) hb', fun b o hb' => hb.frozen (p := ⟨b, o, none⟩) hb'⟩
  have e0 := (hc (w.heap.size + 1 + 1) 0 (by omega)).trans h.v0
  have e1 := (hc (w.heap.size + 1 + 1) 1 (by omega)).trans h.v1
  have e2 := (hc (w.heap.size + 1 + 1) 2 (by omega)).trans h.v2
  have e3 := fun o => (hf (w.heap.size + 1 + 1) o (by omega)).trans (h.fv o)
  have k0 := (hc w.heap.size 0 (by omega)).trans h.b0
  have k1 := (hc w.heap.size 1 (by omega)).trans h.b1
  have k2 := (hc (w.heap.size + 1) 0 (by omega)).trans h.r0
  have k3 := (hc (w.heap.size + 1) 1 (by omega)).trans h.r1
  have k4 := (hc (w.heap.size + 1) 2 (by omega)).trans h.r2
  have k5 := fun o => (hf (w.heap.size + 1) o (by omega)).trans (h.fr o)
  refine ⟨⟨e0, e3 0, k0, k1⟩, ⟨((h.below.trans (hb.mono (by omega)))).setCell (by simp; omega) _, ?_, ?_, ?_, ?_, ?_, ?_, ?_, ?_, ?_, ?_, ?_⟩⟩
  · simp [k0, go_sem]
  · simp [k1, go_sem]
  · simp [k2, go_sem]
  · simp [k3, go_sem]
  · simp [k4, go_sem]
  · simp [e0, go_sem]
  · simp [e1, go_sem]
  · simp [e2, go_sem]
  · intro o; simp [k5, go_sem]
  · intro o; simp [e3, go_sem]
  · refine ⟨?_, fun b hb' => by have := hr.at_ b hb'; simpa using this⟩
    exact urow_any hr.own (fun b hb' => Below.heap_setCell _ _ _ _ (by simp [Value.ownBlock] at hb'; show b ≠ w.heap.size + 1 + 1; omega))
theorem RunW.ended {w wr : World} {m q v z : Value} {S : List Int} {e : Int} (h : RunW w wr m q v S e z) (e' : Int) : RunW w (wr.setCell ⟨w.heap.size + 1 + 1, 1, none⟩ (.int .i64 e')) m q v S e' z := by
  have h0 := h.b0; have h1 := h.b1; have h2 := h.r0; have h3 := h.r1; have h4 := h.r2; have h5 := h.v0; have h6 := h.v1; have h7 := h.v2; have h8 := h.fr; have h9 := h.fv
  refine ⟨h.below.setCell (by simp; omega) _, ?_, ?_, ?_, ?_, ?_, ?_, ?_, ?_, ?_, ?_, ?_⟩
  · simp [h0, go_sem]
  · simp [h1, go_sem]
  · simp [h2, go_sem]
  · simp [h3, go_sem]
  · simp [h4, go_sem]
  · simp [h5, go_sem]
  · simp [h6, go_sem]
  · simp [h7, go_sem]
  · intro o; simp [h8, go_sem]
  · intro o; simp [h9, go_sem]
  · refine ⟨?_, fun b hb' => by have := h.own.at_ b hb'; simpa using this⟩
    exact urow_any h.own.own (fun b hb' => Below.heap_setCell _ _ _ _ (by have := h.own.at_ b hb'; show b ≠ w.heap.size + 1 + 1; omega))
theorem RunW.solved {w wr : World} {m q v z : Value} {S : List Int} {e : Int} (h : RunW w wr m q v S e z) (z' : Value) : RunW w (wr.setCell ⟨w.heap.size + 1 + 1, 2, none⟩ z') m q v S e z' := by
  have h0 := h.b0; have h1 := h.b1; have h2 := h.r0; have h3 := h.r1; have h4 := h.r2; have h5 := h.v0; have h6 := h.v1; have h7 := h.v2; have h8 := h.fr; have h9 := h.fv
  refine ⟨h.below.setCell (by simp; omega) _, ?_, ?_, ?_, ?_, ?_, ?_, ?_, ?_, ?_, ?_, ?_⟩
  · simp [h0, go_sem]
  · simp [h1, go_sem]
  · simp [h2, go_sem]
  · simp [h3, go_sem]
  · simp [h4, go_sem]
  · simp [h5, go_sem]
  · simp [h6, go_sem]
  · simp [h7, go_sem]
  · intro o; simp [h8, go_sem]
  · intro o; simp [h9, go_sem]
  · refine ⟨?_, fun b hb' => by have := h.own.at_ b hb'; simpa using this⟩
    exact urow_any h.own.own (fun b hb' => Below.heap_setCell _ _ _ _ (by have := h.own.at_ b hb'; show b ≠ w.heap.size + 1 + 1; omega))
theorem RunW.fin {w wr : World} {m q v z : Value} {S : List Int} {e : Int} (h : RunW w wr m q v S e z) (x y u : Value) :
    RngI w.heap.size (((wr.setCell ⟨w.heap.size + 1, 0, none⟩ x).setCell ⟨w.heap.size + 1, 1, none⟩ y).setCell ⟨w.heap.size + 1, 2, none⟩ u).heap.size (((wr.setCell ⟨w.heap.size + 1, 0, none⟩ x).setCell ⟨w.heap.size + 1, 1, none⟩ y).setCell ⟨w.heap.size + 1, 2, none⟩ u) v S ∧
    Below w.heap.size w (((wr.setCell ⟨w.heap.size + 1, 0, none⟩ x).setCell ⟨w.heap.size + 1, 1, none⟩ y).setCell ⟨w.heap.size + 1, 2, none⟩ u) := by
  refine ⟨?_, ((h.below.setCell (by simp) _).setCell (by simp) _).setCell (by simp) _⟩
  have h1 := urng_set (b := w.heap.size + 1) (o := 0) (u := x) h.own (by omega)
  have h2 := urng_set (b := w.heap.size + 1) (o := 1) (u := y) h1 (by omega)
  have h3 := urng_set (b := w.heap.size + 1) (o := 2) (u := u) h2 (by omega)
  exact ⟨h3.own, fun b hb => by have := h3.at_ b hb; simp; omega⟩
theorem RunW.finF {w wr : World} {v : Value} {xs : List (Int × Int)} (h : RngF (w.heap.size + 1 + 1 + 1) wr.heap.size wr v xs) (x y u : Value) :
    RngF w.heap.size (((wr.setCell ⟨w.heap.size + 1, 0, none⟩ x).setCell ⟨w.heap.size + 1, 1, none⟩ y).setCell ⟨w.heap.size + 1, 2, none⟩ u).heap.size (((wr.setCell ⟨w.heap.size + 1, 0, none⟩ x).setCell ⟨w.heap.size + 1, 1, none⟩ y).setCell ⟨w.heap.size + 1, 2, none⟩ u) v xs := by
  have h1 := urngF_set (b := w.heap.size + 1) (o := 0) (u := x) h (by omega)
  have h2 := urngF_set (b := w.heap.size + 1) (o := 1) (u := y) h1 (by omega)
  have h3 := urngF_set (b := w.heap.size + 1) (o := 2) (u := u) h2 (by omega)
  exact ⟨h3.own, fun b hb => by have := h3.at_ b hb; simp; omega⟩
end Go.Proofs.YtopokicejgjcoaaDoor.PW
namespace Go.Proofs.YtopokicejgjcoaaDoor.PW
open Go.RowKit Go.Proofs.YtopokicejgjcoaaDoor
open Go.Proofs.YtopokicejgjcoaaDoor.PM Go.Proofs.YtopokicejgjcoaaDoor.PX

def lenV : Option Value → Nat | some (.slice _ n _) => n | _ => 0
/-- What a run leaves. -/
def OutRun (M : List (List Int)) (Q : List Int) (w : World) (o : List Int × Int) (e : Ending) (w' : World) : Prop :=
  ∃ v z, e = .returned (.agg #[v, .int .i64 o.2, z]) ∧ RngI w.heap.size w'.heap.size w' v o.1 ∧ (o.2 ≠ 0 → z = .slice none 0 0) ∧
    (o.2 = 0 → ∃ T t, o.1 = T ++ [t] ∧ 0 ≤ t ∧ t < 2 ^ M.length ∧ dt M.length (colS M t) ≠ 0 ∧ nonneg (ptL M Q t) = true ∧ RngF w.heap.size w'.heap.size w' z (solL M Q t)) ∧ Below w.heap.size w w'
theorem wrap64_in (x : Int) (h0 : 0 ≤ x) (h1 : x < 32) : wrap64 x = x := by unfold wrap64; omega

set_option maxRecDepth 100000 in
set_option maxHeartbeats 4000000 in
theorem runFrom_0 (m q : Value) (M : List (List Int)) (Q : List Int) (s r : Int) (w : World) (hT : Tab8 w) (h1 : PM.Rows w m M) (h2 : Ints w q Q) (hp : isPB M Q = true) (hs0 : 0 ≤ s) (hs1 : s < 2 ^ M.length) (hr : ruleF r = 114) :
    Calls Tryd.prog 84 #[.agg #[m, q], .int .i64 s, .func (.func 114) #[] #[]] w (OutRun M Q w (runO M Q r 33 [] s)) := by
  have g1 := fun (w' : World) (h : Below w.heap.size w w') => h1.below h
  have g2 := fun (w' : World) (h : Below w.heap.size w w') => h2.below h
  have gt := fun (w' : World) (h : Below w.heap.size w w') => hT.below h
  clear hT
  obtain ⟨a1, c1, rfl, _⟩ := h1
  obtain ⟨a2, c2, rfl, _⟩ := h2
  have f1 := (isPB_facts hp).1
  have f2 := (isPB_facts hp).2.1
  have HP := Lib.hid hp
  have HMF := Lib.hid (Met.first hs0 hs1)
  have HLL := Lib.hid (fun t => ptL_length M Q t)
  have HLE := Lib.hid (fun t => show (ptL M Q t).length ≤ 1048576 by rw [HLL.out]; omega)
  have HR := Lib.hid (fun (t : Int) (hD : dt M.length (colS M t) ≠ 0) (hneg : negM (ptL M Q t) M.length ≠ 0) (g c : Nat) (w' : World) (hT : Tab8 w') (hv : OwnF w' (.slice (some ⟨g, 0, none⟩) M.length c) (ptL M Q t)) (hg : g < w'.heap.size) =>
    show Calls Tryd.prog 114 _ _ _ from hr ▸ rule_any r g c M.length (ptL M Q t) w' hT hv (HLL.out t).symm hg f1 f2 (fun j hj => ptL_isF hp hD j hj) hneg)
  have HSC : ∀ t, 0 ≤ t → t < 2 ^ M.length → setCode M Q t = 0 := fun t h0 h1 => setCode_ok hp (by omega)
  have HSC := Lib.hid HSC
  obtain ⟨j0, hj, hyy0, hyy1, hyy2⟩ := info_parts info_int
  clear hp hs0 hs1 hr
  go_enter Tryd.func84, Tryd.ntmps84
  go_wp2_with fail
  refine wp_scope_top 0 (fun a' wr => ∃ (k : Nat) (S : List Int) (t : Int) (v : Value) (u8 u9 u10 u11 u12 u13 u14 u15 u16 u17 u18 u19 u20 u21 u22 u23 u24 u25 u26 u27 u28 u29 u30 u31 u32 u33 u34 u35 u36 u37 u38 u39 u40 u41 u42 u43 u44 u45 u46 u47 : Value), a' = { tmps := #[.agg #[.slice a1 M.length c1, .slice a2 Q.length c2], .int .i64 t, .func (.func 114) #[] #[], .pointer (some ⟨w.heap.size, 0, none⟩), undef, undef, .pointer (some ⟨w.heap.size + 1, 0, none⟩), .pointer (some ⟨w.heap.size + 1 + 1, 0, none⟩), u8, u9, u10, u11, u12, u13, u14, u15, u16, u17, u18, u19, u20, u21, u22, u23, u24, u25, u26, u27, u28, u29, u30, u31, u32, u33, u34, u35, u36, u37, u38, u39, u40, u41, u42, u43, u44, u45, u46, u47], defers := [] } ∧ Met M.length S t k ∧ runO M Q r k S t = runO M Q r 33 [] s ∧ RunW w wr (.slice a1 M.length c1) (.slice a2 Q.length c2) v S 0 (.slice none 0 0)) (fun _ w' => 33 - lenV (w'.cell? ⟨w.heap.size + 1 + 1, 0, none⟩)) rfl ?_ ?_
  · go_wp2_with fail
    refine ⟨33, [], s, .slice none 0 0, _, _, _, _, _, _, _, _, _, _, _, _, _, _, _, _, _, _, _, _, _, _, _, _, _, _, _, _, _, _, _, _, _, _, _, _, _, _, _, _, rfl, HMF.out, rfl, ?_⟩
    refine ⟨by (repeat' (first | (with_reducible exact Below.refl _ _) | (with_reducible assumption) | (with_reducible refine Below.alloc ?_ ?_ _) | (with_reducible refine Below.drew ?_) | (with_reducible refine below_drewN ?_ _) | (with_reducible refine Below.setCell ?_ ?_ _) | (with_reducible refine Below.trans ?_ (Below.mono (by with_reducible assumption) ?_)) | (with_reducible exact Below.size (by with_reducible assumption)) | go_size)), ?_, ?_, ?_, ?_, ?_, ?_, ?_, ?_, ?_, ?_, urng_nil _ _ _⟩
    all_goals simp [go_sem]
  · rintro a' wr ⟨k, S, t, v, u8, u9, u10, u11, u12, u13, u14, u15, u16, u17, u18, u19, u20, u21, u22, u23, u24, u25, u26, u27, u28, u29, u30, u31, u32, u33, u34, u35, u36, u37, u38, u39, u40, u41, u42, u43, u44, u45, u46, u47, rfl, hM, hrun, hR⟩

    have hsh := OwnI.shape hR.own.own
    obtain ⟨av, cv, rfl⟩ := hsh
    obtain ⟨j, rfl, hL5⟩ := hM.pos f2
    have HINT := Lib.hid (hR.own.own.ints (fun x hx => by have := hM.inn x hx; have h3 := pow_le_32 f2; have e : (((2 : Nat) ^ M.length : Nat) : Int) = 2 ^ M.length := (by norm_cast); unfold I64; omega))
    have HRUN := Lib.hid hrun
    have HM := Lib.hid hM
    have HRW := Lib.hid hR
    have HOW := Lib.hid hR.own.own
    have v0 := hR.v0
    have b0 := hR.b0
    have b1 := hR.b1
    have fv := hR.fv 0
    have hbg := hR.big
    obtain ⟨L, hL⟩ : ∃ L, L = S.length := ⟨_, rfl⟩
    rw [← hL] at v0 HRW HINT HOW hL5
    have HL := Lib.hid hL
    unfold OwnI at HOW
    rw [← hL] at HOW
    clear hR hM hrun hL
    by_cases hD : dt M.length (colS M t) = 0
    · have HPZ := Lib.hid (fun (w' : World) (hb : Below w.heap.size w w') => implPoint_zero _ _ M Q t w' (g1 _ hb) (g2 _ hb) (HSC.out t HM.out.lo HM.out.hi) hD)
      have HO := Lib.hid (runO_stuck (M := M) (Q := Q) (r := r) (k := j) (S := S) hD)
      clear hD
      go_wp2_with fail
      refine (contains_any _ S t _ HINT.out).mono ?_; rintro e w1 ⟨rfl, rfl⟩
      go_wp2_with (at_builtin; refine wpList_append_lies _ rfl _ _ 23 rfl 0 2 j0 (.int .i64 0) 1 8 Tryd.underlying23 hj hyy0 hyy1 hyy2 rfl (by decide) (.slice av L cv) L _ rfl ((HOW.out).alloc _) _ 1 _ [.int .i64 t] rfl rfl (cell_one_new _ _ _) (by simp [Value.oneCell']) (by decide) (by unfold maxLen; omega) (by omega) (Nat.zero_le _) _ rfl ?_; intro g cap w3 hown hgrow hat hgl; obtain ⟨⟨e0, e1, e2, e3⟩, hput⟩ := HRW.out.push HL.out hown hgrow hat hgl; have HP3 := Lib.hid hput; clear hput hown hgrow hat hgl)
      clear e0 e1 e2 e3
      generalize w3.setCell ⟨w.heap.size + 1 + 1, 0, none⟩ (.slice (some ⟨g, 0, none⟩) (L + 1) cap) = W3 at *
      refine (HPZ.out _ HP3.out.below).mono ?_; rintro e w5 ⟨a3, c3, rfl, hb5⟩
      have hR5 := HP3.out.keep hb5
      have k0 := hR5.v0; have k1 := hR5.v1; have k2 := hR5.v2; have k3 := hR5.r0; have k4 := hR5.r1; have k5 := hR5.r2
      have l0 := hR5.fv 0; have l1 := hR5.fv 1; have l2 := hR5.fv 2; have l3 := hR5.fr 0; have l4 := hR5.fr 1; have l5 := hR5.fr 2
      have HE := Lib.hid (hR5.ended 1)
      clear hR5
      go_wp2_with fail
      simp only [Exit.jump]
      refine bodyPost_ret (v := .agg #[.slice (some ⟨g, 0, none⟩) (L + 1) cap, .int .i64 1, .slice none 0 0]) (by simp [*, results, Tryd.results84, go_sem]) rfl ?_
      rw [← HRUN.out, HO.out]
      obtain ⟨z1, z2⟩ := HE.out.fin (.slice (some ⟨g, 0, none⟩) (L + 1) cap) (.int .i64 1) (.slice none 0 0)
      exact ⟨_, _, rfl, z1, fun _ => rfl, fun h => by simp at h, z2⟩
    have HPK := Lib.hid (fun (w' : World) (hb : Below w.heap.size w w') => implPoint_lo _ _ M Q t w' (g1 _ hb) (g2 _ hb) (HSC.out t HM.out.lo HM.out.hi) HP.out hD)
    by_cases hm : t ∈ S
    · have HO := Lib.hid (runO_again (M := M) (Q := Q) (r := r) (k := j) (S := S) hD hm)
      have HMEM := Lib.hid (show decide (t ∈ S) = true from decide_eq_true hm)
      clear hD hm
      go_wp2_with fail
      refine (contains_any _ S t _ HINT.out).mono ?_; rw [HMEM.out]; rintro e w1 ⟨rfl, rfl⟩
      go_wp2_with (at_builtin; refine wpList_append_lies _ rfl _ _ 23 rfl 0 2 j0 (.int .i64 0) 1 8 Tryd.underlying23 hj hyy0 hyy1 hyy2 rfl (by decide) (.slice av L cv) L _ rfl ((HOW.out).alloc _) _ 1 _ [.int .i64 t] rfl rfl (cell_one_new _ _ _) (by simp [Value.oneCell']) (by decide) (by unfold maxLen; omega) (by omega) (Nat.zero_le _) _ rfl ?_; intro g cap w3 hown hgrow hat hgl; obtain ⟨⟨e0, e1, e2, e3⟩, hput⟩ := HRW.out.push HL.out hown hgrow hat hgl; have HP3 := Lib.hid hput; clear hput hown hgrow hat hgl)
      clear e0 e1 e2 e3
      generalize w3.setCell ⟨w.heap.size + 1 + 1, 0, none⟩ (.slice (some ⟨g, 0, none⟩) (L + 1) cap) = W3 at *
      refine (HPK.out _ HP3.out.below).mono ?_; rintro e w5 ⟨gp, cp, rfl, _, _, _, hb5⟩
      have hR5 := HP3.out.keep hb5
      have k0 := hR5.v0; have k1 := hR5.v1; have k2 := hR5.v2; have k3 := hR5.r0; have k4 := hR5.r1; have k5 := hR5.r2
      have l0 := hR5.fv 0; have l1 := hR5.fv 1; have l2 := hR5.fv 2; have l3 := hR5.fr 0; have l4 := hR5.fr 1; have l5 := hR5.fr 2
      have HE := Lib.hid (hR5.ended 2)
      clear hR5
      go_wp2_with fail
      simp only [Exit.jump]
      refine bodyPost_ret (v := .agg #[.slice (some ⟨g, 0, none⟩) (L + 1) cap, .int .i64 2, .slice none 0 0]) (by simp [*, results, Tryd.results84, go_sem]) rfl ?_
      rw [← HRUN.out, HO.out]
      obtain ⟨z1, z2⟩ := HE.out.fin (.slice (some ⟨g, 0, none⟩) (L + 1) cap) (.int .i64 2) (.slice none 0 0)
      exact ⟨_, _, rfl, z1, fun _ => rfl, fun h => by simp at h, z2⟩
    have HMEM := Lib.hid (show decide (t ∈ S) = false from decide_eq_false hm)
    cases hn : nonneg (ptL M Q t)
    case true =>
      have HO := Lib.hid (runO_solved (M := M) (Q := Q) (r := r) (k := j) (S := S) hD hm hn)
      have HN := Lib.hid hn
      have HD := Lib.hid hD
      clear hD hm hn
      go_wp2_with fail
      refine (contains_any _ S t _ HINT.out).mono ?_; rw [HMEM.out]; rintro e w1 ⟨rfl, rfl⟩
      go_wp2_with (at_builtin; refine wpList_append_lies _ rfl _ _ 23 rfl 0 2 j0 (.int .i64 0) 1 8 Tryd.underlying23 hj hyy0 hyy1 hyy2 rfl (by decide) (.slice av L cv) L _ rfl ((HOW.out).alloc _) _ 1 _ [.int .i64 t] rfl rfl (cell_one_new _ _ _) (by simp [Value.oneCell']) (by decide) (by unfold maxLen; omega) (by omega) (Nat.zero_le _) _ rfl ?_; intro g cap w3 hown hgrow hat hgl; obtain ⟨⟨e0, e1, e2, e3⟩, hput⟩ := HRW.out.push HL.out hown hgrow hat hgl; have HP3 := Lib.hid hput; clear hput hown hgrow hat hgl)
      clear e0 e1 e2 e3
      generalize w3.setCell ⟨w.heap.size + 1 + 1, 0, none⟩ (.slice (some ⟨g, 0, none⟩) (L + 1) cap) = W3 at *
      refine (HPK.out _ HP3.out.below).mono ?_; rintro e w5 ⟨gp, cp, rfl, hgl, hglo, ho, hb5⟩
      have hgne : gp ≠ w.heap.size + 1 + 1 := by have := HP3.out.big; omega
      have HOF := Lib.hid ho
      clear ho
      have hR5 := HP3.out.keep hb5
      have k0 := hR5.v0; have k1 := hR5.v1; have k2 := hR5.v2; have k3 := hR5.r0; have k4 := hR5.r1; have k5 := hR5.r2
      have l0 := hR5.fv 0; have l1 := hR5.fv 1; have l2 := hR5.fv 2; have l3 := hR5.fr 0; have l4 := hR5.fr 1; have l5 := hR5.fr 2
      have HR5 := Lib.hid hR5
      clear hR5
      go_wp2_with fail
      refine (areNonnegative_any _ _ _ HOF.out (HLE.out t)).mono ?_; rw [HN.out]; rintro e w6 ⟨rfl, hb6⟩
      have HR6 := Lib.hid (HR5.out.keep hb6)
      have HOF6 := Lib.hid (HOF.out.below hb6 hgl)
      have hgl6 : gp < w6.heap.size := Nat.lt_of_lt_of_le hgl hb6.size
      clear k0 k1 k2 k3 k4 k5 l0 l1 l2 l3 l4 l5
      have k1 := HR6.out.v1; have l1 := HR6.out.fv 1
      go_wp2_with fail
      have HR7 := Lib.hid (HR6.out.ended 0)
      have HOF7 : Hid (OwnF (w6.setCell ⟨w.heap.size + 1 + 1, 1, none⟩ (.int .i64 0)) (.slice (some ⟨gp, 0, none⟩) M.length cp) (ptL M Q t)) := Lib.hid (ownF_any HOF6.out (fun b hb' => Below.heap_setCell _ _ _ _ (by simp [Value.ownBlock] at hb'; show b ≠ w.heap.size + 1 + 1; omega)))
      have hgl7 : gp < (w6.setCell ⟨w.heap.size + 1 + 1, 1, none⟩ (.int .i64 0)).heap.size := by simpa using hgl6
      generalize w6.setCell ⟨w.heap.size + 1 + 1, 1, none⟩ (.int .i64 0) = W7 at *
      refine (callsIn_wide.1 (solutionFrom_ok gp cp M.length (ptL M Q t) t W7 HOF7.out hgl7 (HLL.out t).symm f1 f2 HM.out.lo HM.out.hi)).mono ?_; rintro e w8 ⟨gz, rfl, hfz, hb8⟩
      have hR8 := HR7.out.keep hb8
      have k0 := hR8.v0; have k1 := hR8.v1; have k2 := hR8.v2; have k3 := hR8.r0; have k4 := hR8.r1; have k5 := hR8.r2
      have l0 := hR8.fv 0; have l1 := hR8.fv 1; have l2 := hR8.fv 2; have l3 := hR8.fr 0; have l4 := hR8.fr 1; have l5 := hR8.fr 2
      rw [selL_sol] at hfz
      have hz7 := HR7.out.big
      have hF8 : RngF (w.heap.size + 1 + 1 + 1) w8.heap.size w8 (.slice (some ⟨gz, 0, none⟩) M.length M.length) (solL M Q t) := ⟨hfz.own, fun b hb => by have := hfz.rng.at_ b hb; omega⟩
      have HZ := Lib.hid (urngF_set (b := w.heap.size + 1 + 1) (o := 2) (u := .slice (some ⟨gz, 0, none⟩) M.length M.length) hF8 (by omega))
      have HE := Lib.hid (hR8.solved (.slice (some ⟨gz, 0, none⟩) M.length M.length))
      clear hR8 hfz hF8
      go_wp2_with fail
      simp only [Exit.jump]
      refine bodyPost_ret (v := .agg #[.slice (some ⟨g, 0, none⟩) (L + 1) cap, .int .i64 0, .slice (some ⟨gz, 0, none⟩) M.length M.length]) (by simp [*, results, Tryd.results84, go_sem]) rfl ?_
      rw [← HRUN.out, HO.out]
      obtain ⟨z1, z2⟩ := HE.out.fin (.slice (some ⟨g, 0, none⟩) (L + 1) cap) (.int .i64 0) (.slice (some ⟨gz, 0, none⟩) M.length M.length)
      exact ⟨_, _, rfl, z1, fun h => by simp at h, fun _ => ⟨S, t, rfl, HM.out.lo, HM.out.hi, HD.out, HN.out, RunW.finF (by simpa using HZ.out) _ _ _⟩, z2⟩
    case false =>
      have HO := Lib.hid (runO_on (M := M) (Q := Q) (r := r) (k := j) (S := S) hD hm hn)
      have HN := Lib.hid hn
      have hneg : negM (ptL M Q t) M.length ≠ 0 := fun e => by rw [negM_nonneg.1 e] at hn; cases hn
      have HRT := Lib.hid (HR.out t hD hneg)
      have hst := stpS_in (r := r) f1 f2 HM.out.lo HM.out.hi hn
      have HM2 := HM.out.next hm hst.1 hst.2
      obtain ⟨X, hX⟩ : ∃ X : Nat, X = exM r (ptL M Q t) M.length := ⟨_, rfl⟩
      have HST : stpS M Q r t = bits BinOp.xor IntKind.i64 t X := by unfold stpS; rw [hX]
      rw [HST] at HM2 HO
      rw [← hX] at HRT
      have HM2 := Lib.hid HM2
      clear hD hm hn hneg hst hX HST
      go_wp2_with fail
      refine (contains_any _ S t _ HINT.out).mono ?_; rw [HMEM.out]; rintro e w1 ⟨rfl, rfl⟩
      go_wp2_with (at_builtin; refine wpList_append_lies _ rfl _ _ 23 rfl 0 2 j0 (.int .i64 0) 1 8 Tryd.underlying23 hj hyy0 hyy1 hyy2 rfl (by decide) (.slice av L cv) L _ rfl ((HOW.out).alloc _) _ 1 _ [.int .i64 t] rfl rfl (cell_one_new _ _ _) (by simp [Value.oneCell']) (by decide) (by unfold maxLen; omega) (by omega) (Nat.zero_le _) _ rfl ?_; intro g cap w3 hown hgrow hat hgl; obtain ⟨⟨e0, e1, e2, e3⟩, hput⟩ := HRW.out.push HL.out hown hgrow hat hgl; have HP3 := Lib.hid hput; clear hput hown hgrow hat hgl)
      clear e0 e1 e2 e3
      generalize w3.setCell ⟨w.heap.size + 1 + 1, 0, none⟩ (.slice (some ⟨g, 0, none⟩) (L + 1) cap) = W3 at *
      refine (HPK.out _ HP3.out.below).mono ?_; rintro e w5 ⟨gp, cp, rfl, hgl, _, ho, hb5⟩
      have HOF := Lib.hid ho
      clear ho
      have hR5 := HP3.out.keep hb5
      have k0 := hR5.v0; have k1 := hR5.v1; have k2 := hR5.v2; have k3 := hR5.r0; have k4 := hR5.r1; have k5 := hR5.r2
      have l0 := hR5.fv 0; have l1 := hR5.fv 1; have l2 := hR5.fv 2; have l3 := hR5.fr 0; have l4 := hR5.fr 1; have l5 := hR5.fr 2
      have HR5 := Lib.hid hR5
      clear hR5
      go_wp2_with fail
      refine (areNonnegative_any _ _ _ HOF.out (HLE.out t)).mono ?_; rw [HN.out]; rintro e w6 ⟨rfl, hb6⟩
      have HR6 := Lib.hid (HR5.out.keep hb6)
      have HOF6 := Lib.hid (HOF.out.below hb6 hgl)
      have hgl6 : gp < w6.heap.size := Nat.lt_of_lt_of_le hgl hb6.size
      clear k0 k1 k2 k3 k4 k5 l0 l1 l2 l3 l4 l5
      go_wp2_with fail
      refine (HRT.out gp cp w6 (gt _ HR6.out.below) HOF6.out hgl6).mono ?_; rintro e w7 ⟨rfl, hb7⟩
      have HR7 := Lib.hid (HR6.out.keep hb7)
      go_wp2_with fail
      go_step3
      refine ⟨rfl, ⟨j, S ++ [t], bits BinOp.xor IntKind.i64 t X, .slice (some ⟨g, 0, none⟩) (L + 1) cap, _, _, _, _, _, _, _, _, _, _, _, _, _, _, _, _, _, _, _, _, _, _, _, _, _, _, _, _, _, _, _, _, _, _, _, _, _, _, _, _, rfl, HM2.out, ?_, HR7.out⟩, ?_⟩
      · rw [← HRUN.out, HO.out]
      · rw [HR7.out.v0, v0]
        simp only [lenV]
        omega

set_option maxRecDepth 100000 in
set_option maxHeartbeats 4000000 in
theorem runFrom_1 (m q : Value) (M : List (List Int)) (Q : List Int) (s r : Int) (w : World) (hT : Tab8 w) (h1 : PM.Rows w m M) (h2 : Ints w q Q) (hp : isPB M Q = true) (hs0 : 0 ≤ s) (hs1 : s < 2 ^ M.length) (hr : ruleF r = 115) :
    Calls Tryd.prog 84 #[.agg #[m, q], .int .i64 s, .func (.func 115) #[] #[]] w (OutRun M Q w (runO M Q r 33 [] s)) := by
  have g1 := fun (w' : World) (h : Below w.heap.size w w') => h1.below h
  have g2 := fun (w' : World) (h : Below w.heap.size w w') => h2.below h
  have gt := fun (w' : World) (h : Below w.heap.size w w') => hT.below h
  clear hT
  obtain ⟨a1, c1, rfl, _⟩ := h1
  obtain ⟨a2, c2, rfl, _⟩ := h2
  have f1 := (isPB_facts hp).1
  have f2 := (isPB_facts hp).2.1
  have HP := Lib.hid hp
  have HMF := Lib.hid (Met.first hs0 hs1)
  have HLL := Lib.hid (fun t => ptL_length M Q t)
  have HLE := Lib.hid (fun t => show (ptL M Q t).length ≤ 1048576 by rw [HLL.out]; omega)
  have HR := Lib.hid (fun (t : Int) (hD : dt M.length (colS M t) ≠ 0) (hneg : negM (ptL M Q t) M.length ≠ 0) (g c : Nat) (w' : World) (hT : Tab8 w') (hv : OwnF w' (.slice (some ⟨g, 0, none⟩) M.length c) (ptL M Q t)) (hg : g < w'.heap.size) =>
    show Calls Tryd.prog 115 _ _ _ from hr ▸ rule_any r g c M.length (ptL M Q t) w' hT hv (HLL.out t).symm hg f1 f2 (fun j hj => ptL_isF hp hD j hj) hneg)
  have HSC : ∀ t, 0 ≤ t → t < 2 ^ M.length → setCode M Q t = 0 := fun t h0 h1 => setCode_ok hp (by omega)
  have HSC := Lib.hid HSC
  obtain ⟨j0, hj, hyy0, hyy1, hyy2⟩ := info_parts info_int
  clear hp hs0 hs1 hr
  go_enter Tryd.func84, Tryd.ntmps84
  go_wp2_with fail
  refine wp_scope_top 0 (fun a' wr => ∃ (k : Nat) (S : List Int) (t : Int) (v : Value) (u8 u9 u10 u11 u12 u13 u14 u15 u16 u17 u18 u19 u20 u21 u22 u23 u24 u25 u26 u27 u28 u29 u30 u31 u32 u33 u34 u35 u36 u37 u38 u39 u40 u41 u42 u43 u44 u45 u46 u47 : Value), a' = { tmps := #[.agg #[.slice a1 M.length c1, .slice a2 Q.length c2], .int .i64 t, .func (.func 115) #[] #[], .pointer (some ⟨w.heap.size, 0, none⟩), undef, undef, .pointer (some ⟨w.heap.size + 1, 0, none⟩), .pointer (some ⟨w.heap.size + 1 + 1, 0, none⟩), u8, u9, u10, u11, u12, u13, u14, u15, u16, u17, u18, u19, u20, u21, u22, u23, u24, u25, u26, u27, u28, u29, u30, u31, u32, u33, u34, u35, u36, u37, u38, u39, u40, u41, u42, u43, u44, u45, u46, u47], defers := [] } ∧ Met M.length S t k ∧ runO M Q r k S t = runO M Q r 33 [] s ∧ RunW w wr (.slice a1 M.length c1) (.slice a2 Q.length c2) v S 0 (.slice none 0 0)) (fun _ w' => 33 - lenV (w'.cell? ⟨w.heap.size + 1 + 1, 0, none⟩)) rfl ?_ ?_
  · go_wp2_with fail
    refine ⟨33, [], s, .slice none 0 0, _, _, _, _, _, _, _, _, _, _, _, _, _, _, _, _, _, _, _, _, _, _, _, _, _, _, _, _, _, _, _, _, _, _, _, _, _, _, _, _, rfl, HMF.out, rfl, ?_⟩
    refine ⟨by (repeat' (first | (with_reducible exact Below.refl _ _) | (with_reducible assumption) | (with_reducible refine Below.alloc ?_ ?_ _) | (with_reducible refine Below.drew ?_) | (with_reducible refine below_drewN ?_ _) | (with_reducible refine Below.setCell ?_ ?_ _) | (with_reducible refine Below.trans ?_ (Below.mono (by with_reducible assumption) ?_)) | (with_reducible exact Below.size (by with_reducible assumption)) | go_size)), ?_, ?_, ?_, ?_, ?_, ?_, ?_, ?_, ?_, ?_, urng_nil _ _ _⟩
    all_goals simp [go_sem]
  · rintro a' wr ⟨k, S, t, v, u8, u9, u10, u11, u12, u13, u14, u15, u16, u17, u18, u19, u20, u21, u22, u23, u24, u25, u26, u27, u28, u29, u30, u31, u32, u33, u34, u35, u36, u37, u38, u39, u40, u41, u42, u43, u44, u45, u46, u47, rfl, hM, hrun, hR⟩

    have hsh := OwnI.shape hR.own.own
    obtain ⟨av, cv, rfl⟩ := hsh
    obtain ⟨j, rfl, hL5⟩ := hM.pos f2
    have HINT := Lib.hid (hR.own.own.ints (fun x hx => by have := hM.inn x hx; have h3 := pow_le_32 f2; have e : (((2 : Nat) ^ M.length : Nat) : Int) = 2 ^ M.length := (by norm_cast); unfold I64; omega))
    have HRUN := Lib.hid hrun
    have HM := Lib.hid hM
    have HRW := Lib.hid hR
    have HOW := Lib.hid hR.own.own
    have v0 := hR.v0
    have b0 := hR.b0
    have b1 := hR.b1
    have fv := hR.fv 0
    have hbg := hR.big
    obtain ⟨L, hL⟩ : ∃ L, L = S.length := ⟨_, rfl⟩
    rw [← hL] at v0 HRW HINT HOW hL5
    have HL := Lib.hid hL
    unfold OwnI at HOW
    rw [← hL] at HOW
    clear hR hM hrun hL
    by_cases hD : dt M.length (colS M t) = 0
    · have HPZ := Lib.hid (fun (w' : World) (hb : Below w.heap.size w w') => implPoint_zero _ _ M Q t w' (g1 _ hb) (g2 _ hb) (HSC.out t HM.out.lo HM.out.hi) hD)
      have HO := Lib.hid (runO_stuck (M := M) (Q := Q) (r := r) (k := j) (S := S) hD)
      clear hD
      go_wp2_with fail
      refine (contains_any _ S t _ HINT.out).mono ?_; rintro e w1 ⟨rfl, rfl⟩
      go_wp2_with (at_builtin; refine wpList_append_lies _ rfl _ _ 23 rfl 0 2 j0 (.int .i64 0) 1 8 Tryd.underlying23 hj hyy0 hyy1 hyy2 rfl (by decide) (.slice av L cv) L _ rfl ((HOW.out).alloc _) _ 1 _ [.int .i64 t] rfl rfl (cell_one_new _ _ _) (by simp [Value.oneCell']) (by decide) (by unfold maxLen; omega) (by omega) (Nat.zero_le _) _ rfl ?_; intro g cap w3 hown hgrow hat hgl; obtain ⟨⟨e0, e1, e2, e3⟩, hput⟩ := HRW.out.push HL.out hown hgrow hat hgl; have HP3 := Lib.hid hput; clear hput hown hgrow hat hgl)
      clear e0 e1 e2 e3
      generalize w3.setCell ⟨w.heap.size + 1 + 1, 0, none⟩ (.slice (some ⟨g, 0, none⟩) (L + 1) cap) = W3 at *
      refine (HPZ.out _ HP3.out.below).mono ?_; rintro e w5 ⟨a3, c3, rfl, hb5⟩
      have hR5 := HP3.out.keep hb5
      have k0 := hR5.v0; have k1 := hR5.v1; have k2 := hR5.v2; have k3 := hR5.r0; have k4 := hR5.r1; have k5 := hR5.r2
      have l0 := hR5.fv 0; have l1 := hR5.fv 1; have l2 := hR5.fv 2; have l3 := hR5.fr 0; have l4 := hR5.fr 1; have l5 := hR5.fr 2
      have HE := Lib.hid (hR5.ended 1)
      clear hR5
      go_wp2_with fail
      simp only [Exit.jump]
      refine bodyPost_ret (v := .agg #[.slice (some ⟨g, 0, none⟩) (L + 1) cap, .int .i64 1, .slice none 0 0]) (by simp [*, results, Tryd.results84, go_sem]) rfl ?_
      rw [← HRUN.out, HO.out]
      obtain ⟨z1, z2⟩ := HE.out.fin (.slice (some ⟨g, 0, none⟩) (L + 1) cap) (.int .i64 1) (.slice none 0 0)
      exact ⟨_, _, rfl, z1, fun _ => rfl, fun h => by simp at h, z2⟩
    have HPK := Lib.hid (fun (w' : World) (hb : Below w.heap.size w w') => implPoint_lo _ _ M Q t w' (g1 _ hb) (g2 _ hb) (HSC.out t HM.out.lo HM.out.hi) HP.out hD)
    by_cases hm : t ∈ S
    · have HO := Lib.hid (runO_again (M := M) (Q := Q) (r := r) (k := j) (S := S) hD hm)
      have HMEM := Lib.hid (show decide (t ∈ S) = true from decide_eq_true hm)
      clear hD hm
      go_wp2_with fail
      refine (contains_any _ S t _ HINT.out).mono ?_; rw [HMEM.out]; rintro e w1 ⟨rfl, rfl⟩
      go_wp2_with (at_builtin; refine wpList_append_lies _ rfl _ _ 23 rfl 0 2 j0 (.int .i64 0) 1 8 Tryd.underlying23 hj hyy0 hyy1 hyy2 rfl (by decide) (.slice av L cv) L _ rfl ((HOW.out).alloc _) _ 1 _ [.int .i64 t] rfl rfl (cell_one_new _ _ _) (by simp [Value.oneCell']) (by decide) (by unfold maxLen; omega) (by omega) (Nat.zero_le _) _ rfl ?_; intro g cap w3 hown hgrow hat hgl; obtain ⟨⟨e0, e1, e2, e3⟩, hput⟩ := HRW.out.push HL.out hown hgrow hat hgl; have HP3 := Lib.hid hput; clear hput hown hgrow hat hgl)
      clear e0 e1 e2 e3
      generalize w3.setCell ⟨w.heap.size + 1 + 1, 0, none⟩ (.slice (some ⟨g, 0, none⟩) (L + 1) cap) = W3 at *
      refine (HPK.out _ HP3.out.below).mono ?_; rintro e w5 ⟨gp, cp, rfl, _, _, _, hb5⟩
      have hR5 := HP3.out.keep hb5
      have k0 := hR5.v0; have k1 := hR5.v1; have k2 := hR5.v2; have k3 := hR5.r0; have k4 := hR5.r1; have k5 := hR5.r2
      have l0 := hR5.fv 0; have l1 := hR5.fv 1; have l2 := hR5.fv 2; have l3 := hR5.fr 0; have l4 := hR5.fr 1; have l5 := hR5.fr 2
      have HE := Lib.hid (hR5.ended 2)
      clear hR5
      go_wp2_with fail
      simp only [Exit.jump]
      refine bodyPost_ret (v := .agg #[.slice (some ⟨g, 0, none⟩) (L + 1) cap, .int .i64 2, .slice none 0 0]) (by simp [*, results, Tryd.results84, go_sem]) rfl ?_
      rw [← HRUN.out, HO.out]
      obtain ⟨z1, z2⟩ := HE.out.fin (.slice (some ⟨g, 0, none⟩) (L + 1) cap) (.int .i64 2) (.slice none 0 0)
      exact ⟨_, _, rfl, z1, fun _ => rfl, fun h => by simp at h, z2⟩
    have HMEM := Lib.hid (show decide (t ∈ S) = false from decide_eq_false hm)
    cases hn : nonneg (ptL M Q t)
    case true =>
      have HO := Lib.hid (runO_solved (M := M) (Q := Q) (r := r) (k := j) (S := S) hD hm hn)
      have HN := Lib.hid hn
      have HD := Lib.hid hD
      clear hD hm hn
      go_wp2_with fail
      refine (contains_any _ S t _ HINT.out).mono ?_; rw [HMEM.out]; rintro e w1 ⟨rfl, rfl⟩
      go_wp2_with (at_builtin; refine wpList_append_lies _ rfl _ _ 23 rfl 0 2 j0 (.int .i64 0) 1 8 Tryd.underlying23 hj hyy0 hyy1 hyy2 rfl (by decide) (.slice av L cv) L _ rfl ((HOW.out).alloc _) _ 1 _ [.int .i64 t] rfl rfl (cell_one_new _ _ _) (by simp [Value.oneCell']) (by decide) (by unfold maxLen; omega) (by omega) (Nat.zero_le _) _ rfl ?_; intro g cap w3 hown hgrow hat hgl; obtain ⟨⟨e0, e1, e2, e3⟩, hput⟩ := HRW.out.push HL.out hown hgrow hat hgl; have HP3 := Lib.hid hput; clear hput hown hgrow hat hgl)
      clear e0 e1 e2 e3
      generalize w3.setCell ⟨w.heap.size + 1 + 1, 0, none⟩ (.slice (some ⟨g, 0, none⟩) (L + 1) cap) = W3 at *
      refine (HPK.out _ HP3.out.below).mono ?_; rintro e w5 ⟨gp, cp, rfl, hgl, hglo, ho, hb5⟩
      have hgne : gp ≠ w.heap.size + 1 + 1 := by have := HP3.out.big; omega
      have HOF := Lib.hid ho
      clear ho
      have hR5 := HP3.out.keep hb5
      have k0 := hR5.v0; have k1 := hR5.v1; have k2 := hR5.v2; have k3 := hR5.r0; have k4 := hR5.r1; have k5 := hR5.r2
      have l0 := hR5.fv 0; have l1 := hR5.fv 1; have l2 := hR5.fv 2; have l3 := hR5.fr 0; have l4 := hR5.fr 1; have l5 := hR5.fr 2
      have HR5 := Lib.hid hR5
      clear hR5
      go_wp2_with fail
      refine (areNonnegative_any _ _ _ HOF.out (HLE.out t)).mono ?_; rw [HN.out]; rintro e w6 ⟨rfl, hb6⟩
      have HR6 := Lib.hid (HR5.out.keep hb6)
      have HOF6 := Lib.hid (HOF.out.below hb6 hgl)
      have hgl6 : gp < w6.heap.size := Nat.lt_of_lt_of_le hgl hb6.size
      clear k0 k1 k2 k3 k4 k5 l0 l1 l2 l3 l4 l5
      have k1 := HR6.out.v1; have l1 := HR6.out.fv 1
      go_wp2_with fail
      have HR7 := Lib.hid (HR6.out.ended 0)
      have HOF7 : Hid (OwnF (w6.setCell ⟨w.heap.size + 1 + 1, 1, none⟩ (.int .i64 0)) (.slice (some ⟨gp, 0, none⟩) M.length cp) (ptL M Q t)) := Lib.hid (ownF_any HOF6.out (fun b hb' => Below.heap_setCell _ _ _ _ (by simp [Value.ownBlock] at hb'; show b ≠ w.heap.size + 1 + 1; omega)))
      have hgl7 : gp < (w6.setCell ⟨w.heap.size + 1 + 1, 1, none⟩ (.int .i64 0)).heap.size := by simpa using hgl6
      generalize w6.setCell ⟨w.heap.size + 1 + 1, 1, none⟩ (.int .i64 0) = W7 at *
      refine (callsIn_wide.1 (solutionFrom_ok gp cp M.length (ptL M Q t) t W7 HOF7.out hgl7 (HLL.out t).symm f1 f2 HM.out.lo HM.out.hi)).mono ?_; rintro e w8 ⟨gz, rfl, hfz, hb8⟩
      have hR8 := HR7.out.keep hb8
      have k0 := hR8.v0; have k1 := hR8.v1; have k2 := hR8.v2; have k3 := hR8.r0; have k4 := hR8.r1; have k5 := hR8.r2
      have l0 := hR8.fv 0; have l1 := hR8.fv 1; have l2 := hR8.fv 2; have l3 := hR8.fr 0; have l4 := hR8.fr 1; have l5 := hR8.fr 2
      rw [selL_sol] at hfz
      have hz7 := HR7.out.big
      have hF8 : RngF (w.heap.size + 1 + 1 + 1) w8.heap.size w8 (.slice (some ⟨gz, 0, none⟩) M.length M.length) (solL M Q t) := ⟨hfz.own, fun b hb => by have := hfz.rng.at_ b hb; omega⟩
      have HZ := Lib.hid (urngF_set (b := w.heap.size + 1 + 1) (o := 2) (u := .slice (some ⟨gz, 0, none⟩) M.length M.length) hF8 (by omega))
      have HE := Lib.hid (hR8.solved (.slice (some ⟨gz, 0, none⟩) M.length M.length))
      clear hR8 hfz hF8
      go_wp2_with fail
      simp only [Exit.jump]
      refine bodyPost_ret (v := .agg #[.slice (some ⟨g, 0, none⟩) (L + 1) cap, .int .i64 0, .slice (some ⟨gz, 0, none⟩) M.length M.length]) (by simp [*, results, Tryd.results84, go_sem]) rfl ?_
      rw [← HRUN.out, HO.out]
      obtain ⟨z1, z2⟩ := HE.out.fin (.slice (some ⟨g, 0, none⟩) (L + 1) cap) (.int .i64 0) (.slice (some ⟨gz, 0, none⟩) M.length M.length)
      exact ⟨_, _, rfl, z1, fun h => by simp at h, fun _ => ⟨S, t, rfl, HM.out.lo, HM.out.hi, HD.out, HN.out, RunW.finF (by simpa using HZ.out) _ _ _⟩, z2⟩
    case false =>
      have HO := Lib.hid (runO_on (M := M) (Q := Q) (r := r) (k := j) (S := S) hD hm hn)
      have HN := Lib.hid hn
      have hneg : negM (ptL M Q t) M.length ≠ 0 := fun e => by rw [negM_nonneg.1 e] at hn; cases hn
      have HRT := Lib.hid (HR.out t hD hneg)
      have hst := stpS_in (r := r) f1 f2 HM.out.lo HM.out.hi hn
      have HM2 := HM.out.next hm hst.1 hst.2
      obtain ⟨X, hX⟩ : ∃ X : Nat, X = exM r (ptL M Q t) M.length := ⟨_, rfl⟩
      have HST : stpS M Q r t = bits BinOp.xor IntKind.i64 t X := by unfold stpS; rw [hX]
      rw [HST] at HM2 HO
      rw [← hX] at HRT
      have HM2 := Lib.hid HM2
      clear hD hm hn hneg hst hX HST
      go_wp2_with fail
      refine (contains_any _ S t _ HINT.out).mono ?_; rw [HMEM.out]; rintro e w1 ⟨rfl, rfl⟩
      go_wp2_with (at_builtin; refine wpList_append_lies _ rfl _ _ 23 rfl 0 2 j0 (.int .i64 0) 1 8 Tryd.underlying23 hj hyy0 hyy1 hyy2 rfl (by decide) (.slice av L cv) L _ rfl ((HOW.out).alloc _) _ 1 _ [.int .i64 t] rfl rfl (cell_one_new _ _ _) (by simp [Value.oneCell']) (by decide) (by unfold maxLen; omega) (by omega) (Nat.zero_le _) _ rfl ?_; intro g cap w3 hown hgrow hat hgl; obtain ⟨⟨e0, e1, e2, e3⟩, hput⟩ := HRW.out.push HL.out hown hgrow hat hgl; have HP3 := Lib.hid hput; clear hput hown hgrow hat hgl)
      clear e0 e1 e2 e3
      generalize w3.setCell ⟨w.heap.size + 1 + 1, 0, none⟩ (.slice (some ⟨g, 0, none⟩) (L + 1) cap) = W3 at *
      refine (HPK.out _ HP3.out.below).mono ?_; rintro e w5 ⟨gp, cp, rfl, hgl, _, ho, hb5⟩
      have HOF := Lib.hid ho
      clear ho
      have hR5 := HP3.out.keep hb5
      have k0 := hR5.v0; have k1 := hR5.v1; have k2 := hR5.v2; have k3 := hR5.r0; have k4 := hR5.r1; have k5 := hR5.r2
      have l0 := hR5.fv 0; have l1 := hR5.fv 1; have l2 := hR5.fv 2; have l3 := hR5.fr 0; have l4 := hR5.fr 1; have l5 := hR5.fr 2
      have HR5 := Lib.hid hR5
      clear hR5
      go_wp2_with fail
      refine (areNonnegative_any _ _ _ HOF.out (HLE.out t)).mono ?_; rw [HN.out]; rintro e w6 ⟨rfl, hb6⟩
      have HR6 := Lib.hid (HR5.out.keep hb6)
      have HOF6 := Lib.hid (HOF.out.below hb6 hgl)
      have hgl6 : gp < w6.heap.size := Nat.lt_of_lt_of_le hgl hb6.size
      clear k0 k1 k2 k3 k4 k5 l0 l1 l2 l3 l4 l5
      go_wp2_with fail
      refine (HRT.out gp cp w6 (gt _ HR6.out.below) HOF6.out hgl6).mono ?_; rintro e w7 ⟨rfl, hb7⟩
      have HR7 := Lib.hid (HR6.out.keep hb7)
      go_wp2_with fail
      go_step3
      refine ⟨rfl, ⟨j, S ++ [t], bits BinOp.xor IntKind.i64 t X, .slice (some ⟨g, 0, none⟩) (L + 1) cap, _, _, _, _, _, _, _, _, _, _, _, _, _, _, _, _, _, _, _, _, _, _, _, _, _, _, _, _, _, _, _, _, _, _, _, _, _, _, _, _, rfl, HM2.out, ?_, HR7.out⟩, ?_⟩
      · rw [← HRUN.out, HO.out]
      · rw [HR7.out.v0, v0]
        simp only [lenV]
        omega

set_option maxRecDepth 100000 in
set_option maxHeartbeats 4000000 in
theorem runFrom_2 (m q : Value) (M : List (List Int)) (Q : List Int) (s r : Int) (w : World) (hT : Tab8 w) (h1 : PM.Rows w m M) (h2 : Ints w q Q) (hp : isPB M Q = true) (hs0 : 0 ≤ s) (hs1 : s < 2 ^ M.length) (hr : ruleF r = 116) :
    Calls Tryd.prog 84 #[.agg #[m, q], .int .i64 s, .func (.func 116) #[] #[]] w (OutRun M Q w (runO M Q r 33 [] s)) := by
  have g1 := fun (w' : World) (h : Below w.heap.size w w') => h1.below h
  have g2 := fun (w' : World) (h : Below w.heap.size w w') => h2.below h
  have gt := fun (w' : World) (h : Below w.heap.size w w') => hT.below h
  clear hT
  obtain ⟨a1, c1, rfl, _⟩ := h1
  obtain ⟨a2, c2, rfl, _⟩ := h2
  have f1 := (isPB_facts hp).1
  have f2 := (isPB_facts hp).2.1
  have HP := Lib.hid hp
  have HMF := Lib.hid (Met.first hs0 hs1)
  have HLL := Lib.hid (fun t => ptL_length M Q t)
  have HLE := Lib.hid (fun t => show (ptL M Q t).length ≤ 1048576 by rw [HLL.out]; omega)
  have HR := Lib.hid (fun (t : Int) (hD : dt M.length (colS M t) ≠ 0) (hneg : negM (ptL M Q t) M.length ≠ 0) (g c : Nat) (w' : World) (hT : Tab8 w') (hv : OwnF w' (.slice (some ⟨g, 0, none⟩) M.length c) (ptL M Q t)) (hg : g < w'.heap.size) =>
    show Calls Tryd.prog 116 _ _ _ from hr ▸ rule_any r g c M.length (ptL M Q t) w' hT hv (HLL.out t).symm hg f1 f2 (fun j hj => ptL_isF hp hD j hj) hneg)
  have HSC : ∀ t, 0 ≤ t → t < 2 ^ M.length → setCode M Q t = 0 := fun t h0 h1 => setCode_ok hp (by omega)
  have HSC := Lib.hid HSC
  obtain ⟨j0, hj, hyy0, hyy1, hyy2⟩ := info_parts info_int
  clear hp hs0 hs1 hr
  go_enter Tryd.func84, Tryd.ntmps84
  go_wp2_with fail
  refine wp_scope_top 0 (fun a' wr => ∃ (k : Nat) (S : List Int) (t : Int) (v : Value) (u8 u9 u10 u11 u12 u13 u14 u15 u16 u17 u18 u19 u20 u21 u22 u23 u24 u25 u26 u27 u28 u29 u30 u31 u32 u33 u34 u35 u36 u37 u38 u39 u40 u41 u42 u43 u44 u45 u46 u47 : Value), a' = { tmps := #[.agg #[.slice a1 M.length c1, .slice a2 Q.length c2], .int .i64 t, .func (.func 116) #[] #[], .pointer (some ⟨w.heap.size, 0, none⟩), undef, undef, .pointer (some ⟨w.heap.size + 1, 0, none⟩), .pointer (some ⟨w.heap.size + 1 + 1, 0, none⟩), u8, u9, u10, u11, u12, u13, u14, u15, u16, u17, u18, u19, u20, u21, u22, u23, u24, u25, u26, u27, u28, u29, u30, u31, u32, u33, u34, u35, u36, u37, u38, u39, u40, u41, u42, u43, u44, u45, u46, u47], defers := [] } ∧ Met M.length S t k ∧ runO M Q r k S t = runO M Q r 33 [] s ∧ RunW w wr (.slice a1 M.length c1) (.slice a2 Q.length c2) v S 0 (.slice none 0 0)) (fun _ w' => 33 - lenV (w'.cell? ⟨w.heap.size + 1 + 1, 0, none⟩)) rfl ?_ ?_
  · go_wp2_with fail
    refine ⟨33, [], s, .slice none 0 0, _, _, _, _, _, _, _, _, _, _, _, _, _, _, _, _, _, _, _, _, _, _, _, _, _, _, _, _, _, _, _, _, _, _, _, _, _, _, _, _, rfl, HMF.out, rfl, ?_⟩
    refine ⟨by (repeat' (first | (with_reducible exact Below.refl _ _) | (with_reducible assumption) | (with_reducible refine Below.alloc ?_ ?_ _) | (with_reducible refine Below.drew ?_) | (with_reducible refine below_drewN ?_ _) | (with_reducible refine Below.setCell ?_ ?_ _) | (with_reducible refine Below.trans ?_ (Below.mono (by with_reducible assumption) ?_)) | (with_reducible exact Below.size (by with_reducible assumption)) | go_size)), ?_, ?_, ?_, ?_, ?_, ?_, ?_, ?_, ?_, ?_, urng_nil _ _ _⟩
    all_goals simp [go_sem]
  · rintro a' wr ⟨k, S, t, v, u8, u9, u10, u11, u12, u13, u14, u15, u16, u17, u18, u19, u20, u21, u22, u23, u24, u25, u26, u27, u28, u29, u30, u31, u32, u33, u34, u35, u36, u37, u38, u39, u40, u41, u42, u43, u44, u45, u46, u47, rfl, hM, hrun, hR⟩

    have hsh := OwnI.shape hR.own.own
    obtain ⟨av, cv, rfl⟩ := hsh
    obtain ⟨j, rfl, hL5⟩ := hM.pos f2
    have HINT := Lib.hid (hR.own.own.ints (fun x hx => by have := hM.inn x hx; have h3 := pow_le_32 f2; have e : (((2 : Nat) ^ M.length : Nat) : Int) = 2 ^ M.length := (by norm_cast); unfold I64; omega))
    have HRUN := Lib.hid hrun
    have HM := Lib.hid hM
    have HRW := Lib.hid hR
    have HOW := Lib.hid hR.own.own
    have v0 := hR.v0
    have b0 := hR.b0
    have b1 := hR.b1
    have fv := hR.fv 0
    have hbg := hR.big
    obtain ⟨L, hL⟩ : ∃ L, L = S.length := ⟨_, rfl⟩
    rw [← hL] at v0 HRW HINT HOW hL5
    have HL := Lib.hid hL
    unfold OwnI at HOW
    rw [← hL] at HOW
    clear hR hM hrun hL
    by_cases hD : dt M.length (colS M t) = 0
    · have HPZ := Lib.hid (fun (w' : World) (hb : Below w.heap.size w w') => implPoint_zero _ _ M Q t w' (g1 _ hb) (g2 _ hb) (HSC.out t HM.out.lo HM.out.hi) hD)
      have HO := Lib.hid (runO_stuck (M := M) (Q := Q) (r := r) (k := j) (S := S) hD)
      clear hD
      go_wp2_with fail
      refine (contains_any _ S t _ HINT.out).mono ?_; rintro e w1 ⟨rfl, rfl⟩
      go_wp2_with (at_builtin; refine wpList_append_lies _ rfl _ _ 23 rfl 0 2 j0 (.int .i64 0) 1 8 Tryd.underlying23 hj hyy0 hyy1 hyy2 rfl (by decide) (.slice av L cv) L _ rfl ((HOW.out).alloc _) _ 1 _ [.int .i64 t] rfl rfl (cell_one_new _ _ _) (by simp [Value.oneCell']) (by decide) (by unfold maxLen; omega) (by omega) (Nat.zero_le _) _ rfl ?_; intro g cap w3 hown hgrow hat hgl; obtain ⟨⟨e0, e1, e2, e3⟩, hput⟩ := HRW.out.push HL.out hown hgrow hat hgl; have HP3 := Lib.hid hput; clear hput hown hgrow hat hgl)
      clear e0 e1 e2 e3
      generalize w3.setCell ⟨w.heap.size + 1 + 1, 0, none⟩ (.slice (some ⟨g, 0, none⟩) (L + 1) cap) = W3 at *
      refine (HPZ.out _ HP3.out.below).mono ?_; rintro e w5 ⟨a3, c3, rfl, hb5⟩
      have hR5 := HP3.out.keep hb5
      have k0 := hR5.v0; have k1 := hR5.v1; have k2 := hR5.v2; have k3 := hR5.r0; have k4 := hR5.r1; have k5 := hR5.r2
      have l0 := hR5.fv 0; have l1 := hR5.fv 1; have l2 := hR5.fv 2; have l3 := hR5.fr 0; have l4 := hR5.fr 1; have l5 := hR5.fr 2
      have HE := Lib.hid (hR5.ended 1)
      clear hR5
      go_wp2_with fail
      simp only [Exit.jump]
      refine bodyPost_ret (v := .agg #[.slice (some ⟨g, 0, none⟩) (L + 1) cap, .int .i64 1, .slice none 0 0]) (by simp [*, results, Tryd.results84, go_sem]) rfl ?_
      rw [← HRUN.out, HO.out]
      obtain ⟨z1, z2⟩ := HE.out.fin (.slice (some ⟨g, 0, none⟩) (L + 1) cap) (.int .i64 1) (.slice none 0 0)
      exact ⟨_, _, rfl, z1, fun _ => rfl, fun h => by simp at h, z2⟩
    have HPK := Lib.hid (fun (w' : World) (hb : Below w.heap.size w w') => implPoint_lo _ _ M Q t w' (g1 _ hb) (g2 _ hb) (HSC.out t HM.out.lo HM.out.hi) HP.out hD)
    by_cases hm : t ∈ S
    · have HO := Lib.hid (runO_again (M := M) (Q := Q) (r := r) (k := j) (S := S) hD hm)
      have HMEM := Lib.hid (show decide (t ∈ S) = true from decide_eq_true hm)
      clear hD hm
      go_wp2_with fail
      refine (contains_any _ S t _ HINT.out).mono ?_; rw [HMEM.out]; rintro e w1 ⟨rfl, rfl⟩
      go_wp2_with (at_builtin; refine wpList_append_lies _ rfl _ _ 23 rfl 0 2 j0 (.int .i64 0) 1 8 Tryd.underlying23 hj hyy0 hyy1 hyy2 rfl (by decide) (.slice av L cv) L _ rfl ((HOW.out).alloc _) _ 1 _ [.int .i64 t] rfl rfl (cell_one_new _ _ _) (by simp [Value.oneCell']) (by decide) (by unfold maxLen; omega) (by omega) (Nat.zero_le _) _ rfl ?_; intro g cap w3 hown hgrow hat hgl; obtain ⟨⟨e0, e1, e2, e3⟩, hput⟩ := HRW.out.push HL.out hown hgrow hat hgl; have HP3 := Lib.hid hput; clear hput hown hgrow hat hgl)
      clear e0 e1 e2 e3
      generalize w3.setCell ⟨w.heap.size + 1 + 1, 0, none⟩ (.slice (some ⟨g, 0, none⟩) (L + 1) cap) = W3 at *
      refine (HPK.out _ HP3.out.below).mono ?_; rintro e w5 ⟨gp, cp, rfl, _, _, _, hb5⟩
      have hR5 := HP3.out.keep hb5
      have k0 := hR5.v0; have k1 := hR5.v1; have k2 := hR5.v2; have k3 := hR5.r0; have k4 := hR5.r1; have k5 := hR5.r2
      have l0 := hR5.fv 0; have l1 := hR5.fv 1; have l2 := hR5.fv 2; have l3 := hR5.fr 0; have l4 := hR5.fr 1; have l5 := hR5.fr 2
      have HE := Lib.hid (hR5.ended 2)
      clear hR5
      go_wp2_with fail
      simp only [Exit.jump]
      refine bodyPost_ret (v := .agg #[.slice (some ⟨g, 0, none⟩) (L + 1) cap, .int .i64 2, .slice none 0 0]) (by simp [*, results, Tryd.results84, go_sem]) rfl ?_
      rw [← HRUN.out, HO.out]
      obtain ⟨z1, z2⟩ := HE.out.fin (.slice (some ⟨g, 0, none⟩) (L + 1) cap) (.int .i64 2) (.slice none 0 0)
      exact ⟨_, _, rfl, z1, fun _ => rfl, fun h => by simp at h, z2⟩
    have HMEM := Lib.hid (show decide (t ∈ S) = false from decide_eq_false hm)
    cases hn : nonneg (ptL M Q t)
    case true =>
      have HO := Lib.hid (runO_solved (M := M) (Q := Q) (r := r) (k := j) (S := S) hD hm hn)
      have HN := Lib.hid hn
      have HD := Lib.hid hD
      clear hD hm hn
      go_wp2_with fail
      refine (contains_any _ S t _ HINT.out).mono ?_; rw [HMEM.out]; rintro e w1 ⟨rfl, rfl⟩
      go_wp2_with (at_builtin; refine wpList_append_lies _ rfl _ _ 23 rfl 0 2 j0 (.int .i64 0) 1 8 Tryd.underlying23 hj hyy0 hyy1 hyy2 rfl (by decide) (.slice av L cv) L _ rfl ((HOW.out).alloc _) _ 1 _ [.int .i64 t] rfl rfl (cell_one_new _ _ _) (by simp [Value.oneCell']) (by decide) (by unfold maxLen; omega) (by omega) (Nat.zero_le _) _ rfl ?_; intro g cap w3 hown hgrow hat hgl; obtain ⟨⟨e0, e1, e2, e3⟩, hput⟩ := HRW.out.push HL.out hown hgrow hat hgl; have HP3 := Lib.hid hput; clear hput hown hgrow hat hgl)
      clear e0 e1 e2 e3
      generalize w3.setCell ⟨w.heap.size + 1 + 1, 0, none⟩ (.slice (some ⟨g, 0, none⟩) (L + 1) cap) = W3 at *
      refine (HPK.out _ HP3.out.below).mono ?_; rintro e w5 ⟨gp, cp, rfl, hgl, hglo, ho, hb5⟩
      have hgne : gp ≠ w.heap.size + 1 + 1 := by have := HP3.out.big; omega
      have HOF := Lib.hid ho
      clear ho
      have hR5 := HP3.out.keep hb5
      have k0 := hR5.v0; have k1 := hR5.v1; have k2 := hR5.v2; have k3 := hR5.r0; have k4 := hR5.r1; have k5 := hR5.r2
      have l0 := hR5.fv 0; have l1 := hR5.fv 1; have l2 := hR5.fv 2; have l3 := hR5.fr 0; have l4 := hR5.fr 1; have l5 := hR5.fr 2
      have HR5 := Lib.hid hR5
      clear hR5
      go_wp2_with fail
      refine (areNonnegative_any _ _ _ HOF.out (HLE.out t)).mono ?_; rw [HN.out]; rintro e w6 ⟨rfl, hb6⟩
      have HR6 := Lib.hid (HR5.out.keep hb6)
      have HOF6 := Lib.hid (HOF.out.below hb6 hgl)
      have hgl6 : gp < w6.heap.size := Nat.lt_of_lt_of_le hgl hb6.size
      clear k0 k1 k2 k3 k4 k5 l0 l1 l2 l3 l4 l5
      have k1 := HR6.out.v1; have l1 := HR6.out.fv 1
      go_wp2_with fail
      have HR7 := Lib.hid (HR6.out.ended 0)
      have HOF7 : Hid (OwnF (w6.setCell ⟨w.heap.size + 1 + 1, 1, none⟩ (.int .i64 0)) (.slice (some ⟨gp, 0, none⟩) M.length cp) (ptL M Q t)) := Lib.hid (ownF_any HOF6.out (fun b hb' => Below.heap_setCell _ _ _ _ (by simp [Value.ownBlock] at hb'; show b ≠ w.heap.size + 1 + 1; omega)))
      have hgl7 : gp < (w6.setCell ⟨w.heap.size + 1 + 1, 1, none⟩ (.int .i64 0)).heap.size := by simpa using hgl6
      generalize w6.setCell ⟨w.heap.size + 1 + 1, 1, none⟩ (.int .i64 0) = W7 at *
      refine (callsIn_wide.1 (solutionFrom_ok gp cp M.length (ptL M Q t) t W7 HOF7.out hgl7 (HLL.out t).symm f1 f2 HM.out.lo HM.out.hi)).mono ?_; rintro e w8 ⟨gz, rfl, hfz, hb8⟩
      have hR8 := HR7.out.keep hb8
      have k0 := hR8.v0; have k1 := hR8.v1; have k2 := hR8.v2; have k3 := hR8.r0; have k4 := hR8.r1; have k5 := hR8.r2
      have l0 := hR8.fv 0; have l1 := hR8.fv 1; have l2 := hR8.fv 2; have l3 := hR8.fr 0; have l4 := hR8.fr 1; have l5 := hR8.fr 2
      rw [selL_sol] at hfz
      have hz7 := HR7.out.big
      have hF8 : RngF (w.heap.size + 1 + 1 + 1) w8.heap.size w8 (.slice (some ⟨gz, 0, none⟩) M.length M.length) (solL M Q t) := ⟨hfz.own, fun b hb => by have := hfz.rng.at_ b hb; omega⟩
      have HZ := Lib.hid (urngF_set (b := w.heap.size + 1 + 1) (o := 2) (u := .slice (some ⟨gz, 0, none⟩) M.length M.length) hF8 (by omega))
      have HE := Lib.hid (hR8.solved (.slice (some ⟨gz, 0, none⟩) M.length M.length))
      clear hR8 hfz hF8
      go_wp2_with fail
      simp only [Exit.jump]
      refine bodyPost_ret (v := .agg #[.slice (some ⟨g, 0, none⟩) (L + 1) cap, .int .i64 0, .slice (some ⟨gz, 0, none⟩) M.length M.length]) (by simp [*, results, Tryd.results84, go_sem]) rfl ?_
      rw [← HRUN.out, HO.out]
      obtain ⟨z1, z2⟩ := HE.out.fin (.slice (some ⟨g, 0, none⟩) (L + 1) cap) (.int .i64 0) (.slice (some ⟨gz, 0, none⟩) M.length M.length)
      exact ⟨_, _, rfl, z1, fun h => by simp at h, fun _ => ⟨S, t, rfl, HM.out.lo, HM.out.hi, HD.out, HN.out, RunW.finF (by simpa using HZ.out) _ _ _⟩, z2⟩
    case false =>
      have HO := Lib.hid (runO_on (M := M) (Q := Q) (r := r) (k := j) (S := S) hD hm hn)
      have HN := Lib.hid hn
      have hneg : negM (ptL M Q t) M.length ≠ 0 := fun e => by rw [negM_nonneg.1 e] at hn; cases hn
      have HRT := Lib.hid (HR.out t hD hneg)
      have hst := stpS_in (r := r) f1 f2 HM.out.lo HM.out.hi hn
      have HM2 := HM.out.next hm hst.1 hst.2
      obtain ⟨X, hX⟩ : ∃ X : Nat, X = exM r (ptL M Q t) M.length := ⟨_, rfl⟩
      have HST : stpS M Q r t = bits BinOp.xor IntKind.i64 t X := by unfold stpS; rw [hX]
      rw [HST] at HM2 HO
      rw [← hX] at HRT
      have HM2 := Lib.hid HM2
      clear hD hm hn hneg hst hX HST
      go_wp2_with fail
      refine (contains_any _ S t _ HINT.out).mono ?_; rw [HMEM.out]; rintro e w1 ⟨rfl, rfl⟩
      go_wp2_with (at_builtin; refine wpList_append_lies _ rfl _ _ 23 rfl 0 2 j0 (.int .i64 0) 1 8 Tryd.underlying23 hj hyy0 hyy1 hyy2 rfl (by decide) (.slice av L cv) L _ rfl ((HOW.out).alloc _) _ 1 _ [.int .i64 t] rfl rfl (cell_one_new _ _ _) (by simp [Value.oneCell']) (by decide) (by unfold maxLen; omega) (by omega) (Nat.zero_le _) _ rfl ?_; intro g cap w3 hown hgrow hat hgl; obtain ⟨⟨e0, e1, e2, e3⟩, hput⟩ := HRW.out.push HL.out hown hgrow hat hgl; have HP3 := Lib.hid hput; clear hput hown hgrow hat hgl)
      clear e0 e1 e2 e3
      generalize w3.setCell ⟨w.heap.size + 1 + 1, 0, none⟩ (.slice (some ⟨g, 0, none⟩) (L + 1) cap) = W3 at *
      refine (HPK.out _ HP3.out.below).mono ?_; rintro e w5 ⟨gp, cp, rfl, hgl, _, ho, hb5⟩
      have HOF := Lib.hid ho
      clear ho
      have hR5 := HP3.out.keep hb5
      have k0 := hR5.v0; have k1 := hR5.v1; have k2 := hR5.v2; have k3 := hR5.r0; have k4 := hR5.r1; have k5 := hR5.r2
      have l0 := hR5.fv 0; have l1 := hR5.fv 1; have l2 := hR5.fv 2; have l3 := hR5.fr 0; have l4 := hR5.fr 1; have l5 := hR5.fr 2
      have HR5 := Lib.hid hR5
      clear hR5
      go_wp2_with fail
      refine (areNonnegative_any _ _ _ HOF.out (HLE.out t)).mono ?_; rw [HN.out]; rintro e w6 ⟨rfl, hb6⟩
      have HR6 := Lib.hid (HR5.out.keep hb6)
      have HOF6 := Lib.hid (HOF.out.below hb6 hgl)
      have hgl6 : gp < w6.heap.size := Nat.lt_of_lt_of_le hgl hb6.size
      clear k0 k1 k2 k3 k4 k5 l0 l1 l2 l3 l4 l5
      go_wp2_with fail
      refine (HRT.out gp cp w6 (gt _ HR6.out.below) HOF6.out hgl6).mono ?_; rintro e w7 ⟨rfl, hb7⟩
      have HR7 := Lib.hid (HR6.out.keep hb7)
      go_wp2_with fail
      go_step3
      refine ⟨rfl, ⟨j, S ++ [t], bits BinOp.xor IntKind.i64 t X, .slice (some ⟨g, 0, none⟩) (L + 1) cap, _, _, _, _, _, _, _, _, _, _, _, _, _, _, _, _, _, _, _, _, _, _, _, _, _, _, _, _, _, _, _, _, _, _, _, _, _, _, _, _, rfl, HM2.out, ?_, HR7.out⟩, ?_⟩
      · rw [← HRUN.out, HO.out]
      · rw [HR7.out.v0, v0]
        simp only [lenV]
        omega

set_option maxRecDepth 100000 in
set_option maxHeartbeats 4000000 in
theorem runFrom_3 (m q : Value) (M : List (List Int)) (Q : List Int) (s r : Int) (w : World) (hT : Tab8 w) (h1 : PM.Rows w m M) (h2 : Ints w q Q) (hp : isPB M Q = true) (hs0 : 0 ≤ s) (hs1 : s < 2 ^ M.length) (hr : ruleF r = 117) :
    Calls Tryd.prog 84 #[.agg #[m, q], .int .i64 s, .func (.func 117) #[] #[]] w (OutRun M Q w (runO M Q r 33 [] s)) := by
  have g1 := fun (w' : World) (h : Below w.heap.size w w') => h1.below h
  have g2 := fun (w' : World) (h : Below w.heap.size w w') => h2.below h
  have gt := fun (w' : World) (h : Below w.heap.size w w') => hT.below h
  clear hT
  obtain ⟨a1, c1, rfl, _⟩ := h1
  obtain ⟨a2, c2, rfl, _⟩ := h2
  have f1 := (isPB_facts hp).1
  have f2 := (isPB_facts hp).2.1
  have HP := Lib.hid hp
  have HMF := Lib.hid (Met.first hs0 hs1)
  have HLL := Lib.hid (fun t => ptL_length M Q t)
  have HLE := Lib.hid (fun t => show (ptL M Q t).length ≤ 1048576 by rw [HLL.out]; omega)
  have HR := Lib.hid (fun (t : Int) (hD : dt M.length (colS M t) ≠ 0) (hneg : negM (ptL M Q t) M.length ≠ 0) (g c : Nat) (w' : World) (hT : Tab8 w') (hv : OwnF w' (.slice (some ⟨g, 0, none⟩) M.length c) (ptL M Q t)) (hg : g < w'.heap.size) =>
    show Calls Tryd.prog 117 _ _ _ from hr ▸ rule_any r g c M.length (ptL M Q t) w' hT hv (HLL.out t).symm hg f1 f2 (fun j hj => ptL_isF hp hD j hj) hneg)
  have HSC : ∀ t, 0 ≤ t → t < 2 ^ M.length → setCode M Q t = 0 := fun t h0 h1 => setCode_ok hp (by omega)
  have HSC := Lib.hid HSC
  obtain ⟨j0, hj, hyy0, hyy1, hyy2⟩ := info_parts info_int
  clear hp hs0 hs1 hr
  go_enter Tryd.func84, Tryd.ntmps84
  go_wp2_with fail
  refine wp_scope_top 0 (fun a' wr => ∃ (k : Nat) (S : List Int) (t : Int) (v : Value) (u8 u9 u10 u11 u12 u13 u14 u15 u16 u17 u18 u19 u20 u21 u22 u23 u24 u25 u26 u27 u28 u29 u30 u31 u32 u33 u34 u35 u36 u37 u38 u39 u40 u41 u42 u43 u44 u45 u46 u47 : Value), a' = { tmps := #[.agg #[.slice a1 M.length c1, .slice a2 Q.length c2], .int .i64 t, .func (.func 117) #[] #[], .pointer (some ⟨w.heap.size, 0, none⟩), undef, undef, .pointer (some ⟨w.heap.size + 1, 0, none⟩), .pointer (some ⟨w.heap.size + 1 + 1, 0, none⟩), u8, u9, u10, u11, u12, u13, u14, u15, u16, u17, u18, u19, u20, u21, u22, u23, u24, u25, u26, u27, u28, u29, u30, u31, u32, u33, u34, u35, u36, u37, u38, u39, u40, u41, u42, u43, u44, u45, u46, u47], defers := [] } ∧ Met M.length S t k ∧ runO M Q r k S t = runO M Q r 33 [] s ∧ RunW w wr (.slice a1 M.length c1) (.slice a2 Q.length c2) v S 0 (.slice none 0 0)) (fun _ w' => 33 - lenV (w'.cell? ⟨w.heap.size + 1 + 1, 0, none⟩)) rfl ?_ ?_
  · go_wp2_with fail
    refine ⟨33, [], s, .slice none 0 0, _, _, _, _, _, _, _, _, _, _, _, _, _, _, _, _, _, _, _, _, _, _, _, _, _, _, _, _, _, _, _, _, _, _, _, _, _, _, _, _, rfl, HMF.out, rfl, ?_⟩
    refine ⟨by (repeat' (first | (with_reducible exact Below.refl _ _) | (with_reducible assumption) | (with_reducible refine Below.alloc ?_ ?_ _) | (with_reducible refine Below.drew ?_) | (with_reducible refine below_drewN ?_ _) | (with_reducible refine Below.setCell ?_ ?_ _) | (with_reducible refine Below.trans ?_ (Below.mono (by with_reducible assumption) ?_)) | (with_reducible exact Below.size (by with_reducible assumption)) | go_size)), ?_, ?_, ?_, ?_, ?_, ?_, ?_, ?_, ?_, ?_, urng_nil _ _ _⟩
    all_goals simp [go_sem]
  · rintro a' wr ⟨k, S, t, v, u8, u9, u10, u11, u12, u13, u14, u15, u16, u17, u18, u19, u20, u21, u22, u23, u24, u25, u26, u27, u28, u29, u30, u31, u32, u33, u34, u35, u36, u37, u38, u39, u40, u41, u42, u43, u44, u45, u46, u47, rfl, hM, hrun, hR⟩

    have hsh := OwnI.shape hR.own.own
    obtain ⟨av, cv, rfl⟩ := hsh
    obtain ⟨j, rfl, hL5⟩ := hM.pos f2
    have HINT := Lib.hid (hR.own.own.ints (fun x hx => by have := hM.inn x hx; have h3 := pow_le_32 f2; have e : (((2 : Nat) ^ M.length : Nat) : Int) = 2 ^ M.length := (by norm_cast); unfold I64; omega))
    have HRUN := Lib.hid hrun
    have HM := Lib.hid hM
    have HRW := Lib.hid hR
    have HOW := Lib.hid hR.own.own
    have v0 := hR.v0
    have b0 := hR.b0
    have b1 := hR.b1
    have fv := hR.fv 0
    have hbg := hR.big
    obtain ⟨L, hL⟩ : ∃ L, L = S.length := ⟨_, rfl⟩
    rw [← hL] at v0 HRW HINT HOW hL5
    have HL := Lib.hid hL
    unfold OwnI at HOW
    rw [← hL] at HOW
    clear hR hM hrun hL
    by_cases hD : dt M.length (colS M t) = 0
    · have HPZ := Lib.hid (fun (w' : World) (hb : Below w.heap.size w w') => implPoint_zero _ _ M Q t w' (g1 _ hb) (g2 _ hb) (HSC.out t HM.out.lo HM.out.hi) hD)
      have HO := Lib.hid (runO_stuck (M := M) (Q := Q) (r := r) (k := j) (S := S) hD)
      clear hD
      go_wp2_with fail
      refine (contains_any _ S t _ HINT.out).mono ?_; rintro e w1 ⟨rfl, rfl⟩
      go_wp2_with (at_builtin; refine wpList_append_lies _ rfl _ _ 23 rfl 0 2 j0 (.int .i64 0) 1 8 Tryd.underlying23 hj hyy0 hyy1 hyy2 rfl (by decide) (.slice av L cv) L _ rfl ((HOW.out).alloc _) _ 1 _ [.int .i64 t] rfl rfl (cell_one_new _ _ _) (by simp [Value.oneCell']) (by decide) (by unfold maxLen; omega) (by omega) (Nat.zero_le _) _ rfl ?_; intro g cap w3 hown hgrow hat hgl; obtain ⟨⟨e0, e1, e2, e3⟩, hput⟩ := HRW.out.push HL.out hown hgrow hat hgl; have HP3 := Lib.hid hput; clear hput hown hgrow hat hgl)
      clear e0 e1 e2 e3
      generalize w3.setCell ⟨w.heap.size + 1 + 1, 0, none⟩ (.slice (some ⟨g, 0, none⟩) (L + 1) cap) = W3 at *
      refine (HPZ.out _ HP3.out.below).mono ?_; rintro e w5 ⟨a3, c3, rfl, hb5⟩
      have hR5 := HP3.out.keep hb5
      have k0 := hR5.v0; have k1 := hR5.v1; have k2 := hR5.v2; have k3 := hR5.r0; have k4 := hR5.r1; have k5 := hR5.r2
      have l0 := hR5.fv 0; have l1 := hR5.fv 1; have l2 := hR5.fv 2; have l3 := hR5.fr 0; have l4 := hR5.fr 1; have l5 := hR5.fr 2
      have HE := Lib.hid (hR5.ended 1)
      clear hR5
      go_wp2_with fail
      simp only [Exit.jump]
      refine bodyPost_ret (v := .agg #[.slice (some ⟨g, 0, none⟩) (L + 1) cap, .int .i64 1, .slice none 0 0]) (by simp [*, results, Tryd.results84, go_sem]) rfl ?_
      rw [← HRUN.out, HO.out]
      obtain ⟨z1, z2⟩ := HE.out.fin (.slice (some ⟨g, 0, none⟩) (L + 1) cap) (.int .i64 1) (.slice none 0 0)
      exact ⟨_, _, rfl, z1, fun _ => rfl, fun h => by simp at h, z2⟩
    have HPK := Lib.hid (fun (w' : World) (hb : Below w.heap.size w w') => implPoint_lo _ _ M Q t w' (g1 _ hb) (g2 _ hb) (HSC.out t HM.out.lo HM.out.hi) HP.out hD)
    by_cases hm : t ∈ S
    · have HO := Lib.hid (runO_again (M := M) (Q := Q) (r := r) (k := j) (S := S) hD hm)
      have HMEM := Lib.hid (show decide (t ∈ S) = true from decide_eq_true hm)
      clear hD hm
      go_wp2_with fail
      refine (contains_any _ S t _ HINT.out).mono ?_; rw [HMEM.out]; rintro e w1 ⟨rfl, rfl⟩
      go_wp2_with (at_builtin; refine wpList_append_lies _ rfl _ _ 23 rfl 0 2 j0 (.int .i64 0) 1 8 Tryd.underlying23 hj hyy0 hyy1 hyy2 rfl (by decide) (.slice av L cv) L _ rfl ((HOW.out).alloc _) _ 1 _ [.int .i64 t] rfl rfl (cell_one_new _ _ _) (by simp [Value.oneCell']) (by decide) (by unfold maxLen; omega) (by omega) (Nat.zero_le _) _ rfl ?_; intro g cap w3 hown hgrow hat hgl; obtain ⟨⟨e0, e1, e2, e3⟩, hput⟩ := HRW.out.push HL.out hown hgrow hat hgl; have HP3 := Lib.hid hput; clear hput hown hgrow hat hgl)
      clear e0 e1 e2 e3
      generalize w3.setCell ⟨w.heap.size + 1 + 1, 0, none⟩ (.slice (some ⟨g, 0, none⟩) (L + 1) cap) = W3 at *
      refine (HPK.out _ HP3.out.below).mono ?_; rintro e w5 ⟨gp, cp, rfl, _, _, _, hb5⟩
      have hR5 := HP3.out.keep hb5
      have k0 := hR5.v0; have k1 := hR5.v1; have k2 := hR5.v2; have k3 := hR5.r0; have k4 := hR5.r1; have k5 := hR5.r2
      have l0 := hR5.fv 0; have l1 := hR5.fv 1; have l2 := hR5.fv 2; have l3 := hR5.fr 0; have l4 := hR5.fr 1; have l5 := hR5.fr 2
      have HE := Lib.hid (hR5.ended 2)
      clear hR5
      go_wp2_with fail
      simp only [Exit.jump]
      refine bodyPost_ret (v := .agg #[.slice (some ⟨g, 0, none⟩) (L + 1) cap, .int .i64 2, .slice none 0 0]) (by simp [*, results, Tryd.results84, go_sem]) rfl ?_
      rw [← HRUN.out, HO.out]
      obtain ⟨z1, z2⟩ := HE.out.fin (.slice (some ⟨g, 0, none⟩) (L + 1) cap) (.int .i64 2) (.slice none 0 0)
      exact ⟨_, _, rfl, z1, fun _ => rfl, fun h => by simp at h, z2⟩
    have HMEM := Lib.hid (show decide (t ∈ S) = false from decide_eq_false hm)
    cases hn : nonneg (ptL M Q t)
    case true =>
      have HO := Lib.hid (runO_solved (M := M) (Q := Q) (r := r) (k := j) (S := S) hD hm hn)
      have HN := Lib.hid hn
      have HD := Lib.hid hD
      clear hD hm hn
      go_wp2_with fail
      refine (contains_any _ S t _ HINT.out).mono ?_; rw [HMEM.out]; rintro e w1 ⟨rfl, rfl⟩
      go_wp2_with (at_builtin; refine wpList_append_lies _ rfl _ _ 23 rfl 0 2 j0 (.int .i64 0) 1 8 Tryd.underlying23 hj hyy0 hyy1 hyy2 rfl (by decide) (.slice av L cv) L _ rfl ((HOW.out).alloc _) _ 1 _ [.int .i64 t] rfl rfl (cell_one_new _ _ _) (by simp [Value.oneCell']) (by decide) (by unfold maxLen; omega) (by omega) (Nat.zero_le _) _ rfl ?_; intro g cap w3 hown hgrow hat hgl; obtain ⟨⟨e0, e1, e2, e3⟩, hput⟩ := HRW.out.push HL.out hown hgrow hat hgl; have HP3 := Lib.hid hput; clear hput hown hgrow hat hgl)
      clear e0 e1 e2 e3
      generalize w3.setCell ⟨w.heap.size + 1 + 1, 0, none⟩ (.slice (some ⟨g, 0, none⟩) (L + 1) cap) = W3 at *
      refine (HPK.out _ HP3.out.below).mono ?_; rintro e w5 ⟨gp, cp, rfl, hgl, hglo, ho, hb5⟩
      have hgne : gp ≠ w.heap.size + 1 + 1 := by have := HP3.out.big; omega
      have HOF := Lib.hid ho
      clear ho
      have hR5 := HP3.out.keep hb5
      have k0 := hR5.v0; have k1 := hR5.v1; have k2 := hR5.v2; have k3 := hR5.r0; have k4 := hR5.r1; have k5 := hR5.r2
      have l0 := hR5.fv 0; have l1 := hR5.fv 1; have l2 := hR5.fv 2; have l3 := hR5.fr 0; have l4 := hR5.fr 1; have l5 := hR5.fr 2
      have HR5 := Lib.hid hR5
      clear hR5
      go_wp2_with fail
      refine (areNonnegative_any _ _ _ HOF.out (HLE.out t)).mono ?_; rw [HN.out]; rintro e w6 ⟨rfl, hb6⟩
      have HR6 := Lib.hid (HR5.out.keep hb6)
      have HOF6 := Lib.hid (HOF.out.below hb6 hgl)
      have hgl6 : gp < w6.heap.size := Nat.lt_of_lt_of_le hgl hb6.size
      clear k0 k1 k2 k3 k4 k5 l0 l1 l2 l3 l4 l5
      have k1 := HR6.out.v1; have l1 := HR6.out.fv 1
      go_wp2_with fail
      have HR7 := Lib.hid (HR6.out.ended 0)
      have HOF7 : Hid (OwnF (w6.setCell ⟨w.heap.size + 1 + 1, 1, none⟩ (.int .i64 0)) (.slice (some ⟨gp, 0, none⟩) M.length cp) (ptL M Q t)) := Lib.hid (ownF_any HOF6.out (fun b hb' => Below.heap_setCell _ _ _ _ (by simp [Value.ownBlock] at hb'; show b ≠ w.heap.size + 1 + 1; omega)))
      have hgl7 : gp < (w6.setCell ⟨w.heap.size + 1 + 1, 1, none⟩ (.int .i64 0)).heap.size := by simpa using hgl6
      generalize w6.setCell ⟨w.heap.size + 1 + 1, 1, none⟩ (.int .i64 0) = W7 at *
      refine (callsIn_wide.1 (solutionFrom_ok gp cp M.length (ptL M Q t) t W7 HOF7.out hgl7 (HLL.out t).symm f1 f2 HM.out.lo HM.out.hi)).mono ?_; rintro e w8 ⟨gz, rfl, hfz, hb8⟩
      have hR8 := HR7.out.keep hb8
      have k0 := hR8.v0; have k1 := hR8.v1; have k2 := hR8.v2; have k3 := hR8.r0; have k4 := hR8.r1; have k5 := hR8.r2
      have l0 := hR8.fv 0; have l1 := hR8.fv 1; have l2 := hR8.fv 2; have l3 := hR8.fr 0; have l4 := hR8.fr 1; have l5 := hR8.fr 2
      rw [selL_sol] at hfz
      have hz7 := HR7.out.big
      have hF8 : RngF (w.heap.size + 1 + 1 + 1) w8.heap.size w8 (.slice (some ⟨gz, 0, none⟩) M.length M.length) (solL M Q t) := ⟨hfz.own, fun b hb => by have := hfz.rng.at_ b hb; omega⟩
      have HZ := Lib.hid (urngF_set (b := w.heap.size + 1 + 1) (o := 2) (u := .slice (some ⟨gz, 0, none⟩) M.length M.length) hF8 (by omega))
      have HE := Lib.hid (hR8.solved (.slice (some ⟨gz, 0, none⟩) M.length M.length))
      clear hR8 hfz hF8
      go_wp2_with fail
      simp only [Exit.jump]
      refine bodyPost_ret (v := .agg #[.slice (some ⟨g, 0, none⟩) (L + 1) cap, .int .i64 0, .slice (some ⟨gz, 0, none⟩) M.length M.length]) (by simp [*, results, Tryd.results84, go_sem]) rfl ?_
      rw [← HRUN.out, HO.out]
      obtain ⟨z1, z2⟩ := HE.out.fin (.slice (some ⟨g, 0, none⟩) (L + 1) cap) (.int .i64 0) (.slice (some ⟨gz, 0, none⟩) M.length M.length)
      exact ⟨_, _, rfl, z1, fun h => by simp at h, fun _ => ⟨S, t, rfl, HM.out.lo, HM.out.hi, HD.out, HN.out, RunW.finF (by simpa using HZ.out) _ _ _⟩, z2⟩
    case false =>
      have HO := Lib.hid (runO_on (M := M) (Q := Q) (r := r) (k := j) (S := S) hD hm hn)
      have HN := Lib.hid hn
      have hneg : negM (ptL M Q t) M.length ≠ 0 := fun e => by rw [negM_nonneg.1 e] at hn; cases hn
      have HRT := Lib.hid (HR.out t hD hneg)
      have hst := stpS_in (r := r) f1 f2 HM.out.lo HM.out.hi hn
      have HM2 := HM.out.next hm hst.1 hst.2
      obtain ⟨X, hX⟩ : ∃ X : Nat, X = exM r (ptL M Q t) M.length := ⟨_, rfl⟩
      have HST : stpS M Q r t = bits BinOp.xor IntKind.i64 t X := by unfold stpS; rw [hX]
      rw [HST] at HM2 HO
      rw [← hX] at HRT
      have HM2 := Lib.hid HM2
      clear hD hm hn hneg hst hX HST
      go_wp2_with fail
      refine (contains_any _ S t _ HINT.out).mono ?_; rw [HMEM.out]; rintro e w1 ⟨rfl, rfl⟩
      go_wp2_with (at_builtin; refine wpList_append_lies _ rfl _ _ 23 rfl 0 2 j0 (.int .i64 0) 1 8 Tryd.underlying23 hj hyy0 hyy1 hyy2 rfl (by decide) (.slice av L cv) L _ rfl ((HOW.out).alloc _) _ 1 _ [.int .i64 t] rfl rfl (cell_one_new _ _ _) (by simp [Value.oneCell']) (by decide) (by unfold maxLen; omega) (by omega) (Nat.zero_le _) _ rfl ?_; intro g cap w3 hown hgrow hat hgl; obtain ⟨⟨e0, e1, e2, e3⟩, hput⟩ := HRW.out.push HL.out hown hgrow hat hgl; have HP3 := Lib.hid hput; clear hput hown hgrow hat hgl)
      clear e0 e1 e2 e3
      generalize w3.setCell ⟨w.heap.size + 1 + 1, 0, none⟩ (.slice (some ⟨g, 0, none⟩) (L + 1) cap) = W3 at *
      refine (HPK.out _ HP3.out.below).mono ?_; rintro e w5 ⟨gp, cp, rfl, hgl, _, ho, hb5⟩
      have HOF := Lib.hid ho
      clear ho
      have hR5 := HP3.out.keep hb5
      have k0 := hR5.v0; have k1 := hR5.v1; have k2 := hR5.v2; have k3 := hR5.r0; have k4 := hR5.r1; have k5 := hR5.r2
      have l0 := hR5.fv 0; have l1 := hR5.fv 1; have l2 := hR5.fv 2; have l3 := hR5.fr 0; have l4 := hR5.fr 1; have l5 := hR5.fr 2
      have HR5 := Lib.hid hR5
      clear hR5
      go_wp2_with fail
      refine (areNonnegative_any _ _ _ HOF.out (HLE.out t)).mono ?_; rw [HN.out]; rintro e w6 ⟨rfl, hb6⟩
      have HR6 := Lib.hid (HR5.out.keep hb6)
      have HOF6 := Lib.hid (HOF.out.below hb6 hgl)
      have hgl6 : gp < w6.heap.size := Nat.lt_of_lt_of_le hgl hb6.size
      clear k0 k1 k2 k3 k4 k5 l0 l1 l2 l3 l4 l5
      go_wp2_with fail
      refine (HRT.out gp cp w6 (gt _ HR6.out.below) HOF6.out hgl6).mono ?_; rintro e w7 ⟨rfl, hb7⟩
      have HR7 := Lib.hid (HR6.out.keep hb7)
      go_wp2_with fail
      go_step3
      refine ⟨rfl, ⟨j, S ++ [t], bits BinOp.xor IntKind.i64 t X, .slice (some ⟨g, 0, none⟩) (L + 1) cap, _, _, _, _, _, _, _, _, _, _, _, _, _, _, _, _, _, _, _, _, _, _, _, _, _, _, _, _, _, _, _, _, _, _, _, _, _, _, _, _, rfl, HM2.out, ?_, HR7.out⟩, ?_⟩
      · rw [← HRUN.out, HO.out]
      · rw [HR7.out.v0, v0]
        simp only [lenV]
        omega

theorem runFrom_any (m q : Value) (M : List (List Int)) (Q : List Int) (s r : Int) (w : World) (hT : Tab8 w) (h1 : PM.Rows w m M) (h2 : Ints w q Q) (hp : isPB M Q = true) (hs0 : 0 ≤ s) (hs1 : s < 2 ^ M.length) :
    Calls Tryd.prog 84 #[.agg #[m, q], .int .i64 s, .func (.func (ruleF r)) #[] #[]] w (OutRun M Q w (runO M Q r 33 [] s)) := by
  by_cases r0 : r = 0
  · have h : ruleF r = 114 := by unfold ruleF; rw [if_pos r0]
    rw [h]
    exact runFrom_0 m q M Q s r w hT h1 h2 hp hs0 hs1 h
  by_cases r1 : r = 1
  · have h : ruleF r = 115 := by unfold ruleF; rw [if_neg r0, if_pos r1]
    rw [h]
    exact runFrom_1 m q M Q s r w hT h1 h2 hp hs0 hs1 h
  by_cases r2 : r = 2
  · have h : ruleF r = 116 := by unfold ruleF; rw [if_neg r0, if_neg r1, if_pos r2]
    rw [h]
    exact runFrom_2 m q M Q s r w hT h1 h2 hp hs0 hs1 h
  · have h : ruleF r = 117 := by unfold ruleF; rw [if_neg r0, if_neg r1, if_neg r2]
    rw [h]
    exact runFrom_3 m q M Q s r w hT h1 h2 hp hs0 hs1 h
end Go.Proofs.YtopokicejgjcoaaDoor.PW
