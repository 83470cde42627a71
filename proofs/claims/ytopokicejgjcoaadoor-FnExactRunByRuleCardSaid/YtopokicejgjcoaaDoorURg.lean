/-
  Memory while a run is begun by its rule's number: the rules, the run, the variable that takes it.
-/
import Derived.Test.YtopokicejgjcoaaDoorURun
import Derived.Test.YtopokicejgjcoaaDoorURunS
namespace Go.Proofs.YtopokicejgjcoaaDoor.PW
open Go.RowKit Go.Proofs.YtopokicejgjcoaaDoor
open Go.Proofs.YtopokicejgjcoaaDoor.PM Go.Proofs.YtopokicejgjcoaaDoor.PX

/-- What a run has laid: its sets, and the solution. -/
structure RunRes (M : List (List Int)) (Q : List Int) (lo hi : Nat) (w : World) (o : List Int × Int) (v z : Value) : Prop where
  sets : RngI lo hi w v o.1
  nil : o.2 ≠ 0 → z = .slice none 0 0
  sol : o.2 = 0 → ∃ T t, o.1 = T ++ [t] ∧ 0 ≤ t ∧ t < 2 ^ M.length ∧ dt M.length (colS M t) ≠ 0 ∧ nonneg (ptL M Q t) = true ∧ RngF lo hi w z (solL M Q t)
theorem rngF_below {lo hi B : Nat} {w w' : World} {v : Value} {xs : List (Int × Int)} (h : RngF lo hi w v xs) (ht : Below B w w') (hd : hi ≤ B) : RngF lo hi w' v xs :=
  ⟨ownF_any h.own (fun b hb => ht.block b (by have := h.at_ b hb; omega)), h.at_⟩
theorem RunRes.below {M : List (List Int)} {Q : List Int} {lo hi B : Nat} {w w' : World} {o : List Int × Int} {v z : Value} (h : RunRes M Q lo hi w o v z) (hb : Below B w w') (hB : hi ≤ B) : RunRes M Q lo hi w' o v z :=
  ⟨h.sets.below hb hB, h.nil, fun e => by obtain ⟨T, t, h1, h2, h3, h4, h5, h6⟩ := h.sol e; exact ⟨T, t, h1, h2, h3, h4, h5, rngF_below h6 hb hB⟩⟩
theorem RunRes.put {M : List (List Int)} {Q : List Int} {lo hi g p : Nat} {w : World} {o : List Int × Int} {v z u : Value} (h : RunRes M Q lo hi w o v z) (hg : g < lo ∨ hi ≤ g) : RunRes M Q lo hi (w.setCell ⟨g, p, none⟩ u) o v z :=
  ⟨⟨urow_any h.sets.own (fun c hc => Below.heap_setCell _ _ _ _ (by have := h.sets.at_ c hc; show c ≠ g; omega)), h.sets.at_⟩, h.nil, fun e => by
    obtain ⟨T, t, h1, h2, h3, h4, h5, h6⟩ := h.sol e
    exact ⟨T, t, h1, h2, h3, h4, h5, ⟨ownF_any h6.own (fun c hc => Below.heap_setCell _ _ _ _ (by have := h6.at_ c hc; show c ≠ g; omega)), h6.at_⟩⟩⟩
theorem RunRes.wide {M : List (List Int)} {Q : List Int} {lo hi lo' hi' : Nat} {w : World} {o : List Int × Int} {v z : Value} (h : RunRes M Q lo hi w o v z) (h1 : lo' ≤ lo) (h2 : hi ≤ hi') : RunRes M Q lo' hi' w o v z :=
  ⟨⟨h.sets.own, fun b hb => by have := h.sets.at_ b hb; omega⟩, h.nil, fun e => by obtain ⟨T, t, k1, k2, k3, k4, k5, k6⟩ := h.sol e; exact ⟨T, t, k1, k2, k3, k4, k5, ⟨k6.own, fun b hb => by have := k6.at_ b hb; omega⟩⟩⟩

theorem RunRes.shape {M : List (List Int)} {Q : List Int} {lo hi : Nat} {w : World} {o : List Int × Int} {v z : Value} (h : RunRes M Q lo hi w o v z) : ∃ va vc za zn zc, v = .slice va o.1.length vc ∧ z = .slice za zn zc := by
  obtain ⟨va, vc, rfl⟩ := OwnI.shape h.sets.own
  by_cases e : o.2 = 0
  · obtain ⟨T, t, k1, k2, k3, k4, k5, k6⟩ := h.sol e
    rcases k6.own.cases with ⟨rfl, _⟩ | ⟨g, cap, rfl, _⟩
    · exact ⟨va, vc, none, 0, 0, rfl, rfl⟩
    · exact ⟨va, vc, _, _, _, rfl, rfl⟩
  · obtain rfl := h.nil e
    exact ⟨va, vc, none, 0, 0, rfl, rfl⟩
/-- While a run is begun: what has been laid, in whatever order. -/
structure RgW (M : List (List Int)) (Q : List Int) (W w' : World) (o : List Int × Int) (b2 b6 b7 b8 : Bool) (g2 g7 : Nat) (v z : Value) (lo hi : Nat) : Prop where
  below : Below W.heap.size W w'
  rules : b2 = true → b6 = false → g2 < w'.heap.size ∧ ∀ r : Nat, r < 4 → w'.cell? ⟨g2, r, none⟩ = some (.func (.func (ruleF r)) #[] #[])
  run : b6 = true → W.heap.size ≤ lo ∧ lo ≤ hi ∧ hi ≤ w'.heap.size ∧ RunRes M Q lo hi w' o v z
  box : b7 = true → W.heap.size ≤ g7 ∧ g7 < w'.heap.size ∧ w'.cell? ⟨g7, 0, none⟩ = some (cond b8 v (.slice none 0 0)) ∧ w'.cell? ⟨g7, 1, none⟩ = some (cond b8 (.int .i64 o.2) (.int .i64 0)) ∧ w'.cell? ⟨g7, 2, none⟩ = some (cond b8 z (.slice none 0 0)) ∧ ∀ p, w'.frozen? ⟨g7, p, none⟩ = false
  apart : b6 = true → b7 = true → g7 < lo ∨ hi ≤ g7
variable {M : List (List Int)} {Q : List Int} {W w' w'' : World} {o : List Int × Int} {b2 b6 b7 b8 : Bool} {g2 g7 : Nat} {v z : Value} {lo hi : Nat}
theorem RgW.keep (h : RgW M Q W w' o b2 b6 b7 b8 g2 g7 v z lo hi) (hb : Below w'.heap.size w' w'') : RgW M Q W w'' o b2 b6 b7 b8 g2 g7 v z lo hi := by
  obtain ⟨hc, hf⟩ := FW.bcell hb
  refine ⟨h.below.trans (hb.mono h.below.size), fun e e' => ?_, fun e => ?_, fun e => ?_, h.apart⟩
  · obtain ⟨q1, q2⟩ := h.rules e e'
    exact ⟨Nat.lt_of_lt_of_le q1 hb.size, fun r hr => (hc _ _ q1).trans (q2 r hr)⟩
  · obtain ⟨q1, q2, q3, q4⟩ := h.run e
    exact ⟨q1, q2, Nat.le_trans q3 hb.size, q4.below hb q3⟩
  · obtain ⟨q1, q2, q3, q4, q5, q6⟩ := h.box e
    exact ⟨q1, Nat.lt_of_lt_of_le q2 hb.size, (hc _ _ q2).trans q3, (hc _ _ q2).trans q4, (hc _ _ q2).trans q5, fun p => (hf _ _ q2).trans (q6 p)⟩
theorem RgW.rules_ (h : RgW M Q W w' o b2 false b7 b8 g2 g7 v z lo hi) (hc : ∀ r : Nat, r < 4 → w''.cell? ⟨w'.heap.size, r, none⟩ = some (.func (.func (ruleF r)) #[] #[])) (hb : Below w'.heap.size w' w'') : RgW M Q W w'' o true false b7 b8 w'.heap.size g7 v z lo hi := by
  have k := h.keep hb
  exact ⟨k.below, fun _ _ => ⟨World.block_lt_of_cell? w'' _ (hc 0 (by decide)), hc⟩, k.run, k.box, k.apart⟩
theorem RgW.run_ (h : RgW M Q W w' o b2 false b7 false g2 g7 v z lo hi) {v' z' : Value} (hr : RunRes M Q w'.heap.size w''.heap.size w'' o v' z') (hb : Below w'.heap.size w' w'') : RgW M Q W w'' o b2 true b7 false g2 g7 v' z' w'.heap.size w''.heap.size := by
  have k := h.keep hb
  refine ⟨k.below, fun _ e => (by cases e), fun _ => ⟨h.below.size, hb.size, Nat.le_refl _, hr⟩, fun e => ?_, fun _ e => .inl (h.box e).2.1⟩
  obtain ⟨q1, q2, q3, q4, q5, q6⟩ := k.box e
  exact ⟨q1, q2, q3, q4, q5, q6⟩
theorem RgW.box_ (h : RgW M Q W w' o b2 b6 false false g2 g7 v z lo hi) (t : TypeId) : RgW M Q W (w'.alloc (.cells #[.slice none 0 0, .int .i64 0, .slice none 0 0] t)) o b2 b6 true false g2 w'.heap.size v z lo hi := by
  have k := h.keep (w'' := w'.alloc (.cells #[.slice none 0 0, .int .i64 0, .slice none 0 0] t)) ((Below.refl _ _).alloc (Nat.le_refl _) _)
  refine ⟨k.below, k.rules, k.run, fun _ => ⟨h.below.size, by simp, by simp, by simp, by simp, fun p => by simp [go_sem]⟩, fun e _ => .inr (h.run e).2.2.1⟩
theorem RgW.store_ (h : RgW M Q W w' o b2 true true false g2 g7 v z lo hi) : RgW M Q W (((w'.setCell ⟨g7, 0, none⟩ v).setCell ⟨g7, 1, none⟩ (.int .i64 o.2)).setCell ⟨g7, 2, none⟩ z) o b2 true true true g2 g7 v z lo hi := by
  obtain ⟨q1, q2, q3, q4, q5, q6⟩ := h.box rfl
  obtain ⟨p1, p2, p3, p4⟩ := h.run rfl
  have ha := h.apart rfl rfl
  simp only [cond_false] at q3 q4 q5
  refine ⟨((h.below.setCell q1 _).setCell q1 _).setCell q1 _, fun _ e => (by cases e), fun _ => ⟨p1, p2, by simpa using p3, ((p4.put ha).put ha).put ha⟩, fun _ => ⟨q1, by simpa using q2, ?_, ?_, ?_, ?_⟩, h.apart⟩
  · simp [q3, go_sem]
  · simp [q4, go_sem]
  · simp [q5, go_sem]
  · intro p; simp [q6, go_sem]
end Go.Proofs.YtopokicejgjcoaaDoor.PW
