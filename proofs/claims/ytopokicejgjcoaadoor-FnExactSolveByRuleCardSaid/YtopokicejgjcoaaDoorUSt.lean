/-
  Memory while a run is begun by its rule's number: the rules, the run, the variable that takes it.
  The exact law of RunByRule: both sides' answers, and the law.
  Walks: the run from the empty set that is solved, in the program.
  The exact laws of StepsByRule and SolveByRule: both sides' answers, and the laws.
-/
import Derived.Test.YtopokicejgjcoaaDoorURun
import Derived.Test.YtopokicejgjcoaaDoorURunS
namespace Go.Proofs.YtopokicejgjcoaaDoor.PW
open Go.RowKit Go.Proofs.YtopokicejgjcoaaDoor
open Go.Proofs.YtopokicejgjcoaaDoor.PM Go.Proofs.YtopokicejgjcoaaDoor.PX

/-- What a run has laid: its sets, and the solution. -/
structure RunRes (M : List (List Int)) (Q : List Int) (lo hi : Nat) (w : World) (o : List Int × Int) (v z : Value) : Prop where
  sets : RngI lo hi w v o.1
  nil : o.2 ≠ 0 → z = .slice none 0 0
  sol : o.2 = 0 → ∃ T t, o.1 = T ++ [t] ∧ 0 ≤ t ∧ t < 2 ^ M.length ∧ dt M.length (colS M t) ≠ 0 ∧ nonneg (ptL M Q t) = true ∧ RngF lo hi w z (solL M Q t)
theorem rngF_below {lo hi B : Nat} {w w' : World} {v : Value} {xs : List (Int × Int)} (h : RngF lo hi w v xs) (ht : Below B w w') (hd : hi ≤ B) : RngF lo hi w' v xs :=
  ⟨ownF_any h.own (fun b hb => ht.block b (by have := h.at_ b hb; omega)), h.at_⟩
theorem RunRes.below {M : List (List Int)} {Q : List Int} {lo hi B : Nat} {w w' : World} {o : List Int × Int} {v z : Value} (h : RunRes M Q lo hi w o v z) (hb : Below B w w') (hB : hi ≤ B) : RunRes M Q lo hi w' o v z :=
  ⟨h.sets.below hb hB, h.nil, fun e => by obtain ⟨T, t, h1, h2, h3, h4, h5, h6⟩ := h.sol e; exact ⟨T, t, h1, h2, h3, h4, h5, rngF_below h6 hb hB⟩⟩
theorem RunRes.put {M : List (List Int)} {Q : List Int} {lo hi g p : Nat} {w : World} {o : List Int × Int} {v z u : Value} (h : RunRes M Q lo hi w o v z) (hg : g < lo ∨ hi ≤ g) : RunRes M Q lo hi (w.setCell ⟨g, p, none⟩ u) o v z :=
  ⟨⟨urow_any h.sets.own (fun c hc => Below.heap_setCell _ _ _ _ (by have := h.sets.at_ c hc; show c ≠ g; omega)), h.sets.at_⟩, h.nil, fun e => by
    obtain ⟨T, t, h1, h2, h3, h4, h5, h6⟩ := h.sol e
    exact ⟨T, t, h1, h2, h3, h4, h5, ⟨ownF_any h6.own (fun c hc => Below.heap_setCell _ _ _ _ (by have := h6.at_ c hc; show c ≠ g; omega)), h6.at_⟩⟩⟩
theorem RunRes.wide {M : List (List Int)} {Q : List Int} {lo hi lo' hi' : Nat} {w : World} {o : List Int × Int} {v z : Value} (h : RunRes M Q lo hi w o v z) (h1 : lo' ≤ lo) (h2 : hi ≤ hi') : RunRes M Q lo' hi' w o v z :=
  ⟨⟨h.sets.own, fun b hb => by have := h.sets.at_ b hb; omega⟩, h.nil, fun e => by obtain ⟨T, t, k1, k2, k3, k4, k5, k6⟩ := h.sol e; exact ⟨T, t, k1, k2, k3, k4, k5, ⟨k6.own, fun b hb => by have := k6.at_ b hb; omega⟩⟩⟩

theorem RunRes.shape {M : List (List Int)} {Q : List Int} {lo hi : Nat} {w : World} {o : List Int × Int} {v z : Value} (h : RunRes M Q lo hi w o v z) : ∃ va vc za zn zc, v = .slice va o.1.length vc ∧ z = .slice za zn zc := by
  obtain ⟨va, vc, rfl⟩ := OwnI.shape h.sets.own
  by_cases e : o.2 = 0
  · obtain ⟨T, t, k1, k2, k3, k4, k5, k6⟩ := h.sol e
    rcases k6.own.cases with ⟨rfl, _⟩ | ⟨g, cap, rfl, _⟩
    · exact ⟨va, vc, none, 0, 0, rfl, rfl⟩
    · exact ⟨va, vc, _, _, _, rfl, rfl⟩
  · obtain rfl := h.nil e
    exact ⟨va, vc, none, 0, 0, rfl, rfl⟩
/-- While a run is begun: what has been laid, in whatever order. -/
structure RgW (M : List (List Int)) (Q : List Int) (W w' : World) (o : List Int × Int) (b2 b6 b7 b8 : Bool) (g2 g7 : Nat) (v z : Value) (lo hi : Nat) : Prop where
  below : Below W.heap.size W w'
  rules : b2 = true → b6 = false → g2 < w'.heap.size ∧ ∀ r : Nat, r < 4 → w'.cell? ⟨g2, r, none⟩ = some (.func (.func (ruleF r)) #[] #[])
  run : b6 = true → W.heap.size ≤ lo ∧ lo ≤ hi ∧ hi ≤ w'.heap.size ∧ RunRes M Q lo hi w' o v z
  box : b7 = true → W.heap.size ≤ g7 ∧ g7 < w'.heap.size ∧ w'.cell? ⟨g7, 0, none⟩ = some (cond b8 v (.slice none 0 0)) ∧ w'.cell? ⟨g7, 1, none⟩ = some (cond b8 (.int .i64 o.2) (.int .i64 0)) ∧ w'.cell? ⟨g7, 2, none⟩ = some (cond b8 z (.slice none 0 0)) ∧ ∀ p, w'.frozen? ⟨g7, p, none⟩ = false
  apart : b6 = true → b7 = true → g7 < lo ∨ hi ≤ g7
variable {M : List (List Int)} {Q : List Int} {W w' w'' : World} {o : List Int × Int} {b2 b6 b7 b8 : Bool} {g2 g7 : Nat} {v z : Value} {lo hi : Nat}
theorem RgW.keep (h : RgW M Q W w' o b2 b6 b7 b8 g2 g7 v z lo hi) (hb : Below w'.heap.size w' w'') : RgW M Q W w'' o b2 b6 b7 b8 g2 g7 v z lo hi := by
  obtain ⟨hc, hf⟩ := FW.bcell hb
  refine ⟨h.below.trans (hb.mono h.below.size), fun e e' => ?_, fun e => ?_, fun e => ?_, h.apart⟩
  · obtain ⟨q1, q2⟩ := h.rules e e'
    exact ⟨Nat.lt_of_lt_of_le q1 hb.size, fun r hr => (hc _ _ q1).trans (q2 r hr)⟩
  · obtain ⟨q1, q2, q3, q4⟩ := h.run e
    exact ⟨q1, q2, Nat.le_trans q3 hb.size, q4.below hb q3⟩
  · obtain ⟨q1, q2, q3, q4, q5, q6⟩ := h.box e
    exact ⟨q1, Nat.lt_of_lt_of_le q2 hb.size, (hc _ _ q2).trans q3, (hc _ _ q2).trans q4, (hc _ _ q2).trans q5, fun p => (hf _ _ q2).trans (q6 p)⟩
theorem RgW.rules_ (h : RgW M Q W w' o b2 false b7 b8 g2 g7 v z lo hi) (hc : ∀ r : Nat, r < 4 → w''.cell? ⟨w'.heap.size, r, none⟩ = some (.func (.func (ruleF r)) #[] #[])) (hb : Below w'.heap.size w' w'') : RgW M Q W w'' o true false b7 b8 w'.heap.size g7 v z lo hi := by
  have k := h.keep hb
  exact ⟨k.below, fun _ _ => ⟨World.block_lt_of_cell? w'' _ (hc 0 (by decide)), hc⟩, k.run, k.box, k.apart⟩
theorem RgW.run_ (h : RgW M Q W w' o b2 false b7 false g2 g7 v z lo hi) {v' z' : Value} (hr : RunRes M Q w'.heap.size w''.heap.size w'' o v' z') (hb : Below w'.heap.size w' w'') : RgW M Q W w'' o b2 true b7 false g2 g7 v' z' w'.heap.size w''.heap.size := by
  have k := h.keep hb
  refine ⟨k.below, fun _ e => (by cases e), fun _ => ⟨h.below.size, hb.size, Nat.le_refl _, hr⟩, fun e => ?_, fun _ e => .inl (h.box e).2.1⟩
  obtain ⟨q1, q2, q3, q4, q5, q6⟩ := k.box e
  exact ⟨q1, q2, q3, q4, q5, q6⟩
theorem RgW.box_ (h : RgW M Q W w' o b2 b6 false false g2 g7 v z lo hi) (t : TypeId) : RgW M Q W (w'.alloc (.cells #[.slice none 0 0, .int .i64 0, .slice none 0 0] t)) o b2 b6 true false g2 w'.heap.size v z lo hi := by
  have k := h.keep (w'' := w'.alloc (.cells #[.slice none 0 0, .int .i64 0, .slice none 0 0] t)) ((Below.refl _ _).alloc (Nat.le_refl _) _)
  refine ⟨k.below, k.rules, k.run, fun _ => ⟨h.below.size, by simp, by simp, by simp, by simp, fun p => by simp [go_sem]⟩, fun e _ => .inr (h.run e).2.2.1⟩
theorem RgW.store_ (h : RgW M Q W w' o b2 true true false g2 g7 v z lo hi) : RgW M Q W (((w'.setCell ⟨g7, 0, none⟩ v).setCell ⟨g7, 1, none⟩ (.int .i64 o.2)).setCell ⟨g7, 2, none⟩ z) o b2 true true true g2 g7 v z lo hi := by
  obtain ⟨q1, q2, q3, q4, q5, q6⟩ := h.box rfl
  obtain ⟨p1, p2, p3, p4⟩ := h.run rfl
  have ha := h.apart rfl rfl
  simp only [cond_false] at q3 q4 q5
  refine ⟨((h.below.setCell q1 _).setCell q1 _).setCell q1 _, fun _ e => (by cases e), fun _ => ⟨p1, p2, by simpa using p3, ((p4.put ha).put ha).put ha⟩, fun _ => ⟨q1, by simpa using q2, ?_, ?_, ?_, ?_⟩, h.apart⟩
  · simp [q3, go_sem]
  · simp [q4, go_sem]
  · simp [q5, go_sem]
  · intro p; simp [q6, go_sem]
end Go.Proofs.YtopokicejgjcoaaDoor.PW
namespace Go.Proofs.YtopokicejgjcoaaDoor.PW
open Go.RowKit Go.Proofs.YtopokicejgjcoaaDoor
open Go.Proofs.YtopokicejgjcoaaDoor.PM Go.Proofs.YtopokicejgjcoaaDoor.PX
attribute [local go_sem] Oper.semAt_some

/-- What a function leaves that returns a list of numbers, a number and a code. -/
def OutIN (w : World) (o : List Int × Int × Int) (e : Ending) (w' : World) : Prop :=
  ∃ v, e = .returned (.tuple #[v, .int .i64 o.2.1, .int .i64 o.2.2]) ∧ RngI w.heap.size w'.heap.size w' v o.1 ∧ Below w.heap.size w w'
theorem OutIN.out {w w' : World} {o : List Int × Int × Int} {e : Ending} (h : OutIN w o e w') :
    ∃ a c, e = .returned (.tuple #[.slice a o.1.length c, .int .i64 o.2.1, .int .i64 o.2.2]) ∧ RngI w.heap.size w'.heap.size w' (.slice a o.1.length c) o.1 ∧ Below w.heap.size w w' := by
  obtain ⟨v, rfl, ho, hb⟩ := h
  obtain ⟨a1, c1, rfl⟩ := OwnI.shape ho.own
  exact ⟨a1, c1, rfl, ho, hb⟩
theorem outIN_nil {w w' : World} {c : Int} (h : Below w.heap.size w w') : OutIN w ([], 0, c) (.returned (.tuple #[.slice none 0 0, .int .i64 0, .int .i64 c])) w' := ⟨_, rfl, urng_nil _ _ _, h⟩
def rbOut (M : List (List Int)) (Q : List Int) (s r : Int) : List Int × Int × Int :=
  if ruleCode M Q s r ≠ 0 then ([], 0, ruleCode M Q s r) else ((runO M Q r 33 [] s).1, (runO M Q r 33 [] s).2, 0)
theorem rbOut_err {M : List (List Int)} {Q : List Int} {s r c : Int} (h : ruleCode M Q s r = c) (hc : c ≠ 0) : rbOut M Q s r = ([], 0, c) := by unfold rbOut; rw [if_pos (by omega), h]
theorem rbOut_ok {M : List (List Int)} {Q : List Int} {s r : Int} (h : ruleCode M Q s r = 0) : rbOut M Q s r = ((runO M Q r 33 [] s).1, (runO M Q r 33 [] s).2, 0) := by unfold rbOut; rw [if_neg (by omega)]
theorem run_fine {M : List (List Int)} {Q : List Int} {r s : Int} (hp : isPB M Q = true) (hs0 : 0 ≤ s) (hs1 : s < 2 ^ M.length) : FineI (runO M Q r 33 [] s).1 := by
  have f1 := (isPB_facts hp).1
  have f2 := (isPB_facts hp).2.1
  obtain ⟨k1, _, k3, _⟩ := runO_facts (r := r) f1 f2 33 [] s (Met.first hs0 hs1)
  have hp := pow_le_32 f2
  have e : (((2 : Nat) ^ M.length : Nat) : Int) = 2 ^ M.length := by norm_cast
  exact ⟨fun x hx => by have := k3 x hx; unfold I64; omega, by omega⟩
theorem fine_rb (M : List (List Int)) (Q : List Int) (s r : Int) : FineI (rbOut M Q s r).1 := by
  rcases ruleCode_cases M Q s r with h | h | ⟨h, hs, hp, hs0, hs1, hr0, hr1⟩
  · rw [rbOut_err h (by decide)]; exact fineI_nil
  · rw [rbOut_err h (by decide)]; exact fineI_nil
  · rw [rbOut_ok h]; exact run_fine hp hs0 hs1

set_option maxHeartbeats 1000000 in
theorem specRunByRule_any (m q : Value) (M : List (List Int)) (Q : List Int) (s r : Int) (w : World) (h1 : PM.Rows w m M) (h2 : Ints w q Q) :
    Calls Tryd.prog 30 #[.agg #[m, q], .int .i64 s, .int .i64 r] w (OutIN w (rbOut M Q s r)) := by
  have g1 := fun (w' : World) (h : Below w.heap.size w w') => h1.below h
  have g2 := fun (w' : World) (h : Below w.heap.size w w') => h2.below h
  obtain ⟨a1, c1, rfl, _⟩ := h1
  obtain ⟨a2, c2, rfl, _⟩ := h2
  rcases ruleCode_cases M Q s r with h | h | ⟨h, hs, hp, hs0, hs1, hr0, hr1⟩
  case' inr.inr =>
    have HC := Lib.hid h
    rw [rbOut_ok h]
    have HPK := Lib.hid (fun (w' : World) (hb : Below w.heap.size w w') => l08Run_any _ _ M Q s r w' (g1 _ hb) (g2 _ hb) hp hs0 hs1 hr0 hr1)
    generalize runO M Q r 33 [] s = O at *
    clear h hp hs0 hs1 hs
    go_enter Tryd.func30, Tryd.ntmps30
    go_wp2_with fail
    refine (l08Code_any _ _ M Q s r _ (g1 _ (by (repeat' (first | (with_reducible exact Below.refl _ _) | (with_reducible assumption) | (with_reducible refine Below.alloc ?_ ?_ _) | (with_reducible refine Below.drew ?_) | (with_reducible refine below_drewN ?_ _) | (with_reducible refine Below.setCell ?_ ?_ _) | (with_reducible refine Below.trans ?_ (Below.mono (by with_reducible assumption) ?_)) | (with_reducible exact Below.size (by with_reducible assumption)) | go_size)))) (g2 _ (by (repeat' (first | (with_reducible exact Below.refl _ _) | (with_reducible assumption) | (with_reducible refine Below.alloc ?_ ?_ _) | (with_reducible refine Below.drew ?_) | (with_reducible refine below_drewN ?_ _) | (with_reducible refine Below.setCell ?_ ?_ _) | (with_reducible refine Below.trans ?_ (Below.mono (by with_reducible assumption) ?_)) | (with_reducible exact Below.size (by with_reducible assumption)) | go_size))))).mono ?_; rw [HC.out]; rintro e w1 ⟨rfl, hb1⟩; obtain ⟨hc_hb1, hf_hb1⟩ := bcell hb1; obtain ⟨hcA_hb1, hfA_hb1⟩ := bcellG (W0 := w) hb1 (by (repeat' (first | (with_reducible exact Below.refl _ _) | (with_reducible assumption) | (with_reducible refine Below.alloc ?_ ?_ _) | (with_reducible refine Below.drew ?_) | (with_reducible refine below_drewN ?_ _) | (with_reducible refine Below.setCell ?_ ?_ _) | (with_reducible refine Below.trans ?_ (Below.mono (by with_reducible assumption) ?_)) | (with_reducible exact Below.size (by with_reducible assumption)) | go_size))); have hz_hb1 := hb1.size; (try simp at hz_hb1); (try simp only [Nat.add_one_le_iff] at hz_hb1); have hz0_hb1 : w.heap.size < w1.heap.size := (by omega)
    have hw1 : Below w.heap.size w w1 := by (repeat' (first | (with_reducible exact Below.refl _ _) | (with_reducible assumption) | (with_reducible refine Below.alloc ?_ ?_ _) | (with_reducible refine Below.drew ?_) | (with_reducible refine below_drewN ?_ _) | (with_reducible refine Below.setCell ?_ ?_ _) | (with_reducible refine Below.trans ?_ (Below.mono (by with_reducible assumption) ?_)) | (with_reducible exact Below.size (by with_reducible assumption)) | go_size))
    go_wp2_with fail
    refine (HPK.out _ hw1).mono ?_; rintro e w2 ⟨v, rfl, hv, hb2⟩
    have HV := Lib.hid hv
    obtain ⟨gv, cv, rfl, _, _, _⟩ := id hv
    clear hv
    go_wp2_with fail
    go_ret3
    exact ⟨_, rfl, urng_low HV.out.rng hw1.size, hw1.trans (hb2.mono hw1.size)⟩
  all_goals
    rw [rbOut_err h (by decide)]
    have HC := Lib.hid h
    clear h
    go_enter Tryd.func30, Tryd.ntmps30
    go_wp2_with fail
    refine (l08Code_any _ _ M Q s r _ (g1 _ (by (repeat' (first | (with_reducible exact Below.refl _ _) | (with_reducible assumption) | (with_reducible refine Below.alloc ?_ ?_ _) | (with_reducible refine Below.drew ?_) | (with_reducible refine below_drewN ?_ _) | (with_reducible refine Below.setCell ?_ ?_ _) | (with_reducible refine Below.trans ?_ (Below.mono (by with_reducible assumption) ?_)) | (with_reducible exact Below.size (by with_reducible assumption)) | go_size)))) (g2 _ (by (repeat' (first | (with_reducible exact Below.refl _ _) | (with_reducible assumption) | (with_reducible refine Below.alloc ?_ ?_ _) | (with_reducible refine Below.drew ?_) | (with_reducible refine below_drewN ?_ _) | (with_reducible refine Below.setCell ?_ ?_ _) | (with_reducible refine Below.trans ?_ (Below.mono (by with_reducible assumption) ?_)) | (with_reducible exact Below.size (by with_reducible assumption)) | go_size))))).mono ?_; rw [HC.out]; rintro e w1 ⟨rfl, hb1⟩; obtain ⟨hc_hb1, hf_hb1⟩ := bcell hb1; obtain ⟨hcA_hb1, hfA_hb1⟩ := bcellG (W0 := w) hb1 (by (repeat' (first | (with_reducible exact Below.refl _ _) | (with_reducible assumption) | (with_reducible refine Below.alloc ?_ ?_ _) | (with_reducible refine Below.drew ?_) | (with_reducible refine below_drewN ?_ _) | (with_reducible refine Below.setCell ?_ ?_ _) | (with_reducible refine Below.trans ?_ (Below.mono (by with_reducible assumption) ?_)) | (with_reducible exact Below.size (by with_reducible assumption)) | go_size))); have hz_hb1 := hb1.size; (try simp at hz_hb1); (try simp only [Nat.add_one_le_iff] at hz_hb1); have hz0_hb1 : w.heap.size < w1.heap.size := (by omega)
    go_wp2_with fail
    go_ret3
    exact outIN_nil (by (repeat' (first | (with_reducible exact Below.refl _ _) | (with_reducible assumption) | (with_reducible refine Below.alloc ?_ ?_ _) | (with_reducible refine Below.drew ?_) | (with_reducible refine below_drewN ?_ _) | (with_reducible refine Below.setCell ?_ ?_ _) | (with_reducible refine Below.trans ?_ (Below.mono (by with_reducible assumption) ?_)) | (with_reducible exact Below.size (by with_reducible assumption)) | go_size)))

set_option maxHeartbeats 2000000 in
theorem implRunByRule_any (m q : Value) (M : List (List Int)) (Q : List Int) (s r : Int) (w : World) (hT : Tab8 w) (h1 : PM.Rows w m M) (h2 : Ints w q Q) :
    Calls Tryd.prog 31 #[.agg #[m, q], .int .i64 s, .int .i64 r] w (OutIN w (rbOut M Q s r)) := by
  have hmx : Tryd.prog.follows .mixedOrders = true := by kernel_rfl
  have g1 := fun (w' : World) (h : Below w.heap.size w w') => h1.below h
  have g2 := fun (w' : World) (h : Below w.heap.size w w') => h2.below h
  have gt := fun (w' : World) (h : Below w.heap.size w w') => hT.below h
  clear hT
  obtain ⟨a1, c1, rfl, _⟩ := h1
  obtain ⟨a2, c2, rfl, _⟩ := h2
  rcases ruleCode_cases M Q s r with h | h | ⟨h, hs, hp, hs0, hs1, hr0, hr1⟩
  case' inr.inr =>
    have HC := Lib.hid h
    rw [rbOut_ok h]
    have HRF := Lib.hid (fun (w' : World) (hb : Below w.heap.size w w') => runFrom_any _ _ M Q s r w' (gt _ hb) (g1 _ hb) (g2 _ hb) hp hs0 hs1)
    obtain ⟨O, hO⟩ : ∃ O, O = runO M Q r 33 [] s := ⟨_, rfl⟩
    rw [← hO] at HRF ⊢
    clear h hp hs0 hs1 hs hO
    obtain ⟨rn, rfl⟩ := Int.eq_ofNat_of_zero_le hr0
    have hrn : rn < 4 := by omega
    have hrn' : (rn : Int) < 4 := by omega
    go_enter Tryd.func31, Tryd.ntmps31
    go_wp2_with fail
    refine (checkRule_any _ _ M Q s _ _ (g1 _ (by (repeat' (first | (with_reducible exact Below.refl _ _) | (with_reducible assumption) | (with_reducible refine Below.alloc ?_ ?_ _) | (with_reducible refine Below.drew ?_) | (with_reducible refine below_drewN ?_ _) | (with_reducible refine Below.setCell ?_ ?_ _) | (with_reducible refine Below.trans ?_ (Below.mono (by with_reducible assumption) ?_)) | (with_reducible exact Below.size (by with_reducible assumption)) | go_size)))) (g2 _ (by (repeat' (first | (with_reducible exact Below.refl _ _) | (with_reducible assumption) | (with_reducible refine Below.alloc ?_ ?_ _) | (with_reducible refine Below.drew ?_) | (with_reducible refine below_drewN ?_ _) | (with_reducible refine Below.setCell ?_ ?_ _) | (with_reducible refine Below.trans ?_ (Below.mono (by with_reducible assumption) ?_)) | (with_reducible exact Below.size (by with_reducible assumption)) | go_size))))).mono ?_; rw [HC.out]; rintro e W ⟨rfl, hb1⟩; obtain ⟨hc_hb1, hf_hb1⟩ := bcell hb1; obtain ⟨hcA_hb1, hfA_hb1⟩ := bcellG (W0 := w) hb1 (by (repeat' (first | (with_reducible exact Below.refl _ _) | (with_reducible assumption) | (with_reducible refine Below.alloc ?_ ?_ _) | (with_reducible refine Below.drew ?_) | (with_reducible refine below_drewN ?_ _) | (with_reducible refine Below.setCell ?_ ?_ _) | (with_reducible refine Below.trans ?_ (Below.mono (by with_reducible assumption) ?_)) | (with_reducible exact Below.size (by with_reducible assumption)) | go_size))); have hz_hb1 := hb1.size; (try simp at hz_hb1); (try simp only [Nat.add_one_le_iff] at hz_hb1); have hz0_hb1 : w.heap.size < W.heap.size := (by omega)
    have hB0 : Below w.heap.size w W := by (repeat' (first | (with_reducible exact Below.refl _ _) | (with_reducible assumption) | (with_reducible refine Below.alloc ?_ ?_ _) | (with_reducible refine Below.drew ?_) | (with_reducible refine below_drewN ?_ _) | (with_reducible refine Below.setCell ?_ ?_ _) | (with_reducible refine Below.trans ?_ (Below.mono (by with_reducible assumption) ?_)) | (with_reducible exact Below.size (by with_reducible assumption)) | go_size))
    have x0 : W.cell? ⟨w.heap.size, 0, none⟩ = some (.slice a1 M.length c1) := by rw [hc_hb1 _ _ (by go_size)]; simp
    have x1 : W.cell? ⟨w.heap.size, 1, none⟩ = some (.slice a2 Q.length c2) := by rw [hc_hb1 _ _ (by go_size)]; simp
    have hwW : w.heap.size < W.heap.size := by omega
    clear hc_hb1 hf_hb1 hcA_hb1 hfA_hb1 hz_hb1 hz0_hb1 hb1
    go_wp2_with fail
    rename_i K0 hK0
    refine (wpIn_wide (n := 8)).1 ?_
    refine PR.wpIn_region_inv hmx (by kernel_rfl) (fun listed ac w' =>
        ∃ (b0 b1 b2 b3 b4 b5 b6 b7 b8 : Bool) (g2 : Nat) (g7 : Nat) (va : Option Addr) (vc : Nat) (za : Option Addr) (zn : Nat) (zc : Nat) (lo : Nat) (hi : Nat), ((b4 = true → b2 = true ∧ b3 = true) ∧ (b5 = true → b4 = true) ∧ (b6 = true → b0 = true ∧ b1 = true ∧ b5 = true) ∧ (b8 = true → b6 = true ∧ b7 = true)) ∧ listed = #[b0, b1, b2, b3, b4, b5, b6, b7, b8] ∧
          ac = { tmps := #[.agg #[.slice a1 M.length c1, .slice a2 Q.length c2], .int .i64 s, .int .i64 (rn : Nat), .pointer (some ⟨w.heap.size, 0, none⟩), undef, undef, .slice none 0 0, .int .i64 0, .int .i64 0, .int .i64 0, cond b7 (.pointer (some ⟨g7, 0, none⟩)) undef, .agg #[.slice a1 M.length c1, .slice a2 Q.length c2], .int .i64 s, .int .i64 (rn : Nat), .int .i64 0, .int .i64 0, .bool false, undef, cond b0 (.agg #[.slice a1 M.length c1, .slice a2 Q.length c2]) undef, cond b1 (.int .i64 s) undef, cond b2 (.slice (some ⟨g2, 0, none⟩) 4 4) undef, cond b3 (.int .i64 (rn : Nat)) undef, cond b4 (.pointer (some ⟨g2, rn, none⟩)) undef, cond b5 (.func (.func (ruleF (rn : Nat))) #[] #[]) undef, cond b6 (.agg #[.slice va O.1.length vc, .int .i64 O.2, .slice za zn zc]) undef, undef, undef, undef, undef], defers := [] } ∧ RgW M Q W w' O b2 b6 b7 b8 g2 g7 (.slice va O.1.length vc) (.slice za zn zc) lo hi) ?_ ?_ ?_ ?_
    · rintro listed ac w' ⟨b0, b1, b2, b3, b4, b5, b6, b7, b8, g2, g7, va, vc, za, zn, zc, lo, hi, _, rfl, _⟩
      rfl
    · rintro listed ac w' ⟨b0, b1, b2, b3, b4, b5, b6, b7, b8, g2, g7, va, vc, za, zn, zc, lo, hi, _, rfl, rfl, hR⟩ hall
      have h0 := hall 0 (by simp)
      have h1 := hall 1 (by simp)
      have h2 := hall 2 (by simp)
      have h3 := hall 3 (by simp)
      have h4 := hall 4 (by simp)
      have h5 := hall 5 (by simp)
      have h6 := hall 6 (by simp)
      have h7 := hall 7 (by simp)
      have h8 := hall 8 (by simp)
      simp at h0 h1 h2 h3 h4 h5 h6 h7 h8
      subst h0 h1 h2 h3 h4 h5 h6 h7 h8
      clear hall
      refine hK0 _ _ ?_
      simp only [cond_true]
      obtain ⟨q1, q2, q3, q4, q5, q6⟩ := hR.box rfl
      obtain ⟨p1, p2, p3, p4⟩ := hR.run rfl
      simp only [cond_true] at q3 q4 q5
      have HP := Lib.hid (p4.sets)
      have HW' := Lib.hid (hB0.trans (hR.below.mono hB0.size))
      have hlo : w.heap.size ≤ lo := Nat.le_trans hB0.size p1
      clear hR p4 hB0 HRF q6
      go_wp2_with fail
      go_quiet (fail)
      go_wp2_with fail
      go_ret3
      exact ⟨_, rfl, ⟨(HP.out.below (below_drewN (Below.refl _ _) _) p3).own, fun b hb => by have h1 := HP.out.at_ b hb; exact ⟨by omega, Nat.lt_of_lt_of_le h1.2 p3⟩⟩, below_drewN HW'.out _⟩
    · exact ⟨false, false, false, false, false, false, false, false, false, 0, 0, none, 0, none, 0, 0, 0, 0, by simp, rfl, rfl, ⟨(Below.refl _ _).drew, fun h => Bool.noConfusion h, fun h => Bool.noConfusion h, fun h => Bool.noConfusion h, fun h => Bool.noConfusion h⟩⟩
    · rintro listed ac w' i oi ⟨b0, b1, b2, b3, b4, b5, b6, b7, b8, g2, g7, va, vc, za, zn, zc, lo, hi, ⟨e4, e5, e6, e8⟩, rfl, rfl, hR⟩ ho hun hdep
      have hi : i < 9 := by simpa using (Array.getElem?_eq_some_iff.1 ho).1
      obtain rfl | rfl | rfl | rfl | rfl | rfl | rfl | rfl | rfl : i = 0 ∨ i = 1 ∨ i = 2 ∨ i = 3 ∨ i = 4 ∨ i = 5 ∨ i = 6 ∨ i = 7 ∨ i = 8 := by omega
      · -- 0
        simp only [List.getElem?_toArray, List.getElem?_cons_zero, Option.some.injEq] at ho
        subst ho
        have hbi : b0 = false := by simpa using hun
        subst hbi
        obtain rfl : b6 = false := Bool.eq_false_iff.2 (fun h => Bool.noConfusion (e6 h).1)
        obtain rfl : b8 = false := Bool.eq_false_iff.2 (fun h => Bool.noConfusion (e8 h).1)
        refine wpOpIn_step rfl (fun K hK => ?_)
        clear hun hdep hi
        have k0 := (hR.below.cell (p := ⟨w.heap.size, 0, none⟩) hwW).trans x0
        have k1 := (hR.below.cell (p := ⟨w.heap.size, 1, none⟩) hwW).trans x1
        go_simp
        refine hK _ _ ⟨true, b1, b2, b3, b4, b5, false, b7, false, g2, g7, va, vc, za, zn, zc, lo, hi, ⟨e4, e5, fun h => Bool.noConfusion h, fun h => Bool.noConfusion h⟩, rfl, rfl, hR⟩
      · -- 1
        simp only [List.getElem?_toArray, List.getElem?_cons_succ, List.getElem?_cons_zero, Option.some.injEq] at ho
        subst ho
        have hbi : b1 = false := by simpa using hun
        subst hbi
        obtain rfl : b6 = false := Bool.eq_false_iff.2 (fun h => Bool.noConfusion (e6 h).2.1)
        obtain rfl : b8 = false := Bool.eq_false_iff.2 (fun h => Bool.noConfusion (e8 h).1)
        refine wpOpIn_step rfl (fun K hK => ?_)
        clear hun hdep hi
        go_simp
        refine hK _ _ ⟨b0, true, b2, b3, b4, b5, false, b7, false, g2, g7, va, vc, za, zn, zc, lo, hi, ⟨e4, e5, fun h => Bool.noConfusion h, fun h => Bool.noConfusion h⟩, rfl, rfl, hR⟩
      · -- 2
        simp only [List.getElem?_toArray, List.getElem?_cons_succ, List.getElem?_cons_zero, Option.some.injEq] at ho
        subst ho
        have hbi : b2 = false := by simpa using hun
        subst hbi
        obtain rfl : b4 = false := Bool.eq_false_iff.2 (fun h => Bool.noConfusion (e4 h).1)
        obtain rfl : b5 = false := Bool.eq_false_iff.2 (fun h => Bool.noConfusion (e5 h))
        obtain rfl : b6 = false := Bool.eq_false_iff.2 (fun h => Bool.noConfusion (e6 h).2.2)
        obtain rfl : b8 = false := Bool.eq_false_iff.2 (fun h => Bool.noConfusion (e8 h).1)
        refine wpOpIn_step rfl (fun K hK => ?_)
        clear hun hdep hi
        go_simp
        refine ⟨trivial, (callsIn_wide.2 (stepRules_any w')).mono ?_⟩
        rintro e w'' ⟨rfl, hc, hb⟩
        refine hK _ _ ⟨b0, b1, true, b3, false, false, false, b7, false, w'.heap.size, g7, va, vc, za, zn, zc, lo, hi, ⟨fun h => Bool.noConfusion h, fun h => Bool.noConfusion h, fun h => Bool.noConfusion h, fun h => Bool.noConfusion h⟩, rfl, rfl, hR.rules_ hc hb⟩
      · -- 3
        simp only [List.getElem?_toArray, List.getElem?_cons_succ, List.getElem?_cons_zero, Option.some.injEq] at ho
        subst ho
        have hbi : b3 = false := by simpa using hun
        subst hbi
        obtain rfl : b4 = false := Bool.eq_false_iff.2 (fun h => Bool.noConfusion (e4 h).2)
        obtain rfl : b5 = false := Bool.eq_false_iff.2 (fun h => Bool.noConfusion (e5 h))
        obtain rfl : b6 = false := Bool.eq_false_iff.2 (fun h => Bool.noConfusion (e6 h).2.2)
        obtain rfl : b8 = false := Bool.eq_false_iff.2 (fun h => Bool.noConfusion (e8 h).1)
        refine wpOpIn_step rfl (fun K hK => ?_)
        clear hun hdep hi
        go_simp
        refine hK _ _ ⟨b0, b1, b2, true, false, false, false, b7, false, g2, g7, va, vc, za, zn, zc, lo, hi, ⟨fun h => Bool.noConfusion h, fun h => Bool.noConfusion h, fun h => Bool.noConfusion h, fun h => Bool.noConfusion h⟩, rfl, rfl, hR⟩
      · -- 4
        simp only [List.getElem?_toArray, List.getElem?_cons_succ, List.getElem?_cons_zero, Option.some.injEq] at ho
        subst ho
        have hbi : b4 = false := by simpa using hun
        subst hbi
        have hd2 : b2 = true := by have := hdep ⟨2, .data⟩ (by simp) rfl; simpa using this
        have hd3 : b3 = true := by have := hdep ⟨3, .data⟩ (by simp) rfl; simpa using this
        subst hd2 hd3
        obtain rfl : b5 = false := Bool.eq_false_iff.2 (fun h => Bool.noConfusion (e5 h))
        obtain rfl : b6 = false := Bool.eq_false_iff.2 (fun h => Bool.noConfusion (e6 h).2.2)
        obtain rfl : b8 = false := Bool.eq_false_iff.2 (fun h => Bool.noConfusion (e8 h).1)
        refine wpOpIn_step rfl (fun K hK => ?_)
        clear hun hdep hi
        go_simp
        refine hK _ _ ⟨b0, b1, true, true, true, false, false, b7, false, g2, g7, va, vc, za, zn, zc, lo, hi, ⟨fun _ => ⟨rfl, rfl⟩, fun h => Bool.noConfusion h, fun h => Bool.noConfusion h, fun h => Bool.noConfusion h⟩, rfl, rfl, hR⟩
      · -- 5
        simp only [List.getElem?_toArray, List.getElem?_cons_succ, List.getElem?_cons_zero, Option.some.injEq] at ho
        subst ho
        have hbi : b5 = false := by simpa using hun
        subst hbi
        have hd4 : b4 = true := by have := hdep ⟨4, .data⟩ (by simp) rfl; simpa using this
        have hd3 : b3 = true := (e4 hd4).2
        have hd2 : b2 = true := (e4 hd4).1
        subst hd2 hd3 hd4
        obtain rfl : b6 = false := Bool.eq_false_iff.2 (fun h => Bool.noConfusion (e6 h).2.2)
        obtain rfl : b8 = false := Bool.eq_false_iff.2 (fun h => Bool.noConfusion (e8 h).1)
        refine wpOpIn_step rfl (fun K hK => ?_)
        clear hun hdep hi
        have kr := (hR.rules rfl rfl).2 rn hrn
        go_simp
        refine hK _ _ ⟨b0, b1, true, true, true, true, false, b7, false, g2, g7, va, vc, za, zn, zc, lo, hi, ⟨fun _ => ⟨rfl, rfl⟩, fun _ => rfl, fun h => Bool.noConfusion h, fun h => Bool.noConfusion h⟩, rfl, rfl, hR⟩
      · -- 6
        simp only [List.getElem?_toArray, List.getElem?_cons_succ, List.getElem?_cons_zero, Option.some.injEq] at ho
        subst ho
        have hbi : b6 = false := by simpa using hun
        subst hbi
        have hd0 : b0 = true := by have := hdep ⟨0, .data⟩ (by simp) rfl; simpa using this
        have hd1 : b1 = true := by have := hdep ⟨1, .data⟩ (by simp) rfl; simpa using this
        have hd5 : b5 = true := by have := hdep ⟨5, .data⟩ (by simp) rfl; simpa using this
        have hd4 : b4 = true := (e5 hd5)
        have hd3 : b3 = true := (e4 hd4).2
        have hd2 : b2 = true := (e4 hd4).1
        subst hd0 hd1 hd2 hd3 hd4 hd5
        obtain rfl : b8 = false := Bool.eq_false_iff.2 (fun h => Bool.noConfusion (e8 h).1)
        refine wpOpIn_step rfl (fun K hK => ?_)
        clear hun hdep hi
        go_simp
        refine ⟨trivial, (callsIn_wide.2 (HRF.out w' (hB0.trans (hR.below.mono hB0.size)))).mono ?_⟩
        rintro e w'' ⟨yv, yz, rfl, h1, h2, h3, hb⟩
        have hres : RunRes M Q w'.heap.size w''.heap.size w'' O yv yz := ⟨h1, h2, h3⟩
        obtain ⟨yva, yvc, yza, yzn, yzc, rfl, rfl⟩ := hres.shape
        refine hK _ _ ⟨true, true, true, true, true, true, true, b7, false, g2, g7, yva, yvc, yza, yzn, yzc, w'.heap.size, w''.heap.size, ⟨fun _ => ⟨rfl, rfl⟩, fun _ => rfl, fun _ => ⟨rfl, rfl, rfl⟩, fun h => Bool.noConfusion h⟩, rfl, rfl, hR.run_ hres hb⟩
      · -- 7
        simp only [List.getElem?_toArray, List.getElem?_cons_succ, List.getElem?_cons_zero, Option.some.injEq] at ho
        subst ho
        have hbi : b7 = false := by simpa using hun
        subst hbi
        obtain rfl : b8 = false := Bool.eq_false_iff.2 (fun h => Bool.noConfusion (e8 h).2)
        refine wpOpIn_step rfl (fun K hK => ?_)
        clear hun hdep hi
        go_simp
        refine hK _ _ ⟨b0, b1, b2, b3, b4, b5, b6, true, false, g2, w'.heap.size, va, vc, za, zn, zc, lo, hi, ⟨e4, e5, e6, fun h => Bool.noConfusion h⟩, rfl, rfl, hR.box_ _⟩
      · -- 8
        simp only [List.getElem?_toArray, List.getElem?_cons_succ, List.getElem?_cons_zero, Option.some.injEq] at ho
        subst ho
        have hbi : b8 = false := by simpa using hun
        subst hbi
        have hd6 : b6 = true := by have := hdep ⟨6, .data⟩ (by simp) rfl; simpa using this
        have hd7 : b7 = true := by have := hdep ⟨7, .data⟩ (by simp) rfl; simpa using this
        have hd5 : b5 = true := (e6 hd6).2.2
        have hd4 : b4 = true := (e5 hd5)
        have hd3 : b3 = true := (e4 hd4).2
        have hd2 : b2 = true := (e4 hd4).1
        have hd1 : b1 = true := (e6 hd6).2.1
        have hd0 : b0 = true := (e6 hd6).1
        subst hd0 hd1 hd2 hd3 hd4 hd5 hd6 hd7
        refine wpOpIn_step rfl (fun K hK => ?_)
        clear hun hdep hi
        obtain ⟨q1, q2, q3, q4, q5, q6⟩ := hR.box rfl
        simp only [cond_false] at q3 q4 q5
        have f0 := q6 0; have f1 := q6 1; have f2 := q6 2
        go_simp
        refine hK _ _ ⟨true, true, true, true, true, true, true, true, true, g2, g7, va, vc, za, zn, zc, lo, hi, ⟨fun _ => ⟨rfl, rfl⟩, fun _ => rfl, fun _ => ⟨rfl, rfl, rfl⟩, fun _ => ⟨rfl, rfl⟩⟩, rfl, rfl, hR.store_⟩
  all_goals
    rw [rbOut_err h (by decide)]
    have HC := Lib.hid h
    clear h
    go_enter Tryd.func31, Tryd.ntmps31
    go_wp2_with fail
    refine (checkRule_any _ _ M Q s r _ (g1 _ (by (repeat' (first | (with_reducible exact Below.refl _ _) | (with_reducible assumption) | (with_reducible refine Below.alloc ?_ ?_ _) | (with_reducible refine Below.drew ?_) | (with_reducible refine below_drewN ?_ _) | (with_reducible refine Below.setCell ?_ ?_ _) | (with_reducible refine Below.trans ?_ (Below.mono (by with_reducible assumption) ?_)) | (with_reducible exact Below.size (by with_reducible assumption)) | go_size)))) (g2 _ (by (repeat' (first | (with_reducible exact Below.refl _ _) | (with_reducible assumption) | (with_reducible refine Below.alloc ?_ ?_ _) | (with_reducible refine Below.drew ?_) | (with_reducible refine below_drewN ?_ _) | (with_reducible refine Below.setCell ?_ ?_ _) | (with_reducible refine Below.trans ?_ (Below.mono (by with_reducible assumption) ?_)) | (with_reducible exact Below.size (by with_reducible assumption)) | go_size))))).mono ?_; rw [HC.out]; rintro e w1 ⟨rfl, hb1⟩; obtain ⟨hc_hb1, hf_hb1⟩ := bcell hb1; obtain ⟨hcA_hb1, hfA_hb1⟩ := bcellG (W0 := w) hb1 (by (repeat' (first | (with_reducible exact Below.refl _ _) | (with_reducible assumption) | (with_reducible refine Below.alloc ?_ ?_ _) | (with_reducible refine Below.drew ?_) | (with_reducible refine below_drewN ?_ _) | (with_reducible refine Below.setCell ?_ ?_ _) | (with_reducible refine Below.trans ?_ (Below.mono (by with_reducible assumption) ?_)) | (with_reducible exact Below.size (by with_reducible assumption)) | go_size))); have hz_hb1 := hb1.size; (try simp at hz_hb1); (try simp only [Nat.add_one_le_iff] at hz_hb1); have hz0_hb1 : w.heap.size < w1.heap.size := (by omega)
    go_wp2_with fail
    go_ret3
    exact outIN_nil (by (repeat' (first | (with_reducible exact Below.refl _ _) | (with_reducible assumption) | (with_reducible refine Below.alloc ?_ ?_ _) | (with_reducible refine Below.drew ?_) | (with_reducible refine below_drewN ?_ _) | (with_reducible refine Below.setCell ?_ ?_ _) | (with_reducible refine Below.trans ?_ (Below.mono (by with_reducible assumption) ?_)) | (with_reducible exact Below.size (by with_reducible assumption)) | go_size)))
set_option maxHeartbeats 4000000 in
theorem law_FnExactRunByRule (m q : Value) (M : List (List Int)) (Q : List Int) (s r : Int) (w : World) (hG : Tab8 w) (h1 : PM.Rows w m M) (h2 : Ints w q Q) :
    Calls Tryd.prog 7 #[.agg #[m, q], .int .i64 s, .int .i64 r] w fun e w' => e = .returned (.bool true) ∧ Below w.heap.size w w' := by
  have g1 := fun (w' : World) (h : Below w.heap.size w w') => h1.below h
  have gl := fun (w' : World) (h : Below w.heap.size w w') => hG.below h
  clear hG
  have g2 := fun (w' : World) (h : Below w.heap.size w w') => h2.below h
  have I1 := Lib.hid (rows_I64 h1)
  have I2 := Lib.hid (ints_I64 h2)
  obtain ⟨a1, c1, rfl, _⟩ := h1
  obtain ⟨a2, c2, rfl, _⟩ := h2
  by_cases hz : szP M Q 1048576 < 0
  · have e1 := szP_neg hz
    have E1 := Lib.hid e1
    clear hz e1
    go_enter Tryd.func7, Tryd.ntmps7
    go_wp2_with fail
    refine (szProblem_any _ _ M Q _ (g1 _ (by (repeat' (first | (with_reducible exact Below.refl _ _) | (with_reducible assumption) | (with_reducible refine Below.alloc ?_ ?_ _) | (with_reducible refine Below.drew ?_) | (with_reducible refine below_drewN ?_ _) | (with_reducible refine Below.setCell ?_ ?_ _) | (with_reducible refine Below.trans ?_ (Below.mono (by with_reducible assumption) ?_)) | (with_reducible exact Below.size (by with_reducible assumption)) | go_size)))) (g2 _ (by (repeat' (first | (with_reducible exact Below.refl _ _) | (with_reducible assumption) | (with_reducible refine Below.alloc ?_ ?_ _) | (with_reducible refine Below.drew ?_) | (with_reducible refine below_drewN ?_ _) | (with_reducible refine Below.setCell ?_ ?_ _) | (with_reducible refine Below.trans ?_ (Below.mono (by with_reducible assumption) ?_)) | (with_reducible exact Below.size (by with_reducible assumption)) | go_size))))).mono ?_; rw [E1.out]; rintro e w1 ⟨rfl, hb1⟩; obtain ⟨hc_hb1, hf_hb1⟩ := bcell hb1; obtain ⟨hcA_hb1, hfA_hb1⟩ := bcellG (W0 := w) hb1 (by (repeat' (first | (with_reducible exact Below.refl _ _) | (with_reducible assumption) | (with_reducible refine Below.alloc ?_ ?_ _) | (with_reducible refine Below.drew ?_) | (with_reducible refine below_drewN ?_ _) | (with_reducible refine Below.setCell ?_ ?_ _) | (with_reducible refine Below.trans ?_ (Below.mono (by with_reducible assumption) ?_)) | (with_reducible exact Below.size (by with_reducible assumption)) | go_size))); have hz_hb1 := hb1.size; (try simp at hz_hb1); (try simp only [Nat.add_one_le_iff] at hz_hb1); have hz0_hb1 : w.heap.size < w1.heap.size := (by omega)
    go_wp2_with fail
    go_ret
    refine ⟨rfl, ?_⟩
    (repeat' (first | (with_reducible exact Below.refl _ _) | (with_reducible assumption) | (with_reducible refine Below.alloc ?_ ?_ _) | (with_reducible refine Below.drew ?_) | (with_reducible refine below_drewN ?_ _) | (with_reducible refine Below.setCell ?_ ?_ _) | (with_reducible refine Below.trans ?_ (Below.mono (by with_reducible assumption) ?_)) | (with_reducible exact Below.size (by with_reducible assumption)) | go_size))
  obtain ⟨hn1, hn2⟩ := szP_fits hz
  have hle := szP_le M Q
  have HN1 := Lib.hid hn1
  have HN2 := Lib.hid hn2
  clear hn1 hn2
  have hspec := fun (m q : Value) (w : World) (h1 : PM.Rows w m M) (h2 : Ints w q Q) => specRunByRule_any m q M Q s r w h1 h2
  have himpl := fun (m q : Value) (w : World) (hg : Tab8 w) (h1 : PM.Rows w m M) (h2 : Ints w q Q) => implRunByRule_any m q M Q s r w hg h1 h2
  have hfine := fine_rb M Q s r
  generalize rbOut M Q s r = o at *
  obtain ⟨O, dn, code⟩ := o
  have HS := Lib.hid hspec
  have HI := Lib.hid himpl
  have HF : Hid (FineI O) := Lib.hid hfine
  clear hspec himpl hfine
  go_enter Tryd.func7, Tryd.ntmps7
  go_wp2_with fail
  refine (szProblem_any _ _ M Q _ (g1 _ (by (repeat' (first | (with_reducible exact Below.refl _ _) | (with_reducible assumption) | (with_reducible refine Below.alloc ?_ ?_ _) | (with_reducible refine Below.drew ?_) | (with_reducible refine below_drewN ?_ _) | (with_reducible refine Below.setCell ?_ ?_ _) | (with_reducible refine Below.trans ?_ (Below.mono (by with_reducible assumption) ?_)) | (with_reducible exact Below.size (by with_reducible assumption)) | go_size)))) (g2 _ (by (repeat' (first | (with_reducible exact Below.refl _ _) | (with_reducible assumption) | (with_reducible refine Below.alloc ?_ ?_ _) | (with_reducible refine Below.drew ?_) | (with_reducible refine below_drewN ?_ _) | (with_reducible refine Below.setCell ?_ ?_ _) | (with_reducible refine Below.trans ?_ (Below.mono (by with_reducible assumption) ?_)) | (with_reducible exact Below.size (by with_reducible assumption)) | go_size))))).mono ?_; rintro e w1 ⟨rfl, hb1⟩; obtain ⟨hc_hb1, hf_hb1⟩ := bcell hb1; obtain ⟨hcA_hb1, hfA_hb1⟩ := bcellG (W0 := w) hb1 (by (repeat' (first | (with_reducible exact Below.refl _ _) | (with_reducible assumption) | (with_reducible refine Below.alloc ?_ ?_ _) | (with_reducible refine Below.drew ?_) | (with_reducible refine below_drewN ?_ _) | (with_reducible refine Below.setCell ?_ ?_ _) | (with_reducible refine Below.trans ?_ (Below.mono (by with_reducible assumption) ?_)) | (with_reducible exact Below.size (by with_reducible assumption)) | go_size))); have hz_hb1 := hb1.size; (try simp at hz_hb1); (try simp only [Nat.add_one_le_iff] at hz_hb1); have hz0_hb1 : w.heap.size < w1.heap.size := (by omega)
  generalize szP M Q 1048576 = left at *
  have hw1 : Below w.heap.size w w1 := by (repeat' (first | (with_reducible exact Below.refl _ _) | (with_reducible assumption) | (with_reducible refine Below.alloc ?_ ?_ _) | (with_reducible refine Below.drew ?_) | (with_reducible refine below_drewN ?_ _) | (with_reducible refine Below.setCell ?_ ?_ _) | (with_reducible refine Below.trans ?_ (Below.mono (by with_reducible assumption) ?_)) | (with_reducible exact Below.size (by with_reducible assumption)) | go_size))
  go_wp2_with fail
  refine (toProblem_out _ _ M Q _ (g1 _ (by (repeat' (first | (with_reducible exact Below.refl _ _) | (with_reducible assumption) | (with_reducible refine Below.alloc ?_ ?_ _) | (with_reducible refine Below.drew ?_) | (with_reducible refine below_drewN ?_ _) | (with_reducible refine Below.setCell ?_ ?_ _) | (with_reducible refine Below.trans ?_ (Below.mono (by with_reducible assumption) ?_)) | (with_reducible exact Below.size (by with_reducible assumption)) | go_size)))) (g2 _ (by (repeat' (first | (with_reducible exact Below.refl _ _) | (with_reducible assumption) | (with_reducible refine Below.alloc ?_ ?_ _) | (with_reducible refine Below.drew ?_) | (with_reducible refine below_drewN ?_ _) | (with_reducible refine Below.setCell ?_ ?_ _) | (with_reducible refine Below.trans ?_ (Below.mono (by with_reducible assumption) ?_)) | (with_reducible exact Below.size (by with_reducible assumption)) | go_size)))) HN1.out HN2.out).mono ?_; rintro e w2 ⟨gA, gB, us2, rfl, hr2, hb2⟩; obtain ⟨hc_hb2, hf_hb2⟩ := bcell hb2; obtain ⟨hcA_hb2, hfA_hb2⟩ := bcellG (W0 := w1) hb2 (by (repeat' (first | (with_reducible exact Below.refl _ _) | (with_reducible assumption) | (with_reducible refine Below.alloc ?_ ?_ _) | (with_reducible refine Below.drew ?_) | (with_reducible refine below_drewN ?_ _) | (with_reducible refine Below.setCell ?_ ?_ _) | (with_reducible refine Below.trans ?_ (Below.mono (by with_reducible assumption) ?_)) | (with_reducible exact Below.size (by with_reducible assumption)) | go_size))); have hz_hb2 := hb2.size; (try simp at hz_hb2); (try simp only [Nat.add_one_le_iff] at hz_hb2); have hz0_hb2 : w.heap.size < w2.heap.size := (by omega)
  have R2 := Lib.hid (hr2.reads I1.out I2.out)
  clear hr2
  have hw2 : Below w.heap.size w w2 := hw1.trans (hb2.mono hw1.size)
  go_wp2_with fail
  refine (HS.out _ _ _ R2.out.1 R2.out.2).mono ?_; rintro e w3 ho3; obtain ⟨a3, c3, rfl, hr3, hb3⟩ := ho3.out; clear ho3; dsimp only at hr3; dsimp only; obtain ⟨hc_hb3, hf_hb3⟩ := bcell hb3; obtain ⟨hcA_hb3, hfA_hb3⟩ := bcellG (W0 := w2) hb3 (by (repeat' (first | (with_reducible exact Below.refl _ _) | (with_reducible assumption) | (with_reducible refine Below.alloc ?_ ?_ _) | (with_reducible refine Below.drew ?_) | (with_reducible refine below_drewN ?_ _) | (with_reducible refine Below.setCell ?_ ?_ _) | (with_reducible refine Below.trans ?_ (Below.mono (by with_reducible assumption) ?_)) | (with_reducible exact Below.size (by with_reducible assumption)) | go_size))); have hz_hb3 := hb3.size; (try simp at hz_hb3); (try simp only [Nat.add_one_le_iff] at hz_hb3); have hz0_hb3 : w.heap.size < w3.heap.size := (by omega)
  have HR3 := Lib.hid hr3
  clear hr3 R2
  have hw3 : Below w.heap.size w w3 := hw2.trans (hb3.mono hw2.size)
  go_wp2_with fail
  refine (toProblem_out _ _ M Q _ (g1 _ (by (repeat' (first | (with_reducible exact Below.refl _ _) | (with_reducible assumption) | (with_reducible refine Below.alloc ?_ ?_ _) | (with_reducible refine Below.drew ?_) | (with_reducible refine below_drewN ?_ _) | (with_reducible refine Below.setCell ?_ ?_ _) | (with_reducible refine Below.trans ?_ (Below.mono (by with_reducible assumption) ?_)) | (with_reducible exact Below.size (by with_reducible assumption)) | go_size)))) (g2 _ (by (repeat' (first | (with_reducible exact Below.refl _ _) | (with_reducible assumption) | (with_reducible refine Below.alloc ?_ ?_ _) | (with_reducible refine Below.drew ?_) | (with_reducible refine below_drewN ?_ _) | (with_reducible refine Below.setCell ?_ ?_ _) | (with_reducible refine Below.trans ?_ (Below.mono (by with_reducible assumption) ?_)) | (with_reducible exact Below.size (by with_reducible assumption)) | go_size)))) HN1.out HN2.out).mono ?_; rintro e w4 ⟨gC, gD, us4, rfl, hr4, hb4⟩; obtain ⟨hc_hb4, hf_hb4⟩ := bcell hb4; obtain ⟨hcA_hb4, hfA_hb4⟩ := bcellG (W0 := w3) hb4 (by (repeat' (first | (with_reducible exact Below.refl _ _) | (with_reducible assumption) | (with_reducible refine Below.alloc ?_ ?_ _) | (with_reducible refine Below.drew ?_) | (with_reducible refine below_drewN ?_ _) | (with_reducible refine Below.setCell ?_ ?_ _) | (with_reducible refine Below.trans ?_ (Below.mono (by with_reducible assumption) ?_)) | (with_reducible exact Below.size (by with_reducible assumption)) | go_size))); have hz_hb4 := hb4.size; (try simp at hz_hb4); (try simp only [Nat.add_one_le_iff] at hz_hb4); have hz0_hb4 : w.heap.size < w4.heap.size := (by omega)
  have HR4 := Lib.hid hr4
  clear hr4
  have hw4 : Below w.heap.size w w4 := hw3.trans (hb4.mono hw3.size)
  go_wp2_with fail
  have hr4a := HR4.out.below (w' := w4.alloc (.cells #[.slice (some ⟨gC, 0, none⟩) M.length M.length, .slice (some ⟨gD, 0, none⟩) Q.length Q.length] 29)) (B := w4.heap.size) ((Below.refl _ _).alloc (Nat.le_refl _) _) (Nat.le_refl _)
  have R4 := Lib.hid (hr4a.reads I1.out I2.out)
  clear hr4a
  refine (HI.out _ _ _ (gl _ (by (repeat' (first | (with_reducible exact Below.refl _ _) | (with_reducible assumption) | (with_reducible refine Below.alloc ?_ ?_ _) | (with_reducible refine Below.drew ?_) | (with_reducible refine below_drewN ?_ _) | (with_reducible refine Below.setCell ?_ ?_ _) | (with_reducible refine Below.trans ?_ (Below.mono (by with_reducible assumption) ?_)) | (with_reducible exact Below.size (by with_reducible assumption)) | go_size)))) R4.out.1 R4.out.2).mono ?_; rintro e w5 ho5; obtain ⟨a5, c5, rfl, hr5, hb5⟩ := ho5.out; clear ho5; dsimp only at hr5; dsimp only; obtain ⟨hc_hb5, hf_hb5⟩ := bcell hb5; obtain ⟨hcA_hb5, hfA_hb5⟩ := bcellG (W0 := w4) hb5 (by (repeat' (first | (with_reducible exact Below.refl _ _) | (with_reducible assumption) | (with_reducible refine Below.alloc ?_ ?_ _) | (with_reducible refine Below.drew ?_) | (with_reducible refine below_drewN ?_ _) | (with_reducible refine Below.setCell ?_ ?_ _) | (with_reducible refine Below.trans ?_ (Below.mono (by with_reducible assumption) ?_)) | (with_reducible exact Below.size (by with_reducible assumption)) | go_size))); have hz_hb5 := hb5.size; (try simp at hz_hb5); (try simp only [Nat.add_one_le_iff] at hz_hb5); have hz0_hb5 : w.heap.size < w5.heap.size := (by omega)
  have hz45 : w4.heap.size < w5.heap.size := by omega
  have HR5 := Lib.hid hr5
  clear hr5 R4
  have hw45 : Below w4.heap.size w4 w5 := ((Below.refl w4.heap.size w4).alloc (Nat.le_refl _) _).trans (hb5.mono (by simp))
  have x50 : w5.cell? ⟨w4.heap.size, 0, none⟩ = some (.slice (some ⟨gC, 0, none⟩) M.length M.length) := by rw [hc_hb5 _ _ (by simp)]; simp
  have x51 : w5.cell? ⟨w4.heap.size, 1, none⟩ = some (.slice (some ⟨gD, 0, none⟩) Q.length Q.length) := by rw [hc_hb5 _ _ (by simp)]; simp
  have hw13 : Below w1.heap.size w1 w3 := hb2.trans (hb3.mono hb2.size)
  have hw35 : Below w3.heap.size w3 w5 := hb4.trans (hw45.mono hb4.size)
  have hw15 : Below w1.heap.size w1 w5 := hw13.trans (hw35.mono hw13.size)
  have hw5 : Below w.heap.size w w5 := hw3.trans (hw35.mono hw3.size)
  have p10 : w1.cell? ⟨w.heap.size, 0, none⟩ = some (.slice a1 M.length c1) := by rw [hc_hb1 _ _ (by simp)]; simp
  have p11 : w1.cell? ⟨w.heap.size, 1, none⟩ = some (.slice a2 Q.length c2) := by rw [hc_hb1 _ _ (by simp)]; simp
  have hvq : Vq w5 w.heap.size w4.heap.size (.slice a1 M.length c1) (.slice a2 Q.length c2) (.slice (some ⟨gC, 0, none⟩) M.length M.length) (.slice (some ⟨gD, 0, none⟩) Q.length Q.length) :=
    ⟨(hw15.cell (p := ⟨w.heap.size, 0, none⟩) hz0_hb1).trans p10, (hw15.cell (p := ⟨w.heap.size, 1, none⟩) hz0_hb1).trans p11, x50, x51, by omega, hz45⟩
  have hA5 := HR3.out.below hw35 (Nat.le_refl _)
  have hX5 := HR4.out.below hw45 (Nat.le_refl _)
  have hG5 := HR5.out
  rw [show (w4.alloc (.cells #[.slice (some ⟨gC, 0, none⟩) M.length M.length, .slice (some ⟨gD, 0, none⟩) Q.length Q.length] 29)).heap.size = w4.heap.size + 1 by simp] at hG5
  have hPA : w.heap.size < w2.heap.size := by omega
  obtain ⟨P, hP⟩ : ∃ P, P = w.heap.size := ⟨_, rfl⟩
  obtain ⟨A0, hA0⟩ : ∃ A0, A0 = w2.heap.size := ⟨_, rfl⟩
  obtain ⟨A1, hA1⟩ : ∃ A1, A1 = w3.heap.size := ⟨_, rfl⟩
  obtain ⟨V, hV⟩ : ∃ V, V = w4.heap.size := ⟨_, rfl⟩
  have hAV : A0 ≤ A1 ∧ A1 ≤ V := by have := hb3.size; have := hb4.size; omega
  obtain ⟨hAV1, hAV2⟩ := hAV
  obtain ⟨G1, hG1⟩ : ∃ G1, G1 = w5.heap.size := ⟨_, rfl⟩
  have hGz : G1 ≤ w5.heap.size := by omega
  have hVG : V < G1 := by omega
  rw [← hP] at hvq hPA
  rw [← hA0] at hA5 hPA
  rw [← hA1] at hA5 hX5
  rw [← hV] at hX5 hG5 hvq hz45
  rw [← hG1] at hG5
  rw [← hP, ← hV]
  have hPw : P ≤ w.heap.size := by omega
  have hwP : w.heap.size ≤ P := by omega
  clear hP hA0 hA1 hV hG1 hw13 hw15 hw35 hw45 p10 p11 x50 x51 HR3 HR4 HR5 hw1 hw2 hw3 hw4 HS
  clear hc_hb1 hf_hb1 hcA_hb1 hfA_hb1 hz_hb1 hz0_hb1 hb1 hc_hb2 hf_hb2 hcA_hb2 hfA_hb2 hz_hb2 hz0_hb2 hb2 hc_hb3 hf_hb3 hcA_hb3 hfA_hb3 hz_hb3 hz0_hb3 hb3 hc_hb4 hf_hb4 hcA_hb4 hfA_hb4 hz_hb4 hz0_hb4 hb4 hc_hb5 hf_hb5 hcA_hb5 hfA_hb5 hz_hb5 hz0_hb5 hb5
  have HA5 := Lib.hid hA5
  have HX5 := Lib.hid hX5
  have HG5 := Lib.hid hG5
  have HV5 := Lib.hid hvq
  clear hA5 hX5 hG5 hvq
  go_wp2_with fail
  refine (eqI_ans HG5.out HA5.out HF.out).mono ?_; rintro e w6 ⟨rfl, hb6⟩
  have hw6 : Below w.heap.size w w6 := hw5.trans (hb6.mono hw5.size)
  have hz6 := hb6.size
  have HA := Lib.hid (HA5.out.below hb6 (by omega))
  have HX := Lib.hid (HX5.out.below hb6 (by omega))
  have HG := Lib.hid (HG5.out.below hb6 (by omega))
  have hv6 := HV5.out.next hb6
  have HV := Lib.hid hv6
  have hGz6 : G1 ≤ w6.heap.size := by omega
  have RX := Lib.hid (HX.out.reads I1.out I2.out)
  obtain ⟨k1, k2, k3, k4, l1, l2⟩ := hv6
  have r1 : ∀ w', Below w6.heap.size w6 w' → w'.cell? ⟨P, 0, none⟩ = some (.slice a1 M.length c1) := fun w' h => (h.cell (p := ⟨P, 0, none⟩) (by show P < _; omega)).trans k1
  have r2 : ∀ w', Below w6.heap.size w6 w' → w'.cell? ⟨P, 1, none⟩ = some (.slice a2 Q.length c2) := fun w' h => (h.cell (p := ⟨P, 1, none⟩) (by show P < _; omega)).trans k2
  have r3 : ∀ w', Below w6.heap.size w6 w' → w'.cell? ⟨V, 0, none⟩ = some (.slice (some ⟨gC, 0, none⟩) M.length M.length) := fun w' h => (h.cell (p := ⟨V, 0, none⟩) (by show V < _; omega)).trans k3
  have r4 : ∀ w', Below w6.heap.size w6 w' → w'.cell? ⟨V, 1, none⟩ = some (.slice (some ⟨gD, 0, none⟩) Q.length Q.length) := fun w' h => (h.cell (p := ⟨V, 1, none⟩) (by show V < _; omega)).trans k4
  clear HA5 HX5 HG5 HV5 hb6 hw5 hGz hz6 k1 k2 k3 k4 hz45
  go_wp2_with fail
  go_region_held3 (fun w' => Below w6.heap.size w6 w') ((repeat' (first | (with_reducible exact Below.refl _ _) | (with_reducible assumption) | (with_reducible refine Below.alloc ?_ ?_ _) | (with_reducible refine Below.drew ?_) | (with_reducible refine below_drewN ?_ _) | (with_reducible refine Below.setCell ?_ ?_ _) | (with_reducible refine Below.trans ?_ (Below.mono (by with_reducible assumption) ?_)) | (with_reducible exact Below.size (by with_reducible assumption)) | go_size)))
    (first | (go_at_call 15; refine (toProblem_out _ _ M Q _ (g1 _ (hw6.trans (Below.mono (by assumption) hw6.size))) (g2 _ (hw6.trans (Below.mono (by assumption) hw6.size))) HN1.out HN2.out).mono ?_; rintro e w8 ⟨gE, gF, us8, rfl, hr8, hb8⟩; have hS8 : Below w6.heap.size w6 w8 := (by (repeat' (first | (with_reducible exact Below.refl _ _) | (with_reducible assumption) | (with_reducible refine Below.alloc ?_ ?_ _) | (with_reducible refine Below.drew ?_) | (with_reducible refine below_drewN ?_ _) | (with_reducible refine Below.setCell ?_ ?_ _) | (with_reducible refine Below.trans ?_ (Below.mono (by with_reducible assumption) ?_)) | (with_reducible exact Below.size (by with_reducible assumption)) | go_size))); have R8 := Lib.hid (hr8.reads I1.out I2.out); clear hr8) | (go_at_call 17; refine (eqProblem_same _ _ _ _ M Q _ (RX.out.1.below hS8) (RX.out.2.below hS8) R8.out.1 R8.out.2).mono ?_; rintro e w9 ⟨rfl, hb9⟩; have hS9 : Below w6.heap.size w6 w9 := (by (repeat' (first | (with_reducible exact Below.refl _ _) | (with_reducible assumption) | (with_reducible refine Below.alloc ?_ ?_ _) | (with_reducible refine Below.drew ?_) | (with_reducible refine below_drewN ?_ _) | (with_reducible refine Below.setCell ?_ ?_ _) | (with_reducible refine Below.trans ?_ (Below.mono (by with_reducible assumption) ?_)) | (with_reducible exact Below.size (by with_reducible assumption)) | go_size)))))
  have x90 := r3 _ hS9
  have x91 := r4 _ hS9
  have hw9 : Below w.heap.size w w9 := hw6.trans (hS9.mono hw6.size)
  have hz9 := hS9.size
  have HX9 := Lib.hid (HX.out.below hS9 (by omega))
  have HG9 := Lib.hid (HG.out.below hS9 (by omega))
  have HA9 := Lib.hid (HA.out.below hS9 (by omega))
  have HV9 := Lib.hid (HV.out.next hS9)
  have hGz9 : G1 ≤ w9.heap.size := by omega
  have lP9 : P < w9.heap.size := by omega
  have lV9 : V < w9.heap.size := by omega
  clear HX HG HA HV RX R8 r1 r2 r3 r4 hS9 hb9 hS8 hb8 hw6 hGz6 hz9 l1 l2
  have hkb : (1 : Int) + tot M + Q.length ≤ 4611686018427387904 := by have := HN1.out; have := HN2.out; omega
  have hc10 := markProblem_any A1 V _ _ M Q us4 1 _ HX9.out (by omega) (by decide) hkb
  generalize pre M M.length = pM at hc10
  have hp0 : 0 ≤ (1 : Int) + pM + Q.length := by omega
  have HC10 := Lib.hid hc10
  clear hc10 hkb
  go_wp2_with fail
  refine HC10.out.mono ?_; rintro e w10 ⟨rfl, _, hbt10⟩
  have hsz10 := hbt10.size
  have v10 := HV9.out.bet hbt10 (.inl (by omega)) (.inr (by omega))
  have hw10 : Below w.heap.size w w10 := hw9.trans ((hbt10.below (by omega)).mono (by omega))
  have HG10 := Lib.hid (HG9.out.bet hbt10 (.inr (by omega)))
  have HA10 := Lib.hid (HA9.out.bet hbt10 (.inl (by omega)))
  have HV10 := Lib.hid v10
  have hGz10 : G1 ≤ w10.heap.size := by omega
  clear HC10 HX9 HV9 HG9 HA9 v10 hbt10 hw9 x90 x91 hGz9 hsz10 lP9 lV9
  go_wp2_with fail
  refine (eqI_ans HG10.out HA10.out HF.out).mono ?_; rintro e w11 ⟨rfl, hb11⟩
  have hsz11 := hb11.size
  have hw11 : Below w.heap.size w w11 := hw10.trans (hb11.mono hw10.size)
  have HG11 := Lib.hid (HG10.out.below hb11 (by omega))
  have HA11 := Lib.hid (HA10.out.below hb11 (by omega))
  have HV11 := Lib.hid (HV10.out.next hb11)
  have hGz11 : G1 ≤ w11.heap.size := by omega
  clear HG10 HA10 HV10 hb11 hw10 hGz10 hsz11
  have hsl := sizeI_le HF.out
  generalize hsg : sizeI O = sz at hsl
  have HSG := Lib.hid hsg
  clear hsg
  go_wp2_with fail
  refine (markI_ans HG11.out HF.out).mono ?_; rw [HSG.out]; rintro e w12 ⟨rfl, hm12, hbt12⟩
  have hsz12 := hbt12.size
  have hVz := HV11.out.lV
  have hPz := HV11.out.lP
  have hw12 : Below w.heap.size w w12 := hw11.trans ((hbt12.below (by omega)).mono (by omega))
  have HA12 := Lib.hid (HA11.out.bet hbt12 (.inl (by omega)))
  have HV12 := Lib.hid (HV11.out.bet hbt12 (.inl (by omega)) (.inl (by omega)))
  have HM12 := Lib.hid hm12
  have hGz12 : G1 ≤ w12.heap.size := by omega
  clear HG11 HA11 HV11 hm12 hbt12 hw11 hGz11 hsz12 hVz hPz
  go_wp2_with fail
  refine (heldI_ans HM12.out HF.out).mono ?_; rw [HSG.out]; rintro e w13 ⟨rfl, hb13⟩
  have hsz13 := hb13.size
  have hw13 : Below w.heap.size w w13 := hw12.trans (hb13.mono hw12.size)
  have HM13 := Lib.hid (HM12.out.below hb13 (by omega))
  have HA13 := Lib.hid (HA12.out.below hb13 (by omega))
  have v13 := HV12.out.next hb13
  have HV13 := Lib.hid v13
  obtain ⟨q1, q2, q3, q4, l1, l2⟩ := v13
  have hGz13 : G1 ≤ w13.heap.size := by omega
  clear HM12 HA12 HV12 hb13 hw12 hGz12 hsz13 q3 q4 l1 l2
  go_wp2_with fail
  refine (toProblem_out _ _ M Q _ (g1 _ hw13) (g2 _ hw13) HN1.out HN2.out).mono ?_; rintro e w14 ⟨gE, gF, us14, rfl, hr14, hb14⟩
  have hsz14 := hb14.size
  have hw14 : Below w.heap.size w w14 := hw13.trans (hb14.mono hw13.size)
  have R14 := Lib.hid (hr14.reads I1.out I2.out)
  have HM14 := Lib.hid (HM13.out.below hb14 (by omega))
  have HA14 := Lib.hid (HA13.out.below hb14 (by omega))
  have hGz14 : G1 ≤ w14.heap.size := by omega
  clear hr14 HV13 HM13 HA13 hb14 hw13 hGz13 hsz14 q1 q2
  go_wp2_with fail
  refine (HI.out _ _ _ (gl _ (by (repeat' (first | (with_reducible exact Below.refl _ _) | (with_reducible assumption) | (with_reducible refine Below.alloc ?_ ?_ _) | (with_reducible refine Below.drew ?_) | (with_reducible refine below_drewN ?_ _) | (with_reducible refine Below.setCell ?_ ?_ _) | (with_reducible refine Below.trans ?_ (Below.mono (by with_reducible assumption) ?_)) | (with_reducible exact Below.size (by with_reducible assumption)) | go_size)))) R14.out.1 R14.out.2).mono ?_; rintro e w15 ho15; obtain ⟨a15, c15, rfl, hr15, hb15⟩ := ho15.out; clear ho15; dsimp only at hr15; dsimp only
  have hsz15 := hb15.size
  have hw15 : Below w.heap.size w w15 := hw14.trans (hb15.mono hw14.size)
  have HM15 := Lib.hid (HM14.out.below hb15 (by omega))
  have HA15 := Lib.hid (HA14.out.below hb15 (by omega))
  have HH15 := Lib.hid hr15
  have hGz15 : G1 ≤ w15.heap.size := by omega
  clear hr15 HM14 HA14 hb15 hw14 hGz14 hsz15 R14
  go_wp2_with fail
  refine (eqI_ans HH15.out HA15.out HF.out).mono ?_; rintro e w16 ⟨rfl, hb16⟩
  have hw16 : Below w.heap.size w w16 := hw15.trans (hb16.mono hw15.size)
  have HM16 := Lib.hid (HM15.out.below hb16 (by omega))
  clear HM15 HA15 HH15 hb16 hw15
  go_wp2_with fail
  refine (heldI_ans HM16.out HF.out).mono ?_; rw [HSG.out]; rintro e w17 ⟨rfl, hb17⟩
  have hw17 : Below w.heap.size w w17 := hw16.trans (hb17.mono hw16.size)
  go_wp2_with fail
  go_ret
  exact ⟨rfl, hw17⟩
end Go.Proofs.YtopokicejgjcoaaDoor.PW
namespace Go.Proofs.YtopokicejgjcoaaDoor.PW
open Go.RowKit Go.Proofs.YtopokicejgjcoaaDoor
open Go.Proofs.YtopokicejgjcoaaDoor.PM Go.Proofs.YtopokicejgjcoaaDoor.PX
attribute [local go_sem] Oper.semAt_some

theorem solvedRun_err (m q : Value) (M : List (List Int)) (Q : List Int) (r c : Int) (w : World) (h1 : PM.Rows w m M) (h2 : Ints w q Q) (h : ruleCode M Q 0 r = c) (hc : c ≠ 0) :
    Calls Tryd.prog 87 #[.agg #[m, q], .int .i64 r] w fun e w' => e = .returned (.tuple #[.agg #[.slice none 0 0, .int .i64 0, .slice none 0 0], .int .i64 c]) ∧ Below w.heap.size w w' := by
  have g1 := fun (w' : World) (h : Below w.heap.size w w') => h1.below h
  have g2 := fun (w' : World) (h : Below w.heap.size w w') => h2.below h
  obtain ⟨a1, c1, rfl, _⟩ := h1
  obtain ⟨a2, c2, rfl, _⟩ := h2
  have HC := Lib.hid h
  clear h
  go_enter Tryd.func87, Tryd.ntmps87
  go_wp2_with fail
  refine (checkRule_any _ _ M Q 0 _ _ (g1 _ (by (repeat' (first | (with_reducible exact Below.refl _ _) | (with_reducible assumption) | (with_reducible refine Below.alloc ?_ ?_ _) | (with_reducible refine Below.drew ?_) | (with_reducible refine below_drewN ?_ _) | (with_reducible refine Below.setCell ?_ ?_ _) | (with_reducible refine Below.trans ?_ (Below.mono (by with_reducible assumption) ?_)) | (with_reducible exact Below.size (by with_reducible assumption)) | go_size)))) (g2 _ (by (repeat' (first | (with_reducible exact Below.refl _ _) | (with_reducible assumption) | (with_reducible refine Below.alloc ?_ ?_ _) | (with_reducible refine Below.drew ?_) | (with_reducible refine below_drewN ?_ _) | (with_reducible refine Below.setCell ?_ ?_ _) | (with_reducible refine Below.trans ?_ (Below.mono (by with_reducible assumption) ?_)) | (with_reducible exact Below.size (by with_reducible assumption)) | go_size))))).mono ?_; rw [HC.out]; rintro e w1 ⟨rfl, hb1⟩; obtain ⟨hc_hb1, hf_hb1⟩ := bcell hb1; obtain ⟨hcA_hb1, hfA_hb1⟩ := bcellG (W0 := w) hb1 (by (repeat' (first | (with_reducible exact Below.refl _ _) | (with_reducible assumption) | (with_reducible refine Below.alloc ?_ ?_ _) | (with_reducible refine Below.drew ?_) | (with_reducible refine below_drewN ?_ _) | (with_reducible refine Below.setCell ?_ ?_ _) | (with_reducible refine Below.trans ?_ (Below.mono (by with_reducible assumption) ?_)) | (with_reducible exact Below.size (by with_reducible assumption)) | go_size))); have hz_hb1 := hb1.size; (try simp at hz_hb1); (try simp only [Nat.add_one_le_iff] at hz_hb1); have hz0_hb1 : w.heap.size < w1.heap.size := (by omega)
  have hw1 : Below w.heap.size w w1 := by (repeat' (first | (with_reducible exact Below.refl _ _) | (with_reducible assumption) | (with_reducible refine Below.alloc ?_ ?_ _) | (with_reducible refine Below.drew ?_) | (with_reducible refine below_drewN ?_ _) | (with_reducible refine Below.setCell ?_ ?_ _) | (with_reducible refine Below.trans ?_ (Below.mono (by with_reducible assumption) ?_)) | (with_reducible exact Below.size (by with_reducible assumption)) | go_size))
  have y0 : w1.cell? ⟨w.heap.size + 1, 0, none⟩ = some (.slice none 0 0) := by rw [hc_hb1 _ _ (by go_size)]; simp
  have y1 : w1.cell? ⟨w.heap.size + 1, 1, none⟩ = some (.int .i64 0) := by rw [hc_hb1 _ _ (by go_size)]; simp
  have y2 : w1.cell? ⟨w.heap.size + 1, 2, none⟩ = some (.slice none 0 0) := by rw [hc_hb1 _ _ (by go_size)]; simp
  have yf : ∀ o, w1.frozen? ⟨w.heap.size + 1, o, none⟩ = false := fun o => by rw [hf_hb1 _ _ (by go_size)]; simp [go_sem]
  have f0 := yf 0; have f1 := yf 1; have f2 := yf 2
  clear hc_hb1 hf_hb1 hcA_hb1 hfA_hb1 hz_hb1 hz0_hb1 hb1
  go_wp2_with fail
  refine bodyPost_ret (v := .tuple #[.agg #[.slice none 0 0, .int .i64 0, .slice none 0 0], .int .i64 c]) (by simp [*, results, Tryd.results87, go_sem]) rfl ?_
  exact ⟨rfl, ((hw1.setCell (by simp) _).setCell (by simp) _).setCell (by simp) _⟩
set_option maxHeartbeats 2000000 in
theorem solvedRun_no (m q : Value) (M : List (List Int)) (Q : List Int) (r : Int) (w : World) (hT : Tab8 w) (h1 : PM.Rows w m M) (h2 : Ints w q Q) (h : ruleCode M Q 0 r = 0) (he : (runO M Q r 33 [] 0).2 ≠ 0) :
    Calls Tryd.prog 87 #[.agg #[m, q], .int .i64 r] w fun e w' => e = .returned (.tuple #[.agg #[.slice none 0 0, .int .i64 0, .slice none 0 0], .int .i64 4]) ∧ Below w.heap.size w w' := by
  have hmx : Tryd.prog.follows .mixedOrders = true := by kernel_rfl
  have g1 := fun (w' : World) (h : Below w.heap.size w w') => h1.below h
  have g2 := fun (w' : World) (h : Below w.heap.size w w') => h2.below h
  have gt := fun (w' : World) (h : Below w.heap.size w w') => hT.below h
  clear hT
  obtain ⟨a1, c1, rfl, _⟩ := h1
  obtain ⟨a2, c2, rfl, _⟩ := h2
  have hcs := ruleCode_cases M Q 0 r
  rw [h] at hcs
  obtain ⟨hp, hs0, hs1, hr0, hr1⟩ : isPB M Q = true ∧ (0 : Int) ≤ 0 ∧ (0 : Int) < 2 ^ M.length ∧ 0 ≤ r ∧ r ≤ 3 := by
    rcases hcs with h | h | ⟨_, _, h⟩
    · cases h
    · cases h
    · exact h
  have HC := Lib.hid h
  have HRF := Lib.hid (fun (w' : World) (hb : Below w.heap.size w w') => runFrom_any _ _ M Q 0 r w' (gt _ hb) (g1 _ hb) (g2 _ hb) hp hs0 hs1)
  obtain ⟨O, hO⟩ : ∃ O, O = runO M Q r 33 [] 0 := ⟨_, rfl⟩
  rw [← hO] at HRF he
  have HE := Lib.hid he
  clear h hp hs0 hs1 hO hcs he
  obtain ⟨rn, rfl⟩ := Int.eq_ofNat_of_zero_le hr0
  have hrn : rn < 4 := by omega
  have hrn' : (rn : Int) < 4 := by omega
  go_enter Tryd.func87, Tryd.ntmps87
  go_wp2_with fail
  refine (checkRule_any _ _ M Q 0 _ _ (g1 _ (by (repeat' (first | (with_reducible exact Below.refl _ _) | (with_reducible assumption) | (with_reducible refine Below.alloc ?_ ?_ _) | (with_reducible refine Below.drew ?_) | (with_reducible refine below_drewN ?_ _) | (with_reducible refine Below.setCell ?_ ?_ _) | (with_reducible refine Below.trans ?_ (Below.mono (by with_reducible assumption) ?_)) | (with_reducible exact Below.size (by with_reducible assumption)) | go_size)))) (g2 _ (by (repeat' (first | (with_reducible exact Below.refl _ _) | (with_reducible assumption) | (with_reducible refine Below.alloc ?_ ?_ _) | (with_reducible refine Below.drew ?_) | (with_reducible refine below_drewN ?_ _) | (with_reducible refine Below.setCell ?_ ?_ _) | (with_reducible refine Below.trans ?_ (Below.mono (by with_reducible assumption) ?_)) | (with_reducible exact Below.size (by with_reducible assumption)) | go_size))))).mono ?_; rw [HC.out]; rintro e W ⟨rfl, hb1⟩; obtain ⟨hc_hb1, hf_hb1⟩ := bcell hb1; obtain ⟨hcA_hb1, hfA_hb1⟩ := bcellG (W0 := w) hb1 (by (repeat' (first | (with_reducible exact Below.refl _ _) | (with_reducible assumption) | (with_reducible refine Below.alloc ?_ ?_ _) | (with_reducible refine Below.drew ?_) | (with_reducible refine below_drewN ?_ _) | (with_reducible refine Below.setCell ?_ ?_ _) | (with_reducible refine Below.trans ?_ (Below.mono (by with_reducible assumption) ?_)) | (with_reducible exact Below.size (by with_reducible assumption)) | go_size))); have hz_hb1 := hb1.size; (try simp at hz_hb1); (try simp only [Nat.add_one_le_iff] at hz_hb1); have hz0_hb1 : w.heap.size < W.heap.size := (by omega)
  have hB0 : Below w.heap.size w W := by (repeat' (first | (with_reducible exact Below.refl _ _) | (with_reducible assumption) | (with_reducible refine Below.alloc ?_ ?_ _) | (with_reducible refine Below.drew ?_) | (with_reducible refine below_drewN ?_ _) | (with_reducible refine Below.setCell ?_ ?_ _) | (with_reducible refine Below.trans ?_ (Below.mono (by with_reducible assumption) ?_)) | (with_reducible exact Below.size (by with_reducible assumption)) | go_size))
  have x0 : W.cell? ⟨w.heap.size, 0, none⟩ = some (.slice a1 M.length c1) := by rw [hc_hb1 _ _ (by go_size)]; simp
  have x1 : W.cell? ⟨w.heap.size, 1, none⟩ = some (.slice a2 Q.length c2) := by rw [hc_hb1 _ _ (by go_size)]; simp
  have y0 : W.cell? ⟨w.heap.size + 1, 0, none⟩ = some (.slice none 0 0) := by rw [hc_hb1 _ _ (by go_size)]; simp
  have y1 : W.cell? ⟨w.heap.size + 1, 1, none⟩ = some (.int .i64 0) := by rw [hc_hb1 _ _ (by go_size)]; simp
  have y2 : W.cell? ⟨w.heap.size + 1, 2, none⟩ = some (.slice none 0 0) := by rw [hc_hb1 _ _ (by go_size)]; simp
  have yf : ∀ o, W.frozen? ⟨w.heap.size + 1, o, none⟩ = false := fun o => by rw [hf_hb1 _ _ (by go_size)]; simp [go_sem]
  have hwW1 : w.heap.size + 1 < W.heap.size := by omega
  have hwW : w.heap.size < W.heap.size := by omega
  clear hc_hb1 hf_hb1 hcA_hb1 hfA_hb1 hz_hb1 hz0_hb1 hb1
  go_wp2_with fail
  rename_i K0 hK0
  refine (wpIn_wide (n := 8)).1 ?_
  refine PR.wpIn_region_inv hmx (by kernel_rfl) (fun listed ac w' =>
      ∃ (b0 b1 b2 b3 b4 b5 b6 b7 : Bool) (g2 : Nat) (g7 : Nat) (va : Option Addr) (vc : Nat) (za : Option Addr) (zn : Nat) (zc : Nat) (lo : Nat) (hi : Nat), ((b3 = true → b1 = true ∧ b2 = true) ∧ (b4 = true → b3 = true) ∧ (b5 = true → b0 = true ∧ b4 = true) ∧ (b7 = true → b5 = true ∧ b6 = true)) ∧ listed = #[b0, b1, b2, b3, b4, b5, b6, b7] ∧
        ac = { tmps := #[.agg #[.slice a1 M.length c1, .slice a2 Q.length c2], .int .i64 (rn : Nat), .pointer (some ⟨w.heap.size, 0, none⟩), undef, .pointer (some ⟨w.heap.size + 1, 0, none⟩), .int .i64 0, .int .i64 0, cond b6 (.pointer (some ⟨g7, 0, none⟩)) undef, .agg #[.slice a1 M.length c1, .slice a2 Q.length c2], .int .i64 (rn : Nat), .int .i64 0, .int .i64 0, .bool false, undef, undef, cond b0 (.agg #[.slice a1 M.length c1, .slice a2 Q.length c2]) undef, cond b1 (.slice (some ⟨g2, 0, none⟩) 4 4) undef, cond b2 (.int .i64 (rn : Nat)) undef, cond b3 (.pointer (some ⟨g2, rn, none⟩)) undef, cond b4 (.func (.func (ruleF (rn : Nat))) #[] #[]) undef, cond b5 (.agg #[.slice va O.1.length vc, .int .i64 O.2, .slice za zn zc]) undef, undef, undef, undef, undef, undef], defers := [] } ∧ RgW M Q W w' O b1 b5 b6 b7 g2 g7 (.slice va O.1.length vc) (.slice za zn zc) lo hi) ?_ ?_ ?_ ?_
  · rintro listed ac w' ⟨b0, b1, b2, b3, b4, b5, b6, b7, g2, g7, va, vc, za, zn, zc, lo, hi, _, rfl, _⟩
    rfl
  · rintro listed ac w' ⟨b0, b1, b2, b3, b4, b5, b6, b7, g2, g7, va, vc, za, zn, zc, lo, hi, _, rfl, rfl, hR⟩ hall
    have h0 := hall 0 (by simp)
    have h1 := hall 1 (by simp)
    have h2 := hall 2 (by simp)
    have h3 := hall 3 (by simp)
    have h4 := hall 4 (by simp)
    have h5 := hall 5 (by simp)
    have h6 := hall 6 (by simp)
    have h7 := hall 7 (by simp)
    simp at h0 h1 h2 h3 h4 h5 h6 h7
    subst h0 h1 h2 h3 h4 h5 h6 h7
    clear hall
    refine hK0 _ _ ?_
    simp only [cond_true]
    obtain ⟨q1, q2, q3, q4, q5, q6⟩ := hR.box rfl
    obtain ⟨p1, p2, p3, p4⟩ := hR.run rfl
    simp only [cond_true] at q3 q4 q5
    have r0 := (hR.below.cell (p := ⟨w.heap.size + 1, 0, none⟩) hwW1).trans y0
    have r1 := (hR.below.cell (p := ⟨w.heap.size + 1, 1, none⟩) hwW1).trans y1
    have r2 := (hR.below.cell (p := ⟨w.heap.size + 1, 2, none⟩) hwW1).trans y2
    have f0 := (hR.below.frozen (p := ⟨w.heap.size + 1, 0, none⟩) hwW1).trans (yf 0)
    have f1 := (hR.below.frozen (p := ⟨w.heap.size + 1, 1, none⟩) hwW1).trans (yf 1)
    have f2 := (hR.below.frozen (p := ⟨w.heap.size + 1, 2, none⟩) hwW1).trans (yf 2)
    have HW' := Lib.hid (hB0.trans (hR.below.mono hB0.size))
    have hlo : w.heap.size + 1 < lo := Nat.lt_of_lt_of_le hwW1 p1
    have hne := HE.out
    generalize O.2 = oe at *
    clear hR p4 hB0 HRF q6 y0 y1 y2 yf
    go_wp2_with fail
    refine bodyPost_ret (v := .tuple #[.agg #[.slice none 0 0, .int .i64 0, .slice none 0 0], .int .i64 4]) (by simp [*, results, Tryd.results87, go_sem]) rfl ?_
    exact ⟨rfl, ((HW'.out.setCell (by simp) _).setCell (by simp) _).setCell (by simp) _⟩
  · exact ⟨false, false, false, false, false, false, false, false, 0, 0, none, 0, none, 0, 0, 0, 0, by simp, rfl, rfl, ⟨(Below.refl _ _).drew, fun h => Bool.noConfusion h, fun h => Bool.noConfusion h, fun h => Bool.noConfusion h, fun h => Bool.noConfusion h⟩⟩
  · rintro listed ac w' i oi ⟨b0, b1, b2, b3, b4, b5, b6, b7, g2, g7, va, vc, za, zn, zc, lo, hi, ⟨e3, e4, e5, e7⟩, rfl, rfl, hR⟩ ho hun hdep
    have hi : i < 8 := by simpa using (Array.getElem?_eq_some_iff.1 ho).1
    obtain rfl | rfl | rfl | rfl | rfl | rfl | rfl | rfl : i = 0 ∨ i = 1 ∨ i = 2 ∨ i = 3 ∨ i = 4 ∨ i = 5 ∨ i = 6 ∨ i = 7 := by omega
    · -- 0
      simp only [List.getElem?_toArray, List.getElem?_cons_zero, Option.some.injEq] at ho
      subst ho
      have hbi : b0 = false := by simpa using hun
      subst hbi
      obtain rfl : b5 = false := Bool.eq_false_iff.2 (fun h => Bool.noConfusion (e5 h).1)
      obtain rfl : b7 = false := Bool.eq_false_iff.2 (fun h => Bool.noConfusion (e7 h).1)
      refine wpOpIn_step rfl (fun K hK => ?_)
      clear hun hdep hi
      have k0 := (hR.below.cell (p := ⟨w.heap.size, 0, none⟩) hwW).trans x0
      have k1 := (hR.below.cell (p := ⟨w.heap.size, 1, none⟩) hwW).trans x1
      go_simp
      refine hK _ _ ⟨true, b1, b2, b3, b4, false, b6, false, g2, g7, va, vc, za, zn, zc, lo, hi, ⟨e3, e4, fun h => Bool.noConfusion h, fun h => Bool.noConfusion h⟩, rfl, rfl, hR⟩
    · -- 1
      simp only [List.getElem?_toArray, List.getElem?_cons_succ, List.getElem?_cons_zero, Option.some.injEq] at ho
      subst ho
      have hbi : b1 = false := by simpa using hun
      subst hbi
      obtain rfl : b3 = false := Bool.eq_false_iff.2 (fun h => Bool.noConfusion (e3 h).1)
      obtain rfl : b4 = false := Bool.eq_false_iff.2 (fun h => Bool.noConfusion (e4 h))
      obtain rfl : b5 = false := Bool.eq_false_iff.2 (fun h => Bool.noConfusion (e5 h).2)
      obtain rfl : b7 = false := Bool.eq_false_iff.2 (fun h => Bool.noConfusion (e7 h).1)
      refine wpOpIn_step rfl (fun K hK => ?_)
      clear hun hdep hi
      go_simp
      refine ⟨trivial, (callsIn_wide.2 (stepRules_any w')).mono ?_⟩
      rintro e w'' ⟨rfl, hc, hb⟩
      refine hK _ _ ⟨b0, true, b2, false, false, false, b6, false, w'.heap.size, g7, va, vc, za, zn, zc, lo, hi, ⟨fun h => Bool.noConfusion h, fun h => Bool.noConfusion h, fun h => Bool.noConfusion h, fun h => Bool.noConfusion h⟩, rfl, rfl, hR.rules_ hc hb⟩
    · -- 2
      simp only [List.getElem?_toArray, List.getElem?_cons_succ, List.getElem?_cons_zero, Option.some.injEq] at ho
      subst ho
      have hbi : b2 = false := by simpa using hun
      subst hbi
      obtain rfl : b3 = false := Bool.eq_false_iff.2 (fun h => Bool.noConfusion (e3 h).2)
      obtain rfl : b4 = false := Bool.eq_false_iff.2 (fun h => Bool.noConfusion (e4 h))
      obtain rfl : b5 = false := Bool.eq_false_iff.2 (fun h => Bool.noConfusion (e5 h).2)
      obtain rfl : b7 = false := Bool.eq_false_iff.2 (fun h => Bool.noConfusion (e7 h).1)
      refine wpOpIn_step rfl (fun K hK => ?_)
      clear hun hdep hi
      go_simp
      refine hK _ _ ⟨b0, b1, true, false, false, false, b6, false, g2, g7, va, vc, za, zn, zc, lo, hi, ⟨fun h => Bool.noConfusion h, fun h => Bool.noConfusion h, fun h => Bool.noConfusion h, fun h => Bool.noConfusion h⟩, rfl, rfl, hR⟩
    · -- 3
      simp only [List.getElem?_toArray, List.getElem?_cons_succ, List.getElem?_cons_zero, Option.some.injEq] at ho
      subst ho
      have hbi : b3 = false := by simpa using hun
      subst hbi
      have hd1 : b1 = true := by have := hdep ⟨1, .data⟩ (by simp) rfl; simpa using this
      have hd2 : b2 = true := by have := hdep ⟨2, .data⟩ (by simp) rfl; simpa using this
      subst hd1 hd2
      obtain rfl : b4 = false := Bool.eq_false_iff.2 (fun h => Bool.noConfusion (e4 h))
      obtain rfl : b5 = false := Bool.eq_false_iff.2 (fun h => Bool.noConfusion (e5 h).2)
      obtain rfl : b7 = false := Bool.eq_false_iff.2 (fun h => Bool.noConfusion (e7 h).1)
      refine wpOpIn_step rfl (fun K hK => ?_)
      clear hun hdep hi
      go_simp
      refine hK _ _ ⟨b0, true, true, true, false, false, b6, false, g2, g7, va, vc, za, zn, zc, lo, hi, ⟨fun _ => ⟨rfl, rfl⟩, fun h => Bool.noConfusion h, fun h => Bool.noConfusion h, fun h => Bool.noConfusion h⟩, rfl, rfl, hR⟩
    · -- 4
      simp only [List.getElem?_toArray, List.getElem?_cons_succ, List.getElem?_cons_zero, Option.some.injEq] at ho
      subst ho
      have hbi : b4 = false := by simpa using hun
      subst hbi
      have hd3 : b3 = true := by have := hdep ⟨3, .data⟩ (by simp) rfl; simpa using this
      have hd2 : b2 = true := (e3 hd3).2
      have hd1 : b1 = true := (e3 hd3).1
      subst hd1 hd2 hd3
      obtain rfl : b5 = false := Bool.eq_false_iff.2 (fun h => Bool.noConfusion (e5 h).2)
      obtain rfl : b7 = false := Bool.eq_false_iff.2 (fun h => Bool.noConfusion (e7 h).1)
      refine wpOpIn_step rfl (fun K hK => ?_)
      clear hun hdep hi
      have kr := (hR.rules rfl rfl).2 rn hrn
      go_simp
      refine hK _ _ ⟨b0, true, true, true, true, false, b6, false, g2, g7, va, vc, za, zn, zc, lo, hi, ⟨fun _ => ⟨rfl, rfl⟩, fun _ => rfl, fun h => Bool.noConfusion h, fun h => Bool.noConfusion h⟩, rfl, rfl, hR⟩
    · -- 5
      simp only [List.getElem?_toArray, List.getElem?_cons_succ, List.getElem?_cons_zero, Option.some.injEq] at ho
      subst ho
      have hbi : b5 = false := by simpa using hun
      subst hbi
      have hd0 : b0 = true := by have := hdep ⟨0, .data⟩ (by simp) rfl; simpa using this
      have hd4 : b4 = true := by have := hdep ⟨4, .data⟩ (by simp) rfl; simpa using this
      have hd3 : b3 = true := (e4 hd4)
      have hd2 : b2 = true := (e3 hd3).2
      have hd1 : b1 = true := (e3 hd3).1
      subst hd0 hd1 hd2 hd3 hd4
      obtain rfl : b7 = false := Bool.eq_false_iff.2 (fun h => Bool.noConfusion (e7 h).1)
      refine wpOpIn_step rfl (fun K hK => ?_)
      clear hun hdep hi
      go_simp
      refine ⟨trivial, (callsIn_wide.2 (HRF.out w' (hB0.trans (hR.below.mono hB0.size)))).mono ?_⟩
      rintro e w'' ⟨yv, yz, rfl, h1, h2, h3, hb⟩
      have hres : RunRes M Q w'.heap.size w''.heap.size w'' O yv yz := ⟨h1, h2, h3⟩
      obtain ⟨yva, yvc, yza, yzn, yzc, rfl, rfl⟩ := hres.shape
      refine hK _ _ ⟨true, true, true, true, true, true, b6, false, g2, g7, yva, yvc, yza, yzn, yzc, w'.heap.size, w''.heap.size, ⟨fun _ => ⟨rfl, rfl⟩, fun _ => rfl, fun _ => ⟨rfl, rfl⟩, fun h => Bool.noConfusion h⟩, rfl, rfl, hR.run_ hres hb⟩
    · -- 6
      simp only [List.getElem?_toArray, List.getElem?_cons_succ, List.getElem?_cons_zero, Option.some.injEq] at ho
      subst ho
      have hbi : b6 = false := by simpa using hun
      subst hbi
      obtain rfl : b7 = false := Bool.eq_false_iff.2 (fun h => Bool.noConfusion (e7 h).2)
      refine wpOpIn_step rfl (fun K hK => ?_)
      clear hun hdep hi
      go_simp
      refine hK _ _ ⟨b0, b1, b2, b3, b4, b5, true, false, g2, w'.heap.size, va, vc, za, zn, zc, lo, hi, ⟨e3, e4, e5, fun h => Bool.noConfusion h⟩, rfl, rfl, hR.box_ _⟩
    · -- 7
      simp only [List.getElem?_toArray, List.getElem?_cons_succ, List.getElem?_cons_zero, Option.some.injEq] at ho
      subst ho
      have hbi : b7 = false := by simpa using hun
      subst hbi
      have hd5 : b5 = true := by have := hdep ⟨5, .data⟩ (by simp) rfl; simpa using this
      have hd6 : b6 = true := by have := hdep ⟨6, .data⟩ (by simp) rfl; simpa using this
      have hd4 : b4 = true := (e5 hd5).2
      have hd3 : b3 = true := (e4 hd4)
      have hd2 : b2 = true := (e3 hd3).2
      have hd1 : b1 = true := (e3 hd3).1
      have hd0 : b0 = true := (e5 hd5).1
      subst hd0 hd1 hd2 hd3 hd4 hd5 hd6
      refine wpOpIn_step rfl (fun K hK => ?_)
      clear hun hdep hi
      obtain ⟨q1, q2, q3, q4, q5, q6⟩ := hR.box rfl
      simp only [cond_false] at q3 q4 q5
      have f0 := q6 0; have f1 := q6 1; have f2 := q6 2
      go_simp
      refine hK _ _ ⟨true, true, true, true, true, true, true, true, g2, g7, va, vc, za, zn, zc, lo, hi, ⟨fun _ => ⟨rfl, rfl⟩, fun _ => rfl, fun _ => ⟨rfl, rfl⟩, fun _ => ⟨rfl, rfl⟩⟩, rfl, rfl, hR.store_⟩

set_option maxHeartbeats 2000000 in
theorem solvedRun_ok (m q : Value) (M : List (List Int)) (Q : List Int) (r : Int) (w : World) (hT : Tab8 w) (h1 : PM.Rows w m M) (h2 : Ints w q Q) (h : ruleCode M Q 0 r = 0) (he : (runO M Q r 33 [] 0).2 = 0) :
    Calls Tryd.prog 87 #[.agg #[m, q], .int .i64 r] w fun e w' => ∃ va vc za zn zc, e = .returned (.tuple #[.agg #[.slice va (runO M Q r 33 [] 0).1.length vc, .int .i64 0, .slice za zn zc], .int .i64 0]) ∧ RunRes M Q w.heap.size w'.heap.size w' (runO M Q r 33 [] 0) (.slice va (runO M Q r 33 [] 0).1.length vc) (.slice za zn zc) ∧ Below w.heap.size w w' := by
  have hmx : Tryd.prog.follows .mixedOrders = true := by kernel_rfl
  have g1 := fun (w' : World) (h : Below w.heap.size w w') => h1.below h
  have g2 := fun (w' : World) (h : Below w.heap.size w w') => h2.below h
  have gt := fun (w' : World) (h : Below w.heap.size w w') => hT.below h
  clear hT
  obtain ⟨a1, c1, rfl, _⟩ := h1
  obtain ⟨a2, c2, rfl, _⟩ := h2
  have hcs := ruleCode_cases M Q 0 r
  rw [h] at hcs
  obtain ⟨hp, hs0, hs1, hr0, hr1⟩ : isPB M Q = true ∧ (0 : Int) ≤ 0 ∧ (0 : Int) < 2 ^ M.length ∧ 0 ≤ r ∧ r ≤ 3 := by
    rcases hcs with h | h | ⟨_, _, h⟩
    · cases h
    · cases h
    · exact h
  have HC := Lib.hid h
  have HRF := Lib.hid (fun (w' : World) (hb : Below w.heap.size w w') => runFrom_any _ _ M Q 0 r w' (gt _ hb) (g1 _ hb) (g2 _ hb) hp hs0 hs1)
  obtain ⟨O, hO⟩ : ∃ O, O = runO M Q r 33 [] 0 := ⟨_, rfl⟩
  rw [← hO] at HRF he ⊢
  have HE := Lib.hid he
  clear h hp hs0 hs1 hO hcs he
  obtain ⟨rn, rfl⟩ := Int.eq_ofNat_of_zero_le hr0
  have hrn : rn < 4 := by omega
  have hrn' : (rn : Int) < 4 := by omega
  go_enter Tryd.func87, Tryd.ntmps87
  go_wp2_with fail
  refine (checkRule_any _ _ M Q 0 _ _ (g1 _ (by (repeat' (first | (with_reducible exact Below.refl _ _) | (with_reducible assumption) | (with_reducible refine Below.alloc ?_ ?_ _) | (with_reducible refine Below.drew ?_) | (with_reducible refine below_drewN ?_ _) | (with_reducible refine Below.setCell ?_ ?_ _) | (with_reducible refine Below.trans ?_ (Below.mono (by with_reducible assumption) ?_)) | (with_reducible exact Below.size (by with_reducible assumption)) | go_size)))) (g2 _ (by (repeat' (first | (with_reducible exact Below.refl _ _) | (with_reducible assumption) | (with_reducible refine Below.alloc ?_ ?_ _) | (with_reducible refine Below.drew ?_) | (with_reducible refine below_drewN ?_ _) | (with_reducible refine Below.setCell ?_ ?_ _) | (with_reducible refine Below.trans ?_ (Below.mono (by with_reducible assumption) ?_)) | (with_reducible exact Below.size (by with_reducible assumption)) | go_size))))).mono ?_; rw [HC.out]; rintro e W ⟨rfl, hb1⟩; obtain ⟨hc_hb1, hf_hb1⟩ := bcell hb1; obtain ⟨hcA_hb1, hfA_hb1⟩ := bcellG (W0 := w) hb1 (by (repeat' (first | (with_reducible exact Below.refl _ _) | (with_reducible assumption) | (with_reducible refine Below.alloc ?_ ?_ _) | (with_reducible refine Below.drew ?_) | (with_reducible refine below_drewN ?_ _) | (with_reducible refine Below.setCell ?_ ?_ _) | (with_reducible refine Below.trans ?_ (Below.mono (by with_reducible assumption) ?_)) | (with_reducible exact Below.size (by with_reducible assumption)) | go_size))); have hz_hb1 := hb1.size; (try simp at hz_hb1); (try simp only [Nat.add_one_le_iff] at hz_hb1); have hz0_hb1 : w.heap.size < W.heap.size := (by omega)
  have hB0 : Below w.heap.size w W := by (repeat' (first | (with_reducible exact Below.refl _ _) | (with_reducible assumption) | (with_reducible refine Below.alloc ?_ ?_ _) | (with_reducible refine Below.drew ?_) | (with_reducible refine below_drewN ?_ _) | (with_reducible refine Below.setCell ?_ ?_ _) | (with_reducible refine Below.trans ?_ (Below.mono (by with_reducible assumption) ?_)) | (with_reducible exact Below.size (by with_reducible assumption)) | go_size))
  have x0 : W.cell? ⟨w.heap.size, 0, none⟩ = some (.slice a1 M.length c1) := by rw [hc_hb1 _ _ (by go_size)]; simp
  have x1 : W.cell? ⟨w.heap.size, 1, none⟩ = some (.slice a2 Q.length c2) := by rw [hc_hb1 _ _ (by go_size)]; simp
  have y0 : W.cell? ⟨w.heap.size + 1, 0, none⟩ = some (.slice none 0 0) := by rw [hc_hb1 _ _ (by go_size)]; simp
  have y1 : W.cell? ⟨w.heap.size + 1, 1, none⟩ = some (.int .i64 0) := by rw [hc_hb1 _ _ (by go_size)]; simp
  have y2 : W.cell? ⟨w.heap.size + 1, 2, none⟩ = some (.slice none 0 0) := by rw [hc_hb1 _ _ (by go_size)]; simp
  have yf : ∀ o, W.frozen? ⟨w.heap.size + 1, o, none⟩ = false := fun o => by rw [hf_hb1 _ _ (by go_size)]; simp [go_sem]
  have hwW1 : w.heap.size + 1 < W.heap.size := by omega
  have hwW : w.heap.size < W.heap.size := by omega
  clear hc_hb1 hf_hb1 hcA_hb1 hfA_hb1 hz_hb1 hz0_hb1 hb1
  go_wp2_with fail
  rename_i K0 hK0
  refine (wpIn_wide (n := 8)).1 ?_
  refine PR.wpIn_region_inv hmx (by kernel_rfl) (fun listed ac w' =>
      ∃ (b0 b1 b2 b3 b4 b5 b6 b7 : Bool) (g2 : Nat) (g7 : Nat) (va : Option Addr) (vc : Nat) (za : Option Addr) (zn : Nat) (zc : Nat) (lo : Nat) (hi : Nat), ((b3 = true → b1 = true ∧ b2 = true) ∧ (b4 = true → b3 = true) ∧ (b5 = true → b0 = true ∧ b4 = true) ∧ (b7 = true → b5 = true ∧ b6 = true)) ∧ listed = #[b0, b1, b2, b3, b4, b5, b6, b7] ∧
        ac = { tmps := #[.agg #[.slice a1 M.length c1, .slice a2 Q.length c2], .int .i64 (rn : Nat), .pointer (some ⟨w.heap.size, 0, none⟩), undef, .pointer (some ⟨w.heap.size + 1, 0, none⟩), .int .i64 0, .int .i64 0, cond b6 (.pointer (some ⟨g7, 0, none⟩)) undef, .agg #[.slice a1 M.length c1, .slice a2 Q.length c2], .int .i64 (rn : Nat), .int .i64 0, .int .i64 0, .bool false, undef, undef, cond b0 (.agg #[.slice a1 M.length c1, .slice a2 Q.length c2]) undef, cond b1 (.slice (some ⟨g2, 0, none⟩) 4 4) undef, cond b2 (.int .i64 (rn : Nat)) undef, cond b3 (.pointer (some ⟨g2, rn, none⟩)) undef, cond b4 (.func (.func (ruleF (rn : Nat))) #[] #[]) undef, cond b5 (.agg #[.slice va O.1.length vc, .int .i64 O.2, .slice za zn zc]) undef, undef, undef, undef, undef, undef], defers := [] } ∧ RgW M Q W w' O b1 b5 b6 b7 g2 g7 (.slice va O.1.length vc) (.slice za zn zc) lo hi) ?_ ?_ ?_ ?_
  · rintro listed ac w' ⟨b0, b1, b2, b3, b4, b5, b6, b7, g2, g7, va, vc, za, zn, zc, lo, hi, _, rfl, _⟩
    rfl
  · rintro listed ac w' ⟨b0, b1, b2, b3, b4, b5, b6, b7, g2, g7, va, vc, za, zn, zc, lo, hi, _, rfl, rfl, hR⟩ hall
    have h0 := hall 0 (by simp)
    have h1 := hall 1 (by simp)
    have h2 := hall 2 (by simp)
    have h3 := hall 3 (by simp)
    have h4 := hall 4 (by simp)
    have h5 := hall 5 (by simp)
    have h6 := hall 6 (by simp)
    have h7 := hall 7 (by simp)
    simp at h0 h1 h2 h3 h4 h5 h6 h7
    subst h0 h1 h2 h3 h4 h5 h6 h7
    clear hall
    refine hK0 _ _ ?_
    simp only [cond_true]
    obtain ⟨q1, q2, q3, q4, q5, q6⟩ := hR.box rfl
    obtain ⟨p1, p2, p3, p4⟩ := hR.run rfl
    simp only [cond_true] at q3 q4 q5
    have r0 := (hR.below.cell (p := ⟨w.heap.size + 1, 0, none⟩) hwW1).trans y0
    have r1 := (hR.below.cell (p := ⟨w.heap.size + 1, 1, none⟩) hwW1).trans y1
    have r2 := (hR.below.cell (p := ⟨w.heap.size + 1, 2, none⟩) hwW1).trans y2
    have f0 := (hR.below.frozen (p := ⟨w.heap.size + 1, 0, none⟩) hwW1).trans (yf 0)
    have f1 := (hR.below.frozen (p := ⟨w.heap.size + 1, 1, none⟩) hwW1).trans (yf 1)
    have f2 := (hR.below.frozen (p := ⟨w.heap.size + 1, 2, none⟩) hwW1).trans (yf 2)
    have HW' := Lib.hid (hB0.trans (hR.below.mono hB0.size))
    have hlo : w.heap.size + 1 < lo := Nat.lt_of_lt_of_le hwW1 p1
    have HP := Lib.hid p4
    have hg7 : g7 ≠ w.heap.size + 1 := by omega
    rw [HE.out] at q4
    clear hR p4 hB0 HRF q6 y0 y1 y2 yf
    go_wp2_with fail
    refine bodyPost_ret (v := .tuple #[.agg #[.slice va O.1.length vc, .int .i64 0, .slice za zn zc], .int .i64 0]) (by simp [*, results, Tryd.results87, go_sem]) rfl ?_
    refine ⟨va, vc, za, zn, zc, rfl, ?_, ((HW'.out.setCell (by simp) _).setCell (by simp) _).setCell (by simp) _⟩
    exact (((HP.out.put (.inl hlo)).put (.inl hlo)).put (.inl hlo)).wide (by omega) (by simpa using p3)
  · exact ⟨false, false, false, false, false, false, false, false, 0, 0, none, 0, none, 0, 0, 0, 0, by simp, rfl, rfl, ⟨(Below.refl _ _).drew, fun h => Bool.noConfusion h, fun h => Bool.noConfusion h, fun h => Bool.noConfusion h, fun h => Bool.noConfusion h⟩⟩
  · rintro listed ac w' i oi ⟨b0, b1, b2, b3, b4, b5, b6, b7, g2, g7, va, vc, za, zn, zc, lo, hi, ⟨e3, e4, e5, e7⟩, rfl, rfl, hR⟩ ho hun hdep
    have hi : i < 8 := by simpa using (Array.getElem?_eq_some_iff.1 ho).1
    obtain rfl | rfl | rfl | rfl | rfl | rfl | rfl | rfl : i = 0 ∨ i = 1 ∨ i = 2 ∨ i = 3 ∨ i = 4 ∨ i = 5 ∨ i = 6 ∨ i = 7 := by omega
    · -- 0
      simp only [List.getElem?_toArray, List.getElem?_cons_zero, Option.some.injEq] at ho
      subst ho
      have hbi : b0 = false := by simpa using hun
      subst hbi
      obtain rfl : b5 = false := Bool.eq_false_iff.2 (fun h => Bool.noConfusion (e5 h).1)
      obtain rfl : b7 = false := Bool.eq_false_iff.2 (fun h => Bool.noConfusion (e7 h).1)
      refine wpOpIn_step rfl (fun K hK => ?_)
      clear hun hdep hi
      have k0 := (hR.below.cell (p := ⟨w.heap.size, 0, none⟩) hwW).trans x0
      have k1 := (hR.below.cell (p := ⟨w.heap.size, 1, none⟩) hwW).trans x1
      go_simp
      refine hK _ _ ⟨true, b1, b2, b3, b4, false, b6, false, g2, g7, va, vc, za, zn, zc, lo, hi, ⟨e3, e4, fun h => Bool.noConfusion h, fun h => Bool.noConfusion h⟩, rfl, rfl, hR⟩
    · -- 1
      simp only [List.getElem?_toArray, List.getElem?_cons_succ, List.getElem?_cons_zero, Option.some.injEq] at ho
      subst ho
      have hbi : b1 = false := by simpa using hun
      subst hbi
      obtain rfl : b3 = false := Bool.eq_false_iff.2 (fun h => Bool.noConfusion (e3 h).1)
      obtain rfl : b4 = false := Bool.eq_false_iff.2 (fun h => Bool.noConfusion (e4 h))
      obtain rfl : b5 = false := Bool.eq_false_iff.2 (fun h => Bool.noConfusion (e5 h).2)
      obtain rfl : b7 = false := Bool.eq_false_iff.2 (fun h => Bool.noConfusion (e7 h).1)
      refine wpOpIn_step rfl (fun K hK => ?_)
      clear hun hdep hi
      go_simp
      refine ⟨trivial, (callsIn_wide.2 (stepRules_any w')).mono ?_⟩
      rintro e w'' ⟨rfl, hc, hb⟩
      refine hK _ _ ⟨b0, true, b2, false, false, false, b6, false, w'.heap.size, g7, va, vc, za, zn, zc, lo, hi, ⟨fun h => Bool.noConfusion h, fun h => Bool.noConfusion h, fun h => Bool.noConfusion h, fun h => Bool.noConfusion h⟩, rfl, rfl, hR.rules_ hc hb⟩
    · -- 2
      simp only [List.getElem?_toArray, List.getElem?_cons_succ, List.getElem?_cons_zero, Option.some.injEq] at ho
      subst ho
      have hbi : b2 = false := by simpa using hun
      subst hbi
      obtain rfl : b3 = false := Bool.eq_false_iff.2 (fun h => Bool.noConfusion (e3 h).2)
      obtain rfl : b4 = false := Bool.eq_false_iff.2 (fun h => Bool.noConfusion (e4 h))
      obtain rfl : b5 = false := Bool.eq_false_iff.2 (fun h => Bool.noConfusion (e5 h).2)
      obtain rfl : b7 = false := Bool.eq_false_iff.2 (fun h => Bool.noConfusion (e7 h).1)
      refine wpOpIn_step rfl (fun K hK => ?_)
      clear hun hdep hi
      go_simp
      refine hK _ _ ⟨b0, b1, true, false, false, false, b6, false, g2, g7, va, vc, za, zn, zc, lo, hi, ⟨fun h => Bool.noConfusion h, fun h => Bool.noConfusion h, fun h => Bool.noConfusion h, fun h => Bool.noConfusion h⟩, rfl, rfl, hR⟩
    · -- 3
      simp only [List.getElem?_toArray, List.getElem?_cons_succ, List.getElem?_cons_zero, Option.some.injEq] at ho
      subst ho
      have hbi : b3 = false := by simpa using hun
      subst hbi
      have hd1 : b1 = true := by have := hdep ⟨1, .data⟩ (by simp) rfl; simpa using this
      have hd2 : b2 = true := by have := hdep ⟨2, .data⟩ (by simp) rfl; simpa using this
      subst hd1 hd2
      obtain rfl : b4 = false := Bool.eq_false_iff.2 (fun h => Bool.noConfusion (e4 h))
      obtain rfl : b5 = false := Bool.eq_false_iff.2 (fun h => Bool.noConfusion (e5 h).2)
      obtain rfl : b7 = false := Bool.eq_false_iff.2 (fun h => Bool.noConfusion (e7 h).1)
      refine wpOpIn_step rfl (fun K hK => ?_)
      clear hun hdep hi
      go_simp
      refine hK _ _ ⟨b0, true, true, true, false, false, b6, false, g2, g7, va, vc, za, zn, zc, lo, hi, ⟨fun _ => ⟨rfl, rfl⟩, fun h => Bool.noConfusion h, fun h => Bool.noConfusion h, fun h => Bool.noConfusion h⟩, rfl, rfl, hR⟩
    · -- 4
      simp only [List.getElem?_toArray, List.getElem?_cons_succ, List.getElem?_cons_zero, Option.some.injEq] at ho
      subst ho
      have hbi : b4 = false := by simpa using hun
      subst hbi
      have hd3 : b3 = true := by have := hdep ⟨3, .data⟩ (by simp) rfl; simpa using this
      have hd2 : b2 = true := (e3 hd3).2
      have hd1 : b1 = true := (e3 hd3).1
      subst hd1 hd2 hd3
      obtain rfl : b5 = false := Bool.eq_false_iff.2 (fun h => Bool.noConfusion (e5 h).2)
      obtain rfl : b7 = false := Bool.eq_false_iff.2 (fun h => Bool.noConfusion (e7 h).1)
      refine wpOpIn_step rfl (fun K hK => ?_)
      clear hun hdep hi
      have kr := (hR.rules rfl rfl).2 rn hrn
      go_simp
      refine hK _ _ ⟨b0, true, true, true, true, false, b6, false, g2, g7, va, vc, za, zn, zc, lo, hi, ⟨fun _ => ⟨rfl, rfl⟩, fun _ => rfl, fun h => Bool.noConfusion h, fun h => Bool.noConfusion h⟩, rfl, rfl, hR⟩
    · -- 5
      simp only [List.getElem?_toArray, List.getElem?_cons_succ, List.getElem?_cons_zero, Option.some.injEq] at ho
      subst ho
      have hbi : b5 = false := by simpa using hun
      subst hbi
      have hd0 : b0 = true := by have := hdep ⟨0, .data⟩ (by simp) rfl; simpa using this
      have hd4 : b4 = true := by have := hdep ⟨4, .data⟩ (by simp) rfl; simpa using this
      have hd3 : b3 = true := (e4 hd4)
      have hd2 : b2 = true := (e3 hd3).2
      have hd1 : b1 = true := (e3 hd3).1
      subst hd0 hd1 hd2 hd3 hd4
      obtain rfl : b7 = false := Bool.eq_false_iff.2 (fun h => Bool.noConfusion (e7 h).1)
      refine wpOpIn_step rfl (fun K hK => ?_)
      clear hun hdep hi
      go_simp
      refine ⟨trivial, (callsIn_wide.2 (HRF.out w' (hB0.trans (hR.below.mono hB0.size)))).mono ?_⟩
      rintro e w'' ⟨yv, yz, rfl, h1, h2, h3, hb⟩
      have hres : RunRes M Q w'.heap.size w''.heap.size w'' O yv yz := ⟨h1, h2, h3⟩
      obtain ⟨yva, yvc, yza, yzn, yzc, rfl, rfl⟩ := hres.shape
      refine hK _ _ ⟨true, true, true, true, true, true, b6, false, g2, g7, yva, yvc, yza, yzn, yzc, w'.heap.size, w''.heap.size, ⟨fun _ => ⟨rfl, rfl⟩, fun _ => rfl, fun _ => ⟨rfl, rfl⟩, fun h => Bool.noConfusion h⟩, rfl, rfl, hR.run_ hres hb⟩
    · -- 6
      simp only [List.getElem?_toArray, List.getElem?_cons_succ, List.getElem?_cons_zero, Option.some.injEq] at ho
      subst ho
      have hbi : b6 = false := by simpa using hun
      subst hbi
      obtain rfl : b7 = false := Bool.eq_false_iff.2 (fun h => Bool.noConfusion (e7 h).2)
      refine wpOpIn_step rfl (fun K hK => ?_)
      clear hun hdep hi
      go_simp
      refine hK _ _ ⟨b0, b1, b2, b3, b4, b5, true, false, g2, w'.heap.size, va, vc, za, zn, zc, lo, hi, ⟨e3, e4, e5, fun h => Bool.noConfusion h⟩, rfl, rfl, hR.box_ _⟩
    · -- 7
      simp only [List.getElem?_toArray, List.getElem?_cons_succ, List.getElem?_cons_zero, Option.some.injEq] at ho
      subst ho
      have hbi : b7 = false := by simpa using hun
      subst hbi
      have hd5 : b5 = true := by have := hdep ⟨5, .data⟩ (by simp) rfl; simpa using this
      have hd6 : b6 = true := by have := hdep ⟨6, .data⟩ (by simp) rfl; simpa using this
      have hd4 : b4 = true := (e5 hd5).2
      have hd3 : b3 = true := (e4 hd4)
      have hd2 : b2 = true := (e3 hd3).2
      have hd1 : b1 = true := (e3 hd3).1
      have hd0 : b0 = true := (e5 hd5).1
      subst hd0 hd1 hd2 hd3 hd4 hd5 hd6
      refine wpOpIn_step rfl (fun K hK => ?_)
      clear hun hdep hi
      obtain ⟨q1, q2, q3, q4, q5, q6⟩ := hR.box rfl
      simp only [cond_false] at q3 q4 q5
      have f0 := q6 0; have f1 := q6 1; have f2 := q6 2
      go_simp
      refine hK _ _ ⟨true, true, true, true, true, true, true, true, g2, g7, va, vc, za, zn, zc, lo, hi, ⟨fun _ => ⟨rfl, rfl⟩, fun _ => rfl, fun _ => ⟨rfl, rfl⟩, fun _ => ⟨rfl, rfl⟩⟩, rfl, rfl, hR.store_⟩
end Go.Proofs.YtopokicejgjcoaaDoor.PW
namespace Go.Proofs.YtopokicejgjcoaaDoor.PW
open Go.RowKit Go.Proofs.YtopokicejgjcoaaDoor
open Go.Proofs.YtopokicejgjcoaaDoor.PM Go.Proofs.YtopokicejgjcoaaDoor.PX

def stOut (M : List (List Int)) (Q : List Int) (r : Int) : Int × Int :=
  if ruleCode M Q 0 r ≠ 0 then (0, ruleCode M Q 0 r) else if (runO M Q r 33 [] 0).2 ≠ 0 then (0, 4) else ((runO M Q r 33 [] 0).1.length - 1, 0)
theorem stOut_err {M : List (List Int)} {Q : List Int} {r c : Int} (h : ruleCode M Q 0 r = c) (hc : c ≠ 0) : stOut M Q r = (0, c) := by unfold stOut; rw [if_pos (by omega), h]
theorem stOut_no {M : List (List Int)} {Q : List Int} {r : Int} (h : ruleCode M Q 0 r = 0) (he : (runO M Q r 33 [] 0).2 ≠ 0) : stOut M Q r = (0, 4) := by unfold stOut; rw [if_neg (by omega), if_pos he]
theorem stOut_ok {M : List (List Int)} {Q : List Int} {r : Int} (h : ruleCode M Q 0 r = 0) (he : (runO M Q r 33 [] 0).2 = 0) : stOut M Q r = (((runO M Q r 33 [] 0).1.length : Int) - 1, 0) := by unfold stOut; rw [if_neg (by omega), if_neg (by omega)]
theorem rule_facts {M : List (List Int)} {Q : List Int} {s r : Int} (h : ruleCode M Q s r = 0) : isPB M Q = true ∧ 0 ≤ s ∧ s < 2 ^ M.length ∧ 0 ≤ r ∧ r ≤ 3 := by
  rcases ruleCode_cases M Q s r with h' | h' | ⟨_, _, h'⟩
  · omega
  · omega
  · exact h'

theorem implStepsByRule_any (m q : Value) (M : List (List Int)) (Q : List Int) (r : Int) (w : World) (hT : Tab8 w) (h1 : PM.Rows w m M) (h2 : Ints w q Q) :
    Calls Tryd.prog 38 #[.agg #[m, q], .int .i64 r] w (OutN w (stOut M Q r)) := by
  have g1 := fun (w' : World) (h : Below w.heap.size w w') => h1.below h
  have g2 := fun (w' : World) (h : Below w.heap.size w w') => h2.below h
  have gt := fun (w' : World) (h : Below w.heap.size w w') => hT.below h
  clear hT
  obtain ⟨a1, c1, rfl, _⟩ := h1
  obtain ⟨a2, c2, rfl, _⟩ := h2
  obtain ⟨c, hc⟩ : ∃ c, c = ruleCode M Q 0 r := ⟨_, rfl⟩
  by_cases hcz : c ≠ 0
  · rw [stOut_err hc.symm hcz]
    have HS := Lib.hid (fun (w' : World) (hb : Below w.heap.size w w') => solvedRun_err _ _ M Q r c w' (g1 _ hb) (g2 _ hb) hc.symm hcz)
    clear hc
    go_enter Tryd.func38, Tryd.ntmps38
    go_wp2_with fail
    refine (HS.out _ (by (repeat' (first | (with_reducible exact Below.refl _ _) | (with_reducible assumption) | (with_reducible refine Below.alloc ?_ ?_ _) | (with_reducible refine Below.drew ?_) | (with_reducible refine below_drewN ?_ _) | (with_reducible refine Below.setCell ?_ ?_ _) | (with_reducible refine Below.trans ?_ (Below.mono (by with_reducible assumption) ?_)) | (with_reducible exact Below.size (by with_reducible assumption)) | go_size)))).mono ?_; rintro e w1 ⟨rfl, hb1⟩; obtain ⟨hc_hb1, hf_hb1⟩ := bcell hb1; obtain ⟨hcA_hb1, hfA_hb1⟩ := bcellG (W0 := w) hb1 (by (repeat' (first | (with_reducible exact Below.refl _ _) | (with_reducible assumption) | (with_reducible refine Below.alloc ?_ ?_ _) | (with_reducible refine Below.drew ?_) | (with_reducible refine below_drewN ?_ _) | (with_reducible refine Below.setCell ?_ ?_ _) | (with_reducible refine Below.trans ?_ (Below.mono (by with_reducible assumption) ?_)) | (with_reducible exact Below.size (by with_reducible assumption)) | go_size))); have hz_hb1 := hb1.size; (try simp at hz_hb1); (try simp only [Nat.add_one_le_iff] at hz_hb1); have hz0_hb1 : w.heap.size < w1.heap.size := (by omega)
    go_wp2_with fail
    go_ret2
    exact ⟨rfl, by (repeat' (first | (with_reducible exact Below.refl _ _) | (with_reducible assumption) | (with_reducible refine Below.alloc ?_ ?_ _) | (with_reducible refine Below.drew ?_) | (with_reducible refine below_drewN ?_ _) | (with_reducible refine Below.setCell ?_ ?_ _) | (with_reducible refine Below.trans ?_ (Below.mono (by with_reducible assumption) ?_)) | (with_reducible exact Below.size (by with_reducible assumption)) | go_size))⟩
  have h : ruleCode M Q 0 r = 0 := by omega
  clear hc hcz
  by_cases he : (runO M Q r 33 [] 0).2 = 0
  · rw [stOut_ok h he]
    have HS := Lib.hid (fun (w' : World) (hb : Below w.heap.size w w') => solvedRun_ok _ _ M Q r w' (gt _ hb) (g1 _ hb) (g2 _ hb) h he)
    obtain ⟨hp, hs0, hs1, _, _⟩ := rule_facts h
    obtain ⟨k1, k2, _⟩ := runO_facts (r := r) (isPB_facts hp).1 (isPB_facts hp).2.1 33 [] 0 (Met.first hs0 hs1)
    generalize runO M Q r 33 [] 0 = O at *
    clear h he hp hs0 hs1
    go_enter Tryd.func38, Tryd.ntmps38
    go_wp2_with fail
    refine (HS.out _ (by (repeat' (first | (with_reducible exact Below.refl _ _) | (with_reducible assumption) | (with_reducible refine Below.alloc ?_ ?_ _) | (with_reducible refine Below.drew ?_) | (with_reducible refine below_drewN ?_ _) | (with_reducible refine Below.setCell ?_ ?_ _) | (with_reducible refine Below.trans ?_ (Below.mono (by with_reducible assumption) ?_)) | (with_reducible exact Below.size (by with_reducible assumption)) | go_size)))).mono ?_; rintro e w1 ⟨va, vc, za, zn, zc, rfl, _, hb1⟩; obtain ⟨hc_hb1, hf_hb1⟩ := bcell hb1; obtain ⟨hcA_hb1, hfA_hb1⟩ := bcellG (W0 := w) hb1 (by (repeat' (first | (with_reducible exact Below.refl _ _) | (with_reducible assumption) | (with_reducible refine Below.alloc ?_ ?_ _) | (with_reducible refine Below.drew ?_) | (with_reducible refine below_drewN ?_ _) | (with_reducible refine Below.setCell ?_ ?_ _) | (with_reducible refine Below.trans ?_ (Below.mono (by with_reducible assumption) ?_)) | (with_reducible exact Below.size (by with_reducible assumption)) | go_size))); have hz_hb1 := hb1.size; (try simp at hz_hb1); (try simp only [Nat.add_one_le_iff] at hz_hb1); have hz0_hb1 : w.heap.size < w1.heap.size := (by omega)
    go_wp2_with fail
    go_ret2
    exact ⟨rfl, by (repeat' (first | (with_reducible exact Below.refl _ _) | (with_reducible assumption) | (with_reducible refine Below.alloc ?_ ?_ _) | (with_reducible refine Below.drew ?_) | (with_reducible refine below_drewN ?_ _) | (with_reducible refine Below.setCell ?_ ?_ _) | (with_reducible refine Below.trans ?_ (Below.mono (by with_reducible assumption) ?_)) | (with_reducible exact Below.size (by with_reducible assumption)) | go_size))⟩
  · rw [stOut_no h he]
    have HS := Lib.hid (fun (w' : World) (hb : Below w.heap.size w w') => solvedRun_no _ _ M Q r w' (gt _ hb) (g1 _ hb) (g2 _ hb) h he)
    clear h he
    go_enter Tryd.func38, Tryd.ntmps38
    go_wp2_with fail
    refine (HS.out _ (by (repeat' (first | (with_reducible exact Below.refl _ _) | (with_reducible assumption) | (with_reducible refine Below.alloc ?_ ?_ _) | (with_reducible refine Below.drew ?_) | (with_reducible refine below_drewN ?_ _) | (with_reducible refine Below.setCell ?_ ?_ _) | (with_reducible refine Below.trans ?_ (Below.mono (by with_reducible assumption) ?_)) | (with_reducible exact Below.size (by with_reducible assumption)) | go_size)))).mono ?_; rintro e w1 ⟨rfl, hb1⟩; obtain ⟨hc_hb1, hf_hb1⟩ := bcell hb1; obtain ⟨hcA_hb1, hfA_hb1⟩ := bcellG (W0 := w) hb1 (by (repeat' (first | (with_reducible exact Below.refl _ _) | (with_reducible assumption) | (with_reducible refine Below.alloc ?_ ?_ _) | (with_reducible refine Below.drew ?_) | (with_reducible refine below_drewN ?_ _) | (with_reducible refine Below.setCell ?_ ?_ _) | (with_reducible refine Below.trans ?_ (Below.mono (by with_reducible assumption) ?_)) | (with_reducible exact Below.size (by with_reducible assumption)) | go_size))); have hz_hb1 := hb1.size; (try simp at hz_hb1); (try simp only [Nat.add_one_le_iff] at hz_hb1); have hz0_hb1 : w.heap.size < w1.heap.size := (by omega)
    go_wp2_with fail
    go_ret2
    exact ⟨rfl, by (repeat' (first | (with_reducible exact Below.refl _ _) | (with_reducible assumption) | (with_reducible refine Below.alloc ?_ ?_ _) | (with_reducible refine Below.drew ?_) | (with_reducible refine below_drewN ?_ _) | (with_reducible refine Below.setCell ?_ ?_ _) | (with_reducible refine Below.trans ?_ (Below.mono (by with_reducible assumption) ?_)) | (with_reducible exact Below.size (by with_reducible assumption)) | go_size))⟩
theorem specStepsByRule_any (m q : Value) (M : List (List Int)) (Q : List Int) (r : Int) (w : World) (h1 : PM.Rows w m M) (h2 : Ints w q Q) :
    Calls Tryd.prog 37 #[.agg #[m, q], .int .i64 r] w (OutN w (stOut M Q r)) := by
  have g1 := fun (w' : World) (h : Below w.heap.size w w') => h1.below h
  have g2 := fun (w' : World) (h : Below w.heap.size w w') => h2.below h
  obtain ⟨a1, c1, rfl, _⟩ := h1
  obtain ⟨a2, c2, rfl, _⟩ := h2
  obtain ⟨c, hc⟩ : ∃ c, c = ruleCode M Q 0 r := ⟨_, rfl⟩
  have HC := Lib.hid hc
  by_cases hcz : c ≠ 0
  · rw [stOut_err hc.symm hcz]
    clear hc
    go_enter Tryd.func37, Tryd.ntmps37
    go_wp2_with fail
    refine (l08Code_any _ _ M Q 0 r _ (g1 _ (by (repeat' (first | (with_reducible exact Below.refl _ _) | (with_reducible assumption) | (with_reducible refine Below.alloc ?_ ?_ _) | (with_reducible refine Below.drew ?_) | (with_reducible refine below_drewN ?_ _) | (with_reducible refine Below.setCell ?_ ?_ _) | (with_reducible refine Below.trans ?_ (Below.mono (by with_reducible assumption) ?_)) | (with_reducible exact Below.size (by with_reducible assumption)) | go_size)))) (g2 _ (by (repeat' (first | (with_reducible exact Below.refl _ _) | (with_reducible assumption) | (with_reducible refine Below.alloc ?_ ?_ _) | (with_reducible refine Below.drew ?_) | (with_reducible refine below_drewN ?_ _) | (with_reducible refine Below.setCell ?_ ?_ _) | (with_reducible refine Below.trans ?_ (Below.mono (by with_reducible assumption) ?_)) | (with_reducible exact Below.size (by with_reducible assumption)) | go_size))))).mono ?_; rw [← HC.out]; rintro e w1 ⟨rfl, hb1⟩; obtain ⟨hc_hb1, hf_hb1⟩ := bcell hb1; obtain ⟨hcA_hb1, hfA_hb1⟩ := bcellG (W0 := w) hb1 (by (repeat' (first | (with_reducible exact Below.refl _ _) | (with_reducible assumption) | (with_reducible refine Below.alloc ?_ ?_ _) | (with_reducible refine Below.drew ?_) | (with_reducible refine below_drewN ?_ _) | (with_reducible refine Below.setCell ?_ ?_ _) | (with_reducible refine Below.trans ?_ (Below.mono (by with_reducible assumption) ?_)) | (with_reducible exact Below.size (by with_reducible assumption)) | go_size))); have hz_hb1 := hb1.size; (try simp at hz_hb1); (try simp only [Nat.add_one_le_iff] at hz_hb1); have hz0_hb1 : w.heap.size < w1.heap.size := (by omega)
    go_wp2_with fail
    go_ret2
    exact ⟨rfl, by (repeat' (first | (with_reducible exact Below.refl _ _) | (with_reducible assumption) | (with_reducible refine Below.alloc ?_ ?_ _) | (with_reducible refine Below.drew ?_) | (with_reducible refine below_drewN ?_ _) | (with_reducible refine Below.setCell ?_ ?_ _) | (with_reducible refine Below.trans ?_ (Below.mono (by with_reducible assumption) ?_)) | (with_reducible exact Below.size (by with_reducible assumption)) | go_size))⟩
  have h : ruleCode M Q 0 r = 0 := by omega
  have HC0 := Lib.hid h
  clear hc hcz HC
  obtain ⟨hp, hs0, hs1, hr0, hr1⟩ := rule_facts h
  have HS := Lib.hid (fun (w' : World) (hb : Below w.heap.size w w') => l08Run_any _ _ M Q 0 r w' (g1 _ hb) (g2 _ hb) hp hs0 hs1 hr0 hr1)
  by_cases he : (runO M Q r 33 [] 0).2 = 0
  · rw [stOut_ok h he]
    obtain ⟨k1, k2, _⟩ := runO_facts (r := r) (isPB_facts hp).1 (isPB_facts hp).2.1 33 [] 0 (Met.first hs0 hs1)
    rw [he] at HS
    generalize runO M Q r 33 [] 0 = O at *
    clear h he hp hs0 hs1
    go_enter Tryd.func37, Tryd.ntmps37
    go_wp2_with fail
    refine (l08Code_any _ _ M Q 0 r _ (g1 _ (by (repeat' (first | (with_reducible exact Below.refl _ _) | (with_reducible assumption) | (with_reducible refine Below.alloc ?_ ?_ _) | (with_reducible refine Below.drew ?_) | (with_reducible refine below_drewN ?_ _) | (with_reducible refine Below.setCell ?_ ?_ _) | (with_reducible refine Below.trans ?_ (Below.mono (by with_reducible assumption) ?_)) | (with_reducible exact Below.size (by with_reducible assumption)) | go_size)))) (g2 _ (by (repeat' (first | (with_reducible exact Below.refl _ _) | (with_reducible assumption) | (with_reducible refine Below.alloc ?_ ?_ _) | (with_reducible refine Below.drew ?_) | (with_reducible refine below_drewN ?_ _) | (with_reducible refine Below.setCell ?_ ?_ _) | (with_reducible refine Below.trans ?_ (Below.mono (by with_reducible assumption) ?_)) | (with_reducible exact Below.size (by with_reducible assumption)) | go_size))))).mono ?_; rw [HC0.out]; rintro e w1 ⟨rfl, hb1⟩; obtain ⟨hc_hb1, hf_hb1⟩ := bcell hb1; obtain ⟨hcA_hb1, hfA_hb1⟩ := bcellG (W0 := w) hb1 (by (repeat' (first | (with_reducible exact Below.refl _ _) | (with_reducible assumption) | (with_reducible refine Below.alloc ?_ ?_ _) | (with_reducible refine Below.drew ?_) | (with_reducible refine below_drewN ?_ _) | (with_reducible refine Below.setCell ?_ ?_ _) | (with_reducible refine Below.trans ?_ (Below.mono (by with_reducible assumption) ?_)) | (with_reducible exact Below.size (by with_reducible assumption)) | go_size))); have hz_hb1 := hb1.size; (try simp at hz_hb1); (try simp only [Nat.add_one_le_iff] at hz_hb1); have hz0_hb1 : w.heap.size < w1.heap.size := (by omega)
    have hw1 : Below w.heap.size w w1 := by (repeat' (first | (with_reducible exact Below.refl _ _) | (with_reducible assumption) | (with_reducible refine Below.alloc ?_ ?_ _) | (with_reducible refine Below.drew ?_) | (with_reducible refine below_drewN ?_ _) | (with_reducible refine Below.setCell ?_ ?_ _) | (with_reducible refine Below.trans ?_ (Below.mono (by with_reducible assumption) ?_)) | (with_reducible exact Below.size (by with_reducible assumption)) | go_size))
    go_wp2_with fail
    refine (HS.out _ hw1).mono ?_; rintro e w2 ⟨v, rfl, ⟨gv, cv, rfl, _, _, _⟩, hb2⟩
    go_wp2_with fail
    go_ret2
    exact ⟨rfl, hw1.trans (hb2.mono hw1.size)⟩
  · rw [stOut_no h he]
    generalize runO M Q r 33 [] 0 = O at *
    have HNE := Lib.hid he
    generalize O.2 = oe at *
    clear h hp hs0 hs1
    go_enter Tryd.func37, Tryd.ntmps37
    go_wp2_with fail
    refine (l08Code_any _ _ M Q 0 r _ (g1 _ (by (repeat' (first | (with_reducible exact Below.refl _ _) | (with_reducible assumption) | (with_reducible refine Below.alloc ?_ ?_ _) | (with_reducible refine Below.drew ?_) | (with_reducible refine below_drewN ?_ _) | (with_reducible refine Below.setCell ?_ ?_ _) | (with_reducible refine Below.trans ?_ (Below.mono (by with_reducible assumption) ?_)) | (with_reducible exact Below.size (by with_reducible assumption)) | go_size)))) (g2 _ (by (repeat' (first | (with_reducible exact Below.refl _ _) | (with_reducible assumption) | (with_reducible refine Below.alloc ?_ ?_ _) | (with_reducible refine Below.drew ?_) | (with_reducible refine below_drewN ?_ _) | (with_reducible refine Below.setCell ?_ ?_ _) | (with_reducible refine Below.trans ?_ (Below.mono (by with_reducible assumption) ?_)) | (with_reducible exact Below.size (by with_reducible assumption)) | go_size))))).mono ?_; rw [HC0.out]; rintro e w1 ⟨rfl, hb1⟩; obtain ⟨hc_hb1, hf_hb1⟩ := bcell hb1; obtain ⟨hcA_hb1, hfA_hb1⟩ := bcellG (W0 := w) hb1 (by (repeat' (first | (with_reducible exact Below.refl _ _) | (with_reducible assumption) | (with_reducible refine Below.alloc ?_ ?_ _) | (with_reducible refine Below.drew ?_) | (with_reducible refine below_drewN ?_ _) | (with_reducible refine Below.setCell ?_ ?_ _) | (with_reducible refine Below.trans ?_ (Below.mono (by with_reducible assumption) ?_)) | (with_reducible exact Below.size (by with_reducible assumption)) | go_size))); have hz_hb1 := hb1.size; (try simp at hz_hb1); (try simp only [Nat.add_one_le_iff] at hz_hb1); have hz0_hb1 : w.heap.size < w1.heap.size := (by omega)
    have hw1 : Below w.heap.size w w1 := by (repeat' (first | (with_reducible exact Below.refl _ _) | (with_reducible assumption) | (with_reducible refine Below.alloc ?_ ?_ _) | (with_reducible refine Below.drew ?_) | (with_reducible refine below_drewN ?_ _) | (with_reducible refine Below.setCell ?_ ?_ _) | (with_reducible refine Below.trans ?_ (Below.mono (by with_reducible assumption) ?_)) | (with_reducible exact Below.size (by with_reducible assumption)) | go_size))
    go_wp2_with fail
    refine (HS.out _ hw1).mono ?_; rintro e w2 ⟨v, rfl, ⟨gv, cv, rfl, _, _, _⟩, hb2⟩
    go_wp2_with fail
    go_ret2
    exact ⟨rfl, hw1.trans (hb2.mono hw1.size)⟩
set_option maxHeartbeats 4000000 in
theorem law_FnExactStepsByRule (m q : Value) (M : List (List Int)) (Q : List Int) (r : Int) (w : World) (hG : Tab8 w) (h1 : PM.Rows w m M) (h2 : Ints w q Q) :
    Calls Tryd.prog 9 #[.agg #[m, q], .int .i64 r] w fun e w' => e = .returned (.bool true) ∧ Below w.heap.size w w' := by
  have g1 := fun (w' : World) (h : Below w.heap.size w w') => h1.below h
  have gl := fun (w' : World) (h : Below w.heap.size w w') => hG.below h
  clear hG
  have g2 := fun (w' : World) (h : Below w.heap.size w w') => h2.below h
  have I1 := Lib.hid (rows_I64 h1)
  have I2 := Lib.hid (ints_I64 h2)
  obtain ⟨a1, c1, rfl, _⟩ := h1
  obtain ⟨a2, c2, rfl, _⟩ := h2
  by_cases hz : szP M Q 1048576 < 0
  · have e1 := szP_neg hz
    have E1 := Lib.hid e1
    clear hz e1
    go_enter Tryd.func9, Tryd.ntmps9
    go_wp2_with fail
    refine (szProblem_any _ _ M Q _ (g1 _ (by (repeat' (first | (with_reducible exact Below.refl _ _) | (with_reducible assumption) | (with_reducible refine Below.alloc ?_ ?_ _) | (with_reducible refine Below.drew ?_) | (with_reducible refine below_drewN ?_ _) | (with_reducible refine Below.setCell ?_ ?_ _) | (with_reducible refine Below.trans ?_ (Below.mono (by with_reducible assumption) ?_)) | (with_reducible exact Below.size (by with_reducible assumption)) | go_size)))) (g2 _ (by (repeat' (first | (with_reducible exact Below.refl _ _) | (with_reducible assumption) | (with_reducible refine Below.alloc ?_ ?_ _) | (with_reducible refine Below.drew ?_) | (with_reducible refine below_drewN ?_ _) | (with_reducible refine Below.setCell ?_ ?_ _) | (with_reducible refine Below.trans ?_ (Below.mono (by with_reducible assumption) ?_)) | (with_reducible exact Below.size (by with_reducible assumption)) | go_size))))).mono ?_; rw [E1.out]; rintro e w1 ⟨rfl, hb1⟩; obtain ⟨hc_hb1, hf_hb1⟩ := bcell hb1; obtain ⟨hcA_hb1, hfA_hb1⟩ := bcellG (W0 := w) hb1 (by (repeat' (first | (with_reducible exact Below.refl _ _) | (with_reducible assumption) | (with_reducible refine Below.alloc ?_ ?_ _) | (with_reducible refine Below.drew ?_) | (with_reducible refine below_drewN ?_ _) | (with_reducible refine Below.setCell ?_ ?_ _) | (with_reducible refine Below.trans ?_ (Below.mono (by with_reducible assumption) ?_)) | (with_reducible exact Below.size (by with_reducible assumption)) | go_size))); have hz_hb1 := hb1.size; (try simp at hz_hb1); (try simp only [Nat.add_one_le_iff] at hz_hb1); have hz0_hb1 : w.heap.size < w1.heap.size := (by omega)
    go_wp2_with fail
    go_ret
    refine ⟨rfl, ?_⟩
    (repeat' (first | (with_reducible exact Below.refl _ _) | (with_reducible assumption) | (with_reducible refine Below.alloc ?_ ?_ _) | (with_reducible refine Below.drew ?_) | (with_reducible refine below_drewN ?_ _) | (with_reducible refine Below.setCell ?_ ?_ _) | (with_reducible refine Below.trans ?_ (Below.mono (by with_reducible assumption) ?_)) | (with_reducible exact Below.size (by with_reducible assumption)) | go_size))
  obtain ⟨hn1, hn2⟩ := szP_fits hz
  have hle := szP_le M Q
  have HN1 := Lib.hid hn1
  have HN2 := Lib.hid hn2
  clear hn1 hn2
  have hspec := fun (m q : Value) (w : World) (h1 : PM.Rows w m M) (h2 : Ints w q Q) => specStepsByRule_any m q M Q r w h1 h2
  have himpl := fun (m q : Value) (w : World) (hg : Tab8 w) (h1 : PM.Rows w m M) (h2 : Ints w q Q) => implStepsByRule_any m q M Q r w hg h1 h2
  generalize stOut M Q r = o at *
  obtain ⟨O, code⟩ := o
  have HS := Lib.hid hspec
  have HI := Lib.hid himpl
  clear hspec himpl
  go_enter Tryd.func9, Tryd.ntmps9
  go_wp2_with fail
  refine (szProblem_any _ _ M Q _ (g1 _ (by (repeat' (first | (with_reducible exact Below.refl _ _) | (with_reducible assumption) | (with_reducible refine Below.alloc ?_ ?_ _) | (with_reducible refine Below.drew ?_) | (with_reducible refine below_drewN ?_ _) | (with_reducible refine Below.setCell ?_ ?_ _) | (with_reducible refine Below.trans ?_ (Below.mono (by with_reducible assumption) ?_)) | (with_reducible exact Below.size (by with_reducible assumption)) | go_size)))) (g2 _ (by (repeat' (first | (with_reducible exact Below.refl _ _) | (with_reducible assumption) | (with_reducible refine Below.alloc ?_ ?_ _) | (with_reducible refine Below.drew ?_) | (with_reducible refine below_drewN ?_ _) | (with_reducible refine Below.setCell ?_ ?_ _) | (with_reducible refine Below.trans ?_ (Below.mono (by with_reducible assumption) ?_)) | (with_reducible exact Below.size (by with_reducible assumption)) | go_size))))).mono ?_; rintro e w1 ⟨rfl, hb1⟩; obtain ⟨hc_hb1, hf_hb1⟩ := bcell hb1; obtain ⟨hcA_hb1, hfA_hb1⟩ := bcellG (W0 := w) hb1 (by (repeat' (first | (with_reducible exact Below.refl _ _) | (with_reducible assumption) | (with_reducible refine Below.alloc ?_ ?_ _) | (with_reducible refine Below.drew ?_) | (with_reducible refine below_drewN ?_ _) | (with_reducible refine Below.setCell ?_ ?_ _) | (with_reducible refine Below.trans ?_ (Below.mono (by with_reducible assumption) ?_)) | (with_reducible exact Below.size (by with_reducible assumption)) | go_size))); have hz_hb1 := hb1.size; (try simp at hz_hb1); (try simp only [Nat.add_one_le_iff] at hz_hb1); have hz0_hb1 : w.heap.size < w1.heap.size := (by omega)
  generalize szP M Q 1048576 = left at *
  have hw1 : Below w.heap.size w w1 := by (repeat' (first | (with_reducible exact Below.refl _ _) | (with_reducible assumption) | (with_reducible refine Below.alloc ?_ ?_ _) | (with_reducible refine Below.drew ?_) | (with_reducible refine below_drewN ?_ _) | (with_reducible refine Below.setCell ?_ ?_ _) | (with_reducible refine Below.trans ?_ (Below.mono (by with_reducible assumption) ?_)) | (with_reducible exact Below.size (by with_reducible assumption)) | go_size))
  go_wp2_with fail
  refine (toProblem_out _ _ M Q _ (g1 _ (by (repeat' (first | (with_reducible exact Below.refl _ _) | (with_reducible assumption) | (with_reducible refine Below.alloc ?_ ?_ _) | (with_reducible refine Below.drew ?_) | (with_reducible refine below_drewN ?_ _) | (with_reducible refine Below.setCell ?_ ?_ _) | (with_reducible refine Below.trans ?_ (Below.mono (by with_reducible assumption) ?_)) | (with_reducible exact Below.size (by with_reducible assumption)) | go_size)))) (g2 _ (by (repeat' (first | (with_reducible exact Below.refl _ _) | (with_reducible assumption) | (with_reducible refine Below.alloc ?_ ?_ _) | (with_reducible refine Below.drew ?_) | (with_reducible refine below_drewN ?_ _) | (with_reducible refine Below.setCell ?_ ?_ _) | (with_reducible refine Below.trans ?_ (Below.mono (by with_reducible assumption) ?_)) | (with_reducible exact Below.size (by with_reducible assumption)) | go_size)))) HN1.out HN2.out).mono ?_; rintro e w2 ⟨gA, gB, us2, rfl, hr2, hb2⟩; obtain ⟨hc_hb2, hf_hb2⟩ := bcell hb2; obtain ⟨hcA_hb2, hfA_hb2⟩ := bcellG (W0 := w1) hb2 (by (repeat' (first | (with_reducible exact Below.refl _ _) | (with_reducible assumption) | (with_reducible refine Below.alloc ?_ ?_ _) | (with_reducible refine Below.drew ?_) | (with_reducible refine below_drewN ?_ _) | (with_reducible refine Below.setCell ?_ ?_ _) | (with_reducible refine Below.trans ?_ (Below.mono (by with_reducible assumption) ?_)) | (with_reducible exact Below.size (by with_reducible assumption)) | go_size))); have hz_hb2 := hb2.size; (try simp at hz_hb2); (try simp only [Nat.add_one_le_iff] at hz_hb2); have hz0_hb2 : w.heap.size < w2.heap.size := (by omega)
  have R2 := Lib.hid (hr2.reads I1.out I2.out)
  clear hr2
  have hw2 : Below w.heap.size w w2 := hw1.trans (hb2.mono hw1.size)
  go_wp2_with fail
  refine (HS.out _ _ _ R2.out.1 R2.out.2).mono ?_; rintro e w3 ⟨rfl, hb3⟩; dsimp only; obtain ⟨hc_hb3, hf_hb3⟩ := bcell hb3; obtain ⟨hcA_hb3, hfA_hb3⟩ := bcellG (W0 := w2) hb3 (by (repeat' (first | (with_reducible exact Below.refl _ _) | (with_reducible assumption) | (with_reducible refine Below.alloc ?_ ?_ _) | (with_reducible refine Below.drew ?_) | (with_reducible refine below_drewN ?_ _) | (with_reducible refine Below.setCell ?_ ?_ _) | (with_reducible refine Below.trans ?_ (Below.mono (by with_reducible assumption) ?_)) | (with_reducible exact Below.size (by with_reducible assumption)) | go_size))); have hz_hb3 := hb3.size; (try simp at hz_hb3); (try simp only [Nat.add_one_le_iff] at hz_hb3); have hz0_hb3 : w.heap.size < w3.heap.size := (by omega)
  clear R2
  have hw3 : Below w.heap.size w w3 := hw2.trans (hb3.mono hw2.size)
  go_wp2_with fail
  refine (toProblem_out _ _ M Q _ (g1 _ (by (repeat' (first | (with_reducible exact Below.refl _ _) | (with_reducible assumption) | (with_reducible refine Below.alloc ?_ ?_ _) | (with_reducible refine Below.drew ?_) | (with_reducible refine below_drewN ?_ _) | (with_reducible refine Below.setCell ?_ ?_ _) | (with_reducible refine Below.trans ?_ (Below.mono (by with_reducible assumption) ?_)) | (with_reducible exact Below.size (by with_reducible assumption)) | go_size)))) (g2 _ (by (repeat' (first | (with_reducible exact Below.refl _ _) | (with_reducible assumption) | (with_reducible refine Below.alloc ?_ ?_ _) | (with_reducible refine Below.drew ?_) | (with_reducible refine below_drewN ?_ _) | (with_reducible refine Below.setCell ?_ ?_ _) | (with_reducible refine Below.trans ?_ (Below.mono (by with_reducible assumption) ?_)) | (with_reducible exact Below.size (by with_reducible assumption)) | go_size)))) HN1.out HN2.out).mono ?_; rintro e w4 ⟨gC, gD, us4, rfl, hr4, hb4⟩; obtain ⟨hc_hb4, hf_hb4⟩ := bcell hb4; obtain ⟨hcA_hb4, hfA_hb4⟩ := bcellG (W0 := w3) hb4 (by (repeat' (first | (with_reducible exact Below.refl _ _) | (with_reducible assumption) | (with_reducible refine Below.alloc ?_ ?_ _) | (with_reducible refine Below.drew ?_) | (with_reducible refine below_drewN ?_ _) | (with_reducible refine Below.setCell ?_ ?_ _) | (with_reducible refine Below.trans ?_ (Below.mono (by with_reducible assumption) ?_)) | (with_reducible exact Below.size (by with_reducible assumption)) | go_size))); have hz_hb4 := hb4.size; (try simp at hz_hb4); (try simp only [Nat.add_one_le_iff] at hz_hb4); have hz0_hb4 : w.heap.size < w4.heap.size := (by omega)
  have HR4 := Lib.hid hr4
  clear hr4
  have hw4 : Below w.heap.size w w4 := hw3.trans (hb4.mono hw3.size)
  go_wp2_with fail
  have hr4a := HR4.out.below (w' := w4.alloc (.cells #[.slice (some ⟨gC, 0, none⟩) M.length M.length, .slice (some ⟨gD, 0, none⟩) Q.length Q.length] 29)) (B := w4.heap.size) ((Below.refl _ _).alloc (Nat.le_refl _) _) (Nat.le_refl _)
  have R4 := Lib.hid (hr4a.reads I1.out I2.out)
  clear hr4a
  refine (HI.out _ _ _ (gl _ (by (repeat' (first | (with_reducible exact Below.refl _ _) | (with_reducible assumption) | (with_reducible refine Below.alloc ?_ ?_ _) | (with_reducible refine Below.drew ?_) | (with_reducible refine below_drewN ?_ _) | (with_reducible refine Below.setCell ?_ ?_ _) | (with_reducible refine Below.trans ?_ (Below.mono (by with_reducible assumption) ?_)) | (with_reducible exact Below.size (by with_reducible assumption)) | go_size)))) R4.out.1 R4.out.2).mono ?_; rintro e w5 ⟨rfl, hb5⟩; dsimp only; obtain ⟨hc_hb5, hf_hb5⟩ := bcell hb5; obtain ⟨hcA_hb5, hfA_hb5⟩ := bcellG (W0 := w4) hb5 (by (repeat' (first | (with_reducible exact Below.refl _ _) | (with_reducible assumption) | (with_reducible refine Below.alloc ?_ ?_ _) | (with_reducible refine Below.drew ?_) | (with_reducible refine below_drewN ?_ _) | (with_reducible refine Below.setCell ?_ ?_ _) | (with_reducible refine Below.trans ?_ (Below.mono (by with_reducible assumption) ?_)) | (with_reducible exact Below.size (by with_reducible assumption)) | go_size))); have hz_hb5 := hb5.size; (try simp at hz_hb5); (try simp only [Nat.add_one_le_iff] at hz_hb5); have hz0_hb5 : w.heap.size < w5.heap.size := (by omega)
  have hz45 : w4.heap.size < w5.heap.size := by omega
  clear R4
  have hw45 : Below w4.heap.size w4 w5 := ((Below.refl w4.heap.size w4).alloc (Nat.le_refl _) _).trans (hb5.mono (by simp))
  have x50 : w5.cell? ⟨w4.heap.size, 0, none⟩ = some (.slice (some ⟨gC, 0, none⟩) M.length M.length) := by rw [hc_hb5 _ _ (by simp)]; simp
  have x51 : w5.cell? ⟨w4.heap.size, 1, none⟩ = some (.slice (some ⟨gD, 0, none⟩) Q.length Q.length) := by rw [hc_hb5 _ _ (by simp)]; simp
  have hw13 : Below w1.heap.size w1 w3 := hb2.trans (hb3.mono hb2.size)
  have hw35 : Below w3.heap.size w3 w5 := hb4.trans (hw45.mono hb4.size)
  have hw15 : Below w1.heap.size w1 w5 := hw13.trans (hw35.mono hw13.size)
  have hw5 : Below w.heap.size w w5 := hw3.trans (hw35.mono hw3.size)
  have p10 : w1.cell? ⟨w.heap.size, 0, none⟩ = some (.slice a1 M.length c1) := by rw [hc_hb1 _ _ (by simp)]; simp
  have p11 : w1.cell? ⟨w.heap.size, 1, none⟩ = some (.slice a2 Q.length c2) := by rw [hc_hb1 _ _ (by simp)]; simp
  have hvq : Vq w5 w.heap.size w4.heap.size (.slice a1 M.length c1) (.slice a2 Q.length c2) (.slice (some ⟨gC, 0, none⟩) M.length M.length) (.slice (some ⟨gD, 0, none⟩) Q.length Q.length) :=
    ⟨(hw15.cell (p := ⟨w.heap.size, 0, none⟩) hz0_hb1).trans p10, (hw15.cell (p := ⟨w.heap.size, 1, none⟩) hz0_hb1).trans p11, x50, x51, by omega, hz45⟩
  have hX5 := HR4.out.below hw45 (Nat.le_refl _)
  obtain ⟨P, hP⟩ : ∃ P, P = w.heap.size := ⟨_, rfl⟩
  obtain ⟨A1, hA1⟩ : ∃ A1, A1 = w3.heap.size := ⟨_, rfl⟩
  obtain ⟨V, hV⟩ : ∃ V, V = w4.heap.size := ⟨_, rfl⟩
  rw [← hP] at hvq
  rw [← hA1] at hX5
  rw [← hV] at hX5 hvq hz45
  rw [← hP, ← hV]
  clear hP hA1 hV hw13 hw15 hw35 hw45 p10 p11 x50 x51 HR4 hw1 hw2 hw3 hw4 HS
  clear hc_hb1 hf_hb1 hcA_hb1 hfA_hb1 hz_hb1 hz0_hb1 hb1 hc_hb2 hf_hb2 hcA_hb2 hfA_hb2 hz_hb2 hz0_hb2 hb2 hc_hb3 hf_hb3 hcA_hb3 hfA_hb3 hz_hb3 hz0_hb3 hb3 hc_hb4 hf_hb4 hcA_hb4 hfA_hb4 hz_hb4 hz0_hb4 hb4 hc_hb5 hf_hb5 hcA_hb5 hfA_hb5 hz_hb5 hz0_hb5 hb5
  have RX := Lib.hid (hX5.reads I1.out I2.out)
  obtain ⟨k1, k2, k3, k4, l1, l2⟩ := hvq
  have r1 : ∀ w', Below w5.heap.size w5 w' → w'.cell? ⟨P, 0, none⟩ = some (.slice a1 M.length c1) := fun w' h => (h.cell (p := ⟨P, 0, none⟩) (by show P < _; omega)).trans k1
  have r2 : ∀ w', Below w5.heap.size w5 w' → w'.cell? ⟨P, 1, none⟩ = some (.slice a2 Q.length c2) := fun w' h => (h.cell (p := ⟨P, 1, none⟩) (by show P < _; omega)).trans k2
  have r3 : ∀ w', Below w5.heap.size w5 w' → w'.cell? ⟨V, 0, none⟩ = some (.slice (some ⟨gC, 0, none⟩) M.length M.length) := fun w' h => (h.cell (p := ⟨V, 0, none⟩) (by show V < _; omega)).trans k3
  have r4 : ∀ w', Below w5.heap.size w5 w' → w'.cell? ⟨V, 1, none⟩ = some (.slice (some ⟨gD, 0, none⟩) Q.length Q.length) := fun w' h => (h.cell (p := ⟨V, 1, none⟩) (by show V < _; omega)).trans k4
  clear hX5 k1 k2 k3 k4 hz45
  go_wp2_with fail
  go_region_held3 (fun w' => Below w5.heap.size w5 w') ((repeat' (first | (with_reducible exact Below.refl _ _) | (with_reducible assumption) | (with_reducible refine Below.alloc ?_ ?_ _) | (with_reducible refine Below.drew ?_) | (with_reducible refine below_drewN ?_ _) | (with_reducible refine Below.setCell ?_ ?_ _) | (with_reducible refine Below.trans ?_ (Below.mono (by with_reducible assumption) ?_)) | (with_reducible exact Below.size (by with_reducible assumption)) | go_size)))
    (first | (go_at_call 15; refine (toProblem_out _ _ M Q _ (g1 _ (hw5.trans (Below.mono (by assumption) hw5.size))) (g2 _ (hw5.trans (Below.mono (by assumption) hw5.size))) HN1.out HN2.out).mono ?_; rintro e w8 ⟨gE, gF, us8, rfl, hr8, hb8⟩; have hS8 : Below w5.heap.size w5 w8 := (by (repeat' (first | (with_reducible exact Below.refl _ _) | (with_reducible assumption) | (with_reducible refine Below.alloc ?_ ?_ _) | (with_reducible refine Below.drew ?_) | (with_reducible refine below_drewN ?_ _) | (with_reducible refine Below.setCell ?_ ?_ _) | (with_reducible refine Below.trans ?_ (Below.mono (by with_reducible assumption) ?_)) | (with_reducible exact Below.size (by with_reducible assumption)) | go_size))); have R8 := Lib.hid (hr8.reads I1.out I2.out); clear hr8) | (go_at_call 17; refine (eqProblem_same _ _ _ _ M Q _ (RX.out.1.below hS8) (RX.out.2.below hS8) R8.out.1 R8.out.2).mono ?_; rintro e w9 ⟨rfl, hb9⟩; have hS9 : Below w5.heap.size w5 w9 := (by (repeat' (first | (with_reducible exact Below.refl _ _) | (with_reducible assumption) | (with_reducible refine Below.alloc ?_ ?_ _) | (with_reducible refine Below.drew ?_) | (with_reducible refine below_drewN ?_ _) | (with_reducible refine Below.setCell ?_ ?_ _) | (with_reducible refine Below.trans ?_ (Below.mono (by with_reducible assumption) ?_)) | (with_reducible exact Below.size (by with_reducible assumption)) | go_size)))))
  have hw9 : Below w.heap.size w w9 := hw5.trans (hS9.mono hw5.size)
  go_wp2_with fail
  go_ret
  exact ⟨rfl, hw9⟩

def slOut (M : List (List Int)) (Q : List Int) (r : Int) : List (Int × Int) × Int :=
  if ruleCode M Q 0 r ≠ 0 then ([], ruleCode M Q 0 r) else if (runO M Q r 33 [] 0).2 ≠ 0 then ([], 4) else (solL M Q ((runO M Q r 33 [] 0).1.getD ((runO M Q r 33 [] 0).1.length - 1) 0), 0)
theorem slOut_err {M : List (List Int)} {Q : List Int} {r c : Int} (h : ruleCode M Q 0 r = c) (hc : c ≠ 0) : slOut M Q r = ([], c) := by unfold slOut; rw [if_pos (by omega), h]
theorem slOut_no {M : List (List Int)} {Q : List Int} {r : Int} (h : ruleCode M Q 0 r = 0) (he : (runO M Q r 33 [] 0).2 ≠ 0) : slOut M Q r = ([], 4) := by unfold slOut; rw [if_neg (by omega), if_pos he]
theorem slOut_ok {M : List (List Int)} {Q : List Int} {r : Int} (h : ruleCode M Q 0 r = 0) (he : (runO M Q r 33 [] 0).2 = 0) {T : List Int} {t : Int} (ht : (runO M Q r 33 [] 0).1 = T ++ [t]) : slOut M Q r = (solL M Q t, 0) := by
  unfold slOut
  rw [if_neg (by omega), if_neg (by omega), ht]
  simp
theorem solL_length (M : List (List Int)) (Q : List Int) (t : Int) : (solL M Q t).length = M.length := by unfold solL; rw [rowF_length]
theorem fine_sl (M : List (List Int)) (Q : List Int) (r : Int) : FineF (slOut M Q r).1 := by
  obtain ⟨c, hc⟩ : ∃ c, c = ruleCode M Q 0 r := ⟨_, rfl⟩
  by_cases hcz : c ≠ 0
  · rw [slOut_err hc.symm hcz]; exact fineF_nil
  have h : ruleCode M Q 0 r = 0 := by omega
  by_cases he : (runO M Q r 33 [] 0).2 = 0
  · obtain ⟨hp, hs0, hs1, _, _⟩ := rule_facts h
    obtain ⟨T, t, ht, _⟩ := runO_last (r := r) (isPB_facts hp).1 (isPB_facts hp).2.1 33 [] 0 (Met.first hs0 hs1) he
    rw [slOut_ok h he ht]
    refine ⟨?_⟩
    show (solL M Q t).length ≤ _
    rw [solL_length]
    have := (isPB_facts hp).2.1
    omega
  · rw [slOut_no h he]; exact fineF_nil
theorem implSolveByRule_any (m q : Value) (M : List (List Int)) (Q : List Int) (r : Int) (w : World) (hT : Tab8 w) (h1 : PM.Rows w m M) (h2 : Ints w q Q) :
    Calls Tryd.prog 33 #[.agg #[m, q], .int .i64 r] w (OutF w (slOut M Q r)) := by
  have g1 := fun (w' : World) (h : Below w.heap.size w w') => h1.below h
  have g2 := fun (w' : World) (h : Below w.heap.size w w') => h2.below h
  have gt := fun (w' : World) (h : Below w.heap.size w w') => hT.below h
  clear hT
  obtain ⟨a1, c1, rfl, _⟩ := h1
  obtain ⟨a2, c2, rfl, _⟩ := h2
  obtain ⟨c, hc⟩ : ∃ c, c = ruleCode M Q 0 r := ⟨_, rfl⟩
  by_cases hcz : c ≠ 0
  · rw [slOut_err hc.symm hcz]
    have HS := Lib.hid (fun (w' : World) (hb : Below w.heap.size w w') => solvedRun_err _ _ M Q r c w' (g1 _ hb) (g2 _ hb) hc.symm hcz)
    clear hc
    go_enter Tryd.func33, Tryd.ntmps33
    go_wp2_with fail
    refine (HS.out _ (by (repeat' (first | (with_reducible exact Below.refl _ _) | (with_reducible assumption) | (with_reducible refine Below.alloc ?_ ?_ _) | (with_reducible refine Below.drew ?_) | (with_reducible refine below_drewN ?_ _) | (with_reducible refine Below.setCell ?_ ?_ _) | (with_reducible refine Below.trans ?_ (Below.mono (by with_reducible assumption) ?_)) | (with_reducible exact Below.size (by with_reducible assumption)) | go_size)))).mono ?_; rintro e w1 ⟨rfl, hb1⟩; obtain ⟨hc_hb1, hf_hb1⟩ := bcell hb1; obtain ⟨hcA_hb1, hfA_hb1⟩ := bcellG (W0 := w) hb1 (by (repeat' (first | (with_reducible exact Below.refl _ _) | (with_reducible assumption) | (with_reducible refine Below.alloc ?_ ?_ _) | (with_reducible refine Below.drew ?_) | (with_reducible refine below_drewN ?_ _) | (with_reducible refine Below.setCell ?_ ?_ _) | (with_reducible refine Below.trans ?_ (Below.mono (by with_reducible assumption) ?_)) | (with_reducible exact Below.size (by with_reducible assumption)) | go_size))); have hz_hb1 := hb1.size; (try simp at hz_hb1); (try simp only [Nat.add_one_le_iff] at hz_hb1); have hz0_hb1 : w.heap.size < w1.heap.size := (by omega)
    go_wp2_with fail
    go_ret2
    exact outF_nil (by (repeat' (first | (with_reducible exact Below.refl _ _) | (with_reducible assumption) | (with_reducible refine Below.alloc ?_ ?_ _) | (with_reducible refine Below.drew ?_) | (with_reducible refine below_drewN ?_ _) | (with_reducible refine Below.setCell ?_ ?_ _) | (with_reducible refine Below.trans ?_ (Below.mono (by with_reducible assumption) ?_)) | (with_reducible exact Below.size (by with_reducible assumption)) | go_size)))
  have h : ruleCode M Q 0 r = 0 := by omega
  clear hc hcz
  by_cases he : (runO M Q r 33 [] 0).2 = 0
  · have HS := Lib.hid (fun (w' : World) (hb : Below w.heap.size w w') => solvedRun_ok _ _ M Q r w' (gt _ hb) (g1 _ hb) (g2 _ hb) h he)
    have HO := Lib.hid (fun (T : List Int) (t : Int) (ht : (runO M Q r 33 [] 0).1 = T ++ [t]) => slOut_ok h he ht)
    have HE := Lib.hid he
    generalize slOut M Q r = R at *
    generalize runO M Q r 33 [] 0 = O at *
    clear h he
    go_enter Tryd.func33, Tryd.ntmps33
    go_wp2_with fail
    refine (HS.out _ (by (repeat' (first | (with_reducible exact Below.refl _ _) | (with_reducible assumption) | (with_reducible refine Below.alloc ?_ ?_ _) | (with_reducible refine Below.drew ?_) | (with_reducible refine below_drewN ?_ _) | (with_reducible refine Below.setCell ?_ ?_ _) | (with_reducible refine Below.trans ?_ (Below.mono (by with_reducible assumption) ?_)) | (with_reducible exact Below.size (by with_reducible assumption)) | go_size)))).mono ?_; rintro e w1 ⟨va, vc, za, zn, zc, rfl, hres, hb1⟩; obtain ⟨hc_hb1, hf_hb1⟩ := bcell hb1; obtain ⟨hcA_hb1, hfA_hb1⟩ := bcellG (W0 := w) hb1 (by (repeat' (first | (with_reducible exact Below.refl _ _) | (with_reducible assumption) | (with_reducible refine Below.alloc ?_ ?_ _) | (with_reducible refine Below.drew ?_) | (with_reducible refine below_drewN ?_ _) | (with_reducible refine Below.setCell ?_ ?_ _) | (with_reducible refine Below.trans ?_ (Below.mono (by with_reducible assumption) ?_)) | (with_reducible exact Below.size (by with_reducible assumption)) | go_size))); have hz_hb1 := hb1.size; (try simp at hz_hb1); (try simp only [Nat.add_one_le_iff] at hz_hb1); have hz0_hb1 : w.heap.size < w1.heap.size := (by omega)
    have HRES := Lib.hid hres
    clear hres
    go_wp2_with fail
    go_ret2
    obtain ⟨T, t, ht, _, _, _, _, hz⟩ := HRES.out.sol HE.out
    rw [HO.out T t ht]
    refine ⟨_, rfl, ?_, by (repeat' (first | (with_reducible exact Below.refl _ _) | (with_reducible assumption) | (with_reducible refine Below.alloc ?_ ?_ _) | (with_reducible refine Below.drew ?_) | (with_reducible refine below_drewN ?_ _) | (with_reducible refine Below.setCell ?_ ?_ _) | (with_reducible refine Below.trans ?_ (Below.mono (by with_reducible assumption) ?_)) | (with_reducible exact Below.size (by with_reducible assumption)) | go_size))⟩
    have hk := rngF_below (B := w1.heap.size) hz ((Below.refl _ _).alloc (Nat.le_refl _) (.cells #[.slice va O.1.length vc, .int .i64 0, .slice za zn zc] 96)) (Nat.le_refl _)
    exact ⟨hk.own, fun b hb => by have h := hk.at_ b hb; simp at h ⊢; omega⟩
  · rw [slOut_no h he]
    have HS := Lib.hid (fun (w' : World) (hb : Below w.heap.size w w') => solvedRun_no _ _ M Q r w' (gt _ hb) (g1 _ hb) (g2 _ hb) h he)
    clear h he
    go_enter Tryd.func33, Tryd.ntmps33
    go_wp2_with fail
    refine (HS.out _ (by (repeat' (first | (with_reducible exact Below.refl _ _) | (with_reducible assumption) | (with_reducible refine Below.alloc ?_ ?_ _) | (with_reducible refine Below.drew ?_) | (with_reducible refine below_drewN ?_ _) | (with_reducible refine Below.setCell ?_ ?_ _) | (with_reducible refine Below.trans ?_ (Below.mono (by with_reducible assumption) ?_)) | (with_reducible exact Below.size (by with_reducible assumption)) | go_size)))).mono ?_; rintro e w1 ⟨rfl, hb1⟩; obtain ⟨hc_hb1, hf_hb1⟩ := bcell hb1; obtain ⟨hcA_hb1, hfA_hb1⟩ := bcellG (W0 := w) hb1 (by (repeat' (first | (with_reducible exact Below.refl _ _) | (with_reducible assumption) | (with_reducible refine Below.alloc ?_ ?_ _) | (with_reducible refine Below.drew ?_) | (with_reducible refine below_drewN ?_ _) | (with_reducible refine Below.setCell ?_ ?_ _) | (with_reducible refine Below.trans ?_ (Below.mono (by with_reducible assumption) ?_)) | (with_reducible exact Below.size (by with_reducible assumption)) | go_size))); have hz_hb1 := hb1.size; (try simp at hz_hb1); (try simp only [Nat.add_one_le_iff] at hz_hb1); have hz0_hb1 : w.heap.size < w1.heap.size := (by omega)
    go_wp2_with fail
    go_ret2
    exact outF_nil (by (repeat' (first | (with_reducible exact Below.refl _ _) | (with_reducible assumption) | (with_reducible refine Below.alloc ?_ ?_ _) | (with_reducible refine Below.drew ?_) | (with_reducible refine below_drewN ?_ _) | (with_reducible refine Below.setCell ?_ ?_ _) | (with_reducible refine Below.trans ?_ (Below.mono (by with_reducible assumption) ?_)) | (with_reducible exact Below.size (by with_reducible assumption)) | go_size)))
theorem l08Told_any (g c : Nat) (xs : List (Int × Int)) (w : World) (hv : OwnF w (.slice (some ⟨g, 0, none⟩) xs.length c) xs) (hm : xs.length ≤ 1048576) (hi : ∀ j, j < xs.length → FM.isF (xs.getD j (0, 0)).1 (xs.getD j (0, 0)).2 = true) :
    Calls Tryd.prog 86 #[.slice (some ⟨g, 0, none⟩) xs.length c] w fun e w' => e = .returned (.tuple #[.slice (some ⟨g, 0, none⟩) xs.length c, .int .i64 0]) ∧ w = w' := by
  have HV := Lib.hid hv
  have HI := Lib.hid hi
  clear hv hi
  go_enter Tryd.func86, Tryd.ntmps86
  go_wp2_with fail
  go_loop [4] (fun i => ∃ k : Nat, k ≤ xs.length ∧ i = .int .i64 k) (fun i => xs.length - (intOf i).toNat)
  case atStart => exact ⟨0, Nat.zero_le _, rfl⟩
  case round =>
    obtain ⟨k, hk, rfl⟩ := hrel
    by_cases hlt3 : k < xs.length
    · have c0 := HV.out.cell0 rfl hlt3
      have c1 := HV.out.cell1 rfl hlt3
      have hf := HI.out k hlt3
      generalize (xs.getD k (0, 0)).1 = x at *
      generalize (xs.getD k (0, 0)).2 = y at *
      obtain ⟨b1, b2, b3, b4, _⟩ := of_decide_eq_true hf
      have HL := Lib.hid (show decide ((-1000000000 : Int) ≤ x ∧ x ≤ 1000000000) = true from decide_eq_true (by omega))
      clear hf
      go_wp2_with fail
      refine (l01In_is x (-1000000000) 1000000000 true _ HL.out).mono ?_; rintro e w2 ⟨rfl, rfl⟩
      go_wp2_with fail
      go_round
      case rel => exact ⟨k + 1, by omega, by go_num⟩
      case measure => simp [intOf]; omega
    · obtain rfl : k = xs.length := by omega
      go_wp2_with fail
      go_ret2
      exact ⟨rfl, rfl⟩
set_option maxHeartbeats 2000000 in
theorem specSolveByRule_any (m q : Value) (M : List (List Int)) (Q : List Int) (r : Int) (w : World) (h1 : PM.Rows w m M) (h2 : Ints w q Q) :
    Calls Tryd.prog 32 #[.agg #[m, q], .int .i64 r] w (OutF w (slOut M Q r)) := by
  have g1 := fun (w' : World) (h : Below w.heap.size w w') => h1.below h
  have g2 := fun (w' : World) (h : Below w.heap.size w w') => h2.below h
  obtain ⟨a1, c1, rfl, _⟩ := h1
  obtain ⟨a2, c2, rfl, _⟩ := h2
  obtain ⟨c, hc⟩ : ∃ c, c = ruleCode M Q 0 r := ⟨_, rfl⟩
  have HC := Lib.hid hc
  by_cases hcz : c ≠ 0
  · rw [slOut_err hc.symm hcz]
    clear hc
    go_enter Tryd.func32, Tryd.ntmps32
    go_wp2_with fail
    refine (l08Code_any _ _ M Q 0 r _ (g1 _ (by (repeat' (first | (with_reducible exact Below.refl _ _) | (with_reducible assumption) | (with_reducible refine Below.alloc ?_ ?_ _) | (with_reducible refine Below.drew ?_) | (with_reducible refine below_drewN ?_ _) | (with_reducible refine Below.setCell ?_ ?_ _) | (with_reducible refine Below.trans ?_ (Below.mono (by with_reducible assumption) ?_)) | (with_reducible exact Below.size (by with_reducible assumption)) | go_size)))) (g2 _ (by (repeat' (first | (with_reducible exact Below.refl _ _) | (with_reducible assumption) | (with_reducible refine Below.alloc ?_ ?_ _) | (with_reducible refine Below.drew ?_) | (with_reducible refine below_drewN ?_ _) | (with_reducible refine Below.setCell ?_ ?_ _) | (with_reducible refine Below.trans ?_ (Below.mono (by with_reducible assumption) ?_)) | (with_reducible exact Below.size (by with_reducible assumption)) | go_size))))).mono ?_; rw [← HC.out]; rintro e w1 ⟨rfl, hb1⟩; obtain ⟨hc_hb1, hf_hb1⟩ := bcell hb1; obtain ⟨hcA_hb1, hfA_hb1⟩ := bcellG (W0 := w) hb1 (by (repeat' (first | (with_reducible exact Below.refl _ _) | (with_reducible assumption) | (with_reducible refine Below.alloc ?_ ?_ _) | (with_reducible refine Below.drew ?_) | (with_reducible refine below_drewN ?_ _) | (with_reducible refine Below.setCell ?_ ?_ _) | (with_reducible refine Below.trans ?_ (Below.mono (by with_reducible assumption) ?_)) | (with_reducible exact Below.size (by with_reducible assumption)) | go_size))); have hz_hb1 := hb1.size; (try simp at hz_hb1); (try simp only [Nat.add_one_le_iff] at hz_hb1); have hz0_hb1 : w.heap.size < w1.heap.size := (by omega)
    go_wp2_with fail
    go_ret2
    exact outF_nil (by (repeat' (first | (with_reducible exact Below.refl _ _) | (with_reducible assumption) | (with_reducible refine Below.alloc ?_ ?_ _) | (with_reducible refine Below.drew ?_) | (with_reducible refine below_drewN ?_ _) | (with_reducible refine Below.setCell ?_ ?_ _) | (with_reducible refine Below.trans ?_ (Below.mono (by with_reducible assumption) ?_)) | (with_reducible exact Below.size (by with_reducible assumption)) | go_size)))
  have h : ruleCode M Q 0 r = 0 := by omega
  have HC0 := Lib.hid h
  clear hc hcz HC
  obtain ⟨hp, hs0, hs1, hr0, hr1⟩ := rule_facts h
  have HS := Lib.hid (fun (w' : World) (hb : Below w.heap.size w w') => l08Run_any _ _ M Q 0 r w' (g1 _ hb) (g2 _ hb) hp hs0 hs1 hr0 hr1)
  by_cases he : (runO M Q r 33 [] 0).2 = 0
  case neg =>
    rw [slOut_no h he]
    generalize runO M Q r 33 [] 0 = O at *
    have HNE := Lib.hid he
    generalize O.2 = oe at *
    clear h hp hs0 hs1
    go_enter Tryd.func32, Tryd.ntmps32
    go_wp2_with fail
    refine (l08Code_any _ _ M Q 0 r _ (g1 _ (by (repeat' (first | (with_reducible exact Below.refl _ _) | (with_reducible assumption) | (with_reducible refine Below.alloc ?_ ?_ _) | (with_reducible refine Below.drew ?_) | (with_reducible refine below_drewN ?_ _) | (with_reducible refine Below.setCell ?_ ?_ _) | (with_reducible refine Below.trans ?_ (Below.mono (by with_reducible assumption) ?_)) | (with_reducible exact Below.size (by with_reducible assumption)) | go_size)))) (g2 _ (by (repeat' (first | (with_reducible exact Below.refl _ _) | (with_reducible assumption) | (with_reducible refine Below.alloc ?_ ?_ _) | (with_reducible refine Below.drew ?_) | (with_reducible refine below_drewN ?_ _) | (with_reducible refine Below.setCell ?_ ?_ _) | (with_reducible refine Below.trans ?_ (Below.mono (by with_reducible assumption) ?_)) | (with_reducible exact Below.size (by with_reducible assumption)) | go_size))))).mono ?_; rw [HC0.out]; rintro e w1 ⟨rfl, hb1⟩; obtain ⟨hc_hb1, hf_hb1⟩ := bcell hb1; obtain ⟨hcA_hb1, hfA_hb1⟩ := bcellG (W0 := w) hb1 (by (repeat' (first | (with_reducible exact Below.refl _ _) | (with_reducible assumption) | (with_reducible refine Below.alloc ?_ ?_ _) | (with_reducible refine Below.drew ?_) | (with_reducible refine below_drewN ?_ _) | (with_reducible refine Below.setCell ?_ ?_ _) | (with_reducible refine Below.trans ?_ (Below.mono (by with_reducible assumption) ?_)) | (with_reducible exact Below.size (by with_reducible assumption)) | go_size))); have hz_hb1 := hb1.size; (try simp at hz_hb1); (try simp only [Nat.add_one_le_iff] at hz_hb1); have hz0_hb1 : w.heap.size < w1.heap.size := (by omega)
    have hw1 : Below w.heap.size w w1 := by (repeat' (first | (with_reducible exact Below.refl _ _) | (with_reducible assumption) | (with_reducible refine Below.alloc ?_ ?_ _) | (with_reducible refine Below.drew ?_) | (with_reducible refine below_drewN ?_ _) | (with_reducible refine Below.setCell ?_ ?_ _) | (with_reducible refine Below.trans ?_ (Below.mono (by with_reducible assumption) ?_)) | (with_reducible exact Below.size (by with_reducible assumption)) | go_size))
    go_wp2_with fail
    refine (HS.out _ hw1).mono ?_; rintro e w2 ⟨v, rfl, ⟨gv, cv, rfl, _, _, _⟩, hb2⟩
    go_wp2_with fail
    go_ret2
    exact outF_nil (hw1.trans (hb2.mono hw1.size))
  obtain ⟨k1, k2, _⟩ := runO_facts (r := r) (isPB_facts hp).1 (isPB_facts hp).2.1 33 [] 0 (Met.first hs0 hs1)
  obtain ⟨T, s, ht, hz0, hz1, hD, hnn⟩ := runO_last (r := r) (isPB_facts hp).1 (isPB_facts hp).2.1 33 [] 0 (Met.first hs0 hs1) he
  rw [slOut_ok h he ht]
  have hs32 := set_small hp hz1
  have HPZ := Lib.hid (fun (w' : World) (hb : Below w.heap.size w w') => l01Point_ok _ _ M Q s w' (g1 _ hb) (g2 _ hb) hp hD)
  have HBC := Lib.hid (fun k => bit_cases hz0 hs32 k)
  have HTD : Hid (∀ (g c : Nat) (w' : World), OwnF w' (.slice (some ⟨g, 0, none⟩) M.length c) (solL M Q s) → Calls Tryd.prog 86 #[.slice (some ⟨g, 0, none⟩) M.length c] w' fun e w'' => e = .returned (.tuple #[.slice (some ⟨g, 0, none⟩) M.length c, .int .i64 0]) ∧ w' = w'') := by
    show ∀ (g c : Nat) (w' : World), _ → _
    intro g c w' hv
    have hl := solL_length M Q s
    have f2 := (isPB_facts hp).2.1
    have := l08Told_any g c (solL M Q s) w' (by rw [hl]; exact hv) (by rw [hl]; omega) (fun j hj => sol_isF hp hD j (by rw [← hl]; exact hj))
    rw [hl] at this
    exact this
  have f2 := (isPB_facts hp).2.1
  rw [he, ht] at HS
  rw [ht] at k1
  have hTL : T.length ≤ 32 := by simp at k1; omega
  clear h he hp hs0 hs1 ht k1 k2 hD hnn hz0 hz1 hs32
  go_enter Tryd.func32, Tryd.ntmps32
  go_wp2_with fail
  refine (l08Code_any _ _ M Q 0 r _ (g1 _ (by (repeat' (first | (with_reducible exact Below.refl _ _) | (with_reducible assumption) | (with_reducible refine Below.alloc ?_ ?_ _) | (with_reducible refine Below.drew ?_) | (with_reducible refine below_drewN ?_ _) | (with_reducible refine Below.setCell ?_ ?_ _) | (with_reducible refine Below.trans ?_ (Below.mono (by with_reducible assumption) ?_)) | (with_reducible exact Below.size (by with_reducible assumption)) | go_size)))) (g2 _ (by (repeat' (first | (with_reducible exact Below.refl _ _) | (with_reducible assumption) | (with_reducible refine Below.alloc ?_ ?_ _) | (with_reducible refine Below.drew ?_) | (with_reducible refine below_drewN ?_ _) | (with_reducible refine Below.setCell ?_ ?_ _) | (with_reducible refine Below.trans ?_ (Below.mono (by with_reducible assumption) ?_)) | (with_reducible exact Below.size (by with_reducible assumption)) | go_size))))).mono ?_; rw [HC0.out]; rintro e w1 ⟨rfl, hb1⟩; obtain ⟨hc_hb1, hf_hb1⟩ := bcell hb1; obtain ⟨hcA_hb1, hfA_hb1⟩ := bcellG (W0 := w) hb1 (by (repeat' (first | (with_reducible exact Below.refl _ _) | (with_reducible assumption) | (with_reducible refine Below.alloc ?_ ?_ _) | (with_reducible refine Below.drew ?_) | (with_reducible refine below_drewN ?_ _) | (with_reducible refine Below.setCell ?_ ?_ _) | (with_reducible refine Below.trans ?_ (Below.mono (by with_reducible assumption) ?_)) | (with_reducible exact Below.size (by with_reducible assumption)) | go_size))); have hz_hb1 := hb1.size; (try simp at hz_hb1); (try simp only [Nat.add_one_le_iff] at hz_hb1); have hz0_hb1 : w.heap.size < w1.heap.size := (by omega)
  have hw1 : Below w.heap.size w w1 := by (repeat' (first | (with_reducible exact Below.refl _ _) | (with_reducible assumption) | (with_reducible refine Below.alloc ?_ ?_ _) | (with_reducible refine Below.drew ?_) | (with_reducible refine below_drewN ?_ _) | (with_reducible refine Below.setCell ?_ ?_ _) | (with_reducible refine Below.trans ?_ (Below.mono (by with_reducible assumption) ?_)) | (with_reducible exact Below.size (by with_reducible assumption)) | go_size))
  have x0 : w1.cell? ⟨w.heap.size, 0, none⟩ = some (.slice a1 M.length c1) := by rw [hc_hb1 _ _ (by go_size)]; simp
  have x1 : w1.cell? ⟨w.heap.size, 1, none⟩ = some (.slice a2 Q.length c2) := by rw [hc_hb1 _ _ (by go_size)]; simp
  clear hc_hb1 hf_hb1 hcA_hb1 hfA_hb1 hz_hb1 hb1
  go_wp2_with fail
  refine (HS.out _ hw1).mono ?_; rintro e w2 ⟨v, rfl, hv, hb2⟩
  have hTl : (T ++ [s]).length = T.length + 1 := by simp
  obtain ⟨gv, cv, rfl, _, _, hov⟩ := hv
  have t0 := own_cellN hov rfl (show T.length < (T ++ [s]).length by omega)
  rw [show (T ++ [s]).getD T.length 0 = s by simp] at t0
  rw [hTl]
  have hw2 : Below w.heap.size w w2 := hw1.trans (hb2.mono hw1.size)
  have x0 := (hb2.cell (p := ⟨w.heap.size, 0, none⟩) hz0_hb1).trans x0
  have x1 := (hb2.cell (p := ⟨w.heap.size, 1, none⟩) hz0_hb1).trans x1
  obtain ⟨L, hL⟩ : ∃ L, L = T.length := ⟨_, rfl⟩
  rw [← hL] at t0 hTL ⊢
  have HW2 := Lib.hid hw2
  clear hov hTl hb2 hL HS hw1
  go_wp2_with fail
  refine (HPZ.out _ hw2).mono ?_; rintro e w3 ⟨g, c, rfl, hf, hb3⟩
  have hw3 : Below w.heap.size w w3 := hw2.trans (hb3.mono hw2.size)
  have HW3 := Lib.hid hw3
  have HF := Lib.hid (hf.mono (C := w.heap.size) hw2.size)
  have hg : w.heap.size ≤ g := by
    obtain ⟨g', c', hv, hB, _⟩ := HF.out
    simp at hv
    omega
  clear hb3 hf hw2 hw3 x0 x1 t0
  go_wp2_with fail
  go_loopw [12] (fun i wr => ∃ k : Nat, k ≤ M.length ∧ i = .int .i64 k ∧ FreshF w.heap.size wr (.slice (some ⟨g, 0, none⟩) M.length c) (solK M Q s k) ∧ Below w.heap.size w wr) (fun i _ => M.length - (intOf i).toNat)
  case atStart => exact ⟨0, Nat.zero_le _, rfl, by rw [solK_zero]; exact HF.out, HW3.out⟩
  case round =>
    obtain ⟨k, hk, rfl, hO, hB⟩ := hrel
    by_cases hlt3 : k < M.length
    · rcases HBC.out k with ⟨hz, hbt⟩ | ⟨hz, hbt⟩
      · have ho := hO.own
        have c0 := ho.cell0 (solK_length M Q s k).symm hlt3
        have c1 := ho.cell1 (solK_length M Q s k).symm hlt3
        have f0 := fun i => ho.frozen (solK_length M Q s k).symm i
        have hst := hO.set hlt3 0 1
        rw [solK_no hbt] at hst
        have HST := Lib.hid hst
        have HBL := Lib.hid ((hB.setCell (p := ⟨g, k * 2, none⟩) hg (.int .i64 0)).setCell (p := ⟨g, k * 2 + 1, none⟩) hg (.int .i64 1))
        clear hst ho hO hB hbt
        generalize ((solK M Q s k).getD k (0, 0)).1 = x at *
        generalize ((solK M Q s k).getD k (0, 0)).2 = y at *
        go_wp2_with fail
        go_roundw
        case rel => exact ⟨k + 1, by omega, by go_num, HST.out, HBL.out⟩
        case measure => simp [intOf]; omega
      · have HO := Lib.hid hO
        have HB := Lib.hid hB
        have HX : Hid (solK M Q s (k + 1) = solK M Q s k) := Lib.hid (solK_yes hbt)
        clear hO hB hbt
        go_wp2_with fail
        go_roundw
        case rel => exact ⟨k + 1, by omega, by go_num, by rw [HX.out]; exact HO.out, HB.out⟩
        case measure => simp [intOf]; omega
    · obtain rfl : k = M.length := by omega
      rw [solK_all] at hO
      have HO := Lib.hid hO
      have HB := Lib.hid hB
      clear hO hB
      go_wp2_with fail
      refine (HTD.out g c _ HO.out.own).mono ?_; rintro e w5 ⟨rfl, rfl⟩
      go_wp2_with fail
      go_ret2
      exact ⟨_, rfl, ⟨HO.out.own, fun b hb => by obtain ⟨_, _, hv, _, h3, _⟩ := HO.out; simp [Value.ownBlock] at hb hv; omega⟩, HB.out⟩
set_option maxHeartbeats 4000000 in
theorem law_FnExactSolveByRule (m q : Value) (M : List (List Int)) (Q : List Int) (r : Int) (w : World) (hG : Tab8 w) (h1 : PM.Rows w m M) (h2 : Ints w q Q) :
    Calls Tryd.prog 8 #[.agg #[m, q], .int .i64 r] w fun e w' => e = .returned (.bool true) ∧ Below w.heap.size w w' := by
  have g1 := fun (w' : World) (h : Below w.heap.size w w') => h1.below h
  have gl := fun (w' : World) (h : Below w.heap.size w w') => hG.below h
  clear hG
  have g2 := fun (w' : World) (h : Below w.heap.size w w') => h2.below h
  have I1 := Lib.hid (rows_I64 h1)
  have I2 := Lib.hid (ints_I64 h2)
  obtain ⟨a1, c1, rfl, _⟩ := h1
  obtain ⟨a2, c2, rfl, _⟩ := h2
  by_cases hz : szP M Q 1048576 < 0
  · have e1 := szP_neg hz
    have E1 := Lib.hid e1
    clear hz e1
    go_enter Tryd.func8, Tryd.ntmps8
    go_wp2_with fail
    refine (szProblem_any _ _ M Q _ (g1 _ (by (repeat' (first | (with_reducible exact Below.refl _ _) | (with_reducible assumption) | (with_reducible refine Below.alloc ?_ ?_ _) | (with_reducible refine Below.drew ?_) | (with_reducible refine below_drewN ?_ _) | (with_reducible refine Below.setCell ?_ ?_ _) | (with_reducible refine Below.trans ?_ (Below.mono (by with_reducible assumption) ?_)) | (with_reducible exact Below.size (by with_reducible assumption)) | go_size)))) (g2 _ (by (repeat' (first | (with_reducible exact Below.refl _ _) | (with_reducible assumption) | (with_reducible refine Below.alloc ?_ ?_ _) | (with_reducible refine Below.drew ?_) | (with_reducible refine below_drewN ?_ _) | (with_reducible refine Below.setCell ?_ ?_ _) | (with_reducible refine Below.trans ?_ (Below.mono (by with_reducible assumption) ?_)) | (with_reducible exact Below.size (by with_reducible assumption)) | go_size))))).mono ?_; rw [E1.out]; rintro e w1 ⟨rfl, hb1⟩; obtain ⟨hc_hb1, hf_hb1⟩ := bcell hb1; obtain ⟨hcA_hb1, hfA_hb1⟩ := bcellG (W0 := w) hb1 (by (repeat' (first | (with_reducible exact Below.refl _ _) | (with_reducible assumption) | (with_reducible refine Below.alloc ?_ ?_ _) | (with_reducible refine Below.drew ?_) | (with_reducible refine below_drewN ?_ _) | (with_reducible refine Below.setCell ?_ ?_ _) | (with_reducible refine Below.trans ?_ (Below.mono (by with_reducible assumption) ?_)) | (with_reducible exact Below.size (by with_reducible assumption)) | go_size))); have hz_hb1 := hb1.size; (try simp at hz_hb1); (try simp only [Nat.add_one_le_iff] at hz_hb1); have hz0_hb1 : w.heap.size < w1.heap.size := (by omega)
    go_wp2_with fail
    go_ret
    refine ⟨rfl, ?_⟩
    (repeat' (first | (with_reducible exact Below.refl _ _) | (with_reducible assumption) | (with_reducible refine Below.alloc ?_ ?_ _) | (with_reducible refine Below.drew ?_) | (with_reducible refine below_drewN ?_ _) | (with_reducible refine Below.setCell ?_ ?_ _) | (with_reducible refine Below.trans ?_ (Below.mono (by with_reducible assumption) ?_)) | (with_reducible exact Below.size (by with_reducible assumption)) | go_size))
  obtain ⟨hn1, hn2⟩ := szP_fits hz
  have hle := szP_le M Q
  have HN1 := Lib.hid hn1
  have HN2 := Lib.hid hn2
  clear hn1 hn2
  have hspec := fun (m q : Value) (w : World) (h1 : PM.Rows w m M) (h2 : Ints w q Q) => specSolveByRule_any m q M Q r w h1 h2
  have himpl := fun (m q : Value) (w : World) (hg : Tab8 w) (h1 : PM.Rows w m M) (h2 : Ints w q Q) => implSolveByRule_any m q M Q r w hg h1 h2
  have hfine := fine_sl M Q r
  generalize slOut M Q r = o at *
  obtain ⟨O, code⟩ := o
  have HS := Lib.hid hspec
  have HI := Lib.hid himpl
  have HF : Hid (FineF O) := Lib.hid hfine
  clear hspec himpl hfine
  go_enter Tryd.func8, Tryd.ntmps8
  go_wp2_with fail
  refine (szProblem_any _ _ M Q _ (g1 _ (by (repeat' (first | (with_reducible exact Below.refl _ _) | (with_reducible assumption) | (with_reducible refine Below.alloc ?_ ?_ _) | (with_reducible refine Below.drew ?_) | (with_reducible refine below_drewN ?_ _) | (with_reducible refine Below.setCell ?_ ?_ _) | (with_reducible refine Below.trans ?_ (Below.mono (by with_reducible assumption) ?_)) | (with_reducible exact Below.size (by with_reducible assumption)) | go_size)))) (g2 _ (by (repeat' (first | (with_reducible exact Below.refl _ _) | (with_reducible assumption) | (with_reducible refine Below.alloc ?_ ?_ _) | (with_reducible refine Below.drew ?_) | (with_reducible refine below_drewN ?_ _) | (with_reducible refine Below.setCell ?_ ?_ _) | (with_reducible refine Below.trans ?_ (Below.mono (by with_reducible assumption) ?_)) | (with_reducible exact Below.size (by with_reducible assumption)) | go_size))))).mono ?_; rintro e w1 ⟨rfl, hb1⟩; obtain ⟨hc_hb1, hf_hb1⟩ := bcell hb1; obtain ⟨hcA_hb1, hfA_hb1⟩ := bcellG (W0 := w) hb1 (by (repeat' (first | (with_reducible exact Below.refl _ _) | (with_reducible assumption) | (with_reducible refine Below.alloc ?_ ?_ _) | (with_reducible refine Below.drew ?_) | (with_reducible refine below_drewN ?_ _) | (with_reducible refine Below.setCell ?_ ?_ _) | (with_reducible refine Below.trans ?_ (Below.mono (by with_reducible assumption) ?_)) | (with_reducible exact Below.size (by with_reducible assumption)) | go_size))); have hz_hb1 := hb1.size; (try simp at hz_hb1); (try simp only [Nat.add_one_le_iff] at hz_hb1); have hz0_hb1 : w.heap.size < w1.heap.size := (by omega)
  generalize szP M Q 1048576 = left at *
  have hw1 : Below w.heap.size w w1 := by (repeat' (first | (with_reducible exact Below.refl _ _) | (with_reducible assumption) | (with_reducible refine Below.alloc ?_ ?_ _) | (with_reducible refine Below.drew ?_) | (with_reducible refine below_drewN ?_ _) | (with_reducible refine Below.setCell ?_ ?_ _) | (with_reducible refine Below.trans ?_ (Below.mono (by with_reducible assumption) ?_)) | (with_reducible exact Below.size (by with_reducible assumption)) | go_size))
  go_wp2_with fail
  refine (toProblem_out _ _ M Q _ (g1 _ (by (repeat' (first | (with_reducible exact Below.refl _ _) | (with_reducible assumption) | (with_reducible refine Below.alloc ?_ ?_ _) | (with_reducible refine Below.drew ?_) | (with_reducible refine below_drewN ?_ _) | (with_reducible refine Below.setCell ?_ ?_ _) | (with_reducible refine Below.trans ?_ (Below.mono (by with_reducible assumption) ?_)) | (with_reducible exact Below.size (by with_reducible assumption)) | go_size)))) (g2 _ (by (repeat' (first | (with_reducible exact Below.refl _ _) | (with_reducible assumption) | (with_reducible refine Below.alloc ?_ ?_ _) | (with_reducible refine Below.drew ?_) | (with_reducible refine below_drewN ?_ _) | (with_reducible refine Below.setCell ?_ ?_ _) | (with_reducible refine Below.trans ?_ (Below.mono (by with_reducible assumption) ?_)) | (with_reducible exact Below.size (by with_reducible assumption)) | go_size)))) HN1.out HN2.out).mono ?_; rintro e w2 ⟨gA, gB, us2, rfl, hr2, hb2⟩; obtain ⟨hc_hb2, hf_hb2⟩ := bcell hb2; obtain ⟨hcA_hb2, hfA_hb2⟩ := bcellG (W0 := w1) hb2 (by (repeat' (first | (with_reducible exact Below.refl _ _) | (with_reducible assumption) | (with_reducible refine Below.alloc ?_ ?_ _) | (with_reducible refine Below.drew ?_) | (with_reducible refine below_drewN ?_ _) | (with_reducible refine Below.setCell ?_ ?_ _) | (with_reducible refine Below.trans ?_ (Below.mono (by with_reducible assumption) ?_)) | (with_reducible exact Below.size (by with_reducible assumption)) | go_size))); have hz_hb2 := hb2.size; (try simp at hz_hb2); (try simp only [Nat.add_one_le_iff] at hz_hb2); have hz0_hb2 : w.heap.size < w2.heap.size := (by omega)
  have R2 := Lib.hid (hr2.reads I1.out I2.out)
  clear hr2
  have hw2 : Below w.heap.size w w2 := hw1.trans (hb2.mono hw1.size)
  go_wp2_with fail
  refine (HS.out _ _ _ R2.out.1 R2.out.2).mono ?_; rintro e w3 ho3; obtain ⟨a3, c3, rfl, hr3, hb3⟩ := ho3.out; clear ho3; dsimp only at hr3; dsimp only; obtain ⟨hc_hb3, hf_hb3⟩ := bcell hb3; obtain ⟨hcA_hb3, hfA_hb3⟩ := bcellG (W0 := w2) hb3 (by (repeat' (first | (with_reducible exact Below.refl _ _) | (with_reducible assumption) | (with_reducible refine Below.alloc ?_ ?_ _) | (with_reducible refine Below.drew ?_) | (with_reducible refine below_drewN ?_ _) | (with_reducible refine Below.setCell ?_ ?_ _) | (with_reducible refine Below.trans ?_ (Below.mono (by with_reducible assumption) ?_)) | (with_reducible exact Below.size (by with_reducible assumption)) | go_size))); have hz_hb3 := hb3.size; (try simp at hz_hb3); (try simp only [Nat.add_one_le_iff] at hz_hb3); have hz0_hb3 : w.heap.size < w3.heap.size := (by omega)
  have HR3 := Lib.hid hr3
  clear hr3 R2
  have hw3 : Below w.heap.size w w3 := hw2.trans (hb3.mono hw2.size)
  go_wp2_with fail
  refine (toProblem_out _ _ M Q _ (g1 _ (by (repeat' (first | (with_reducible exact Below.refl _ _) | (with_reducible assumption) | (with_reducible refine Below.alloc ?_ ?_ _) | (with_reducible refine Below.drew ?_) | (with_reducible refine below_drewN ?_ _) | (with_reducible refine Below.setCell ?_ ?_ _) | (with_reducible refine Below.trans ?_ (Below.mono (by with_reducible assumption) ?_)) | (with_reducible exact Below.size (by with_reducible assumption)) | go_size)))) (g2 _ (by (repeat' (first | (with_reducible exact Below.refl _ _) | (with_reducible assumption) | (with_reducible refine Below.alloc ?_ ?_ _) | (with_reducible refine Below.drew ?_) | (with_reducible refine below_drewN ?_ _) | (with_reducible refine Below.setCell ?_ ?_ _) | (with_reducible refine Below.trans ?_ (Below.mono (by with_reducible assumption) ?_)) | (with_reducible exact Below.size (by with_reducible assumption)) | go_size)))) HN1.out HN2.out).mono ?_; rintro e w4 ⟨gC, gD, us4, rfl, hr4, hb4⟩; obtain ⟨hc_hb4, hf_hb4⟩ := bcell hb4; obtain ⟨hcA_hb4, hfA_hb4⟩ := bcellG (W0 := w3) hb4 (by (repeat' (first | (with_reducible exact Below.refl _ _) | (with_reducible assumption) | (with_reducible refine Below.alloc ?_ ?_ _) | (with_reducible refine Below.drew ?_) | (with_reducible refine below_drewN ?_ _) | (with_reducible refine Below.setCell ?_ ?_ _) | (with_reducible refine Below.trans ?_ (Below.mono (by with_reducible assumption) ?_)) | (with_reducible exact Below.size (by with_reducible assumption)) | go_size))); have hz_hb4 := hb4.size; (try simp at hz_hb4); (try simp only [Nat.add_one_le_iff] at hz_hb4); have hz0_hb4 : w.heap.size < w4.heap.size := (by omega)
  have HR4 := Lib.hid hr4
  clear hr4
  have hw4 : Below w.heap.size w w4 := hw3.trans (hb4.mono hw3.size)
  go_wp2_with fail
  have hr4a := HR4.out.below (w' := w4.alloc (.cells #[.slice (some ⟨gC, 0, none⟩) M.length M.length, .slice (some ⟨gD, 0, none⟩) Q.length Q.length] 29)) (B := w4.heap.size) ((Below.refl _ _).alloc (Nat.le_refl _) _) (Nat.le_refl _)
  have R4 := Lib.hid (hr4a.reads I1.out I2.out)
  clear hr4a
  refine (HI.out _ _ _ (gl _ (by (repeat' (first | (with_reducible exact Below.refl _ _) | (with_reducible assumption) | (with_reducible refine Below.alloc ?_ ?_ _) | (with_reducible refine Below.drew ?_) | (with_reducible refine below_drewN ?_ _) | (with_reducible refine Below.setCell ?_ ?_ _) | (with_reducible refine Below.trans ?_ (Below.mono (by with_reducible assumption) ?_)) | (with_reducible exact Below.size (by with_reducible assumption)) | go_size)))) R4.out.1 R4.out.2).mono ?_; rintro e w5 ho5; obtain ⟨a5, c5, rfl, hr5, hb5⟩ := ho5.out; clear ho5; dsimp only at hr5; dsimp only; obtain ⟨hc_hb5, hf_hb5⟩ := bcell hb5; obtain ⟨hcA_hb5, hfA_hb5⟩ := bcellG (W0 := w4) hb5 (by (repeat' (first | (with_reducible exact Below.refl _ _) | (with_reducible assumption) | (with_reducible refine Below.alloc ?_ ?_ _) | (with_reducible refine Below.drew ?_) | (with_reducible refine below_drewN ?_ _) | (with_reducible refine Below.setCell ?_ ?_ _) | (with_reducible refine Below.trans ?_ (Below.mono (by with_reducible assumption) ?_)) | (with_reducible exact Below.size (by with_reducible assumption)) | go_size))); have hz_hb5 := hb5.size; (try simp at hz_hb5); (try simp only [Nat.add_one_le_iff] at hz_hb5); have hz0_hb5 : w.heap.size < w5.heap.size := (by omega)
  have hz45 : w4.heap.size < w5.heap.size := by omega
  have HR5 := Lib.hid hr5
  clear hr5 R4
  have hw45 : Below w4.heap.size w4 w5 := ((Below.refl w4.heap.size w4).alloc (Nat.le_refl _) _).trans (hb5.mono (by simp))
  have x50 : w5.cell? ⟨w4.heap.size, 0, none⟩ = some (.slice (some ⟨gC, 0, none⟩) M.length M.length) := by rw [hc_hb5 _ _ (by simp)]; simp
  have x51 : w5.cell? ⟨w4.heap.size, 1, none⟩ = some (.slice (some ⟨gD, 0, none⟩) Q.length Q.length) := by rw [hc_hb5 _ _ (by simp)]; simp
  have hw13 : Below w1.heap.size w1 w3 := hb2.trans (hb3.mono hb2.size)
  have hw35 : Below w3.heap.size w3 w5 := hb4.trans (hw45.mono hb4.size)
  have hw15 : Below w1.heap.size w1 w5 := hw13.trans (hw35.mono hw13.size)
  have hw5 : Below w.heap.size w w5 := hw3.trans (hw35.mono hw3.size)
  have p10 : w1.cell? ⟨w.heap.size, 0, none⟩ = some (.slice a1 M.length c1) := by rw [hc_hb1 _ _ (by simp)]; simp
  have p11 : w1.cell? ⟨w.heap.size, 1, none⟩ = some (.slice a2 Q.length c2) := by rw [hc_hb1 _ _ (by simp)]; simp
  have hvq : Vq w5 w.heap.size w4.heap.size (.slice a1 M.length c1) (.slice a2 Q.length c2) (.slice (some ⟨gC, 0, none⟩) M.length M.length) (.slice (some ⟨gD, 0, none⟩) Q.length Q.length) :=
    ⟨(hw15.cell (p := ⟨w.heap.size, 0, none⟩) hz0_hb1).trans p10, (hw15.cell (p := ⟨w.heap.size, 1, none⟩) hz0_hb1).trans p11, x50, x51, by omega, hz45⟩
  have hA5 := HR3.out.below hw35 (Nat.le_refl _)
  have hX5 := HR4.out.below hw45 (Nat.le_refl _)
  have hG5 := HR5.out
  rw [show (w4.alloc (.cells #[.slice (some ⟨gC, 0, none⟩) M.length M.length, .slice (some ⟨gD, 0, none⟩) Q.length Q.length] 29)).heap.size = w4.heap.size + 1 by simp] at hG5
  have hPA : w.heap.size < w2.heap.size := by omega
  obtain ⟨P, hP⟩ : ∃ P, P = w.heap.size := ⟨_, rfl⟩
  obtain ⟨A0, hA0⟩ : ∃ A0, A0 = w2.heap.size := ⟨_, rfl⟩
  obtain ⟨A1, hA1⟩ : ∃ A1, A1 = w3.heap.size := ⟨_, rfl⟩
  obtain ⟨V, hV⟩ : ∃ V, V = w4.heap.size := ⟨_, rfl⟩
  have hAV : A0 ≤ A1 ∧ A1 ≤ V := by have := hb3.size; have := hb4.size; omega
  obtain ⟨hAV1, hAV2⟩ := hAV
  obtain ⟨G1, hG1⟩ : ∃ G1, G1 = w5.heap.size := ⟨_, rfl⟩
  have hGz : G1 ≤ w5.heap.size := by omega
  have hVG : V < G1 := by omega
  rw [← hP] at hvq hPA
  rw [← hA0] at hA5 hPA
  rw [← hA1] at hA5 hX5
  rw [← hV] at hX5 hG5 hvq hz45
  rw [← hG1] at hG5
  rw [← hP, ← hV]
  have hPw : P ≤ w.heap.size := by omega
  have hwP : w.heap.size ≤ P := by omega
  clear hP hA0 hA1 hV hG1 hw13 hw15 hw35 hw45 p10 p11 x50 x51 HR3 HR4 HR5 hw1 hw2 hw3 hw4 HS
  clear hc_hb1 hf_hb1 hcA_hb1 hfA_hb1 hz_hb1 hz0_hb1 hb1 hc_hb2 hf_hb2 hcA_hb2 hfA_hb2 hz_hb2 hz0_hb2 hb2 hc_hb3 hf_hb3 hcA_hb3 hfA_hb3 hz_hb3 hz0_hb3 hb3 hc_hb4 hf_hb4 hcA_hb4 hfA_hb4 hz_hb4 hz0_hb4 hb4 hc_hb5 hf_hb5 hcA_hb5 hfA_hb5 hz_hb5 hz0_hb5 hb5
  have HA5 := Lib.hid hA5
  have HX5 := Lib.hid hX5
  have HG5 := Lib.hid hG5
  have HV5 := Lib.hid hvq
  clear hA5 hX5 hG5 hvq
  go_wp2_with fail
  refine (eqF_ans HG5.out HA5.out HF.out).mono ?_; rintro e w6 ⟨rfl, hb6⟩
  have hw6 : Below w.heap.size w w6 := hw5.trans (hb6.mono hw5.size)
  have hz6 := hb6.size
  have HA := Lib.hid (HA5.out.below hb6 (by omega))
  have HX := Lib.hid (HX5.out.below hb6 (by omega))
  have HG := Lib.hid (HG5.out.below hb6 (by omega))
  have hv6 := HV5.out.next hb6
  have HV := Lib.hid hv6
  have hGz6 : G1 ≤ w6.heap.size := by omega
  have RX := Lib.hid (HX.out.reads I1.out I2.out)
  obtain ⟨k1, k2, k3, k4, l1, l2⟩ := hv6
  have r1 : ∀ w', Below w6.heap.size w6 w' → w'.cell? ⟨P, 0, none⟩ = some (.slice a1 M.length c1) := fun w' h => (h.cell (p := ⟨P, 0, none⟩) (by show P < _; omega)).trans k1
  have r2 : ∀ w', Below w6.heap.size w6 w' → w'.cell? ⟨P, 1, none⟩ = some (.slice a2 Q.length c2) := fun w' h => (h.cell (p := ⟨P, 1, none⟩) (by show P < _; omega)).trans k2
  have r3 : ∀ w', Below w6.heap.size w6 w' → w'.cell? ⟨V, 0, none⟩ = some (.slice (some ⟨gC, 0, none⟩) M.length M.length) := fun w' h => (h.cell (p := ⟨V, 0, none⟩) (by show V < _; omega)).trans k3
  have r4 : ∀ w', Below w6.heap.size w6 w' → w'.cell? ⟨V, 1, none⟩ = some (.slice (some ⟨gD, 0, none⟩) Q.length Q.length) := fun w' h => (h.cell (p := ⟨V, 1, none⟩) (by show V < _; omega)).trans k4
  clear HA5 HX5 HG5 HV5 hb6 hw5 hGz hz6 k1 k2 k3 k4 hz45
  go_wp2_with fail
  go_region_held3 (fun w' => Below w6.heap.size w6 w') ((repeat' (first | (with_reducible exact Below.refl _ _) | (with_reducible assumption) | (with_reducible refine Below.alloc ?_ ?_ _) | (with_reducible refine Below.drew ?_) | (with_reducible refine below_drewN ?_ _) | (with_reducible refine Below.setCell ?_ ?_ _) | (with_reducible refine Below.trans ?_ (Below.mono (by with_reducible assumption) ?_)) | (with_reducible exact Below.size (by with_reducible assumption)) | go_size)))
    (first | (go_at_call 15; refine (toProblem_out _ _ M Q _ (g1 _ (hw6.trans (Below.mono (by assumption) hw6.size))) (g2 _ (hw6.trans (Below.mono (by assumption) hw6.size))) HN1.out HN2.out).mono ?_; rintro e w8 ⟨gE, gF, us8, rfl, hr8, hb8⟩; have hS8 : Below w6.heap.size w6 w8 := (by (repeat' (first | (with_reducible exact Below.refl _ _) | (with_reducible assumption) | (with_reducible refine Below.alloc ?_ ?_ _) | (with_reducible refine Below.drew ?_) | (with_reducible refine below_drewN ?_ _) | (with_reducible refine Below.setCell ?_ ?_ _) | (with_reducible refine Below.trans ?_ (Below.mono (by with_reducible assumption) ?_)) | (with_reducible exact Below.size (by with_reducible assumption)) | go_size))); have R8 := Lib.hid (hr8.reads I1.out I2.out); clear hr8) | (go_at_call 17; refine (eqProblem_same _ _ _ _ M Q _ (RX.out.1.below hS8) (RX.out.2.below hS8) R8.out.1 R8.out.2).mono ?_; rintro e w9 ⟨rfl, hb9⟩; have hS9 : Below w6.heap.size w6 w9 := (by (repeat' (first | (with_reducible exact Below.refl _ _) | (with_reducible assumption) | (with_reducible refine Below.alloc ?_ ?_ _) | (with_reducible refine Below.drew ?_) | (with_reducible refine below_drewN ?_ _) | (with_reducible refine Below.setCell ?_ ?_ _) | (with_reducible refine Below.trans ?_ (Below.mono (by with_reducible assumption) ?_)) | (with_reducible exact Below.size (by with_reducible assumption)) | go_size)))))
  have x90 := r3 _ hS9
  have x91 := r4 _ hS9
  have hw9 : Below w.heap.size w w9 := hw6.trans (hS9.mono hw6.size)
  have hz9 := hS9.size
  have HX9 := Lib.hid (HX.out.below hS9 (by omega))
  have HG9 := Lib.hid (HG.out.below hS9 (by omega))
  have HA9 := Lib.hid (HA.out.below hS9 (by omega))
  have HV9 := Lib.hid (HV.out.next hS9)
  have hGz9 : G1 ≤ w9.heap.size := by omega
  have lP9 : P < w9.heap.size := by omega
  have lV9 : V < w9.heap.size := by omega
  clear HX HG HA HV RX R8 r1 r2 r3 r4 hS9 hb9 hS8 hb8 hw6 hGz6 hz9 l1 l2
  have hkb : (1 : Int) + tot M + Q.length ≤ 4611686018427387904 := by have := HN1.out; have := HN2.out; omega
  have hc10 := markProblem_any A1 V _ _ M Q us4 1 _ HX9.out (by omega) (by decide) hkb
  generalize pre M M.length = pM at hc10
  have hp0 : 0 ≤ (1 : Int) + pM + Q.length := by omega
  have HC10 := Lib.hid hc10
  clear hc10 hkb
  go_wp2_with fail
  refine HC10.out.mono ?_; rintro e w10 ⟨rfl, _, hbt10⟩
  have hsz10 := hbt10.size
  have v10 := HV9.out.bet hbt10 (.inl (by omega)) (.inr (by omega))
  have hw10 : Below w.heap.size w w10 := hw9.trans ((hbt10.below (by omega)).mono (by omega))
  have HG10 := Lib.hid (HG9.out.bet hbt10 (.inr (by omega)))
  have HA10 := Lib.hid (HA9.out.bet hbt10 (.inl (by omega)))
  have HV10 := Lib.hid v10
  have hGz10 : G1 ≤ w10.heap.size := by omega
  clear HC10 HX9 HV9 HG9 HA9 v10 hbt10 hw9 x90 x91 hGz9 hsz10 lP9 lV9
  go_wp2_with fail
  refine (eqF_ans HG10.out HA10.out HF.out).mono ?_; rintro e w11 ⟨rfl, hb11⟩
  have hsz11 := hb11.size
  have hw11 : Below w.heap.size w w11 := hw10.trans (hb11.mono hw10.size)
  have HG11 := Lib.hid (HG10.out.below hb11 (by omega))
  have HA11 := Lib.hid (HA10.out.below hb11 (by omega))
  have HV11 := Lib.hid (HV10.out.next hb11)
  have hGz11 : G1 ≤ w11.heap.size := by omega
  clear HG10 HA10 HV10 hb11 hw10 hGz10 hsz11
  have hsl := sizeF_le HF.out
  generalize hsg : sizeF O = sz at hsl
  have HSG := Lib.hid hsg
  clear hsg
  go_wp2_with fail
  refine (markF_ans HG11.out HF.out).mono ?_; rw [HSG.out]; rintro e w12 ⟨rfl, hm12, hbt12⟩
  have hsz12 := hbt12.size
  have hVz := HV11.out.lV
  have hPz := HV11.out.lP
  have hw12 : Below w.heap.size w w12 := hw11.trans ((hbt12.below (by omega)).mono (by omega))
  have HA12 := Lib.hid (HA11.out.bet hbt12 (.inl (by omega)))
  have HV12 := Lib.hid (HV11.out.bet hbt12 (.inl (by omega)) (.inl (by omega)))
  have HM12 := Lib.hid hm12
  have hGz12 : G1 ≤ w12.heap.size := by omega
  clear HG11 HA11 HV11 hm12 hbt12 hw11 hGz11 hsz12 hVz hPz
  go_wp2_with fail
  refine (heldF_ans HM12.out HF.out).mono ?_; rw [HSG.out]; rintro e w13 ⟨rfl, hb13⟩
  have hsz13 := hb13.size
  have hw13 : Below w.heap.size w w13 := hw12.trans (hb13.mono hw12.size)
  have HM13 := Lib.hid (HM12.out.below hb13 (by omega))
  have HA13 := Lib.hid (HA12.out.below hb13 (by omega))
  have v13 := HV12.out.next hb13
  have HV13 := Lib.hid v13
  obtain ⟨q1, q2, q3, q4, l1, l2⟩ := v13
  have hGz13 : G1 ≤ w13.heap.size := by omega
  clear HM12 HA12 HV12 hb13 hw12 hGz12 hsz13 q3 q4 l1 l2
  go_wp2_with fail
  refine (toProblem_out _ _ M Q _ (g1 _ hw13) (g2 _ hw13) HN1.out HN2.out).mono ?_; rintro e w14 ⟨gE, gF, us14, rfl, hr14, hb14⟩
  have hsz14 := hb14.size
  have hw14 : Below w.heap.size w w14 := hw13.trans (hb14.mono hw13.size)
  have R14 := Lib.hid (hr14.reads I1.out I2.out)
  have HM14 := Lib.hid (HM13.out.below hb14 (by omega))
  have HA14 := Lib.hid (HA13.out.below hb14 (by omega))
  have hGz14 : G1 ≤ w14.heap.size := by omega
  clear hr14 HV13 HM13 HA13 hb14 hw13 hGz13 hsz14 q1 q2
  go_wp2_with fail
  refine (HI.out _ _ _ (gl _ (by (repeat' (first | (with_reducible exact Below.refl _ _) | (with_reducible assumption) | (with_reducible refine Below.alloc ?_ ?_ _) | (with_reducible refine Below.drew ?_) | (with_reducible refine below_drewN ?_ _) | (with_reducible refine Below.setCell ?_ ?_ _) | (with_reducible refine Below.trans ?_ (Below.mono (by with_reducible assumption) ?_)) | (with_reducible exact Below.size (by with_reducible assumption)) | go_size)))) R14.out.1 R14.out.2).mono ?_; rintro e w15 ho15; obtain ⟨a15, c15, rfl, hr15, hb15⟩ := ho15.out; clear ho15; dsimp only at hr15; dsimp only
  have hsz15 := hb15.size
  have hw15 : Below w.heap.size w w15 := hw14.trans (hb15.mono hw14.size)
  have HM15 := Lib.hid (HM14.out.below hb15 (by omega))
  have HA15 := Lib.hid (HA14.out.below hb15 (by omega))
  have HH15 := Lib.hid hr15
  have hGz15 : G1 ≤ w15.heap.size := by omega
  clear hr15 HM14 HA14 hb15 hw14 hGz14 hsz15 R14
  go_wp2_with fail
  refine (eqF_ans HH15.out HA15.out HF.out).mono ?_; rintro e w16 ⟨rfl, hb16⟩
  have hw16 : Below w.heap.size w w16 := hw15.trans (hb16.mono hw15.size)
  have HM16 := Lib.hid (HM15.out.below hb16 (by omega))
  clear HM15 HA15 HH15 hb16 hw15
  go_wp2_with fail
  refine (heldF_ans HM16.out HF.out).mono ?_; rw [HSG.out]; rintro e w17 ⟨rfl, hb17⟩
  have hw17 : Below w.heap.size w w17 := hw16.trans (hb17.mono hw16.size)
  go_wp2_with fail
  go_ret
  exact ⟨rfl, hw17⟩
end Go.Proofs.YtopokicejgjcoaaDoor.PW
