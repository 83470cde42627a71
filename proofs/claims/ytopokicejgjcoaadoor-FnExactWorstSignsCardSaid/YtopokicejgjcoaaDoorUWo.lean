/-
  The exact law of WorstSigns: both sides' answers, and the law.
-/
import Derived.Test.YtopokicejgjcoaaDoorUWs
namespace Go.Proofs.YtopokicejgjcoaaDoor.PW
open Go.RowKit Go.Proofs.YtopokicejgjcoaaDoor
open Go.Proofs.YtopokicejgjcoaaDoor.PM Go.Proofs.YtopokicejgjcoaaDoor.PX
attribute [local go_sem] Oper.semAt_some

/-- The numbers on the right that signs tell. -/
def sgQ (n : Nat) (s : Int) : List Int := selS n ((memTo n s n).map Fin.val)
theorem sgQ_length (n : Nat) (s : Int) : (sgQ n s).length = n := selS_length _ _
theorem sgQ_at {n : Nat} {s : Int} {j : Nat} (hj : j < n) : (sgQ n s).getD j 0 = if bit s j = true then -1 else 1 := by
  have hm := mem_memTo n s j n (Nat.le_refl _)
  have e0 : ∀ F : Nat → Int, ((List.range n).map F).getD j 0 = F j := fun F => by simp [hj]
  unfold sgQ selS
  rw [e0]
  by_cases e : bit s j = true
  · rw [if_pos e, if_pos (hm.2 ⟨hj, e⟩)]
  · rw [if_neg e, if_neg (fun c => e (hm.1 c).2)]
theorem sgQ_row (n : Nat) (s : Int) : sgQ n s = (List.range n).map fun j => if bit s j = true then -1 else 1 := by
  apply List.ext_getElem (by simp [sgQ_length])
  intro j h1 h2
  have hj : j < n := by simpa using h2
  have := sgQ_at (s := s) hj
  rw [List.getD_eq_getElem?_getD, List.getElem?_eq_getElem h1] at this
  simpa using this
theorem sgQ_mem {n : Nat} {s : Int} : ∀ x ∈ sgQ n s, x = -1 ∨ x = 1 := by
  intro x hx
  rw [sgQ_row] at hx
  obtain ⟨j, _, rfl⟩ := List.mem_map.1 hx
  split <;> simp
theorem sgQ_PB {M : List (List Int)} {Q : List Int} (hp : isPB M Q = true) (s : Int) : isPB M (sgQ M.length s) = true := by
  obtain ⟨h1, h2, h3⟩ := (isPB_iff M Q).1 hp
  refine (isPB_iff _ _).2 ⟨h1, sgQ_length _ _, ?_⟩
  refine (wit_iff _ _).2 (fun j hj => ?_)
  have hm := sgQ_mem ((sgQ M.length s).getD j 0) (by rw [getD_at _ _ hj]; exact List.getElem_mem hj)
  rcases hm with e | e <;> rw [e] <;> decide
/-- The greatest number of steps over the first signs, and the first that need it. -/
def wsTo (M : List (List Int)) (r : Int) : Nat → Option (Int × Int)
  | 0 => some (0, 0)
  | k + 1 => match wsTo M r k with
    | none => none
    | some (m, a) => if (runO M (sgQ M.length k) r 33 [] 0).2 ≠ 0 then none else if m < ((runO M (sgQ M.length k) r 33 [] 0).1.length : Int) - 1 then some (((runO M (sgQ M.length k) r 33 [] 0).1.length : Int) - 1, (k : Int)) else some (m, a)
theorem wsTo_no {M : List (List Int)} {r : Int} {k : Nat} {m a : Int} (h : wsTo M r k = some (m, a)) (he : (runO M (sgQ M.length k) r 33 [] 0).2 ≠ 0) : wsTo M r (k + 1) = none := by
  show (match wsTo M r k with | none => none | some (m, a) => _) = none
  rw [h]; dsimp only; rw [if_pos he]
theorem wsTo_more {M : List (List Int)} {r : Int} {k : Nat} {m a : Int} (h : wsTo M r k = some (m, a)) (he : (runO M (sgQ M.length k) r 33 [] 0).2 = 0) (hm : m < ((runO M (sgQ M.length k) r 33 [] 0).1.length : Int) - 1) : wsTo M r (k + 1) = some (((runO M (sgQ M.length k) r 33 [] 0).1.length : Int) - 1, (k : Int)) := by
  show (match wsTo M r k with | none => none | some (m, a) => _) = _
  rw [h]; dsimp only; rw [if_neg (by omega), if_pos hm]
theorem wsTo_same {M : List (List Int)} {r : Int} {k : Nat} {m a : Int} (h : wsTo M r k = some (m, a)) (he : (runO M (sgQ M.length k) r 33 [] 0).2 = 0) (hm : ¬ m < ((runO M (sgQ M.length k) r 33 [] 0).1.length : Int) - 1) : wsTo M r (k + 1) = some (m, a) := by
  show (match wsTo M r k with | none => none | some (m, a) => _) = _
  rw [h]; dsimp only; rw [if_neg (by omega), if_neg hm]
theorem wsTo_stays {M : List (List Int)} {r : Int} {k : Nat} (h : wsTo M r k = none) : ∀ d, wsTo M r (k + d) = none
  | 0 => h
  | d + 1 => by
    show (match wsTo M r (k + d) with | none => none | some (m, a) => _) = none
    rw [wsTo_stays h d]
def wsOut (M : List (List Int)) (Q : List Int) (r : Int) : Int × Int × Int :=
  if ruleCode M Q 0 r ≠ 0 then (0, 0, ruleCode M Q 0 r) else match wsTo M r (2 ^ M.length) with
    | none => (0, 0, 4)
    | some (m, a) => (m, a, 0)
theorem wsOut_err {M : List (List Int)} {Q : List Int} {r c : Int} (h : ruleCode M Q 0 r = c) (hc : c ≠ 0) : wsOut M Q r = (0, 0, c) := by unfold wsOut; rw [if_pos (by omega), h]
theorem wsOut_no {M : List (List Int)} {Q : List Int} {r : Int} {T k : Nat} (h : ruleCode M Q 0 r = 0) (hT : T = 2 ^ M.length) (hk : wsTo M r k = none) (hkT : k ≤ T) : wsOut M Q r = (0, 0, 4) := by
  have := wsTo_stays hk (T - k)
  rw [show k + (T - k) = T by omega, hT] at this
  unfold wsOut
  rw [if_neg (by omega), this]
theorem wsOut_ok {M : List (List Int)} {Q : List Int} {r m a : Int} {T : Nat} (h : ruleCode M Q 0 r = 0) (hT : T = 2 ^ M.length) (hk : wsTo M r T = some (m, a)) : wsOut M Q r = (m, a, 0) := by
  rw [hT] at hk
  unfold wsOut
  rw [if_neg (by omega), hk]
theorem wsTo_bd {M : List (List Int)} {r : Int} (h1 : 1 ≤ M.length) (h5 : M.length ≤ 5) : ∀ (k : Nat) (m a : Int), wsTo M r k = some (m, a) → 0 ≤ m ∧ m ≤ 32 ∧ 0 ≤ a ∧ a ≤ k
  | 0, m, a, h => by
    have : (0, 0) = (m, a) := Option.some.inj h
    cases this
    simp
  | k + 1, m, a, h => by
    cases hk : wsTo M r k with
    | none => rw [wsTo_stays hk 1] at h; cases h
    | some p =>
      obtain ⟨m', a'⟩ := p
      have ih := wsTo_bd h1 h5 k m' a' hk
      have hpow : (0 : Int) < 2 ^ M.length := Int.pow_pos (by decide)
      obtain ⟨l1, l2, _⟩ := runO_facts (M := M) (Q := sgQ M.length k) (r := r) h1 h5 33 [] 0 (Met.first (by omega) hpow)
      by_cases he : (runO M (sgQ M.length k) r 33 [] 0).2 = 0
      · by_cases hm : m' < ((runO M (sgQ M.length k) r 33 [] 0).1.length : Int) - 1
        · rw [wsTo_more hk he hm] at h
          cases h
          omega
        · rw [wsTo_same hk he hm] at h
          cases h
          omega
      · rw [wsTo_no hk he] at h; cases h
/-- What a function leaves that returns two numbers and a code. -/
def OutW3 (w : World) (o : Int × Int × Int) (e : Ending) (w' : World) : Prop := e = .returned (.tuple #[.int .i64 o.1, .int .i64 o.2.1, .int .i64 o.2.2]) ∧ Below w.heap.size w w'

/-- While the steps of some signs are counted: what has been laid, in whatever order. -/
structure WsW (W w' : World) (n : Nat) (b6 : Bool) (g : Nat) (ys : List Int) : Prop where
  below : Below W.heap.size W w'
  row : b6 = true → FreshI W.heap.size w' (.slice (some ⟨g, 0, none⟩) n n) ys ∧ ∀ x ∈ ys, I64 x
theorem WsW.keep {W w' w'' : World} {n : Nat} {b6 : Bool} {g : Nat} {ys : List Int} (h : WsW W w' n b6 g ys) (hb : Below w'.heap.size w' w'') : WsW W w'' n b6 g ys :=
  ⟨h.below.trans (hb.mono h.below.size), fun e => ⟨(h.row e).1.below hb, (h.row e).2⟩⟩
theorem sgQ_64 (n : Nat) (s : Int) : ∀ x ∈ sgQ n s, I64 x := fun x hx => by rcases sgQ_mem x hx with rfl | rfl <;> (unfold I64; omega)
theorem WsW.row_ {W w' w'' : World} {n g g' : Nat} {b6 : Bool} {s : Int} (h : WsW W w' n b6 g (sgQ n s)) (hf : FreshI w'.heap.size w'' (.slice (some ⟨g', 0, none⟩) n n) (selS n ((memTo n s n).map Fin.val))) (hb : Below w'.heap.size w' w'') : WsW W w'' n true g' (sgQ n s) :=
  ⟨h.below.trans (hb.mono h.below.size), fun _ => ⟨hf.mono h.below.size, sgQ_64 n s⟩⟩
theorem WsW.ints {W w' : World} {n g : Nat} {b6 : Bool} {ys : List Int} (h : WsW W w' n b6 g ys) (e : b6 = true) : Ints w' (.slice (some ⟨g, 0, none⟩) n n) ys := (freshI_own (h.row e).1).ints (h.row e).2
theorem rule_sg {M : List (List Int)} {Q : List Int} {r s : Int} (h : ruleCode M Q 0 r = 0) : ruleCode M (sgQ M.length s) 0 r = 0 := by
  obtain ⟨hp, h0, h1, hr0, hr1⟩ := rule_facts h
  exact ruleCode_ok (setCode_ok (sgQ_PB hp s) (by omega)) (by omega)

set_option maxRecDepth 100000 in
set_option maxHeartbeats 4000000 in
theorem implWorstSigns_any (m q : Value) (M : List (List Int)) (Q : List Int) (r : Int) (w : World) (hT : Tab8 w) (h1 : PM.Rows w m M) (h2 : Ints w q Q) :
    Calls Tryd.prog 40 #[.agg #[m, q], .int .i64 r] w (OutW3 w (wsOut M Q r)) := by
  have hmx : Tryd.prog.follows .mixedOrders = true := by kernel_rfl
  have g1 := fun (w' : World) (h : Below w.heap.size w w') => h1.below h
  have g2 := fun (w' : World) (h : Below w.heap.size w w') => h2.below h
  have gt := fun (w' : World) (h : Below w.heap.size w w') => hT.below h
  clear hT
  obtain ⟨a1, c1, rfl, _⟩ := h1
  obtain ⟨a2, c2, rfl, _⟩ := h2
  obtain ⟨c, hc⟩ : ∃ c, c = ruleCode M Q 0 r := ⟨_, rfl⟩
  have HC := Lib.hid hc
  by_cases hcz : c ≠ 0
  · rw [wsOut_err hc.symm hcz]
    clear hc
    go_enter Tryd.func40, Tryd.ntmps40
    go_wp2_with fail
    refine (checkRule_any _ _ M Q 0 r _ (g1 _ (by (repeat' (first | (with_reducible exact Below.refl _ _) | (with_reducible assumption) | (with_reducible refine Below.alloc ?_ ?_ _) | (with_reducible refine Below.drew ?_) | (with_reducible refine below_drewN ?_ _) | (with_reducible refine Below.setCell ?_ ?_ _) | (with_reducible refine Below.trans ?_ (Below.mono (by with_reducible assumption) ?_)) | (with_reducible exact Below.size (by with_reducible assumption)) | go_size)))) (g2 _ (by (repeat' (first | (with_reducible exact Below.refl _ _) | (with_reducible assumption) | (with_reducible refine Below.alloc ?_ ?_ _) | (with_reducible refine Below.drew ?_) | (with_reducible refine below_drewN ?_ _) | (with_reducible refine Below.setCell ?_ ?_ _) | (with_reducible refine Below.trans ?_ (Below.mono (by with_reducible assumption) ?_)) | (with_reducible exact Below.size (by with_reducible assumption)) | go_size))))).mono ?_; rw [← HC.out]; rintro e w1 ⟨rfl, hb1⟩; obtain ⟨hc_hb1, hf_hb1⟩ := bcell hb1; obtain ⟨hcA_hb1, hfA_hb1⟩ := bcellG (W0 := w) hb1 (by (repeat' (first | (with_reducible exact Below.refl _ _) | (with_reducible assumption) | (with_reducible refine Below.alloc ?_ ?_ _) | (with_reducible refine Below.drew ?_) | (with_reducible refine below_drewN ?_ _) | (with_reducible refine Below.setCell ?_ ?_ _) | (with_reducible refine Below.trans ?_ (Below.mono (by with_reducible assumption) ?_)) | (with_reducible exact Below.size (by with_reducible assumption)) | go_size))); have hz_hb1 := hb1.size; (try simp at hz_hb1); (try simp only [Nat.add_one_le_iff] at hz_hb1); have hz0_hb1 : w.heap.size < w1.heap.size := (by omega)
    go_wp2_with fail
    go_ret3
    exact ⟨rfl, by (repeat' (first | (with_reducible exact Below.refl _ _) | (with_reducible assumption) | (with_reducible refine Below.alloc ?_ ?_ _) | (with_reducible refine Below.drew ?_) | (with_reducible refine below_drewN ?_ _) | (with_reducible refine Below.setCell ?_ ?_ _) | (with_reducible refine Below.trans ?_ (Below.mono (by with_reducible assumption) ?_)) | (with_reducible exact Below.size (by with_reducible assumption)) | go_size))⟩
  have h : ruleCode M Q 0 r = 0 := by omega
  have HC0 := Lib.hid h
  clear hc hcz HC
  obtain ⟨hp, hs0, hs1, hr0, hr1⟩ := rule_facts h
  have f1 := (isPB_facts hp).1
  have f2 := (isPB_facts hp).2.1
  obtain ⟨T, hT⟩ : ∃ T : Nat, T = 2 ^ M.length := ⟨_, rfl⟩
  have hT5 : T ≤ 32 := by rw [hT]; exact pow_le_32 f2
  have hT0 : 1 ≤ T := by rw [hT]; exact Nat.one_le_two_pow
  have hTp : (T : Int) = 2 ^ M.length := by rw [hT]; norm_cast
  have HTP := Lib.hid hTp
  have HNO := Lib.hid (fun (k : Nat) (hk : k ≤ T) (hn : wsTo M r k = none) => wsOut_no (Q := Q) h hT hn hk)
  have HOK := Lib.hid (fun (x y : Int) (hn : wsTo M r T = some (x, y)) => wsOut_ok (Q := Q) h hT hn)
  have HWB := Lib.hid (fun k x y h => wsTo_bd (M := M) (r := r) f1 f2 k x y h)
  have HSBk := Lib.hid (fun (k : Nat) (w' : World) (hb : Below w.heap.size w w') (q' : Value) (hq : Ints w' q' (sgQ M.length k)) => implStepsByRule_any _ q' M (sgQ M.length k) r w' (gt _ hb) (g1 _ hb) hq)
  have HRSk := Lib.hid (fun (k : Nat) (hk : (k : Int) < 2 ^ M.length) (w' : World) => rightOf_in M.length k w' f1 f2 (by omega) hk)
  have HSO := Lib.hid (fun (k : Nat) => rule_sg (s := (k : Int)) h)
  have HRF := Lib.hid (fun (k : Nat) => runO_facts (M := M) (Q := sgQ M.length k) (r := r) f1 f2 33 [] 0 (Met.first hs0 hs1))
  obtain ⟨R, hR⟩ : ∃ R, R = wsOut M Q r := ⟨_, rfl⟩
  rw [← hR] at HNO HOK ⊢
  have HWR := Lib.hid (show wrap64 ((2 : Int) ^ M.length) = (T : Int) by rw [← hTp]; unfold wrap64; omega)
  clear h hp hs0 hs1 hr0 hr1 hT hTp hR
  go_enter Tryd.func40, Tryd.ntmps40
  go_wp2_with fail
  refine (checkRule_any _ _ M Q 0 _ _ (g1 _ (by (repeat' (first | (with_reducible exact Below.refl _ _) | (with_reducible assumption) | (with_reducible refine Below.alloc ?_ ?_ _) | (with_reducible refine Below.drew ?_) | (with_reducible refine below_drewN ?_ _) | (with_reducible refine Below.setCell ?_ ?_ _) | (with_reducible refine Below.trans ?_ (Below.mono (by with_reducible assumption) ?_)) | (with_reducible exact Below.size (by with_reducible assumption)) | go_size)))) (g2 _ (by (repeat' (first | (with_reducible exact Below.refl _ _) | (with_reducible assumption) | (with_reducible refine Below.alloc ?_ ?_ _) | (with_reducible refine Below.drew ?_) | (with_reducible refine below_drewN ?_ _) | (with_reducible refine Below.setCell ?_ ?_ _) | (with_reducible refine Below.trans ?_ (Below.mono (by with_reducible assumption) ?_)) | (with_reducible exact Below.size (by with_reducible assumption)) | go_size))))).mono ?_; rw [HC0.out]; rintro e w1 ⟨rfl, hb1⟩; obtain ⟨hc_hb1, hf_hb1⟩ := bcell hb1; obtain ⟨hcA_hb1, hfA_hb1⟩ := bcellG (W0 := w) hb1 (by (repeat' (first | (with_reducible exact Below.refl _ _) | (with_reducible assumption) | (with_reducible refine Below.alloc ?_ ?_ _) | (with_reducible refine Below.drew ?_) | (with_reducible refine below_drewN ?_ _) | (with_reducible refine Below.setCell ?_ ?_ _) | (with_reducible refine Below.trans ?_ (Below.mono (by with_reducible assumption) ?_)) | (with_reducible exact Below.size (by with_reducible assumption)) | go_size))); have hz_hb1 := hb1.size; (try simp at hz_hb1); (try simp only [Nat.add_one_le_iff] at hz_hb1); have hz0_hb1 : w.heap.size < w1.heap.size := (by omega)
  have hw1 : Below w.heap.size w w1 := by (repeat' (first | (with_reducible exact Below.refl _ _) | (with_reducible assumption) | (with_reducible refine Below.alloc ?_ ?_ _) | (with_reducible refine Below.drew ?_) | (with_reducible refine below_drewN ?_ _) | (with_reducible refine Below.setCell ?_ ?_ _) | (with_reducible refine Below.trans ?_ (Below.mono (by with_reducible assumption) ?_)) | (with_reducible exact Below.size (by with_reducible assumption)) | go_size))
  have x0 : w1.cell? ⟨w.heap.size, 0, none⟩ = some (.slice a1 M.length c1) := by rw [hc_hb1 _ _ (by go_size)]; simp
  clear hc_hb1 hf_hb1 hcA_hb1 hfA_hb1 hz_hb1 hb1
  go_wp2_with fail
  rw [HWR.out]
  have HX := Lib.hid (fun wr (h : Below w1.heap.size w1 wr) => show wr.cell? ⟨w.heap.size, 0, none⟩ = some (.slice a1 M.length c1) from (h.cell (p := ⟨w.heap.size, 0, none⟩) hz0_hb1).trans x0)
  clear x0
  go_loopw [8, 9, 10, 11, 12, 23] (fun mo wo _ _ _ i wr => ∃ (k : Nat) (m a : Int), k ≤ T ∧ i = .int .i64 k ∧ mo = .int .i64 m ∧ wo = .int .i64 a ∧ wsTo M r k = some (m, a) ∧ Below w1.heap.size w1 wr) (fun _ _ _ _ _ i _ => T - (intOf i).toNat)
  case atStart => exact ⟨0, 0, 0, Nat.zero_le _, rfl, rfl, rfl, rfl, Below.refl _ _⟩
  case round =>
    obtain ⟨k, m, a, hk, rfl, rfl, rfl, hws, hB⟩ := hrel
    have hbd := HWB.out k m a hws
    have HB := Lib.hid hB
    have HWS := Lib.hid hws
    by_cases hlt : k < T
    · have hkT : (k : Int) < 2 ^ M.length := by rw [← HTP.out]; omega
      have HSB := HSBk.out k
      have HRS := Lib.hid (HRSk.out k hkT)
      have hoc : ((stOut M (sgQ M.length k) r).2 = 0 ∧ (m < (stOut M (sgQ M.length k) r).1 → wsTo M r (k + 1) = some ((stOut M (sgQ M.length k) r).1, (k : Int))) ∧ (¬ m < (stOut M (sgQ M.length k) r).1 → wsTo M r (k + 1) = some (m, a))) ∨ ((stOut M (sgQ M.length k) r).2 = 4 ∧ wsTo M r (k + 1) = none) := by
        by_cases he : (runO M (sgQ M.length k) r 33 [] 0).2 = 0
        · rw [stOut_ok (HSO.out k) he]
          exact .inl ⟨rfl, fun hm => wsTo_more hws he hm, fun hm => wsTo_same hws he hm⟩
        · rw [stOut_no (HSO.out k) he]
          exact .inr ⟨rfl, wsTo_no hws he⟩
      obtain ⟨O, hO⟩ : ∃ O, O = stOut M (sgQ M.length k) r := ⟨_, rfl⟩
      rw [← hO] at hoc HSB
      obtain ⟨o1, o2⟩ := O
      dsimp only at hoc
      have HSB := Lib.hid HSB
      have HOC := Lib.hid hoc
      have x0 := HX.out _ hB
      have hwr0 : w.heap.size < wr.heap.size := Nat.lt_of_lt_of_le hz0_hb1 hB.size
      have HWB := Lib.hid (hw1.trans (hB.mono hw1.size))
      clear hB hws hkT hoc hO
      go_wp2_with fail
      rename_i K0 hK0
      refine (wpIn_wide (n := 8)).1 ?_
      refine PR.wpIn_region_inv hmx (by kernel_rfl) (fun listed ac w' =>
          ∃ (b0 b1 b2 b3 b4 b5 b6 b7 b8 b9 b10 b11 b12 b13 b14 : Bool) (g : Nat), ((b1 = true → b0 = true) ∧ (b4 = true → b3 = true) ∧ (b5 = true → b4 = true) ∧ (b6 = true → b2 = true ∧ b5 = true) ∧ (b7 = true → b1 = true ∧ b6 = true) ∧ (b9 = true → b7 = true ∧ b8 = true) ∧ (b10 = true → b9 = true) ∧ (b11 = true → b10 = true) ∧ (b12 = true → b10 = true) ∧ (b13 = true → b11 = true) ∧ (b14 = true → b12 = true)) ∧ listed = #[b0, b1, b2, b3, b4, b5, b6, b7, b8, b9, b10, b11, b12, b13, b14] ∧
            ac = { tmps := #[.agg #[.slice a1 M.length c1, .slice a2 Q.length c2], .int .i64 r, .pointer (some ⟨w.heap.size, 0, none⟩), undef, u4, u5, u6, .int .i64 0, .int .i64 m, .int .i64 a, .int .i64 (k : Nat), cond b13 (.int .i64 o1) (u11), cond b14 (.int .i64 o2) (u12), .agg #[.slice a1 M.length c1, .slice a2 Q.length c2], .int .i64 r, .int .i64 0, .int .i64 0, .bool false, undef, .pointer (some ⟨w.heap.size, 0, none⟩), .slice a1 M.length c1, .int .i64 M.length, .int .i64 T, .int .i64 (k : Nat), .bool true, .int .i64 (k : Nat), cond b10 (.tuple #[.int .i64 o1, .int .i64 o2]) (u26), cond b0 (.pointer (some ⟨w.heap.size, 0, none⟩)) (u27), cond b1 (.slice a1 M.length c1) (u28), cond b2 (.int .i64 (k : Nat)) (u29), cond b3 (.pointer (some ⟨w.heap.size, 0, none⟩)) (u30), cond b4 (.slice a1 M.length c1) (u31), cond b5 (.int .i64 M.length) (u32), cond b6 (.slice (some ⟨g, 0, none⟩) M.length M.length) (u33), cond b7 (.agg #[.slice a1 M.length c1, .slice (some ⟨g, 0, none⟩) M.length M.length]) (u34), cond b8 (.int .i64 r) (u35), cond b9 (.tuple #[.int .i64 o1, .int .i64 o2]) (u36), cond b11 (.int .i64 o1) (u37), cond b12 (.int .i64 o2) (u38), u39, u40, u41, u42, u43, u44, u45, u46, u47, undef, undef], defers := [] } ∧ WsW wr w' M.length b6 g (sgQ M.length k)) ?_ ?_ ?_ ?_
      · rintro listed ac w' ⟨b0, b1, b2, b3, b4, b5, b6, b7, b8, b9, b10, b11, b12, b13, b14, g, _, rfl, _⟩
        rfl
      · rintro listed ac w' ⟨b0, b1, b2, b3, b4, b5, b6, b7, b8, b9, b10, b11, b12, b13, b14, g, _, rfl, rfl, hR⟩ hall
        have h0 := hall 0 (by simp)
        have h1 := hall 1 (by simp)
        have h2 := hall 2 (by simp)
        have h3 := hall 3 (by simp)
        have h4 := hall 4 (by simp)
        have h5 := hall 5 (by simp)
        have h6 := hall 6 (by simp)
        have h7 := hall 7 (by simp)
        have h8 := hall 8 (by simp)
        have h9 := hall 9 (by simp)
        have h10 := hall 10 (by simp)
        have h11 := hall 11 (by simp)
        have h12 := hall 12 (by simp)
        have h13 := hall 13 (by simp)
        have h14 := hall 14 (by simp)
        simp at h0 h1 h2 h3 h4 h5 h6 h7 h8 h9 h10 h11 h12 h13 h14
        subst h0 h1 h2 h3 h4 h5 h6 h7 h8 h9 h10 h11 h12 h13 h14
        clear hall
        refine hK0 _ _ ?_
        simp only [cond_true]
        have HB' := Lib.hid (HB.out.trans (hR.below.mono HB.out.size))
        clear hR HB x0
        rcases HOC.out with ⟨rfl, hst1, hst2⟩ | ⟨rfl, hst⟩
        · by_cases hm : m < o1
          · have HST := Lib.hid (hst1 hm)
            clear hst1 hst2
            go_wp2_with fail
            go_roundw
            case rel => exact ⟨k + 1, o1, k, by omega, by go_num, rfl, rfl, HST.out, HB'.out⟩
            case measure => simp [intOf]; omega
          · have HST := Lib.hid (hst2 (by omega))
            clear hst1 hst2
            go_wp2_with fail
            go_roundw
            case rel => exact ⟨k + 1, m, a, by omega, by go_num, rfl, rfl, HST.out, HB'.out⟩
            case measure => simp [intOf]; omega
        · have HST := Lib.hid (HNO.out (k + 1) (by omega) hst)
          clear hst
          go_wp2_with fail
          go_ret3
          exact ⟨by rw [HST.out]; rfl, hw1.trans (HB'.out.mono hw1.size)⟩
      · exact ⟨false, false, false, false, false, false, false, false, false, false, false, false, false, false, false, 0, by simp, rfl, rfl, ⟨(Below.refl _ _).drew, fun h => Bool.noConfusion h⟩⟩
      · rintro listed ac w' i oi ⟨b0, b1, b2, b3, b4, b5, b6, b7, b8, b9, b10, b11, b12, b13, b14, g, ⟨e1, e4, e5, e6, e7, e9, e10, e11, e12, e13, e14⟩, rfl, rfl, hR⟩ ho hun hdep
        have hi : i < 15 := by simpa using (Array.getElem?_eq_some_iff.1 ho).1
        obtain rfl | rfl | rfl | rfl | rfl | rfl | rfl | rfl | rfl | rfl | rfl | rfl | rfl | rfl | rfl : i = 0 ∨ i = 1 ∨ i = 2 ∨ i = 3 ∨ i = 4 ∨ i = 5 ∨ i = 6 ∨ i = 7 ∨ i = 8 ∨ i = 9 ∨ i = 10 ∨ i = 11 ∨ i = 12 ∨ i = 13 ∨ i = 14 := by omega
        · -- 0
          simp only [List.getElem?_toArray, List.getElem?_cons_zero, Option.some.injEq] at ho
          subst ho
          have hbi : b0 = false := by simpa using hun
          subst hbi
          obtain rfl : b1 = false := Bool.eq_false_iff.2 (fun h => Bool.noConfusion (e1 h))
          obtain rfl : b7 = false := Bool.eq_false_iff.2 (fun h => Bool.noConfusion (e7 h).1)
          obtain rfl : b9 = false := Bool.eq_false_iff.2 (fun h => Bool.noConfusion (e9 h).1)
          obtain rfl : b10 = false := Bool.eq_false_iff.2 (fun h => Bool.noConfusion (e10 h))
          obtain rfl : b11 = false := Bool.eq_false_iff.2 (fun h => Bool.noConfusion (e11 h))
          obtain rfl : b12 = false := Bool.eq_false_iff.2 (fun h => Bool.noConfusion (e12 h))
          obtain rfl : b13 = false := Bool.eq_false_iff.2 (fun h => Bool.noConfusion (e13 h))
          obtain rfl : b14 = false := Bool.eq_false_iff.2 (fun h => Bool.noConfusion (e14 h))
          refine wpOpIn_step rfl (fun K hK => ?_)
          clear hun hdep hi
          go_simp
          refine hK _ _ ⟨true, false, b2, b3, b4, b5, b6, false, b8, false, false, false, false, false, false, g, ⟨fun h => Bool.noConfusion h, e4, e5, e6, fun h => Bool.noConfusion h, fun h => Bool.noConfusion h, fun h => Bool.noConfusion h, fun h => Bool.noConfusion h, fun h => Bool.noConfusion h, fun h => Bool.noConfusion h, fun h => Bool.noConfusion h⟩, rfl, rfl, hR⟩
        · -- 1
          simp only [List.getElem?_toArray, List.getElem?_cons_succ, List.getElem?_cons_zero, Option.some.injEq] at ho
          subst ho
          have hbi : b1 = false := by simpa using hun
          subst hbi
          have hd0 : b0 = true := by have := hdep ⟨0, .data⟩ (by simp) rfl; simpa using this
          subst hd0
          obtain rfl : b7 = false := Bool.eq_false_iff.2 (fun h => Bool.noConfusion (e7 h).1)
          obtain rfl : b9 = false := Bool.eq_false_iff.2 (fun h => Bool.noConfusion (e9 h).1)
          obtain rfl : b10 = false := Bool.eq_false_iff.2 (fun h => Bool.noConfusion (e10 h))
          obtain rfl : b11 = false := Bool.eq_false_iff.2 (fun h => Bool.noConfusion (e11 h))
          obtain rfl : b12 = false := Bool.eq_false_iff.2 (fun h => Bool.noConfusion (e12 h))
          obtain rfl : b13 = false := Bool.eq_false_iff.2 (fun h => Bool.noConfusion (e13 h))
          obtain rfl : b14 = false := Bool.eq_false_iff.2 (fun h => Bool.noConfusion (e14 h))
          refine wpOpIn_step rfl (fun K hK => ?_)
          clear hun hdep hi
          have k0 := (hR.below.cell (p := ⟨w.heap.size, 0, none⟩) hwr0).trans x0
          go_simp
          refine hK _ _ ⟨true, true, b2, b3, b4, b5, b6, false, b8, false, false, false, false, false, false, g, ⟨fun _ => rfl, e4, e5, e6, fun h => Bool.noConfusion h, fun h => Bool.noConfusion h, fun h => Bool.noConfusion h, fun h => Bool.noConfusion h, fun h => Bool.noConfusion h, fun h => Bool.noConfusion h, fun h => Bool.noConfusion h⟩, rfl, rfl, hR⟩
        · -- 2
          simp only [List.getElem?_toArray, List.getElem?_cons_succ, List.getElem?_cons_zero, Option.some.injEq] at ho
          subst ho
          have hbi : b2 = false := by simpa using hun
          subst hbi
          obtain rfl : b6 = false := Bool.eq_false_iff.2 (fun h => Bool.noConfusion (e6 h).1)
          obtain rfl : b7 = false := Bool.eq_false_iff.2 (fun h => Bool.noConfusion (e7 h).2)
          obtain rfl : b9 = false := Bool.eq_false_iff.2 (fun h => Bool.noConfusion (e9 h).1)
          obtain rfl : b10 = false := Bool.eq_false_iff.2 (fun h => Bool.noConfusion (e10 h))
          obtain rfl : b11 = false := Bool.eq_false_iff.2 (fun h => Bool.noConfusion (e11 h))
          obtain rfl : b12 = false := Bool.eq_false_iff.2 (fun h => Bool.noConfusion (e12 h))
          obtain rfl : b13 = false := Bool.eq_false_iff.2 (fun h => Bool.noConfusion (e13 h))
          obtain rfl : b14 = false := Bool.eq_false_iff.2 (fun h => Bool.noConfusion (e14 h))
          refine wpOpIn_step rfl (fun K hK => ?_)
          clear hun hdep hi
          go_simp
          refine hK _ _ ⟨b0, b1, true, b3, b4, b5, false, false, b8, false, false, false, false, false, false, g, ⟨e1, e4, e5, fun h => Bool.noConfusion h, fun h => Bool.noConfusion h, fun h => Bool.noConfusion h, fun h => Bool.noConfusion h, fun h => Bool.noConfusion h, fun h => Bool.noConfusion h, fun h => Bool.noConfusion h, fun h => Bool.noConfusion h⟩, rfl, rfl, hR⟩
        · -- 3
          simp only [List.getElem?_toArray, List.getElem?_cons_succ, List.getElem?_cons_zero, Option.some.injEq] at ho
          subst ho
          have hbi : b3 = false := by simpa using hun
          subst hbi
          obtain rfl : b4 = false := Bool.eq_false_iff.2 (fun h => Bool.noConfusion (e4 h))
          obtain rfl : b5 = false := Bool.eq_false_iff.2 (fun h => Bool.noConfusion (e5 h))
          obtain rfl : b6 = false := Bool.eq_false_iff.2 (fun h => Bool.noConfusion (e6 h).2)
          obtain rfl : b7 = false := Bool.eq_false_iff.2 (fun h => Bool.noConfusion (e7 h).2)
          obtain rfl : b9 = false := Bool.eq_false_iff.2 (fun h => Bool.noConfusion (e9 h).1)
          obtain rfl : b10 = false := Bool.eq_false_iff.2 (fun h => Bool.noConfusion (e10 h))
          obtain rfl : b11 = false := Bool.eq_false_iff.2 (fun h => Bool.noConfusion (e11 h))
          obtain rfl : b12 = false := Bool.eq_false_iff.2 (fun h => Bool.noConfusion (e12 h))
          obtain rfl : b13 = false := Bool.eq_false_iff.2 (fun h => Bool.noConfusion (e13 h))
          obtain rfl : b14 = false := Bool.eq_false_iff.2 (fun h => Bool.noConfusion (e14 h))
          refine wpOpIn_step rfl (fun K hK => ?_)
          clear hun hdep hi
          go_simp
          refine hK _ _ ⟨b0, b1, b2, true, false, false, false, false, b8, false, false, false, false, false, false, g, ⟨e1, fun h => Bool.noConfusion h, fun h => Bool.noConfusion h, fun h => Bool.noConfusion h, fun h => Bool.noConfusion h, fun h => Bool.noConfusion h, fun h => Bool.noConfusion h, fun h => Bool.noConfusion h, fun h => Bool.noConfusion h, fun h => Bool.noConfusion h, fun h => Bool.noConfusion h⟩, rfl, rfl, hR⟩
        · -- 4
          simp only [List.getElem?_toArray, List.getElem?_cons_succ, List.getElem?_cons_zero, Option.some.injEq] at ho
          subst ho
          have hbi : b4 = false := by simpa using hun
          subst hbi
          have hd3 : b3 = true := by have := hdep ⟨3, .data⟩ (by simp) rfl; simpa using this
          subst hd3
          obtain rfl : b5 = false := Bool.eq_false_iff.2 (fun h => Bool.noConfusion (e5 h))
          obtain rfl : b6 = false := Bool.eq_false_iff.2 (fun h => Bool.noConfusion (e6 h).2)
          obtain rfl : b7 = false := Bool.eq_false_iff.2 (fun h => Bool.noConfusion (e7 h).2)
          obtain rfl : b9 = false := Bool.eq_false_iff.2 (fun h => Bool.noConfusion (e9 h).1)
          obtain rfl : b10 = false := Bool.eq_false_iff.2 (fun h => Bool.noConfusion (e10 h))
          obtain rfl : b11 = false := Bool.eq_false_iff.2 (fun h => Bool.noConfusion (e11 h))
          obtain rfl : b12 = false := Bool.eq_false_iff.2 (fun h => Bool.noConfusion (e12 h))
          obtain rfl : b13 = false := Bool.eq_false_iff.2 (fun h => Bool.noConfusion (e13 h))
          obtain rfl : b14 = false := Bool.eq_false_iff.2 (fun h => Bool.noConfusion (e14 h))
          refine wpOpIn_step rfl (fun K hK => ?_)
          clear hun hdep hi
          have k0 := (hR.below.cell (p := ⟨w.heap.size, 0, none⟩) hwr0).trans x0
          go_simp
          refine hK _ _ ⟨b0, b1, b2, true, true, false, false, false, b8, false, false, false, false, false, false, g, ⟨e1, fun _ => rfl, fun h => Bool.noConfusion h, fun h => Bool.noConfusion h, fun h => Bool.noConfusion h, fun h => Bool.noConfusion h, fun h => Bool.noConfusion h, fun h => Bool.noConfusion h, fun h => Bool.noConfusion h, fun h => Bool.noConfusion h, fun h => Bool.noConfusion h⟩, rfl, rfl, hR⟩
        · -- 5
          simp only [List.getElem?_toArray, List.getElem?_cons_succ, List.getElem?_cons_zero, Option.some.injEq] at ho
          subst ho
          have hbi : b5 = false := by simpa using hun
          subst hbi
          have hd4 : b4 = true := by have := hdep ⟨4, .data⟩ (by simp) rfl; simpa using this
          have hd3 : b3 = true := (e4 hd4)
          subst hd3 hd4
          obtain rfl : b6 = false := Bool.eq_false_iff.2 (fun h => Bool.noConfusion (e6 h).2)
          obtain rfl : b7 = false := Bool.eq_false_iff.2 (fun h => Bool.noConfusion (e7 h).2)
          obtain rfl : b9 = false := Bool.eq_false_iff.2 (fun h => Bool.noConfusion (e9 h).1)
          obtain rfl : b10 = false := Bool.eq_false_iff.2 (fun h => Bool.noConfusion (e10 h))
          obtain rfl : b11 = false := Bool.eq_false_iff.2 (fun h => Bool.noConfusion (e11 h))
          obtain rfl : b12 = false := Bool.eq_false_iff.2 (fun h => Bool.noConfusion (e12 h))
          obtain rfl : b13 = false := Bool.eq_false_iff.2 (fun h => Bool.noConfusion (e13 h))
          obtain rfl : b14 = false := Bool.eq_false_iff.2 (fun h => Bool.noConfusion (e14 h))
          refine wpOpIn_step rfl (fun K hK => ?_)
          clear hun hdep hi
          go_simp
          refine hK _ _ ⟨b0, b1, b2, true, true, true, false, false, b8, false, false, false, false, false, false, g, ⟨e1, fun _ => rfl, fun _ => rfl, fun h => Bool.noConfusion h, fun h => Bool.noConfusion h, fun h => Bool.noConfusion h, fun h => Bool.noConfusion h, fun h => Bool.noConfusion h, fun h => Bool.noConfusion h, fun h => Bool.noConfusion h, fun h => Bool.noConfusion h⟩, rfl, rfl, hR⟩
        · -- 6
          simp only [List.getElem?_toArray, List.getElem?_cons_succ, List.getElem?_cons_zero, Option.some.injEq] at ho
          subst ho
          have hbi : b6 = false := by simpa using hun
          subst hbi
          have hd2 : b2 = true := by have := hdep ⟨2, .data⟩ (by simp) rfl; simpa using this
          have hd5 : b5 = true := by have := hdep ⟨5, .data⟩ (by simp) rfl; simpa using this
          have hd4 : b4 = true := (e5 hd5)
          have hd3 : b3 = true := (e4 hd4)
          subst hd2 hd3 hd4 hd5
          obtain rfl : b7 = false := Bool.eq_false_iff.2 (fun h => Bool.noConfusion (e7 h).2)
          obtain rfl : b9 = false := Bool.eq_false_iff.2 (fun h => Bool.noConfusion (e9 h).1)
          obtain rfl : b10 = false := Bool.eq_false_iff.2 (fun h => Bool.noConfusion (e10 h))
          obtain rfl : b11 = false := Bool.eq_false_iff.2 (fun h => Bool.noConfusion (e11 h))
          obtain rfl : b12 = false := Bool.eq_false_iff.2 (fun h => Bool.noConfusion (e12 h))
          obtain rfl : b13 = false := Bool.eq_false_iff.2 (fun h => Bool.noConfusion (e13 h))
          obtain rfl : b14 = false := Bool.eq_false_iff.2 (fun h => Bool.noConfusion (e14 h))
          refine wpOpIn_step rfl (fun K hK => ?_)
          clear hun hdep hi
          go_simp
          refine ⟨trivial, (callsIn_wide.2 (callsIn_wide.1 (HRS.out w'))).mono ?_⟩
          rintro e w'' ⟨yg, rfl, hf, hb⟩
          refine hK _ _ ⟨b0, b1, true, true, true, true, true, false, b8, false, false, false, false, false, false, yg, ⟨e1, fun _ => rfl, fun _ => rfl, fun _ => ⟨rfl, rfl⟩, fun h => Bool.noConfusion h, fun h => Bool.noConfusion h, fun h => Bool.noConfusion h, fun h => Bool.noConfusion h, fun h => Bool.noConfusion h, fun h => Bool.noConfusion h, fun h => Bool.noConfusion h⟩, rfl, rfl, hR.row_ hf hb⟩
        · -- 7
          simp only [List.getElem?_toArray, List.getElem?_cons_succ, List.getElem?_cons_zero, Option.some.injEq] at ho
          subst ho
          have hbi : b7 = false := by simpa using hun
          subst hbi
          have hd1 : b1 = true := by have := hdep ⟨1, .data⟩ (by simp) rfl; simpa using this
          have hd6 : b6 = true := by have := hdep ⟨6, .data⟩ (by simp) rfl; simpa using this
          have hd5 : b5 = true := (e6 hd6).2
          have hd4 : b4 = true := (e5 hd5)
          have hd3 : b3 = true := (e4 hd4)
          have hd2 : b2 = true := (e6 hd6).1
          have hd0 : b0 = true := (e1 hd1)
          subst hd0 hd1 hd2 hd3 hd4 hd5 hd6
          obtain rfl : b9 = false := Bool.eq_false_iff.2 (fun h => Bool.noConfusion (e9 h).1)
          obtain rfl : b10 = false := Bool.eq_false_iff.2 (fun h => Bool.noConfusion (e10 h))
          obtain rfl : b11 = false := Bool.eq_false_iff.2 (fun h => Bool.noConfusion (e11 h))
          obtain rfl : b12 = false := Bool.eq_false_iff.2 (fun h => Bool.noConfusion (e12 h))
          obtain rfl : b13 = false := Bool.eq_false_iff.2 (fun h => Bool.noConfusion (e13 h))
          obtain rfl : b14 = false := Bool.eq_false_iff.2 (fun h => Bool.noConfusion (e14 h))
          refine wpOpIn_step rfl (fun K hK => ?_)
          clear hun hdep hi
          go_simp
          refine hK _ _ ⟨true, true, true, true, true, true, true, true, b8, false, false, false, false, false, false, g, ⟨fun _ => rfl, fun _ => rfl, fun _ => rfl, fun _ => ⟨rfl, rfl⟩, fun _ => ⟨rfl, rfl⟩, fun h => Bool.noConfusion h, fun h => Bool.noConfusion h, fun h => Bool.noConfusion h, fun h => Bool.noConfusion h, fun h => Bool.noConfusion h, fun h => Bool.noConfusion h⟩, rfl, rfl, hR⟩
        · -- 8
          simp only [List.getElem?_toArray, List.getElem?_cons_succ, List.getElem?_cons_zero, Option.some.injEq] at ho
          subst ho
          have hbi : b8 = false := by simpa using hun
          subst hbi
          obtain rfl : b9 = false := Bool.eq_false_iff.2 (fun h => Bool.noConfusion (e9 h).2)
          obtain rfl : b10 = false := Bool.eq_false_iff.2 (fun h => Bool.noConfusion (e10 h))
          obtain rfl : b11 = false := Bool.eq_false_iff.2 (fun h => Bool.noConfusion (e11 h))
          obtain rfl : b12 = false := Bool.eq_false_iff.2 (fun h => Bool.noConfusion (e12 h))
          obtain rfl : b13 = false := Bool.eq_false_iff.2 (fun h => Bool.noConfusion (e13 h))
          obtain rfl : b14 = false := Bool.eq_false_iff.2 (fun h => Bool.noConfusion (e14 h))
          refine wpOpIn_step rfl (fun K hK => ?_)
          clear hun hdep hi
          go_simp
          refine hK _ _ ⟨b0, b1, b2, b3, b4, b5, b6, b7, true, false, false, false, false, false, false, g, ⟨e1, e4, e5, e6, e7, fun h => Bool.noConfusion h, fun h => Bool.noConfusion h, fun h => Bool.noConfusion h, fun h => Bool.noConfusion h, fun h => Bool.noConfusion h, fun h => Bool.noConfusion h⟩, rfl, rfl, hR⟩
        · -- 9
          simp only [List.getElem?_toArray, List.getElem?_cons_succ, List.getElem?_cons_zero, Option.some.injEq] at ho
          subst ho
          have hbi : b9 = false := by simpa using hun
          subst hbi
          have hd7 : b7 = true := by have := hdep ⟨7, .data⟩ (by simp) rfl; simpa using this
          have hd8 : b8 = true := by have := hdep ⟨8, .data⟩ (by simp) rfl; simpa using this
          have hd6 : b6 = true := (e7 hd7).2
          have hd5 : b5 = true := (e6 hd6).2
          have hd4 : b4 = true := (e5 hd5)
          have hd3 : b3 = true := (e4 hd4)
          have hd2 : b2 = true := (e6 hd6).1
          have hd1 : b1 = true := (e7 hd7).1
          have hd0 : b0 = true := (e1 hd1)
          subst hd0 hd1 hd2 hd3 hd4 hd5 hd6 hd7 hd8
          obtain rfl : b10 = false := Bool.eq_false_iff.2 (fun h => Bool.noConfusion (e10 h))
          obtain rfl : b11 = false := Bool.eq_false_iff.2 (fun h => Bool.noConfusion (e11 h))
          obtain rfl : b12 = false := Bool.eq_false_iff.2 (fun h => Bool.noConfusion (e12 h))
          obtain rfl : b13 = false := Bool.eq_false_iff.2 (fun h => Bool.noConfusion (e13 h))
          obtain rfl : b14 = false := Bool.eq_false_iff.2 (fun h => Bool.noConfusion (e14 h))
          refine wpOpIn_step rfl (fun K hK => ?_)
          clear hun hdep hi
          go_simp
          refine ⟨trivial, (callsIn_wide.2 (HSB.out w' (HWB.out.trans (hR.below.mono HWB.out.size)) _ (hR.ints rfl))).mono ?_⟩
          rintro e w'' ⟨rfl, hb⟩
          refine hK _ _ ⟨true, true, true, true, true, true, true, true, true, true, false, false, false, false, false, g, ⟨fun _ => rfl, fun _ => rfl, fun _ => rfl, fun _ => ⟨rfl, rfl⟩, fun _ => ⟨rfl, rfl⟩, fun _ => ⟨rfl, rfl⟩, fun h => Bool.noConfusion h, fun h => Bool.noConfusion h, fun h => Bool.noConfusion h, fun h => Bool.noConfusion h, fun h => Bool.noConfusion h⟩, rfl, rfl, hR.keep hb⟩
        · -- 10
          simp only [List.getElem?_toArray, List.getElem?_cons_succ, List.getElem?_cons_zero, Option.some.injEq] at ho
          subst ho
          have hbi : b10 = false := by simpa using hun
          subst hbi
          have hd9 : b9 = true := by have := hdep ⟨9, .data⟩ (by simp) rfl; simpa using this
          have hd8 : b8 = true := (e9 hd9).2
          have hd7 : b7 = true := (e9 hd9).1
          have hd6 : b6 = true := (e7 hd7).2
          have hd5 : b5 = true := (e6 hd6).2
          have hd4 : b4 = true := (e5 hd5)
          have hd3 : b3 = true := (e4 hd4)
          have hd2 : b2 = true := (e6 hd6).1
          have hd1 : b1 = true := (e7 hd7).1
          have hd0 : b0 = true := (e1 hd1)
          subst hd0 hd1 hd2 hd3 hd4 hd5 hd6 hd7 hd8 hd9
          obtain rfl : b11 = false := Bool.eq_false_iff.2 (fun h => Bool.noConfusion (e11 h))
          obtain rfl : b12 = false := Bool.eq_false_iff.2 (fun h => Bool.noConfusion (e12 h))
          obtain rfl : b13 = false := Bool.eq_false_iff.2 (fun h => Bool.noConfusion (e13 h))
          obtain rfl : b14 = false := Bool.eq_false_iff.2 (fun h => Bool.noConfusion (e14 h))
          refine wpOpIn_step rfl (fun K hK => ?_)
          clear hun hdep hi
          go_simp
          refine hK _ _ ⟨true, true, true, true, true, true, true, true, true, true, true, false, false, false, false, g, ⟨fun _ => rfl, fun _ => rfl, fun _ => rfl, fun _ => ⟨rfl, rfl⟩, fun _ => ⟨rfl, rfl⟩, fun _ => ⟨rfl, rfl⟩, fun _ => rfl, fun h => Bool.noConfusion h, fun h => Bool.noConfusion h, fun h => Bool.noConfusion h, fun h => Bool.noConfusion h⟩, rfl, rfl, hR⟩
        · -- 11
          simp only [List.getElem?_toArray, List.getElem?_cons_succ, List.getElem?_cons_zero, Option.some.injEq] at ho
          subst ho
          have hbi : b11 = false := by simpa using hun
          subst hbi
          have hd10 : b10 = true := by have := hdep ⟨10, .data⟩ (by simp) rfl; simpa using this
          have hd9 : b9 = true := (e10 hd10)
          have hd8 : b8 = true := (e9 hd9).2
          have hd7 : b7 = true := (e9 hd9).1
          have hd6 : b6 = true := (e7 hd7).2
          have hd5 : b5 = true := (e6 hd6).2
          have hd4 : b4 = true := (e5 hd5)
          have hd3 : b3 = true := (e4 hd4)
          have hd2 : b2 = true := (e6 hd6).1
          have hd1 : b1 = true := (e7 hd7).1
          have hd0 : b0 = true := (e1 hd1)
          subst hd0 hd1 hd2 hd3 hd4 hd5 hd6 hd7 hd8 hd9 hd10
          obtain rfl : b13 = false := Bool.eq_false_iff.2 (fun h => Bool.noConfusion (e13 h))
          refine wpOpIn_step rfl (fun K hK => ?_)
          clear hun hdep hi
          go_simp
          refine hK _ _ ⟨true, true, true, true, true, true, true, true, true, true, true, true, b12, false, b14, g, ⟨fun _ => rfl, fun _ => rfl, fun _ => rfl, fun _ => ⟨rfl, rfl⟩, fun _ => ⟨rfl, rfl⟩, fun _ => ⟨rfl, rfl⟩, fun _ => rfl, fun _ => rfl, e12, fun h => Bool.noConfusion h, e14⟩, rfl, rfl, hR⟩
        · -- 12
          simp only [List.getElem?_toArray, List.getElem?_cons_succ, List.getElem?_cons_zero, Option.some.injEq] at ho
          subst ho
          have hbi : b12 = false := by simpa using hun
          subst hbi
          have hd10 : b10 = true := by have := hdep ⟨10, .data⟩ (by simp) rfl; simpa using this
          have hd9 : b9 = true := (e10 hd10)
          have hd8 : b8 = true := (e9 hd9).2
          have hd7 : b7 = true := (e9 hd9).1
          have hd6 : b6 = true := (e7 hd7).2
          have hd5 : b5 = true := (e6 hd6).2
          have hd4 : b4 = true := (e5 hd5)
          have hd3 : b3 = true := (e4 hd4)
          have hd2 : b2 = true := (e6 hd6).1
          have hd1 : b1 = true := (e7 hd7).1
          have hd0 : b0 = true := (e1 hd1)
          subst hd0 hd1 hd2 hd3 hd4 hd5 hd6 hd7 hd8 hd9 hd10
          obtain rfl : b14 = false := Bool.eq_false_iff.2 (fun h => Bool.noConfusion (e14 h))
          refine wpOpIn_step rfl (fun K hK => ?_)
          clear hun hdep hi
          go_simp
          refine hK _ _ ⟨true, true, true, true, true, true, true, true, true, true, true, b11, true, b13, false, g, ⟨fun _ => rfl, fun _ => rfl, fun _ => rfl, fun _ => ⟨rfl, rfl⟩, fun _ => ⟨rfl, rfl⟩, fun _ => ⟨rfl, rfl⟩, fun _ => rfl, e11, fun _ => rfl, e13, fun h => Bool.noConfusion h⟩, rfl, rfl, hR⟩
        · -- 13
          simp only [List.getElem?_toArray, List.getElem?_cons_succ, List.getElem?_cons_zero, Option.some.injEq] at ho
          subst ho
          have hbi : b13 = false := by simpa using hun
          subst hbi
          have hd11 : b11 = true := by have := hdep ⟨11, .data⟩ (by simp) rfl; simpa using this
          have hd10 : b10 = true := (e11 hd11)
          have hd9 : b9 = true := (e10 hd10)
          have hd8 : b8 = true := (e9 hd9).2
          have hd7 : b7 = true := (e9 hd9).1
          have hd6 : b6 = true := (e7 hd7).2
          have hd5 : b5 = true := (e6 hd6).2
          have hd4 : b4 = true := (e5 hd5)
          have hd3 : b3 = true := (e4 hd4)
          have hd2 : b2 = true := (e6 hd6).1
          have hd1 : b1 = true := (e7 hd7).1
          have hd0 : b0 = true := (e1 hd1)
          subst hd0 hd1 hd2 hd3 hd4 hd5 hd6 hd7 hd8 hd9 hd10 hd11
          refine wpOpIn_step rfl (fun K hK => ?_)
          clear hun hdep hi
          go_simp
          refine hK _ _ ⟨true, true, true, true, true, true, true, true, true, true, true, true, b12, true, b14, g, ⟨fun _ => rfl, fun _ => rfl, fun _ => rfl, fun _ => ⟨rfl, rfl⟩, fun _ => ⟨rfl, rfl⟩, fun _ => ⟨rfl, rfl⟩, fun _ => rfl, fun _ => rfl, e12, fun _ => rfl, e14⟩, rfl, rfl, hR⟩
        · -- 14
          simp only [List.getElem?_toArray, List.getElem?_cons_succ, List.getElem?_cons_zero, Option.some.injEq] at ho
          subst ho
          have hbi : b14 = false := by simpa using hun
          subst hbi
          have hd12 : b12 = true := by have := hdep ⟨12, .data⟩ (by simp) rfl; simpa using this
          have hd10 : b10 = true := (e12 hd12)
          have hd9 : b9 = true := (e10 hd10)
          have hd8 : b8 = true := (e9 hd9).2
          have hd7 : b7 = true := (e9 hd9).1
          have hd6 : b6 = true := (e7 hd7).2
          have hd5 : b5 = true := (e6 hd6).2
          have hd4 : b4 = true := (e5 hd5)
          have hd3 : b3 = true := (e4 hd4)
          have hd2 : b2 = true := (e6 hd6).1
          have hd1 : b1 = true := (e7 hd7).1
          have hd0 : b0 = true := (e1 hd1)
          subst hd0 hd1 hd2 hd3 hd4 hd5 hd6 hd7 hd8 hd9 hd10 hd12
          refine wpOpIn_step rfl (fun K hK => ?_)
          clear hun hdep hi
          go_simp
          refine hK _ _ ⟨true, true, true, true, true, true, true, true, true, true, true, b11, true, b13, true, g, ⟨fun _ => rfl, fun _ => rfl, fun _ => rfl, fun _ => ⟨rfl, rfl⟩, fun _ => ⟨rfl, rfl⟩, fun _ => ⟨rfl, rfl⟩, fun _ => rfl, e11, fun _ => rfl, e13, fun _ => rfl⟩, rfl, rfl, hR⟩
    · obtain rfl : k = T := by omega
      have HR := Lib.hid (HOK.out m a hws)
      clear hB hws
      go_wp2_with fail
      go_ret3
      exact ⟨by rw [HR.out]; rfl, hw1.trans (HB.out.mono hw1.size)⟩

/-- The model's own problem while its numbers on the right are appended. -/
structure OwW (w0 wr : World) (B : Nat) (m v : Value) (xs : List Int) : Prop where
  below : Below w0.heap.size w0 wr
  c0 : wr.cell? ⟨B, 0, none⟩ = some m
  c1 : wr.cell? ⟨B, 1, none⟩ = some v
  nf : ∀ o, wr.frozen? ⟨B, o, none⟩ = false
  own : FreshI w0.heap.size wr v xs
  ne : ∀ b, v.ownBlock = some b → b ≠ B
  lo : w0.heap.size ≤ B
  lt : B < wr.heap.size
theorem OwW.push {w0 wr w4 : World} {B C g cap n : Nat} {m v : Value} {xs : List Int} {x : Int} {t : TypeId} (h : OwW w0 wr B m v xs) (hn : n = xs.length)
    (hown : w4.ownsRow C 2 1 (.slice (some ⟨g, 0, none⟩) (n + 1) cap) (n + 1) (xs.map (Value.int .i64) ++ [.int .i64 x])) (hgrow : (wr.alloc (.cells #[.int .i64 x] t)).grownBy w4 v.ownBlock)
    (hat : v.ownBlock = some g ∨ g = (wr.alloc (.cells #[.int .i64 x] t)).heap.size) (hlt : g < w4.heap.size) :
    (w4.cell? ⟨B, 1, none⟩ = some v ∧ w4.frozen? ⟨B, 1, none⟩ = false) ∧ OwW w0 (w4.setCell ⟨B, 1, none⟩ (.slice (some ⟨g, 0, none⟩) (n + 1) cap)) B m (.slice (some ⟨g, 0, none⟩) (n + 1) cap) (xs ++ [x]) := by
  have hlB := h.lt
  have hloB := h.lo
  have hzb := h.below.size
  have hB : w4.heap[B]? = wr.heap[B]? := (hgrow.block B (by simp; omega) (fun c => h.ne B c.symm rfl)).trans (((Below.refl wr.heap.size wr).alloc (Nat.le_refl _) (.cells #[.int .i64 x] t)).block B hlB)
  have hc : ∀ o, w4.cell? ⟨B, o, none⟩ = wr.cell? ⟨B, o, none⟩ := fun o => World.cell?_of_block (w := wr) (a := ⟨B, o, none⟩) hB
  have hf : ∀ o, w4.frozen? ⟨B, o, none⟩ = false := fun o => (World.frozen?_of_block (w := wr) (a := ⟨B, o, none⟩) hB).trans (h.nf o)
  have hp := h.own.push hzb hn hown hat hlt
  have hbl := h.own.grow h.below hzb hgrow
  have hz4 := hgrow.size
  simp at hz4
  have hgB : g ≠ B := by
    rcases hat with c | c
    · exact h.ne g c
    · rw [c]; simp; omega
  have e0 := (hc 0).trans h.c0
  have e1 := (hc 1).trans h.c1
  refine ⟨⟨e1, hf 1⟩, ⟨hbl.setCell hloB _, ?_, ?_, ?_, ?_, ?_, hloB, by simp; omega⟩⟩
  · simp [e0, go_sem]
  · simp [e1, go_sem]
  · intro o; simp [hf, go_sem]
  · obtain ⟨g', cap', hv, h2, h3, ho⟩ := hp
    refine ⟨g', cap', hv, h2, by simpa using h3, ?_⟩
    refine urow_any ho (fun b hb' => Below.heap_setCell _ _ _ _ (by simp [Value.ownBlock] at hb'; show b ≠ B; omega))
  · intro b hb' e
    simp [Value.ownBlock] at hb'
    omega
theorem sg_step (s : Int) (j : Nat) : (List.range (j + 1)).map (fun i => if bit s i = true then (-1 : Int) else 1) = (List.range j).map (fun i => if bit s i = true then (-1 : Int) else 1) ++ [if bit s j = true then -1 else 1] := by
  rw [List.range_succ, List.map_append]
  rfl

set_option maxRecDepth 100000 in
set_option maxHeartbeats 4000000 in
theorem specWorstSigns_any (m q : Value) (M : List (List Int)) (Q : List Int) (r : Int) (w : World) (h1 : PM.Rows w m M) (h2 : Ints w q Q) :
    Calls Tryd.prog 39 #[.agg #[m, q], .int .i64 r] w (OutW3 w (wsOut M Q r)) := by
  have g1 := fun (w' : World) (h : Below w.heap.size w w') => h1.below h
  have g2 := fun (w' : World) (h : Below w.heap.size w w') => h2.below h
  obtain ⟨a1, c1, rfl, _⟩ := h1
  obtain ⟨a2, c2, rfl, _⟩ := h2
  obtain ⟨c, hc⟩ : ∃ c, c = ruleCode M Q 0 r := ⟨_, rfl⟩
  have HC := Lib.hid hc
  by_cases hcz : c ≠ 0
  · rw [wsOut_err hc.symm hcz]
    clear hc
    go_enter Tryd.func39, Tryd.ntmps39
    go_wp2_with fail
    refine (l08Code_any _ _ M Q 0 r _ (g1 _ (by (repeat' (first | (with_reducible exact Below.refl _ _) | (with_reducible assumption) | (with_reducible refine Below.alloc ?_ ?_ _) | (with_reducible refine Below.drew ?_) | (with_reducible refine below_drewN ?_ _) | (with_reducible refine Below.setCell ?_ ?_ _) | (with_reducible refine Below.trans ?_ (Below.mono (by with_reducible assumption) ?_)) | (with_reducible exact Below.size (by with_reducible assumption)) | go_size)))) (g2 _ (by (repeat' (first | (with_reducible exact Below.refl _ _) | (with_reducible assumption) | (with_reducible refine Below.alloc ?_ ?_ _) | (with_reducible refine Below.drew ?_) | (with_reducible refine below_drewN ?_ _) | (with_reducible refine Below.setCell ?_ ?_ _) | (with_reducible refine Below.trans ?_ (Below.mono (by with_reducible assumption) ?_)) | (with_reducible exact Below.size (by with_reducible assumption)) | go_size))))).mono ?_; rw [← HC.out]; rintro e w1 ⟨rfl, hb1⟩; obtain ⟨hc_hb1, hf_hb1⟩ := bcell hb1; obtain ⟨hcA_hb1, hfA_hb1⟩ := bcellG (W0 := w) hb1 (by (repeat' (first | (with_reducible exact Below.refl _ _) | (with_reducible assumption) | (with_reducible refine Below.alloc ?_ ?_ _) | (with_reducible refine Below.drew ?_) | (with_reducible refine below_drewN ?_ _) | (with_reducible refine Below.setCell ?_ ?_ _) | (with_reducible refine Below.trans ?_ (Below.mono (by with_reducible assumption) ?_)) | (with_reducible exact Below.size (by with_reducible assumption)) | go_size))); have hz_hb1 := hb1.size; (try simp at hz_hb1); (try simp only [Nat.add_one_le_iff] at hz_hb1); have hz0_hb1 : w.heap.size < w1.heap.size := (by omega)
    go_wp2_with fail
    go_ret3
    exact ⟨rfl, by (repeat' (first | (with_reducible exact Below.refl _ _) | (with_reducible assumption) | (with_reducible refine Below.alloc ?_ ?_ _) | (with_reducible refine Below.drew ?_) | (with_reducible refine below_drewN ?_ _) | (with_reducible refine Below.setCell ?_ ?_ _) | (with_reducible refine Below.trans ?_ (Below.mono (by with_reducible assumption) ?_)) | (with_reducible exact Below.size (by with_reducible assumption)) | go_size))⟩
  have h : ruleCode M Q 0 r = 0 := by omega
  have HC0 := Lib.hid h
  clear hc hcz HC
  obtain ⟨hp, hs0, hs1, hr0, hr1⟩ := rule_facts h
  have f1 := (isPB_facts hp).1
  have f2 := (isPB_facts hp).2.1
  have f3 := (isPB_facts hp).2.2.1
  obtain ⟨T, hT⟩ : ∃ T : Nat, T = 2 ^ M.length := ⟨_, rfl⟩
  have hT5 : T ≤ 32 := by rw [hT]; exact pow_le_32 f2
  have hT0 : 1 ≤ T := by rw [hT]; exact Nat.one_le_two_pow
  have hTp : (T : Int) = 2 ^ M.length := by rw [hT]; norm_cast
  have HNO := Lib.hid (fun (k : Nat) (hk : k ≤ T) (hn : wsTo M r k = none) => wsOut_no (Q := Q) h hT hn hk)
  have HOK := Lib.hid (fun (x y : Int) (hn : wsTo M r T = some (x, y)) => wsOut_ok (Q := Q) h hT hn)
  have HWB := Lib.hid (fun k x y h => wsTo_bd (M := M) (r := r) f1 f2 k x y h)
  have HSK := Lib.hid (fun (k : Nat) (w' : World) (hb : Below w.heap.size w w') (q' : Value) (hq : Ints w' q' (sgQ M.length k)) => l08Run_any _ q' M (sgQ M.length k) 0 r w' (g1 _ hb) hq (sgQ_PB hp k) hs0 hs1 hr0 hr1)
  have HRF := Lib.hid (fun (k : Nat) => runO_facts (M := M) (Q := sgQ M.length k) (r := r) f1 f2 33 [] 0 (Met.first hs0 hs1))
  obtain ⟨R, hR⟩ : ∃ R, R = wsOut M Q r := ⟨_, rfl⟩
  rw [← hR] at HNO HOK ⊢
  have HWR := Lib.hid (show wrap64 ((2 : Int) ^ M.length) = (T : Int) by rw [← hTp]; unfold wrap64; omega)
  obtain ⟨j0, hj0, hyy0, hyy1, hyy2⟩ := info_parts info_int
  rw [f3] at g2 ⊢
  clear h hp hs0 hs1 hr0 hr1 hT hTp hR f3
  obtain ⟨N, hN⟩ : ∃ N, N = M.length := ⟨_, rfl⟩
  rw [← hN] at g1 g2 f1 f2 HSK HRF HWR ⊢
  have HN := Lib.hid hN
  clear hN
  go_enter Tryd.func39, Tryd.ntmps39
  go_wp2_with fail
  refine (l08Code_any _ _ M Q 0 _ _ (g1 _ (by (repeat' (first | (with_reducible exact Below.refl _ _) | (with_reducible assumption) | (with_reducible refine Below.alloc ?_ ?_ _) | (with_reducible refine Below.drew ?_) | (with_reducible refine below_drewN ?_ _) | (with_reducible refine Below.setCell ?_ ?_ _) | (with_reducible refine Below.trans ?_ (Below.mono (by with_reducible assumption) ?_)) | (with_reducible exact Below.size (by with_reducible assumption)) | go_size)))) (g2 _ (by (repeat' (first | (with_reducible exact Below.refl _ _) | (with_reducible assumption) | (with_reducible refine Below.alloc ?_ ?_ _) | (with_reducible refine Below.drew ?_) | (with_reducible refine below_drewN ?_ _) | (with_reducible refine Below.setCell ?_ ?_ _) | (with_reducible refine Below.trans ?_ (Below.mono (by with_reducible assumption) ?_)) | (with_reducible exact Below.size (by with_reducible assumption)) | go_size))))).mono ?_; rw [HC0.out]; rintro e w1 ⟨rfl, hb1⟩; obtain ⟨hc_hb1, hf_hb1⟩ := bcell hb1; obtain ⟨hcA_hb1, hfA_hb1⟩ := bcellG (W0 := w) hb1 (by (repeat' (first | (with_reducible exact Below.refl _ _) | (with_reducible assumption) | (with_reducible refine Below.alloc ?_ ?_ _) | (with_reducible refine Below.drew ?_) | (with_reducible refine below_drewN ?_ _) | (with_reducible refine Below.setCell ?_ ?_ _) | (with_reducible refine Below.trans ?_ (Below.mono (by with_reducible assumption) ?_)) | (with_reducible exact Below.size (by with_reducible assumption)) | go_size))); have hz_hb1 := hb1.size; (try simp at hz_hb1); (try simp only [Nat.add_one_le_iff] at hz_hb1); have hz0_hb1 : w.heap.size < w1.heap.size := (by omega)
  have hw1 : Below w.heap.size w w1 := by (repeat' (first | (with_reducible exact Below.refl _ _) | (with_reducible assumption) | (with_reducible refine Below.alloc ?_ ?_ _) | (with_reducible refine Below.drew ?_) | (with_reducible refine below_drewN ?_ _) | (with_reducible refine Below.setCell ?_ ?_ _) | (with_reducible refine Below.trans ?_ (Below.mono (by with_reducible assumption) ?_)) | (with_reducible exact Below.size (by with_reducible assumption)) | go_size))
  have x0 : w1.cell? ⟨w.heap.size, 0, none⟩ = some (.slice a1 N c1) := by rw [hc_hb1 _ _ (by go_size)]; simp
  have x1 : w1.cell? ⟨w.heap.size, 1, none⟩ = some (.slice a2 N c2) := by rw [hc_hb1 _ _ (by go_size)]; simp
  clear hc_hb1 hf_hb1 hcA_hb1 hfA_hb1 hz_hb1 hb1
  go_wp2_with fail
  have HX := Lib.hid (fun wr (h : Below w1.heap.size w1 wr) => show wr.cell? ⟨w.heap.size, 0, none⟩ = some (.slice a1 N c1) ∧ wr.cell? ⟨w.heap.size, 1, none⟩ = some (.slice a2 N c2) from ⟨(h.cell (p := ⟨w.heap.size, 0, none⟩) hz0_hb1).trans x0, (h.cell (p := ⟨w.heap.size, 1, none⟩) hz0_hb1).trans x1⟩)
  clear x0 x1
  go_loopw [8, 9, 10, 11, 12, 13, 14, 15] (fun mo wo i _ _ _ _ _ wr => ∃ (k : Nat) (m a : Int), k ≤ T ∧ i = .int .i64 k ∧ mo = .int .i64 m ∧ wo = .int .i64 a ∧ ((k = 0 ∧ m = -1 ∧ a = 0) ∨ (1 ≤ k ∧ wsTo M r k = some (m, a))) ∧ Below w1.heap.size w1 wr) (fun _ _ i _ _ _ _ _ _ => T - (intOf i).toNat)
  case atStart => exact ⟨0, -1, 0, Nat.zero_le _, rfl, rfl, rfl, .inl ⟨rfl, rfl, rfl⟩, Below.refl _ _⟩
  case round =>
    obtain ⟨k, m, a, hk, rfl, rfl, rfl, hws, hB⟩ := hrel
    obtain ⟨W1, rfl⟩ : ∃ W1, W1 = wr := ⟨_, rfl⟩
    have HB := Lib.hid hB
    have HWS := Lib.hid hws
    obtain ⟨x0, x1⟩ := HX.out _ hB
    have hwr0 : w.heap.size < W1.heap.size := Nat.lt_of_lt_of_le hz0_hb1 hB.size
    have HWW := Lib.hid (hw1.trans (hB.mono hw1.size))
    by_cases hlt : k < T
    · clear hB hws
      have hwr := HWR.out
      go_wp2_with fail
      clear hwr
      have HI0 : OwW W1 ((W1.alloc (.cells #[] 2)).alloc (.cells #[.slice a1 N c1, .slice (some ⟨W1.heap.size, 0, none⟩) 0 0] 29)) (W1.heap.size + 1) (.slice a1 N c1) (.slice (some ⟨W1.heap.size, 0, none⟩) 0 0) [] := by
        refine ⟨by (repeat' (first | (with_reducible exact Below.refl _ _) | (with_reducible assumption) | (with_reducible refine Below.alloc ?_ ?_ _) | (with_reducible refine Below.drew ?_) | (with_reducible refine below_drewN ?_ _) | (with_reducible refine Below.setCell ?_ ?_ _) | (with_reducible refine Below.trans ?_ (Below.mono (by with_reducible assumption) ?_)) | (with_reducible exact Below.size (by with_reducible assumption)) | go_size)), by simp, by simp, fun o => by simp [go_sem], ?_, fun b hb => ?_, by omega, by simp⟩
        · exact (freshI_nil W1).below ((Below.refl _ _).alloc (Nat.le_refl _) _)
        · simp [Value.ownBlock] at hb; omega
      have HI0 := Lib.hid HI0
      generalize (W1.alloc (.cells #[] 2)).alloc (.cells #[.slice a1 N c1, .slice (some ⟨W1.heap.size, 0, none⟩) 0 0] 29) = W2 at *
      have HBC := Lib.hid (fun j => bit_cases (s := (k : Int)) (by omega) (by omega) j)
      go_loopw [12] (fun i wr => ∃ (j : Nat) (v : Value), j ≤ N ∧ i = .int .i64 j ∧ OwW W1 wr (W1.heap.size + 1) (.slice a1 N c1) v ((List.range j).map (fun i => if bit (k : Int) i = true then (-1 : Int) else 1))) (fun i _ => N - (intOf i).toNat)
      case atStart => exact ⟨0, _, Nat.zero_le _, rfl, HI0.out⟩
      case round =>
        obtain ⟨j, v, hj, rfl, hI⟩ := hrel
        have hb1 := hI.below
        have y1 := (hb1.cell (p := ⟨w.heap.size, 1, none⟩) hwr0).trans x1
        have v0 := hI.c0
        have v1 := hI.c1
        have HI := Lib.hid hI
        have HOW := Lib.hid hI.own.owns
        rw [row_length] at HOW
        obtain ⟨gv, cv, rfl, _, _⟩ := hI.own.shape (row_length _ _)
        clear hI hb1
        by_cases hlt2 : j < N
        · rcases HBC.out j with ⟨hz, hbt⟩ | ⟨hz, hbt⟩
          · have HSN := Lib.hid (show (List.range (j + 1)).map (fun i => if bit (k : Int) i = true then (-1 : Int) else 1) = (List.range j).map (fun i => if bit (k : Int) i = true then (-1 : Int) else 1) ++ [1] by rw [sg_step, hbt]; rfl)
            clear hbt
            go_wp2_with (at_builtin; refine wpList_append_lies _ rfl _ _ 23 rfl 0 2 j0 (.int .i64 0) 1 8 Tryd.underlying23 hj0 hyy0 hyy1 hyy2 rfl (by decide) (.slice (some ⟨gv, 0, none⟩) j cv) j _ rfl ((HOW.out).alloc _) _ 1 _ [.int .i64 (1)] rfl rfl (cell_one_new _ _ _) (by simp [Value.oneCell']) (by decide) (by unfold maxLen; omega) (by omega) (Nat.zero_le _) _ rfl ?_; intro g cap w3 hown hgrow hat hgl; obtain ⟨⟨e0, e1⟩, hput⟩ := HI.out.push (row_length _ _).symm hown hgrow hat hgl; rw [← HSN.out] at hput; have HP3 := Lib.hid hput; clear hput hown hgrow hat hgl)
            go_wp2_with fail
            go_roundw
            case rel => exact ⟨j + 1, _, by omega, by go_num, HP3.out⟩
            case measure => simp [intOf]; omega
          · have HSN := Lib.hid (show (List.range (j + 1)).map (fun i => if bit (k : Int) i = true then (-1 : Int) else 1) = (List.range j).map (fun i => if bit (k : Int) i = true then (-1 : Int) else 1) ++ [-1] by rw [sg_step, hbt]; rfl)
            clear hbt
            go_wp2_with (at_builtin; refine wpList_append_lies _ rfl _ _ 23 rfl 0 2 j0 (.int .i64 0) 1 8 Tryd.underlying23 hj0 hyy0 hyy1 hyy2 rfl (by decide) (.slice (some ⟨gv, 0, none⟩) j cv) j _ rfl ((HOW.out).alloc _) _ 1 _ [.int .i64 (-1)] rfl rfl (cell_one_new _ _ _) (by simp [Value.oneCell']) (by decide) (by unfold maxLen; omega) (by omega) (Nat.zero_le _) _ rfl ?_; intro g cap w3 hown hgrow hat hgl; obtain ⟨⟨e0, e1⟩, hput⟩ := HI.out.push (row_length _ _).symm hown hgrow hat hgl; rw [← HSN.out] at hput; have HP3 := Lib.hid hput; clear hput hown hgrow hat hgl)
            go_wp2_with fail
            go_roundw
            case rel => exact ⟨j + 1, _, by omega, by go_num, HP3.out⟩
            case measure => simp [intOf]; omega
        · obtain rfl : j = N := by omega
          have hys : (List.range j).map (fun i => if bit (k : Int) i = true then (-1 : Int) else 1) = sgQ j k := (sgQ_row j k).symm
          have hint := HI.out.own
          rw [hys] at hint
          have hints := (freshI_own hint).ints (sgQ_64 j k)
          have HBW := Lib.hid (HWW.out.trans (HI.out.below.mono HWW.out.size))
          have HRUN := Lib.hid (HSK.out k _ HBW.out _ hints)
          have hrf := HRF.out k
          have HB2 := Lib.hid (HB.out.trans (HI.out.below.mono HB.out.size))
          clear hys hint hints HI0
          obtain ⟨O, hO⟩ : ∃ O, O = runO M (sgQ j k) r 33 [] 0 := ⟨_, rfl⟩
          rw [← hO] at HRUN hrf
          have hl1 := hrf.1
          have hl2 := hrf.2.1
          have HST : Hid ((O.2 = 0 → (m < (O.1.length : Int) - 1 → wsTo M r (k + 1) = some ((O.1.length : Int) - 1, (k : Int))) ∧ (¬ m < (O.1.length : Int) - 1 → wsTo M r (k + 1) = some (m, a))) ∧ (O.2 ≠ 0 → wsTo M r (k + 1) = none)) := by
            show _ ∧ _
            rw [hO]
            have hN := HN.out
            rcases HWS.out with ⟨rfl, rfl, rfl⟩ | ⟨_, hws⟩
            · have h00 : wsTo M r 0 = some (0, 0) := rfl
              rw [hN] at hO ⊢
              refine ⟨fun he => ⟨fun _ => ?_, fun hm => ?_⟩, fun he => wsTo_no h00 he⟩
              · by_cases hm : (0 : Int) < ((runO M (sgQ M.length ((0 : Nat) : Int)) r 33 [] 0).1.length : Int) - 1
                · exact wsTo_more h00 he hm
                · rw [wsTo_same h00 he hm]
                  rw [hO] at hl2
                  have : ((runO M (sgQ M.length ((0 : Nat) : Int)) r 33 [] 0).1.length : Int) - 1 = 0 := by omega
                  rw [this]; rfl
              · rw [hO] at hl2; omega
            · rw [hN]
              exact ⟨fun he => ⟨fun hm => wsTo_more hws he hm, fun hm => wsTo_same hws he hm⟩, fun he => wsTo_no hws he⟩
          clear hO hrf
          have hlO : (O.1.length : Int) - 1 ≤ 32 := by omega
          by_cases he : O.2 = 0
          · have hst := HST.out.1 he
            rw [he] at HRUN
            clear HST he
            by_cases hm : m < (O.1.length : Int) - 1
            · have HS' := Lib.hid (hst.1 hm)
              clear hst
              go_wp2_with fail
              refine HRUN.out.mono ?_; rintro e w5 ⟨v5, rfl, ⟨g5, c5, rfl, _, _, _⟩, hb5⟩
              go_wp2_with fail
              go_roundw
              case rel => exact ⟨k + 1, _, _, by omega, by go_num, rfl, rfl, .inr ⟨by omega, HS'.out⟩, HB2.out.trans (hb5.mono HB2.out.size)⟩
              case measure => simp [intOf]; omega
            · have HS' := Lib.hid (hst.2 hm)
              clear hst
              go_wp2_with fail
              refine HRUN.out.mono ?_; rintro e w5 ⟨v5, rfl, ⟨g5, c5, rfl, _, _, _⟩, hb5⟩
              go_wp2_with fail
              go_roundw
              case rel => exact ⟨k + 1, _, _, by omega, by go_num, rfl, rfl, .inr ⟨by omega, HS'.out⟩, HB2.out.trans (hb5.mono HB2.out.size)⟩
              case measure => simp [intOf]; omega
          · have HR := Lib.hid (HNO.out (k + 1) (by omega) (HST.out.2 he))
            generalize O.2 = oe at *
            clear HST
            go_wp2_with fail
            refine HRUN.out.mono ?_; rintro e w5 ⟨v5, rfl, ⟨g5, c5, rfl, _, _, _⟩, hb5⟩
            go_wp2_with fail
            go_ret3
            exact ⟨by rw [HR.out]; rfl, HBW.out.trans (hb5.mono HBW.out.size)⟩
    · obtain rfl : k = T := by omega
      have hws' : wsTo M r k = some (m, a) := by
        rcases hws with ⟨e, _⟩ | ⟨_, e⟩
        · omega
        · exact e
      have HR := Lib.hid (HOK.out m a hws')
      clear hB hws hws'
      have hwr := HWR.out
      go_wp2_with fail
      clear hwr
      go_ret3
      exact ⟨by rw [HR.out]; rfl, hw1.trans (HB.out.mono hw1.size)⟩
set_option maxHeartbeats 4000000 in
theorem law_FnExactWorstSigns (m q : Value) (M : List (List Int)) (Q : List Int) (r : Int) (w : World) (hG : Tab8 w) (h1 : PM.Rows w m M) (h2 : Ints w q Q) :
    Calls Tryd.prog 10 #[.agg #[m, q], .int .i64 r] w fun e w' => e = .returned (.bool true) ∧ Below w.heap.size w w' := by
  have g1 := fun (w' : World) (h : Below w.heap.size w w') => h1.below h
  have gl := fun (w' : World) (h : Below w.heap.size w w') => hG.below h
  clear hG
  have g2 := fun (w' : World) (h : Below w.heap.size w w') => h2.below h
  have I1 := Lib.hid (rows_I64 h1)
  have I2 := Lib.hid (ints_I64 h2)
  obtain ⟨a1, c1, rfl, _⟩ := h1
  obtain ⟨a2, c2, rfl, _⟩ := h2
  by_cases hz : szP M Q 1048576 < 0
  · have e1 := szP_neg hz
    have E1 := Lib.hid e1
    clear hz e1
    go_enter Tryd.func10, Tryd.ntmps10
    go_wp2_with fail
    refine (szProblem_any _ _ M Q _ (g1 _ (by (repeat' (first | (with_reducible exact Below.refl _ _) | (with_reducible assumption) | (with_reducible refine Below.alloc ?_ ?_ _) | (with_reducible refine Below.drew ?_) | (with_reducible refine below_drewN ?_ _) | (with_reducible refine Below.setCell ?_ ?_ _) | (with_reducible refine Below.trans ?_ (Below.mono (by with_reducible assumption) ?_)) | (with_reducible exact Below.size (by with_reducible assumption)) | go_size)))) (g2 _ (by (repeat' (first | (with_reducible exact Below.refl _ _) | (with_reducible assumption) | (with_reducible refine Below.alloc ?_ ?_ _) | (with_reducible refine Below.drew ?_) | (with_reducible refine below_drewN ?_ _) | (with_reducible refine Below.setCell ?_ ?_ _) | (with_reducible refine Below.trans ?_ (Below.mono (by with_reducible assumption) ?_)) | (with_reducible exact Below.size (by with_reducible assumption)) | go_size))))).mono ?_; rw [E1.out]; rintro e w1 ⟨rfl, hb1⟩; obtain ⟨hc_hb1, hf_hb1⟩ := bcell hb1; obtain ⟨hcA_hb1, hfA_hb1⟩ := bcellG (W0 := w) hb1 (by (repeat' (first | (with_reducible exact Below.refl _ _) | (with_reducible assumption) | (with_reducible refine Below.alloc ?_ ?_ _) | (with_reducible refine Below.drew ?_) | (with_reducible refine below_drewN ?_ _) | (with_reducible refine Below.setCell ?_ ?_ _) | (with_reducible refine Below.trans ?_ (Below.mono (by with_reducible assumption) ?_)) | (with_reducible exact Below.size (by with_reducible assumption)) | go_size))); have hz_hb1 := hb1.size; (try simp at hz_hb1); (try simp only [Nat.add_one_le_iff] at hz_hb1); have hz0_hb1 : w.heap.size < w1.heap.size := (by omega)
    go_wp2_with fail
    go_ret
    refine ⟨rfl, ?_⟩
    (repeat' (first | (with_reducible exact Below.refl _ _) | (with_reducible assumption) | (with_reducible refine Below.alloc ?_ ?_ _) | (with_reducible refine Below.drew ?_) | (with_reducible refine below_drewN ?_ _) | (with_reducible refine Below.setCell ?_ ?_ _) | (with_reducible refine Below.trans ?_ (Below.mono (by with_reducible assumption) ?_)) | (with_reducible exact Below.size (by with_reducible assumption)) | go_size))
  obtain ⟨hn1, hn2⟩ := szP_fits hz
  have hle := szP_le M Q
  have HN1 := Lib.hid hn1
  have HN2 := Lib.hid hn2
  clear hn1 hn2
  have hspec := fun (m q : Value) (w : World) (h1 : PM.Rows w m M) (h2 : Ints w q Q) => specWorstSigns_any m q M Q r w h1 h2
  have himpl := fun (m q : Value) (w : World) (hg : Tab8 w) (h1 : PM.Rows w m M) (h2 : Ints w q Q) => implWorstSigns_any m q M Q r w hg h1 h2
  generalize wsOut M Q r = o at *
  obtain ⟨O, O2, code⟩ := o
  have HS := Lib.hid hspec
  have HI := Lib.hid himpl
  clear hspec himpl
  go_enter Tryd.func10, Tryd.ntmps10
  go_wp2_with fail
  refine (szProblem_any _ _ M Q _ (g1 _ (by (repeat' (first | (with_reducible exact Below.refl _ _) | (with_reducible assumption) | (with_reducible refine Below.alloc ?_ ?_ _) | (with_reducible refine Below.drew ?_) | (with_reducible refine below_drewN ?_ _) | (with_reducible refine Below.setCell ?_ ?_ _) | (with_reducible refine Below.trans ?_ (Below.mono (by with_reducible assumption) ?_)) | (with_reducible exact Below.size (by with_reducible assumption)) | go_size)))) (g2 _ (by (repeat' (first | (with_reducible exact Below.refl _ _) | (with_reducible assumption) | (with_reducible refine Below.alloc ?_ ?_ _) | (with_reducible refine Below.drew ?_) | (with_reducible refine below_drewN ?_ _) | (with_reducible refine Below.setCell ?_ ?_ _) | (with_reducible refine Below.trans ?_ (Below.mono (by with_reducible assumption) ?_)) | (with_reducible exact Below.size (by with_reducible assumption)) | go_size))))).mono ?_; rintro e w1 ⟨rfl, hb1⟩; obtain ⟨hc_hb1, hf_hb1⟩ := bcell hb1; obtain ⟨hcA_hb1, hfA_hb1⟩ := bcellG (W0 := w) hb1 (by (repeat' (first | (with_reducible exact Below.refl _ _) | (with_reducible assumption) | (with_reducible refine Below.alloc ?_ ?_ _) | (with_reducible refine Below.drew ?_) | (with_reducible refine below_drewN ?_ _) | (with_reducible refine Below.setCell ?_ ?_ _) | (with_reducible refine Below.trans ?_ (Below.mono (by with_reducible assumption) ?_)) | (with_reducible exact Below.size (by with_reducible assumption)) | go_size))); have hz_hb1 := hb1.size; (try simp at hz_hb1); (try simp only [Nat.add_one_le_iff] at hz_hb1); have hz0_hb1 : w.heap.size < w1.heap.size := (by omega)
  generalize szP M Q 1048576 = left at *
  have hw1 : Below w.heap.size w w1 := by (repeat' (first | (with_reducible exact Below.refl _ _) | (with_reducible assumption) | (with_reducible refine Below.alloc ?_ ?_ _) | (with_reducible refine Below.drew ?_) | (with_reducible refine below_drewN ?_ _) | (with_reducible refine Below.setCell ?_ ?_ _) | (with_reducible refine Below.trans ?_ (Below.mono (by with_reducible assumption) ?_)) | (with_reducible exact Below.size (by with_reducible assumption)) | go_size))
  go_wp2_with fail
  refine (toProblem_out _ _ M Q _ (g1 _ (by (repeat' (first | (with_reducible exact Below.refl _ _) | (with_reducible assumption) | (with_reducible refine Below.alloc ?_ ?_ _) | (with_reducible refine Below.drew ?_) | (with_reducible refine below_drewN ?_ _) | (with_reducible refine Below.setCell ?_ ?_ _) | (with_reducible refine Below.trans ?_ (Below.mono (by with_reducible assumption) ?_)) | (with_reducible exact Below.size (by with_reducible assumption)) | go_size)))) (g2 _ (by (repeat' (first | (with_reducible exact Below.refl _ _) | (with_reducible assumption) | (with_reducible refine Below.alloc ?_ ?_ _) | (with_reducible refine Below.drew ?_) | (with_reducible refine below_drewN ?_ _) | (with_reducible refine Below.setCell ?_ ?_ _) | (with_reducible refine Below.trans ?_ (Below.mono (by with_reducible assumption) ?_)) | (with_reducible exact Below.size (by with_reducible assumption)) | go_size)))) HN1.out HN2.out).mono ?_; rintro e w2 ⟨gA, gB, us2, rfl, hr2, hb2⟩; obtain ⟨hc_hb2, hf_hb2⟩ := bcell hb2; obtain ⟨hcA_hb2, hfA_hb2⟩ := bcellG (W0 := w1) hb2 (by (repeat' (first | (with_reducible exact Below.refl _ _) | (with_reducible assumption) | (with_reducible refine Below.alloc ?_ ?_ _) | (with_reducible refine Below.drew ?_) | (with_reducible refine below_drewN ?_ _) | (with_reducible refine Below.setCell ?_ ?_ _) | (with_reducible refine Below.trans ?_ (Below.mono (by with_reducible assumption) ?_)) | (with_reducible exact Below.size (by with_reducible assumption)) | go_size))); have hz_hb2 := hb2.size; (try simp at hz_hb2); (try simp only [Nat.add_one_le_iff] at hz_hb2); have hz0_hb2 : w.heap.size < w2.heap.size := (by omega)
  have R2 := Lib.hid (hr2.reads I1.out I2.out)
  clear hr2
  have hw2 : Below w.heap.size w w2 := hw1.trans (hb2.mono hw1.size)
  go_wp2_with fail
  refine (HS.out _ _ _ R2.out.1 R2.out.2).mono ?_; rintro e w3 ⟨rfl, hb3⟩; dsimp only; obtain ⟨hc_hb3, hf_hb3⟩ := bcell hb3; obtain ⟨hcA_hb3, hfA_hb3⟩ := bcellG (W0 := w2) hb3 (by (repeat' (first | (with_reducible exact Below.refl _ _) | (with_reducible assumption) | (with_reducible refine Below.alloc ?_ ?_ _) | (with_reducible refine Below.drew ?_) | (with_reducible refine below_drewN ?_ _) | (with_reducible refine Below.setCell ?_ ?_ _) | (with_reducible refine Below.trans ?_ (Below.mono (by with_reducible assumption) ?_)) | (with_reducible exact Below.size (by with_reducible assumption)) | go_size))); have hz_hb3 := hb3.size; (try simp at hz_hb3); (try simp only [Nat.add_one_le_iff] at hz_hb3); have hz0_hb3 : w.heap.size < w3.heap.size := (by omega)
  clear R2
  have hw3 : Below w.heap.size w w3 := hw2.trans (hb3.mono hw2.size)
  go_wp2_with fail
  refine (toProblem_out _ _ M Q _ (g1 _ (by (repeat' (first | (with_reducible exact Below.refl _ _) | (with_reducible assumption) | (with_reducible refine Below.alloc ?_ ?_ _) | (with_reducible refine Below.drew ?_) | (with_reducible refine below_drewN ?_ _) | (with_reducible refine Below.setCell ?_ ?_ _) | (with_reducible refine Below.trans ?_ (Below.mono (by with_reducible assumption) ?_)) | (with_reducible exact Below.size (by with_reducible assumption)) | go_size)))) (g2 _ (by (repeat' (first | (with_reducible exact Below.refl _ _) | (with_reducible assumption) | (with_reducible refine Below.alloc ?_ ?_ _) | (with_reducible refine Below.drew ?_) | (with_reducible refine below_drewN ?_ _) | (with_reducible refine Below.setCell ?_ ?_ _) | (with_reducible refine Below.trans ?_ (Below.mono (by with_reducible assumption) ?_)) | (with_reducible exact Below.size (by with_reducible assumption)) | go_size)))) HN1.out HN2.out).mono ?_; rintro e w4 ⟨gC, gD, us4, rfl, hr4, hb4⟩; obtain ⟨hc_hb4, hf_hb4⟩ := bcell hb4; obtain ⟨hcA_hb4, hfA_hb4⟩ := bcellG (W0 := w3) hb4 (by (repeat' (first | (with_reducible exact Below.refl _ _) | (with_reducible assumption) | (with_reducible refine Below.alloc ?_ ?_ _) | (with_reducible refine Below.drew ?_) | (with_reducible refine below_drewN ?_ _) | (with_reducible refine Below.setCell ?_ ?_ _) | (with_reducible refine Below.trans ?_ (Below.mono (by with_reducible assumption) ?_)) | (with_reducible exact Below.size (by with_reducible assumption)) | go_size))); have hz_hb4 := hb4.size; (try simp at hz_hb4); (try simp only [Nat.add_one_le_iff] at hz_hb4); have hz0_hb4 : w.heap.size < w4.heap.size := (by omega)
  have HR4 := Lib.hid hr4
  clear hr4
  have hw4 : Below w.heap.size w w4 := hw3.trans (hb4.mono hw3.size)
  go_wp2_with fail
  have hr4a := HR4.out.below (w' := w4.alloc (.cells #[.slice (some ⟨gC, 0, none⟩) M.length M.length, .slice (some ⟨gD, 0, none⟩) Q.length Q.length] 29)) (B := w4.heap.size) ((Below.refl _ _).alloc (Nat.le_refl _) _) (Nat.le_refl _)
  have R4 := Lib.hid (hr4a.reads I1.out I2.out)
  clear hr4a
  refine (HI.out _ _ _ (gl _ (by (repeat' (first | (with_reducible exact Below.refl _ _) | (with_reducible assumption) | (with_reducible refine Below.alloc ?_ ?_ _) | (with_reducible refine Below.drew ?_) | (with_reducible refine below_drewN ?_ _) | (with_reducible refine Below.setCell ?_ ?_ _) | (with_reducible refine Below.trans ?_ (Below.mono (by with_reducible assumption) ?_)) | (with_reducible exact Below.size (by with_reducible assumption)) | go_size)))) R4.out.1 R4.out.2).mono ?_; rintro e w5 ⟨rfl, hb5⟩; dsimp only; obtain ⟨hc_hb5, hf_hb5⟩ := bcell hb5; obtain ⟨hcA_hb5, hfA_hb5⟩ := bcellG (W0 := w4) hb5 (by (repeat' (first | (with_reducible exact Below.refl _ _) | (with_reducible assumption) | (with_reducible refine Below.alloc ?_ ?_ _) | (with_reducible refine Below.drew ?_) | (with_reducible refine below_drewN ?_ _) | (with_reducible refine Below.setCell ?_ ?_ _) | (with_reducible refine Below.trans ?_ (Below.mono (by with_reducible assumption) ?_)) | (with_reducible exact Below.size (by with_reducible assumption)) | go_size))); have hz_hb5 := hb5.size; (try simp at hz_hb5); (try simp only [Nat.add_one_le_iff] at hz_hb5); have hz0_hb5 : w.heap.size < w5.heap.size := (by omega)
  have hz45 : w4.heap.size < w5.heap.size := by omega
  clear R4
  have hw45 : Below w4.heap.size w4 w5 := ((Below.refl w4.heap.size w4).alloc (Nat.le_refl _) _).trans (hb5.mono (by simp))
  have x50 : w5.cell? ⟨w4.heap.size, 0, none⟩ = some (.slice (some ⟨gC, 0, none⟩) M.length M.length) := by rw [hc_hb5 _ _ (by simp)]; simp
  have x51 : w5.cell? ⟨w4.heap.size, 1, none⟩ = some (.slice (some ⟨gD, 0, none⟩) Q.length Q.length) := by rw [hc_hb5 _ _ (by simp)]; simp
  have hw13 : Below w1.heap.size w1 w3 := hb2.trans (hb3.mono hb2.size)
  have hw35 : Below w3.heap.size w3 w5 := hb4.trans (hw45.mono hb4.size)
  have hw15 : Below w1.heap.size w1 w5 := hw13.trans (hw35.mono hw13.size)
  have hw5 : Below w.heap.size w w5 := hw3.trans (hw35.mono hw3.size)
  have p10 : w1.cell? ⟨w.heap.size, 0, none⟩ = some (.slice a1 M.length c1) := by rw [hc_hb1 _ _ (by simp)]; simp
  have p11 : w1.cell? ⟨w.heap.size, 1, none⟩ = some (.slice a2 Q.length c2) := by rw [hc_hb1 _ _ (by simp)]; simp
  have hvq : Vq w5 w.heap.size w4.heap.size (.slice a1 M.length c1) (.slice a2 Q.length c2) (.slice (some ⟨gC, 0, none⟩) M.length M.length) (.slice (some ⟨gD, 0, none⟩) Q.length Q.length) :=
    ⟨(hw15.cell (p := ⟨w.heap.size, 0, none⟩) hz0_hb1).trans p10, (hw15.cell (p := ⟨w.heap.size, 1, none⟩) hz0_hb1).trans p11, x50, x51, by omega, hz45⟩
  have hX5 := HR4.out.below hw45 (Nat.le_refl _)
  obtain ⟨P, hP⟩ : ∃ P, P = w.heap.size := ⟨_, rfl⟩
  obtain ⟨A1, hA1⟩ : ∃ A1, A1 = w3.heap.size := ⟨_, rfl⟩
  obtain ⟨V, hV⟩ : ∃ V, V = w4.heap.size := ⟨_, rfl⟩
  rw [← hP] at hvq
  rw [← hA1] at hX5
  rw [← hV] at hX5 hvq hz45
  rw [← hP, ← hV]
  clear hP hA1 hV hw13 hw15 hw35 hw45 p10 p11 x50 x51 HR4 hw1 hw2 hw3 hw4 HS
  clear hc_hb1 hf_hb1 hcA_hb1 hfA_hb1 hz_hb1 hz0_hb1 hb1 hc_hb2 hf_hb2 hcA_hb2 hfA_hb2 hz_hb2 hz0_hb2 hb2 hc_hb3 hf_hb3 hcA_hb3 hfA_hb3 hz_hb3 hz0_hb3 hb3 hc_hb4 hf_hb4 hcA_hb4 hfA_hb4 hz_hb4 hz0_hb4 hb4 hc_hb5 hf_hb5 hcA_hb5 hfA_hb5 hz_hb5 hz0_hb5 hb5
  have RX := Lib.hid (hX5.reads I1.out I2.out)
  obtain ⟨k1, k2, k3, k4, l1, l2⟩ := hvq
  have r1 : ∀ w', Below w5.heap.size w5 w' → w'.cell? ⟨P, 0, none⟩ = some (.slice a1 M.length c1) := fun w' h => (h.cell (p := ⟨P, 0, none⟩) (by show P < _; omega)).trans k1
  have r2 : ∀ w', Below w5.heap.size w5 w' → w'.cell? ⟨P, 1, none⟩ = some (.slice a2 Q.length c2) := fun w' h => (h.cell (p := ⟨P, 1, none⟩) (by show P < _; omega)).trans k2
  have r3 : ∀ w', Below w5.heap.size w5 w' → w'.cell? ⟨V, 0, none⟩ = some (.slice (some ⟨gC, 0, none⟩) M.length M.length) := fun w' h => (h.cell (p := ⟨V, 0, none⟩) (by show V < _; omega)).trans k3
  have r4 : ∀ w', Below w5.heap.size w5 w' → w'.cell? ⟨V, 1, none⟩ = some (.slice (some ⟨gD, 0, none⟩) Q.length Q.length) := fun w' h => (h.cell (p := ⟨V, 1, none⟩) (by show V < _; omega)).trans k4
  clear hX5 k1 k2 k3 k4 hz45
  go_wp2_with fail
  go_region_held3 (fun w' => Below w5.heap.size w5 w') ((repeat' (first | (with_reducible exact Below.refl _ _) | (with_reducible assumption) | (with_reducible refine Below.alloc ?_ ?_ _) | (with_reducible refine Below.drew ?_) | (with_reducible refine below_drewN ?_ _) | (with_reducible refine Below.setCell ?_ ?_ _) | (with_reducible refine Below.trans ?_ (Below.mono (by with_reducible assumption) ?_)) | (with_reducible exact Below.size (by with_reducible assumption)) | go_size)))
    (first | (go_at_call 15; refine (toProblem_out _ _ M Q _ (g1 _ (hw5.trans (Below.mono (by assumption) hw5.size))) (g2 _ (hw5.trans (Below.mono (by assumption) hw5.size))) HN1.out HN2.out).mono ?_; rintro e w8 ⟨gE, gF, us8, rfl, hr8, hb8⟩; have hS8 : Below w5.heap.size w5 w8 := (by (repeat' (first | (with_reducible exact Below.refl _ _) | (with_reducible assumption) | (with_reducible refine Below.alloc ?_ ?_ _) | (with_reducible refine Below.drew ?_) | (with_reducible refine below_drewN ?_ _) | (with_reducible refine Below.setCell ?_ ?_ _) | (with_reducible refine Below.trans ?_ (Below.mono (by with_reducible assumption) ?_)) | (with_reducible exact Below.size (by with_reducible assumption)) | go_size))); have R8 := Lib.hid (hr8.reads I1.out I2.out); clear hr8) | (go_at_call 17; refine (eqProblem_same _ _ _ _ M Q _ (RX.out.1.below hS8) (RX.out.2.below hS8) R8.out.1 R8.out.2).mono ?_; rintro e w9 ⟨rfl, hb9⟩; have hS9 : Below w5.heap.size w5 w9 := (by (repeat' (first | (with_reducible exact Below.refl _ _) | (with_reducible assumption) | (with_reducible refine Below.alloc ?_ ?_ _) | (with_reducible refine Below.drew ?_) | (with_reducible refine below_drewN ?_ _) | (with_reducible refine Below.setCell ?_ ?_ _) | (with_reducible refine Below.trans ?_ (Below.mono (by with_reducible assumption) ?_)) | (with_reducible exact Below.size (by with_reducible assumption)) | go_size)))))
  have hw9 : Below w.heap.size w w9 := hw5.trans (hS9.mono hw5.size)
  go_wp2_with fail
  go_ret
  exact ⟨rfl, hw9⟩
end Go.Proofs.YtopokicejgjcoaaDoor.PW
