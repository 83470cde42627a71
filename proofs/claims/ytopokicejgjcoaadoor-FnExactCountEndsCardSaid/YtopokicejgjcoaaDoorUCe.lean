/-
  The exact law of CountEnds: both sides' answers, and the law.
-/
import Derived.Test.YtopokicejgjcoaaDoorUSt
namespace Go.Proofs.YtopokicejgjcoaaDoor.PW
open Go.RowKit Go.Proofs.YtopokicejgjcoaaDoor
open Go.Proofs.YtopokicejgjcoaaDoor.PM Go.Proofs.YtopokicejgjcoaaDoor.PX
attribute [local go_sem] Oper.semAt_some

/-- How many runs from the first sets end so. -/
def endsTo (M : List (List Int)) (Q : List Int) (r : Int) : Nat → List Int
  | 0 => [0, 0, 0]
  | k + 1 => (endsTo M Q r k).set (runO M Q r 33 [] (k : Int)).2.toNat ((endsTo M Q r k).getD (runO M Q r 33 [] (k : Int)).2.toNat 0 + 1)
theorem endsTo_length (M : List (List Int)) (Q : List Int) (r : Int) : ∀ k, (endsTo M Q r k).length = 3
  | 0 => rfl
  | k + 1 => by show (List.set _ _ _).length = 3; rw [List.length_set]; exact endsTo_length M Q r k
theorem endsTo_bd (M : List (List Int)) (Q : List Int) (r : Int) : ∀ k j, 0 ≤ (endsTo M Q r k).getD j 0 ∧ (endsTo M Q r k).getD j 0 ≤ k
  | 0, j => by
    show 0 ≤ List.getD [0, 0, 0] j (0 : Int) ∧ List.getD [0, 0, 0] j (0 : Int) ≤ _
    match j with
    | 0 => simp
    | 1 => simp
    | 2 => simp
    | j + 3 => simp
  | k + 1, j => by
    have ih := endsTo_bd M Q r k
    have hl := endsTo_length M Q r k
    show 0 ≤ (List.set _ _ _).getD j 0 ∧ (List.set _ _ _).getD j 0 ≤ _
    generalize (runO M Q r 33 [] (k : Int)).2.toNat = e at *
    have hj := ih j
    have he := ih e
    rw [List.getD_eq_getElem?_getD, List.getElem?_set]
    split
    · split
      · rename_i h1 h2
        subst h1
        simp only [Option.getD_some]
        omega
      · simp; omega
    · rw [← List.getD_eq_getElem?_getD]
      omega
def ceOut (M : List (List Int)) (Q : List Int) (r : Int) : List Int × Int :=
  if ruleCode M Q 0 r ≠ 0 then ([], ruleCode M Q 0 r) else (endsTo M Q r (2 ^ M.length), 0)
theorem ceOut_err {M : List (List Int)} {Q : List Int} {r c : Int} (h : ruleCode M Q 0 r = c) (hc : c ≠ 0) : ceOut M Q r = ([], c) := by unfold ceOut; rw [if_pos (by omega), h]
theorem ceOut_ok {M : List (List Int)} {Q : List Int} {r : Int} (h : ruleCode M Q 0 r = 0) : ceOut M Q r = (endsTo M Q r (2 ^ M.length), 0) := by unfold ceOut; rw [if_neg (by omega)]
theorem fine_ce (M : List (List Int)) (Q : List Int) (r : Int) : FineI (ceOut M Q r).1 := by
  obtain ⟨c, hc⟩ : ∃ c, c = ruleCode M Q 0 r := ⟨_, rfl⟩
  by_cases hcz : c ≠ 0
  · rw [ceOut_err hc.symm hcz]; exact fineI_nil
  have h : ruleCode M Q 0 r = 0 := by omega
  rw [ceOut_ok h]
  obtain ⟨hp, _⟩ := rule_facts h
  have h5 := pow_le_32 (isPB_facts hp).2.1
  refine ⟨fun x hx => ?_, by show (endsTo M Q r _).length ≤ _; rw [endsTo_length]; decide⟩
  obtain ⟨j, hj, rfl⟩ := List.getElem_of_mem hx
  have hb := endsTo_bd M Q r (2 ^ M.length) j
  have e : (endsTo M Q r (2 ^ M.length)).getD j 0 = (endsTo M Q r (2 ^ M.length))[j] := by simp only [List.getD_eq_getElem?_getD]; rw [List.getElem?_eq_getElem hj]; rfl
  rw [e] at hb
  unfold I64
  generalize (endsTo M Q r (2 ^ M.length))[j] = x at *
  obtain ⟨P, hP⟩ : ∃ P : Nat, P = 2 ^ M.length := ⟨_, rfl⟩
  rw [← hP] at hb h5
  omega
/-- How a run ends, as a place. -/
theorem run_end {M : List (List Int)} {Q : List Int} {r s : Int} (hp : isPB M Q = true) (hs0 : 0 ≤ s) (hs1 : s < 2 ^ M.length) : ∃ e : Nat, e < 3 ∧ (runO M Q r 33 [] s).2 = (e : Int) := by
  obtain ⟨_, _, _, k1, k2⟩ := runO_facts (r := r) (isPB_facts hp).1 (isPB_facts hp).2.1 33 [] s (Met.first hs0 hs1)
  obtain ⟨e, he⟩ := Int.eq_ofNat_of_zero_le k1
  rw [he] at k2
  exact ⟨e, by omega, he⟩
theorem endsTo_step {M : List (List Int)} {Q : List Int} {r : Int} {k e : Nat} (h : (runO M Q r 33 [] (k : Int)).2 = (e : Int)) : endsTo M Q r (k + 1) = (endsTo M Q r k).set e ((endsTo M Q r k).getD e 0 + 1) := by
  have h2 : (runO M Q r 33 [] (k : Int)).2.toNat = e := by omega
  show (endsTo M Q r k).set _ _ = _
  rw [h2]

set_option maxRecDepth 100000 in
set_option maxHeartbeats 2000000 in
theorem specCountEnds_any (m q : Value) (M : List (List Int)) (Q : List Int) (r : Int) (w : World) (h1 : PM.Rows w m M) (h2 : Ints w q Q) :
    Calls Tryd.prog 41 #[.agg #[m, q], .int .i64 r] w (OutI w (ceOut M Q r)) := by
  have g1 := fun (w' : World) (h : Below w.heap.size w w') => h1.below h
  have g2 := fun (w' : World) (h : Below w.heap.size w w') => h2.below h
  obtain ⟨a1, c1, rfl, _⟩ := h1
  obtain ⟨a2, c2, rfl, _⟩ := h2
  obtain ⟨c, hc⟩ : ∃ c, c = ruleCode M Q 0 r := ⟨_, rfl⟩
  have HC := Lib.hid hc
  by_cases hcz : c ≠ 0
  · rw [ceOut_err hc.symm hcz]
    clear hc
    go_enter Tryd.func41, Tryd.ntmps41
    go_wp2_with fail
    refine (l08Code_any _ _ M Q 0 r _ (g1 _ (by (repeat' (first | (with_reducible exact Below.refl _ _) | (with_reducible assumption) | (with_reducible refine Below.alloc ?_ ?_ _) | (with_reducible refine Below.drew ?_) | (with_reducible refine below_drewN ?_ _) | (with_reducible refine Below.setCell ?_ ?_ _) | (with_reducible refine Below.trans ?_ (Below.mono (by with_reducible assumption) ?_)) | (with_reducible exact Below.size (by with_reducible assumption)) | go_size)))) (g2 _ (by (repeat' (first | (with_reducible exact Below.refl _ _) | (with_reducible assumption) | (with_reducible refine Below.alloc ?_ ?_ _) | (with_reducible refine Below.drew ?_) | (with_reducible refine below_drewN ?_ _) | (with_reducible refine Below.setCell ?_ ?_ _) | (with_reducible refine Below.trans ?_ (Below.mono (by with_reducible assumption) ?_)) | (with_reducible exact Below.size (by with_reducible assumption)) | go_size))))).mono ?_; rw [← HC.out]; rintro e w1 ⟨rfl, hb1⟩; obtain ⟨hc_hb1, hf_hb1⟩ := bcell hb1; obtain ⟨hcA_hb1, hfA_hb1⟩ := bcellG (W0 := w) hb1 (by (repeat' (first | (with_reducible exact Below.refl _ _) | (with_reducible assumption) | (with_reducible refine Below.alloc ?_ ?_ _) | (with_reducible refine Below.drew ?_) | (with_reducible refine below_drewN ?_ _) | (with_reducible refine Below.setCell ?_ ?_ _) | (with_reducible refine Below.trans ?_ (Below.mono (by with_reducible assumption) ?_)) | (with_reducible exact Below.size (by with_reducible assumption)) | go_size))); have hz_hb1 := hb1.size; (try simp at hz_hb1); (try simp only [Nat.add_one_le_iff] at hz_hb1); have hz0_hb1 : w.heap.size < w1.heap.size := (by omega)
    go_wp2_with fail
    go_ret2
    exact outI_nil (by (repeat' (first | (with_reducible exact Below.refl _ _) | (with_reducible assumption) | (with_reducible refine Below.alloc ?_ ?_ _) | (with_reducible refine Below.drew ?_) | (with_reducible refine below_drewN ?_ _) | (with_reducible refine Below.setCell ?_ ?_ _) | (with_reducible refine Below.trans ?_ (Below.mono (by with_reducible assumption) ?_)) | (with_reducible exact Below.size (by with_reducible assumption)) | go_size)))
  have h : ruleCode M Q 0 r = 0 := by omega
  have HC0 := Lib.hid h
  clear hc hcz HC
  rw [ceOut_ok h]
  obtain ⟨hp, hs0, hs1, hr0, hr1⟩ := rule_facts h
  have HS := Lib.hid (fun (s : Int) (h0 : 0 ≤ s) (h1 : s < 2 ^ M.length) (w' : World) (hb : Below w.heap.size w w') => l08Run_any _ _ M Q s r w' (g1 _ hb) (g2 _ hb) hp h0 h1 hr0 hr1)
  have HEN := Lib.hid (fun (k : Nat) (h1 : (k : Int) < 2 ^ M.length) => run_end (r := r) hp (by omega) h1)
  have f3 := (isPB_facts hp).2.2.1
  obtain ⟨T, hT⟩ : ∃ T : Nat, T = 2 ^ M.length := ⟨_, rfl⟩
  have hT5 : T ≤ 32 := by rw [hT]; exact pow_le_32 (isPB_facts hp).2.1
  have hTp : (T : Int) = 2 ^ M.length := by rw [hT]; norm_cast
  rw [← hT]
  have HTP := Lib.hid hTp
  have hmk := run_make_row' (P := Tryd.prog) 23 2 (.int .i64 0) 8 Tryd.underlying23 info_int rfl .i64 .i64 3 (by decide) (by decide)
  have hmk3 : ∀ w, (Instr.makeSlice 23 (.int .i64 3) (.int .i64 3)).run Tryd.prog w = .ok (.slice (some ⟨w.heap.size, 0, none⟩) 3 3) (w.alloc (.cells (madeCells #[.int .i64 0] 3) 2)) := hmk
  clear hmk
  have hwr : wrap64 ((2 : Int) ^ M.length) = (T : Int) := by rw [← hTp]; unfold wrap64; omega
  have f2 := (isPB_facts hp).2.1
  rw [f3] at g2 HS ⊢
  have HZ := Lib.hid (fun w => zeros_fresh w 3 (by decide))
  clear h hp hs0 hs1 hT hTp f3
  obtain ⟨N, hN⟩ : ∃ N, N = M.length := ⟨_, rfl⟩
  rw [← hN] at g1 g2 hwr f2 HS HTP HEN ⊢
  have HN := Lib.hid hN
  have HWR := Lib.hid hwr
  clear hN hwr
  go_enter Tryd.func41, Tryd.ntmps41
  go_wp2_with fail
  refine (l08Code_any _ _ M Q 0 r _ (g1 _ (by (repeat' (first | (with_reducible exact Below.refl _ _) | (with_reducible assumption) | (with_reducible refine Below.alloc ?_ ?_ _) | (with_reducible refine Below.drew ?_) | (with_reducible refine below_drewN ?_ _) | (with_reducible refine Below.setCell ?_ ?_ _) | (with_reducible refine Below.trans ?_ (Below.mono (by with_reducible assumption) ?_)) | (with_reducible exact Below.size (by with_reducible assumption)) | go_size)))) (g2 _ (by (repeat' (first | (with_reducible exact Below.refl _ _) | (with_reducible assumption) | (with_reducible refine Below.alloc ?_ ?_ _) | (with_reducible refine Below.drew ?_) | (with_reducible refine below_drewN ?_ _) | (with_reducible refine Below.setCell ?_ ?_ _) | (with_reducible refine Below.trans ?_ (Below.mono (by with_reducible assumption) ?_)) | (with_reducible exact Below.size (by with_reducible assumption)) | go_size))))).mono ?_; rw [HC0.out]; rintro e w1 ⟨rfl, hb1⟩; obtain ⟨hc_hb1, hf_hb1⟩ := bcell hb1; obtain ⟨hcA_hb1, hfA_hb1⟩ := bcellG (W0 := w) hb1 (by (repeat' (first | (with_reducible exact Below.refl _ _) | (with_reducible assumption) | (with_reducible refine Below.alloc ?_ ?_ _) | (with_reducible refine Below.drew ?_) | (with_reducible refine below_drewN ?_ _) | (with_reducible refine Below.setCell ?_ ?_ _) | (with_reducible refine Below.trans ?_ (Below.mono (by with_reducible assumption) ?_)) | (with_reducible exact Below.size (by with_reducible assumption)) | go_size))); have hz_hb1 := hb1.size; (try simp at hz_hb1); (try simp only [Nat.add_one_le_iff] at hz_hb1); have hz0_hb1 : w.heap.size < w1.heap.size := (by omega)
  have hw1 : Below w.heap.size w w1 := by (repeat' (first | (with_reducible exact Below.refl _ _) | (with_reducible assumption) | (with_reducible refine Below.alloc ?_ ?_ _) | (with_reducible refine Below.drew ?_) | (with_reducible refine below_drewN ?_ _) | (with_reducible refine Below.setCell ?_ ?_ _) | (with_reducible refine Below.trans ?_ (Below.mono (by with_reducible assumption) ?_)) | (with_reducible exact Below.size (by with_reducible assumption)) | go_size))
  have x0 : w1.cell? ⟨w.heap.size, 0, none⟩ = some (.slice a1 N c1) := by rw [hc_hb1 _ _ (by go_size)]; simp
  have x1 : w1.cell? ⟨w.heap.size, 1, none⟩ = some (.slice a2 N c2) := by rw [hc_hb1 _ _ (by go_size)]; simp
  clear hc_hb1 hf_hb1 hcA_hb1 hfA_hb1 hz_hb1 hb1
  go_wp2_with fail
  have HX := Lib.hid (fun wr (h : Below w1.heap.size w1 wr) => show wr.cell? ⟨w.heap.size, 0, none⟩ = some (.slice a1 N c1) ∧ wr.cell? ⟨w.heap.size, 1, none⟩ = some (.slice a2 N c2) from ⟨(h.cell (p := ⟨w.heap.size, 0, none⟩) hz0_hb1).trans x0, (h.cell (p := ⟨w.heap.size, 1, none⟩) hz0_hb1).trans x1⟩)
  clear hmk3 x0 x1
  go_loopw [8, 9, 10] (fun i _ _ wr => ∃ k : Nat, k ≤ T ∧ i = .int .i64 k ∧ FreshI w1.heap.size wr (.slice (some ⟨w1.heap.size, 0, none⟩) 3 3) (endsTo M Q r k) ∧ Below w1.heap.size w1 wr) (fun i _ _ _ => T - (intOf i).toNat)
  case atStart => exact ⟨0, Nat.zero_le _, rfl, HZ.out w1, (Below.refl _ _).alloc (Nat.le_refl _) _⟩
  case round =>
    obtain ⟨k, hk, rfl, hO, hB⟩ := hrel
    obtain ⟨x0, x1⟩ := HX.out _ hB
    by_cases hlt : k < T
    · have hkT : (k : Int) < 2 ^ N := by rw [← HTP.out]; omega
      obtain ⟨ec, he3, hen⟩ := HEN.out k hkT
      have hst := endsTo_step (M := M) (Q := Q) (r := r) (k := k) hen
      have HSK := HS.out k (by omega) hkT
      rw [hen] at HSK
      have HSK := Lib.hid HSK
      have hbd := endsTo_bd M Q r k ec
      have hl := endsTo_length M Q r k
      have HST := Lib.hid hst
      have HO := Lib.hid hO
      have HB := Lib.hid hB
      clear hO hB hen hst hkT
      have HL := Lib.hid hl
      generalize endsTo M Q r k = E at *
      clear hl
      have hwr := HWR.out
      go_wp2_with fail
      clear hwr
      refine (HSK.out _ (hw1.trans (HB.out.mono hw1.size))).mono ?_; rintro e w3 ⟨v, rfl, ⟨gv, cv, rfl, _, _, _⟩, hb3⟩
      have hO3 := HO.out.below hb3
      obtain ⟨_, _, hvv, _, hz4, hoo⟩ := id hO3
      have c6 := own_cellN (j := ec) hoo (show 3 = E.length by rw [HL.out]) (by omega)
      have c7 := own_frozenN hoo (show 3 = E.length by rw [HL.out]) ec
      have hset := hO3.set ec (E.getD ec 0 + 1)
      rw [← HST.out] at hset
      have HSET := Lib.hid hset
      have HB3 := Lib.hid (((HB.out.trans (hb3.mono HB.out.size))).setCell (p := ⟨w1.heap.size, ec, none⟩) (Nat.le_refl _) (.int .i64 (E.getD ec 0 + 1)))
      clear hO3 hoo hset hvv hb3
      generalize E.getD ec 0 = x at *
      go_wp2_with fail
      go_roundw
      case rel => exact ⟨k + 1, by omega, by go_num, HSET.out, HB3.out⟩
      case measure => simp [intOf]; omega
    · obtain rfl : k = T := by omega
      have HO := Lib.hid hO
      have HB := Lib.hid hB
      have hwr := HWR.out
      clear hO hB
      go_wp2_with fail
      clear hwr
      go_ret2
      exact ⟨_, rfl, urng_low HO.out.rng hw1.size, hw1.trans (HB.out.mono hw1.size)⟩

/-- While a run's end is counted: what has been laid, in whatever order; then the count is stored. -/
structure CeW (M : List (List Int)) (Q : List Int) (W w' : World) (o : List Int × Int) (b3 b7 b13 : Bool) (g2 : Nat) (v z : Value) (lo hi gC ec : Nat) (x : Int) : Prop where
  pre : b13 = false → RgW M Q W w' o b3 b7 false false g2 0 v z lo hi
  post : b13 = true → ∃ w0, Below W.heap.size W w0 ∧ w' = w0.setCell ⟨gC, ec, none⟩ (.int .i64 (x + 1))
theorem CeW.of {M : List (List Int)} {Q : List Int} {W w' : World} {o : List Int × Int} {b3 b7 : Bool} {g2 : Nat} {v z : Value} {lo hi gC ec : Nat} {x : Int} (h : RgW M Q W w' o b3 b7 false false g2 0 v z lo hi) : CeW M Q W w' o b3 b7 false g2 v z lo hi gC ec x := ⟨fun _ => h, fun h => by cases h⟩

set_option maxRecDepth 100000 in
set_option maxHeartbeats 4000000 in
theorem implCountEnds_any (m q : Value) (M : List (List Int)) (Q : List Int) (r : Int) (w : World) (hT : Tab8 w) (h1 : PM.Rows w m M) (h2 : Ints w q Q) :
    Calls Tryd.prog 42 #[.agg #[m, q], .int .i64 r] w (OutI w (ceOut M Q r)) := by
  have hmx : Tryd.prog.follows .mixedOrders = true := by kernel_rfl
  have g1 := fun (w' : World) (h : Below w.heap.size w w') => h1.below h
  have g2 := fun (w' : World) (h : Below w.heap.size w w') => h2.below h
  have gt := fun (w' : World) (h : Below w.heap.size w w') => hT.below h
  clear hT
  obtain ⟨a1, c1, rfl, _⟩ := h1
  obtain ⟨a2, c2, rfl, _⟩ := h2
  obtain ⟨c, hc⟩ : ∃ c, c = ruleCode M Q 0 r := ⟨_, rfl⟩
  have HC := Lib.hid hc
  by_cases hcz : c ≠ 0
  · rw [ceOut_err hc.symm hcz]
    clear hc
    go_enter Tryd.func42, Tryd.ntmps42
    go_wp2_with fail
    refine (checkRule_any _ _ M Q 0 r _ (g1 _ (by (repeat' (first | (with_reducible exact Below.refl _ _) | (with_reducible assumption) | (with_reducible refine Below.alloc ?_ ?_ _) | (with_reducible refine Below.drew ?_) | (with_reducible refine below_drewN ?_ _) | (with_reducible refine Below.setCell ?_ ?_ _) | (with_reducible refine Below.trans ?_ (Below.mono (by with_reducible assumption) ?_)) | (with_reducible exact Below.size (by with_reducible assumption)) | go_size)))) (g2 _ (by (repeat' (first | (with_reducible exact Below.refl _ _) | (with_reducible assumption) | (with_reducible refine Below.alloc ?_ ?_ _) | (with_reducible refine Below.drew ?_) | (with_reducible refine below_drewN ?_ _) | (with_reducible refine Below.setCell ?_ ?_ _) | (with_reducible refine Below.trans ?_ (Below.mono (by with_reducible assumption) ?_)) | (with_reducible exact Below.size (by with_reducible assumption)) | go_size))))).mono ?_; rw [← HC.out]; rintro e w1 ⟨rfl, hb1⟩; obtain ⟨hc_hb1, hf_hb1⟩ := bcell hb1; obtain ⟨hcA_hb1, hfA_hb1⟩ := bcellG (W0 := w) hb1 (by (repeat' (first | (with_reducible exact Below.refl _ _) | (with_reducible assumption) | (with_reducible refine Below.alloc ?_ ?_ _) | (with_reducible refine Below.drew ?_) | (with_reducible refine below_drewN ?_ _) | (with_reducible refine Below.setCell ?_ ?_ _) | (with_reducible refine Below.trans ?_ (Below.mono (by with_reducible assumption) ?_)) | (with_reducible exact Below.size (by with_reducible assumption)) | go_size))); have hz_hb1 := hb1.size; (try simp at hz_hb1); (try simp only [Nat.add_one_le_iff] at hz_hb1); have hz0_hb1 : w.heap.size < w1.heap.size := (by omega)
    go_wp2_with fail
    go_ret2
    exact outI_nil (by (repeat' (first | (with_reducible exact Below.refl _ _) | (with_reducible assumption) | (with_reducible refine Below.alloc ?_ ?_ _) | (with_reducible refine Below.drew ?_) | (with_reducible refine below_drewN ?_ _) | (with_reducible refine Below.setCell ?_ ?_ _) | (with_reducible refine Below.trans ?_ (Below.mono (by with_reducible assumption) ?_)) | (with_reducible exact Below.size (by with_reducible assumption)) | go_size)))
  have h : ruleCode M Q 0 r = 0 := by omega
  have HC0 := Lib.hid h
  clear hc hcz HC
  rw [ceOut_ok h]
  obtain ⟨hp, hs0, hs1, hr0, hr1⟩ := rule_facts h
  have HS := Lib.hid (fun (s : Int) (h0 : 0 ≤ s) (h1 : s < 2 ^ M.length) (w' : World) (hb : Below w.heap.size w w') => runFrom_any _ _ M Q s r w' (gt _ hb) (g1 _ hb) (g2 _ hb) hp h0 h1)
  have HEN := Lib.hid (fun (k : Nat) (h1 : (k : Int) < 2 ^ M.length) => run_end (r := r) hp (by omega) h1)
  obtain ⟨T, hT⟩ : ∃ T : Nat, T = 2 ^ M.length := ⟨_, rfl⟩
  have hT5 : T ≤ 32 := by rw [hT]; exact pow_le_32 (isPB_facts hp).2.1
  have hTp : (T : Int) = 2 ^ M.length := by rw [hT]; norm_cast
  rw [← hT]
  have HTP := Lib.hid hTp
  have hmk := run_make_row' (P := Tryd.prog) 23 2 (.int .i64 0) 8 Tryd.underlying23 info_int rfl .i64 .i64 3 (by decide) (by decide)
  have hmk3 : ∀ w, (Instr.makeSlice 23 (.int .i64 3) (.int .i64 3)).run Tryd.prog w = .ok (.slice (some ⟨w.heap.size, 0, none⟩) 3 3) (w.alloc (.cells (madeCells #[.int .i64 0] 3) 2)) := hmk
  clear hmk
  have hwr : wrap64 ((2 : Int) ^ M.length) = (T : Int) := by rw [← hTp]; unfold wrap64; omega
  have HWR := Lib.hid hwr
  have f2 := (isPB_facts hp).2.1
  have HZ := Lib.hid (fun w => zeros_fresh w 3 (by decide))
  obtain ⟨rn, rfl⟩ := Int.eq_ofNat_of_zero_le hr0
  have hrn : rn < 4 := by omega
  have hrn' : (rn : Int) < 4 := by omega
  clear h hp hs0 hs1 hT hTp hwr
  go_enter Tryd.func42, Tryd.ntmps42
  go_wp2_with fail
  refine (checkRule_any _ _ M Q 0 _ _ (g1 _ (by (repeat' (first | (with_reducible exact Below.refl _ _) | (with_reducible assumption) | (with_reducible refine Below.alloc ?_ ?_ _) | (with_reducible refine Below.drew ?_) | (with_reducible refine below_drewN ?_ _) | (with_reducible refine Below.setCell ?_ ?_ _) | (with_reducible refine Below.trans ?_ (Below.mono (by with_reducible assumption) ?_)) | (with_reducible exact Below.size (by with_reducible assumption)) | go_size)))) (g2 _ (by (repeat' (first | (with_reducible exact Below.refl _ _) | (with_reducible assumption) | (with_reducible refine Below.alloc ?_ ?_ _) | (with_reducible refine Below.drew ?_) | (with_reducible refine below_drewN ?_ _) | (with_reducible refine Below.setCell ?_ ?_ _) | (with_reducible refine Below.trans ?_ (Below.mono (by with_reducible assumption) ?_)) | (with_reducible exact Below.size (by with_reducible assumption)) | go_size))))).mono ?_; rw [HC0.out]; rintro e w1 ⟨rfl, hb1⟩; obtain ⟨hc_hb1, hf_hb1⟩ := bcell hb1; obtain ⟨hcA_hb1, hfA_hb1⟩ := bcellG (W0 := w) hb1 (by (repeat' (first | (with_reducible exact Below.refl _ _) | (with_reducible assumption) | (with_reducible refine Below.alloc ?_ ?_ _) | (with_reducible refine Below.drew ?_) | (with_reducible refine below_drewN ?_ _) | (with_reducible refine Below.setCell ?_ ?_ _) | (with_reducible refine Below.trans ?_ (Below.mono (by with_reducible assumption) ?_)) | (with_reducible exact Below.size (by with_reducible assumption)) | go_size))); have hz_hb1 := hb1.size; (try simp at hz_hb1); (try simp only [Nat.add_one_le_iff] at hz_hb1); have hz0_hb1 : w.heap.size < w1.heap.size := (by omega)
  have hw1 : Below w.heap.size w w1 := by (repeat' (first | (with_reducible exact Below.refl _ _) | (with_reducible assumption) | (with_reducible refine Below.alloc ?_ ?_ _) | (with_reducible refine Below.drew ?_) | (with_reducible refine below_drewN ?_ _) | (with_reducible refine Below.setCell ?_ ?_ _) | (with_reducible refine Below.trans ?_ (Below.mono (by with_reducible assumption) ?_)) | (with_reducible exact Below.size (by with_reducible assumption)) | go_size))
  have x0 : w1.cell? ⟨w.heap.size, 0, none⟩ = some (.slice a1 M.length c1) := by rw [hc_hb1 _ _ (by go_size)]; simp
  have x1 : w1.cell? ⟨w.heap.size, 1, none⟩ = some (.slice a2 Q.length c2) := by rw [hc_hb1 _ _ (by go_size)]; simp
  clear hc_hb1 hf_hb1 hcA_hb1 hfA_hb1 hz_hb1 hb1
  go_wp2_with fail
  rw [HWR.out]
  have HX := Lib.hid (fun wr (h : Below w1.heap.size w1 wr) => show wr.cell? ⟨w.heap.size, 0, none⟩ = some (.slice a1 M.length c1) ∧ wr.cell? ⟨w.heap.size, 1, none⟩ = some (.slice a2 Q.length c2) from ⟨(h.cell (p := ⟨w.heap.size, 0, none⟩) hz0_hb1).trans x0, (h.cell (p := ⟨w.heap.size, 1, none⟩) hz0_hb1).trans x1⟩)
  clear hmk3 x0 x1
  go_loopw [8, 20] (fun _ i wr => ∃ k : Nat, k ≤ T ∧ i = .int .i64 k ∧ FreshI w1.heap.size wr (.slice (some ⟨w1.heap.size, 0, none⟩) 3 3) (endsTo M Q rn k) ∧ Below w1.heap.size w1 wr) (fun _ i _ => T - (intOf i).toNat)
  case atStart => exact ⟨0, Nat.zero_le _, rfl, HZ.out w1, (Below.refl _ _).alloc (Nat.le_refl _) _⟩
  case round =>
    obtain ⟨k, hk, rfl, hO, hB⟩ := hrel
    by_cases hlt : k < T
    · have hkT : (k : Int) < 2 ^ M.length := by rw [← HTP.out]; omega
      obtain ⟨ec, he3, hen⟩ := HEN.out k hkT
      have hst := endsTo_step (M := M) (Q := Q) (r := rn) (k := k) hen
      have HRF := HS.out k (by omega) hkT
      obtain ⟨O, hOO⟩ : ∃ O, O = runO M Q rn 33 [] k := ⟨_, rfl⟩
      rw [← hOO] at HRF hen
      have HRF := Lib.hid HRF
      have HEN2 := Lib.hid hen
      have hbd := endsTo_bd M Q rn k ec
      have hl := endsTo_length M Q rn k
      have HST := Lib.hid hst
      have HO := Lib.hid hO
      have HB := Lib.hid hB
      have HL := Lib.hid hl
      generalize endsTo M Q rn k = E at *
      clear hO hB hen hst hkT hl hOO
      obtain ⟨_, _, hvv, _, hw1r, hoo⟩ := id HO.out
      have hw1r : w1.heap.size < wr.heap.size := by simp at hvv; omega
      have c6 := own_cellN (j := ec) hoo (show 3 = E.length by rw [HL.out]) (by omega)
      have c7 := own_frozenN hoo (show 3 = E.length by rw [HL.out]) ec
      obtain ⟨x, hx⟩ : ∃ x, x = E.getD ec 0 := ⟨_, rfl⟩
      rw [← hx] at c6 hbd
      have hwx : IntKind.i64.wrap (x + 1) = x + 1 := IntWalk.i64_in _ (by omega)
      have HXE := Lib.hid hx
      have hec : (ec : Int) < 3 := by omega
      have hec0 : (0 : Int) ≤ (ec : Int) := by omega
      obtain ⟨x0, x1⟩ := HX.out _ HB.out
      have hwr0 : w.heap.size < wr.heap.size := by omega
      have HWB := Lib.hid (hw1.trans (HB.out.mono hw1.size))
      clear hvv hoo hx
      go_wp2_with fail
      rename_i K0 hK0
      refine (wpIn_wide (n := 8)).1 ?_
      refine PR.wpIn_region_inv hmx (by kernel_rfl) (fun listed ac w' =>
          ∃ (b0 b1 b2 b3 b4 b5 b6 b7 b8 b9 b10 b11 b12 b13 : Bool) (g2 : Nat) (v : Value) (z : Value) (lo : Nat) (hi : Nat), ((b5 = true → b3 = true ∧ b4 = true) ∧ (b6 = true → b5 = true) ∧ (b7 = true → b1 = true ∧ b2 = true ∧ b6 = true) ∧ (b8 = true → b7 = true) ∧ (b9 = true → b0 = true ∧ b8 = true) ∧ (b10 = true → b9 = true) ∧ (b11 = true → b10 = true) ∧ (b12 = true → b0 = true ∧ b8 = true) ∧ (b13 = true → b11 = true ∧ b12 = true)) ∧ listed = #[b0, b1, b2, b3, b4, b5, b6, b7, b8, b9, b10, b11, b12, b13] ∧
            ac = { tmps := #[.agg #[.slice a1 M.length c1, .slice a2 Q.length c2], .int .i64 (rn : Nat), .pointer (some ⟨w.heap.size, 0, none⟩), undef, .slice none 0 0, .int .i64 0, .int .i64 0, .slice (some ⟨w1.heap.size, 0, none⟩) 3 3, .int .i64 (k : Nat), .agg #[.slice a1 M.length c1, .slice a2 Q.length c2], .int .i64 (rn : Nat), .int .i64 0, .int .i64 0, .bool false, undef, .slice (some ⟨w1.heap.size, 0, none⟩) 3 3, .pointer (some ⟨w.heap.size, 0, none⟩), .slice a1 M.length c1, .int .i64 M.length, .int .i64 T, .int .i64 (k : Nat), .bool true, .int .i64 (k : Nat), cond b0 (.slice (some ⟨w1.heap.size, 0, none⟩) 3 3) (u23), cond b1 (.agg #[.slice a1 M.length c1, .slice a2 Q.length c2]) (u24), cond b2 (.int .i64 (k : Nat)) (u25), cond b3 (.slice (some ⟨g2, 0, none⟩) 4 4) (u26), cond b4 (.int .i64 (rn : Nat)) (u27), cond b5 (.pointer (some ⟨g2, rn, none⟩)) (u28), cond b6 (.func (.func (ruleF (rn : Nat))) #[] #[]) (u29), cond b7 (.agg #[v, .int .i64 (ec : Nat), z]) (u30), cond b8 (.int .i64 (ec : Nat)) (u31), cond b9 (.pointer (some ⟨w1.heap.size, ec, none⟩)) (u32), cond b10 (.int .i64 x) (u33), cond b11 (.int .i64 (x + 1)) (u34), cond b12 (.pointer (some ⟨w1.heap.size, ec, none⟩)) (u35), u36, undef], defers := [] } ∧ CeW M Q wr w' O b3 b7 b13 g2 v z lo hi w1.heap.size ec x) ?_ ?_ ?_ ?_
      · rintro listed ac w' ⟨b0, b1, b2, b3, b4, b5, b6, b7, b8, b9, b10, b11, b12, b13, g2, v, z, lo, hi, _, rfl, _⟩
        rfl
      · rintro listed ac w' ⟨b0, b1, b2, b3, b4, b5, b6, b7, b8, b9, b10, b11, b12, b13, g2, v, z, lo, hi, _, rfl, rfl, hR⟩ hall
        have h0 := hall 0 (by simp)
        have h1 := hall 1 (by simp)
        have h2 := hall 2 (by simp)
        have h3 := hall 3 (by simp)
        have h4 := hall 4 (by simp)
        have h5 := hall 5 (by simp)
        have h6 := hall 6 (by simp)
        have h7 := hall 7 (by simp)
        have h8 := hall 8 (by simp)
        have h9 := hall 9 (by simp)
        have h10 := hall 10 (by simp)
        have h11 := hall 11 (by simp)
        have h12 := hall 12 (by simp)
        have h13 := hall 13 (by simp)
        simp at h0 h1 h2 h3 h4 h5 h6 h7 h8 h9 h10 h11 h12 h13
        subst h0 h1 h2 h3 h4 h5 h6 h7 h8 h9 h10 h11 h12 h13
        clear hall
        refine hK0 _ _ ?_
        simp only [cond_true]
        obtain ⟨w0, hb0, rfl⟩ := hR.post rfl
        have hset := (HO.out.below hb0).set ec (x + 1)
        rw [HXE.out, ← HST.out] at hset
        have HSET := Lib.hid hset
        have HB3 := Lib.hid ((HB.out.trans (hb0.mono HB.out.size)).setCell (p := ⟨w1.heap.size, ec, none⟩) (Nat.le_refl _) (.int .i64 (x + 1)))
        rw [← HXE.out] at HSET
        clear hR hset hb0
        go_wp2_with fail
        go_roundw
        case rel => exact ⟨k + 1, by omega, by go_num, HSET.out, HB3.out⟩
        case measure => simp [intOf]; omega
      · exact ⟨false, false, false, false, false, false, false, false, false, false, false, false, false, false, 0, undef, undef, 0, 0, by simp, rfl, rfl, CeW.of ⟨(Below.refl _ _).drew, fun h => Bool.noConfusion h, fun h => Bool.noConfusion h, fun h => Bool.noConfusion h, fun h => Bool.noConfusion h⟩⟩
      · rintro listed ac w' i oi ⟨b0, b1, b2, b3, b4, b5, b6, b7, b8, b9, b10, b11, b12, b13, g2, v, z, lo, hi, ⟨e5, e6, e7, e8, e9, e10, e11, e12, e13⟩, rfl, rfl, hR⟩ ho hun hdep
        have hi : i < 14 := by simpa using (Array.getElem?_eq_some_iff.1 ho).1
        obtain rfl | rfl | rfl | rfl | rfl | rfl | rfl | rfl | rfl | rfl | rfl | rfl | rfl | rfl : i = 0 ∨ i = 1 ∨ i = 2 ∨ i = 3 ∨ i = 4 ∨ i = 5 ∨ i = 6 ∨ i = 7 ∨ i = 8 ∨ i = 9 ∨ i = 10 ∨ i = 11 ∨ i = 12 ∨ i = 13 := by omega
        · -- 0
          simp only [List.getElem?_toArray, List.getElem?_cons_zero, Option.some.injEq] at ho
          subst ho
          have hbi : b0 = false := by simpa using hun
          subst hbi
          obtain rfl : b9 = false := Bool.eq_false_iff.2 (fun h => Bool.noConfusion (e9 h).1)
          obtain rfl : b10 = false := Bool.eq_false_iff.2 (fun h => Bool.noConfusion (e10 h))
          obtain rfl : b11 = false := Bool.eq_false_iff.2 (fun h => Bool.noConfusion (e11 h))
          obtain rfl : b12 = false := Bool.eq_false_iff.2 (fun h => Bool.noConfusion (e12 h).1)
          obtain rfl : b13 = false := Bool.eq_false_iff.2 (fun h => Bool.noConfusion (e13 h).1)
          refine wpOpIn_step rfl (fun K hK => ?_)
          clear hun hdep hi
          go_simp
          refine hK _ _ ⟨true, b1, b2, b3, b4, b5, b6, b7, b8, false, false, false, false, false, g2, v, z, lo, hi, ⟨e5, e6, e7, e8, fun h => Bool.noConfusion h, fun h => Bool.noConfusion h, fun h => Bool.noConfusion h, fun h => Bool.noConfusion h, fun h => Bool.noConfusion h⟩, rfl, rfl, hR⟩
        · -- 1
          simp only [List.getElem?_toArray, List.getElem?_cons_succ, List.getElem?_cons_zero, Option.some.injEq] at ho
          subst ho
          have hbi : b1 = false := by simpa using hun
          subst hbi
          obtain rfl : b7 = false := Bool.eq_false_iff.2 (fun h => Bool.noConfusion (e7 h).1)
          obtain rfl : b8 = false := Bool.eq_false_iff.2 (fun h => Bool.noConfusion (e8 h))
          obtain rfl : b9 = false := Bool.eq_false_iff.2 (fun h => Bool.noConfusion (e9 h).2)
          obtain rfl : b10 = false := Bool.eq_false_iff.2 (fun h => Bool.noConfusion (e10 h))
          obtain rfl : b11 = false := Bool.eq_false_iff.2 (fun h => Bool.noConfusion (e11 h))
          obtain rfl : b12 = false := Bool.eq_false_iff.2 (fun h => Bool.noConfusion (e12 h).2)
          obtain rfl : b13 = false := Bool.eq_false_iff.2 (fun h => Bool.noConfusion (e13 h).1)
          refine wpOpIn_step rfl (fun K hK => ?_)
          clear hun hdep hi
          have k0 := ((hR.pre rfl).below.cell (p := ⟨w.heap.size, 0, none⟩) hwr0).trans x0
          have k1 := ((hR.pre rfl).below.cell (p := ⟨w.heap.size, 1, none⟩) hwr0).trans x1
          go_simp
          refine hK _ _ ⟨b0, true, b2, b3, b4, b5, b6, false, false, false, false, false, false, false, g2, v, z, lo, hi, ⟨e5, e6, fun h => Bool.noConfusion h, fun h => Bool.noConfusion h, fun h => Bool.noConfusion h, fun h => Bool.noConfusion h, fun h => Bool.noConfusion h, fun h => Bool.noConfusion h, fun h => Bool.noConfusion h⟩, rfl, rfl, hR⟩
        · -- 2
          simp only [List.getElem?_toArray, List.getElem?_cons_succ, List.getElem?_cons_zero, Option.some.injEq] at ho
          subst ho
          have hbi : b2 = false := by simpa using hun
          subst hbi
          obtain rfl : b7 = false := Bool.eq_false_iff.2 (fun h => Bool.noConfusion (e7 h).2.1)
          obtain rfl : b8 = false := Bool.eq_false_iff.2 (fun h => Bool.noConfusion (e8 h))
          obtain rfl : b9 = false := Bool.eq_false_iff.2 (fun h => Bool.noConfusion (e9 h).2)
          obtain rfl : b10 = false := Bool.eq_false_iff.2 (fun h => Bool.noConfusion (e10 h))
          obtain rfl : b11 = false := Bool.eq_false_iff.2 (fun h => Bool.noConfusion (e11 h))
          obtain rfl : b12 = false := Bool.eq_false_iff.2 (fun h => Bool.noConfusion (e12 h).2)
          obtain rfl : b13 = false := Bool.eq_false_iff.2 (fun h => Bool.noConfusion (e13 h).1)
          refine wpOpIn_step rfl (fun K hK => ?_)
          clear hun hdep hi
          go_simp
          refine hK _ _ ⟨b0, b1, true, b3, b4, b5, b6, false, false, false, false, false, false, false, g2, v, z, lo, hi, ⟨e5, e6, fun h => Bool.noConfusion h, fun h => Bool.noConfusion h, fun h => Bool.noConfusion h, fun h => Bool.noConfusion h, fun h => Bool.noConfusion h, fun h => Bool.noConfusion h, fun h => Bool.noConfusion h⟩, rfl, rfl, hR⟩
        · -- 3
          simp only [List.getElem?_toArray, List.getElem?_cons_succ, List.getElem?_cons_zero, Option.some.injEq] at ho
          subst ho
          have hbi : b3 = false := by simpa using hun
          subst hbi
          obtain rfl : b5 = false := Bool.eq_false_iff.2 (fun h => Bool.noConfusion (e5 h).1)
          obtain rfl : b6 = false := Bool.eq_false_iff.2 (fun h => Bool.noConfusion (e6 h))
          obtain rfl : b7 = false := Bool.eq_false_iff.2 (fun h => Bool.noConfusion (e7 h).2.2)
          obtain rfl : b8 = false := Bool.eq_false_iff.2 (fun h => Bool.noConfusion (e8 h))
          obtain rfl : b9 = false := Bool.eq_false_iff.2 (fun h => Bool.noConfusion (e9 h).2)
          obtain rfl : b10 = false := Bool.eq_false_iff.2 (fun h => Bool.noConfusion (e10 h))
          obtain rfl : b11 = false := Bool.eq_false_iff.2 (fun h => Bool.noConfusion (e11 h))
          obtain rfl : b12 = false := Bool.eq_false_iff.2 (fun h => Bool.noConfusion (e12 h).2)
          obtain rfl : b13 = false := Bool.eq_false_iff.2 (fun h => Bool.noConfusion (e13 h).1)
          refine wpOpIn_step rfl (fun K hK => ?_)
          clear hun hdep hi
          go_simp
          refine ⟨trivial, (callsIn_wide.2 (stepRules_any w')).mono ?_⟩
          rintro e w'' ⟨rfl, hc, hb⟩
          refine hK _ _ ⟨b0, b1, b2, true, b4, false, false, false, false, false, false, false, false, false, w'.heap.size, v, z, lo, hi, ⟨fun h => Bool.noConfusion h, fun h => Bool.noConfusion h, fun h => Bool.noConfusion h, fun h => Bool.noConfusion h, fun h => Bool.noConfusion h, fun h => Bool.noConfusion h, fun h => Bool.noConfusion h, fun h => Bool.noConfusion h, fun h => Bool.noConfusion h⟩, rfl, rfl, CeW.of ((hR.pre rfl).rules_ hc hb)⟩
        · -- 4
          simp only [List.getElem?_toArray, List.getElem?_cons_succ, List.getElem?_cons_zero, Option.some.injEq] at ho
          subst ho
          have hbi : b4 = false := by simpa using hun
          subst hbi
          obtain rfl : b5 = false := Bool.eq_false_iff.2 (fun h => Bool.noConfusion (e5 h).2)
          obtain rfl : b6 = false := Bool.eq_false_iff.2 (fun h => Bool.noConfusion (e6 h))
          obtain rfl : b7 = false := Bool.eq_false_iff.2 (fun h => Bool.noConfusion (e7 h).2.2)
          obtain rfl : b8 = false := Bool.eq_false_iff.2 (fun h => Bool.noConfusion (e8 h))
          obtain rfl : b9 = false := Bool.eq_false_iff.2 (fun h => Bool.noConfusion (e9 h).2)
          obtain rfl : b10 = false := Bool.eq_false_iff.2 (fun h => Bool.noConfusion (e10 h))
          obtain rfl : b11 = false := Bool.eq_false_iff.2 (fun h => Bool.noConfusion (e11 h))
          obtain rfl : b12 = false := Bool.eq_false_iff.2 (fun h => Bool.noConfusion (e12 h).2)
          obtain rfl : b13 = false := Bool.eq_false_iff.2 (fun h => Bool.noConfusion (e13 h).1)
          refine wpOpIn_step rfl (fun K hK => ?_)
          clear hun hdep hi
          go_simp
          refine hK _ _ ⟨b0, b1, b2, b3, true, false, false, false, false, false, false, false, false, false, g2, v, z, lo, hi, ⟨fun h => Bool.noConfusion h, fun h => Bool.noConfusion h, fun h => Bool.noConfusion h, fun h => Bool.noConfusion h, fun h => Bool.noConfusion h, fun h => Bool.noConfusion h, fun h => Bool.noConfusion h, fun h => Bool.noConfusion h, fun h => Bool.noConfusion h⟩, rfl, rfl, hR⟩
        · -- 5
          simp only [List.getElem?_toArray, List.getElem?_cons_succ, List.getElem?_cons_zero, Option.some.injEq] at ho
          subst ho
          have hbi : b5 = false := by simpa using hun
          subst hbi
          have hd3 : b3 = true := by have := hdep ⟨3, .data⟩ (by simp) rfl; simpa using this
          have hd4 : b4 = true := by have := hdep ⟨4, .data⟩ (by simp) rfl; simpa using this
          subst hd3 hd4
          obtain rfl : b6 = false := Bool.eq_false_iff.2 (fun h => Bool.noConfusion (e6 h))
          obtain rfl : b7 = false := Bool.eq_false_iff.2 (fun h => Bool.noConfusion (e7 h).2.2)
          obtain rfl : b8 = false := Bool.eq_false_iff.2 (fun h => Bool.noConfusion (e8 h))
          obtain rfl : b9 = false := Bool.eq_false_iff.2 (fun h => Bool.noConfusion (e9 h).2)
          obtain rfl : b10 = false := Bool.eq_false_iff.2 (fun h => Bool.noConfusion (e10 h))
          obtain rfl : b11 = false := Bool.eq_false_iff.2 (fun h => Bool.noConfusion (e11 h))
          obtain rfl : b12 = false := Bool.eq_false_iff.2 (fun h => Bool.noConfusion (e12 h).2)
          obtain rfl : b13 = false := Bool.eq_false_iff.2 (fun h => Bool.noConfusion (e13 h).1)
          refine wpOpIn_step rfl (fun K hK => ?_)
          clear hun hdep hi
          go_simp
          refine hK _ _ ⟨b0, b1, b2, true, true, true, false, false, false, false, false, false, false, false, g2, v, z, lo, hi, ⟨fun _ => ⟨rfl, rfl⟩, fun h => Bool.noConfusion h, fun h => Bool.noConfusion h, fun h => Bool.noConfusion h, fun h => Bool.noConfusion h, fun h => Bool.noConfusion h, fun h => Bool.noConfusion h, fun h => Bool.noConfusion h, fun h => Bool.noConfusion h⟩, rfl, rfl, hR⟩
        · -- 6
          simp only [List.getElem?_toArray, List.getElem?_cons_succ, List.getElem?_cons_zero, Option.some.injEq] at ho
          subst ho
          have hbi : b6 = false := by simpa using hun
          subst hbi
          have hd5 : b5 = true := by have := hdep ⟨5, .data⟩ (by simp) rfl; simpa using this
          have hd4 : b4 = true := (e5 hd5).2
          have hd3 : b3 = true := (e5 hd5).1
          subst hd3 hd4 hd5
          obtain rfl : b7 = false := Bool.eq_false_iff.2 (fun h => Bool.noConfusion (e7 h).2.2)
          obtain rfl : b8 = false := Bool.eq_false_iff.2 (fun h => Bool.noConfusion (e8 h))
          obtain rfl : b9 = false := Bool.eq_false_iff.2 (fun h => Bool.noConfusion (e9 h).2)
          obtain rfl : b10 = false := Bool.eq_false_iff.2 (fun h => Bool.noConfusion (e10 h))
          obtain rfl : b11 = false := Bool.eq_false_iff.2 (fun h => Bool.noConfusion (e11 h))
          obtain rfl : b12 = false := Bool.eq_false_iff.2 (fun h => Bool.noConfusion (e12 h).2)
          obtain rfl : b13 = false := Bool.eq_false_iff.2 (fun h => Bool.noConfusion (e13 h).1)
          refine wpOpIn_step rfl (fun K hK => ?_)
          clear hun hdep hi
          have kr := ((hR.pre rfl).rules rfl rfl).2 rn hrn
          go_simp
          refine hK _ _ ⟨b0, b1, b2, true, true, true, true, false, false, false, false, false, false, false, g2, v, z, lo, hi, ⟨fun _ => ⟨rfl, rfl⟩, fun _ => rfl, fun h => Bool.noConfusion h, fun h => Bool.noConfusion h, fun h => Bool.noConfusion h, fun h => Bool.noConfusion h, fun h => Bool.noConfusion h, fun h => Bool.noConfusion h, fun h => Bool.noConfusion h⟩, rfl, rfl, hR⟩
        · -- 7
          simp only [List.getElem?_toArray, List.getElem?_cons_succ, List.getElem?_cons_zero, Option.some.injEq] at ho
          subst ho
          have hbi : b7 = false := by simpa using hun
          subst hbi
          have hd1 : b1 = true := by have := hdep ⟨1, .data⟩ (by simp) rfl; simpa using this
          have hd2 : b2 = true := by have := hdep ⟨2, .data⟩ (by simp) rfl; simpa using this
          have hd6 : b6 = true := by have := hdep ⟨6, .data⟩ (by simp) rfl; simpa using this
          have hd5 : b5 = true := (e6 hd6)
          have hd4 : b4 = true := (e5 hd5).2
          have hd3 : b3 = true := (e5 hd5).1
          subst hd1 hd2 hd3 hd4 hd5 hd6
          obtain rfl : b8 = false := Bool.eq_false_iff.2 (fun h => Bool.noConfusion (e8 h))
          obtain rfl : b9 = false := Bool.eq_false_iff.2 (fun h => Bool.noConfusion (e9 h).2)
          obtain rfl : b10 = false := Bool.eq_false_iff.2 (fun h => Bool.noConfusion (e10 h))
          obtain rfl : b11 = false := Bool.eq_false_iff.2 (fun h => Bool.noConfusion (e11 h))
          obtain rfl : b12 = false := Bool.eq_false_iff.2 (fun h => Bool.noConfusion (e12 h).2)
          obtain rfl : b13 = false := Bool.eq_false_iff.2 (fun h => Bool.noConfusion (e13 h).1)
          refine wpOpIn_step rfl (fun K hK => ?_)
          clear hun hdep hi
          go_simp
          refine ⟨trivial, (callsIn_wide.2 (HRF.out w' (HWB.out.trans ((hR.pre rfl).below.mono HWB.out.size)))).mono ?_⟩
          rintro e w'' ⟨yv, yz, rfl, h1, h2, h3, hb⟩
          rw [HEN2.out]
          refine hK _ _ ⟨b0, true, true, true, true, true, true, true, false, false, false, false, false, false, g2, yv, yz, w'.heap.size, w''.heap.size, ⟨fun _ => ⟨rfl, rfl⟩, fun _ => rfl, fun _ => ⟨rfl, rfl, rfl⟩, fun h => Bool.noConfusion h, fun h => Bool.noConfusion h, fun h => Bool.noConfusion h, fun h => Bool.noConfusion h, fun h => Bool.noConfusion h, fun h => Bool.noConfusion h⟩, rfl, rfl, CeW.of ((hR.pre rfl).run_ ⟨h1, h2, h3⟩ hb)⟩
        · -- 8
          simp only [List.getElem?_toArray, List.getElem?_cons_succ, List.getElem?_cons_zero, Option.some.injEq] at ho
          subst ho
          have hbi : b8 = false := by simpa using hun
          subst hbi
          have hd7 : b7 = true := by have := hdep ⟨7, .data⟩ (by simp) rfl; simpa using this
          have hd6 : b6 = true := (e7 hd7).2.2
          have hd5 : b5 = true := (e6 hd6)
          have hd4 : b4 = true := (e5 hd5).2
          have hd3 : b3 = true := (e5 hd5).1
          have hd2 : b2 = true := (e7 hd7).2.1
          have hd1 : b1 = true := (e7 hd7).1
          subst hd1 hd2 hd3 hd4 hd5 hd6 hd7
          obtain rfl : b9 = false := Bool.eq_false_iff.2 (fun h => Bool.noConfusion (e9 h).2)
          obtain rfl : b10 = false := Bool.eq_false_iff.2 (fun h => Bool.noConfusion (e10 h))
          obtain rfl : b11 = false := Bool.eq_false_iff.2 (fun h => Bool.noConfusion (e11 h))
          obtain rfl : b12 = false := Bool.eq_false_iff.2 (fun h => Bool.noConfusion (e12 h).2)
          obtain rfl : b13 = false := Bool.eq_false_iff.2 (fun h => Bool.noConfusion (e13 h).1)
          refine wpOpIn_step rfl (fun K hK => ?_)
          clear hun hdep hi
          go_simp
          refine hK _ _ ⟨b0, true, true, true, true, true, true, true, true, false, false, false, false, false, g2, v, z, lo, hi, ⟨fun _ => ⟨rfl, rfl⟩, fun _ => rfl, fun _ => ⟨rfl, rfl, rfl⟩, fun _ => rfl, fun h => Bool.noConfusion h, fun h => Bool.noConfusion h, fun h => Bool.noConfusion h, fun h => Bool.noConfusion h, fun h => Bool.noConfusion h⟩, rfl, rfl, hR⟩
        · -- 9
          simp only [List.getElem?_toArray, List.getElem?_cons_succ, List.getElem?_cons_zero, Option.some.injEq] at ho
          subst ho
          have hbi : b9 = false := by simpa using hun
          subst hbi
          have hd0 : b0 = true := by have := hdep ⟨0, .data⟩ (by simp) rfl; simpa using this
          have hd8 : b8 = true := by have := hdep ⟨8, .data⟩ (by simp) rfl; simpa using this
          have hd7 : b7 = true := (e8 hd8)
          have hd6 : b6 = true := (e7 hd7).2.2
          have hd5 : b5 = true := (e6 hd6)
          have hd4 : b4 = true := (e5 hd5).2
          have hd3 : b3 = true := (e5 hd5).1
          have hd2 : b2 = true := (e7 hd7).2.1
          have hd1 : b1 = true := (e7 hd7).1
          subst hd0 hd1 hd2 hd3 hd4 hd5 hd6 hd7 hd8
          obtain rfl : b10 = false := Bool.eq_false_iff.2 (fun h => Bool.noConfusion (e10 h))
          obtain rfl : b11 = false := Bool.eq_false_iff.2 (fun h => Bool.noConfusion (e11 h))
          obtain rfl : b13 = false := Bool.eq_false_iff.2 (fun h => Bool.noConfusion (e13 h).1)
          refine wpOpIn_step rfl (fun K hK => ?_)
          clear hun hdep hi
          go_simp
          refine hK _ _ ⟨true, true, true, true, true, true, true, true, true, true, false, false, b12, false, g2, v, z, lo, hi, ⟨fun _ => ⟨rfl, rfl⟩, fun _ => rfl, fun _ => ⟨rfl, rfl, rfl⟩, fun _ => rfl, fun _ => ⟨rfl, rfl⟩, fun h => Bool.noConfusion h, fun h => Bool.noConfusion h, e12, fun h => Bool.noConfusion h⟩, rfl, rfl, hR⟩
        · -- 10
          simp only [List.getElem?_toArray, List.getElem?_cons_succ, List.getElem?_cons_zero, Option.some.injEq] at ho
          subst ho
          have hbi : b10 = false := by simpa using hun
          subst hbi
          have hd9 : b9 = true := by have := hdep ⟨9, .data⟩ (by simp) rfl; simpa using this
          have hd8 : b8 = true := (e9 hd9).2
          have hd7 : b7 = true := (e8 hd8)
          have hd6 : b6 = true := (e7 hd7).2.2
          have hd5 : b5 = true := (e6 hd6)
          have hd4 : b4 = true := (e5 hd5).2
          have hd3 : b3 = true := (e5 hd5).1
          have hd2 : b2 = true := (e7 hd7).2.1
          have hd1 : b1 = true := (e7 hd7).1
          have hd0 : b0 = true := (e9 hd9).1
          subst hd0 hd1 hd2 hd3 hd4 hd5 hd6 hd7 hd8 hd9
          obtain rfl : b11 = false := Bool.eq_false_iff.2 (fun h => Bool.noConfusion (e11 h))
          obtain rfl : b13 = false := Bool.eq_false_iff.2 (fun h => Bool.noConfusion (e13 h).1)
          refine wpOpIn_step rfl (fun K hK => ?_)
          clear hun hdep hi
          have kc := ((hR.pre rfl).below.cell (p := ⟨w1.heap.size, ec, none⟩) hw1r).trans c6
          go_simp
          refine hK _ _ ⟨true, true, true, true, true, true, true, true, true, true, true, false, b12, false, g2, v, z, lo, hi, ⟨fun _ => ⟨rfl, rfl⟩, fun _ => rfl, fun _ => ⟨rfl, rfl, rfl⟩, fun _ => rfl, fun _ => ⟨rfl, rfl⟩, fun _ => rfl, fun h => Bool.noConfusion h, e12, fun h => Bool.noConfusion h⟩, rfl, rfl, hR⟩
        · -- 11
          simp only [List.getElem?_toArray, List.getElem?_cons_succ, List.getElem?_cons_zero, Option.some.injEq] at ho
          subst ho
          have hbi : b11 = false := by simpa using hun
          subst hbi
          have hd10 : b10 = true := by have := hdep ⟨10, .data⟩ (by simp) rfl; simpa using this
          have hd9 : b9 = true := (e10 hd10)
          have hd8 : b8 = true := (e9 hd9).2
          have hd7 : b7 = true := (e8 hd8)
          have hd6 : b6 = true := (e7 hd7).2.2
          have hd5 : b5 = true := (e6 hd6)
          have hd4 : b4 = true := (e5 hd5).2
          have hd3 : b3 = true := (e5 hd5).1
          have hd2 : b2 = true := (e7 hd7).2.1
          have hd1 : b1 = true := (e7 hd7).1
          have hd0 : b0 = true := (e9 hd9).1
          subst hd0 hd1 hd2 hd3 hd4 hd5 hd6 hd7 hd8 hd9 hd10
          obtain rfl : b13 = false := Bool.eq_false_iff.2 (fun h => Bool.noConfusion (e13 h).1)
          refine wpOpIn_step rfl (fun K hK => ?_)
          clear hun hdep hi
          go_simp
          refine hK _ _ ⟨true, true, true, true, true, true, true, true, true, true, true, true, b12, false, g2, v, z, lo, hi, ⟨fun _ => ⟨rfl, rfl⟩, fun _ => rfl, fun _ => ⟨rfl, rfl, rfl⟩, fun _ => rfl, fun _ => ⟨rfl, rfl⟩, fun _ => rfl, fun _ => rfl, e12, fun h => Bool.noConfusion h⟩, rfl, rfl, hR⟩
        · -- 12
          simp only [List.getElem?_toArray, List.getElem?_cons_succ, List.getElem?_cons_zero, Option.some.injEq] at ho
          subst ho
          have hbi : b12 = false := by simpa using hun
          subst hbi
          have hd0 : b0 = true := by have := hdep ⟨0, .data⟩ (by simp) rfl; simpa using this
          have hd8 : b8 = true := by have := hdep ⟨8, .data⟩ (by simp) rfl; simpa using this
          have hd7 : b7 = true := (e8 hd8)
          have hd6 : b6 = true := (e7 hd7).2.2
          have hd5 : b5 = true := (e6 hd6)
          have hd4 : b4 = true := (e5 hd5).2
          have hd3 : b3 = true := (e5 hd5).1
          have hd2 : b2 = true := (e7 hd7).2.1
          have hd1 : b1 = true := (e7 hd7).1
          subst hd0 hd1 hd2 hd3 hd4 hd5 hd6 hd7 hd8
          obtain rfl : b13 = false := Bool.eq_false_iff.2 (fun h => Bool.noConfusion (e13 h).2)
          refine wpOpIn_step rfl (fun K hK => ?_)
          clear hun hdep hi
          go_simp
          refine hK _ _ ⟨true, true, true, true, true, true, true, true, true, b9, b10, b11, true, false, g2, v, z, lo, hi, ⟨fun _ => ⟨rfl, rfl⟩, fun _ => rfl, fun _ => ⟨rfl, rfl, rfl⟩, fun _ => rfl, e9, e10, e11, fun _ => ⟨rfl, rfl⟩, fun h => Bool.noConfusion h⟩, rfl, rfl, hR⟩
        · -- 13
          simp only [List.getElem?_toArray, List.getElem?_cons_succ, List.getElem?_cons_zero, Option.some.injEq] at ho
          subst ho
          have hbi : b13 = false := by simpa using hun
          subst hbi
          have hd11 : b11 = true := by have := hdep ⟨11, .data⟩ (by simp) rfl; simpa using this
          have hd12 : b12 = true := by have := hdep ⟨12, .data⟩ (by simp) rfl; simpa using this
          have hd10 : b10 = true := (e11 hd11)
          have hd9 : b9 = true := (e10 hd10)
          have hd8 : b8 = true := (e9 hd9).2
          have hd7 : b7 = true := (e8 hd8)
          have hd6 : b6 = true := (e7 hd7).2.2
          have hd5 : b5 = true := (e6 hd6)
          have hd4 : b4 = true := (e5 hd5).2
          have hd3 : b3 = true := (e5 hd5).1
          have hd2 : b2 = true := (e7 hd7).2.1
          have hd1 : b1 = true := (e7 hd7).1
          have hd0 : b0 = true := (e9 hd9).1
          subst hd0 hd1 hd2 hd3 hd4 hd5 hd6 hd7 hd8 hd9 hd10 hd11 hd12
          refine wpOpIn_step rfl (fun K hK => ?_)
          clear hun hdep hi
          have kc := ((hR.pre rfl).below.cell (p := ⟨w1.heap.size, ec, none⟩) hw1r).trans c6
          have kf := ((hR.pre rfl).below.frozen (p := ⟨w1.heap.size, ec, none⟩) hw1r).trans c7
          go_simp
          refine hK _ _ ⟨true, true, true, true, true, true, true, true, true, true, true, true, true, true, g2, v, z, lo, hi, ⟨fun _ => ⟨rfl, rfl⟩, fun _ => rfl, fun _ => ⟨rfl, rfl, rfl⟩, fun _ => rfl, fun _ => ⟨rfl, rfl⟩, fun _ => rfl, fun _ => rfl, fun _ => ⟨rfl, rfl⟩, fun _ => ⟨rfl, rfl⟩⟩, rfl, rfl, ⟨fun h => Bool.noConfusion h, fun _ => ⟨_, (hR.pre rfl).below, rfl⟩⟩⟩
    · obtain rfl : k = T := by omega
      have HO := Lib.hid hO
      have HB := Lib.hid hB
      clear hO hB
      go_wp2_with fail
      go_ret2
      exact ⟨_, rfl, urng_low HO.out.rng hw1.size, hw1.trans (HB.out.mono hw1.size)⟩
set_option maxHeartbeats 4000000 in
theorem law_FnExactCountEnds (m q : Value) (M : List (List Int)) (Q : List Int) (r : Int) (w : World) (hG : Tab8 w) (h1 : PM.Rows w m M) (h2 : Ints w q Q) :
    Calls Tryd.prog 11 #[.agg #[m, q], .int .i64 r] w fun e w' => e = .returned (.bool true) ∧ Below w.heap.size w w' := by
  have g1 := fun (w' : World) (h : Below w.heap.size w w') => h1.below h
  have gl := fun (w' : World) (h : Below w.heap.size w w') => hG.below h
  clear hG
  have g2 := fun (w' : World) (h : Below w.heap.size w w') => h2.below h
  have I1 := Lib.hid (rows_I64 h1)
  have I2 := Lib.hid (ints_I64 h2)
  obtain ⟨a1, c1, rfl, _⟩ := h1
  obtain ⟨a2, c2, rfl, _⟩ := h2
  by_cases hz : szP M Q 1048576 < 0
  · have e1 := szP_neg hz
    have E1 := Lib.hid e1
    clear hz e1
    go_enter Tryd.func11, Tryd.ntmps11
    go_wp2_with fail
    refine (szProblem_any _ _ M Q _ (g1 _ (by (repeat' (first | (with_reducible exact Below.refl _ _) | (with_reducible assumption) | (with_reducible refine Below.alloc ?_ ?_ _) | (with_reducible refine Below.drew ?_) | (with_reducible refine below_drewN ?_ _) | (with_reducible refine Below.setCell ?_ ?_ _) | (with_reducible refine Below.trans ?_ (Below.mono (by with_reducible assumption) ?_)) | (with_reducible exact Below.size (by with_reducible assumption)) | go_size)))) (g2 _ (by (repeat' (first | (with_reducible exact Below.refl _ _) | (with_reducible assumption) | (with_reducible refine Below.alloc ?_ ?_ _) | (with_reducible refine Below.drew ?_) | (with_reducible refine below_drewN ?_ _) | (with_reducible refine Below.setCell ?_ ?_ _) | (with_reducible refine Below.trans ?_ (Below.mono (by with_reducible assumption) ?_)) | (with_reducible exact Below.size (by with_reducible assumption)) | go_size))))).mono ?_; rw [E1.out]; rintro e w1 ⟨rfl, hb1⟩; obtain ⟨hc_hb1, hf_hb1⟩ := bcell hb1; obtain ⟨hcA_hb1, hfA_hb1⟩ := bcellG (W0 := w) hb1 (by (repeat' (first | (with_reducible exact Below.refl _ _) | (with_reducible assumption) | (with_reducible refine Below.alloc ?_ ?_ _) | (with_reducible refine Below.drew ?_) | (with_reducible refine below_drewN ?_ _) | (with_reducible refine Below.setCell ?_ ?_ _) | (with_reducible refine Below.trans ?_ (Below.mono (by with_reducible assumption) ?_)) | (with_reducible exact Below.size (by with_reducible assumption)) | go_size))); have hz_hb1 := hb1.size; (try simp at hz_hb1); (try simp only [Nat.add_one_le_iff] at hz_hb1); have hz0_hb1 : w.heap.size < w1.heap.size := (by omega)
    go_wp2_with fail
    go_ret
    refine ⟨rfl, ?_⟩
    (repeat' (first | (with_reducible exact Below.refl _ _) | (with_reducible assumption) | (with_reducible refine Below.alloc ?_ ?_ _) | (with_reducible refine Below.drew ?_) | (with_reducible refine below_drewN ?_ _) | (with_reducible refine Below.setCell ?_ ?_ _) | (with_reducible refine Below.trans ?_ (Below.mono (by with_reducible assumption) ?_)) | (with_reducible exact Below.size (by with_reducible assumption)) | go_size))
  obtain ⟨hn1, hn2⟩ := szP_fits hz
  have hle := szP_le M Q
  have HN1 := Lib.hid hn1
  have HN2 := Lib.hid hn2
  clear hn1 hn2
  have hspec := fun (m q : Value) (w : World) (h1 : PM.Rows w m M) (h2 : Ints w q Q) => specCountEnds_any m q M Q r w h1 h2
  have himpl := fun (m q : Value) (w : World) (hg : Tab8 w) (h1 : PM.Rows w m M) (h2 : Ints w q Q) => implCountEnds_any m q M Q r w hg h1 h2
  have hfine := fine_ce M Q r
  generalize ceOut M Q r = o at *
  obtain ⟨O, code⟩ := o
  have HS := Lib.hid hspec
  have HI := Lib.hid himpl
  have HF : Hid (FineI O) := Lib.hid hfine
  clear hspec himpl hfine
  go_enter Tryd.func11, Tryd.ntmps11
  go_wp2_with fail
  refine (szProblem_any _ _ M Q _ (g1 _ (by (repeat' (first | (with_reducible exact Below.refl _ _) | (with_reducible assumption) | (with_reducible refine Below.alloc ?_ ?_ _) | (with_reducible refine Below.drew ?_) | (with_reducible refine below_drewN ?_ _) | (with_reducible refine Below.setCell ?_ ?_ _) | (with_reducible refine Below.trans ?_ (Below.mono (by with_reducible assumption) ?_)) | (with_reducible exact Below.size (by with_reducible assumption)) | go_size)))) (g2 _ (by (repeat' (first | (with_reducible exact Below.refl _ _) | (with_reducible assumption) | (with_reducible refine Below.alloc ?_ ?_ _) | (with_reducible refine Below.drew ?_) | (with_reducible refine below_drewN ?_ _) | (with_reducible refine Below.setCell ?_ ?_ _) | (with_reducible refine Below.trans ?_ (Below.mono (by with_reducible assumption) ?_)) | (with_reducible exact Below.size (by with_reducible assumption)) | go_size))))).mono ?_; rintro e w1 ⟨rfl, hb1⟩; obtain ⟨hc_hb1, hf_hb1⟩ := bcell hb1; obtain ⟨hcA_hb1, hfA_hb1⟩ := bcellG (W0 := w) hb1 (by (repeat' (first | (with_reducible exact Below.refl _ _) | (with_reducible assumption) | (with_reducible refine Below.alloc ?_ ?_ _) | (with_reducible refine Below.drew ?_) | (with_reducible refine below_drewN ?_ _) | (with_reducible refine Below.setCell ?_ ?_ _) | (with_reducible refine Below.trans ?_ (Below.mono (by with_reducible assumption) ?_)) | (with_reducible exact Below.size (by with_reducible assumption)) | go_size))); have hz_hb1 := hb1.size; (try simp at hz_hb1); (try simp only [Nat.add_one_le_iff] at hz_hb1); have hz0_hb1 : w.heap.size < w1.heap.size := (by omega)
  generalize szP M Q 1048576 = left at *
  have hw1 : Below w.heap.size w w1 := by (repeat' (first | (with_reducible exact Below.refl _ _) | (with_reducible assumption) | (with_reducible refine Below.alloc ?_ ?_ _) | (with_reducible refine Below.drew ?_) | (with_reducible refine below_drewN ?_ _) | (with_reducible refine Below.setCell ?_ ?_ _) | (with_reducible refine Below.trans ?_ (Below.mono (by with_reducible assumption) ?_)) | (with_reducible exact Below.size (by with_reducible assumption)) | go_size))
  go_wp2_with fail
  refine (toProblem_out _ _ M Q _ (g1 _ (by (repeat' (first | (with_reducible exact Below.refl _ _) | (with_reducible assumption) | (with_reducible refine Below.alloc ?_ ?_ _) | (with_reducible refine Below.drew ?_) | (with_reducible refine below_drewN ?_ _) | (with_reducible refine Below.setCell ?_ ?_ _) | (with_reducible refine Below.trans ?_ (Below.mono (by with_reducible assumption) ?_)) | (with_reducible exact Below.size (by with_reducible assumption)) | go_size)))) (g2 _ (by (repeat' (first | (with_reducible exact Below.refl _ _) | (with_reducible assumption) | (with_reducible refine Below.alloc ?_ ?_ _) | (with_reducible refine Below.drew ?_) | (with_reducible refine below_drewN ?_ _) | (with_reducible refine Below.setCell ?_ ?_ _) | (with_reducible refine Below.trans ?_ (Below.mono (by with_reducible assumption) ?_)) | (with_reducible exact Below.size (by with_reducible assumption)) | go_size)))) HN1.out HN2.out).mono ?_; rintro e w2 ⟨gA, gB, us2, rfl, hr2, hb2⟩; obtain ⟨hc_hb2, hf_hb2⟩ := bcell hb2; obtain ⟨hcA_hb2, hfA_hb2⟩ := bcellG (W0 := w1) hb2 (by (repeat' (first | (with_reducible exact Below.refl _ _) | (with_reducible assumption) | (with_reducible refine Below.alloc ?_ ?_ _) | (with_reducible refine Below.drew ?_) | (with_reducible refine below_drewN ?_ _) | (with_reducible refine Below.setCell ?_ ?_ _) | (with_reducible refine Below.trans ?_ (Below.mono (by with_reducible assumption) ?_)) | (with_reducible exact Below.size (by with_reducible assumption)) | go_size))); have hz_hb2 := hb2.size; (try simp at hz_hb2); (try simp only [Nat.add_one_le_iff] at hz_hb2); have hz0_hb2 : w.heap.size < w2.heap.size := (by omega)
  have R2 := Lib.hid (hr2.reads I1.out I2.out)
  clear hr2
  have hw2 : Below w.heap.size w w2 := hw1.trans (hb2.mono hw1.size)
  go_wp2_with fail
  refine (HS.out _ _ _ R2.out.1 R2.out.2).mono ?_; rintro e w3 ho3; obtain ⟨a3, c3, rfl, hr3, hb3⟩ := ho3.out; clear ho3; dsimp only at hr3; dsimp only; obtain ⟨hc_hb3, hf_hb3⟩ := bcell hb3; obtain ⟨hcA_hb3, hfA_hb3⟩ := bcellG (W0 := w2) hb3 (by (repeat' (first | (with_reducible exact Below.refl _ _) | (with_reducible assumption) | (with_reducible refine Below.alloc ?_ ?_ _) | (with_reducible refine Below.drew ?_) | (with_reducible refine below_drewN ?_ _) | (with_reducible refine Below.setCell ?_ ?_ _) | (with_reducible refine Below.trans ?_ (Below.mono (by with_reducible assumption) ?_)) | (with_reducible exact Below.size (by with_reducible assumption)) | go_size))); have hz_hb3 := hb3.size; (try simp at hz_hb3); (try simp only [Nat.add_one_le_iff] at hz_hb3); have hz0_hb3 : w.heap.size < w3.heap.size := (by omega)
  have HR3 := Lib.hid hr3
  clear hr3 R2
  have hw3 : Below w.heap.size w w3 := hw2.trans (hb3.mono hw2.size)
  go_wp2_with fail
  refine (toProblem_out _ _ M Q _ (g1 _ (by (repeat' (first | (with_reducible exact Below.refl _ _) | (with_reducible assumption) | (with_reducible refine Below.alloc ?_ ?_ _) | (with_reducible refine Below.drew ?_) | (with_reducible refine below_drewN ?_ _) | (with_reducible refine Below.setCell ?_ ?_ _) | (with_reducible refine Below.trans ?_ (Below.mono (by with_reducible assumption) ?_)) | (with_reducible exact Below.size (by with_reducible assumption)) | go_size)))) (g2 _ (by (repeat' (first | (with_reducible exact Below.refl _ _) | (with_reducible assumption) | (with_reducible refine Below.alloc ?_ ?_ _) | (with_reducible refine Below.drew ?_) | (with_reducible refine below_drewN ?_ _) | (with_reducible refine Below.setCell ?_ ?_ _) | (with_reducible refine Below.trans ?_ (Below.mono (by with_reducible assumption) ?_)) | (with_reducible exact Below.size (by with_reducible assumption)) | go_size)))) HN1.out HN2.out).mono ?_; rintro e w4 ⟨gC, gD, us4, rfl, hr4, hb4⟩; obtain ⟨hc_hb4, hf_hb4⟩ := bcell hb4; obtain ⟨hcA_hb4, hfA_hb4⟩ := bcellG (W0 := w3) hb4 (by (repeat' (first | (with_reducible exact Below.refl _ _) | (with_reducible assumption) | (with_reducible refine Below.alloc ?_ ?_ _) | (with_reducible refine Below.drew ?_) | (with_reducible refine below_drewN ?_ _) | (with_reducible refine Below.setCell ?_ ?_ _) | (with_reducible refine Below.trans ?_ (Below.mono (by with_reducible assumption) ?_)) | (with_reducible exact Below.size (by with_reducible assumption)) | go_size))); have hz_hb4 := hb4.size; (try simp at hz_hb4); (try simp only [Nat.add_one_le_iff] at hz_hb4); have hz0_hb4 : w.heap.size < w4.heap.size := (by omega)
  have HR4 := Lib.hid hr4
  clear hr4
  have hw4 : Below w.heap.size w w4 := hw3.trans (hb4.mono hw3.size)
  go_wp2_with fail
  have hr4a := HR4.out.below (w' := w4.alloc (.cells #[.slice (some ⟨gC, 0, none⟩) M.length M.length, .slice (some ⟨gD, 0, none⟩) Q.length Q.length] 29)) (B := w4.heap.size) ((Below.refl _ _).alloc (Nat.le_refl _) _) (Nat.le_refl _)
  have R4 := Lib.hid (hr4a.reads I1.out I2.out)
  clear hr4a
  refine (HI.out _ _ _ (gl _ (by (repeat' (first | (with_reducible exact Below.refl _ _) | (with_reducible assumption) | (with_reducible refine Below.alloc ?_ ?_ _) | (with_reducible refine Below.drew ?_) | (with_reducible refine below_drewN ?_ _) | (with_reducible refine Below.setCell ?_ ?_ _) | (with_reducible refine Below.trans ?_ (Below.mono (by with_reducible assumption) ?_)) | (with_reducible exact Below.size (by with_reducible assumption)) | go_size)))) R4.out.1 R4.out.2).mono ?_; rintro e w5 ho5; obtain ⟨a5, c5, rfl, hr5, hb5⟩ := ho5.out; clear ho5; dsimp only at hr5; dsimp only; obtain ⟨hc_hb5, hf_hb5⟩ := bcell hb5; obtain ⟨hcA_hb5, hfA_hb5⟩ := bcellG (W0 := w4) hb5 (by (repeat' (first | (with_reducible exact Below.refl _ _) | (with_reducible assumption) | (with_reducible refine Below.alloc ?_ ?_ _) | (with_reducible refine Below.drew ?_) | (with_reducible refine below_drewN ?_ _) | (with_reducible refine Below.setCell ?_ ?_ _) | (with_reducible refine Below.trans ?_ (Below.mono (by with_reducible assumption) ?_)) | (with_reducible exact Below.size (by with_reducible assumption)) | go_size))); have hz_hb5 := hb5.size; (try simp at hz_hb5); (try simp only [Nat.add_one_le_iff] at hz_hb5); have hz0_hb5 : w.heap.size < w5.heap.size := (by omega)
  have hz45 : w4.heap.size < w5.heap.size := by omega
  have HR5 := Lib.hid hr5
  clear hr5 R4
  have hw45 : Below w4.heap.size w4 w5 := ((Below.refl w4.heap.size w4).alloc (Nat.le_refl _) _).trans (hb5.mono (by simp))
  have x50 : w5.cell? ⟨w4.heap.size, 0, none⟩ = some (.slice (some ⟨gC, 0, none⟩) M.length M.length) := by rw [hc_hb5 _ _ (by simp)]; simp
  have x51 : w5.cell? ⟨w4.heap.size, 1, none⟩ = some (.slice (some ⟨gD, 0, none⟩) Q.length Q.length) := by rw [hc_hb5 _ _ (by simp)]; simp
  have hw13 : Below w1.heap.size w1 w3 := hb2.trans (hb3.mono hb2.size)
  have hw35 : Below w3.heap.size w3 w5 := hb4.trans (hw45.mono hb4.size)
  have hw15 : Below w1.heap.size w1 w5 := hw13.trans (hw35.mono hw13.size)
  have hw5 : Below w.heap.size w w5 := hw3.trans (hw35.mono hw3.size)
  have p10 : w1.cell? ⟨w.heap.size, 0, none⟩ = some (.slice a1 M.length c1) := by rw [hc_hb1 _ _ (by simp)]; simp
  have p11 : w1.cell? ⟨w.heap.size, 1, none⟩ = some (.slice a2 Q.length c2) := by rw [hc_hb1 _ _ (by simp)]; simp
  have hvq : Vq w5 w.heap.size w4.heap.size (.slice a1 M.length c1) (.slice a2 Q.length c2) (.slice (some ⟨gC, 0, none⟩) M.length M.length) (.slice (some ⟨gD, 0, none⟩) Q.length Q.length) :=
    ⟨(hw15.cell (p := ⟨w.heap.size, 0, none⟩) hz0_hb1).trans p10, (hw15.cell (p := ⟨w.heap.size, 1, none⟩) hz0_hb1).trans p11, x50, x51, by omega, hz45⟩
  have hA5 := HR3.out.below hw35 (Nat.le_refl _)
  have hX5 := HR4.out.below hw45 (Nat.le_refl _)
  have hG5 := HR5.out
  rw [show (w4.alloc (.cells #[.slice (some ⟨gC, 0, none⟩) M.length M.length, .slice (some ⟨gD, 0, none⟩) Q.length Q.length] 29)).heap.size = w4.heap.size + 1 by simp] at hG5
  have hPA : w.heap.size < w2.heap.size := by omega
  obtain ⟨P, hP⟩ : ∃ P, P = w.heap.size := ⟨_, rfl⟩
  obtain ⟨A0, hA0⟩ : ∃ A0, A0 = w2.heap.size := ⟨_, rfl⟩
  obtain ⟨A1, hA1⟩ : ∃ A1, A1 = w3.heap.size := ⟨_, rfl⟩
  obtain ⟨V, hV⟩ : ∃ V, V = w4.heap.size := ⟨_, rfl⟩
  have hAV : A0 ≤ A1 ∧ A1 ≤ V := by have := hb3.size; have := hb4.size; omega
  obtain ⟨hAV1, hAV2⟩ := hAV
  obtain ⟨G1, hG1⟩ : ∃ G1, G1 = w5.heap.size := ⟨_, rfl⟩
  have hGz : G1 ≤ w5.heap.size := by omega
  have hVG : V < G1 := by omega
  rw [← hP] at hvq hPA
  rw [← hA0] at hA5 hPA
  rw [← hA1] at hA5 hX5
  rw [← hV] at hX5 hG5 hvq hz45
  rw [← hG1] at hG5
  rw [← hP, ← hV]
  have hPw : P ≤ w.heap.size := by omega
  have hwP : w.heap.size ≤ P := by omega
  clear hP hA0 hA1 hV hG1 hw13 hw15 hw35 hw45 p10 p11 x50 x51 HR3 HR4 HR5 hw1 hw2 hw3 hw4 HS
  clear hc_hb1 hf_hb1 hcA_hb1 hfA_hb1 hz_hb1 hz0_hb1 hb1 hc_hb2 hf_hb2 hcA_hb2 hfA_hb2 hz_hb2 hz0_hb2 hb2 hc_hb3 hf_hb3 hcA_hb3 hfA_hb3 hz_hb3 hz0_hb3 hb3 hc_hb4 hf_hb4 hcA_hb4 hfA_hb4 hz_hb4 hz0_hb4 hb4 hc_hb5 hf_hb5 hcA_hb5 hfA_hb5 hz_hb5 hz0_hb5 hb5
  have HA5 := Lib.hid hA5
  have HX5 := Lib.hid hX5
  have HG5 := Lib.hid hG5
  have HV5 := Lib.hid hvq
  clear hA5 hX5 hG5 hvq
  go_wp2_with fail
  refine (eqI_ans HG5.out HA5.out HF.out).mono ?_; rintro e w6 ⟨rfl, hb6⟩
  have hw6 : Below w.heap.size w w6 := hw5.trans (hb6.mono hw5.size)
  have hz6 := hb6.size
  have HA := Lib.hid (HA5.out.below hb6 (by omega))
  have HX := Lib.hid (HX5.out.below hb6 (by omega))
  have HG := Lib.hid (HG5.out.below hb6 (by omega))
  have hv6 := HV5.out.next hb6
  have HV := Lib.hid hv6
  have hGz6 : G1 ≤ w6.heap.size := by omega
  have RX := Lib.hid (HX.out.reads I1.out I2.out)
  obtain ⟨k1, k2, k3, k4, l1, l2⟩ := hv6
  have r1 : ∀ w', Below w6.heap.size w6 w' → w'.cell? ⟨P, 0, none⟩ = some (.slice a1 M.length c1) := fun w' h => (h.cell (p := ⟨P, 0, none⟩) (by show P < _; omega)).trans k1
  have r2 : ∀ w', Below w6.heap.size w6 w' → w'.cell? ⟨P, 1, none⟩ = some (.slice a2 Q.length c2) := fun w' h => (h.cell (p := ⟨P, 1, none⟩) (by show P < _; omega)).trans k2
  have r3 : ∀ w', Below w6.heap.size w6 w' → w'.cell? ⟨V, 0, none⟩ = some (.slice (some ⟨gC, 0, none⟩) M.length M.length) := fun w' h => (h.cell (p := ⟨V, 0, none⟩) (by show V < _; omega)).trans k3
  have r4 : ∀ w', Below w6.heap.size w6 w' → w'.cell? ⟨V, 1, none⟩ = some (.slice (some ⟨gD, 0, none⟩) Q.length Q.length) := fun w' h => (h.cell (p := ⟨V, 1, none⟩) (by show V < _; omega)).trans k4
  clear HA5 HX5 HG5 HV5 hb6 hw5 hGz hz6 k1 k2 k3 k4 hz45
  go_wp2_with fail
  go_region_held3 (fun w' => Below w6.heap.size w6 w') ((repeat' (first | (with_reducible exact Below.refl _ _) | (with_reducible assumption) | (with_reducible refine Below.alloc ?_ ?_ _) | (with_reducible refine Below.drew ?_) | (with_reducible refine below_drewN ?_ _) | (with_reducible refine Below.setCell ?_ ?_ _) | (with_reducible refine Below.trans ?_ (Below.mono (by with_reducible assumption) ?_)) | (with_reducible exact Below.size (by with_reducible assumption)) | go_size)))
    (first | (go_at_call 15; refine (toProblem_out _ _ M Q _ (g1 _ (hw6.trans (Below.mono (by assumption) hw6.size))) (g2 _ (hw6.trans (Below.mono (by assumption) hw6.size))) HN1.out HN2.out).mono ?_; rintro e w8 ⟨gE, gF, us8, rfl, hr8, hb8⟩; have hS8 : Below w6.heap.size w6 w8 := (by (repeat' (first | (with_reducible exact Below.refl _ _) | (with_reducible assumption) | (with_reducible refine Below.alloc ?_ ?_ _) | (with_reducible refine Below.drew ?_) | (with_reducible refine below_drewN ?_ _) | (with_reducible refine Below.setCell ?_ ?_ _) | (with_reducible refine Below.trans ?_ (Below.mono (by with_reducible assumption) ?_)) | (with_reducible exact Below.size (by with_reducible assumption)) | go_size))); have R8 := Lib.hid (hr8.reads I1.out I2.out); clear hr8) | (go_at_call 17; refine (eqProblem_same _ _ _ _ M Q _ (RX.out.1.below hS8) (RX.out.2.below hS8) R8.out.1 R8.out.2).mono ?_; rintro e w9 ⟨rfl, hb9⟩; have hS9 : Below w6.heap.size w6 w9 := (by (repeat' (first | (with_reducible exact Below.refl _ _) | (with_reducible assumption) | (with_reducible refine Below.alloc ?_ ?_ _) | (with_reducible refine Below.drew ?_) | (with_reducible refine below_drewN ?_ _) | (with_reducible refine Below.setCell ?_ ?_ _) | (with_reducible refine Below.trans ?_ (Below.mono (by with_reducible assumption) ?_)) | (with_reducible exact Below.size (by with_reducible assumption)) | go_size)))))
  have x90 := r3 _ hS9
  have x91 := r4 _ hS9
  have hw9 : Below w.heap.size w w9 := hw6.trans (hS9.mono hw6.size)
  have hz9 := hS9.size
  have HX9 := Lib.hid (HX.out.below hS9 (by omega))
  have HG9 := Lib.hid (HG.out.below hS9 (by omega))
  have HA9 := Lib.hid (HA.out.below hS9 (by omega))
  have HV9 := Lib.hid (HV.out.next hS9)
  have hGz9 : G1 ≤ w9.heap.size := by omega
  have lP9 : P < w9.heap.size := by omega
  have lV9 : V < w9.heap.size := by omega
  clear HX HG HA HV RX R8 r1 r2 r3 r4 hS9 hb9 hS8 hb8 hw6 hGz6 hz9 l1 l2
  have hkb : (1 : Int) + tot M + Q.length ≤ 4611686018427387904 := by have := HN1.out; have := HN2.out; omega
  have hc10 := markProblem_any A1 V _ _ M Q us4 1 _ HX9.out (by omega) (by decide) hkb
  generalize pre M M.length = pM at hc10
  have hp0 : 0 ≤ (1 : Int) + pM + Q.length := by omega
  have HC10 := Lib.hid hc10
  clear hc10 hkb
  go_wp2_with fail
  refine HC10.out.mono ?_; rintro e w10 ⟨rfl, _, hbt10⟩
  have hsz10 := hbt10.size
  have v10 := HV9.out.bet hbt10 (.inl (by omega)) (.inr (by omega))
  have hw10 : Below w.heap.size w w10 := hw9.trans ((hbt10.below (by omega)).mono (by omega))
  have HG10 := Lib.hid (HG9.out.bet hbt10 (.inr (by omega)))
  have HA10 := Lib.hid (HA9.out.bet hbt10 (.inl (by omega)))
  have HV10 := Lib.hid v10
  have hGz10 : G1 ≤ w10.heap.size := by omega
  clear HC10 HX9 HV9 HG9 HA9 v10 hbt10 hw9 x90 x91 hGz9 hsz10 lP9 lV9
  go_wp2_with fail
  refine (eqI_ans HG10.out HA10.out HF.out).mono ?_; rintro e w11 ⟨rfl, hb11⟩
  have hsz11 := hb11.size
  have hw11 : Below w.heap.size w w11 := hw10.trans (hb11.mono hw10.size)
  have HG11 := Lib.hid (HG10.out.below hb11 (by omega))
  have HA11 := Lib.hid (HA10.out.below hb11 (by omega))
  have HV11 := Lib.hid (HV10.out.next hb11)
  have hGz11 : G1 ≤ w11.heap.size := by omega
  clear HG10 HA10 HV10 hb11 hw10 hGz10 hsz11
  have hsl := sizeI_le HF.out
  generalize hsg : sizeI O = sz at hsl
  have HSG := Lib.hid hsg
  clear hsg
  go_wp2_with fail
  refine (markI_ans HG11.out HF.out).mono ?_; rw [HSG.out]; rintro e w12 ⟨rfl, hm12, hbt12⟩
  have hsz12 := hbt12.size
  have hVz := HV11.out.lV
  have hPz := HV11.out.lP
  have hw12 : Below w.heap.size w w12 := hw11.trans ((hbt12.below (by omega)).mono (by omega))
  have HA12 := Lib.hid (HA11.out.bet hbt12 (.inl (by omega)))
  have HV12 := Lib.hid (HV11.out.bet hbt12 (.inl (by omega)) (.inl (by omega)))
  have HM12 := Lib.hid hm12
  have hGz12 : G1 ≤ w12.heap.size := by omega
  clear HG11 HA11 HV11 hm12 hbt12 hw11 hGz11 hsz12 hVz hPz
  go_wp2_with fail
  refine (heldI_ans HM12.out HF.out).mono ?_; rw [HSG.out]; rintro e w13 ⟨rfl, hb13⟩
  have hsz13 := hb13.size
  have hw13 : Below w.heap.size w w13 := hw12.trans (hb13.mono hw12.size)
  have HM13 := Lib.hid (HM12.out.below hb13 (by omega))
  have HA13 := Lib.hid (HA12.out.below hb13 (by omega))
  have v13 := HV12.out.next hb13
  have HV13 := Lib.hid v13
  obtain ⟨q1, q2, q3, q4, l1, l2⟩ := v13
  have hGz13 : G1 ≤ w13.heap.size := by omega
  clear HM12 HA12 HV12 hb13 hw12 hGz12 hsz13 q3 q4 l1 l2
  go_wp2_with fail
  refine (toProblem_out _ _ M Q _ (g1 _ hw13) (g2 _ hw13) HN1.out HN2.out).mono ?_; rintro e w14 ⟨gE, gF, us14, rfl, hr14, hb14⟩
  have hsz14 := hb14.size
  have hw14 : Below w.heap.size w w14 := hw13.trans (hb14.mono hw13.size)
  have R14 := Lib.hid (hr14.reads I1.out I2.out)
  have HM14 := Lib.hid (HM13.out.below hb14 (by omega))
  have HA14 := Lib.hid (HA13.out.below hb14 (by omega))
  have hGz14 : G1 ≤ w14.heap.size := by omega
  clear hr14 HV13 HM13 HA13 hb14 hw13 hGz13 hsz14 q1 q2
  go_wp2_with fail
  refine (HI.out _ _ _ (gl _ (by (repeat' (first | (with_reducible exact Below.refl _ _) | (with_reducible assumption) | (with_reducible refine Below.alloc ?_ ?_ _) | (with_reducible refine Below.drew ?_) | (with_reducible refine below_drewN ?_ _) | (with_reducible refine Below.setCell ?_ ?_ _) | (with_reducible refine Below.trans ?_ (Below.mono (by with_reducible assumption) ?_)) | (with_reducible exact Below.size (by with_reducible assumption)) | go_size)))) R14.out.1 R14.out.2).mono ?_; rintro e w15 ho15; obtain ⟨a15, c15, rfl, hr15, hb15⟩ := ho15.out; clear ho15; dsimp only at hr15; dsimp only
  have hsz15 := hb15.size
  have hw15 : Below w.heap.size w w15 := hw14.trans (hb15.mono hw14.size)
  have HM15 := Lib.hid (HM14.out.below hb15 (by omega))
  have HA15 := Lib.hid (HA14.out.below hb15 (by omega))
  have HH15 := Lib.hid hr15
  have hGz15 : G1 ≤ w15.heap.size := by omega
  clear hr15 HM14 HA14 hb15 hw14 hGz14 hsz15 R14
  go_wp2_with fail
  refine (eqI_ans HH15.out HA15.out HF.out).mono ?_; rintro e w16 ⟨rfl, hb16⟩
  have hw16 : Below w.heap.size w w16 := hw15.trans (hb16.mono hw15.size)
  have HM16 := Lib.hid (HM15.out.below hb16 (by omega))
  clear HM15 HA15 HH15 hb16 hw15
  go_wp2_with fail
  refine (heldI_ans HM16.out HF.out).mono ?_; rw [HSG.out]; rintro e w17 ⟨rfl, hb17⟩
  have hw17 : Below w.heap.size w w17 := hw16.trans (hb17.mono hw16.size)
  go_wp2_with fail
  go_ret
  exact ⟨rfl, hw17⟩
end Go.Proofs.YtopokicejgjcoaaDoor.PW
