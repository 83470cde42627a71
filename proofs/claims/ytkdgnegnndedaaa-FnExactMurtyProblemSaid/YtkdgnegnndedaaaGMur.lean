/-
  The exact law of MurtyProblem: both sides' answers, and the law.
-/
import Derived.Test.YtkdgnegnndedaaaPPg
import Derived.Test.YtkdgnegnndedaaaPRep
import Derived.Test.YtkdgnegnndedaaaPTb
import Derived.Test.YtkdgnegnndedaaaPLawC
namespace Go.Proofs.Ytkdgnegnndedaaa.PW
open Go.RowKit Go.Proofs.Ytkdgnegnndedaaa
open Go.Proofs.Ytkdgnegnndedaaa.PM Go.Proofs.Ytkdgnegnndedaaa.PX
attribute [local go_sem] Oper.semAt_some

/-- The numbers of Murty's matrix. -/
def mu (i j : Nat) : Int := if j = i then 1 else if i < j then 2 else 0
/-- The rows up to k are done, the row k up to j. -/
def muTo (k j a b : Nat) : Int := if b = a then 1 else if a < b ∧ (a < k ∨ (a = k ∧ b < j)) then 2 else 0
def muOut (n : Int) : List (List Int) × List Int × Int := if 1 ≤ n ∧ n ≤ 5 then (tab n.toNat mu, List.replicate n.toNat (-1), 0) else ([], [], 2)
theorem muOut_no {n : Int} (h : ¬ (1 ≤ n ∧ n ≤ 5)) : muOut n = ([], [], 2) := by unfold muOut; rw [if_neg h]
theorem muOut_ok {n : Nat} (h1 : 1 ≤ n) (h5 : n ≤ 5) : muOut n = (tab n mu, List.replicate n (-1), 0) := by unfold muOut; rw [if_pos (by omega), Int.toNat_natCast]
theorem fine_mu (n : Int) : Fine (muOut n) := by
  by_cases h : 1 ≤ n ∧ n ≤ 5
  · obtain ⟨m, rfl⟩ := Int.eq_ofNat_of_zero_le (show 0 ≤ n by omega)
    rw [muOut_ok (by omega) (by omega)]
    refine ⟨fun j hj x hx => ?_, fun x hx => ?_, tab_tot m mu (by omega), ?_⟩
    · dsimp only at hj hx
      rw [tab_length] at hj
      rw [tab_row _ _ _ hj] at hx
      obtain ⟨b, hb, rfl⟩ := List.mem_map.1 hx
      unfold mu I64
      split <;> (try split) <;> omega
    · have := List.eq_of_mem_replicate hx
      subst this
      unfold I64
      omega
    · show (List.replicate m (-1 : Int)).length ≤ _
      rw [List.length_replicate]
      omega
  · rw [muOut_no h]; exact fine_nil 2
theorem outP_nil {w w' : World} {c : Int} (h : Below w.heap.size w w') : OutP w ([], [], c) (.returned (.tuple #[.agg #[.slice none 0 0, .slice none 0 0], .int .i64 c])) w' :=
  ⟨_, _, [], rfl, ownP_nil _ _, h⟩
theorem mu_start (n : Nat) : tab n unitG = tab n (muTo 0 0) := tab_congr fun a b _ _ => by
  unfold unitG muTo
  by_cases e : b = a
  · rw [if_pos e, if_pos e]
  · rw [if_neg e, if_neg e, if_neg (by omega)]
theorem mu_set (n k j : Nat) (h : k < j) : tab n (upd (muTo k j) k j 2) = tab n (muTo k (j + 1)) := tab_congr fun a b _ _ => by
  unfold upd muTo
  by_cases e : a = k ∧ b = j
  · rw [if_pos e, if_neg (by omega), if_pos (by omega)]
  · rw [if_neg e]
    by_cases e1 : b = a
    · rw [if_pos e1, if_pos e1]
    · rw [if_neg e1, if_neg e1]
      by_cases e2 : a < b ∧ (a < k ∨ (a = k ∧ b < j))
      · rw [if_pos e2, if_pos (by omega)]
      · rw [if_neg e2, if_neg (by omega)]
theorem mu_in (n k : Nat) : tab n (muTo k 0) = tab n (muTo k (k + 1)) := tab_congr fun a b _ _ => by
  unfold muTo
  by_cases e1 : b = a
  · rw [if_pos e1, if_pos e1]
  · rw [if_neg e1, if_neg e1]
    by_cases e2 : a < b ∧ (a < k ∨ (a = k ∧ b < 0))
    · rw [if_pos e2, if_pos (by omega)]
    · rw [if_neg e2, if_neg (by omega)]
theorem mu_row (n k : Nat) : tab n (muTo k n) = tab n (muTo (k + 1) 0) := tab_congr fun a b _ hb => by
  unfold muTo
  by_cases e1 : b = a
  · rw [if_pos e1, if_pos e1]
  · rw [if_neg e1, if_neg e1]
    by_cases e2 : a < b ∧ (a < k ∨ (a = k ∧ b < n))
    · rw [if_pos e2, if_pos (by omega)]
    · rw [if_neg e2, if_neg (by omega)]
theorem mu_end (n : Nat) : tab n (muTo n 0) = tab n mu := tab_congr fun a b ha _ => by
  unfold muTo mu
  by_cases e1 : b = a
  · rw [if_pos e1, if_pos e1]
  · rw [if_neg e1, if_neg e1]
    by_cases e2 : a < b
    · rw [if_pos e2, if_pos (by omega)]
    · rw [if_neg e2, if_neg (by omega)]

set_option maxHeartbeats 2000000 in
theorem implMurtyProblem_any (n : Int) (w : World) : Calls Try.prog 51 #[.int .i64 n] w (OutP w (muOut n)) := by
  by_cases h : 1 ≤ n ∧ n ≤ 5
  case neg =>
    rw [muOut_no h]
    by_cases h1 : n < 1
    · clear h
      go_enter Try.func51, Try.ntmps51
      go_wp2
      refine bodyPost_ret (v := .tuple #[.agg #[.slice none 0 0, .slice none 0 0], .int .i64 2]) (by simp [*, results, Try.results51, go_sem]) rfl ?_
      exact outP_nil (by (repeat' (first | (with_reducible exact Below.refl _ _) | (with_reducible assumption) | (with_reducible refine Below.alloc ?_ ?_ _) | (with_reducible refine Below.drew ?_) | (with_reducible refine below_drewN ?_ _) | (with_reducible refine Below.setCell ?_ ?_ _) | (with_reducible refine Below.trans ?_ (Below.mono (by with_reducible assumption) ?_)) | (with_reducible exact Below.size (by with_reducible assumption)) | go_size)))
    · have h2 : n > 5 := by omega
      clear h
      go_enter Try.func51, Try.ntmps51
      go_wp2
      refine bodyPost_ret (v := .tuple #[.agg #[.slice none 0 0, .slice none 0 0], .int .i64 2]) (by simp [*, results, Try.results51, go_sem]) rfl ?_
      exact outP_nil (by (repeat' (first | (with_reducible exact Below.refl _ _) | (with_reducible assumption) | (with_reducible refine Below.alloc ?_ ?_ _) | (with_reducible refine Below.drew ?_) | (with_reducible refine below_drewN ?_ _) | (with_reducible refine Below.setCell ?_ ?_ _) | (with_reducible refine Below.trans ?_ (Below.mono (by with_reducible assumption) ?_)) | (with_reducible exact Below.size (by with_reducible assumption)) | go_size)))
  obtain ⟨m, rfl⟩ := Int.eq_ofNat_of_zero_le (show 0 ≤ n by omega)
  have h1 : 1 ≤ m := by omega
  have h5 : m ≤ 5 := by omega
  rw [muOut_ok h1 h5]
  have e1 : ¬ (m : Int) < 1 := by omega
  have e5 : ¬ (m : Int) > 5 := by omega
  clear h
  go_enter Try.func51, Try.ntmps51
  go_wp2_with fail
  refine (unitRows_any m h1 h5 _).mono ?_; rintro e w1 ⟨us, rfl, hf1, hb1⟩
  rw [mu_start] at hf1
  rw [show (w.alloc (.cells #[.slice none 0 0, .slice none 0 0] 27)).heap.size = w.heap.size + 1 by simp] at hf1 hb1 ⊢
  obtain ⟨W0, hW0⟩ : ∃ W0, W0 = w.alloc (.cells #[.slice none 0 0, .slice none 0 0] 27) := ⟨_, rfl⟩
  rw [← hW0] at hb1
  have y0 : W0.cell? ⟨w.heap.size, 0, none⟩ = some (.slice none 0 0) := by rw [hW0]; simp
  have y1 : W0.cell? ⟨w.heap.size, 1, none⟩ = some (.slice none 0 0) := by rw [hW0]; simp
  have yf : ∀ o, W0.frozen? ⟨w.heap.size, o, none⟩ = false := fun o => by rw [hW0]; simp [go_sem]
  have hw0 : Below w.heap.size w W0 := by rw [hW0]; (repeat' (first | (with_reducible exact Below.refl _ _) | (with_reducible assumption) | (with_reducible refine Below.alloc ?_ ?_ _) | (with_reducible refine Below.drew ?_) | (with_reducible refine below_drewN ?_ _) | (with_reducible refine Below.setCell ?_ ?_ _) | (with_reducible refine Below.trans ?_ (Below.mono (by with_reducible assumption) ?_)) | (with_reducible exact Below.size (by with_reducible assumption)) | go_size))
  have HWS := Lib.hid (show W0.heap.size = w.heap.size + 1 by rw [hW0]; simp)
  have HF1 := Lib.hid hf1
  have HB1 := Lib.hid hb1
  clear hf1 hb1 hW0 e1 e5
  go_wp2_with fail
  go_loopw [5, 6, 7, 19] (fun _ _ _ i wr => ∃ k : Nat, k ≤ m ∧ i = .int .i64 k ∧ FreshR (w.heap.size + 1) wr (.slice (some ⟨w.heap.size + 1, 0, none⟩) m m) (tab m (muTo k 0)) us ∧ Below (w.heap.size + 1) W0 wr) (fun _ _ _ i _ => m - (intOf i).toNat)
  case atStart => exact ⟨0, Nat.zero_le _, rfl, HF1.out, HB1.out⟩
  case round =>
    obtain ⟨k, hk, rfl, hF, hB⟩ := hrel
    obtain ⟨W1, rfl⟩ : ∃ W1, W1 = wr := ⟨_, rfl⟩
    by_cases hlt : k < m
    · have t0 := (hF.topAt hlt).1
      obtain ⟨gr, cr, hu⟩ := hF.shape hlt
      rw [hu] at t0
      rw [mu_in] at hF
      have HU := Lib.hid hu
      have HF := Lib.hid hF
      have HB := Lib.hid hB
      clear hF hB hu
      have hk0 : (0 : Int) ≤ (k : Int) := by omega
      go_wp2_with fail
      go_loopw [7] (fun c wr => ∃ j : Nat, k < j ∧ j ≤ m ∧ c = .int .i64 j ∧ FreshR (w.heap.size + 1) wr (.slice (some ⟨w.heap.size + 1, 0, none⟩) m m) (tab m (muTo k j)) us ∧ Below (w.heap.size + 1) W0 wr) (fun c _ => m - (intOf c).toNat)
      case atStart => exact ⟨k + 1, by omega, by omega, by go_num, HF.out, HB.out⟩
      case round =>
        obtain ⟨j, hkj, hjm, rfl, hF, hB⟩ := hrel
        by_cases hlt2 : j < m
        · obtain ⟨c0, f0⟩ := hF.cellAt hlt hlt2 HU.out
          have hge := hF.rowGe hlt HU.out
          have hset := hF.setTab hlt HU.out (k := j) 2
          rw [mu_set _ _ _ hkj] at hset
          have HS := Lib.hid hset
          have HB2 := Lib.hid (hB.setCell (p := ⟨gr, j, none⟩) hge.1 (.int .i64 2))
          clear hF hB hset
          generalize muTo k j k j = x at *
          go_wp2_with fail
          go_roundw
          case rel => exact ⟨j + 1, by omega, by omega, by go_num, HS.out, HB2.out⟩
          case measure => simp [intOf]; omega
        · obtain rfl : j = m := by omega
          rw [mu_row] at hF
          have HF2 := Lib.hid hF
          have HB2 := Lib.hid hB
          clear hF hB
          go_wp2_with fail
          go_roundw
          case rel => exact ⟨k + 1, by omega, by go_num, HF2.out, HB2.out⟩
          case measure => simp [intOf]; omega
    · obtain rfl : k = m := by omega
      rw [mu_end] at hF
      have hzb : w.heap.size + 1 ≤ W1.heap.size := by have := hB.size; have := HWS.out; omega
      have HF := Lib.hid hF
      have HB := Lib.hid hB
      have z0 := (hB.cell (p := ⟨w.heap.size, 0, none⟩) (by show w.heap.size < _; omega)).trans y0
      have z1 := (hB.cell (p := ⟨w.heap.size, 1, none⟩) (by show w.heap.size < _; omega)).trans y1
      have zf0 := (hB.frozen (p := ⟨w.heap.size, 0, none⟩) (by show w.heap.size < _; omega)).trans (yf 0)
      have zf1 := (hB.frozen (p := ⟨w.heap.size, 1, none⟩) (by show w.heap.size < _; omega)).trans (yf 1)
      clear hF hB y0 y1 yf
      go_wp2_with fail
      refine (repeatI_any k W1.heap.size 1 (-1) _ h1 h5 (by simp) (by simp)).mono ?_; rintro e w5 ⟨rfl, hq, hb5⟩
      rw [show (W1.alloc (.cells #[.int .i64 (-1)] 2)).heap.size = W1.heap.size + 1 by simp] at hq hb5 ⊢
      have hal : Below W1.heap.size W1 (W1.alloc (.cells #[.int .i64 (-1)] 2)) := (Below.refl _ _).alloc (Nat.le_refl _) _
      have hb15 : Below W1.heap.size W1 w5 := hal.trans (hb5.mono (by omega))
      have hrows := HF.out.below hb15
      obtain ⟨gq, cq, hvq, hq1, hq2, _⟩ := id hq
      have hP : FreshP (w.heap.size + 1) w5 (.slice (some ⟨w.heap.size + 1, 0, none⟩) k k) (.slice (some ⟨W1.heap.size + 1, 0, none⟩) k k) (tab k mu) (List.replicate k (-1)) us := by
        refine ⟨hrows, hq.mono (by omega), fun b hb => ?_⟩
        simp [Value.ownBlock] at hb
        subst hb
        refine ⟨by simp [Value.ownBlock]; omega, fun i hi c => ?_⟩
        have := HF.out.rows i _ hi c
        omega
      have ht : Tch [w.heap.size] w5 ((w5.setCell ⟨w.heap.size, 0, none⟩ (.slice (some ⟨w.heap.size + 1, 0, none⟩) k k)).setCell ⟨w.heap.size, 1, none⟩ (.slice (some ⟨W1.heap.size + 1, 0, none⟩) k k)) := ((Tch.refl _ _).setCell (by simp) _).setCell (by simp) _
      have hP2 := (hP.tch ht (fun b hb => by simp at hb; omega)).mono (C := w.heap.size) (by omega)
      have HP2 := Lib.hid hP2.ownP
      have HBW := Lib.hid ((((hw0.trans ((HB.out.trans (hb15.mono (by omega))).mono (by omega))).setCell (p := ⟨w.heap.size, 0, none⟩) (Nat.le_refl _) (.slice (some ⟨w.heap.size + 1, 0, none⟩) k k)).setCell (p := ⟨w.heap.size, 1, none⟩) (Nat.le_refl _) (.slice (some ⟨W1.heap.size + 1, 0, none⟩) k k)))
      have z0 := (hb15.cell (p := ⟨w.heap.size, 0, none⟩) (by show w.heap.size < _; omega)).trans z0
      have z1 := (hb15.cell (p := ⟨w.heap.size, 1, none⟩) (by show w.heap.size < _; omega)).trans z1
      have zf0 := (hb15.frozen (p := ⟨w.heap.size, 0, none⟩) (by show w.heap.size < _; omega)).trans zf0
      have zf1 := (hb15.frozen (p := ⟨w.heap.size, 1, none⟩) (by show w.heap.size < _; omega)).trans zf1
      clear hP hP2 ht hrows hq hvq hb5 hb15 hal
      go_wp2_with fail
      refine bodyPost_ret (v := .tuple #[.agg #[.slice (some ⟨w.heap.size + 1, 0, none⟩) k k, .slice (some ⟨W1.heap.size + 1, 0, none⟩) k k], .int .i64 0]) (by simp [*, results, Try.results51, go_sem]) rfl ?_
      exact ⟨_, _, us, rfl, HP2.out, HBW.out⟩

/-- The row k of the model while it is written: up to j. -/
def mrow (n k j : Nat) : List Int := (List.range n).map fun b => if b = k then (1 : Int) else if k < b ∧ b < j then 2 else 0
theorem mrow_length (n k j : Nat) : (mrow n k j).length = n := by simp [mrow]
theorem mrow_start (n k : Nat) : (List.replicate n (0 : Int)).set k 1 = mrow n k (k + 1) := by
  apply List.ext_getElem (by simp [mrow])
  intro j h1 h2
  simp only [List.getElem_set, mrow, List.getElem_map, List.getElem_range, List.getElem_replicate]
  by_cases e : k = j
  · subst e; simp
  · have e' : ¬ j = k := fun c => e c.symm
    rw [if_neg e, if_neg e', if_neg (by omega)]
theorem mrow_set (n k j : Nat) (h : k < j) : (mrow n k j).set j 2 = mrow n k (j + 1) := by
  apply List.ext_getElem (by simp [mrow])
  intro b h1 h2
  simp only [List.getElem_set, mrow, List.getElem_map, List.getElem_range]
  by_cases e : j = b
  · subst e
    rw [if_pos rfl, if_neg (by omega), if_pos (by omega)]
  · rw [if_neg e]
    by_cases e1 : b = k
    · rw [if_pos e1, if_pos e1]
    · rw [if_neg e1, if_neg e1]
      by_cases e2 : k < b ∧ b < j
      · rw [if_pos e2, if_pos (by omega)]
      · rw [if_neg e2, if_neg (by omega)]
theorem mrow_end (n k : Nat) : mrow n k n = (List.range n).map (mu k) := by
  unfold mrow
  apply List.map_congr_left
  intro b hb
  have hb' : b < n := by simpa using hb
  unfold mu
  by_cases e1 : b = k
  · rw [if_pos e1, if_pos e1]
  · rw [if_neg e1, if_neg e1]
    by_cases e2 : k < b
    · rw [if_pos ⟨e2, hb'⟩, if_pos e2]
    · rw [if_neg (by omega), if_neg e2]
/-- The rows up to k. -/
def mrows (n k : Nat) : List (List Int) := (List.range k).map fun a => (List.range n).map (mu a)
theorem mrows_length (n k : Nat) : (mrows n k).length = k := by simp [mrows]
theorem mrows_snoc (n k : Nat) : mrows n (k + 1) = mrows n k ++ [(List.range n).map (mu k)] := by unfold mrows; rw [List.range_succ, List.map_append]; rfl
theorem rep_snoc (k : Nat) : List.replicate (k + 1) (-1 : Int) = List.replicate k (-1) ++ [-1] := by rw [List.replicate_succ']

set_option maxRecDepth 100000 in
set_option maxHeartbeats 2000000 in
theorem specMurtyProblem_any (n : Int) (w : World) : Calls Try.prog 50 #[.int .i64 n] w (OutP w (muOut n)) := by
  by_cases h : 1 ≤ n ∧ n ≤ 5
  case neg =>
    rw [muOut_no h]
    have HI := Lib.hid (show decide (1 ≤ n ∧ n ≤ 5) = false from decide_eq_false h)
    clear h
    go_enter Try.func50, Try.ntmps50
    go_wp2_with fail
    refine (l01In_is n 1 5 false _ HI.out).mono ?_; rintro e w2 ⟨rfl, rfl⟩
    go_wp2_with fail
    refine bodyPost_ret (v := .tuple #[.agg #[.slice none 0 0, .slice none 0 0], .int .i64 2]) (by simp [*, results, Try.results50, go_sem]) rfl ?_
    exact outP_nil (by (repeat' (first | (with_reducible exact Below.refl _ _) | (with_reducible assumption) | (with_reducible refine Below.alloc ?_ ?_ _) | (with_reducible refine Below.drew ?_) | (with_reducible refine below_drewN ?_ _) | (with_reducible refine Below.setCell ?_ ?_ _) | (with_reducible refine Below.trans ?_ (Below.mono (by with_reducible assumption) ?_)) | (with_reducible exact Below.size (by with_reducible assumption)) | go_size)))
  obtain ⟨m, rfl⟩ := Int.eq_ofNat_of_zero_le (show 0 ≤ n by omega)
  have h1 : 1 ≤ m := by omega
  have h5 : m ≤ 5 := by omega
  rw [muOut_ok h1 h5]
  have HI := Lib.hid (show decide (1 ≤ (m : Int) ∧ (m : Int) ≤ 5) = true from decide_eq_true h)
  have hmk := run_make_row' (P := Try.prog) 23 2 (.int .i64 0) 8 Try.underlying23 info_int rfl .i64 .i64 m (by omega) (by omega)
  have HZ := Lib.hid (fun w => zeros_fresh w m (by unfold maxLen; omega))
  obtain ⟨j0, hj, hyy0, hyy1, hyy2⟩ := info_parts info_int
  obtain ⟨i0, hi, hxx0, hxx1, hxx2⟩ := info_parts info_ints
  clear h
  go_enter Try.func50, Try.ntmps50
  go_wp2_with fail
  refine (l01In_is _ 1 5 true _ HI.out).mono ?_; rintro e w2 ⟨rfl, rfl⟩
  go_wp2_with fail
  obtain ⟨W0, hW0⟩ : ∃ W0, W0 = w.alloc (.cells #[.slice none 0 0, .slice none 0 0] 27) := ⟨_, rfl⟩
  have y0 : W0.cell? ⟨w.heap.size, 0, none⟩ = some (.slice none 0 0) := by rw [hW0]; simp
  have y1 : W0.cell? ⟨w.heap.size, 1, none⟩ = some (.slice none 0 0) := by rw [hW0]; simp
  have yf : ∀ o, W0.frozen? ⟨w.heap.size, o, none⟩ = false := fun o => by rw [hW0]; simp [go_sem]
  have hw0 : Below w.heap.size w W0 := by rw [hW0]; (repeat' (first | (with_reducible exact Below.refl _ _) | (with_reducible assumption) | (with_reducible refine Below.alloc ?_ ?_ _) | (with_reducible refine Below.drew ?_) | (with_reducible refine below_drewN ?_ _) | (with_reducible refine Below.setCell ?_ ?_ _) | (with_reducible refine Below.trans ?_ (Below.mono (by with_reducible assumption) ?_)) | (with_reducible exact Below.size (by with_reducible assumption)) | go_size))
  have hs0 : W0.heap.size = w.heap.size + 1 := by rw [hW0]; simp
  have HWS := Lib.hid hs0
  have hpg := pgG_start W0
  rw [hs0] at hpg
  have hbs : Below (w.heap.size + 1) W0 (((W0.alloc (.cells #[] 23)).alloc (.cells #[] 2)).alloc (.cells #[.slice (some ⟨w.heap.size + 1, 0, none⟩) 0 0, .slice (some ⟨w.heap.size + 1 + 1, 0, none⟩) 0 0] 27)) := (((Below.refl _ _).alloc (by omega) _).alloc (by simp; omega) _).alloc (by simp; omega) _
  rw [← hW0]
  have HPG0 := Lib.hid hpg
  have HBS := Lib.hid hbs
  clear hW0 hpg hbs hs0
  go_loopw [5, 6, 7] (fun i _ _ wr => ∃ (k : Nat) (v q : Value) (us : List Value), k ≤ m ∧ i = .int .i64 k ∧ PgG (w.heap.size + 1) wr (w.heap.size + 1 + 1 + 1) v q (mrows m k) (List.replicate k (-1)) us ∧ Below (w.heap.size + 1) W0 wr) (fun i _ _ _ => m - (intOf i).toNat)
  case atStart => exact ⟨0, _, _, [], Nat.zero_le _, rfl, HPG0.out, HBS.out⟩
  case round =>
    obtain ⟨k, v, q, us, hk, rfl, hP, hB⟩ := hrel
    obtain ⟨W1, rfl⟩ : ∃ W1, W1 = wr := ⟨_, rfl⟩
    have HPG := Lib.hid hP
    have HB := Lib.hid hB
    by_cases hlt : k < m
    · clear hP hB
      have hz := (HZ.out W1).set k 1
      rw [mrow_start] at hz
      have HZ1 := Lib.hid hz
      have HR0 := Lib.hid (HZ.out W1)
      have hk0 : (0 : Int) ≤ (k : Int) := by omega
      have hkm : (k : Int) < m := by omega
      have hoo := freshI_own (HZ.out W1)
      have k0 := own_cellN hoo (by simp) hlt
      have k1 := own_frozenN hoo (by simp) k
      have HBW := Lib.hid (((Below.refl W1.heap.size W1).alloc (Nat.le_refl _) (.cells (madeCells #[.int .i64 0] m) 2)).setCell (p := ⟨W1.heap.size, k, none⟩) (Nat.le_refl _) (.int .i64 1))
      clear hz hoo
      generalize (List.replicate m (0 : Int)).getD k 0 = z0 at *
      go_wp2_with fail
      go_loopw [7] (fun c wr => ∃ j : Nat, k < j ∧ j ≤ m ∧ c = .int .i64 j ∧ FreshI W1.heap.size wr (.slice (some ⟨W1.heap.size, 0, none⟩) m m) (mrow m k j) ∧ Below W1.heap.size W1 wr) (fun c _ => m - (intOf c).toNat)
      case atStart => exact ⟨k + 1, by omega, by omega, by go_num, by simpa [go_sem] using HZ1.out, by (repeat' (first | (with_reducible exact Below.refl _ _) | (with_reducible assumption) | (with_reducible refine Below.alloc ?_ ?_ _) | (with_reducible refine Below.drew ?_) | (with_reducible refine below_drewN ?_ _) | (with_reducible refine Below.setCell ?_ ?_ _) | (with_reducible refine Below.trans ?_ (Below.mono (by with_reducible assumption) ?_)) | (with_reducible exact Below.size (by with_reducible assumption)) | go_size))⟩
      case round =>
        obtain ⟨j, hkj, hjm, rfl, hF, hBi⟩ := hrel
        by_cases hlt2 : j < m
        · have hoo := freshI_own hF
          have c0 := own_cellN hoo (mrow_length _ _ _).symm hlt2
          have c1 := own_frozenN hoo (mrow_length _ _ _).symm j
          have hset := hF.set j 2
          rw [mrow_set _ _ _ hkj] at hset
          have HS := Lib.hid hset
          have HB2 := Lib.hid (hBi.setCell (p := ⟨W1.heap.size, j, none⟩) (Nat.le_refl _) (.int .i64 2))
          clear hF hBi hset hoo
          generalize (mrow m k j).getD j 0 = x at *
          go_wp2_with fail
          go_roundw
          case rel => exact ⟨j + 1, by omega, by omega, by go_num, HS.out, HB2.out⟩
          case measure => simp [intOf]; omega
        · obtain rfl : j = m := by omega
          rw [mrow_end] at hF
          have HROW := Lib.hid hF
          have HWI := Lib.hid hBi
          have HSZ : Hid (w.heap.size + 1 ≤ W1.heap.size) := Lib.hid (by have h1 := HB.out.size; have h2 := HWS.out; omega)
          have hzW := hBi.size
          have n0 := (hBi.cell (p := ⟨w.heap.size + 1 + 1 + 1, 0, none⟩) HPG.out.lt).trans HPG.out.c1
          have n1 := (hBi.cell (p := ⟨w.heap.size + 1 + 1 + 1, 1, none⟩) HPG.out.lt).trans HPG.out.c2
          clear hF hBi k0 k1
          go_wp2_with (first | (at_builtin; refine wpList_append_lies _ rfl _ _ 22 rfl 0 23 i0 (.slice none 0 0) 1 24 Try.underlying22 hi hxx0 hxx1 hxx2 rfl (by decide) v k us rfl (HPG.out.ownV (HWI.out.alloc HWI.out.size _) (mrows_length j k)) _ 1 _ [.slice (some ⟨W1.heap.size, 0, none⟩) j j] rfl rfl (cell_one_new _ _ _) (by simp [Value.oneCell']) (by decide) (by unfold maxLen; omega) (by omega) (Nat.zero_le _) _ rfl ?_; intro g cap w4 hown hgrow hat hgl; have hb3 := HWI.out.alloc HWI.out.size (.cells #[.slice (some ⟨W1.heap.size, 0, none⟩) j j] 23); have hP5 := HPG.out.rowF hb3 (HROW.out.below ((Below.refl _ _).alloc (Nat.le_refl _) _)) (Nat.le_refl _) (mrows_length j k) hown hgrow hat; obtain ⟨_, fc, ff⟩ := HPG.out.far hb3 hgrow HPG.out.vN; have e0 := (fc 0).trans HPG.out.c1; have e1 := (fc 1).trans HPG.out.c2; have f0 := ff 0; have f1 := ff 1; have hlow := ((HB.out.trans (hb3.mono HSZ.out)).grown hgrow (Nat.le_trans HSZ.out hb3.size) (fun b hb => (HPG.out.rows.mb b hb).1)).setCell (p := ⟨w.heap.size + 1 + 1 + 1, 0, none⟩) (show w.heap.size + 1 ≤ w.heap.size + 1 + 1 + 1 by omega) (.slice (some ⟨g, 0, none⟩) (k + 1) cap); rw [← mrows_snoc] at hP5; have HP5 := Lib.hid hP5; have HLOW := Lib.hid hlow; have HS5 : Hid (w.heap.size + 1 ≤ (w4.setCell ⟨w.heap.size + 1 + 1 + 1, 0, none⟩ (.slice (some ⟨g, 0, none⟩) (k + 1) cap)).heap.size) := Lib.hid (Nat.le_of_lt (Nat.lt_of_le_of_lt (by omega) HP5.out.lt)); clear hP5 hlow fc ff hown hgrow hat hgl hb3) | (at_builtin; go_loud (refine wpList_append_lies _ rfl _ _ 23 rfl 0 2 j0 (.int .i64 0) 1 8 Try.underlying23 hj hyy0 hyy1 hyy2 rfl (by decide) q k _ rfl (HP5.out.ownQ ((Below.refl _ _).alloc (Nat.le_refl _) _) (by simp)) _ 1 _ [.int .i64 (-1)] rfl rfl (cell_one_at (by simp)) (by simp [Value.oneCell']) (by decide) (by unfold maxLen; omega) (by omega) (Nat.zero_le _) _ rfl ?_; intro g2 cap2 w6 hown hgrow hat hgl; have hb3 := (Below.refl ((w4.setCell ⟨w.heap.size + 1 + 1 + 1, 0, none⟩ (.slice (some ⟨g, 0, none⟩) (k + 1) cap))).heap.size (w4.setCell ⟨w.heap.size + 1 + 1 + 1, 0, none⟩ (.slice (some ⟨g, 0, none⟩) (k + 1) cap))).alloc (Nat.le_refl _) (.cells #[.int .i64 (-1)] 2); have hP7 := HP5.out.numF hb3 (by simp) hown hgrow hat hgl; obtain ⟨_, fc, ff⟩ := HP5.out.far hb3 hgrow HP5.out.qN; have e3 := (fc 1).trans HP5.out.c2; have f3 := ff 1; have hlow := ((HLOW.out.trans (hb3.mono HS5.out)).grown hgrow (Nat.le_trans HS5.out hb3.size) (fun b hb => (HP5.out.qb b hb).1)).setCell (p := ⟨w.heap.size + 1 + 1 + 1, 1, none⟩) (show w.heap.size + 1 ≤ w.heap.size + 1 + 1 + 1 by omega) (.slice (some ⟨g2, 0, none⟩) (k + 1) cap2); rw [← rep_snoc] at hP7; have HP7 := Lib.hid hP7; have HLOW7 := Lib.hid hlow; clear hP7 hlow fc ff hown hgrow hat hgl hb3)))
          go_roundw
          case rel => exact ⟨k + 1, _, _, _, by omega, by go_num, HP7.out, HLOW7.out⟩
          case measure => simp [intOf]; omega
    · obtain rfl : k = m := by omega
      have hz := hP.lt
      have z0 := (hB.cell (p := ⟨w.heap.size, 0, none⟩) (by show w.heap.size < _; omega)).trans y0
      have z1 := (hB.cell (p := ⟨w.heap.size, 1, none⟩) (by show w.heap.size < _; omega)).trans y1
      have zf0 := (hB.frozen (p := ⟨w.heap.size, 0, none⟩) (by show w.heap.size < _; omega)).trans (yf 0)
      have zf1 := (hB.frozen (p := ⟨w.heap.size, 1, none⟩) (by show w.heap.size < _; omega)).trans (yf 1)
      have n0 := hP.c1
      have n1 := hP.c2
      have hmr : mrows k k = tab k mu := rfl
      rw [hmr] at hP
      obtain ⟨av, cv, rfl⟩ : ∃ a c, v = .slice a k c := by
        rcases hP.rows.rows.top.2 with ⟨rfl, hn⟩ | ⟨g, cap, cur, rfl, _⟩
        · rw [tab_length] at hn
          omega
        · exact ⟨_, cap, by rw [tab_length]⟩
      obtain ⟨aq, cq, hq⟩ := OwnI.shape hP.side
      rw [List.length_replicate] at hq
      subst hq
      have HP2 := Lib.hid hP
      have HBW := Lib.hid (((hw0.trans (hB.mono (by omega))).setCell (p := ⟨w.heap.size, 0, none⟩) (Nat.le_refl _) (.slice av k cv)).setCell (p := ⟨w.heap.size, 1, none⟩) (Nat.le_refl _) (.slice aq k cq))
      clear hP hB y0 y1 yf hmr HB HPG
      go_wp2_with fail
      refine bodyPost_ret (v := .tuple #[.agg #[.slice av k cv, .slice aq k cq], .int .i64 0]) (by simp [*, results, Try.results50, go_sem]) rfl ?_
      have hk2 : ∀ b, b ≠ w.heap.size → ((W1.setCell ⟨w.heap.size, 0, none⟩ (.slice av k cv)).setCell ⟨w.heap.size, 1, none⟩ (.slice aq k cq)).heap[b]? = W1.heap[b]? := fun b hb => (Below.heap_setCell _ ⟨w.heap.size, 1, none⟩ _ _ hb).trans (Below.heap_setCell _ ⟨w.heap.size, 0, none⟩ _ _ hb)
      have hRs := HP2.out.rows.keepB (W' := (W1.setCell ⟨w.heap.size, 0, none⟩ (.slice av k cv)).setCell ⟨w.heap.size, 1, none⟩ (.slice aq k cq)) (by simp) (fun b hb => hk2 b (by have := (HP2.out.rows.mb b hb).1; omega)) (fun i b hi hb => hk2 b (by have := (HP2.out.rows.ub i b hi hb).1; omega))
      refine ⟨_, _, us, rfl, ⟨hRs.rows, own_keep HP2.out.side (fun b hb => hk2 b (by have := (HP2.out.qb b hb).1; omega)), fun b hb => ?_, fun b hb => ?_, fun i b hi hb => ?_, fun b hb => ⟨own_apart HP2.out.side HP2.out.rows.rows.top (by decide) hb, fun i hi c => HP2.out.qu i b hi c hb⟩⟩, HBW.out⟩
      · have := hRs.mb b hb; omega
      · have := HP2.out.qb b hb; simp; omega
      · have := hRs.ub i b hi hb; omega

set_option maxRecDepth 100000 in
set_option maxHeartbeats 4000000 in
theorem law_FnExactMurtyProblem (n : Int) (w : World) :
    Calls Try.prog 10 #[.int .i64 n] w fun e w' => e = .returned (.bool true) ∧ Below w.heap.size w w' := by
  have hspec := fun (w : World) => specMurtyProblem_any n w
  have himpl := fun (w : World) => implMurtyProblem_any n w
  have HF := Lib.hid (fine_mu n)
  generalize muOut n = o at *
  obtain ⟨MO, QO, code⟩ := o
  have HS := Lib.hid hspec
  have HI := Lib.hid himpl
  have hf1 := HF.out.m64
  have hf2 := HF.out.q64
  have hf3 := HF.out.tot
  have hf4 := HF.out.len
  dsimp only at hf1 hf2 hf3 hf4
  have hkb : (1 : Int) + tot MO + QO.length ≤ 4611686018427387904 := by omega
  have hm1 : ∀ i, i < (marksR 1 MO).length → ∀ x ∈ (marksR 1 MO).getD i [], I64 x := marksR_i64 (by decide) (by omega)
  have hm2 : ∀ x ∈ marks (1 + (pre MO MO.length : Int)) QO.length, I64 x := marks_i64 (by omega) (by have := pre_le MO MO.length; unfold tot at hkb; omega)
  have hc13 := fun m q w h1 h2 => heldProblem_any m q MO QO.length 1 w h1 h2 (by decide) hkb
  have hc12 := fun lo hi m q us w h1 h2 => markProblem_any lo hi m q MO QO us 1 w h1 h2 (by decide) hkb
  have F1 := Lib.hid hf1
  have F2 := Lib.hid hf2
  have M1 := Lib.hid hm1
  have M2 := Lib.hid hm2
  have HC12 := Lib.hid hc12
  have HC13 := Lib.hid hc13
  clear hspec himpl hf1 hf2 hf3 hf4 HF hkb hm1 hm2 hc12 hc13
  go_enter Try.func10, Try.ntmps10
  go_wp2_with fail
  refine (HS.out _).mono ?_; rintro e w3 ho3; obtain ⟨a3, c3, b3, d3, us3, rfl, hr3, hb3⟩ := ho3.out; clear ho3; dsimp only at hr3; dsimp only
  have HR3 := Lib.hid hr3
  have HB3 := Lib.hid hb3
  clear hr3 hb3
  go_wp2_with fail
  refine (HI.out _).mono ?_; rintro e w5 ho5; obtain ⟨a5, c5, b5, d5, us5, rfl, hr5, hb5⟩ := ho5.out; clear ho5; dsimp only at hr5; dsimp only
  have hsz3 : (w3.alloc (.cells #[.slice a3 MO.length c3, .slice b3 QO.length d3] 27)).heap.size = w3.heap.size + 1 := by simp
  rw [hsz3] at hr5
  have hb5z := hb5.size
  rw [hsz3] at hb5z
  have hal3 : Below w3.heap.size w3 (w3.alloc (.cells #[.slice a3 MO.length c3, .slice b3 QO.length d3] 27)) := (Below.refl _ _).alloc (Nat.le_refl _) _
  have hw35 : Below w3.heap.size w3 w5 := hal3.trans (hb5.mono (by rw [hsz3]; omega))
  have e50 : w5.cell? ⟨w3.heap.size, 0, none⟩ = some (.slice a3 MO.length c3) := (hb5.cell (p := ⟨w3.heap.size, 0, none⟩) (by rw [hsz3]; show w3.heap.size < _; omega)).trans (by simp)
  have e51 : w5.cell? ⟨w3.heap.size, 1, none⟩ = some (.slice b3 QO.length d3) := (hb5.cell (p := ⟨w3.heap.size, 1, none⟩) (by rw [hsz3]; show w3.heap.size < _; omega)).trans (by simp)
  have hz35 : w3.heap.size < w5.heap.size := by omega
  go_wp2_with fail
  have hA5 := HR3.out.below hw35 (Nat.le_refl _)
  have hw5 : Below w.heap.size w w5 := HB3.out.trans (hw35.mono HB3.out.size)
  obtain ⟨W6, hW6⟩ : ∃ W6, W6 = w5.alloc (.cells #[.slice a5 MO.length c5, .slice b5 QO.length d5] 27) := ⟨_, rfl⟩
  have hW56 : Below w5.heap.size w5 W6 := by rw [hW6]; exact (Below.refl _ _).alloc (Nat.le_refl _) _
  have hz6 : W6.heap.size = w5.heap.size + 1 := by rw [hW6]; simp
  have g60 : W6.cell? ⟨w5.heap.size, 0, none⟩ = some (.slice a5 MO.length c5) := by rw [hW6]; simp
  have g61 : W6.cell? ⟨w5.heap.size, 1, none⟩ = some (.slice b5 QO.length d5) := by rw [hW6]; simp
  have e60 := (hW56.cell (p := ⟨w3.heap.size, 0, none⟩) (by show w3.heap.size < _; omega)).trans e50
  have e61 := (hW56.cell (p := ⟨w3.heap.size, 1, none⟩) (by show w3.heap.size < _; omega)).trans e51
  have hA6 := hA5.below hW56 (by have := HB3.out.size; omega)
  have hG6 := hr5.below hW56 (Nat.le_refl _)
  have hw6 : Below w.heap.size w W6 := hw5.trans (hW56.mono hw5.size)
  obtain ⟨V0, hV0⟩ : ∃ V0, V0 = w3.heap.size := ⟨_, rfl⟩
  obtain ⟨V2, hV2⟩ : ∃ V2, V2 = w5.heap.size := ⟨_, rfl⟩
  have hV : V0 + 1 ≤ V2 := by omega
  have HWV := Lib.hid (show w.heap.size ≤ V0 by have := HB3.out.size; omega)
  have hV6 : V2 < W6.heap.size := by omega
  rw [← hV0] at e60 e61 hA6 hG6
  rw [← hV2] at g60 g61 hG6
  have RG6 := Lib.hid (hG6.reads F1.out F2.out)
  have RA6 := Lib.hid (hA6.reads F1.out F2.out)
  have HG6 := Lib.hid hG6
  have HA6 := Lib.hid hA6
  have HW6 := Lib.hid hw6
  have HEQ6 := Lib.hid hW6
  rw [← HEQ6.out, ← hV0, ← hV2]
  clear hr5 hb5 hsz3 hb5z hal3 hw35 e50 e51 hA5 hw5 hW56 hz6 hA6 hG6 hw6 HR3 HB3 hW6 HEQ6 hV0 hV2 hz35
  refine (eqProblem_same _ _ _ _ MO QO _ RG6.out.1 RG6.out.2 RA6.out.1 RA6.out.2).mono ?_; rintro e w7 ⟨rfl, hb7⟩
  have g70 := (hb7.cell (p := ⟨V2, 0, none⟩) hV6).trans g60
  have g71 := (hb7.cell (p := ⟨V2, 1, none⟩) hV6).trans g61
  have e70 := (hb7.cell (p := ⟨V0, 0, none⟩) (by show V0 < _; omega)).trans e60
  have e71 := (hb7.cell (p := ⟨V0, 1, none⟩) (by show V0 < _; omega)).trans e61
  have hz7 : V2 < w7.heap.size := Nat.lt_of_lt_of_le hV6 hb7.size
  have HG7 := Lib.hid (HG6.out.below hb7 (by omega))
  have HA7 := Lib.hid (HA6.out.below hb7 (by omega))
  have HW7 := Lib.hid (HW6.out.trans (hb7.mono HW6.out.size))
  clear g60 g61 e60 e61 hb7 HG6 HA6 RG6 RA6 HW6 hV6
  go_wp2_with fail
  refine (HC12.out (V0 + 1) V2 _ _ us5 _ HG7.out (by omega)).mono ?_; rintro e w12 ⟨rfl, hm12, hbt12⟩
  have hz12 : V2 < w12.heap.size := Nat.lt_of_lt_of_le hz7 hbt12.size
  have g120 := (hbt12.cell (p := ⟨V2, 0, none⟩) hz7 (.inr (Nat.le_refl _))).trans g70
  have g121 := (hbt12.cell (p := ⟨V2, 1, none⟩) hz7 (.inr (Nat.le_refl _))).trans g71
  have e120 := (hbt12.cell (p := ⟨V0, 0, none⟩) (by show V0 < _; omega) (.inl (by show V0 < V0 + 1; omega))).trans e70
  have e121 := (hbt12.cell (p := ⟨V0, 1, none⟩) (by show V0 < _; omega) (.inl (by show V0 < V0 + 1; omega))).trans e71
  have HM12 := Lib.hid hm12
  have HA12 := Lib.hid (HA7.out.bet hbt12 (.inl (by omega)))
  have RM12 := Lib.hid (hm12.reads M1.out M2.out)
  have hws : w.heap.size ≤ V0 + 1 := by have := HWV.out; omega
  have HW12 := Lib.hid (HW7.out.trans ((hbt12.below (by omega)).mono hws))
  clear g70 g71 e70 e71 hz7 hm12 hbt12 HG7 HA7 HW7
  obtain ⟨pO, hpO⟩ : ∃ pO : Int, pO = 1 + pre MO MO.length + QO.length := ⟨_, rfl⟩
  have HPO := Lib.hid hpO
  have hp0 : ¬ pO < 0 := by omega
  rw [← hpO]
  clear hpO
  go_wp2_with fail
  refine (HC13.out _ _ _ RM12.out.1 RM12.out.2).mono ?_; rw [← HPO.out]; rintro e w13 ⟨rfl, hb13⟩
  have hz13 : V2 < w13.heap.size := Nat.lt_of_lt_of_le hz12 hb13.size
  have g130 := (hb13.cell (p := ⟨V2, 0, none⟩) hz12).trans g120
  have g131 := (hb13.cell (p := ⟨V2, 1, none⟩) hz12).trans g121
  have e130 := (hb13.cell (p := ⟨V0, 0, none⟩) (by show V0 < _; omega)).trans e120
  have e131 := (hb13.cell (p := ⟨V0, 1, none⟩) (by show V0 < _; omega)).trans e121
  have HM13 := Lib.hid (HM12.out.below hb13 (by omega))
  have HA13 := Lib.hid (HA12.out.below hb13 (by omega))
  have HW13 := Lib.hid (HW12.out.trans (hb13.mono HW12.out.size))
  clear g120 g121 e120 e121 hz12 hb13 HM12 HA12 HW12 RM12
  go_wp2_with fail
  refine (HI.out _).mono ?_; rintro e w15 ho15; obtain ⟨a15, c15, b15, d15, us15, rfl, hr15, hb15⟩ := ho15.out; clear ho15; dsimp only at hr15; dsimp only
  have hz15 : V2 < w15.heap.size := Nat.lt_of_lt_of_le hz13 hb15.size
  have g150 := (hb15.cell (p := ⟨V2, 0, none⟩) hz13).trans g130
  have g151 := (hb15.cell (p := ⟨V2, 1, none⟩) hz13).trans g131
  have e150 := (hb15.cell (p := ⟨V0, 0, none⟩) (by show V0 < _; omega)).trans e130
  have e151 := (hb15.cell (p := ⟨V0, 1, none⟩) (by show V0 < _; omega)).trans e131
  have hal : Below w15.heap.size w15 (w15.alloc (.cells #[.slice a15 MO.length c15, .slice b15 QO.length d15] 27)) := (Below.refl _ _).alloc (Nat.le_refl _) _
  have RH := Lib.hid ((hr15.below hal (Nat.le_refl _)).reads F1.out F2.out)
  have hA15 := HA13.out.below hb15 (by omega)
  have RA := Lib.hid ((hA15.below hal (by omega)).reads F1.out F2.out)
  have HM15 := Lib.hid (HM13.out.below hb15 (by omega))
  have HW15 := Lib.hid (HW13.out.trans (hb15.mono HW13.out.size))
  have hV015 : V0 < w15.heap.size := by omega
  clear g130 g131 e130 e131 hz13 hb15 hr15 hA15 HM13 HA13 HW13
  go_wp2_with fail
  refine (eqProblem_same _ _ _ _ MO QO _ RH.out.1 RH.out.2 RA.out.1 RA.out.2).mono ?_; rintro e w16 ⟨rfl, hb16⟩
  have hb16' : Below w15.heap.size w15 w16 := hal.trans (hb16.mono (by simp))
  have g160 := (hb16'.cell (p := ⟨V2, 0, none⟩) hz15).trans g150
  have g161 := (hb16'.cell (p := ⟨V2, 1, none⟩) hz15).trans g151
  have RM16 := Lib.hid ((HM15.out.below hb16' (by omega)).reads M1.out M2.out)
  have HW16 := Lib.hid (HW15.out.trans (hb16'.mono HW15.out.size))
  clear g150 g151 e150 e151 hz15 hb16 hb16' hal RH RA HM15 HW15
  go_wp2_with fail
  refine (HC13.out _ _ _ RM16.out.1 RM16.out.2).mono ?_; rw [← HPO.out]; rintro e w17 ⟨rfl, hb17⟩
  have hw17 := HW16.out.trans (hb17.mono HW16.out.size)
  clear HPO
  go_wp2_with fail
  go_ret
  exact ⟨rfl, hw17⟩
end Go.Proofs.Ytkdgnegnndedaaa.PW
