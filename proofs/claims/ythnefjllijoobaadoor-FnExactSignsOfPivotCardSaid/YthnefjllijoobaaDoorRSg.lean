/-
  Walks: the signs of a pivot, in the model and in the program.
-/
import Derived.Test.YthnefjllijoobaaDoorRPpS
import Derived.Test.YthnefjllijoobaaDoorRCmp
namespace Go.Proofs.YthnefjllijoobaaDoor.PW
open Go.RowKit Go.Proofs.YthnefjllijoobaaDoor
open Go.Proofs.YthnefjllijoobaaDoor.PM Go.Proofs.YthnefjllijoobaaDoor.PX

/-! ### Rows of signs -/
def sgnP (x : Int) : Int := if x < 0 then -1 else if 0 < x then 1 else 0
theorem isNaNP_any (x : Int) (w : World) : Calls Tryd.prog 86 #[.int .i64 x] w fun e w' => e = .returned (.bool false) ∧ w = w' := by
  go_enter Tryd.func86, Tryd.ntmps86
  go_wp2
  go_ret
  exact ⟨ret_bool (by simp), rfl⟩
theorem compareP_any (x : Int) (w : World) : Calls Tryd.prog 71 #[.int .i64 x, .int .i64 0] w fun e w' => e = .returned (.int .i64 (sgnP x)) ∧ w = w' := by
  unfold sgnP
  by_cases h1 : x < 0
  · rw [if_pos h1]
    go_enter Tryd.func71, Tryd.ntmps71
    go_wp2_with (refine (isNaNP_any _ _).mono ?_; rintro e w' ⟨rfl, rfl⟩)
    go_ret
    exact ⟨rfl, rfl⟩
  · rw [if_neg h1]
    by_cases h2 : 0 < x
    · rw [if_pos h2]
      go_enter Tryd.func71, Tryd.ntmps71
      go_wp2_with (refine (isNaNP_any _ _).mono ?_; rintro e w' ⟨rfl, rfl⟩)
      go_ret
      exact ⟨rfl, rfl⟩
    · rw [if_neg h2]
      go_enter Tryd.func71, Tryd.ntmps71
      go_wp2_with (refine (isNaNP_any _ _).mono ?_; rintro e w' ⟨rfl, rfl⟩)
      go_ret
      exact ⟨rfl, rfl⟩
def sgF (n : Nat) (f : Nat → Nat → Int) (g : Nat → Int) (i k : Nat) : Int := sgnP (if k < n then f i k else g i)
def sgX (n : Nat) (F : Nat → Nat → Int) (k j : Nat) : List (List Int) := (List.range n).map fun i => if i < k then (List.range (n + 1)).map (F i) else if i = k then (List.range j).map (F i) else []
def sgA (n : Nat) (F : Nat → Nat → Int) (k : Nat) : List (List Int) := (List.range k).map fun i => (List.range (n + 1)).map (F i)
theorem sgA_succ (n : Nat) (F : Nat → Nat → Int) (k : Nat) : sgA n F (k + 1) = sgA n F k ++ [(List.range (n + 1)).map (F k)] := by simp [sgA, List.range_succ]
theorem sgA_length (n : Nat) (F : Nat → Nat → Int) (k : Nat) : (sgA n F k).length = k := by simp [sgA]
theorem sgX_length (n : Nat) (F : Nat → Nat → Int) (k j : Nat) : (sgX n F k j).length = n := by simp [sgX]
theorem sgX_zero (n : Nat) (F : Nat → Nat → Int) : sgX n F 0 0 = List.replicate n [] := by
  apply List.ext_getElem (by simp [sgX])
  intro i h1 h2
  simp [sgX]
theorem sgX_at (n : Nat) (F : Nat → Nat → Int) (k j : Nat) (hk : k < n) : (sgX n F k j).getD k [] = (List.range j).map (F k) := by simp [sgX, hk]
theorem sgX_step (n : Nat) (F : Nat → Nat → Int) (k j : Nat) : (sgX n F k j).set k ((List.range j).map (F k) ++ [F k j]) = sgX n F k (j + 1) := by
  apply List.ext_getElem (by simp [sgX])
  intro i h1 h2
  simp only [List.getElem_set, sgX, List.getElem_map, List.getElem_range]
  by_cases e : k = i
  · subst e
    rw [if_pos rfl, if_neg (by omega), if_pos rfl, rows_snoc]
  · rw [if_neg e]
    by_cases e2 : i < k
    · rw [if_pos e2, if_pos e2]
    · rw [if_neg e2, if_neg e2, if_neg (fun c => e c.symm), if_neg (fun c => e c.symm)]
theorem sgX_next (n : Nat) (F : Nat → Nat → Int) (k : Nat) : sgX n F k (n + 1) = sgX n F (k + 1) 0 := by
  unfold sgX
  apply List.map_congr_left
  intro i _
  by_cases e : i < k
  · rw [if_pos e, if_pos (by omega)]
  · by_cases e2 : i = k
    · rw [if_neg e, if_pos e2, if_pos (by omega)]
    · rw [if_neg e, if_neg e2, if_neg (by omega)]
      by_cases e3 : i = k + 1
      · rw [if_pos e3]; rfl
      · rw [if_neg e3]
theorem sgX_all (n : Nat) (F : Nat → Nat → Int) : sgX n F n 0 = sgA n F n := by
  unfold sgX sgA
  apply List.map_congr_left
  intro i hi
  have : i < n := by simpa using hi
  rw [if_pos this]
theorem sgnP_I64 (x : Int) : I64 (sgnP x) := by
  unfold sgnP I64
  split
  · omega
  · split <;> omega
theorem sgA_fine {n : Nat} {f : Nat → Nat → Int} {g : Nat → Int} (hn : n ≤ 5) : FineR (sgA n (sgF n f g) n) := by
  refine fineR_of (n := 6) (by omega) (by rw [sgA_length]; omega) (fun x hx => ?_) (fun x hx y hy => ?_)
  · unfold sgA at hx
    simp only [List.mem_map] at hx
    obtain ⟨a, _, rfl⟩ := hx
    simp
    omega
  · unfold sgA at hx
    simp only [List.mem_map] at hx
    obtain ⟨a, _, rfl⟩ := hx
    simp only [List.mem_map] at hy
    obtain ⟨b, _, rfl⟩ := hy
    exact sgnP_I64 _
def spOut (M : List (List Int)) (Q : List Int) (s : Int) : List (List Int) × Int :=
  if (pvOut M Q s).c = 0 then (sgA M.length (sgF M.length (pvR M s) (pvS M Q s)) M.length, 0) else ([], (pvOut M Q s).c)
theorem spOut_ok {M : List (List Int)} {Q : List Int} {s : Int} (h : (pvOut M Q s).c = 0) : spOut M Q s = (sgA M.length (sgF M.length (pvR M s) (pvS M Q s)) M.length, 0) := by unfold spOut; rw [if_pos h]
theorem spOut_no {M : List (List Int)} {Q : List Int} {s : Int} (h : (pvOut M Q s).c ≠ 0) : spOut M Q s = ([], (pvOut M Q s).c) := by unfold spOut; rw [if_neg h]
theorem fine_spv (M : List (List Int)) (Q : List Int) (s : Int) : FineR (spOut M Q s).1 := by
  by_cases h : (pvOut M Q s).c = 0
  · rw [spOut_ok h]; exact sgA_fine (isPB_facts (pvOut_facts h).1).2.1
  · rw [spOut_no h]; exact fineR_nil
theorem outR_no {w w' : World} {c : Int} (hb : Below w.heap.size w w') : OutR w ([], c) (.returned (.tuple #[.slice none 0 0, .int .i64 c])) w' := ⟨_, [], rfl, ownRs_nil _ _, hb⟩
theorem l04Sign_any (x : Int) (w : World) : Calls Tryd.prog 70 #[.int .i64 x] w fun e w' => e = .returned (.int .i64 (sgnP x)) ∧ w = w' := by
  unfold sgnP
  by_cases h1 : x < 0
  · rw [if_pos h1]
    go_enter Tryd.func70, Tryd.ntmps70
    go_wp2
    go_ret
    exact ⟨rfl, rfl⟩
  · rw [if_neg h1]
    by_cases h2 : 0 < x
    · rw [if_pos h2]
      go_enter Tryd.func70, Tryd.ntmps70
      go_wp2
      go_ret
      exact ⟨rfl, rfl⟩
    · rw [if_neg h2]
      go_enter Tryd.func70, Tryd.ntmps70
      go_wp2
      go_ret
      exact ⟨rfl, rfl⟩

set_option maxRecDepth 100000 in
set_option maxHeartbeats 8000000 in
theorem specSignsOfPivot_any (m q : Value) (M : List (List Int)) (Q : List Int) (s : Int) (w : World) (h1 : PM.Rows w m M) (h2 : Ints w q Q) :
    Calls Tryd.prog 40 #[.agg #[m, q], .int .i64 s] w (OutR w (spOut M Q s)) := by
  have hpv := fun (w' : World) (h : Below w.heap.size w w') => specPivotOf_any m q M Q s w' (h1.below h) (h2.below h)
  obtain ⟨a1, c1, rfl, _⟩ := h1
  obtain ⟨a2, c2, rfl, _⟩ := h2
  by_cases hc : (pvOut M Q s).c = 0
  case neg =>
    rw [spOut_no hc]
    have HP := Lib.hid hpv
    clear hpv
    generalize pvOut M Q s = o at *
    obtain ⟨D, R, S, c0⟩ := o
    dsimp only at hc ⊢
    have hcb : (c0 == 0) = false := by simpa using hc
    go_enter Tryd.func40, Tryd.ntmps40
    go_wp2_with fail
    refine (HP.out _ (by (repeat' (first | (with_reducible exact Below.refl _ _) | (with_reducible assumption) | (with_reducible refine Below.alloc ?_ ?_ _) | (with_reducible refine Below.drew ?_) | (with_reducible refine below_drewN ?_ _) | (with_reducible refine Below.setCell ?_ ?_ _) | (with_reducible refine Below.trans ?_ (Below.mono (by with_reducible assumption) ?_)) | (with_reducible exact Below.size (by with_reducible assumption)) | go_size)))).mono ?_; rintro e w1 ⟨a, c, a', c', us, rfl, hM, hb1⟩
    dsimp only
    have hw1 : Below w.heap.size w w1 := by (repeat' (first | (with_reducible exact Below.refl _ _) | (with_reducible assumption) | (with_reducible refine Below.alloc ?_ ?_ _) | (with_reducible refine Below.drew ?_) | (with_reducible refine below_drewN ?_ _) | (with_reducible refine Below.setCell ?_ ?_ _) | (with_reducible refine Below.trans ?_ (Below.mono (by with_reducible assumption) ?_)) | (with_reducible exact Below.size (by with_reducible assumption)) | go_size))
    clear hM hb1
    go_wp2_with fail
    go_ret2
    exact outR_no (by (repeat' (first | (with_reducible exact Below.refl _ _) | (with_reducible assumption) | (with_reducible refine Below.alloc ?_ ?_ _) | (with_reducible refine Below.drew ?_) | (with_reducible refine below_drewN ?_ _) | (with_reducible refine Below.setCell ?_ ?_ _) | (with_reducible refine Below.trans ?_ (Below.mono (by with_reducible assumption) ?_)) | (with_reducible exact Below.size (by with_reducible assumption)) | go_size)))
  obtain ⟨hp, hs0, hs1, hD, ho⟩ := pvOut_facts hc
  rw [spOut_ok hc]
  rw [ho] at hpv
  have HP := Lib.hid hpv
  have hn1 := (isPB_facts hp).1
  have hn5 := (isPB_facts hp).2.1
  have HI := Lib.hid (And.intro (tabP_I64 hp s) (sideP_I64 hp s))
  clear hc hp hs0 hs1 ho hpv hD
  generalize pvD M s = D at *
  generalize pvR M s = f at *
  generalize pvS M Q s = g at *
  obtain ⟨n, hn⟩ : ∃ n, n = M.length := ⟨_, rfl⟩
  rw [← hn]
  obtain ⟨F, hF⟩ : ∃ F, F = sgF n f g := ⟨_, rfl⟩
  rw [← hF]
  have HFR := Lib.hid (show ∀ i k, k < n → F i k = sgnP (f i k) from fun i k hk => by rw [hF]; unfold sgF; rw [if_pos hk])
  have HFS := Lib.hid (show ∀ i, F i n = sgnP (g i) from fun i => by rw [hF]; unfold sgF; rw [if_neg (Nat.lt_irrefl _)])
  clear hF
  go_enter Tryd.func40, Tryd.ntmps40
  go_wp2_with fail
  refine (HP.out _ (by (repeat' (first | (with_reducible exact Below.refl _ _) | (with_reducible assumption) | (with_reducible refine Below.alloc ?_ ?_ _) | (with_reducible refine Below.drew ?_) | (with_reducible refine below_drewN ?_ _) | (with_reducible refine Below.setCell ?_ ?_ _) | (with_reducible refine Below.trans ?_ (Below.mono (by with_reducible assumption) ?_)) | (with_reducible exact Below.size (by with_reducible assumption)) | go_size)))).mono ?_; rintro e w1 ⟨a, c, a', c', us, rfl, hM, hb1⟩
  dsimp only at hM ⊢
  rw [tab_length, row_length] at hM ⊢
  rw [← hn] at HI hM hn1 hn5 ⊢
  have hw1 : Below w.heap.size w w1 := by (repeat' (first | (with_reducible exact Below.refl _ _) | (with_reducible assumption) | (with_reducible refine Below.alloc ?_ ?_ _) | (with_reducible refine Below.drew ?_) | (with_reducible refine below_drewN ?_ _) | (with_reducible refine Below.setCell ?_ ?_ _) | (with_reducible refine Below.trans ?_ (Below.mono (by with_reducible assumption) ?_)) | (with_reducible exact Below.size (by with_reducible assumption)) | go_size))
  obtain ⟨bR, oR, cR, hv, hbR, hcell⟩ := rowsI_at (hM.rows.rows.rows' HI.out.1) hn1
  simp only [Value.slice.injEq] at hv
  obtain ⟨rfl, _, rfl⟩ := hv
  obtain ⟨bS, oS, cS, hv, hbS, hcellS⟩ := ints_at (hM.side.ints HI.out.2) (row_length _ _) hn1
  simp only [Value.slice.injEq] at hv
  obtain ⟨rfl, _, rfl⟩ := hv
  have HCE := Lib.hid hcell
  have HCS := Lib.hid (fun k (hk : k < n) => by have := hcellS k (by rw [row_length]; exact hk); rw [row_getD _ _ _ hk] at this; exact this)
  obtain ⟨i0, hi, hzz0, hzz1, hzz2⟩ := info_parts info_ints
  obtain ⟨j0, hj, hyy0, hyy1, hyy2⟩ := info_parts info_int
  clear hcell hcellS hM hb1 HP hn HI
  go_wp2_with fail
  obtain ⟨W0, hW0⟩ : ∃ W0, (w1.alloc (.cells #[.int .i64 D, .slice (some ⟨bR, oR, none⟩) n c, .slice (some ⟨bS, oS, none⟩) n c'] 28)) = W0 := ⟨_, rfl⟩
  have hB0 : Below w1.heap.size w1 W0 := by rw [← hW0]; exact (Below.refl _ _).alloc (Nat.le_refl _) _
  have hz0 : W0.heap.size = w1.heap.size + 1 := by rw [← hW0]; simp
  have x1 : W0.cell? ⟨w1.heap.size, 1, none⟩ = some (.slice (some ⟨bR, oR, none⟩) n c) := by rw [← hW0]; simp
  have x2 : W0.cell? ⟨w1.heap.size, 2, none⟩ = some (.slice (some ⟨bS, oS, none⟩) n c') := by rw [← hW0]; simp
  rw [hW0]
  clear hW0
  go_loopw [8, 9, 10, 11] (fun v i _ _ wr => ∃ (k : Nat) (us : List Value), k ≤ n ∧ i = .int .i64 k ∧ FreshR W0.heap.size wr v (sgA n F k) us ∧ Below W0.heap.size W0 wr) (fun _ i _ _ _ => n - (intOf i).toNat)
  case atStart => exact ⟨0, [], Nat.zero_le _, by go_num, by rw [show w1.heap.size + 1 = W0.heap.size by omega]; exact freshR_nil W0, (Below.refl _ _).alloc (Nat.le_refl _) _⟩
  case round =>
    obtain ⟨i, us, hin, rfl, hF, hB⟩ := hrel
    have y1 := (hB.cell (p := ⟨w1.heap.size, 1, none⟩) (by show w1.heap.size < _; omega)).trans x1
    have y2 := (hB.cell (p := ⟨w1.heap.size, 2, none⟩) (by show w1.heap.size < _; omega)).trans x2
    by_cases hlt : i < n
    · have HF := Lib.hid hF
      clear hF
      obtain ⟨W1, rfl⟩ : ∃ W1, W1 = wr := ⟨_, rfl⟩
      have HB := Lib.hid hB
      have hzr := hB.size
      clear hB
      go_wp2_with fail
      go_loopw [10, 11] (fun v c wi => ∃ j : Nat, j ≤ n ∧ c = .int .i64 j ∧ FreshI W1.heap.size wi v ((List.range j).map (F i)) ∧ Below W1.heap.size W1 wi) (fun _ c _ => n - (intOf c).toNat)
      case atStart => exact ⟨0, Nat.zero_le _, by go_num, freshI_nil W1, (Below.refl _ _).alloc (Nat.le_refl _) _⟩
      case round =>
        obtain ⟨j, hjn, rfl, hI, hBI⟩ := hrel
        have z1 := (hBI.cell (p := ⟨w1.heap.size, 1, none⟩) (by show w1.heap.size < _; omega)).trans y1
        have z2 := (hBI.cell (p := ⟨w1.heap.size, 2, none⟩) (by show w1.heap.size < _; omega)).trans y2
        have hzi := hBI.size
        have hWr : Below w1.heap.size w1 wr := hB0.trans ((HB.out.trans (hBI.mono hzr)).mono (by omega))
        by_cases hltj : j < n
        · obtain ⟨bi, oi, ci, d1, hbi, _, d2⟩ := HCE.out i hlt
          have d3 := (hWr.cell (p := ⟨bR, oR + i, none⟩) hbR).trans d1
          have d4 := (hWr.cell (p := ⟨bi, oi + j, none⟩) hbi).trans (d2 j hltj)
          have how := hI.owns
          rw [row_length] at how
          have HOW := Lib.hid how
          have HI := Lib.hid hI
          have HBI := Lib.hid hBI
          have HFE := Lib.hid (HFR.out i j hltj)
          clear how hI hBI d1 d2 hWr
          generalize f i j = X at *
          go_wp2_with fail
          refine (l04Sign_any _ _).mono ?_; rintro e w' ⟨rfl, rfl⟩
          generalize sgnP X = Y at *
          go_wp2_with (at_builtin; refine wpList_append_lies _ rfl _ _ 23 rfl 0 2 j0 (.int .i64 0) 1 8 Tryd.underlying23 hj hyy0 hyy1 hyy2 rfl (by decide) u10 j _ rfl ((HOW.out).alloc _) _ 1 _ [.int .i64 Y] rfl rfl (cell_one_new _ _ _) (by simp [Value.oneCell']) (by decide) (by unfold maxLen; omega) (by omega) (Nat.zero_le _) _ rfl ?_; intro g5 cap w3 hown hgrow hat hgl)
          have hpu := HI.out.push (by omega) (row_length _ _).symm hown hat hgl
          have hgr := HI.out.grow HBI.out (by have := HBI.out.size; omega) hgrow
          rw [← HFE.out, ← rows_snoc] at hpu
          have HPU := Lib.hid hpu
          have HGR := Lib.hid hgr
          clear hpu hgr hown hgrow hat hgl
          go_wp2_with fail
          go_roundw
          case rel => exact ⟨j + 1, by omega, by go_num, HPU.out, HGR.out⟩
          case measure => simp [intOf]; omega
        · obtain rfl : n = j := by omega
          have d5 := (hWr.cell (p := ⟨bS, oS + i, none⟩) hbS).trans (HCS.out i hlt)
          have how := hI.owns
          rw [row_length] at how
          have HOW := Lib.hid how
          have HI := Lib.hid hI
          have HFE := Lib.hid (HFS.out i)
          have HBI := Lib.hid hBI
          clear how hI hWr hBI
          generalize g i = X at *
          go_wp2_with fail
          refine (l04Sign_any _ _).mono ?_; rintro e w' ⟨rfl, rfl⟩
          generalize sgnP X = Y at *
          have HOV := Lib.hid (fun W (h : Below W1.heap.size W1 W) => show W.ownsRow 0 23 1 u8 i us by
            have := (HF.out.below h).own.top
            rwa [sgA_length] at this)
          go_wp2_with (at_builtin; first | (refine wpList_append_lies _ rfl _ _ 23 rfl 0 2 j0 (.int .i64 0) 1 8 Tryd.underlying23 hj hyy0 hyy1 hyy2 rfl (by decide) u10 n _ rfl ((HOW.out).alloc _) _ 1 _ [.int .i64 Y] rfl rfl (cell_one_new _ _ _) (by simp [Value.oneCell']) (by decide) (by unfold maxLen; omega) (by omega) (Nat.zero_le _) _ rfl ?_; intro g5 cap w3 hown hgrow hat hgl; have HPU := Lib.hid (HI.out.push (by omega) (row_length _ _).symm hown hat hgl); have HGR := Lib.hid (HI.out.grow HBI.out (by have := HBI.out.size; omega) hgrow); clear hown hgrow hat) | (refine wpList_append_lies _ rfl _ _ 22 rfl 0 23 i0 (.slice none 0 0) 1 24 Tryd.underlying22 hi hzz0 hzz1 hzz2 rfl (by decide) u8 i us rfl (HOV.out _ (HGR.out.alloc HGR.out.size _)) _ 1 _ [.slice (some ⟨g5, 0, none⟩) (n + 1) cap] rfl rfl (cell_one_new _ _ _) (by simp [Value.oneCell']) (by decide) (by unfold maxLen; omega) (by omega) (Nat.zero_le _) _ rfl ?_; intro g6 cap6 w6 hown6 hgrow6 hat6 hgl6))
          have hpu5 := HPU.out
          rw [← HFE.out, ← rows_snoc] at hpu5
          have hall : Below w3.heap.size w3 (w3.alloc (.cells #[.slice (some ⟨g5, 0, none⟩) (n + 1) cap] 23)) := (Below.refl _ _).alloc (Nat.le_refl _) _
          have hz3 := HGR.out.size
          have hsl := sgA_length n F i
          have hpu := HF.out.push hzr (hpu5.below hall) (HGR.out.trans (hall.mono hz3)) (by rw [hsl]; exact hown6) hgrow6 hat6 hgl6
          have hgr : Below W0.heap.size W0 w6 := by
            obtain ⟨gv, cv, hv, hv1, hv2⟩ := HF.out.top
            exact ((HB.out.trans (HGR.out.mono hzr)).alloc (by omega) _).grown hgrow6 (by simp; omega) (fun b hb' => by rw [hv] at hb'; simp [Value.ownBlock] at hb'; omega)
          rw [← sgA_succ, hsl] at hpu
          have HPU6 := Lib.hid hpu
          have HGR6 := Lib.hid hgr
          clear hpu hgr hown6 hgrow6 hat6 hgl6 hall hpu5 hsl
          go_wp2_with fail
          go_roundw
          case rel => exact ⟨i + 1, _, by omega, by go_num, HPU6.out, HGR6.out⟩
          case measure => simp [intOf]; omega
    · obtain rfl : i = n := by omega
      have HF := Lib.hid hF
      have HB := Lib.hid hB
      clear hF hB
      go_wp2_with fail
      go_ret2
      exact ⟨_, us, rfl, HF.out.ownRs.mono (by have := hw1.size; omega), hw1.trans ((hB0.trans (HB.out.mono (by omega))).mono hw1.size)⟩
end Go.Proofs.YthnefjllijoobaaDoor.PW
