/-
  The exact law of AddMatrices: both sides' answers, and the law.
-/
import Derived.Test.YtillndnamechdaaQMat
namespace Go.Proofs.Ytillndnamechdaa.PW
open Go.RowKit Go.Proofs.Ytillndnamechdaa
open Go.Proofs.Ytillndnamechdaa.PM Go.Proofs.Ytillndnamechdaa.PX

theorem FreshI.set3 {B n g cap : Nat} {w : World} {xs : List Int} (h : FreshI B w (.slice (some ⟨g, 0, none⟩) n cap) xs) (k : Nat) (x : Int) : FreshI B (w.setCell ⟨g, k, none⟩ (.int .i64 x)) (.slice (some ⟨g, 0, none⟩) n cap) (xs.set k x) := by
  obtain ⟨g', cap', hv, hB, hlt, ho⟩ := h
  simp only [Value.slice.injEq, Option.some.injEq, Addr.mk.injEq, and_true] at hv
  obtain ⟨rfl, rfl, rfl⟩ := hv
  refine ⟨g, cap, by simp, hB, by simpa using hlt, ?_⟩
  exact own_set ho k x
theorem cell_one_at3 {W : World} {v : Value} {t : TypeId} {m : Nat} (h : W.heap.size = m) : ∀ (j : Nat) (u : Value), [v][j]? = some u → (W.alloc (.cells #[v] t)).cell? ((⟨m, 0, none⟩ : Addr).add j) = some u := by
  subst h
  exact cell_one_new W v t
theorem row_ent {M : List (List Int)} {n i : Nat} (h : (M.getD i []).length = n) : M.getD i [] = (List.range n).map (ent M i) := by
  apply List.ext_getElem
  · simp only [List.length_map, List.length_range]; exact h
  · intro k h1 h2
    simp only [List.getElem_map, List.getElem_range]
    unfold ent
    rw [getD_at _ _ h1]

/-- A number is added to each m(a)(a). -/
def addG (M : List (List Int)) (x : Int) (a b : Nat) : Int := if a = b then ent M a b + x else ent M a b
def addTo (M : List (List Int)) (x : Int) (i a b : Nat) : Int := if a = b ∧ a < i then ent M a b + x else ent M a b
theorem addTo_zero (M : List (List Int)) (x : Int) (n : Nat) : tab n (addTo M x 0) = tab n (ent M) := tab_congr (fun a b _ _ => by unfold addTo; rw [if_neg (by omega)])
theorem addTo_all (M : List (List Int)) (x : Int) (n : Nat) : tab n (addTo M x n) = tab n (addG M x) := tab_congr (fun a b ha _ => by
  unfold addTo addG
  by_cases e : a = b
  · rw [if_pos ⟨e, ha⟩, if_pos e]
  · rw [if_neg (fun c => e c.1), if_neg e])
theorem addTo_step (M : List (List Int)) (x : Int) (n i : Nat) : tab n (upd (addTo M x i) i i (ent M i i + x)) = tab n (addTo M x (i + 1)) := tab_congr (fun a b _ _ => by
  unfold upd addTo
  by_cases e : a = i ∧ b = i
  · obtain ⟨rfl, rfl⟩ := e
    rw [if_pos ⟨rfl, rfl⟩, if_pos ⟨rfl, by omega⟩]
  · rw [if_neg e]
    by_cases e2 : a = b ∧ a < i
    · rw [if_pos e2, if_pos ⟨e2.1, by omega⟩]
    · rw [if_neg e2, if_neg (by omega)])
theorem addTo_at (M : List (List Int)) (x : Int) (i : Nat) : addTo M x i i i = ent M i i := by unfold addTo; rw [if_neg (by omega)]
theorem addRow_set (M : List (List Int)) (x : Int) (n i : Nat) (_hi : i < n) : ((List.range n).map (ent M i)).set i (ent M i i + x) = (List.range n).map (addG M x i) := by
  rw [row_set]
  apply List.map_congr_left
  intro b _
  unfold addG
  by_cases e : b = i
  · subst e; simp
  · rw [if_neg e, if_neg (fun c => e c.symm)]

def addOut (M : List (List Int)) (x : Int) : List (List Int) × Int :=
  if matB M = false then ([], 1) else if ¬ (0 ≤ x ∧ x ≤ 20) then ([], 2) else if matB (tab M.length (addG M x)) = true then (tab M.length (addG M x), 0) else ([], 3)
theorem addOut_err1 {M : List (List Int)} {x : Int} (h : matB M = false) : addOut M x = ([], 1) := by unfold addOut; rw [if_pos h]
theorem addOut_err2 {M : List (List Int)} {x : Int} (h : matB M = true) (h2 : ¬ (0 ≤ x ∧ x ≤ 20)) : addOut M x = ([], 2) := by unfold addOut; rw [if_neg (by simp [h]), if_pos h2]
theorem addOut_ok {M : List (List Int)} {x : Int} (h : matB M = true) (h2 : 0 ≤ x ∧ x ≤ 20) (h3 : matB (tab M.length (addG M x)) = true) : addOut M x = (tab M.length (addG M x), 0) := by unfold addOut; rw [if_neg (by simp [h]), if_neg (fun c => c h2), if_pos h3]
theorem addOut_err3 {M : List (List Int)} {x : Int} (h : matB M = true) (h2 : 0 ≤ x ∧ x ≤ 20) (h3 : matB (tab M.length (addG M x)) = false) : addOut M x = ([], 3) := by unfold addOut; rw [if_neg (by simp [h]), if_neg (fun c => c h2), if_neg (by simp [h3])]
theorem addG_I64 {M : List (List Int)} {x : Int} (h : matB M = true) (h2 : 0 ≤ x ∧ x ≤ 20) : ∀ a b, a < M.length → b < M.length → Bd 40 (addG M x a b) := by
  obtain ⟨_, _, _, h4⟩ := matB_facts h
  intro a b ha hb
  have := h4 a b ha hb
  unfold addG Bd
  split <;> omega
theorem fine_add (M : List (List Int)) (x : Int) : FineR (addOut M x).1 := by
  cases h : matB M
  · rw [addOut_err1 h]; exact fineR_nil
  by_cases h2 : 0 ≤ x ∧ x ≤ 20
  case neg => rw [addOut_err2 h h2]; exact fineR_nil
  cases h3 : matB (tab M.length (addG M x))
  · rw [addOut_err3 h h2 h3]; exact fineR_nil
  · rw [addOut_ok h h2 h3]
    exact fineR_tab _ _ (matB_facts h).2.1 (fun a b ha hb => by have := addG_I64 h h2 a b ha hb; unfold Bd at this; unfold I64; omega)
theorem outR_err3 (w w' : World) (c : Int) (h : Below w.heap.size w w') : OutR w ([], c) (.returned (.tuple #[.slice none 0 0, .int .i64 c])) w' := ⟨_, [], rfl, ownRs_nil _ _, h⟩

set_option maxHeartbeats 1000000 in
theorem implAddMatrices_any (m : Value) (M : List (List Int)) (x : Int) (w : World) (h1 : PM.Rows w m M) : Calls Try.prog 50 #[m, .int .i64 x] w (OutR w (addOut M x)) := by
  have HS := Lib.hid (implIsMatrix_any m M w h1)
  cases hM : matB M
  · rw [addOut_err1 hM]
    obtain ⟨a1, c1, rfl, _⟩ := h1
    have HM := Lib.hid hM
    clear hM
    go_enter Try.func50, Try.ntmps50
    go_wp2_with fail
    refine HS.out.mono ?_; rw [HM.out]; rintro e w1 ⟨rfl, rfl⟩
    go_wp2_with fail
    go_ret2
    exact outR_err3 _ _ _ (by (repeat' (first | (with_reducible exact Below.refl _ _) | (with_reducible assumption) | (with_reducible refine Below.alloc ?_ ?_ _) | (with_reducible refine Below.drew ?_) | (with_reducible refine below_drewN ?_ _) | (with_reducible refine Below.setCell ?_ ?_ _) | (with_reducible refine Below.trans ?_ (Below.mono (by with_reducible assumption) ?_)) | (with_reducible exact Below.size (by with_reducible assumption)) | go_size)))
  by_cases hx : 0 ≤ x ∧ x ≤ 20
  case neg =>
    rw [addOut_err2 hM hx]
    obtain ⟨a1, c1, rfl, _⟩ := h1
    have HM := Lib.hid hM
    clear hM
    go_enter Try.func50, Try.ntmps50
    go_wp2_with fail
    refine HS.out.mono ?_; rw [HM.out]; rintro e w1 ⟨rfl, rfl⟩
    go_wp2_with fail
    all_goals
      first
      | omega
      | (go_ret2; exact outR_err3 _ _ _ (by (repeat' (first | (with_reducible exact Below.refl _ _) | (with_reducible assumption) | (with_reducible refine Below.alloc ?_ ?_ _) | (with_reducible refine Below.drew ?_) | (with_reducible refine below_drewN ?_ _) | (with_reducible refine Below.setCell ?_ ?_ _) | (with_reducible refine Below.trans ?_ (Below.mono (by with_reducible assumption) ?_)) | (with_reducible exact Below.size (by with_reducible assumption)) | go_size))))
  obtain ⟨f1, f2, f3, f4⟩ := matB_facts hM
  have hM0 : M ≠ [] := by intro c; rw [c] at f1; simp at f1
  have hner : ∀ i, i < M.length → M.getD i [] ≠ [] := fun i hi c => by have := f3 i hi; rw [c] at this; simp at this; omega
  have htot : tot M ≤ 1048576 := by rw [tab_ent rfl f3]; exact tab_tot _ _ f2
  have HC := Lib.hid (copyRows_any m M w h1 hM0 hner htot)
  have HTE := Lib.hid (tab_ent rfl f3)
  have HAB := Lib.hid (addG_I64 hM hx)
  have HFE := Lib.hid f4
  have HO := Lib.hid (fun h3 => addOut_ok hM hx h3)
  have HE := Lib.hid (fun h3 => addOut_err3 hM hx h3)
  obtain ⟨a1, c1, rfl, _⟩ := h1
  obtain ⟨hx1, hx2⟩ := hx
  have HM := Lib.hid hM
  clear hM f3 f4 hM0 hner htot
  go_enter Try.func50, Try.ntmps50
  go_wp2_with fail
  refine HS.out.mono ?_; rw [HM.out]; rintro e w1 ⟨rfl, rfl⟩
  go_wp2_with fail
  refine HC.out.mono ?_; rintro e w2 ⟨us, rfl, hf, hb2⟩
  have hf0 : FreshR w.heap.size w2 (.slice (some ⟨w.heap.size, 0, none⟩) M.length M.length) (tab M.length (addTo M x 0)) us := by
    rw [addTo_zero, ← HTE.out]; exact hf
  have HF0 := Lib.hid hf0
  clear hf hf0
  go_wp2_with fail
  go_loopw [7, 21] (fun _ c wr => ∃ (i : Nat), i ≤ M.length ∧ c = .int .i64 i ∧ FreshR w.heap.size wr (.slice (some ⟨w.heap.size, 0, none⟩) M.length M.length) (tab M.length (addTo M x i)) us ∧ Below w.heap.size w wr) (fun _ c _ => M.length - (intOf c).toNat)
  case atStart => exact ⟨0, Nat.zero_le _, rfl, HF0.out, hb2⟩
  case round =>
    obtain ⟨i, hi, rfl, hF, hB⟩ := hrel
    by_cases hlt : i < M.length
    · obtain ⟨gi, ci, hui⟩ := hF.shape hlt
      have t1 := (hF.topAt hlt).1
      rw [hui] at t1
      obtain ⟨e1, z1⟩ := hF.cellAt hlt hlt hui
      rw [addTo_at] at e1
      have hge := (hF.rowGe hlt hui).1
      have hst := hF.setTab (k := i) hlt hui (ent M i i + x)
      rw [addTo_step] at hst
      have hbl := hB.setCell (p := ⟨gi, i, none⟩) hge (.int .i64 (ent M i i + x))
      have HST := Lib.hid hst
      have HBL := Lib.hid hbl
      obtain ⟨hb1, hb2'⟩ := HFE.out i i hlt hlt
      clear hst hbl hF hB hui
      generalize ent M i i = y at *
      go_wp2_with fail
      go_roundw
      case rel => exact ⟨i + 1, by omega, by go_num, HST.out, HBL.out⟩
      case measure => simp [intOf]; omega
    · obtain rfl : i = M.length := by omega
      rw [addTo_all] at hF
      have HF := Lib.hid hF
      have hrows : PM.Rows wr (.slice (some ⟨w.heap.size, 0, none⟩) M.length M.length) (tab M.length (addG M x)) := hF.own.rows' (tab_I64 (B := 40) (by decide) HAB.out)
      have HR := Lib.hid (implIsMatrix_any _ _ _ hrows)
      clear hF hrows
      cases h3 : matB (tab M.length (addG M x))
      · have H3 := Lib.hid h3
        have HEE := Lib.hid (HE.out h3)
        clear h3
        go_wp2_with fail
        refine HR.out.mono ?_; rw [H3.out]; rintro e w3 ⟨rfl, rfl⟩
        go_wp2_with fail
        go_ret2
        rw [HEE.out]
        exact outR_err3 _ _ _ hB
      · have H3 := Lib.hid h3
        have HOO := Lib.hid (HO.out h3)
        clear h3
        go_wp2_with fail
        refine HR.out.mono ?_; rw [H3.out]; rintro e w3 ⟨rfl, rfl⟩
        go_wp2_with fail
        go_ret2
        rw [HOO.out]
        exact ⟨_, us, rfl, HF.out.ownRs, hB⟩

set_option maxHeartbeats 1000000 in
theorem specAddMatrices_any (m : Value) (M : List (List Int)) (x : Int) (w : World) (h1 : PM.Rows w m M) : Calls Try.prog 49 #[m, .int .i64 x] w (OutR w (addOut M x)) := by
  have HS := Lib.hid (l01Matrix_any m M w h1)
  cases hM : matB M
  · rw [addOut_err1 hM]
    obtain ⟨a1, c1, rfl, _⟩ := h1
    have HM := Lib.hid hM
    clear hM
    go_enter Try.func49, Try.ntmps49
    go_wp2_with fail
    refine HS.out.mono ?_; rw [HM.out]; rintro e w1 ⟨rfl, rfl⟩
    go_wp2_with fail
    go_ret2
    exact outR_err3 _ _ _ (by (repeat' (first | (with_reducible exact Below.refl _ _) | (with_reducible assumption) | (with_reducible refine Below.alloc ?_ ?_ _) | (with_reducible refine Below.drew ?_) | (with_reducible refine below_drewN ?_ _) | (with_reducible refine Below.setCell ?_ ?_ _) | (with_reducible refine Below.trans ?_ (Below.mono (by with_reducible assumption) ?_)) | (with_reducible exact Below.size (by with_reducible assumption)) | go_size)))
  by_cases hx : 0 ≤ x ∧ x ≤ 20
  case neg =>
    rw [addOut_err2 hM hx]
    obtain ⟨a1, c1, rfl, _⟩ := h1
    have HM := Lib.hid hM
    have HI := Lib.hid (decide_eq_false hx)
    clear hM hx
    go_enter Try.func49, Try.ntmps49
    go_wp2_with fail
    refine HS.out.mono ?_; rw [HM.out]; rintro e w1 ⟨rfl, rfl⟩
    go_wp2_with fail
    refine (l01In_is x 0 20 false _ HI.out).mono ?_; rintro e w2 ⟨rfl, rfl⟩
    go_wp2_with fail
    go_ret2
    exact outR_err3 _ _ _ (by (repeat' (first | (with_reducible exact Below.refl _ _) | (with_reducible assumption) | (with_reducible refine Below.alloc ?_ ?_ _) | (with_reducible refine Below.drew ?_) | (with_reducible refine below_drewN ?_ _) | (with_reducible refine Below.setCell ?_ ?_ _) | (with_reducible refine Below.trans ?_ (Below.mono (by with_reducible assumption) ?_)) | (with_reducible exact Below.size (by with_reducible assumption)) | go_size)))
  obtain ⟨f1, f2, f3, f4⟩ := matB_facts hM
  have hner : ∀ i, i < M.length → M.getD i [] ≠ [] := fun i hi c => by have := f3 i hi; rw [c] at this; simp at this; omega
  have HNE := Lib.hid hner
  have HRL := Lib.hid f3
  have HAB := Lib.hid (addG_I64 hM hx)
  have HFE := Lib.hid f4
  have HO := Lib.hid (fun h3 => addOut_ok hM hx h3)
  have HE := Lib.hid (fun h3 => addOut_err3 hM hx h3)
  have HI := Lib.hid (decide_eq_true hx)
  have g1 := fun (w' : World) (h : Below w.heap.size w w') => h1.below h
  obtain ⟨a1, cM, rfl, _, _, hxx⟩ := h1
  obtain ⟨b, off, rfl, hblt, hcell⟩ : ∃ b off, a1 = some ⟨b, off, none⟩ ∧ b < w.heap.size ∧ ∀ i, i < M.length → ∃ u, w.cell? ⟨b, off + i, none⟩ = some u ∧ Ints w u (M.getD i []) := by
    rcases hxx with hx | hx
    · rw [hx] at f1; simp at f1
    · exact hx
  have HCE := Lib.hid hcell
  obtain ⟨hx1, hx2⟩ := hx
  have HM := Lib.hid hM
  obtain ⟨i0, hi, hzz0, hzz1, hzz2⟩ := info_parts info_ints
  have hF0 := freshR_nil w
  have hB0 : Below w.heap.size w (w.alloc (.cells #[] 23)) := (Below.refl _ _).alloc (Nat.le_refl _) _
  have HF0 := Lib.hid hF0
  clear hM f3 f4 hner hF0 hcell hxx g1
  go_enter Try.func49, Try.ntmps49
  go_wp2_with fail
  refine HS.out.mono ?_; rw [HM.out]; rintro e w1 ⟨rfl, rfl⟩
  go_wp2_with fail
  refine (l01In_is x 0 20 true _ HI.out).mono ?_; rintro e w2 ⟨rfl, rfl⟩
  go_wp2_with fail
  go_loopw [6, 7, 8] (fun v i _ wr => ∃ (k : Nat) (us : List Value), k ≤ M.length ∧ i = .int .i64 k ∧ FreshR w.heap.size wr v ((List.range k).map fun a => (List.range M.length).map (addG M x a)) us ∧ Below w.heap.size w wr) (fun _ i _ _ => M.length - (intOf i).toNat)
  case atStart => exact ⟨0, [], Nat.zero_le _, rfl, HF0.out, hB0⟩
  case round =>
    obtain ⟨k, us, hk, rfl, hF, hB⟩ := hrel
    by_cases hlt : k < M.length
    · obtain ⟨u, c3, hIr⟩ := HCE.out k hlt
      have c3' := (hB.cell (p := ⟨b, off + k, none⟩) hblt).trans c3
      have hrk := HRL.out k hlt
      have hnek := HNE.out k hlt
      have hIw := hIr.below hB
      obtain ⟨ak, ck, hsh, _⟩ := id hIr
      rw [hsh] at c3' hIw
      have hOW := l01Own_any _ _ wr hIw hnek (by rw [hrk]; omega)
      rw [row_ent hrk, row_length] at hOW
      rw [hrk] at c3'
      have HOWN := Lib.hid hOW
      have HF := Lib.hid hF
      have HB := Lib.hid hB
      have hzr := hB.size
      obtain ⟨hb1, hb2'⟩ := HFE.out k k hlt hlt
      clear hF hB hIw hOW hnek hrk hsh hIr c3
      go_wp2_with fail
      refine HOWN.out.mono ?_; rintro e w3 ⟨u2, rfl, hfu, hb3⟩
      obtain ⟨gu, cu, hu2, hgu1, hgu2, hguo⟩ := id hfu
      rw [row_length] at hu2
      subst hu2
      have d1 : w3.cell? ⟨gu, k, none⟩ = some (.int .i64 (ent M k k)) := by rw [own_cellN hguo (row_length _ _).symm hlt, row_getD _ _ _ hlt]
      have d2 := own_frozenN hguo (row_length _ _).symm k
      have hst := hfu.set3 k (ent M k k + x)
      rw [addRow_set _ _ _ _ hlt] at hst
      have hbs := hb3.setCell (p := ⟨gu, k, none⟩) hgu1 (.int .i64 (ent M k k + x))
      have hFs := HF.out.below hbs
      have how : (w3.setCell ⟨gu, k, none⟩ (.int .i64 (ent M k k + x))).ownsRow 0 23 1 u6 k us := by
        have := hFs.own.top
        rwa [show ((List.range k).map fun a => (List.range M.length).map (addG M x a)).length = k by simp] at this
      have HST := Lib.hid hst
      have HBS := Lib.hid hbs
      have HOW := Lib.hid how
      have hz3 := hb3.size
      clear hst hbs hFs how hfu hguo hb3 hgu1
      generalize ent M k k = y at *
      go_wp2_with (at_builtin; refine wpList_append_lies _ rfl _ _ 22 rfl 0 23 i0 (.slice none 0 0) 1 24 Try.underlying22 hi hzz0 hzz1 hzz2 rfl (by decide) u6 k us rfl ((HOW.out).alloc _) _ 1 _ [.slice (some ⟨gu, 0, none⟩) M.length cu] rfl rfl (cell_one_at3 (by simp)) (by simp [Value.oneCell']) (by decide) (by unfold maxLen; omega) (by omega) (Nat.zero_le _) _ rfl ?_; intro g cap w4 hown hgrow hat hgl)
      obtain ⟨W3, hW3⟩ : ∃ W3, W3 = w3.setCell ⟨gu, k, none⟩ (.int .i64 (y + x)) := ⟨_, rfl⟩
      have HST' := HST.out
      have HBS' := HBS.out
      rw [← hW3] at HST' HBS' hgrow hat
      have hzW : wr.heap.size ≤ W3.heap.size := HBS'.size
      have hall : Below W3.heap.size W3 (W3.alloc (.cells #[.slice (some ⟨gu, 0, none⟩) M.length cu] 23)) := (Below.refl _ _).alloc (Nat.le_refl _) _
      have hpu := HF.out.push hzr (HST'.below hall) (HBS'.trans (hall.mono hzW)) (by simpa using hown) hgrow hat hgl
      have hgr : Below w.heap.size w w4 := by
        obtain ⟨gv, cv, hv, hv1, hv2⟩ := HF.out.top
        exact ((HB.out.trans (HBS'.mono hzr)).alloc (by omega) _).grown hgrow (by simp; omega) (fun b hb' => by rw [hv] at hb'; simp [Value.ownBlock] at hb'; omega)
      rw [← tab_snoc, show ((List.range k).map fun a => (List.range M.length).map (addG M x a)).length + 1 = k + 1 by simp] at hpu
      have HPU := Lib.hid hpu
      have HGR := Lib.hid hgr
      clear hpu hgr hown hgrow hat hgl hall HST' HBS' hW3
      go_wp2_with fail
      go_roundw
      case rel => exact ⟨k + 1, _, by omega, by go_num, HPU.out, HGR.out⟩
      case measure => simp [intOf]; omega
    · obtain rfl : k = M.length := by omega
      obtain ⟨gv, cv, hv, hv1, hv2⟩ := id hF.top
      rw [show ((List.range M.length).map fun a => (List.range M.length).map (addG M x a)).length = M.length by simp] at hv
      subst hv
      have hF' : FreshR w.heap.size wr (.slice (some ⟨gv, 0, none⟩) M.length cv) (tab M.length (addG M x)) us := hF
      have HF := Lib.hid hF'
      have hrows : PM.Rows wr (.slice (some ⟨gv, 0, none⟩) M.length cv) (tab M.length (addG M x)) := hF'.own.rows' (tab_I64 (B := 40) (by decide) HAB.out)
      have HR := Lib.hid (l01Matrix_any _ _ _ hrows)
      clear hF hF' hrows
      cases h3 : matB (tab M.length (addG M x))
      · have H3 := Lib.hid h3
        have HEE := Lib.hid (HE.out h3)
        clear h3
        go_wp2_with fail
        refine HR.out.mono ?_; rw [H3.out]; rintro e w3 ⟨rfl, rfl⟩
        go_wp2_with fail
        go_ret2
        rw [HEE.out]
        exact outR_err3 _ _ _ hB
      · have H3 := Lib.hid h3
        have HOO := Lib.hid (HO.out h3)
        clear h3
        go_wp2_with fail
        refine HR.out.mono ?_; rw [H3.out]; rintro e w3 ⟨rfl, rfl⟩
        go_wp2_with fail
        go_ret2
        rw [HOO.out]
        exact ⟨_, us, rfl, HF.out.ownRs, hB⟩
set_option maxHeartbeats 4000000 in
theorem law_FnExactAddMatrices (m : Value) (M : List (List Int)) (x : Int) (w : World) (h1 : PM.Rows w m M) :
    Calls Try.prog 14 #[m, .int .i64 x] w fun e w' => e = .returned (.bool true) ∧ Below w.heap.size w w' := by
  have g1 := fun (w' : World) (h : Below w.heap.size w w') => h1.below h
  have I1 := Lib.hid (rows_I64 h1)
  obtain ⟨a1, c1, rfl, _⟩ := h1
  by_cases hz : szR M 1048576 < 0
  · have e1 := szR_neg hz
    have E1 := Lib.hid e1
    clear hz e1
    go_enter Try.func14, Try.ntmps14
    go_wp2_with fail
    refine (szInt64SS_any _ M _ _ (g1 _ (by (repeat' (first | (with_reducible exact Below.refl _ _) | (with_reducible assumption) | (with_reducible refine Below.alloc ?_ ?_ _) | (with_reducible refine Below.drew ?_) | (with_reducible refine below_drewN ?_ _) | (with_reducible refine Below.setCell ?_ ?_ _) | (with_reducible refine Below.trans ?_ (Below.mono (by with_reducible assumption) ?_)) | (with_reducible exact Below.size (by with_reducible assumption)) | go_size)))) (by omega) (by omega)).mono ?_; rw [E1.out]; rintro e w1 ⟨rfl, rfl⟩
    go_wp2_with fail
    go_ret
    exact ⟨rfl, by (repeat' (first | (with_reducible exact Below.refl _ _) | (with_reducible assumption) | (with_reducible refine Below.alloc ?_ ?_ _) | (with_reducible refine Below.drew ?_) | (with_reducible refine below_drewN ?_ _) | (with_reducible refine Below.setCell ?_ ?_ _) | (with_reducible refine Below.trans ?_ (Below.mono (by with_reducible assumption) ?_)) | (with_reducible exact Below.size (by with_reducible assumption)) | go_size))⟩
  have hle := szR_le M
  have HN1 := Lib.hid (szR_fits hz)
  have hspec := fun (m : Value) (w : World) (h1 : PM.Rows w m M) => specAddMatrices_any m M x w h1
  have himpl := fun (m : Value) (w : World) (h1 : PM.Rows w m M) => implAddMatrices_any m M x w h1
  have hfine := fine_add M x
  generalize addOut M x = o at *
  obtain ⟨O, code⟩ := o
  have HS := Lib.hid hspec
  have HI := Lib.hid himpl
  have HF : Hid (FineR O) := Lib.hid hfine
  clear hfine
  clear hspec himpl
  go_enter Try.func14, Try.ntmps14
  go_wp2_with fail
  refine (szInt64SS_any _ M _ _ (g1 _ (by (repeat' (first | (with_reducible exact Below.refl _ _) | (with_reducible assumption) | (with_reducible refine Below.alloc ?_ ?_ _) | (with_reducible refine Below.drew ?_) | (with_reducible refine below_drewN ?_ _) | (with_reducible refine Below.setCell ?_ ?_ _) | (with_reducible refine Below.trans ?_ (Below.mono (by with_reducible assumption) ?_)) | (with_reducible exact Below.size (by with_reducible assumption)) | go_size)))) (by omega) (by omega)).mono ?_; rintro e w1 ⟨rfl, rfl⟩
  generalize szR M 1048576 = left at *
  go_wp2_with fail
  refine (toRows_out _ M _ (g1 _ (by (repeat' (first | (with_reducible exact Below.refl _ _) | (with_reducible assumption) | (with_reducible refine Below.alloc ?_ ?_ _) | (with_reducible refine Below.drew ?_) | (with_reducible refine below_drewN ?_ _) | (with_reducible refine Below.setCell ?_ ?_ _) | (with_reducible refine Below.trans ?_ (Below.mono (by with_reducible assumption) ?_)) | (with_reducible exact Below.size (by with_reducible assumption)) | go_size)))) HN1.out).mono ?_; rintro e w2 ⟨gA, rfl, hr2, hb2⟩
  have R2 := Lib.hid (hr2.rows I1.out)
  clear hr2

  go_wp2_with fail
  refine (HS.out _ _ R2.out).mono ?_; rintro e w3 ho3; obtain ⟨a3, c3, rfl, hr3, hb3⟩ := ho3.out; clear ho3; dsimp only at hr3; dsimp only
  have HR3 := Lib.hid hr3
  have hw3 : Below w.heap.size w w3 := hb2.trans (hb3.mono hb2.size)
  have hz3 := hb3.size
  clear R2 HS hr3
  go_wp2_with fail
  refine (toRows_out _ M _ (g1 _ hw3) HN1.out).mono ?_; rintro e w4 ⟨gC, rfl, hr4, hb4⟩
  have R4 := Lib.hid (hr4.rows I1.out)
  have HR4 := Lib.hid hr4
  have hw4 : Below w.heap.size w w4 := hw3.trans (hb4.mono hw3.size)
  have hz4 := hb4.size
  have hw4z := hw4.size
  clear hr4
  go_wp2_with fail
  refine (HI.out _ _ R4.out).mono ?_; rintro e w5 ho5; obtain ⟨a5, c5, rfl, hr5, hb5⟩ := ho5.out; clear ho5; dsimp only at hr5; dsimp only
  have hw5 : Below w.heap.size w w5 := hw4.trans (hb5.mono hw4.size)
  have hz5 := hb5.size
  have HA5 := Lib.hid ((HR3.out.below hb4 (Nat.le_refl _)).below hb5 hz4)
  have HX5 := Lib.hid (HR4.out.below hb5 (Nat.le_refl _))
  have HG5 := Lib.hid hr5
  have hs3 : w.heap.size ≤ w3.heap.size := hw3.size
  obtain ⟨S2, hS2⟩ : ∃ S, S = w2.heap.size := ⟨_, rfl⟩
  obtain ⟨S3, hS3⟩ : ∃ S, S = w3.heap.size := ⟨_, rfl⟩
  obtain ⟨S4, hS4⟩ : ∃ S, S = w4.heap.size := ⟨_, rfl⟩
  obtain ⟨S5, hS5⟩ : ∃ S, S = w5.heap.size := ⟨_, rfl⟩
  rw [← hS3] at hz3 hz4 HA5 HX5 hs3
  rw [← hS4] at hz4 hz5 HX5 HG5 hw4z
  rw [← hS2] at hz3 HA5
  rw [← hS5] at hz5 HG5
  have hSz5 : S5 ≤ w5.heap.size := by omega
  clear hS2 hS3 hS4 hS5 HR3 HR4 R4 hr5 hb2 hb3 hb4 hb5 hw3 hw4
  go_wp2_with fail
  refine (eqR_ans HG5.out HA5.out HF.out).mono ?_; rintro e w6 ⟨rfl, hb6⟩
  have hz6 := hb6.size
  have HA6 := Lib.hid (HA5.out.below hb6 (by omega))
  have HX6 := Lib.hid (HX5.out.below hb6 (by omega))
  have HG6 := Lib.hid (HG5.out.below hb6 (by omega))
  have hw6 : Below w.heap.size w w6 := hw5.trans (hb6.mono hw5.size)
  have hSz6 : S5 ≤ w6.heap.size := by omega
  clear HA5 HX5 HG5 hb6 hw5 hSz5 hz6
  have FM : Hid (FineR M) := Lib.hid (fineR_arg I1.out HN1.out)
  go_wp2_with fail
  refine (toRows_out _ M _ (g1 _ hw6) HN1.out).mono ?_; rintro e w7 ⟨gE, rfl, hr7, hb7⟩
  have hz7 := hb7.size
  have HR7 := Lib.hid hr7
  have HA7 := Lib.hid (HA6.out.below hb7 (by omega))
  have HX7 := Lib.hid (HX6.out.below hb7 (by omega))
  have HG7 := Lib.hid (HG6.out.below hb7 (by omega))
  have hw7 : Below w.heap.size w w7 := hw6.trans (hb7.mono hw6.size)
  have hSz7 : S5 ≤ w7.heap.size := by omega
  clear HA6 HX6 HG6 hb7 hw6 hr7 hSz6 hz7
  go_wp2_with fail
  refine (eqR_ans HX7.out HR7.out FM.out).mono ?_; rintro e w8 ⟨rfl, hb8⟩
  have hz8 := hb8.size
  have HA8 := Lib.hid (HA7.out.below hb8 (by omega))
  have HX8 := Lib.hid (HX7.out.below hb8 (by omega))
  have HG8 := Lib.hid (HG7.out.below hb8 (by omega))
  have hw8 : Below w.heap.size w w8 := hw7.trans (hb8.mono hw7.size)
  have hSz8 : S5 ≤ w8.heap.size := by omega
  clear HA7 HX7 HG7 HR7 hb8 hw7 hSz7 hz8
  have hslM := sizeR_le FM.out
  generalize hsgM : sizeR M = szM at hslM
  have HSGM := Lib.hid hsgM
  clear hsgM
  go_wp2_with fail
  refine (markR_ans HX8.out FM.out).mono ?_; rw [HSGM.out]; rintro e w9 ⟨rfl, hm9, hbt9⟩
  have hz9 := hbt9.size
  have HA9 := Lib.hid (HA8.out.bet hbt9 (.inl (Nat.le_refl _)))
  have HG9 := Lib.hid (HG8.out.bet hbt9 (.inr (Nat.le_refl _)))
  have hw9 : Below w.heap.size w w9 := hw8.trans ((hbt9.below (by omega)).mono (by omega))
  have hSz9 : S5 ≤ w9.heap.size := by omega
  clear HA8 HX8 HG8 hm9 hbt9 hw8 hSz8 hz9
  go_wp2_with fail
  refine (eqR_ans HG9.out HA9.out HF.out).mono ?_; rintro e w10 ⟨rfl, hb10⟩
  have hz10 := hb10.size
  have HA10 := Lib.hid (HA9.out.below hb10 (by omega))
  have HG10 := Lib.hid (HG9.out.below hb10 (by omega))
  have hw10 : Below w.heap.size w w10 := hw9.trans (hb10.mono hw9.size)
  have hSz10 : S5 ≤ w10.heap.size := by omega
  clear HA9 HG9 hb10 hw9 hSz9 hz10
  have hsl := sizeR_le HF.out
  generalize hsg : sizeR O = sz at hsl
  have HSG := Lib.hid hsg
  clear hsg
  go_wp2_with fail
  refine (markR_ans HG10.out HF.out).mono ?_; rw [HSG.out]; rintro e w11 ⟨rfl, hm11, hbt11⟩
  have hz11 := hbt11.size
  have HA11 := Lib.hid (HA10.out.bet hbt11 (.inl hz4))
  have HM11 := Lib.hid hm11
  have hw11 : Below w.heap.size w w11 := hw10.trans ((hbt11.below (by omega)).mono (by omega))
  have hSz11 : S5 ≤ w11.heap.size := by omega
  clear HA10 HG10 hm11 hbt11 hw10 hSz10 hz11
  go_wp2_with fail
  refine (heldR_ans HM11.out HF.out).mono ?_; rw [HSG.out]; rintro e w12 ⟨rfl, hb12⟩
  have hz12 := hb12.size
  have HM12 := Lib.hid (HM11.out.below hb12 (by omega))
  have HA12 := Lib.hid (HA11.out.below hb12 (by omega))
  have hw12 : Below w.heap.size w w12 := hw11.trans (hb12.mono hw11.size)
  have hSz12 : S5 ≤ w12.heap.size := by omega
  clear HA11 HM11 hb12 hw11 hSz11 hz12
  go_wp2_with fail
  refine (toRows_out _ M _ (g1 _ hw12) HN1.out).mono ?_; rintro e w13 ⟨gF, rfl, hr13, hb13⟩
  have hz13 := hb13.size
  have R13 := Lib.hid (hr13.rows I1.out)
  have HM13 := Lib.hid (HM12.out.below hb13 (by omega))
  have HA13 := Lib.hid (HA12.out.below hb13 (by omega))
  have hw13 : Below w.heap.size w w13 := hw12.trans (hb13.mono hw12.size)
  have hSz13 : S5 ≤ w13.heap.size := by omega
  clear HA12 HM12 hb13 hw12 hSz12 hz13 hr13
  go_wp2_with fail
  refine (HI.out _ _ R13.out).mono ?_; rintro e w14 ho14; obtain ⟨a14, c14, rfl, hr14, hb14⟩ := ho14.out; clear ho14; dsimp only at hr14; dsimp only
  have hz14 := hb14.size
  have HM14 := Lib.hid (HM13.out.below hb14 (by omega))
  have HA14 := Lib.hid (HA13.out.below hb14 (by omega))
  have HH14 := Lib.hid hr14
  have hw14 : Below w.heap.size w w14 := hw13.trans (hb14.mono hw13.size)
  have hSz14 : S5 ≤ w14.heap.size := by omega
  clear HA13 HM13 hb14 hw13 hSz13 hz14 hr14 R13
  go_wp2_with fail
  refine (eqR_ans HH14.out HA14.out HF.out).mono ?_; rintro e w15 ⟨rfl, hb15⟩
  have HM15 := Lib.hid (HM14.out.below hb15 (by omega))
  have hw15 : Below w.heap.size w w15 := hw14.trans (hb15.mono hw14.size)
  clear HA14 HM14 HH14 hb15 hw14
  go_wp2_with fail
  refine (heldR_ans HM15.out HF.out).mono ?_; rw [HSG.out]; rintro e w16 ⟨rfl, hb16⟩
  have hw16 : Below w.heap.size w w16 := hw15.trans (hb16.mono hw15.size)
  go_wp2_with fail
  go_ret
  exact ⟨rfl, hw16⟩
end Go.Proofs.Ytillndnamechdaa.PW
