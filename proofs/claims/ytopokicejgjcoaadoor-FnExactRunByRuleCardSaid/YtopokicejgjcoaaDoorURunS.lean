/-
  Walks: a run by a rule, in the model.
-/
import Derived.Test.YtopokicejgjcoaaDoorUSpec
namespace Go.Proofs.YtopokicejgjcoaaDoor.PW
open Go.RowKit Go.Proofs.YtopokicejgjcoaaDoor
open Go.Proofs.YtopokicejgjcoaaDoor.PM Go.Proofs.YtopokicejgjcoaaDoor.PX

theorem uinfo_bool : (Tryd.prog.info? 4).map (fun i => (i.zero, i.size, i.bytes)) = some (some (.bool false), 1, 1) := by kernel_rfl
/-- What lies in memory while the model's run goes on: the problem's box, which sets are marked, the list. -/
structure SpW (w wr : World) (m q v : Value) (T : Nat) (S R : List Int) : Prop where
  below : Below w.heap.size w wr
  b0 : wr.cell? ⟨w.heap.size, 0, none⟩ = some m
  b1 : wr.cell? ⟨w.heap.size, 1, none⟩ = some q
  row : wr.rowIs (w.heap.size + 1) 4 T (fun j => .bool (decide ((j : Int) ∈ R)))
  own : FreshI (w.heap.size + 1 + 1) wr v S
  big : w.heap.size + 1 + 1 < wr.heap.size
theorem rowIs_below {w w' : World} {b : Nat} {t : TypeId} {n B : Nat} {f : Nat → Value} (h : w.rowIs b t n f) (hb : Below B w w') (hB : b < B) : w'.rowIs b t n f := by
  obtain ⟨c, h1, h2⟩ := h
  exact ⟨c, (hb.block b hB).trans h1, h2⟩
theorem SpW.keep {w wr w' : World} {m q v : Value} {T : Nat} {S R : List Int} (h : SpW w wr m q v T S R) (hb : Below wr.heap.size wr w') : SpW w w' m q v T S R := by
  have hz := h.big
  obtain ⟨hc, _⟩ := FW.bcell hb
  exact ⟨h.below.trans (hb.mono h.below.size), (hc _ _ (by omega)).trans h.b0, (hc _ _ (by omega)).trans h.b1, rowIs_below h.row hb (by omega), h.own.below hb, Nat.lt_of_lt_of_le hz hb.size⟩
theorem SpW.push {w wr w4 : World} {m q v : Value} {T : Nat} {S R : List Int} {x : Int} {C g cap n : Nat} {t : TypeId} (h : SpW w wr m q v T S R) (hn : n = S.length)
    (hown : w4.ownsRow C 2 1 (.slice (some ⟨g, 0, none⟩) (n + 1) cap) (n + 1) (S.map (Value.int .i64) ++ [.int .i64 x])) (hgrow : (wr.alloc (.cells #[.int .i64 x] t)).grownBy w4 v.ownBlock)
    (hat : v.ownBlock = some g ∨ g = (wr.alloc (.cells #[.int .i64 x] t)).heap.size) (hlt : g < w4.heap.size) : SpW w w4 m q (.slice (some ⟨g, 0, none⟩) (n + 1) cap) T (S ++ [x]) R := by
  have hz := h.big
  have hb : Below (w.heap.size + 1 + 1) wr w4 := h.own.grow (Below.refl _ _) (by omega) hgrow
  have hp := h.own.push (by omega) hn hown hat hlt
  have hc : ∀ b o, b < w.heap.size + 1 + 1 → w4.cell? ⟨b, o, none⟩ = wr.cell? ⟨b, o, none⟩ := fun b o hb' => hb.cell (p := ⟨b, o, none⟩) hb'
  exact ⟨h.below.trans (hb.mono (by omega)), (hc _ _ (by omega)).trans h.b0, (hc _ _ (by omega)).trans h.b1, rowIs_below h.row hb (by omega), hp, Nat.lt_of_lt_of_le hz hb.size⟩
theorem SpW.mark {w wr : World} {m q v : Value} {T j : Nat} {S R : List Int} (h : SpW w wr m q v T S R) : SpW w (wr.setCell ⟨w.heap.size + 1, j, none⟩ (.bool true)) m q v T S (R ++ [(j : Int)]) := by
  have h0 := h.b0; have h1 := h.b1
  refine ⟨h.below.setCell (by simp) _, ?_, ?_, ?_, ?_, by simpa using h.big⟩
  · simp [h0, go_sem]
  · simp [h1, go_sem]
  · refine (h.row.set j _).congr (fun i hi => ?_)
    by_cases e : i = j
    · subst e; simp
    · have : ¬ (i : Int) = (j : Int) := by omega
      rw [if_neg e]
      simp [this]
  · obtain ⟨g, cap, hv, h2, h3, ho⟩ := h.own
    refine ⟨g, cap, hv, h2, by simpa using h3, ?_⟩
    refine ⟨ho.1, ?_⟩
    rcases ho.2 with h4 | ⟨g', cap', cur, hv', hb, hg, r⟩
    · exact .inl h4
    · refine .inr ⟨g', cap', cur, hv', hb, ?_, r⟩
      have : g' = g := by rw [hv] at hv'; simp at hv'; exact hv'.1.symm
      rw [← hg]
      exact Below.heap_setCell _ _ _ _ (by show g' ≠ w.heap.size + 1; omega)

def lenW : Value → Nat | .slice _ n _ => n | _ => 0
theorem ubox_size (w : World) (o : Obj) : (w.alloc o).heap.size = w.heap.size + 1 := by simp
set_option maxRecDepth 100000 in
set_option maxHeartbeats 4000000 in
theorem l08Run_any (m q : Value) (M : List (List Int)) (Q : List Int) (s r : Int) (w : World) (h1 : PM.Rows w m M) (h2 : Ints w q Q) (hp : isPB M Q = true) (hs0 : 0 ≤ s) (hs1 : s < 2 ^ M.length) (hr0 : 0 ≤ r) (hr1 : r ≤ 3) :
    Calls Tryd.prog 83 #[.agg #[m, q], .int .i64 s, .int .i64 r] w fun e w' => ∃ v, e = .returned (.tuple #[v, .int .i64 (runO M Q r 33 [] s).2]) ∧ FreshI w.heap.size w' v (runO M Q r 33 [] s).1 ∧ Below w.heap.size w w' := by
  have g1 := fun (w' : World) (h : Below w.heap.size w w') => h1.below h
  have g2 := fun (w' : World) (h : Below w.heap.size w w') => h2.below h
  obtain ⟨a1, c1, rfl, _⟩ := h1
  obtain ⟨a2, c2, rfl, _⟩ := h2
  have f1 := (isPB_facts hp).1
  have f2 := (isPB_facts hp).2.1
  have f3 := (isPB_facts hp).2.2.1
  have HP := Lib.hid hp
  have HMF := Lib.hid (Met.first hs0 hs1)
  have HF1 := Lib.hid (And.intro f1 f2)
  obtain ⟨T, hT⟩ : ∃ T : Nat, T = 2 ^ M.length := ⟨_, rfl⟩
  have hT5 : T ≤ 32 := by rw [hT]; exact pow_le_32 f2
  have hT0 : 1 ≤ T := by rw [hT]; exact Nat.one_le_two_pow
  have hTp : (T : Int) = 2 ^ M.length := by rw [hT]; norm_cast
  clear hT
  have hmk := run_make_row' (P := Tryd.prog) 108 4 (.bool false) 1 Tryd.underlying108 uinfo_bool rfl .i64 .i64 T (by omega) (by omega)
  obtain ⟨j0, hj, hyy0, hyy1, hyy2⟩ := info_parts info_int
  have hwr : wrap64 ((2 : Int) ^ M.length) = (T : Int) := by rw [← hTp]; unfold wrap64; omega
  have HTP := Lib.hid hTp
  rw [f3] at g2 ⊢
  clear hp hs0 hs1 hTp f1 f3
  have HML : Hid (∃ n, n = M.length) := ⟨_, rfl⟩
  obtain ⟨N, hN⟩ := HML.out
  rw [← hN] at g1 g2 hwr f2 HMF HTP HF1 ⊢
  have HN := Lib.hid hN
  clear hN HML
  go_enter Tryd.func83, Tryd.ntmps83
  go_wp2_with fail
  clear hwr hmk
  go_loopw [1, 9, 10, 11, 12] (fun sv v _ _ _ wr => ∃ (k : Nat) (S : List Int) (t : Nat), sv = .int .i64 t ∧ Met N S t k ∧ runO M Q r k S t = runO M Q r 33 [] s ∧ SpW w wr (.slice a1 N c1) (.slice a2 N c2) v T S S) (fun _ v _ _ _ _ => 33 - lenW v)
  case atStart =>
    obtain ⟨t, ht⟩ := Int.eq_ofNat_of_zero_le HMF.out.lo
    refine ⟨33, [], t, by rw [ht], by rw [← ht]; exact HMF.out, by rw [← ht], ?_⟩
    refine ⟨by (repeat' (first | (with_reducible exact Below.refl _ _) | (with_reducible assumption) | (with_reducible refine Below.alloc ?_ ?_ _) | (with_reducible refine Below.drew ?_) | (with_reducible refine below_drewN ?_ _) | (with_reducible refine Below.setCell ?_ ?_ _) | (with_reducible refine Below.trans ?_ (Below.mono (by with_reducible assumption) ?_)) | (with_reducible exact Below.size (by with_reducible assumption)) | go_size)), ?_, ?_, ?_, ?_, by simp⟩
    · simp [go_sem]
    · simp [go_sem]
    · have h := (World.rowIs_made (w.alloc (.cells #[.slice a1 N c1, .slice a2 N c2] 29)) (.bool false) T 4)
      rw [ubox_size] at h
      exact rowIs_below (B := w.heap.size + 1 + 1) (h.congr (fun i _ => by simp)) ((Below.refl _ _).alloc (by simp) _) (by omega)
    · have h := freshI_nil ((w.alloc (.cells #[.slice a1 N c1, .slice a2 N c2] 29)).alloc (.cells (madeCells #[.bool false] T) 4))
      rw [ubox_size, ubox_size] at h
      exact h
  case round =>
    obtain ⟨k, S, t, rfl, hM, hrun, hR⟩ := hrel
    obtain ⟨j, rfl, hL5⟩ := hM.pos f2
    obtain ⟨gv, cv, rfl, _, _, _⟩ := id hR.own
    have HRUN := Lib.hid hrun
    have HM := Lib.hid hM
    have HRW := Lib.hid hR
    have HOW := Lib.hid hR.own.owns
    have b0 := hR.b0
    have b1 := hR.b1
    have hbg := hR.big
    obtain ⟨L, hL⟩ : ∃ L, L = S.length := ⟨_, rfl⟩
    rw [← hL] at HRW HOW hL5
    have HL := Lib.hid hL
    have htT : t < T := by have := hM.hi; rw [← HTP.out] at this; omega
    have HG := Lib.hid (fun (w' : World) (hb : Below w.heap.size w w') => And.intro (g1 _ hb) (g2 _ hb))
    rw [← hL]
    clear hR hM hrun hL
    by_cases hD : dt M.length (colS M t) = 0
    · have HPZ := Lib.hid (fun (w' : World) (hb : Below w.heap.size w w') => l08Step_zero _ _ M Q t r w' (HG.out _ hb).1 (HG.out _ hb).2 HP.out hD)
      have HO := Lib.hid (runO_stuck (M := M) (Q := Q) (r := r) (k := j) (S := S) hD)
      clear hD
      go_wp2_with (at_builtin; refine wpList_append_lies _ rfl _ _ 23 rfl 0 2 j0 (.int .i64 0) 1 8 Tryd.underlying23 hj hyy0 hyy1 hyy2 rfl (by decide) (.slice (some ⟨gv, 0, none⟩) L cv) L _ rfl ((HOW.out).alloc _) _ 1 _ [.int .i64 t] rfl rfl (cell_one_new _ _ _) (by simp [Value.oneCell']) (by decide) (by unfold maxLen; omega) (by omega) (Nat.zero_le _) _ rfl ?_; intro g cap w3 hown hgrow hat hgl; have hput := HRW.out.push HL.out hown hgrow hat hgl; have HP3 := Lib.hid hput; have b0 := hput.b0; have b1 := hput.b1; clear hput hown hgrow hat hgl)
      refine (HPZ.out _ HP3.out.below).mono ?_; rintro e w5 ⟨rfl, hb5⟩
      have HR5 := Lib.hid (HP3.out.keep hb5)
      go_wp2_with fail
      go_ret2
      rw [← HRUN.out, HO.out]
      exact ⟨_, rfl, HR5.out.own.mono (by omega), HR5.out.below⟩
    by_cases hm : (t : Int) ∈ S
    · have HO := Lib.hid (runO_again (M := M) (Q := Q) (r := r) (k := j) (S := S) hD hm)
      have HMEM := Lib.hid (show decide ((t : Int) ∈ S) = true from decide_eq_true hm)
      have HPK : Hid (∃ (go : Bool) (S' : Int), ∀ (w' : World), Below w.heap.size w w' → Calls Tryd.prog 78 #[.agg #[.slice a1 N c1, .slice a2 N c2], .int .i64 t, .int .i64 r] w' fun e w'' => e = .returned (.tuple #[.int .i64 S', .bool go, .bool true]) ∧ Below w'.heap.size w' w'') :=
        ⟨!nonneg (ptL M Q t), _, fun w' hb => l08Step_any _ _ M Q t r w' (HG.out _ hb).1 (HG.out _ hb).2 HP.out hr0 hr1 hD (!nonneg (ptL M Q t)) _ (by simp) rfl⟩
      obtain ⟨go, S', hpk⟩ := HPK.out
      have HPK := Lib.hid hpk
      clear hD hm hpk
      go_wp2_with (at_builtin; refine wpList_append_lies _ rfl _ _ 23 rfl 0 2 j0 (.int .i64 0) 1 8 Tryd.underlying23 hj hyy0 hyy1 hyy2 rfl (by decide) (.slice (some ⟨gv, 0, none⟩) L cv) L _ rfl ((HOW.out).alloc _) _ 1 _ [.int .i64 t] rfl rfl (cell_one_new _ _ _) (by simp [Value.oneCell']) (by decide) (by unfold maxLen; omega) (by omega) (Nat.zero_le _) _ rfl ?_; intro g cap w3 hown hgrow hat hgl; have hput := HRW.out.push HL.out hown hgrow hat hgl; have HP3 := Lib.hid hput; have b0 := hput.b0; have b1 := hput.b1; clear hput hown hgrow hat hgl)
      refine (HPK.out _ HP3.out.below).mono ?_; rintro e w5 ⟨rfl, hb5⟩
      have hR5 := HP3.out.keep hb5
      have hc := hR5.row.cell htT
      rw [HMEM.out] at hc
      have HR5 := Lib.hid hR5
      clear hR5
      go_wp2_with fail
      go_ret2
      rw [← HRUN.out, HO.out]
      exact ⟨_, rfl, HR5.out.own.mono (by omega), HR5.out.below⟩
    have HMEM := Lib.hid (show decide ((t : Int) ∈ S) = false from decide_eq_false hm)
    cases hn : nonneg (ptL M Q t)
    case true =>
      have HO := Lib.hid (runO_solved (M := M) (Q := Q) (r := r) (k := j) (S := S) hD hm hn)
      have HPK := Lib.hid (fun (w' : World) (hb : Below w.heap.size w w') => l08Step_any _ _ M Q t r w' (HG.out _ hb).1 (HG.out _ hb).2 HP.out hr0 hr1 hD false t (by rw [hn]; rfl) (by simp))
      clear hD hm hn
      go_wp2_with (at_builtin; refine wpList_append_lies _ rfl _ _ 23 rfl 0 2 j0 (.int .i64 0) 1 8 Tryd.underlying23 hj hyy0 hyy1 hyy2 rfl (by decide) (.slice (some ⟨gv, 0, none⟩) L cv) L _ rfl ((HOW.out).alloc _) _ 1 _ [.int .i64 t] rfl rfl (cell_one_new _ _ _) (by simp [Value.oneCell']) (by decide) (by unfold maxLen; omega) (by omega) (Nat.zero_le _) _ rfl ?_; intro g cap w3 hown hgrow hat hgl; have hput := HRW.out.push HL.out hown hgrow hat hgl; have HP3 := Lib.hid hput; have b0 := hput.b0; have b1 := hput.b1; clear hput hown hgrow hat hgl)
      refine (HPK.out _ HP3.out.below).mono ?_; rintro e w5 ⟨rfl, hb5⟩
      have hR5 := HP3.out.keep hb5
      have hc := hR5.row.cell htT
      rw [HMEM.out] at hc
      have HR5 := Lib.hid hR5
      clear hR5
      go_wp2_with fail
      go_ret2
      rw [← HRUN.out, HO.out]
      exact ⟨_, rfl, HR5.out.own.mono (by omega), HR5.out.below⟩
    case false =>
      have HO := Lib.hid (runO_on (M := M) (Q := Q) (r := r) (k := j) (S := S) hD hm hn)
      have HPK := Lib.hid (fun (w' : World) (hb : Below w.heap.size w w') => l08Step_any _ _ M Q t r w' (HG.out _ hb).1 (HG.out _ hb).2 HP.out hr0 hr1 hD true (stpS M Q r t) (by rw [hn]; rfl) (by simp))
      have hst := stpS_in (r := r) (by rw [← HN.out]; exact HF1.out.1) (by rw [← HN.out]; exact f2) HM.out.lo (by rw [← HN.out]; exact HM.out.hi) hn
      rw [← HN.out] at hst
      have hM2 := HM.out.next hm hst.1 hst.2
      obtain ⟨t', ht'⟩ := Int.eq_ofNat_of_zero_le hst.1
      rw [ht'] at HO HPK hM2
      have HM2 := Lib.hid hM2
      clear hD hm hn hst ht' hM2
      go_wp2_with (at_builtin; refine wpList_append_lies _ rfl _ _ 23 rfl 0 2 j0 (.int .i64 0) 1 8 Tryd.underlying23 hj hyy0 hyy1 hyy2 rfl (by decide) (.slice (some ⟨gv, 0, none⟩) L cv) L _ rfl ((HOW.out).alloc _) _ 1 _ [.int .i64 t] rfl rfl (cell_one_new _ _ _) (by simp [Value.oneCell']) (by decide) (by unfold maxLen; omega) (by omega) (Nat.zero_le _) _ rfl ?_; intro g cap w3 hown hgrow hat hgl; have hput := HRW.out.push HL.out hown hgrow hat hgl; have HP3 := Lib.hid hput; have b0 := hput.b0; have b1 := hput.b1; clear hput hown hgrow hat hgl)
      refine (HPK.out _ HP3.out.below).mono ?_; rintro e w5 ⟨rfl, hb5⟩
      have hR5 := HP3.out.keep hb5
      have hc := hR5.row.cell htT
      have hfz := hR5.row.frozen t
      rw [HMEM.out] at hc
      have HR5 := Lib.hid (hR5.mark (j := t))
      clear hR5
      go_wp2_with fail
      go_roundw
      case rel =>
        refine ⟨j, S ++ [(t : Int)], t', by go_num, HM2.out, ?_, HR5.out⟩
        rw [← HRUN.out, HO.out]
      case measure => simp [lenW]; omega
end Go.Proofs.YtopokicejgjcoaaDoor.PW
